/- value.Same: what it tells. -/
import Derived.Test.YtciibcfmlhbnkaaGreatDoorOrder
namespace Go.Proofs.YtciibcfmlhbnkaaGreatDoor
open Go.RowKit

def sameL (f : Tr → Tr → Bool) : List Tr → List Tr → Bool
  | [], [] => true
  | x :: xs, y :: ys => f x y && sameL f xs ys
  | _, _ => false

def same : Nat → Tr → Tr → Bool
  | 0, _, _ => false
  | n + 1, a, b => (a.k == b.k) && (a.b == b.b) && (a.i == b.i) && (a.s.toList == b.s.toList) && sameL (same n) a.l b.l

def SameAt (n : Nat) : Prop := ∀ (a b : Tr) (sa sb : Value) (w : World), Vs w n a sa → Vs w n b sb →
    Calls Tryz.prog 15 #[vv a sa, vv b sb] w fun e w' => e = .returned (.bool (same n a b)) ∧ Below w.heap.size w w'

theorem sameL_step (f : Tr → Tr → Bool) (xs ys : List Tr) (k : Nat) (hx : k < xs.length) (hy : k < ys.length) :
    sameL f (xs.drop k) (ys.drop k) = (f xs[k] ys[k] && sameL f (xs.drop (k + 1)) (ys.drop (k + 1))) := by
  rw [List.drop_eq_getElem_cons hx, List.drop_eq_getElem_cons hy, sameL]

theorem sameL_length (f : Tr → Tr → Bool) : ∀ (xs ys : List Tr), ¬ xs.length = ys.length → sameL f xs ys = false
  | [], [], h => absurd rfl h
  | [], _ :: _, _ => rfl
  | _ :: _, [], _ => rfl
  | x :: xs, y :: ys, h => by rw [sameL, sameL_length f xs ys (by simpa using h)]; simp

set_option maxHeartbeats 1000000 in
theorem same_any : ∀ n, SameAt n := by
  intro n
  induction n with
  | zero => intro a b sa sb w ha _; exact ha.elim
  | succ n ih =>
    intro a b sa sb w ha hb
    obtain ⟨ka, ba, ia, ta, la⟩ := a
    obtain ⟨kb, bb, ib, tb, lb⟩ := b
    obtain ⟨a0, ca, rfl, la1, ma, ea⟩ := ha.2
    obtain ⟨b0, cb, rfl, lb1, mb, eb⟩ := hb.2
    unfold maxLen at ma mb
    have ea' := Hid.intro ea
    have eb' := Hid.intro eb
    clear ea eb ha hb
    unfold vv
    by_cases hk : ka = kb
    rotate_left
    · go_enter Tryz.func15, Tryz.ntmps15
      go_wp2
      go_ret
      exact ⟨by simp [same, hk], below2 _ _ _⟩
    subst hk
    by_cases hbb : ba = bb
    rotate_left
    · go_enter Tryz.func15, Tryz.ntmps15
      go_wp2
      go_ret
      exact ⟨by simp [same, hbb], below2 _ _ _⟩
    subst hbb
    by_cases hi : ia = ib
    rotate_left
    · go_enter Tryz.func15, Tryz.ntmps15
      go_wp2
      go_ret
      exact ⟨by simp [same, hi], below2 _ _ _⟩
    subst hi
    by_cases ht : ta.toList = tb.toList
    rotate_left
    · go_enter Tryz.func15, Tryz.ntmps15
      go_wp2
      go_ret
      exact ⟨by simp [same, ht], below2 _ _ _⟩
    by_cases hlen : la.length = lb.length
    rotate_left
    · have hlen' : ((la.length : Int) != (lb.length : Int)) = true := by simp; omega
      have HL := Hid.intro (sameL_length (same n) la lb hlen)
      clear hlen
      go_enter Tryz.func15, Tryz.ntmps15
      go_wp2
      go_ret
      exact ⟨by rw [same, HL.out]; simp, below2 _ _ _⟩
    have HS : Hid (same (n + 1) ⟨ka, ba, ia, ta, la⟩ ⟨ka, ba, ia, tb, lb⟩ = sameL (same n) (la.drop 0) (lb.drop 0)) := by
      simp [Hid, same, ht]
    generalize same (n + 1) ⟨ka, ba, ia, ta, la⟩ ⟨ka, ba, ia, tb, lb⟩ = res at *
    have hlen' : ((la.length : Int) != (lb.length : Int)) = false := by simp; omega
    have HN := Hid.intro hlen
    clear hlen
    go_enter Tryz.func15, Tryz.ntmps15
    go_wp2
    go_loopw [45] (fun i w' => ∃ k : Nat, k ≤ la.length ∧ i = .int .i64 k ∧ Hid (res = sameL (same n) (la.drop k) (lb.drop k)) ∧ Hid (Below (w.heap.size + 2) ((w.alloc (.cells #[.int .i64 ka, .bool ba, .int .i64 ia, .string ta, .slice a0 la.length ca] 28)).alloc (.cells #[.int .i64 ka, .bool ba, .int .i64 ia, .string tb, .slice b0 lb.length cb] 28)) w')) (fun i _ => la.length - (intOf i).toNat)
    case atStart => exact ⟨0, by omega, rfl, HS, Below.refl _ _⟩
    case round =>
      obtain ⟨k, hk1, rfl, hk3, hbw⟩ := hrel
      have hb0 := Hid.intro ((below2 _ _ _).trans (hbw.out.mono (Nat.le_add_right _ 2)))
      by_cases hx : k < la.length
      · have hy : k < lb.length := by have := HN.out; omega
        obtain ⟨b1, o1, rfl, e1⟩ := ea'.out (by omega)
        obtain ⟨b2, o2, rfl, e2⟩ := eb'.out (by omega)
        obtain ⟨s1, c1, v1⟩ := e1 k hx
        obtain ⟨s2, c2, v2⟩ := e2 k hy
        clear e1 e2 ea' eb'
        obtain ⟨x1, n1, rfl, -, -⟩ := v1.form
        obtain ⟨x2, n2, rfl, -, -⟩ := v2.form
        have v1' := Vs.below hb0.out _ _ _ v1
        have v2' := Vs.below hb0.out _ _ _ v2
        obtain ⟨p1, p2, p3, p4, p5⟩ := c1.below hb0.out
        obtain ⟨q1, q2, q3, q4, q5⟩ := c2.below hb0.out
        have hst := sameL_step (same n) la lb k hx hy
        clear c1 c2 v1 v2
        have hl1 : b1 < wr.heap.size := cell_lt p1
        have hl2 : b2 < wr.heap.size := cell_lt q1
        have hsz := hbw.out.size
        have hz5 := hbw.out.cell (p := ⟨w.heap.size + 1, 4, none⟩) (by simp)
        simp at hsz hz5
        generalize la[k] = tx at *
        generalize lb[k] = ty at *
        have ib : (0 : Int) ≤ (k : Int) := by omega
        have ix : (k : Int) < (la.length : Int) := by omega
        have iy : (k : Int) < (lb.length : Int) := by omega
        have hl3 : w.heap.size + 1 < wr.heap.size := by omega
        have HC := Hid.intro (fun w' hb => ih tx ty (.slice x1 tx.l.length n1) (.slice x2 ty.l.length n2) w' (Vs.below (w' := w') hb _ _ _ v1') (Vs.below (w' := w') hb _ _ _ v2'))
        clear v1' v2'
        unfold vv at HC
        have HSt : Hid (sameL (same n) (la.drop k) (lb.drop k) = (same n tx ty && sameL (same n) (la.drop (k + 1)) (lb.drop (k + 1)))) := hst
        clear hst
        generalize same n tx ty = f at *
        go_wp2
        go_region_held3 (fun w' => w'.cell? ⟨wr.heap.size, 0, none⟩ = some (.int .i64 tx.k) ∧ w'.cell? ⟨wr.heap.size, 1, none⟩ = some (.bool tx.b) ∧ w'.cell? ⟨wr.heap.size, 2, none⟩ = some (.int .i64 tx.i) ∧ w'.cell? ⟨wr.heap.size, 3, none⟩ = some (.string tx.s) ∧ w'.cell? ⟨wr.heap.size, 4, none⟩ = some (.slice x1 tx.l.length n1) ∧ w'.cell? ⟨w.heap.size + 1, 4, none⟩ = some (.slice (some ⟨b2, o2, none⟩) lb.length cb) ∧
          w'.cell? ⟨b2, o2 + k * 5, none⟩ = some (.int .i64 ty.k) ∧ w'.cell? ⟨b2, o2 + k * 5 + 1, none⟩ = some (.bool ty.b) ∧ w'.cell? ⟨b2, o2 + k * 5 + 2, none⟩ = some (.int .i64 ty.i) ∧ w'.cell? ⟨b2, o2 + k * 5 + 3, none⟩ = some (.string ty.s) ∧ w'.cell? ⟨b2, o2 + k * 5 + 4, none⟩ = some (.slice x2 ty.l.length n2)) (go_keep)
          ((go_at_call 15; refine (HC.out _ ((Below.refl _ _).alloc (Nat.le_refl _) _).drew).mono ?_; rintro e w1 ⟨rfl, hb1⟩; have g1 := fun o => hb1.cell (p := ⟨wr.heap.size, o, none⟩) (by simp); have g2 := fun o => hb1.cell (p := ⟨b2, o, none⟩) (by simp; omega); have g3 := fun o => hb1.cell (p := ⟨w.heap.size + 1, o, none⟩) (by simp; omega)))
        have hb2 : Hid (Below (w.heap.size + 2) ((w.alloc (.cells #[.int .i64 ka, .bool ba, .int .i64 ia, .string ta, .slice (some ⟨b1, o1, none⟩) la.length ca] 28)).alloc (.cells #[.int .i64 ka, .bool ba, .int .i64 ia, .string tb, .slice (some ⟨b2, o2, none⟩) lb.length cb] 28)) w1) :=
          (hbw.out.trans (((Below.refl _ _).alloc (Nat.le_refl _) _).drew.mono hsz)).trans (hb1.mono (by simp; omega))
        clear g1 g2 g3 hb1
        cases f
        · go_wp2
          go_ret
          refine ⟨?_, (below2 _ _ _).trans (hb2.out.mono (Nat.le_add_right _ 2))⟩
          rw [hk3.out, HSt.out]; rfl
        · go_wp2
          go_roundw
          case rel => exact ⟨k + 1, by omega, by go_num, by rw [hk3.out, HSt.out]; exact Bool.true_and _, hb2⟩
          case measure => simp [intOf]; omega
      · have hd := Hid.intro (show sameL (same n) (la.drop k) (lb.drop k) = true by
          have := HN.out
          rw [List.drop_eq_nil_of_le (by omega), List.drop_eq_nil_of_le (by omega)]; rfl)
        go_wp2
        go_ret
        exact ⟨by rw [hk3.out, hd.out]; rfl, hb0.out⟩
end Go.Proofs.YtciibcfmlhbnkaaGreatDoor
