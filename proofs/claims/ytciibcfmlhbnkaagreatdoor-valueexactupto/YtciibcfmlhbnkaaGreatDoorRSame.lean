/- The reference's Same and EqVals: what they tell. -/
import Derived.Test.YtciibcfmlhbnkaaGreatDoorOrdSame
import Derived.Test.YtciibcfmlhbnkaaGreatDoorFresh
import Derived.Deep.RegionHeld3
namespace Go.Proofs.YtciibcfmlhbnkaaGreatDoor
open Go.RowKit

def RSameAt (n : Nat) : Prop := ∀ (a b : Tr) (sa sb : Value) (w : World), Vs w n a sa → Vs w n b sb →
    Calls Tryz.prog 16 #[vv a sa, vv b sb] w fun e w' => e = .returned (.bool (same n a b)) ∧ Below w.heap.size w w'

set_option maxHeartbeats 1000000 in
theorem eqVals_any (n : Nat) (ih : RSameAt n) (us vs : List Tr) (sa sb : Value) (w : World) (ha : Lv w (Vs w n) us sa) (hb : Lv w (Vs w n) vs sb) :
    Calls Tryz.prog 24 #[sa, sb] w fun e w' => e = .returned (.bool (sameL (same n) us vs)) ∧ Below w.heap.size w w' := by
  obtain ⟨a0, ca, rfl, la1, ma, ea⟩ := ha
  obtain ⟨b0, cb, rfl, lb1, mb, eb⟩ := hb
  unfold maxLen at ma mb
  have ea' := Hid.intro ea
  have eb' := Hid.intro eb
  clear ea eb
  by_cases hlen : us.length = vs.length
  rotate_left
  · have hlen' : ((us.length : Int) != (vs.length : Int)) = true := by simp; omega
    have HL := Hid.intro (sameL_length (same n) us vs hlen)
    clear hlen
    go_enter Tryz.func24, Tryz.ntmps24
    go_wp2
    go_ret
    exact ⟨by rw [HL.out]; rfl, Below.refl _ _⟩
  have HS : Hid (sameL (same n) us vs = sameL (same n) (us.drop 0) (vs.drop 0)) := rfl
  generalize sameL (same n) us vs = res at *
  have hlen' : ((us.length : Int) != (vs.length : Int)) = false := by simp; omega
  have HN := Hid.intro hlen
  clear hlen
  go_enter Tryz.func24, Tryz.ntmps24
  go_wp2
  go_loopw [5] (fun i w' => ∃ k : Nat, k ≤ us.length ∧ i = .int .i64 k ∧ Hid (res = sameL (same n) (us.drop k) (vs.drop k)) ∧ Hid (Below w.heap.size w w')) (fun i _ => us.length - (intOf i).toNat)
  case atStart => exact ⟨0, by omega, rfl, HS, Below.refl _ _⟩
  case round =>
    obtain ⟨k, hk1, rfl, hk3, hbw⟩ := hrel
    by_cases hx : k < us.length
    · have hy : k < vs.length := by have := HN.out; omega
      obtain ⟨b1, o1, rfl, e1⟩ := ea'.out (by omega)
      obtain ⟨b2, o2, rfl, e2⟩ := eb'.out (by omega)
      obtain ⟨s1, c1, v1⟩ := e1 k hx
      obtain ⟨s2, c2, v2⟩ := e2 k hy
      clear e1 e2 ea' eb'
      obtain ⟨x1, n1, rfl, -, -⟩ := v1.form
      obtain ⟨x2, n2, rfl, -, -⟩ := v2.form
      have v1' := Vs.below hbw.out _ _ _ v1
      have v2' := Vs.below hbw.out _ _ _ v2
      obtain ⟨p1, p2, p3, p4, p5⟩ := c1.below hbw.out
      obtain ⟨q1, q2, q3, q4, q5⟩ := c2.below hbw.out
      have hst := sameL_step (same n) us vs k hx hy
      clear c1 c2 v1 v2
      have hl1 : b1 < wr.heap.size := cell_lt p1
      have hl2 : b2 < wr.heap.size := cell_lt q1
      generalize us[k] = tx at *
      generalize vs[k] = ty at *
      have ib : (0 : Int) ≤ (k : Int) := by omega
      have ix : (k : Int) < (us.length : Int) := by omega
      have iy : (k : Int) < (vs.length : Int) := by omega
      have HC := Hid.intro (fun w' hb => ih tx ty (.slice x1 tx.l.length n1) (.slice x2 ty.l.length n2) w' (Vs.below (w' := w') hb _ _ _ v1') (Vs.below (w' := w') hb _ _ _ v2'))
      clear v1' v2'
      unfold vv at HC
      have HSt : Hid (sameL (same n) (us.drop k) (vs.drop k) = (same n tx ty && sameL (same n) (us.drop (k + 1)) (vs.drop (k + 1)))) := hst
      clear hst
      generalize same n tx ty = f at *
      go_wp2
      go_region_held3 (fun w' => w'.cell? ⟨b1, o1 + k * 5, none⟩ = some (.int .i64 tx.k) ∧ w'.cell? ⟨b1, o1 + k * 5 + 1, none⟩ = some (.bool tx.b) ∧ w'.cell? ⟨b1, o1 + k * 5 + 2, none⟩ = some (.int .i64 tx.i) ∧ w'.cell? ⟨b1, o1 + k * 5 + 3, none⟩ = some (.string tx.s) ∧ w'.cell? ⟨b1, o1 + k * 5 + 4, none⟩ = some (.slice x1 tx.l.length n1) ∧
        w'.cell? ⟨b2, o2 + k * 5, none⟩ = some (.int .i64 ty.k) ∧ w'.cell? ⟨b2, o2 + k * 5 + 1, none⟩ = some (.bool ty.b) ∧ w'.cell? ⟨b2, o2 + k * 5 + 2, none⟩ = some (.int .i64 ty.i) ∧ w'.cell? ⟨b2, o2 + k * 5 + 3, none⟩ = some (.string ty.s) ∧ w'.cell? ⟨b2, o2 + k * 5 + 4, none⟩ = some (.slice x2 ty.l.length n2)) (go_keep)
        ((go_at_call 16; refine (HC.out _ ((Below.refl _ _).drew)).mono ?_; rintro e w1 ⟨rfl, hb1⟩; have g1 := fun o => hb1.cell (p := ⟨b1, o, none⟩) (by simp; omega); have g2 := fun o => hb1.cell (p := ⟨b2, o, none⟩) (by simp; omega)))
      have hb2 : Hid (Below w.heap.size w w1) := hb1.via ((Below.refl _ wr).drew.via hbw.out)
      clear g1 g2 hb1
      cases f
      · go_wp2
        go_ret
        refine ⟨?_, hb2.out⟩
        rw [hk3.out, HSt.out]; rfl
      · go_wp2
        go_roundw
        case rel => exact ⟨k + 1, by omega, by go_num, by rw [hk3.out, HSt.out]; exact Bool.true_and _, hb2⟩
        case measure => simp [intOf]; omega
    · have hd := Hid.intro (show sameL (same n) (us.drop k) (vs.drop k) = true by
        have := HN.out
        rw [List.drop_eq_nil_of_le (by omega), List.drop_eq_nil_of_le (by omega)]; rfl)
      go_wp2
      go_ret
      exact ⟨by rw [hk3.out, hd.out]; rfl, hbw.out⟩

set_option maxHeartbeats 1000000 in
theorem rsame_any : ∀ n, RSameAt n := by
  intro n
  induction n with
  | zero => intro a b sa sb w ha _; exact ha.elim
  | succ n ih =>
    intro a b sa sb w ha hb
    obtain ⟨ka, ba, ia, ta, la⟩ := a
    obtain ⟨kb, bb, ib, tb, lb⟩ := b
    have HE := Hid.intro (fun w' (h : Below w.heap.size w w') => eqVals_any n ih la lb sa sb w' (ha.2.mono h (fun t v => Vs.below h n t v)) (hb.2.mono h (fun t v => Vs.below h n t v)))
    obtain ⟨a0, ca, rfl, la1, ma⟩ := ha.form
    obtain ⟨b0, cb, rfl, lb1, mb⟩ := hb.form
    clear ha hb ih
    unfold vv
    by_cases hk : ka = kb
    rotate_left
    · go_enter Tryz.func16, Tryz.ntmps16
      go_wp2
      go_ret
      exact ⟨by simp [same, hk], below2 _ _ _⟩
    subst hk
    by_cases hbb : ba = bb
    rotate_left
    · go_enter Tryz.func16, Tryz.ntmps16
      go_wp2
      go_ret
      exact ⟨by simp [same, hbb], below2 _ _ _⟩
    subst hbb
    by_cases hi : ia = ib
    rotate_left
    · go_enter Tryz.func16, Tryz.ntmps16
      go_wp2
      go_ret
      exact ⟨by simp [same, hi], below2 _ _ _⟩
    subst hi
    by_cases ht : ta.toList = tb.toList
    rotate_left
    · go_enter Tryz.func16, Tryz.ntmps16
      go_wp2
      go_ret
      exact ⟨by simp [same, ht], below2 _ _ _⟩
    have HS : Hid (same (n + 1) ⟨ka, ba, ia, ta, la⟩ ⟨ka, ba, ia, tb, lb⟩ = sameL (same n) la lb) := by
      simp [Hid, same, ht]
    generalize same (n + 1) ⟨ka, ba, ia, ta, la⟩ ⟨ka, ba, ia, tb, lb⟩ = res at *
    generalize sameL (same n) la lb = res' at *
    have hts : (ta.toList == tb.toList) = true := by simp [ht]
    go_enter Tryz.func16, Tryz.ntmps16
    go_wp2_with ((go_at_call 24; refine (HE.out _ (below2 _ _ _)).mono ?_; rintro e w1 ⟨rfl, hb1⟩))
    go_ret
    exact ⟨by rw [HS.out]; rfl, hb1.via (below2 _ _ _)⟩

theorem sameL_refl (f : Tr → Tr → Bool) : ∀ (ts : List Tr), (∀ t ∈ ts, f t t = true) → sameL f ts ts = true
  | [], _ => rfl
  | t :: ts, h => by rw [sameL, h t (by simp), sameL_refl f ts (fun x hx => h x (by simp [hx]))]; rfl

theorem same_refl : ∀ (n : Nat) (t : Tr), dep n t → same n t t = true
  | 0, _, h => h.elim
  | n + 1, t, h => by rw [same, sameL_refl (same n) t.l (fun x hx => same_refl n x (h x hx))]; simp
end Go.Proofs.YtciibcfmlhbnkaaGreatDoor
