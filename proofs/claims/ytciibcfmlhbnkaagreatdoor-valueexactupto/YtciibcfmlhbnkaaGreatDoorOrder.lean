/- value.Order and value.orderLists: what they tell. -/
import Derived.Test.YtciibcfmlhbnkaaGreatDoorTree
import Derived.Deep.RegionHeld3
import Derived.Deep.RegionWith
import Derived.Deep.QuietTactic
import Derived.BigQuiet
namespace Go.Proofs.YtciibcfmlhbnkaaGreatDoor
open Go.RowKit

theorem Hid.intro {p : Prop} (h : p) : Hid p := h

theorem below2 (w : World) (o1 o2 : Obj) : Below w.heap.size w ((w.alloc o1).alloc o2) := ((Below.refl _ _).alloc (Nat.le_refl _) _).alloc (by simp) _

def OrderAt (n : Nat) : Prop := ∀ (a b : Tr) (sa sb : Value) (w : World), Vs w n a sa → Vs w n b sb →
    Calls Tryz.prog 17 #[vv a sa, vv b sb] w fun e w' => e = .returned (.int .i64 (ord n a b)) ∧ Below w.heap.size w w'

theorem ordL_step (f : Tr → Tr → Int) (xs ys : List Tr) (k : Nat) (hx : k < xs.length) (hy : k < ys.length) :
    ordL f (xs.drop k) (ys.drop k) = if f xs[k] ys[k] = 0 then ordL f (xs.drop (k + 1)) (ys.drop (k + 1)) else f xs[k] ys[k] := by
  rw [List.drop_eq_getElem_cons hx, List.drop_eq_getElem_cons hy, ordL]

theorem ordL_end (f : Tr → Tr → Int) (xs ys : List Tr) (k : Nat) (hx : k ≤ xs.length) (hy : k ≤ ys.length) (h : k = xs.length ∨ k = ys.length) :
    ordL f (xs.drop k) (ys.drop k) = cmpI xs.length ys.length := by
  unfold cmpI
  rcases h with rfl | rfl
  · rw [List.drop_length]
    by_cases e : xs.length = ys.length
    · rw [e, List.drop_length, if_neg (by omega), if_neg (by omega)]; rfl
    · rw [List.drop_eq_getElem_cons (by omega), if_pos (by omega)]; rfl
  · rw [List.drop_length]
    by_cases e : xs.length = ys.length
    · rw [← e, List.drop_length, if_neg (by omega), if_neg (by omega)]; rfl
    · rw [List.drop_eq_getElem_cons (by omega), if_neg (by omega), if_pos (by omega)]; rfl

set_option maxHeartbeats 400000 in
theorem orderLists_any (n : Nat) (ih : OrderAt n) (xs ys : List Tr) (sa sb : Value) (w : World) (ha : Lv w (Vs w n) xs sa) (hb : Lv w (Vs w n) ys sb) :
    Calls Tryz.prog 42 #[sa, sb] w fun e w' => e = .returned (.int .i64 (ordL (ord n) xs ys)) ∧ Below w.heap.size w w' := by
  obtain ⟨a0, ca, rfl, la, ma, ea⟩ := ha
  obtain ⟨b0, cb, rfl, lb, mb, eb⟩ := hb
  unfold maxLen at ma mb
  have h0 : Hid (ordL (ord n) (xs.drop 0) (ys.drop 0) = ordL (ord n) xs ys) := rfl
  have ea' : Hid (0 < xs.length → ∃ b o, a0 = some { block := b, off := o } ∧ ∀ (j : Nat) (h : j < xs.length), ∃ sv', Cel w b (o + j * 5) xs[j] sv' ∧ Vs w n xs[j] sv') := ea
  have eb' : Hid (0 < ys.length → ∃ b o, b0 = some { block := b, off := o } ∧ ∀ (j : Nat) (h : j < ys.length), ∃ sv', Cel w b (o + j * 5) ys[j] sv' ∧ Vs w n ys[j] sv') := eb
  clear ea eb
  go_enter Tryz.func42, Tryz.ntmps42
  go_wp2
  all_goals
    go_loopw [12] (fun i w' => ∃ k : Nat, k ≤ xs.length ∧ k ≤ ys.length ∧ i = .int .i64 k ∧ Hid (ordL (ord n) (xs.drop k) (ys.drop k) = ordL (ord n) xs ys) ∧ Below w.heap.size w w') (fun i _ => xs.length - (intOf i).toNat)
    case atStart => exact ⟨0, by omega, by omega, rfl, h0, Below.refl _ _⟩
  all_goals
    obtain ⟨k, hk1, hk2, rfl, hk3, hbw⟩ := hrel
    by_cases hlt : k < xs.length ∧ k < ys.length
    · obtain ⟨hx, hy⟩ := hlt
      obtain ⟨b1, o1, rfl, e1⟩ := ea'.out (by omega)
      obtain ⟨b2, o2, rfl, e2⟩ := eb'.out (by omega)
      obtain ⟨s1, c1, v1⟩ := e1 k hx
      obtain ⟨s2, c2, v2⟩ := e2 k hy
      clear e1 e2 ea' eb'
      have v1' := Vs.below hbw _ _ _ v1
      have v2' := Vs.below hbw _ _ _ v2
      obtain ⟨p1, p2, p3, p4, p5⟩ := c1.below hbw
      obtain ⟨q1, q2, q3, q4, q5⟩ := c2.below hbw
      have hst := ordL_step (ord n) xs ys k hx hy
      clear c1 c2 v1 v2
      generalize xs[k] = tx at *
      generalize ys[k] = ty at *
      have HC : Hid (Calls Tryz.prog 17 #[vv tx s1, vv ty s2] wr.drew fun e w' => e = .returned (.int .i64 (ord n tx ty)) ∧ Below wr.drew.heap.size wr.drew w') := ih tx ty s1 s2 wr.drew (Vs.below (Below.refl _ _).drew _ _ _ v1') (Vs.below (Below.refl _ _).drew _ _ _ v2')
      have HS : Hid (ordL (ord n) (xs.drop k) (ys.drop k) = if ord n tx ty = 0 then ordL (ord n) (xs.drop (k + 1)) (ys.drop (k + 1)) else ord n tx ty) := hst
      clear hst v1' v2'
      unfold vv at HC
      generalize ord n tx ty = r at *
      have hl1 : b1 < wr.heap.size := cell_lt p1
      have hl2 : b2 < wr.heap.size := cell_lt q1
      have ib : (0 : Int) ≤ (k : Int) := by omega
      have ix : (k : Int) < (xs.length : Int) := by omega
      have iy : (k : Int) < (ys.length : Int) := by omega
      go_wp2
      go_region_held3 (fun w' => w'.cell? ⟨b1, o1 + k * 5, none⟩ = some (.int .i64 tx.k) ∧ w'.cell? ⟨b1, o1 + k * 5 + 1, none⟩ = some (.bool tx.b) ∧ w'.cell? ⟨b1, o1 + k * 5 + 2, none⟩ = some (.int .i64 tx.i) ∧ w'.cell? ⟨b1, o1 + k * 5 + 3, none⟩ = some (.string tx.s) ∧ w'.cell? ⟨b1, o1 + k * 5 + 4, none⟩ = some s1 ∧
        w'.cell? ⟨b2, o2 + k * 5, none⟩ = some (.int .i64 ty.k) ∧ w'.cell? ⟨b2, o2 + k * 5 + 1, none⟩ = some (.bool ty.b) ∧ w'.cell? ⟨b2, o2 + k * 5 + 2, none⟩ = some (.int .i64 ty.i) ∧ w'.cell? ⟨b2, o2 + k * 5 + 3, none⟩ = some (.string ty.s) ∧ w'.cell? ⟨b2, o2 + k * 5 + 4, none⟩ = some s2) (go_keep) ((go_at_call 17; refine HC.out.mono ?_; rintro e w1 ⟨rfl, hb1⟩; have g1 := fun o => hb1.cell (p := ⟨b1, o, none⟩) hl1; have g2 := fun o => hb1.cell (p := ⟨b2, o, none⟩) hl2))
      by_cases hr : r = 0
      · have hr' : (r != 0) = false := by simp [hr]
        have HR : Hid (r = 0) := hr
        clear hr
        go_wp2
        go_roundw
        case rel => exact ⟨k + 1, by omega, by omega, by go_num, by have := HS.out; rw [if_pos HR.out] at this; exact this.symm.trans hk3.out, (hbw.trans (Below.refl _ _).drew).trans (hb1.mono hbw.size)⟩
        case measure => simp [intOf]; omega
      · have hr' : (r != 0) = true := by simp [hr]
        have HR : Hid (¬ r = 0) := hr
        clear hr
        go_wp2
        go_ret
        refine ⟨?_, (hbw.trans (Below.refl _ _).drew).trans (hb1.mono hbw.size)⟩
        have := HS.out; rw [if_neg HR.out] at this
        rw [← hk3.out, this]; rfl
    · have hz : Hid (ordL (ord n) (xs.drop k) (ys.drop k) = cmpI xs.length ys.length) := ordL_end _ _ _ _ hk1 hk2 (by omega)
      by_cases hc : k < ys.length
      · have hd : ¬ k < xs.length := by omega
        clear hlt
        first
        | (exfalso; omega)
        | (go_wp2_with (go_at_call 38; refine (compare_int _ _ _).mono ?_; rintro e w1 ⟨rfl, rfl⟩)
           go_ret
           exact ⟨by rw [← hk3.out, hz.out]; rfl, hbw⟩)
      · clear hlt
        go_wp2_with (go_at_call 38; refine (compare_int _ _ _).mono ?_; rintro e w1 ⟨rfl, rfl⟩)
        go_ret
        exact ⟨by rw [← hk3.out, hz.out]; rfl, hbw⟩

set_option maxHeartbeats 1000000 in
theorem order_any : ∀ n, OrderAt n := by
  intro n
  induction n with
  | zero => intro a b sa sb w ha _; exact ha.elim
  | succ n ih =>
    intro a b sa sb w ha hb
    obtain ⟨ka, ba, ia, ta, la⟩ := a
    obtain ⟨kb, bb, ib, tb, lb⟩ := b
    have HL := orderLists_any n ih la lb sa sb
    have HA : Hid (Vs w (n + 1) ⟨ka, ba, ia, ta, la⟩ sa) := ha
    have HB : Hid (Vs w (n + 1) ⟨kb, bb, ib, tb, lb⟩ sb) := hb
    clear ha hb ih
    unfold vv
    by_cases hk : ka = kb
    · subst hk
      by_cases h0 : ka = 0
      · subst h0
        go_enter Tryz.func17, Tryz.ntmps17
        go_wp2
        go_ret
        exact ⟨by simp [ord], ((Below.refl _ _).alloc (Nat.le_refl _) _).alloc (by simp) _⟩
      by_cases h1 : ka = 1
      · subst h1
        go_enter Tryz.func17, Tryz.ntmps17
        go_wp2
        go_quiet ((first | (go_at_call 40; exact Calls.quiet_of_same (bit_any _ _)) | (go_at_call 39; exact Calls.quiet_of_same (compare_byte _ _ _))))
        go_wp2
        go_ret
        refine ⟨by simp [ord], ?_⟩
        exact below_drewN (((Below.refl _ _).alloc (Nat.le_refl _) _).alloc (by simp) _) _
      by_cases h2 : ka = 2
      · subst h2
        go_enter Tryz.func17, Tryz.ntmps17
        go_wp2_with (go_at_call 41; refine (compare_int64 _ _ _).mono ?_; rintro e w1 ⟨rfl, rfl⟩)
        go_ret
        exact ⟨by simp [ord], ((Below.refl _ _).alloc (Nat.le_refl _) _).alloc (by simp) _⟩
      by_cases h5 : ka = 5
      · subst h5
        go_enter Tryz.func17, Tryz.ntmps17
        go_wp2_with (go_at_call 41; refine (compare_int64 _ _ _).mono ?_; rintro e w1 ⟨rfl, rfl⟩)
        go_ret
        exact ⟨by simp [ord], ((Below.refl _ _).alloc (Nat.le_refl _) _).alloc (by simp) _⟩
      by_cases h4 : ka = 4
      · subst h4
        have HL' := Hid.intro HL
        clear HL
        go_enter Tryz.func17, Tryz.ntmps17
        go_wp2_with fail
        refine (HL'.out _ (HA.out.2.mono (below2 _ _ _) (fun t v => Vs.below (below2 _ _ _) n t v)) (HB.out.2.mono (below2 _ _ _) (fun t v => Vs.below (below2 _ _ _) n t v))).mono ?_
        rintro e w1 ⟨rfl, hb1⟩
        go_wp2
        go_ret
        exact ⟨by simp [ord], (below2 _ _ _).trans (hb1.mono (by simp; omega))⟩
      have e0 : (ka == 0) = false := by simp [h0]
      have e1 : (ka == 1) = false := by simp [h1]
      have e2 : (ka == 2) = false := by simp [h2]
      have e5 : (ka == 5) = false := by simp [h5]
      have e4 : (ka == 4) = false := by simp [h4]
      have HK : Hid (¬ ka = 0 ∧ ¬ ka = 1 ∧ ¬ ka = 2 ∧ ¬ ka = 5 ∧ ¬ ka = 4) := ⟨h0, h1, h2, h5, h4⟩
      clear h0 h1 h2 h5 h4
      go_enter Tryz.func17, Tryz.ntmps17
      go_wp2_with (go_at_call 43; refine (compare_string _ _ _).mono ?_; rintro e w1 ⟨rfl, rfl⟩)
      go_ret
      obtain ⟨h0, h1, h2, h5, h4⟩ := HK.out
      exact ⟨by simp [ord, h0, h1, h2, h5, h4], ((Below.refl _ _).alloc (Nat.le_refl _) _).alloc (by simp) _⟩
    · have hk' : (ka != kb) = true := by simp [hk]
      have HK : Hid (¬ ka = kb) := hk
      clear hk
      go_enter Tryz.func17, Tryz.ntmps17
      go_wp2_with (go_at_call 38; refine (compare_int _ _ _).mono ?_; rintro e w1 ⟨rfl, rfl⟩)
      go_ret
      refine ⟨?_, ?_⟩
      · rw [ord, if_neg HK.out]; rfl
      · exact ((Below.refl _ _).alloc (Nat.le_refl _) _).alloc (by simp) _
end Go.Proofs.YtciibcfmlhbnkaaGreatDoor
