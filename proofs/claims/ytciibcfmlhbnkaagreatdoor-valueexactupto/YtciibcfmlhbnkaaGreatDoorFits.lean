/- value.fits, value.allFit, value.Check: what they tell. -/
import Derived.Test.YtciibcfmlhbnkaaGreatDoorOrder
namespace Go.Proofs.YtciibcfmlhbnkaaGreatDoor
open Go.RowKit

def flat (t : Tr) : Bool :=
  if t.k = 0 then !t.b && (t.i == 0) && t.s.toList.isEmpty && ((t.l.length : Int) == 0)
  else if t.k = 1 then (t.i == 0) && t.s.toList.isEmpty && ((t.l.length : Int) == 0)
  else if t.k = 2 then !t.b && t.s.toList.isEmpty && ((t.l.length : Int) == 0)
  else if t.k = 3 then decide ((t.s.size : Int) ≤ 65536) && !t.b && (t.i == 0) && ((t.l.length : Int) == 0)
  else if t.k = 5 then decide (1 ≤ t.i) && !t.b && t.s.toList.isEmpty && ((t.l.length : Int) == 0)
  else false

def fit : Nat → Tr → Bool
  | 0, t => flat t
  | r + 1, t => if t.k = 4 then decide (t.l.length ≤ 4096) && t.l.all (fit r) && !t.b && (t.i == 0) && t.s.toList.isEmpty else flat t

theorem fit_flat (r : Nat) (t : Tr) (h : ¬ t.k = 4) : fit r t = flat t := by
  cases r with
  | zero => rfl
  | succ r => rw [fit, if_neg h]

def FitsAt (n : Nat) : Prop := ∀ (r : Nat) (t : Tr) (sv : Value) (w : World), r ≤ 30 → Vs w n t sv →
    Calls Tryz.prog 33 #[vv t sv, .int .i64 r] w fun e w' => e = .returned (.bool (fit r t)) ∧ Below w.heap.size w w'

theorem all_take (f : Tr → Bool) (ts : List Tr) (k : Nat) (h : k < ts.length) (h1 : (ts.take k).all f = true) (h2 : f ts[k] = true) : (ts.take (k + 1)).all f = true := by
  rw [List.take_succ_eq_append_getElem h, List.all_append, h1]; simp [h2]

theorem all_no (f : Tr → Bool) (ts : List Tr) (k : Nat) (h : k < ts.length) (h2 : f ts[k] = false) : ts.all f = false := by
  rw [List.all_eq_false]; exact ⟨ts[k], List.getElem_mem h, by simp [h2]⟩

set_option maxHeartbeats 400000 in
theorem allFit_any (n : Nat) (ih : FitsAt n) (r : Nat) (ts : List Tr) (sv : Value) (w : World) (hr : r ≤ 30) (hl : Lv w (Vs w n) ts sv) :
    Calls Tryz.prog 47 #[sv, .int .i64 r] w fun e w' => e = .returned (.bool (ts.all (fit r))) ∧ Below w.heap.size w w' := by
  obtain ⟨a0, ca, rfl, la, ma, ea⟩ := hl
  unfold maxLen at ma
  have ea' := Hid.intro ea
  clear ea
  go_enter Tryz.func47, Tryz.ntmps47
  go_wp2
  go_loopw [9] (fun i w' => ∃ k : Nat, k ≤ ts.length ∧ i = .int .i64 k ∧ Hid ((ts.take k).all (fit r) = true) ∧ Below w.heap.size w w') (fun i _ => ts.length - (intOf i).toNat)
  case atStart => exact ⟨0, by omega, rfl, rfl, Below.refl _ _⟩
  case round =>
    obtain ⟨k, hk1, rfl, hk3, hbw⟩ := hrel
    by_cases hlt : k < ts.length
    · obtain ⟨b1, o1, rfl, e1⟩ := ea'.out (by omega)
      obtain ⟨s1, c1, v1⟩ := e1 k hlt
      clear e1 ea'
      obtain ⟨a1, n1, rfl, -, -⟩ := v1.form
      have v1' := Vs.below hbw _ _ _ v1
      obtain ⟨p1, p2, p3, p4, p5⟩ := c1.below hbw
      have hl1 : b1 < wr.heap.size := cell_lt p1
      have ib : (0 : Int) ≤ (k : Int) := by omega
      have ix : (k : Int) < (ts.length : Int) := by omega
      go_wp2_with fail
      refine (ih r ts[k] _ _ hr (Vs.below ((Below.refl _ _).alloc (Nat.le_refl _) _) _ _ _ v1')).mono ?_
      rintro e w1 ⟨rfl, hb1⟩
      have hb2 := (hbw.trans (((Below.refl _ _).alloc (Nat.le_refl _) _).mono hbw.size)).trans (hb1.mono (Nat.le_trans hbw.size (by simp)))
      clear hb1 v1' v1 c1 p1 p2 p3 p4 p5
      by_cases hf : fit r ts[k] = true
      · have HF := Hid.intro (all_take (fit r) ts k hlt hk3.out hf)
        go_wp2
        go_roundw
        case rel => exact ⟨k + 1, by omega, by go_num, HF, hb2⟩
        case measure => simp [intOf]; omega
      · have hf' : fit r ts[k] = false := by simpa using hf
        have HF := Hid.intro (all_no (fit r) ts k hlt hf')
        clear hf
        go_wp2
        go_ret
        exact ⟨by rw [HF.out]; rfl, hb2⟩
    · go_wp2
      go_ret
      refine ⟨?_, hbw⟩
      have := hk3.out
      rw [List.take_of_length_le (by omega)] at this
      rw [this]; rfl

set_option maxHeartbeats 1000000 in
theorem fits_any : ∀ n, FitsAt n := by
  intro n
  induction n with
  | zero => intro r t sv w _ h; exact h.elim
  | succ n ih =>
    intro r t sv w hr ht
    obtain ⟨k, b, i, s, l⟩ := t
    obtain ⟨a1, n1, rfl, hn1, hn2⟩ := ht.form
    have hw := ht.wf
    obtain ⟨hw1, hw2, hw3, hw4, hw5⟩ := hw
    unfold maxLen at hw5
    have HL := Hid.intro (allFit_any n ih (r - 1) l (.slice a1 l.length n1))
    have HT := Hid.intro ht.2
    clear ht ih
    unfold vv
    by_cases h4 : k = 4
    · subst h4
      cases r with
      | zero =>
        go_enter Tryz.func33, Tryz.ntmps33
        go_wp2
        all_goals go_ret
        all_goals refine ⟨?_, below2 _ _ _⟩
        all_goals simp [fit, flat]
      | succ r =>
        have hz : (((r + 1 : Nat) : Int) == 0) = false := by simp; omega
        simp only [Nat.add_sub_cancel] at HL
        by_cases hlen : (l.length : Int) ≤ 4096
        · go_enter Tryz.func33, Tryz.ntmps33
          go_wp2_with fail
          refine (HL.out _ (by omega) (HT.out.mono (below2 _ _ _) (fun t v => Vs.below (below2 _ _ _) n t v))).mono ?_
          rintro e w1 ⟨rfl, hb1⟩
          have hbx : Below w.heap.size w w1 := (below2 _ _ _).trans (hb1.mono (by simp; omega))
          obtain ⟨hc, hf⟩ := bcell hb1 (N := w.heap.size + 2) (by simp)
          have hsz := hb1.size
          clear hb1
          have HB := Hid.intro hbx
          clear hbx
          have HF : Hid (fit (r + 1) ⟨4, b, i, s, l⟩ = (l.all (fit r) && !b && (i == 0) && s.toList.isEmpty)) := by
            have : l.length ≤ 4096 := by omega
            simp [Hid, fit, this]
          generalize l.all (fit r) = f at *
          cases f
          · go_wp2
            go_ret
            exact ⟨by rw [HF.out]; rfl, HB.out⟩
          · simp at hsz
            go_wp2
            all_goals go_ret
            all_goals refine ⟨?_, ?_⟩
            all_goals first
              | (rw [HF.out]; simp [*]; done)
              | exact HB.out.setCell (p := ⟨w.heap.size + 1, 4, none⟩) (Nat.le_succ _) _
              | (exfalso; rename_i hh; cases hh with | inl hh => (simp at hh; omega) | inr hh => omega)
        · go_enter Tryz.func33, Tryz.ntmps33
          go_wp2
          all_goals go_ret
          all_goals refine ⟨?_, below2 _ _ _⟩
          all_goals (simp [fit]; omega)
    rw [fit_flat _ _ (show ¬ (Tr.mk k b i s l).k = 4 from h4)]
    by_cases h0 : k = 0
    · subst h0
      go_enter Tryz.func33, Tryz.ntmps33
      go_wp2
      all_goals go_ret
      all_goals refine ⟨?_, below2 _ _ _⟩
      all_goals simp [flat, *]
    by_cases h1 : k = 1
    · subst h1
      go_enter Tryz.func33, Tryz.ntmps33
      go_wp2
      all_goals go_ret
      all_goals refine ⟨?_, below2 _ _ _⟩
      all_goals simp [flat, *]
    by_cases h2 : k = 2
    · subst h2
      go_enter Tryz.func33, Tryz.ntmps33
      go_wp2
      all_goals go_ret
      all_goals refine ⟨?_, below2 _ _ _⟩
      all_goals simp [flat, *]
    by_cases h3 : k = 3
    · subst h3
      by_cases hs : (s.size : Int) ≤ 65536
      · have HS := Hid.intro hs
        go_enter Tryz.func33, Tryz.ntmps33
        go_wp2
        all_goals go_ret
        all_goals refine ⟨?_, below2 _ _ _⟩
        all_goals simp [flat, *]
      · go_enter Tryz.func33, Tryz.ntmps33
        go_wp2
        all_goals go_ret
        all_goals refine ⟨?_, below2 _ _ _⟩
        all_goals (simp [flat]; omega)
    by_cases h5 : k = 5
    · subst h5
      by_cases hs : i < 1
      · go_enter Tryz.func33, Tryz.ntmps33
        go_wp2
        all_goals go_ret
        all_goals refine ⟨?_, below2 _ _ _⟩
        all_goals (simp [flat]; omega)
      · have hs' : 1 ≤ i := by omega
        go_enter Tryz.func33, Tryz.ntmps33
        go_wp2
        all_goals go_ret
        all_goals refine ⟨?_, below2 _ _ _⟩
        all_goals simp [flat, *]
    have e0 : (k == 0) = false := by simp [h0]
    have e1 : (k == 1) = false := by simp [h1]
    have e2 : (k == 2) = false := by simp [h2]
    have e3 : (k == 3) = false := by simp [h3]
    have e4 : (k == 4) = false := by simp [h4]
    have e5 : (k == 5) = false := by simp [h5]
    have HF : Hid (flat ⟨k, b, i, s, l⟩ = false) := by simp [Hid, flat, h0, h1, h2, h3, h5]
    clear h0 h1 h2 h3 h4 h5
    go_enter Tryz.func33, Tryz.ntmps33
    go_wp2
    go_ret
    exact ⟨by rw [HF.out]; rfl, below2 _ _ _⟩

set_option maxHeartbeats 400000 in
theorem check_any (n : Nat) (t : Tr) (sv : Value) (w : World) (h : Vs w n t sv) :
    Calls Tryz.prog 11 #[vv t sv] w fun e w' => e = .returned (.bool (fit 30 t)) ∧ Below w.heap.size w w' := by
  obtain ⟨a1, n1, rfl, hn1, hn2⟩ := h.form
  have HC := Hid.intro (fun w' hb => fits_any n 30 t _ w' (Nat.le_refl _) (Vs.below (w' := w') hb _ _ _ h))
  clear h
  obtain ⟨k, b, i, s, l⟩ := t
  unfold vv at *
  go_enter Tryz.func11, Tryz.ntmps11
  go_wp2_with fail
  refine (HC.out _ ((Below.refl _ _).alloc (Nat.le_refl _) _)).mono ?_
  rintro e w1 ⟨rfl, hb1⟩
  go_wp2
  go_ret
  exact ⟨rfl, ((Below.refl _ _).alloc (Nat.le_refl _) _).trans (hb1.mono (by simp))⟩
end Go.Proofs.YtciibcfmlhbnkaaGreatDoor
