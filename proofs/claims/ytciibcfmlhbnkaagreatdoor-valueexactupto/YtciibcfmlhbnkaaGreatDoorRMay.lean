/- The reference's may and Check: they tell `fit`. -/
import Derived.Test.YtciibcfmlhbnkaaGreatDoorFits
namespace Go.Proofs.YtciibcfmlhbnkaaGreatDoor
open Go.RowKit

def MayAt (n : Nat) : Prop := ∀ (d : Nat) (t : Tr) (sv : Value) (w : World), d ≤ 30 → Vs w n t sv →
    Calls Tryz.prog 34 #[vv t sv, .int .i64 d] w fun e w' => e = .returned (.bool (fit (30 - d) t)) ∧ Below w.heap.size w w'

theorem below_bm {w w' : World} {o : Obj} (h : Below (w.heap.size + 1) (w.alloc o) w') : Below w.heap.size w w' :=
  ((Below.refl _ _).alloc (Nat.le_refl _) o).trans (h.mono (Nat.le_succ _))
theorem pos_len (l : List Tr) : decide (0 < l.length) = !((l.length : Int) == 0) := by
  cases l <;> simp
  omega
theorem str_nil_iff (s : ByteArray) : (s.toList == []) = s.toList.isEmpty := by
  cases h : s.toList <;> simp
set_option maxRecDepth 20000 in
set_option maxHeartbeats 2000000 in
theorem may_flat (k : Int) (b : Bool) (i : Int) (s : ByteArray) (l : List Tr) (p : Option Addr) (c : Nat) (d : Int) (w : World) (_hs : s.size ≤ maxLen) (hk : ¬ k = 4) :
    Calls Tryz.prog 34 #[.agg #[.int .i64 k, .bool b, .int .i64 i, .string s, .slice p l.length c], .int .i64 d] w fun e w' => e = .returned (.bool (flat ⟨k, b, i, s, l⟩)) ∧ Below w.heap.size w w' := by
  unfold maxLen at _hs
  by_cases h0 : k = 0
  · subst h0
    go_enter Tryz.func34, Tryz.ntmps34
    go_wp2
    all_goals go_ret
    all_goals refine ⟨?_, (Below.refl _ _).alloc (Nat.le_refl _) _⟩
    all_goals simp [flat, *]
    all_goals first | done | exact pos_len l | omega
  by_cases h1 : k = 1
  · subst h1
    go_enter Tryz.func34, Tryz.ntmps34
    go_wp2
    all_goals go_ret
    all_goals refine ⟨?_, (Below.refl _ _).alloc (Nat.le_refl _) _⟩
    all_goals simp [flat, *]
    all_goals first | done | exact pos_len l | omega
  by_cases h2 : k = 2
  · subst h2
    go_enter Tryz.func34, Tryz.ntmps34
    go_wp2
    all_goals go_ret
    all_goals refine ⟨?_, (Below.refl _ _).alloc (Nat.le_refl _) _⟩
    all_goals simp [flat, *]
    all_goals first | done | exact pos_len l | omega
  by_cases h3 : k = 3
  · subst h3
    go_enter Tryz.func34, Tryz.ntmps34
    go_wp2
    all_goals go_ret
    all_goals refine ⟨?_, (Below.refl _ _).alloc (Nat.le_refl _) _⟩
    all_goals simp [flat, *]
    all_goals first | done | exact pos_len l | omega
  by_cases h5 : k = 5
  · subst h5
    go_enter Tryz.func34, Tryz.ntmps34
    go_wp2
    all_goals go_ret
    all_goals refine ⟨?_, (Below.refl _ _).alloc (Nat.le_refl _) _⟩
    all_goals simp [flat, *]
    all_goals first | done | exact pos_len l | omega
  go_enter Tryz.func34, Tryz.ntmps34
  go_wp2
  all_goals go_ret
  all_goals refine ⟨?_, (Below.refl _ _).alloc (Nat.le_refl _) _⟩
  all_goals simp [flat, *]
  all_goals first | done | exact pos_len l | omega

theorem list_fit (r : Nat) (l : List Tr) : fit (r + 1) ⟨4, false, 0, ⟨#[]⟩, l⟩ = (decide (l.length ≤ 4096) && l.all (fit r)) := by
  rw [fit, if_pos rfl]
  simp
set_option maxRecDepth 20000 in
set_option maxHeartbeats 2000000 in
theorem may_any : ∀ n, MayAt n := by
  intro n
  induction n with
  | zero => intro d t sv w _ h; exact h.elim
  | succ n ih =>
    intro d t sv w hd ht
    obtain ⟨k, b, i, s, l⟩ := t
    obtain ⟨a1, n1, rfl, hn1, hn2⟩ := ht.form
    have hw := ht.wf
    obtain ⟨hw1, hw2, hw3, hw4, hw5⟩ := hw
    unfold vv
    by_cases h4 : k = 4
    · have HT := Hid.intro ht.2
      have HI := Hid.intro ih
      clear ht ih
      subst h4
      have hf1 : ∀ r, b = true → fit r ⟨4, b, i, s, l⟩ = false := fun r h => by cases r <;> simp [fit, flat, h]
      have hf2 : ∀ r, ¬ i = 0 → fit r ⟨4, b, i, s, l⟩ = false := fun r h => by cases r <;> simp [fit, flat, h]
      have hf3 : ∀ r, ¬ s.toList = [] → fit r ⟨4, b, i, s, l⟩ = false := fun r h => by cases r <;> simp [fit, flat, h]
      have hf4 : ∀ r, ¬ (l.length : Int) ≤ 4096 → fit r ⟨4, b, i, s, l⟩ = false := fun r h => by
        cases r
        · simp [fit, flat]
        · have : ¬ l.length ≤ 4096 := by omega
          simp [fit, this]
      have hf5 : ¬ d < 30 → fit (30 - d) ⟨4, b, i, s, l⟩ = false := fun h => by
        rw [show 30 - d = 0 by omega]
        simp [fit, flat]
      unfold maxLen at hw5
      by_cases hb : b = true
      · rw [hf1 _ hb]
        subst hb
        go_enter Tryz.func34, Tryz.ntmps34
        go_wp2
        go_ret
        exact ⟨rfl, (Below.refl _ _).alloc (Nat.le_refl _) _⟩
      obtain rfl : b = false := by simpa using hb
      by_cases hi : i = 0
      rotate_left
      · rw [hf2 _ hi]
        go_enter Tryz.func34, Tryz.ntmps34
        go_wp2
        go_ret
        exact ⟨rfl, (Below.refl _ _).alloc (Nat.le_refl _) _⟩
      subst hi
      by_cases hs : s.toList = []
      rotate_left
      · rw [hf3 _ hs]
        go_enter Tryz.func34, Tryz.ntmps34
        go_wp2
        go_ret
        exact ⟨rfl, (Below.refl _ _).alloc (Nat.le_refl _) _⟩
      by_cases hlen : (l.length : Int) ≤ 4096
      rotate_left
      · rw [hf4 _ hlen]
        go_enter Tryz.func34, Tryz.ntmps34
        go_wp2
        go_ret
        exact ⟨rfl, (Below.refl _ _).alloc (Nat.le_refl _) _⟩
      by_cases hdd : d < 30
      rotate_left
      · rw [hf5 hdd]
        have hdd' : (30 : Int) ≤ (d : Int) := by omega
        go_enter Tryz.func34, Tryz.ntmps34
        go_wp2
        go_ret
        exact ⟨rfl, (Below.refl _ _).alloc (Nat.le_refl _) _⟩
      have hdd' : ¬ (30 : Int) ≤ (d : Int) := by omega
      have hff : fit (30 - d) ⟨4, false, 0, s, l⟩ = l.all (fit (30 - (d + 1))) := by
        rw [show 30 - d = (30 - (d + 1)) + 1 by omega, fit, if_pos rfl]
        have : l.length ≤ 4096 := by omega
        simp [hs, this]
      rw [hff]
      have HJ : Hid (∀ t sv w, Vs w n t sv → Calls Tryz.prog 34 #[vv t sv, .int .i64 ((d + 1 : Nat) : Int)] w fun e w' => e = .returned (.bool (fit (30 - (d + 1)) t)) ∧ Below w.heap.size w w') := Hid.intro (fun t sv w h => HI.out (d + 1) t sv w (by omega) h)
      clear hf1 hf2 hf3 hf4 hf5 hff hb HI
      generalize 30 - (d + 1) = r at HJ ⊢
      obtain ⟨a1', n1', e, la, ma, ea⟩ := HT.out
      cases e
      have ea' := Hid.intro ea
      clear ea HT
      have hd1 : IntKind.i64.wrap ((d : Int) + 1) = ((d + 1 : Nat) : Int) := by simp [IntKind.wrap, IntKind.bits, IntKind.signed]; omega
      go_enter Tryz.func34, Tryz.ntmps34
      go_wp2_with fail
      go_loopw [9] (fun i w' => ∃ k : Nat, k ≤ l.length ∧ i = .int .i64 k ∧ Hid ((l.take k).all (fit r) = true) ∧ Hid (Below (w.heap.size + 1) (w.alloc (.cells #[.int .i64 4, .bool false, .int .i64 0, .string s, .slice a1 l.length n1] 28)) w')) (fun i _ => l.length - (intOf i).toNat)
      case atStart => exact ⟨0, by omega, rfl, Hid.intro rfl, Hid.intro (Below.refl _ _)⟩
      case round =>
        obtain ⟨k, hk1, rfl, hk3, hbw⟩ := hrel
        have hbx := below_bm hbw.out
        have hbox := hbw.out.cell (p := ⟨w.heap.size, 4, none⟩) (Nat.lt_succ_self _)
        simp [go_sem] at hbox
        have hlw : w.heap.size < wr.heap.size := cell_lt hbox
        by_cases hlt : k < l.length
        · obtain ⟨b1, o1, rfl, e1⟩ := ea'.out (by omega)
          obtain ⟨s1, c1, v1⟩ := e1 k hlt
          clear e1 ea'
          obtain ⟨a2, n2, rfl, -, -⟩ := v1.form
          have v1' := Hid.intro (Vs.below hbx _ _ _ v1)
          obtain ⟨p1, p2, p3, p4, p5⟩ := c1.below hbx
          have hl1 : b1 < wr.heap.size := cell_lt p1
          have ib : (0 : Int) ≤ (k : Int) := by omega
          have ix : (k : Int) < (l.length : Int) := by omega
          clear v1 c1 hbx
          go_wp2_with fail
          refine (HJ.out l[k] _ _ v1'.out).mono ?_
          rintro e w1 ⟨rfl, hb1⟩
          have HB := Hid.intro (hbw.out.trans (hb1.mono hbw.out.size1))
          clear hb1 v1' p1 p2 p3 p4 p5 hbox
          by_cases hf : fit r l[k] = true
          · have HF := Hid.intro (all_take (fit r) l k hlt hk3.out hf)
            go_wp2
            go_roundw
            case rel => exact ⟨k + 1, by omega, by go_num, HF, HB⟩
            case measure => simp [intOf]; omega
          · have hf' : fit r l[k] = false := by simpa using hf
            have HF := Hid.intro (all_no (fit r) l k hlt hf')
            clear hf
            go_wp2
            go_ret
            exact ⟨by rw [HF.out]; rfl, below_bm HB.out⟩
        · have hlt' : ¬ (k : Int) < (l.length : Int) := by omega
          go_wp2
          go_ret
          refine ⟨?_, hbx⟩
          have := hk3.out
          rw [List.take_of_length_le (by omega)] at this
          rw [this]; rfl
    · have hfl : fit (30 - d) ⟨k, b, i, s, l⟩ = flat ⟨k, b, i, s, l⟩ := fit_flat _ _ h4
      rw [hfl]
      exact may_flat k b i s l a1 n1 d w hw5 h4
set_option maxHeartbeats 400000 in
/-- proctorref1.Check. -/
theorem rcheck_any (n : Nat) (t : Tr) (sv : Value) (w : World) (h : Vs w n t sv) :
    Calls Tryz.prog 12 #[vv t sv] w fun e w' => e = .returned (.bool (fit 30 t)) ∧ Below w.heap.size w w' := by
  have HC := Hid.intro (fun w' hb => may_any n 0 t sv w' (by omega) (Vs.below (w' := w') hb _ _ _ h))
  obtain ⟨a1, n1, rfl, -, -⟩ := h.form
  clear h
  obtain ⟨k, b, i, s, l⟩ := t
  unfold vv at *
  go_enter Tryz.func12, Tryz.ntmps12
  go_wp2_with fail
  refine (HC.out _ ((Below.refl _ _).alloc (Nat.le_refl _) _)).mono ?_
  rintro e w1 ⟨rfl, hb1⟩
  have HB := Hid.intro (hb1.via ((Below.refl _ _).alloc (Nat.le_refl _) _))
  clear hb1
  go_wp2
  go_ret
  exact ⟨rfl, HB.out⟩
end Go.Proofs.YtciibcfmlhbnkaaGreatDoor
