/- The reference: one. -/
import Derived.Test.YtlheiiapolhpeaaLRef4
import Derived.Deep.RegionHeld3
namespace Go.Proofs.Ytlheiiapolhpeaa
open Go.RowKit

/-- What one tells: the lexeme, or one that ends no later than it begins. -/
def ROne (o : Option Lx) (a : Nat) (x : Ending) : Prop := match o with
  | some y => x = .returned y.v
  | none => ∃ k t e, x = .returned (lxv k t (a : Int) e) ∧ e ≤ (a : Int)

theorem markB_in (c : UInt8) : inT (m1.map (fun c => bs [c])) (bs [c]) = markB c := by
  unfold inT markB
  rw [List.any_map]
  have h1 : ∀ m : UInt8, ((bs [m]).toList == (bs [c]).toList) = (m == c) := fun m => by
    rw [Lib.toList_data, Lib.toList_data]; simp [bs]
  show m1.any (fun m => ((bs [m]).toList == (bs [c]).toList)) = _
  simp only [h1]
  generalize m1 = L
  induction L with
  | nil => rfl
  | cons b L ih =>
    rw [List.any_cons, ih, Lib.indexByte]
    have hg := Lib.indexByte_ge L c
    cases hb : b == c with
    | true => simp
    | false =>
      simp only [Bool.false_or, Bool.false_eq_true, if_false]
      split
      · rename_i h; simp at h; rw [h]
      · rename_i h
        simp at h
        congr 1
        apply decide_eq_decide.2
        omega
theorem twoB_in (s : ByteArray) : inT (twos.map bs) s = twoB s := inT_bs twos s
theorem wordE_let {s : ByteArray} {k : Nat} (h : k < s.size) (hc : letB (s[k].toNat : Int) = true) : wordE s k = k + run isCh s k := by
  unfold wordE; rw [dif_pos h, if_pos]; exact hc

set_option maxRecDepth 100000 in
set_option maxHeartbeats 8000000 in
theorem rone_let (s : ByteArray) (a : Nat) (ha : a < s.size) (hs : s.size ≤ 1000000) (c1 : letB (s[a].toNat : Int) = true) (w : World) :
    Calls Try.prog 23 #[.string s, .int .i64 (a : Int)] w fun x w' => x = .returned (lxv 0 (bs ((tl s a).takeWhile isCh)) (a : Int) ((a + ((tl s a).takeWhile isCh).length : Nat) : Int)) ∧ Below w.heap.size w w' := by
  have hi : (a : Int) < (s.size : Int) := by omega
  have HL := fun w => Hid.intro (rletter_any (s[a].toNat : Int) w)
  rw [c1] at HL
  have HW := fun w => Hid.intro (rword_any s a hs (by omega) w)
  rw [wordE_let ha c1] at HW
  have hx := bs_run isCh s a
  have hrl := run_le isCh s a (by omega)
  have hrg : a ≤ a + run isCh s a := by omega
  rw [← hx]
  clear hx
  unfold run at *
  generalize a + ((tl s a).takeWhile isCh).length = E at *
  have hE1 : (a : Int) ≤ (E : Int) := by omega
  have hE2 : (E : Int) ≤ (s.size : Int) := by omega
  go_enter Try.func23, Try.ntmps23
  go_wp2_with (go_at_call 34; refine (HL _).out.mono ?_; rintro e w1 ⟨rfl, hw1⟩; subst w1)
  go_region_held3 (fun w' => True) (trivial) ((go_at_call 35; refine (HW _).out.mono ?_; rintro e w1 ⟨rfl, hw1⟩; subst w1))
  go_wp2
  refine bodyPost_ret (v := lxv 0 (s.extract a E) (a : Int) (E : Int)) ?_ rfl ⟨rfl, (below_al (Below.refl _ _) _).drew⟩
  obtain ⟨⟨g0, g1, g2, g3⟩, -⟩ := F4.new w (.int .i64 0) (.string (s.extract a E)) (.int .i64 (a : Int)) (.int .i64 (E : Int)) 32
  simp [results, Try.results23, go_sem, g0, g1, g2, g3, lxv]

set_option maxRecDepth 100000 in
set_option maxHeartbeats 8000000 in
theorem rone_var (s : ByteArray) (a : Nat) (ha : a < s.size) (hs : s.size ≤ 1000000) (c3 : (s[a].toNat : Int) = 36) (ha1 : a + 1 < s.size) (c1 : letB (s[a + 1].toNat : Int) = true) (w : World) :
    Calls Try.prog 23 #[.string s, .int .i64 (a : Int)] w fun x w' => x = .returned (lxv 1 (bs ((tl s (a + 1)).takeWhile isCh)) (a : Int) ((a + 1 + ((tl s (a + 1)).takeWhile isCh).length : Nat) : Int)) ∧ Below w.heap.size w w' := by
  have hi : (a : Int) < (s.size : Int) := by omega
  have HL := fun w => Hid.intro (rletter_any (s[a].toNat : Int) w)
  rw [show letB (s[a].toNat : Int) = false from by rw [c3]; rfl] at HL
  have HW := fun w => Hid.intro (rword_any s (a + 1) hs (by omega) w)
  rw [wordE_let ha1 c1, show ((a + 1 : Nat) : Int) = (a : Int) + 1 from rfl] at HW
  have hx := bs_run isCh s (a + 1)
  have hrl := run_le isCh s (a + 1) (by omega)
  have hrg : a + 1 < a + 1 + run isCh s (a + 1) := by rw [run_yes ha1 (by unfold isCh chB; rw [c1]; rfl)]; omega
  rw [← hx]
  clear hx
  unfold run at *
  generalize a + 1 + ((tl s (a + 1)).takeWhile isCh).length = E at *
  have hE1 : (a : Int) + 1 < (E : Int) := by omega
  have hE2 : (E : Int) ≤ (s.size : Int) := by omega
  have c3b : ((s[a].toNat : Int) == 36) = true := beq_iff_eq.2 c3
  have hwr : IntKind.i64.wrap ((a : Int) + 1) = (a : Int) + 1 := by simp [IntKind.wrap, IntKind.bits, IntKind.signed]; omega
  have b0 : (0 : Int) ≤ (a : Int) + 1 := by omega
  have b1 : (a : Int) + 1 ≤ (E : Int) := by omega
  clear c3
  go_enter Try.func23, Try.ntmps23
  go_wp2_with (first | (go_at_call 34; refine (HL _).out.mono ?_; rintro e w1 ⟨rfl, hw1⟩; subst w1) | (go_at_call 35; refine (HW _).out.mono ?_; rintro e w1 ⟨rfl, hw1⟩; subst w1))
  go_region_held3 (fun w' => True) (trivial) ((go_at_call 35; refine (HW _).out.mono ?_; rintro e w1 ⟨rfl, hw1⟩; subst w1))
  go_wp2
  refine bodyPost_ret (v := lxv 1 (s.extract (a + 1) E) (a : Int) (E : Int)) ?_ rfl ⟨rfl, (below_al (Below.refl _ _) _).drew⟩
  obtain ⟨⟨g0, g1, g2, g3⟩, -⟩ := F4.new w (.int .i64 1) (.string (s.extract (a + 1) E)) (.int .i64 (a : Int)) (.int .i64 (E : Int)) 32
  simp [results, Try.results23, go_sem, g0, g1, g2, g3, lxv]

set_option maxRecDepth 100000 in
set_option maxHeartbeats 8000000 in
theorem rone_dig (s : ByteArray) (a : Nat) (ha : a < s.size) (hs : s.size ≤ 1000000) (c1 : letB (s[a].toNat : Int) = false) (c2 : digB (s[a].toNat : Int) = true) (w : World) :
    Calls Try.prog 23 #[.string s, .int .i64 (a : Int)] w fun x w' => x = .returned (lxv 2 (bs ((tl s a).takeWhile isDig)) (a : Int) ((a + ((tl s a).takeWhile isDig).length : Nat) : Int)) ∧ Below w.heap.size w w' := by
  have hi : (a : Int) < (s.size : Int) := by omega
  have HL := fun w => Hid.intro (rletter_any (s[a].toNat : Int) w)
  rw [c1] at HL
  have HD := fun w => Hid.intro (rdigit_any (s[a].toNat : Int) w)
  rw [c2] at HD
  have c3b : ((s[a].toNat : Int) == 36) = false := beq_false_of_ne (fun h => by rw [h] at c2; cases c2)
  have hx := bs_run isDig s a
  have hrl := run_le isDig s a (by omega)
  have HE0 := Hid.intro (rfl : a + run isDig s a = a + run isDig s a)
  rw [← hx]
  clear hx
  rw [show ((tl s a).takeWhile isDig).length = run isDig s a from rfl]
  generalize hE : a + run isDig s a = E at *
  have hEa : a ≤ E := by omega
  clear HE0
  go_enter Try.func23, Try.ntmps23
  go_wp2_with (first | (go_at_call 34; refine (HL _).out.mono ?_; rintro e w1 ⟨rfl, hw1⟩; subst w1) | (go_at_call 36; refine (HD _).out.mono ?_; rintro e w1 ⟨rfl, hw1⟩; subst w1))
  go_loopw [6] (fun i wr => wr = w.alloc (.cells #[.int .i64 0, .string ⟨#[]⟩, .int .i64 0, .int .i64 0] 32) ∧ ∃ m : Nat, i = .int .i64 (m : Int) ∧ a ≤ m ∧ m ≤ s.size ∧ Hid (m + run isDig s m = E)) (fun i _ => s.size - (intOf i).toNat)
  case atStart => exact ⟨rfl, a, rfl, Nat.le_refl _, by omega, hE⟩
  case round =>
    obtain ⟨hw, m, rfl, ham, hm, HE⟩ := hrel
    subst wr
    by_cases hml : (m : Int) < (s.size : Int)
    · have hml' : m < s.size := by omega
      have HD2 := fun w => Hid.intro (rdigit_any (s[m].toNat : Int) w)
      cases c4 : digB (s[m].toNat : Int) with
      | true =>
        rw [c4] at HD2
        have hq : m + 1 + run isDig s (m + 1) = E := by rw [← HE.out, run_yes hml' c4]; omega
        go_wp2_with (go_at_call 36; refine (HD2 _).out.mono ?_; rintro e w1 ⟨rfl, hw1⟩; subst w1)
        go_roundw
        case rel => exact ⟨trivial, m + 1, by go_num, by omega, hml', hq⟩
        case measure => simp [intOf]; omega
      | false =>
        rw [c4] at HD2
        have hq : E = m := by rw [← HE.out, run_no hml' c4]; omega
        have hE1 : (a : Int) ≤ (m : Int) := by omega
        have hE2 : (m : Int) ≤ (s.size : Int) := by omega
        go_wp2_with (go_at_call 36; refine (HD2 _).out.mono ?_; rintro e w1 ⟨rfl, hw1⟩; subst w1)
        refine bodyPost_ret (v := lxv 2 (s.extract a m) (a : Int) (m : Int)) ?_ rfl ⟨by first | rfl | rw [hq], below_al (Below.refl _ _) _⟩
        obtain ⟨⟨g0, g1, g2, g3⟩, -⟩ := F4.new w (.int .i64 2) (.string (s.extract a m)) (.int .i64 (a : Int)) (.int .i64 (m : Int)) 32
        simp [results, Try.results23, go_sem, g0, g1, g2, g3, lxv]
    · have hq : E = m := by rw [← HE.out, run_end (by omega)]; omega
      have hE1 : (a : Int) ≤ (m : Int) := by omega
      have hE2 : (m : Int) ≤ (s.size : Int) := by omega
      go_wp2
      refine bodyPost_ret (v := lxv 2 (s.extract a m) (a : Int) (m : Int)) ?_ rfl ⟨by first | rfl | rw [hq], below_al (Below.refl _ _) _⟩
      obtain ⟨⟨g0, g1, g2, g3⟩, -⟩ := F4.new w (.int .i64 2) (.string (s.extract a m)) (.int .i64 (a : Int)) (.int .i64 (m : Int)) 32
      simp [results, Try.results23, go_sem, g0, g1, g2, g3, lxv]
end Go.Proofs.Ytlheiiapolhpeaa
