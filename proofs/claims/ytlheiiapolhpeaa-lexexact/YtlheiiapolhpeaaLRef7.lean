/- The reference: one, of a mark. -/
import Derived.Test.YtlheiiapolhpeaaLRef6
namespace Go.Proofs.Ytlheiiapolhpeaa
open Go.RowKit

set_option maxRecDepth 100000 in
set_option maxHeartbeats 8000000 in
theorem rone_mark (s : ByteArray) (a : Nat) (ha : a < s.size) (hs : s.size ≤ 1000000) (c1 : letB (s[a].toNat : Int) = false) (c2 : digB (s[a].toNat : Int) = false) (c4b : ((s[a].toNat : Int) == 34) = false) (c3b : ((s[a].toNat : Int) == 36) = false) (w : World) :
    Calls Try.prog 23 #[.string s, .int .i64 (a : Int)] w fun x w' => ROne (markL a (tl s a)) a x ∧ Below w.heap.size w w' := by
  have hi : (a : Int) < (s.size : Int) := by omega
  have HL := fun w => Hid.intro (rletter_any (s[a].toNat : Int) w)
  rw [c1] at HL
  have HD := fun w => Hid.intro (rdigit_any (s[a].toNat : Int) w)
  rw [c2] at HD
  have HX1 := fun W b hb => Hid.intro (rindex_one W s[a] b hb)
  rw [← ex_one ha] at HX1
  have HFt : Hid (F4 (twoW (zeroL w)) w.heap.size (.int .i64 0) (.string ⟨#[]⟩) (.int .i64 0) (.int .i64 0)) := F4.al (F4.new w _ _ _ _ _) (by simp) _
  have HBt : Hid (Below w.heap.size w (twoW (zeroL w))) := below_al (below_al (Below.refl _ _) _) _
  have HLt : Hid (w.heap.size < (twoW (zeroL w)).heap.size) := by rw [Hid]; simp [twoW, zeroL]; omega
  have b0 : (a : Int) + 1 ≤ (s.size : Int) := by omega
  by_cases hl : a + 1 < s.size
  · have hl' : (a : Int) + 1 < (s.size : Int) := by omega
    have b1 : (a : Int) + 2 ≤ (s.size : Int) := by omega
    have HX2 := fun W b hb => Hid.intro (rindex_two W (s.extract a (a + 2)) b hb)
    rw [← twoL_yes hl] at HX2
    go_enter Try.func23, Try.ntmps23
    go_wp2_with (first | (go_at_call 34; refine (HL _).out.mono ?_; rintro e w1 ⟨rfl, hw1⟩; subst w1) | (go_at_call 36; refine (HD _).out.mono ?_; rintro e w1 ⟨rfl, hw1⟩; subst w1))
    refine ((HX2 (zeroL w) _ (by simp [zeroL])).out).mono ?_
    rintro e W1 ⟨i1, rfl, hd1, hW1⟩
    have HF1 : Hid (F4 W1 w.heap.size (.int .i64 0) (.string ⟨#[]⟩) (.int .i64 0) (.int .i64 0)) := by rw [hW1]; exact HFt.out
    have HB1 : Hid (Below w.heap.size w W1) := by rw [hW1]; exact HBt.out
    have HL1 : Hid (w.heap.size < W1.heap.size) := by rw [hW1]; exact HLt.out
    clear hW1
    cases h2 : twoL (tl s a) with
    | true =>
      rw [h2] at hd1
      have hm := markL_two ha h2
      obtain ⟨⟨z0, z1, z2, z3⟩, y0, y1, y2, y3⟩ := HF1.out
      go_wp2
      refine bodyPost_ret (v := lxv 4 (s.extract a (a + 2)) (a : Int) ((a : Int) + 2)) ?_ rfl ⟨by rw [hm]; rfl, below_set4 HB1.out (Nat.le_refl _) _ _ _ _⟩
      obtain ⟨⟨g0, g1, g2, g3⟩, -⟩ := HF1.out.put (.int .i64 4) (.string (s.extract a (a + 2))) (.int .i64 (a : Int)) (.int .i64 ((a : Int) + 2))
      simp [results, Try.results23, go_sem, g0, g1, g2, g3, lxv]
    | false =>
      rw [h2] at hd1
      go_wp2_with fail
      refine ((HX1 W1 _ rfl).out).mono ?_
      rintro e W2 ⟨i2, rfl, hd2, hW2⟩
      have HF2 : Hid (F4 W2 w.heap.size (.int .i64 0) (.string ⟨#[]⟩) (.int .i64 0) (.int .i64 0)) := by
        rw [hW2]; exact F4.al HF1.out HL1.out _
      have HB2 : Hid (Below w.heap.size w W2) := by
        rw [hW2]; exact below_al HB1.out _
      obtain ⟨⟨z0, z1, z2, z3⟩, y0, y1, y2, y3⟩ := HF2.out
      clear hW2
      cases h1 : markB s[a] with
      | true =>
        rw [h1] at hd2
        have hm := markL_one ha h2 h1
        go_wp2
        refine bodyPost_ret (v := lxv 4 (s.extract a (a + 1)) (a : Int) ((a : Int) + 1)) ?_ rfl ⟨by rw [hm]; rfl, below_set4 HB2.out (Nat.le_refl _) _ _ _ _⟩
        obtain ⟨⟨g0, g1, g2, g3⟩, -⟩ := HF2.out.put (.int .i64 4) (.string (s.extract a (a + 1))) (.int .i64 (a : Int)) (.int .i64 ((a : Int) + 1))
        simp [results, Try.results23, go_sem, g0, g1, g2, g3, lxv]
      | false =>
        rw [h1] at hd2
        have hm := markL_no ha h2 h1
        go_wp2
        refine bodyPost_ret (v := lxv 0 ⟨#[]⟩ (a : Int) (a : Int)) ?_ rfl ⟨by rw [hm]; exact ⟨_, _, _, rfl, by omega⟩, below_set4 HB2.out (Nat.le_refl _) _ _ _ _⟩
        obtain ⟨⟨g0, g1, g2, g3⟩, -⟩ := HF2.out.put (.int .i64 0) (.string ⟨#[]⟩) (.int .i64 (a : Int)) (.int .i64 (a : Int))
        simp [results, Try.results23, go_sem, g0, g1, g2, g3, lxv]
  · have h2 := twoL_end hl
    have hl' : ¬ (a : Int) + 1 < (s.size : Int) := by omega
    go_enter Try.func23, Try.ntmps23
    go_wp2_with (first | (go_at_call 34; refine (HL _).out.mono ?_; rintro e w1 ⟨rfl, hw1⟩; subst w1) | (go_at_call 36; refine (HD _).out.mono ?_; rintro e w1 ⟨rfl, hw1⟩; subst w1))
    refine ((HX1 (zeroL w) (w.heap.size + 1) (by simp [zeroL])).out).mono ?_
    rintro e W2 ⟨i2, rfl, hd2, hW2⟩
    have HF2 : Hid (F4 W2 w.heap.size (.int .i64 0) (.string ⟨#[]⟩) (.int .i64 0) (.int .i64 0)) := by
      rw [hW2]; exact F4.al (F4.new w _ _ _ _ _) (by simp) _
    have HB2 : Hid (Below w.heap.size w W2) := by
      rw [hW2]; exact below_al (below_al (Below.refl _ _) _) _
    obtain ⟨⟨z0, z1, z2, z3⟩, y0, y1, y2, y3⟩ := HF2.out
    clear hW2
    cases h1 : markB s[a] with
    | true =>
      rw [h1] at hd2
      have hm := markL_one ha h2 h1
      go_wp2
      refine bodyPost_ret (v := lxv 4 (s.extract a (a + 1)) (a : Int) ((a : Int) + 1)) ?_ rfl ⟨by rw [hm]; rfl, below_set4 HB2.out (Nat.le_refl _) _ _ _ _⟩
      obtain ⟨⟨g0, g1, g2, g3⟩, -⟩ := HF2.out.put (.int .i64 4) (.string (s.extract a (a + 1))) (.int .i64 (a : Int)) (.int .i64 ((a : Int) + 1))
      simp [results, Try.results23, go_sem, g0, g1, g2, g3, lxv]
    | false =>
      rw [h1] at hd2
      have hm := markL_no ha h2 h1
      go_wp2
      refine bodyPost_ret (v := lxv 0 ⟨#[]⟩ (a : Int) (a : Int)) ?_ rfl ⟨by rw [hm]; exact ⟨_, _, _, rfl, by omega⟩, below_set4 HB2.out (Nat.le_refl _) _ _ _ _⟩
      obtain ⟨⟨g0, g1, g2, g3⟩, -⟩ := HF2.out.put (.int .i64 0) (.string ⟨#[]⟩) (.int .i64 (a : Int)) (.int .i64 (a : Int))
      simp [results, Try.results23, go_sem, g0, g1, g2, g3, lxv]

set_option maxRecDepth 100000 in
set_option maxHeartbeats 8000000 in
theorem rone_dollar (s : ByteArray) (a : Nat) (ha : a < s.size) (hs : s.size ≤ 1000000) (c1 : letB (s[a].toNat : Int) = false) (c2 : digB (s[a].toNat : Int) = false) (c4b : ((s[a].toNat : Int) == 34) = false) (c3b : ((s[a].toNat : Int) == 36) = true) (hv : wordE s (a + 1) = a + 1) (w : World) :
    Calls Try.prog 23 #[.string s, .int .i64 (a : Int)] w fun x w' => ROne (markL a (tl s a)) a x ∧ Below w.heap.size w w' := by
  have hi : (a : Int) < (s.size : Int) := by omega
  have HL := fun w => Hid.intro (rletter_any (s[a].toNat : Int) w)
  rw [c1] at HL
  have HD := fun w => Hid.intro (rdigit_any (s[a].toNat : Int) w)
  rw [c2] at HD
  have HW := fun w => Hid.intro (rword_any s (a + 1) hs (by omega) w)
  rw [hv, show ((a + 1 : Nat) : Int) = (a : Int) + 1 from rfl] at HW
  have HX1 := fun W b hb => Hid.intro (rindex_one W s[a] b hb)
  rw [← ex_one ha] at HX1
  have HFt : Hid (F4 (twoW (zeroL w)) w.heap.size (.int .i64 0) (.string ⟨#[]⟩) (.int .i64 0) (.int .i64 0)) := F4.al (F4.new w _ _ _ _ _) (by simp) _
  have HBt : Hid (Below w.heap.size w (twoW (zeroL w))) := below_al (below_al (Below.refl _ _) _) _
  have HLt : Hid (w.heap.size < (twoW (zeroL w)).heap.size) := by rw [Hid]; simp [twoW, zeroL]; omega
  have b0 : (a : Int) + 1 ≤ (s.size : Int) := by omega
  by_cases hl : a + 1 < s.size
  · have hl' : (a : Int) + 1 < (s.size : Int) := by omega
    have b1 : (a : Int) + 2 ≤ (s.size : Int) := by omega
    have HX2 := fun W b hb => Hid.intro (rindex_two W (s.extract a (a + 2)) b hb)
    rw [← twoL_yes hl] at HX2
    go_enter Try.func23, Try.ntmps23
    go_wp2_with (first | (go_at_call 34; refine (HL _).out.mono ?_; rintro e w1 ⟨rfl, hw1⟩; subst w1) | (go_at_call 36; refine (HD _).out.mono ?_; rintro e w1 ⟨rfl, hw1⟩; subst w1) | (go_at_call 35; refine (HW _).out.mono ?_; rintro e w1 ⟨rfl, hw1⟩; subst w1))
    refine ((HX2 (zeroL w) _ (by simp [zeroL])).out).mono ?_
    rintro e W1 ⟨i1, rfl, hd1, hW1⟩
    have HF1 : Hid (F4 W1 w.heap.size (.int .i64 0) (.string ⟨#[]⟩) (.int .i64 0) (.int .i64 0)) := by rw [hW1]; exact HFt.out
    have HB1 : Hid (Below w.heap.size w W1) := by rw [hW1]; exact HBt.out
    have HL1 : Hid (w.heap.size < W1.heap.size) := by rw [hW1]; exact HLt.out
    clear hW1
    cases h2 : twoL (tl s a) with
    | true =>
      rw [h2] at hd1
      have hm := markL_two ha h2
      obtain ⟨⟨z0, z1, z2, z3⟩, y0, y1, y2, y3⟩ := HF1.out
      go_wp2
      refine bodyPost_ret (v := lxv 4 (s.extract a (a + 2)) (a : Int) ((a : Int) + 2)) ?_ rfl ⟨by rw [hm]; rfl, below_set4 HB1.out (Nat.le_refl _) _ _ _ _⟩
      obtain ⟨⟨g0, g1, g2, g3⟩, -⟩ := HF1.out.put (.int .i64 4) (.string (s.extract a (a + 2))) (.int .i64 (a : Int)) (.int .i64 ((a : Int) + 2))
      simp [results, Try.results23, go_sem, g0, g1, g2, g3, lxv]
    | false =>
      rw [h2] at hd1
      go_wp2_with fail
      refine ((HX1 W1 _ rfl).out).mono ?_
      rintro e W2 ⟨i2, rfl, hd2, hW2⟩
      have HF2 : Hid (F4 W2 w.heap.size (.int .i64 0) (.string ⟨#[]⟩) (.int .i64 0) (.int .i64 0)) := by
        rw [hW2]; exact F4.al HF1.out HL1.out _
      have HB2 : Hid (Below w.heap.size w W2) := by
        rw [hW2]; exact below_al HB1.out _
      obtain ⟨⟨z0, z1, z2, z3⟩, y0, y1, y2, y3⟩ := HF2.out
      clear hW2
      cases h1 : markB s[a] with
      | true =>
        rw [h1] at hd2
        have hm := markL_one ha h2 h1
        go_wp2
        refine bodyPost_ret (v := lxv 4 (s.extract a (a + 1)) (a : Int) ((a : Int) + 1)) ?_ rfl ⟨by rw [hm]; rfl, below_set4 HB2.out (Nat.le_refl _) _ _ _ _⟩
        obtain ⟨⟨g0, g1, g2, g3⟩, -⟩ := HF2.out.put (.int .i64 4) (.string (s.extract a (a + 1))) (.int .i64 (a : Int)) (.int .i64 ((a : Int) + 1))
        simp [results, Try.results23, go_sem, g0, g1, g2, g3, lxv]
      | false =>
        rw [h1] at hd2
        have hm := markL_no ha h2 h1
        go_wp2
        refine bodyPost_ret (v := lxv 0 ⟨#[]⟩ (a : Int) (a : Int)) ?_ rfl ⟨by rw [hm]; exact ⟨_, _, _, rfl, by omega⟩, below_set4 HB2.out (Nat.le_refl _) _ _ _ _⟩
        obtain ⟨⟨g0, g1, g2, g3⟩, -⟩ := HF2.out.put (.int .i64 0) (.string ⟨#[]⟩) (.int .i64 (a : Int)) (.int .i64 (a : Int))
        simp [results, Try.results23, go_sem, g0, g1, g2, g3, lxv]
  · have h2 := twoL_end hl
    have hl' : ¬ (a : Int) + 1 < (s.size : Int) := by omega
    go_enter Try.func23, Try.ntmps23
    go_wp2_with (first | (go_at_call 34; refine (HL _).out.mono ?_; rintro e w1 ⟨rfl, hw1⟩; subst w1) | (go_at_call 36; refine (HD _).out.mono ?_; rintro e w1 ⟨rfl, hw1⟩; subst w1) | (go_at_call 35; refine (HW _).out.mono ?_; rintro e w1 ⟨rfl, hw1⟩; subst w1))
    refine ((HX1 (zeroL w) (w.heap.size + 1) (by simp [zeroL])).out).mono ?_
    rintro e W2 ⟨i2, rfl, hd2, hW2⟩
    have HF2 : Hid (F4 W2 w.heap.size (.int .i64 0) (.string ⟨#[]⟩) (.int .i64 0) (.int .i64 0)) := by
      rw [hW2]; exact F4.al (F4.new w _ _ _ _ _) (by simp) _
    have HB2 : Hid (Below w.heap.size w W2) := by
      rw [hW2]; exact below_al (below_al (Below.refl _ _) _) _
    obtain ⟨⟨z0, z1, z2, z3⟩, y0, y1, y2, y3⟩ := HF2.out
    clear hW2
    cases h1 : markB s[a] with
    | true =>
      rw [h1] at hd2
      have hm := markL_one ha h2 h1
      go_wp2
      refine bodyPost_ret (v := lxv 4 (s.extract a (a + 1)) (a : Int) ((a : Int) + 1)) ?_ rfl ⟨by rw [hm]; rfl, below_set4 HB2.out (Nat.le_refl _) _ _ _ _⟩
      obtain ⟨⟨g0, g1, g2, g3⟩, -⟩ := HF2.out.put (.int .i64 4) (.string (s.extract a (a + 1))) (.int .i64 (a : Int)) (.int .i64 ((a : Int) + 1))
      simp [results, Try.results23, go_sem, g0, g1, g2, g3, lxv]
    | false =>
      rw [h1] at hd2
      have hm := markL_no ha h2 h1
      go_wp2
      refine bodyPost_ret (v := lxv 0 ⟨#[]⟩ (a : Int) (a : Int)) ?_ rfl ⟨by rw [hm]; exact ⟨_, _, _, rfl, by omega⟩, below_set4 HB2.out (Nat.le_refl _) _ _ _ _⟩
      obtain ⟨⟨g0, g1, g2, g3⟩, -⟩ := HF2.out.put (.int .i64 0) (.string ⟨#[]⟩) (.int .i64 (a : Int)) (.int .i64 (a : Int))
      simp [results, Try.results23, go_sem, g0, g1, g2, g3, lxv]
end Go.Proofs.Ytlheiiapolhpeaa
