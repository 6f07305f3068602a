/- The reference: one, of a quoted text, of a mark. -/
import Derived.Test.YtlheiiapolhpeaaLRef5
namespace Go.Proofs.Ytlheiiapolhpeaa
open Go.RowKit

set_option maxRecDepth 100000 in
set_option maxHeartbeats 8000000 in
theorem rone_quo (s : ByteArray) (a : Nat) (ha : a < s.size) (hs : s.size ≤ 1000000) (c4 : (s[a].toNat : Int) = 34) (w : World) :
    Calls Try.prog 23 #[.string s, .int .i64 (a : Int)] w fun x w' => ROne (quoL a (tl s (a + 1))) a x ∧ Below w.heap.size w w' := by
  have hi : (a : Int) < (s.size : Int) := by omega
  have HL := fun w => Hid.intro (rletter_any (s[a].toNat : Int) w)
  rw [show letB (s[a].toNat : Int) = false from by rw [c4]; rfl] at HL
  have HD := fun w => Hid.intro (rdigit_any (s[a].toNat : Int) w)
  rw [show digB (s[a].toNat : Int) = false from by rw [c4]; rfl] at HD
  have c3b : ((s[a].toNat : Int) == 36) = false := by rw [c4]; rfl
  have c4b : ((s[a].toNat : Int) == 34) = true := beq_iff_eq.2 c4
  clear c4
  have HQ := fun w => Hid.intro (rquoted_any s a ha hs w)
  unfold quoL
  generalize quo (tl s (a + 1)) = R at *
  cases R with
  | none =>
    simp only [rqv] at HQ
    go_enter Try.func23, Try.ntmps23
    go_wp2_with (first | (go_at_call 34; refine (HL _).out.mono ?_; rintro e w1 ⟨rfl, hw1⟩; subst w1) | (go_at_call 36; refine (HD _).out.mono ?_; rintro e w1 ⟨rfl, hw1⟩; subst w1) | (go_at_call 37; refine (HQ _).out.mono ?_; rintro e w1 ⟨rfl, hw1⟩; have HF := Hid.intro (F4.call hw1); have HB := Hid.intro (below_of hw1); obtain ⟨⟨z0, z1, z2, z3⟩, y0, y1, y2, y3⟩ := HF.out; clear hw1))
    refine bodyPost_ret (v := lxv 3 ⟨#[]⟩ (a : Int) (-1)) ?_ rfl ⟨⟨_, _, _, rfl, by omega⟩, below_set4 HB.out (Nat.le_refl _) _ _ _ _⟩
    obtain ⟨⟨g0, g1, g2, g3⟩, -⟩ := HF.out.put (.int .i64 3) (.string ⟨#[]⟩) (.int .i64 (a : Int)) (.int .i64 (-1))
    simp [results, Try.results23, go_sem, g0, g1, g2, g3, lxv]
  | some q =>
    simp only [rqv] at HQ
    generalize hE : a + 1 + q.2 = E at *
    go_enter Try.func23, Try.ntmps23
    go_wp2_with (first | (go_at_call 34; refine (HL _).out.mono ?_; rintro e w1 ⟨rfl, hw1⟩; subst w1) | (go_at_call 36; refine (HD _).out.mono ?_; rintro e w1 ⟨rfl, hw1⟩; subst w1) | (go_at_call 37; refine (HQ _).out.mono ?_; rintro e w1 ⟨rfl, hw1⟩; have HF := Hid.intro (F4.call hw1); have HB := Hid.intro (below_of hw1); obtain ⟨⟨z0, z1, z2, z3⟩, y0, y1, y2, y3⟩ := HF.out; clear hw1))
    refine bodyPost_ret (v := lxv 3 (bs q.1) (a : Int) (E : Int)) ?_ rfl ⟨by rw [← hE]; rfl, below_set4 HB.out (Nat.le_refl _) _ _ _ _⟩
    obtain ⟨⟨g0, g1, g2, g3⟩, -⟩ := HF.out.put (.int .i64 3) (.string (bs q.1)) (.int .i64 (a : Int)) (.int .i64 (E : Int))
    simp [results, Try.results23, go_sem, g0, g1, g2, g3, lxv]

def zeroL (w : World) : World := w.alloc (.cells #[.int .i64 0, .string ⟨#[]⟩, .int .i64 0, .int .i64 0] 32)
def twoW (w : World) : World := w.alloc (.cells ((twos.map bs).map Value.string).toArray 9)
def oneW (w : World) : World := w.alloc (.cells ((m1.map (fun c => bs [c])).map Value.string).toArray 9)
theorem rindex_two (W : World) (x : ByteArray) (b : Nat) (hb : b = W.heap.size) : Calls Try.prog 18 #[.slice (some ⟨b, 0, none⟩) 6 6, .string x] (twoW W) fun e w' => ∃ i : Int, e = .returned (.int .i64 i) ∧ decide (0 ≤ i) = twoB x ∧ w' = twoW W := by
  have h := rindex_any (twos.map bs) _ (tv_lit W (twos.map bs) (by decide)) x
  rw [twoB_in] at h
  subst hb
  exact h
theorem rindex_one (W : World) (c : UInt8) (b : Nat) (hb : b = W.heap.size) : Calls Try.prog 18 #[.slice (some ⟨b, 0, none⟩) 20 20, .string (bs [c])] (oneW W) fun e w' => ∃ i : Int, e = .returned (.int .i64 i) ∧ decide (0 ≤ i) = markB c ∧ w' = oneW W := by
  have h := rindex_any (m1.map (fun c => bs [c])) _ (tv_lit W (m1.map (fun c => bs [c])) (by decide)) (bs [c])
  rw [markB_in] at h
  subst hb
  exact h
theorem ex_one {s : ByteArray} {a : Nat} (h : a < s.size) : s.extract a (a + 1) = bs [s[a]] := by
  rw [bs_extract, Nat.add_sub_cancel_left, tl_cons h]; rfl
theorem F4.al {w : World} {b : Nat} {x0 x1 x2 x3 : Value} (h : F4 w b x0 x1 x2 x3) (hb : b < w.heap.size) (o : Obj) : F4 (w.alloc o) b x0 x1 x2 x3 := h.below hb (below_al (Below.refl _ _) o)

theorem markL_two {s : ByteArray} {a : Nat} (ha : a < s.size) (h2 : twoL (tl s a) = true) : markL a (tl s a) = some ⟨4, s.extract a (a + 2), a, a + 2⟩ := by
  have e : s.extract a (a + 2) = bs ((tl s a).take 2) := by rw [bs_extract, Nat.add_sub_cancel_left]
  rw [e]
  rw [tl_cons ha] at h2 ⊢
  unfold markL
  simp only
  rw [if_pos h2]
theorem markL_one {s : ByteArray} {a : Nat} (ha : a < s.size) (h2 : twoL (tl s a) = false) (h1 : markB s[a] = true) : markL a (tl s a) = some ⟨4, s.extract a (a + 1), a, a + 1⟩ := by
  rw [ex_one ha]
  rw [tl_cons ha] at h2 ⊢
  unfold markL
  simp only
  rw [if_neg (by rw [h2]; decide), if_pos h1]
theorem markL_no {s : ByteArray} {a : Nat} (ha : a < s.size) (h2 : twoL (tl s a) = false) (h1 : markB s[a] = false) : markL a (tl s a) = none := by
  rw [tl_cons ha] at h2 ⊢
  unfold markL
  simp only
  rw [if_neg (by rw [h2]; decide), if_neg (by rw [h1]; decide)]
theorem twoL_yes {s : ByteArray} {a : Nat} (h : a + 1 < s.size) : twoL (tl s a) = twoB (s.extract a (a + 2)) := by
  have hl2 : 2 ≤ (tl s a).length := by rw [tl_len]; omega
  rw [bs_extract, Nat.add_sub_cancel_left]; simp [twoL, hl2]
theorem twoL_end {s : ByteArray} {a : Nat} (h : ¬ a + 1 < s.size) : twoL (tl s a) = false := by
  have hl2 : ¬ 2 ≤ (tl s a).length := by rw [tl_len]; omega
  simp [twoL, hl2]
end Go.Proofs.Ytlheiiapolhpeaa
