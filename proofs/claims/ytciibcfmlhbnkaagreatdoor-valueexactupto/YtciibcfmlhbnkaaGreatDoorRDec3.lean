/- proctorref1's reader: value, the kinds that are none, null and bool. -/
import Derived.Test.YtciibcfmlhbnkaaGreatDoorRDec2
import Derived.Test.YtciibcfmlhbnkaaGreatDoorVDec6
namespace Go.Proofs.YtciibcfmlhbnkaaGreatDoor
open Go.RowKit

theorem wordI_1 (c : UInt8) : wordI [c] = c.toNat := by
  have := c.toNat_lt
  simp [wordI, wordN, wrap64]
  omega
theorem wordI_4 {l : List UInt8} (h : ¬ l.length < 4) : wordI (l.take 4) = (wordN (l.take 4) : Int) := by
  have := wordN_lt 4 (l.take 4) (by rw [List.length_take]; omega)
  unfold wordI wrap64
  omega
theorem wordI_r (l : List UInt8) : -9223372036854775808 ≤ wordI l ∧ wordI l ≤ 9223372036854775807 := by
  unfold wordI wrap64
  omega
theorem Rd.same {w : World} {R G off cap : Nat} {l : List UInt8} (h : Rd w R G off cap l) : Rd (w.setCell ⟨R, 1, none⟩ (.bool false)) R G off cap l :=
  ⟨(cell_other _ _ _ _ _ _ (.inr (by decide))).trans h.c0, cell_same h.c1, by simpa using h.f0, by simpa using h.f1, h.le, h.most, by simp [h.lt], by simp [h.ltG], h.ne, fun j hj => (cell_other _ _ _ _ _ _ (.inl h.ne)).trans (h.by_ j hj)⟩

set_option maxRecDepth 20000 in
set_option maxHeartbeats 1000000 in
theorem rval_of {w : World} {R : Nat} (hlt : R < w.heap.size) (G n : Nat) (r : Int) (HW : ∀ w' : World, Below w.heap.size w w' → Hid (Calls Tryz.prog 119 #[.pointer (some ⟨R, 0, none⟩), .int .i64 1] w' fun e w'' => e = .returned (.int .i64 0) ∧ Bd w'' R ∧ Tu R w' w'')) :
    Calls Tryz.prog 70 #[.pointer (some ⟨R, 0, none⟩), .int .i64 r] w fun e w' => Tu R w w' ∧ ValP w R G n e w' none := by
  have hA := below_al (Below.refl w.heap.size w) (.cells #[.int .i64 0, .bool false, .int .i64 0, .string ⟨#[]⟩, .slice none 0 0] 28)
  have HW := HW _ hA
  have HT := Hid.intro (Tu.below (R := R) hA)
  clear hA
  go_enter Tryz.func70, Tryz.ntmps70
  go_wp2_with fail
  refine HW.out.mono ?_
  rintro e w1 ⟨rfl, h1, h2⟩
  have g0 := fun j => h2.cell (g := w.heap.size) (j := j) (by simp) (by omega)
  have z0 := fun j => h2.froz (g := w.heap.size) (j := j) (by simp) (by omega)
  have hs : w.heap.size < w1.heap.size := by have := h2.size; simp at this; omega
  have hs2 : w.heap.size < w1.heap.size + 1 := by omega
  go_wp2_with fail
  refine bodyPost_ret (v := .agg #[.int .i64 0, .bool false, .int .i64 0, .string ⟨#[]⟩, .slice none 0 0]) (by simp [results, Tryz.results70, go_sem, g0, hs]) rfl ⟨?_, ⟨_, _, _, _, _, _, _, rfl⟩, ?_⟩
  · have h3 := HT.out.trans h2
    repeat (first | with_reducible exact h3 | with_reducible refine Tu.al ?_ _ | with_reducible refine Tu.put ?_ (by simp only; omega) _)
  · repeat (first | with_reducible exact h1 | with_reducible refine Bd.al ?_ _ | with_reducible refine Bd.put ?_ (by omega) _)
theorem rval_bad {w : World} {R : Nat} (h : Bd w R) (G n : Nat) (r : Int) : Calls Tryz.prog 70 #[.pointer (some ⟨R, 0, none⟩), .int .i64 r] w fun e w' => Tu R w w' ∧ ValP w R G n e w' none :=
  rval_of h.lt G n r fun _ hb => Hid.intro (rnum_bad (h.below hb) 1)
theorem rval_nil {w : World} {R G off cap : Nat} (h : Rd w R G off cap []) (n : Nat) (r : Int) : Calls Tryz.prog 70 #[.pointer (some ⟨R, 0, none⟩), .int .i64 r] w fun e w' => Tu R w w' ∧ ValP w R G n e w' none :=
  rval_of h.lt G n r fun _ hb => Hid.intro (rnum_no (h.below hb) 1 (by simp))
set_option maxRecDepth 20000 in
set_option maxHeartbeats 2000000 in
theorem rval_0 {c : UInt8} {w : World} {R G off cap : Nat} {l : List UInt8} (q D : Nat) (h : Rd w R G off cap (c :: l)) (hc : c.toNat = 0) :
    Calls Tryz.prog 70 #[.pointer (some ⟨R, 0, none⟩), .int .i64 (D : Int)] w fun e w' => Tu R w w' ∧ ValP w R G (q + 1) e w' (some (zeroT, l)) := by
  have hA := below_al (Below.refl w.heap.size w) (.cells #[.int .i64 0, .bool false, .int .i64 0, .string ⟨#[]⟩, .slice none 0 0] 28)
  have HW := Hid.intro (rnum_yes (h.below hA) 1 (by simp) (by omega))
  rw [show wordI (List.take 1 (c :: l)) = c.toNat from wordI_1 _, show List.drop 1 (c :: l) = l from rfl] at HW
  have HT := Hid.intro (Tu.below (R := R) hA)
  have hlt := h.lt
  have hltG := h.ltG
  clear h hA
  rw [hc] at HW
  go_enter Tryz.func70, Tryz.ntmps70
  go_wp2_with fail
  refine HW.out.mono ?_
  rintro e w1 ⟨rfl, ⟨o1, k1, h1⟩, h2⟩
  have g0 := fun j => h2.cell (g := w.heap.size) (j := j) (by simp) (by omega)
  have z0 := fun j => h2.froz (g := w.heap.size) (j := j) (by simp) (by omega)
  have hs : w.heap.size < w1.heap.size := by have := h2.size; simp at this; omega
  have hs2 : w.heap.size < w1.heap.size + 1 := by omega
  have T1 := Hid.intro (HT.out.trans h2)
  have n1 : ¬ w1.heap.size = w.heap.size := by omega
  have n2 : ¬ w.heap.size = w1.heap.size := by omega
  have hR1 := h1.lt
  have hG1 := h1.ltG
  have n3 : ¬ w1.heap.size = R := by omega
  have n4 : ¬ w.heap.size = R := by omega
  have n5 : ¬ R = w1.heap.size := by omega
  have n6 : ¬ R = w.heap.size := by omega
  clear HW HT h2
  go_wp2_with fail
  refine bodyPost_ret (v := .agg #[.int .i64 0, .bool false, .int .i64 0, .string ⟨#[]⟩, .slice none 0 0]) (by simp [results, Tryz.results70, go_sem, g0, hs]) rfl ⟨?_, ?_⟩
  · (repeat (first | with_reducible exact T1.out | with_reducible refine Tu.al ?_ _ | with_reducible refine Tu.put ?_ (by simp only; omega) _))
  · refine ⟨.slice none 0 0, rfl, vsb_leaf (leaf_wf (by decide) (by decide) (by decide) (by decide) (Nat.zero_le _)) rfl, o1, k1, ?_⟩
    (repeat (first | with_reducible exact h1 | with_reducible refine Rd.al ?_ _ | with_reducible refine Rd.put ?_ (by omega) (by omega) _))
set_option maxRecDepth 20000 in
set_option maxHeartbeats 2000000 in
theorem rval_x {c : UInt8} {w : World} {R G off cap : Nat} {l : List UInt8} (q D : Nat) (h : Rd w R G off cap (c :: l)) (hc : 6 ≤ c.toNat) :
    Calls Tryz.prog 70 #[.pointer (some ⟨R, 0, none⟩), .int .i64 (D : Int)] w fun e w' => Tu R w w' ∧ ValP w R G (q + 1) e w' none := by
  have hA := below_al (Below.refl w.heap.size w) (.cells #[.int .i64 0, .bool false, .int .i64 0, .string ⟨#[]⟩, .slice none 0 0] 28)
  have HW := Hid.intro (rnum_yes (h.below hA) 1 (by simp) (by omega))
  rw [show wordI (List.take 1 (c :: l)) = c.toNat from wordI_1 _, show List.drop 1 (c :: l) = l from rfl] at HW
  have HT := Hid.intro (Tu.below (R := R) hA)
  have hlt := h.lt
  have hltG := h.ltG
  clear h hA
  have hc0 : ((c.toNat : Int) == 0) = false := by simp; omega
  have hc1 : ((c.toNat : Int) == 1) = false := by simp; omega
  have hc2 : ((c.toNat : Int) == 2) = false := by simp; omega
  have hc3 : ((c.toNat : Int) == 3) = false := by simp; omega
  have hc4 : ((c.toNat : Int) == 4) = false := by simp; omega
  have hc5 : ((c.toNat : Int) == 5) = false := by simp; omega
  have hcl := c.toNat_lt
  have hcw : IntKind.i64.wrap (c.toNat : Int) = (c.toNat : Int) := by simp [IntKind.wrap, IntKind.bits, IntKind.signed]; omega
  generalize (c.toNat : Int) = K at *
  go_enter Tryz.func70, Tryz.ntmps70
  go_wp2_with fail
  refine HW.out.mono ?_
  rintro e w1 ⟨rfl, ⟨o1, k1, h1⟩, h2⟩
  have g0 := fun j => h2.cell (g := w.heap.size) (j := j) (by simp) (by omega)
  have z0 := fun j => h2.froz (g := w.heap.size) (j := j) (by simp) (by omega)
  have hs : w.heap.size < w1.heap.size := by have := h2.size; simp at this; omega
  have hs2 : w.heap.size < w1.heap.size + 1 := by omega
  have T1 := Hid.intro (HT.out.trans h2)
  have n1 : ¬ w1.heap.size = w.heap.size := by omega
  have n2 : ¬ w.heap.size = w1.heap.size := by omega
  have hR1 := h1.lt
  have hG1 := h1.ltG
  have n3 : ¬ w1.heap.size = R := by omega
  have n4 : ¬ w.heap.size = R := by omega
  have n5 : ¬ R = w1.heap.size := by omega
  have n6 : ¬ R = w.heap.size := by omega
  clear HW HT h2
  have e1 := h1.c1
  have e2 := h1.f1
  have hX := h1.bad
  have TX : Tu R w (w1.setCell ⟨R, 1, none⟩ (.bool true)) := T1.out.trans (Tu.set R 1 w1 _)
  have f0 : ((w1.setCell ⟨R, 1, none⟩ (.bool true)).alloc (.cells #[.int .i64 K, .bool false, .int .i64 0, .string ⟨#[]⟩, .slice none 0 0] 28)).cell? ⟨w1.heap.size, 0, none⟩ = some (.int .i64 K) := new_cell (by simp) 0
  have f1 : ((w1.setCell ⟨R, 1, none⟩ (.bool true)).alloc (.cells #[.int .i64 K, .bool false, .int .i64 0, .string ⟨#[]⟩, .slice none 0 0] 28)).cell? ⟨w1.heap.size, 1, none⟩ = some (.bool false) := new_cell (by simp) 1
  have f2 : ((w1.setCell ⟨R, 1, none⟩ (.bool true)).alloc (.cells #[.int .i64 K, .bool false, .int .i64 0, .string ⟨#[]⟩, .slice none 0 0] 28)).cell? ⟨w1.heap.size, 2, none⟩ = some (.int .i64 0) := new_cell (by simp) 2
  have f3 : ((w1.setCell ⟨R, 1, none⟩ (.bool true)).alloc (.cells #[.int .i64 K, .bool false, .int .i64 0, .string ⟨#[]⟩, .slice none 0 0] 28)).cell? ⟨w1.heap.size, 3, none⟩ = some (.string ⟨#[]⟩) := new_cell (by simp) 3
  have f4 : ((w1.setCell ⟨R, 1, none⟩ (.bool true)).alloc (.cells #[.int .i64 K, .bool false, .int .i64 0, .string ⟨#[]⟩, .slice none 0 0] 28)).cell? ⟨w1.heap.size, 4, none⟩ = some (.slice none 0 0) := new_cell (by simp) 4
  go_wp2_with fail
  refine bodyPost_ret (v := .agg #[.int .i64 K, .bool false, .int .i64 0, .string ⟨#[]⟩, .slice none 0 0]) (by simp [results, Tryz.results70, go_sem, g0, hs]) rfl ⟨?_, ?_⟩
  · (repeat (first | with_reducible exact TX | with_reducible refine Tu.al ?_ _ | with_reducible refine Tu.put ?_ (by simp only; omega) _))
  · refine ⟨⟨_, _, _, _, _, _, _, rfl⟩, ?_⟩
    (repeat (first | with_reducible exact hX | with_reducible refine Bd.al ?_ _ | with_reducible refine Bd.put ?_ (by omega) _))
set_option maxRecDepth 20000 in
set_option maxHeartbeats 2000000 in
theorem rval_1n {c : UInt8} {w : World} {R G off cap : Nat} {l : List UInt8} (q D : Nat) (h : Rd w R G off cap (c :: l)) (hc : c.toNat = 1) (he : l = []) :
    Calls Tryz.prog 70 #[.pointer (some ⟨R, 0, none⟩), .int .i64 (D : Int)] w fun e w' => Tu R w w' ∧ ValP w R G (q + 1) e w' none := by
  have hA := below_al (Below.refl w.heap.size w) (.cells #[.int .i64 0, .bool false, .int .i64 0, .string ⟨#[]⟩, .slice none 0 0] 28)
  have HW := Hid.intro (rnum_yes (h.below hA) 1 (by simp) (by omega))
  rw [show wordI (List.take 1 (c :: l)) = c.toNat from wordI_1 _, show List.drop 1 (c :: l) = l from rfl] at HW
  have HT := Hid.intro (Tu.below (R := R) hA)
  have hlt := h.lt
  have hltG := h.ltG
  clear h hA
  rw [hc] at HW
  subst he
  go_enter Tryz.func70, Tryz.ntmps70
  go_wp2_with fail
  refine HW.out.mono ?_
  rintro e w1 ⟨rfl, ⟨o1, k1, h1⟩, h2⟩
  have g0 := fun j => h2.cell (g := w.heap.size) (j := j) (by simp) (by omega)
  have z0 := fun j => h2.froz (g := w.heap.size) (j := j) (by simp) (by omega)
  have hs : w.heap.size < w1.heap.size := by have := h2.size; simp at this; omega
  have hs2 : w.heap.size < w1.heap.size + 1 := by omega
  have T1 := Hid.intro (HT.out.trans h2)
  have n1 : ¬ w1.heap.size = w.heap.size := by omega
  have n2 : ¬ w.heap.size = w1.heap.size := by omega
  have hR1 := h1.lt
  have hG1 := h1.ltG
  have n3 : ¬ w1.heap.size = R := by omega
  have n4 : ¬ w.heap.size = R := by omega
  have n5 : ¬ R = w1.heap.size := by omega
  have n6 : ¬ R = w.heap.size := by omega
  clear HW HT h2
  go_wp2_with fail
  refine (rnum_no (h1.al _) 1 (by simp)).mono ?_
  rintro e w2 ⟨rfl, h2, t2⟩
  have a2 := fun j => t2.cell (g := w.heap.size) (j := j) (by first | omega | (simp; omega)) (by omega)
  have b2 := fun j => t2.cell (g := w1.heap.size) (j := j) (by first | omega | (simp; done) | (simp; omega)) (by omega)
  have c2 := fun j => t2.froz (g := w.heap.size) (j := j) (by first | omega | (simp; omega)) (by omega)
  have d2 := fun j => t2.froz (g := w1.heap.size) (j := j) (by first | omega | (simp; done) | (simp; omega)) (by omega)
  have hs2 : w1.heap.size < w2.heap.size := by have := t2.size; first | omega | (simp at this; omega)
  have hr2 : w.heap.size < w2.heap.size := by omega
  have T2 : Hid (Tu R w w2) := Hid.intro (Tu.trans (by (repeat (first | with_reducible exact T1.out | with_reducible refine Tu.al ?_ _ | with_reducible refine Tu.put ?_ (by simp only; omega) _))) t2)
  have e1 := h2.c1
  have e2 := h2.f1
  have hX := h2.bad
  have TX : Tu R w (w2.setCell ⟨R, 1, none⟩ (.bool true)) := T2.out.trans (Tu.set R 1 w2 _)
  go_wp2_with fail
  refine bodyPost_ret (v := .agg #[.int .i64 1, .bool false, .int .i64 0, .string ⟨#[]⟩, .slice none 0 0]) (by simp [results, Tryz.results70, go_sem, g0, hs, a2]) rfl ⟨?_, ?_⟩
  · (repeat (first | with_reducible exact TX | with_reducible refine Tu.al ?_ _ | with_reducible refine Tu.put ?_ (by simp only; omega) _))
  · refine ⟨⟨_, _, _, _, _, _, _, rfl⟩, ?_⟩
    (repeat (first | with_reducible exact hX | with_reducible refine Bd.al ?_ _ | with_reducible refine Bd.put ?_ (by omega) _))
set_option maxRecDepth 20000 in
set_option maxHeartbeats 2000000 in
theorem rval_10 {c d : UInt8} {l0 : List UInt8} {w : World} {R G off cap : Nat} {l : List UInt8} (q D : Nat) (h : Rd w R G off cap (c :: l)) (hc : c.toNat = 1) (hd : d.toNat = 0) (he : l = d :: l0) :
    Calls Tryz.prog 70 #[.pointer (some ⟨R, 0, none⟩), .int .i64 (D : Int)] w fun e w' => Tu R w w' ∧ ValP w R G (q + 1) e w' (some ({ zeroT with k := 1, b := false }, l0)) := by
  have hA := below_al (Below.refl w.heap.size w) (.cells #[.int .i64 0, .bool false, .int .i64 0, .string ⟨#[]⟩, .slice none 0 0] 28)
  have HW := Hid.intro (rnum_yes (h.below hA) 1 (by simp) (by omega))
  rw [show wordI (List.take 1 (c :: l)) = c.toNat from wordI_1 _, show List.drop 1 (c :: l) = l from rfl] at HW
  have HT := Hid.intro (Tu.below (R := R) hA)
  have hlt := h.lt
  have hltG := h.ltG
  clear h hA
  rw [hc] at HW
  subst he
  go_enter Tryz.func70, Tryz.ntmps70
  go_wp2_with fail
  refine HW.out.mono ?_
  rintro e w1 ⟨rfl, ⟨o1, k1, h1⟩, h2⟩
  have g0 := fun j => h2.cell (g := w.heap.size) (j := j) (by simp) (by omega)
  have z0 := fun j => h2.froz (g := w.heap.size) (j := j) (by simp) (by omega)
  have hs : w.heap.size < w1.heap.size := by have := h2.size; simp at this; omega
  have hs2 : w.heap.size < w1.heap.size + 1 := by omega
  have T1 := Hid.intro (HT.out.trans h2)
  have n1 : ¬ w1.heap.size = w.heap.size := by omega
  have n2 : ¬ w.heap.size = w1.heap.size := by omega
  have hR1 := h1.lt
  have hG1 := h1.ltG
  have n3 : ¬ w1.heap.size = R := by omega
  have n4 : ¬ w.heap.size = R := by omega
  have n5 : ¬ R = w1.heap.size := by omega
  have n6 : ¬ R = w.heap.size := by omega
  clear HW HT h2
  have HX := fun o => Hid.intro (rnum_yes (h1.al o) 1 (by simp) (by omega))
  rw [show wordI (List.take 1 (d :: l0)) = 0 from by rw [show List.take 1 (d :: l0) = [d] from rfl, wordI_1, hd]; rfl, show List.drop 1 (d :: l0) = l0 from rfl] at HX
  go_wp2_with fail
  refine ((HX _).out).mono ?_
  rintro e w2 ⟨rfl, ⟨o2, k2, h2⟩, t2⟩
  have a2 := fun j => t2.cell (g := w.heap.size) (j := j) (by first | omega | (simp; omega)) (by omega)
  have b2 := fun j => t2.cell (g := w1.heap.size) (j := j) (by first | omega | (simp; done) | (simp; omega)) (by omega)
  have c2 := fun j => t2.froz (g := w.heap.size) (j := j) (by first | omega | (simp; omega)) (by omega)
  have d2 := fun j => t2.froz (g := w1.heap.size) (j := j) (by first | omega | (simp; done) | (simp; omega)) (by omega)
  have hs2 : w1.heap.size < w2.heap.size := by have := t2.size; first | omega | (simp at this; omega)
  have hr2 : w.heap.size < w2.heap.size := by omega
  have T2 : Hid (Tu R w w2) := Hid.intro (Tu.trans (by (repeat (first | with_reducible exact T1.out | with_reducible refine Tu.al ?_ _ | with_reducible refine Tu.put ?_ (by simp only; omega) _))) t2)
  have e1 := h2.c1
  have e2 := h2.f1
  have hX := h2.same
  have TX : Tu R w (w2.setCell ⟨R, 1, none⟩ (.bool false)) := T2.out.trans (Tu.set R 1 w2 _)
  go_wp2_with fail
  refine bodyPost_ret (v := .agg #[.int .i64 1, .bool false, .int .i64 0, .string ⟨#[]⟩, .slice none 0 0]) (by simp [results, Tryz.results70, go_sem, g0, hs, a2]) rfl ⟨?_, ?_⟩
  · (repeat (first | with_reducible exact TX | with_reducible refine Tu.al ?_ _ | with_reducible refine Tu.put ?_ (by simp only; omega) _))
  · refine ⟨.slice none 0 0, rfl, vsb_leaf (leaf_wf (by decide) (by decide) (by decide) (by decide) (Nat.zero_le _)) rfl, o2, k2, ?_⟩
    (repeat (first | with_reducible exact hX | with_reducible refine Rd.al ?_ _ | with_reducible refine Rd.put ?_ (by omega) (by omega) _))
set_option maxRecDepth 20000 in
set_option maxHeartbeats 2000000 in
theorem rval_11 {c d : UInt8} {l0 : List UInt8} {w : World} {R G off cap : Nat} {l : List UInt8} (q D : Nat) (h : Rd w R G off cap (c :: l)) (hc : c.toNat = 1) (hd : d.toNat = 1) (he : l = d :: l0) :
    Calls Tryz.prog 70 #[.pointer (some ⟨R, 0, none⟩), .int .i64 (D : Int)] w fun e w' => Tu R w w' ∧ ValP w R G (q + 1) e w' (some ({ zeroT with k := 1, b := true }, l0)) := by
  have hA := below_al (Below.refl w.heap.size w) (.cells #[.int .i64 0, .bool false, .int .i64 0, .string ⟨#[]⟩, .slice none 0 0] 28)
  have HW := Hid.intro (rnum_yes (h.below hA) 1 (by simp) (by omega))
  rw [show wordI (List.take 1 (c :: l)) = c.toNat from wordI_1 _, show List.drop 1 (c :: l) = l from rfl] at HW
  have HT := Hid.intro (Tu.below (R := R) hA)
  have hlt := h.lt
  have hltG := h.ltG
  clear h hA
  rw [hc] at HW
  subst he
  go_enter Tryz.func70, Tryz.ntmps70
  go_wp2_with fail
  refine HW.out.mono ?_
  rintro e w1 ⟨rfl, ⟨o1, k1, h1⟩, h2⟩
  have g0 := fun j => h2.cell (g := w.heap.size) (j := j) (by simp) (by omega)
  have z0 := fun j => h2.froz (g := w.heap.size) (j := j) (by simp) (by omega)
  have hs : w.heap.size < w1.heap.size := by have := h2.size; simp at this; omega
  have hs2 : w.heap.size < w1.heap.size + 1 := by omega
  have T1 := Hid.intro (HT.out.trans h2)
  have n1 : ¬ w1.heap.size = w.heap.size := by omega
  have n2 : ¬ w.heap.size = w1.heap.size := by omega
  have hR1 := h1.lt
  have hG1 := h1.ltG
  have n3 : ¬ w1.heap.size = R := by omega
  have n4 : ¬ w.heap.size = R := by omega
  have n5 : ¬ R = w1.heap.size := by omega
  have n6 : ¬ R = w.heap.size := by omega
  clear HW HT h2
  have HX := fun o => Hid.intro (rnum_yes (h1.al o) 1 (by simp) (by omega))
  rw [show wordI (List.take 1 (d :: l0)) = 1 from by rw [show List.take 1 (d :: l0) = [d] from rfl, wordI_1, hd]; rfl, show List.drop 1 (d :: l0) = l0 from rfl] at HX
  go_wp2_with fail
  refine ((HX _).out).mono ?_
  rintro e w2 ⟨rfl, ⟨o2, k2, h2⟩, t2⟩
  have a2 := fun j => t2.cell (g := w.heap.size) (j := j) (by first | omega | (simp; omega)) (by omega)
  have b2 := fun j => t2.cell (g := w1.heap.size) (j := j) (by first | omega | (simp; done) | (simp; omega)) (by omega)
  have c2 := fun j => t2.froz (g := w.heap.size) (j := j) (by first | omega | (simp; omega)) (by omega)
  have d2 := fun j => t2.froz (g := w1.heap.size) (j := j) (by first | omega | (simp; done) | (simp; omega)) (by omega)
  have hs2 : w1.heap.size < w2.heap.size := by have := t2.size; first | omega | (simp at this; omega)
  have hr2 : w.heap.size < w2.heap.size := by omega
  have T2 : Hid (Tu R w w2) := Hid.intro (Tu.trans (by (repeat (first | with_reducible exact T1.out | with_reducible refine Tu.al ?_ _ | with_reducible refine Tu.put ?_ (by simp only; omega) _))) t2)
  have e1 := h2.c1
  have e2 := h2.f1
  have hX := h2.same
  have TX : Tu R w (w2.setCell ⟨R, 1, none⟩ (.bool false)) := T2.out.trans (Tu.set R 1 w2 _)
  go_wp2_with fail
  refine bodyPost_ret (v := .agg #[.int .i64 1, .bool true, .int .i64 0, .string ⟨#[]⟩, .slice none 0 0]) (by simp [results, Tryz.results70, go_sem, g0, hs, a2]) rfl ⟨?_, ?_⟩
  · (repeat (first | with_reducible exact TX | with_reducible refine Tu.al ?_ _ | with_reducible refine Tu.put ?_ (by simp only; omega) _))
  · refine ⟨.slice none 0 0, rfl, vsb_leaf (leaf_wf (by decide) (by decide) (by decide) (by decide) (Nat.zero_le _)) rfl, o2, k2, ?_⟩
    (repeat (first | with_reducible exact hX | with_reducible refine Rd.al ?_ _ | with_reducible refine Rd.put ?_ (by omega) (by omega) _))
set_option maxRecDepth 20000 in
set_option maxHeartbeats 2000000 in
theorem rval_12 {c d : UInt8} {l0 : List UInt8} {w : World} {R G off cap : Nat} {l : List UInt8} (q D : Nat) (h : Rd w R G off cap (c :: l)) (hc : c.toNat = 1) (hd : 2 ≤ d.toNat) (he : l = d :: l0) :
    Calls Tryz.prog 70 #[.pointer (some ⟨R, 0, none⟩), .int .i64 (D : Int)] w fun e w' => Tu R w w' ∧ ValP w R G (q + 1) e w' none := by
  have hA := below_al (Below.refl w.heap.size w) (.cells #[.int .i64 0, .bool false, .int .i64 0, .string ⟨#[]⟩, .slice none 0 0] 28)
  have HW := Hid.intro (rnum_yes (h.below hA) 1 (by simp) (by omega))
  rw [show wordI (List.take 1 (c :: l)) = c.toNat from wordI_1 _, show List.drop 1 (c :: l) = l from rfl] at HW
  have HT := Hid.intro (Tu.below (R := R) hA)
  have hlt := h.lt
  have hltG := h.ltG
  clear h hA
  rw [hc] at HW
  subst he
  go_enter Tryz.func70, Tryz.ntmps70
  go_wp2_with fail
  refine HW.out.mono ?_
  rintro e w1 ⟨rfl, ⟨o1, k1, h1⟩, h2⟩
  have g0 := fun j => h2.cell (g := w.heap.size) (j := j) (by simp) (by omega)
  have z0 := fun j => h2.froz (g := w.heap.size) (j := j) (by simp) (by omega)
  have hs : w.heap.size < w1.heap.size := by have := h2.size; simp at this; omega
  have hs2 : w.heap.size < w1.heap.size + 1 := by omega
  have T1 := Hid.intro (HT.out.trans h2)
  have n1 : ¬ w1.heap.size = w.heap.size := by omega
  have n2 : ¬ w.heap.size = w1.heap.size := by omega
  have hR1 := h1.lt
  have hG1 := h1.ltG
  have n3 : ¬ w1.heap.size = R := by omega
  have n4 : ¬ w.heap.size = R := by omega
  have n5 : ¬ R = w1.heap.size := by omega
  have n6 : ¬ R = w.heap.size := by omega
  clear HW HT h2
  have HX := fun o => Hid.intro (rnum_yes (h1.al o) 1 (by simp) (by omega))
  rw [show wordI (List.take 1 (d :: l0)) = d.toNat from wordI_1 _, show List.drop 1 (d :: l0) = l0 from rfl] at HX
  have hd1 : (1 : Int) < (d.toNat : Int) := by omega
  have hd2 : ((d.toNat : Int) == 1) = false := by simp; omega
  have hd3 : decide ((1 : Int) < (d.toNat : Int)) = true := decide_eq_true (by omega)
  generalize d.toNat = D at *
  go_wp2_with fail
  refine ((HX _).out).mono ?_
  rintro e w2 ⟨rfl, ⟨o2, k2, h2⟩, t2⟩
  have a2 := fun j => t2.cell (g := w.heap.size) (j := j) (by first | omega | (simp; omega)) (by omega)
  have b2 := fun j => t2.cell (g := w1.heap.size) (j := j) (by first | omega | (simp; done) | (simp; omega)) (by omega)
  have c2 := fun j => t2.froz (g := w.heap.size) (j := j) (by first | omega | (simp; omega)) (by omega)
  have d2 := fun j => t2.froz (g := w1.heap.size) (j := j) (by first | omega | (simp; done) | (simp; omega)) (by omega)
  have hs2 : w1.heap.size < w2.heap.size := by have := t2.size; first | omega | (simp at this; omega)
  have hr2 : w.heap.size < w2.heap.size := by omega
  have T2 : Hid (Tu R w w2) := Hid.intro (Tu.trans (by (repeat (first | with_reducible exact T1.out | with_reducible refine Tu.al ?_ _ | with_reducible refine Tu.put ?_ (by simp only; omega) _))) t2)
  have e1 := h2.c1
  have e2 := h2.f1
  have hX := h2.bad
  have TX : Tu R w (w2.setCell ⟨R, 1, none⟩ (.bool true)) := T2.out.trans (Tu.set R 1 w2 _)
  go_wp2_with fail
  refine bodyPost_ret (v := .agg #[.int .i64 1, .bool false, .int .i64 0, .string ⟨#[]⟩, .slice none 0 0]) (by simp [results, Tryz.results70, go_sem, g0, hs, a2]) rfl ⟨?_, ?_⟩
  · (repeat (first | with_reducible exact TX | with_reducible refine Tu.al ?_ _ | with_reducible refine Tu.put ?_ (by simp only; omega) _))
  · refine ⟨⟨_, _, _, _, _, _, _, rfl⟩, ?_⟩
    (repeat (first | with_reducible exact hX | with_reducible refine Bd.al ?_ _ | with_reducible refine Bd.put ?_ (by omega) _))
end Go.Proofs.YtciibcfmlhbnkaaGreatDoor
