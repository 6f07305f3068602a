/- proctorref1's reader: value, numbers, facts, texts, lists that may not be. -/
import Derived.Test.YtciibcfmlhbnkaaGreatDoorRDec3
import Derived.Test.YtciibcfmlhbnkaaGreatDoorVCodP
import Derived.Deep.DeepCutAuto
namespace Go.Proofs.YtciibcfmlhbnkaaGreatDoor
open Go.RowKit

set_option maxRecDepth 20000 in
set_option maxHeartbeats 2000000 in
theorem rval_2n {c : UInt8} {w : World} {R G off cap : Nat} {l : List UInt8} (q D : Nat) (h : Rd w R G off cap (c :: l)) (hc : c.toNat = 2) (he : l.length < 8) :
    Calls Tryz.prog 70 #[.pointer (some ⟨R, 0, none⟩), .int .i64 (D : Int)] w fun e w' => Tu R w w' ∧ ValP w R G (q + 1) e w' none := by
  have hA := below_al (Below.refl w.heap.size w) (.cells #[.int .i64 0, .bool false, .int .i64 0, .string ⟨#[]⟩, .slice none 0 0] 28)
  have HW := Hid.intro (rnum_yes (h.below hA) 1 (by simp) (by omega))
  rw [show wordI (List.take 1 (c :: l)) = c.toNat from wordI_1 _, show List.drop 1 (c :: l) = l from rfl] at HW
  have HT := Hid.intro (Tu.below (R := R) hA)
  have hlt := h.lt
  have hltG := h.ltG
  clear h hA
  rw [hc] at HW
  go_enter Tryz.func70, Tryz.ntmps70
  go_wp2_with fail
  refine HW.out.mono ?_
  rintro e w1 ⟨rfl, ⟨o1, k1, h1⟩, h2⟩
  have g0 := fun j => h2.cell (g := w.heap.size) (j := j) (by simp) (by omega)
  have z0 := fun j => h2.froz (g := w.heap.size) (j := j) (by simp) (by omega)
  have hs : w.heap.size < w1.heap.size := by have := h2.size; simp at this; omega
  have hs2 : w.heap.size < w1.heap.size + 1 := by omega
  have T1 := Hid.intro (HT.out.trans h2)
  have n1 : ¬ w1.heap.size = w.heap.size := by omega
  have n2 : ¬ w.heap.size = w1.heap.size := by omega
  have hR1 := h1.lt
  have hG1 := h1.ltG
  have n3 : ¬ w1.heap.size = R := by omega
  have n4 : ¬ w.heap.size = R := by omega
  have n5 : ¬ R = w1.heap.size := by omega
  have n6 : ¬ R = w.heap.size := by omega
  clear HW HT h2
  go_wp2_with fail
  refine (rnum_no (h1.al _) 8 (by omega)).mono ?_
  rintro e w2 ⟨rfl, h2, t2⟩
  have a2 := fun j => t2.cell (g := w.heap.size) (j := j) (by first | omega | (simp; omega)) (by omega)
  have b2 := fun j => t2.cell (g := w1.heap.size) (j := j) (by first | omega | (simp; done) | (simp; omega)) (by omega)
  have c2 := fun j => t2.froz (g := w.heap.size) (j := j) (by first | omega | (simp; omega)) (by omega)
  have d2 := fun j => t2.froz (g := w1.heap.size) (j := j) (by first | omega | (simp; done) | (simp; omega)) (by omega)
  have hs2 : w1.heap.size < w2.heap.size := by have := t2.size; first | omega | (simp at this; omega)
  have hr2 : w.heap.size < w2.heap.size := by omega
  have T2 : Hid (Tu R w w2) := Hid.intro (Tu.trans (by (repeat (first | with_reducible exact T1.out | with_reducible refine Tu.al ?_ _ | with_reducible refine Tu.put ?_ (by simp only; omega) _))) t2)
  go_wp2_with fail
  refine bodyPost_ret (v := .agg #[.int .i64 2, .bool false, .int .i64 0, .string ⟨#[]⟩, .slice none 0 0]) (by simp [results, Tryz.results70, go_sem, g0, hs, a2]) rfl ⟨?_, ?_⟩
  · (repeat (first | with_reducible exact T2.out | with_reducible refine Tu.al ?_ _ | with_reducible refine Tu.put ?_ (by simp only; omega) _))
  · refine ⟨⟨_, _, _, _, _, _, _, rfl⟩, ?_⟩
    (repeat (first | with_reducible exact h2 | with_reducible refine Bd.al ?_ _ | with_reducible refine Bd.put ?_ (by omega) _))
set_option maxRecDepth 20000 in
set_option maxHeartbeats 2000000 in
theorem rval_2 {c : UInt8} {w : World} {R G off cap : Nat} {l : List UInt8} (q D : Nat) (h : Rd w R G off cap (c :: l)) (hc : c.toNat = 2) (he : ¬ l.length < 8) :
    Calls Tryz.prog 70 #[.pointer (some ⟨R, 0, none⟩), .int .i64 (D : Int)] w fun e w' => Tu R w w' ∧ ValP w R G (q + 1) e w' (some ({ zeroT with k := 2, i := wordI (l.take 8) }, l.drop 8)) := by
  have hA := below_al (Below.refl w.heap.size w) (.cells #[.int .i64 0, .bool false, .int .i64 0, .string ⟨#[]⟩, .slice none 0 0] 28)
  have HW := Hid.intro (rnum_yes (h.below hA) 1 (by simp) (by omega))
  rw [show wordI (List.take 1 (c :: l)) = c.toNat from wordI_1 _, show List.drop 1 (c :: l) = l from rfl] at HW
  have HT := Hid.intro (Tu.below (R := R) hA)
  have hlt := h.lt
  have hltG := h.ltG
  clear h hA
  rw [hc] at HW
  have hr1 := Hid.intro (wordI_r (l.take 8))
  generalize hI : wordI (l.take 8) = I at hr1 ⊢
  go_enter Tryz.func70, Tryz.ntmps70
  go_wp2_with fail
  refine HW.out.mono ?_
  rintro e w1 ⟨rfl, ⟨o1, k1, h1⟩, h2⟩
  have g0 := fun j => h2.cell (g := w.heap.size) (j := j) (by simp) (by omega)
  have z0 := fun j => h2.froz (g := w.heap.size) (j := j) (by simp) (by omega)
  have hs : w.heap.size < w1.heap.size := by have := h2.size; simp at this; omega
  have hs2 : w.heap.size < w1.heap.size + 1 := by omega
  have T1 := Hid.intro (HT.out.trans h2)
  have n1 : ¬ w1.heap.size = w.heap.size := by omega
  have n2 : ¬ w.heap.size = w1.heap.size := by omega
  have hR1 := h1.lt
  have hG1 := h1.ltG
  have n3 : ¬ w1.heap.size = R := by omega
  have n4 : ¬ w.heap.size = R := by omega
  have n5 : ¬ R = w1.heap.size := by omega
  have n6 : ¬ R = w.heap.size := by omega
  clear HW HT h2
  have HX := fun o => Hid.intro (rnum_yes (h1.al o) 8 (by omega) (by omega))
  simp only [hI] at HX
  clear hI
  go_wp2_with fail
  refine ((HX _).out).mono ?_
  rintro e w2 ⟨rfl, ⟨o2, k2, h2⟩, t2⟩
  have a2 := fun j => t2.cell (g := w.heap.size) (j := j) (by first | omega | (simp; omega)) (by omega)
  have b2 := fun j => t2.cell (g := w1.heap.size) (j := j) (by first | omega | (simp; done) | (simp; omega)) (by omega)
  have c2 := fun j => t2.froz (g := w.heap.size) (j := j) (by first | omega | (simp; omega)) (by omega)
  have d2 := fun j => t2.froz (g := w1.heap.size) (j := j) (by first | omega | (simp; done) | (simp; omega)) (by omega)
  have hs2 : w1.heap.size < w2.heap.size := by have := t2.size; first | omega | (simp at this; omega)
  have hr2 : w.heap.size < w2.heap.size := by omega
  have T2 : Hid (Tu R w w2) := Hid.intro (Tu.trans (by (repeat (first | with_reducible exact T1.out | with_reducible refine Tu.al ?_ _ | with_reducible refine Tu.put ?_ (by simp only; omega) _))) t2)
  go_wp2_with fail
  refine bodyPost_ret (v := .agg #[.int .i64 2, .bool false, .int .i64 I, .string ⟨#[]⟩, .slice none 0 0]) (by simp [results, Tryz.results70, go_sem, g0, hs, a2]) rfl ⟨?_, ?_⟩
  · (repeat (first | with_reducible exact T2.out | with_reducible refine Tu.al ?_ _ | with_reducible refine Tu.put ?_ (by simp only; omega) _))
  · refine ⟨.slice none 0 0, rfl, vsb_leaf (leaf_wf (by decide) (by decide) hr1.out.1 hr1.out.2 (Nat.zero_le _)) rfl, o2, k2, ?_⟩
    (repeat (first | with_reducible exact h2 | with_reducible refine Rd.al ?_ _ | with_reducible refine Rd.put ?_ (by omega) (by omega) _))
set_option maxRecDepth 20000 in
set_option maxHeartbeats 2000000 in
theorem rval_5n {c : UInt8} {w : World} {R G off cap : Nat} {l : List UInt8} (q D : Nat) (h : Rd w R G off cap (c :: l)) (hc : c.toNat = 5) (he : l.length < 8) :
    Calls Tryz.prog 70 #[.pointer (some ⟨R, 0, none⟩), .int .i64 (D : Int)] w fun e w' => Tu R w w' ∧ ValP w R G (q + 1) e w' none := by
  have hA := below_al (Below.refl w.heap.size w) (.cells #[.int .i64 0, .bool false, .int .i64 0, .string ⟨#[]⟩, .slice none 0 0] 28)
  have HW := Hid.intro (rnum_yes (h.below hA) 1 (by simp) (by omega))
  rw [show wordI (List.take 1 (c :: l)) = c.toNat from wordI_1 _, show List.drop 1 (c :: l) = l from rfl] at HW
  have HT := Hid.intro (Tu.below (R := R) hA)
  have hlt := h.lt
  have hltG := h.ltG
  clear h hA
  rw [hc] at HW
  go_enter Tryz.func70, Tryz.ntmps70
  go_wp2_with fail
  refine HW.out.mono ?_
  rintro e w1 ⟨rfl, ⟨o1, k1, h1⟩, h2⟩
  have g0 := fun j => h2.cell (g := w.heap.size) (j := j) (by simp) (by omega)
  have z0 := fun j => h2.froz (g := w.heap.size) (j := j) (by simp) (by omega)
  have hs : w.heap.size < w1.heap.size := by have := h2.size; simp at this; omega
  have hs2 : w.heap.size < w1.heap.size + 1 := by omega
  have T1 := Hid.intro (HT.out.trans h2)
  have n1 : ¬ w1.heap.size = w.heap.size := by omega
  have n2 : ¬ w.heap.size = w1.heap.size := by omega
  have hR1 := h1.lt
  have hG1 := h1.ltG
  have n3 : ¬ w1.heap.size = R := by omega
  have n4 : ¬ w.heap.size = R := by omega
  have n5 : ¬ R = w1.heap.size := by omega
  have n6 : ¬ R = w.heap.size := by omega
  clear HW HT h2
  go_wp2_with fail
  refine (rnum_no (h1.al _) 8 (by omega)).mono ?_
  rintro e w2 ⟨rfl, h2, t2⟩
  have a2 := fun j => t2.cell (g := w.heap.size) (j := j) (by first | omega | (simp; omega)) (by omega)
  have b2 := fun j => t2.cell (g := w1.heap.size) (j := j) (by first | omega | (simp; done) | (simp; omega)) (by omega)
  have c2 := fun j => t2.froz (g := w.heap.size) (j := j) (by first | omega | (simp; omega)) (by omega)
  have d2 := fun j => t2.froz (g := w1.heap.size) (j := j) (by first | omega | (simp; done) | (simp; omega)) (by omega)
  have hs2 : w1.heap.size < w2.heap.size := by have := t2.size; first | omega | (simp at this; omega)
  have hr2 : w.heap.size < w2.heap.size := by omega
  have T2 : Hid (Tu R w w2) := Hid.intro (Tu.trans (by (repeat (first | with_reducible exact T1.out | with_reducible refine Tu.al ?_ _ | with_reducible refine Tu.put ?_ (by simp only; omega) _))) t2)
  go_wp2_with fail
  refine bodyPost_ret (v := .agg #[.int .i64 5, .bool false, .int .i64 0, .string ⟨#[]⟩, .slice none 0 0]) (by simp [results, Tryz.results70, go_sem, g0, hs, a2]) rfl ⟨?_, ?_⟩
  · (repeat (first | with_reducible exact T2.out | with_reducible refine Tu.al ?_ _ | with_reducible refine Tu.put ?_ (by simp only; omega) _))
  · refine ⟨⟨_, _, _, _, _, _, _, rfl⟩, ?_⟩
    (repeat (first | with_reducible exact h2 | with_reducible refine Bd.al ?_ _ | with_reducible refine Bd.put ?_ (by omega) _))
set_option maxRecDepth 20000 in
set_option maxHeartbeats 2000000 in
theorem rval_5 {c : UInt8} {w : World} {R G off cap : Nat} {l : List UInt8} (q D : Nat) (h : Rd w R G off cap (c :: l)) (hc : c.toNat = 5) (he : ¬ l.length < 8) :
    Calls Tryz.prog 70 #[.pointer (some ⟨R, 0, none⟩), .int .i64 (D : Int)] w fun e w' => Tu R w w' ∧ ValP w R G (q + 1) e w' (some ({ zeroT with k := 5, i := wordI (l.take 8) }, l.drop 8)) := by
  have hA := below_al (Below.refl w.heap.size w) (.cells #[.int .i64 0, .bool false, .int .i64 0, .string ⟨#[]⟩, .slice none 0 0] 28)
  have HW := Hid.intro (rnum_yes (h.below hA) 1 (by simp) (by omega))
  rw [show wordI (List.take 1 (c :: l)) = c.toNat from wordI_1 _, show List.drop 1 (c :: l) = l from rfl] at HW
  have HT := Hid.intro (Tu.below (R := R) hA)
  have hlt := h.lt
  have hltG := h.ltG
  clear h hA
  rw [hc] at HW
  have hr1 := Hid.intro (wordI_r (l.take 8))
  generalize hI : wordI (l.take 8) = I at hr1 ⊢
  go_enter Tryz.func70, Tryz.ntmps70
  go_wp2_with fail
  refine HW.out.mono ?_
  rintro e w1 ⟨rfl, ⟨o1, k1, h1⟩, h2⟩
  have g0 := fun j => h2.cell (g := w.heap.size) (j := j) (by simp) (by omega)
  have z0 := fun j => h2.froz (g := w.heap.size) (j := j) (by simp) (by omega)
  have hs : w.heap.size < w1.heap.size := by have := h2.size; simp at this; omega
  have hs2 : w.heap.size < w1.heap.size + 1 := by omega
  have T1 := Hid.intro (HT.out.trans h2)
  have n1 : ¬ w1.heap.size = w.heap.size := by omega
  have n2 : ¬ w.heap.size = w1.heap.size := by omega
  have hR1 := h1.lt
  have hG1 := h1.ltG
  have n3 : ¬ w1.heap.size = R := by omega
  have n4 : ¬ w.heap.size = R := by omega
  have n5 : ¬ R = w1.heap.size := by omega
  have n6 : ¬ R = w.heap.size := by omega
  clear HW HT h2
  have HX := fun o => Hid.intro (rnum_yes (h1.al o) 8 (by omega) (by omega))
  simp only [hI] at HX
  clear hI
  go_wp2_with fail
  refine ((HX _).out).mono ?_
  rintro e w2 ⟨rfl, ⟨o2, k2, h2⟩, t2⟩
  have a2 := fun j => t2.cell (g := w.heap.size) (j := j) (by first | omega | (simp; omega)) (by omega)
  have b2 := fun j => t2.cell (g := w1.heap.size) (j := j) (by first | omega | (simp; done) | (simp; omega)) (by omega)
  have c2 := fun j => t2.froz (g := w.heap.size) (j := j) (by first | omega | (simp; omega)) (by omega)
  have d2 := fun j => t2.froz (g := w1.heap.size) (j := j) (by first | omega | (simp; done) | (simp; omega)) (by omega)
  have hs2 : w1.heap.size < w2.heap.size := by have := t2.size; first | omega | (simp at this; omega)
  have hr2 : w.heap.size < w2.heap.size := by omega
  have T2 : Hid (Tu R w w2) := Hid.intro (Tu.trans (by (repeat (first | with_reducible exact T1.out | with_reducible refine Tu.al ?_ _ | with_reducible refine Tu.put ?_ (by simp only; omega) _))) t2)
  go_wp2_with fail
  refine bodyPost_ret (v := .agg #[.int .i64 5, .bool false, .int .i64 I, .string ⟨#[]⟩, .slice none 0 0]) (by simp [results, Tryz.results70, go_sem, g0, hs, a2]) rfl ⟨?_, ?_⟩
  · (repeat (first | with_reducible exact T2.out | with_reducible refine Tu.al ?_ _ | with_reducible refine Tu.put ?_ (by simp only; omega) _))
  · refine ⟨.slice none 0 0, rfl, vsb_leaf (leaf_wf (by decide) (by decide) hr1.out.1 hr1.out.2 (Nat.zero_le _)) rfl, o2, k2, ?_⟩
    (repeat (first | with_reducible exact h2 | with_reducible refine Rd.al ?_ _ | with_reducible refine Rd.put ?_ (by omega) (by omega) _))
set_option maxRecDepth 20000 in
set_option maxHeartbeats 2000000 in
theorem rval_3n {c : UInt8} {w : World} {R G off cap : Nat} {l : List UInt8} (q D : Nat) (h : Rd w R G off cap (c :: l)) (hc : c.toNat = 3) (he : l.length < 4) :
    Calls Tryz.prog 70 #[.pointer (some ⟨R, 0, none⟩), .int .i64 (D : Int)] w fun e w' => Tu R w w' ∧ ValP w R G (q + 1) e w' none := by
  have hA := below_al (Below.refl w.heap.size w) (.cells #[.int .i64 0, .bool false, .int .i64 0, .string ⟨#[]⟩, .slice none 0 0] 28)
  have HW := Hid.intro (rnum_yes (h.below hA) 1 (by simp) (by omega))
  rw [show wordI (List.take 1 (c :: l)) = c.toNat from wordI_1 _, show List.drop 1 (c :: l) = l from rfl] at HW
  have HT := Hid.intro (Tu.below (R := R) hA)
  have hlt := h.lt
  have hltG := h.ltG
  clear h hA
  rw [hc] at HW
  go_enter Tryz.func70, Tryz.ntmps70
  go_wp2_with fail
  refine HW.out.mono ?_
  rintro e w1 ⟨rfl, ⟨o1, k1, h1⟩, h2⟩
  have g0 := fun j => h2.cell (g := w.heap.size) (j := j) (by simp) (by omega)
  have z0 := fun j => h2.froz (g := w.heap.size) (j := j) (by simp) (by omega)
  have hs : w.heap.size < w1.heap.size := by have := h2.size; simp at this; omega
  have hs2 : w.heap.size < w1.heap.size + 1 := by omega
  have T1 := Hid.intro (HT.out.trans h2)
  have n1 : ¬ w1.heap.size = w.heap.size := by omega
  have n2 : ¬ w.heap.size = w1.heap.size := by omega
  have hR1 := h1.lt
  have hG1 := h1.ltG
  have n3 : ¬ w1.heap.size = R := by omega
  have n4 : ¬ w.heap.size = R := by omega
  have n5 : ¬ R = w1.heap.size := by omega
  have n6 : ¬ R = w.heap.size := by omega
  clear HW HT h2
  have hconv : ∀ w' : World, (convert 50 9 (.slice none 0 0)).run Tryz.prog w' = .ok (.string ⟨#[]⟩) w' := fun w' => run_convert_bytes_nil (w := w') 50 5 Tryz.underlying50 Tryz.underlying5 0 0 _ Tryz.underlying9
  go_wp2_with fail
  refine (rnum_no (h1.al _) 4 (by omega)).mono ?_
  rintro e w2 ⟨rfl, h2, t2⟩
  have a2 := fun j => t2.cell (g := w.heap.size) (j := j) (by first | omega | (simp; omega)) (by omega)
  have b2 := fun j => t2.cell (g := w1.heap.size) (j := j) (by first | omega | (simp; done) | (simp; omega)) (by omega)
  have c2 := fun j => t2.froz (g := w.heap.size) (j := j) (by first | omega | (simp; omega)) (by omega)
  have d2 := fun j => t2.froz (g := w1.heap.size) (j := j) (by first | omega | (simp; done) | (simp; omega)) (by omega)
  have hs2 : w1.heap.size < w2.heap.size := by have := t2.size; first | omega | (simp at this; omega)
  have hr2 : w.heap.size < w2.heap.size := by omega
  have T2 : Hid (Tu R w w2) := Hid.intro (Tu.trans (by (repeat (first | with_reducible exact T1.out | with_reducible refine Tu.al ?_ _ | with_reducible refine Tu.put ?_ (by simp only; omega) _))) t2)
  go_wp2_with fail
  refine (rtake_bad h2 0).mono ?_
  rintro e w3 ⟨rfl, h3, t3⟩
  have a3 := fun j => t3.cell (g := w.heap.size) (j := j) (by first | omega | (simp; omega)) (by omega)
  have b3 := fun j => t3.cell (g := w1.heap.size) (j := j) (by first | omega | (simp; done) | (simp; omega)) (by omega)
  have c3 := fun j => t3.froz (g := w.heap.size) (j := j) (by first | omega | (simp; omega)) (by omega)
  have d3 := fun j => t3.froz (g := w1.heap.size) (j := j) (by first | omega | (simp; done) | (simp; omega)) (by omega)
  have hs3 : w1.heap.size < w3.heap.size := by have := t3.size; first | omega | (simp at this; omega)
  have hr3 : w.heap.size < w3.heap.size := by omega
  have T3 : Hid (Tu R w w3) := Hid.intro (Tu.trans (by (repeat (first | with_reducible exact T2.out | with_reducible refine Tu.al ?_ _ | with_reducible refine Tu.put ?_ (by simp only; omega) _))) t3)
  go_wp2_with fail
  refine bodyPost_ret (v := .agg #[.int .i64 3, .bool false, .int .i64 0, .string ⟨#[]⟩, .slice none 0 0]) (by simp [results, Tryz.results70, go_sem, g0, hs, a2, a3]) rfl ⟨?_, ?_⟩
  · (repeat (first | with_reducible exact T3.out | with_reducible refine Tu.al ?_ _ | with_reducible refine Tu.put ?_ (by simp only; omega) _))
  · refine ⟨⟨_, _, _, _, _, _, _, rfl⟩, ?_⟩
    (repeat (first | with_reducible exact h3 | with_reducible refine Bd.al ?_ _ | with_reducible refine Bd.put ?_ (by omega) _))
set_option maxRecDepth 20000 in
set_option maxHeartbeats 2000000 in
theorem rval_3m {c : UInt8} {w : World} {R G off cap : Nat} {l : List UInt8} (q D : Nat) (h : Rd w R G off cap (c :: l)) (hc : c.toNat = 3) (he : ¬ l.length < 4) (hx : (l.drop 4).length < wordN (l.take 4)) :
    Calls Tryz.prog 70 #[.pointer (some ⟨R, 0, none⟩), .int .i64 (D : Int)] w fun e w' => Tu R w w' ∧ ValP w R G (q + 1) e w' none := by
  have hA := below_al (Below.refl w.heap.size w) (.cells #[.int .i64 0, .bool false, .int .i64 0, .string ⟨#[]⟩, .slice none 0 0] 28)
  have HW := Hid.intro (rnum_yes (h.below hA) 1 (by simp) (by omega))
  rw [show wordI (List.take 1 (c :: l)) = c.toNat from wordI_1 _, show List.drop 1 (c :: l) = l from rfl] at HW
  have HT := Hid.intro (Tu.below (R := R) hA)
  have hlt := h.lt
  have hltG := h.ltG
  clear h hA
  rw [hc] at HW
  generalize hm : wordN (l.take 4) = m at hx ⊢
  generalize hr : l.drop 4 = r at hx ⊢
  go_enter Tryz.func70, Tryz.ntmps70
  go_wp2_with fail
  refine HW.out.mono ?_
  rintro e w1 ⟨rfl, ⟨o1, k1, h1⟩, h2⟩
  have g0 := fun j => h2.cell (g := w.heap.size) (j := j) (by simp) (by omega)
  have z0 := fun j => h2.froz (g := w.heap.size) (j := j) (by simp) (by omega)
  have hs : w.heap.size < w1.heap.size := by have := h2.size; simp at this; omega
  have hs2 : w.heap.size < w1.heap.size + 1 := by omega
  have T1 := Hid.intro (HT.out.trans h2)
  have n1 : ¬ w1.heap.size = w.heap.size := by omega
  have n2 : ¬ w.heap.size = w1.heap.size := by omega
  have hR1 := h1.lt
  have hG1 := h1.ltG
  have n3 : ¬ w1.heap.size = R := by omega
  have n4 : ¬ w.heap.size = R := by omega
  have n5 : ¬ R = w1.heap.size := by omega
  have n6 : ¬ R = w.heap.size := by omega
  clear HW HT h2
  have hconv : ∀ w' : World, (convert 50 9 (.slice none 0 0)).run Tryz.prog w' = .ok (.string ⟨#[]⟩) w' := fun w' => run_convert_bytes_nil (w := w') 50 5 Tryz.underlying50 Tryz.underlying5 0 0 _ Tryz.underlying9
  have HX := fun o => Hid.intro (rnum_yes (h1.al o) 4 (by omega) (by omega))
  rw [wordI_4 he] at HX
  simp only [hm, hr] at HX
  clear hm hr
  go_wp2_with fail
  refine ((HX _).out).mono ?_
  rintro e w2 ⟨rfl, ⟨o2, k2, h2⟩, t2⟩
  have a2 := fun j => t2.cell (g := w.heap.size) (j := j) (by first | omega | (simp; omega)) (by omega)
  have b2 := fun j => t2.cell (g := w1.heap.size) (j := j) (by first | omega | (simp; done) | (simp; omega)) (by omega)
  have c2 := fun j => t2.froz (g := w.heap.size) (j := j) (by first | omega | (simp; omega)) (by omega)
  have d2 := fun j => t2.froz (g := w1.heap.size) (j := j) (by first | omega | (simp; done) | (simp; omega)) (by omega)
  have hs2 : w1.heap.size < w2.heap.size := by have := t2.size; first | omega | (simp at this; omega)
  have hr2 : w.heap.size < w2.heap.size := by omega
  have T2 : Hid (Tu R w w2) := Hid.intro (Tu.trans (by (repeat (first | with_reducible exact T1.out | with_reducible refine Tu.al ?_ _ | with_reducible refine Tu.put ?_ (by simp only; omega) _))) t2)
  go_wp2_with fail
  refine (rtake_no h2 _ (by omega)).mono ?_
  rintro e w3 ⟨rfl, h3, t3⟩
  have a3 := fun j => t3.cell (g := w.heap.size) (j := j) (by first | omega | (simp; omega)) (by omega)
  have b3 := fun j => t3.cell (g := w1.heap.size) (j := j) (by first | omega | (simp; done) | (simp; omega)) (by omega)
  have c3 := fun j => t3.froz (g := w.heap.size) (j := j) (by first | omega | (simp; omega)) (by omega)
  have d3 := fun j => t3.froz (g := w1.heap.size) (j := j) (by first | omega | (simp; done) | (simp; omega)) (by omega)
  have hs3 : w1.heap.size < w3.heap.size := by have := t3.size; first | omega | (simp at this; omega)
  have hr3 : w.heap.size < w3.heap.size := by omega
  have T3 : Hid (Tu R w w3) := Hid.intro (Tu.trans (by (repeat (first | with_reducible exact T2.out | with_reducible refine Tu.al ?_ _ | with_reducible refine Tu.put ?_ (by simp only; omega) _))) t3)
  go_wp2_with fail
  refine bodyPost_ret (v := .agg #[.int .i64 3, .bool false, .int .i64 0, .string ⟨#[]⟩, .slice none 0 0]) (by simp [results, Tryz.results70, go_sem, g0, hs, a2, a3]) rfl ⟨?_, ?_⟩
  · (repeat (first | with_reducible exact T3.out | with_reducible refine Tu.al ?_ _ | with_reducible refine Tu.put ?_ (by simp only; omega) _))
  · refine ⟨⟨_, _, _, _, _, _, _, rfl⟩, ?_⟩
    (repeat (first | with_reducible exact h3 | with_reducible refine Bd.al ?_ _ | with_reducible refine Bd.put ?_ (by omega) _))
set_option maxRecDepth 20000 in
set_option maxHeartbeats 2000000 in
theorem rval_3 {c : UInt8} {w : World} {R G off cap : Nat} {l : List UInt8} (q D : Nat) (h : Rd w R G off cap (c :: l)) (hl : l.length ≤ 1000000000) (hc : c.toNat = 3) (he : ¬ l.length < 4) (hx : wordN (l.take 4) ≤ (l.drop 4).length) :
    Calls Tryz.prog 70 #[.pointer (some ⟨R, 0, none⟩), .int .i64 (D : Int)] w fun e w' => Tu R w w' ∧ ValP w R G (q + 1) e w' (some ({ zeroT with k := 3, s := ⟨((l.drop 4).take (wordN (l.take 4))).toArray⟩ }, (l.drop 4).drop (wordN (l.take 4)))) := by
  have hA := below_al (Below.refl w.heap.size w) (.cells #[.int .i64 0, .bool false, .int .i64 0, .string ⟨#[]⟩, .slice none 0 0] 28)
  have HW := Hid.intro (rnum_yes (h.below hA) 1 (by simp) (by omega))
  rw [show wordI (List.take 1 (c :: l)) = c.toNat from wordI_1 _, show List.drop 1 (c :: l) = l from rfl] at HW
  have HT := Hid.intro (Tu.below (R := R) hA)
  have hlt := h.lt
  have hltG := h.ltG
  clear h hA
  rw [hc] at HW
  have hrl : (l.drop 4).length ≤ 1000000000 := by rw [List.length_drop]; omega
  generalize hm : wordN (l.take 4) = m at hx ⊢
  generalize hr : l.drop 4 = r at hx hrl ⊢
  go_enter Tryz.func70, Tryz.ntmps70
  go_wp2_with fail
  refine HW.out.mono ?_
  rintro e w1 ⟨rfl, ⟨o1, k1, h1⟩, h2⟩
  have g0 := fun j => h2.cell (g := w.heap.size) (j := j) (by simp) (by omega)
  have z0 := fun j => h2.froz (g := w.heap.size) (j := j) (by simp) (by omega)
  have hs : w.heap.size < w1.heap.size := by have := h2.size; simp at this; omega
  have hs2 : w.heap.size < w1.heap.size + 1 := by omega
  have T1 := Hid.intro (HT.out.trans h2)
  have n1 : ¬ w1.heap.size = w.heap.size := by omega
  have n2 : ¬ w.heap.size = w1.heap.size := by omega
  have hR1 := h1.lt
  have hG1 := h1.ltG
  have n3 : ¬ w1.heap.size = R := by omega
  have n4 : ¬ w.heap.size = R := by omega
  have n5 : ¬ R = w1.heap.size := by omega
  have n6 : ¬ R = w.heap.size := by omega
  clear HW HT h2
  have HX := fun o => Hid.intro (rnum_yes (h1.al o) 4 (by omega) (by omega))
  rw [wordI_4 he] at HX
  simp only [hm, hr] at HX
  clear hm hr
  have hsz : (⟨(r.take m).toArray⟩ : ByteArray).size ≤ maxLen := by
    show (r.take m).toArray.size ≤ maxLen
    rw [List.size_toArray, List.length_take]; unfold maxLen; omega
  go_wp2_with fail
  refine ((HX _).out).mono ?_
  rintro e w2 ⟨rfl, ⟨o2, k2, h2⟩, t2⟩
  have a2 := fun j => t2.cell (g := w.heap.size) (j := j) (by first | omega | (simp; omega)) (by omega)
  have b2 := fun j => t2.cell (g := w1.heap.size) (j := j) (by first | omega | (simp; done) | (simp; omega)) (by omega)
  have c2 := fun j => t2.froz (g := w.heap.size) (j := j) (by first | omega | (simp; omega)) (by omega)
  have d2 := fun j => t2.froz (g := w1.heap.size) (j := j) (by first | omega | (simp; done) | (simp; omega)) (by omega)
  have hs2 : w1.heap.size < w2.heap.size := by have := t2.size; first | omega | (simp at this; omega)
  have hr2 : w.heap.size < w2.heap.size := by omega
  have T2 : Hid (Tu R w w2) := Hid.intro (Tu.trans (by (repeat (first | with_reducible exact T1.out | with_reducible refine Tu.al ?_ _ | with_reducible refine Tu.put ?_ (by simp only; omega) _))) t2)
  go_wp2_with fail
  refine (rtake_yes h2 m hx).mono ?_
  rintro e w3 ⟨rfl, ⟨o3, h3⟩, t3⟩
  have a3 := fun j => t3.cell (g := w.heap.size) (j := j) (by first | omega | (simp; omega)) (by omega)
  have b3 := fun j => t3.cell (g := w1.heap.size) (j := j) (by first | omega | (simp; done) | (simp; omega)) (by omega)
  have c3 := fun j => t3.froz (g := w.heap.size) (j := j) (by first | omega | (simp; omega)) (by omega)
  have d3 := fun j => t3.froz (g := w1.heap.size) (j := j) (by first | omega | (simp; done) | (simp; omega)) (by omega)
  have hs3 : w1.heap.size < w3.heap.size := by have := t3.size; first | omega | (simp at this; omega)
  have hr3 : w.heap.size < w3.heap.size := by omega
  have T3 : Hid (Tu R w w3) := Hid.intro (Tu.trans (by (repeat (first | with_reducible exact T2.out | with_reducible refine Tu.al ?_ _ | with_reducible refine Tu.put ?_ (by simp only; omega) _))) t3)
  have hby : Bys w3 G o2 (r.take m) := fun j hj => (t3.cell h2.ltG h2.ne).trans (h2.by_.take m j hj)
  have hconv : (convert 50 9 (.slice (some ⟨G, o2, none⟩) m k2)).run Tryz.prog w3 = .ok (.string ⟨(r.take m).toArray⟩) w3 := by
    have := run_convert_bytes_back (P := Tryz.prog) w3 50 9 5 ⟨G, o2, none⟩ k2 (r.take m) Tryz.underlying50 Tryz.underlying5 Tryz.underlying9 (fun j hj => by
      rw [← hby j hj]
      congr 1
      unfold Addr.add
      split
      · next hz =>
        have hz' : j = 0 := by simpa using hz
        rw [hz', Nat.add_zero]
      · simp)
    rw [List.length_take, Nat.min_eq_left hx] at this
    exact this
  clear hby
  go_wp2_with fail
  refine bodyPost_ret (v := .agg #[.int .i64 3, .bool false, .int .i64 0, .string ⟨(r.take m).toArray⟩, .slice none 0 0]) (by simp [results, Tryz.results70, go_sem, g0, hs, a2, a3]) rfl ⟨?_, ?_⟩
  · (repeat (first | with_reducible exact T3.out | with_reducible refine Tu.al ?_ _ | with_reducible refine Tu.put ?_ (by simp only; omega) _))
  · refine ⟨.slice none 0 0, rfl, vsb_leaf (leaf_wf (by decide) (by decide) (by decide) (by decide) hsz) rfl, o3, k2 - m, ?_⟩
    (repeat (first | with_reducible exact h3 | with_reducible refine Rd.al ?_ _ | with_reducible refine Rd.put ?_ (by omega) (by omega) _))
set_option maxRecDepth 20000 in
set_option maxHeartbeats 2000000 in
theorem rval_4n {c : UInt8} {w : World} {R G off cap : Nat} {l : List UInt8} (q D : Nat) (h : Rd w R G off cap (c :: l)) (hc : c.toNat = 4) (he : l.length < 4) :
    Calls Tryz.prog 70 #[.pointer (some ⟨R, 0, none⟩), .int .i64 (D : Int)] w fun e w' => Tu R w w' ∧ ValP w R G (q + 1) e w' none := by
  have hA := below_al (Below.refl w.heap.size w) (.cells #[.int .i64 0, .bool false, .int .i64 0, .string ⟨#[]⟩, .slice none 0 0] 28)
  have HW := Hid.intro (rnum_yes (h.below hA) 1 (by simp) (by omega))
  rw [show wordI (List.take 1 (c :: l)) = c.toNat from wordI_1 _, show List.drop 1 (c :: l) = l from rfl] at HW
  have HT := Hid.intro (Tu.below (R := R) hA)
  have hlt := h.lt
  have hltG := h.ltG
  clear h hA
  rw [hc] at HW
  go_enter Tryz.func70, Tryz.ntmps70
  go_wp2_with fail
  refine HW.out.mono ?_
  rintro e w1 ⟨rfl, ⟨o1, k1, h1⟩, h2⟩
  have g0 := fun j => h2.cell (g := w.heap.size) (j := j) (by simp) (by omega)
  have z0 := fun j => h2.froz (g := w.heap.size) (j := j) (by simp) (by omega)
  have hs : w.heap.size < w1.heap.size := by have := h2.size; simp at this; omega
  have hs2 : w.heap.size < w1.heap.size + 1 := by omega
  have T1 := Hid.intro (HT.out.trans h2)
  have n1 : ¬ w1.heap.size = w.heap.size := by omega
  have n2 : ¬ w.heap.size = w1.heap.size := by omega
  have hR1 := h1.lt
  have hG1 := h1.ltG
  have n3 : ¬ w1.heap.size = R := by omega
  have n4 : ¬ w.heap.size = R := by omega
  have n5 : ¬ R = w1.heap.size := by omega
  have n6 : ¬ R = w.heap.size := by omega
  clear HW HT h2
  go_wp2_with fail
  refine (rnum_no (h1.al _) 4 (by omega)).mono ?_
  rintro e w2 ⟨rfl, h2, t2⟩
  have a2 := fun j => t2.cell (g := w.heap.size) (j := j) (by first | omega | (simp; omega)) (by omega)
  have b2 := fun j => t2.cell (g := w1.heap.size) (j := j) (by first | omega | (simp; done) | (simp; omega)) (by omega)
  have c2 := fun j => t2.froz (g := w.heap.size) (j := j) (by first | omega | (simp; omega)) (by omega)
  have d2 := fun j => t2.froz (g := w1.heap.size) (j := j) (by first | omega | (simp; done) | (simp; omega)) (by omega)
  have hs2 : w1.heap.size < w2.heap.size := by have := t2.size; first | omega | (simp at this; omega)
  have hr2 : w.heap.size < w2.heap.size := by omega
  have T2 : Hid (Tu R w w2) := Hid.intro (Tu.trans (by (repeat (first | with_reducible exact T1.out | with_reducible refine Tu.al ?_ _ | with_reducible refine Tu.put ?_ (by simp only; omega) _))) t2)
  have e1 := h2.c1
  have e2 := h2.f1
  have hX := h2.bad
  have TX : Tu R w (w2.setCell ⟨R, 1, none⟩ (.bool true)) := T2.out.trans (Tu.set R 1 w2 _)
  go_wp2_with fail
  go_loopw [8] (fun i wr => i = .int .i64 0 ∧ wr = w2.setCell ⟨R, 1, none⟩ (.bool true)) (fun _ _ => 0)
  case atStart => exact ⟨rfl, rfl⟩
  case round =>
    obtain ⟨rfl, rfl⟩ := hrel
    go_wp2_with fail
    refine bodyPost_ret (v := .agg #[.int .i64 4, .bool false, .int .i64 0, .string ⟨#[]⟩, .slice none 0 0]) (by simp [results, Tryz.results70, go_sem, g0, hs, a2]) rfl ⟨?_, ?_⟩
    · (repeat (first | with_reducible exact TX | with_reducible refine Tu.al ?_ _ | with_reducible refine Tu.put ?_ (by simp only; omega) _))
    · refine ⟨⟨_, _, _, _, _, _, _, rfl⟩, ?_⟩
      (repeat (first | with_reducible exact hX | with_reducible refine Bd.al ?_ _ | with_reducible refine Bd.put ?_ (by omega) _))
set_option maxRecDepth 20000 in
set_option maxHeartbeats 2000000 in
theorem rval_4m {c : UInt8} {w : World} {R G off cap : Nat} {l : List UInt8} (q D : Nat) (h : Rd w R G off cap (c :: l)) (hc : c.toNat = 4) (he : ¬ l.length < 4) (hx : 4096 < wordN (l.take 4)) :
    Calls Tryz.prog 70 #[.pointer (some ⟨R, 0, none⟩), .int .i64 (D : Int)] w fun e w' => Tu R w w' ∧ ValP w R G (q + 1) e w' none := by
  have hA := below_al (Below.refl w.heap.size w) (.cells #[.int .i64 0, .bool false, .int .i64 0, .string ⟨#[]⟩, .slice none 0 0] 28)
  have HW := Hid.intro (rnum_yes (h.below hA) 1 (by simp) (by omega))
  rw [show wordI (List.take 1 (c :: l)) = c.toNat from wordI_1 _, show List.drop 1 (c :: l) = l from rfl] at HW
  have HT := Hid.intro (Tu.below (R := R) hA)
  have hlt := h.lt
  have hltG := h.ltG
  clear h hA
  rw [hc] at HW
  generalize hm : wordN (l.take 4) = m at hx ⊢
  generalize hr : l.drop 4 = r at ⊢
  go_enter Tryz.func70, Tryz.ntmps70
  go_wp2_with fail
  refine HW.out.mono ?_
  rintro e w1 ⟨rfl, ⟨o1, k1, h1⟩, h2⟩
  have g0 := fun j => h2.cell (g := w.heap.size) (j := j) (by simp) (by omega)
  have z0 := fun j => h2.froz (g := w.heap.size) (j := j) (by simp) (by omega)
  have hs : w.heap.size < w1.heap.size := by have := h2.size; simp at this; omega
  have hs2 : w.heap.size < w1.heap.size + 1 := by omega
  have T1 := Hid.intro (HT.out.trans h2)
  have n1 : ¬ w1.heap.size = w.heap.size := by omega
  have n2 : ¬ w.heap.size = w1.heap.size := by omega
  have hR1 := h1.lt
  have hG1 := h1.ltG
  have n3 : ¬ w1.heap.size = R := by omega
  have n4 : ¬ w.heap.size = R := by omega
  have n5 : ¬ R = w1.heap.size := by omega
  have n6 : ¬ R = w.heap.size := by omega
  clear HW HT h2
  have HX := fun o => Hid.intro (rnum_yes (h1.al o) 4 (by omega) (by omega))
  rw [wordI_4 he] at HX
  simp only [hm, hr] at HX
  clear hm hr
  have hm1 : (4096 : Int) < (m : Int) := by omega
  have hm2 : (0 : Int) < (m : Int) := by omega
  go_wp2_with fail
  refine ((HX _).out).mono ?_
  rintro e w2 ⟨rfl, ⟨o2, k2, h2⟩, t2⟩
  have a2 := fun j => t2.cell (g := w.heap.size) (j := j) (by first | omega | (simp; omega)) (by omega)
  have b2 := fun j => t2.cell (g := w1.heap.size) (j := j) (by first | omega | (simp; done) | (simp; omega)) (by omega)
  have c2 := fun j => t2.froz (g := w.heap.size) (j := j) (by first | omega | (simp; omega)) (by omega)
  have d2 := fun j => t2.froz (g := w1.heap.size) (j := j) (by first | omega | (simp; done) | (simp; omega)) (by omega)
  have hs2 : w1.heap.size < w2.heap.size := by have := t2.size; first | omega | (simp at this; omega)
  have hr2 : w.heap.size < w2.heap.size := by omega
  have T2 : Hid (Tu R w w2) := Hid.intro (Tu.trans (by (repeat (first | with_reducible exact T1.out | with_reducible refine Tu.al ?_ _ | with_reducible refine Tu.put ?_ (by simp only; omega) _))) t2)
  have e1 := h2.c1
  have e2 := h2.f1
  have hX := h2.bad
  have TX : Tu R w (w2.setCell ⟨R, 1, none⟩ (.bool true)) := T2.out.trans (Tu.set R 1 w2 _)
  go_wp2_with fail
  go_loopw [8] (fun i wr => i = .int .i64 0 ∧ wr = w2.setCell ⟨R, 1, none⟩ (.bool true)) (fun _ _ => 0)
  case atStart => exact ⟨rfl, rfl⟩
  case round =>
    obtain ⟨rfl, rfl⟩ := hrel
    go_wp2_with fail
    refine bodyPost_ret (v := .agg #[.int .i64 4, .bool false, .int .i64 0, .string ⟨#[]⟩, .slice none 0 0]) (by simp [results, Tryz.results70, go_sem, g0, hs, a2]) rfl ⟨?_, ?_⟩
    · (repeat (first | with_reducible exact TX | with_reducible refine Tu.al ?_ _ | with_reducible refine Tu.put ?_ (by simp only; omega) _))
    · refine ⟨⟨_, _, _, _, _, _, _, rfl⟩, ?_⟩
      (repeat (first | with_reducible exact hX | with_reducible refine Bd.al ?_ _ | with_reducible refine Bd.put ?_ (by omega) _))
set_option maxRecDepth 20000 in
set_option maxHeartbeats 2000000 in
theorem rval_4z {c : UInt8} {w : World} {R G off cap : Nat} {l : List UInt8} (q D : Nat) (h : Rd w R G off cap (c :: l)) (hc : c.toNat = 4) (he : ¬ l.length < 4) (hD : 30 < D) (hx : wordN (l.take 4) = 0) :
    Calls Tryz.prog 70 #[.pointer (some ⟨R, 0, none⟩), .int .i64 (D : Int)] w fun e w' => Tu R w w' ∧ ValP w R G (q + 1) e w' none := by
  have hA := below_al (Below.refl w.heap.size w) (.cells #[.int .i64 0, .bool false, .int .i64 0, .string ⟨#[]⟩, .slice none 0 0] 28)
  have HW := Hid.intro (rnum_yes (h.below hA) 1 (by simp) (by omega))
  rw [show wordI (List.take 1 (c :: l)) = c.toNat from wordI_1 _, show List.drop 1 (c :: l) = l from rfl] at HW
  have HT := Hid.intro (Tu.below (R := R) hA)
  have hlt := h.lt
  have hltG := h.ltG
  clear h hA
  rw [hc] at HW
  generalize hm : wordN (l.take 4) = m at hx ⊢
  generalize hr : l.drop 4 = r at ⊢
  subst hx
  go_enter Tryz.func70, Tryz.ntmps70
  go_wp2_with fail
  refine HW.out.mono ?_
  rintro e w1 ⟨rfl, ⟨o1, k1, h1⟩, h2⟩
  have g0 := fun j => h2.cell (g := w.heap.size) (j := j) (by simp) (by omega)
  have z0 := fun j => h2.froz (g := w.heap.size) (j := j) (by simp) (by omega)
  have hs : w.heap.size < w1.heap.size := by have := h2.size; simp at this; omega
  have hs2 : w.heap.size < w1.heap.size + 1 := by omega
  have T1 := Hid.intro (HT.out.trans h2)
  have n1 : ¬ w1.heap.size = w.heap.size := by omega
  have n2 : ¬ w.heap.size = w1.heap.size := by omega
  have hR1 := h1.lt
  have hG1 := h1.ltG
  have n3 : ¬ w1.heap.size = R := by omega
  have n4 : ¬ w.heap.size = R := by omega
  have n5 : ¬ R = w1.heap.size := by omega
  have n6 : ¬ R = w.heap.size := by omega
  clear HW HT h2
  have HX := fun o => Hid.intro (rnum_yes (h1.al o) 4 (by omega) (by omega))
  rw [wordI_4 he] at HX
  simp only [hm, hr] at HX
  clear hm hr
  have hm1 : (30 : Int) < (D : Int) := by omega
  go_wp2_with fail
  refine ((HX _).out).mono ?_
  rintro e w2 ⟨rfl, ⟨o2, k2, h2⟩, t2⟩
  have a2 := fun j => t2.cell (g := w.heap.size) (j := j) (by first | omega | (simp; omega)) (by omega)
  have b2 := fun j => t2.cell (g := w1.heap.size) (j := j) (by first | omega | (simp; done) | (simp; omega)) (by omega)
  have c2 := fun j => t2.froz (g := w.heap.size) (j := j) (by first | omega | (simp; omega)) (by omega)
  have d2 := fun j => t2.froz (g := w1.heap.size) (j := j) (by first | omega | (simp; done) | (simp; omega)) (by omega)
  have hs2 : w1.heap.size < w2.heap.size := by have := t2.size; first | omega | (simp at this; omega)
  have hr2 : w.heap.size < w2.heap.size := by omega
  have T2 : Hid (Tu R w w2) := Hid.intro (Tu.trans (by (repeat (first | with_reducible exact T1.out | with_reducible refine Tu.al ?_ _ | with_reducible refine Tu.put ?_ (by simp only; omega) _))) t2)
  have e1 := h2.c1
  have e2 := h2.f1
  have hX := h2.bad
  have TX : Tu R w (w2.setCell ⟨R, 1, none⟩ (.bool true)) := T2.out.trans (Tu.set R 1 w2 _)
  go_wp2_with fail
  go_loopw [8] (fun i wr => i = .int .i64 0 ∧ wr = w2.setCell ⟨R, 1, none⟩ (.bool true)) (fun _ _ => 0)
  case atStart => exact ⟨rfl, rfl⟩
  case round =>
    obtain ⟨rfl, rfl⟩ := hrel
    go_wp2_with fail
    refine bodyPost_ret (v := .agg #[.int .i64 4, .bool false, .int .i64 0, .string ⟨#[]⟩, .slice none 0 0]) (by simp [results, Tryz.results70, go_sem, g0, hs, a2]) rfl ⟨?_, ?_⟩
    · (repeat (first | with_reducible exact TX | with_reducible refine Tu.al ?_ _ | with_reducible refine Tu.put ?_ (by simp only; omega) _))
    · refine ⟨⟨_, _, _, _, _, _, _, rfl⟩, ?_⟩
      (repeat (first | with_reducible exact hX | with_reducible refine Bd.al ?_ _ | with_reducible refine Bd.put ?_ (by omega) _))
set_option maxRecDepth 20000 in
set_option maxHeartbeats 2000000 in
theorem rval_40 {c : UInt8} {w : World} {R G off cap : Nat} {l : List UInt8} (q D : Nat) (h : Rd w R G off cap (c :: l)) (hc : c.toNat = 4) (he : ¬ l.length < 4) (hD : 30 < D) (hx : 0 < wordN (l.take 4) ∧ wordN (l.take 4) ≤ 4096) :
    Calls Tryz.prog 70 #[.pointer (some ⟨R, 0, none⟩), .int .i64 (D : Int)] w fun e w' => Tu R w w' ∧ ValP w R G (q + 1) e w' none := by
  have hA := below_al (Below.refl w.heap.size w) (.cells #[.int .i64 0, .bool false, .int .i64 0, .string ⟨#[]⟩, .slice none 0 0] 28)
  have HW := Hid.intro (rnum_yes (h.below hA) 1 (by simp) (by omega))
  rw [show wordI (List.take 1 (c :: l)) = c.toNat from wordI_1 _, show List.drop 1 (c :: l) = l from rfl] at HW
  have HT := Hid.intro (Tu.below (R := R) hA)
  have hlt := h.lt
  have hltG := h.ltG
  clear h hA
  rw [hc] at HW
  generalize hm : wordN (l.take 4) = m at hx ⊢
  generalize hr : l.drop 4 = r at ⊢
  go_enter Tryz.func70, Tryz.ntmps70
  go_wp2_with fail
  refine HW.out.mono ?_
  rintro e w1 ⟨rfl, ⟨o1, k1, h1⟩, h2⟩
  have g0 := fun j => h2.cell (g := w.heap.size) (j := j) (by simp) (by omega)
  have z0 := fun j => h2.froz (g := w.heap.size) (j := j) (by simp) (by omega)
  have hs : w.heap.size < w1.heap.size := by have := h2.size; simp at this; omega
  have hs2 : w.heap.size < w1.heap.size + 1 := by omega
  have T1 := Hid.intro (HT.out.trans h2)
  have n1 : ¬ w1.heap.size = w.heap.size := by omega
  have n2 : ¬ w.heap.size = w1.heap.size := by omega
  have hR1 := h1.lt
  have hG1 := h1.ltG
  have n3 : ¬ w1.heap.size = R := by omega
  have n4 : ¬ w.heap.size = R := by omega
  have n5 : ¬ R = w1.heap.size := by omega
  have n6 : ¬ R = w.heap.size := by omega
  clear HW HT h2
  have HX := fun o => Hid.intro (rnum_yes (h1.al o) 4 (by omega) (by omega))
  rw [wordI_4 he] at HX
  simp only [hm, hr] at HX
  clear hm hr
  have hm1 : (30 : Int) < (D : Int) := by omega
  have hm2 : (0 : Int) < (m : Int) := by omega
  have hm3 : ¬ (4096 : Int) < (m : Int) := by omega
  go_wp2_with fail
  refine ((HX _).out).mono ?_
  rintro e w2 ⟨rfl, ⟨o2, k2, h2⟩, t2⟩
  have a2 := fun j => t2.cell (g := w.heap.size) (j := j) (by first | omega | (simp; omega)) (by omega)
  have b2 := fun j => t2.cell (g := w1.heap.size) (j := j) (by first | omega | (simp; done) | (simp; omega)) (by omega)
  have c2 := fun j => t2.froz (g := w.heap.size) (j := j) (by first | omega | (simp; omega)) (by omega)
  have d2 := fun j => t2.froz (g := w1.heap.size) (j := j) (by first | omega | (simp; done) | (simp; omega)) (by omega)
  have hs2 : w1.heap.size < w2.heap.size := by have := t2.size; first | omega | (simp at this; omega)
  have hr2 : w.heap.size < w2.heap.size := by omega
  have T2 : Hid (Tu R w w2) := Hid.intro (Tu.trans (by (repeat (first | with_reducible exact T1.out | with_reducible refine Tu.al ?_ _ | with_reducible refine Tu.put ?_ (by simp only; omega) _))) t2)
  have e1 := h2.c1
  have e2 := h2.f1
  have hX := h2.bad
  have TX : Tu R w (w2.setCell ⟨R, 1, none⟩ (.bool true)) := T2.out.trans (Tu.set R 1 w2 _)
  go_wp2_with fail
  go_loopw [8] (fun i wr => i = .int .i64 0 ∧ wr = w2.setCell ⟨R, 1, none⟩ (.bool true)) (fun _ _ => 0)
  case atStart => exact ⟨rfl, rfl⟩
  case round =>
    obtain ⟨rfl, rfl⟩ := hrel
    go_wp2_with fail
    refine bodyPost_ret (v := .agg #[.int .i64 4, .bool false, .int .i64 0, .string ⟨#[]⟩, .slice none 0 0]) (by simp [results, Tryz.results70, go_sem, g0, hs, a2]) rfl ⟨?_, ?_⟩
    · (repeat (first | with_reducible exact TX | with_reducible refine Tu.al ?_ _ | with_reducible refine Tu.put ?_ (by simp only; omega) _))
    · refine ⟨⟨_, _, _, _, _, _, _, rfl⟩, ?_⟩
      (repeat (first | with_reducible exact hX | with_reducible refine Bd.al ?_ _ | with_reducible refine Bd.put ?_ (by omega) _))
end Go.Proofs.YtciibcfmlhbnkaaGreatDoor
