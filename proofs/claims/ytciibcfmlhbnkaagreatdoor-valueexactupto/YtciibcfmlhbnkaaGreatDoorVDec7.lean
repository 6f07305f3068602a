/- value.Decode's reader: value, the kinds with parts. -/
import Derived.Test.YtciibcfmlhbnkaaGreatDoorVDec6
namespace Go.Proofs.YtciibcfmlhbnkaaGreatDoor
open Go.RowKit

theorem wordI_range (l : List UInt8) : -9223372036854775808 ≤ wordI l ∧ wordI l ≤ 9223372036854775807 := by
  unfold wordI wrap64
  omega

set_option maxRecDepth 20000 in
set_option maxHeartbeats 2000000 in
theorem val_10 {c d : UInt8} {l0 : List UInt8} {w : World} {R G off cap : Nat} {l : List UInt8} (room : Nat) (_hroom : room ≤ 30) (hl : l.length ≤ 1000000000) (h : Rd w R G off cap (c :: l)) (hc : c.toNat = 1) (hd : d.toNat = 0) (he : l = d :: l0) :
    Calls Tryz.prog 69 #[.pointer (some ⟨R, 0, none⟩), .int .i64 (room : Int)] w fun e w' => Tu R w w' ∧ ValP w R G (room + 1) e w' (some ({ zeroT with k := 1, b := false }, l0)) := by
  have hA := below_al (Below.refl w.heap.size w) (.cells #[.int .i64 0, .bool false, .int .i64 0, .string ⟨#[]⟩, .slice none 0 0] 28)
  have HW := Hid.intro (word_yes (h.below hA) 1 (by simp) (by omega))
  rw [show wordN (List.take 1 (c :: l)) = c.toNat from by simp [wordN], show List.drop 1 (c :: l) = l from rfl] at HW
  have HT := Hid.intro (Tu.below (R := R) hA)
  have hlt := h.lt
  have hltG := h.ltG
  clear h hA
  rw [hc] at HW
  subst he
  go_enter Tryz.func69, Tryz.ntmps69
  go_wp2_with fail
  refine HW.out.mono ?_
  rintro e w1 ⟨rfl, ⟨o1, k1, h1⟩, h2⟩
  have g0 := fun j => h2.cell (g := w.heap.size) (j := j) (by simp) (by omega)
  have z0 := fun j => h2.froz (g := w.heap.size) (j := j) (by simp) (by omega)
  have hs : w.heap.size < w1.heap.size := by have := h2.size; simp at this; omega
  have hs2 : w.heap.size < w1.heap.size + 1 := by omega
  have T1 := Hid.intro (HT.out.trans h2)
  have n1 : ¬ w1.heap.size = w.heap.size := by omega
  have n2 : ¬ w.heap.size = w1.heap.size := by omega
  have hR1 := h1.lt
  have hG1 := h1.ltG
  have n3 : ¬ w1.heap.size = R := by omega
  have n4 : ¬ w.heap.size = R := by omega
  have n5 : ¬ R = w1.heap.size := by omega
  have n6 : ¬ R = w.heap.size := by omega
  clear HW HT h2
  have HX := fun o => Hid.intro (word_yes (h1.al o) 1 (by simp) (by omega))
  rw [show wordN (List.take 1 (d :: l0)) = 0 from by simp [wordN, hd], show List.drop 1 (d :: l0) = l0 from rfl] at HX
  go_wp2_with fail
  refine ((HX _).out).mono ?_
  rintro e w2 ⟨rfl, ⟨o2, k2, h2⟩, t2⟩
  have a2 := fun j => t2.cell (g := w.heap.size) (j := j) (by first | omega | (simp; omega)) (by omega)
  have b2 := fun j => t2.cell (g := w1.heap.size) (j := j) (by first | omega | (simp; done) | (simp; omega)) (by omega)
  have c2 := fun j => t2.froz (g := w.heap.size) (j := j) (by first | omega | (simp; omega)) (by omega)
  have d2 := fun j => t2.froz (g := w1.heap.size) (j := j) (by first | omega | (simp; done) | (simp; omega)) (by omega)
  have hs2 : w1.heap.size < w2.heap.size := by have := t2.size; first | omega | (simp at this; omega)
  have hr2 : w.heap.size < w2.heap.size := by omega
  have T2 : Hid (Tu R w w2) := Hid.intro (Tu.trans (by (repeat (first | with_reducible exact T1.out | with_reducible refine Tu.al ?_ _ | with_reducible refine Tu.put ?_ (by simp only; omega) _))) t2)
  have HR := Hid.intro (require_true h2)
  go_wp2_with fail
  refine HR.out.mono ?_
  rintro e w3 ⟨rfl, hw3⟩
  subst w3
  go_wp2_with fail
  refine bodyPost_ret (v := .agg #[.int .i64 1, .bool false, .int .i64 0, .string ⟨#[]⟩, .slice none 0 0]) (by simp [results, Tryz.results69, go_sem, g0, hs, a2]) rfl ⟨?_, ?_⟩
  · (repeat (first | with_reducible exact T2.out | with_reducible refine Tu.al ?_ _ | with_reducible refine Tu.put ?_ (by simp only; omega) _))
  · refine ⟨.slice none 0 0, rfl, vsb_leaf (leaf_wf (by decide) (by decide) (by decide) (by decide) (Nat.zero_le _)) rfl, o2, k2, ?_⟩
    (repeat (first | with_reducible exact h2 | with_reducible refine Rd.al ?_ _ | with_reducible refine Rd.put ?_ (by omega) (by omega) _))
set_option maxRecDepth 20000 in
set_option maxHeartbeats 2000000 in
theorem val_11 {c d : UInt8} {l0 : List UInt8} {w : World} {R G off cap : Nat} {l : List UInt8} (room : Nat) (_hroom : room ≤ 30) (hl : l.length ≤ 1000000000) (h : Rd w R G off cap (c :: l)) (hc : c.toNat = 1) (hd : d.toNat = 1) (he : l = d :: l0) :
    Calls Tryz.prog 69 #[.pointer (some ⟨R, 0, none⟩), .int .i64 (room : Int)] w fun e w' => Tu R w w' ∧ ValP w R G (room + 1) e w' (some ({ zeroT with k := 1, b := true }, l0)) := by
  have hA := below_al (Below.refl w.heap.size w) (.cells #[.int .i64 0, .bool false, .int .i64 0, .string ⟨#[]⟩, .slice none 0 0] 28)
  have HW := Hid.intro (word_yes (h.below hA) 1 (by simp) (by omega))
  rw [show wordN (List.take 1 (c :: l)) = c.toNat from by simp [wordN], show List.drop 1 (c :: l) = l from rfl] at HW
  have HT := Hid.intro (Tu.below (R := R) hA)
  have hlt := h.lt
  have hltG := h.ltG
  clear h hA
  rw [hc] at HW
  subst he
  go_enter Tryz.func69, Tryz.ntmps69
  go_wp2_with fail
  refine HW.out.mono ?_
  rintro e w1 ⟨rfl, ⟨o1, k1, h1⟩, h2⟩
  have g0 := fun j => h2.cell (g := w.heap.size) (j := j) (by simp) (by omega)
  have z0 := fun j => h2.froz (g := w.heap.size) (j := j) (by simp) (by omega)
  have hs : w.heap.size < w1.heap.size := by have := h2.size; simp at this; omega
  have hs2 : w.heap.size < w1.heap.size + 1 := by omega
  have T1 := Hid.intro (HT.out.trans h2)
  have n1 : ¬ w1.heap.size = w.heap.size := by omega
  have n2 : ¬ w.heap.size = w1.heap.size := by omega
  have hR1 := h1.lt
  have hG1 := h1.ltG
  have n3 : ¬ w1.heap.size = R := by omega
  have n4 : ¬ w.heap.size = R := by omega
  have n5 : ¬ R = w1.heap.size := by omega
  have n6 : ¬ R = w.heap.size := by omega
  clear HW HT h2
  have HX := fun o => Hid.intro (word_yes (h1.al o) 1 (by simp) (by omega))
  rw [show wordN (List.take 1 (d :: l0)) = 1 from by simp [wordN, hd], show List.drop 1 (d :: l0) = l0 from rfl] at HX
  go_wp2_with fail
  refine ((HX _).out).mono ?_
  rintro e w2 ⟨rfl, ⟨o2, k2, h2⟩, t2⟩
  have a2 := fun j => t2.cell (g := w.heap.size) (j := j) (by first | omega | (simp; omega)) (by omega)
  have b2 := fun j => t2.cell (g := w1.heap.size) (j := j) (by first | omega | (simp; done) | (simp; omega)) (by omega)
  have c2 := fun j => t2.froz (g := w.heap.size) (j := j) (by first | omega | (simp; omega)) (by omega)
  have d2 := fun j => t2.froz (g := w1.heap.size) (j := j) (by first | omega | (simp; done) | (simp; omega)) (by omega)
  have hs2 : w1.heap.size < w2.heap.size := by have := t2.size; first | omega | (simp at this; omega)
  have hr2 : w.heap.size < w2.heap.size := by omega
  have T2 : Hid (Tu R w w2) := Hid.intro (Tu.trans (by (repeat (first | with_reducible exact T1.out | with_reducible refine Tu.al ?_ _ | with_reducible refine Tu.put ?_ (by simp only; omega) _))) t2)
  have HR := Hid.intro (require_true h2)
  go_wp2_with fail
  refine HR.out.mono ?_
  rintro e w3 ⟨rfl, hw3⟩
  subst w3
  go_wp2_with fail
  refine bodyPost_ret (v := .agg #[.int .i64 1, .bool true, .int .i64 0, .string ⟨#[]⟩, .slice none 0 0]) (by simp [results, Tryz.results69, go_sem, g0, hs, a2]) rfl ⟨?_, ?_⟩
  · (repeat (first | with_reducible exact T2.out | with_reducible refine Tu.al ?_ _ | with_reducible refine Tu.put ?_ (by simp only; omega) _))
  · refine ⟨.slice none 0 0, rfl, vsb_leaf (leaf_wf (by decide) (by decide) (by decide) (by decide) (Nat.zero_le _)) rfl, o2, k2, ?_⟩
    (repeat (first | with_reducible exact h2 | with_reducible refine Rd.al ?_ _ | with_reducible refine Rd.put ?_ (by omega) (by omega) _))
set_option maxRecDepth 20000 in
set_option maxHeartbeats 2000000 in
theorem val_12 {c d : UInt8} {l0 : List UInt8} {w : World} {R G off cap : Nat} {l : List UInt8} (room : Nat) (_hroom : room ≤ 30) (hl : l.length ≤ 1000000000) (h : Rd w R G off cap (c :: l)) (hc : c.toNat = 1) (hd : 2 ≤ d.toNat) (he : l = d :: l0) :
    Calls Tryz.prog 69 #[.pointer (some ⟨R, 0, none⟩), .int .i64 (room : Int)] w fun e w' => Tu R w w' ∧ ValP w R G (room + 1) e w' none := by
  have hA := below_al (Below.refl w.heap.size w) (.cells #[.int .i64 0, .bool false, .int .i64 0, .string ⟨#[]⟩, .slice none 0 0] 28)
  have HW := Hid.intro (word_yes (h.below hA) 1 (by simp) (by omega))
  rw [show wordN (List.take 1 (c :: l)) = c.toNat from by simp [wordN], show List.drop 1 (c :: l) = l from rfl] at HW
  have HT := Hid.intro (Tu.below (R := R) hA)
  have hlt := h.lt
  have hltG := h.ltG
  clear h hA
  rw [hc] at HW
  subst he
  go_enter Tryz.func69, Tryz.ntmps69
  go_wp2_with fail
  refine HW.out.mono ?_
  rintro e w1 ⟨rfl, ⟨o1, k1, h1⟩, h2⟩
  have g0 := fun j => h2.cell (g := w.heap.size) (j := j) (by simp) (by omega)
  have z0 := fun j => h2.froz (g := w.heap.size) (j := j) (by simp) (by omega)
  have hs : w.heap.size < w1.heap.size := by have := h2.size; simp at this; omega
  have hs2 : w.heap.size < w1.heap.size + 1 := by omega
  have T1 := Hid.intro (HT.out.trans h2)
  have n1 : ¬ w1.heap.size = w.heap.size := by omega
  have n2 : ¬ w.heap.size = w1.heap.size := by omega
  have hR1 := h1.lt
  have hG1 := h1.ltG
  have n3 : ¬ w1.heap.size = R := by omega
  have n4 : ¬ w.heap.size = R := by omega
  have n5 : ¬ R = w1.heap.size := by omega
  have n6 : ¬ R = w.heap.size := by omega
  clear HW HT h2
  have HX := fun o => Hid.intro (word_yes (h1.al o) 1 (by simp) (by omega))
  rw [show wordN (List.take 1 (d :: l0)) = d.toNat from by simp [wordN], show List.drop 1 (d :: l0) = l0 from rfl] at HX
  have hd1 : ¬ (d.toNat : Int) ≤ 1 := by omega
  have hd2 : ((d.toNat : Int) == 1) = false := by simp; omega
  have hd3 : decide ((d.toNat : Int) ≤ 1) = false := decide_eq_false (by omega)
  generalize d.toNat = D at *
  go_wp2_with fail
  refine ((HX _).out).mono ?_
  rintro e w2 ⟨rfl, ⟨o2, k2, h2⟩, t2⟩
  have a2 := fun j => t2.cell (g := w.heap.size) (j := j) (by first | omega | (simp; omega)) (by omega)
  have b2 := fun j => t2.cell (g := w1.heap.size) (j := j) (by first | omega | (simp; done) | (simp; omega)) (by omega)
  have c2 := fun j => t2.froz (g := w.heap.size) (j := j) (by first | omega | (simp; omega)) (by omega)
  have d2 := fun j => t2.froz (g := w1.heap.size) (j := j) (by first | omega | (simp; done) | (simp; omega)) (by omega)
  have hs2 : w1.heap.size < w2.heap.size := by have := t2.size; first | omega | (simp at this; omega)
  have hr2 : w.heap.size < w2.heap.size := by omega
  have T2 : Hid (Tu R w w2) := Hid.intro (Tu.trans (by (repeat (first | with_reducible exact T1.out | with_reducible refine Tu.al ?_ _ | with_reducible refine Tu.put ?_ (by simp only; omega) _))) t2)
  have HR := Hid.intro (require_false h2)
  go_wp2_with fail
  refine (HR.out).mono ?_
  rintro e w3 ⟨rfl, h3, t3⟩
  have a3 := fun j => t3.cell (g := w.heap.size) (j := j) (by first | omega | (simp; omega)) (by omega)
  have b3 := fun j => t3.cell (g := w1.heap.size) (j := j) (by first | omega | (simp; done) | (simp; omega)) (by omega)
  have c3 := fun j => t3.froz (g := w.heap.size) (j := j) (by first | omega | (simp; omega)) (by omega)
  have d3 := fun j => t3.froz (g := w1.heap.size) (j := j) (by first | omega | (simp; done) | (simp; omega)) (by omega)
  have hs3 : w1.heap.size < w3.heap.size := by have := t3.size; first | omega | (simp at this; omega)
  have hr3 : w.heap.size < w3.heap.size := by omega
  have T3 : Hid (Tu R w w3) := Hid.intro (Tu.trans (by (repeat (first | with_reducible exact T2.out | with_reducible refine Tu.al ?_ _ | with_reducible refine Tu.put ?_ (by simp only; omega) _))) t3)
  go_wp2_with fail
  refine bodyPost_ret (v := .agg #[.int .i64 1, .bool false, .int .i64 0, .string ⟨#[]⟩, .slice none 0 0]) (by simp [results, Tryz.results69, go_sem, g0, hs, a2, a3]) rfl ⟨?_, ?_⟩
  · (repeat (first | with_reducible exact T3.out | with_reducible refine Tu.al ?_ _ | with_reducible refine Tu.put ?_ (by simp only; omega) _))
  · refine ⟨⟨_, _, _, _, _, _, _, rfl⟩, ?_⟩
    (repeat (first | with_reducible exact h3 | with_reducible refine Bd.al ?_ _ | with_reducible refine Bd.put ?_ (by omega) _))
set_option maxRecDepth 20000 in
set_option maxHeartbeats 2000000 in
theorem val_2n {c : UInt8} {w : World} {R G off cap : Nat} {l : List UInt8} (room : Nat) (_hroom : room ≤ 30) (hl : l.length ≤ 1000000000) (h : Rd w R G off cap (c :: l)) (hc : c.toNat = 2) (he : l.length < 8) :
    Calls Tryz.prog 69 #[.pointer (some ⟨R, 0, none⟩), .int .i64 (room : Int)] w fun e w' => Tu R w w' ∧ ValP w R G (room + 1) e w' none := by
  have hA := below_al (Below.refl w.heap.size w) (.cells #[.int .i64 0, .bool false, .int .i64 0, .string ⟨#[]⟩, .slice none 0 0] 28)
  have HW := Hid.intro (word_yes (h.below hA) 1 (by simp) (by omega))
  rw [show wordN (List.take 1 (c :: l)) = c.toNat from by simp [wordN], show List.drop 1 (c :: l) = l from rfl] at HW
  have HT := Hid.intro (Tu.below (R := R) hA)
  have hlt := h.lt
  have hltG := h.ltG
  clear h hA
  rw [hc] at HW
  go_enter Tryz.func69, Tryz.ntmps69
  go_wp2_with fail
  refine HW.out.mono ?_
  rintro e w1 ⟨rfl, ⟨o1, k1, h1⟩, h2⟩
  have g0 := fun j => h2.cell (g := w.heap.size) (j := j) (by simp) (by omega)
  have z0 := fun j => h2.froz (g := w.heap.size) (j := j) (by simp) (by omega)
  have hs : w.heap.size < w1.heap.size := by have := h2.size; simp at this; omega
  have hs2 : w.heap.size < w1.heap.size + 1 := by omega
  have T1 := Hid.intro (HT.out.trans h2)
  have n1 : ¬ w1.heap.size = w.heap.size := by omega
  have n2 : ¬ w.heap.size = w1.heap.size := by omega
  have hR1 := h1.lt
  have hG1 := h1.ltG
  have n3 : ¬ w1.heap.size = R := by omega
  have n4 : ¬ w.heap.size = R := by omega
  have n5 : ¬ R = w1.heap.size := by omega
  have n6 : ¬ R = w.heap.size := by omega
  clear HW HT h2
  go_wp2_with fail
  refine (word_no (h1.al _) 8 (by omega)).mono ?_
  rintro e w2 ⟨rfl, h2, t2⟩
  have a2 := fun j => t2.cell (g := w.heap.size) (j := j) (by first | omega | (simp; omega)) (by omega)
  have b2 := fun j => t2.cell (g := w1.heap.size) (j := j) (by first | omega | (simp; done) | (simp; omega)) (by omega)
  have c2 := fun j => t2.froz (g := w.heap.size) (j := j) (by first | omega | (simp; omega)) (by omega)
  have d2 := fun j => t2.froz (g := w1.heap.size) (j := j) (by first | omega | (simp; done) | (simp; omega)) (by omega)
  have hs2 : w1.heap.size < w2.heap.size := by have := t2.size; first | omega | (simp at this; omega)
  have hr2 : w.heap.size < w2.heap.size := by omega
  have T2 : Hid (Tu R w w2) := Hid.intro (Tu.trans (by (repeat (first | with_reducible exact T1.out | with_reducible refine Tu.al ?_ _ | with_reducible refine Tu.put ?_ (by simp only; omega) _))) t2)
  go_wp2_with fail
  refine bodyPost_ret (v := .agg #[.int .i64 2, .bool false, .int .i64 0, .string ⟨#[]⟩, .slice none 0 0]) (by simp [results, Tryz.results69, go_sem, g0, hs, a2]) rfl ⟨?_, ?_⟩
  · (repeat (first | with_reducible exact T2.out | with_reducible refine Tu.al ?_ _ | with_reducible refine Tu.put ?_ (by simp only; omega) _))
  · refine ⟨⟨_, _, _, _, _, _, _, rfl⟩, ?_⟩
    (repeat (first | with_reducible exact h2 | with_reducible refine Bd.al ?_ _ | with_reducible refine Bd.put ?_ (by omega) _))
set_option maxRecDepth 20000 in
set_option maxHeartbeats 2000000 in
theorem val_2 {c : UInt8} {w : World} {R G off cap : Nat} {l : List UInt8} (room : Nat) (_hroom : room ≤ 30) (hl : l.length ≤ 1000000000) (h : Rd w R G off cap (c :: l)) (hc : c.toNat = 2) (he : ¬ l.length < 8) :
    Calls Tryz.prog 69 #[.pointer (some ⟨R, 0, none⟩), .int .i64 (room : Int)] w fun e w' => Tu R w w' ∧ ValP w R G (room + 1) e w' (some ({ zeroT with k := 2, i := wordI (l.take 8) }, l.drop 8)) := by
  have hA := below_al (Below.refl w.heap.size w) (.cells #[.int .i64 0, .bool false, .int .i64 0, .string ⟨#[]⟩, .slice none 0 0] 28)
  have HW := Hid.intro (word_yes (h.below hA) 1 (by simp) (by omega))
  rw [show wordN (List.take 1 (c :: l)) = c.toNat from by simp [wordN], show List.drop 1 (c :: l) = l from rfl] at HW
  have HT := Hid.intro (Tu.below (R := R) hA)
  have hlt := h.lt
  have hltG := h.ltG
  clear h hA
  rw [hc] at HW
  go_enter Tryz.func69, Tryz.ntmps69
  go_wp2_with fail
  refine HW.out.mono ?_
  rintro e w1 ⟨rfl, ⟨o1, k1, h1⟩, h2⟩
  have g0 := fun j => h2.cell (g := w.heap.size) (j := j) (by simp) (by omega)
  have z0 := fun j => h2.froz (g := w.heap.size) (j := j) (by simp) (by omega)
  have hs : w.heap.size < w1.heap.size := by have := h2.size; simp at this; omega
  have hs2 : w.heap.size < w1.heap.size + 1 := by omega
  have T1 := Hid.intro (HT.out.trans h2)
  have n1 : ¬ w1.heap.size = w.heap.size := by omega
  have n2 : ¬ w.heap.size = w1.heap.size := by omega
  have hR1 := h1.lt
  have hG1 := h1.ltG
  have n3 : ¬ w1.heap.size = R := by omega
  have n4 : ¬ w.heap.size = R := by omega
  have n5 : ¬ R = w1.heap.size := by omega
  have n6 : ¬ R = w.heap.size := by omega
  clear HW HT h2
  have HX := fun o => Hid.intro (word_yes (h1.al o) 8 (by omega) (by omega))
  have hr1 := Hid.intro (wordI_range (l.take 8))
  go_wp2_with fail
  refine ((HX _).out).mono ?_
  rintro e w2 ⟨rfl, ⟨o2, k2, h2⟩, t2⟩
  have a2 := fun j => t2.cell (g := w.heap.size) (j := j) (by first | omega | (simp; omega)) (by omega)
  have b2 := fun j => t2.cell (g := w1.heap.size) (j := j) (by first | omega | (simp; done) | (simp; omega)) (by omega)
  have c2 := fun j => t2.froz (g := w.heap.size) (j := j) (by first | omega | (simp; omega)) (by omega)
  have d2 := fun j => t2.froz (g := w1.heap.size) (j := j) (by first | omega | (simp; done) | (simp; omega)) (by omega)
  have hs2 : w1.heap.size < w2.heap.size := by have := t2.size; first | omega | (simp at this; omega)
  have hr2 : w.heap.size < w2.heap.size := by omega
  have T2 : Hid (Tu R w w2) := Hid.intro (Tu.trans (by (repeat (first | with_reducible exact T1.out | with_reducible refine Tu.al ?_ _ | with_reducible refine Tu.put ?_ (by simp only; omega) _))) t2)
  go_wp2_with fail
  refine bodyPost_ret (v := .agg #[.int .i64 2, .bool false, .int .i64 (wrap64 (wordN (l.take 8) : Int)), .string ⟨#[]⟩, .slice none 0 0]) (by simp [results, Tryz.results69, go_sem, g0, hs, a2]) rfl ⟨?_, ?_⟩
  · (repeat (first | with_reducible exact T2.out | with_reducible refine Tu.al ?_ _ | with_reducible refine Tu.put ?_ (by simp only; omega) _))
  · refine ⟨.slice none 0 0, rfl, vsb_leaf (leaf_wf (by decide) (by decide) hr1.out.1 hr1.out.2 (Nat.zero_le _)) rfl, o2, k2, ?_⟩
    (repeat (first | with_reducible exact h2 | with_reducible refine Rd.al ?_ _ | with_reducible refine Rd.put ?_ (by omega) (by omega) _))
set_option maxRecDepth 20000 in
set_option maxHeartbeats 2000000 in
theorem val_5n {c : UInt8} {w : World} {R G off cap : Nat} {l : List UInt8} (room : Nat) (_hroom : room ≤ 30) (hl : l.length ≤ 1000000000) (h : Rd w R G off cap (c :: l)) (hc : c.toNat = 5) (he : l.length < 8) :
    Calls Tryz.prog 69 #[.pointer (some ⟨R, 0, none⟩), .int .i64 (room : Int)] w fun e w' => Tu R w w' ∧ ValP w R G (room + 1) e w' none := by
  have hA := below_al (Below.refl w.heap.size w) (.cells #[.int .i64 0, .bool false, .int .i64 0, .string ⟨#[]⟩, .slice none 0 0] 28)
  have HW := Hid.intro (word_yes (h.below hA) 1 (by simp) (by omega))
  rw [show wordN (List.take 1 (c :: l)) = c.toNat from by simp [wordN], show List.drop 1 (c :: l) = l from rfl] at HW
  have HT := Hid.intro (Tu.below (R := R) hA)
  have hlt := h.lt
  have hltG := h.ltG
  clear h hA
  rw [hc] at HW
  go_enter Tryz.func69, Tryz.ntmps69
  go_wp2_with fail
  refine HW.out.mono ?_
  rintro e w1 ⟨rfl, ⟨o1, k1, h1⟩, h2⟩
  have g0 := fun j => h2.cell (g := w.heap.size) (j := j) (by simp) (by omega)
  have z0 := fun j => h2.froz (g := w.heap.size) (j := j) (by simp) (by omega)
  have hs : w.heap.size < w1.heap.size := by have := h2.size; simp at this; omega
  have hs2 : w.heap.size < w1.heap.size + 1 := by omega
  have T1 := Hid.intro (HT.out.trans h2)
  have n1 : ¬ w1.heap.size = w.heap.size := by omega
  have n2 : ¬ w.heap.size = w1.heap.size := by omega
  have hR1 := h1.lt
  have hG1 := h1.ltG
  have n3 : ¬ w1.heap.size = R := by omega
  have n4 : ¬ w.heap.size = R := by omega
  have n5 : ¬ R = w1.heap.size := by omega
  have n6 : ¬ R = w.heap.size := by omega
  clear HW HT h2
  go_wp2_with fail
  refine (word_no (h1.al _) 8 (by omega)).mono ?_
  rintro e w2 ⟨rfl, h2, t2⟩
  have a2 := fun j => t2.cell (g := w.heap.size) (j := j) (by first | omega | (simp; omega)) (by omega)
  have b2 := fun j => t2.cell (g := w1.heap.size) (j := j) (by first | omega | (simp; done) | (simp; omega)) (by omega)
  have c2 := fun j => t2.froz (g := w.heap.size) (j := j) (by first | omega | (simp; omega)) (by omega)
  have d2 := fun j => t2.froz (g := w1.heap.size) (j := j) (by first | omega | (simp; done) | (simp; omega)) (by omega)
  have hs2 : w1.heap.size < w2.heap.size := by have := t2.size; first | omega | (simp at this; omega)
  have hr2 : w.heap.size < w2.heap.size := by omega
  have T2 : Hid (Tu R w w2) := Hid.intro (Tu.trans (by (repeat (first | with_reducible exact T1.out | with_reducible refine Tu.al ?_ _ | with_reducible refine Tu.put ?_ (by simp only; omega) _))) t2)
  have hw3 : w1.heap.size < w2.heap.size := hs2
  go_wp2_with fail
  refine (require_bd (h2.put (by omega) _) _).mono ?_
  rintro e w3 ⟨rfl, h3, t3⟩
  have a3 := fun j => t3.cell (g := w.heap.size) (j := j) (by first | omega | (simp; omega)) (by omega)
  have b3 := fun j => t3.cell (g := w1.heap.size) (j := j) (by first | omega | (simp; done) | (simp; omega)) (by omega)
  have c3 := fun j => t3.froz (g := w.heap.size) (j := j) (by first | omega | (simp; omega)) (by omega)
  have d3 := fun j => t3.froz (g := w1.heap.size) (j := j) (by first | omega | (simp; done) | (simp; omega)) (by omega)
  have hs3 : w1.heap.size < w3.heap.size := by have := t3.size; first | omega | (simp at this; omega)
  have hr3 : w.heap.size < w3.heap.size := by omega
  have T3 : Hid (Tu R w w3) := Hid.intro (Tu.trans (by (repeat (first | with_reducible exact T2.out | with_reducible refine Tu.al ?_ _ | with_reducible refine Tu.put ?_ (by simp only; omega) _))) t3)
  go_wp2_with fail
  refine bodyPost_ret (v := .agg #[.int .i64 5, .bool false, .int .i64 0, .string ⟨#[]⟩, .slice none 0 0]) (by simp [results, Tryz.results69, go_sem, g0, hs, a2, a3]) rfl ⟨?_, ?_⟩
  · (repeat (first | with_reducible exact T3.out | with_reducible refine Tu.al ?_ _ | with_reducible refine Tu.put ?_ (by simp only; omega) _))
  · refine ⟨⟨_, _, _, _, _, _, _, rfl⟩, ?_⟩
    (repeat (first | with_reducible exact h3 | with_reducible refine Bd.al ?_ _ | with_reducible refine Bd.put ?_ (by omega) _))
set_option maxRecDepth 20000 in
set_option maxHeartbeats 2000000 in
theorem val_5 {c : UInt8} {w : World} {R G off cap : Nat} {l : List UInt8} (room : Nat) (_hroom : room ≤ 30) (hl : l.length ≤ 1000000000) (h : Rd w R G off cap (c :: l)) (hc : c.toNat = 5) (he : ¬ l.length < 8) (hi : 1 ≤ wordI (l.take 8)) :
    Calls Tryz.prog 69 #[.pointer (some ⟨R, 0, none⟩), .int .i64 (room : Int)] w fun e w' => Tu R w w' ∧ ValP w R G (room + 1) e w' (some ({ zeroT with k := 5, i := wordI (l.take 8) }, l.drop 8)) := by
  have hA := below_al (Below.refl w.heap.size w) (.cells #[.int .i64 0, .bool false, .int .i64 0, .string ⟨#[]⟩, .slice none 0 0] 28)
  have HW := Hid.intro (word_yes (h.below hA) 1 (by simp) (by omega))
  rw [show wordN (List.take 1 (c :: l)) = c.toNat from by simp [wordN], show List.drop 1 (c :: l) = l from rfl] at HW
  have HT := Hid.intro (Tu.below (R := R) hA)
  have hlt := h.lt
  have hltG := h.ltG
  clear h hA
  rw [hc] at HW
  go_enter Tryz.func69, Tryz.ntmps69
  go_wp2_with fail
  refine HW.out.mono ?_
  rintro e w1 ⟨rfl, ⟨o1, k1, h1⟩, h2⟩
  have g0 := fun j => h2.cell (g := w.heap.size) (j := j) (by simp) (by omega)
  have z0 := fun j => h2.froz (g := w.heap.size) (j := j) (by simp) (by omega)
  have hs : w.heap.size < w1.heap.size := by have := h2.size; simp at this; omega
  have hs2 : w.heap.size < w1.heap.size + 1 := by omega
  have T1 := Hid.intro (HT.out.trans h2)
  have n1 : ¬ w1.heap.size = w.heap.size := by omega
  have n2 : ¬ w.heap.size = w1.heap.size := by omega
  have hR1 := h1.lt
  have hG1 := h1.ltG
  have n3 : ¬ w1.heap.size = R := by omega
  have n4 : ¬ w.heap.size = R := by omega
  have n5 : ¬ R = w1.heap.size := by omega
  have n6 : ¬ R = w.heap.size := by omega
  clear HW HT h2
  have HX := fun o => Hid.intro (word_yes (h1.al o) 8 (by omega) (by omega))
  have hr1 := Hid.intro (wordI_range (l.take 8))
  unfold wordI at hi
  have hd : decide (1 ≤ wrap64 (wordN (l.take 8) : Int)) = true := by simp; omega
  go_wp2_with fail
  refine ((HX _).out).mono ?_
  rintro e w2 ⟨rfl, ⟨o2, k2, h2⟩, t2⟩
  have a2 := fun j => t2.cell (g := w.heap.size) (j := j) (by first | omega | (simp; omega)) (by omega)
  have b2 := fun j => t2.cell (g := w1.heap.size) (j := j) (by first | omega | (simp; done) | (simp; omega)) (by omega)
  have c2 := fun j => t2.froz (g := w.heap.size) (j := j) (by first | omega | (simp; omega)) (by omega)
  have d2 := fun j => t2.froz (g := w1.heap.size) (j := j) (by first | omega | (simp; done) | (simp; omega)) (by omega)
  have hs2 : w1.heap.size < w2.heap.size := by have := t2.size; first | omega | (simp at this; omega)
  have hr2 : w.heap.size < w2.heap.size := by omega
  have T2 : Hid (Tu R w w2) := Hid.intro (Tu.trans (by (repeat (first | with_reducible exact T1.out | with_reducible refine Tu.al ?_ _ | with_reducible refine Tu.put ?_ (by simp only; omega) _))) t2)
  go_wp2_with fail
  refine (require_true (h2.put (by omega) (by omega) _)).mono ?_
  rintro e w3 ⟨rfl, hw3⟩
  subst w3
  go_wp2_with fail
  refine bodyPost_ret (v := .agg #[.int .i64 5, .bool false, .int .i64 (wrap64 (wordN (l.take 8) : Int)), .string ⟨#[]⟩, .slice none 0 0]) (by simp [results, Tryz.results69, go_sem, g0, hs, a2]) rfl ⟨?_, ?_⟩
  · (repeat (first | with_reducible exact T2.out | with_reducible refine Tu.al ?_ _ | with_reducible refine Tu.put ?_ (by simp only; omega) _))
  · refine ⟨.slice none 0 0, rfl, vsb_leaf (leaf_wf (by decide) (by decide) hr1.out.1 hr1.out.2 (Nat.zero_le _)) rfl, o2, k2, ?_⟩
    (repeat (first | with_reducible exact h2 | with_reducible refine Rd.al ?_ _ | with_reducible refine Rd.put ?_ (by omega) (by omega) _))
set_option maxRecDepth 20000 in
set_option maxHeartbeats 2000000 in
theorem val_50 {c : UInt8} {w : World} {R G off cap : Nat} {l : List UInt8} (room : Nat) (_hroom : room ≤ 30) (hl : l.length ≤ 1000000000) (h : Rd w R G off cap (c :: l)) (hc : c.toNat = 5) (he : ¬ l.length < 8) (hi : ¬ 1 ≤ wordI (l.take 8)) :
    Calls Tryz.prog 69 #[.pointer (some ⟨R, 0, none⟩), .int .i64 (room : Int)] w fun e w' => Tu R w w' ∧ ValP w R G (room + 1) e w' none := by
  have hA := below_al (Below.refl w.heap.size w) (.cells #[.int .i64 0, .bool false, .int .i64 0, .string ⟨#[]⟩, .slice none 0 0] 28)
  have HW := Hid.intro (word_yes (h.below hA) 1 (by simp) (by omega))
  rw [show wordN (List.take 1 (c :: l)) = c.toNat from by simp [wordN], show List.drop 1 (c :: l) = l from rfl] at HW
  have HT := Hid.intro (Tu.below (R := R) hA)
  have hlt := h.lt
  have hltG := h.ltG
  clear h hA
  rw [hc] at HW
  go_enter Tryz.func69, Tryz.ntmps69
  go_wp2_with fail
  refine HW.out.mono ?_
  rintro e w1 ⟨rfl, ⟨o1, k1, h1⟩, h2⟩
  have g0 := fun j => h2.cell (g := w.heap.size) (j := j) (by simp) (by omega)
  have z0 := fun j => h2.froz (g := w.heap.size) (j := j) (by simp) (by omega)
  have hs : w.heap.size < w1.heap.size := by have := h2.size; simp at this; omega
  have hs2 : w.heap.size < w1.heap.size + 1 := by omega
  have T1 := Hid.intro (HT.out.trans h2)
  have n1 : ¬ w1.heap.size = w.heap.size := by omega
  have n2 : ¬ w.heap.size = w1.heap.size := by omega
  have hR1 := h1.lt
  have hG1 := h1.ltG
  have n3 : ¬ w1.heap.size = R := by omega
  have n4 : ¬ w.heap.size = R := by omega
  have n5 : ¬ R = w1.heap.size := by omega
  have n6 : ¬ R = w.heap.size := by omega
  clear HW HT h2
  have HX := fun o => Hid.intro (word_yes (h1.al o) 8 (by omega) (by omega))
  have hr1 := Hid.intro (wordI_range (l.take 8))
  unfold wordI at hi
  have hd : decide (1 ≤ wrap64 (wordN (l.take 8) : Int)) = false := by simp; omega
  go_wp2_with fail
  refine ((HX _).out).mono ?_
  rintro e w2 ⟨rfl, ⟨o2, k2, h2⟩, t2⟩
  have a2 := fun j => t2.cell (g := w.heap.size) (j := j) (by first | omega | (simp; omega)) (by omega)
  have b2 := fun j => t2.cell (g := w1.heap.size) (j := j) (by first | omega | (simp; done) | (simp; omega)) (by omega)
  have c2 := fun j => t2.froz (g := w.heap.size) (j := j) (by first | omega | (simp; omega)) (by omega)
  have d2 := fun j => t2.froz (g := w1.heap.size) (j := j) (by first | omega | (simp; done) | (simp; omega)) (by omega)
  have hs2 : w1.heap.size < w2.heap.size := by have := t2.size; first | omega | (simp at this; omega)
  have hr2 : w.heap.size < w2.heap.size := by omega
  have T2 : Hid (Tu R w w2) := Hid.intro (Tu.trans (by (repeat (first | with_reducible exact T1.out | with_reducible refine Tu.al ?_ _ | with_reducible refine Tu.put ?_ (by simp only; omega) _))) t2)
  go_wp2_with fail
  refine (require_false (h2.put (by omega) (by omega) _)).mono ?_
  rintro e w3 ⟨rfl, h3, t3⟩
  have a3 := fun j => t3.cell (g := w.heap.size) (j := j) (by first | omega | (simp; omega)) (by omega)
  have b3 := fun j => t3.cell (g := w1.heap.size) (j := j) (by first | omega | (simp; done) | (simp; omega)) (by omega)
  have c3 := fun j => t3.froz (g := w.heap.size) (j := j) (by first | omega | (simp; omega)) (by omega)
  have d3 := fun j => t3.froz (g := w1.heap.size) (j := j) (by first | omega | (simp; done) | (simp; omega)) (by omega)
  have hs3 : w1.heap.size < w3.heap.size := by have := t3.size; first | omega | (simp at this; omega)
  have hr3 : w.heap.size < w3.heap.size := by omega
  have T3 : Hid (Tu R w w3) := Hid.intro (Tu.trans (by (repeat (first | with_reducible exact T2.out | with_reducible refine Tu.al ?_ _ | with_reducible refine Tu.put ?_ (by simp only; omega) _))) t3)
  go_wp2_with fail
  refine bodyPost_ret (v := .agg #[.int .i64 5, .bool false, .int .i64 (wrap64 (wordN (l.take 8) : Int)), .string ⟨#[]⟩, .slice none 0 0]) (by simp [results, Tryz.results69, go_sem, g0, hs, a2, a3]) rfl ⟨?_, ?_⟩
  · (repeat (first | with_reducible exact T3.out | with_reducible refine Tu.al ?_ _ | with_reducible refine Tu.put ?_ (by simp only; omega) _))
  · refine ⟨⟨_, _, _, _, _, _, _, rfl⟩, ?_⟩
    (repeat (first | with_reducible exact h3 | with_reducible refine Bd.al ?_ _ | with_reducible refine Bd.put ?_ (by omega) _))
end Go.Proofs.YtciibcfmlhbnkaaGreatDoor
