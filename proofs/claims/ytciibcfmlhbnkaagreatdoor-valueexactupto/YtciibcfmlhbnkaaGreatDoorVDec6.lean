/- value.Decode's reader: value, a kind each. -/
import Derived.Test.YtciibcfmlhbnkaaGreatDoorVDec5
import Derived.Deep.DeepCutAuto
namespace Go.Proofs.YtciibcfmlhbnkaaGreatDoor
open Go.RowKit

theorem new_cell {w : World} {cs : Array Value} {T : TypeId} {n : Nat} (hn : w.heap.size = n) (j : Nat) : (w.alloc (.cells cs T)).cell? ⟨n, j, none⟩ = cs[j]? := by
  subst hn
  unfold World.cell?
  rw [heap_alloc_new]
  rfl
theorem vsb_leaf {P : Nat → Prop} {w : World} {n : Nat} {t : Tr} (h1 : t.wf) (h2 : t.l = []) : VsB P w (n + 1) t (.slice none 0 0) := by
  refine ⟨h1, none, 0, by rw [h2]; rfl, by rw [h2]; exact Nat.le_refl _, Nat.zero_le _, fun h => ?_⟩
  rw [h2] at h
  exact absurd h (Nat.lt_irrefl 0)
theorem leaf_wf {k i : Int} {b : Bool} {s : ByteArray} (h1 : 0 ≤ k) (h2 : k ≤ 5) (h3 : -9223372036854775808 ≤ i) (h4 : i ≤ 9223372036854775807) (h5 : s.size ≤ maxLen) : Tr.wf ⟨k, b, i, s, []⟩ := by
  refine ⟨?_, ?_, h3, h4, h5⟩ <;> simp only <;> omega

set_option maxRecDepth 20000 in
set_option maxHeartbeats 2000000 in
theorem val_0 {c : UInt8} {w : World} {R G off cap : Nat} {l : List UInt8} (room : Nat) (_hroom : room ≤ 30) (_hl : l.length ≤ 1000000000) (h : Rd w R G off cap (c :: l)) (hc : c.toNat = 0) :
    Calls Tryz.prog 69 #[.pointer (some ⟨R, 0, none⟩), .int .i64 (room : Int)] w fun e w' => Tu R w w' ∧ ValP w R G (room + 1) e w' (some (zeroT, l)) := by
  have hA := below_al (Below.refl w.heap.size w) (.cells #[.int .i64 0, .bool false, .int .i64 0, .string ⟨#[]⟩, .slice none 0 0] 28)
  have HW := Hid.intro (word_yes (h.below hA) 1 (by simp) (by omega))
  rw [show wordN (List.take 1 (c :: l)) = c.toNat from by simp [wordN], show List.drop 1 (c :: l) = l from rfl] at HW
  have HT := Hid.intro (Tu.below (R := R) hA)
  have hlt := h.lt
  have hltG := h.ltG
  clear h hA
  rw [hc] at HW
  go_enter Tryz.func69, Tryz.ntmps69
  go_wp2_with fail
  refine HW.out.mono ?_
  rintro e w1 ⟨rfl, ⟨o1, k1, h1⟩, h2⟩
  have g0 := fun j => h2.cell (g := w.heap.size) (j := j) (by simp) (by omega)
  have z0 := fun j => h2.froz (g := w.heap.size) (j := j) (by simp) (by omega)
  have hs : w.heap.size < w1.heap.size := by have := h2.size; simp at this; omega
  have hs2 : w.heap.size < w1.heap.size + 1 := by omega
  have T1 := Hid.intro (HT.out.trans h2)
  have n1 : ¬ w1.heap.size = w.heap.size := by omega
  have n2 : ¬ w.heap.size = w1.heap.size := by omega
  have hR1 := h1.lt
  have hG1 := h1.ltG
  have n3 : ¬ w1.heap.size = R := by omega
  have n4 : ¬ w.heap.size = R := by omega
  have n5 : ¬ R = w1.heap.size := by omega
  have n6 : ¬ R = w.heap.size := by omega
  clear HW HT h2
  go_wp2_with fail
  refine bodyPost_ret (v := .agg #[.int .i64 0, .bool false, .int .i64 0, .string ⟨#[]⟩, .slice none 0 0]) (by simp [results, Tryz.results69, go_sem, g0, hs]) rfl ⟨?_, ?_⟩
  · (repeat (first | with_reducible exact T1.out | with_reducible refine Tu.al ?_ _ | with_reducible refine Tu.put ?_ (by simp only; omega) _))
  · refine ⟨.slice none 0 0, rfl, vsb_leaf (leaf_wf (by decide) (by decide) (by decide) (by decide) (Nat.zero_le _)) rfl, o1, k1, ?_⟩
    (repeat (first | with_reducible exact h1 | with_reducible refine Rd.al ?_ _ | with_reducible refine Rd.put ?_ (by omega) (by omega) _))
set_option maxRecDepth 20000 in
set_option maxHeartbeats 2000000 in
theorem val_x {c : UInt8} {w : World} {R G off cap : Nat} {l : List UInt8} (room : Nat) (_hroom : room ≤ 30) (_hl : l.length ≤ 1000000000) (h : Rd w R G off cap (c :: l)) (hc : 6 ≤ c.toNat) :
    Calls Tryz.prog 69 #[.pointer (some ⟨R, 0, none⟩), .int .i64 (room : Int)] w fun e w' => Tu R w w' ∧ ValP w R G (room + 1) e w' none := by
  have hA := below_al (Below.refl w.heap.size w) (.cells #[.int .i64 0, .bool false, .int .i64 0, .string ⟨#[]⟩, .slice none 0 0] 28)
  have HW := Hid.intro (word_yes (h.below hA) 1 (by simp) (by omega))
  rw [show wordN (List.take 1 (c :: l)) = c.toNat from by simp [wordN], show List.drop 1 (c :: l) = l from rfl] at HW
  have HT := Hid.intro (Tu.below (R := R) hA)
  have hlt := h.lt
  have hltG := h.ltG
  clear h hA
  have hc0 : ((c.toNat : Int) == 0) = false := by simp; omega
  have hc1 : ((c.toNat : Int) == 1) = false := by simp; omega
  have hc2 : ((c.toNat : Int) == 2) = false := by simp; omega
  have hc3 : ((c.toNat : Int) == 3) = false := by simp; omega
  have hc4 : ((c.toNat : Int) == 4) = false := by simp; omega
  have hc5 : ((c.toNat : Int) == 5) = false := by simp; omega
  have hcl := c.toNat_lt
  have hcw : IntKind.i64.wrap (c.toNat : Int) = (c.toNat : Int) := by simp [IntKind.wrap, IntKind.bits, IntKind.signed]; omega
  generalize (c.toNat : Int) = K at *
  go_enter Tryz.func69, Tryz.ntmps69
  go_wp2_with fail
  refine HW.out.mono ?_
  rintro e w1 ⟨rfl, ⟨o1, k1, h1⟩, h2⟩
  have g0 := fun j => h2.cell (g := w.heap.size) (j := j) (by simp) (by omega)
  have z0 := fun j => h2.froz (g := w.heap.size) (j := j) (by simp) (by omega)
  have hs : w.heap.size < w1.heap.size := by have := h2.size; simp at this; omega
  have hs2 : w.heap.size < w1.heap.size + 1 := by omega
  have T1 := Hid.intro (HT.out.trans h2)
  have n1 : ¬ w1.heap.size = w.heap.size := by omega
  have n2 : ¬ w.heap.size = w1.heap.size := by omega
  have hR1 := h1.lt
  have hG1 := h1.ltG
  have n3 : ¬ w1.heap.size = R := by omega
  have n4 : ¬ w.heap.size = R := by omega
  have n5 : ¬ R = w1.heap.size := by omega
  have n6 : ¬ R = w.heap.size := by omega
  clear HW HT h2
  have e1 := h1.c1
  have e2 := h1.f1
  have hB := h1.bad
  have hTx : Tu R w (w1.setCell ⟨R, 1, none⟩ (.bool true)) := T1.out.trans (Tu.set R 1 w1 _)
  have f0 : ((w1.setCell ⟨R, 1, none⟩ (.bool true)).alloc (.cells #[.int .i64 K, .bool false, .int .i64 0, .string ⟨#[]⟩, .slice none 0 0] 28)).cell? ⟨w1.heap.size, 0, none⟩ = some (.int .i64 K) := new_cell (by simp) 0
  have f1 : ((w1.setCell ⟨R, 1, none⟩ (.bool true)).alloc (.cells #[.int .i64 K, .bool false, .int .i64 0, .string ⟨#[]⟩, .slice none 0 0] 28)).cell? ⟨w1.heap.size, 1, none⟩ = some (.bool false) := new_cell (by simp) 1
  have f2 : ((w1.setCell ⟨R, 1, none⟩ (.bool true)).alloc (.cells #[.int .i64 K, .bool false, .int .i64 0, .string ⟨#[]⟩, .slice none 0 0] 28)).cell? ⟨w1.heap.size, 2, none⟩ = some (.int .i64 0) := new_cell (by simp) 2
  have f3 : ((w1.setCell ⟨R, 1, none⟩ (.bool true)).alloc (.cells #[.int .i64 K, .bool false, .int .i64 0, .string ⟨#[]⟩, .slice none 0 0] 28)).cell? ⟨w1.heap.size, 3, none⟩ = some (.string ⟨#[]⟩) := new_cell (by simp) 3
  have f4 : ((w1.setCell ⟨R, 1, none⟩ (.bool true)).alloc (.cells #[.int .i64 K, .bool false, .int .i64 0, .string ⟨#[]⟩, .slice none 0 0] 28)).cell? ⟨w1.heap.size, 4, none⟩ = some (.slice none 0 0) := new_cell (by simp) 4
  go_wp2_with fail
  refine bodyPost_ret (v := .agg #[.int .i64 K, .bool false, .int .i64 0, .string ⟨#[]⟩, .slice none 0 0]) (by simp [results, Tryz.results69, go_sem, g0, hs]) rfl ⟨?_, ?_⟩
  · (repeat (first | with_reducible exact hTx | with_reducible refine Tu.al ?_ _ | with_reducible refine Tu.put ?_ (by simp only; omega) _))
  · refine ⟨⟨_, _, _, _, _, _, _, rfl⟩, ?_⟩
    (repeat (first | with_reducible exact hB | with_reducible refine Bd.al ?_ _ | with_reducible refine Bd.put ?_ (by omega) _))
set_option maxRecDepth 20000 in
set_option maxHeartbeats 2000000 in
theorem val_1n {c : UInt8} {w : World} {R G off cap : Nat} {l : List UInt8} (room : Nat) (_hroom : room ≤ 30) (hl : l.length ≤ 1000000000) (h : Rd w R G off cap (c :: l)) (hc : c.toNat = 1) (he : l = []) :
    Calls Tryz.prog 69 #[.pointer (some ⟨R, 0, none⟩), .int .i64 (room : Int)] w fun e w' => Tu R w w' ∧ ValP w R G (room + 1) e w' none := by
  have hA := below_al (Below.refl w.heap.size w) (.cells #[.int .i64 0, .bool false, .int .i64 0, .string ⟨#[]⟩, .slice none 0 0] 28)
  have HW := Hid.intro (word_yes (h.below hA) 1 (by simp) (by omega))
  rw [show wordN (List.take 1 (c :: l)) = c.toNat from by simp [wordN], show List.drop 1 (c :: l) = l from rfl] at HW
  have HT := Hid.intro (Tu.below (R := R) hA)
  have hlt := h.lt
  have hltG := h.ltG
  clear h hA
  rw [hc] at HW
  subst he
  go_enter Tryz.func69, Tryz.ntmps69
  go_wp2_with fail
  refine HW.out.mono ?_
  rintro e w1 ⟨rfl, ⟨o1, k1, h1⟩, h2⟩
  have g0 := fun j => h2.cell (g := w.heap.size) (j := j) (by simp) (by omega)
  have z0 := fun j => h2.froz (g := w.heap.size) (j := j) (by simp) (by omega)
  have hs : w.heap.size < w1.heap.size := by have := h2.size; simp at this; omega
  have hs2 : w.heap.size < w1.heap.size + 1 := by omega
  have T1 := Hid.intro (HT.out.trans h2)
  have n1 : ¬ w1.heap.size = w.heap.size := by omega
  have n2 : ¬ w.heap.size = w1.heap.size := by omega
  have hR1 := h1.lt
  have hG1 := h1.ltG
  have n3 : ¬ w1.heap.size = R := by omega
  have n4 : ¬ w.heap.size = R := by omega
  have n5 : ¬ R = w1.heap.size := by omega
  have n6 : ¬ R = w.heap.size := by omega
  clear HW HT h2
  go_wp2_with fail
  refine (word_no (h1.al _) 1 (by simp)).mono ?_
  rintro e w2 ⟨rfl, h2, t2⟩
  have a2 := fun j => t2.cell (g := w.heap.size) (j := j) (by first | omega | (simp; omega)) (by omega)
  have b2 := fun j => t2.cell (g := w1.heap.size) (j := j) (by first | omega | (simp; done) | (simp; omega)) (by omega)
  have c2 := fun j => t2.froz (g := w.heap.size) (j := j) (by first | omega | (simp; omega)) (by omega)
  have d2 := fun j => t2.froz (g := w1.heap.size) (j := j) (by first | omega | (simp; done) | (simp; omega)) (by omega)
  have hs2 : w1.heap.size < w2.heap.size := by have := t2.size; first | omega | (simp at this; omega)
  have hr2 : w.heap.size < w2.heap.size := by omega
  have T2 : Hid (Tu R w w2) := Hid.intro (Tu.trans (by (repeat (first | with_reducible exact T1.out | with_reducible refine Tu.al ?_ _ | with_reducible refine Tu.put ?_ (by simp only; omega) _))) t2)
  go_wp2_with fail
  refine (require_bd h2 _).mono ?_
  rintro e w3 ⟨rfl, h3, t3⟩
  have a3 := fun j => t3.cell (g := w.heap.size) (j := j) (by first | omega | (simp; omega)) (by omega)
  have b3 := fun j => t3.cell (g := w1.heap.size) (j := j) (by first | omega | (simp; done) | (simp; omega)) (by omega)
  have c3 := fun j => t3.froz (g := w.heap.size) (j := j) (by first | omega | (simp; omega)) (by omega)
  have d3 := fun j => t3.froz (g := w1.heap.size) (j := j) (by first | omega | (simp; done) | (simp; omega)) (by omega)
  have hs3 : w1.heap.size < w3.heap.size := by have := t3.size; first | omega | (simp at this; omega)
  have hr3 : w.heap.size < w3.heap.size := by omega
  have T3 : Hid (Tu R w w3) := Hid.intro (Tu.trans (by (repeat (first | with_reducible exact T2.out | with_reducible refine Tu.al ?_ _ | with_reducible refine Tu.put ?_ (by simp only; omega) _))) t3)
  go_wp2_with fail
  refine bodyPost_ret (v := .agg #[.int .i64 1, .bool false, .int .i64 0, .string ⟨#[]⟩, .slice none 0 0]) (by simp [results, Tryz.results69, go_sem, g0, hs, a2, a3]) rfl ⟨?_, ?_⟩
  · (repeat (first | with_reducible exact T3.out | with_reducible refine Tu.al ?_ _ | with_reducible refine Tu.put ?_ (by simp only; omega) _))
  · refine ⟨⟨_, _, _, _, _, _, _, rfl⟩, ?_⟩
    (repeat (first | with_reducible exact h3 | with_reducible refine Bd.al ?_ _ | with_reducible refine Bd.put ?_ (by omega) _))
end Go.Proofs.YtciibcfmlhbnkaaGreatDoor
