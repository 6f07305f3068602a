/- Decode of no bytes at all; EqBytes of none. -/
import Derived.Test.YtciibcfmlhbnkaaGreatDoorRDec8
namespace Go.Proofs.YtciibcfmlhbnkaaGreatDoor
open Go.RowKit

/-- The reader in the block R, at the end of nothing. -/
structure Nl (w : World) (R : Nat) : Prop where
  c0 : ∃ p c, w.cell? ⟨R, 0, none⟩ = some (.slice p 0 c)
  c1 : w.cell? ⟨R, 1, none⟩ = some (.bool false)
  f0 : w.frozen? ⟨R, 0, none⟩ = false
  f1 : w.frozen? ⟨R, 1, none⟩ = false
  lt : R < w.heap.size
theorem Nl.below {w w' : World} {R : Nat} (h : Nl w R) (k : Below w.heap.size w w') : Nl w' R := by
  obtain ⟨p, c, h0⟩ := h.c0
  exact ⟨⟨p, c, (k.cell (p := ⟨R, 0, none⟩) h.lt).trans h0⟩, (k.cell (p := ⟨R, 1, none⟩) h.lt).trans h.c1, (k.frozen (p := ⟨R, 0, none⟩) h.lt).trans h.f0, (k.frozen (p := ⟨R, 1, none⟩) h.lt).trans h.f1, Nat.lt_of_lt_of_le h.lt k.size⟩
theorem Nl.bad {w : World} {R : Nat} (h : Nl w R) : Bd (w.setCell ⟨R, 1, none⟩ (.bool true)) R := by
  obtain ⟨p, c, h0⟩ := h.c0
  refine ⟨⟨_, _, _, (cell_other _ _ _ _ _ _ (.inr (by decide))).trans h0⟩, cell_same h.c1, ?_, ?_, by simp [h.lt]⟩
  · simpa using h.f0
  · simpa using h.f1

set_option maxHeartbeats 1000000 in
theorem take_nl {w : World} {R : Nat} (h : Nl w R) : Calls Tryz.prog 116 #[.pointer (some ⟨R, 0, none⟩), .int .i64 1] w fun e w' => e = .returned (.slice none 0 0) ∧ Bd w' R ∧ Tu R w w' := by
  have H := Hid.intro h
  obtain ⟨⟨p, c, h0⟩, h1, f0, f1, hlt⟩ := h
  go_enter Tryz.func116, Tryz.ntmps116
  go_wp2
  go_ret
  exact ⟨rfl, H.out.bad, Tu.set _ _ _ _⟩
set_option maxRecDepth 20000 in
set_option maxHeartbeats 1000000 in
theorem word_nl {w : World} {R : Nat} (h : Nl w R) : Calls Tryz.prog 114 #[.pointer (some ⟨R, 0, none⟩), .int .i64 1] w fun e w' => e = .returned (.int .u64 0) ∧ Bd w' R ∧ Tu R w w' := by
  have HT := Hid.intro (take_nl h)
  clear h
  go_enter Tryz.func114, Tryz.ntmps114
  go_wp2_with fail
  refine HT.out.mono ?_
  rintro e w1 ⟨rfl, h1, h2⟩
  go_wp2_with fail
  go_loop [5, 12] (fun u i => u = .int .u64 0 ∧ i = .int .i64 0) (fun _ _ => 0)
  case atStart => exact ⟨rfl, rfl⟩
  case round =>
    obtain ⟨rfl, rfl⟩ := hrel
    go_wp2_with fail
    go_ret
    exact ⟨rfl, h1, h2⟩

set_option maxRecDepth 20000 in
set_option maxHeartbeats 2000000 in
theorem Decode_nl (w : World) (p : Option Addr) (c : Nat) :
    Calls Tryz.prog 31 #[.slice p 0 c] w fun e w' => Below w.heap.size w w' ∧ e = .returned (.tuple #[.agg #[.int .i64 0, .bool false, .int .i64 0, .string ⟨#[]⟩, .slice none 0 0], .int .i64 8]) := by
  have hA : Below w.heap.size w ((w.alloc (.cells #[.int .i64 0, .bool false, .int .i64 0, .string ⟨#[]⟩, .slice none 0 0] 28)).alloc (.cells #[.slice p 0 c, .bool false] 99)) := below_al (below_al (Below.refl _ _) _) _
  have hR : Nl ((w.alloc (.cells #[.int .i64 0, .bool false, .int .i64 0, .string ⟨#[]⟩, .slice none 0 0] 28)).alloc (.cells #[.slice p 0 c, .bool false] 99)) (w.heap.size + 1) := ⟨⟨p, c, by simp⟩, by simp, by simp, by simp, by simp⟩
  have HV := Hid.intro (val_of hR.lt 0 0 30 (fun _ hb => Hid.intro (word_nl (hR.below hb))))
  clear hR
  go_enter Tryz.func31, Tryz.ntmps31
  go_wp2_with fail
  refine HV.out.mono ?_
  rintro e w1 ⟨h2, ⟨k, b, i, s, p9, m9, c9, rfl⟩, h3⟩
  have g0 := fun j => h2.cell (g := w.heap.size) (j := j) (by simp; omega) (by omega)
  have z0 := fun j => h2.froz (g := w.heap.size) (j := j) (by simp; omega) (by omega)
  have hs : w.heap.size + 1 < w1.heap.size := by have := h2.size; simp at this; omega
  have hs2 : w.heap.size < w1.heap.size := by omega
  have hs3 : w.heap.size < w1.heap.size + 1 := by omega
  have n1 : ¬ w1.heap.size = w.heap.size := by omega
  have n2 : ¬ w.heap.size = w1.heap.size := by omega
  have hB : Hid (Below w.heap.size w w1) := Hid.intro (h2.toBelow hA (by omega))
  clear HV h2 hA
  have c1 := h3.c1
  obtain ⟨p0, m0, k0, c0⟩ := h3.c0
  go_wp2_with fail
  refine bodyPost_ret (v := .tuple #[.agg #[.int .i64 0, .bool false, .int .i64 0, .string ⟨#[]⟩, .slice none 0 0], .int .i64 8]) (by simp [results, Tryz.results31, go_sem, g0, hs2]) rfl ⟨?_, rfl⟩
  (repeat (first | with_reducible exact hB.out | with_reducible refine below_al ?_ _ | with_reducible refine below_put ?_ (Nat.le_refl _) _))


set_option maxHeartbeats 1000000 in
theorem rtake_nl {w : World} {R : Nat} (h : Nl w R) : Calls Tryz.prog 120 #[.pointer (some ⟨R, 0, none⟩), .int .i64 1] w fun e w' => e = .returned (.slice none 0 0) ∧ Bd w' R ∧ Tu R w w' := by
  have H := Hid.intro h
  obtain ⟨⟨p, c, h0⟩, h1, f0, f1, hlt⟩ := h
  go_enter Tryz.func120, Tryz.ntmps120
  go_wp2
  go_ret
  exact ⟨rfl, H.out.bad, Tu.set _ _ _ _⟩
set_option maxRecDepth 20000 in
set_option maxHeartbeats 1000000 in
theorem rnum_nl {w : World} {R : Nat} (h : Nl w R) : Calls Tryz.prog 119 #[.pointer (some ⟨R, 0, none⟩), .int .i64 1] w fun e w' => e = .returned (.int .i64 0) ∧ Bd w' R ∧ Tu R w w' := by
  have HT := Hid.intro (rtake_nl h)
  clear h
  go_enter Tryz.func119, Tryz.ntmps119
  go_wp2_with fail
  refine HT.out.mono ?_
  rintro e w1 ⟨rfl, h1, h2⟩
  go_wp2_with fail
  go_loop [6, 7] (fun u i => u = .int .i64 0 ∧ i = .int .i64 0) (fun _ _ => 0)
  case atStart => exact ⟨rfl, rfl⟩
  case round =>
    obtain ⟨rfl, rfl⟩ := hrel
    go_wp2_with fail
    go_ret
    exact ⟨rfl, h1, h2⟩

set_option maxRecDepth 20000 in
set_option maxHeartbeats 2000000 in
theorem RDecode_nl (w : World) (p : Option Addr) (c : Nat) :
    Calls Tryz.prog 32 #[.slice p 0 c] w fun e w' => Below w.heap.size w w' ∧ e = .returned (.tuple #[.agg #[.int .i64 0, .bool false, .int .i64 0, .string ⟨#[]⟩, .slice none 0 0], .int .i64 8]) := by
  have hA : Below w.heap.size w ((w.alloc (.cells #[.int .i64 0, .bool false, .int .i64 0, .string ⟨#[]⟩, .slice none 0 0] 28)).alloc (.cells #[.slice p 0 c, .bool false] 103)) := below_al (below_al (Below.refl _ _) _) _
  have hR : Nl ((w.alloc (.cells #[.int .i64 0, .bool false, .int .i64 0, .string ⟨#[]⟩, .slice none 0 0] 28)).alloc (.cells #[.slice p 0 c, .bool false] 103)) (w.heap.size + 1) := ⟨⟨p, c, by simp⟩, by simp, by simp, by simp, by simp⟩
  have HV := Hid.intro (rval_of hR.lt 0 0 0 (fun _ hb => Hid.intro (rnum_nl (hR.below hb))))
  have HN := Hid.intro (fun w' => rno_any 8 w')
  clear hR
  go_enter Tryz.func32, Tryz.ntmps32
  go_wp2_with fail
  refine HV.out.mono ?_
  rintro e w1 ⟨h2, ⟨k, b, i, s, p9, m9, c9, rfl⟩, h3⟩
  have g0 := fun j => h2.cell (g := w.heap.size) (j := j) (by simp; omega) (by omega)
  have z0 := fun j => h2.froz (g := w.heap.size) (j := j) (by simp; omega) (by omega)
  have hs : w.heap.size + 1 < w1.heap.size := by have := h2.size; simp at this; omega
  have hs2 : w.heap.size < w1.heap.size := by omega
  have hs3 : w.heap.size < w1.heap.size + 1 := by omega
  have n1 : ¬ w1.heap.size = w.heap.size := by omega
  have n2 : ¬ w.heap.size = w1.heap.size := by omega
  have hB : Hid (Below w.heap.size w w1) := Hid.intro (h2.toBelow hA (by omega))
  clear HV h2 hA
  have c1 := h3.c1
  obtain ⟨p0, m0, k0, c0⟩ := h3.c0
  go_wp2_with fail
  refine (HN.out _).mono ?_
  rintro e w2 ⟨rfl, hb2⟩
  have g2 := fun j => hb2.cell (p := ⟨w.heap.size, j, none⟩) (by simp; omega)
  have z2 := fun j => hb2.frozen (p := ⟨w.heap.size, j, none⟩) (by simp; omega)
  have hs4 : w.heap.size < w2.heap.size := by have := hb2.size; simp at this; omega
  have HB2 : Hid (Below w.heap.size w w2) := Hid.intro (hb2.via (below_al hB.out _))
  clear hb2
  go_wp2_with fail
  refine bodyPost_ret (v := .tuple #[.agg #[.int .i64 0, .bool false, .int .i64 0, .string ⟨#[]⟩, .slice none 0 0], .int .i64 8]) (by simp [results, Tryz.results32, go_sem, g0, g2, hs2]) rfl ⟨?_, rfl⟩
  (repeat (first | with_reducible exact HB2.out | with_reducible refine below_al ?_ _ | with_reducible refine below_put ?_ (Nat.le_refl _) _))

set_option maxHeartbeats 1000000 in
theorem eqBytes_nil (w : World) : Calls Tryz.prog 30 #[.slice none 0 0, .slice none 0 0] w fun e w' => Below w.heap.size w w' ∧ e = .returned (.bool true) := by
  have hconv : ∀ w' : World, (convert 50 9 (.slice none 0 0)).run Tryz.prog w' = .ok (.string ⟨#[]⟩) w' := fun w' => run_convert_bytes_nil (w := w') 50 5 Tryz.underlying50 Tryz.underlying5 0 0 _ Tryz.underlying9
  go_enter Tryz.func30, Tryz.ntmps30
  go_wp2
  go_ret
  exact ⟨Below.refl _ _, by simp⟩
end Go.Proofs.YtciibcfmlhbnkaaGreatDoor
