/- value.Decode's reader: value. -/
import Derived.Test.YtciibcfmlhbnkaaGreatDoorVDec4
namespace Go.Proofs.YtciibcfmlhbnkaaGreatDoor
open Go.RowKit

theorem Tu.put {R : Nat} {w w1 : World} (h : Tu R w w1) {p : Addr} (hp : w.heap.size ≤ p.block) (v : Value) : Tu R w (w1.setCell p v) :=
  ⟨h.os, h.tape, h.output, by simpa using h.size, fun k hk hr => (Below.heap_setCell w1 _ _ k (by omega)).trans (h.block k hk hr)⟩
theorem Tu.al {R : Nat} {w w1 : World} (h : Tu R w w1) (o : Obj) : Tu R w (w1.alloc o) :=
  ⟨h.os, h.tape, h.output, by have := h.size; simp; omega, fun k hk hr => (heap_alloc_old w1 o (Nat.lt_of_lt_of_le hk h.size)).trans (h.block k hk hr)⟩
theorem Bd.al {w : World} {R : Nat} (h : Bd w R) (o : Obj) : Bd (w.alloc o) R := h.below (below_al (Below.refl _ _) o)
theorem Rd.al {w : World} {R G off cap : Nat} {l : List UInt8} (h : Rd w R G off cap l) (o : Obj) : Rd (w.alloc o) R G off cap l := h.below (below_al (Below.refl _ _) o)
theorem Bd.put {w : World} {R : Nat} (h : Bd w R) {b j : Nat} (hp : b ≠ R) (v : Value) : Bd (w.setCell ⟨b, j, none⟩ v) R := by
  obtain ⟨p, m, c, h0⟩ := h.c0
  refine ⟨⟨p, m, c, (cell_other _ _ _ _ _ _ (.inl (Ne.symm hp))).trans h0⟩, (cell_other _ _ _ _ _ _ (.inl (Ne.symm hp))).trans h.c1, by simpa using h.f0, by simpa using h.f1, by simp [h.lt]⟩
theorem Rd.put {w : World} {R G off cap : Nat} {l : List UInt8} (h : Rd w R G off cap l) {b j : Nat} (hp : b ≠ R) (hg : b ≠ G) (v : Value) : Rd (w.setCell ⟨b, j, none⟩ v) R G off cap l :=
  ⟨(cell_other _ _ _ _ _ _ (.inl (Ne.symm hp))).trans h.c0, (cell_other _ _ _ _ _ _ (.inl (Ne.symm hp))).trans h.c1, by simpa using h.f0, by simpa using h.f1, h.le, h.most, by simp [h.lt], by simp [h.ltG], h.ne, fun j hj => (cell_other _ _ _ _ _ _ (.inl (Ne.symm hg))).trans (h.by_ j hj)⟩

set_option maxRecDepth 20000 in
set_option maxHeartbeats 1000000 in
theorem val_of {w : World} {R : Nat} (hlt : R < w.heap.size) (G n : Nat) (r : Int) (HW : ∀ w' : World, Below w.heap.size w w' → Hid (Calls Tryz.prog 114 #[.pointer (some ⟨R, 0, none⟩), .int .i64 1] w' fun e w'' => e = .returned (.int .u64 0) ∧ Bd w'' R ∧ Tu R w' w'')) :
    Calls Tryz.prog 69 #[.pointer (some ⟨R, 0, none⟩), .int .i64 r] w fun e w' => Tu R w w' ∧ ValP w R G n e w' none := by
  have hA := below_al (Below.refl w.heap.size w) (.cells #[.int .i64 0, .bool false, .int .i64 0, .string ⟨#[]⟩, .slice none 0 0] 28)
  have HW := HW _ hA
  have HT := Hid.intro (Tu.below (R := R) hA)
  clear hA
  go_enter Tryz.func69, Tryz.ntmps69
  go_wp2_with fail
  refine HW.out.mono ?_
  rintro e w1 ⟨rfl, h1, h2⟩
  have g0 := fun j => h2.cell (g := w.heap.size) (j := j) (by simp) (by omega)
  have z0 := fun j => h2.froz (g := w.heap.size) (j := j) (by simp) (by omega)
  have hs : w.heap.size < w1.heap.size := by have := h2.size; simp at this; omega
  have hs2 : w.heap.size < w1.heap.size + 1 := by omega
  go_wp2_with fail
  refine bodyPost_ret (v := .agg #[.int .i64 0, .bool false, .int .i64 0, .string ⟨#[]⟩, .slice none 0 0]) (by simp [results, Tryz.results69, go_sem, g0, hs]) rfl ⟨?_, ⟨_, _, _, _, _, _, _, rfl⟩, ?_⟩
  · have h3 := HT.out.trans h2
    repeat (first | with_reducible exact h3 | with_reducible refine Tu.al ?_ _ | with_reducible refine Tu.put ?_ (by simp only; omega) _)
  · repeat (first | with_reducible exact h1 | with_reducible refine Bd.al ?_ _ | with_reducible refine Bd.put ?_ (by omega) _)
theorem val_bad {w : World} {R : Nat} (h : Bd w R) (G n : Nat) (r : Int) : Calls Tryz.prog 69 #[.pointer (some ⟨R, 0, none⟩), .int .i64 r] w fun e w' => Tu R w w' ∧ ValP w R G n e w' none :=
  val_of h.lt G n r fun _ hb => Hid.intro (word_bad (h.below hb) 1)
theorem val_nil {w : World} {R G off cap : Nat} (h : Rd w R G off cap []) (n : Nat) (r : Int) : Calls Tryz.prog 69 #[.pointer (some ⟨R, 0, none⟩), .int .i64 r] w fun e w' => Tu R w w' ∧ ValP w R G n e w' none :=
  val_of h.lt G n r fun _ hb => Hid.intro (word_no (h.below hb) 1 (by simp))
end Go.Proofs.YtciibcfmlhbnkaaGreatDoor
