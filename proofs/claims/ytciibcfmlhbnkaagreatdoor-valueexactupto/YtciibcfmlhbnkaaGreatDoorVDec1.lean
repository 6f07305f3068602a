/- value.Decode's reader: take, word. -/
import Derived.Test.YtciibcfmlhbnkaaGreatDoorVEnc3
import Derived.Test.YtciibcfmlhbnkaaGreatDoorFresh
namespace Go.Proofs.YtciibcfmlhbnkaaGreatDoor
open Go.RowKit

/-- Of what was there only the block R turned. -/
structure Tu (R : Nat) (w w' : World) : Prop where
  os : w'.os = w.os
  tape : w'.tape = w.tape
  output : w'.output = w.output
  size : w.heap.size ≤ w'.heap.size
  block : ∀ k, k < w.heap.size → k ≠ R → w'.heap[k]? = w.heap[k]?
theorem Tu.refl (R : Nat) (w : World) : Tu R w w := ⟨rfl, rfl, rfl, Nat.le_refl _, fun _ _ _ => rfl⟩
theorem Tu.trans {R : Nat} {a b c : World} (h : Tu R a b) (k : Tu R b c) : Tu R a c := ⟨k.os.trans h.os, k.tape.trans h.tape, k.output.trans h.output, Nat.le_trans h.size k.size, fun g hg hr => (k.block g (Nat.lt_of_lt_of_le hg h.size) hr).trans (h.block g hg hr)⟩
theorem Tu.below {R : Nat} {w w' : World} (h : Below w.heap.size w w') : Tu R w w' := ⟨h.os, h.tape, h.output, h.size, fun k hk _ => h.block k hk⟩
theorem Tu.set (R j : Nat) (w : World) (v : Value) : Tu R w (w.setCell ⟨R, j, none⟩ v) := ⟨rfl, rfl, rfl, by simp, fun k _ hr => Below.heap_setCell w _ _ k hr⟩
theorem Tu.cell {R : Nat} {w w' : World} (h : Tu R w w') {g j : Nat} (hg : g < w.heap.size) (hr : g ≠ R) : w'.cell? ⟨g, j, none⟩ = w.cell? ⟨g, j, none⟩ := World.cell?_of_block (a := ⟨g, j, none⟩) (h.block g hg hr)
theorem Tu.froz {R : Nat} {w w' : World} (h : Tu R w w') {g j : Nat} (hg : g < w.heap.size) (hr : g ≠ R) : w'.frozen? ⟨g, j, none⟩ = w.frozen? ⟨g, j, none⟩ := World.frozen?_of_block (a := ⟨g, j, none⟩) (h.block g hg hr)
theorem Tu.toBelow {R : Nat} {w0 w w' : World} (h : Below w0.heap.size w0 w) (k : Tu R w w') (hR : w0.heap.size ≤ R) : Below w0.heap.size w0 w' :=
  ⟨k.os.trans h.os, k.tape.trans h.tape, k.output.trans h.output, Nat.le_trans h.size k.size, fun b hb => (k.block b (Nat.lt_of_lt_of_le hb h.size) (by omega)).trans (h.block b hb)⟩

/-- The bytes lie in the block G. -/
def Bys (w : World) (G off : Nat) (l : List UInt8) : Prop := ∀ j (h : j < l.length), w.cell? ⟨G, off + j, none⟩ = some (.int .u8 (l[j].toNat : Int))
theorem Bys.drop {w : World} {G off : Nat} {l : List UInt8} (h : Bys w G off l) (n : Nat) : Bys w G (off + n) (l.drop n) := fun j hj => by
  rw [List.length_drop] at hj
  have := h (n + j) (by omega)
  rw [List.getElem_drop, Nat.add_assoc]; exact this
theorem Bys.take {w : World} {G off : Nat} {l : List UInt8} (h : Bys w G off l) (n : Nat) : Bys w G off (l.take n) := fun j hj => by
  rw [List.length_take] at hj
  rw [List.getElem_take]; exact h j (by omega)
/-- The reader in the block R, good; and bad. -/
structure Rd (w : World) (R G off cap : Nat) (l : List UInt8) : Prop where
  c0 : w.cell? ⟨R, 0, none⟩ = some (.slice (some ⟨G, off, none⟩) l.length cap)
  c1 : w.cell? ⟨R, 1, none⟩ = some (.bool false)
  f0 : w.frozen? ⟨R, 0, none⟩ = false
  f1 : w.frozen? ⟨R, 1, none⟩ = false
  le : l.length ≤ cap
  most : cap ≤ 9223372036854775807
  lt : R < w.heap.size
  ltG : G < w.heap.size
  ne : G ≠ R
  by_ : Bys w G off l
structure Bd (w : World) (R : Nat) : Prop where
  c0 : ∃ p m c, w.cell? ⟨R, 0, none⟩ = some (.slice p m c)
  c1 : w.cell? ⟨R, 1, none⟩ = some (.bool true)
  f0 : w.frozen? ⟨R, 0, none⟩ = false
  f1 : w.frozen? ⟨R, 1, none⟩ = false
  lt : R < w.heap.size
theorem Rd.below {w w' : World} {R G off cap : Nat} {l : List UInt8} (h : Rd w R G off cap l) (k : Below w.heap.size w w') : Rd w' R G off cap l :=
  ⟨(k.cell (p := ⟨R, 0, none⟩) h.lt).trans h.c0, (k.cell (p := ⟨R, 1, none⟩) h.lt).trans h.c1, (k.frozen (p := ⟨R, 0, none⟩) h.lt).trans h.f0, (k.frozen (p := ⟨R, 1, none⟩) h.lt).trans h.f1, h.le, h.most, Nat.lt_of_lt_of_le h.lt k.size, Nat.lt_of_lt_of_le h.ltG k.size, h.ne,
    fun j hj => (k.cell (p := ⟨G, off + j, none⟩) h.ltG).trans (h.by_ j hj)⟩
theorem Bd.below {w w' : World} {R : Nat} (h : Bd w R) (k : Below w.heap.size w w') : Bd w' R := by
  obtain ⟨p, m, c, h0⟩ := h.c0
  exact ⟨⟨p, m, c, (k.cell (p := ⟨R, 0, none⟩) h.lt).trans h0⟩, (k.cell (p := ⟨R, 1, none⟩) h.lt).trans h.c1, (k.frozen (p := ⟨R, 0, none⟩) h.lt).trans h.f0, (k.frozen (p := ⟨R, 1, none⟩) h.lt).trans h.f1, Nat.lt_of_lt_of_le h.lt k.size⟩
theorem Rd.bad {w : World} {R G off cap : Nat} {l : List UInt8} (h : Rd w R G off cap l) : Bd (w.setCell ⟨R, 1, none⟩ (.bool true)) R := by
  refine ⟨⟨_, _, _, (cell_other _ _ _ _ _ _ (.inr (by decide))).trans h.c0⟩, cell_same h.c1, ?_, ?_, by simp [h.lt]⟩
  · simpa using h.f0
  · simpa using h.f1
theorem Bd.bad {w : World} {R : Nat} (h : Bd w R) : Bd (w.setCell ⟨R, 1, none⟩ (.bool true)) R := by
  obtain ⟨p, m, c, h0⟩ := h.c0
  refine ⟨⟨p, m, c, (cell_other _ _ _ _ _ _ (.inr (by decide))).trans h0⟩, cell_same h.c1, ?_, ?_, by simp [h.lt]⟩
  · simpa using h.f0
  · simpa using h.f1
theorem Rd.step {w : World} {R G off cap : Nat} {l : List UInt8} (h : Rd w R G off cap l) (n : Nat) (hn : n ≤ l.length) (off' : Nat) (ho : n = l.length ∨ off' = off + n) : Rd (w.setCell ⟨R, 0, none⟩ (.slice (some ⟨G, off', none⟩) (l.length - n) (cap - n))) R G off' (cap - n) (l.drop n) := by
  have hl := h.le
  have hm := h.most
  refine ⟨by rw [cell_same h.c0, List.length_drop], (cell_other _ _ _ _ _ _ (.inr (by decide))).trans h.c1, by simpa using h.f0, by simpa using h.f1, by rw [List.length_drop]; omega, by omega, by simp [h.lt], by simp [h.ltG], h.ne, fun j hj => ?_⟩
  rw [cell_other _ _ _ _ _ _ (.inl h.ne)]
  rcases ho with ho | rfl
  · rw [List.length_drop] at hj; omega
  · exact h.by_.drop n j hj

set_option maxHeartbeats 1000000 in
theorem take_bad {w : World} {R : Nat} (h : Bd w R) (n : Int) : Calls Tryz.prog 116 #[.pointer (some ⟨R, 0, none⟩), .int .i64 n] w fun e w' => e = .returned (.slice none 0 0) ∧ Bd w' R ∧ Tu R w w' := by
  have H := Hid.intro h
  obtain ⟨⟨p, m, c, h0⟩, h1, f0, f1, hlt⟩ := h
  go_enter Tryz.func116, Tryz.ntmps116
  go_wp2
  go_ret
  exact ⟨rfl, H.out.bad, Tu.set _ _ _ _⟩
set_option maxHeartbeats 1000000 in
theorem take_no {w : World} {R G off cap : Nat} {l : List UInt8} (h : Rd w R G off cap l) (n : Int) (hn : (l.length : Int) < n) : Calls Tryz.prog 116 #[.pointer (some ⟨R, 0, none⟩), .int .i64 n] w fun e w' => e = .returned (.slice none 0 0) ∧ Bd w' R ∧ Tu R w w' := by
  have H := Hid.intro h
  obtain ⟨h0, h1, f0, f1, hle, hm, hlt, hG, hne, -⟩ := h
  go_enter Tryz.func116, Tryz.ntmps116
  go_wp2
  go_ret
  exact ⟨rfl, H.out.bad, Tu.set _ _ _ _⟩
set_option maxHeartbeats 1000000 in
theorem take_yes {w : World} {R G off cap : Nat} {l : List UInt8} (h : Rd w R G off cap l) (n : Nat) (hn : n ≤ l.length) : Calls Tryz.prog 116 #[.pointer (some ⟨R, 0, none⟩), .int .i64 (n : Int)] w fun e w' =>
    e = .returned (.slice (some ⟨G, off, none⟩) n cap) ∧ (∃ off', Rd w' R G off' (cap - n) (l.drop n)) ∧ Tu R w w' := by
  have H := Hid.intro (h.step n hn)
  obtain ⟨h0, h1, f0, f1, hle, hm, hlt, hG, hne, -⟩ := h
  have hn' : (n : Int) ≤ (l.length : Int) := by omega
  have hc1 : n ≤ cap := by omega
  have hc2 : l.length ≤ cap := hle
  have i0 : (0 : Int) ≤ (n : Int) := by omega
  have i1 : (n : Int) ≤ (cap : Int) := by omega
  by_cases hcn : cap = n
  · have hln : n = l.length := by omega
    subst hcn
    subst hln
    have H1 := Hid.intro (H.out off (.inl rfl))
    rw [Nat.sub_self] at H1 ⊢
    clear H
    go_enter Tryz.func116, Tryz.ntmps116
    go_wp2
    go_ret
    exact ⟨rfl, ⟨_, H1.out⟩, Tu.set _ _ _ _⟩
  · have hz : ¬ cap - n = 0 := by omega
    have H1 := Hid.intro (H.out (off + n) (.inr rfl))
    clear H
    go_enter Tryz.func116, Tryz.ntmps116
    go_wp2
    go_ret
    exact ⟨rfl, ⟨_, H1.out⟩, Tu.set _ _ _ _⟩
set_option maxHeartbeats 1000000 in
theorem require_any {w : World} {R : Nat} (b : Bool) (f1 : w.frozen? ⟨R, 1, none⟩ = false) {u : Bool} (h1 : w.cell? ⟨R, 1, none⟩ = some (.bool u)) : Calls Tryz.prog 115 #[.pointer (some ⟨R, 0, none⟩), .bool b] w fun e w' => e = .returned (.tuple #[]) ∧ w' = (bif b then w else w.setCell ⟨R, 1, none⟩ (.bool true)) := by
  cases b <;> (
    go_enter Tryz.func115, Tryz.ntmps115
    go_wp2
    first | go_end0 | go_ret
    exact ⟨rfl, rfl⟩)
end Go.Proofs.YtciibcfmlhbnkaaGreatDoor
