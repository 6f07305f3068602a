/- value.Decode's reader: lists, under the contract of values. -/
import Derived.Test.YtciibcfmlhbnkaaGreatDoorVDec2
import Derived.Deep.DeepAppendRoom
import Derived.Laws.MakeOwn
namespace Go.Proofs.YtciibcfmlhbnkaaGreatDoor
open Go.RowKit

def decL (D : List UInt8 → Option (Tr × List UInt8)) : Nat → List UInt8 → Option (List Tr × List UInt8)
  | 0, l => some ([], l)
  | m + 1, l => match D l with
    | none => none
    | some x => (decL D m x.2).map fun y => (x.1 :: y.1, y.2)
def wordI (l : List UInt8) : Int := wrap64 (wordN l : Int)
/-- The value that bytes begin with. -/
def dec : Nat → List UInt8 → Option (Tr × List UInt8)
  | _, [] => none
  | room, c :: l =>
    if c.toNat = 0 then some (zeroT, l)
    else if c.toNat = 1 then match l with
      | [] => none
      | d :: l => if d.toNat ≤ 1 then some ({ zeroT with k := 1, b := d.toNat == 1 }, l) else none
    else if c.toNat = 2 then if l.length < 8 then none else some ({ zeroT with k := 2, i := wordI (l.take 8) }, l.drop 8)
    else if c.toNat = 5 then if l.length < 8 then none else if 1 ≤ wordI (l.take 8) then some ({ zeroT with k := 5, i := wordI (l.take 8) }, l.drop 8) else none
    else if c.toNat = 3 then match lenR 65536 l with
      | none => none
      | some x => some ({ zeroT with k := 3, s := ⟨(x.2.take x.1).toArray⟩ }, x.2.drop x.1)
    else if c.toNat = 4 then match room with
      | 0 => none
      | room + 1 => match lenR 4096 l with
        | none => none
        | some x => (decL (dec room) x.1 x.2).map fun y => ({ zeroT with k := 4, l := y.1 }, y.2)
    else none

def ValP (w : World) (R G n : Nat) (e : Ending) (w' : World) : Option (Tr × List UInt8) → Prop
  | none => (∃ (k : Int) (b : Bool) (i : Int) (s : ByteArray) (p : Option Addr) (m c : Nat), e = .returned (.agg #[.int .i64 k, .bool b, .int .i64 i, .string s, .slice p m c])) ∧ Bd w' R
  | some x => ∃ sv, e = .returned (vv x.1 sv) ∧ VsB (w.heap.size ≤ ·) w' n x.1 sv ∧ ∃ off cap, Rd w' R G off cap x.2
def ValAt (room : Nat) : Prop := ∀ (w : World) (R G off cap : Nat) (l : List UInt8), Rd w R G off cap l → l.length ≤ 1000000000 →
    Calls Tryz.prog 69 #[.pointer (some ⟨R, 0, none⟩), .int .i64 (room : Int)] w fun e w' => Tu R w w' ∧ ValP w R G (room + 1) e w' (dec room l)
def LstP (w : World) (R G n : Nat) (e : Ending) (w' : World) : Option (List Tr × List UInt8) → Prop
  | none => (∃ p m c, e = .returned (.slice p m c)) ∧ Bd w' R
  | some x => ∃ sv, e = .returned sv ∧ LvB (w.heap.size ≤ ·) w' (VsB (w.heap.size ≤ ·) w' n) x.1 sv ∧ ∃ off cap, Rd w' R G off cap x.2

def cl5 (x : Tr × Value) : List Value := [.int .i64 x.1.k, .bool x.1.b, .int .i64 x.1.i, .string x.1.s, x.2]
theorem cl5_at : ∀ (xs : List (Tr × Value)) (j r : Nat) (_ : r < 5) (h : j < xs.length), (xs.flatMap cl5)[j * 5 + r]? = (cl5 xs[j])[r]?
  | [], j, r, _, h => absurd h (by simp)
  | x :: ns, 0, r, hr, h => by
    rw [List.flatMap_cons, List.getElem?_append_left (by simp [cl5]; omega)]
    simp
  | x :: ns, j + 1, r, hr, h => by
    rw [List.flatMap_cons, List.getElem?_append_right (by simp [cl5]; omega)]
    have e : (j + 1) * 5 + r - (cl5 x).length = j * 5 + r := by simp [cl5]; omega
    rw [e, cl5_at ns j r hr (by simpa using h)]
    simp
theorem own_lvb {P : Nat → Prop} {w : World} {g k m n : Nat} {xs : List (Tr × Value)} (h : w.ownsRow g 28 5 (.slice (some ⟨g, 0, none⟩) k m) k (xs.flatMap cl5)) (hk : xs.length = k) (hm : k ≤ m) (hm2 : m ≤ 100000)
    (hx : ∀ x ∈ xs, VsB P w n x.1 x.2) (hg : P g) : LvB P w (VsB P w n) (xs.map Prod.fst) (.slice (some ⟨g, 0, none⟩) k m) := by
  refine ⟨some ⟨g, 0, none⟩, m, by rw [List.length_map, hk], by rw [List.length_map]; omega, by unfold maxLen; omega, fun _ => ⟨g, 0, rfl, hg, fun j hj => ?_⟩⟩
  rw [List.length_map] at hj
  have hc := h.cells (g := g) rfl
  have at5 : ∀ r u, r < 5 → (cl5 xs[j])[r]? = some u → w.cell? ⟨g, 0 + j * 5 + r, none⟩ = some u := by
    intro r u hr hu
    have := hc (j * 5 + r) u (by rw [cl5_at xs j r hr hj]; exact hu)
    unfold Addr.add at this
    split at this
    · next hz =>
      have hz' : j * 5 + r = 0 := by simpa using hz
      rw [← this]; congr 2; omega
    · rw [← this]; simp
  refine ⟨xs[j].2, ?_, ?_⟩
  · rw [List.getElem_map]
    refine ⟨?_, ?_, ?_, ?_, ?_⟩
    · simpa using at5 0 _ (by omega) rfl
    · simpa using at5 1 _ (by omega) rfl
    · simpa using at5 2 _ (by omega) rfl
    · simpa using at5 3 _ (by omega) rfl
    · simpa using at5 4 _ (by omega) rfl
  · rw [List.getElem_map]
    exact hx _ (List.getElem_mem hj)
theorem Tu.kept {R g : Nat} {w w' : World} (h : Tu R w w') (hR : R < g) : Kept (g ≤ ·) w w' := fun _ hb hlt _ => h.cell hlt (by omega)
theorem grown_kept {g : Nat} {w w' : World} (h : w.grownBy w' (some g)) : Kept (g + 1 ≤ ·) w w' := fun b hb hlt o => World.cell?_of_block (a := ⟨b, o, none⟩) (h.block b hlt (by simp; omega))
theorem grown_tu {g R : Nat} {w0 w w' : World} (h : Tu R w0 w) (hg : w.grownBy w' (some g)) (hlt : w0.heap.size ≤ g) : Tu R w0 w' :=
  ⟨hg.os.trans h.os, hg.tape.trans h.tape, hg.output.trans h.output, Nat.le_trans h.size hg.size, fun k hk hr => (hg.block k (Nat.lt_of_lt_of_le hk h.size) (by simp; omega)).trans (h.block k hk hr)⟩
theorem Rd.grown {w w' : World} {R G off cap g : Nat} {l : List UInt8} (h : Rd w R G off cap l) (hg : w.grownBy w' (some g)) (h1 : R ≠ g) (h2 : G ≠ g) : Rd w' R G off cap l := by
  have hR := hg.block R h.lt (by simpa using h1)
  have hG := hg.block G h.ltG (by simpa using h2)
  exact ⟨(World.cell?_of_block (a := ⟨R, 0, none⟩) hR).trans h.c0, (World.cell?_of_block (a := ⟨R, 1, none⟩) hR).trans h.c1, (World.frozen?_of_block (a := ⟨R, 0, none⟩) hR).trans h.f0, (World.frozen?_of_block (a := ⟨R, 1, none⟩) hR).trans h.f1, h.le, h.most,
    Nat.lt_of_lt_of_le h.lt hg.size, Nat.lt_of_lt_of_le h.ltG hg.size, h.ne, fun j hj => (World.cell?_of_block (a := ⟨G, off + j, none⟩) hG).trans (h.by_ j hj)⟩
theorem Bd.grown {w w' : World} {R g : Nat} (h : Bd w R) (hg : w.grownBy w' (some g)) (h1 : R ≠ g) : Bd w' R := by
  have hR := hg.block R h.lt (by simpa using h1)
  obtain ⟨p, m, c, h0⟩ := h.c0
  exact ⟨⟨p, m, c, (World.cell?_of_block (a := ⟨R, 0, none⟩) hR).trans h0⟩, (World.cell?_of_block (a := ⟨R, 1, none⟩) hR).trans h.c1, (World.frozen?_of_block (a := ⟨R, 0, none⟩) hR).trans h.f0, (World.frozen?_of_block (a := ⟨R, 1, none⟩) hR).trans h.f1, Nat.lt_of_lt_of_le h.lt hg.size⟩
end Go.Proofs.YtciibcfmlhbnkaaGreatDoor
