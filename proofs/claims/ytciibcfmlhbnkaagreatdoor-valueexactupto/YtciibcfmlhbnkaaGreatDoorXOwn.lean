/- A row of values that is one's own, wherever it lies. -/
import Derived.Test.YtciibcfmlhbnkaaGreatDoorFresh
import Derived.Maps.AppendAt
import Derived.Deep.AppendLies
namespace Go.Proofs.YtciibcfmlhbnkaaGreatDoor
open Go.RowKit

def cl5X (x : Tr × Value) : List Value := [.int .i64 x.1.k, .bool x.1.b, .int .i64 x.1.i, .string x.1.s, x.2]
theorem cl5X_at : ∀ (xs : List (Tr × Value)) (j r : Nat) (_ : r < 5) (h : j < xs.length), (xs.flatMap cl5X)[j * 5 + r]? = (cl5X xs[j])[r]?
  | [], j, r, _, h => absurd h (by simp)
  | x :: ns, 0, r, hr, h => by
    rw [List.flatMap_cons, List.getElem?_append_left (by simp [cl5X]; omega)]
    simp
  | x :: ns, j + 1, r, hr, h => by
    rw [List.flatMap_cons, List.getElem?_append_right (by simp [cl5X]; omega)]
    have e : (j + 1) * 5 + r - (cl5X x).length = j * 5 + r := by simp [cl5X]; omega
    rw [e, cl5X_at ns j r hr (by simpa using h)]
    simp
theorem VsB.ltX {P : Nat → Prop} {w : World} : ∀ (n : Nat) (t : Tr) (sv : Value), VsB P w n t sv → VsB (fun b => P b ∧ b < w.heap.size) w n t sv
  | 0, _, _, h => h
  | n + 1, _, _, h => by
    refine ⟨h.1, ?_⟩
    obtain ⟨a0, cap, h1, h2, h3, h4⟩ := h.2
    refine ⟨a0, cap, h1, h2, h3, fun h0 => ?_⟩
    obtain ⟨b, o, e, hp, h5⟩ := h4 h0
    obtain ⟨s0, c0, -⟩ := h5 0 h0
    refine ⟨b, o, e, ⟨hp, cell_lt c0.1⟩, fun j hj => ?_⟩
    obtain ⟨sv', h6, h7⟩ := h5 j hj
    exact ⟨sv', h6, VsB.ltX n _ _ h7⟩
/-- A row of values that is one's own, wherever it lies. -/
theorem own_lvbX {P : Nat → Prop} {w : World} {base n k : Nat} {u : Value} {xs : List (Tr × Value)} (h : w.ownsRow base 28 5 u k (xs.flatMap cl5X)) (hk : xs.length = k)
    (hx : ∀ x ∈ xs, VsB P w n x.1 x.2) (hg : ∀ g, base ≤ g → P g) : LvB P w (VsB P w n) (xs.map Prod.fst) u := by
  by_cases h0 : 0 < k
  · obtain ⟨g, cap, rfl, hb, -⟩ := h.form h0
    obtain ⟨h1, h2 | ⟨g', cap', cur, e, h3, h4, h5, h6, h7, h8⟩⟩ := h
    · omega
    · cases e
      have H : w.ownsRow base 28 5 (.slice (some ⟨g, 0, none⟩) k cap) k (xs.flatMap cl5X) := ⟨h1, .inr ⟨g, cap, cur, rfl, h3, h4, h5, h6, h7, h8⟩⟩
      refine ⟨some ⟨g, 0, none⟩, cap, by rw [List.length_map, hk], by rw [List.length_map]; omega, h6, fun _ => ⟨g, 0, rfl, hg g h3, fun j hj => ?_⟩⟩
      rw [List.length_map] at hj
      have at5 : ∀ r u, r < 5 → (cl5X xs[j])[r]? = some u → w.cell? ⟨g, 0 + j * 5 + r, none⟩ = some u := by
        intro r u hr hu
        rw [Nat.zero_add, H.cellAt _ (by omega), cl5X_at xs j r hr hj]
        exact hu
      refine ⟨xs[j].2, ?_, ?_⟩
      · rw [List.getElem_map]
        refine ⟨?_, ?_, ?_, ?_, ?_⟩
        · simpa using at5 0 _ (by omega) rfl
        · simpa using at5 1 _ (by omega) rfl
        · simpa using at5 2 _ (by omega) rfl
        · simpa using at5 3 _ (by omega) rfl
        · simpa using at5 4 _ (by omega) rfl
      · rw [List.getElem_map]
        exact hx _ (List.getElem_mem hj)
  · obtain rfl : k = 0 := by omega
    have hn : xs = [] := List.eq_nil_of_length_eq_zero hk
    subst hn
    obtain ⟨-, ⟨rfl, -⟩ | ⟨g', cap', cur, rfl, h3, h4, h5, h6, h7, h8⟩⟩ := h
    · exact ⟨none, 0, rfl, Nat.le_refl _, Nat.zero_le _, fun h => absurd h (Nat.lt_irrefl 0)⟩
    · exact ⟨_, cap', rfl, h5, h6, fun h => absurd h (Nat.lt_irrefl 0)⟩
theorem kept_refl (P : Nat → Prop) (w : World) : Kept P w w := fun _ _ _ _ => rfl
theorem kept_put {P : Nat → Prop} {w0 w : World} (h : Kept P w0 w) {b j : Nat} (hb : ¬ P b) (v : Value) : Kept P w0 (w.setCell ⟨b, j, none⟩ v) := fun g hg hlt o => by
  rw [cell_other _ _ _ _ _ _ (.inl (fun (e : g = b) => hb (e ▸ hg)))]
  exact h g hg hlt o
end Go.Proofs.YtciibcfmlhbnkaaGreatDoor
