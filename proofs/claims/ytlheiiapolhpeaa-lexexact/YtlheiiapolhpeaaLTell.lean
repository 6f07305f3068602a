/- The lexemes of a text, one behind the other; what a round of Lex keeps. -/
import Derived.RangeFuncNested
import Derived.RangeFuncLeaves
import Derived.RangeFuncCalls
import Derived.Shelf.Abstract
import Derived.Test.YtlheiiapolhpeaaLOne
namespace Go.Proofs.Ytlheiiapolhpeaa
open Go.RowKit Go.Shelf

theorem quo_pos : ∀ (l : List UInt8) (p : List UInt8 × Nat), quo l = some p → 0 < p.2 ∧ p.2 ≤ l.length
  | [], p, h => by simp [quo] at h
  | [c], p, h => by
    rw [quo] at h
    split at h
    · cases h; simp
    · cases h
  | c :: d :: r, p, h => by
    rw [quo] at h
    split at h
    · cases h; simp
    · split at h
      · cases h
      · split at h
        · split at h
          · cases h
          · obtain ⟨q, hq, rfl⟩ := Option.map_eq_some_iff.1 h
            have := quo_pos r q hq
            simp; omega
        · obtain ⟨q, hq, rfl⟩ := Option.map_eq_some_iff.1 h
          have := quo_pos (d :: r) q hq
          simp at this ⊢; omega

theorem takeWhile_pos {p : UInt8 → Bool} {c : UInt8} {r : List UInt8} (h : p c = true) : 0 < ((c :: r).takeWhile p).length := by
  rw [List.takeWhile_cons, if_pos h]; simp
theorem takeWhile_le (p : UInt8 → Bool) (l : List UInt8) : (l.takeWhile p).length ≤ l.length := (List.takeWhile_prefix p).length_le
theorem ch_of_let {c : UInt8} (h : isLet c = true) : isCh c = true := by
  unfold isCh chB; unfold isLet at h; rw [h]; rfl

theorem oneL_pos {a : Nat} {l : List UInt8} {x : Lx} (h : oneL a l = some x) : x.a = a ∧ a < x.e ∧ x.e ≤ a + l.length := by
  unfold oneL at h
  split at h
  · cases h
  · rename_i c r
    split at h
    · rename_i hc
      cases h
      have h1 := takeWhile_pos (r := r) (ch_of_let hc)
      have h2 := takeWhile_le isCh (c :: r)
      refine ⟨rfl, ?_, ?_⟩ <;> simp only <;> omega
    · split at h
      · rename_i hc
        cases h
        have h1 := takeWhile_pos (r := r) hc
        have h2 := takeWhile_le isDig (c :: r)
        refine ⟨rfl, ?_, ?_⟩ <;> simp only <;> omega
      · split at h
        · unfold varL at h
          split at h
          · split at h
            · cases h
              rename_i d r' _
              have h2 := takeWhile_le isCh (d :: r')
              simp only [List.length_cons] at h2
              refine ⟨rfl, ?_, ?_⟩ <;> simp only [List.length_cons] <;> omega
            · cases h
          · cases h
        · split at h
          · obtain ⟨q, hq, rfl⟩ := Option.map_eq_some_iff.1 h
            have := quo_pos _ _ hq
            refine ⟨rfl, ?_, ?_⟩ <;> simp only [List.length_cons] <;> omega
          · unfold markL at h
            simp only at h
            split at h
            · rename_i ht
              cases h
              unfold twoL at ht
              have : 2 ≤ (c :: r).length := by
                rw [Bool.and_eq_true] at ht; exact of_decide_eq_true ht.1
              refine ⟨rfl, ?_, ?_⟩ <;> simp only <;> omega
            · split at h
              · cases h
                refine ⟨rfl, ?_, ?_⟩ <;> simp only [List.length_cons] <;> omega
              · cases h

/-- The lexemes that begin at place a; a false one last, where none may begin. -/
def tellsF : Nat → Nat → List UInt8 → List (Lx × Bool)
  | 0, _, _ => []
  | f + 1, a, l => match l.drop (blk false l) with
    | [] => []
    | c :: r => match oneL (a + blk false l) (c :: r) with
      | none => [(⟨0, ⟨#[]⟩, a + blk false l, 0⟩, false)]
      | some x => (x, true) :: tellsF f x.e (l.drop (x.e - a))

theorem tellsF_fuel : ∀ (f g a : Nat) (l : List UInt8), l.length < f → l.length < g → tellsF f a l = tellsF g a l
  | 0, _, _, _, h, _ => by omega
  | _, 0, _, _, _, h => by omega
  | f + 1, g + 1, a, l, h, k => by
    unfold tellsF
    split
    · rfl
    · rename_i c r hd
      split
      · rfl
      · rename_i x hx
        have := oneL_pos hx
        have hl := congrArg List.length hd
        simp only [List.length_drop] at hl
        rw [tellsF_fuel f g x.e _ (by simp only [List.length_drop]; simp only [List.length_cons] at hl this; omega) (by simp only [List.length_drop]; simp only [List.length_cons] at hl this; omega)]

def tells (a : Nat) (l : List UInt8) : List (Lx × Bool) := tellsF (l.length + 1) a l

theorem tells_end {a : Nat} {l : List UInt8} (h : l.drop (blk false l) = []) : tells a l = [] := by
  unfold tells tellsF; rw [h]
theorem tells_no {a : Nat} {l : List UInt8} {c : UInt8} {r : List UInt8} (h : l.drop (blk false l) = c :: r) (h1 : oneL (a + blk false l) (c :: r) = none) : tells a l = [(⟨0, ⟨#[]⟩, a + blk false l, 0⟩, false)] := by
  unfold tells tellsF; rw [h]; simp only [h1]
theorem tells_yes {a : Nat} {l : List UInt8} {c : UInt8} {r : List UInt8} {x : Lx} (h : l.drop (blk false l) = c :: r) (h1 : oneL (a + blk false l) (c :: r) = some x) : tells a l = (x, true) :: tells x.e (l.drop (x.e - a)) := by
  have := oneL_pos h1
  have hl := congrArg List.length h
  simp only [List.length_drop] at hl
  unfold tells
  rw [tellsF, h]
  simp only [h1]
  rw [tellsF_fuel _ ((l.drop (x.e - a)).length + 1) x.e _ (by simp only [List.length_drop]; simp only [List.length_cons] at hl this; omega) (by omega)]

/-- In the text s, from place k on. -/
theorem tells_at_end {s : ByteArray} {k : Nat} (h : blkAt false s k = s.size) : tells k (tl s k) = [] := by
  refine tells_end ?_
  rw [tl_drop]
  exact tl_end (by unfold blkAt at h; omega)
theorem tells_at_no {s : ByteArray} {k : Nat} (h : blkAt false s k < s.size) (h1 : oneL (blkAt false s k) (tl s (blkAt false s k)) = none) : tells k (tl s k) = [(⟨0, ⟨#[]⟩, blkAt false s k, 0⟩, false)] := by
  have hd : (tl s k).drop (blk false (tl s k)) = s[blkAt false s k] :: tl s (blkAt false s k + 1) := by rw [tl_drop]; exact tl_cons h
  refine tells_no hd ?_
  rw [← hd, tl_drop]; exact h1
theorem tells_at_yes {s : ByteArray} {k : Nat} {x : Lx} (h : blkAt false s k < s.size) (h1 : oneL (blkAt false s k) (tl s (blkAt false s k)) = some x) : tells k (tl s k) = (x, true) :: tells x.e (tl s x.e) := by
  have hd : (tl s k).drop (blk false (tl s k)) = s[blkAt false s k] :: tl s (blkAt false s k + 1) := by rw [tl_drop]; exact tl_cons h
  have hp := oneL_pos h1
  rw [tells_yes hd (by rw [← hd, tl_drop]; exact h1), tl_drop]
  congr 3
  unfold blkAt at hp; omega

/-! What a round keeps: B is the block of the variable that holds the row. -/

def rowB (B : Nat) (W : World) : Option Nat := (W.cell? ⟨B, 0, none⟩).bind Value.ownBlock
structure KpB (B : Nat) (W W' : World) : Prop where
  size : W.heap.size ≤ W'.heap.size
  kept : ∀ b, b < W.heap.size → b ≠ B → rowB B W ≠ some b → ∀ o, W.heap[b]? = some o → o.isCells = true → W'.heap[b]? = some o
  row : ∀ r, rowB B W' = some r → rowB B W = some r ∨ W.heap.size ≤ r
  ok : (∀ r, rowB B W = some r → r < W.heap.size) → ∀ r, rowB B W' = some r → r < W'.heap.size

theorem KpB.refl (B : Nat) (W : World) : KpB B W W := ⟨Nat.le_refl _, fun _ _ _ _ _ h _ => h, fun _ h => .inl h, fun h => h⟩
theorem KpB.trans {B : Nat} {X Y Z : World} (h : KpB B X Y) (k : KpB B Y Z) : KpB B X Z := by
  refine ⟨Nat.le_trans h.size k.size, ?_, ?_, fun e => k.ok (h.ok e)⟩
  · intro b hb hn hr o ho hc
    refine k.kept b (Nat.lt_of_lt_of_le hb h.size) hn ?_ o (h.kept b hb hn hr o ho hc) hc
    intro e
    rcases h.row b e with e | e
    · exact hr e
    · omega
  · intro r hr
    rcases k.row r hr with e | e
    · exact h.row r e
    · exact .inr (Nat.le_trans h.size e)
theorem KpB.put {B : Nat} {W : World} {l : Nat} {o : Obj} (o' : Obj) (hl : l ≠ B) (ho : W.heap[l]? = some o) (hc : o.isCells = false) : KpB B W (W.putObj l o') := by
  have hb : ∀ k, k ≠ l → (W.putObj l o').heap[k]? = W.heap[k]? := fun k hk => by
    simp [World.putObj, Ne.symm hk]
  have hs : (W.putObj l o').heap.size = W.heap.size := by simp [World.putObj]
  have hr : rowB B (W.putObj l o') = rowB B W := by
    unfold rowB; rw [World.cell?_of_block (hb B (Ne.symm hl))]
  refine ⟨by omega, ?_, fun r h => .inl (by rw [← hr]; exact h), fun h r e => by rw [hs]; exact h r (by rw [← hr]; exact e)⟩
  intro b _ _ _ o1 h1 hc1
  rw [hb b (fun e => by subst e; rw [ho] at h1; cases h1; rw [hc] at hc1; cases hc1)]
  exact h1
theorem KpB.below {B : Nat} {W W' : World} (hB : B < W.heap.size) (h : Below W.heap.size W W') : KpB B W W' := by
  have hr : rowB B W' = rowB B W := by unfold rowB; rw [h.cell (p := ⟨B, 0, none⟩) hB]
  exact ⟨h.size, fun b hb _ _ o ho _ => (h.block b hb).trans ho, fun r e => .inl (hr ▸ e), fun k r e => Nat.lt_of_lt_of_le (k r (hr ▸ e)) h.size⟩
theorem KpB.alloc {B : Nat} {W : World} (hB : B < W.heap.size) (o : Obj) : KpB B W (W.alloc o) := KpB.below hB (below_al (Below.refl _ _) _)
theorem KpB.cell {B : Nat} {W W' : World} (h : KpB B W W') {p : Addr} {v : Value} (hp : W.cell? p = some v) (h1 : p.block ≠ B) (h2 : rowB B W ≠ some p.block) : W'.cell? p = some v := by
  have h' := hp
  unfold World.cell? at h'
  cases ho : W.heap[p.block]? with
  | none => rw [ho] at h'; cases h'
  | some o =>
    have hc : o.isCells = true := by
      rw [ho] at h'
      cases o <;> first | rfl | cases h'
    have hlt : p.block < W.heap.size := (Array.getElem?_eq_some_iff.1 ho).1
    rw [World.cell?_of_block ((h.kept p.block hlt h1 h2 o ho hc).trans ho.symm)]
    exact hp
end Go.Proofs.Ytlheiiapolhpeaa
