/- quoted: what it tells. -/
import Derived.Test.YtlheiiapolhpeaaLMark
import Derived.Deep.AppendLies
import Derived.Laws.OwnMore
import Derived.Laws.IdiomStrings
namespace Go.Proofs.Ytlheiiapolhpeaa
open Go.RowKit

def escU (c : UInt8) : Option UInt8 := (escB (c.toNat : Int)).map (fun x => x.toNat.toUInt8)
/-- What stands behind the quote: what it says, how many bytes it takes. -/
def quo : List UInt8 → Option (List UInt8 × Nat)
  | [] => none
  | [c] => if c = 34 then some ([], 1) else none
  | c :: d :: r => if c = 34 then some ([], 1) else if c < 32 then none else
      if c = 92 then (match escU d with
        | none => none
        | some x => (quo r).map (fun p => (x :: p.1, p.2 + 2)))
      else (quo (d :: r)).map (fun p => (c :: p.1, p.2 + 1))
theorem quo_end {s : ByteArray} {m : Nat} (h : s.size ≤ m) : quo (tl s m) = none := by rw [tl_end h]; rfl
theorem quo_q {s : ByteArray} {m : Nat} (h : m < s.size) (hc : s[m] = 34) : quo (tl s m) = some ([], 1) := by
  rw [tl_cons h, hc]
  cases tl s (m + 1) <;> rfl
theorem quo_low {s : ByteArray} {m : Nat} (h : m < s.size) (hc : s[m] < 32) : quo (tl s m) = none := by
  have h1 : ¬ s[m] = 34 := fun e => by rw [e] at hc; exact absurd hc (by decide)
  rw [tl_cons h]
  cases tl s (m + 1) with
  | nil => rw [quo, if_neg h1]
  | cons d r => rw [quo, if_neg h1, if_pos hc]
theorem quo_plain {s : ByteArray} {m : Nat} (h : m < s.size) (h1 : ¬ s[m] = 34) (h2 : ¬ s[m] < 32) (h3 : ¬ s[m] = 92) : quo (tl s m) = (quo (tl s (m + 1))).map (fun p => (s[m] :: p.1, p.2 + 1)) := by
  rw [tl_cons h]
  cases ht : tl s (m + 1) with
  | nil => show quo [s[m]] = none; rw [quo, if_neg h1]
  | cons d r => rw [quo, if_neg h1, if_neg h2, if_neg h3]
theorem quo_esc {s : ByteArray} {m : Nat} (h : m < s.size) (h3 : s[m] = 92) (h' : m + 1 < s.size) : quo (tl s m) = (match escU s[m + 1] with
        | none => none
        | some x => (quo (tl s (m + 2))).map (fun p => (x :: p.1, p.2 + 2))) := by
  rw [tl_cons h, tl_cons h', h3]
  rfl
theorem quo_esc0 {s : ByteArray} {m : Nat} (h : m < s.size) (h3 : s[m] = 92) (h' : s.size ≤ m + 1) : quo (tl s m) = none := by
  rw [tl_cons h, tl_end h', h3]
  rfl

def bv (l : List UInt8) : List Value := l.map (fun c => Value.int .u8 (c.toNat : Int))
theorem conv_own {w : World} {base : Nat} {v : Value} {d : List UInt8} (h : w.ownsRow base 5 1 v d.length (bv d)) :
    (convert 37 9 v).run Try.prog w = .ok (.string (bs d)) w := by
  obtain ⟨h1, h | ⟨g, cap, cur, rfl, h2, h3, h4, h5, h6, h7⟩⟩ := h
  · obtain ⟨rfl, h0⟩ := h
    have hd : d = [] := List.eq_nil_of_length_eq_zero h0
    subst hd
    exact run_convert_bytes_nil (w := w) 37 5 Try.underlying37 Try.underlying5 0 0 _ Try.underlying9
  · refine run_convert_bytes_back w 37 9 5 ⟨g, 0, none⟩ cap d Try.underlying37 Try.underlying5 Try.underlying9 ?_
    intro j hj
    have e : (⟨g, 0, none⟩ : Addr).add j = ⟨g, j, none⟩ := by simp [Addr.add]; intro h; exact h.symm
    rw [e]
    unfold World.cell?
    simp only [h3]
    have hc : (cur.toList.take (d.length * 1))[j]? = (bv d)[j]? := by rw [h7]
    rw [List.getElem?_take_of_lt (by omega), Array.getElem?_toList] at hc
    rw [hc]
    simp [bv, List.getElem?_eq_getElem hj]
theorem news_u8 (w : World) (c : Int) : (∀ j u, [Value.int .u8 c][j]? = some u → (w.alloc (.cells #[.int .u8 c] 5)).cell? ((⟨w.heap.size, 0, none⟩ : Addr).add j) = some u) ∧ (∀ u ∈ [Value.int .u8 c], u.oneCell' = true) :=
  ⟨World.news_of_block (cs := #[.int .u8 c]) (t := 5) (fr := (0, 0)) (heap_alloc_new w _), by intro u hu; simp at hu; subst hu; rfl⟩
theorem own_step {w w1 w2 : World} {B : Nat} {v : Value} {e : TypeId} {size n : Nat} {xs : List Value} (hb : Below w.heap.size w w1) (hg : w1.grownBy w2 v.ownBlock) (ho : w1.ownsRow B e size v n xs) (hB : w.heap.size ≤ B) : Below w.heap.size w w2 :=
  hb.grown hg hb.size (fun j e => Nat.le_trans hB (ho.lt j e).1)
theorem F4.of {w w1 : World} {x0 x1 x2 x3 : Value} {t : TypeId} (h : Below (w.alloc (.cells #[x0, x1, x2, x3] t)).heap.size (w.alloc (.cells #[x0, x1, x2, x3] t)) w1) : F4 w1 w.heap.size x0 x1 x2 x3 := F4.call h
theorem blk_lt {w w1 : World} {o : Obj} (h : Below (w.alloc o).heap.size (w.alloc o) w1) : w.heap.size < w1.heap.size := by
  have := h.size; simp at this; omega

end Go.Proofs.Ytlheiiapolhpeaa
