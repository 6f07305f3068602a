/- Rows of numbers as lists of values; their sums, forwards and backwards. -/
import Derived.Test.YtppbaflacccilaaDoorAgg
import Derived.Laws.AppendOwn
namespace Go.Proofs.YtppbaflacccilaaDoor
open Go.RowKit

def numC (x : Int) : List Value := [.int .i64 2, .bool false, .int .i64 x, .string ⟨#[]⟩, .slice none 0 0]
def numT (x : Int) : Tr := ⟨2, false, x, ⟨#[]⟩, []⟩

theorem flat_at : ∀ (ns : List Int) (j r : Nat) (_ : r < 5) (h : j < ns.length), (ns.flatMap numC)[j * 5 + r]? = (numC ns[j])[r]?
  | [], j, r, _, h => absurd h (by simp)
  | x :: ns, 0, r, hr, h => by
    rw [List.flatMap_cons, List.getElem?_append_left (by simp [numC]; omega)]
    simp
  | x :: ns, j + 1, r, hr, h => by
    rw [List.flatMap_cons, List.getElem?_append_right (by simp [numC]; omega)]
    have e : (j + 1) * 5 + r - (numC x).length = j * 5 + r := by simp [numC]; omega
    rw [e, flat_at ns j r hr (by simpa using h)]
    simp

theorem lv_nums {w : World} {base : Nat} {e : TypeId} {v : Value} (ns : List Int) (hb : ∀ x ∈ ns, -9223372036854775808 ≤ x ∧ x ≤ 9223372036854775807) (h : w.ownsRow base e 5 v ns.length (ns.flatMap numC)) :
    Lv w (Vs w 2) (ns.map numT) v := by
  rcases h.2 with ⟨hv, h0⟩ | ⟨g, cap, cur, hv, -, -, h1, h2, -⟩
  · refine ⟨none, 0, by simp [hv, h0], by simp [h0], by unfold maxLen; omega, fun hp => by simp at hp; omega⟩
  · refine ⟨some ⟨g, 0, none⟩, cap, by simp [hv], by simpa using h1, h2, fun _ => ⟨g, 0, rfl, fun j hj => ?_⟩⟩
    have hj' : j < ns.length := by simpa using hj
    have hc := h.cells (g := g) (by rw [hv]; rfl)
    have at5 : ∀ r u, r < 5 → (numC ns[j])[r]? = some u → w.cell? ⟨g, 0 + j * 5 + r, none⟩ = some u := by
      intro r u hr hu
      have := hc (j * 5 + r) u (by rw [flat_at ns j r hr hj']; exact hu)
      have ea : (⟨g, 0, none⟩ : Addr).add (j * 5 + r) = ⟨g, 0 + j * 5 + r, none⟩ := by
        unfold Addr.add
        split
        · next hz => have hz' : j * 5 + r = 0 := by simpa using hz
                     have : 0 + j * 5 + r = 0 := by omega
                     rw [this]
        · simp
      rw [ea] at this; exact this
    refine ⟨.slice none 0 0, ⟨?_, ?_, ?_, ?_, ?_⟩, ?_⟩
    · simpa [numT] using at5 0 (.int .i64 2) (by omega) rfl
    · simpa [numT] using at5 1 (.bool false) (by omega) rfl
    · simpa [numT] using at5 2 (.int .i64 ns[j]) (by omega) rfl
    · simpa [numT] using at5 3 (.string ⟨#[]⟩) (by omega) rfl
    · simpa [numT] using at5 4 (.slice none 0 0) (by omega) rfl
    · have hx := hb ns[j] (List.getElem_mem hj')
      refine ⟨⟨by simp [numT], by simp [numT], by simpa [numT] using hx.1, by simpa [numT] using hx.2, by simp [numT, maxLen, ByteArray.size]⟩, none, 0, by simp [numT], by simp [numT], by unfold maxLen; omega, fun hp => by simp [numT] at hp⟩

theorem sumT_nums (ns : List Int) : sumT (ns.map numT) = ns.sum := by
  unfold sumT
  rw [List.map_map]
  have : ∀ (l : List Int) (z : Int), (l.map ((·.i) ∘ numT)).foldl (· + ·) z = z + l.sum := by
    intro l
    induction l with
    | nil => intro z; simp
    | cons x l ih => intro z; rw [List.map_cons, List.foldl_cons, ih, List.sum_cons]; simp [numT]; omega
  rw [this]; omega

theorem sum_rev (ns : List Int) : sumT (ns.reverse.map numT) = sumT (ns.map numT) := by
  rw [sumT_nums, sumT_nums]
  induction ns with
  | nil => rfl
  | cons x l ih => rw [List.reverse_cons, List.sum_append, ih]; simp; omega

/-- What narrow tells of a sum of few numbers. -/
def narK (z : Int) : Int := if -9223372036854775808 ≤ z ∧ z ≤ 9223372036854775807 then 2 else 0
def narI (z : Int) : Int := if -9223372036854775808 ≤ z ∧ z ≤ 9223372036854775807 then z else 0
def narE (z : Int) : Int := if -9223372036854775808 ≤ z ∧ z ≤ 9223372036854775807 then 0 else 2

theorem narrow_any (z : Int) (h0 : -170141183460469231731687303715884105728 ≤ z) (h1 : z < 170141183460469231731687303715884105728) (w : World) :
    Calls Tryd.prog 83 #[.agg #[.int .u64 (hiW z), .int .u64 (loW z)]] w fun e w' => e = .returned (.tuple #[.agg #[.int .i64 (narK z), .bool false, .int .i64 (narI z), .string ⟨#[]⟩, .slice none 0 0], .int .i64 (narE z)]) ∧ Below w.heap.size w w' := by
  unfold narK narI narE
  by_cases h : -9223372036854775808 ≤ z ∧ z ≤ 9223372036854775807
  · rw [if_pos h, if_pos h, if_pos h]; exact narrow_yes z h.1 h.2 w
  · rw [if_neg h, if_neg h, if_neg h]; exact narrow_no z h0 h1 h w

/-- Aggregate("sum", ..) over a row of few numbers. -/
theorem agg_nums {w : World} {base : Nat} {e : TypeId} {v : Value} (ns : List Int) (hn : ns.length ≤ 12) (hb : ∀ x ∈ ns, -9223372036854775808 ≤ x ∧ x ≤ 9223372036854775807) (h : w.ownsRow base e 5 v ns.length (ns.flatMap numC)) :
    Calls Tryd.prog 22 #[.string ⟨#[115, 117, 109]⟩, v] w fun e w' => e = .returned (.tuple #[.agg #[.int .i64 (narK (sumT (ns.map numT))), .bool false, .int .i64 (narI (sumT (ns.map numT))), .string ⟨#[]⟩, .slice none 0 0], .int .i64 (narE (sumT (ns.map numT)))]) ∧ Below w.heap.size w w' := by
  have hj : ∀ t ∈ ns.map numT, -9223372036854775808 ≤ t.i ∧ t.i ≤ 9223372036854775807 := by
    intro t ht; rw [List.mem_map] at ht; obtain ⟨x, hx, rfl⟩ := ht; exact hb x hx
  have hbd := sumT_bd (ns.map numT) hj
  rw [List.length_map] at hbd
  refine aggregate_sum 2 (ns.map numT) v w (lv_nums ns hb h) ?_ ?_ hj _ _ _ (fun w' => narrow_any _ (by omega) (by omega) w')
  · intro t ht; rw [List.mem_map] at ht; obtain ⟨x, hx, rfl⟩ := ht; rfl
  · intro t ht; rw [List.mem_map] at ht; obtain ⟨x, hx, rfl⟩ := ht; simp [flat, numT]
end Go.Proofs.YtppbaflacccilaaDoor
