/- What is read as data is a list of texts that lies in memory. -/
import Derived.Test.YtlheiiapolhpeaaLPureC
import Derived.Deep.Slices
import Derived.Deep.Strs
import Derived.SizedLaws
namespace Go.Proofs.Ytlheiiapolhpeaa
open Go.RowKit Go.Deep

/-- A slice of texts. -/
def Tv (w : World) (xs : List ByteArray) (sv : Value) : Prop :=
  ∃ (a0 : Option Addr) (cap : Nat), sv = .slice a0 xs.length cap ∧ xs.length ≤ cap ∧ cap ≤ maxLen ∧
    (0 < xs.length → ∃ b o, a0 = some ⟨b, o, none⟩ ∧ ∀ j (h : j < xs.length), w.cell? ⟨b, o + j, none⟩ = some (.string xs[j]))

theorem cellsT : Try.prog.cellsOf 9 = 1 := by kernel_rfl

theorem spot_none {W : World} {a : Addr} {v : Value} (this : W.cell? a = some v) : a.spot = none := by
  unfold World.cell? at this
  split at this
  · split at this
    · cases this
    · cases hs : a.spot with
      | none => rfl
      | some q => rename_i hn; simp [hs] at hn
  · cases this
theorem add_at {a : Addr} (h : a.spot = none) (j : Nat) : a.add j = ⟨a.block, a.off + j, none⟩ := by
  cases a
  simp at h
  subst h
  simp [Addr.add]

section
variable {H : Type} {enc : TypeId × Value → H} {W : World} {spare : Nat → Bool}

theorem mem_all {P : Program} {e : TypeId} {m : Nat} : ∀ {ds : List (DataW H)} {d : DataW H}, d ∈ ds → m ∈ d.weights P e → m ∈ DataW.weightsAll P e ds
  | [], _, h, _ => by simp at h
  | d0 :: ds, d, h, hm => by
    rw [DataW.weightsAll, List.mem_append]
    rcases List.mem_cons.1 h with rfl | h
    · exact .inl hm
    · exact .inr (mem_all h hm)

theorem read_str (f : Nat) (cs : List Value) (x : DataW H × List MemPlace) (h : DataW.trod enc Try.prog W 0 spare true f 9 cs = some x) :
    ∃ s : ByteArray, cs = [.string s] ∧ ((∀ n ∈ x.1.weights Try.prog 9, n ≤ reachBytes) → s.size ≤ reachBytes) := by
  obtain ⟨s, e0, e1, e2⟩ := DataW.trod_string Try.underlying9 h
  subst e0 e1
  refine ⟨s, rfl, fun hw => ?_⟩
  have := hw s.data.toList.length (by simp [DataW.weights])
  rw [← Lib.size_eq] at this
  exact this

theorem read_strs (f : Nat) (cs : List Value) (x : DataW H × List MemPlace) (h : DataW.trod enc Try.prog W 0 spare true f 22 cs = some x) :
    ∃ (l : List ByteArray) (sv : Value), cs = [sv] ∧ Tv W l sv ∧ ((∀ n ∈ x.1.weights Try.prog 22, n ≤ reachBytes) → ∀ s ∈ l, s.size ≤ reachBytes) := by
  rcases DataW.trod_slice Try.underlying22 h with ⟨rfl, _⟩ | ⟨a, len, cap, elems, rest, n, rfl, rfl, rfl, hb, hl, hm, hel, he, _, _⟩
  · exact ⟨[], _, rfl, ⟨none, 0, rfl, Nat.le_refl _, Nat.zero_le _, fun h => absurd h (Nat.lt_irrefl 0)⟩, fun _ => by simp⟩
  · have key : ∀ i, i < len → ∃ p : ByteArray, W.cell? (a.add i) = some (.string p) ∧ ((∀ n ∈ (DataW.slice (elems.map (·.1)) (rest.map (·.1))).weights Try.prog 22, n ≤ reachBytes) → p.size ≤ reachBytes) := by
      intro i hi
      have e := he i hi
      rw [List.getElem?_eq_getElem (by omega)] at e
      obtain ⟨cs', h1, h2⟩ := Option.bind_eq_some_iff.1 e
      obtain ⟨s, rfl, hsz⟩ := read_str n _ _ h2
      obtain ⟨_, _, hc⟩ := World.cells?_some h1
      rw [cellsT] at hc
      refine ⟨s, ?_, fun hw => hsz (fun m hm => hw m ?_)⟩
      · have := hc 0 (by omega)
        rw [add_add] at this
        simpa using this
      · rw [DataW.weights, Try.underlying22]
        refine List.mem_cons_of_mem _ (List.mem_append.2 (.inl (mem_all (List.mem_map.2 ⟨elems[i], List.getElem_mem _, rfl⟩) hm)))
    obtain ⟨T, hT⟩ := @choose_lt ByteArray ⟨⟨#[]⟩⟩ len _ key
    refine ⟨(List.range len).map T, _, rfl, ⟨some a, cap, by simp, by simpa using hl, hm, fun h0 => ?_⟩, fun hw c hc => ?_⟩
    · simp only [List.length_map, List.length_range] at h0
      have hspot : a.spot = none := by
        have := (hT 0 h0).1
        simp [Addr.add] at this
        exact spot_none this
      refine ⟨a.block, a.off, by cases a; simp at hspot; subst hspot; rfl, fun j hj => ?_⟩
      simp only [List.length_map, List.length_range] at hj
      simp only [List.getElem_map, List.getElem_range]
      have hc := (hT j hj).1
      rw [add_at hspot] at hc
      exact hc
    · obtain ⟨i, hi, rfl⟩ := List.mem_map.1 hc
      exact (hT i (List.mem_range.1 hi)).2 hw
end

theorem Tv.form {w : World} {xs : List ByteArray} {sv : Value} (h : Tv w xs sv) : ∃ a0 cap, sv = .slice a0 xs.length cap ∧ xs.length ≤ cap ∧ cap ≤ maxLen := by
  obtain ⟨a0, cap, h1, h2, h3, -⟩ := h
  exact ⟨a0, cap, h1, h2, h3⟩
theorem Tv.cell {w : World} {xs : List ByteArray} {a0 : Option Addr} {n cap : Nat} (h : Tv w xs (.slice a0 n cap)) {j : Nat} (hj : j < xs.length) : ∃ b o, a0 = some ⟨b, o, none⟩ ∧ w.cell? ⟨b, o + j, none⟩ = some (.string xs[j]) := by
  obtain ⟨a1, cap1, h1, h2, h3, h4⟩ := h
  cases h1
  obtain ⟨b, o, e, h5⟩ := h4 (by omega)
  exact ⟨b, o, e, h5 j hj⟩
theorem Tv.below {w w' : World} {xs : List ByteArray} {sv : Value} (h : Tv w xs sv) (hb : Below w.heap.size w w') : Tv w' xs sv := by
  obtain ⟨a0, cap, h1, h2, h3, h4⟩ := h
  refine ⟨a0, cap, h1, h2, h3, fun h0 => ?_⟩
  obtain ⟨b, o, e, h5⟩ := h4 h0
  refine ⟨b, o, e, fun j hj => ?_⟩
  have h6 := h5 j hj
  have hlt : b < w.heap.size := by
    unfold World.cell? at h6
    simp only at h6
    cases ho : w.heap[b]? with
    | none => rw [ho] at h6; cases h6
    | some o' => exact (Array.getElem?_eq_some_iff.1 ho).1
  exact (hb.cell (p := ⟨b, o + j, none⟩) hlt).trans h6
end Go.Proofs.Ytlheiiapolhpeaa
