/- What is read as data is a list of classes that lies in memory. -/
import Derived.Test.YtbfnlnjnaepiiaaCRow
import Derived.Deep.Slices
import Derived.Deep.Strs
import Derived.SizedLaws
namespace Go.Proofs.Ytbfnlnjnaepiiaa
open Go.RowKit Go.Deep

theorem cellsF : Try.prog.cellsOf 37 = 3 := by kernel_rfl
theorem cellsC : Try.prog.cellsOf 35 = 3 := by kernel_rfl
theorem cellsI : Try.prog.cellsOf 3 = 1 := by kernel_rfl
theorem cellsT : Try.prog.cellsOf 9 = 1 := by kernel_rfl
theorem cellsL : Try.prog.cellsOf 33 = 1 := by kernel_rfl
theorem bytesF : Try.prog.bytesOf 37 = 40 := by kernel_rfl
theorem bytesC : Try.prog.bytesOf 35 = 56 := by kernel_rfl

theorem three {cs : List Value} (h : cs.length = 3) : ∃ c0 c1 c2, cs = [c0, c1, c2] := by
  match cs, h with
  | [c0, c1, c2], _ => exact ⟨c0, c1, c2, rfl⟩

theorem spot_none {W : World} {a : Addr} {v : Value} (this : W.cell? a = some v) : a.spot = none := by
  unfold World.cell? at this
  split at this
  · split at this
    · cases this
    · cases hs : a.spot with
      | none => rfl
      | some q => rename_i hn; simp [hs] at hn
  · cases this

theorem add_at {a : Addr} (h : a.spot = none) (j : Nat) : a.add j = ⟨a.block, a.off + j, none⟩ := by
  cases a
  simp at h
  subst h
  exact addr_add _ _ _

section
variable {H : Type} {enc : TypeId × Value → H} {W : World} {spare : Nat → Bool}

theorem read_fld (f : Nat) (cs : List Value) (x : DataW H × List MemPlace) (h : DataW.trod enc Try.prog W 0 spare true f 37 cs = some x) : ∃ p : Fl, cs = [.string p.n, .int .i64 p.t, .string p.c] := by
  obtain ⟨y0, y1, y2, n, rfl, hlen, f0, f1, f2⟩ := trod_struct3 Try.underlying37 h
  rw [cellsF] at hlen
  obtain ⟨c0, c1, c2, rfl⟩ := three hlen
  dsimp only at f0 f1 f2
  simp only [cellsI, cellsT, List.drop_succ_cons, List.drop_zero, List.take_succ_cons, List.take_zero] at f0 f1 f2
  obtain ⟨s, e0, _, _⟩ := DataW.trod_string Try.underlying9 f0
  obtain ⟨k, e1, _, _⟩ := DataW.trod_int Try.underlying3 f1
  obtain ⟨s2, e2, _, _⟩ := DataW.trod_string Try.underlying9 f2
  simp at e0 e1 e2
  subst e0 e1 e2
  exact ⟨⟨s, k, s2⟩, rfl⟩

theorem read_flds (f : Nat) (cs : List Value) (x : DataW H × List MemPlace) (h : DataW.trod enc Try.prog W 0 spare true f 33 cs = some x) :
    ∃ fs sv, cs = [sv] ∧ Fv Any W fs sv ∧ ((∀ n ∈ x.1.weights Try.prog 33, n ≤ reachBytes) → fs.length ≤ 4398046511104) := by
  rcases DataW.trod_slice Try.underlying33 h with ⟨rfl, _⟩ | ⟨a, len, cap, elems, rest, n, rfl, rfl, rfl, hb, hl, hm, hel, he, _, _⟩
  · exact ⟨[], _, rfl, ⟨none, 0, rfl, Nat.le_refl _, Nat.zero_le _, fun h => absurd h (Nat.lt_irrefl 0)⟩, fun _ => by simp⟩
  · have key : ∀ i, i < len → ∃ p : Fl, (∀ c, c < 3 → W.cell? (a.add (i * 3 + c)) = [Value.string p.n, .int .i64 p.t, .string p.c][c]?) := by
      intro i hi
      have e := he i hi
      rw [List.getElem?_eq_getElem (by omega)] at e
      obtain ⟨cs', h1, h2⟩ := Option.bind_eq_some_iff.1 e
      obtain ⟨p, rfl⟩ := read_fld n _ _ h2
      obtain ⟨_, _, hc⟩ := World.cells?_some h1
      rw [cellsF] at hc
      refine ⟨p, fun c hc' => ?_⟩
      have := hc c hc'
      rwa [add_add] at this
    obtain ⟨T, hT⟩ := @choose_lt Fl ⟨⟨⟨#[]⟩, 0, ⟨#[]⟩⟩⟩ len _ key
    refine ⟨(List.range len).map T, _, rfl, ⟨some a, cap, by simp, by simpa using hl, hm, fun h0 => ?_⟩, fun hw => ?_⟩
    · simp only [List.length_map, List.length_range] at h0
      have hspot : a.spot = none := by
        have := hT 0 h0 0 (by omega)
        simp [Addr.add] at this
        exact spot_none this
      refine ⟨a.block, a.off, by cases a; simp at hspot; subst hspot; rfl, trivial, fun j hj => ?_⟩
      simp only [List.length_map, List.length_range] at hj
      simp only [List.getElem_map, List.getElem_range]
      have hc := hT j hj
      simp only [add_at hspot, ← Nat.add_assoc] at hc
      exact ⟨by simpa using hc 0 (by omega), by simpa using hc 1 (by omega), by simpa using hc 2 (by omega)⟩
    · have := hw ((elems.map (·.1)).length + (rest.map (·.1)).length * 1 |> fun _ => ((elems.map (·.1)).length + (rest.map (·.1)).length) * Try.prog.bytesOf 37) (by simp [DataW.weights, Try.underlying33])
      rw [bytesF] at this
      simp only [List.length_map, List.length_range, reachBytes] at this ⊢
      omega

theorem read_cls (f : Nat) (cs : List Value) (x : DataW H × List MemPlace) (h : DataW.trod enc Try.prog W 0 spare true f 35 cs = some x) :
    ∃ (c : Cl) (sv : Value), cs = [.string c.n, .string c.s, sv] ∧ Fv Any W c.f sv ∧ ((∀ n ∈ x.1.weights Try.prog 35, n ≤ reachBytes) → c.f.length ≤ 4398046511104) := by
  obtain ⟨y0, y1, y2, n, rfl, hlen, f0, f1, f2⟩ := trod_struct3 Try.underlying35 h
  rw [cellsC] at hlen
  obtain ⟨c0, c1, c2, rfl⟩ := three hlen
  dsimp only at f0 f1 f2
  simp only [cellsL, cellsT, List.drop_succ_cons, List.drop_zero, List.take_succ_cons, List.take_zero] at f0 f1 f2
  obtain ⟨s, e0, _, _⟩ := DataW.trod_string Try.underlying9 f0
  obtain ⟨s1, e1, _, _⟩ := DataW.trod_string Try.underlying9 f1
  obtain ⟨fs, sv, e2, hfv, hsz⟩ := read_flds n _ _ f2
  simp at e0 e1 e2
  subst e0 e1 e2
  refine ⟨⟨s, s1, fs⟩, _, rfl, hfv, fun hw => hsz (fun m hm => hw m ?_)⟩
  have : (DataW.agg [y0.1, y1.1, y2.1]).weights Try.prog 35 = DataW.weightsEach Try.prog [9, 9, 33] [y0.1, y1.1, y2.1] := by
    rw [DataW.weights, Try.underlying35]
    rfl
  show m ∈ (DataW.agg [y0.1, y1.1, y2.1]).weights Try.prog 35
  rw [this]
  exact DataW.weights_mem_each (j := 2) rfl rfl m hm

theorem mem_all {P : Program} {e : TypeId} {m : Nat} : ∀ {ds : List (DataW H)} {d : DataW H}, d ∈ ds → m ∈ d.weights P e → m ∈ DataW.weightsAll P e ds
  | [], _, h, _ => by simp at h
  | d0 :: ds, d, h, hm => by
    rw [DataW.weightsAll, List.mem_append]
    rcases List.mem_cons.1 h with rfl | h
    · exact .inl hm
    · exact .inr (mem_all h hm)

theorem read_classes (f : Nat) (cs : List Value) (x : DataW H × List MemPlace) (h : DataW.trod enc Try.prog W 0 spare true f 22 cs = some x) :
    ∃ (l : List Cl) (sv : Value), cs = [sv] ∧ Cv Any W l sv ∧ ((∀ n ∈ x.1.weights Try.prog 22, n ≤ reachBytes) → ∀ c ∈ l, c.f.length ≤ 4398046511104) := by
  rcases DataW.trod_slice Try.underlying22 h with ⟨rfl, _⟩ | ⟨a, len, cap, elems, rest, n, rfl, rfl, rfl, hb, hl, hm, hel, he, _, _⟩
  · exact ⟨[], _, rfl, ⟨none, 0, rfl, Nat.le_refl _, Nat.zero_le _, fun h => absurd h (Nat.lt_irrefl 0)⟩, fun _ => by simp⟩
  · have key : ∀ i, i < len → ∃ p : Cl × Value, (∀ c, c < 3 → W.cell? (a.add (i * 3 + c)) = [Value.string p.1.n, .string p.1.s, p.2][c]?) ∧ Fv Any W p.1.f p.2 ∧ ((∀ n ∈ (DataW.slice (elems.map (·.1)) (rest.map (·.1))).weights Try.prog 22, n ≤ reachBytes) → p.1.f.length ≤ 4398046511104) := by
      intro i hi
      have e := he i hi
      rw [List.getElem?_eq_getElem (by omega)] at e
      obtain ⟨cs', h1, h2⟩ := Option.bind_eq_some_iff.1 e
      obtain ⟨c, sv, rfl, hv, hsz⟩ := read_cls n _ _ h2
      obtain ⟨_, _, hc⟩ := World.cells?_some h1
      rw [cellsC] at hc
      refine ⟨(c, sv), fun c hc' => ?_, hv, fun hw => hsz (fun m hm => hw m ?_)⟩
      · have := hc c hc'
        rwa [add_add] at this
      · rw [DataW.weights, Try.underlying22]
        refine List.mem_cons_of_mem _ (List.mem_append.2 (.inl (mem_all (List.mem_map.2 ⟨elems[i], List.getElem_mem _, rfl⟩) hm)))
    obtain ⟨T, hT⟩ := @choose_lt (Cl × Value) ⟨(⟨⟨#[]⟩, ⟨#[]⟩, []⟩, .nilIface)⟩ len _ key
    refine ⟨(List.range len).map (fun i => (T i).1), _, rfl, ⟨some a, cap, by simp, by simpa using hl, hm, fun h0 => ?_⟩, fun hw c hc => ?_⟩
    · simp only [List.length_map, List.length_range] at h0
      have hspot : a.spot = none := by
        have := (hT 0 h0).1 0 (by omega)
        simp [Addr.add] at this
        exact spot_none this
      refine ⟨a.block, a.off, by cases a; simp at hspot; subst hspot; rfl, trivial, fun j hj => ?_⟩
      simp only [List.length_map, List.length_range] at hj
      simp only [List.getElem_map, List.getElem_range]
      have hc := (hT j hj).1
      simp only [add_at hspot, ← Nat.add_assoc] at hc
      exact ⟨(T j).2, ⟨by simpa using hc 0 (by omega), by simpa using hc 1 (by omega), by simpa using hc 2 (by omega)⟩, (hT j hj).2.1⟩
    · obtain ⟨i, hi, rfl⟩ := List.mem_map.1 hc
      exact (hT i (List.mem_range.1 hi)).2.2 hw
end
end Go.Proofs.Ytbfnlnjnaepiiaa
