/- Rows of classes: append. -/
import Derived.Test.YtbfnlnjnaepiiaaCMath
namespace Go.Proofs.Ytbfnlnjnaepiiaa
open Go.RowKit Go.Maps

/-- Anything. -/
def Any (_ : Nat) : Prop := True

/-- A class's three cells. -/
def celC (p : Cl × Value) : List Value := [.string p.1.n, .string p.1.s, p.2]

theorem celC_len (ps : List (Cl × Value)) : (ps.flatMap celC).length = ps.length * 3 := by
  induction ps with
  | nil => rfl
  | cons p ps ih => rw [List.flatMap_cons, List.length_append, ih, List.length_cons]; simp [celC]; omega

theorem celC_at : ∀ (ps : List (Cl × Value)) (j r : Nat) (_ : r < 3) (h : j < ps.length), (ps.flatMap celC)[j * 3 + r]? = (celC ps[j])[r]?
  | [], j, r, _, h => absurd h (by simp)
  | x :: ns, 0, r, hr, h => by
    rw [List.flatMap_cons, List.getElem?_append_left (by simp [celC]; omega)]
    simp
  | x :: ns, j + 1, r, hr, h => by
    rw [List.flatMap_cons, List.getElem?_append_right (by simp [celC]; omega)]
    have e : (j + 1) * 3 + r - (celC x).length = j * 3 + r := by simp [celC]; omega
    rw [e, celC_at ns j r hr (by simpa using h)]
    simp

theorem Cv.row {P : Nat → Prop} {w : World} {l : List Cl} {sv : Value} (h : Cv P w l sv) : ∃ (a0 : Option Addr) (cap : Nat) (ps : List (Cl × Value)), ps.map (·.1) = l ∧ (∀ p ∈ ps, Fv P w p.1.f p.2) ∧ sv = .slice a0 ps.length cap ∧ ps.length ≤ cap ∧ cap ≤ 9223372036854775807 ∧ RowAt w (ps.flatMap celC) a0 := by
  obtain ⟨a0, cap, h1, h2, h3, h4⟩ := h
  have key : ∃ ps : List (Cl × Value), ps.map (·.1) = l ∧ ∀ i (h : i < ps.length) b o, (∃ hh : 0 < l.length, a0 = some ⟨b, o, none⟩) → CCel w b (o + i * 3) ps[i].1 ps[i].2 ∧ Fv P w ps[i].1.f ps[i].2 := by
    by_cases h0 : 0 < l.length
    · obtain ⟨b, o, e, -, h5⟩ := h4 h0
      have h6 : ∀ j : Fin l.length, ∃ sv', CCel w b (o + j * 3) l[j] sv' ∧ Fv P w l[j].f sv' := fun j => h5 j j.2
      refine ⟨List.ofFn (fun j : Fin l.length => (l[j], (h6 j).choose)), ?_, ?_⟩
      · apply List.ext_getElem
        · simp
        · intro i hi1 hi2; simp
      · intro i hi b' o' ⟨_, e'⟩
        rw [e] at e'
        simp only [Option.some.injEq, Addr.mk.injEq, and_true] at e'
        obtain ⟨rfl, rfl⟩ := e'
        have hi' : i < l.length := by simpa using hi
        have := (h6 ⟨i, hi'⟩).choose_spec
        simpa using this
    · refine ⟨[], ?_, fun i h => by simp at h⟩
      have : l = [] := List.length_eq_zero_iff.1 (by omega)
      rw [this]; rfl
  obtain ⟨ps, hp1, hp2⟩ := key
  have hlen : ps.length = l.length := by rw [← hp1, List.length_map]
  refine ⟨a0, cap, ps, hp1, ?_, by rw [hlen]; exact h1, by omega, h3, ?_⟩
  · intro p hp
    obtain ⟨i, hi, rfl⟩ := List.getElem_of_mem hp
    obtain ⟨b, o, e, _⟩ := h4 (by omega)
    exact (hp2 i hi b o ⟨by omega, e⟩).2
  · intro h0
    rw [celC_len] at h0
    obtain ⟨b, o, e, _⟩ := h4 (by omega)
    refine ⟨b, o, e, fun j u hj => ?_⟩
    have hjl : j < ps.length * 3 := by
      rw [← celC_len]
      rcases Nat.lt_or_ge j (ps.flatMap celC).length with h | h
      · exact h
      · rw [List.getElem?_eq_none h] at hj; cases hj
    have hq : j / 3 < ps.length := by omega
    have hr : j % 3 < 3 := by omega
    have ej : j = j / 3 * 3 + j % 3 := by omega
    have hc := (hp2 (j / 3) hq b o ⟨by omega, e⟩).1
    rw [ej, celC_at ps _ _ hr hq] at hj
    rw [addr_add, ej]
    generalize j / 3 = q at *
    generalize j % 3 = r at *
    obtain ⟨c0, c1, c2⟩ := hc
    match r, hr with
    | 0, _ => simp [celC] at hj; subst hj; simpa using c0
    | 1, _ => simp [celC] at hj; subst hj; rw [← c1]; congr 1
    | 2, _ => simp [celC] at hj; subst hj; rw [← c2]; congr 1

theorem own_cv {w : World} {base : Nat} {v : Value} {n : Nat} (ps : List (Cl × Value)) (hR : ∀ p ∈ ps, Fv Any w p.1.f p.2) (h : w.ownsRow base 35 3 v n (ps.flatMap celC)) : Cv Any w (ps.map (·.1)) v := by
  have hn : ps.length = n := by have := h.1; rw [celC_len] at this; omega
  subst hn
  rcases h.2 with ⟨hv, h0⟩ | ⟨g, cap, cur, hv, hb, -, h1, h2, -⟩
  · refine ⟨none, 0, by simp [hv, h0], by simp [h0], by unfold maxLen; omega, fun hp => by simp at hp; omega⟩
  · refine ⟨some ⟨g, 0, none⟩, cap, by simp [hv], by simpa using h1, h2, fun _ => ⟨g, 0, rfl, trivial, fun j hj => ?_⟩⟩
    have hj' : j < ps.length := by simpa using hj
    have hc := h.cells (g := g) (by rw [hv]; rfl)
    have at3 : ∀ r u, r < 3 → (celC ps[j])[r]? = some u → w.cell? ⟨g, 0 + j * 3 + r, none⟩ = some u := by
      intro r u hr hu
      have := hc (j * 3 + r) u (by rw [celC_at ps j r hr hj']; exact hu)
      rw [addr_add] at this
      rw [← this]; congr 2; omega
    refine ⟨ps[j].2, ⟨?_, ?_, ?_⟩, ?_⟩
    · simpa using at3 0 _ (by omega) rfl
    · simpa using at3 1 _ (by omega) rfl
    · simpa using at3 2 _ (by omega) rfl
    · simpa using hR ps[j] (List.getElem_mem hj')

theorem zeroC' : (Try.prog.info? 35).map (fun i => (i.zero.map (fun z => z.cells.size), i.size, i.bytes)) = some (some 3, 3, 56) := by kernel_rfl
theorem zeroC : ∃ i z, Try.prog.info? 35 = some i ∧ i.zero = some z ∧ z.cells.size = 3 ∧ i.size = 3 ∧ i.bytes = 56 := by
  have h := zeroC'
  cases hi : Try.prog.info? 35 with
  | none => rw [hi] at h; cases h
  | some i =>
    rw [hi] at h
    simp at h
    obtain ⟨⟨z, h1, h1'⟩, h2, h3⟩ := h
    exact ⟨i, z, rfl, h1, h1', h2, h3⟩

/-- append of a slice of classes to a row that is owned. -/
theorem append_cls {w : World} {base : Nat} {v : Value} {n : Nat} {xs : List Value} (ty : TypeId) (hown : w.ownsRow base 35 3 v n xs) (ps : List (Cl × Value)) (a0 : Option Addr) (cap : Nat)
    (hone : ∀ p ∈ ps, ∃ a l c, p.2 = .slice a l c) (hcells : RowAt w (ps.flatMap celC) a0) (hsum : n + ps.length ≤ 1000000) (hbase : base ≤ w.heap.size) :
    ∃ v' w', (Builtin.append_ #[22, 22] ty #[v, .slice a0 ps.length cap]).run Try.prog w = .ok v' w' ∧ w'.ownsRow base 35 3 v' (n + ps.length) (xs ++ ps.flatMap celC) ∧ w.grownBy w' v.ownBlock := by
  obtain ⟨i, z, h1, h2, h3, h4, h5⟩ := zeroC
  cases a0 with
  | none =>
    have hp : ps = [] := by
      by_cases h0 : 0 < ps.length
      · obtain ⟨b, o, e, _⟩ := hcells (by rw [celC_len]; omega)
        cases e
      · exact List.length_eq_zero_iff.1 (by omega)
    subst hp
    refine ⟨v, w, append_none w base _ _ _ i 3 cap Try.underlying22 h1 v n xs hown, ?_, ⟨rfl, rfl, rfl, Nat.le_refl _, fun _ _ _ => rfl⟩⟩
    simpa using hown
  | some a =>
    have hcell : ∀ j u, (ps.flatMap celC)[j]? = some u → w.cell? (a.add j) = some u := by
      intro j u hj
      by_cases h0 : 0 < ps.length
      · obtain ⟨b, o, e, hh⟩ := hcells (by rw [celC_len]; omega)
        cases e
        exact hh j u hj
      · have : ps = [] := List.length_eq_zero_iff.1 (by omega)
        subst this
        simp at hj
    obtain ⟨v', w', r1, r2, r3, -⟩ := run_append_own (P := Try.prog) w base _ ty _ i z 3 56 Try.underlying22 h1 h2 h4 h5 h3 (by omega) v n xs hown a ps.length cap (ps.flatMap celC) (celC_len ps) hcell (by
        intro u hu
        rw [List.mem_flatMap] at hu
        obtain ⟨p, hp, hu⟩ := hu
        obtain ⟨a, l, c, e⟩ := hone p hp
        simp [celC, e] at hu
        rcases hu with rfl | rfl | rfl <;> rfl) (by unfold maxLen; omega) (by omega) hbase
    exact ⟨v', w', r1, r2, r3⟩
end Go.Proofs.Ytbfnlnjnaepiiaa
