/- A class and those above it. -/
import Derived.Test.YtbfnlnjnaepiiaaCTab
namespace Go.Proofs.Ytbfnlnjnaepiiaa
open Go.RowKit Go.Maps

/-- A table, the last class first: each name once, each super behind its class. -/
def WfR : List Cl → Prop
  | [] => True
  | d :: r => WfR r ∧ (∀ e ∈ r, e.n ≠ d.n) ∧ d.n ≠ ⟨#[]⟩ ∧ (d.s = ⟨#[]⟩ ∨ ∃ e ∈ r, e.n = d.s)

def upR : List Cl → ByteArray → List ByteArray
  | [], _ => []
  | d :: r, x => if eqS x d.n then x :: upR r d.s else upR r x

def WfT (T : List Cl) : Prop := WfR T.reverse
def upT (T : List Cl) (x : ByteArray) : List ByteArray := upR T.reverse x
def isT (T : List Cl) (x y : ByteArray) : Bool := (upT T x).any (fun z => eqS z y)

theorem wf_super : ∀ {r : List Cl} {c : Cl}, WfR r → c ∈ r → c.s = ⟨#[]⟩ ∨ ∃ e ∈ r, e.n = c.s
  | [], _, _, h => by simp at h
  | d :: r, c, hw, h => by
    obtain ⟨h1, h2, h3, h4⟩ := hw
    rcases List.mem_cons.1 h with rfl | h
    · rcases h4 with h | ⟨e, he, h⟩
      · exact .inl h
      · exact .inr ⟨e, List.mem_cons_of_mem _ he, h⟩
    · rcases wf_super h1 h with h | ⟨e, he, h⟩
      · exact .inl h
      · exact .inr ⟨e, List.mem_cons_of_mem _ he, h⟩

theorem up_not {d : Cl} {r : List Cl} (hw : WfR (d :: r)) {c : Cl} (h : c ∈ d :: r) : eqS c.s d.n = false := by
  obtain ⟨h1, h2, h3, h4⟩ := hw
  rw [eqS_no]
  intro e
  have key : c.s = ⟨#[]⟩ ∨ ∃ e ∈ r, e.n = c.s := by
    rcases List.mem_cons.1 h with rfl | h
    · exact h4
    · exact wf_super h1 h
  rcases key with k | ⟨e', he, k⟩
  · exact h3 (e.symm.trans k)
  · exact h2 e' he (k.trans e)

theorem upR_yes : ∀ {R : List Cl} {c : Cl}, WfR R → c ∈ R → upR R c.n = c.n :: upR R c.s
  | [], _, _, h => by simp at h
  | d :: r, c, hw, h => by
    have hn := up_not hw h
    rw [upR, upR, hn]
    rcases List.mem_cons.1 h with rfl | h
    · rw [eqS_self]; rfl
    · have : eqS c.n d.n = false := eqS_no.2 (hw.2.1 c h)
      rw [this]
      exact upR_yes hw.1 h

theorem upR_no : ∀ {R : List Cl} {x : ByteArray}, (∀ c ∈ R, c.n ≠ x) → upR R x = []
  | [], _, _ => rfl
  | d :: r, x, h => by
    have : eqS x d.n = false := eqS_no.2 (fun e => h d (by simp) e.symm)
    rw [upR, this]
    exact upR_no (fun c hc => h c (List.mem_cons_of_mem _ hc))

theorem findT_some {T : List Cl} {x : ByteArray} {c : Cl} (h : findT T x = some c) : c ∈ T ∧ c.n = x := by
  induction T with
  | nil => cases h
  | cons d T ih =>
    rw [findT] at h
    cases hq : eqS x d.n with
    | true =>
      rw [hq] at h
      cases h
      exact ⟨by simp, (eqS_iff.1 hq).symm⟩
    | false =>
      rw [hq] at h
      obtain ⟨h1, h2⟩ := ih h
      exact ⟨List.mem_cons_of_mem _ h1, h2⟩

theorem findT_none {T : List Cl} {x : ByteArray} (h : findT T x = none) : ∀ c ∈ T, c.n ≠ x := by
  induction T with
  | nil => simp
  | cons d T ih =>
    rw [findT] at h
    cases hq : eqS x d.n with
    | true => rw [hq] at h; cases h
    | false =>
      rw [hq] at h
      intro c hc
      rcases List.mem_cons.1 hc with rfl | hc
      · exact fun e => eqS_no.1 hq e.symm
      · exact ih h c hc

theorem upT_yes {T : List Cl} (hw : WfT T) {x : ByteArray} {c : Cl} (h : findT T x = some c) : upT T x = x :: upT T c.s := by
  obtain ⟨h1, rfl⟩ := findT_some h
  exact upR_yes hw (by simpa using h1)
theorem upT_no {T : List Cl} {x : ByteArray} (h : findT T x = none) : upT T x = [] := upR_no (fun c hc => findT_none h c (by simpa using hc))
theorem field_super (w : World) (s : ByteArray) (a : Option Addr) (n c : Nat) : (Instr.field 88 (.agg #[.string s, .slice a n c]) 0).run Try.prog w = .ok (.string s) w := by kernel_rfl
theorem field_fields (w : World) (s : ByteArray) (a : Option Addr) (n c : Nat) : (Instr.field 88 (.agg #[.string s, .slice a n c]) 1).run Try.prog w = .ok (.slice a n c) w := by kernel_rfl
end Go.Proofs.Ytbfnlnjnaepiiaa
