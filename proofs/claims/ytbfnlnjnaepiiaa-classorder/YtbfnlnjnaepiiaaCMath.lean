/- Tables of classes: what extends what. -/
import Derived.Test.YtbfnlnjnaepiiaaCWakes
namespace Go.Proofs.Ytbfnlnjnaepiiaa
open Go.RowKit Go.Maps

theorem up_mem : ∀ {R : List Cl} {a b : ByteArray}, b ∈ upR R a → ∃ e ∈ R, e.n = b
  | [], _, _, h => by simp [upR] at h
  | d :: r, a, b, h => by
    rw [upR] at h
    cases hq : eqS a d.n with
    | true =>
      rw [hq] at h
      simp only [if_true] at h
      rcases List.mem_cons.1 h with rfl | h
      · exact ⟨d, by simp, (eqS_iff.1 hq).symm⟩
      · obtain ⟨e, h1, h2⟩ := up_mem h
        exact ⟨e, List.mem_cons_of_mem _ h1, h2⟩
    | false =>
      rw [hq] at h
      obtain ⟨e, h1, h2⟩ := up_mem (by simpa using h)
      exact ⟨e, List.mem_cons_of_mem _ h1, h2⟩

theorem up_skip {d : Cl} {r : List Cl} {a : ByteArray} (h : a ≠ d.n) : upR (d :: r) a = upR r a := by
  rw [upR, eqS_no.2 h]; simp

theorem up_trans : ∀ {R : List Cl} {a b c : ByteArray}, WfR R → b ∈ upR R a → c ∈ upR R b → c ∈ upR R a
  | [], _, _, _, _, h, _ => by simp [upR] at h
  | d :: r, a, b, c, hw, h, h2 => by
    obtain ⟨w1, w2, w3, w4⟩ := hw
    cases hq : eqS a d.n with
    | true =>
      have ha := eqS_iff.1 hq
      have e : upR (d :: r) a = a :: upR r d.s := by rw [upR, hq]; rfl
      rw [e] at h ⊢
      rcases List.mem_cons.1 h with rfl | h
      · rw [e] at h2; exact h2
      · obtain ⟨e', m1, m2⟩ := up_mem h
        rw [up_skip (fun e => w2 e' m1 (m2.trans e))] at h2
        exact List.mem_cons_of_mem _ (up_trans w1 h h2)
    | false =>
      have ha := eqS_no.1 hq
      rw [up_skip ha] at h ⊢
      obtain ⟨e', m1, m2⟩ := up_mem h
      rw [up_skip (fun e => w2 e' m1 (m2.trans e))] at h2
      exact up_trans w1 h h2

/-- Two that are one another are one. -/
theorem up_anti : ∀ {R : List Cl} {a b : ByteArray}, WfR R → b ∈ upR R a → a ∈ upR R b → a = b
  | [], _, _, _, h, _ => by simp [upR] at h
  | d :: r, a, b, hw, h, h2 => by
    obtain ⟨w1, w2, w3, w4⟩ := hw
    by_cases ha : a = d.n
    · by_cases hb : b = d.n
      · exact ha.trans hb.symm
      · rw [up_skip hb] at h2
        obtain ⟨e', m1, m2⟩ := up_mem h2
        exact absurd (m2.trans ha) (w2 e' m1)
    · by_cases hb : b = d.n
      · rw [up_skip ha] at h
        obtain ⟨e', m1, m2⟩ := up_mem h
        exact absurd (m2.trans hb) (w2 e' m1)
      · rw [up_skip ha] at h
        rw [up_skip hb] at h2
        exact up_anti w1 h h2

theorem isT_iff {T : List Cl} {a b : ByteArray} : isT T a b = true ↔ b ∈ upT T a := by
  unfold isT
  rw [List.any_eq_true]
  constructor
  · rintro ⟨z, h1, h2⟩; rw [eqS_iff] at h2; subst h2; exact h1
  · intro h; exact ⟨b, h, eqS_self b⟩

theorem isT_trans {T : List Cl} (hw : WfT T) {a b c : ByteArray} (h1 : isT T a b = true) (h2 : isT T b c = true) : isT T a c = true :=
  isT_iff.2 (up_trans hw (isT_iff.1 h1) (isT_iff.1 h2))
theorem has_find {T : List Cl} {x : ByteArray} (h : hasT T x = true) : ∃ c, findT T x = some c := by
  rw [hasT_find] at h
  exact Option.isSome_iff_exists.1 h
theorem isT_self {T : List Cl} (hw : WfT T) {x : ByteArray} (h : hasT T x = true) : isT T x x = true := by
  obtain ⟨c, hc⟩ := has_find h
  rw [isT_iff, upT_yes hw hc]
  simp
theorem isT_has {T : List Cl} {a b : ByteArray} (h : isT T a b = true) : hasT T b = true := by
  obtain ⟨e, h1, h2⟩ := up_mem (isT_iff.1 h)
  exact hasT_mem.2 ⟨e, by simpa using h1, h2⟩

theorem addsT_append : ∀ (T l m : List Cl), addsT T (l ++ m) = (addsT T l).bind (fun U => addsT U m)
  | T, [], m => by simp [addsT]
  | T, c :: l, m => by
    rw [List.cons_append, addsT, addsT]
    cases addB T c with
    | true => simpa using addsT_append _ l m
    | false => rfl

theorem addsT_names : ∀ {T l U : List Cl}, addsT T l = some U → U.map (·.n) = T.map (·.n) ++ l.map (·.n)
  | T, [], U, h => by simp [addsT] at h; subst h; simp
  | T, c :: l, U, h => by
    rw [addsT] at h
    cases ha : addB T c with
    | true => rw [ha] at h; rw [addsT_names (T := T ++ [full T c]) (by simpa using h)]; simp [full]
    | false => rw [ha] at h; cases h

theorem newT_some {l T : List Cl} (h : newT l = some T) : l.length ≤ 64 ∧ addsT [] l = some T ∧ typedB T = true := by
  unfold newT at h
  by_cases h64 : 64 < l.length
  · rw [if_pos h64] at h; cases h
  · rw [if_neg h64] at h
    cases ha : addsT [] l with
    | none => rw [ha] at h; cases h
    | some U =>
      rw [ha] at h
      simp only at h
      cases hy : typedB U with
      | true => rw [hy] at h; simp only [if_true] at h; cases h; exact ⟨by omega, rfl, hy⟩
      | false => rw [hy] at h; cases h

theorem newT_names {l T : List Cl} (h : newT l = some T) : T.map (·.n) = l.map (·.n) := by simpa using addsT_names (newT_some h).2.1
theorem newT_has {l T : List Cl} (h : newT l = some T) {c : Cl} (hc : c ∈ l) : hasT T c.n = true := by
  have : c.n ∈ T.map (·.n) := by rw [newT_names h]; exact List.mem_map.2 ⟨c, hc, rfl⟩
  obtain ⟨d, h1, h2⟩ := List.mem_map.1 this
  exact hasT_mem.2 ⟨d, h1, h2⟩
theorem newT_length {l T : List Cl} (h : newT l = some T) : T.length = l.length := by
  have := congrArg List.length (newT_names h); simpa using this

theorem wf_nonempty : ∀ {R : List Cl}, WfR R → ∀ c ∈ R, c.n ≠ ⟨#[]⟩
  | [], _, c, h => by simp at h
  | d :: r, hw, c, h => by
    rcases List.mem_cons.1 h with rfl | h
    · exact hw.2.2.1
    · exact wf_nonempty hw.1 c h
theorem wf_find {T : List Cl} (hw : WfT T) : findT T ⟨#[]⟩ = none := by
  cases hf : findT T ⟨#[]⟩ with
  | none => rfl
  | some c =>
    obtain ⟨h1, h2⟩ := findT_some hf
    exact absurd h2 (wf_nonempty hw c (by simpa using h1))

def zz9 : ByteArray := ⟨#[90, 122, 57]⟩
def zzC : Cl := ⟨zz9, ⟨#[]⟩, []⟩

theorem add_zz {T : List Cl} (hw : WfT T) (hh : hasT T zz9 = false) : addB T zzC = true ∧ full T zzC = zzC := by
  have hf : fieldsT T zzC.s = [] := by show fieldsT T ⟨#[]⟩ = []; unfold fieldsT; rw [wf_find hw]
  have hn : nameB zzC.n = true := by kernel_rfl
  constructor
  · unfold addB supB
    rw [hf, hn, show zzC.n = zz9 from rfl, hh, show eqS zzC.s ⟨#[]⟩ = true from eqS_self _]
    rfl
  · unfold full
    rw [hf]
    rfl

theorem hasT_app {T U : List Cl} {x : ByteArray} : hasT (T ++ U) x = (hasT T x || hasT U x) := by unfold hasT; rw [List.any_append]

theorem new_zz {l T : List Cl} (h : newT l = some T) (hw : WfT T) (hh : hasT T zz9 = false) (hl : l.length < 64) : newT (l ++ [zzC]) = some (T ++ [zzC]) := by
  obtain ⟨h1, h2, h3⟩ := newT_some h
  have ha := add_zz hw hh
  unfold newT
  rw [if_neg (by simp; omega), addsT_append, h2]
  show (match addsT T [zzC] with | none => none | some T => if typedB T then some T else none) = _
  rw [addsT, ha.1, ha.2]
  show (match some (T ++ [zzC]) with | none => none | some T => if typedB T then some T else none) = _
  have hy : typedB (T ++ [zzC]) = true := by
    unfold typedB at h3 ⊢
    rw [List.all_append, Bool.and_eq_true]
    refine ⟨?_, by simp [zzC]⟩
    rw [List.all_eq_true] at h3 ⊢
    intro c hc
    have := h3 c hc
    rw [List.all_eq_true] at this ⊢
    intro f hf
    have k := this f hf
    unfold typB at k ⊢
    rw [hasT_app]
    by_cases h5 : f.t = 5
    · rw [if_pos h5] at k ⊢
      simp only [Bool.and_eq_true] at k ⊢
      exact ⟨k.1, by rw [k.2]; rfl⟩
    · rw [if_neg h5] at k ⊢
      exact k
  simp [hy]

theorem up_zz {T : List Cl} (hw : WfT T) (a : ByteArray) : upT (T ++ [zzC]) a = if eqS a zz9 then [zz9] else upT T a := by
  unfold upT
  rw [List.reverse_append, List.reverse_singleton, List.singleton_append, upR, show zzC.n = zz9 from rfl]
  cases hq : eqS a zz9 with
  | true =>
    rw [eqS_iff.1 hq]
    have : upR T.reverse zzC.s = [] := upR_no (fun c hc => wf_nonempty hw c hc)
    rw [this]
  | false => rfl

theorem subs_zz {T : List Cl} (hw : WfT T) (hh : hasT T zz9 = false) {x : ByteArray} (hx : hasT T x = true) : subsT (T ++ [zzC]) x = subsT T x ∧ isT (T ++ [zzC]) zz9 x = false := by
  have hne : x ≠ zz9 := by rintro rfl; rw [hh] at hx; cases hx
  have h2 : isT (T ++ [zzC]) zz9 x = false := by
    rw [← Bool.not_eq_true, isT_iff, up_zz hw, eqS_self]
    simp [hne]
  refine ⟨?_, h2⟩
  unfold subsT
  rw [List.map_append, List.filter_append]
  have h3 : List.filter (fun z => isT (T ++ [zzC]) z x) (List.map (fun x => x.n) [zzC]) = [] := by
    rw [show List.map (fun x => x.n) [zzC] = [zz9] from rfl]
    simp [h2]
  rw [h3, List.append_nil]
  apply List.filter_congr
  intro z hz
  have hz9 : eqS z zz9 = false := by
    rw [eqS_no]
    rintro rfl
    obtain ⟨c, c1, c2⟩ := List.mem_map.1 hz
    have : hasT T zz9 = true := hasT_mem.2 ⟨c, c1, c2⟩
    rw [hh] at this; cases this
  unfold isT
  rw [up_zz hw, hz9]
  simp

theorem subs_zz9 {T : List Cl} (hw : WfT T) (hh : hasT T zz9 = false) : subsT (T ++ [zzC]) zz9 = [zz9] := by
  unfold subsT
  rw [List.map_append, List.filter_append]
  have h3 : List.filter (fun z => isT (T ++ [zzC]) z zz9) (List.map (fun x => x.n) [zzC]) = [zz9] := by
    have : isT (T ++ [zzC]) zz9 zz9 = true := by rw [isT_iff, up_zz hw, eqS_self]; simp
    rw [show List.map (fun x => x.n) [zzC] = [zz9] from rfl]
    simp [this]
  rw [h3]
  have h4 : List.filter (fun z => isT (T ++ [zzC]) z zz9) (List.map (fun x => x.n) T) = [] := by
    rw [List.filter_eq_nil_iff]
    intro z hz hi
    have hz9 : eqS z zz9 = false := by
      rw [eqS_no]
      rintro rfl
      obtain ⟨c, c1, c2⟩ := List.mem_map.1 hz
      have : hasT T zz9 = true := hasT_mem.2 ⟨c, c1, c2⟩
      rw [hh] at this; cases this
    have hi' : isT T z zz9 = true := by
      rw [isT_iff, up_zz hw, hz9] at hi
      exact isT_iff.2 (by simpa using hi)
    have := isT_has hi'
    rw [hh] at this; cases this
  rw [h4]
  rfl

theorem subs_mem {T : List Cl} {x z : ByteArray} : z ∈ subsT T x ↔ hasT T z = true ∧ isT T z x = true := by
  unfold subsT
  rw [List.mem_filter]
  constructor
  · rintro ⟨h1, h2⟩
    obtain ⟨c, c1, c2⟩ := List.mem_map.1 h1
    exact ⟨hasT_mem.2 ⟨c, c1, c2⟩, h2⟩
  · rintro ⟨h1, h2⟩
    obtain ⟨c, c1, c2⟩ := hasT_mem.1 h1
    exact ⟨List.mem_map.2 ⟨c, c1, c2⟩, h2⟩
end Go.Proofs.Ytbfnlnjnaepiiaa
