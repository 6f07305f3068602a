/- Tables of classes: fields that begin with the super's; masks. -/
import Derived.Test.YtbfnlnjnaepiiaaCRow
namespace Go.Proofs.Ytbfnlnjnaepiiaa
open Go.RowKit Go.Maps

theorem wf_uniq : ∀ {R : List Cl} {c d : Cl}, WfR R → c ∈ R → d ∈ R → c.n = d.n → c = d
  | [], _, _, _, h, _, _ => by simp at h
  | e :: r, c, d, hw, h1, h2, hn => by
    rcases List.mem_cons.1 h1 with e1 | m1
    · rcases List.mem_cons.1 h2 with e2 | m2
      · rw [e1, e2]
      · rw [e1] at hn; exact absurd hn.symm (hw.2.1 d m2)
    · rcases List.mem_cons.1 h2 with e2 | m2
      · rw [e2] at hn; exact absurd hn (hw.2.1 c m1)
      · exact wf_uniq hw.1 m1 m2 hn

theorem wf_ne : ∀ {R : List Cl} {c : Cl}, WfR R → c ∈ R → c.s ≠ c.n
  | [], _, _, h => by simp at h
  | d :: r, c, hw, h => by
    rcases List.mem_cons.1 h with rfl | h
    · rcases hw.2.2.2 with e | ⟨e, he, hn⟩
      · rw [e]; exact fun x => hw.2.2.1 x.symm
      · rw [← hn]; exact hw.2.1 e he
    · exact wf_ne hw.1 h

/-- A class's fields begin with its super's; each name once. -/
def GoodT (T : List Cl) : Prop := ∀ c ∈ T, (c.s = ⟨#[]⟩ ∨ ∃ d ∈ T, d.n = c.s ∧ d.f <+: c.f) ∧ (c.f.map (·.n)).Nodup

theorem placeN_no (x : ByteArray) : ∀ (fs : List Fl) (k : Nat), placeN x fs k < 0 → x ∉ fs.map (·.n)
  | [], _, _ => by simp
  | f :: fs, k, h => by
    rw [placeN] at h
    cases hq : eqS f.n x with
    | true => rw [hq] at h; simp only [if_true] at h; omega
    | false =>
      rw [hq] at h
      have h1 := placeN_no x fs (k + 1) (by simpa using h)
      have h2 := eqS_no.1 hq
      simp only [List.map_cons, List.mem_cons, not_or]
      exact ⟨fun e => h2 e.symm, h1⟩

theorem okFs_nodup : ∀ (fs pre : List Fl), (pre.map (·.n)).Nodup → okFs pre fs = true → ((pre ++ fs).map (·.n)).Nodup
  | [], pre, h, _ => by simpa using h
  | f :: fs, pre, h, hk => by
    rw [okFs] at hk
    simp only [Bool.and_eq_true, decide_eq_true_eq] at hk
    obtain ⟨⟨_, h2⟩, h3⟩ := hk
    have hn := placeN_no _ _ _ h2
    have h4 : ((pre ++ [f]).map (·.n)).Nodup := by
      rw [List.map_append, List.nodup_append]
      refine ⟨h, by simp, fun a ha b hb => ?_⟩
      simp at hb
      subst hb
      rintro rfl
      exact hn ha
    have := okFs_nodup fs (pre ++ [f]) h4 h3
    simpa using this

theorem find_mem {T : List Cl} (hw : WfT T) {d : Cl} (hd : d ∈ T) : findT T d.n = some d := by
  cases hf : findT T d.n with
  | none => exact absurd rfl (findT_none hf d hd)
  | some c =>
    obtain ⟨h1, h2⟩ := findT_some hf
    exact congrArg some (wf_uniq hw (by simpa using h1) (by simpa using hd) h2)

theorem GoodT.push {T : List Cl} {c : Cl} (h : GoodT T) (hw : WfT T) (ha : addB T c = true) : GoodT (T ++ [full T c]) := by
  unfold addB at ha
  simp only [Bool.and_eq_true, Bool.not_eq_true'] at ha
  obtain ⟨⟨⟨⟨h1, h2⟩, h3⟩, h4⟩, h5⟩ := ha
  intro d hd
  rcases List.mem_append.1 hd with hd | hd
  · obtain ⟨k1, k2⟩ := h d hd
    refine ⟨?_, k2⟩
    rcases k1 with k | ⟨e, he, ke⟩
    · exact .inl k
    · exact .inr ⟨e, List.mem_append.2 (.inl he), ke⟩
  · simp at hd
    subst hd
    have hin : ((fieldsT T c.s).map (·.n)).Nodup := by
      unfold fieldsT
      cases hf : findT T c.s with
      | none => simp
      | some e => exact (h e (findT_some hf).1).2
    refine ⟨?_, okFs_nodup _ _ hin h5⟩
    unfold supB at h3
    rcases Bool.or_eq_true_iff.1 h3 with h | h
    · exact .inl (eqS_iff.1 h)
    · obtain ⟨e, he, hn⟩ := hasT_mem.1 h
      refine .inr ⟨e, List.mem_append.2 (.inl he), hn, ?_⟩
      have : fieldsT T c.s = e.f := by
        have hn' : c.s = e.n := hn.symm
        unfold fieldsT
        rw [hn', find_mem hw he]
      show e.f <+: fieldsT T c.s ++ c.f
      rw [this]
      exact List.prefix_append _ _

theorem addsT_good : ∀ {l T U : List Cl}, WfT T → GoodT T → addsT T l = some U → WfT U ∧ GoodT U ∧ U.map (fun c => (c.n, c.s)) = T.map (fun c => (c.n, c.s)) ++ l.map (fun c => (c.n, c.s))
  | [], T, U, hw, hg, h => by simp [addsT] at h; subst h; exact ⟨hw, hg, by simp⟩
  | c :: l, T, U, hw, hg, h => by
    rw [addsT] at h
    cases ha : addB T c with
    | true =>
      rw [ha] at h
      obtain ⟨h1, h2, h3⟩ := addsT_good (hw.push ha) (hg.push hw ha) (by simpa using h)
      exact ⟨h1, h2, by rw [h3]; simp [full]⟩
    | false => rw [ha] at h; cases h

theorem newT_good {l T : List Cl} (h : newT l = some T) : GoodT T ∧ T.map (fun c => (c.n, c.s)) = l.map (fun c => (c.n, c.s)) := by
  have := addsT_good (l := l) (T := []) (by trivial) (by intro c hc; simp at hc) (newT_some h).2.1
  exact ⟨this.2.1, by simpa using this.2.2⟩

/-- The class of the table that a class handed in has become. -/
theorem newT_at {l T : List Cl} (h : newT l = some T) (hw : WfT T) {k : Nat} (hk : k < l.length) : ∃ c ∈ T, c.n = l[k].n ∧ c.s = l[k].s ∧ findT T l[k].n = some c := by
  have hm : (l[k].n, l[k].s) ∈ T.map (fun c => (c.n, c.s)) := by
    rw [(newT_good h).2]
    exact List.mem_map.2 ⟨l[k], List.getElem_mem hk, rfl⟩
  obtain ⟨c, hc, he⟩ := List.mem_map.1 hm
  simp at he
  exact ⟨c, hc, he.1, he.2, by rw [← he.1]; exact find_mem hw hc⟩

theorem sup_at {T : List Cl} (hw : WfT T) (hg : GoodT T) {c : Cl} (hc : c ∈ T) (hs : c.s ≠ ⟨#[]⟩) :
    hasT T c.s = true ∧ fieldsT T c.s <+: c.f ∧ isT T c.n c.s = true ∧ isT T c.s c.n = false := by
  rcases (hg c hc).1 with h | ⟨d, hd, hn, hp⟩
  · exact absurd h hs
  · have hh : hasT T c.s = true := hasT_mem.2 ⟨d, hd, hn⟩
    have hf : fieldsT T c.s = d.f := by unfold fieldsT; rw [← hn, find_mem hw hd]
    have hi : isT T c.n c.s = true := by
      rw [isT_iff, upT_yes hw (find_mem hw hc)]
      exact List.mem_cons_of_mem _ (isT_iff.1 (isT_self hw hh))
    refine ⟨hh, by rw [hf]; exact hp, hi, ?_⟩
    rw [← Bool.not_eq_true]
    intro h
    exact wf_ne hw (by simpa using hc) (up_anti hw (isT_iff.1 h) (isT_iff.1 hi))

theorem placeI_at {fs : List Fl} (h : (fs.map (·.n)).Nodup) {k : Nat} (hk : k < fs.length) : placeI fs fs[k].n = (k : Int) := by
  rcases placeI_lt fs fs[k].n with hp | ⟨j, hp, hj, he⟩
  · exfalso
    have : placeN fs[k].n fs 0 < 0 := by show placeI fs fs[k].n < 0; rw [hp]; omega
    exact placeN_no _ _ _ this (List.mem_map.2 ⟨fs[k], List.getElem_mem hk, rfl⟩)
  · rw [hp]
    have hjk : j = k := by
      have h2 : (fs.map (·.n))[j]'(by simpa using hj) = (fs.map (·.n))[k]'(by simpa using hk) := by simpa using he
      have hp2 := List.pairwise_iff_getElem.1 h
      rcases Nat.lt_trichotomy j k with hlt | heq | hgt
      · exact absurd h2 (hp2 j k (by simpa using hj) (by simpa using hk) hlt)
      · exact heq
      · exact absurd h2.symm (hp2 k j (by simpa using hk) (by simpa using hj) hgt)
    rw [hjk]

theorem or_pow (k : Nat) : (2 ^ k - 1) ||| 2 ^ k = 2 ^ (k + 1) - 1 := by
  apply Nat.eq_of_testBit_eq
  intro i
  rw [Nat.testBit_or, Nat.testBit_two_pow_sub_one, Nat.testBit_two_pow_sub_one, Nat.testBit_two_pow]
  by_cases h : k = i
  · subst h; simp
  · by_cases h2 : i < k
    · have : i < k + 1 := by omega
      simp [h2, this]
    · have : ¬ i < k + 1 := by omega
      simp [h, h2, this]
theorem and_pow (k : Nat) : (2 ^ k - 1) &&& 2 ^ k = 0 := by
  apply Nat.eq_of_testBit_eq
  intro i
  rw [Nat.testBit_and, Nat.testBit_two_pow_sub_one, Nat.testBit_two_pow, Nat.zero_testBit]
  by_cases h : k = i
  · subst h; simp
  · simp [h]

theorem mask_one {T : List Cl} (hw : WfT T) (hg : GoodT T) {c : Cl} (hc : c ∈ T) {k : Nat} (hk : k < c.f.length) : maskV T c.n [c.f[k].n] = (2 ^ k, 0) := by
  have hf : fieldsT T c.n = c.f := by unfold fieldsT; rw [find_mem hw hc]
  have hp := placeI_at (hg c hc).2 hk
  have hn : ¬ ((k : Int) < 0) := by omega
  unfold maskV
  rw [hasT_mem.2 ⟨c, hc, rfl⟩, hf]
  simp only [if_true, maskO, hp, if_neg hn]
  simp

theorem mask_upto {fs : List Fl} (h : (fs.map (·.n)).Nodup) : ∀ (j k : Nat), j + k = fs.length → maskO fs ((fs.map (·.n)).drop k) (2 ^ k - 1) = some (2 ^ fs.length - 1)
  | 0, k, e => by
    rw [List.drop_of_length_le (by simp; omega), maskO, show k = fs.length by omega]
  | j + 1, k, e => by
    have hk : k < fs.length := by omega
    have hk' : k < (fs.map (·.n)).length := by simpa using hk
    have hn : ¬ ((k : Int) < 0) := by omega
    rw [maskO_drop hk', List.getElem_map, placeI_at h hk, if_neg hn, Int.toNat_natCast, or_pow]
    exact mask_upto h j (k + 1) (by omega)

theorem mask_all {T : List Cl} (hw : WfT T) (hg : GoodT T) {c : Cl} (hc : c ∈ T) : maskV T c.n (c.f.map (·.n)) = (2 ^ c.f.length - 1, 0) := by
  have hf : fieldsT T c.n = c.f := by unfold fieldsT; rw [find_mem hw hc]
  have := mask_upto (hg c hc).2 c.f.length 0 (by omega)
  unfold maskV
  rw [hasT_mem.2 ⟨c, hc, rfl⟩, hf]
  simp only [List.drop_zero, Nat.pow_zero, Nat.sub_self] at this
  simp only [if_true, this]
end Go.Proofs.Ytbfnlnjnaepiiaa
