/- Unlike values have unlike texts: the pure half. -/
import Derived.Test.YtciibcfmlhbnkaaGreatDoorTTxt
import Derived.Test.YtciibcfmlhbnkaaGreatDoorOrdSame
import Derived.Lib.ItoaNum
namespace Go.Proofs.YtciibcfmlhbnkaaGreatDoor
open Go.RowKit

theorem dec_all (u : Nat) : ∀ c ∈ Lib.decDigits u, 48 ≤ c.toNat ∧ c.toNat ≤ 57 := by
  induction u using Nat.strongRecOn with
  | ind u ih =>
    intro c hc
    rw [Lib.decDigits] at hc
    split at hc
    · have : c = UInt8.ofNat (48 + u) := by simpa using hc
      rw [this, UInt8.toNat_ofNat']; omega
    · next h =>
      rcases List.mem_append.1 hc with hc | hc
      · exact ih (u / 10) (by omega) c hc
      · have : c = UInt8.ofNat (48 + u % 10) := by simpa using hc
        rw [this, UInt8.toNat_ofNat']; omega
def dval (l : List UInt8) : Nat := l.foldl (fun a c => a * 10 + (c.toNat - 48)) 0
theorem dval_snoc (l : List UInt8) (c : UInt8) : dval (l ++ [c]) = dval l * 10 + (c.toNat - 48) := by simp [dval]
theorem dval_dec (u : Nat) : dval (Lib.decDigits u) = u := by
  induction u using Nat.strongRecOn with
  | ind u ih =>
    rw [Lib.decDigits]
    split
    · simp only [dval, List.foldl_cons, List.foldl_nil, UInt8.toNat_ofNat']; omega
    · rw [dval_snoc, ih (u / 10) (by omega), UInt8.toNat_ofNat']; omega
theorem dec_inj {a b : Nat} (h : Lib.decDigits a = Lib.decDigits b) : a = b := by rw [← dval_dec a, h, dval_dec]
theorem dec_cons (u : Nat) : ∃ c r, Lib.decDigits u = c :: r ∧ 48 ≤ c.toNat ∧ c.toNat ≤ 57 := by
  cases h : Lib.decDigits u with
  | nil =>
    exfalso
    rw [Lib.decDigits] at h
    split at h <;> simp at h
  | cons c r => exact ⟨c, r, rfl, dec_all u c (by rw [h]; simp)⟩
theorem itoa_cons (i : Int) : ∃ c r, Lib.itoa i = c :: r ∧ (c = 45 ∨ 48 ≤ c.toNat ∧ c.toNat ≤ 57) := by
  unfold Lib.itoa
  split
  · exact ⟨45, _, rfl, .inl rfl⟩
  · obtain ⟨c, r, h, h1⟩ := dec_cons i.toNat
    exact ⟨c, r, h, .inr h1⟩
theorem itoa_all (i : Int) : ∀ c ∈ Lib.itoa i, c = 45 ∨ 48 ≤ c.toNat ∧ c.toNat ≤ 57 := by
  unfold Lib.itoa
  split
  · intro c hc
    rcases List.mem_cons.1 hc with rfl | hc
    · exact .inl rfl
    · exact .inr (dec_all _ c hc)
  · exact fun c hc => .inr (dec_all _ c hc)
theorem itoa_inj {i j : Int} (h : Lib.itoa i = Lib.itoa j) : i = j := by
  unfold Lib.itoa at h
  split at h <;> split at h
  · have := dec_inj (List.cons.inj h).2; omega
  · obtain ⟨c, r, e, h1, h2⟩ := dec_cons j.toNat
    rw [e] at h
    have := (List.cons.inj h).1
    rw [← this] at h1
    exact absurd h1 (by decide)
  · obtain ⟨c, r, e, h1, h2⟩ := dec_cons i.toNat
    rw [e] at h
    have := (List.cons.inj h).1
    rw [this] at h1
    exact absurd h1 (by decide)
  · have := dec_inj h; omega
/-- What may stand behind a value in a list. -/
def Stop (x : List UInt8) : Prop := ∀ c r, x = c :: r → c = 44 ∨ c = 93
theorem split_by {p : UInt8 → Prop} : ∀ (l l' x y : List UInt8), (∀ c ∈ l, p c) → (∀ c ∈ l', p c) → (∀ c r, x = c :: r → ¬ p c) → (∀ c r, y = c :: r → ¬ p c) → l ++ x = l' ++ y → l = l' ∧ x = y
  | [], [], _, _, _, _, _, _, h => ⟨rfl, h⟩
  | [], c :: l', x, y, _, h2, h3, _, h => absurd (h2 c (by simp)) (h3 c _ h)
  | c :: l, [], x, y, h1, _, _, h4, h => absurd (h1 c (by simp)) (h4 c _ h.symm)
  | c :: l, c' :: l', x, y, h1, h2, h3, h4, h => by
    obtain ⟨e0, h5⟩ := List.cons.inj h
    subst e0
    obtain ⟨e, e2⟩ := split_by l l' x y (fun d hd => h1 d (by simp [hd])) (fun d hd => h2 d (by simp [hd])) h3 h4 h5
    exact ⟨by rw [e], e2⟩
theorem itoa_split {i j : Int} {x y : List UInt8} (hx : Stop x) (hy : Stop y) (h : Lib.itoa i ++ x = Lib.itoa j ++ y) : i = j ∧ x = y := by
  have hs : ∀ z, Stop z → ∀ c r, z = c :: r → ¬ (c = 45 ∨ 48 ≤ c.toNat ∧ c.toNat ≤ 57) := fun z hz c r e => by
    rcases hz c r e with rfl | rfl <;> decide
  obtain ⟨e, e2⟩ := split_by _ _ x y (itoa_all i) (itoa_all j) (hs x hx) (hs y hy) h
  exact ⟨itoa_inj e, e2⟩
theorem qb_split {c d : UInt8} {A B : List UInt8} (h : qb c ++ A = qb d ++ B) : c = d ∧ A = B := by
  unfold qb at h
  by_cases c1 : c = 34 ∨ c = 92
  · rw [if_pos c1] at h
    by_cases d1 : d = 34 ∨ d = 92
    · rw [if_pos d1] at h; simpa using h
    rw [if_neg d1] at h
    by_cases d2 : d = 10
    · rw [if_pos d2] at h; simp at h; rcases c1 with rfl | rfl <;> simp at h
    rw [if_neg d2] at h
    by_cases d3 : d = 9
    · rw [if_pos d3] at h; simp at h; rcases c1 with rfl | rfl <;> simp at h
    rw [if_neg d3] at h; simp at h; exact absurd (Or.inr h.1.symm) d1
  rw [if_neg c1] at h
  by_cases c2 : c = 10
  · rw [if_pos c2] at h
    by_cases d1 : d = 34 ∨ d = 92
    · rw [if_pos d1] at h; simp at h; rcases d1 with rfl | rfl <;> simp at h
    rw [if_neg d1] at h
    by_cases d2 : d = 10
    · rw [if_pos d2] at h; simp at h; exact ⟨by rw [c2, d2], h⟩
    rw [if_neg d2] at h
    by_cases d3 : d = 9
    · rw [if_pos d3] at h; simp at h
    rw [if_neg d3] at h; simp at h; exact absurd (Or.inr h.1.symm) d1
  rw [if_neg c2] at h
  by_cases c3 : c = 9
  · rw [if_pos c3] at h
    by_cases d1 : d = 34 ∨ d = 92
    · rw [if_pos d1] at h; simp at h; rcases d1 with rfl | rfl <;> simp at h
    rw [if_neg d1] at h
    by_cases d2 : d = 10
    · rw [if_pos d2] at h; simp at h
    rw [if_neg d2] at h
    by_cases d3 : d = 9
    · rw [if_pos d3] at h; simp at h; exact ⟨by rw [c3, d3], h⟩
    rw [if_neg d3] at h; simp at h; exact absurd (Or.inr h.1.symm) d1
  rw [if_neg c3] at h
  by_cases d1 : d = 34 ∨ d = 92
  · rw [if_pos d1] at h; simp at h; exact absurd (Or.inr h.1) c1
  rw [if_neg d1] at h
  by_cases d2 : d = 10
  · rw [if_pos d2] at h; simp at h; exact absurd (Or.inr h.1) c1
  rw [if_neg d2] at h
  by_cases d3 : d = 9
  · rw [if_pos d3] at h; simp at h; exact absurd (Or.inr h.1) c1
  rw [if_neg d3] at h
  simpa using h
theorem qb_cons (c : UInt8) : ∃ d r, qb c = d :: r ∧ d ≠ 34 := by
  unfold qb
  split
  · exact ⟨_, _, rfl, by decide⟩
  split
  · exact ⟨_, _, rfl, by decide⟩
  split
  · exact ⟨_, _, rfl, by decide⟩
  · next h _ _ => exact ⟨_, _, rfl, fun e => h (.inl e)⟩
theorem qfl_split : ∀ (l l' x y : List UInt8), l.flatMap qb ++ 34 :: x = l'.flatMap qb ++ 34 :: y → l = l' ∧ x = y
  | [], [], _, _, h => ⟨rfl, (List.cons.inj h).2⟩
  | [], c :: l', x, y, h => by
    obtain ⟨d, r, e, hd⟩ := qb_cons c
    rw [List.flatMap_cons, e] at h
    exact absurd (List.cons.inj h).1.symm hd
  | c :: l, [], x, y, h => by
    obtain ⟨d, r, e, hd⟩ := qb_cons c
    rw [List.flatMap_cons, e] at h
    exact absurd (List.cons.inj h).1 hd
  | c :: l, c' :: l', x, y, h => by
    rw [List.flatMap_cons, List.flatMap_cons, List.append_assoc, List.append_assoc] at h
    obtain ⟨e0, h5⟩ := qb_split h
    obtain ⟨e1, h6⟩ := qfl_split l l' x y h5
    exact ⟨by rw [e0, e1], h6⟩
theorem quo_split {l l' x y : List UInt8} (h : quoB l ++ x = quoB l' ++ y) : l = l' ∧ x = y := by
  simp only [quoB, List.cons_append, List.append_assoc, List.nil_append, List.cons.injEq, true_and] at h
  exact qfl_split l l' x y h
/-- The kind that a text's first byte tells. -/
def cls (c : UInt8) : Int := if c = 110 then 0 else if c = 116 ∨ c = 102 then 1 else if c = 34 then 3 else if c = 35 then 5 else if c = 91 then 4 else if c = 93 then 6 else 2
theorem txt_cons (n r : Nat) (t : Tr) (hf : fit r t = true) : ∃ c l, txt (n + 1) t = c :: l ∧ cls c = t.k ∧ c ≠ 93 := by
  have hk := fit_kind hf
  obtain ⟨k, b, i, s, l⟩ := t
  simp only at hk
  have hit : ∀ j, ∃ c l, Lib.itoa j = c :: l ∧ cls c = 2 ∧ c ≠ 93 := fun j => by
    obtain ⟨c, l, h, h1⟩ := itoa_cons j
    refine ⟨c, l, h, ?_, ?_⟩
    · have hne : ∀ d : UInt8, ¬ (d = 45 ∨ 48 ≤ d.toNat ∧ d.toNat ≤ 57) → c ≠ d := fun d hd e => hd (e ▸ h1)
      unfold cls
      rw [if_neg (hne 110 (by decide)), if_neg (by rintro (e | e); exact hne 116 (by decide) e; exact hne 102 (by decide) e), if_neg (hne 34 (by decide)), if_neg (hne 35 (by decide)), if_neg (hne 91 (by decide)), if_neg (hne 93 (by decide))]
    · rintro rfl; revert h1; decide
  rcases hk with rfl | rfl | rfl | rfl | rfl | rfl
  · exact ⟨110, _, rfl, show cls 110 = (0 : Int) by decide, by decide⟩
  · cases b
    · exact ⟨102, _, rfl, show cls 102 = (1 : Int) by decide, by decide⟩
    · exact ⟨116, _, rfl, show cls 116 = (1 : Int) by decide, by decide⟩
  · exact hit i
  · exact ⟨34, _, rfl, show cls 34 = (3 : Int) by decide, by decide⟩
  · exact ⟨91, _, rfl, show cls 91 = (4 : Int) by decide, by decide⟩
  · exact ⟨35, _, rfl, show cls 35 = (5 : Int) by decide, by decide⟩

theorem bytes_empty {s : ByteArray} (h : s.toList.isEmpty = true) : s = ⟨#[]⟩ := by
  rw [ByteArray.toList_eq] at h
  cases s
  simp at h
  rw [h]
theorem fit_0 {r : Nat} {b : Bool} {i : Int} {s : ByteArray} {l : List Tr} (h : fit r ⟨0, b, i, s, l⟩ = true) : b = false ∧ i = 0 ∧ s = ⟨#[]⟩ ∧ l = [] := by
  rw [fit_flat r _ (by simp)] at h
  simp [flat] at h
  exact ⟨h.1.1.1, h.1.1.2, bytes_empty (by simpa using h.1.2), h.2⟩
theorem fit_1 {r : Nat} {b : Bool} {i : Int} {s : ByteArray} {l : List Tr} (h : fit r ⟨1, b, i, s, l⟩ = true) : i = 0 ∧ s = ⟨#[]⟩ ∧ l = [] := by
  rw [fit_flat r _ (by simp)] at h
  simp [flat] at h
  exact ⟨h.1.1, bytes_empty (by simpa using h.1.2), h.2⟩
theorem fit_2 {r : Nat} {b : Bool} {i : Int} {s : ByteArray} {l : List Tr} (h : fit r ⟨2, b, i, s, l⟩ = true) : b = false ∧ s = ⟨#[]⟩ ∧ l = [] := by
  rw [fit_flat r _ (by simp)] at h
  simp [flat] at h
  exact ⟨h.1.1, bytes_empty (by simpa using h.1.2), h.2⟩
theorem fit_3 {r : Nat} {b : Bool} {i : Int} {s : ByteArray} {l : List Tr} (h : fit r ⟨3, b, i, s, l⟩ = true) : b = false ∧ i = 0 ∧ l = [] := by
  rw [fit_flat r _ (by simp)] at h
  simp [flat] at h
  exact ⟨h.1.1.2, h.1.2, h.2⟩
theorem fit_5 {r : Nat} {b : Bool} {i : Int} {s : ByteArray} {l : List Tr} (h : fit r ⟨5, b, i, s, l⟩ = true) : b = false ∧ s = ⟨#[]⟩ ∧ l = [] := by
  rw [fit_flat r _ (by simp)] at h
  simp [flat] at h
  exact ⟨h.1.1.2, bytes_empty (by simpa using h.1.2), h.2⟩
/-- Of two values that may be, each with something behind it that stops it, the texts tell which they are. -/
def Spl (n : Nat) : Prop := ∀ (r r' : Nat) (t t' : Tr) (x y : List UInt8), dep n t → dep n t' → fit r t = true → fit r' t' = true → Stop x → Stop y → txt n t ++ x = txt n t' ++ y → t = t' ∧ x = y
theorem stop_c (z : List UInt8) : Stop (44 :: z) := fun c r e => by cases e; exact .inl rfl
theorem stop_b (z : List UInt8) : Stop (93 :: z) := fun c r e => by cases e; exact .inr rfl
theorem tail_stop {f : Tr → List UInt8} (l : List Tr) (x : List UInt8) : Stop ((l.flatMap fun t => 44 :: 32 :: f t) ++ 93 :: x) := by
  cases l with
  | nil => exact stop_b x
  | cons t l => exact stop_c _
theorem tail_split {n r r' : Nat} (ih : Spl n) : ∀ (l l' : List Tr) (x y : List UInt8), (∀ t ∈ l, dep n t ∧ fit r t = true) → (∀ t ∈ l', dep n t ∧ fit r' t = true) →
    (l.flatMap fun t => 44 :: 32 :: txt n t) ++ 93 :: x = (l'.flatMap fun t => 44 :: 32 :: txt n t) ++ 93 :: y → l = l' ∧ x = y
  | [], [], _, _, _, _, h => ⟨rfl, (List.cons.inj h).2⟩
  | [], t' :: l', x, y, _, _, h => absurd (List.cons.inj h).1 (by decide)
  | t :: l, [], x, y, _, _, h => absurd (List.cons.inj h).1 (by decide)
  | t :: l, t' :: l', x, y, h1, h2, h => by
    simp only [List.flatMap_cons, List.cons_append, List.append_assoc, List.cons.injEq, true_and] at h
    obtain ⟨e, h3⟩ := ih r r' t t' _ _ (h1 t (by simp)).1 (h2 t' (by simp)).1 (h1 t (by simp)).2 (h2 t' (by simp)).2 (tail_stop l x) (tail_stop l' y) h
    obtain ⟨e2, h4⟩ := tail_split ih l l' x y (fun u hu => h1 u (by simp [hu])) (fun u hu => h2 u (by simp [hu])) h3
    exact ⟨by rw [e, e2], h4⟩
theorem sep_tail (n : Nat) (t : Tr) (l : List Tr) : sepB ((t :: l).map (txt n)) = txt n t ++ l.flatMap fun u => 44 :: 32 :: txt n u := by
  simp [sepB, List.flatMap_map]
theorem spl : ∀ n, Spl n
  | 0 => fun _ _ _ _ _ _ h => h.elim
  | n + 1 => by
    intro r r' t t' x y hd hd' hf hf' hx hy h
    have hkk : t.k = t'.k := by
      obtain ⟨c, l, e, e1, -⟩ := txt_cons n r t hf
      obtain ⟨c', l', e', e1', -⟩ := txt_cons n r' t' hf'
      rw [e, e'] at h
      have := (List.cons.inj h).1
      rw [← e1, ← e1', this]
    have hk := fit_kind hf
    obtain ⟨k, b, i, s, l⟩ := t
    obtain ⟨k', b', i', s', l'⟩ := t'
    simp only at hk hkk
    subst hkk
    rcases hk with rfl | rfl | rfl | rfl | rfl | rfl
    · obtain ⟨rfl, rfl, rfl, rfl⟩ := fit_0 hf
      obtain ⟨rfl, rfl, rfl, rfl⟩ := fit_0 hf'
      exact ⟨rfl, List.append_cancel_left h⟩
    · obtain ⟨rfl, rfl, rfl⟩ := fit_1 hf
      obtain ⟨rfl, rfl, rfl⟩ := fit_1 hf'
      cases b <;> cases b'
      · exact ⟨rfl, List.append_cancel_left h⟩
      · exact absurd (List.cons.inj h).1 (by decide)
      · exact absurd (List.cons.inj h).1 (by decide)
      · exact ⟨rfl, List.append_cancel_left h⟩
    · obtain ⟨rfl, rfl, rfl⟩ := fit_2 hf
      obtain ⟨rfl, rfl, rfl⟩ := fit_2 hf'
      obtain ⟨e, e2⟩ := itoa_split (i := i) (j := i') hx hy h
      exact ⟨by rw [e], e2⟩
    · obtain ⟨rfl, rfl, rfl⟩ := fit_3 hf
      obtain ⟨rfl, rfl, rfl⟩ := fit_3 hf'
      obtain ⟨e, e2⟩ := quo_split (l := s.data.toList) (l' := s'.data.toList) h
      refine ⟨?_, e2⟩
      have : s = s' := by
        cases s; cases s'
        congr 1
        exact Array.toList_inj.1 e
      rw [this]
    · obtain ⟨q, rfl, -, hfit, rfl, rfl, hs⟩ := fit_list hf rfl
      obtain ⟨q', rfl, -, hfit', rfl, rfl, hs'⟩ := fit_list hf' rfl
      obtain rfl := bytes_empty hs
      obtain rfl := bytes_empty hs'
      have e1 : ∀ L : List Tr, txt (n + 1) ⟨4, false, 0, ⟨#[]⟩, L⟩ = 91 :: (sepB (L.map (txt n)) ++ [93]) := fun L => by simp [txt]
      rw [e1, e1] at h
      simp only [List.cons_append, List.append_assoc, List.nil_append, List.cons.injEq, true_and] at h
      have key : l = l' ∧ x = y := by
        cases l with
        | nil =>
          cases l' with
          | nil => exact ⟨rfl, (List.cons.inj h).2⟩
          | cons t' l' =>
            exfalso
            rw [sep_tail] at h
            cases n with
            | zero => exact hd' t' (by simp)
            | succ n =>
              obtain ⟨c, z, e, -, hc⟩ := txt_cons n q' t' (hfit' t' (by simp))
              rw [e] at h
              exact hc (List.cons.inj h).1.symm
        | cons t l =>
          cases l' with
          | nil =>
            exfalso
            rw [sep_tail] at h
            cases n with
            | zero => exact hd t (by simp)
            | succ n =>
              obtain ⟨c, z, e, -, hc⟩ := txt_cons n q t (hfit t (by simp))
              rw [e] at h
              exact hc (List.cons.inj h).1
          | cons t' l' =>
            rw [sep_tail, sep_tail, List.append_assoc, List.append_assoc] at h
            obtain ⟨e, h3⟩ := spl n q q' t t' _ _ (hd t (by simp)) (hd' t' (by simp)) (hfit t (by simp)) (hfit' t' (by simp)) (tail_stop l x) (tail_stop l' y) h
            obtain ⟨e2, h4⟩ := tail_split (r := q) (r' := q') (spl n) l l' x y (fun u hu => ⟨hd u (by simp [hu]), hfit u (by simp [hu])⟩) (fun u hu => ⟨hd' u (by simp [hu]), hfit' u (by simp [hu])⟩) h3
            exact ⟨by rw [e, e2], h4⟩
      exact ⟨by rw [key.1], key.2⟩
    · obtain ⟨rfl, rfl, rfl⟩ := fit_5 hf
      obtain ⟨rfl, rfl, rfl⟩ := fit_5 hf'
      have h2 := (List.cons.inj h).2
      obtain ⟨e, e2⟩ := itoa_split (i := i) (j := i') hx hy h2
      exact ⟨by rw [e], e2⟩
theorem txt_inj {n r r' : Nat} {t t' : Tr} (hd : dep n t) (hd' : dep n t') (hf : fit r t = true) (hf' : fit r' t' = true) (h : txt n t = txt n t') : t = t' :=
  (spl n r r' t t' [] [] hd hd' hf hf' (fun _ _ e => by cases e) (fun _ _ e => by cases e) (by rw [h])).1
end Go.Proofs.YtciibcfmlhbnkaaGreatDoor
