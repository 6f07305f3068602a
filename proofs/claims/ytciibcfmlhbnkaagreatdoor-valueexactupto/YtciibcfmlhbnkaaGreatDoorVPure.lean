/- What is encoded is decoded: the pure half. -/
import Derived.Test.YtciibcfmlhbnkaaGreatDoorVDec9
import Derived.Test.YtciibcfmlhbnkaaGreatDoorOrdSame
namespace Go.Proofs.YtciibcfmlhbnkaaGreatDoor
open Go.RowKit

theorem byteAt_nat (m n k : Nat) : byteAt (m : Int) n k = ((m / 2 ^ (8 * (n - 1 - k)) % 256 : Nat) : Int) := by
  unfold byteAt
  simp
theorem word8_succ (m n : Nat) : word8 (m : Int) (n + 1) = word8 ((m / 256 : Nat) : Int) n ++ [UInt8.ofNat m] := by
  unfold word8 wordB
  rw [List.range_succ]
  simp only [List.map_append, List.map_map, List.map_cons, List.map_nil]
  congr 1
  · refine List.map_congr_left fun k hk => ?_
    have hk' := List.mem_range.1 hk
    simp only [Function.comp_apply, byteAt_nat]
    rw [show 8 * (n + 1 - 1 - k) = 8 + 8 * (n - 1 - k) by omega, Nat.pow_add, ← Nat.div_div_eq_div_mul]
  · simp only [byteAt_nat]
    rw [show 8 * (n + 1 - 1 - n) = 0 by omega]
    congr 1
    refine UInt8.toNat_inj.1 ?_
    simp
    omega
theorem wordN_word (n : Nat) : ∀ m : Nat, wordN (word8 (m : Int) n) = m % 256 ^ n := by
  induction n with
  | zero => intro m; simp [word8, wordB, wordN, Nat.mod_one]
  | succ n ih =>
    intro m
    have e : m % 256 ^ (n + 1) = m % 256 + 256 * (m / 256 % 256 ^ n) := by rw [Nat.pow_succ, Nat.mul_comm (256 ^ n) 256, Nat.mod_mul]
    have e2 : (UInt8.ofNat m).toNat = m % 256 := UInt8.toNat_ofNat'
    rw [word8_succ, wordN_snoc, ih, e, e2]
    omega
theorem wordN_4 (m : Nat) (h : m ≤ 65536) : wordN (word8 (m : Int) 4) = m := by
  rw [wordN_word]
  exact Nat.mod_eq_of_lt (by omega)
theorem wordI_8 (i : Int) (h1 : -9223372036854775808 ≤ i) (h2 : i ≤ 9223372036854775807) : wordI (word8 (IntKind.u64.wrap i) 8) = i := by
  have e : IntKind.u64.wrap i = i % 18446744073709551616 := by simp [IntKind.wrap, IntKind.bits, IntKind.signed]
  have e2 : IntKind.u64.wrap i = (((i % 18446744073709551616).toNat : Nat) : Int) := by omega
  rw [e2]
  unfold wordI
  rw [wordN_word, Nat.mod_eq_of_lt (by omega)]
  unfold wrap64
  omega

def ok : Nat → Tr → Prop
  | 0, _ => False
  | n + 1, t => t.wf ∧ ∀ c ∈ t.l, ok n c
theorem Vs.ok {w : World} : ∀ {n : Nat} {t : Tr} {sv : Value}, Vs w n t sv → ok n t
  | 0, _, _, h => h.elim
  | n + 1, t, _, h => by
    refine ⟨h.1, fun c hc => ?_⟩
    obtain ⟨a0, cap, -, -, -, h4⟩ := h.2
    obtain ⟨j, hj, rfl⟩ := List.mem_iff_getElem.1 hc
    obtain ⟨b, o, -, h5⟩ := h4 (by omega)
    obtain ⟨sv', -, h6⟩ := h5 j hj
    exact Vs.ok h6
theorem take_word (W : Int) (n : Nat) (r : List UInt8) : (word8 W n ++ r).take n = word8 W n ∧ (word8 W n ++ r).drop n = r := by
  exact ⟨List.take_left' (word_len W n), List.drop_left' (word_len W n)⟩
theorem lenR_word (most m : Nat) (r : List UInt8) (h1 : m ≤ most) (h2 : m ≤ 65536) (h3 : m ≤ r.length) : lenR most (word8 (m : Int) 4 ++ r) = some (m, r) := by
  obtain ⟨e1, e2⟩ := take_word (m : Int) 4 r
  have hl : (word8 (m : Int) 4 ++ r).length = 4 + r.length := by rw [List.length_append, word_len]
  unfold lenR
  rw [if_neg (by omega), e1, e2, wordN_4 m h2, if_pos ⟨h1, h3⟩]
theorem enc_long : ∀ (n : Nat) (t : Tr), ok n t → 1 ≤ (enc n t).length
  | 0, _, h => h.elim
  | n + 1, t, _ => by rw [enc, List.length_cons]; omega
theorem flat_long {n : Nat} : ∀ (ts : List Tr), (∀ c ∈ ts, ok n c) → ts.length ≤ (ts.flatMap (enc n)).length
  | [], _ => Nat.zero_le _
  | t :: ts, h => by
    rw [List.flatMap_cons, List.length_append, List.length_cons]
    have h1 := enc_long n t (h t (by simp))
    have h2 := flat_long ts (fun c hc => h c (by simp [hc]))
    omega
theorem decL_enc {n room : Nat} (ih : ∀ (t : Tr) (r : List UInt8), ok n t → fit room t = true → dec room (enc n t ++ r) = some (t, r)) : ∀ (ts : List Tr) (r : List UInt8), (∀ c ∈ ts, ok n c) → (∀ c ∈ ts, fit room c = true) → decL (dec room) ts.length (ts.flatMap (enc n) ++ r) = some (ts, r)
  | [], r, _, _ => rfl
  | t :: ts, r, h1, h2 => by
    rw [List.flatMap_cons, List.append_assoc, List.length_cons, decL, ih t _ (h1 t (by simp)) (h2 t (by simp))]
    simp only
    rw [decL_enc ih ts r (fun c hc => h1 c (by simp [hc])) (fun c hc => h2 c (by simp [hc]))]
    rfl
theorem str_nil {s : ByteArray} (h : s.toList.isEmpty = true) : s = ⟨#[]⟩ := by
  have h1 : s.toList = [] := by simpa using h
  have h2 : s.data.toList = [] := by rw [← ByteArray.toList_eq]; exact h1
  cases s with
  | mk d =>
    congr 1
    simpa using h2
theorem list_nil0 {l : List Tr} (h : ((l.length : Int) == 0) = true) : l = [] := by
  have : (l.length : Int) = 0 := by simpa using h
  exact List.eq_nil_of_length_eq_zero (by omega)
theorem dec_enc : ∀ (n : Nat) (room : Nat) (t : Tr) (r : List UInt8), ok n t → fit room t = true → dec room (enc n t ++ r) = some (t, r)
  | 0, _, _, _, h, _ => h.elim
  | n + 1, room, ⟨k, b, i, s, l⟩, r, h, hf => by
    obtain ⟨hwf, hl⟩ := h
    have hk := fit_kind hf
    simp only at hk
    rw [enc, List.cons_append, dec.eq_def]
    dsimp only
    rcases hk with rfl | rfl | rfl | rfl | rfl | rfl
    · rw [fit_flat room _ (by simp)] at hf
      simp only [flat, if_true, Bool.and_eq_true] at hf
      obtain ⟨⟨⟨hb, hi⟩, hs⟩, hl0⟩ := hf
      obtain rfl := str_nil hs
      obtain rfl := list_nil0 hl0
      obtain rfl : b = false := by simpa using hb
      obtain rfl : i = 0 := by simpa using hi
      simp [zeroT]
    · rw [fit_flat room _ (by simp)] at hf
      simp only [flat, show ¬ (1 : Int) = 0 from by decide, if_false, if_true, Bool.and_eq_true] at hf
      obtain ⟨⟨hi, hs⟩, hl0⟩ := hf
      obtain rfl := str_nil hs
      obtain rfl := list_nil0 hl0
      obtain rfl : i = 0 := by simpa using hi
      cases b <;> simp [zeroT, bitU]
    · rw [fit_flat room _ (by simp)] at hf
      simp only [flat, show ¬ (2 : Int) = 0 from by decide, show ¬ (2 : Int) = 1 from by decide, if_false, if_true, Bool.and_eq_true] at hf
      obtain ⟨⟨hb, hs⟩, hl0⟩ := hf
      obtain rfl := str_nil hs
      obtain rfl := list_nil0 hl0
      obtain rfl : b = false := by simpa using hb
      have h1 := wordI_8 i hwf.2.2.1 hwf.2.2.2.1
      obtain ⟨e1, e2⟩ := take_word (IntKind.u64.wrap i) 8 r
      have hlen : ¬ (word8 (IntKind.u64.wrap i) 8 ++ r).length < 8 := by rw [List.length_append, word_len]; omega
      simp only [show (UInt8.ofNat (Int.toNat 2)).toNat = 2 from rfl, show ¬ (2 : Nat) = 0 from by decide, show ¬ (2 : Nat) = 1 from by decide, show ¬ (2 : Int) = 1 from by decide, true_or, if_false, if_true, hlen, e1, e2, h1]
      rfl
    · rw [fit_flat room _ (by simp)] at hf
      simp only [flat, show ¬ (3 : Int) = 0 from by decide, show ¬ (3 : Int) = 1 from by decide, show ¬ (3 : Int) = 2 from by decide, if_false, if_true, Bool.and_eq_true, decide_eq_true_eq] at hf
      obtain ⟨⟨⟨hs, hb⟩, hi⟩, hl0⟩ := hf
      obtain rfl := list_nil0 hl0
      obtain rfl : b = false := by simpa using hb
      obtain rfl : i = 0 := by simpa using hi
      have hz : s.data.toList.length = s.size := Array.length_toList
      have hln := lenR_word 65536 s.size (s.data.toList ++ r) (by omega) (by omega) (by rw [List.length_append, hz]; omega)
      simp only [show (UInt8.ofNat (Int.toNat 3)).toNat = 3 from rfl, show ¬ (3 : Nat) = 0 from by decide, show ¬ (3 : Nat) = 1 from by decide, show ¬ (3 : Nat) = 2 from by decide, show ¬ (3 : Nat) = 5 from by decide, show ¬ (3 : Int) = 1 from by decide, show ¬ ((3 : Int) = 2 ∨ (3 : Int) = 5) from by decide, if_false, if_true, List.append_assoc, hln]
      rw [List.take_left' hz, List.drop_left' hz]
      simp [zeroT]
    · obtain ⟨q, rfl, hlen, hfit, rfl, rfl, hs⟩ := fit_list hf rfl
      dsimp only at hlen hfit hs
      obtain rfl := str_nil hs
      have hln := lenR_word 4096 l.length (l.flatMap (enc n) ++ r) hlen (by omega) (by rw [List.length_append]; have := flat_long l hl; omega)
      have hd := decL_enc (room := q) (fun t r h1 h2 => dec_enc n q t r h1 h2) l r hl hfit
      simp only [show (UInt8.ofNat (Int.toNat 4)).toNat = 4 from rfl, show ¬ (4 : Nat) = 0 from by decide, show ¬ (4 : Nat) = 1 from by decide, show ¬ (4 : Nat) = 2 from by decide, show ¬ (4 : Nat) = 5 from by decide, show ¬ (4 : Nat) = 3 from by decide, show ¬ (4 : Int) = 1 from by decide, show ¬ ((4 : Int) = 2 ∨ (4 : Int) = 5) from by decide, show ¬ (4 : Int) = 3 from by decide, if_false, if_true, List.append_assoc, hln, hd]
      rfl
    · rw [fit_flat room _ (by simp)] at hf
      simp only [flat, show ¬ (5 : Int) = 0 from by decide, show ¬ (5 : Int) = 1 from by decide, show ¬ (5 : Int) = 2 from by decide, show ¬ (5 : Int) = 3 from by decide, if_false, if_true, Bool.and_eq_true, decide_eq_true_eq] at hf
      obtain ⟨⟨⟨hi, hb⟩, hs⟩, hl0⟩ := hf
      obtain rfl := str_nil hs
      obtain rfl := list_nil0 hl0
      obtain rfl : b = false := by simpa using hb
      have h1 := wordI_8 i hwf.2.2.1 hwf.2.2.2.1
      obtain ⟨e1, e2⟩ := take_word (IntKind.u64.wrap i) 8 r
      have hlen : ¬ (word8 (IntKind.u64.wrap i) 8 ++ r).length < 8 := by rw [List.length_append, word_len]; omega
      simp only [show (UInt8.ofNat (Int.toNat 5)).toNat = 5 from rfl, show ¬ (5 : Nat) = 0 from by decide, show ¬ (5 : Nat) = 1 from by decide, show ¬ (5 : Nat) = 2 from by decide, show ¬ (5 : Int) = 1 from by decide, or_true, if_false, if_true, hlen, e1, e2, h1, hi]
      rfl
/-- What stands behind is not looked at. -/
theorem lenR_app {most : Nat} {l z : List UInt8} {m : Nat} {r : List UInt8} (h : lenR most l = some (m, r)) : lenR most (l ++ z) = some (m, r ++ z) := by
  unfold lenR at h ⊢
  split at h
  · cases h
  · next h4 =>
    split at h
    · next hc =>
      cases h
      rw [if_neg (by rw [List.length_append]; omega), List.take_append_of_le_length (by omega), List.drop_append_of_le_length (by omega), if_pos ⟨hc.1, by rw [List.length_append]; omega⟩]
    · cases h
theorem decL_app {D : List UInt8 → Option (Tr × List UInt8)} (hD : ∀ l z t r, D l = some (t, r) → D (l ++ z) = some (t, r ++ z)) : ∀ (m : Nat) (l z : List UInt8) (ts : List Tr) (r : List UInt8), decL D m l = some (ts, r) → decL D m (l ++ z) = some (ts, r ++ z)
  | 0, l, z, ts, r, h => by cases h; rfl
  | m + 1, l, z, ts, r, h => by
    rw [decL] at h ⊢
    cases hd : D l with
    | none => rw [hd] at h; cases h
    | some x =>
      rw [hd] at h
      rw [hD l z x.1 x.2 hd]
      obtain ⟨y, hy, e⟩ := Option.map_eq_some_iff.1 h
      cases e
      simp only
      rw [decL_app hD m x.2 z y.1 y.2 hy]
      rfl
theorem dec_app : ∀ (room : Nat) (l z : List UInt8) (t : Tr) (r : List UInt8), dec room l = some (t, r) → dec room (l ++ z) = some (t, r ++ z)
  | room, [], z, t, r, h => by rw [dec] at h; cases h
  | room, c :: l, z, t, r, h => by
    rw [dec.eq_def] at h
    rw [List.cons_append, dec.eq_def]
    dsimp only at h ⊢
    split at h
    · next h0 => cases h; rw [if_pos h0]
    next h0 =>
    rw [if_neg h0]
    split at h
    · next h1 =>
      rw [if_pos h1]
      split at h
      · cases h
      · split at h
        · next hd => cases h; simp only [List.cons_append]; rw [if_pos hd]
        · cases h
    next h1 =>
    rw [if_neg h1]
    split at h
    · next h2 =>
      rw [if_pos h2]
      split at h
      · cases h
      · next h8 => cases h; rw [if_neg (by rw [List.length_append]; omega), List.take_append_of_le_length (by omega), List.drop_append_of_le_length (by omega)]
    next h2 =>
    rw [if_neg h2]
    split at h
    · next h5 =>
      rw [if_pos h5]
      split at h
      · cases h
      · next h8 =>
        rw [if_neg (by rw [List.length_append]; omega), List.take_append_of_le_length (by omega), List.drop_append_of_le_length (by omega)]
        split at h
        · next hi => cases h; rw [if_pos hi]
        · cases h
    next h5 =>
    rw [if_neg h5]
    split at h
    · next h3 =>
      rw [if_pos h3]
      split at h
      · cases h
      · next x hx =>
        cases h
        have hm := (lenR_le (m := x.1) (r := x.2) hx).2.1
        rw [lenR_app (m := x.1) (r := x.2) hx]
        simp only
        rw [List.take_append_of_le_length hm, List.drop_append_of_le_length hm]
    next h3 =>
    rw [if_neg h3]
    split at h
    · next h4 =>
      rw [if_pos h4]
      cases room with
      | zero => cases h
      | succ q =>
        simp only at h ⊢
        split at h
        · cases h
        · next x hx =>
          rw [lenR_app (m := x.1) (r := x.2) hx]
          obtain ⟨y, hy, e⟩ := Option.map_eq_some_iff.1 h
          cases e
          simp only
          rw [decL_app (dec_app q) _ _ z _ _ hy]
          rfl
    · cases h
/-- A byte less: it is no value's bytes. -/
theorem dec_less {room : Nat} {l : List UInt8} {t : Tr} (hl : l ≠ []) (h : dec room l = some (t, [])) : ∀ t', dec room l.dropLast ≠ some (t', []) := by
  intro t' h'
  have := dec_app room _ [l.getLast hl] t' [] h'
  rw [List.dropLast_concat_getLast hl, h] at this
  cases this
end Go.Proofs.YtciibcfmlhbnkaaGreatDoor
