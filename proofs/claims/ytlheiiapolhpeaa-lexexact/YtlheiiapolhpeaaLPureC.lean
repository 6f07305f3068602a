/- Between lexemes stand blanks alone; a lexeme, read alone, is itself. -/
import Derived.Test.YtlheiiapolhpeaaLPureB
namespace Go.Proofs.Ytlheiiapolhpeaa
open Go.RowKit

theorem pre2_take {c : UInt8} {r : List UInt8} (h : pre2 (c :: r) = true) : ∃ r', c = 47 ∧ r = 47 :: r' := by
  cases r with
  | nil => cases h
  | cons d r => simp [pre2] at h; exact ⟨r, h.1, by rw [h.2]⟩
theorem blk_take : ∀ (l : List UInt8) (b : Bool), blk b (l.take (blk b l)) = blk b l
  | [], b => by cases b <;> rfl
  | c :: l, true => by
    rw [blk]
    by_cases hc : c = 10
    · rw [if_pos hc, List.take_succ_cons, blk, if_pos hc, blk_take l false]
    · rw [if_neg hc, List.take_succ_cons, blk, if_neg hc, blk_take l true]
  | c :: l, false => by
    rw [blk]
    by_cases hc : isBl c = true
    · rw [if_pos hc, List.take_succ_cons, blk, if_pos hc, blk_take l false]
    · rw [if_neg hc]
      by_cases hp : pre2 (c :: l) = true
      · rw [if_pos hp, List.take_succ_cons, blk, if_neg hc]
        obtain ⟨r', rfl, rfl⟩ := pre2_take hp
        have i := blk_take (47 :: r') true
        rw [if_pos, i]
        rw [blk, if_neg (by decide), List.take_succ_cons]
        rfl
      · rw [if_neg hp]; rfl
theorem blk_drop : ∀ (l : List UInt8) (b : Bool), l.drop (blk b l) ≠ [] → blk false (l.drop (blk b l)) = 0
  | [], b, h => by cases b <;> exact absurd rfl h
  | c :: l, true, h => by
    rw [blk] at h ⊢
    by_cases hc : c = 10
    · rw [if_pos hc, List.drop_succ_cons] at h ⊢; exact blk_drop l false h
    · rw [if_neg hc, List.drop_succ_cons] at h ⊢; exact blk_drop l true h
  | c :: l, false, h => by
    by_cases hc : isBl c = true
    · rw [blk, if_pos hc, List.drop_succ_cons] at h ⊢; exact blk_drop l false h
    · by_cases hp : pre2 (c :: l) = true
      · rw [blk, if_neg hc, if_pos hp, List.drop_succ_cons] at h ⊢; exact blk_drop l true h
      · have h0 : blk false (c :: l) = 0 := by rw [blk, if_neg hc, if_neg hp]
        rw [h0, List.drop_zero, h0]

theorem takeWhile_idem (p : UInt8 → Bool) : ∀ l : List UInt8, (l.takeWhile p).takeWhile p = l.takeWhile p
  | [] => rfl
  | c :: l => by
    cases h : p c with
    | true => rw [List.takeWhile_cons_of_pos h, List.takeWhile_cons_of_pos h, takeWhile_idem p l]
    | false => rw [List.takeWhile_cons_of_neg (by simp [h])]; rfl
theorem take_takeWhile (p : UInt8 → Bool) (l : List UInt8) : l.take (l.takeWhile p).length = l.takeWhile p := (List.prefix_iff_eq_take.1 (List.takeWhile_prefix p)).symm
theorem quo_take : ∀ (l : List UInt8) (p : List UInt8 × Nat), quo l = some p → quo (l.take p.2) = some p
  | [], p, h => by simp [quo] at h
  | [c], p, h => by
    by_cases h1 : c = 34
    · subst h1; rw [quoL_q] at h; cases h; exact quoL_q _
    · rw [quo, if_neg h1] at h; cases h
  | c :: d :: r, p, h => by
    by_cases h1 : c = 34
    · subst h1; rw [quoL_q] at h; cases h; exact quoL_q _
    · by_cases h2 : c < 32
      · rw [quoL_low h2] at h; cases h
      · by_cases h3 : c = 92
        · subst h3
          cases he : escU d with
          | none => rw [quoL_esc_no he] at h; cases h
          | some x =>
            rw [quoL_esc he] at h
            obtain ⟨q, hq, rfl⟩ := Option.map_eq_some_iff.1 h
            simp only [List.take_succ_cons]
            rw [quoL_esc he, quo_take r q hq]; rfl
        · rw [quoL_plain h1 h2 h3] at h
          obtain ⟨q, hq, rfl⟩ := Option.map_eq_some_iff.1 h
          have i := quo_take (d :: r) q hq
          simp only [List.take_succ_cons] at i ⊢
          rw [quoL_plain h1 h2 h3, i]; rfl

theorem take_cons_pos {c : UInt8} {r : List UInt8} {n : Nat} (h : 0 < n) : (c :: r).take n = c :: r.take (n - 1) := by
  obtain ⟨m, rfl⟩ : ∃ m, n = m + 1 := ⟨n - 1, by omega⟩
  rfl
/-- A lexeme read alone. -/
theorem oneL_alone {a : Nat} {c : UInt8} {r : List UInt8} {x : Lx} (h : oneL a (c :: r) = some x) : oneL 0 ((c :: r).take (x.e - a)) = some ⟨x.k, x.t, 0, x.e - a⟩ := by
  have hp := oneL_pos h
  rw [take_cons_pos (by omega)]
  rw [oneL] at h ⊢
  split at h
  · rename_i hc
    rw [if_pos hc]
    cases h
    simp only at hp ⊢
    rw [Nat.add_sub_cancel_left]
    have h1 := takeWhile_pos (r := r) (ch_of_let hc)
    rw [← take_cons_pos h1, take_takeWhile, takeWhile_idem]
    simp
  · rename_i hc
    rw [if_neg hc]
    split at h
    · rename_i hc2
      rw [if_pos hc2]
      cases h
      simp only at hp ⊢
      rw [Nat.add_sub_cancel_left]
      have h1 := takeWhile_pos (r := r) hc2
      rw [← take_cons_pos h1, take_takeWhile, takeWhile_idem]
      simp
    · rename_i hc2
      rw [if_neg hc2]
      split at h
      · rename_i hc3
        rw [if_pos hc3]
        cases r with
        | nil => cases h
        | cons d r =>
          unfold varL at h
          simp only at h
          split at h
          · rename_i hd
            cases h
            simp only
            have h1 := takeWhile_pos (r := r) (ch_of_let hd)
            rw [show a + 1 + ((d :: r).takeWhile isCh).length - a - 1 = ((d :: r).takeWhile isCh).length by omega, take_takeWhile]
            have hdw : (d :: r).takeWhile isCh = d :: r.takeWhile isCh := List.takeWhile_cons_of_pos (ch_of_let hd)
            unfold varL
            rw [hdw]
            simp only
            rw [if_pos hd, ← hdw, takeWhile_idem]
            congr 2
            omega
          · cases h
      · rename_i hc3
        rw [if_neg hc3]
        split at h
        · rename_i hc4
          rw [if_pos hc4]
          unfold quoL at h ⊢
          obtain ⟨q, hq, rfl⟩ := Option.map_eq_some_iff.1 h
          simp only
          rw [show a + 1 + q.2 - a - 1 = q.2 by omega, quo_take _ _ hq]
          simp only [Option.map_some]
          congr 2
          omega
        · rename_i hc4
          rw [if_neg hc4]
          unfold markL at h ⊢
          simp only at h ⊢
          split at h
          · rename_i ht
            cases h
            simp only
            rw [Nat.add_sub_cancel_left]
            cases r with
            | nil => simp [twoL] at ht
            | cons d r =>
              have ht' : twoL (c :: (d :: r).take (2 - 1)) = true := by
                simp [twoL] at ht ⊢; exact ht
              rw [if_pos ht']
              simp
          · split at h
            · rename_i hm
              cases h
              simp only
              rw [Nat.add_sub_cancel_left]
              have ht' : ¬ twoL (c :: r.take (1 - 1)) = true := by simp [twoL]
              rw [if_neg ht', if_pos hm, Nat.zero_add]
            · cases h
theorem alone {a : Nat} {c : UInt8} {r : List UInt8} {x : Lx} (hb : blk false (c :: r) = 0) (h : oneL a (c :: r) = some x) : tells 0 ((c :: r).take (x.e - a)) = [(⟨x.k, x.t, 0, x.e - a⟩, true)] := by
  have hp := oneL_pos h
  have ho := oneL_alone h
  have hb' : blk false ((c :: r).take (x.e - a)) = 0 := by
    rw [take_cons_pos (by omega), blk]
    rw [blk] at hb
    by_cases h1 : isBl c = true
    · rw [if_pos h1] at hb; omega
    · rw [if_neg h1] at hb ⊢
      by_cases h2 : pre2 (c :: r) = true
      · rw [if_pos h2] at hb; omega
      · rw [if_neg]
        intro h3
        obtain ⟨r', rfl, h4⟩ := pre2_take h3
        apply h2
        cases r with
        | nil => simp at h4
        | cons d r =>
          have : d = 47 := by
            have := congrArg List.head? h4
            cases hn : x.e - a - 1 with
            | zero => rw [hn] at this; simp at this
            | succ n => rw [hn] at this; simpa using this
          subst this; rfl
  have e := take_cons_pos (c := c) (r := r) (n := x.e - a) (by omega)
  have := tells_yes (a := 0) (l := (c :: r).take (x.e - a)) (c := c) (r := r.take (x.e - a - 1)) (x := ⟨x.k, x.t, 0, x.e - a⟩) (by rw [hb', List.drop_zero, e]) (by rw [hb', Nat.add_zero, ← e]; exact ho)
  rw [this]
  simp only
  have hnil : ((c :: r).take (x.e - a)).drop (x.e - a - 0) = [] := List.drop_of_length_le (by rw [List.length_take]; omega)
  rw [hnil, tells_end rfl]

theorem tl_extract2 (s : ByteArray) (a b : Nat) : tl (s.extract a b) 0 = (tl s a).take (b - a) := by
  rw [bs_extract, tl_bs]
/-- The next lexeme of a text from place m on, or its end. -/
theorem place_end {s : ByteArray} {m : Nat} (h : tells m (tl s m) = []) : blk false (tl s m) = (tl s m).length := by
  have hle := blk_le false (tl s m)
  cases hd : (tl s m).drop (blk false (tl s m)) with
  | nil =>
    have := congrArg List.length hd
    rw [List.length_drop, List.length_nil] at this; omega
  | cons c r =>
    cases h1 : oneL (m + blk false (tl s m)) (c :: r) with
    | none => rw [tells_no hd h1] at h; cases h
    | some x => rw [tells_yes hd h1] at h; cases h
theorem place_next {s : ByteArray} {m : Nat} (hm : m ≤ s.size) (hs : s.size ≤ 4096) {x : Lx} {T : List (Lx × Bool)} (h : tells m (tl s m) = (x, true) :: T) :
    m ≤ x.a ∧ x.a < x.e ∧ x.e ≤ s.size ∧ blk false (tl (s.extract m x.a) 0) = (s.extract m x.a).size ∧ T = tells x.e (tl s x.e) ∧
    lexF (s.extract x.a x.e) = none ∧ lexT (s.extract x.a x.e) = [⟨x.k, x.t, 0, x.e - x.a⟩] := by
  have hle := blk_le false (tl s m)
  cases hd : (tl s m).drop (blk false (tl s m)) with
  | nil => rw [tells_end hd] at h; cases h
  | cons c r =>
    cases h1 : oneL (m + blk false (tl s m)) (c :: r) with
    | none => rw [tells_no hd h1] at h; cases h
    | some y =>
      rw [tells_yes hd h1] at h
      obtain ⟨e1, e2⟩ := List.cons.inj h
      have e1 := (Prod.mk.inj e1).1
      subst e1
      have hp := oneL_pos h1
      have hlc := congrArg List.length hd
      rw [List.length_drop, List.length_cons, tl_len] at hlc
      rw [List.length_cons] at hp
      obtain ⟨pa, pe, pl⟩ := hp
      have hb0 : blk false (c :: r) = 0 := by rw [← hd]; exact blk_drop _ _ (by rw [hd]; simp)
      have hal := alone hb0 h1
      have hex : tl (s.extract y.a y.e) 0 = (c :: r).take (y.e - (m + blk false (tl s m))) := by
        rw [tl_extract2, pa, ← hd, tl_drop]
      refine ⟨by omega, by omega, by omega, ?_, ?_, ?_, ?_⟩
      · rw [tl_extract2, pa, Nat.add_sub_cancel_left, blk_take, ByteArray.size_extract]; omega
      · rw [← e2, tl_drop]; congr 2; omega
      · rw [lexF, hex, hal]; rfl
      · rw [lexT, hex, hal, pa]; rfl
end Go.Proofs.Ytlheiiapolhpeaa
