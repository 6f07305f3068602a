import Derived.Test.YtoeodjobggodcaaGreatDoorJoin17
import Derived.Test.YtoeodjobggodcaaGreatDoorJoin01
import Derived.Test.YtoeodjobggodcaaGreatDoorJoin15
import Derived.Test.YtoeodjobggodcaaGreatDoorJoin16
import Derived.BigQuiet
/- Between lexemes stand blanks alone; a lexeme, read alone, is itself. -/
namespace Go.Proofs.YtoeodjobggodcaaGreatDoor
section
open Go.RowKit
theorem pre2_take {c : UInt8} {r : List UInt8} (h : pre2 (c :: r) = true) : ∃ r', c = 47 ∧ r = 47 :: r' := by
 cases r with
 | nil => cases h
 | cons d r => simp [pre2] at h; exact ⟨r, h.1, by rw [h.2]⟩
theorem blk_take : ∀ (l : List UInt8) (b : Bool), blk b (l.take (blk b l)) = blk b l
 | [], b => by cases b <;> rfl
 | c :: l, true => by
  rw [blk]
  by_cases hc : c = 10
  ·rw [if_pos hc, List.take_succ_cons, blk, if_pos hc, blk_take l false]
  ·rw [if_neg hc, List.take_succ_cons, blk, if_neg hc, blk_take l true]
 | c :: l, false => by
  rw [blk]
  by_cases hc : isBl c = true
  ·rw [if_pos hc, List.take_succ_cons, blk, if_pos hc, blk_take l false]
  ·rw [if_neg hc]
   by_cases hp : pre2 (c :: l) = true
   ·rw [if_pos hp, List.take_succ_cons, blk, if_neg hc]
    obtain ⟨r', rfl, rfl⟩ := pre2_take hp
    have i := blk_take (47 :: r') true
    rw [if_pos, i]
    rw [blk, if_neg (by decide), List.take_succ_cons]
    rfl
   ·rw [if_neg hp]; rfl
theorem blk_drop : ∀ (l : List UInt8) (b : Bool), l.drop (blk b l) ≠ [] → blk false (l.drop (blk b l)) = 0
 | [], b, h => by cases b <;> exact absurd rfl h
 | c :: l, true, h => by
  rw [blk] at h ⊢
  by_cases hc : c = 10
  ·rw [if_pos hc, List.drop_succ_cons] at h ⊢; exact blk_drop l false h
  ·rw [if_neg hc, List.drop_succ_cons] at h ⊢; exact blk_drop l true h
 | c :: l, false, h => by
  by_cases hc : isBl c = true
  ·rw [blk, if_pos hc, List.drop_succ_cons] at h ⊢; exact blk_drop l false h
  ·by_cases hp : pre2 (c :: l) = true
   ·rw [blk, if_neg hc, if_pos hp, List.drop_succ_cons] at h ⊢; exact blk_drop l true h
   ·have h0 : blk false (c :: l) = 0 := by rw [blk, if_neg hc, if_neg hp]
    rw [h0, List.drop_zero, h0]
theorem takeWhile_idem (p : UInt8 → Bool) : ∀ l : List UInt8, (l.takeWhile p).takeWhile p = l.takeWhile p
 | [] => rfl
 | c :: l => by
  cases h : p c with
  | true => rw [List.takeWhile_cons_of_pos h, List.takeWhile_cons_of_pos h, takeWhile_idem p l]
  | false => rw [List.takeWhile_cons_of_neg (by simp [h])]; rfl
theorem take_takeWhile (p : UInt8 → Bool) (l : List UInt8) : l.take (l.takeWhile p).length = l.takeWhile p := (List.prefix_iff_eq_take.1 (List.takeWhile_prefix p)).symm
theorem quo_take : ∀ (l : List UInt8) (p : List UInt8 × Nat), quo l = some p → quo (l.take p.2) = some p
 | [], p, h => by simp [quo] at h
 | [c], p, h => by
  by_cases h1 : c = 34
  ·subst h1; rw [quoL_q] at h; cases h; exact quoL_q _
  ·rw [quo, if_neg h1] at h; cases h
 | c :: d :: r, p, h => by
  by_cases h1 : c = 34
  ·subst h1; rw [quoL_q] at h; cases h; exact quoL_q _
  ·by_cases h2 : c < 32
   ·rw [quoL_low h2] at h; cases h
   ·by_cases h3 : c = 92
    ·subst h3
     cases he : escU d with
     | none => rw [quoL_esc_no he] at h; cases h
     | some x =>
      rw [quoL_esc he] at h
      obtain ⟨q, hq, rfl⟩ := Option.map_eq_some_iff.1 h
      simp only [List.take_succ_cons]
      rw [quoL_esc he, quo_take r q hq]; rfl
    ·rw [quoL_plain h1 h2 h3] at h
     obtain ⟨q, hq, rfl⟩ := Option.map_eq_some_iff.1 h
     have i := quo_take (d :: r) q hq
     simp only [List.take_succ_cons] at i ⊢
     rw [quoL_plain h1 h2 h3, i]; rfl
theorem take_cons_pos {c : UInt8} {r : List UInt8} {n : Nat} (h : 0 < n) : (c :: r).take n = c :: r.take (n - 1) := by
 obtain ⟨m, rfl⟩ : ∃ m, n = m + 1 := ⟨n - 1, by omega⟩
 rfl
theorem oneL_alone {a : Nat} {c : UInt8} {r : List UInt8} {x : Lx} (h : oneL a (c :: r) = some x) : oneL 0 ((c :: r).take (x.e - a)) = some ⟨x.k, x.t, 0, x.e - a⟩ := by
 have hp := oneL_pos h
 rw [take_cons_pos (by omega)]
 rw [oneL] at h ⊢
 split at h
 ·rename_i hc
  rw [if_pos hc]
  cases h
  simp only at hp ⊢
  rw [Nat.add_sub_cancel_left]
  have h1 := takeWhile_pos (r := r) (ch_of_let hc)
  rw [← take_cons_pos h1, take_takeWhile, takeWhile_idem]
  simp
 ·rename_i hc
  rw [if_neg hc]
  split at h
  ·rename_i hc2
   rw [if_pos hc2]
   cases h
   simp only at hp ⊢
   rw [Nat.add_sub_cancel_left]
   have h1 := takeWhile_pos (r := r) hc2
   rw [← take_cons_pos h1, take_takeWhile, takeWhile_idem]
   simp
  ·rename_i hc2
   rw [if_neg hc2]
   split at h
   ·rename_i hc3
    rw [if_pos hc3]
    cases r with
    | nil => cases h
    | cons d r =>
     unfold varL at h
     simp only at h
     split at h
     ·rename_i hd
      cases h
      simp only
      have h1 := takeWhile_pos (r := r) (ch_of_let hd)
      rw [show a + 1 + ((d :: r).takeWhile isCh).length - a - 1 = ((d :: r).takeWhile isCh).length by omega, take_takeWhile]
      have hdw : (d :: r).takeWhile isCh = d :: r.takeWhile isCh := List.takeWhile_cons_of_pos (ch_of_let hd)
      unfold varL
      rw [hdw]
      simp only
      rw [if_pos hd, ← hdw, takeWhile_idem]
      congr 2
      omega
     ·cases h
   ·rename_i hc3
    rw [if_neg hc3]
    split at h
    ·rename_i hc4
     rw [if_pos hc4]
     unfold quoL at h ⊢
     obtain ⟨q, hq, rfl⟩ := Option.map_eq_some_iff.1 h
     simp only
     rw [show a + 1 + q.2 - a - 1 = q.2 by omega, quo_take _ _ hq]
     simp only [Option.map_some]
     congr 2
     omega
    ·rename_i hc4
     rw [if_neg hc4]
     unfold markL at h ⊢
     simp only at h ⊢
     split at h
     ·rename_i ht
      cases h
      simp only
      rw [Nat.add_sub_cancel_left]
      cases r with
      | nil => simp [twoL] at ht
      | cons d r =>
       have ht' : twoL (c :: (d :: r).take (2 - 1)) = true := by
        simp [twoL] at ht ⊢; exact ht
       rw [if_pos ht']
       simp
     ·split at h
      ·rename_i hm
       cases h
       simp only
       rw [Nat.add_sub_cancel_left]
       have ht' : ¬ twoL (c :: r.take (1 - 1)) = true := by simp [twoL]
       rw [if_neg ht', if_pos hm, Nat.zero_add]
      ·cases h
theorem alone {a : Nat} {c : UInt8} {r : List UInt8} {x : Lx} (hb : blk false (c :: r) = 0) (h : oneL a (c :: r) = some x) : tells 0 ((c :: r).take (x.e - a)) = [(⟨x.k, x.t, 0, x.e - a⟩, true)] := by
 have hp := oneL_pos h
 have ho := oneL_alone h
 have hb' : blk false ((c :: r).take (x.e - a)) = 0 := by
  rw [take_cons_pos (by omega), blk]
  rw [blk] at hb
  by_cases h1 : isBl c = true
  ·rw [if_pos h1] at hb; omega
  ·rw [if_neg h1] at hb ⊢
   by_cases h2 : pre2 (c :: r) = true
   ·rw [if_pos h2] at hb; omega
   ·rw [if_neg]
    intro h3
    obtain ⟨r', rfl, h4⟩ := pre2_take h3
    apply h2
    cases r with
    | nil => simp at h4
    | cons d r =>
     have : d = 47 := by
      have := congrArg List.head? h4
      cases hn : x.e - a - 1 with
      | zero => rw [hn] at this; simp at this
      | succ n => rw [hn] at this; simpa using this
     subst this; rfl
 have e := take_cons_pos (c := c) (r := r) (n := x.e - a) (by omega)
 have := tells_yes (a := 0) (l := (c :: r).take (x.e - a)) (c := c) (r := r.take (x.e - a - 1)) (x := ⟨x.k, x.t, 0, x.e - a⟩) (by rw [hb', List.drop_zero, e]) (by rw [hb', Nat.add_zero, ← e]; exact ho)
 rw [this]
 simp only
 have hnil : ((c :: r).take (x.e - a)).drop (x.e - a - 0) = [] := List.drop_of_length_le (by rw [List.length_take]; omega)
 rw [hnil, tells_end rfl]
theorem tl_extract2 (s : ByteArray) (a b : Nat) : tl (s.extract a b) 0 = (tl s a).take (b - a) := by
 rw [bs_extract, tl_bs]
theorem place_end {s : ByteArray} {m : Nat} (h : tells m (tl s m) = []) : blk false (tl s m) = (tl s m).length := by
 have hle := blk_le false (tl s m)
 cases hd : (tl s m).drop (blk false (tl s m)) with
 | nil =>
  have := congrArg List.length hd
  rw [List.length_drop, List.length_nil] at this; omega
 | cons c r =>
  cases h1 : oneL (m + blk false (tl s m)) (c :: r) with
  | none => rw [tells_no hd h1] at h; cases h
  | some x => rw [tells_yes hd h1] at h; cases h
theorem place_next {s : ByteArray} {m : Nat} (hm : m ≤ s.size) (hs : s.size ≤ 4096) {x : Lx} {T : List (Lx × Bool)} (h : tells m (tl s m) = (x, true) :: T) :
  m ≤ x.a ∧ x.a < x.e ∧ x.e ≤ s.size ∧ blk false (tl (s.extract m x.a) 0) = (s.extract m x.a).size ∧ T = tells x.e (tl s x.e) ∧
  lexF (s.extract x.a x.e) = none ∧ lexT (s.extract x.a x.e) = [⟨x.k, x.t, 0, x.e - x.a⟩] := by
 have hle := blk_le false (tl s m)
 cases hd : (tl s m).drop (blk false (tl s m)) with
 | nil => rw [tells_end hd] at h; cases h
 | cons c r =>
  cases h1 : oneL (m + blk false (tl s m)) (c :: r) with
  | none => rw [tells_no hd h1] at h; cases h
  | some y =>
   rw [tells_yes hd h1] at h
   obtain ⟨e1, e2⟩ := List.cons.inj h
   have e1 := (Prod.mk.inj e1).1
   subst e1
   have hp := oneL_pos h1
   have hlc := congrArg List.length hd
   rw [List.length_drop, List.length_cons, tl_len] at hlc
   rw [List.length_cons] at hp
   obtain ⟨pa, pe, pl⟩ := hp
   have hb0 : blk false (c :: r) = 0 := by rw [← hd]; exact blk_drop _ _ (by rw [hd]; simp)
   have hal := alone hb0 h1
   have hex : tl (s.extract y.a y.e) 0 = (c :: r).take (y.e - (m + blk false (tl s m))) := by
    rw [tl_extract2, pa, ← hd, tl_drop]
   refine ⟨by omega, by omega, by omega, ?_, ?_, ?_, ?_⟩
   ·rw [tl_extract2, pa, Nat.add_sub_cancel_left, blk_take, ByteArray.size_extract]; omega
   ·rw [← e2, tl_drop]; congr 2; omega
   ·rw [lexF, hex, hal]; rfl
   ·rw [lexT, hex, hal, pa]; rfl
end
end Go.Proofs.YtoeodjobggodcaaGreatDoor
/- The parser goes by kinds and texts alone: lexemes at other places are read alike, and a fault stands at the place that goes with the other. -/
namespace Go.Proofs.YtoeodjobggodcaaGreatDoor
section
open Go.RowKit
def Sx (pl : Nat → Nat → Prop) : List Lx → List Lx → Prop
 | [], [] => True
 | x :: r, y :: s => (x.k = y.k ∧ x.t = y.t ∧ pl x.a y.a) ∧ Sx pl r s
 | _, _ => False
def So (pl : Nat → Nat → Prop) (r r' : List Lx) : Prop := Sx pl r r' ∧ Gd r
def SimR {σ : Type} (pl : Nat → Nat → Prop) (P : σ → σ → Prop) : Rs σ → Rs σ → Prop
 | .bad a, .bad b => pl a b
 | .ok s r, .ok t r' => P s t ∧ So pl r r'
 | _, _ => False
abbrev Sim {σ : Type} (pl : Nat → Nat → Prop) (a b : Rs σ) : Prop := SimR pl Eq a b
variable {pl : Nat → Nat → Prop}
theorem Sx.len : ∀ {r r' : List Lx}, Sx pl r r' → r'.length = r.length
 | [], [], _ => rfl
 | x :: r, y :: s, h => by simp [Sx.len h.2]
 | [], _ :: _, h => h.elim
 | _ :: _, [], h => h.elim
theorem So.len {r r' : List Lx} (h : So pl r r') : r'.length = r.length := h.1.len
theorem So.tail {x y : Lx} {r r' : List Lx} (h : So pl (x :: r) (y :: r')) (hk : x.k ≠ -1) : So pl r r' := by
 refine ⟨h.1.2, ?_⟩
 have h2 := h.2
 cases r with
 | nil => exact absurd h2 hk
 | cons y r => exact h2.2
theorem So.cases {r r' : List Lx} (h : So pl r r') : ∃ x s y t, r = x :: s ∧ r' = y :: t ∧ x.k = y.k ∧ x.t = y.t ∧ pl x.a y.a := by
 cases r with
 | nil => exact absurd h.2 (by simp [Gd])
 | cons x s =>
  cases r' with
  | nil => exact h.1.elim
  | cons y t => exact ⟨x, s, y, t, rfl, rfl, h.1.1.1, h.1.1.2.1, h.1.1.2.2⟩
theorem So.here {r r' : List Lx} (h : So pl r r') : pl (hA r) (hA r') := by
 obtain ⟨x, s, y, t, rfl, rfl, -, -, e⟩ := h.cases
 exact e
theorem SimR.bd {σ τ : Type} {P : σ → σ → Prop} {Q : τ → τ → Prop} {a b : Rs σ} {f g : σ → List Lx → Rs τ} (h : SimR pl P a b) (k : ∀ s t r r', P s t → So pl r r' → SimR pl Q (f s r) (g t r')) : SimR pl Q (a.bd f) (b.bd g) := by
 cases a with
 | bad a =>
  cases b with
  | bad b => exact h
  | ok s r => exact h.elim
 | ok s r =>
  cases b with
  | bad b => exact h.elim
  | ok t r' => exact k s t r r' h.1 h.2
theorem Sim.bd {σ τ : Type} {Q : τ → τ → Prop} {a b : Rs σ} {f g : σ → List Lx → Rs τ} (h : Sim pl a b) (k : ∀ s r r', So pl r r' → SimR pl Q (f s r) (g s r')) : SimR pl Q (a.bd f) (b.bd g) :=
 SimR.bd h fun s t r r' e h => by subst e; exact k s r r' h
theorem sim_if {σ : Type} {P : σ → σ → Prop} {c c' : Bool} (e : c' = c) {A A' B B' : Rs σ} (h1 : c = true → SimR pl P A A') (h2 : c = false → SimR pl P B B') : SimR pl P (if c = true then A else B) (if c' = true then A' else B') := by
 subst e
 cases h : c' with
 | true => simpa [h] using h1 h
 | false => simpa [h] using h2 h
theorem sok {σ : Type} {s : σ} {r r' : List Lx} (h : So pl r r') : Sim pl (.ok s r) (.ok s r') := ⟨rfl, h⟩
theorem isM_s {r r' : List Lx} (h : So pl r r') (s : ByteArray) : isM s r' = isM s r := by
 obtain ⟨x, a, y, b, rfl, rfl, e1, e2, -⟩ := h.cases
 simp [isM, spl, e1, e2]
theorem isK_s {r r' : List Lx} (h : So pl r r') (k : Int) : isK k r' = isK k r := by
 obtain ⟨x, a, y, b, rfl, rfl, e1, e2, -⟩ := h.cases
 simp [isK, e1]
theorem isVW_s {r r' : List Lx} (h : So pl r r') (s : ByteArray) : isVW s r' = isVW s r := by
 obtain ⟨x, a, y, b, rfl, rfl, e1, e2, -⟩ := h.cases
 have h2 := h.1.2
 cases a with
 | nil =>
  cases b with
  | nil => rfl
  | cons z b => exact h2.elim
 | cons w a =>
  cases b with
  | nil => exact h2.elim
  | cons z b => simp [isVW, spl, e1, h2.1.1, h2.1.2.1]
theorem opM_s {r r' : List Lx} (h : So pl r r') (n : Nat) : opM n r' = opM n r := by
 obtain ⟨x, a, y, b, rfl, rfl, e1, e2, -⟩ := h.cases
 simp [opM, e1, e2]
theorem So.tl {r r' : List Lx} {s : ByteArray} (h : So pl r r') (hm : isM s r = true) : So pl r.tail r'.tail := by
 obtain ⟨x, a, y, b, rfl, rfl, e1, e2, -⟩ := h.cases
 refine h.tail fun e => ?_
 simp [isM, spl, e] at hm
theorem take_s {r r' : List Lx} (h : So pl r r') (s : ByteArray) : Sim pl (takeM s r) (takeM s r') := by
 unfold takeM
 exact sim_if (isM_s h s) (fun hm => sok (h.tl hm)) (fun _ => h.here)
theorem push_s {r r' : List Lx} (h : So pl r r') (s : ByteArray) (o : Nat) : SimR pl (fun a b => pl a b ∧ o ≠ 30) (pushM s o r) (pushM s o r') := by
 unfold pushM
 rw [isM_s h s]
 split
 ·next hm => exact ⟨⟨h.here, hm.2⟩, h.tl hm.1⟩
 ·exact h.here
theorem name_s {r r' : List Lx} (h : So pl r r') : Sim pl (nameM r) (nameM r') := by
 obtain ⟨x, a, y, b, rfl, rfl, e1, e2, e3⟩ := h.cases
 simp only [nameM, ← e1, ← e2]
 split
 ·next hm => exact ⟨rfl, h.tail (by rw [hm.1]; decide)⟩
 ·exact e3
theorem var_s {r r' : List Lx} (h : So pl r r') : Sim pl (varM r) (varM r') := by
 obtain ⟨x, a, y, b, rfl, rfl, e1, e2, e3⟩ := h.cases
 simp only [varM, ← e1, ← e2]
 split
 ·next hm => exact ⟨rfl, h.tail (by rw [hm.1]; decide)⟩
 ·exact e3
theorem text_s {r r' : List Lx} (h : So pl r r') : Sim pl (textM r) (textM r') := by
 obtain ⟨x, a, y, b, rfl, rfl, e1, e2, e3⟩ := h.cases
 simp only [textM, ← e1, ← e2]
 split
 ·next hm => exact ⟨rfl, h.tail (by rw [hm]; decide)⟩
 ·exact e3
theorem num_s {r r' : List Lx} (h : So pl r r') (m : Nat) : Sim pl (numM m r) (numM m r') := by
 obtain ⟨x, a, y, b, rfl, rfl, e1, e2, e3⟩ := h.cases
 simp only [numM, ← e1, ← e2]
 split
 ·next hm => exact ⟨rfl, h.tail (by rw [hm.1]; decide)⟩
 ·exact e3
theorem within_s {σ : Type} {r r' : List Lx} (h : So pl r r') (a z : ByteArray) {o : Nat} (ho : o ≤ 30) {inner : List Lx → Rs σ} (hi : o + 1 ≤ 30 → ∀ r r', So pl r r' → Sim pl (inner r) (inner r')) : Sim pl (withinM a z o inner r) (withinM a z o inner r') := by
 unfold withinM
 exact (push_s h a o).bd fun s t r r' e h => (hi (by omega) r r' h).bd fun s r r' h => (take_s h z).bd fun _ r r' h => sok h
theorem commasL_s {σ : Type} {item : σ → List Lx → Rs σ} (hi : ∀ s r r', So pl r r' → Sim pl (item s r) (item s r')) : ∀ (f : Nat) (s : σ) (r r' : List Lx), So pl r r' → Sim pl (commasL item f s r) (commasL item f s r')
 | 0, s, r, r', h => sok h
 | f + 1, s, r, r', h => by
  unfold commasL
  exact sim_if (isM_s h _) (fun hm => (hi s _ _ (h.tl hm)).bd fun s r r' h => commasL_s hi f s r r' h) fun _ => sok h
theorem commas_s {σ : Type} {item : σ → List Lx → Rs σ} (hi : ∀ s r r', So pl r r' → Sim pl (item s r) (item s r')) (s : σ) (r r' : List Lx) (h : So pl r r') : Sim pl (commasM item s r) (commasM item s r') :=
 (hi s r r' h).bd fun s r r' h => by rw [h.len]; exact commasL_s hi _ s r r' h
theorem list_s {σ : Type} {r r' : List Lx} (h : So pl r r') (a z : ByteArray) {o : Nat} (ho : o ≤ 30) {item : σ → List Lx → Rs σ} (hi : o + 1 ≤ 30 → ∀ s r r', So pl r r' → Sim pl (item s r) (item s r')) (s : σ) : Sim pl (listM a z o item s r) (listM a z o item s r') := by
 refine within_s h a z ho fun ho r r' h => ?_
 exact sim_if (isM_s h _) (fun _ => sok h) fun _ => commas_s (hi ho) s r r' h
theorem node_s {r r' : List Lx} {a b : Nat} (ha : pl a b) (h : So pl r r') (e : Ex) (l : List Te) : Sim pl (nodeM a e l r) (nodeM b e l r') := by
 unfold nodeM
 split
 ·exact ha
 ·exact sok h
theorem op_tl {r r' : List Lx} {n : Nat} {op : Int} (h : So pl r r') (hm : opM n r = some op) : So pl r.tail r'.tail := by
 obtain ⟨x, a, y, b, rfl, rfl, e1, e2, -⟩ := h.cases
 refine h.tail fun e => ?_
 simp [opM, e] at hm
theorem levelL_s {N : List Lx → Rs Te} (hN : ∀ r r', So pl r r' → Sim pl (N r) (N r')) (n : Nat) : ∀ (f : Nat) (t : Te) (r r' : List Lx), So pl r r' → Sim pl (levelL N n f t r) (levelL N n f t r')
 | 0, t, r, r', h => sok h
 | f + 1, t, r, r', h => by
  unfold levelL
  rw [opM_s h n]
  split
  ·exact sok h
  ·next op hm =>
   refine (hN _ _ (op_tl h hm)).bd fun u q q' h' => (node_s h.here h' _ _).bd fun t r r' h => ?_
   split
   ·exact sok h
   ·exact levelL_s hN n f t r r' h
theorem level_s {S : Ps Te} {o : Nat} (hS : ∀ r r', So pl r r' → Sim pl (S o r) (S o r')) : ∀ (k : Nat) (r r' : List Lx), So pl r r' → Sim pl (levelM S o k r) (levelM S o k r')
 | 0, r, r', h => hS r r' h
 | k + 1, r, r', h => (level_s hS k r r' h).bd fun t r r' h => by rw [h.len]; exact levelL_s (level_s hS k) _ _ t r r' h
theorem post_s : ∀ (f : Nat) (t : Te) (r r' : List Lx), So pl r r' → Sim pl (postL f t r) (postL f t r')
 | 0, t, r, r', h => sok h
 | f + 1, t, r, r', h => by
  unfold postL
  exact sim_if (isM_s h _) (fun hm => (name_s (h.tl hm)).bd fun s q q' h' => (node_s h.here h' _ _).bd fun t r r' h => post_s f t r r' h) fun _ => sok h
theorem sign_s {A : Ps Te} {m : Nat} (hA : ∀ o r r', o ≤ 30 → m ≤ o → So pl r r' → Sim pl (A o r) (A o r')) : ∀ (f o : Nat) (r r' : List Lx), o ≤ 30 → m ≤ o → 32 ≤ f + o → So pl r r' → Sim pl (signM A f o r) (signM A f o r')
 | 0, o, r, r', ho, _, hf, _ => absurd hf (by omega)
 | f + 1, o, r, r', ho, hm', hf, h => by
  unfold signM
  refine sim_if (isM_s h _) (fun _ => ?_) fun _ => sim_if (isM_s h _) (fun _ => ?_) fun _ => ?_
  ·exact (push_s h _ o).bd fun a b q q' e hq => (sign_s hA f (o + 1) q q' (by omega) (by omega) (by omega) hq).bd fun t r r' h' => node_s e.1 h' _ _
  ·exact (push_s h _ o).bd fun a b q q' e hq => (sign_s hA f (o + 1) q q' (by omega) (by omega) (by omega) hq).bd fun t r r' h' => node_s e.1 h' _ _
  ·exact (hA o r r' ho hm' h).bd fun t r r' h => by rw [h.len]; exact post_s _ t r r' h
theorem paren_s {r r' : List Lx} (h : So pl r r') {T : Ps Te} {o : Nat} (ho : o ≤ 30) (hT : o + 1 ≤ 30 → ∀ r r', So pl r r' → Sim pl (T (o + 1) r) (T (o + 1) r')) : Sim pl (parenM T o r) (parenM T o r') := within_s h _ _ ho hT
theorem atom_s {r r' : List Lx} (h : So pl r r') {T : Ps Te} {o : Nat} (ho : o ≤ 30) (hT : o + 1 ≤ 30 → ∀ r r', So pl r r' → Sim pl (T (o + 1) r) (T (o + 1) r')) : Sim pl (atomM T o r) (atomM T o r') := by
 unfold atomM
 refine sim_if (isK_s h _) (fun _ => (num_s h _).bd fun _ r r' h => sok h) fun _ => ?_
 refine sim_if (isK_s h _) (fun _ => (text_s h).bd fun _ r r' h => sok h) fun _ => ?_
 refine sim_if (isM_s h _) (fun hm => sok (h.tl hm)) fun _ => ?_
 refine sim_if (isM_s h _) (fun hm => sok (h.tl hm)) fun _ => ?_
 refine sim_if (isM_s h _) (fun hm => sok (h.tl hm)) fun _ => ?_
 refine sim_if (isK_s h _) (fun _ => (var_s h).bd fun _ r r' h => sok h) fun _ => ?_
 refine sim_if (isM_s h _) (fun _ => paren_s h ho hT) fun _ => ?_
 refine sim_if (isM_s h _) (fun _ => ?_) fun _ => ?_
 ·unfold valuesM
  refine Sim.bd (list_s h _ _ ho (fun ho l r r' h => ?_) []) fun l q q' h' => node_s h.here h' _ _
  exact (hT ho r r' h).bd fun t r r' h => sok h
 refine sim_if (isM_s h _) (fun hm => (paren_s (h.tl hm) ho hT).bd fun t q q' h' => node_s h.here h' _ _) fun _ => ?_
 refine sim_if (isM_s h _) (fun hm => ?_) fun _ => (name_s h).bd fun _ r r' h => sok h
 unfold hasM
 refine Sim.bd (within_s (h.tl hm) _ _ ho fun ho r r' h => ?_) fun p q q' h' => node_s h.here h' _ _
 exact (hT ho r r' h).bd fun l r r' h => (take_s h _).bd fun _ r r' h => (hT ho r r' h).bd fun v r r' h => sok h
theorem tree_s : ∀ (f o : Nat) (r r' : List Lx), o ≤ 30 → 31 ≤ f + o → So pl r r' → Sim pl (treeM f o r) (treeM f o r')
 | 0, o, r, r', ho, hf, _ => absurd hf (by omega)
 | f + 1, o, r, r', ho, hf, h => by
  unfold treeM
  refine level_s (fun r r' h => ?_) 5 r r' h
  have : ∀ o' r r', o' ≤ 30 → o ≤ o' → So pl r r' → Sim pl (atomM (treeM f) o' r) (atomM (treeM f) o' r') := fun o' r r' ho' hle h => atom_s h ho' fun hh r r' h => tree_s f (o' + 1) r r' hh (by omega) h
  exact sign_s this 32 o r r' ho (Nat.le_refl _) (by omega) h
theorem expr_s {r r' : List Lx} (h : So pl r r') {o : Nat} (ho : o ≤ 30) : Sim pl (exprM o r) (exprM o r') := tree_s _ o r r' ho (by omega) h
theorem any_s {r r' : List Lx} (h : So pl r r') : ∀ (l : List ByteArray), (l.any fun s => isM s r') = l.any fun s => isM s r
 | [] => rfl
 | s :: l => by rw [List.any_cons, List.any_cons, isM_s h, any_s h l]
theorem condsL_s {C : List Lx → Rs Cd} (hC : ∀ r r', So pl r r' → Sim pl (C r) (C r')) (ends : List ByteArray) : ∀ (f : Nat) (l : List Cd) (r r' : List Lx), So pl r r' → Sim pl (condsL C ends f l r) (condsL C ends f l r')
 | 0, l, r, r', h => sok h
 | f + 1, l, r, r', h => by
  unfold condsL
  exact sim_if (any_s h ends) (fun _ => sok h) fun _ => (hC r r' h).bd fun c r r' h => condsL_s hC ends f _ r r' h
theorem conds_s {r r' : List Lx} (h : So pl r r') {C : List Lx → Rs Cd} (hC : ∀ r r', So pl r r' → Sim pl (C r) (C r')) (ends : List ByteArray) : Sim pl (condsM C ends r) (condsM C ends r') :=
 (hC r r' h).bd fun _ r r' h => by rw [h.len]; exact condsL_s hC ends _ _ r r' h
theorem block_s {r r' : List Lx} (h : So pl r r') {C : Ps Cd} {o : Nat} (ho : o ≤ 30) (hC : o + 1 ≤ 30 → ∀ r r', So pl r r' → Sim pl (C (o + 1) r) (C (o + 1) r')) : Sim pl (blockM C o r) (blockM C o r') := within_s h _ _ ho fun ho _ _ h => conds_s h (hC ho) _
theorem bind_s {r r' : List Lx} (h : So pl r r') : Sim pl (bindM r) (bindM r') := by
 unfold bindM
 exact (var_s h).bd fun v r r' h => (take_s h _).bd fun _ r r' h => (name_s h).bd fun f r r' h => sok h
theorem pattern_s {r r' : List Lx} (h : So pl r r') (v : ByteArray) {o : Nat} (ho : o ≤ 30) : Sim pl (patternM v o r) (patternM v o r') := by
 unfold patternM
 refine (name_s h).bd fun c r r' h => Sim.bd (list_s h _ _ ho (fun ho p r r' h => ?_) _) fun p r r' h => sok h
 exact sim_if (isVW_s h _) (fun _ => (bind_s h).bd fun b r r' h => sok h) fun _ => (expr_s h ho).bd fun t r r' h => sok h
theorem ofVar_s {r r' : List Lx} (h : So pl r r') {o : Nat} (ho : o ≤ 30) : Sim pl (ofVarM o r) (ofVarM o r') := by
 unfold ofVarM
 refine (var_s h).bd fun v r r' h => ?_
 exact sim_if (isM_s h _) (fun hm => pattern_s (h.tl hm) v ho) fun _ => (take_s h _).bd fun _ r r' h => (expr_s h ho).bd fun t r r' h => sok h
theorem forall_s {r r' : List Lx} (h : So pl r r') {C : Ps Cd} {o : Nat} (ho : o ≤ 30) (hC : o + 1 ≤ 30 → ∀ r r', So pl r r' → Sim pl (C (o + 1) r) (C (o + 1) r')) : Sim pl (forallM C o r) (forallM C o r') := by
 unfold forallM
 exact within_s h _ _ ho fun ho r r' h => (conds_s h (hC ho) _).bd fun l r r' h => (take_s h _).bd fun _ r r' h => (conds_s h (hC ho) _).bd fun t r r' h => sok h
theorem orL_s {C : List Lx → Rs Cd} (hC : ∀ r r', So pl r r' → Sim pl (C r) (C r')) : ∀ (f : Nat) (l : List (List Cd)) (r r' : List Lx), So pl r r' → Sim pl (orL C f l r) (orL C f l r')
 | 0, l, r, r', h => sok h
 | f + 1, l, r, r', h => by
  unfold orL
  exact sim_if (isM_s h _) (fun hm => (conds_s (h.tl hm) hC _).bd fun c r r' h => orL_s hC f _ r r' h) fun _ => sok h
theorem or_s {r r' : List Lx} (h : So pl r r') {C : Ps Cd} {o : Nat} (ho : o ≤ 30) (hC : o + 1 ≤ 30 → ∀ r r', So pl r r' → Sim pl (C (o + 1) r) (C (o + 1) r')) : Sim pl (orM C o r) (orM C o r') := by
 unfold orM
 exact Sim.bd (within_s h _ _ ho fun ho r r' h => (conds_s h (hC ho) _).bd fun l r r' h => by rw [h.len]; exact orL_s (hC ho) _ _ r r' h) fun l r r' h => sok h
theorem fn_s {r r' : List Lx} (h : So pl r r') : Sim pl (fnM r) (fnM r') := by
 unfold fnM
 refine sim_if (isM_s h _) (fun hm => ?_) fun _ => name_s h
 have ht := h.tl hm
 obtain ⟨x, a, y, b, rfl, rfl, e1, e2, -⟩ := h.cases
 exact ⟨e2, ht⟩
theorem acc_s {r r' : List Lx} (h : So pl r r') {C : Ps Cd} {o : Nat} (ho : o ≤ 30) (hC : o + 1 ≤ 30 → ∀ r r', So pl r r' → Sim pl (C (o + 1) r) (C (o + 1) r')) : Sim pl (accM C o r) (accM C o r') := by
 unfold accM
 exact within_s h _ _ ho fun ho r r' h => (var_s h).bd fun v r r' h => (take_s h _).bd fun _ r r' h => (fn_s h).bd fun f r r' h => (paren_s h ho fun ho r r' h => expr_s h ho).bd fun t r r' h => (take_s h _).bd fun _ r r' h => (conds_s h (hC ho) _).bd fun l r r' h => sok h
theorem arg_s {r r' : List Lx} (h : So pl r r') {o : Nat} (ho : o ≤ 30) : Sim pl (argM o r) (argM o r') := by
 unfold argM
 exact sim_if (isVW_s h _) (fun _ => (var_s h).bd fun v r r' h => (take_s h _).bd fun _ r r' h => sok h) fun _ => (expr_s h ho).bd fun t r r' h => sok h
theorem question_s {r r' : List Lx} (h : So pl r r') {o : Nat} (ho : o ≤ 30) : Sim pl (questionM o r) (questionM o r') := by
 unfold questionM
 refine (name_s h).bd fun s r r' h => Sim.bd (list_s h _ _ ho (fun ho l r r' h => ?_) _) fun l r r' h => sok h
 exact (arg_s h ho).bd fun a r r' h => sok h
theorem cond_s : ∀ (f o : Nat) (r r' : List Lx), o ≤ 30 → 31 ≤ f + o → So pl r r' → Sim pl (condM f o r) (condM f o r')
 | 0, o, r, r', ho, hf, _ => absurd hf (by omega)
 | f + 1, o, r, r', ho, hf, h => by
  have hC : o + 1 ≤ 30 → ∀ r r', So pl r r' → Sim pl (condM f (o + 1) r) (condM f (o + 1) r') := fun hh r r' h => cond_s f (o + 1) r r' hh (by omega) h
  unfold condM
  refine sim_if (isK_s h _) (fun _ => ofVar_s h ho) fun _ => ?_
  refine sim_if (isM_s h _) (fun hm => (block_s (h.tl hm) ho hC).bd fun l r r' h => sok h) fun _ => ?_
  refine sim_if (isM_s h _) (fun hm => (block_s (h.tl hm) ho hC).bd fun l r r' h => sok h) fun _ => ?_
  refine sim_if (isM_s h _) (fun hm => forall_s (h.tl hm) ho hC) fun _ => ?_
  refine sim_if (isM_s h _) (fun _ => or_s h ho hC) fun _ => ?_
  refine sim_if (isM_s h _) (fun hm => (paren_s (h.tl hm) ho fun ho r r' h => expr_s h ho).bd fun t r r' h => sok h) fun _ => ?_
  refine sim_if (isM_s h _) (fun hm => acc_s (h.tl hm) ho hC) fun _ => ?_
  exact sim_if (isM_s h _) (fun hm => question_s (h.tl hm) ho) fun _ => pattern_s h _ ho
theorem assign_s {r r' : List Lx} (h : So pl r r') {o : Nat} (ho : o ≤ 30) : Sim pl (assignM o r) (assignM o r') := by
 unfold assignM
 exact (name_s h).bd fun f r r' h => (take_s h _).bd fun _ r r' h => (expr_s h ho).bd fun t r r' h => sok h
theorem ass_s {r r' : List Lx} (h : So pl r r') {o : Nat} (ho : o ≤ 30) (l : List As) : Sim pl (assM o l r) (assM o l r') := by
 unfold assM
 exact (assign_s h ho).bd fun a r r' h => sok h
theorem ins_s {r r' : List Lx} (h : So pl r r') (k : Int) : Sim pl (insM k r) (insM k r') := by
 unfold insM
 exact (name_s h).bd fun c r r' h => Sim.bd (list_s h _ _ (by omega) (fun _ l r r' h => ass_s h (by omega) l) _) fun l r r' h => sok h
theorem upd_s {r r' : List Lx} (h : So pl r r') : Sim pl (updM r) (updM r') := by
 unfold updM
 exact (expr_s h (by omega)).bd fun t r r' h => Sim.bd (within_s h _ _ (by omega) fun _ r r' h => commas_s (fun l r r' h => ass_s h (by omega) l) _ r r' h) fun l r r' h => sok h
theorem deed_s {r r' : List Lx} (h : So pl r r') : Sim pl (deedM r) (deedM r') := by
 unfold deedM
 refine sim_if (isM_s h _) (fun hm => ins_s (h.tl hm) _) fun _ => ?_
 refine sim_if (isM_s h _) (fun hm => ins_s (h.tl hm) _) fun _ => ?_
 refine sim_if (isM_s h _) (fun hm => upd_s (h.tl hm)) fun _ => ?_
 refine sim_if (isM_s h _) (fun hm => (expr_s (h.tl hm) (by omega)).bd fun t r r' h => sok h) fun _ => ?_
 refine sim_if (isM_s h _) (fun hm => (text_s (h.tl hm)).bd fun t r r' h => sok h) fun _ => ?_
 exact sim_if (isM_s h _) (fun hm => (expr_s (h.tl hm) (by omega)).bd fun t r r' h => sok h) fun _ => (take_s h _).bd fun t r r' h => sok h
theorem action_s {r r' : List Lx} (h : So pl r r') : Sim pl (actionM r) (actionM r') := by
 unfold actionM
 exact (deed_s h).bd fun a r r' h => (take_s h _).bd fun _ r r' h => sok h
theorem field_s {r r' : List Lx} (h : So pl r r') : Sim pl (fieldM r) (fieldM r') := by
 unfold fieldM
 refine (name_s h).bd fun n r r' h => (take_s h _).bd fun _ r r' h => ?_
 refine sim_if (isM_s h _) (fun hm => sok (h.tl hm)) fun _ => ?_
 refine sim_if (isM_s h _) (fun hm => sok (h.tl hm)) fun _ => ?_
 refine sim_if (isM_s h _) (fun hm => sok (h.tl hm)) fun _ => ?_
 refine sim_if (isM_s h _) (fun hm => sok (h.tl hm)) fun _ => ?_
 refine sim_if (isM_s h _) (fun hm => sok (h.tl hm)) fun _ => ?_
 exact sim_if (isM_s h _) (fun hm => (name_s (h.tl hm)).bd fun c r r' h => sok h) fun _ => h.here
theorem fieldsL_s : ∀ (f : Nat) (l : List Fd) (r r' : List Lx), So pl r r' → Sim pl (fieldsL f l r) (fieldsL f l r')
 | 0, l, r, r', h => sok h
 | f + 1, l, r, r', h => by
  unfold fieldsL
  refine sim_if (isM_s h _) (fun _ => sok h) fun _ => ?_
  refine Sim.bd (field_s ?_) fun x r r' h => fieldsL_s f _ r r' h
  rw [isM_s h]
  split
  ·next hm => exact h.tl hm.2
  ·exact h
theorem class_s {r r' : List Lx} (h : So pl r r') : Sim pl (classM r) (classM r') := by
 unfold classM
 refine (name_s h).bd fun n r r' h => Sim.bd ?_ fun s r r' h => Sim.bd (within_s h _ _ (by omega) fun _ r r' h => by rw [h.len]; exact fieldsL_s _ _ r r' h) fun l r r' h => sok h
 exact sim_if (isM_s h _) (fun hm => name_s (h.tl hm)) fun _ => sok h
theorem sal_s {r r' : List Lx} (h : So pl r r') : Sim pl (salM r) (salM r') := by
 unfold salM
 exact sim_if (isM_s h _) (fun hm => (num_s (h.tl hm) _).bd fun n r r' h => sok h) fun _ => (num_s h _).bd fun n r r' h => sok h
theorem attrsL_s : ∀ (f : Nat) (u : Ru) (r r' : List Lx), So pl r r' → Sim pl (attrsL f u r) (attrsL f u r')
 | 0, u, r, r', h => sok h
 | f + 1, u, r, r', h => by
  unfold attrsL
  refine sim_if (isM_s h _) (fun hm => (sal_s (h.tl hm)).bd fun i r r' h => attrsL_s f _ r r' h) fun _ => ?_
  refine sim_if (isM_s h _) (fun hm => (text_s (h.tl hm)).bd fun i r r' h => attrsL_s f _ r r' h) fun _ => ?_
  refine sim_if (isM_s h _) (fun hm => (text_s (h.tl hm)).bd fun i r r' h => attrsL_s f _ r r' h) fun _ => ?_
  refine sim_if (isM_s h _) (fun hm => attrsL_s f _ _ _ (h.tl hm)) fun _ => ?_
  exact sim_if (isM_s h _) (fun hm => attrsL_s f _ _ _ (h.tl hm)) fun _ => sok h
theorem untilL_s {σ : Type} (z : ByteArray) {item : List Lx → Rs σ} (hi : ∀ r r', So pl r r' → Sim pl (item r) (item r')) : ∀ (f : Nat) (l : List σ) (r r' : List Lx), So pl r r' → Sim pl (untilL z item f l r) (untilL z item f l r')
 | 0, l, r, r', h => sok h
 | f + 1, l, r, r', h => by
  unfold untilL
  exact sim_if (isM_s h _) (fun hm => sok (h.tl hm)) fun _ => (hi r r' h).bd fun x r r' h => untilL_s z hi f _ r r' h
theorem until_s {σ : Type} {r r' : List Lx} (h : So pl r r') (z : ByteArray) {item : List Lx → Rs σ} (hi : ∀ r r', So pl r r' → Sim pl (item r) (item r')) : Sim pl (untilL z item r.length [] r) (untilL z item r'.length [] r') := by
 rw [h.len]; exact untilL_s z hi _ _ r r' h
theorem rule_s {r r' : List Lx} (h : So pl r r') : Sim pl (ruleM r) (ruleM r') := by
 unfold ruleM
 refine (text_s h).bd fun n r r' h => Sim.bd (by rw [h.len]; exact attrsL_s _ _ r r' h) fun u r r' h => (take_s h _).bd fun _ r r' h => ?_
 exact (until_s h _ fun r r' h => cond_s 31 0 r r' (by omega) (by omega) h).bd fun l r r' h => (until_s h _ fun r r' h => action_s h).bd fun t r r' h => sok h
theorem query_s {r r' : List Lx} (h : So pl r r') : Sim pl (queryM r) (queryM r') := by
 unfold queryM
 refine (name_s h).bd fun n r r' h => Sim.bd (list_s h _ _ (by omega) (fun _ l r r' h => ?_) _) fun p r r' h => (until_s h _ fun r r' h => cond_s 31 0 r r' (by omega) (by omega) h).bd fun l r r' h => sok h
 exact (var_s h).bd fun s r r' h => sok h
theorem fileL_s : ∀ (f : Nat) (b : Bs) (r r' : List Lx), So pl r r' → Sim pl (fileL f b r) (fileL f b r')
 | 0, b, r, r', h => sok h
 | f + 1, b, r, r', h => by
  unfold fileL
  refine sim_if (isK_s h _) (fun _ => sok h) fun _ => ?_
  refine sim_if (isM_s h _) (fun hm => (class_s (h.tl hm)).bd fun c r r' h => fileL_s f _ r r' h) fun _ => ?_
  refine sim_if (isM_s h _) (fun hm => (rule_s (h.tl hm)).bd fun c r r' h => fileL_s f _ r r' h) fun _ => ?_
  exact sim_if (isM_s h _) (fun hm => (query_s (h.tl hm)).bd fun c r r' h => fileL_s f _ r r' h) fun _ => h.here
theorem file_s {r r' : List Lx} (h : So pl r r') (b : Bs) : Sim pl ((fileL r.length b r).bd endM) ((fileL r'.length b r').bd endM) := by
 rw [h.len]
 refine (fileL_s _ b r r' h).bd fun x r r' h => ?_
 unfold endM
 exact sim_if (isK_s h _) (fun _ => sok h) fun _ => h.here
end
end Go.Proofs.YtoeodjobggodcaaGreatDoor
/- Texts that are spread: more blanks, line ends and remarks between lexemes. -/
namespace Go.Proofs.YtoeodjobggodcaaGreatDoor
section
open Go.RowKit
/-! A lexeme hangs on itself and the byte behind it. -/
theorem tw_next {f : UInt8 → Bool} {u v : List UInt8} (hv : ∀ d, v.head? = some d → (u.head? = some d ∨ f d = false)) : ∀ p : List UInt8, ((p ++ u).takeWhile f).length = p.length → (p ++ v).takeWhile f = (p ++ u).takeWhile f
 | [], h => by
  rw [List.nil_append, List.nil_append] at *
  have h0 := List.eq_nil_of_length_eq_zero h
  rw [h0]
  cases v with
  | nil => rfl
  | cons d v =>
   have hf : f d = false := by
    rcases hv d rfl with e | e
    ·cases u with
     | nil => cases e
     | cons d' u =>
      cases e
      cases hd : f d with
      | false => rfl
      | true => rw [List.takeWhile_cons_of_pos hd] at h0; cases h0
    ·exact e
   rw [List.takeWhile_cons_of_neg (by simp [hf])]
 | c :: p, h => by
  rw [List.cons_append] at *
  cases hc : f c with
  | true =>
   rw [List.takeWhile_cons_of_pos hc, List.length_cons, List.length_cons] at h
   rw [List.cons_append, List.takeWhile_cons_of_pos hc, List.takeWhile_cons_of_pos hc, tw_next hv p (by omega)]
  | false =>
   rw [List.takeWhile_cons_of_neg (by simp [hc])] at h
   simp at h
theorem quo_mono (v : List UInt8) : ∀ (l : List UInt8) (z : List UInt8 × Nat), quo l = some z → quo (l ++ v) = some z
 | [], z, h => by simp [quo] at h
 | [c], z, h => by
  by_cases h1 : c = 34
  ·subst h1; rw [quoL_q] at h; cases h; exact quoL_q _
  ·rw [quo, if_neg h1] at h; cases h
 | c :: d :: r, z, h => by
  show quo (c :: d :: (r ++ v)) = _
  by_cases h1 : c = 34
  ·subst h1; rw [quoL_q] at h; cases h; exact quoL_q _
  ·by_cases h2 : c < 32
   ·rw [quoL_low h2] at h; cases h
   ·by_cases h3 : c = 92
    ·subst h3
     cases he : escU d with
     | none => rw [quoL_esc_no he] at h; cases h
     | some x =>
      rw [quoL_esc he] at h
      obtain ⟨q, hq, rfl⟩ := Option.map_eq_some_iff.1 h
      rw [quoL_esc he, quo_mono v r q hq]; rfl
    ·rw [quoL_plain h1 h2 h3] at h
     obtain ⟨q, hq, rfl⟩ := Option.map_eq_some_iff.1 h
     have i := quo_mono v (d :: r) q hq
     rw [List.cons_append] at i
     rw [quoL_plain h1 h2 h3, i]; rfl
theorem quo_next {q u v : List UInt8} {z : List UInt8 × Nat} (h : quo (q ++ u) = some z) (hz : z.2 = q.length) : quo (q ++ v) = some z := by
 have := quo_take _ _ h
 rw [hz, List.take_left] at this
 exact quo_mono v q z this
theorem two_bl {c d : UInt8} (hd : d = 9 ∨ d = 32) (r : List UInt8) : twoL (c :: d :: r) = false := by
 rcases hd with rfl | rfl <;> simp [twoL, twoB, twos, bs, Lib.toList_data]
theorem oneL_next {a : Nat} {p u v : List UInt8} {x : Lx} (h : oneL a (p ++ u) = some x) (hx : x.e = a + p.length) (hv : ∀ d, v.head? = some d → (u.head? = some d ∨ d = 9 ∨ d = 32)) : oneL a (p ++ v) = some x := by
 have hp := oneL_pos h
 cases p with
 | nil => simp at hx; omega
 | cons c q =>
  rw [List.cons_append] at h ⊢
  have hv1 : ∀ d, v.head? = some d → (u.head? = some d ∨ isCh d = false) := fun d hd => by
   rcases hv d hd with e | rfl | rfl
   ·exact .inl e
   ·exact .inr (by decide)
   ·exact .inr (by decide)
  have hv2 : ∀ d, v.head? = some d → (u.head? = some d ∨ isDig d = false) := fun d hd => by
   rcases hv d hd with e | rfl | rfl
   ·exact .inl e
   ·exact .inr (by decide)
   ·exact .inr (by decide)
  rw [oneL] at h ⊢
  split at h
  ·rename_i hc
   rw [if_pos hc]
   cases h
   have := tw_next hv1 (c :: q) (by simp only at hx; rw [List.cons_append]; omega)
   rw [List.cons_append, List.cons_append] at this
   rw [this]
  ·rename_i hc
   rw [if_neg hc]
   split at h
   ·rename_i hc2
    rw [if_pos hc2]
    cases h
    have := tw_next hv2 (c :: q) (by simp only at hx; rw [List.cons_append]; omega)
    rw [List.cons_append, List.cons_append] at this
    rw [this]
   ·rename_i hc2
    rw [if_neg hc2]
    split at h
    ·rename_i hc3
     rw [if_pos hc3]
     cases q with
     | nil =>
      cases u with
      | nil => cases h
      | cons d u =>
       unfold varL at h
       simp only [List.nil_append] at h
       split at h
       ·rename_i hd
        have := takeWhile_pos (r := u) (ch_of_let hd)
        cases h
        simp only [List.length_cons, List.length_nil] at hx
        omega
       ·cases h
     | cons d q =>
      unfold varL at h ⊢
      simp only [List.cons_append] at h ⊢
      split at h
      ·rename_i hd
       rw [if_pos hd]
       cases h
       have := tw_next hv1 (d :: q) (by simp only [List.length_cons] at hx ⊢; rw [List.cons_append]; omega)
       rw [List.cons_append, List.cons_append] at this
       rw [this]
      ·cases h
    ·rename_i hc3
     rw [if_neg hc3]
     split at h
     ·rename_i hc4
      rw [if_pos hc4]
      unfold quoL at h ⊢
      obtain ⟨z, hz, rfl⟩ := Option.map_eq_some_iff.1 h
      rw [quo_next (v := v) hz (by simp only [List.length_cons] at hx; omega)]
      rfl
     ·rename_i hc4
      rw [if_neg hc4]
      unfold markL at h ⊢
      simp only at h ⊢
      split at h
      ·rename_i ht
       cases h
       simp only [List.length_cons] at hx
       match q, hx with
       | [], hx => simp at hx
       | [d], _ =>
        have ht' : twoL (c :: ([d] ++ v)) = true := by
         simp [twoL] at ht ⊢; exact ht
        rw [if_pos ht']
        simp
       | d :: d' :: q, hx => simp only [List.length_cons] at hx; omega
      ·rename_i ht
       split at h
       ·rename_i hm
        cases h
        simp only [List.length_cons] at hx
        match q, hx with
        | [], hx =>
         have ht' : ¬ twoL (c :: ([] ++ v)) = true := by
          rw [List.nil_append] at ht ⊢
          cases v with
          | nil => simp [twoL]
          | cons d v =>
           rcases hv d rfl with e | e
           ·cases u with
            | nil => cases e
            | cons d' u =>
             cases e
             intro h2
             apply ht
             simp [twoL] at h2 ⊢; exact h2
           ·rw [two_bl e]; simp
         rw [if_neg ht', if_pos hm]
        | d :: q, hx => simp only [List.length_cons] at hx; omega
       ·cases h
theorem blk_next {c : UInt8} {q u v : List UInt8} (h : blk false (c :: (q ++ u)) = 0) (hv : ∀ d, v.head? = some d → (u.head? = some d ∨ d = 9 ∨ d = 32)) : blk false (c :: (q ++ v)) = 0 := by
 rw [blk] at h ⊢
 by_cases h1 : isBl c = true
 ·rw [if_pos h1] at h; omega
 ·rw [if_neg h1] at h ⊢
  by_cases h2 : pre2 (c :: (q ++ u)) = true
  ·rw [if_pos h2] at h; omega
  ·rw [if_neg]
   intro h3
   apply h2
   cases q with
   | cons d q => simp [pre2] at h3 ⊢; exact h3
   | nil =>
    rw [List.nil_append] at h3 ⊢
    cases v with
    | nil => cases h3
    | cons d v =>
     simp [pre2] at h3
     rcases hv d rfl with e | e | e
     ·cases u with
      | nil => cases e
      | cons d' u => cases e; simp [pre2, h3]
     ·rw [h3.2] at e; exact absurd e (by decide)
     ·rw [h3.2] at e; exact absurd e (by decide)
/-! The text that is spread. -/
def firB : ByteArray := ⟨#[47, 47, 32, 102, 105, 114, 115, 116, 10]⟩
def sepB : ByteArray := ⟨#[9, 47, 47, 32, 120, 10, 32]⟩
def endB : ByteArray := ⟨#[32, 47, 47, 32, 101, 110, 100]⟩
def frm (X : List Lx) : Nat → Nat
 | 0 => 0
 | k + 1 => match X[k]? with
  | some x => x.e
  | none => 0
def spr (s : ByteArray) (X : List Lx) : Nat → ByteArray
 | 0 => firB
 | k + 1 => match X[k]? with
  | some x => (if frm X k < x.a then spr s X k ++ sepB else spr s X k) ++ s.extract x.a x.e
  | none => spr s X k
def rst (s : ByteArray) : Nat → List Lx → List UInt8
 | _, [] => endB.data.toList
 | m, x :: r => (if m < x.a then sepB.data.toList else []) ++ ((tl s x.a).take (x.e - x.a) ++ rst s x.e r)
theorem spr_rst (s : ByteArray) (X : List Lx) : ∀ k, k ≤ X.length → (spr s X k).data.toList ++ rst s (frm X k) (X.drop k) = firB.data.toList ++ rst s 0 X
 | 0, _ => rfl
 | k + 1, h => by
  have hk : k < X.length := by omega
  rw [← spr_rst s X k (by omega), List.drop_eq_getElem_cons hk]
  rw [spr, rst]
  simp only [List.getElem?_eq_getElem hk]
  have hf : frm X (k + 1) = X[k].e := by rw [frm, List.getElem?_eq_getElem hk]
  rw [hf]
  have he : (s.extract X[k].a X[k].e).data.toList = (tl s X[k].a).take (X[k].e - X[k].a) := tl_extract2 s _ _
  split
  ·rw [ByteArray.data_append, ByteArray.data_append, Array.toList_append, Array.toList_append, he]; simp
  ·rw [ByteArray.data_append, Array.toList_append, he]; simp
def OrdX (z : Nat) : Nat → List Lx → Prop
 | _, [] => True
 | m, x :: r => m ≤ x.a ∧ x.a < x.e ∧ x.e ≤ z ∧ OrdX z x.e r
theorem tells_step {s : ByteArray} {m : Nat} (_ : m ≤ s.size) {z : Lx × Bool} {T : List (Lx × Bool)} (h : tells m (tl s m) = z :: T) (h2 : z.2 = true) :
  ∃ c l, tl s z.1.a = c :: l ∧ blk false (c :: l) = 0 ∧ oneL z.1.a (c :: l) = some z.1 ∧ m ≤ z.1.a ∧ z.1.a < z.1.e ∧ z.1.e ≤ s.size ∧ tells z.1.e (tl s z.1.e) = T := by
 have hle := blk_le false (tl s m)
 cases hd : (tl s m).drop (blk false (tl s m)) with
 | nil => rw [tells_end hd] at h; cases h
 | cons c r =>
  cases h1 : oneL (m + blk false (tl s m)) (c :: r) with
  | none => rw [tells_no hd h1] at h; cases h; cases h2
  | some y =>
   rw [tells_yes hd h1] at h
   cases h
   have hp := oneL_pos h1
   have hlc := congrArg List.length hd
   rw [List.length_drop, List.length_cons, tl_len] at hlc
   rw [List.length_cons] at hp
   obtain ⟨pa, pe, pl⟩ := hp
   have hb0 : blk false (c :: r) = 0 := by rw [← hd]; exact blk_drop _ _ (by rw [hd]; simp)
   refine ⟨c, r, ?_, hb0, by rw [pa]; exact h1, by simp only; omega, by simp only; omega, by simp only; omega, ?_⟩
   ·simp only; rw [pa, ← tl_drop, hd]
   ·simp only; rw [tl_drop]; congr 2; omega
theorem tells_ord {s : ByteArray} : ∀ (T : List (Lx × Bool)) (m : Nat), m ≤ s.size → tells m (tl s m) = T → (∀ z ∈ T, z.2 = true) → OrdX s.size m (T.map Prod.fst)
 | [], _, _, _, _ => trivial
 | z :: T, m, hm, h, ha => by
  obtain ⟨c, l, h1, h2, h3, h4, h5, h6, h7⟩ := tells_step hm h (ha z (by simp))
  exact ⟨h4, h5, h6, tells_ord T _ h6 h7 fun y hy => ha y (by simp [hy])⟩
theorem ord_at {z : Nat} : ∀ (X : List Lx) (m k : Nat) (x : Lx), OrdX z m X → X[k]? = some x → (if k = 0 then m else frm X k) ≤ x.a ∧ x.a < x.e ∧ x.e ≤ z
 | y :: X, m, 0, x, h, e => by cases e; exact ⟨by simpa using h.1, h.2.1, h.2.2.1⟩
 | y :: X, m, k + 1, x, h, e => by
  have i := ord_at X y.e k x h.2.2.2 (by simpa using e)
  rw [if_neg (by omega)]
  rw [frm]
  cases k with
  | zero => simpa using i
  | succ k => rw [if_neg (by omega)] at i; rw [frm] at i; simpa using i
theorem ord_frm {z : Nat} {X : List Lx} (h : OrdX z 0 X) {k : Nat} {x : Lx} (e : X[k]? = some x) : frm X k ≤ x.a ∧ x.a < x.e ∧ x.e ≤ z := by
 have := ord_at X 0 k x h e
 cases k with
 | zero => simpa [frm] using this
 | succ k => simpa using this
theorem spr_size {s : ByteArray} {X : List Lx} (h : OrdX s.size 0 X) : ∀ k, k ≤ X.length → (spr s X k).size ≤ 9 + 7 * k + frm X k
 | 0, _ => Nat.le_refl _
 | k + 1, hk => by
  have i := spr_size h k (by omega)
  have hk' : k < X.length := by omega
  obtain ⟨h1, h2, h3⟩ := ord_frm h (List.getElem?_eq_getElem hk')
  rw [spr, frm]
  simp only [List.getElem?_eq_getElem hk']
  rw [ByteArray.size_append, ByteArray.size_extract]
  split
  ·rw [ByteArray.size_append, show sepB.size = 7 from rfl]; omega
  ·omega
theorem frm_le {z : Nat} {X : List Lx} (h : OrdX z 0 X) (k : Nat) (hk : k ≤ X.length) : frm X k ≤ z := by
 cases k with
 | zero => exact Nat.zero_le _
 | succ k =>
  have hk' : k < X.length := by omega
  obtain ⟨h1, h2, h3⟩ := ord_frm h (List.getElem?_eq_getElem hk')
  rw [frm, List.getElem?_eq_getElem hk']; exact h3
def Rl : List Lx → List (Lx × Bool) → Prop
 | [], [] => True
 | x :: r, z :: u => (z.2 = true ∧ x.k = z.1.k ∧ x.t = z.1.t) ∧ Rl r u
 | _, _ => False
theorem blk_sep (b : List UInt8) : blk false (sepB.data.toList ++ b) = sepB.data.toList.length + blk false b := by
 show blk false (9 :: 47 :: 47 :: 32 :: 120 :: 10 :: 32 :: b) = 7 + _
 rw [blk, if_pos (by decide), blk, if_neg (by decide), if_pos (by simp [pre2]), blk, if_neg (by decide), blk, if_neg (by decide), blk, if_neg (by decide), blk, if_pos (by decide), blk, if_pos (by decide)]
 omega
theorem blk_fir (b : List UInt8) : blk false (firB.data.toList ++ b) = firB.data.toList.length + blk false b := by
 show blk false (47 :: 47 :: 32 :: 102 :: 105 :: 114 :: 115 :: 116 :: 10 :: b) = 9 + _
 rw [blk, if_neg (by decide), if_pos (by simp [pre2]), blk, if_neg (by decide), blk, if_neg (by decide), blk, if_neg (by decide), blk, if_neg (by decide), blk, if_neg (by decide), blk, if_neg (by decide), blk, if_neg (by decide), blk, if_pos (by decide)]
 omega
theorem rst_head {s : ByteArray} {m : Nat} (hm : m ≤ s.size) {T : List (Lx × Bool)} (h : tells m (tl s m) = T) (ha : ∀ z ∈ T, z.2 = true) : ∀ d, (rst s m (T.map Prod.fst)).head? = some d → ((tl s m).head? = some d ∨ d = 9 ∨ d = 32) := by
 intro d hd
 cases T with
 | nil => right; right; cases hd; rfl
 | cons z T =>
  obtain ⟨c, l, h1, h2, h3, h4, h5, h6, h7⟩ := tells_step hm h (ha z (by simp))
  rw [List.map_cons, rst] at hd
  by_cases hlt : m < z.1.a
  ·rw [if_pos hlt] at hd; right; left; cases hd; rfl
  ·have e : m = z.1.a := by omega
   rw [if_neg hlt, List.nil_append, h1, take_cons_pos (by omega)] at hd
   left; rw [e, h1]; exact hd
theorem rst_tells {s : ByteArray} : ∀ (T : List (Lx × Bool)) (m a : Nat), m ≤ s.size → tells m (tl s m) = T → (∀ z ∈ T, z.2 = true) → Rl (T.map Prod.fst) (tells a (rst s m (T.map Prod.fst)))
 | [], m, a, hm, h, ha => by
  rw [List.map_nil, rst, tells_end (by decide)]; trivial
 | z :: T, m, a, hm, h, ha => by
  obtain ⟨c, l, h1, h2, h3, h4, h5, h6, h7⟩ := tells_step hm h (ha z (by simp))
  have ha' : ∀ y ∈ T, y.2 = true := fun y hy => ha y (by simp [hy])
  have hv := rst_head h6 h7 ha'
  have ih := fun a => rst_tells T z.1.e a h6 h7 ha'
  rw [List.map_cons, rst]
  generalize hV : rst s z.1.e (T.map Prod.fst) = V at *
  have hsk : ∃ a1, tells a ((if m < z.1.a then sepB.data.toList else []) ++ ((tl s z.1.a).take (z.1.e - z.1.a) ++ V)) = tells a1 ((tl s z.1.a).take (z.1.e - z.1.a) ++ V) := by
   split
   ·exact ⟨_, tells_skip a _ _ (blk_sep _)⟩
   ·exact ⟨a, rfl⟩
  obtain ⟨a1, e1⟩ := hsk
  rw [e1]
  have hlen : (tl s z.1.a).length = s.size - z.1.a := tl_len _ _
  have hsplit : (tl s z.1.a).take (z.1.e - z.1.a) ++ tl s z.1.e = tl s z.1.a := by
   have := List.take_append_drop (z.1.e - z.1.a) (tl s z.1.a)
   rw [tl_drop, show z.1.a + (z.1.e - z.1.a) = z.1.e by omega] at this
   exact this
  have hpl : ((tl s z.1.a).take (z.1.e - z.1.a)).length = z.1.e - z.1.a := by rw [List.length_take, hlen]; omega
  obtain ⟨p, hp⟩ : ∃ p, (tl s z.1.a).take (z.1.e - z.1.a) = p := ⟨_, rfl⟩
  rw [hp] at hsplit hpl ⊢
  have hone : oneL z.1.a (p ++ V) = some z.1 := oneL_next (u := tl s z.1.e) (by rw [hsplit, h1]; exact h3) (by rw [hpl]; omega) hv
  have h0 : oneL z.1.a (p ++ V) = (oneL 0 (p ++ V)).map (shx z.1.a) := by rw [← oneL_shift, Nat.zero_add]
  rw [hone] at h0
  obtain ⟨y, hy, hyz⟩ := Option.map_eq_some_iff.1 h0.symm
  have hone' : oneL a1 (p ++ V) = some (shx a1 y) := by
   have := oneL_shift 0 a1 (p ++ V)
   rw [Nat.zero_add, hy] at this
   exact this
  obtain ⟨q, hq⟩ : ∃ q, p = c :: q := by
   cases p with
   | nil => simp at hpl; omega
   | cons c' q => rw [h1] at hsplit; cases hsplit; exact ⟨q, rfl⟩
  subst hq
  have hb0 : blk false (c :: (q ++ V)) = 0 := by
   refine blk_next (u := tl s z.1.e) ?_ hv
   rw [← List.cons_append, hsplit, h1]; exact h2
  rw [List.cons_append] at hone' ⊢
  rw [tells_yes (x := shx a1 y) (by rw [hb0, List.drop_zero]) (by rw [hb0, Nat.add_zero]; exact hone')]
  have hye : y.e = z.1.e - z.1.a := by
   have := congrArg Lx.e hyz
   simp only [shx] at this
   omega
  have hdrop : (c :: (q ++ V)).drop ((shx a1 y).e - a1) = V := by
   rw [← List.cons_append, show (shx a1 y).e - a1 = (c :: q).length by simp only [shx]; rw [hpl]; omega, List.drop_left]
  rw [hdrop]
  refine ⟨⟨rfl, ?_, ?_⟩, ih _⟩
  ·rw [← hyz]; rfl
  ·rw [← hyz]; rfl
theorem rl_all : ∀ (X : List Lx) (U : List (Lx × Bool)), Rl X U → (∀ z ∈ U, z.2 = true) ∧ U.length = X.length
 | [], [], _ => ⟨fun z h => by simp at h, rfl⟩
 | x :: X, z :: U, h => by
  obtain ⟨h1, h2⟩ := rl_all X U h.2
  refine ⟨fun y hy => ?_, by simp [h2]⟩
  rcases List.mem_cons.1 hy with rfl | hy
  ·exact h.1.1
  ·exact h1 y hy
 | [], _ :: _, h => h.elim
 | _ :: _, [], h => h.elim
theorem rl_sx : ∀ (X : List Lx) (U : List (Lx × Bool)) (x y : Lx), x.k = y.k → x.t = y.t → Rl X U → Sx (fun _ _ => True) (X ++ [x]) (U.map Prod.fst ++ [y])
 | [], [], _, _, h1, h2, _ => ⟨⟨h1, h2, trivial⟩, trivial⟩
 | _ :: X, _ :: U, x, y, h1, h2, h => ⟨⟨h.1.2.1, h.1.2.2, trivial⟩, rl_sx X U x y h1 h2 h.2⟩
 | [], _ :: _, _, _, _, _, h => h.elim
 | _ :: _, [], _, _, _, _, h => h.elim
def spread (s : ByteArray) : ByteArray := spr s (lexT s) (lexT s).length ++ endB
theorem lex_ord {s : ByteArray} (hF : lexF s = none) : OrdX s.size 0 (lexT s) := tells_ord _ 0 (Nat.zero_le _) rfl (gth_none _ 0 hF).1
theorem spread_lex {s : ByteArray} (hs : s.size ≤ 750) (hF : lexF s = none) : (spread s).size ≤ 65536 ∧ lexF (spread s) = none ∧ So (fun _ _ => True) (lexR s) (lexR (spread s)) := by
 have hA := (gth_none _ 0 hF).1
 have hO := lex_ord hF
 have hl := lexT_le (s := s)
 have h1 := spr_size hO _ (Nat.le_refl _)
 have h2 := frm_le hO _ (Nat.le_refl _)
 have hT : tells 0 (tl (spread s) 0) = tells 9 (rst s 0 (lexT s)) := by
  have e := spr_rst s (lexT s) _ (Nat.le_refl _)
  rw [List.drop_length, rst] at e
  have : tl (spread s) 0 = firB.data.toList ++ rst s 0 (lexT s) := by
   rw [← e]; simp [tl, spread]
  rw [this, tells_skip 0 _ _ (blk_fir _)]
  rfl
 have hR := rst_tells (s := s) _ 0 9 (Nat.zero_le _) rfl hA
 rw [show (tells 0 (tl s 0)).map Prod.fst = lexT s from rfl, ← hT] at hR
 obtain ⟨h3, h4⟩ := rl_all _ _ hR
 refine ⟨?_, gth_ok _ 0 h3 (by rw [h4]; omega), rl_sx _ _ _ _ rfl rfl hR, (lexR_good (by omega) hF).1⟩
 unfold spread
 rw [ByteArray.size_append, show endB.size = 7 from rfl]
 omega
theorem parse_spread {s : ByteArray} (hs : s.size ≤ 750) (hF : lexF s = none) : (∃ a b, parseM s = .bad a ∧ parseM (spread s) = .bad b) ∨ (∃ x, parseM s = .ok x ∧ parseM (spread s) = .ok x) := by
 obtain ⟨h1, h2, h3⟩ := spread_lex hs hF
 have h4 := file_s h3 {}
 unfold parseM readM
 rw [if_neg (by omega), if_neg (by omega), hF, h2]
 dsimp only
 revert h4
 generalize (fileL (lexR s).length {} (lexR s)).bd endM = A
 generalize (fileL (lexR (spread s)).length {} (lexR (spread s))).bd endM = B
 intro h4
 cases A with
 | bad a =>
  cases B with
  | bad b => exact .inl ⟨a, b, rfl, rfl⟩
  | ok s r => exact h4.elim
 | ok x r =>
  cases B with
  | bad b => exact h4.elim
  | ok y r' =>
   obtain rfl := h4.1
   exact .inr ⟨_, rfl, rfl⟩
end
end Go.Proofs.YtoeodjobggodcaaGreatDoor
/- proctorlaw5.ParseSpread: the walk. -/
namespace Go.Proofs.YtoeodjobggodcaaGreatDoor
section
open Go.RowKit
theorem below_drewN' {a w : World} (h : Below a.heap.size a w) (n : Nat) : Below a.heap.size a (w.drewN n) := ⟨h.os, h.tape, h.output, h.size, h.block⟩
theorem spr_next {s : ByteArray} {X : List Lx} {n : Nat} (hn : n < X.length) : spr s X (n + 1) = (if frm X n < X[n].a then spr s X n ++ sepB else spr s X n) ++ s.extract X[n].a X[n].e := by
 rw [spr, List.getElem?_eq_getElem hn]
theorem frm_next {X : List Lx} {n : Nat} (hn : n < X.length) : frm X (n + 1) = X[n].e := by
 rw [frm, List.getElem?_eq_getElem hn]
set_option maxRecDepth 100000 in
set_option maxHeartbeats 8000000 in
theorem lawSpr {w : World} (hw : ErrW w) (l : List ByteArray) (sv : Value) (hl : Tv w l sv) :
  Calls Tryz.prog 7 #[sv] w fun e w' => e = .returned (.bool true) ∧ Below w.heap.size w w' := by
 have HT := Hid.intro hl
 have HP := fun (s : ByteArray) w' (h : ErrW w') => Hid.intro (parse_any s w' h.1 h.2)
 have HW := fun w' (h : ErrW w') => Hid.intro (wakes_any h)
 have HQ := fun w' => Hid.intro (eqBase_none w')
 have HE0 := Hid.intro hw
 obtain ⟨a0, cap, rfl, hc1, hc2⟩ := hl.form
 have hm : l.length ≤ 9223372036854775807 := Nat.le_trans hc1 (Nat.le_trans hc2 (by decide))
 clear hl hw
 go_enter Tryz.func7, Tryz.ntmps7
 go_wp2_with fail
 go_loopw [3] (fun i wr => ∃ k : Nat, i = .int .i64 (k : Int) ∧ k ≤ l.length ∧ Hid (Below w.heap.size w wr)) (fun i _ => l.length - (intOf i).toNat)
 case atStart => exact ⟨0, rfl, Nat.zero_le _, Below.refl _ _⟩
 case round =>
  obtain ⟨k, rfl, hk, HB⟩ := hrel
  have HE := Hid.intro (HE0.out.below HB.out)
  by_cases hlt : (k : Int) < (l.length : Int)
  ·by_cases h8 : (k : Int) < 6
   ·have hlt' : k < l.length := by omega
    obtain ⟨b, o, rfl, hc⟩ := (HT.out.below HB.out).cell hlt'
    have HC := Hid.intro (fun (w' : World) (h : Below w.heap.size w w') => ((HT.out.below h).cell hlt'))
    generalize hs : l[k] = s at hc HC
    by_cases hlong : (750 : Int) < (s.size : Int)
    ·go_wp2
     go_roundw
     case rel => exact ⟨k + 1, by go_num, hlt', HB⟩
     case measure => simp [intOf]; omega
    ·have hsz : s.size ≤ 750 := by omega
     have hbl : b < wr.heap.size := cell_lt hc
     cases hF : lexF s with
     | some a =>
      have HL := fun w => Hid.intro (lex_bad (s := s) (by omega) hF w)
      clear hF
      go_wp2_with fail
      refine (HL _).out.mono ?_
      rintro e w2 ⟨rfl, hb2⟩
      have HB2 := Hid.intro (HB.out.trans (hb2.mono HB.out.size))
      clear hb2
      go_wp2
      go_roundw
      case rel => exact ⟨k + 1, by go_num, hlt', HB2⟩
      case measure => simp [intOf]; omega
     | none =>
      have HL := fun w => Hid.intro (lex_ls (s := s) (by omega) hF w)
      have hps := parse_spread hsz hF
      have hO := lex_ord hF
      have hlen := lexT_le (s := s)
      have hsp : spread s = spr s (lexT s) (lexT s).length ++ endB := rfl
      generalize spread s = S at *
      generalize lexT s = X at *
      clear hF
      go_wp2_with fail
      refine (HL _).out.mono ?_
      rintro e w2 ⟨v2, rfl, HV2, HB2⟩
      have HB3 := Hid.intro (HB.out.trans (HB2.out.mono HB.out.size))
      have hcw2 := (HB2.out.cell (p := ⟨b, o + k, none⟩) hbl).trans hc
      obtain ⟨p2, cap2, rfl, hp2⟩ := HV2.out
      clear HV2 HB2
      have HP2 := Hid.intro hp2
      clear hp2
      go_wp2_with fail
      go_loopw [7, 8, 9] (fun t f i wr => ∃ n : Nat, t = .string (spr s X n) ∧ f = .int .i64 (frm X n : Int) ∧ i = .int .i64 (n : Int) ∧ n ≤ X.length ∧ Hid (Below w2.heap.size w2 wr)) (fun _ _ i _ => X.length - (intOf i).toNat)
      case atStart => exact ⟨0, rfl, rfl, rfl, Nat.zero_le _, Below.refl _ _⟩
      case round =>
       obtain ⟨n, rfl, rfl, rfl, hn, HB4⟩ := hrel
       have hz1 := spr_size hO n hn
       have hz2 := frm_le hO n hn
       by_cases hnl : (n : Int) < (X.length : Int)
       ·have hnl' : n < X.length := by omega
        obtain ⟨q1, q2, q3⟩ := ord_frm hO (List.getElem?_eq_getElem hnl')
        have e1 := spr_next (s := s) hnl'
        have e2 := frm_next hnl'
        obtain ⟨g2, rfl, -, hg2, hcl⟩ := HP2.out (by omega)
        obtain ⟨x0, x1, x2, x3⟩ := (hcl.below HB4.out hg2) n hnl'
        have hc4 := (HB4.out.cell (p := ⟨b, o + k, none⟩) (cell_lt hcw2)).trans hcw2
        clear hcl x0 x1
        generalize X[n].a = xa at *
        generalize X[n].e = xe at *
        have i1 : (xa : Int) ≤ (xe : Int) := by omega
        have i2 : (xe : Int) ≤ (s.size : Int) := by omega
        have i3 : (s.extract xa xe).size = xe - xa := by rw [ByteArray.size_extract]; omega
        by_cases hgap : (frm X n : Int) < (xa : Int)
        ·have hgap' : frm X n < xa := by omega
         rw [if_pos hgap'] at e1
         have z1 : ¬ 9223372036854775807 < (spr s X n).size + 7 := by omega
         have z2 : ¬ 9223372036854775807 < (spr s X n ++ sepB).size + (s.extract xa xe).size := by rw [i3, ByteArray.size_append, show sepB.size = 7 from rfl]; omega
         go_wp2_with fail
         go_quiet (fail)
         go_wp2_with fail
         go_roundw
         case rel => exact ⟨n + 1, by rw [e1]; rfl, by rw [e2], by go_num, hnl', below_drewN' HB4.out nq⟩
         case measure => simp [intOf]; omega
        ·have hgap' : ¬ frm X n < xa := by omega
         rw [if_neg hgap'] at e1
         have z2 : ¬ 9223372036854775807 < (spr s X n).size + (s.extract xa xe).size := by rw [i3]; omega
         go_wp2_with fail
         go_quiet (fail)
         go_wp2_with fail
         go_roundw
         case rel => exact ⟨n + 1, by rw [e1], by rw [e2], by go_num, hnl', below_drewN' HB4.out nq⟩
         case measure => simp [intOf]; omega
       ·obtain rfl : n = X.length := by omega
        have z1 : ¬ 9223372036854775807 < (spr s X X.length).size + 7 := by omega
        have hc4 := (HB4.out.cell (p := ⟨b, o + k, none⟩) (cell_lt hcw2)).trans hcw2
        have HB5 := Hid.intro (HB3.out.trans (HB4.out.mono HB3.out.size))
        have HE5 := Hid.intro (HE0.out.below HB5.out)
        have HP1 := HP s wr HE5.out
        have HPS : ∀ w', ErrW w' → Hid (Calls Tryz.prog 10 #[.string (spr s X X.length ++ ⟨#[32, 47, 47, 32, 101, 110, 100]⟩)] w' fun x w'_1 => Below w'.heap.size w' w'_1 ∧ ParP w'.heap.size w'_1 x (parseM S)) := fun w' h => by
         have := HP S w' h
         rw [hsp] at this ⊢
         exact this
        rcases hps with ⟨qa, qb, hpa, hpb⟩ | ⟨x, hpa, hpb⟩
        ·rw [hpa] at HP1
         rw [hpb] at HPS
         clear HP HC hsp hpa hpb hO hz1 hz2
         go_wp2_with fail
         refine HP1.out.mono ?_
         rintro e v1 ⟨hb1, rfl⟩
         have A1 := hb1.alloc hb1.size (.cells #[.slice none 0 0, .slice none 0 0, .slice none 0 0] 27)
         have X1 := heap_alloc_new v1 (.cells #[.slice none 0 0, .slice none 0 0, .slice none 0 0] 27)
         have HEa := HE5.out.below A1
         go_wp2_with fail
         refine (HPS _ HEa).out.mono ?_
         rintro e v2 ⟨hb2, rfl⟩
         have A2 := (A1.trans (hb2.mono A1.size)).alloc (A1.trans (hb2.mono A1.size)).size (.cells #[.slice none 0 0, .slice none 0 0, .slice none 0 0] 27)
         have X2 := row_call hb2 (by simp) X1
         have X3 := (heap_alloc_old v2 (.cells #[.slice none 0 0, .slice none 0 0, .slice none 0 0] 27) (Array.getElem?_eq_some_iff.1 X2).1).trans X2
         have Y3 := heap_alloc_new v2 (.cells #[.slice none 0 0, .slice none 0 0, .slice none 0 0] 27)
         have f0 : _ = some (Value.slice none 0 0) := (heap_cell X3 0).1
         have f1 : _ = some (Value.slice none 0 0) := (heap_cell X3 1).1
         have f2 : _ = some (Value.slice none 0 0) := (heap_cell X3 2).1
         have g0 : _ = some (Value.slice none 0 0) := (heap_cell Y3 0).1
         have g1 : _ = some (Value.slice none 0 0) := (heap_cell Y3 1).1
         have g2 : _ = some (Value.slice none 0 0) := (heap_cell Y3 2).1
         clear X1 X2 X3 Y3
         go_wp2_with fail
         refine (HQ _).out.mono ?_
         rintro e v3 ⟨rfl, hb3⟩
         have A3 := A2.trans (hb3.mono A2.size)
         go_wp2_with fail
         go_roundw
         case rel => exact ⟨k + 1, by go_num, hlt', HB5.out.trans (A3.mono HB5.out.size)⟩
         case measure => simp [intOf]; omega
        ·rw [hpa] at HP1
         rw [hpb] at HPS
         clear HP HC hsp hpa hpb hO hz1 hz2
         go_wp2_with fail
         refine HP1.out.mono ?_
         rintro e v1 ⟨hb1, v, rfl, x1, x2, x3, rfl, h1, h2, h3⟩
         have HX := Hid.intro (And.intro h1 (And.intro h2 h3))
         obtain ⟨p1, c1, rfl, -⟩ := sl_form h1
         obtain ⟨p2, c2, rfl, -⟩ := sl_form h2
         obtain ⟨p3, c3, rfl, -⟩ := sl_form h3
         clear h1 h2 h3
         have A1 := hb1.alloc hb1.size (.cells #[.slice p1 x.c.length c1, .slice p2 x.r.length c2, .slice p3 x.q.length c3] 27)
         have X1 := heap_alloc_new v1 (.cells #[.slice p1 x.c.length c1, .slice p2 x.r.length c2, .slice p3 x.q.length c3] 27)
         have HEa := HE5.out.below A1
         go_wp2_with fail
         refine (HPS _ HEa).out.mono ?_
         rintro e v2 ⟨hb2, v', rfl, y1, y2, y3, rfl, h1, h2, h3⟩
         have HY := Hid.intro (And.intro h1 (And.intro h2 h3))
         obtain ⟨q1, d1, rfl, -⟩ := sl_form h1
         obtain ⟨q2, d2, rfl, -⟩ := sl_form h2
         obtain ⟨q3, d3, rfl, -⟩ := sl_form h3
         clear h1 h2 h3
         have A2 := (A1.trans (hb2.mono A1.size)).alloc (A1.trans (hb2.mono A1.size)).size (.cells #[.slice q1 x.c.length d1, .slice q2 x.r.length d2, .slice q3 x.q.length d3] 27)
         have B2 : Below v1.heap.size v1 v2 := (below_al (Below.refl _ _) _).trans (hb2.mono (by simp))
         have B3 : Below v1.heap.size v1 (v2.alloc (.cells #[.slice q1 x.c.length d1, .slice q2 x.r.length d2, .slice q3 x.q.length d3] 27)) := B2.alloc B2.size _
         have B4 : Below v2.heap.size v2 (v2.alloc (.cells #[.slice q1 x.c.length d1, .slice q2 x.r.length d2, .slice q3 x.q.length d3] 27)) := below_al (Below.refl _ _) _
         have HEQ := Hid.intro (eqBase_any (x := x) ⟨_, _, _, rfl, HX.out.1.via B3, HX.out.2.1.via B3, HX.out.2.2.via B3⟩ ⟨_, _, _, rfl, HY.out.1.via B4, HY.out.2.1.via B4, HY.out.2.2.via B4⟩)
         have X2 := row_call hb2 (by simp) X1
         have X3 := (heap_alloc_old v2 (.cells #[.slice q1 x.c.length d1, .slice q2 x.r.length d2, .slice q3 x.q.length d3] 27) (Array.getElem?_eq_some_iff.1 X2).1).trans X2
         have Y3 := heap_alloc_new v2 (.cells #[.slice q1 x.c.length d1, .slice q2 x.r.length d2, .slice q3 x.q.length d3] 27)
         have f0 : _ = some (Value.slice p1 x.c.length c1) := (heap_cell X3 0).1
         have f1 : _ = some (Value.slice p2 x.r.length c2) := (heap_cell X3 1).1
         have f2 : _ = some (Value.slice p3 x.q.length c3) := (heap_cell X3 2).1
         have g0 : _ = some (Value.slice q1 x.c.length d1) := (heap_cell Y3 0).1
         have g1 : _ = some (Value.slice q2 x.r.length d2) := (heap_cell Y3 1).1
         have g2 : _ = some (Value.slice q3 x.q.length d3) := (heap_cell Y3 2).1
         clear X1 X2 X3 Y3 HX HY B2 B3 B4
         go_wp2_with fail
         refine HEQ.out.mono ?_
         rintro e v3 ⟨rfl, hb3⟩
         have A3 := A2.trans (hb3.mono A2.size)
         go_wp2_with fail
         go_roundw
         case rel => exact ⟨k + 1, by go_num, hlt', HB5.out.trans (A3.mono HB5.out.size)⟩
         case measure => simp [intOf]; omega
   ·go_wp2_with fail
    refine (HW _ HE.out).out.mono ?_
    rintro e w2 ⟨rfl, hb2⟩
    go_wp2
    go_ret
    exact ⟨rfl, HB.out.trans (hb2.mono HB.out.size)⟩
  ·go_wp2_with fail
   refine (HW _ HE.out).out.mono ?_
   rintro e w2 ⟨rfl, hb2⟩
   go_wp2
   go_ret
   exact ⟨rfl, HB.out.trans (hb2.mono HB.out.size)⟩
end
end Go.Proofs.YtoeodjobggodcaaGreatDoor
section
/- proctorlaw5.ParseSpread: it tells true; the listed variables are tied to the program's text. -/
namespace Go.Proofs.YtoeodjobggodcaaGreatDoor.pSpr
open Go.ChangeShapes Go.WideShapes Go.ChangeAt Go.RowKit Go.Proofs.YtoeodjobggodcaaGreatDoor Go.Proofs.YtoeodjobggodcaaGreatDoor.pLaid
theorem laidOut : laidOutB Tryz.prog = true := by kernel_rfl
theorem readable : Tryz.prog.readableRec 22 = true := by kernel_rfl
theorem inTypes : 22 < Tryz.prog.types.size := of_decide_eq_true (by kernel_rfl)
set_option maxRecDepth 100000 in
theorem contract (H : Type) (enc : TypeId × Value → H) (W : World) (base : Nat) (args : Array Value) (ds gs : List (DataW H)) (before : List MemPlace)
  (hval : ∀ (j : Nat) t v, Tryz.f7.params[j]? = some t → args[j]? = some v → Value.okWide Tryz.prog W .any base t v)
  (hL : laidMetH Tryz.prog Rows.parseSpreadRow.laid W) (hW : DataW.Whole enc Tryz.prog Tryz.f7.params.toList Rows.parseSpreadSpec.vars false W args.toList ds gs before) :
  Calls Tryz.prog 7 args W fun e W' => ∃ v, e = .returned v ∧ Rows.parseSpreadSpec.post enc Tryz.prog Tryz.f7 false true false false W args v W' := by
 have hW' := hW
 obtain ⟨p, q, hA0, hV, rfl, hfz, hnd⟩ := hW
 have hA : DataW.TrodAll enc Tryz.prog W 0 (fun _ => true) true Tryz.f7.params.toList args.toList ds p := hA0
 rw [Tryz.params7] at hA hval
 obtain ⟨v0, vs0, d0, ds0, p0, q0, hargs, rfl, rfl, h0, r0⟩ := trodAll_cons hA
 obtain ⟨rfl, rfl, rfl⟩ := trodAll_nil r0
 obtain rfl : args = #[v0] := by cases args; simp_all
 obtain ⟨rfl, rfl⟩ := trodVars_none hV
 simp only [List.append_nil] at hW'
 obtain ⟨a0, len, cap, rfl⟩ := okWide_slice Tryz.underlying22 (hval 0 22 v0 rfl rfl)
 have h0' := h0
 obtain ⟨fuel, hf⟩ := h0
 obtain ⟨l, sv, e, hl, -⟩ := read_strs fuel _ _ hf
 simp [Value.cells] at e
 subst e
 refine (lawSpr (pLaid.errW hL) l _ hl).mono fun e W' ⟨he, hb⟩ => ?_
 subst he
 have hlt : ∀ x ∈ p0, x.block < W.heap.size := fun x hx => hW'.lt x (by simpa using hx)
 exact ⟨_, rfl, _, _, _, [], p0 ++ [], [], hW', trodAll_cons_mk (shut_bool Tryz.underlying4 _) trodAll_mk0, trodAll_cons_mk (hb.trod laidOut readable inTypes h0' hlt) trodAll_mk0, rfl, hb.frame _, fun h => by cases h⟩
theorem reads (os : Os) {H : Type} (enc : TypeId × Value → H) : ∃ places, DataW.whole enc Tryz.prog ((lay (World.holding Tryz.prog os ⟨#[], #[.slice none 0 0], []⟩)).forCall (fun _ _ => 0) ⟨#[], #[.slice none 0 0], []⟩).memory Tryz.f7.params.toList Rows.parseSpreadSpec.vars false (#[.slice none 0 0] : Array Value).toList 8 = some ([.nil], [], places) :=
 ⟨[], by kernel_rfl⟩
set_option maxRecDepth 100000 in
theorem lifted (os : Os) (started : os.Started) (H : Type) (enc : TypeId × Value → H) (F : Stop.Interp) :
  ReturnsInHanded {} Tryz.checked os 7 .any ((OpenSpec.ofChange Rows.parseSpreadSpec).preRow enc Tryz.prog Tryz.f7 Rows.parseSpreadRow.domain false Rows.parseSpreadRow.laid) (((OpenSpec.ofChange Rows.parseSpreadSpec).at F).post enc Tryz.prog Tryz.f7 false true false false) := by
 obtain ⟨places, hx⟩ := reads os enc
 refine returnsInHanded_of_row (C := Tryz.checked) (s := OpenSpec.ofChange Rows.parseSpreadSpec) own started (by kernel_rfl) Tryz.func7
  (witness_row_atRef (enc := enc) (C := Tryz.checked) false (lay (World.holding Tryz.prog os ⟨#[], #[.slice none 0 0], []⟩)) #[.slice none 0 0] rfl (by kernel_rfl) (by kernel_rfl) (by kernel_rfl)
   (OpenSpec.preRow_of_cond 8 hx (by kernel_rfl) (fun k hk => by cases hk) (by kernel_rfl) (laid_met os))) ?_
 intro W base args ds gs before hval hW _ _ _ hL _ _
 exact contract H enc W base args ds gs before hval hL hW
theorem said : Rows.ParseSpreadSaid :=
 OpenClaim.holds_of_cond 7 Tryz.f7 rfl rfl rfl rfl rfl rfl rfl ⟨rfl, rfl, rfl, rfl, rfl⟩ rfl rfl rfl rfl rfl (by kernel_rfl) Tryz.func7 (by kernel_rfl)
  (of_decide_eq_true (by kernel_rfl)) (by unfold Func.isWrapper; first | (rw [if_pos (by decide +kernel)]; kernel_rfl) | (rw [if_neg (by decide +kernel)]; exact ⟨rfl, rfl⟩))
  (fun os started H enc _ F => by rw [OpenClaim.pre_eq_preRow]; exact lifted os started H enc F)
theorem plain (f : FuncId) (fn : Func) (hf : Tryz.pinned.checked.prog.funcNamed "proctor/proctorlaw5.ParseSpread" = some f) (hfn : Tryz.pinned.checked.prog.funcs[f]? = some fn) :
  true = Tryz.pinned.checked.prog.looks [] ∧ ∀ (j : Nat) t, fn.params[j]? = some t → Tryz.pinned.checked.prog.wantsStandIn t = false := by
 obtain rfl : f = 7 := Option.some.inj ((show Tryz.prog.funcNamed "proctor/proctorlaw5.ParseSpread" = some 7 by kernel_rfl).symm.trans hf) |>.symm
 obtain rfl : fn = Tryz.f7 := (Option.some.inj (Tryz.func7.symm.trans hfn)).symm
 refine ⟨by kernel_rfl, fun j t ht => ?_⟩
 rw [Tryz.params7] at ht
 have ht' : #[22][j]? = some t := ht
 cases j with
 | zero => obtain rfl : 22 = t := Option.some.inj ht'; (show Tryz.prog.wantsStandIn 22 = false; kernel_rfl)
 | succ j => simp at ht'
end Go.Proofs.YtoeodjobggodcaaGreatDoor.pSpr
namespace Go.Proofs.YtoeodjobggodcaaGreatDoor
theorem parseSpread_card : Rows.ParseSpreadCardSaid :=
 Claim7.holds_tied_plain_at .later [] _ _ _ _ pSpr.said (fun _ h => by cases h) (by kernel_rfl) (fun _ h => by cases h) parseSpread_row_tie rfl ⟨rfl, rfl⟩ (by kernel_rfl) rfl pSpr.plain (by kernel_rfl)
end Go.Proofs.YtoeodjobggodcaaGreatDoor
#print axioms Go.Proofs.YtoeodjobggodcaaGreatDoor.parseSpread_card
end
