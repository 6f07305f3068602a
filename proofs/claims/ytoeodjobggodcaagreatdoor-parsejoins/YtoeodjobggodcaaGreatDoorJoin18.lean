import Derived.Test.YtoeodjobggodcaaGreatDoorJoin17
import Derived.Test.YtoeodjobggodcaaGreatDoorJoin01
import Derived.Test.YtoeodjobggodcaaGreatDoorJoin15
import Derived.Test.YtoeodjobggodcaaGreatDoorJoin10
import Derived.Test.YtoeodjobggodcaaGreatDoorJoin16
/- Between lexemes stand blanks alone; a lexeme, read alone, is itself. -/
namespace Go.Proofs.YtoeodjobggodcaaGreatDoor
section
open Go.RowKit
theorem pre2_take {c : UInt8} {r : List UInt8} (h : pre2 (c :: r) = true) : ∃ r', c = 47 ∧ r = 47 :: r' := by
 cases r with
 | nil => cases h
 | cons d r => simp [pre2] at h; exact ⟨r, h.1, by rw [h.2]⟩
theorem blk_take : ∀ (l : List UInt8) (b : Bool), blk b (l.take (blk b l)) = blk b l
 | [], b => by cases b <;> rfl
 | c :: l, true => by
  rw [blk]
  by_cases hc : c = 10
  ·rw [if_pos hc, List.take_succ_cons, blk, if_pos hc, blk_take l false]
  ·rw [if_neg hc, List.take_succ_cons, blk, if_neg hc, blk_take l true]
 | c :: l, false => by
  rw [blk]
  by_cases hc : isBl c = true
  ·rw [if_pos hc, List.take_succ_cons, blk, if_pos hc, blk_take l false]
  ·rw [if_neg hc]
   by_cases hp : pre2 (c :: l) = true
   ·rw [if_pos hp, List.take_succ_cons, blk, if_neg hc]
    obtain ⟨r', rfl, rfl⟩ := pre2_take hp
    have i := blk_take (47 :: r') true
    rw [if_pos, i]
    rw [blk, if_neg (by decide), List.take_succ_cons]
    rfl
   ·rw [if_neg hp]; rfl
theorem blk_drop : ∀ (l : List UInt8) (b : Bool), l.drop (blk b l) ≠ [] → blk false (l.drop (blk b l)) = 0
 | [], b, h => by cases b <;> exact absurd rfl h
 | c :: l, true, h => by
  rw [blk] at h ⊢
  by_cases hc : c = 10
  ·rw [if_pos hc, List.drop_succ_cons] at h ⊢; exact blk_drop l false h
  ·rw [if_neg hc, List.drop_succ_cons] at h ⊢; exact blk_drop l true h
 | c :: l, false, h => by
  by_cases hc : isBl c = true
  ·rw [blk, if_pos hc, List.drop_succ_cons] at h ⊢; exact blk_drop l false h
  ·by_cases hp : pre2 (c :: l) = true
   ·rw [blk, if_neg hc, if_pos hp, List.drop_succ_cons] at h ⊢; exact blk_drop l true h
   ·have h0 : blk false (c :: l) = 0 := by rw [blk, if_neg hc, if_neg hp]
    rw [h0, List.drop_zero, h0]
theorem takeWhile_idem (p : UInt8 → Bool) : ∀ l : List UInt8, (l.takeWhile p).takeWhile p = l.takeWhile p
 | [] => rfl
 | c :: l => by
  cases h : p c with
  | true => rw [List.takeWhile_cons_of_pos h, List.takeWhile_cons_of_pos h, takeWhile_idem p l]
  | false => rw [List.takeWhile_cons_of_neg (by simp [h])]; rfl
theorem take_takeWhile (p : UInt8 → Bool) (l : List UInt8) : l.take (l.takeWhile p).length = l.takeWhile p := (List.prefix_iff_eq_take.1 (List.takeWhile_prefix p)).symm
theorem quo_take : ∀ (l : List UInt8) (p : List UInt8 × Nat), quo l = some p → quo (l.take p.2) = some p
 | [], p, h => by simp [quo] at h
 | [c], p, h => by
  by_cases h1 : c = 34
  ·subst h1; rw [quoL_q] at h; cases h; exact quoL_q _
  ·rw [quo, if_neg h1] at h; cases h
 | c :: d :: r, p, h => by
  by_cases h1 : c = 34
  ·subst h1; rw [quoL_q] at h; cases h; exact quoL_q _
  ·by_cases h2 : c < 32
   ·rw [quoL_low h2] at h; cases h
   ·by_cases h3 : c = 92
    ·subst h3
     cases he : escU d with
     | none => rw [quoL_esc_no he] at h; cases h
     | some x =>
      rw [quoL_esc he] at h
      obtain ⟨q, hq, rfl⟩ := Option.map_eq_some_iff.1 h
      simp only [List.take_succ_cons]
      rw [quoL_esc he, quo_take r q hq]; rfl
    ·rw [quoL_plain h1 h2 h3] at h
     obtain ⟨q, hq, rfl⟩ := Option.map_eq_some_iff.1 h
     have i := quo_take (d :: r) q hq
     simp only [List.take_succ_cons] at i ⊢
     rw [quoL_plain h1 h2 h3, i]; rfl
theorem take_cons_pos {c : UInt8} {r : List UInt8} {n : Nat} (h : 0 < n) : (c :: r).take n = c :: r.take (n - 1) := by
 obtain ⟨m, rfl⟩ : ∃ m, n = m + 1 := ⟨n - 1, by omega⟩
 rfl
theorem oneL_alone {a : Nat} {c : UInt8} {r : List UInt8} {x : Lx} (h : oneL a (c :: r) = some x) : oneL 0 ((c :: r).take (x.e - a)) = some ⟨x.k, x.t, 0, x.e - a⟩ := by
 have hp := oneL_pos h
 rw [take_cons_pos (by omega)]
 rw [oneL] at h ⊢
 split at h
 ·rename_i hc
  rw [if_pos hc]
  cases h
  simp only at hp ⊢
  rw [Nat.add_sub_cancel_left]
  have h1 := takeWhile_pos (r := r) (ch_of_let hc)
  rw [← take_cons_pos h1, take_takeWhile, takeWhile_idem]
  simp
 ·rename_i hc
  rw [if_neg hc]
  split at h
  ·rename_i hc2
   rw [if_pos hc2]
   cases h
   simp only at hp ⊢
   rw [Nat.add_sub_cancel_left]
   have h1 := takeWhile_pos (r := r) hc2
   rw [← take_cons_pos h1, take_takeWhile, takeWhile_idem]
   simp
  ·rename_i hc2
   rw [if_neg hc2]
   split at h
   ·rename_i hc3
    rw [if_pos hc3]
    cases r with
    | nil => cases h
    | cons d r =>
     unfold varL at h
     simp only at h
     split at h
     ·rename_i hd
      cases h
      simp only
      have h1 := takeWhile_pos (r := r) (ch_of_let hd)
      rw [show a + 1 + ((d :: r).takeWhile isCh).length - a - 1 = ((d :: r).takeWhile isCh).length by omega, take_takeWhile]
      have hdw : (d :: r).takeWhile isCh = d :: r.takeWhile isCh := List.takeWhile_cons_of_pos (ch_of_let hd)
      unfold varL
      rw [hdw]
      simp only
      rw [if_pos hd, ← hdw, takeWhile_idem]
      congr 2
      omega
     ·cases h
   ·rename_i hc3
    rw [if_neg hc3]
    split at h
    ·rename_i hc4
     rw [if_pos hc4]
     unfold quoL at h ⊢
     obtain ⟨q, hq, rfl⟩ := Option.map_eq_some_iff.1 h
     simp only
     rw [show a + 1 + q.2 - a - 1 = q.2 by omega, quo_take _ _ hq]
     simp only [Option.map_some]
     congr 2
     omega
    ·rename_i hc4
     rw [if_neg hc4]
     unfold markL at h ⊢
     simp only at h ⊢
     split at h
     ·rename_i ht
      cases h
      simp only
      rw [Nat.add_sub_cancel_left]
      cases r with
      | nil => simp [twoL] at ht
      | cons d r =>
       have ht' : twoL (c :: (d :: r).take (2 - 1)) = true := by
        simp [twoL] at ht ⊢; exact ht
       rw [if_pos ht']
       simp
     ·split at h
      ·rename_i hm
       cases h
       simp only
       rw [Nat.add_sub_cancel_left]
       have ht' : ¬ twoL (c :: r.take (1 - 1)) = true := by simp [twoL]
       rw [if_neg ht', if_pos hm, Nat.zero_add]
      ·cases h
theorem alone {a : Nat} {c : UInt8} {r : List UInt8} {x : Lx} (hb : blk false (c :: r) = 0) (h : oneL a (c :: r) = some x) : tells 0 ((c :: r).take (x.e - a)) = [(⟨x.k, x.t, 0, x.e - a⟩, true)] := by
 have hp := oneL_pos h
 have ho := oneL_alone h
 have hb' : blk false ((c :: r).take (x.e - a)) = 0 := by
  rw [take_cons_pos (by omega), blk]
  rw [blk] at hb
  by_cases h1 : isBl c = true
  ·rw [if_pos h1] at hb; omega
  ·rw [if_neg h1] at hb ⊢
   by_cases h2 : pre2 (c :: r) = true
   ·rw [if_pos h2] at hb; omega
   ·rw [if_neg]
    intro h3
    obtain ⟨r', rfl, h4⟩ := pre2_take h3
    apply h2
    cases r with
    | nil => simp at h4
    | cons d r =>
     have : d = 47 := by
      have := congrArg List.head? h4
      cases hn : x.e - a - 1 with
      | zero => rw [hn] at this; simp at this
      | succ n => rw [hn] at this; simpa using this
     subst this; rfl
 have e := take_cons_pos (c := c) (r := r) (n := x.e - a) (by omega)
 have := tells_yes (a := 0) (l := (c :: r).take (x.e - a)) (c := c) (r := r.take (x.e - a - 1)) (x := ⟨x.k, x.t, 0, x.e - a⟩) (by rw [hb', List.drop_zero, e]) (by rw [hb', Nat.add_zero, ← e]; exact ho)
 rw [this]
 simp only
 have hnil : ((c :: r).take (x.e - a)).drop (x.e - a - 0) = [] := List.drop_of_length_le (by rw [List.length_take]; omega)
 rw [hnil, tells_end rfl]
theorem tl_extract2 (s : ByteArray) (a b : Nat) : tl (s.extract a b) 0 = (tl s a).take (b - a) := by
 rw [bs_extract, tl_bs]
theorem place_end {s : ByteArray} {m : Nat} (h : tells m (tl s m) = []) : blk false (tl s m) = (tl s m).length := by
 have hle := blk_le false (tl s m)
 cases hd : (tl s m).drop (blk false (tl s m)) with
 | nil =>
  have := congrArg List.length hd
  rw [List.length_drop, List.length_nil] at this; omega
 | cons c r =>
  cases h1 : oneL (m + blk false (tl s m)) (c :: r) with
  | none => rw [tells_no hd h1] at h; cases h
  | some x => rw [tells_yes hd h1] at h; cases h
theorem place_next {s : ByteArray} {m : Nat} (hm : m ≤ s.size) (hs : s.size ≤ 4096) {x : Lx} {T : List (Lx × Bool)} (h : tells m (tl s m) = (x, true) :: T) :
  m ≤ x.a ∧ x.a < x.e ∧ x.e ≤ s.size ∧ blk false (tl (s.extract m x.a) 0) = (s.extract m x.a).size ∧ T = tells x.e (tl s x.e) ∧
  lexF (s.extract x.a x.e) = none ∧ lexT (s.extract x.a x.e) = [⟨x.k, x.t, 0, x.e - x.a⟩] := by
 have hle := blk_le false (tl s m)
 cases hd : (tl s m).drop (blk false (tl s m)) with
 | nil => rw [tells_end hd] at h; cases h
 | cons c r =>
  cases h1 : oneL (m + blk false (tl s m)) (c :: r) with
  | none => rw [tells_no hd h1] at h; cases h
  | some y =>
   rw [tells_yes hd h1] at h
   obtain ⟨e1, e2⟩ := List.cons.inj h
   have e1 := (Prod.mk.inj e1).1
   subst e1
   have hp := oneL_pos h1
   have hlc := congrArg List.length hd
   rw [List.length_drop, List.length_cons, tl_len] at hlc
   rw [List.length_cons] at hp
   obtain ⟨pa, pe, pl⟩ := hp
   have hb0 : blk false (c :: r) = 0 := by rw [← hd]; exact blk_drop _ _ (by rw [hd]; simp)
   have hal := alone hb0 h1
   have hex : tl (s.extract y.a y.e) 0 = (c :: r).take (y.e - (m + blk false (tl s m))) := by
    rw [tl_extract2, pa, ← hd, tl_drop]
   refine ⟨by omega, by omega, by omega, ?_, ?_, ?_, ?_⟩
   ·rw [tl_extract2, pa, Nat.add_sub_cancel_left, blk_take, ByteArray.size_extract]; omega
   ·rw [← e2, tl_drop]; congr 2; omega
   ·rw [lexF, hex, hal]; rfl
   ·rw [lexT, hex, hal, pa]; rfl
end
end Go.Proofs.YtoeodjobggodcaaGreatDoor
/- The parser goes by kinds and texts alone: lexemes at other places are read alike, and a fault stands at the place that goes with the other. -/
namespace Go.Proofs.YtoeodjobggodcaaGreatDoor
section
open Go.RowKit
def Sx (pl : Nat → Nat → Prop) : List Lx → List Lx → Prop
 | [], [] => True
 | x :: r, y :: s => (x.k = y.k ∧ x.t = y.t ∧ pl x.a y.a) ∧ Sx pl r s
 | _, _ => False
def So (pl : Nat → Nat → Prop) (r r' : List Lx) : Prop := Sx pl r r' ∧ Gd r
def SimR {σ : Type} (pl : Nat → Nat → Prop) (P : σ → σ → Prop) : Rs σ → Rs σ → Prop
 | .bad a, .bad b => pl a b
 | .ok s r, .ok t r' => P s t ∧ So pl r r'
 | _, _ => False
abbrev Sim {σ : Type} (pl : Nat → Nat → Prop) (a b : Rs σ) : Prop := SimR pl Eq a b
variable {pl : Nat → Nat → Prop}
theorem Sx.len : ∀ {r r' : List Lx}, Sx pl r r' → r'.length = r.length
 | [], [], _ => rfl
 | x :: r, y :: s, h => by simp [Sx.len h.2]
 | [], _ :: _, h => h.elim
 | _ :: _, [], h => h.elim
theorem So.len {r r' : List Lx} (h : So pl r r') : r'.length = r.length := h.1.len
theorem So.tail {x y : Lx} {r r' : List Lx} (h : So pl (x :: r) (y :: r')) (hk : x.k ≠ -1) : So pl r r' := by
 refine ⟨h.1.2, ?_⟩
 have h2 := h.2
 cases r with
 | nil => exact absurd h2 hk
 | cons y r => exact h2.2
theorem So.cases {r r' : List Lx} (h : So pl r r') : ∃ x s y t, r = x :: s ∧ r' = y :: t ∧ x.k = y.k ∧ x.t = y.t ∧ pl x.a y.a := by
 cases r with
 | nil => exact absurd h.2 (by simp [Gd])
 | cons x s =>
  cases r' with
  | nil => exact h.1.elim
  | cons y t => exact ⟨x, s, y, t, rfl, rfl, h.1.1.1, h.1.1.2.1, h.1.1.2.2⟩
theorem So.here {r r' : List Lx} (h : So pl r r') : pl (hA r) (hA r') := by
 obtain ⟨x, s, y, t, rfl, rfl, -, -, e⟩ := h.cases
 exact e
theorem SimR.bd {σ τ : Type} {P : σ → σ → Prop} {Q : τ → τ → Prop} {a b : Rs σ} {f g : σ → List Lx → Rs τ} (h : SimR pl P a b) (k : ∀ s t r r', P s t → So pl r r' → SimR pl Q (f s r) (g t r')) : SimR pl Q (a.bd f) (b.bd g) := by
 cases a with
 | bad a =>
  cases b with
  | bad b => exact h
  | ok s r => exact h.elim
 | ok s r =>
  cases b with
  | bad b => exact h.elim
  | ok t r' => exact k s t r r' h.1 h.2
theorem Sim.bd {σ τ : Type} {Q : τ → τ → Prop} {a b : Rs σ} {f g : σ → List Lx → Rs τ} (h : Sim pl a b) (k : ∀ s r r', So pl r r' → SimR pl Q (f s r) (g s r')) : SimR pl Q (a.bd f) (b.bd g) :=
 SimR.bd h fun s t r r' e h => by subst e; exact k s r r' h
theorem sim_if {σ : Type} {P : σ → σ → Prop} {c c' : Bool} (e : c' = c) {A A' B B' : Rs σ} (h1 : c = true → SimR pl P A A') (h2 : c = false → SimR pl P B B') : SimR pl P (if c = true then A else B) (if c' = true then A' else B') := by
 subst e
 cases h : c' with
 | true => simpa [h] using h1 h
 | false => simpa [h] using h2 h
theorem sok {σ : Type} {s : σ} {r r' : List Lx} (h : So pl r r') : Sim pl (.ok s r) (.ok s r') := ⟨rfl, h⟩
theorem isM_s {r r' : List Lx} (h : So pl r r') (s : ByteArray) : isM s r' = isM s r := by
 obtain ⟨x, a, y, b, rfl, rfl, e1, e2, -⟩ := h.cases
 simp [isM, spl, e1, e2]
theorem isK_s {r r' : List Lx} (h : So pl r r') (k : Int) : isK k r' = isK k r := by
 obtain ⟨x, a, y, b, rfl, rfl, e1, e2, -⟩ := h.cases
 simp [isK, e1]
theorem isVW_s {r r' : List Lx} (h : So pl r r') (s : ByteArray) : isVW s r' = isVW s r := by
 obtain ⟨x, a, y, b, rfl, rfl, e1, e2, -⟩ := h.cases
 have h2 := h.1.2
 cases a with
 | nil =>
  cases b with
  | nil => rfl
  | cons z b => exact h2.elim
 | cons w a =>
  cases b with
  | nil => exact h2.elim
  | cons z b => simp [isVW, spl, e1, h2.1.1, h2.1.2.1]
theorem opM_s {r r' : List Lx} (h : So pl r r') (n : Nat) : opM n r' = opM n r := by
 obtain ⟨x, a, y, b, rfl, rfl, e1, e2, -⟩ := h.cases
 simp [opM, e1, e2]
theorem So.tl {r r' : List Lx} {s : ByteArray} (h : So pl r r') (hm : isM s r = true) : So pl r.tail r'.tail := by
 obtain ⟨x, a, y, b, rfl, rfl, e1, e2, -⟩ := h.cases
 refine h.tail fun e => ?_
 simp [isM, spl, e] at hm
theorem take_s {r r' : List Lx} (h : So pl r r') (s : ByteArray) : Sim pl (takeM s r) (takeM s r') := by
 unfold takeM
 exact sim_if (isM_s h s) (fun hm => sok (h.tl hm)) (fun _ => h.here)
theorem push_s {r r' : List Lx} (h : So pl r r') (s : ByteArray) (o : Nat) : SimR pl (fun a b => pl a b ∧ o ≠ 30) (pushM s o r) (pushM s o r') := by
 unfold pushM
 rw [isM_s h s]
 split
 ·next hm => exact ⟨⟨h.here, hm.2⟩, h.tl hm.1⟩
 ·exact h.here
theorem name_s {r r' : List Lx} (h : So pl r r') : Sim pl (nameM r) (nameM r') := by
 obtain ⟨x, a, y, b, rfl, rfl, e1, e2, e3⟩ := h.cases
 simp only [nameM, ← e1, ← e2]
 split
 ·next hm => exact ⟨rfl, h.tail (by rw [hm.1]; decide)⟩
 ·exact e3
theorem var_s {r r' : List Lx} (h : So pl r r') : Sim pl (varM r) (varM r') := by
 obtain ⟨x, a, y, b, rfl, rfl, e1, e2, e3⟩ := h.cases
 simp only [varM, ← e1, ← e2]
 split
 ·next hm => exact ⟨rfl, h.tail (by rw [hm.1]; decide)⟩
 ·exact e3
theorem text_s {r r' : List Lx} (h : So pl r r') : Sim pl (textM r) (textM r') := by
 obtain ⟨x, a, y, b, rfl, rfl, e1, e2, e3⟩ := h.cases
 simp only [textM, ← e1, ← e2]
 split
 ·next hm => exact ⟨rfl, h.tail (by rw [hm]; decide)⟩
 ·exact e3
theorem num_s {r r' : List Lx} (h : So pl r r') (m : Nat) : Sim pl (numM m r) (numM m r') := by
 obtain ⟨x, a, y, b, rfl, rfl, e1, e2, e3⟩ := h.cases
 simp only [numM, ← e1, ← e2]
 split
 ·next hm => exact ⟨rfl, h.tail (by rw [hm.1]; decide)⟩
 ·exact e3
theorem within_s {σ : Type} {r r' : List Lx} (h : So pl r r') (a z : ByteArray) {o : Nat} (ho : o ≤ 30) {inner : List Lx → Rs σ} (hi : o + 1 ≤ 30 → ∀ r r', So pl r r' → Sim pl (inner r) (inner r')) : Sim pl (withinM a z o inner r) (withinM a z o inner r') := by
 unfold withinM
 exact (push_s h a o).bd fun s t r r' e h => (hi (by omega) r r' h).bd fun s r r' h => (take_s h z).bd fun _ r r' h => sok h
theorem commasL_s {σ : Type} {item : σ → List Lx → Rs σ} (hi : ∀ s r r', So pl r r' → Sim pl (item s r) (item s r')) : ∀ (f : Nat) (s : σ) (r r' : List Lx), So pl r r' → Sim pl (commasL item f s r) (commasL item f s r')
 | 0, s, r, r', h => sok h
 | f + 1, s, r, r', h => by
  unfold commasL
  exact sim_if (isM_s h _) (fun hm => (hi s _ _ (h.tl hm)).bd fun s r r' h => commasL_s hi f s r r' h) fun _ => sok h
theorem commas_s {σ : Type} {item : σ → List Lx → Rs σ} (hi : ∀ s r r', So pl r r' → Sim pl (item s r) (item s r')) (s : σ) (r r' : List Lx) (h : So pl r r') : Sim pl (commasM item s r) (commasM item s r') :=
 (hi s r r' h).bd fun s r r' h => by rw [h.len]; exact commasL_s hi _ s r r' h
theorem list_s {σ : Type} {r r' : List Lx} (h : So pl r r') (a z : ByteArray) {o : Nat} (ho : o ≤ 30) {item : σ → List Lx → Rs σ} (hi : o + 1 ≤ 30 → ∀ s r r', So pl r r' → Sim pl (item s r) (item s r')) (s : σ) : Sim pl (listM a z o item s r) (listM a z o item s r') := by
 refine within_s h a z ho fun ho r r' h => ?_
 exact sim_if (isM_s h _) (fun _ => sok h) fun _ => commas_s (hi ho) s r r' h
theorem node_s {r r' : List Lx} {a b : Nat} (ha : pl a b) (h : So pl r r') (e : Ex) (l : List Te) : Sim pl (nodeM a e l r) (nodeM b e l r') := by
 unfold nodeM
 split
 ·exact ha
 ·exact sok h
theorem op_tl {r r' : List Lx} {n : Nat} {op : Int} (h : So pl r r') (hm : opM n r = some op) : So pl r.tail r'.tail := by
 obtain ⟨x, a, y, b, rfl, rfl, e1, e2, -⟩ := h.cases
 refine h.tail fun e => ?_
 simp [opM, e] at hm
theorem levelL_s {N : List Lx → Rs Te} (hN : ∀ r r', So pl r r' → Sim pl (N r) (N r')) (n : Nat) : ∀ (f : Nat) (t : Te) (r r' : List Lx), So pl r r' → Sim pl (levelL N n f t r) (levelL N n f t r')
 | 0, t, r, r', h => sok h
 | f + 1, t, r, r', h => by
  unfold levelL
  rw [opM_s h n]
  split
  ·exact sok h
  ·next op hm =>
   refine (hN _ _ (op_tl h hm)).bd fun u q q' h' => (node_s h.here h' _ _).bd fun t r r' h => ?_
   split
   ·exact sok h
   ·exact levelL_s hN n f t r r' h
theorem level_s {S : Ps Te} {o : Nat} (hS : ∀ r r', So pl r r' → Sim pl (S o r) (S o r')) : ∀ (k : Nat) (r r' : List Lx), So pl r r' → Sim pl (levelM S o k r) (levelM S o k r')
 | 0, r, r', h => hS r r' h
 | k + 1, r, r', h => (level_s hS k r r' h).bd fun t r r' h => by rw [h.len]; exact levelL_s (level_s hS k) _ _ t r r' h
theorem post_s : ∀ (f : Nat) (t : Te) (r r' : List Lx), So pl r r' → Sim pl (postL f t r) (postL f t r')
 | 0, t, r, r', h => sok h
 | f + 1, t, r, r', h => by
  unfold postL
  exact sim_if (isM_s h _) (fun hm => (name_s (h.tl hm)).bd fun s q q' h' => (node_s h.here h' _ _).bd fun t r r' h => post_s f t r r' h) fun _ => sok h
theorem sign_s {A : Ps Te} {m : Nat} (hA : ∀ o r r', o ≤ 30 → m ≤ o → So pl r r' → Sim pl (A o r) (A o r')) : ∀ (f o : Nat) (r r' : List Lx), o ≤ 30 → m ≤ o → 32 ≤ f + o → So pl r r' → Sim pl (signM A f o r) (signM A f o r')
 | 0, o, r, r', ho, _, hf, _ => absurd hf (by omega)
 | f + 1, o, r, r', ho, hm', hf, h => by
  unfold signM
  refine sim_if (isM_s h _) (fun _ => ?_) fun _ => sim_if (isM_s h _) (fun _ => ?_) fun _ => ?_
  ·exact (push_s h _ o).bd fun a b q q' e hq => (sign_s hA f (o + 1) q q' (by omega) (by omega) (by omega) hq).bd fun t r r' h' => node_s e.1 h' _ _
  ·exact (push_s h _ o).bd fun a b q q' e hq => (sign_s hA f (o + 1) q q' (by omega) (by omega) (by omega) hq).bd fun t r r' h' => node_s e.1 h' _ _
  ·exact (hA o r r' ho hm' h).bd fun t r r' h => by rw [h.len]; exact post_s _ t r r' h
theorem paren_s {r r' : List Lx} (h : So pl r r') {T : Ps Te} {o : Nat} (ho : o ≤ 30) (hT : o + 1 ≤ 30 → ∀ r r', So pl r r' → Sim pl (T (o + 1) r) (T (o + 1) r')) : Sim pl (parenM T o r) (parenM T o r') := within_s h _ _ ho hT
theorem atom_s {r r' : List Lx} (h : So pl r r') {T : Ps Te} {o : Nat} (ho : o ≤ 30) (hT : o + 1 ≤ 30 → ∀ r r', So pl r r' → Sim pl (T (o + 1) r) (T (o + 1) r')) : Sim pl (atomM T o r) (atomM T o r') := by
 unfold atomM
 refine sim_if (isK_s h _) (fun _ => (num_s h _).bd fun _ r r' h => sok h) fun _ => ?_
 refine sim_if (isK_s h _) (fun _ => (text_s h).bd fun _ r r' h => sok h) fun _ => ?_
 refine sim_if (isM_s h _) (fun hm => sok (h.tl hm)) fun _ => ?_
 refine sim_if (isM_s h _) (fun hm => sok (h.tl hm)) fun _ => ?_
 refine sim_if (isM_s h _) (fun hm => sok (h.tl hm)) fun _ => ?_
 refine sim_if (isK_s h _) (fun _ => (var_s h).bd fun _ r r' h => sok h) fun _ => ?_
 refine sim_if (isM_s h _) (fun _ => paren_s h ho hT) fun _ => ?_
 refine sim_if (isM_s h _) (fun _ => ?_) fun _ => ?_
 ·unfold valuesM
  refine Sim.bd (list_s h _ _ ho (fun ho l r r' h => ?_) []) fun l q q' h' => node_s h.here h' _ _
  exact (hT ho r r' h).bd fun t r r' h => sok h
 refine sim_if (isM_s h _) (fun hm => (paren_s (h.tl hm) ho hT).bd fun t q q' h' => node_s h.here h' _ _) fun _ => ?_
 refine sim_if (isM_s h _) (fun hm => ?_) fun _ => (name_s h).bd fun _ r r' h => sok h
 unfold hasM
 refine Sim.bd (within_s (h.tl hm) _ _ ho fun ho r r' h => ?_) fun p q q' h' => node_s h.here h' _ _
 exact (hT ho r r' h).bd fun l r r' h => (take_s h _).bd fun _ r r' h => (hT ho r r' h).bd fun v r r' h => sok h
theorem tree_s : ∀ (f o : Nat) (r r' : List Lx), o ≤ 30 → 31 ≤ f + o → So pl r r' → Sim pl (treeM f o r) (treeM f o r')
 | 0, o, r, r', ho, hf, _ => absurd hf (by omega)
 | f + 1, o, r, r', ho, hf, h => by
  unfold treeM
  refine level_s (fun r r' h => ?_) 5 r r' h
  have : ∀ o' r r', o' ≤ 30 → o ≤ o' → So pl r r' → Sim pl (atomM (treeM f) o' r) (atomM (treeM f) o' r') := fun o' r r' ho' hle h => atom_s h ho' fun hh r r' h => tree_s f (o' + 1) r r' hh (by omega) h
  exact sign_s this 32 o r r' ho (Nat.le_refl _) (by omega) h
theorem expr_s {r r' : List Lx} (h : So pl r r') {o : Nat} (ho : o ≤ 30) : Sim pl (exprM o r) (exprM o r') := tree_s _ o r r' ho (by omega) h
theorem any_s {r r' : List Lx} (h : So pl r r') : ∀ (l : List ByteArray), (l.any fun s => isM s r') = l.any fun s => isM s r
 | [] => rfl
 | s :: l => by rw [List.any_cons, List.any_cons, isM_s h, any_s h l]
theorem condsL_s {C : List Lx → Rs Cd} (hC : ∀ r r', So pl r r' → Sim pl (C r) (C r')) (ends : List ByteArray) : ∀ (f : Nat) (l : List Cd) (r r' : List Lx), So pl r r' → Sim pl (condsL C ends f l r) (condsL C ends f l r')
 | 0, l, r, r', h => sok h
 | f + 1, l, r, r', h => by
  unfold condsL
  exact sim_if (any_s h ends) (fun _ => sok h) fun _ => (hC r r' h).bd fun c r r' h => condsL_s hC ends f _ r r' h
theorem conds_s {r r' : List Lx} (h : So pl r r') {C : List Lx → Rs Cd} (hC : ∀ r r', So pl r r' → Sim pl (C r) (C r')) (ends : List ByteArray) : Sim pl (condsM C ends r) (condsM C ends r') :=
 (hC r r' h).bd fun _ r r' h => by rw [h.len]; exact condsL_s hC ends _ _ r r' h
theorem block_s {r r' : List Lx} (h : So pl r r') {C : Ps Cd} {o : Nat} (ho : o ≤ 30) (hC : o + 1 ≤ 30 → ∀ r r', So pl r r' → Sim pl (C (o + 1) r) (C (o + 1) r')) : Sim pl (blockM C o r) (blockM C o r') := within_s h _ _ ho fun ho _ _ h => conds_s h (hC ho) _
theorem bind_s {r r' : List Lx} (h : So pl r r') : Sim pl (bindM r) (bindM r') := by
 unfold bindM
 exact (var_s h).bd fun v r r' h => (take_s h _).bd fun _ r r' h => (name_s h).bd fun f r r' h => sok h
theorem pattern_s {r r' : List Lx} (h : So pl r r') (v : ByteArray) {o : Nat} (ho : o ≤ 30) : Sim pl (patternM v o r) (patternM v o r') := by
 unfold patternM
 refine (name_s h).bd fun c r r' h => Sim.bd (list_s h _ _ ho (fun ho p r r' h => ?_) _) fun p r r' h => sok h
 exact sim_if (isVW_s h _) (fun _ => (bind_s h).bd fun b r r' h => sok h) fun _ => (expr_s h ho).bd fun t r r' h => sok h
theorem ofVar_s {r r' : List Lx} (h : So pl r r') {o : Nat} (ho : o ≤ 30) : Sim pl (ofVarM o r) (ofVarM o r') := by
 unfold ofVarM
 refine (var_s h).bd fun v r r' h => ?_
 exact sim_if (isM_s h _) (fun hm => pattern_s (h.tl hm) v ho) fun _ => (take_s h _).bd fun _ r r' h => (expr_s h ho).bd fun t r r' h => sok h
theorem forall_s {r r' : List Lx} (h : So pl r r') {C : Ps Cd} {o : Nat} (ho : o ≤ 30) (hC : o + 1 ≤ 30 → ∀ r r', So pl r r' → Sim pl (C (o + 1) r) (C (o + 1) r')) : Sim pl (forallM C o r) (forallM C o r') := by
 unfold forallM
 exact within_s h _ _ ho fun ho r r' h => (conds_s h (hC ho) _).bd fun l r r' h => (take_s h _).bd fun _ r r' h => (conds_s h (hC ho) _).bd fun t r r' h => sok h
theorem orL_s {C : List Lx → Rs Cd} (hC : ∀ r r', So pl r r' → Sim pl (C r) (C r')) : ∀ (f : Nat) (l : List (List Cd)) (r r' : List Lx), So pl r r' → Sim pl (orL C f l r) (orL C f l r')
 | 0, l, r, r', h => sok h
 | f + 1, l, r, r', h => by
  unfold orL
  exact sim_if (isM_s h _) (fun hm => (conds_s (h.tl hm) hC _).bd fun c r r' h => orL_s hC f _ r r' h) fun _ => sok h
theorem or_s {r r' : List Lx} (h : So pl r r') {C : Ps Cd} {o : Nat} (ho : o ≤ 30) (hC : o + 1 ≤ 30 → ∀ r r', So pl r r' → Sim pl (C (o + 1) r) (C (o + 1) r')) : Sim pl (orM C o r) (orM C o r') := by
 unfold orM
 exact Sim.bd (within_s h _ _ ho fun ho r r' h => (conds_s h (hC ho) _).bd fun l r r' h => by rw [h.len]; exact orL_s (hC ho) _ _ r r' h) fun l r r' h => sok h
theorem fn_s {r r' : List Lx} (h : So pl r r') : Sim pl (fnM r) (fnM r') := by
 unfold fnM
 refine sim_if (isM_s h _) (fun hm => ?_) fun _ => name_s h
 have ht := h.tl hm
 obtain ⟨x, a, y, b, rfl, rfl, e1, e2, -⟩ := h.cases
 exact ⟨e2, ht⟩
theorem acc_s {r r' : List Lx} (h : So pl r r') {C : Ps Cd} {o : Nat} (ho : o ≤ 30) (hC : o + 1 ≤ 30 → ∀ r r', So pl r r' → Sim pl (C (o + 1) r) (C (o + 1) r')) : Sim pl (accM C o r) (accM C o r') := by
 unfold accM
 exact within_s h _ _ ho fun ho r r' h => (var_s h).bd fun v r r' h => (take_s h _).bd fun _ r r' h => (fn_s h).bd fun f r r' h => (paren_s h ho fun ho r r' h => expr_s h ho).bd fun t r r' h => (take_s h _).bd fun _ r r' h => (conds_s h (hC ho) _).bd fun l r r' h => sok h
theorem arg_s {r r' : List Lx} (h : So pl r r') {o : Nat} (ho : o ≤ 30) : Sim pl (argM o r) (argM o r') := by
 unfold argM
 exact sim_if (isVW_s h _) (fun _ => (var_s h).bd fun v r r' h => (take_s h _).bd fun _ r r' h => sok h) fun _ => (expr_s h ho).bd fun t r r' h => sok h
theorem question_s {r r' : List Lx} (h : So pl r r') {o : Nat} (ho : o ≤ 30) : Sim pl (questionM o r) (questionM o r') := by
 unfold questionM
 refine (name_s h).bd fun s r r' h => Sim.bd (list_s h _ _ ho (fun ho l r r' h => ?_) _) fun l r r' h => sok h
 exact (arg_s h ho).bd fun a r r' h => sok h
theorem cond_s : ∀ (f o : Nat) (r r' : List Lx), o ≤ 30 → 31 ≤ f + o → So pl r r' → Sim pl (condM f o r) (condM f o r')
 | 0, o, r, r', ho, hf, _ => absurd hf (by omega)
 | f + 1, o, r, r', ho, hf, h => by
  have hC : o + 1 ≤ 30 → ∀ r r', So pl r r' → Sim pl (condM f (o + 1) r) (condM f (o + 1) r') := fun hh r r' h => cond_s f (o + 1) r r' hh (by omega) h
  unfold condM
  refine sim_if (isK_s h _) (fun _ => ofVar_s h ho) fun _ => ?_
  refine sim_if (isM_s h _) (fun hm => (block_s (h.tl hm) ho hC).bd fun l r r' h => sok h) fun _ => ?_
  refine sim_if (isM_s h _) (fun hm => (block_s (h.tl hm) ho hC).bd fun l r r' h => sok h) fun _ => ?_
  refine sim_if (isM_s h _) (fun hm => forall_s (h.tl hm) ho hC) fun _ => ?_
  refine sim_if (isM_s h _) (fun _ => or_s h ho hC) fun _ => ?_
  refine sim_if (isM_s h _) (fun hm => (paren_s (h.tl hm) ho fun ho r r' h => expr_s h ho).bd fun t r r' h => sok h) fun _ => ?_
  refine sim_if (isM_s h _) (fun hm => acc_s (h.tl hm) ho hC) fun _ => ?_
  exact sim_if (isM_s h _) (fun hm => question_s (h.tl hm) ho) fun _ => pattern_s h _ ho
theorem assign_s {r r' : List Lx} (h : So pl r r') {o : Nat} (ho : o ≤ 30) : Sim pl (assignM o r) (assignM o r') := by
 unfold assignM
 exact (name_s h).bd fun f r r' h => (take_s h _).bd fun _ r r' h => (expr_s h ho).bd fun t r r' h => sok h
theorem ass_s {r r' : List Lx} (h : So pl r r') {o : Nat} (ho : o ≤ 30) (l : List As) : Sim pl (assM o l r) (assM o l r') := by
 unfold assM
 exact (assign_s h ho).bd fun a r r' h => sok h
theorem ins_s {r r' : List Lx} (h : So pl r r') (k : Int) : Sim pl (insM k r) (insM k r') := by
 unfold insM
 exact (name_s h).bd fun c r r' h => Sim.bd (list_s h _ _ (by omega) (fun _ l r r' h => ass_s h (by omega) l) _) fun l r r' h => sok h
theorem upd_s {r r' : List Lx} (h : So pl r r') : Sim pl (updM r) (updM r') := by
 unfold updM
 exact (expr_s h (by omega)).bd fun t r r' h => Sim.bd (within_s h _ _ (by omega) fun _ r r' h => commas_s (fun l r r' h => ass_s h (by omega) l) _ r r' h) fun l r r' h => sok h
theorem deed_s {r r' : List Lx} (h : So pl r r') : Sim pl (deedM r) (deedM r') := by
 unfold deedM
 refine sim_if (isM_s h _) (fun hm => ins_s (h.tl hm) _) fun _ => ?_
 refine sim_if (isM_s h _) (fun hm => ins_s (h.tl hm) _) fun _ => ?_
 refine sim_if (isM_s h _) (fun hm => upd_s (h.tl hm)) fun _ => ?_
 refine sim_if (isM_s h _) (fun hm => (expr_s (h.tl hm) (by omega)).bd fun t r r' h => sok h) fun _ => ?_
 refine sim_if (isM_s h _) (fun hm => (text_s (h.tl hm)).bd fun t r r' h => sok h) fun _ => ?_
 exact sim_if (isM_s h _) (fun hm => (expr_s (h.tl hm) (by omega)).bd fun t r r' h => sok h) fun _ => (take_s h _).bd fun t r r' h => sok h
theorem action_s {r r' : List Lx} (h : So pl r r') : Sim pl (actionM r) (actionM r') := by
 unfold actionM
 exact (deed_s h).bd fun a r r' h => (take_s h _).bd fun _ r r' h => sok h
theorem field_s {r r' : List Lx} (h : So pl r r') : Sim pl (fieldM r) (fieldM r') := by
 unfold fieldM
 refine (name_s h).bd fun n r r' h => (take_s h _).bd fun _ r r' h => ?_
 refine sim_if (isM_s h _) (fun hm => sok (h.tl hm)) fun _ => ?_
 refine sim_if (isM_s h _) (fun hm => sok (h.tl hm)) fun _ => ?_
 refine sim_if (isM_s h _) (fun hm => sok (h.tl hm)) fun _ => ?_
 refine sim_if (isM_s h _) (fun hm => sok (h.tl hm)) fun _ => ?_
 refine sim_if (isM_s h _) (fun hm => sok (h.tl hm)) fun _ => ?_
 exact sim_if (isM_s h _) (fun hm => (name_s (h.tl hm)).bd fun c r r' h => sok h) fun _ => h.here
theorem fieldsL_s : ∀ (f : Nat) (l : List Fd) (r r' : List Lx), So pl r r' → Sim pl (fieldsL f l r) (fieldsL f l r')
 | 0, l, r, r', h => sok h
 | f + 1, l, r, r', h => by
  unfold fieldsL
  refine sim_if (isM_s h _) (fun _ => sok h) fun _ => ?_
  refine Sim.bd (field_s ?_) fun x r r' h => fieldsL_s f _ r r' h
  rw [isM_s h]
  split
  ·next hm => exact h.tl hm.2
  ·exact h
theorem class_s {r r' : List Lx} (h : So pl r r') : Sim pl (classM r) (classM r') := by
 unfold classM
 refine (name_s h).bd fun n r r' h => Sim.bd ?_ fun s r r' h => Sim.bd (within_s h _ _ (by omega) fun _ r r' h => by rw [h.len]; exact fieldsL_s _ _ r r' h) fun l r r' h => sok h
 exact sim_if (isM_s h _) (fun hm => name_s (h.tl hm)) fun _ => sok h
theorem sal_s {r r' : List Lx} (h : So pl r r') : Sim pl (salM r) (salM r') := by
 unfold salM
 exact sim_if (isM_s h _) (fun hm => (num_s (h.tl hm) _).bd fun n r r' h => sok h) fun _ => (num_s h _).bd fun n r r' h => sok h
theorem attrsL_s : ∀ (f : Nat) (u : Ru) (r r' : List Lx), So pl r r' → Sim pl (attrsL f u r) (attrsL f u r')
 | 0, u, r, r', h => sok h
 | f + 1, u, r, r', h => by
  unfold attrsL
  refine sim_if (isM_s h _) (fun hm => (sal_s (h.tl hm)).bd fun i r r' h => attrsL_s f _ r r' h) fun _ => ?_
  refine sim_if (isM_s h _) (fun hm => (text_s (h.tl hm)).bd fun i r r' h => attrsL_s f _ r r' h) fun _ => ?_
  refine sim_if (isM_s h _) (fun hm => (text_s (h.tl hm)).bd fun i r r' h => attrsL_s f _ r r' h) fun _ => ?_
  refine sim_if (isM_s h _) (fun hm => attrsL_s f _ _ _ (h.tl hm)) fun _ => ?_
  exact sim_if (isM_s h _) (fun hm => attrsL_s f _ _ _ (h.tl hm)) fun _ => sok h
theorem untilL_s {σ : Type} (z : ByteArray) {item : List Lx → Rs σ} (hi : ∀ r r', So pl r r' → Sim pl (item r) (item r')) : ∀ (f : Nat) (l : List σ) (r r' : List Lx), So pl r r' → Sim pl (untilL z item f l r) (untilL z item f l r')
 | 0, l, r, r', h => sok h
 | f + 1, l, r, r', h => by
  unfold untilL
  exact sim_if (isM_s h _) (fun hm => sok (h.tl hm)) fun _ => (hi r r' h).bd fun x r r' h => untilL_s z hi f _ r r' h
theorem until_s {σ : Type} {r r' : List Lx} (h : So pl r r') (z : ByteArray) {item : List Lx → Rs σ} (hi : ∀ r r', So pl r r' → Sim pl (item r) (item r')) : Sim pl (untilL z item r.length [] r) (untilL z item r'.length [] r') := by
 rw [h.len]; exact untilL_s z hi _ _ r r' h
theorem rule_s {r r' : List Lx} (h : So pl r r') : Sim pl (ruleM r) (ruleM r') := by
 unfold ruleM
 refine (text_s h).bd fun n r r' h => Sim.bd (by rw [h.len]; exact attrsL_s _ _ r r' h) fun u r r' h => (take_s h _).bd fun _ r r' h => ?_
 exact (until_s h _ fun r r' h => cond_s 31 0 r r' (by omega) (by omega) h).bd fun l r r' h => (until_s h _ fun r r' h => action_s h).bd fun t r r' h => sok h
theorem query_s {r r' : List Lx} (h : So pl r r') : Sim pl (queryM r) (queryM r') := by
 unfold queryM
 refine (name_s h).bd fun n r r' h => Sim.bd (list_s h _ _ (by omega) (fun _ l r r' h => ?_) _) fun p r r' h => (until_s h _ fun r r' h => cond_s 31 0 r r' (by omega) (by omega) h).bd fun l r r' h => sok h
 exact (var_s h).bd fun s r r' h => sok h
theorem fileL_s : ∀ (f : Nat) (b : Bs) (r r' : List Lx), So pl r r' → Sim pl (fileL f b r) (fileL f b r')
 | 0, b, r, r', h => sok h
 | f + 1, b, r, r', h => by
  unfold fileL
  refine sim_if (isK_s h _) (fun _ => sok h) fun _ => ?_
  refine sim_if (isM_s h _) (fun hm => (class_s (h.tl hm)).bd fun c r r' h => fileL_s f _ r r' h) fun _ => ?_
  refine sim_if (isM_s h _) (fun hm => (rule_s (h.tl hm)).bd fun c r r' h => fileL_s f _ r r' h) fun _ => ?_
  exact sim_if (isM_s h _) (fun hm => (query_s (h.tl hm)).bd fun c r r' h => fileL_s f _ r r' h) fun _ => h.here
theorem file_s {r r' : List Lx} (h : So pl r r') (b : Bs) : Sim pl ((fileL r.length b r).bd endM) ((fileL r'.length b r').bd endM) := by
 rw [h.len]
 refine (fileL_s _ b r r' h).bd fun x r r' h => ?_
 unfold endM
 exact sim_if (isK_s h _) (fun _ => sok h) fun _ => h.here
end
end Go.Proofs.YtoeodjobggodcaaGreatDoor
/- What stands behind a declaration is not looked at. -/
namespace Go.Proofs.YtoeodjobggodcaaGreatDoor
section
open Go.RowKit
variable {z : Lx} {R : List Lx}
def Ee {σ : Type} (z : Lx) (R : List Lx) (n : Nat) (q : List Lx) (a b : Rs σ) : Prop :=
 ∀ s r, a = .ok s r → ∃ q', q'.length + n ≤ q.length ∧ q' <:+ q ∧ r = q' ++ [z] ∧ (q' ≠ [] → b = .ok s (q' ++ R))
def Ff {σ : Type} (z : Lx) (R : List Lx) (q : List Lx) (a b : Rs σ) : Prop :=
 ∀ s r, a = .ok s r → ∃ q', q'.length + 1 ≤ q.length ∧ q' <:+ q ∧ r = q' ++ [z] ∧ b = .ok s (q' ++ R)
theorem Ff.e {σ : Type} {q : List Lx} {a b : Rs σ} (h : Ff z R q a b) : Ee z R 1 q a b := fun s r e => by
 obtain ⟨q', h1, h2, h3, h4⟩ := h s r e
 exact ⟨q', h1, h2, h3, fun _ => h4⟩
theorem Ee.le {σ : Type} {n k : Nat} {q : List Lx} {a b : Rs σ} (h : Ee z R n q a b) (hk : k ≤ n) : Ee z R k q a b := fun s r e => by
 obtain ⟨q', h1, h2, h3, h4⟩ := h s r e
 exact ⟨q', by omega, h2, h3, h4⟩
theorem Ee.tl {σ : Type} {n k : Nat} {x : Lx} {q : List Lx} {a b : Rs σ} (h : Ee z R n q a b) (hk : k ≤ n + 1) : Ee z R k (x :: q) a b := fun s r e => by
 obtain ⟨q', h1, h2, h3, h4⟩ := h s r e
 exact ⟨q', by rw [List.length_cons]; omega, h2.trans (List.suffix_cons x q), h3, h4⟩
theorem suf_nil {q' q : List Lx} (h : q' <:+ q) (hq : q' ≠ []) : q ≠ [] := by
 rintro rfl
 exact hq (List.eq_nil_of_suffix_nil h)
theorem Ee.bd {σ τ : Type} {n m k : Nat} {q : List Lx} {a b : Rs σ} {f g : σ → List Lx → Rs τ} (h : Ee z R n q a b) (hk : k ≤ n + m) (hf : ∀ s q', q' <:+ q → Ee z R m q' (f s (q' ++ [z])) (g s (q' ++ R))) : Ee z R k q (a.bd f) (b.bd g) := by
 intro s r e
 cases a with
 | bad p => cases e
 | ok s1 r1 =>
  obtain ⟨q1, h1, h2, rfl, h4⟩ := h s1 r1 rfl
  obtain ⟨q2, k1, k2, k3, k4⟩ := hf s1 q1 h2 s r e
  refine ⟨q2, by omega, k2.trans h2, k3, fun hq => ?_⟩
  rw [h4 (suf_nil k2 hq)]
  exact k4 hq
theorem Ee.fd {σ τ : Type} {n : Nat} {q : List Lx} {a b : Rs σ} {f g : σ → List Lx → Rs τ} (h : Ee z R n q a b) (hf : ∀ s q', q' <:+ q → Ff z R q' (f s (q' ++ [z])) (g s (q' ++ R))) : Ff z R q (a.bd f) (b.bd g) := by
 intro s r e
 cases a with
 | bad p => cases e
 | ok s1 r1 =>
  obtain ⟨q1, h1, h2, rfl, h4⟩ := h s1 r1 rfl
  obtain ⟨q2, k1, k2, k3, k4⟩ := hf s1 q1 h2 s r e
  refine ⟨q2, by omega, k2.trans h2, k3, ?_⟩
  rw [h4 (fun e => by subst e; simp at k1)]
  exact k4
theorem Ff.map {σ τ : Type} {q : List Lx} {a b : Rs σ} {f : σ → τ} (h : Ff z R q a b) : Ff z R q (a.bd fun s r => .ok (f s) r) (b.bd fun s r => .ok (f s) r) := by
 intro s r e
 cases a with
 | bad p => cases e
 | ok s1 r1 =>
  obtain ⟨q1, h1, h2, rfl, h4⟩ := h s1 r1 rfl
  cases e
  exact ⟨q1, h1, h2, rfl, by rw [h4]; rfl⟩
theorem eok {σ : Type} {s : σ} {q : List Lx} : Ee z R 0 q (.ok s (q ++ [z])) (.ok s (q ++ R)) := fun s r e => by
 cases e; exact ⟨q, Nat.le_refl _, List.suffix_refl _, rfl, fun _ => rfl⟩
theorem ebad {σ : Type} {n a : Nat} {q : List Lx} {b : Rs σ} : Ee z R n q (.bad a) b := fun s r e => by cases e
theorem Ee.nil {σ : Type} {n : Nat} {a b c : Rs σ} (h : Ee z R n [] a b) : Ee z R n [] a c := fun s r e => by
 obtain ⟨q', h1, h2, h3, h4⟩ := h s r e
 exact ⟨q', h1, h2, h3, fun hq => absurd (List.eq_nil_of_suffix_nil h2) hq⟩
theorem e_if {σ : Type} {n : Nat} {q : List Lx} {c : List Lx → Bool} (hz : c [z] = false) (hx : ∀ x q, c (x :: (q ++ [z])) = c (x :: (q ++ R))) {A A' B B' : Rs σ}
  (h1 : ∀ x q1, q = x :: q1 → c (q ++ [z]) = true → Ee z R n q A A') (h2 : Ee z R n q B B') : Ee z R n q (if c (q ++ [z]) = true then A else B) (if c (q ++ R) = true then A' else B') := by
 cases q with
 | nil => rw [List.nil_append, hz, if_neg (by simp)]; exact h2.nil
 | cons x q =>
  have h1' := h1 x q rfl
  rw [List.cons_append, hx] at h1' ⊢
  rw [List.cons_append]
  split
  ·next hc => exact h1' hc
  ·exact h2
variable (hz : z.k = -1)
include hz
theorem isM_z (s : ByteArray) : isM s [z] = false := by simp [isM, spl, hz]
omit hz in
theorem isM_x (s : ByteArray) (x : Lx) (q : List Lx) : isM s (x :: (q ++ [z])) = isM s (x :: (q ++ R)) := rfl
theorem isK_z {k : Int} (hk : k ≠ -1) : isK k [z] = false := by simp [isK, hz]; omega
omit hz in
theorem isK_x (k : Int) (x : Lx) (q : List Lx) : isK k (x :: (q ++ [z])) = isK k (x :: (q ++ R)) := rfl
theorem e_ifM {σ : Type} {n : Nat} {q : List Lx} (s : ByteArray) {A A' B B' : Rs σ} (h1 : ∀ x q1, q = x :: q1 → Ee z R n q A A') (h2 : Ee z R n q B B') : Ee z R n q (if isM s (q ++ [z]) = true then A else B) (if isM s (q ++ R) = true then A' else B') :=
 e_if (c := isM s) (isM_z hz s) (isM_x s) (fun x q1 e _ => h1 x q1 e) h2
theorem e_ifK {σ : Type} {n : Nat} {q : List Lx} (k : Int) (hk : k ≠ -1) {A A' B B' : Rs σ} (h1 : ∀ x q1, q = x :: q1 → Ee z R n q A A') (h2 : Ee z R n q B B') : Ee z R n q (if isK k (q ++ [z]) = true then A else B) (if isK k (q ++ R) = true then A' else B') :=
 e_if (c := isK k) (isK_z hz hk) (isK_x k) (fun x q1 e _ => h1 x q1 e) h2
theorem e_ifV {σ : Type} {q : List Lx} (s : ByteArray) {A A' B B' : Rs σ} (h1 : Ee z R 1 q A A') (h2 : Ee z R 1 q B B') : Ee z R 1 q (if isVW s (q ++ [z]) = true then A else B) (if isVW s (q ++ R) = true then A' else B') := by
 match q, h1, h2 with
 | [], h1, h2 => rw [show isVW s ([] ++ [z]) = false from rfl, if_neg (by simp)]; exact h2.nil
 | [x], h1, h2 =>
  rw [show isVW s ([x] ++ [z]) = false from by simp [isVW, spl, hz], if_neg (by simp)]
  intro t r e
  obtain ⟨q', k1, k2, k3, k4⟩ := h2 t r e
  have k1' : q'.length + 1 ≤ 1 := k1
  have : q' = [] := List.eq_nil_of_length_eq_zero (by omega)
  exact ⟨q', k1, k2, k3, fun hq => absurd this hq⟩
 | x :: y :: q, h1, h2 =>
  rw [show isVW s (x :: y :: q ++ [z]) = isVW s (x :: y :: q ++ R) from rfl]
  split
  ·exact h1
  ·exact h2
theorem take_f (q : List Lx) (s : ByteArray) : Ff z R q (takeM s (q ++ [z])) (takeM s (q ++ R)) := by
 unfold takeM
 cases q with
 | nil => rw [List.nil_append, isM_z hz, if_neg (by simp)]; intro s r e; cases e
 | cons x q =>
  rw [List.cons_append, List.cons_append, isM_x (R := R)]
  split
  ·intro s r e
   cases e
   exact ⟨q, by simp, List.suffix_cons x q, rfl, rfl⟩
  ·intro s r e; cases e
theorem take_e (q : List Lx) (s : ByteArray) : Ee z R 1 q (takeM s (q ++ [z])) (takeM s (q ++ R)) := (take_f hz q s).e
theorem push_e (q : List Lx) (s : ByteArray) (o : Nat) : Ee z R 1 q (pushM s o (q ++ [z])) (pushM s o (q ++ R)) := by
 unfold pushM
 cases q with
 | nil => rw [List.nil_append, isM_z hz, if_neg (by simp)]; exact ebad
 | cons x q =>
  rw [List.cons_append, List.cons_append, isM_x (R := R)]
  split
  ·exact eok.tl (q := q) (Nat.le_refl _)
  ·exact ebad
theorem name_e (q : List Lx) : Ee z R 1 q (nameM (q ++ [z])) (nameM (q ++ R)) := by
 cases q with
 | nil => simp only [List.nil_append, nameM, hz]; rw [if_neg (by simp)]; exact ebad
 | cons x q =>
  simp only [List.cons_append, nameM]
  split
  ·exact eok.tl (q := q) (Nat.le_refl _)
  ·exact ebad
theorem var_e (q : List Lx) : Ee z R 1 q (varM (q ++ [z])) (varM (q ++ R)) := by
 cases q with
 | nil => simp only [List.nil_append, varM, hz]; rw [if_neg (by simp)]; exact ebad
 | cons x q =>
  simp only [List.cons_append, varM]
  split
  ·exact eok.tl (q := q) (Nat.le_refl _)
  ·exact ebad
theorem text_e (q : List Lx) : Ee z R 1 q (textM (q ++ [z])) (textM (q ++ R)) := by
 cases q with
 | nil => simp only [List.nil_append, textM, hz]; rw [if_neg (by simp)]; exact ebad
 | cons x q =>
  simp only [List.cons_append, textM]
  split
  ·exact eok.tl (q := q) (Nat.le_refl _)
  ·exact ebad
theorem num_e (q : List Lx) (m : Nat) : Ee z R 1 q (numM m (q ++ [z])) (numM m (q ++ R)) := by
 cases q with
 | nil => simp only [List.nil_append, numM, hz]; rw [if_neg (by simp)]; exact ebad
 | cons x q =>
  simp only [List.cons_append, numM]
  split
  ·exact eok.tl (q := q) (Nat.le_refl _)
  ·exact ebad
theorem within_f {σ : Type} (q : List Lx) (a y : ByteArray) (o : Nat) {inner : List Lx → Rs σ} (hi : ∀ q, Ee z R 0 q (inner (q ++ [z])) (inner (q ++ R))) : Ff z R q (withinM a y o inner (q ++ [z])) (withinM a y o inner (q ++ R)) := by
 unfold withinM
 exact (push_e hz q a o).fd fun _ q _ => (hi q).fd fun s q _ => (take_f hz q y).map
theorem within_e {σ : Type} (q : List Lx) (a y : ByteArray) (o : Nat) {inner : List Lx → Rs σ} (hi : ∀ q, Ee z R 0 q (inner (q ++ [z])) (inner (q ++ R))) : Ee z R 1 q (withinM a y o inner (q ++ [z])) (withinM a y o inner (q ++ R)) := (within_f hz q a y o hi).e
theorem commasL_e {σ : Type} {item : σ → List Lx → Rs σ} (hi : ∀ s q, Ee z R 0 q (item s (q ++ [z])) (item s (q ++ R))) : ∀ (f g : Nat) (s : σ) (q : List Lx), q.length < f → q.length < g → Ee z R 0 q (commasL item f s (q ++ [z])) (commasL item g s (q ++ R))
 | 0, _, _, _, h, _ => absurd h (by omega)
 | _, 0, _, _, _, h => absurd h (by omega)
 | f + 1, g + 1, s, q, hf, hg => by
  unfold commasL
  refine e_ifM hz _ (fun x q1 e => ?_) eok
  subst e
  simp only [List.length_cons] at hf hg
  refine Ee.tl (n := 0) (Ee.bd (n := 0) (m := 0) (hi s q1) (Nat.zero_le _) fun s q' hq => ?_) (Nat.zero_le _)
  have := hq.length_le
  exact commasL_e hi f g s q' (by omega) (by omega)
theorem commas_e {σ : Type} (hR : R ≠ []) {item : σ → List Lx → Rs σ} (hi : ∀ s q, Ee z R 0 q (item s (q ++ [z])) (item s (q ++ R))) (s : σ) (q : List Lx) : Ee z R 0 q (commasM item s (q ++ [z])) (commasM item s (q ++ R)) := by
 have := List.length_pos_iff.2 hR
 exact (hi s q).bd (m := 0) (Nat.zero_le _) fun s q' _ => commasL_e hz hi _ _ s q' (by simp) (by rw [List.length_append]; omega)
theorem list_e {σ : Type} (hR : R ≠ []) (q : List Lx) (a y : ByteArray) (o : Nat) {item : σ → List Lx → Rs σ} (hi : ∀ s q, Ee z R 0 q (item s (q ++ [z])) (item s (q ++ R))) (s : σ) : Ee z R 1 q (listM a y o item s (q ++ [z])) (listM a y o item s (q ++ R)) :=
 within_e hz q a y o fun q => e_ifM hz _ (fun _ _ _ => eok) (commas_e hz hR hi s q)
omit hz in
theorem node_e (q : List Lx) (a b : Nat) (e : Ex) (l : List Te) : Ee z R 0 q (nodeM a e l (q ++ [z])) (nodeM b e l (q ++ R)) := by
 unfold nodeM
 split
 ·exact ebad
 ·exact eok
theorem levelL_e {N : List Lx → Rs Te} (hN : ∀ q, Ee z R 1 q (N (q ++ [z])) (N (q ++ R))) (n : Nat) : ∀ (f g : Nat) (t : Te) (q : List Lx), q.length < f → q.length < g → Ee z R 0 q (levelL N n f t (q ++ [z])) (levelL N n g t (q ++ R))
 | 0, _, _, _, h, _ => absurd h (by omega)
 | _, 0, _, _, _, h => absurd h (by omega)
 | f + 1, g + 1, t, q, hf, hg => by
  unfold levelL
  cases q with
  | nil =>
   rw [List.nil_append, show opM n [z] = none from by simp [opM, hz]]
   exact (eok (q := [])).nil
  | cons x q =>
   rw [List.cons_append, List.cons_append, show opM n (x :: (q ++ [z])) = opM n (x :: (q ++ R)) from rfl]
   simp only [List.length_cons] at hf hg
   split
   ·exact eok (q := x :: q)
   ·refine Ee.tl (n := 0) (Ee.bd (m := 0) (hN q) (Nat.zero_le _) fun u q' hq => Ee.bd (n := 0) (m := 0) (node_e q' _ _ _ _) (Nat.zero_le _) fun t q2 hq2 => ?_) (Nat.zero_le _)
    split
    ·exact eok
    ·have := hq.length_le
     have := hq2.length_le
     exact levelL_e hN n f g t q2 (by omega) (by omega)
theorem level_e (hR : R ≠ []) {S : Ps Te} {o : Nat} (hS : ∀ q, Ee z R 1 q (S o (q ++ [z])) (S o (q ++ R))) : ∀ (k : Nat) (q : List Lx), Ee z R 1 q (levelM S o k (q ++ [z])) (levelM S o k (q ++ R))
 | 0, q => hS q
 | k + 1, q => by
  have := List.length_pos_iff.2 hR
  exact (level_e hR hS k q).bd (m := 0) (Nat.le_refl _) fun t q' _ => levelL_e hz (level_e hR hS k) _ _ _ t q' (by simp) (by rw [List.length_append]; omega)
theorem post_e : ∀ (f g : Nat) (t : Te) (q : List Lx), q.length < f → q.length < g → Ee z R 0 q (postL f t (q ++ [z])) (postL g t (q ++ R))
 | 0, _, _, _, h, _ => absurd h (by omega)
 | _, 0, _, _, _, h => absurd h (by omega)
 | f + 1, g + 1, t, q, hf, hg => by
  unfold postL
  refine e_ifM hz _ (fun x q1 e => ?_) eok
  subst e
  simp only [List.length_cons] at hf hg
  refine Ee.tl (n := 0) (Ee.bd (m := 0) (name_e hz q1) (Nat.zero_le _) fun s q' hq => Ee.bd (n := 0) (m := 0) (node_e q' _ _ _ _) (Nat.zero_le _) fun t q2 hq2 => ?_) (Nat.zero_le _)
  have := hq.length_le
  have := hq2.length_le
  exact post_e f g t q2 (by omega) (by omega)
theorem sign_e (hR : R ≠ []) {A : Ps Te} (hA : ∀ o q, Ee z R 1 q (A o (q ++ [z])) (A o (q ++ R))) : ∀ (f o : Nat) (q : List Lx), Ee z R 1 q (signM A f o (q ++ [z])) (signM A f o (q ++ R))
 | 0, o, q => ebad
 | f + 1, o, q => by
  have hl := List.length_pos_iff.2 hR
  unfold signM
  refine e_ifM hz _ (fun x q1 e => ?_) (e_ifM hz _ (fun x q1 e => ?_) ?_)
  ·exact (push_e hz q _ o).bd (m := 1) (by omega) fun a q' _ => (sign_e hR hA f (o + 1) q').bd (m := 0) (by omega) fun t q2 _ => node_e q2 _ _ _ _
  ·exact (push_e hz q _ o).bd (m := 1) (by omega) fun a q' _ => (sign_e hR hA f (o + 1) q').bd (m := 0) (by omega) fun t q2 _ => node_e q2 _ _ _ _
  ·exact (hA o q).bd (m := 0) (by omega) fun t q' _ => post_e hz _ _ t q' (by simp) (by rw [List.length_append]; omega)
theorem paren_e (q : List Lx) {T : Ps Te} (o : Nat) (hT : ∀ o q, Ee z R 1 q (T o (q ++ [z])) (T o (q ++ R))) : Ee z R 1 q (parenM T o (q ++ [z])) (parenM T o (q ++ R)) := within_e hz q _ _ o fun q => (hT _ q).le (by omega)
theorem atom_e (hR : R ≠ []) (q : List Lx) {T : Ps Te} (o : Nat) (hT : ∀ o q, Ee z R 1 q (T o (q ++ [z])) (T o (q ++ R))) : Ee z R 1 q (atomM T o (q ++ [z])) (atomM T o (q ++ R)) := by
 unfold atomM
 refine e_ifK hz _ (by decide) (fun _ _ _ => (num_e hz q _).bd (m := 0) (by omega) fun _ q _ => eok) ?_
 refine e_ifK hz _ (by decide) (fun _ _ _ => (text_e hz q).bd (m := 0) (by omega) fun _ q _ => eok) ?_
 refine e_ifM hz _ (fun x q1 e => by subst e; exact eok.tl (q := q1) (Nat.le_refl _)) ?_
 refine e_ifM hz _ (fun x q1 e => by subst e; exact eok.tl (q := q1) (Nat.le_refl _)) ?_
 refine e_ifM hz _ (fun x q1 e => by subst e; exact eok.tl (q := q1) (Nat.le_refl _)) ?_
 refine e_ifK hz _ (by decide) (fun _ _ _ => (var_e hz q).bd (m := 0) (by omega) fun _ q _ => eok) ?_
 refine e_ifM hz _ (fun _ _ _ => paren_e hz q o hT) ?_
 refine e_ifM hz _ (fun _ _ _ => ?_) ?_
 ·unfold valuesM
  exact (list_e hz hR q _ _ o (fun l q => Ee.bd (m := 0) (hT _ q) (by omega) fun t q _ => eok) []).bd (m := 0) (by omega) fun l q _ => node_e q _ _ _ _
 refine e_ifM hz _ (fun x q1 e => ?_) ?_
 ·subst e
  exact Ee.tl (n := 1) ((paren_e hz q1 o hT).bd (m := 0) (by omega) fun t q _ => node_e q _ _ _ _) (by omega)
 refine e_ifM hz _ (fun x q1 e => ?_) ((name_e hz q).bd (m := 0) (by omega) fun _ q _ => eok)
 subst e
 unfold hasM
 refine Ee.tl (n := 1) (Ee.bd (m := 0) (within_e hz q1 _ _ o fun q => ?_) (by omega) fun p q _ => node_e q _ _ _ _) (by omega)
 exact (hT _ q).bd (m := 0) (by omega) fun l q _ => (take_e hz q _).bd (m := 0) (by omega) fun _ q _ => (hT _ q).bd (m := 0) (by omega) fun v q _ => eok
theorem tree_e (hR : R ≠ []) : ∀ (f o : Nat) (q : List Lx), Ee z R 1 q (treeM f o (q ++ [z])) (treeM f o (q ++ R))
 | 0, o, q => ebad
 | f + 1, o, q => by
  unfold treeM
  exact level_e hz hR (sign_e hz hR (fun o q => atom_e hz hR q o fun o q => tree_e hR f o q) 32 o) 5 q
theorem expr_e (hR : R ≠ []) (o : Nat) (q : List Lx) : Ee z R 1 q (exprM o (q ++ [z])) (exprM o (q ++ R)) := tree_e hz hR _ o q
theorem any_z : ∀ l : List ByteArray, (l.any fun s => isM s [z]) = false
 | [] => rfl
 | s :: l => by rw [List.any_cons, isM_z hz, any_z l]; rfl
theorem condsL_e {C : List Lx → Rs Cd} (hC : ∀ q, Ee z R 1 q (C (q ++ [z])) (C (q ++ R))) (ends : List ByteArray) : ∀ (f g : Nat) (l : List Cd) (q : List Lx), q.length < f → q.length < g → Ee z R 0 q (condsL C ends f l (q ++ [z])) (condsL C ends g l (q ++ R))
 | 0, _, _, _, h, _ => absurd h (by omega)
 | _, 0, _, _, _, h => absurd h (by omega)
 | f + 1, g + 1, l, q, hf, hg => by
  unfold condsL
  refine e_if (R := R) (c := fun r => ends.any fun s => isM s r) (any_z hz ends) (fun _ _ => rfl) (fun _ _ _ _ => eok) ?_
  intro s r e
  revert s r e
  refine (?_ : Ee z R 0 q _ _)
  have hbd : ∀ (n : Nat), Ee z R 0 q ((C (q ++ [z])).bd fun c r => condsL C ends f (l ++ [c]) r) ((C (q ++ R)).bd fun c r => condsL C ends g (l ++ [c]) r) := fun _ => by
   intro s r e
   cases hc : C (q ++ [z]) with
   | bad p => rw [hc] at e; cases e
   | ok s1 r1 =>
    obtain ⟨q1, h1, h2, rfl, h4⟩ := hC q s1 r1 hc
    rw [hc] at e
    obtain ⟨q2, k1, k2, k3, k4⟩ := condsL_e hC ends f g (l ++ [s1]) q1 (by omega) (by omega) s r e
    exact ⟨q2, by omega, k2.trans h2, k3, fun hq => by rw [h4 (suf_nil k2 hq)]; exact k4 hq⟩
  exact hbd 0
theorem conds_e (hR : R ≠ []) (q : List Lx) {C : List Lx → Rs Cd} (hC : ∀ q, Ee z R 1 q (C (q ++ [z])) (C (q ++ R))) (ends : List ByteArray) : Ee z R 1 q (condsM C ends (q ++ [z])) (condsM C ends (q ++ R)) := by
 have hl := List.length_pos_iff.2 hR
 exact (hC q).bd (m := 0) (by omega) fun _ q' _ => condsL_e hz hC ends _ _ _ q' (by simp) (by rw [List.length_append]; omega)
theorem block_e (hR : R ≠ []) (q : List Lx) {C : Ps Cd} (o : Nat) (hC : ∀ o q, Ee z R 1 q (C o (q ++ [z])) (C o (q ++ R))) : Ee z R 1 q (blockM C o (q ++ [z])) (blockM C o (q ++ R)) := within_e hz q _ _ o fun q => (conds_e hz hR q (hC _) _).le (by omega)
theorem bind_e (q : List Lx) : Ee z R 1 q (bindM (q ++ [z])) (bindM (q ++ R)) := by
 unfold bindM
 exact (var_e hz q).bd (m := 0) (by omega) fun v q _ => (take_e hz q _).bd (m := 0) (by omega) fun _ q _ => (name_e hz q).bd (m := 0) (by omega) fun f q _ => eok
theorem pattern_e (hR : R ≠ []) (q : List Lx) (v : ByteArray) (o : Nat) : Ee z R 1 q (patternM v o (q ++ [z])) (patternM v o (q ++ R)) := by
 unfold patternM
 refine (name_e hz q).bd (m := 0) (by omega) fun c q _ => Ee.bd (m := 0) (list_e hz hR q _ _ o (fun p q => ?_) _) (by omega) fun p q _ => eok
 exact (e_ifV hz _ ((bind_e hz q).bd (m := 0) (by omega) fun b q _ => eok) ((expr_e hz hR _ q).bd (m := 0) (by omega) fun t q _ => eok)).le (by omega)
theorem ofVar_e (hR : R ≠ []) (q : List Lx) (o : Nat) : Ee z R 1 q (ofVarM o (q ++ [z])) (ofVarM o (q ++ R)) := by
 unfold ofVarM
 refine (var_e hz q).bd (m := 0) (by omega) fun v q _ => ?_
 refine e_ifM hz _ (fun x q1 e => ?_) ((take_e hz q _).bd (m := 0) (by omega) fun _ q _ => (expr_e hz hR o q).bd (m := 0) (by omega) fun t q _ => eok)
 subst e
 exact (pattern_e hz hR q1 v o).tl (by omega)
theorem forall_e (hR : R ≠ []) (q : List Lx) {C : Ps Cd} (o : Nat) (hC : ∀ o q, Ee z R 1 q (C o (q ++ [z])) (C o (q ++ R))) : Ee z R 1 q (forallM C o (q ++ [z])) (forallM C o (q ++ R)) := by
 unfold forallM
 exact within_e hz q _ _ o fun q => (conds_e hz hR q (hC _) _).bd (m := 0) (by omega) fun l q _ => (take_e hz q _).bd (m := 0) (by omega) fun _ q _ => (conds_e hz hR q (hC _) _).bd (m := 0) (by omega) fun t q _ => eok
theorem orL_e (hR : R ≠ []) {C : List Lx → Rs Cd} (hC : ∀ q, Ee z R 1 q (C (q ++ [z])) (C (q ++ R))) : ∀ (f g : Nat) (l : List (List Cd)) (q : List Lx), q.length < f → q.length < g → Ee z R 0 q (orL C f l (q ++ [z])) (orL C g l (q ++ R))
 | 0, _, _, _, h, _ => absurd h (by omega)
 | _, 0, _, _, _, h => absurd h (by omega)
 | f + 1, g + 1, l, q, hf, hg => by
  unfold orL
  refine e_ifM hz _ (fun x q1 e => ?_) eok
  subst e
  simp only [List.length_cons] at hf hg
  refine Ee.tl (n := 0) (Ee.bd (m := 0) (conds_e hz hR q1 hC _) (Nat.zero_le _) fun s q' hq => ?_) (Nat.zero_le _)
  have := hq.length_le
  exact orL_e hR hC f g _ q' (by omega) (by omega)
theorem or_e (hR : R ≠ []) (q : List Lx) {C : Ps Cd} (o : Nat) (hC : ∀ o q, Ee z R 1 q (C o (q ++ [z])) (C o (q ++ R))) : Ee z R 1 q (orM C o (q ++ [z])) (orM C o (q ++ R)) := by
 have hl := List.length_pos_iff.2 hR
 unfold orM
 exact Ee.bd (m := 0) (within_e hz q _ _ o fun q => (conds_e hz hR q (hC _) _).bd (m := 0) (by omega) fun l q _ => orL_e hz hR (hC _) _ _ _ q (by simp) (by rw [List.length_append]; omega)) (by omega) fun l q _ => eok
theorem fn_e (q : List Lx) : Ee z R 1 q (fnM (q ++ [z])) (fnM (q ++ R)) := by
 unfold fnM
 refine e_ifM hz _ (fun x q1 e => ?_) (name_e hz q)
 subst e
 exact eok.tl (q := q1) (Nat.le_refl _)
theorem acc_e (hR : R ≠ []) (q : List Lx) {C : Ps Cd} (o : Nat) (hC : ∀ o q, Ee z R 1 q (C o (q ++ [z])) (C o (q ++ R))) : Ee z R 1 q (accM C o (q ++ [z])) (accM C o (q ++ R)) := by
 unfold accM
 exact within_e hz q _ _ o fun q => (var_e hz q).bd (m := 0) (by omega) fun v q _ => (take_e hz q _).bd (m := 0) (by omega) fun _ q _ => (fn_e hz q).bd (m := 0) (by omega) fun f q _ => (paren_e hz q _ (expr_e hz hR)).bd (m := 0) (by omega) fun t q _ => (take_e hz q _).bd (m := 0) (by omega) fun _ q _ => (conds_e hz hR q (hC _) _).bd (m := 0) (by omega) fun l q _ => eok
theorem arg_e (hR : R ≠ []) (q : List Lx) (o : Nat) : Ee z R 1 q (argM o (q ++ [z])) (argM o (q ++ R)) := by
 unfold argM
 exact e_ifV hz _ ((var_e hz q).bd (m := 0) (by omega) fun v q _ => (take_e hz q _).bd (m := 0) (by omega) fun _ q _ => eok) ((expr_e hz hR o q).bd (m := 0) (by omega) fun t q _ => eok)
theorem question_e (hR : R ≠ []) (q : List Lx) (o : Nat) : Ee z R 1 q (questionM o (q ++ [z])) (questionM o (q ++ R)) := by
 unfold questionM
 exact (name_e hz q).bd (m := 0) (by omega) fun s q _ => Ee.bd (m := 0) (list_e hz hR q _ _ o (fun l q => (arg_e hz hR q _).bd (m := 0) (by omega) fun a q _ => eok) _) (by omega) fun l q _ => eok
theorem cond_e (hR : R ≠ []) : ∀ (f o : Nat) (q : List Lx), Ee z R 1 q (condM f o (q ++ [z])) (condM f o (q ++ R))
 | 0, o, q => ebad
 | f + 1, o, q => by
  have hC := cond_e hR f
  unfold condM
  refine e_ifK hz _ (by decide) (fun _ _ _ => ofVar_e hz hR q o) ?_
  refine e_ifM hz _ (fun x q1 e => by subst e; exact Ee.tl (n := 1) ((block_e hz hR q1 o hC).bd (m := 0) (by omega) fun l q _ => eok) (by omega)) ?_
  refine e_ifM hz _ (fun x q1 e => by subst e; exact Ee.tl (n := 1) ((block_e hz hR q1 o hC).bd (m := 0) (by omega) fun l q _ => eok) (by omega)) ?_
  refine e_ifM hz _ (fun x q1 e => by subst e; exact (forall_e hz hR q1 o hC).tl (by omega)) ?_
  refine e_ifM hz _ (fun _ _ _ => or_e hz hR q o hC) ?_
  refine e_ifM hz _ (fun x q1 e => by subst e; exact Ee.tl (n := 1) ((paren_e hz q1 o (expr_e hz hR)).bd (m := 0) (by omega) fun l q _ => eok) (by omega)) ?_
  refine e_ifM hz _ (fun x q1 e => by subst e; exact (acc_e hz hR q1 o hC).tl (by omega)) ?_
  exact e_ifM hz _ (fun x q1 e => by subst e; exact (question_e hz hR q1 o).tl (by omega)) (pattern_e hz hR q _ o)
theorem ass_e (hR : R ≠ []) (q : List Lx) (o : Nat) (l : List As) : Ee z R 1 q (assM o l (q ++ [z])) (assM o l (q ++ R)) := by
 unfold assM assignM
 exact Ee.bd (n := 1) (m := 0) ((name_e hz q).bd (m := 0) (by omega) fun f q _ => (take_e hz q _).bd (m := 0) (by omega) fun _ q _ => (expr_e hz hR o q).bd (m := 0) (by omega) fun t q _ => eok) (by omega) fun a q _ => eok
theorem ins_e (hR : R ≠ []) (q : List Lx) (k : Int) : Ee z R 1 q (insM k (q ++ [z])) (insM k (q ++ R)) := by
 unfold insM
 exact (name_e hz q).bd (m := 0) (by omega) fun c q _ => Ee.bd (m := 0) (list_e hz hR q _ _ 0 (fun l q => (ass_e hz hR q 1 l).le (by omega)) _) (by omega) fun l q _ => eok
theorem upd_e (hR : R ≠ []) (q : List Lx) : Ee z R 1 q (updM (q ++ [z])) (updM (q ++ R)) := by
 unfold updM
 exact (expr_e hz hR 0 q).bd (m := 0) (by omega) fun t q _ => Ee.bd (m := 0) (within_e hz q _ _ 0 fun q => commas_e hz hR (fun l q => (ass_e hz hR q 1 l).le (by omega)) _ q) (by omega) fun l q _ => eok
theorem deed_e (hR : R ≠ []) (q : List Lx) : Ee z R 1 q (deedM (q ++ [z])) (deedM (q ++ R)) := by
 unfold deedM
 refine e_ifM hz _ (fun x q1 e => by subst e; exact (ins_e hz hR q1 _).tl (by omega)) ?_
 refine e_ifM hz _ (fun x q1 e => by subst e; exact (ins_e hz hR q1 _).tl (by omega)) ?_
 refine e_ifM hz _ (fun x q1 e => by subst e; exact (upd_e hz hR q1).tl (by omega)) ?_
 refine e_ifM hz _ (fun x q1 e => by subst e; exact Ee.tl (n := 1) ((expr_e hz hR 0 q1).bd (m := 0) (by omega) fun l q _ => eok) (by omega)) ?_
 refine e_ifM hz _ (fun x q1 e => by subst e; exact Ee.tl (n := 1) ((text_e hz q1).bd (m := 0) (by omega) fun l q _ => eok) (by omega)) ?_
 exact e_ifM hz _ (fun x q1 e => by subst e; exact Ee.tl (n := 1) ((expr_e hz hR 0 q1).bd (m := 0) (by omega) fun l q _ => eok) (by omega)) ((take_e hz q _).bd (m := 0) (by omega) fun t q _ => eok)
theorem action_e (hR : R ≠ []) (q : List Lx) : Ee z R 1 q (actionM (q ++ [z])) (actionM (q ++ R)) := by
 unfold actionM
 exact (deed_e hz hR q).bd (m := 0) (by omega) fun a q _ => (take_e hz q _).bd (m := 0) (by omega) fun _ q _ => eok
theorem field_e (q : List Lx) : Ee z R 1 q (fieldM (q ++ [z])) (fieldM (q ++ R)) := by
 unfold fieldM
 refine (name_e hz q).bd (m := 0) (by omega) fun n q _ => (take_e hz q _).bd (m := 0) (by omega) fun _ q _ => ?_
 refine e_ifM hz _ (fun x q1 e => by subst e; exact eok.tl (q := q1) (by omega)) ?_
 refine e_ifM hz _ (fun x q1 e => by subst e; exact eok.tl (q := q1) (by omega)) ?_
 refine e_ifM hz _ (fun x q1 e => by subst e; exact eok.tl (q := q1) (by omega)) ?_
 refine e_ifM hz _ (fun x q1 e => by subst e; exact eok.tl (q := q1) (by omega)) ?_
 refine e_ifM hz _ (fun x q1 e => by subst e; exact eok.tl (q := q1) (by omega)) ?_
 exact e_ifM hz _ (fun x q1 e => by subst e; exact Ee.tl (n := 1) ((name_e hz q1).bd (m := 0) (by omega) fun c q _ => eok) (by omega)) ebad
theorem fieldsL_e : ∀ (f g : Nat) (l : List Fd) (q : List Lx), q.length < f → q.length < g → Ee z R 0 q (fieldsL f l (q ++ [z])) (fieldsL g l (q ++ R))
 | 0, _, _, _, h, _ => absurd h (by omega)
 | _, 0, _, _, _, h => absurd h (by omega)
 | f + 1, g + 1, l, q, hf, hg => by
  have go : ∀ q0, q0.length ≤ q.length → Ee z R 0 q0 ((fieldM (q0 ++ [z])).bd fun x r => fieldsL f (l ++ [x]) r) ((fieldM (q0 ++ R)).bd fun x r => fieldsL g (l ++ [x]) r) := fun q0 h0 => by
   intro s r e
   cases hc : fieldM (q0 ++ [z]) with
   | bad p => rw [hc] at e; cases e
   | ok s1 r1 =>
    obtain ⟨q1, h1, h2, rfl, h4⟩ := field_e hz (R := R) q0 s1 r1 hc
    rw [hc] at e
    obtain ⟨q2, k1, k2, k3, k4⟩ := fieldsL_e f g (l ++ [s1]) q1 (by omega) (by omega) s r e
    exact ⟨q2, by omega, k2.trans h2, k3, fun hq => by rw [h4 (suf_nil k2 hq)]; exact k4 hq⟩
  unfold fieldsL
  refine e_ifM hz _ (fun _ _ _ => eok) ?_
  cases q with
  | nil =>
   rw [List.nil_append, isM_z hz, if_neg (by simp)]
   exact (go [] (Nat.le_refl _)).nil
  | cons x q =>
   rw [List.cons_append, List.cons_append, isM_x (R := R)]
   split
   ·exact (go q (by simp)).tl (by omega)
   ·exact go (x :: q) (Nat.le_refl _)
theorem class_f (hR : R ≠ []) (q : List Lx) : Ff z R q (classM (q ++ [z])) (classM (q ++ R)) := by
 have hl := List.length_pos_iff.2 hR
 unfold classM
 refine (name_e hz q).fd fun n q _ => Ee.fd (n := 0) (e_ifM hz _ (fun x q1 e => by subst e; exact (name_e hz q1).tl (by omega)) eok) fun s q _ => Ff.map (within_f hz q _ _ 0 fun q => fieldsL_e hz _ _ _ q (by simp) (by rw [List.length_append]; omega))
theorem sal_e (q : List Lx) : Ee z R 1 q (salM (q ++ [z])) (salM (q ++ R)) := by
 unfold salM
 exact e_ifM hz _ (fun x q1 e => by subst e; exact Ee.tl (n := 1) ((num_e hz q1 _).bd (m := 0) (by omega) fun n q _ => eok) (by omega)) ((num_e hz q _).bd (m := 0) (by omega) fun n q _ => eok)
theorem attrsL_e : ∀ (f g : Nat) (u : Ru) (q : List Lx), q.length < f → q.length < g → Ee z R 0 q (attrsL f u (q ++ [z])) (attrsL g u (q ++ R))
 | 0, _, _, _, h, _ => absurd h (by omega)
 | _, 0, _, _, _, h => absurd h (by omega)
 | f + 1, g + 1, u, q, hf, hg => by
  have go : ∀ {τ : Type} (x : Lx) (q1 : List Lx) (a b : Rs τ) (k : τ → Ru), q = x :: q1 → Ee z R 0 q1 a b → Ee z R 0 (x :: q1) (a.bd fun i r => attrsL f (k i) r) (b.bd fun i r => attrsL g (k i) r) := fun x q1 a b k e h => by
   subst e
   simp only [List.length_cons] at hf hg
   exact Ee.tl (n := 0) (h.bd (m := 0) (by omega) fun i q' hq => attrsL_e f g _ q' (by have := hq.length_le; omega) (by have := hq.length_le; omega)) (by omega)
  have go1 : ∀ (x : Lx) (q1 : List Lx) (u : Ru), q = x :: q1 → Ee z R 0 (x :: q1) (attrsL f u (q1 ++ [z])) (attrsL g u (q1 ++ R)) := fun x q1 u e => by
   subst e
   simp only [List.length_cons] at hf hg
   exact Ee.tl (n := 0) (attrsL_e f g _ q1 (by omega) (by omega)) (by omega)
  unfold attrsL
  refine e_ifM hz _ (fun x q1 e => ?_) ?_
  ·have := go x q1 _ _ (fun i => { u with sal := i }) e ((sal_e hz (R := R) q1).le (by omega))
   subst e; exact this
  refine e_ifM hz _ (fun x q1 e => ?_) ?_
  ·have := go x q1 _ _ (fun i => { u with group := i }) e ((text_e hz (R := R) q1).le (by omega))
   subst e; exact this
  refine e_ifM hz _ (fun x q1 e => ?_) ?_
  ·have := go x q1 _ _ (fun i => { u with flow := i }) e ((text_e hz (R := R) q1).le (by omega))
   subst e; exact this
  refine e_ifM hz _ (fun x q1 e => ?_) ?_
  ·have := go1 x q1 { u with nl := true } e
   subst e; exact this
  refine e_ifM hz _ (fun x q1 e => ?_) eok
  have := go1 x q1 { u with lock := true } e
  subst e; exact this
theorem untilL_f {σ : Type} (y : ByteArray) {item : List Lx → Rs σ} (hi : ∀ q, Ee z R 1 q (item (q ++ [z])) (item (q ++ R))) : ∀ (f g : Nat) (l : List σ) (q : List Lx), q.length < f → q.length < g → Ff z R q (untilL y item f l (q ++ [z])) (untilL y item g l (q ++ R))
 | 0, _, _, _, h, _ => absurd h (by omega)
 | _, 0, _, _, _, h => absurd h (by omega)
 | f + 1, g + 1, l, q, hf, hg => by
  have go : Ff z R q ((item (q ++ [z])).bd fun x r => untilL y item f (l ++ [x]) r) ((item (q ++ R)).bd fun x r => untilL y item g (l ++ [x]) r) := by
   intro s r e
   cases hc : item (q ++ [z]) with
   | bad p => rw [hc] at e; cases e
   | ok s1 r1 =>
    obtain ⟨q1, h1, h2, rfl, h4⟩ := hi q s1 r1 hc
    rw [hc] at e
    obtain ⟨q2, k1, k2, k3, k4⟩ := untilL_f y hi f g (l ++ [s1]) q1 (by omega) (by omega) s r e
    exact ⟨q2, by omega, k2.trans h2, k3, by rw [h4 (fun e => by subst e; simp at k1)]; exact k4⟩
  unfold untilL
  cases q with
  | nil =>
   rw [List.nil_append, isM_z hz, if_neg (by simp)]
   intro s r e
   obtain ⟨q2, k1, -⟩ := go s r e
   simp at k1
  | cons x q =>
   rw [List.cons_append, List.cons_append, isM_x (R := R)]
   split
   ·intro s r e
    cases e
    exact ⟨q, by simp, List.suffix_cons x q, rfl, rfl⟩
   ·exact go
theorem until_f {σ : Type} (hR : R ≠ []) (y : ByteArray) {item : List Lx → Rs σ} (hi : ∀ q, Ee z R 1 q (item (q ++ [z])) (item (q ++ R))) (q : List Lx) : Ff z R q (untilL y item (q ++ [z]).length [] (q ++ [z])) (untilL y item (q ++ R).length [] (q ++ R)) := by
 have hl := List.length_pos_iff.2 hR
 exact untilL_f hz y hi _ _ [] q (by simp) (by rw [List.length_append]; omega)
theorem rule_f (hR : R ≠ []) (q : List Lx) : Ff z R q (ruleM (q ++ [z])) (ruleM (q ++ R)) := by
 have hl := List.length_pos_iff.2 hR
 unfold ruleM
 refine (text_e hz q).fd fun n q _ => Ee.fd (n := 0) (attrsL_e hz _ _ _ q (by simp) (by rw [List.length_append]; omega)) fun u q _ => (take_e hz q _).fd fun _ q _ => ?_
 exact (until_f hz hR _ (cond_e hz hR 31 0) q).e.fd fun l q _ => (until_f hz hR _ (action_e hz hR) q).map
theorem query_f (hR : R ≠ []) (q : List Lx) : Ff z R q (queryM (q ++ [z])) (queryM (q ++ R)) := by
 unfold queryM
 exact (name_e hz q).fd fun n q _ => Ee.fd (list_e hz hR q _ _ 0 (fun l q => (var_e hz q).bd (m := 0) (by omega) fun s q _ => eok) _) fun p q _ => (until_f hz hR _ (cond_e hz hR 31 0) q).map
omit hz in
theorem gd_uncons {y : Lx} {q : List Lx} (h : Gd (y :: (q ++ [z]))) : y.k ≠ -1 ∧ Gd (q ++ [z]) := by
 cases q with
 | nil => exact ⟨fun e => by have := h.1.1; omega, h.2⟩
 | cons x q => exact ⟨fun e => by have := h.1.1; omega, h.2⟩
omit hz in
theorem gd_suf {q' q : List Lx} (h : Gd (q ++ [z])) (hs : q' <:+ q) : Gd (q' ++ [z]) := by
 obtain ⟨p, rfl⟩ := hs
 induction p with
 | nil => exact h
 | cons x p ih => exact ih (gd_uncons h).2
omit hz in
theorem gd_last : ∀ {r : List Lx}, Gd r → ∃ q z, r = q ++ [z] ∧ z.k = -1
 | [z], h => ⟨[], z, rfl, h⟩
 | x :: y :: r, h => by
  obtain ⟨q, z, e, hz⟩ := gd_last h.2
  exact ⟨x :: q, z, by rw [e]; rfl, hz⟩
theorem fileL_fuel : ∀ (f g : Nat) (b : Bs) (q : List Lx), q.length < f → q.length < g → fileL f b (q ++ [z]) = fileL g b (q ++ [z])
 | 0, _, _, _, h, _ => absurd h (by omega)
 | _, 0, _, _, _, h => absurd h (by omega)
 | f + 1, g + 1, b, q, hf, hg => by
  have hR : [z] ≠ [] := by simp
  cases q with
  | nil => rw [List.nil_append, fileL, if_pos (by simp [isK, hz]), fileL, if_pos (by simp [isK, hz])]
  | cons x q =>
   simp only [List.length_cons] at hf hg
   have go : ∀ {τ : Type} (A : Rs τ) (k : τ → Bs), Ff z [z] q A A → (A.bd fun c r => fileL f (k c) r) = A.bd fun c r => fileL g (k c) r := fun A k hF => by
    cases A with
    | bad p => rfl
    | ok c r1 =>
     obtain ⟨q1, h1, h2, rfl, h4⟩ := hF c r1 rfl
     exact fileL_fuel f g (k c) q1 (by omega) (by omega)
   rw [List.cons_append]
   unfold fileL
   split; · rfl
   split; · exact go _ (fun c => { b with c := b.c ++ [c] }) (class_f hz hR q)
   split; · exact go _ (fun c => { b with r := b.r ++ [c] }) (rule_f hz hR q)
   split; · exact go _ (fun c => { b with q := b.q ++ [c] }) (query_f hz hR q)
   rfl
theorem fileL_x (hG : Gd R) : ∀ (f g : Nat) (b x : Bs) (q r : List Lx), Gd (q ++ [z]) → q.length < f → q.length + R.length ≤ g → fileL f b (q ++ [z]) = .ok x r → r = [z] ∧ fileL g b (q ++ R) = fileL R.length x R
 | 0, _, _, _, _, _, _, h, _, _ => absurd h (by omega)
 | f + 1, g, b, x, q, r, h, hf, hg, e => by
  have hR : R ≠ [] := fun e => by rw [e] at hG; exact hG
  have hl := List.length_pos_iff.2 hR
  cases q with
  | nil =>
   rw [List.nil_append, fileL, if_pos (by simp [isK, hz])] at e
   cases e
   obtain ⟨q0, z0, rfl, hz0⟩ := gd_last hG
   rw [List.length_append] at hg
   simp only [List.length_nil, List.length_singleton] at hg
   exact ⟨rfl, fileL_fuel hz0 _ _ _ q0 (by omega) (by simp)⟩
  | cons y q =>
   obtain ⟨hy, hq⟩ := gd_uncons h
   cases g with
   | zero => simp only [List.length_cons] at hg; omega
   | succ g =>
    simp only [List.length_cons] at hf hg
    have hk1 : isK (-1) (y :: (q ++ [z])) = false := by simp [isK, hy]
    have hk2 : isK (-1) (y :: (q ++ R)) = false := by simp [isK, hy]
    have go : ∀ {τ : Type} (A A' : Rs τ) (k : τ → Bs), Ff z R q A A' → (A.bd fun c r => fileL f (k c) r) = .ok x r → r = [z] ∧ (A'.bd fun c r => fileL g (k c) r) = fileL R.length x R := fun A A' k hF e => by
     cases A with
     | bad p => cases e
     | ok c r1 =>
      obtain ⟨q1, h1, h2, rfl, h4⟩ := hF c r1 rfl
      rw [h4]
      exact fileL_x hG f g (k c) x q1 r (gd_suf hq h2) (by omega) (by omega) e
    rw [List.cons_append] at e ⊢
    rw [fileL, hk1, if_neg (by simp)] at e
    rw [fileL, hk2, if_neg (by simp)]
    rw [isM_x (R := R), isM_x (R := R), isM_x (R := R)] at e
    split
    ·next hm => rw [if_pos hm] at e; exact go _ _ (fun c => { b with c := b.c ++ [c] }) (class_f hz hR q) e
    ·next hm =>
     rw [if_neg hm] at e
     split
     ·next hm => rw [if_pos hm] at e; exact go _ _ (fun c => { b with r := b.r ++ [c] }) (rule_f hz hR q) e
     ·next hm =>
      rw [if_neg hm] at e
      split
      ·next hm => rw [if_pos hm] at e; exact go _ _ (fun c => { b with q := b.q ++ [c] }) (query_f hz hR q) e
      ·next hm => rw [if_neg hm] at e; cases e
omit hz
def addS (x y : Bs) : Bs := ⟨x.c ++ y.c, x.r ++ y.r, x.q ++ y.q⟩
theorem addS_nil (x : Bs) : addS x {} = x := by simp [addS]
theorem fileL_add (x : Bs) : ∀ (f : Nat) (b : Bs) (r : List Lx), fileL f (addS x b) r = (fileL f b r).bd fun y r => .ok (addS x y) r
 | 0, b, r => rfl
 | f + 1, b, r => by
  have go : ∀ {τ : Type} (A : Rs τ) (k k' : τ → Bs), (∀ c, k' c = addS x (k c)) → (A.bd fun c r => fileL f (k' c) r) = (A.bd fun c r => fileL f (k c) r).bd fun y r => .ok (addS x y) r := fun A k k' hk => by
   cases A with
   | bad p => rfl
   | ok c r1 =>
    show fileL f (k' c) r1 = _
    rw [hk c]
    exact fileL_add x f (k c) r1
  unfold fileL
  split; · rfl
  split; · exact go _ (fun c => { b with c := b.c ++ [c] }) _ (fun c => by simp [addS])
  split; · exact go _ (fun c => { b with r := b.r ++ [c] }) _ (fun c => by simp [addS])
  split; · exact go _ (fun c => { b with q := b.q ++ [c] }) _ (fun c => by simp [addS])
  rfl
end
end Go.Proofs.YtoeodjobggodcaaGreatDoor
/- Two files, one behind the other. -/
namespace Go.Proofs.YtoeodjobggodcaaGreatDoor
section
open Go.RowKit
theorem sh_sx (n : Nat) (x y : Lx) (h1 : x.k = y.k) (h2 : x.t = y.t) (h3 : y.a = x.a + n) : ∀ T : List (Lx × Bool), Sx (fun p q => q = p + n) (T.map Prod.fst ++ [x]) (T.map (fun z => (sh n z).1) ++ [y])
 | [] => ⟨⟨h1, h2, h3⟩, trivial⟩
 | _ :: T => ⟨⟨rfl, rfl, rfl⟩, sh_sx n x y h1 h2 h3 T⟩
theorem Sx.gd {pl : Nat → Nat → Prop} : ∀ {r r' : List Lx}, Sx pl r r' → Gd r → Gd r'
 | [], [], _, h => h
 | [x], [y], h, hg => by have := h.1.1; show y.k = -1; rw [← this]; exact hg
 | x :: x2 :: r, y :: y2 :: r', h, hg => by
  refine ⟨?_, Sx.gd h.2 hg.2⟩
  rw [← h.1.1, ← h.1.2.1]
  exact hg.1
 | [], _ :: _, h, _ => h.elim
 | _ :: _, [], h, _ => h.elim
 | [_], _ :: _ :: _, h, _ => h.2.elim
 | _ :: _ :: _, [_], h, _ => h.2.elim
theorem gd_one {r : List Lx} (h : Gd r) (hk : isK (-1) r = true) : ∃ z, r = [z] := by
 match r, h with
 | [z], _ => exact ⟨z, rfl⟩
 | x :: y :: r, h => have := h.1.1; simp [isK] at hk; omega
theorem bd_add (x : Bs) (A : Rs Bs) : (A.bd fun y r => .ok (addS x y) r).bd endM = (A.bd endM).bd fun y r => .ok (addS x y) r := by
 cases A with
 | bad p => rfl
 | ok y r =>
  show endM (addS x y) r = (endM y r).bd _
  unfold endM
  split <;> rfl
theorem parse_join {a b : ByteArray} (h : a.size + b.size ≤ 3000) {x : Bs} (ha : parseM a = .ok x) :
  (∀ q, parseM b = .bad q → parseM (joinS a b) = .bad (a.size + 1 + q)) ∧ (∀ y, parseM b = .ok y → parseM (joinS a b) = .ok (addS x y)) := by
 have hsz := join_size a b
 have hFa : lexF a = none := by
  unfold parseM readM at ha
  split at ha
  ·cases ha
  ·split at ha
   ·cases ha
   ·assumption
 have hfa : ∃ z r, lexR a = lexT a ++ [z] ∧ z.k = -1 ∧ fileL (lexR a).length {} (lexR a) = .ok x r := by
  unfold parseM readM at ha
  rw [if_neg (by omega), hFa] at ha
  dsimp only at ha
  cases hm : fileL (lexR a).length {} (lexR a) with
  | bad p => rw [hm] at ha; cases ha
  | ok s r =>
   rw [hm, bd_ok] at ha
   unfold endM at ha
   by_cases hk : isK (-1) r = true
   ·rw [if_pos hk] at ha
    cases ha
    exact ⟨_, r, rfl, rfl, rfl⟩
   ·rw [if_neg hk] at ha
    cases ha
 have hbd : ∀ i, lexF b = some i → lexF (joinS a b) = some (a.size + 1 + i) := fun i hF => join_bad2 h hFa hF
 cases hFb : lexF b with
 | some i =>
  have hj := hbd i hFb
  refine ⟨fun q hq => ?_, fun y hy => ?_⟩
  ·unfold parseM readM at hq ⊢
   rw [if_neg (by omega), hFb] at hq
   rw [if_neg (by omega), hj]
   dsimp only at hq ⊢
   cases hq; rfl
  ·unfold parseM readM at hy
   rw [if_neg (by omega), hFb] at hy
   cases hy
 | none =>
  obtain ⟨hj, -, -⟩ := join_good h hFa hFb
  have hA' := (lexF_none (by omega)).1 hFa
  obtain ⟨R, hRj, hRs⟩ : ∃ R, lexR (joinS a b) = lexT a ++ R ∧ Sx (fun p q => q = p + (a.size + 1)) (lexR b) R := by
   have hT : tells 0 (tl (joinS a b) 0) = tells 0 (tl a 0) ++ (tells 0 (tl b 0)).map (sh (a.size + 1)) := by rw [tells_joinS, hA', if_pos rfl]
   have hsx : Sx (fun p q => q = p + (a.size + 1)) (lexR b) ((tells 0 (tl b 0)).map (fun z => (sh (a.size + 1) z).1) ++ [(⟨-1, ⟨#[]⟩, (joinS a b).size, (joinS a b).size⟩ : Lx)]) :=
    sh_sx (a.size + 1) ⟨-1, ⟨#[]⟩, b.size, b.size⟩ ⟨-1, ⟨#[]⟩, (joinS a b).size, (joinS a b).size⟩ rfl rfl (by simp only; omega) _
   refine ⟨_, ?_, hsx⟩
   rw [lexR, lexT, hT, List.map_append, List.map_map, List.append_assoc]
   rfl
  have hGb := (lexR_good (by omega) hFb).1
  have hGR := hRs.gd hGb
  have hGa := (lexR_good (by omega) hFa).1
  obtain ⟨z, r, hRa, hz, hfa⟩ := hfa
  rw [hRa] at hfa hGa
  obtain ⟨-, hx⟩ := fileL_x hz hGR _ (lexR (joinS a b)).length {} x (lexT a) r hGa (by simp) (by rw [hRj, List.length_append]; omega) hfa
  have hs := file_s (pl := fun p q => q = p + (a.size + 1)) ⟨hRs, hGb⟩ {}
  have hfin : (fileL (lexR (joinS a b)).length {} (lexR (joinS a b))).bd endM = ((fileL R.length {} R).bd endM).bd fun y r => .ok (addS x y) r := by
   rw [← bd_add, ← fileL_add, addS_nil, ← hx, hRj]
  unfold parseM readM
  rw [if_neg (by omega), if_neg (by omega), hj, hFb]
  dsimp only
  rw [hfin]
  revert hs
  generalize (fileL (lexR b).length {} (lexR b)).bd endM = A
  generalize (fileL R.length {} R).bd endM = B
  intro hs
  cases A with
  | bad p =>
   cases B with
   | bad p' =>
    obtain rfl : p' = p + (a.size + 1) := hs
    refine ⟨fun q e => ?_, fun y e => by cases e⟩
    cases e
    show Told.bad _ = _
    rw [Nat.add_comm]
   | ok s r => exact hs.elim
  | ok s r =>
   cases B with
   | bad p => exact hs.elim
   | ok t r' =>
    obtain rfl := hs.1
    exact ⟨fun q e => by (cases e), fun y e => by cases e; rfl⟩
end
end Go.Proofs.YtoeodjobggodcaaGreatDoor
/- append of any slice of data to a row that is owned. -/
namespace Go.Proofs.YtoeodjobggodcaaGreatDoor
section
open Go.RowKit
theorem run_append_nil {w : World} {base : Nat} {t ty e : TypeId} {i : TypeInfo} {size cap0 : Nat} (ht : Tryz.prog.underlying t = some (.slice e)) (hi : Tryz.prog.info? e = some i)
  {v : Value} {n : Nat} {xs : List Value} (hown : w.ownsRow base e size v n xs) :
  (Builtin.append_ #[t, t] ty #[v, .slice none 0 cap0]).run Tryz.prog w = .ok v w := by
 rcases hown.2 with ⟨rfl, rfl⟩ | ⟨g, cap, cur, rfl, _, _, hnc, _⟩
 ·simp [Builtin.append_, run_underlying ht, sizeOf, typeInfo, hi, Builtin.lenOf, Builtin.firstCells]
 ·simp [Builtin.append_, run_underlying ht, sizeOf, typeInfo, hi, Builtin.lenOf, Builtin.firstCells, hnc, storeCells]
theorem wp_append_rep {w : World} {o : Oper} {a : Act} {K : Act → World → Prop} {Q : Exit → Act → World → Prop} (s x : Operand) (t : TypeId)
  (ho : o.op = .call { callee := .builtin .append, args := #[s, x], argTypes := #[t, t] })
  (base : Nat) (e : TypeId) (i : TypeInfo) (z : Value) (size bytes : Nat) (ht : Tryz.prog.underlying t = some (.slice e)) (hi : Tryz.prog.info? e = some i) (hz : i.zero = some z)
  (hsize : i.size = size) (hby : i.bytes = bytes) (hzs : z.cells.size = size) (hsz : 0 < size)
  (v : Value) (n : Nat) (xs : List Value) (hs : a.eval s = v) (hown : w.ownsRow base e size v n xs)
  {P : Nat → Prop} {m : Nat} {ds : List Dt} (sv : Value) (hx : a.eval x = sv) (hr : rep P w (.sl m ds) sv) (hl : ds.length = m * size)
  (h63 : n + m ≤ maxLen) (hbytes : (n + m) * bytes ≤ 140737488355328) (hbase : base ≤ w.heap.size)
  (h : ∀ v' w' us, reps P w ds us → w'.ownsRow base e size v' (n + m) (xs ++ us) → w.grownBy w' v.ownBlock → K (a.put o.dst v') w') : o.wp Tryz.prog a w K Q := by
 simp only [rep] at hr
 obtain ⟨a0, cap, us, rfl, h1, h2, h3, h4, h5⟩ := hr
 have hul : us.length = m * size := by rw [reps.length h3, hl]
 cases a0 with
 | none =>
  have hm : m = 0 := by
   by_cases h0 : 0 < m
   ·obtain ⟨b, o, e, -⟩ := h5 h0
    cases e
   ·omega
  subst hm
  have hus : us = [] := List.eq_nil_of_length_eq_zero (by omega)
  subst hus
  have hr := run_append_nil (ty := o.type) (cap0 := cap) ht hi hown
  unfold Oper.wp execOp
  simp only [ho, resolve, invoke, builtin, Sem.run_bind, Sem.run_pure, Result.andThen_ok, List.map_toArray, List.map_cons, List.map_nil, hs, hx, hr]
  exact h v w [] h3 (by simpa using hown) ⟨rfl, rfl, rfl, Nat.le_refl _, fun _ _ _ => rfl⟩
 | some ad =>
  refine wp_append_own s x t ho base e i z size bytes ht hi hz hsize hby hzs hsz v n xs hs hown ad m cap us hx hul (fun j u hj => ?_) (reps.ones h3) h63 hbytes hbase fun v' w' k1 k2 _ => h v' w' us h3 k1 k2
  have hm : 0 < m := by
   have := (List.getElem?_eq_some_iff.1 hj).1
   rw [hul] at this
   exact Nat.pos_of_mul_pos_right (Nat.lt_of_le_of_lt (Nat.zero_le _) this)
  obtain ⟨b, o, e, -, -, hc⟩ := h5 hm
  cases e
  rw [addr_add]
  exact hc j u hj
end
end Go.Proofs.YtoeodjobggodcaaGreatDoor
/- Two files: how many declarations; what lies while rows are put together. -/
namespace Go.Proofs.YtoeodjobggodcaaGreatDoor
section
open Go.RowKit
theorem fileL_many : ∀ (f : Nat) (b : Bs) (r : List Lx) (x : Bs) (r' : List Lx), fileL f b r = .ok x r' → x.c.length ≤ b.c.length + f ∧ x.r.length ≤ b.r.length + f ∧ x.q.length ≤ b.q.length + f
 | 0, b, r, x, r', h => by cases h; simp
 | f + 1, b, r, x, r', h => by
  have go : ∀ {τ : Type} (A : Rs τ) (k : τ → Bs), (A.bd fun c r => fileL f (k c) r) = .ok x r' → (∀ c, (k c).c.length ≤ b.c.length + 1 ∧ (k c).r.length ≤ b.r.length + 1 ∧ (k c).q.length ≤ b.q.length + 1) → x.c.length ≤ b.c.length + (f + 1) ∧ x.r.length ≤ b.r.length + (f + 1) ∧ x.q.length ≤ b.q.length + (f + 1) := fun A k e hk => by
   cases A with
   | bad p => cases e
   | ok c r1 =>
    have h1 := fileL_many f _ _ x r' e
    have h2 := hk c
    omega
  unfold fileL at h
  split at h
  ·cases h; omega
  ·split at h
   ·exact go _ (fun c => { b with c := b.c ++ [c] }) h fun c => by simp
   ·split at h
    ·exact go _ (fun c => { b with r := b.r ++ [c] }) h fun c => by simp
    ·split at h
     ·exact go _ (fun c => { b with q := b.q ++ [c] }) h fun c => by simp
     ·cases h
theorem parse_many {s : ByteArray} {x : Bs} (h : parseM s = .ok x) : x.c.length ≤ 5000 ∧ x.r.length ≤ 5000 ∧ x.q.length ≤ 5000 := by
 unfold parseM readM at h
 split at h
 ·cases h
 ·next hs =>
  split at h
  ·cases h
  ·next hF =>
   have hl := (lexR_good (s := s) (by omega) hF).2
   dsimp only at h
   have hl2 : (lexR s).length ≤ 4097 := by rw [lexR, List.length_append]; simp; omega
   cases hm : fileL (lexR s).length {} (lexR s) with
   | bad p => rw [hm] at h; cases h
   | ok y r =>
    have := fileL_many _ _ _ y r hm
    rw [hm, bd_ok] at h
    unfold endM at h
    by_cases hk : isK (-1) r = true
    ·rw [if_pos hk] at h
     cases h
     simp at this
     omega
    ·rw [if_neg hk] at h; cases h
theorem par_weak {n : Nat} {w' : World} {x : Ending} {T : Told Bs} (h : ParP n w' x T) : ∃ p1 n1 c1 p2 n2 c2 p3 n3 c3, ∃ a e : Int, x = .returned (.tuple #[.agg #[.slice p1 n1 c1, .slice p2 n2 c2, .slice p3 n3 c3], .int .i64 a, .int .i64 e]) := by
 cases T with
 | long => exact ⟨_, _, _, _, _, _, _, _, _, _, _, h⟩
 | bad q => exact ⟨_, _, _, _, _, _, _, _, _, _, _, h⟩
 | ok b =>
  obtain ⟨v, rfl, v1, v2, v3, rfl, h1, h2, h3⟩ := h
  obtain ⟨p1, c1, rfl, -⟩ := sl_form h1
  obtain ⟨p2, c2, rfl, -⟩ := sl_form h2
  obtain ⟨p3, c3, rfl, -⟩ := sl_form h3
  exact ⟨_, _, _, _, _, _, _, _, _, _, _, rfl⟩
theorem Chg.refl (B : Nat) (W : World) : Chg B none W W := ⟨rfl, rfl, rfl, Nat.le_refl _, fun _ _ _ _ => rfl⟩
theorem Chg.drew {B : Nat} {W w : World} (h : Chg B none W w) : Chg B none W w.drew := ⟨h.os, h.tape, h.output, h.size, h.block⟩
theorem Chg.grow {B : Nat} {W w w' : World} {ow : Option Nat} (h : Chg B none W w) (hg : w.grownBy w' ow) (how : ∀ g, ow = some g → W.heap.size ≤ g) : Chg B none W w' :=
 ⟨hg.os.trans h.os, hg.tape.trans h.tape, hg.output.trans h.output, Nat.le_trans h.size hg.size, fun k hk hB ho => (hg.block k (Nat.lt_of_lt_of_le hk h.size) (fun e => by have := how k e.symm; omega)).trans (h.block k hk hB ho)⟩
theorem Chg.then {B : Nat} {W w w' : World} (h : Chg B none W w) (k : Chg B none w w') : Chg B none W w' :=
 ⟨k.os.trans h.os, k.tape.trans h.tape, k.output.trans h.output, Nat.le_trans h.size k.size, fun g hg hB ho => (k.block g (Nat.lt_of_lt_of_le hg h.size) hB ho).trans (h.block g hg hB ho)⟩
theorem Chg.cell' {B : Nat} {W w : World} (h : Chg B none W w) {g j : Nat} (hg : g < W.heap.size) (hB : g ≠ B) : w.cell? ⟨g, j, none⟩ = W.cell? ⟨g, j, none⟩ := World.cell?_of_block (h.block g hg hB (by simp))
theorem kp_chg {B : Nat} {W w : World} (h : Chg B none W w) : Kp (fun b => b ≠ B) W w := ⟨h.size, fun _ hb hlt _ => h.cell' hlt hb⟩
theorem kp_chg2 {B : Nat} {W w w' : World} (h : Chg B none W w) (k : Chg B none W w') (hs : w.heap.size ≤ w'.heap.size) : Kp (fun b => b ≠ B ∧ b < W.heap.size) w w' := ⟨hs, fun _ hb _ _ => (k.cell' hb.2 hb.1).trans (h.cell' hb.2 hb.1).symm⟩
theorem rep.chg {B : Nat} {W w : World} {d : Dt} {v : Value} (h : rep (fun b => b ≠ B) W d v) (k : Chg B Option.none W w) : rep (fun b => b ≠ B) w d v := rep.move (kp_chg k) (fun _ _ h => h) d v h
theorem rep.old {B : Nat} {W w : World} {d : Dt} {v : Value} (h : rep (fun b => b ≠ B) W d v) (k : Chg B Option.none W w) : rep (fun b => b ≠ B ∧ b < W.heap.size) w d v :=
 rep.move (Kp.mono (kp_chg2 (Chg.refl B W) k k.size) fun _ _ h => h) (fun _ _ h => h) d v (rep.move Kp.refl (fun _ hb h => ⟨h, hb⟩) d v h)
theorem own_nil (w : World) (base : Nat) (e : TypeId) (size : Nat) : w.ownsRow base e size (.slice none 0 0) 0 [] := ⟨by simp, .inl ⟨rfl, rfl⟩⟩
theorem ca_len (l : List Ca) : (l.flatMap Ca.cs).length = l.length * 3 := by
 induction l with
 | nil => rfl
 | cons x l ih => rw [List.flatMap_cons, List.length_append, ih, List.length_cons, show x.cs.length = 3 from rfl]; omega
theorem ru_len (l : List Ru) : (l.flatMap Ru.cs).length = l.length * 8 := by
 induction l with
 | nil => rfl
 | cons x l ih => rw [List.flatMap_cons, List.length_append, ih, List.length_cons, show x.cs.length = 8 from rfl]; omega
theorem qu_len (l : List Qu) : (l.flatMap Qu.cs).length = l.length * 3 := by
 induction l with
 | nil => rfl
 | cons x l ih => rw [List.flatMap_cons, List.length_append, ih, List.length_cons, show x.cs.length = 3 from rfl]; omega
theorem sx_self {n : Nat} : ∀ {r : List Lx}, (∀ x ∈ r, x.a ≤ n) → Sx (fun p _ => p ≤ n) r r
 | [], _ => trivial
 | x :: _, h => ⟨⟨rfl, rfl, h x (by simp)⟩, sx_self fun y hy => h y (by simp [hy])⟩
theorem bad_le {s : ByteArray} (hs : s.size ≤ 4096) {q : Nat} (h : parseM s = .bad q) : q ≤ s.size := by
 unfold parseM readM at h
 rw [if_neg (by omega)] at h
 cases hF : lexF s with
 | some i =>
  rw [hF] at h
  cases h
  have := (lexF_some hs hF).1
  omega
 | none =>
  rw [hF] at h
  dsimp only at h
  have hx : ∀ x ∈ lexR s, x.a ≤ s.size := fun x hx => by
   unfold lexR at hx
   rcases List.mem_append.1 hx with hx | hx
   ·obtain ⟨z, hz, rfl⟩ := List.mem_map.1 hx
    have := (tells_form _ 0 (tl s 0) (Nat.le_refl _)).2.1 z hz
    rw [tl0_len] at this
    omega
   ·simp at hx
    subst hx
    exact Nat.le_refl _
  have := file_s (pl := fun p _ => p ≤ s.size) ⟨sx_self hx, (lexR_good (by omega) hF).1⟩ {}
  revert h this
  generalize (fileL (lexR s).length {} (lexR s)).bd endM = A
  intro h this
  cases A with
  | bad a => cases h; exact this
  | ok x r => cases h
end
end Go.Proofs.YtoeodjobggodcaaGreatDoor
