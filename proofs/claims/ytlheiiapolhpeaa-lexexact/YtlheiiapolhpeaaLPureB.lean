/- The lexemes of two texts, one behind the other. -/
import Derived.Test.YtlheiiapolhpeaaLPureA
namespace Go.Proofs.Ytlheiiapolhpeaa
open Go.RowKit

theorem blk_app_yes (t : List UInt8) : ∀ (l : List UInt8) (b : Bool), blk b l = l.length → blk b (l ++ 10 :: t) = l.length + 1 + blk false t
  | [], b, _ => by
    cases b <;> rw [List.nil_append, blk]
    · rw [if_pos (by decide)]; simp; omega
    · rw [if_pos rfl]; simp; omega
  | c :: l, true, h => by
    rw [List.cons_append, blk]
    rw [blk, List.length_cons] at h
    by_cases hc : c = 10
    · rw [if_pos hc] at h ⊢
      rw [blk_app_yes t l false (by omega), List.length_cons]; omega
    · rw [if_neg hc] at h ⊢
      rw [blk_app_yes t l true (by omega), List.length_cons]; omega
  | c :: l, false, h => by
    rw [List.cons_append, blk, pre2_app]
    rw [blk, List.length_cons] at h
    by_cases hc : isBl c = true
    · rw [if_pos hc] at h ⊢
      rw [blk_app_yes t l false (by omega), List.length_cons]; omega
    · rw [if_neg hc] at h ⊢
      by_cases hp : pre2 (c :: l) = true
      · rw [if_pos hp] at h ⊢
        rw [blk_app_yes t l true (by omega), List.length_cons]; omega
      · rw [if_neg hp] at h; omega
theorem blk_app_no (t : List UInt8) : ∀ (l : List UInt8) (b : Bool), blk b l < l.length → blk b (l ++ 10 :: t) = blk b l
  | [], b, h => by simp at h
  | c :: l, true, h => by
    rw [List.cons_append, blk]
    rw [blk, List.length_cons] at h
    rw [blk]
    by_cases hc : c = 10
    · rw [if_pos hc] at h ⊢
      rw [if_pos hc, blk_app_no t l false (by omega)]
    · rw [if_neg hc] at h ⊢
      rw [if_neg hc, blk_app_no t l true (by omega)]
  | c :: l, false, h => by
    rw [List.cons_append, blk, pre2_app]
    rw [blk, List.length_cons] at h
    rw [blk]
    by_cases hc : isBl c = true
    · rw [if_pos hc] at h ⊢
      rw [if_pos hc, blk_app_no t l false (by omega)]
    · rw [if_neg hc] at h ⊢
      rw [if_neg hc]
      by_cases hp : pre2 (c :: l) = true
      · rw [if_pos hp] at h ⊢
        rw [if_pos hp, blk_app_no t l true (by omega)]
      · rw [if_neg hp, if_neg hp]

/-- Blanks ahead are passed by. -/
theorem tells_skip (a : Nat) (pre b : List UInt8) (h : blk false (pre ++ b) = pre.length + blk false b) : tells a (pre ++ b) = tells (a + pre.length) b := by
  have hd : (pre ++ b).drop (blk false (pre ++ b)) = b.drop (blk false b) := by rw [h, ← List.drop_drop, List.drop_left]
  have ha : a + blk false (pre ++ b) = a + pre.length + blk false b := by rw [h]; omega
  cases h0 : b.drop (blk false b) with
  | nil => rw [tells_end (hd.trans h0), tells_end h0]
  | cons d r =>
    cases h1 : oneL (a + pre.length + blk false b) (d :: r) with
    | none => rw [tells_no (hd.trans h0) (by rw [ha]; exact h1), tells_no h0 h1, ha]
    | some x =>
      have hp := oneL_pos h1
      rw [tells_yes (hd.trans h0) (by rw [ha]; exact h1), tells_yes h0 h1]
      rw [show x.e - a = pre.length + (x.e - (a + pre.length)) by omega, ← List.drop_drop, List.drop_left]

def allT (T : List (Lx × Bool)) : Bool := T.all (·.2)

theorem tells_join : ∀ (n a : Nat) (l b : List UInt8), l.length ≤ n → tells a (l ++ 10 :: b) = if allT (tells a l) then tells a l ++ tells (a + l.length + 1) b else tells a l
  | n, a, l, b, hn => by
    have hle := blk_le false l
    cases hd : l.drop (blk false l) with
    | nil =>
      have hb : blk false l = l.length := by
        have := congrArg List.length hd
        rw [List.length_drop, List.length_nil] at this; omega
      rw [tells_end hd]
      have hs := tells_skip a (l ++ [10]) b (by
        rw [List.append_assoc, List.cons_append, List.nil_append, blk_app_yes b l false hb, List.length_append]; rfl)
      rw [List.append_assoc, List.cons_append, List.nil_append] at hs
      rw [hs, List.length_append]
      rfl
    | cons c r =>
      have hlt : blk false l < l.length := by
        have := congrArg List.length hd
        rw [List.length_drop, List.length_cons] at this; omega
      have hb := blk_app_no b l false hlt
      have hd' : (l ++ 10 :: b).drop (blk false (l ++ 10 :: b)) = c :: (r ++ 10 :: b) := by
        rw [hb, List.drop_append_of_le_length hle, hd]; rfl
      cases h1 : oneL (a + blk false l) (c :: r) with
      | none =>
        rw [tells_no hd h1, tells_no hd' (by rw [hb, oneL_app]; exact h1), hb]
        rfl
      | some x =>
        have hp := oneL_pos h1
        have hlc := congrArg List.length hd
        rw [List.length_drop, List.length_cons] at hlc
        rw [List.length_cons] at hp
        rw [tells_yes hd h1, tells_yes hd' (by rw [hb, oneL_app]; exact h1)]
        rw [List.drop_append_of_le_length (by omega)]
        match n, hn with
        | 0, hn => omega
        | n + 1, hn =>
          rw [tells_join n x.e (l.drop (x.e - a)) b (by rw [List.length_drop]; omega), List.length_drop]
          rw [show x.e + (l.length - (x.e - a)) + 1 = a + l.length + 1 by omega]
          rw [show allT ((x, true) :: tells x.e (l.drop (x.e - a))) = allT (tells x.e (l.drop (x.e - a))) from by simp [allT]]
          split <;> rfl

/-- A lexeme that is moved. -/
def sh (n : Nat) (z : Lx × Bool) : Lx × Bool := (⟨z.1.k, z.1.t, z.1.a + n, if z.2 then z.1.e + n else z.1.e⟩, z.2)
def shx (n : Nat) (x : Lx) : Lx := ⟨x.k, x.t, x.a + n, x.e + n⟩
theorem oneL_shift (a n : Nat) (l : List UInt8) : oneL (a + n) l = (oneL a l).map (shx n) := by
  cases l with
  | nil => rfl
  | cons c r =>
    rw [oneL, oneL]
    split
    · simp [shx]; omega
    split
    · simp [shx]; omega
    split
    · unfold varL
      cases r with
      | nil => rfl
      | cons d r =>
        simp only
        split
        · simp [shx]; omega
        · rfl
    split
    · unfold quoL
      rw [Option.map_map]
      congr 1
      funext p
      simp [shx]; omega
    · unfold markL
      simp only
      split
      · simp [shx]; omega
      split
      · simp [shx]; omega
      · rfl
theorem tells_shift : ∀ (m a n : Nat) (l : List UInt8), l.length ≤ m → tells (a + n) l = (tells a l).map (sh n)
  | m, a, n, l, hm => by
    have hle := blk_le false l
    have ha : a + n + blk false l = a + blk false l + n := by omega
    cases hd : l.drop (blk false l) with
    | nil => rw [tells_end hd, tells_end hd]; rfl
    | cons c r =>
      cases h1 : oneL (a + blk false l) (c :: r) with
      | none =>
        rw [tells_no hd h1, tells_no hd (by rw [ha, oneL_shift, h1]; rfl), ha]
        rfl
      | some x =>
        have hp := oneL_pos h1
        have hlc := congrArg List.length hd
        rw [List.length_drop, List.length_cons] at hlc
        rw [List.length_cons] at hp
        rw [tells_yes hd h1, tells_yes hd (by rw [ha, oneL_shift, h1]; rfl)]
        match m, hm with
        | 0, hm => omega
        | m + 1, hm =>
          rw [List.map_cons]
          have e1 : (shx n x).e = x.e + n := rfl
          rw [e1, show x.e + n - (a + n) = x.e - a by omega, tells_shift m x.e n _ (by rw [List.length_drop]; omega)]
          rfl

/-- Of what form they are: all may be, or the last may not. -/
theorem tells_form : ∀ (m a : Nat) (l : List UInt8), l.length ≤ m → (tells a l).length ≤ l.length ∧ (∀ z ∈ tells a l, a ≤ z.1.a ∧ z.1.a < a + l.length) ∧
    (allT (tells a l) = true ∨ ∃ p z, tells a l = p ++ [z] ∧ (∀ y ∈ p, y.2 = true) ∧ z.2 = false)
  | m, a, l, hm => by
    have hle := blk_le false l
    cases hd : l.drop (blk false l) with
    | nil => rw [tells_end hd]; exact ⟨Nat.zero_le _, fun z hz => by simp at hz, .inl rfl⟩
    | cons c r =>
      have hlc := congrArg List.length hd
      rw [List.length_drop, List.length_cons] at hlc
      cases h1 : oneL (a + blk false l) (c :: r) with
      | none =>
        rw [tells_no hd h1]
        refine ⟨by simp; omega, fun z hz => ?_, .inr ⟨[], _, rfl, fun y hy => by simp at hy, rfl⟩⟩
        simp at hz; subst hz; simp only; omega
      | some x =>
        have hp := oneL_pos h1
        rw [List.length_cons] at hp
        rw [tells_yes hd h1]
        match m, hm with
        | 0, hm => omega
        | m + 1, hm =>
          obtain ⟨i1, i2, i3⟩ := tells_form m x.e (l.drop (x.e - a)) (by rw [List.length_drop]; omega)
          rw [List.length_drop] at i1
          refine ⟨by rw [List.length_cons]; omega, fun z hz => ?_, ?_⟩
          · rcases List.mem_cons.1 hz with rfl | hz
            · simp only; omega
            · have := i2 z hz
              rw [List.length_drop] at this
              omega
          · rcases i3 with i3 | ⟨p, z, e, h3, h4⟩
            · exact .inl (by unfold allT at i3 ⊢; rw [List.all_cons, i3]; rfl)
            · refine .inr ⟨(x, true) :: p, z, by rw [e]; rfl, fun y hy => ?_, h4⟩
              rcases List.mem_cons.1 hy with rfl | hy
              · rfl
              · exact h3 y hy

theorem tl0_len (s : ByteArray) : (tl s 0).length = s.size := by rw [tl_len]; omega
theorem lexF_none {s : ByteArray} (h : s.size ≤ 4096) : lexF s = none ↔ allT (tells 0 (tl s 0)) = true := by
  obtain ⟨h1, -, h3⟩ := tells_form _ 0 (tl s 0) (Nat.le_refl _)
  rw [tl0_len] at h1
  constructor
  · intro hF
    rcases h3 with h3 | ⟨p, z, e, h3, h4⟩
    · exact h3
    · rw [e, List.length_append, List.length_singleton] at h1
      rw [lexF, e, gth_bad p z [] 0 h3 (by omega) (.inl h4)] at hF
      cases hF
  · intro hA
    exact gth_ok _ 0 (fun z hz => List.all_eq_true.1 hA z hz) (by omega)
theorem lexF_some {s : ByteArray} (h : s.size ≤ 4096) {a : Nat} (hF : lexF s = some a) : a < s.size ∧ ∃ p z, tells 0 (tl s 0) = p ++ [z] ∧ (∀ y ∈ p, y.2 = true) ∧ z.2 = false ∧ z.1.a = a := by
  obtain ⟨h1, h2, h3⟩ := tells_form _ 0 (tl s 0) (Nat.le_refl _)
  rw [tl0_len] at h1
  rcases h3 with h3 | ⟨p, z, e, h3, h4⟩
  · rw [(lexF_none h).2 h3] at hF; cases hF
  · have h5 := h2 z (by rw [e]; simp)
    rw [tl0_len] at h5
    rw [e, List.length_append, List.length_singleton] at h1
    rw [lexF, e, gth_bad p z [] 0 h3 (by omega) (.inl h4)] at hF
    cases hF
    exact ⟨by omega, p, z, e, h3, h4, rfl⟩
theorem lexT_le {s : ByteArray} : (lexT s).length ≤ s.size := by
  obtain ⟨h1, -, -⟩ := tells_form _ 0 (tl s 0) (Nat.le_refl _)
  rw [lexT_len, ← tl0_len]; exact h1

/-- One text behind the other. -/
def joinS (a b : ByteArray) : ByteArray := a ++ ⟨#[10]⟩ ++ b
theorem tl_join (a b : ByteArray) : tl (joinS a b) 0 = tl a 0 ++ 10 :: tl b 0 := by simp [tl, joinS]
theorem join_size (a b : ByteArray) : (joinS a b).size = a.size + 1 + b.size := by rw [joinS, ByteArray.size_append, ByteArray.size_append]; rfl
theorem tells_joinS (a b : ByteArray) : tells 0 (tl (joinS a b) 0) = if allT (tells 0 (tl a 0)) then tells 0 (tl a 0) ++ (tells 0 (tl b 0)).map (sh (a.size + 1)) else tells 0 (tl a 0) := by
  rw [tl_join, tells_join _ 0 _ _ (Nat.le_refl _), tl0_len, ← tells_shift _ 0 _ _ (Nat.le_refl _)]
  rw [show 0 + a.size + 1 = 0 + (a.size + 1) by omega]
theorem allT_sh (n : Nat) (T : List (Lx × Bool)) : allT (T.map (sh n)) = allT T := by
  unfold allT; rw [List.all_map]; rfl
theorem join_bad1 {a b : ByteArray} (h : a.size + b.size ≤ 2000) {i : Nat} (hF : lexF a = some i) : ∃ j, lexF (joinS a b) = some j := by
  have hA : allT (tells 0 (tl a 0)) = false := by
    cases hh : allT (tells 0 (tl a 0)) with
    | false => rfl
    | true => rw [(lexF_none (by omega)).2 hh] at hF; cases hF
  cases hj : lexF (joinS a b) with
  | some j => exact ⟨j, rfl⟩
  | none =>
    have := (lexF_none (by rw [join_size]; omega)).1 hj
    rw [tells_joinS, hA, if_neg (by decide), hA] at this
    cases this
theorem join_bad2 {a b : ByteArray} (h : a.size + b.size ≤ 2000) (hA : lexF a = none) {i : Nat} (hF : lexF b = some i) : lexF (joinS a b) = some (a.size + 1 + i) := by
  have hA' := (lexF_none (by omega)).1 hA
  obtain ⟨-, p, z, e, h3, h4, rfl⟩ := lexF_some (by omega) hF
  have h1 := (tells_form _ 0 (tl a 0) (Nat.le_refl _)).1
  have h2 := (tells_form _ 0 (tl b 0) (Nat.le_refl _)).1
  rw [tl0_len] at h1 h2
  rw [e, List.length_append, List.length_singleton] at h2
  rw [lexF, tells_joinS, hA', if_pos rfl, e, List.map_append, ← List.append_assoc]
  have := gth_bad (tells 0 (tl a 0) ++ p.map (sh (a.size + 1))) (sh (a.size + 1) z) [] 0 (fun y hy => by
    rcases List.mem_append.1 hy with hy | hy
    · exact List.all_eq_true.1 hA' y hy
    · obtain ⟨y', hy', rfl⟩ := List.mem_map.1 hy
      exact h3 y' hy') (by rw [List.length_append, List.length_map]; omega) (.inl h4)
  refine this.trans ?_
  show some (z.1.a + (a.size + 1)) = _
  rw [Nat.add_comm]
theorem join_good {a b : ByteArray} (h : a.size + b.size ≤ 2000) (hA : lexF a = none) (hB : lexF b = none) : lexF (joinS a b) = none ∧ (lexT (joinS a b)).length = (lexT a).length + (lexT b).length ∧
    ∀ k (hk : k < (lexT b).length) (hk' : (lexT a).length + k < (lexT (joinS a b)).length), (lexT (joinS a b))[(lexT a).length + k].a = (lexT b)[k].a + a.size + 1 ∧ (lexT (joinS a b))[(lexT a).length + k].t = (lexT b)[k].t ∧ (lexT (joinS a b))[(lexT a).length + k].k = (lexT b)[k].k := by
  have hA' := (lexF_none (by omega)).1 hA
  have hB' := (lexF_none (by omega)).1 hB
  have hT : tells 0 (tl (joinS a b) 0) = tells 0 (tl a 0) ++ (tells 0 (tl b 0)).map (sh (a.size + 1)) := by rw [tells_joinS, hA', if_pos rfl]
  have hL : lexT (joinS a b) = lexT a ++ (tells 0 (tl b 0)).map (fun z => (sh (a.size + 1) z).1) := by
    rw [lexT, hT, List.map_append, List.map_map]; rfl
  refine ⟨(lexF_none (by rw [join_size]; omega)).2 ?_, ?_, ?_⟩
  · rw [hT]; unfold allT at *; rw [List.all_append, hA']; exact (allT_sh _ _).trans hB'
  · rw [hL, List.length_append, List.length_map, lexT_len b]
  · intro k hk hk'
    have : (lexT (joinS a b))[(lexT a).length + k] = (sh (a.size + 1) ((tells 0 (tl b 0))[k]'(by rw [← lexT_len]; exact hk))).1 := by
      simp only [hL]
      rw [List.getElem_append_right (by omega)]
      simp
    rw [this]
    simp only [lexT, List.getElem_map]
    refine ⟨?_, rfl, rfl⟩
    show _ + (a.size + 1) = _
    omega
end Go.Proofs.Ytlheiiapolhpeaa
