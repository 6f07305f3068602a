/- Lexemes of quoted texts; of texts one behind the other. -/
import Derived.Test.YtlheiiapolhpeaaLMostA
namespace Go.Proofs.Ytlheiiapolhpeaa
open Go.RowKit

/-! What stands in quotes. -/
theorem quoL_q (t : List UInt8) : quo (34 :: t) = some ([], 1) := by cases t <;> rfl
theorem quoL_low {c : UInt8} (h : c < 32) (t : List UInt8) : quo (c :: t) = none := by
  have h1 : ¬ c = 34 := fun e => by rw [e] at h; exact absurd h (by decide)
  cases t with
  | nil => rw [quo, if_neg h1]
  | cons d r => rw [quo, if_neg h1, if_pos h]
theorem quoL_plain {c : UInt8} (h1 : ¬ c = 34) (h2 : ¬ c < 32) (h3 : ¬ c = 92) (t : List UInt8) : quo (c :: t) = (quo t).map (fun p => (c :: p.1, p.2 + 1)) := by
  cases t with
  | nil => show quo [c] = none; rw [quo, if_neg h1]
  | cons d r => rw [quo, if_neg h1, if_neg h2, if_neg h3]
theorem quoL_esc {d x : UInt8} (h : escU d = some x) (r : List UInt8) : quo (92 :: d :: r) = (quo r).map (fun p => (x :: p.1, p.2 + 2)) := by
  rw [quo, if_neg (by decide), if_neg (by decide), if_pos rfl, h]
theorem quoL_esc_no {d : UInt8} (h : escU d = none) (r : List UInt8) : quo (92 :: d :: r) = none := by
  rw [quo, if_neg (by decide), if_neg (by decide), if_pos rfl, h]

def okC (c : UInt8) : Bool := !(decide (c < 32) && !(c == 10) && !(c == 9))

theorem quo_flat : ∀ (l r : List UInt8), quo (l.flatMap qc ++ 34 :: r) = if l.all okC then some (l, (l.flatMap qc).length + 1) else none
  | [], r => by
    rw [List.flatMap_nil, List.nil_append, quoL_q]; rfl
  | c :: l, r => by
    have ih := quo_flat l r
    rw [List.flatMap_cons, List.append_assoc, List.all_cons, List.length_append]
    by_cases h1 : c = 34 ∨ c = 92
    · have hc : qc c = [92, c] := by rw [qc, if_pos h1]
      have ho : okC c = true := by rcases h1 with h | h <;> rw [h] <;> decide
      have he : escU c = some c := by rcases h1 with h | h <;> rw [h] <;> decide
      rw [hc]
      show quo (92 :: c :: (l.flatMap qc ++ 34 :: r)) = _
      rw [quoL_esc he, ih, ho, Bool.true_and]
      split <;> simp <;> omega
    · by_cases h2 : c = 10
      · subst h2
        show quo (92 :: 110 :: (l.flatMap qc ++ 34 :: r)) = _
        rw [quoL_esc (x := 10) (by decide), ih, show okC 10 = true from by decide, Bool.true_and, show (qc 10).length = 2 from by decide]
        split <;> simp <;> omega
      · by_cases h3 : c = 9
        · subst h3
          show quo (92 :: 116 :: (l.flatMap qc ++ 34 :: r)) = _
          rw [quoL_esc (x := 9) (by decide), ih, show okC 9 = true from by decide, Bool.true_and, show (qc 9).length = 2 from by decide]
          split <;> simp <;> omega
        · have hc : qc c = [c] := by rw [qc, if_neg h1, if_neg h2, if_neg h3]
          rw [hc]
          show quo (c :: (l.flatMap qc ++ 34 :: r)) = _
          by_cases h4 : c < 32
          · rw [quoL_low h4]
            have : okC c = false := by simp [okC, h4, h2, h3]
            rw [this]; rfl
          · rw [quoL_plain (fun e => h1 (.inl e)) h4 (fun e => h1 (.inr e)), ih]
            have : okC c = true := by simp [okC, h4]
            rw [this, Bool.true_and]
            split <;> simp <;> omega

/-- A quoted text between two blanks. -/
def qb (s : ByteArray) : ByteArray := ⟨#[32]⟩ ++ quoteS s ++ ⟨#[32]⟩
theorem tl_qb (s : ByteArray) : tl (qb s) 0 = 32 :: 34 :: (s.data.toList.flatMap qc ++ 34 :: [32]) := by
  simp [tl, qb, quoteS, bs]
theorem oneL_q (a : Nat) (r : List UInt8) : oneL a (34 :: r) = quoL a r := by
  rw [oneL, if_neg (by decide), if_neg (by decide), if_neg (by decide), if_pos rfl]
theorem tells_q_no (a : Nat) {r : List UInt8} (h : quo r = none) : tells a (34 :: r) = [(⟨0, ⟨#[]⟩, a, 0⟩, false)] := by
  have hb : blk false (34 :: r) = 0 := by
    rw [blk, if_neg (by decide), if_neg]
    cases r <;> simp [pre2]
  have := tells_no (a := a) (l := 34 :: r) (c := 34) (r := r) (by rw [hb, List.drop_zero]) (by rw [oneL_q, quoL, h]; rfl)
  rw [hb] at this
  exact this
theorem tells_q_yes (a : Nat) {r : List UInt8} {p : List UInt8 × Nat} (h : quo r = some p) : tells a (34 :: r) = (⟨3, bs p.1, a, a + 1 + p.2⟩, true) :: tells (a + 1 + p.2) (r.drop p.2) := by
  have hb : blk false (34 :: r) = 0 := by
    rw [blk, if_neg (by decide), if_neg]
    cases r <;> simp [pre2]
  have := tells_yes (a := a) (l := 34 :: r) (c := 34) (r := r) (x := ⟨3, bs p.1, a, a + 1 + p.2⟩) (by rw [hb, List.drop_zero]) (by rw [hb, oneL_q, quoL, h]; rfl)
  rw [this]
  simp only
  rw [show a + 1 + p.2 - a = p.2 + 1 by omega, List.drop_succ_cons]

theorem bs_list (s : ByteArray) : bs s.data.toList = s := by simp [bs]
theorem quoted_bad {s : ByteArray} (h : s.data.toList.all okC = false) : lexF (qb s) = some 1 := by
  have hq := quo_flat s.data.toList [32]
  rw [h, if_neg (by decide)] at hq
  rw [lexF, tl_qb, tells_blank (by decide), tells_q_no 1 hq]
  rfl
theorem quoted_good {s : ByteArray} (h : s.data.toList.all okC = true) : lexF (qb s) = none ∧ ∃ e, lexT (qb s) = [⟨3, s, 1, e⟩] := by
  have hq := quo_flat s.data.toList [32]
  rw [h, if_pos rfl] at hq
  have hd : (s.data.toList.flatMap qc ++ 34 :: [32]).drop ((s.data.toList.flatMap qc).length + 1) = [32] := by
    rw [← List.drop_drop, List.drop_left]; rfl
  have hT : tells 0 (tl (qb s) 0) = [(⟨3, s, 1, 0 + 1 + 1 + ((s.data.toList.flatMap qc).length + 1)⟩, true)] := by
    rw [tl_qb, tells_blank (by decide), tells_q_yes _ hq]
    simp only
    rw [hd, bs_list, tells_blank (by decide), tells_end (l := []) rfl]
  refine ⟨by rw [lexF, hT]; rfl, ⟨_, by rw [lexT, hT]; rfl⟩⟩
theorem qb_size (s : ByteArray) (h : s.size ≤ 2000) : (qb s).size ≤ 65536 := by
  have h1 := qfl_le s.data.toList
  rw [← Lib.size_eq] at h1
  have h2 : (quoteS s).size = (s.data.toList.flatMap qc).length + 2 := by
    rw [quoteS, bs_size]; simp
  rw [qb, ByteArray.size_append, ByteArray.size_append, h2]
  show 1 + _ + 1 ≤ _
  omega

/-! One text behind the other, a line's end between. -/
theorem takeWhile_app {p : UInt8 → Bool} (hp : p 10 = false) (b : List UInt8) : ∀ l : List UInt8, (l ++ 10 :: b).takeWhile p = l.takeWhile p
  | [] => by rw [List.nil_append, List.takeWhile_cons_of_neg (by simp [hp])]; rfl
  | c :: l => by
    rw [List.cons_append]
    cases h : p c with
    | true => rw [List.takeWhile_cons_of_pos h, List.takeWhile_cons_of_pos h, takeWhile_app hp b l]
    | false => rw [List.takeWhile_cons_of_neg (by simp [h]), List.takeWhile_cons_of_neg (by simp [h])]
theorem quo_app (b : List UInt8) : ∀ l : List UInt8, quo (l ++ 10 :: b) = quo l
  | [] => quoL_low (by decide) _
  | [c] => by
    show quo (c :: 10 :: b) = quo [c]
    by_cases h1 : c = 34
    · subst h1; rw [quoL_q, quoL_q]
    · have h0 : quo [c] = none := by rw [quo, if_neg h1]
      rw [h0]
      by_cases h2 : c < 32
      · exact quoL_low h2 _
      · by_cases h3 : c = 92
        · subst h3; exact quoL_esc_no (by decide) _
        · rw [quoL_plain h1 h2 h3, quoL_low (by decide)]; rfl
  | c :: d :: r => by
    show quo (c :: d :: (r ++ 10 :: b)) = _
    have i1 := quo_app b r
    have i2 := quo_app b (d :: r)
    rw [List.cons_append] at i2
    rw [quo, quo, i1, i2]
theorem pre2_app (b : List UInt8) (c : UInt8) (r : List UInt8) : pre2 (c :: (r ++ 10 :: b)) = pre2 (c :: r) := by
  cases r with
  | nil => simp [pre2]
  | cons d r => simp [pre2]
theorem oneL_app (a : Nat) (b : List UInt8) (c : UInt8) (r : List UInt8) : oneL a (c :: (r ++ 10 :: b)) = oneL a (c :: r) := by
  have h1 := takeWhile_app (p := isCh) (by decide) b (c :: r)
  have h2 := takeWhile_app (p := isDig) (by decide) b (c :: r)
  rw [List.cons_append] at h1 h2
  have h3 : varL a (r ++ 10 :: b) = varL a r := by
    cases r with
    | nil => unfold varL; rw [List.nil_append]; simp only; rw [if_neg (by decide)]
    | cons d r =>
      have h := takeWhile_app (p := isCh) (by decide) b (d :: r)
      rw [List.cons_append] at h ⊢
      unfold varL
      simp only
      rw [h]
  have h4 : quoL a (r ++ 10 :: b) = quoL a r := by rw [quoL, quoL, quo_app]
  have h5 : markL a (c :: (r ++ 10 :: b)) = markL a (c :: r) := by
    have ht : twoL (c :: (r ++ 10 :: b)) = twoL (c :: r) := by
      cases r with
      | nil =>
        have : twoB (bs [c, 10]) = false := by
          simp [twoB, twos, bs, Lib.toList_data]
        simp [twoL, this]
      | cons d r => simp [twoL]
    unfold markL
    simp only
    rw [ht]
    cases r with
    | nil => rw [show twoL [c] = false from by simp [twoL]]; rfl
    | cons d r => simp [List.take_succ_cons]
  rw [oneL, oneL, h1, h2, h3, h4, h5]
end Go.Proofs.Ytlheiiapolhpeaa
