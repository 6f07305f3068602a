/- As many lexemes, as many bytes as may be: what their lexemes are. -/
import Derived.Test.YtlheiiapolhpeaaLWake
namespace Go.Proofs.Ytlheiiapolhpeaa
open Go.RowKit

theorem tl_bs (l : List UInt8) : tl (bs l) 0 = l := by simp [tl, bs]

theorem tells_blank {c : UInt8} (hc : isBl c = true) (a : Nat) (l : List UInt8) : tells a (c :: l) = tells (a + 1) l := by
  have hb : blk false (c :: l) = blk false l + 1 := by rw [blk, if_pos hc]
  have hd : (c :: l).drop (blk false (c :: l)) = l.drop (blk false l) := by rw [hb, List.drop_succ_cons]
  have ha : a + blk false (c :: l) = a + 1 + blk false l := by rw [hb]; omega
  cases h : l.drop (blk false l) with
  | nil => rw [tells_end (hd.trans h), tells_end h]
  | cons d r =>
    cases h1 : oneL (a + 1 + blk false l) (d :: r) with
    | none => rw [tells_no (hd.trans h) (by rw [ha]; exact h1), tells_no h h1, ha]
    | some x =>
      have hp := oneL_pos h1
      rw [tells_yes (hd.trans h) (by rw [ha]; exact h1), tells_yes h h1]
      rw [show x.e - a = (x.e - (a + 1)) + 1 by omega, List.drop_succ_cons]

theorem tells_a (a : Nat) (l : List UInt8) : tells a (97 :: 32 :: l) = (⟨0, bs [97], a, a + 1⟩, true) :: tells (a + 2) l := by
  have hb : blk false (97 :: 32 :: l) = 0 := by
    rw [blk, if_neg (by decide), if_neg]
    unfold pre2
    simp
  have hd : (97 :: 32 :: l : List UInt8).drop (blk false (97 :: 32 :: l)) = 97 :: 32 :: l := by rw [hb, List.drop_zero]
  have ho : oneL (a + blk false (97 :: 32 :: l)) (97 :: 32 :: l) = some ⟨0, bs [97], a, a + 1⟩ := by
    rw [hb, Nat.add_zero, oneL, if_pos (by decide), List.takeWhile_cons, if_pos (by decide), List.takeWhile_cons, if_neg (by decide)]
    rfl
  rw [tells_yes hd ho]
  simp only [Nat.add_sub_cancel_left, List.drop_succ_cons, List.drop_zero]
  rw [tells_blank (by decide)]

theorem tells_b (a : Nat) : tells a [98] = [(⟨0, bs [98], a, a + 1⟩, true)] := by
  have hb : blk false [98] = 0 := by decide
  have hd : ([98] : List UInt8).drop (blk false [98]) = [98] := by rw [hb, List.drop_zero]
  have ho : oneL (a + blk false [98]) [98] = some ⟨0, bs [98], a, a + 1⟩ := by
    rw [hb, Nat.add_zero, oneL, if_pos (by decide), List.takeWhile_cons, if_pos (by decide)]
    rfl
  rw [tells_yes hd ho]
  simp only [Nat.add_sub_cancel_left, List.drop_succ_cons, List.drop_zero]
  rw [tells_end (by decide)]

/-- A letter and a blank, so many times. -/
def rep : Nat → List UInt8
  | 0 => []
  | n + 1 => rep n ++ [97, 32]
theorem rep_len : ∀ n, (rep n).length = 2 * n
  | 0 => rfl
  | n + 1 => by rw [rep, List.length_append, rep_len n]; simp; omega
theorem tells_rep : ∀ (n a : Nat) (l : List UInt8), ∃ P, tells a (rep n ++ l) = P ++ tells (a + 2 * n) l ∧ P.length = n ∧ ∀ z ∈ P, z.2 = true
  | 0, a, l => ⟨[], by simp [rep], rfl, by simp⟩
  | n + 1, a, l => by
    obtain ⟨P, h1, h2, h3⟩ := tells_rep n a (97 :: 32 :: l)
    refine ⟨P ++ [(⟨0, bs [97], a + 2 * n, a + 2 * n + 1⟩, true)], ?_, by simp [h2], ?_⟩
    · rw [rep, List.append_assoc, List.append_assoc]
      refine h1.trans ?_
      rw [tells_a]
      rfl
    · intro z hz
      rcases List.mem_append.1 hz with h | h
      · exact h3 z h
      · simp at h; subst h; rfl
theorem tells_blanks : ∀ (n a : Nat), tells a (List.replicate n 32) = []
  | 0, a => tells_end rfl
  | n + 1, a => by rw [List.replicate_succ, tells_blank (by decide), tells_blanks n]

theorem most_fit : lexF (bs (rep 4096)) = none ∧ (lexT (bs (rep 4096))).length = 4096 := by
  obtain ⟨P, h1, h2, h3⟩ := tells_rep 4096 0 []
  have e0 : tells (0 + 2 * 4096) [] = [] := tells_end rfl
  rw [List.append_nil, e0, List.append_nil] at h1
  have : tells 0 (tl (bs (rep 4096)) 0) = P := by rw [tl_bs]; exact h1
  exact ⟨by rw [lexF, this]; exact gth_ok P 0 h3 (by omega), by rw [lexT_len, this, h2]⟩
theorem most_more : lexF (bs (rep 4096) ++ ⟨#[98]⟩) = some 8192 := by
  obtain ⟨P, h1, h2, h3⟩ := tells_rep 4096 0 [98]
  rw [tells_b] at h1
  have e : tl (bs (rep 4096) ++ ⟨#[98]⟩) 0 = rep 4096 ++ [98] := by simp [tl, bs]
  rw [lexF, e, h1]
  have := gth_bad P (⟨0, bs [98], 0 + 2 * 4096, 0 + 2 * 4096 + 1⟩, true) [] 0 h3 (by omega) (.inr (by omega))
  simpa using this
theorem most_blank (n : Nat) : lexF (bs (List.replicate n 32)) = none := by rw [lexF, tl_bs, tells_blanks]; rfl
theorem bs_size (l : List UInt8) : (bs l).size = l.length := by simp [bs, ByteArray.size]
end Go.Proofs.Ytlheiiapolhpeaa
