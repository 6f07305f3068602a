/- proctorref1's reader: value, at every room. -/
import Derived.Test.YtciibcfmlhbnkaaGreatDoorRDec6
namespace Go.Proofs.YtciibcfmlhbnkaaGreatDoor
open Go.RowKit

theorem rval_cons (q D : Nat) (hD : q + D = 31) (ih : ∀ p, q = p + 1 → RValAt p) {w : World} {R G off cap : Nat} {c : UInt8} {l : List UInt8} (h : Rd w R G off cap (c :: l)) (hl : (c :: l).length ≤ 1000000000) :
    Calls Tryz.prog 70 #[.pointer (some ⟨R, 0, none⟩), .int .i64 (D : Int)] w fun e w' => Tu R w w' ∧ ValP w R G (q + 1) e w' (rdec q (c :: l)) := by
  have hl' : l.length ≤ 1000000000 := by rw [List.length_cons] at hl; omega
  rw [rdec.eq_def]
  dsimp only
  by_cases c0 : c.toNat = 0
  · rw [if_pos c0]; exact rval_0 q D h c0
  rw [if_neg c0]
  by_cases c1 : c.toNat = 1
  · rw [if_pos c1]
    cases l with
    | nil => exact rval_1n q D h c1 rfl
    | cons d l0 =>
      simp only
      by_cases d0 : d.toNat = 0
      · rw [if_pos (by omega), show (d.toNat == 1) = false from by rw [d0]; rfl]; exact rval_10 q D h c1 d0 rfl
      · by_cases d1 : d.toNat = 1
        · rw [if_pos (by omega), show (d.toNat == 1) = true from by rw [d1]; rfl]; exact rval_11 q D h c1 d1 rfl
        · rw [if_neg (by omega)]; exact rval_12 q D h c1 (by omega) rfl
  rw [if_neg c1]
  by_cases c2 : c.toNat = 2 ∨ c.toNat = 5
  · rw [if_pos c2]
    by_cases h8 : l.length < 8
    · rw [if_pos h8]
      rcases c2 with c2 | c2
      · exact rval_2n q D h c2 h8
      · exact rval_5n q D h c2 h8
    · rw [if_neg h8]
      rcases c2 with c2 | c2
      · rw [c2]; exact rval_2 q D h c2 h8
      · rw [c2]; exact rval_5 q D h c2 h8
  rw [if_neg c2]
  by_cases c3 : c.toNat = 3
  · rw [if_pos c3]
    unfold lenR
    by_cases h4 : l.length < 4
    · rw [if_pos h4]; exact rval_3n q D h c3 h4
    rw [if_neg h4]
    have hw := wordN_lt 4 (l.take 4) (by rw [List.length_take]; omega)
    by_cases hm : wordN (l.take 4) ≤ (l.drop 4).length
    · rw [if_pos (c := wordN (l.take 4) ≤ 4294967296 ∧ _) ⟨by omega, hm⟩]
      exact rval_3 q D h hl' c3 h4 hm
    · rw [if_neg (c := wordN (l.take 4) ≤ 4294967296 ∧ _) (fun h => hm h.2)]
      exact rval_3m q D h c3 h4 (by omega)
  rw [if_neg c3]
  by_cases c4 : c.toNat = 4
  · rw [if_pos c4]
    by_cases h4 : l.length < 4
    · have e : lenS l = none := by unfold lenS; rw [if_pos h4]
      cases q with
      | zero => exact rval_4n 0 D h c4 h4
      | succ p => simp only [e]; exact rval_4n (p + 1) D h c4 h4
    by_cases hm : wordN (l.take 4) ≤ 4096
    · have e : lenS l = some (wordN (l.take 4), l.drop 4) := by unfold lenS; rw [if_neg h4, if_pos hm]
      cases q with
      | zero =>
        by_cases hz : wordN (l.take 4) = 0
        · exact rval_4z 0 D h c4 h4 (by omega) hz
        · exact rval_40 0 D h c4 h4 (by omega) ⟨by omega, hm⟩
      | succ p => simp only [e]; exact rval_4 (ih p rfl) (by omega) h c4 h4 rfl rfl hm hl'
    · have e : lenS l = none := by unfold lenS; rw [if_neg h4, if_neg hm]
      cases q with
      | zero => exact rval_4m 0 D h c4 h4 (by omega)
      | succ p => simp only [e]; exact rval_4m (p + 1) D h c4 h4 (by omega)
  rw [if_neg c4]
  exact rval_x q D h (by omega)
theorem rval_at : ∀ q, RValAt q
  | 0 => fun D hD w R G off cap l h hl => by
    cases l with
    | nil => rw [rdec]; exact rval_nil h _ _
    | cons c l => exact rval_cons 0 D hD (fun q e => by omega) h hl
  | q + 1 => fun D hD w R G off cap l h hl => by
    cases l with
    | nil => rw [rdec]; exact rval_nil h _ _
    | cons c l => exact rval_cons (q + 1) D hD (fun p e => by
        obtain rfl : q = p := by omega
        exact rval_at q) h hl
end Go.Proofs.YtciibcfmlhbnkaaGreatDoor
