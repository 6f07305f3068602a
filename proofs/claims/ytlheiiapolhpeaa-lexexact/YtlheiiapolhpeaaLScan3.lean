/- Where blanks and remarks end. -/
import Derived.Test.YtlheiiapolhpeaaLScan2
namespace Go.Proofs.Ytlheiiapolhpeaa
open Go.RowKit

/-- How many bytes of blanks and remarks stand ahead (true: inside a remark). -/
def blk : Bool → List UInt8 → Nat
  | _, [] => 0
  | true, c :: r => if c = 10 then blk false r + 1 else blk true r + 1
  | false, c :: r => if isBl c then blk false r + 1 else if pre2 (c :: r) then blk true r + 1 else 0

theorem blk_le (b : Bool) (l : List UInt8) : blk b l ≤ l.length := by
  induction l generalizing b with
  | nil => cases b <;> exact Nat.le_refl _
  | cons c r ih =>
    have h1 := ih true
    have h2 := ih false
    cases b <;> simp only [blk, List.length_cons]
    · split
      · omega
      · split <;> omega
    · split <;> omega

def blkAt (b : Bool) (s : ByteArray) (m : Nat) : Nat := m + blk b (tl s m)

theorem blkAt_end (b : Bool) {s : ByteArray} {m : Nat} (h : s.size ≤ m) : blkAt b s m = m := by
  unfold blkAt; rw [tl_end h]; cases b <;> rfl
theorem blkAt_rem {s : ByteArray} {m : Nat} (h : m < s.size) (hc : ¬ (s[m].toNat : Int) = 10) : blkAt true s m = blkAt true s (m + 1) := by
  have h1 : ¬ s[m] = 10 := fun e => hc (by rw [e]; rfl)
  unfold blkAt; rw [tl_cons h, blk, if_neg h1]; omega
theorem blkAt_lf {s : ByteArray} {m : Nat} (h : m < s.size) (hc : (s[m].toNat : Int) = 10) : blkAt true s m = blkAt false s m := by
  have h0 : s[m].toNat = 10 := by omega
  have h1 : s[m] = 10 := UInt8.toNat_inj.1 h0
  have h2 : isBl s[m] = true := by rw [h1]; rfl
  unfold blkAt; rw [tl_cons h, blk, if_pos h1, blk, if_pos h2]
theorem blkAt_bl {s : ByteArray} {m : Nat} (h : m < s.size) (hc : isBl s[m] = true) : blkAt false s m = blkAt false s (m + 1) := by
  unfold blkAt; rw [tl_cons h, blk, if_pos hc]; omega
theorem blkAt_slash {s : ByteArray} {m : Nat} (hc : pre2 (tl s m) = true) : blkAt false s m = blkAt true s m := by
  by_cases h : m < s.size
  · unfold blkAt
    rw [tl_cons h] at hc ⊢
    have h1 : s[m] = 47 := by
      cases ht : tl s (m + 1) with
      | nil => rw [ht] at hc; cases hc
      | cons d r => rw [ht] at hc; simp [pre2] at hc; exact hc.1
    have h2 : isBl s[m] = false := by rw [h1]; rfl
    have h3 : ¬ s[m] = 10 := by rw [h1]; decide
    rw [blk, blk, if_neg h3, if_neg (by rw [h2]; decide), if_pos hc]
  · rw [blkAt_end _ (by omega), blkAt_end _ (by omega)]
theorem blkAt_no {s : ByteArray} {m : Nat} (hb : m < s.size → isBl s[m]! = false) (hc : pre2 (tl s m) = false) : blkAt false s m = m := by
  by_cases h : m < s.size
  · have h1 := hb h
    rw [getElem!_pos s m h] at h1
    unfold blkAt
    rw [tl_cons h] at hc ⊢
    rw [blk, if_neg (by rw [h1]; decide), if_neg (by rw [hc]; decide)]
    rfl
  · exact blkAt_end _ (by omega)
theorem tl_extract (s : ByteArray) (m : Nat) : (s.extract m s.size).data.toList = tl s m := by
  rw [Lib.extract_data]
  unfold tl
  rw [List.take_of_length_le]
  rw [List.length_drop, ← Lib.size_eq]
  exact Nat.le_refl _

set_option maxRecDepth 100000 in
set_option maxHeartbeats 2000000 in
theorem behindBlanks_any (s : ByteArray) (k : Nat) (hk : k ≤ s.size) (hs : s.size ≤ 1000000) (w : World) :
    Calls Try.prog 20 #[.string s, .int .i64 (k : Int)] w fun e w' => e = .returned (.int .i64 (blkAt false s k : Int)) ∧ w' = w := by
  go_enter Try.func20, Try.ntmps20
  go_wp2
  refine wp_scope_labels (fun l a' w' => w' = w ∧ ∃ (m : Nat) (u5 u6 u7 u8 u9 u10 u11 u12 u13 u14 u15 u16 u17 u18 u19 u20 u21 u22 u23 u24 u25 u26 u27 u28 u29 u30 u31 u32 u33 : Value), a' = { tmps := #[.string s, .int .i64 (m : Int), undef, undef, .int .i64 0, u5, u6, u7, u8, u9, u10, u11, u12, u13, u14, u15, u16, u17, u18, u19, u20, u21, u22, u23, u24, u25, u26, u27, u28, u29, u30, u31, u32, u33], defers := [] } ∧ m ≤ s.size ∧ ((l = 0 ∧ blkAt false s m = blkAt false s k) ∨ (l = 1 ∧ blkAt true s m = blkAt false s k))) (fun l a' _ => 2 * (s.size - (intOf (a'.tmps.getD 1 undef)).toNat) + (if l = 0 then 0 else 1)) ?pass ?first
  case first => exact wp_first_label rfl ⟨rfl, k, _, _, _, _, _, _, _, _, _, _, _, _, _, _, _, _, _, _, _, _, _, _, _, _, _, _, _, _, _, rfl, hk, .inl ⟨rfl, rfl⟩⟩
  case pass =>
    rintro l a' w' ⟨rfl, m, u5, u6, u7, u8, u9, u10, u11, u12, u13, u14, u15, u16, u17, u18, u19, u20, u21, u22, u23, u24, u25, u26, u27, u28, u29, u30, u31, u32, u33, rfl, hm, (⟨rfl, he⟩ | ⟨rfl, he⟩)⟩
    · refine ⟨_, rfl, ?_⟩
      have HP := Hid.intro (hasPrefix_any (s.extract m s.size) w')
      rw [tl_extract] at HP
      cases hb : (if h : m < s.size then isBl s[m] else false) with
      | true =>
        have hlt : m < s.size := by by_cases h : m < s.size; exact h; rw [dif_neg h] at hb; cases hb
        rw [dif_pos hlt] at hb
        have hlt' : (m : Int) < (s.size : Int) := by omega
        have hq := (blkAt_bl hlt hb).symm.trans he
        have HB := blank_any (s[m].toNat : Int) w'
        rw [show blB (s[m].toNat : Int) = true from hb] at HB
        go_wp2_with (go_at_call 24; refine HB.mono ?_; rintro e w1 ⟨rfl, hw1⟩; subst w1)
        go_step3
        exact ⟨⟨rfl, m + 1, _, _, _, _, _, _, _, _, _, _, _, _, _, _, _, _, _, _, _, _, _, _, _, _, _, _, _, _, _, rfl, hlt, .inl ⟨rfl, hq⟩⟩, by simp [intOf]; omega⟩
      | false =>
        cases hc : pre2 (tl s m) with
        | false =>
          have hq : blkAt false s k = m := by
            rw [← he]
            refine blkAt_no (fun h => ?_) hc
            rw [dif_pos h] at hb
            rw [getElem!_pos s m h]
            exact hb
          rw [hc] at HP
          by_cases hlt : m < s.size
          · rw [dif_pos hlt] at hb
            have hlt' : (m : Int) < (s.size : Int) := by omega
            have HB := blank_any (s[m].toNat : Int) w'
            rw [show blB (s[m].toNat : Int) = false from hb] at HB
            go_wp2_with (first | (go_at_call 24; refine HB.mono ?_; rintro e w1 ⟨rfl, hw1⟩; subst w1) | (go_at_call 25; refine HP.out.mono ?_; rintro e w1 ⟨rfl, hw1⟩; subst w1))
            go_ret
            exact ⟨by rw [hq]; rfl, rfl⟩
          · have hlt' : ¬ (m : Int) < (s.size : Int) := by omega
            go_wp2_with (go_at_call 25; refine HP.out.mono ?_; rintro e w1 ⟨rfl, hw1⟩; subst w1)
            go_ret
            exact ⟨by rw [hq]; rfl, rfl⟩
        | true =>
          have hlt : m < s.size := by
            by_cases h : m < s.size
            · exact h
            · rw [tl_end (by omega)] at hc; cases hc
          have h47 : (s[m].toNat : Int) = 47 := by
            rw [tl_cons hlt] at hc
            cases ht : tl s (m + 1) with
            | nil => rw [ht] at hc; cases hc
            | cons d r => rw [ht] at hc; simp [pre2] at hc; rw [hc.1]; rfl
          have hq := (blkAt_rem hlt (by rw [h47]; decide)).symm.trans ((blkAt_slash hc).symm.trans he)
          rw [hc] at HP
          rw [dif_pos hlt] at hb
          have hlt' : (m : Int) < (s.size : Int) := by omega
          have hx : ((m : Int) == (s.size : Int)) = false := beq_false_of_ne (by omega)
          have HB := blank_any (s[m].toNat : Int) w'
          rw [show blB (s[m].toNat : Int) = false from hb] at HB
          have hc' : ((s[m].toNat : Int) == 10) = false := beq_false_of_ne (by rw [h47]; decide)
          clear h47
          go_wp2_with (first | (go_at_call 24; refine HB.mono ?_; rintro e w1 ⟨rfl, hw1⟩; subst w1) | (go_at_call 25; refine HP.out.mono ?_; rintro e w1 ⟨rfl, hw1⟩; subst w1))
          go_step3
          go_wp2
          go_step3
          exact ⟨⟨rfl, m + 1, _, _, _, _, _, _, _, _, _, _, _, _, _, _, _, _, _, _, _, _, _, _, _, _, _, _, _, _, _, rfl, hlt, .inr ⟨rfl, hq⟩⟩, by simp [intOf]; omega⟩
    · refine ⟨_, rfl, ?_⟩
      by_cases hlt : m < s.size
      · by_cases hc : (s[m].toNat : Int) = 10
        · have hq := (blkAt_lf hlt hc).symm.trans he
          have hx : ((m : Int) == (s.size : Int)) = false := beq_false_of_ne (by omega)
          go_wp2
          go_step3
          exact ⟨⟨rfl, m, _, _, _, _, _, _, _, _, _, _, _, _, _, _, _, _, _, _, _, _, _, _, _, _, _, _, _, _, _, rfl, hm, .inl ⟨rfl, hq⟩⟩, by simp [intOf]⟩
        · have hq := (blkAt_rem hlt hc).symm.trans he
          have hx : ((m : Int) == (s.size : Int)) = false := beq_false_of_ne (by omega)
          have hc' : ((s[m].toNat : Int) == 10) = false := beq_false_of_ne hc
          go_wp2
          go_step3
          exact ⟨⟨rfl, m + 1, _, _, _, _, _, _, _, _, _, _, _, _, _, _, _, _, _, _, _, _, _, _, _, _, _, _, _, _, _, rfl, hlt, .inr ⟨rfl, hq⟩⟩, by simp [intOf]; omega⟩
      · obtain rfl : m = s.size := by omega
        have hq : blkAt false s k = s.size := by rw [← he, blkAt_end _ (Nat.le_refl _)]
        go_wp2
        go_ret
        exact ⟨by rw [hq]; rfl, rfl⟩
end Go.Proofs.Ytlheiiapolhpeaa
