/- Where a word, digits end. -/
import Derived.Test.YtlheiiapolhpeaaLBase
namespace Go.Proofs.Ytlheiiapolhpeaa
open Go.RowKit

/-- How many bytes of a kind stand at a place. -/
def run (p : UInt8 → Bool) (s : ByteArray) (k : Nat) : Nat := ((tl s k).takeWhile p).length
theorem run_yes {p : UInt8 → Bool} {s : ByteArray} {k : Nat} (h : k < s.size) (hp : p s[k] = true) : run p s k = run p s (k + 1) + 1 := by
  unfold run; rw [tl_cons h, List.takeWhile_cons_of_pos hp]; rfl
theorem run_no {p : UInt8 → Bool} {s : ByteArray} {k : Nat} (h : k < s.size) (hp : p s[k] = false) : run p s k = 0 := by
  unfold run; rw [tl_cons h, List.takeWhile_cons_of_neg (by simp [hp])]; rfl
theorem run_end {p : UInt8 → Bool} {s : ByteArray} {k : Nat} (h : s.size ≤ k) : run p s k = 0 := by
  unfold run; rw [tl_end h]; rfl
theorem run_le (p : UInt8 → Bool) (s : ByteArray) (k : Nat) (h : k ≤ s.size) : k + run p s k ≤ s.size := by
  unfold run
  have h1 := tl_len s k
  have h2 := (List.takeWhile_sublist (l := tl s k) p).length_le
  omega

set_option maxRecDepth 100000 in
set_option maxHeartbeats 2000000 in
theorem behindWord_any (s : ByteArray) (k : Nat) (hk : k ≤ s.size) (hs : s.size ≤ 1000000) (w : World) :
    Calls Try.prog 28 #[.string s, .int .i64 (k : Int)] w fun e w' => e = .returned (.int .i64 ((k + run isCh s k : Nat) : Int)) ∧ w' = w := by
  go_enter Try.func28, Try.ntmps28
  go_wp2
  refine wp_scope_labels (fun l a' w' => l = 0 ∧ w' = w ∧ ∃ (m : Nat) (u5 u6 u7 u8 u9 u10 u11 u12 u13 u14 u15 u16 u17 u18 u19 u20 u21 u22 u23 u24 u25 u26 u27 u28 u29 : Value), a' = { tmps := #[.string s, .int .i64 (m : Int), undef, undef, .int .i64 0, u5, u6, u7, u8, u9, u10, u11, u12, u13, u14, u15, u16, u17, u18, u19, u20, u21, u22, u23, u24, u25, u26, u27, u28, u29], defers := [] } ∧ m ≤ s.size ∧ m + run isCh s m = k + run isCh s k) (fun _ a' _ => s.size - (intOf (a'.tmps.getD 1 undef)).toNat) ?pass ?first
  case first => exact wp_first_label rfl ⟨rfl, rfl, k, _, _, _, _, _, _, _, _, _, _, _, _, _, _, _, _, _, _, _, _, _, _, _, _, _, rfl, hk, rfl⟩
  case pass =>
    rintro l a' w' ⟨rfl, rfl, m, u5, u6, u7, u8, u9, u10, u11, u12, u13, u14, u15, u16, u17, u18, u19, u20, u21, u22, u23, u24, u25, u26, u27, u28, u29, rfl, hm, he⟩
    refine ⟨_, rfl, ?_⟩
    by_cases hlt : (m : Int) < (s.size : Int)
    · have hlt' : m < s.size := by omega
      have HL := letter_any (s[m].toNat : Int) w'
      have HD := digit_any (s[m].toNat : Int) w'
      have hch : isCh s[m] = (letB (s[m].toNat : Int) || digB (s[m].toNat : Int) || (s[m].toNat : Int) == 95) := rfl
      have hy : isCh s[m] = true → m + 1 + run isCh s (m + 1) = k + run isCh s k := fun h => by rw [← he, run_yes hlt' h]; omega
      have hn : isCh s[m] = false → k + run isCh s k = m := fun h => by rw [← he, run_no hlt' h]; omega
      cases c1 : letB (s[m].toNat : Int) with
      | true =>
        rw [c1] at HL hch
        have hq := hy (by rw [hch]; rfl)
        clear hy hn hch
        go_wp2_with (go_at_call 26; refine HL.mono ?_; rintro e w1 ⟨rfl, hw1⟩; subst w1)
        go_step3
        exact ⟨⟨rfl, rfl, m + 1, _, _, _, _, _, _, _, _, _, _, _, _, _, _, _, _, _, _, _, _, _, _, _, _, _, rfl, hlt', hq⟩, by simp [intOf]; omega⟩
      | false =>
        rw [c1] at HL hch
        cases c2 : digB (s[m].toNat : Int) with
        | true =>
          rw [c2] at HD hch
          have hq := hy (by rw [hch]; rfl)
          clear hy hn hch
          go_wp2_with (first | (go_at_call 26; refine HL.mono ?_; rintro e w1 ⟨rfl, hw1⟩; subst w1) | (go_at_call 29; refine HD.mono ?_; rintro e w1 ⟨rfl, hw1⟩; subst w1))
          go_step3
          exact ⟨⟨rfl, rfl, m + 1, _, _, _, _, _, _, _, _, _, _, _, _, _, _, _, _, _, _, _, _, _, _, _, _, _, rfl, hlt', hq⟩, by simp [intOf]; omega⟩
        | false =>
          rw [c2] at HD hch
          by_cases c3 : (s[m].toNat : Int) = 95
          · have hq := hy (by rw [hch]; simp [c3])
            clear hy hn hch c1 c2
            rw [c3] at HL HD
            go_wp2_with (first | (go_at_call 26; refine HL.mono ?_; rintro e w1 ⟨rfl, hw1⟩; subst w1) | (go_at_call 29; refine HD.mono ?_; rintro e w1 ⟨rfl, hw1⟩; subst w1))
            go_step3
            exact ⟨⟨rfl, rfl, m + 1, _, _, _, _, _, _, _, _, _, _, _, _, _, _, _, _, _, _, _, _, _, _, _, _, _, rfl, hlt', hq⟩, by simp [intOf]; omega⟩
          · have hq := hn (by rw [hch]; simp [c3])
            clear hy hn hch c1 c2
            go_wp2_with (first | (go_at_call 26; refine HL.mono ?_; rintro e w1 ⟨rfl, hw1⟩; subst w1) | (go_at_call 29; refine HD.mono ?_; rintro e w1 ⟨rfl, hw1⟩; subst w1))
            go_ret
            exact ⟨by rw [hq]; rfl, rfl⟩
    · have hq : k + run isCh s k = m := by rw [← he, run_end (by omega)]; omega
      go_wp2
      go_ret
      exact ⟨by rw [hq]; rfl, rfl⟩

set_option maxRecDepth 100000 in
set_option maxHeartbeats 2000000 in
theorem behindDigits_any (s : ByteArray) (k : Nat) (hk : k ≤ s.size) (hs : s.size ≤ 1000000) (w : World) :
    Calls Try.prog 30 #[.string s, .int .i64 (k : Int)] w fun e w' => e = .returned (.int .i64 ((k + run isDig s k : Nat) : Int)) ∧ w' = w := by
  go_enter Try.func30, Try.ntmps30
  go_wp2
  refine wp_scope_labels (fun l a' w' => l = 0 ∧ w' = w ∧ ∃ (m : Nat) (u5 u6 u7 u8 u9 u10 u11 u12 u13 u14 u15 u16 u17 : Value), a' = { tmps := #[.string s, .int .i64 (m : Int), undef, undef, .int .i64 0, u5, u6, u7, u8, u9, u10, u11, u12, u13, u14, u15, u16, u17], defers := [] } ∧ m ≤ s.size ∧ m + run isDig s m = k + run isDig s k) (fun _ a' _ => s.size - (intOf (a'.tmps.getD 1 undef)).toNat) ?pass ?first
  case first => exact wp_first_label rfl ⟨rfl, rfl, k, _, _, _, _, _, _, _, _, _, _, _, _, _, rfl, hk, rfl⟩
  case pass =>
    rintro l a' w' ⟨rfl, rfl, m, u5, u6, u7, u8, u9, u10, u11, u12, u13, u14, u15, u16, u17, rfl, hm, he⟩
    refine ⟨_, rfl, ?_⟩
    by_cases hlt : (m : Int) < (s.size : Int)
    · have hlt' : m < s.size := by omega
      have HD := digit_any (s[m].toNat : Int) w'
      have hy : isDig s[m] = true → m + 1 + run isDig s (m + 1) = k + run isDig s k := fun h => by rw [← he, run_yes hlt' h]; omega
      have hn : isDig s[m] = false → k + run isDig s k = m := fun h => by rw [← he, run_no hlt' h]; omega
      cases c2 : digB (s[m].toNat : Int) with
      | true =>
        rw [c2] at HD
        have hq := hy c2
        clear hy hn
        go_wp2_with (go_at_call 29; refine HD.mono ?_; rintro e w1 ⟨rfl, hw1⟩; subst w1)
        go_step3
        exact ⟨⟨rfl, rfl, m + 1, _, _, _, _, _, _, _, _, _, _, _, _, _, rfl, hlt', hq⟩, by simp [intOf]; omega⟩
      | false =>
        rw [c2] at HD
        have hq := hn c2
        clear hy hn
        go_wp2_with (go_at_call 29; refine HD.mono ?_; rintro e w1 ⟨rfl, hw1⟩; subst w1)
        go_ret
        exact ⟨by rw [hq]; rfl, rfl⟩
    · have hq : k + run isDig s k = m := by rw [← he, run_end (by omega)]; omega
      go_wp2
      go_ret
      exact ⟨by rw [hq]; rfl, rfl⟩
end Go.Proofs.Ytlheiiapolhpeaa
