/- Names: what isName tells. -/
import Derived.Test.YtbfnlnjnaepiiaaCName
namespace Go.Proofs.Ytbfnlnjnaepiiaa
open Go.RowKit

def chB (c : Int) : Bool := letB c || digB c || c == 95
def byB (f : Int → Bool) (s : ByteArray) (i : Nat) : Bool := if h : i < s.size then f (s[i].toNat : Int) else false
def nameB (s : ByteArray) : Bool := !(s.toList == []) && decide (s.size ≤ 64) && byB letB s 0 && !kwB s && (List.range s.size).all (byB chB s)

theorem size_pos {s : ByteArray} (h : (s.toList == []) = false) : 0 < s.size := by
  rw [ByteArray.toList_eq] at h
  have : s.data.toList ≠ [] := by simpa using h
  have h2 : 0 < s.data.toList.length := List.length_pos_iff.2 this
  rw [Array.length_toList] at h2
  exact h2

set_option maxHeartbeats 4000000 in
theorem name_any (s : ByteArray) (w : World) :
    Calls Try.prog 44 #[.string s] w fun e w' => e = .returned (.bool (nameB s)) ∧ w' = w := by
  cases h0 : (s.toList == []) with
  | true =>
    have hn : nameB s = false := by simp [nameB, h0]
    rw [hn]
    go_enter Try.func44, Try.ntmps44
    go_wp2
    all_goals go_ret
    all_goals exact ⟨rfl, rfl⟩
  | false =>
    have hp : 0 < s.size := size_pos h0
    by_cases h1 : (64 : Int) < (s.size : Int)
    · have hn : nameB s = false := by
        have : ¬ s.size ≤ 64 := by omega
        simp [nameB, this]
      rw [hn]
      go_enter Try.func44, Try.ntmps44
      go_wp2
      all_goals go_ret
      all_goals exact ⟨rfl, rfl⟩
    · cases h2 : letB (s[0].toNat : Int) with
      | false =>
        have hn : nameB s = false := by simp [nameB, byB, hp, h2]
        rw [hn]
        have HL := letter_any (s[0].toNat : Int) w
        rw [h2] at HL
        go_enter Try.func44, Try.ntmps44
        go_wp2_with (go_at_call 53; refine HL.mono ?_; rintro e w1 ⟨rfl, hw1⟩; subst w1)
        all_goals go_ret
        all_goals exact ⟨rfl, rfl⟩
      | true =>
        have HL := letter_any (s[0].toNat : Int) w
        rw [h2] at HL
        have HK := keyword_any s w
        cases h3 : kwB s with
        | true =>
          rw [h3] at HK
          have hn : nameB s = false := by simp [nameB, h3]
          rw [hn]
          go_enter Try.func44, Try.ntmps44
          go_wp2_with (first | (go_at_call 53; refine HL.mono ?_; rintro e w1 ⟨rfl, hw1⟩; subst w1) | (go_at_call 54; refine HK.mono ?_; rintro e w1 ⟨rfl, hw1⟩; subst w1))
          all_goals go_ret
          all_goals exact ⟨rfl, rfl⟩
        | false =>
          rw [h3] at HK
          have hn : nameB s = (List.range s.size).all (byB chB s) := by
            have : s.size ≤ 64 := by omega
            simp [nameB, h0, h3, byB, hp, h2, this]
          rw [hn]
          have hl : ∀ k : Nat, k < s.size → (List.range (k + 1)).all (byB chB s) = ((List.range k).all (byB chB s) && byB chB s k) := fun k _ => by rw [List.range_succ, List.all_append]; simp
          go_enter Try.func44, Try.ntmps44
          go_wp2_with (first | (go_at_call 53; refine HL.mono ?_; rintro e w1 ⟨rfl, hw1⟩; subst w1) | (go_at_call 54; refine HK.mono ?_; rintro e w1 ⟨rfl, hw1⟩; subst w1))
          clear HL HK
          go_loopw [23] (fun i w' => w' = w ∧ ∃ k : Nat, k ≤ s.size ∧ i = .int .i64 (k : Int) ∧ (List.range k).all (byB chB s) = true) (fun i _ => s.size - (intOf i).toNat)
          case atStart => exact ⟨rfl, 0, by omega, rfl, rfl⟩
          case round =>
            obtain ⟨hw, k, hk, rfl, ha⟩ := hrel
            subst wr
            by_cases hlt : k < s.size
            · have hlt' : (k : Int) < (s.size : Int) := by omega
              have HL := letter_any (s[k].toNat : Int) w
              have HD := digit_any (s[k].toNat : Int) w
              cases c1 : letB (s[k].toNat : Int) with
              | true =>
                have ha' : (List.range (k + 1)).all (byB chB s) = true := by rw [hl k hlt, ha]; simp [byB, hlt, chB, c1]
                rw [c1] at HL
                go_wp2_with (first | (go_at_call 53; refine HL.mono ?_; rintro e w1 ⟨rfl, hw1⟩; subst w1) | (go_at_call 55; refine HD.mono ?_; rintro e w1 ⟨rfl, hw1⟩; subst w1))
                go_roundw
                case rel => exact ⟨trivial, k + 1, by omega, by go_num, ha'⟩
                case measure => simp [intOf]; omega
              | false =>
                rw [c1] at HL
                cases c2 : digB (s[k].toNat : Int) with
                | true =>
                  have ha' : (List.range (k + 1)).all (byB chB s) = true := by rw [hl k hlt, ha]; simp [byB, hlt, chB, c2]
                  rw [c2] at HD
                  go_wp2_with (first | (go_at_call 53; refine HL.mono ?_; rintro e w1 ⟨rfl, hw1⟩; subst w1) | (go_at_call 55; refine HD.mono ?_; rintro e w1 ⟨rfl, hw1⟩; subst w1))
                  go_roundw
                  case rel => exact ⟨trivial, k + 1, by omega, by go_num, ha'⟩
                  case measure => simp [intOf]; omega
                | false =>
                  rw [c2] at HD
                  by_cases c3 : (s[k].toNat : Int) = 95
                  · have ha' : (List.range (k + 1)).all (byB chB s) = true := by rw [hl k hlt, ha]; simp [byB, hlt, chB, c3]
                    rw [c3] at HL HD
                    go_wp2_with (first | (go_at_call 53; refine HL.mono ?_; rintro e w1 ⟨rfl, hw1⟩; subst w1) | (go_at_call 55; refine HD.mono ?_; rintro e w1 ⟨rfl, hw1⟩; subst w1))
                    go_roundw
                    case rel => exact ⟨trivial, k + 1, by omega, by go_num, ha'⟩
                    case measure => simp [intOf]; omega
                  · have hb : (List.range s.size).all (byB chB s) = false := by
                      rw [List.all_eq_false]
                      exact ⟨k, List.mem_range.2 hlt, by simp [byB, hlt, chB, c1, c2, c3]⟩
                    go_wp2_with (first | (go_at_call 53; refine HL.mono ?_; rintro e w1 ⟨rfl, hw1⟩; subst w1) | (go_at_call 55; refine HD.mono ?_; rintro e w1 ⟨rfl, hw1⟩; subst w1))
                    go_ret
                    rw [hb]
                    exact ⟨rfl, rfl⟩
            · obtain rfl : k = s.size := by omega
              go_wp2
              go_ret
              rw [ha]
              exact ⟨rfl, rfl⟩
end Go.Proofs.Ytbfnlnjnaepiiaa
