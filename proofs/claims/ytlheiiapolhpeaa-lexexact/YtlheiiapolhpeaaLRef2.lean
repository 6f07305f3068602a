/- The reference: word. -/
import Derived.Test.YtlheiiapolhpeaaLRef1
namespace Go.Proofs.Ytlheiiapolhpeaa
open Go.RowKit

/-- Where a word that begins at a place ends; the place itself, where none begins. -/
def wordE (s : ByteArray) (k : Nat) : Nat := if h : k < s.size then (if isLet s[k] then k + run isCh s k else k) else k

set_option maxRecDepth 100000 in
set_option maxHeartbeats 4000000 in
theorem rword_any (s : ByteArray) (k : Nat) (hs : s.size ≤ 1000000) (hk : k ≤ s.size) (w : World) :
    Calls Try.prog 35 #[.string s, .int .i64 (k : Int)] w fun e w' => e = .returned (.int .i64 (wordE s k : Int)) ∧ w' = w := by
  by_cases hlt : (k : Int) < (s.size : Int)
  · have hlt' : k < s.size := by omega
    have HL0 := fun w => Hid.intro (rletter_any (s[k].toNat : Int) w)
    cases c0 : letB (s[k].toNat : Int) with
    | false =>
      rw [c0] at HL0
      have he : wordE s k = k := by
        unfold wordE; rw [dif_pos hlt', if_neg]; rw [isLet, c0]; decide
      rw [he]
      go_enter Try.func35, Try.ntmps35
      go_wp2_with (go_at_call 34; refine (HL0 _).out.mono ?_; rintro e w1 ⟨rfl, hw1⟩; subst w1)
      go_ret
      exact ⟨rfl, rfl⟩
    | true =>
      rw [c0] at HL0
      have he : wordE s k = k + run isCh s k := by
        unfold wordE; rw [dif_pos hlt', if_pos]; exact c0
      rw [he]
      generalize hE : k + run isCh s k = E
      have hge : decide (s.size ≤ k) = false := by simp; omega
      go_enter Try.func35, Try.ntmps35
      go_wp2_with (go_at_call 34; refine (HL0 _).out.mono ?_; rintro e w1 ⟨rfl, hw1⟩; subst w1)
      go_loopw [1] (fun i wr => wr = w ∧ ∃ m : Nat, i = .int .i64 (m : Int) ∧ m ≤ s.size ∧ Hid (m + run isCh s m = E)) (fun i _ => s.size - (intOf i).toNat)
      case atStart => exact ⟨rfl, k, rfl, hk, hE⟩
      case round =>
        obtain ⟨hw, m, rfl, hm, HE⟩ := hrel
        subst wr
        by_cases hml : (m : Int) < (s.size : Int)
        · have hml' : m < s.size := by omega
          have HL := fun w => Hid.intro (rletter_any (s[m].toNat : Int) w)
          have HD := fun w => Hid.intro (rdigit_any (s[m].toNat : Int) w)
          have hch : isCh s[m] = (letB (s[m].toNat : Int) || digB (s[m].toNat : Int) || (s[m].toNat : Int) == 95) := rfl
          have hy : isCh s[m] = true → m + 1 + run isCh s (m + 1) = E := fun h => by rw [← HE.out, run_yes hml' h]; omega
          have hn : isCh s[m] = false → E = m := fun h => by rw [← HE.out, run_no hml' h]; omega
          cases c1 : letB (s[m].toNat : Int) with
          | true =>
            rw [c1] at HL hch
            have hq := hy (by rw [hch]; rfl)
            clear hy hn hch
            go_wp2_with (go_at_call 34; refine (HL _).out.mono ?_; rintro e w1 ⟨rfl, hw1⟩; subst w1)
            go_roundw
            case rel => exact ⟨trivial, m + 1, by go_num, hml', hq⟩
            case measure => simp [intOf]; omega
          | false =>
            rw [c1] at HL hch
            cases c2 : digB (s[m].toNat : Int) with
            | true =>
              rw [c2] at HD hch
              have hq := hy (by rw [hch]; rfl)
              clear hy hn hch
              go_wp2_with (first | (go_at_call 34; refine (HL _).out.mono ?_; rintro e w1 ⟨rfl, hw1⟩; subst w1) | (go_at_call 36; refine (HD _).out.mono ?_; rintro e w1 ⟨rfl, hw1⟩; subst w1))
              go_roundw
              case rel => exact ⟨trivial, m + 1, by go_num, hml', hq⟩
              case measure => simp [intOf]; omega
            | false =>
              rw [c2] at HD hch
              cases c3 : ((s[m].toNat : Int) == 95) with
              | true =>
                have hq := hy (by rw [hch, c3]; rfl)
                clear hy hn hch
                go_wp2_with (first | (go_at_call 34; refine (HL _).out.mono ?_; rintro e w1 ⟨rfl, hw1⟩; subst w1) | (go_at_call 36; refine (HD _).out.mono ?_; rintro e w1 ⟨rfl, hw1⟩; subst w1))
                go_roundw
                case rel => exact ⟨trivial, m + 1, by go_num, hml', hq⟩
                case measure => simp [intOf]; omega
              | false =>
                have hq := hn (by rw [hch, c3]; rfl)
                clear hy hn hch
                go_wp2_with (first | (go_at_call 34; refine (HL _).out.mono ?_; rintro e w1 ⟨rfl, hw1⟩; subst w1) | (go_at_call 36; refine (HD _).out.mono ?_; rintro e w1 ⟨rfl, hw1⟩; subst w1))
                go_ret
                exact ⟨by first | rfl | (rw [hq]; rfl), rfl⟩
        · have hq : E = m := by rw [← HE.out, run_end (by omega)]; omega
          go_wp2
          go_ret
          exact ⟨by first | rfl | (rw [hq]; rfl), rfl⟩
  · have he : wordE s k = k := by unfold wordE; rw [dif_neg (by omega)]
    rw [he]
    go_enter Try.func35, Try.ntmps35
    go_wp2
    go_ret
    exact ⟨rfl, rfl⟩
end Go.Proofs.Ytlheiiapolhpeaa
