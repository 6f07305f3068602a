/- The reference: blank. -/
import Derived.Test.YtlheiiapolhpeaaLRef2
namespace Go.Proofs.Ytlheiiapolhpeaa
open Go.RowKit

set_option maxRecDepth 100000 in
set_option maxHeartbeats 4000000 in
theorem rblank_any (s : ByteArray) (k : Nat) (hs : s.size ≤ 1000000) (hk : k ≤ s.size) (w : World) :
    Calls Try.prog 22 #[.string s, .int .i64 (k : Int)] w fun e w' => e = .returned (.int .i64 (blkAt false s k : Int)) ∧ w' = w := by
  obtain ⟨E, hE⟩ : ∃ E, blkAt false s k = E := ⟨_, rfl⟩
  rw [hE]
  have HE0 := Hid.intro hE
  clear hE
  go_enter Try.func22, Try.ntmps22
  go_wp2
  go_loopw [1] (fun i wr => wr = w ∧ ∃ m : Nat, i = .int .i64 (m : Int) ∧ m ≤ s.size ∧ Hid (blkAt false s m = E)) (fun i _ => s.size - (intOf i).toNat)
  case atStart => exact ⟨rfl, k, rfl, hk, HE0⟩
  case round =>
    obtain ⟨hw, m, rfl, hm, HE⟩ := hrel
    subst wr
    by_cases hlt : (m : Int) < (s.size : Int)
    · have hlt' : m < s.size := by omega
      cases hb : isBl s[m] with
      | true =>
        have hq : blkAt false s (m + 1) = E := (blkAt_bl hlt' hb).symm.trans HE.out
        have hb' : blB (s[m].toNat : Int) = true := hb
        simp only [blB, Bool.or_eq_true, beq_iff_eq] at hb'
        clear hb
        rcases hb' with ((h | h) | h) | h
        all_goals (
          go_wp2
          go_roundw
          case rel => exact ⟨trivial, m + 1, by go_num, hlt', hq⟩
          case measure => simp [intOf]; omega)
      | false =>
        have hb' : blB (s[m].toNat : Int) = false := hb
        simp only [blB, Bool.or_eq_false_iff] at hb'
        obtain ⟨⟨⟨b1, b2⟩, b3⟩, b4⟩ := hb'
        cases hp : pre2 (tl s m) with
        | true =>
          have hp' := hp
          rw [pre2_at hlt'] at hp'
          have hl1 : m + 1 < s.size := by
            by_cases h : m + 1 < s.size
            · exact h
            · rw [dif_neg h] at hp'; cases hp'
          rw [dif_pos hl1] at hp'
          simp only [Bool.and_eq_true, beq_iff_eq] at hp'
          have h1 : (s[m].toNat : Int) = 47 := by rw [hp'.1]; rfl
          have h2 : (s[m + 1].toNat : Int) = 47 := by rw [hp'.2]; rfl
          have hl2 : (m : Int) + 1 < (s.size : Int) := by omega
          have hq : blkAt true s m = E := (blkAt_slash hp).symm.trans HE.out
          clear hp hp' hb b1 b2 b3 b4
          go_wp2
          go_loopw [1] (fun i wr => wr = w ∧ ∃ n : Nat, i = .int .i64 (n : Int) ∧ m ≤ n ∧ n ≤ s.size ∧ Hid (blkAt true s n = E)) (fun i _ => s.size - (intOf i).toNat)
          case atStart => exact ⟨rfl, m, rfl, Nat.le_refl _, by omega, hq⟩
          case round =>
            obtain ⟨hw, n, rfl, hmn, hn, HQ⟩ := hrel
            subst wr
            by_cases hnl : (n : Int) < (s.size : Int)
            · have hnl' : n < s.size := by omega
              by_cases h3 : (s[n].toNat : Int) = 10
              · have h4 := blkAt_lf hnl' h3
                have hne : ((s[n].toNat : Int) != 10) = false := by rw [h3]; rfl
                have hmn2 : m < n := by
                  rcases Nat.lt_or_eq_of_le hmn with h | h
                  · exact h
                  · subst h; omega
                go_wp2
                go_roundw
                case rel => exact ⟨trivial, n, rfl, hn, h4.symm.trans HQ.out⟩
                case measure => simp [intOf]; omega
              · have h4 := blkAt_rem hnl' h3
                have hne : ((s[n].toNat : Int) != 10) = true := by simpa using h3
                go_wp2
                go_roundw
                case rel => exact ⟨trivial, n + 1, by go_num, by omega, hnl', h4.symm.trans HQ.out⟩
                case measure => simp [intOf]; omega
            · have hne : n = s.size := by omega
              have h4 := blkAt_end true (s := s) (m := n) (by omega)
              have h5 := blkAt_end false (s := s) (m := n) (by omega)
              go_wp2
              go_roundw
              case rel => exact ⟨trivial, n, rfl, hn, h5.trans (h4.symm.trans HQ.out)⟩
              case measure => simp [intOf]; omega
        | false =>
          have h0 : E = m := by
            rw [← HE.out]; exact blkAt_no (fun h => by rw [getElem!_pos s m h]; exact hb) hp
          by_cases h1 : (s[m].toNat : Int) = 47
          · by_cases hl2 : (m : Int) + 1 < (s.size : Int)
            · have hl1 : m + 1 < s.size := by omega
              have h2 : ((s[m + 1].toNat : Int) == 47) = false := beq_false_of_ne (fun h => by
                rw [pre2_at hlt', dif_pos hl1, show s[m] = 47 from u8_eq h1, show s[m + 1] = 47 from u8_eq h] at hp
                cases hp)
              clear hb hp b1 b2 b3 b4
              go_wp2
              go_ret
              exact ⟨by first | rfl | (rw [h0]; rfl), rfl⟩
            · clear hb hp b1 b2 b3 b4
              go_wp2
              go_ret
              exact ⟨by first | rfl | (rw [h0]; rfl), rfl⟩
          · have h1' : ((s[m].toNat : Int) == 47) = false := beq_false_of_ne h1
            clear hb hp
            go_wp2
            go_ret
            exact ⟨by first | rfl | (rw [h0]; rfl), rfl⟩
    · have h0 : E = m := by rw [← HE.out]; exact blkAt_end _ (by omega)
      go_wp2
      go_ret
      exact ⟨by first | rfl | (rw [h0]; rfl), rfl⟩
end Go.Proofs.Ytlheiiapolhpeaa
