/- The law's own word for blanks and remarks. -/
import Derived.Test.YtlheiiapolhpeaaLRead
namespace Go.Proofs.Ytlheiiapolhpeaa
open Go.RowKit

theorem pre2_at {s : ByteArray} {m : Nat} (h : m < s.size) : pre2 (tl s m) = if h' : m + 1 < s.size then (s[m] == 47 && s[m + 1] == 47) else false := by
  rw [tl_cons h]
  by_cases h' : m + 1 < s.size
  · rw [dif_pos h', tl_cons h']; rfl
  · rw [dif_neg h', tl_end (by omega)]; rfl
theorem u8_eq {c d : UInt8} (h : (c.toNat : Int) = (d.toNat : Int)) : c = d := UInt8.toNat_inj.1 (by omega)
theorem u8_ne {c d : UInt8} (h : ¬ (c.toNat : Int) = (d.toNat : Int)) : (c == d) = false := beq_false_of_ne (fun e => h (by rw [e]))

set_option maxRecDepth 100000 in
set_option maxHeartbeats 4000000 in
theorem lblank_any (s : ByteArray) (hs : s.size ≤ 1000000) (w : World) :
    Calls Try.prog 15 #[.string s] w fun e w' => e = .returned (.bool (decide (blkAt false s 0 = s.size))) ∧ w' = w := by
  obtain ⟨D, hD⟩ : ∃ D, D = decide (blkAt false s 0 = s.size) := ⟨_, rfl⟩
  rw [← hD]
  have HD := Hid.intro hD
  clear hD
  go_enter Try.func15, Try.ntmps15
  go_wp2
  go_loopw [3] (fun i wr => wr = w ∧ ∃ m : Nat, i = .int .i64 (m : Int) ∧ ((m ≤ s.size ∧ blkAt false s m = blkAt false s 0) ∨ (m = s.size + 1 ∧ blkAt false s 0 = s.size))) (fun i _ => s.size + 1 - (intOf i).toNat)
  case atStart => exact ⟨rfl, 0, rfl, .inl ⟨Nat.zero_le _, rfl⟩⟩
  case round =>
    obtain ⟨hw, m, rfl, hm⟩ := hrel
    subst wr
    by_cases hlt : (m : Int) < (s.size : Int)
    · have hlt' : m < s.size := by omega
      have he : blkAt false s m = blkAt false s 0 := by
        rcases hm with h | h
        · exact h.2
        · omega
      cases hp : pre2 (tl s m) with
      | true =>
        have hp' := hp
        rw [pre2_at hlt'] at hp'
        have hl1 : m + 1 < s.size := by
          by_cases h : m + 1 < s.size
          · exact h
          · rw [dif_neg h] at hp'; cases hp'
        rw [dif_pos hl1] at hp'
        simp only [Bool.and_eq_true, beq_iff_eq] at hp'
        have h1 : (s[m].toNat : Int) = 47 := by rw [hp'.1]; rfl
        have h2 : (s[m + 1].toNat : Int) = 47 := by rw [hp'.2]; rfl
        have hl2 : (m : Int) + 1 < (s.size : Int) := by omega
        have hq : blkAt true s m = blkAt false s 0 := (blkAt_slash hp).symm.trans he
        clear hp hp' he hm
        go_wp2
        go_loopw [3] (fun i wr => wr = w ∧ ∃ n : Nat, i = .int .i64 (n : Int) ∧ m ≤ n ∧ n ≤ s.size ∧ blkAt true s n = blkAt false s 0) (fun i _ => s.size - (intOf i).toNat)
        case atStart => exact ⟨rfl, m, rfl, Nat.le_refl _, by omega, hq⟩
        case round =>
          obtain ⟨hw, n, rfl, hmn, hn, hq⟩ := hrel
          subst wr
          by_cases hnl : (n : Int) < (s.size : Int)
          · have hnl' : n < s.size := by omega
            by_cases h3 : (s[n].toNat : Int) = 10
            · have h4 := blkAt_lf hnl' h3
              have h5 := blkAt_bl hnl' (by rw [isBl, h3]; rfl)
              have hne : ((s[n].toNat : Int) != 10) = false := by rw [h3]; rfl
              go_wp2
              go_roundw
              case rel => exact ⟨trivial, n + 1, by go_num, .inl ⟨hnl', by rw [← h5, ← h4]; exact hq⟩⟩
              case measure => simp [intOf]; omega
            · have h4 := blkAt_rem hnl' h3
              have hne : ((s[n].toNat : Int) != 10) = true := by simpa using h3
              go_wp2
              go_roundw
              case rel => exact ⟨trivial, n + 1, by go_num, by omega, hnl', by rw [← h4]; exact hq⟩
              case measure => simp [intOf]; omega
          · have hne : n = s.size := by omega
            have h4 := blkAt_end true (s := s) (m := n) (by omega)
            go_wp2
            go_roundw
            case rel => exact ⟨trivial, n + 1, by go_num, .inr ⟨by omega, by omega⟩⟩
            case measure => simp [intOf]; omega
      | false =>
        cases hb : isBl s[m] with
        | true =>
          have h5 := blkAt_bl hlt' hb
          have hq : blkAt false s (m + 1) = blkAt false s 0 := h5.symm.trans he
          have h47 : ¬ (s[m].toNat : Int) = 47 := fun h => by rw [isBl, h] at hb; cases hb
          have hb' : blB (s[m].toNat : Int) = true := hb
          simp only [blB, Bool.or_eq_true, beq_iff_eq] at hb'
          clear hb hp he hm h5
          rcases hb' with ((h | h) | h) | h
          all_goals (
            go_wp2
            go_roundw
            case rel => exact ⟨trivial, m + 1, by go_num, .inl ⟨hlt', hq⟩⟩
            case measure => simp [intOf]; omega)
        | false =>
          have h0 : blkAt false s 0 = m := by
            rw [← he]; exact blkAt_no (fun h => by rw [getElem!_pos s m h]; exact hb) hp
          have hres : D = false := by rw [HD.out, h0]; simp; omega
          have hb' : blB (s[m].toNat : Int) = false := hb
          simp only [blB, Bool.or_eq_false_iff, beq_eq_false_iff_ne] at hb'
          obtain ⟨⟨⟨n1, n2⟩, n3⟩, n4⟩ := hb'
          have b1 : ((s[m].toNat : Int) != 32) = true := by simpa using n1
          have b2 : ((s[m].toNat : Int) != 9) = true := by simpa using n2
          have b3 : ((s[m].toNat : Int) != 13) = true := by simpa using n3
          have b4 : ((s[m].toNat : Int) != 10) = true := by simpa using n4
          by_cases h1 : (s[m].toNat : Int) = 47
          · by_cases hl2 : (m : Int) + 1 < (s.size : Int)
            · have hl1 : m + 1 < s.size := by omega
              have h2 : ¬ (s[m + 1].toNat : Int) = 47 := fun h => by
                rw [pre2_at hlt', dif_pos hl1, show s[m] = 47 from u8_eq h1, show s[m + 1] = 47 from u8_eq h] at hp
                cases hp
              clear hb hp he hm
              go_wp2
              go_ret
              exact ⟨by first | rfl | (rw [hres]; rfl), rfl⟩
            · clear hb hp he hm
              go_wp2
              go_ret
              exact ⟨by first | rfl | (rw [hres]; rfl), rfl⟩
          · clear hb hp he hm
            go_wp2
            go_ret
            exact ⟨by first | rfl | (rw [hres]; rfl), rfl⟩
    · have hres : D = true := by
        rw [HD.out]
        rcases hm with h | h
        · have : m = s.size := by omega
          subst this
          rw [← h.2, blkAt_end _ (Nat.le_refl _)]; simp
        · simp [h.2]
      go_wp2
      go_ret
      exact ⟨by first | rfl | (rw [hres]; rfl), rfl⟩
end Go.Proofs.Ytlheiiapolhpeaa
