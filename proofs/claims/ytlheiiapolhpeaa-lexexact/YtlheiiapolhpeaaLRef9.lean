/- The reference: Quote. -/
import Derived.Test.YtlheiiapolhpeaaLRef8
namespace Go.Proofs.Ytlheiiapolhpeaa
open Go.RowKit

set_option maxRecDepth 100000 in
set_option maxHeartbeats 4000000 in
theorem rquote_any (s : ByteArray) (hs : s.size ≤ 100000) (w : World) :
    Calls Try.prog 13 #[.string s] w fun e w' => e = .returned (.string (quoteS s)) ∧ Below w.heap.size w w' := by
  obtain ⟨i0, hi, hz0, hz1, hz2⟩ := info_parts info_u8
  have HB1 : Hid (Below w.heap.size w (w.alloc (.cells #[.int .u8 34] 5))) := below_al (Below.refl _ _) _
  have O1 : Hid ((w.alloc (.cells #[.int .u8 34] 5)).ownsRow w.heap.size 5 1 (.slice (some ⟨w.heap.size, 0, none⟩) 1 1) (qd s 0).length (bv (qd s 0))) :=
    World.ownsRow_lit (base := w.heap.size) (e := 5) (size := 1) w #[.int .u8 34] 1 (Nat.le_refl _) (by unfold maxLen; omega) rfl
  go_enter Try.func13, Try.ntmps13
  go_wp2
  go_loopw [3, 4] (fun v i wr => ∃ k : Nat, i = .int .i64 (k : Int) ∧ k ≤ s.size ∧ Hid (Below w.heap.size w wr) ∧ Hid (wr.ownsRow w.heap.size 5 1 v (qd s k).length (bv (qd s k)))) (fun v i wr => s.size - (intOf i).toNat)
  case atStart => exact ⟨0, rfl, Nat.zero_le _, HB1, O1⟩
  case round =>
    obtain ⟨k, rfl, hk, HB, O⟩ := hrel
    have hql := qd_le s k
    by_cases hlt : k < s.size
    · have hlt' : (k : Int) < (s.size : Int) := by omega
      by_cases h1 : s[k] = 34 ∨ s[k] = 92
      · have hc : [92, s[k]] = qc s[k] := by rw [qc, if_pos h1]
        have hsw : (((s[k].toNat : Int) == 34) = true) ∨ (((s[k].toNat : Int) == 34) = false ∧ ((s[k].toNat : Int) == 92) = true) := by
          rcases h1 with h | h <;> rw [h] <;> decide
        rcases hsw with h2 | ⟨h2, h3⟩
        · go_wp2_with (at_builtin; refine wpList_append_lies _ rfl _ _ _ rfl w.heap.size 5 i0 (.int .u8 0) 1 1 Try.underlying37 hi hz0 hz1 hz2 rfl (by omega) _ _ _ rfl (O.out.alloc _) ⟨wr.heap.size, 0, none⟩ 2 2 [.int .u8 92, .int .u8 (s[k].toNat : Int)] rfl rfl (news2_u8 wr 92 (s[k].toNat : Int)).1 (news2_u8 wr 92 (s[k].toNat : Int)).2 (by omega) (by unfold maxLen; omega) (by omega) (by have := HB.out.size; simp; omega) (wr.heap.size + 1) (by simp) ?_)
          intro g4 cap4 w4 O4 gr4 at4 lt4
          have HO := Hid.intro (row2 (c := 92) rfl rfl HB.out O.out gr4 O4)
          clear O4 gr4 at4 lt4
          go_wp2
          go_roundw
          case rel => exact ⟨k + 1, by go_num, hlt, HO.out.1, by have h := HO.out.2; rw [hc, ← qd_step hlt] at h; exact h⟩
          case measure => simp [intOf]; omega
        · go_wp2_with (at_builtin; refine wpList_append_lies _ rfl _ _ _ rfl w.heap.size 5 i0 (.int .u8 0) 1 1 Try.underlying37 hi hz0 hz1 hz2 rfl (by omega) _ _ _ rfl (O.out.alloc _) ⟨wr.heap.size, 0, none⟩ 2 2 [.int .u8 92, .int .u8 (s[k].toNat : Int)] rfl rfl (news2_u8 wr 92 (s[k].toNat : Int)).1 (news2_u8 wr 92 (s[k].toNat : Int)).2 (by omega) (by unfold maxLen; omega) (by omega) (by have := HB.out.size; simp; omega) (wr.heap.size + 1) (by simp) ?_)
          intro g4 cap4 w4 O4 gr4 at4 lt4
          have HO := Hid.intro (row2 (c := 92) rfl rfl HB.out O.out gr4 O4)
          clear O4 gr4 at4 lt4
          go_wp2
          go_roundw
          case rel => exact ⟨k + 1, by go_num, hlt, HO.out.1, by have h := HO.out.2; rw [hc, ← qd_step hlt] at h; exact h⟩
          case measure => simp [intOf]; omega
      · have g34 : ((s[k].toNat : Int) == 34) = false := beq_false_of_ne (fun e => h1 (.inl (UInt8.toNat_inj.1 (by omega : s[k].toNat = 34))))
        have g92 : ((s[k].toNat : Int) == 92) = false := beq_false_of_ne (fun e => h1 (.inr (UInt8.toNat_inj.1 (by omega : s[k].toNat = 92))))
        by_cases h4 : s[k] = 10
        · have hc : [92, 110] = qc s[k] := by rw [qc, if_neg h1, if_pos h4]
          have g10 : ((s[k].toNat : Int) == 10) = true := by rw [h4]; decide
          go_wp2_with (at_builtin; refine wpList_append_lies _ rfl _ _ _ rfl w.heap.size 5 i0 (.int .u8 0) 1 1 Try.underlying37 hi hz0 hz1 hz2 rfl (by omega) _ _ _ rfl (O.out.alloc _) ⟨wr.heap.size, 0, none⟩ 2 2 [.int .u8 92, .int .u8 110] rfl rfl (news2_u8 wr 92 110).1 (news2_u8 wr 92 110).2 (by omega) (by unfold maxLen; omega) (by omega) (by have := HB.out.size; simp; omega) (wr.heap.size + 1) (by simp) ?_)
          intro g4 cap4 w4 O4 gr4 at4 lt4
          have HO := Hid.intro (row2 (c := 92) (c' := 110) rfl rfl HB.out O.out gr4 O4)
          clear O4 gr4 at4 lt4
          go_wp2
          go_roundw
          case rel => exact ⟨k + 1, by go_num, hlt, HO.out.1, by have h := HO.out.2; rw [hc, ← qd_step hlt] at h; exact h⟩
          case measure => simp [intOf]; omega
        · have g10 : ((s[k].toNat : Int) == 10) = false := beq_false_of_ne (fun e => h4 (UInt8.toNat_inj.1 (by omega : s[k].toNat = 10)))
          by_cases h5 : s[k] = 9
          · have hc : [92, 116] = qc s[k] := by rw [qc, if_neg h1, if_neg h4, if_pos h5]
            have g9 : ((s[k].toNat : Int) == 9) = true := by rw [h5]; decide
            go_wp2_with (at_builtin; refine wpList_append_lies _ rfl _ _ _ rfl w.heap.size 5 i0 (.int .u8 0) 1 1 Try.underlying37 hi hz0 hz1 hz2 rfl (by omega) _ _ _ rfl (O.out.alloc _) ⟨wr.heap.size, 0, none⟩ 2 2 [.int .u8 92, .int .u8 116] rfl rfl (news2_u8 wr 92 116).1 (news2_u8 wr 92 116).2 (by omega) (by unfold maxLen; omega) (by omega) (by have := HB.out.size; simp; omega) (wr.heap.size + 1) (by simp) ?_)
            intro g4 cap4 w4 O4 gr4 at4 lt4
            have HO := Hid.intro (row2 (c := 92) (c' := 116) rfl rfl HB.out O.out gr4 O4)
            clear O4 gr4 at4 lt4
            go_wp2
            go_roundw
            case rel => exact ⟨k + 1, by go_num, hlt, HO.out.1, by have h := HO.out.2; rw [hc, ← qd_step hlt] at h; exact h⟩
            case measure => simp [intOf]; omega
          · have hc : [s[k]] = qc s[k] := by rw [qc, if_neg h1, if_neg h4, if_neg h5]
            have g9 : ((s[k].toNat : Int) == 9) = false := beq_false_of_ne (fun e => h5 (UInt8.toNat_inj.1 (by omega : s[k].toNat = 9)))
            go_wp2_with (at_builtin; refine wpList_append_lies _ rfl _ _ _ rfl w.heap.size 5 i0 (.int .u8 0) 1 1 Try.underlying37 hi hz0 hz1 hz2 rfl (by omega) _ _ _ rfl (O.out.alloc _) ⟨wr.heap.size, 0, none⟩ 1 1 [.int .u8 (s[k].toNat : Int)] rfl rfl (news_u8 wr (s[k].toNat : Int)).1 (news_u8 wr (s[k].toNat : Int)).2 (by omega) (by unfold maxLen; omega) (by omega) (by have := HB.out.size; simp; omega) (wr.heap.size + 1) (by simp) ?_)
            intro g4 cap4 w4 O4 gr4 at4 lt4
            have HO := Hid.intro (row1 (c := s[k]) rfl HB.out O.out gr4 O4)
            clear O4 gr4 at4 lt4
            go_wp2
            go_roundw
            case rel => exact ⟨k + 1, by go_num, hlt, HO.out.1, by have h := HO.out.2; rw [hc, ← qd_step hlt] at h; exact h⟩
            case measure => simp [intOf]; omega
    · have hk' : k = s.size := by omega
      subst hk'
      go_wp2_with (at_builtin; refine wpList_append_lies _ rfl _ _ _ rfl w.heap.size 5 i0 (.int .u8 0) 1 1 Try.underlying37 hi hz0 hz1 hz2 rfl (by omega) _ _ _ rfl (O.out.alloc _) ⟨wr.heap.size, 0, none⟩ 1 1 [.int .u8 34] rfl rfl (news_u8 wr 34).1 (news_u8 wr 34).2 (by omega) (by unfold maxLen; omega) (by omega) (by have := HB.out.size; simp; omega) (wr.heap.size + 1) (by simp) ?_)
      intro g4 cap4 w4 O4 gr4 at4 lt4
      have HO := Hid.intro (row1 (c := 34) rfl HB.out O.out gr4 O4)
      clear O4 gr4 at4 lt4
      have hcv := conv_own HO.out.2
      go_wp2
      go_ret
      exact ⟨by rw [qd_end]; rfl, HO.out.1⟩
end Go.Proofs.Ytlheiiapolhpeaa
