/- proctorref0.Quote. -/
import Derived.Test.YtciibcfmlhbnkaaGreatDoorTTex
namespace Go.Proofs.YtciibcfmlhbnkaaGreatDoor
open Go.RowKit

set_option maxRecDepth 100000 in
set_option maxHeartbeats 4000000 in
theorem rquo_any (s : ByteArray) (hs : s.size ≤ 65536) (w : World) :
    Calls Tryz.prog 37 #[.string s] w fun e w' => e = .returned (.string ⟨(quoB s.data.toList).toArray⟩) ∧ Below w.heap.size w w' := by
  have HI := Hid.intro info5
  have O1 : Hid (OutP w (w.alloc (.cells #[.int .u8 34] 5)) (.slice (some ⟨w.heap.size, 0, none⟩) 1 1) (qd s.data.toList 0)) := Hid.intro ⟨World.ownsRow_lit (base := w.heap.size) (e := 5) (size := 1) w #[.int .u8 34] 1 (Nat.le_refl _) (by unfold maxLen; omega) rfl, below_al (Below.refl _ _) _⟩
  go_enter Tryz.func37, Tryz.ntmps37
  go_wp2_with fail
  go_loopw [3, 4] (fun u i wr => ∃ k : Nat, i = .int .i64 (k : Int) ∧ k ≤ s.size ∧ Hid (OutP w wr u (qd s.data.toList k))) (fun _ i _ => s.size - (intOf i).toNat)
  case atStart => exact ⟨0, rfl, Nat.zero_le _, O1⟩
  case round =>
    obtain ⟨k, rfl, hk, O⟩ := hrel
    have hql : (qd s.data.toList k).length ≤ 900200000 := by have := qd_le s.data.toList k; omega
    generalize hd : qd s.data.toList k = d at O hql
    by_cases hlt : k < s.size
    · have hlt' : (k : Int) < (s.size : Int) := by omega
      by_cases h1 : s[k] = 34 ∨ s[k] = 92
      · have hc : [92, s[k]] = qb s[k] := by rw [qb, if_pos h1]
        have hsw : (((s[k].toNat : Int) == 34) = true) ∨ (((s[k].toNat : Int) == 34) = false ∧ ((s[k].toNat : Int) == 92) = true) := by
          rcases h1 with h | h <;> rw [h] <;> decide
        rcases hsw with h2 | ⟨h2, h3⟩
        · go_wp2_with (at_builtin; refine wpList_append_own_at _ rfl _ _ 50 rfl w.heap.size 5 HI.out.choose (.int .u8 0) 1 1 Tryz.underlying50 HI.out.choose_spec.1 HI.out.choose_spec.2.1 HI.out.choose_spec.2.2.1 HI.out.choose_spec.2.2.2 rfl (by decide) _ _ _ rfl (O.out.own.alloc _) ⟨wr.heap.size, 0, none⟩ 2 2 [.int .u8 92, .int .u8 (s[k].toNat : Int)] rfl rfl (World.news_of_block (cs := #[.int .u8 92, .int .u8 (s[k].toNat : Int)]) (t := 5) (fr := (0, 0)) (heap_alloc_new wr _)) (by simp [Value.oneCell']) (by unfold maxLen; omega) (by omega) (by have := O.out.size; simp; omega) ?_)
          intro v4 w4 O4 gr4 _ _
          have O1 := Hid.intro (O.out.app (cs := [92, s[k]]) (below_al (Below.refl _ _) _) gr4 O4 rfl rfl)
          clear O4 gr4
          go_wp2_with fail
          go_roundw
          case rel => exact ⟨k + 1, by go_num, hlt, Hid.intro (by have h := O1.out; rw [hc, ← hd, ← qd_step hlt] at h; exact h)⟩
          case measure => simp [intOf]; omega
        · go_wp2_with (at_builtin; refine wpList_append_own_at _ rfl _ _ 50 rfl w.heap.size 5 HI.out.choose (.int .u8 0) 1 1 Tryz.underlying50 HI.out.choose_spec.1 HI.out.choose_spec.2.1 HI.out.choose_spec.2.2.1 HI.out.choose_spec.2.2.2 rfl (by decide) _ _ _ rfl (O.out.own.alloc _) ⟨wr.heap.size, 0, none⟩ 2 2 [.int .u8 92, .int .u8 (s[k].toNat : Int)] rfl rfl (World.news_of_block (cs := #[.int .u8 92, .int .u8 (s[k].toNat : Int)]) (t := 5) (fr := (0, 0)) (heap_alloc_new wr _)) (by simp [Value.oneCell']) (by unfold maxLen; omega) (by omega) (by have := O.out.size; simp; omega) ?_)
          intro v4 w4 O4 gr4 _ _
          have O1 := Hid.intro (O.out.app (cs := [92, s[k]]) (below_al (Below.refl _ _) _) gr4 O4 rfl rfl)
          clear O4 gr4
          go_wp2_with fail
          go_roundw
          case rel => exact ⟨k + 1, by go_num, hlt, Hid.intro (by have h := O1.out; rw [hc, ← hd, ← qd_step hlt] at h; exact h)⟩
          case measure => simp [intOf]; omega
      · have g34 : ((s[k].toNat : Int) == 34) = false := beq_false_of_ne (fun e => h1 (.inl (UInt8.toNat_inj.1 (by omega : s[k].toNat = 34))))
        have g92 : ((s[k].toNat : Int) == 92) = false := beq_false_of_ne (fun e => h1 (.inr (UInt8.toNat_inj.1 (by omega : s[k].toNat = 92))))
        by_cases h4 : s[k] = 10
        · have hc : [92, 110] = qb s[k] := by rw [qb, if_neg h1, if_pos h4]
          have g10 : ((s[k].toNat : Int) == 10) = true := by rw [h4]; decide
          go_wp2_with (at_builtin; refine wpList_append_own_at _ rfl _ _ 50 rfl w.heap.size 5 HI.out.choose (.int .u8 0) 1 1 Tryz.underlying50 HI.out.choose_spec.1 HI.out.choose_spec.2.1 HI.out.choose_spec.2.2.1 HI.out.choose_spec.2.2.2 rfl (by decide) _ _ _ rfl (O.out.own.alloc _) ⟨wr.heap.size, 0, none⟩ 2 2 [.int .u8 92, .int .u8 110] rfl rfl (World.news_of_block (cs := #[.int .u8 92, .int .u8 110]) (t := 5) (fr := (0, 0)) (heap_alloc_new wr _)) (by simp [Value.oneCell']) (by unfold maxLen; omega) (by omega) (by have := O.out.size; simp; omega) ?_)
          intro v4 w4 O4 gr4 _ _
          have O1 := Hid.intro (O.out.app (cs := [92, 110]) (below_al (Below.refl _ _) _) gr4 O4 rfl rfl)
          clear O4 gr4
          go_wp2_with fail
          go_roundw
          case rel => exact ⟨k + 1, by go_num, hlt, Hid.intro (by have h := O1.out; rw [hc, ← hd, ← qd_step hlt] at h; exact h)⟩
          case measure => simp [intOf]; omega
        · have g10 : ((s[k].toNat : Int) == 10) = false := beq_false_of_ne (fun e => h4 (UInt8.toNat_inj.1 (by omega : s[k].toNat = 10)))
          by_cases h5 : s[k] = 9
          · have hc : [92, 116] = qb s[k] := by rw [qb, if_neg h1, if_neg h4, if_pos h5]
            have g9 : ((s[k].toNat : Int) == 9) = true := by rw [h5]; decide
            go_wp2_with (at_builtin; refine wpList_append_own_at _ rfl _ _ 50 rfl w.heap.size 5 HI.out.choose (.int .u8 0) 1 1 Tryz.underlying50 HI.out.choose_spec.1 HI.out.choose_spec.2.1 HI.out.choose_spec.2.2.1 HI.out.choose_spec.2.2.2 rfl (by decide) _ _ _ rfl (O.out.own.alloc _) ⟨wr.heap.size, 0, none⟩ 2 2 [.int .u8 92, .int .u8 116] rfl rfl (World.news_of_block (cs := #[.int .u8 92, .int .u8 116]) (t := 5) (fr := (0, 0)) (heap_alloc_new wr _)) (by simp [Value.oneCell']) (by unfold maxLen; omega) (by omega) (by have := O.out.size; simp; omega) ?_)
            intro v4 w4 O4 gr4 _ _
            have O1 := Hid.intro (O.out.app (cs := [92, 116]) (below_al (Below.refl _ _) _) gr4 O4 rfl rfl)
            clear O4 gr4
            go_wp2_with fail
            go_roundw
            case rel => exact ⟨k + 1, by go_num, hlt, Hid.intro (by have h := O1.out; rw [hc, ← hd, ← qd_step hlt] at h; exact h)⟩
            case measure => simp [intOf]; omega
          · have hc : [s[k]] = qb s[k] := by rw [qb, if_neg h1, if_neg h4, if_neg h5]
            have g9 : ((s[k].toNat : Int) == 9) = false := beq_false_of_ne (fun e => h5 (UInt8.toNat_inj.1 (by omega : s[k].toNat = 9)))
            go_wp2_with (at_builtin; refine wpList_append_own_at _ rfl _ _ 50 rfl w.heap.size 5 HI.out.choose (.int .u8 0) 1 1 Tryz.underlying50 HI.out.choose_spec.1 HI.out.choose_spec.2.1 HI.out.choose_spec.2.2.1 HI.out.choose_spec.2.2.2 rfl (by decide) _ _ _ rfl (O.out.own.alloc _) ⟨wr.heap.size, 0, none⟩ 1 1 [.int .u8 (s[k].toNat : Int)] rfl rfl (World.news_of_block (cs := #[.int .u8 (s[k].toNat : Int)]) (t := 5) (fr := (0, 0)) (heap_alloc_new wr _)) (by simp [Value.oneCell']) (by unfold maxLen; omega) (by omega) (by have := O.out.size; simp; omega) ?_)
            intro v4 w4 O4 gr4 _ _
            have O1 := Hid.intro (O.out.app (cs := [s[k]]) (below_al (Below.refl _ _) _) gr4 O4 rfl rfl)
            clear O4 gr4
            go_wp2_with fail
            go_roundw
            case rel => exact ⟨k + 1, by go_num, hlt, Hid.intro (by have h := O1.out; rw [hc, ← hd, ← qd_step hlt] at h; exact h)⟩
            case measure => simp [intOf]; omega
    · have hk' : k = s.size := by omega
      subst hk'
      go_wp2_with (at_builtin; refine wpList_append_own_at _ rfl _ _ 50 rfl w.heap.size 5 HI.out.choose (.int .u8 0) 1 1 Tryz.underlying50 HI.out.choose_spec.1 HI.out.choose_spec.2.1 HI.out.choose_spec.2.2.1 HI.out.choose_spec.2.2.2 rfl (by decide) _ _ _ rfl (O.out.own.alloc _) ⟨wr.heap.size, 0, none⟩ 1 1 [.int .u8 34] rfl rfl (World.news_of_block (cs := #[.int .u8 34]) (t := 5) (fr := (0, 0)) (heap_alloc_new wr _)) (by simp [Value.oneCell']) (by unfold maxLen; omega) (by omega) (by have := O.out.size; simp; omega) ?_)
      intro v4 w4 O4 gr4 _ _
      have O1 := Hid.intro (O.out.app (cs := [34]) (below_al (Below.refl _ _) _) gr4 O4 rfl rfl)
      clear O4 gr4
      have hr := O1.out
      rw [← hd, qd_end] at hr
      have hcv := conv_row hr.own
      have HB := Hid.intro hr.blw
      clear hr
      go_wp2_with fail
      go_ret
      exact ⟨rfl, HB.out⟩
end Go.Proofs.YtciibcfmlhbnkaaGreatDoor
