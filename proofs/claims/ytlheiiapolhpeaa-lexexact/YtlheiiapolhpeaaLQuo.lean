/- quoted: what it tells. -/
import Derived.Test.YtlheiiapolhpeaaLQuo1
namespace Go.Proofs.Ytlheiiapolhpeaa
open Go.RowKit

def quoL (a : Nat) (l : List UInt8) : Option Lx := (quo l).map fun p => ⟨3, bs p.1, a, a + 1 + p.2⟩

structure U76 where
  k : Nat
  u8 : Value
  u9 : Value
  u10 : Value
  u11 : Value
  u12 : Value
  u13 : Value
  u14 : Value
  u15 : Value
  u16 : Value
  u17 : Value
  u18 : Value
  u19 : Value
  u20 : Value
  u21 : Value
  u22 : Value
  u23 : Value
  u24 : Value
  u25 : Value
  u26 : Value
  u27 : Value
  u28 : Value
  u29 : Value
  u30 : Value
  u31 : Value
  u32 : Value
  u33 : Value
  u34 : Value
  u35 : Value
  u36 : Value
  u37 : Value
  u38 : Value
  u39 : Value
  u40 : Value
  u41 : Value
  u42 : Value
  u43 : Value
  u44 : Value
  u45 : Value
  u46 : Value
  u47 : Value
  u48 : Value
  u49 : Value
  u50 : Value
  u51 : Value
  u52 : Value
  u53 : Value
  u54 : Value
  u55 : Value
  u56 : Value
  u57 : Value
  u58 : Value
  u59 : Value
  u60 : Value
  u61 : Value
  u62 : Value
  u63 : Value
  u64 : Value
  u65 : Value
  u66 : Value
  u67 : Value
  u68 : Value
  u69 : Value
  u70 : Value
  u71 : Value
  u72 : Value
  u73 : Value
  u74 : Value
  u75 : Value

set_option maxRecDepth 100000 in
set_option maxHeartbeats 8000000 in
theorem quoted_any (s : ByteArray) (a : Nat) (ha : a < s.size) (hs : s.size ≤ 1000000) (w : World) :
    Calls Try.prog 32 #[.string s, .int .i64 (a : Int)] w fun x w' => x = .returned (told (quoL a (tl s (a + 1))) a) ∧ Below w.heap.size w w' := by
  have HBr := fun w => Hid.intro (barred_any (a : Int) w)
  simp only [lxv] at HBr
  obtain ⟨i0, hi, hz0, hz1, hz2⟩ := info_parts info_u8
  have hcast : ((a + 1 : Nat) : Int) = (a : Int) + 1 := rfl
  go_enter Try.func32, Try.ntmps32
  go_wp2
  refine wp_scope_labels (fun l a' w' => ∃ (m : Nat) (d : List UInt8) (v : Value) (U : U76), a' = { tmps := #[.string s, .int .i64 (a : Int), undef, undef, .pointer (some ⟨w.heap.size, 0, none⟩), .bool false, v, .int .i64 (m : Int), U.u8, U.u9, U.u10, U.u11, U.u12, U.u13, U.u14, U.u15, U.u16, U.u17, U.u18, U.u19, U.u20, U.u21, U.u22, U.u23, U.u24, U.u25, U.u26, U.u27, U.u28, U.u29, U.u30, U.u31, U.u32, U.u33, U.u34, U.u35, U.u36, U.u37, U.u38, U.u39, U.u40, U.u41, U.u42, U.u43, U.u44, U.u45, U.u46, U.u47, U.u48, U.u49, U.u50, U.u51, U.u52, U.u53, U.u54, U.u55, U.u56, U.u57, U.u58, U.u59, U.u60, U.u61, U.u62, U.u63, U.u64, U.u65, U.u66, U.u67, U.u68, U.u69, U.u70, U.u71, U.u72, U.u73, U.u74, U.u75], defers := [] } ∧ Hid (Below (w.alloc (.cells #[.int .i64 0, .string ⟨#[]⟩, .int .i64 0, .int .i64 0] 31)).heap.size (w.alloc (.cells #[.int .i64 0, .string ⟨#[]⟩, .int .i64 0, .int .i64 0] 31)) w') ∧ Hid (w'.ownsRow (w.heap.size + 1) 5 1 v d.length (bv d)) ∧ m ≤ s.size ∧ a + 1 ≤ m ∧ d.length ≤ m ∧ Hid (quo (tl s (a + 1)) = (quo (tl s m)).map (fun p => (d ++ p.1, m - (a + 1) + p.2))) ∧ (l = 0 ∨ (l = 1 ∧ ∃ h : m < s.size, s[m] = 92)))
    (fun l a' _ => 2 * (s.size - (intOf (a'.tmps.getD 7 undef)).toNat) + (if l = 0 then 1 else 0)) ?pass ?first
  case first =>
    intro hL
    go_wp2
    rename_i hK
    refine wp_label (hK _ _ (hL.out 0 _ _ _ rfl ⟨a + 1, [], .slice none 0 0, ⟨0, _, _, _, _, _, _, _, _, _, _, _, _, _, _, _, _, _, _, _, _, _, _, _, _, _, _, _, _, _, _, _, _, _, _, _, _, _, _, _, _, _, _, _, _, _, _, _, _, _, _, _, _, _, _, _, _, _, _, _, _, _, _, _, _, _, _, _, _⟩, rfl, Below.refl _ _, World.ownsRow_nil _ _ _ _, ha, Nat.le_refl _, Nat.zero_le _, ?_, .inl rfl⟩))
    rw [Hid]
    cases quo (tl s (a + 1)) <;> simp
  case pass =>
    rintro l a' w' ⟨m, d, v, U, rfl, HB0, O, hm, ham, hdm, he, (rfl | ⟨rfl, hlt, h92⟩)⟩
    · refine ⟨_, rfl, ?_⟩
      by_cases hlt : m < s.size
      · have hlt' : (m : Int) < (s.size : Int) := by omega
        have hx : ((m : Int) == (s.size : Int)) = false := beq_false_of_ne (by omega)
        by_cases hlow : (s[m].toNat : Int) < 32
        · have hres : quoL a (tl s (a + 1)) = none := by
            have : s[m] < 32 := by rw [UInt8.lt_iff_toNat_lt]; exact (by omega : s[m].toNat < 32)
            rw [quoL, he.out, quo_low hlt this]; rfl
          go_wp2_with (go_at_call 40; refine (HBr _).out.mono ?_; rintro e w1 ⟨rfl, hw1⟩; have HF := Hid.intro ((F4.of HB0.out).below (blk_lt HB0.out) hw1); have HB := Hid.intro (below_of (hw1.via HB0.out)); obtain ⟨⟨z0, z1, z2, z3⟩, y0, y1, y2, y3⟩ := HF.out; clear hw1)
          refine bodyPost_ret (v := .tuple #[lxv 0 ⟨#[]⟩ (a : Int) 0, .bool false]) ?_ rfl ⟨by rw [hres]; rfl, below_set4 HB.out (Nat.le_refl _) _ _ _ _⟩
          obtain ⟨⟨g0, g1, g2, g3⟩, -⟩ := HF.out.put (.int .i64 0) (.string ⟨#[]⟩) (.int .i64 (a : Int)) (.int .i64 0)
          simp [results, Try.results32, go_sem, g0, g1, g2, g3, lxv]

        · by_cases h34 : (s[m].toNat : Int) = 34
          · have h34' : s[m] = 34 := UInt8.toNat_inj.1 (by omega : s[m].toNat = 34)
            have hres : quoL a (tl s (a + 1)) = some ⟨3, bs d, a, m + 1⟩ := by
              rw [quoL, he.out, quo_q hlt h34']
              simp only [Option.map_some, List.append_nil]
              congr 2
              omega
            have hcv := conv_own O.out
            have HF := Hid.intro (F4.of HB0.out)
            have HB := Hid.intro (below_of HB0.out)
            obtain ⟨⟨z0, z1, z2, z3⟩, y0, y1, y2, y3⟩ := HF.out
            go_wp2
            refine bodyPost_ret (v := .tuple #[lxv 3 (bs d) (a : Int) ((m : Int) + 1), .bool true]) ?_ rfl ⟨by rw [hres]; rfl, below_set4 HB.out (Nat.le_refl _) _ _ _ _⟩
            obtain ⟨⟨g0, g1, g2, g3⟩, -⟩ := HF.out.put (.int .i64 3) (.string (bs d)) (.int .i64 (a : Int)) (.int .i64 ((m : Int) + 1))
            simp [results, Try.results32, go_sem, g0, g1, g2, g3, lxv]

          · by_cases h92 : (s[m].toNat : Int) = 92
            · have h92' : s[m] = 92 := UInt8.toNat_inj.1 (by omega : s[m].toNat = 92)
              have h34b : ((s[m].toNat : Int) == 34) = false := beq_false_of_ne h34
              have h92b : ((s[m].toNat : Int) == 92) = true := beq_iff_eq.2 h92
              clear h92 h34
              go_wp2
              go_step3
              exact ⟨⟨m, d, v, ⟨0, _, _, _, _, _, _, _, _, _, _, _, _, _, _, _, _, _, _, _, _, _, _, _, _, _, _, _, _, _, _, _, _, _, _, _, _, _, _, _, _, _, _, _, _, _, _, _, _, _, _, _, _, _, _, _, _, _, _, _, _, _, _, _, _, _, _, _, _⟩, rfl, HB0, O, hm, ham, hdm, he, .inr ⟨rfl, hlt, h92'⟩⟩, by simp [intOf]⟩
            · have h34b : ((s[m].toNat : Int) == 34) = false := beq_false_of_ne h34
              have h92b : ((s[m].toNat : Int) == 92) = false := beq_false_of_ne h92
              have hbw : w.heap.size + 1 ≤ (w'.alloc (.cells #[.int .u8 (s[m].toNat : Int)] 5)).heap.size := by have := blk_lt HB0.out; simp; omega
              have he' : Hid (quo (tl s (a + 1)) = (quo (tl s (m + 1))).map (fun p => ((d ++ [s[m]]) ++ p.1, m + 1 - (a + 1) + p.2))) := by
                rw [Hid, he.out, quo_plain hlt (fun e => h34 (by rw [e]; rfl)) (fun e => hlow (by rw [UInt8.lt_iff_toNat_lt] at e; exact (by have : s[m].toNat < 32 := e; omega))) (fun e => h92 (by rw [e]; rfl))]
                cases quo (tl s (m + 1)) with
                | none => rfl
                | some p => simp; omega
              clear h92 h34
              go_wp2_with (at_builtin; refine wpList_append_lies _ rfl _ _ _ rfl (w.heap.size + 1) 5 i0 (.int .u8 0) 1 1 Try.underlying37 hi hz0 hz1 hz2 rfl (by omega) _ _ _ rfl (O.out.alloc _) ⟨w'.heap.size, 0, none⟩ 1 1 [.int .u8 (s[m].toNat : Int)] rfl rfl (news_u8 w' (s[m].toNat : Int)).1 (news_u8 w' (s[m].toNat : Int)).2 (by omega) (by unfold maxLen; omega) (by omega) hbw (w'.heap.size + 1) (by simp) ?_)
              intro g4 cap4 w4 O4 gr4 at4 lt4
              have HB4 := Hid.intro (own_step (below_al HB0.out _) gr4 (O.out.alloc (.cells #[.int .u8 (s[m].toNat : Int)] 5)) (by simp))
              have O4' : Hid (w4.ownsRow (w.heap.size + 1) 5 1 (.slice (some ⟨g4, 0, none⟩) (d.length + 1) cap4) (d ++ [s[m]]).length (bv (d ++ [s[m]]))) := by
                rw [List.length_append, bv, List.map_append]
                exact O4
              clear gr4 O4 at4
              go_wp2
              go_step3
              exact ⟨⟨m + 1, d ++ [s[m]], _, ⟨0, _, _, _, _, _, _, _, _, _, _, _, _, _, _, _, _, _, _, _, _, _, _, _, _, _, _, _, _, _, _, _, _, _, _, _, _, _, _, _, _, _, _, _, _, _, _, _, _, _, _, _, _, _, _, _, _, _, _, _, _, _, _, _, _, _, _, _, _⟩, rfl, HB4, O4', hlt, by omega, by simp; omega, he', .inl rfl⟩, by simp [intOf]; omega⟩
      · have hx : ((m : Int) == (s.size : Int)) = true := beq_iff_eq.2 (by omega)
        have hres : quoL a (tl s (a + 1)) = none := by rw [quoL, he.out, quo_end (by omega)]; rfl
        go_wp2_with (go_at_call 40; refine (HBr _).out.mono ?_; rintro e w1 ⟨rfl, hw1⟩; have HF := Hid.intro ((F4.of HB0.out).below (blk_lt HB0.out) hw1); have HB := Hid.intro (below_of (hw1.via HB0.out)); obtain ⟨⟨z0, z1, z2, z3⟩, y0, y1, y2, y3⟩ := HF.out; clear hw1)
        refine bodyPost_ret (v := .tuple #[lxv 0 ⟨#[]⟩ (a : Int) 0, .bool false]) ?_ rfl ⟨by rw [hres]; rfl, below_set4 HB.out (Nat.le_refl _) _ _ _ _⟩
        obtain ⟨⟨g0, g1, g2, g3⟩, -⟩ := HF.out.put (.int .i64 0) (.string ⟨#[]⟩) (.int .i64 (a : Int)) (.int .i64 0)
        simp [results, Try.results32, go_sem, g0, g1, g2, g3, lxv]

    · refine ⟨_, rfl, ?_⟩
      by_cases hlt1 : m + 1 < s.size
      · have hlt1' : (m : Int) + 1 < (s.size : Int) := by omega
        have hx : ((m : Int) + 1 == (s.size : Int)) = false := beq_false_of_ne (by omega)
        have hge : (0 : Int) ≤ (m : Int) + 1 := by omega
        have HE := escaped_any (s[m + 1].toNat : Int) w'
        have hq := quo_esc hlt h92 hlt1
        have hee := he.out
        rw [hq] at hee
        cases hes : escB (s[m + 1].toNat : Int) with
        | none =>
          rw [hes] at HE
          have hu : escU s[m + 1] = none := by rw [escU, hes]; rfl
          have hres : quoL a (tl s (a + 1)) = none := by rw [quoL, hee, hu]; rfl
          clear hee hq
          go_wp2_with (first | (go_at_call 41; refine HE.mono ?_; rintro e w1 ⟨rfl, hw1⟩; subst w1) | (go_at_call 40; refine (HBr _).out.mono ?_; rintro e w1 ⟨rfl, hw1⟩; have HF := Hid.intro ((F4.of HB0.out).below (blk_lt HB0.out) hw1); have HB := Hid.intro (below_of (hw1.via HB0.out)); obtain ⟨⟨z0, z1, z2, z3⟩, y0, y1, y2, y3⟩ := HF.out; clear hw1))
          refine bodyPost_ret (v := .tuple #[lxv 0 ⟨#[]⟩ (a : Int) 0, .bool false]) ?_ rfl ⟨by rw [hres]; rfl, below_set4 HB.out (Nat.le_refl _) _ _ _ _⟩
          obtain ⟨⟨g0, g1, g2, g3⟩, -⟩ := HF.out.put (.int .i64 0) (.string ⟨#[]⟩) (.int .i64 (a : Int)) (.int .i64 0)
          simp [results, Try.results32, go_sem, g0, g1, g2, g3, lxv]

        | some x =>
          rw [hes] at HE
          obtain ⟨y, hy, hu⟩ : ∃ y : UInt8, x = (y.toNat : Int) ∧ escU s[m + 1] = some y := by
            have hx2 : x = 34 ∨ x = 92 ∨ x = 10 ∨ x = 9 := by
              unfold escB at hes
              split at hes
              · rename_i h; cases hes; rcases h with h | h <;> simp [h]
              · split at hes
                · cases hes; simp
                · split at hes
                  · cases hes; simp
                  · cases hes
            refine ⟨x.toNat.toUInt8, ?_, by rw [escU, hes]; rfl⟩
            rcases hx2 with rfl | rfl | rfl | rfl <;> rfl
          subst hy
          rw [hu] at hee
          have he' : Hid (quo (tl s (a + 1)) = (quo (tl s (m + 2))).map (fun p => ((d ++ [y]) ++ p.1, m + 2 - (a + 1) + p.2))) := by
            rw [Hid, hee]
            cases quo (tl s (m + 2)) with
            | none => rfl
            | some p => simp; omega
          have hbw : w.heap.size + 1 ≤ (w'.alloc (.cells #[.int .u8 (y.toNat : Int)] 5)).heap.size := by have := blk_lt HB0.out; simp; omega
          clear hee hq hu hes
          go_wp2_with (first | (go_at_call 41; refine HE.mono ?_; rintro e w1 ⟨rfl, hw1⟩; subst w1) | (at_builtin; refine wpList_append_lies _ rfl _ _ _ rfl (w.heap.size + 1) 5 i0 (.int .u8 0) 1 1 Try.underlying37 hi hz0 hz1 hz2 rfl (by omega) _ _ _ rfl (O.out.alloc _) ⟨w'.heap.size, 0, none⟩ 1 1 [.int .u8 (y.toNat : Int)] rfl rfl (news_u8 w' (y.toNat : Int)).1 (news_u8 w' (y.toNat : Int)).2 (by omega) (by unfold maxLen; omega) (by omega) hbw (w'.heap.size + 1) (by simp) ?_))
          intro g4 cap4 w4 O4 gr4 at4 lt4
          have HB4 := Hid.intro (own_step (below_al HB0.out _) gr4 (O.out.alloc (.cells #[.int .u8 (y.toNat : Int)] 5)) (by simp))
          have O4' : Hid (w4.ownsRow (w.heap.size + 1) 5 1 (.slice (some ⟨g4, 0, none⟩) (d.length + 1) cap4) (d ++ [y]).length (bv (d ++ [y]))) := by
            rw [List.length_append, bv, List.map_append]
            exact O4
          clear gr4 O4 at4
          go_wp2
          go_step3
          rw [show (m : Int) + 2 = ((m + 2 : Nat) : Int) from rfl]
          exact ⟨⟨m + 2, d ++ [y], _, ⟨0, _, _, _, _, _, _, _, _, _, _, _, _, _, _, _, _, _, _, _, _, _, _, _, _, _, _, _, _, _, _, _, _, _, _, _, _, _, _, _, _, _, _, _, _, _, _, _, _, _, _, _, _, _, _, _, _, _, _, _, _, _, _, _, _, _, _, _, _⟩, rfl, HB4, O4', hlt1, by omega, by simp; omega, he', .inl rfl⟩, by simp [intOf]; omega⟩
      · have hx : ((m : Int) + 1 == (s.size : Int)) = true := beq_iff_eq.2 (by omega)
        have hres : quoL a (tl s (a + 1)) = none := by rw [quoL, he.out, quo_esc0 hlt h92 (by omega)]; rfl
        go_wp2_with (go_at_call 40; refine (HBr _).out.mono ?_; rintro e w1 ⟨rfl, hw1⟩; have HF := Hid.intro ((F4.of HB0.out).below (blk_lt HB0.out) hw1); have HB := Hid.intro (below_of (hw1.via HB0.out)); obtain ⟨⟨z0, z1, z2, z3⟩, y0, y1, y2, y3⟩ := HF.out; clear hw1)
        refine bodyPost_ret (v := .tuple #[lxv 0 ⟨#[]⟩ (a : Int) 0, .bool false]) ?_ rfl ⟨by rw [hres]; rfl, below_set4 HB.out (Nat.le_refl _) _ _ _ _⟩
        obtain ⟨⟨g0, g1, g2, g3⟩, -⟩ := HF.out.put (.int .i64 0) (.string ⟨#[]⟩) (.int .i64 (a : Int)) (.int .i64 0)
        simp [results, Try.results32, go_sem, g0, g1, g2, g3, lxv]

end Go.Proofs.Ytlheiiapolhpeaa
