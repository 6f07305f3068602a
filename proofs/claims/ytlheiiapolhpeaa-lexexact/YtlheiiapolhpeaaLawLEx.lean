/- LexExact: the walk. -/
import Derived.Test.YtlheiiapolhpeaaLReg14
import Derived.BigQuiet
import Derived.Deep.RegionHeld3
namespace Go.Proofs.Ytlheiiapolhpeaa
open Go.RowKit

theorem below_drewN {a w : World} (h : Below a.heap.size a w) (n : Nat) : Below a.heap.size a (w.drewN n) := ⟨h.os, h.tape, h.output, h.size, h.block⟩

set_option maxRecDepth 100000 in
set_option maxHeartbeats 8000000 in
theorem lawExact (w : World) (l : List ByteArray) (sv : Value) (hl : Tv w l sv) :
    Calls Try.prog 3 #[sv] w fun e w' => e = .returned (.bool true) ∧ Below w.heap.size w w' := by
  have HT := Hid.intro hl
  have HW := fun w => Hid.intro (wakes_any w)
  obtain ⟨a0, cap, rfl, hc1, hc2⟩ := hl.form
  clear hl
  go_enter Try.func3, Try.ntmps3
  go_wp2_with fail
  go_loopw [3] (fun i wr => ∃ k : Nat, i = .int .i64 (k : Int) ∧ k ≤ l.length ∧ Hid (Below w.heap.size w wr)) (fun i _ => l.length - (intOf i).toNat)
  case atStart => exact ⟨0, rfl, Nat.zero_le _, Below.refl _ _⟩
  case round =>
    obtain ⟨k, rfl, hk, HB⟩ := hrel
    by_cases hlt : (k : Int) < (l.length : Int)
    · by_cases h8 : (k : Int) < 8
      · have hlt' : k < l.length := by omega
        obtain ⟨b, o, rfl, hc⟩ := (HT.out.below HB.out).cell hlt'
        have HC := Hid.intro (fun (W : World) (h : Below w.heap.size w W) => by
          obtain ⟨b', o', e', h'⟩ := (HT.out.below h).cell hlt'
          cases e'
          exact h')
        generalize hs : l[k] = s at hc HC
        have HK1 := fun w => Hid.intro (key_any s w)
        have HK2 := fun w => Hid.intro (rkey_any s w)
        generalize keyB s = kb at HK1 HK2
        by_cases hmid : 20000 < s.size ∧ s.size ≤ 65536
        · have m1 : (20000 : Int) < (s.size : Int) := by omega
          have m2 : (s.size : Int) ≤ 65536 := by omega
          go_wp2
          go_roundw
          case rel => exact ⟨k + 1, by go_num, hlt', HB⟩
          case measure => simp [intOf]; omega
        · by_cases hlong : 65536 < s.size
          · have m1 : (20000 : Int) < (s.size : Int) := by omega
            have m2 : ¬ (s.size : Int) ≤ 65536 := by omega
            have HL1 := fun w => Hid.intro (lex_long (s := s) hlong w)
            have HL2 := fun w => Hid.intro (rlex_long (s := s) hlong w)
            go_wp2_with fail
            refine (HL1 _).out.mono ?_
            rintro e w2 ⟨rfl, hb2⟩
            have HB2 := Hid.intro (hb2.via HB.out)
            clear hb2
            have hc2' := HC.out _ HB2.out
            go_wp2_with fail
            refine (HL2 _).out.mono ?_
            rintro e WB ⟨rfl, hb3⟩
            have HBc := Hid.intro (hb3.via HB2.out)
            clear hb3 hc2' HB2 hc HL1 HL2
            have hcB := HC.out _ HBc.out
            have HCl := Hid.intro (fun (W : World) (h : Below WB.heap.size WB W) => HC.out W (h.via HBc.out))
            clear HC
            go_wp2_with fail
            go_loopw [10] (fun i wr => i = .int .i64 0 ∧ wr = WB) (fun _ _ => 0)
            case atStart => exact ⟨rfl, rfl⟩
            case round =>
              obtain ⟨rfl, hwr⟩ := hrel
              subst wr
              go_upto_region 14 with fail
              go_cut [155] (fun v wx => v = .bool false ∧ Hid (Below WB.heap.size WB wx))
              case first =>
                by_cases h3 : s.size ≤ 3000
                · have h3' : (s.size : Int) ≤ 3000 := by omega
                  have HQ1 := fun w => Hid.intro (quote_any s (by omega) w)
                  have HQ2 := fun w => Hid.intro (rquote_any s (by omega) w)
                  generalize quoteS s = qs at HQ1 HQ2
                  have hk1 : (0 : Int) ≤ (k : Int) := by omega
                  go_region_held3 (fun w' => w'.cell? ⟨b, o + k, none⟩ = some (.string s)) ((first | exact HCl.out _ (Below.refl _ _) | exact HCl.out _ (Below.refl _ _).drew | exact HCl.out _ D3.out | exact HCl.out _ D2.out | exact HCl.out _ D1.out)) ((first | (go_at_call 10; refine (HK1 _).out.mono ?_; rintro e w3 ⟨rfl, hw3⟩; subst w3) | (go_at_call 11; refine (HK2 _).out.mono ?_; rintro e w3 ⟨rfl, hb3⟩; have D1 := Hid.intro (hb3.via (Below.refl _ WB).drew); clear hb3) | (go_at_call 12; refine (HQ1 _).out.mono ?_; rintro e w4 ⟨rfl, hb4⟩; first | (have D3 := Hid.intro (hb4.via D2.out); clear hb4) | (have D2 := Hid.intro (hb4.via D1.out); clear hb4)) | (go_at_call 13; refine (HQ2 _).out.mono ?_; rintro e w5 ⟨rfl, hb5⟩; first | (have D3 := Hid.intro (hb5.via D2.out); clear hb5) | (have D2 := Hid.intro (hb5.via D1.out); clear hb5))))
                  all_goals (
                    go_wp2_with fail
                    go_meet
                    exact ⟨rfl, D3⟩)
                · have h3n : ¬ (s.size : Int) ≤ 3000 := by omega
                  have hk1 : (0 : Int) ≤ (k : Int) := by omega
                  refine reg14 _ _ _ _ _ _ _ _ _ _ _ _ _ _ _ _ _ _ _ _ _ _ _ _ _ _ _ _ _ _ _ _ _ _ _ _ _ _ _ _ _ _ _ _ _ _ _ _ _ _ _ _ _ _ _ _ _ _ _ _ _ _ _ _ _ _ _ _ _ _ _ _ _ _ _ _ _ _ _ _ _ _ _ _ _ _ _ _ _ _ _ _ _ _ _ _ _ _ _ _ _ _ _ _ _ _ _ _ _ _ _ _ _ _ _ _ _ _ _ _ _ _ _ _ _ _ _ _ _ _ _ _ _ _ _ _ _ _ _ _ _ _ _ _ _ _ _ _ _ _ _ _ _ _ _ _ _ _ _ _ _ _ _ _ HCl hk1 hlt h3n (Hid.intro (fun w => (HK1 w).out)) (Hid.intro (fun w => (HK2 w).out)) (Hid.intro (fun y124 y125 y126 y127 y128 y129 y130 y131 y132 y133 y134 y135 y136 y137 y138 y139 y140 y141 y142 y143 y144 y145 y146 y147 y148 y149 y150 y151 y152 y153 y154 wx hbx => ?_))
                  have HX := Hid.intro hbx
                  clear hbx
                  go_wp2_with fail
                  go_meet
                  exact ⟨rfl, HX⟩
              case rest =>
                obtain ⟨rfl, HX⟩ := hcut
                have HXw := Hid.intro (HX.out.via HBc.out)
                clear HX
                go_wp2
                go_roundw
                case rel => exact ⟨k + 1, by go_num, hlt', HXw⟩
                case measure => simp [intOf]; omega
          · have hsz : s.size ≤ 20000 := by omega
            have m1 : ¬ (20000 : Int) < (s.size : Int) := by omega
            cases hF : lexF s with
            | some a =>
              have HL1 := fun w => Hid.intro (lex_bad (s := s) (by omega) hF w)
              have HL2 := fun w => Hid.intro (rlex_bad (s := s) (by omega) hF w)
              clear hF
              go_wp2_with fail
              refine (HL1 _).out.mono ?_
              rintro e w2 ⟨rfl, hb2⟩
              have HB2 := Hid.intro (hb2.via HB.out)
              clear hb2
              have hc2' := HC.out _ HB2.out
              go_wp2_with fail
              refine (HL2 _).out.mono ?_
              rintro e WB ⟨rfl, hb3⟩
              have HBc := Hid.intro (hb3.via HB2.out)
              clear hb3 hc2' HB2 hc HL1 HL2
              have hcB := HC.out _ HBc.out
              have HCl := Hid.intro (fun (W : World) (h : Below WB.heap.size WB W) => HC.out W (h.via HBc.out))
              clear HC
              go_wp2_with fail
              go_loopw [10] (fun i wr => i = .int .i64 0 ∧ wr = WB) (fun _ _ => 0)
              case atStart => exact ⟨rfl, rfl⟩
              case round =>
                obtain ⟨rfl, hwr⟩ := hrel
                subst wr
                go_upto_region 14 with fail
                go_cut [155] (fun v wx => v = .bool false ∧ Hid (Below WB.heap.size WB wx))
                case first =>
                  by_cases h3 : s.size ≤ 3000
                  · have h3' : (s.size : Int) ≤ 3000 := by omega
                    have HQ1 := fun w => Hid.intro (quote_any s (by omega) w)
                    have HQ2 := fun w => Hid.intro (rquote_any s (by omega) w)
                    generalize quoteS s = qs at HQ1 HQ2
                    have hk1 : (0 : Int) ≤ (k : Int) := by omega
                    go_region_held3 (fun w' => w'.cell? ⟨b, o + k, none⟩ = some (.string s)) ((first | exact HCl.out _ (Below.refl _ _) | exact HCl.out _ (Below.refl _ _).drew | exact HCl.out _ D3.out | exact HCl.out _ D2.out | exact HCl.out _ D1.out)) ((first | (go_at_call 10; refine (HK1 _).out.mono ?_; rintro e w3 ⟨rfl, hw3⟩; subst w3) | (go_at_call 11; refine (HK2 _).out.mono ?_; rintro e w3 ⟨rfl, hb3⟩; have D1 := Hid.intro (hb3.via (Below.refl _ WB).drew); clear hb3) | (go_at_call 12; refine (HQ1 _).out.mono ?_; rintro e w4 ⟨rfl, hb4⟩; first | (have D3 := Hid.intro (hb4.via D2.out); clear hb4) | (have D2 := Hid.intro (hb4.via D1.out); clear hb4)) | (go_at_call 13; refine (HQ2 _).out.mono ?_; rintro e w5 ⟨rfl, hb5⟩; first | (have D3 := Hid.intro (hb5.via D2.out); clear hb5) | (have D2 := Hid.intro (hb5.via D1.out); clear hb5))))
                    all_goals (
                      go_wp2_with fail
                      go_meet
                      exact ⟨rfl, D3⟩)
                  · have h3n : ¬ (s.size : Int) ≤ 3000 := by omega
                    have hk1 : (0 : Int) ≤ (k : Int) := by omega
                    refine reg14 _ _ _ _ _ _ _ _ _ _ _ _ _ _ _ _ _ _ _ _ _ _ _ _ _ _ _ _ _ _ _ _ _ _ _ _ _ _ _ _ _ _ _ _ _ _ _ _ _ _ _ _ _ _ _ _ _ _ _ _ _ _ _ _ _ _ _ _ _ _ _ _ _ _ _ _ _ _ _ _ _ _ _ _ _ _ _ _ _ _ _ _ _ _ _ _ _ _ _ _ _ _ _ _ _ _ _ _ _ _ _ _ _ _ _ _ _ _ _ _ _ _ _ _ _ _ _ _ _ _ _ _ _ _ _ _ _ _ _ _ _ _ _ _ _ _ _ _ _ _ _ _ _ _ _ _ _ _ _ _ _ _ _ _ HCl hk1 hlt h3n (Hid.intro (fun w => (HK1 w).out)) (Hid.intro (fun w => (HK2 w).out)) (Hid.intro (fun y124 y125 y126 y127 y128 y129 y130 y131 y132 y133 y134 y135 y136 y137 y138 y139 y140 y141 y142 y143 y144 y145 y146 y147 y148 y149 y150 y151 y152 y153 y154 wx hbx => ?_))
                    have HX := Hid.intro hbx
                    clear hbx
                    go_wp2_with fail
                    go_meet
                    exact ⟨rfl, HX⟩
                case rest =>
                  obtain ⟨rfl, HX⟩ := hcut
                  have HXw := Hid.intro (HX.out.via HBc.out)
                  clear HX
                  go_wp2
                  go_roundw
                  case rel => exact ⟨k + 1, by go_num, hlt', HXw⟩
                  case measure => simp [intOf]; omega
            | none =>
              have HL1 := fun w => Hid.intro (lex_ls (s := s) (by omega) hF w)
              have HL2 := fun w => Hid.intro (rlex_ls (s := s) (by omega) hF w)
              have hlen := lexT_le (s := s)
              generalize lexT s = X at *
              clear hF
              go_wp2_with fail
              refine (HL1 _).out.mono ?_
              rintro e w2 ⟨v2, rfl, HV2, HB2'⟩
              have HB2 := Hid.intro (HB2'.out.via HB.out)
              clear HB2'
              have hc2' := HC.out _ HB2.out
              go_wp2_with fail
              refine (HL2 _).out.mono ?_
              rintro e WB ⟨v3, rfl, HV3, HB3'⟩
              have HV4 := Hid.intro (HV2.out.below HB3'.out)
              have HBc0 := Hid.intro (HB3'.out.via HB2.out)
              clear HB3' HV2 hc2' HB2 hc HL1 HL2
              obtain ⟨p2, cap2, rfl, hp2⟩ := HV4.out
              obtain ⟨p3, cap3, rfl, hp3⟩ := HV3.out
              have HP2 := Hid.intro hp2
              have HP3 := Hid.intro hp3
              clear hp2 hp3 HV3 HV4
              go_wp2_with fail
              go_loopw [10] (fun i wr => ∃ m : Nat, i = .int .i64 (m : Int) ∧ m ≤ X.length ∧ ∃ n, wr = WB.drewN n) (fun i _ => X.length - (intOf i).toNat)
              case atStart => exact ⟨0, rfl, Nat.zero_le _, 0, rfl⟩
              case round =>
                obtain ⟨m, rfl, hm, n, hwr⟩ := hrel
                subst wr
                by_cases hml : (m : Int) < (X.length : Int)
                · have hml' : m < X.length := by omega
                  obtain ⟨g2, rfl, -, -, hcl2⟩ := HP2.out (by omega)
                  obtain ⟨g3, rfl, -, -, hcl3⟩ := HP3.out (by omega)
                  obtain ⟨x0, x1, x2, x3⟩ := hcl2 _ hml'
                  obtain ⟨y0, y1, y2, y3⟩ := hcl3 _ hml'
                  clear hcl2 hcl3
                  generalize X[m].k = xk at x0 y0
                  generalize X[m].t = xt at x1 y1
                  generalize X[m].a = xa at x2 y2
                  generalize X[m].e = xe at x3 y3
                  go_wp2_with fail
                  go_quiet (fail)
                  go_wp2
                  go_roundw
                  case rel => exact ⟨m + 1, by go_num, hml', n + nq, by simp⟩
                  case measure => simp [intOf]; omega
                · have HBc := Hid.intro (below_drewN HBc0.out n)
                  have hcB := HC.out _ HBc.out
                  have HCl := Hid.intro (fun (W : World) (h : Below (WB.drewN n).heap.size (WB.drewN n) W) => HC.out W (h.via HBc.out))
                  clear HC HBc0 HP2 HP3
                  generalize WB.drewN n = WC at *
                  go_upto_region 14 with fail
                  go_cut [155] (fun v wx => v = .bool false ∧ Hid (Below WC.heap.size WC wx))
                  case first =>
                    by_cases h3 : s.size ≤ 3000
                    · have h3' : (s.size : Int) ≤ 3000 := by omega
                      have HQ1 := fun w => Hid.intro (quote_any s (by omega) w)
                      have HQ2 := fun w => Hid.intro (rquote_any s (by omega) w)
                      generalize quoteS s = qs at HQ1 HQ2
                      have hk1 : (0 : Int) ≤ (k : Int) := by omega
                      go_region_held3 (fun w' => w'.cell? ⟨b, o + k, none⟩ = some (.string s)) ((first | exact HCl.out _ (Below.refl _ _) | exact HCl.out _ (Below.refl _ _).drew | exact HCl.out _ D3.out | exact HCl.out _ D2.out | exact HCl.out _ D1.out)) ((first | (go_at_call 10; refine (HK1 _).out.mono ?_; rintro e w3 ⟨rfl, hw3⟩; subst w3) | (go_at_call 11; refine (HK2 _).out.mono ?_; rintro e w3 ⟨rfl, hb3⟩; have D1 := Hid.intro (hb3.via (Below.refl _ WC).drew); clear hb3) | (go_at_call 12; refine (HQ1 _).out.mono ?_; rintro e w4 ⟨rfl, hb4⟩; first | (have D3 := Hid.intro (hb4.via D2.out); clear hb4) | (have D2 := Hid.intro (hb4.via D1.out); clear hb4)) | (go_at_call 13; refine (HQ2 _).out.mono ?_; rintro e w5 ⟨rfl, hb5⟩; first | (have D3 := Hid.intro (hb5.via D2.out); clear hb5) | (have D2 := Hid.intro (hb5.via D1.out); clear hb5))))
                      all_goals (
                        go_wp2_with fail
                        go_meet
                        exact ⟨rfl, D3⟩)
                    · have h3n : ¬ (s.size : Int) ≤ 3000 := by omega
                      have hk1 : (0 : Int) ≤ (k : Int) := by omega
                      refine reg14 _ _ _ _ _ _ _ _ _ _ _ _ _ _ _ _ _ _ _ _ _ _ _ _ _ _ _ _ _ _ _ _ _ _ _ _ _ _ _ _ _ _ _ _ _ _ _ _ _ _ _ _ _ _ _ _ _ _ _ _ _ _ _ _ _ _ _ _ _ _ _ _ _ _ _ _ _ _ _ _ _ _ _ _ _ _ _ _ _ _ _ _ _ _ _ _ _ _ _ _ _ _ _ _ _ _ _ _ _ _ _ _ _ _ _ _ _ _ _ _ _ _ _ _ _ _ _ _ _ _ _ _ _ _ _ _ _ _ _ _ _ _ _ _ _ _ _ _ _ _ _ _ _ _ _ _ _ _ _ _ _ _ _ _ HCl hk1 hlt h3n (Hid.intro (fun w => (HK1 w).out)) (Hid.intro (fun w => (HK2 w).out)) (Hid.intro (fun y124 y125 y126 y127 y128 y129 y130 y131 y132 y133 y134 y135 y136 y137 y138 y139 y140 y141 y142 y143 y144 y145 y146 y147 y148 y149 y150 y151 y152 y153 y154 wx hbx => ?_))
                      have HX := Hid.intro hbx
                      clear hbx
                      go_wp2_with fail
                      go_meet
                      exact ⟨rfl, HX⟩
                  case rest =>
                    obtain ⟨rfl, HX⟩ := hcut
                    have HXw := Hid.intro (HX.out.via HBc.out)
                    clear HX
                    go_wp2
                    go_roundw
                    case rel => exact ⟨k + 1, by go_num, hlt', HXw⟩
                    case measure => simp [intOf]; omega
      · go_wp2_with fail
        refine (HW _).out.mono ?_
        rintro e w2 ⟨rfl, hb2⟩
        have HB2 := Hid.intro (hb2.via HB.out)
        clear hb2
        go_wp2
        go_ret
        exact ⟨rfl, HB2.out⟩
    · go_wp2_with fail
      refine (HW _).out.mono ?_
      rintro e w2 ⟨rfl, hb2⟩
      have HB2 := Hid.intro (hb2.via HB.out)
      clear hb2
      go_wp2
      go_ret
      exact ⟨rfl, HB2.out⟩
end Go.Proofs.Ytlheiiapolhpeaa
