/- proctorlaw1.ValueOrder: it tells true. -/
import Derived.Test.YthhflcdmicpcdaaDoorOrdSame
import Derived.Test.YthhflcdmicpcdaaDoorSize
import Derived.Test.YthhflcdmicpcdaaDoorWakes
import Derived.Deep.DeepCutAuto
namespace Go.Proofs.YthhflcdmicpcdaaDoor
open Go.RowKit

theorem below_box {w w' : World} {o : Obj} (h : Below (w.heap.size + 1) (w.alloc o) w') : Below w.heap.size w w' :=
  ((Below.refl _ _).alloc (Nat.le_refl _) o).trans (h.mono (Nat.le_succ _))

set_option maxRecDepth 20000 in
set_option maxHeartbeats 2000000 in
theorem valueOrder_walk (n : Nat) (ts : List Tr) (sv : Value) (w : World) (h : Lv w (Vs w n) ts sv) :
    Calls Tryd.prog 4 #[.agg #[sv]] w fun e w' => e = .returned (.bool true) ∧ Below w.heap.size w w' := by
  have HL := Hid.intro (fun w' hb => light_any n ts sv w' (h.mono hb (fun t v => Vs.below hb n t v)))
  have HV := Hid.intro h
  obtain ⟨a0, cap, rfl, h2, h3, h4⟩ := h
  unfold maxLen at h3
  have HE := Hid.intro h4
  clear h4
  go_enter Tryd.func4, Tryd.ntmps4
  go_wp2_with fail
  refine (HL.out _ ((Below.refl _ _).alloc (Nat.le_refl _) _)).mono ?_
  rintro e w1 ⟨⟨bl, rfl⟩, hb1⟩
  have HB1 := Hid.intro (hb1.mono (B' := w.heap.size + 1) (by simp))
  clear hb1
  cases bl
  · go_wp2_with (go_at_call 10; refine (wakes_any _).mono ?_; rintro e w2 ⟨rfl, hb2⟩)
    go_ret
    exact ⟨rfl, hb2.via (below_box HB1.out)⟩
  · go_wp2
    go_loopw [3] (fun i w' => ∃ k : Nat, k ≤ 20 ∧ i = .int .i64 k ∧ Hid (Below (w.heap.size + 1) (w.alloc (.cells #[.slice a0 ts.length cap] 24)) w')) (fun i _ => 20 - (intOf i).toNat)
    case atStart => exact ⟨0, by omega, rfl, HB1⟩
    case round =>
      obtain ⟨k, hk, rfl, hbw⟩ := hrel
      by_cases hlt : k + 2 < ts.length
      · by_cases hlt2 : k < 20
        · obtain ⟨b, o, rfl, e1⟩ := HE.out (by omega)
          obtain ⟨s1, c1, v1⟩ := e1 k (by omega)
          obtain ⟨s2, c2, v2⟩ := e1 (k + 1) (by omega)
          obtain ⟨s3, c3, v3⟩ := e1 (k + 2) (by omega)
          clear e1 HE
          have hbx := below_box hbw.out
          obtain ⟨x1, n1, rfl, -, -⟩ := v1.form
          obtain ⟨x2, n2, rfl, -, -⟩ := v2.form
          obtain ⟨x3, n3, rfl, -, -⟩ := v3.form
          have V1 := Hid.intro (Vs.below hbx _ _ _ v1)
          have V2 := Hid.intro (Vs.below hbx _ _ _ v2)
          have V3 := Hid.intro (Vs.below hbx _ _ _ v3)
          obtain ⟨p1, p2, p3, p4, p5⟩ := c1.below hbx
          obtain ⟨q1, q2, q3, q4, q5⟩ := c2.below hbx
          obtain ⟨r1, r2, r3, r4, r5⟩ := c3.below hbx
          clear v1 v2 v3 c1 c2 c3 hbx
          have hbox := hbw.out.cell (p := ⟨w.heap.size, 0, none⟩) (Nat.lt_succ_self _)
          simp at hbox
          generalize ts[k] = t1 at *
          generalize ts[k + 1] = t2 at *
          generalize ts[k + 2] = t3 at *
          have i0 : (0 : Int) ≤ (k : Int) := by omega
          have i01 : (0 : Int) ≤ (k : Int) + 1 := by omega
          have i02 : (0 : Int) ≤ (k : Int) + 2 := by omega
          have hlb : b < wr.heap.size := cell_lt p1
          have hlw : w.heap.size < wr.heap.size := cell_lt hbox
          have hlb1 : b < wr.heap.size + 1 := by omega
          have hlb2 : b < wr.heap.size + 1 + 1 := by omega
          have hlw1 : w.heap.size < wr.heap.size + 1 := by omega
          have hlw2 : w.heap.size < wr.heap.size + 1 + 1 := by omega
          have t1' : ((k : Int) + 1).toNat = k + 1 := by omega
          have t2' : ((k : Int) + 2).toNat = k + 2 := by omega
          have i1 : (k : Int) < (ts.length : Int) := by omega
          have i2 : (k : Int) + 1 < (ts.length : Int) := by omega
          have i3 : (k : Int) + 2 < (ts.length : Int) := by omega
          have j1 : IntKind.i64.wrap ((k : Int) + 1) = (k : Int) + 1 := by simp [IntKind.wrap, IntKind.bits, IntKind.signed]; omega
          have j2 : IntKind.i64.wrap ((k : Int) + 2) = (k : Int) + 2 := by simp [IntKind.wrap, IntKind.bits, IntKind.signed]; omega
          have HS : Hid (∀ w', Below wr.heap.size wr w' → (w'.cell? ⟨w.heap.size, 0, none⟩ = some (.slice (some ⟨b, o, none⟩) ts.length cap) ∧
            w'.cell? ⟨b, o + k * 5, none⟩ = some (.int .i64 t1.k) ∧ w'.cell? ⟨b, o + k * 5 + 1, none⟩ = some (.bool t1.b) ∧ w'.cell? ⟨b, o + k * 5 + 2, none⟩ = some (.int .i64 t1.i) ∧ w'.cell? ⟨b, o + k * 5 + 3, none⟩ = some (.string t1.s) ∧ w'.cell? ⟨b, o + k * 5 + 4, none⟩ = some (.slice x1 t1.l.length n1) ∧
            w'.cell? ⟨b, o + (k + 1) * 5, none⟩ = some (.int .i64 t2.k) ∧ w'.cell? ⟨b, o + (k + 1) * 5 + 1, none⟩ = some (.bool t2.b) ∧ w'.cell? ⟨b, o + (k + 1) * 5 + 2, none⟩ = some (.int .i64 t2.i) ∧ w'.cell? ⟨b, o + (k + 1) * 5 + 3, none⟩ = some (.string t2.s) ∧ w'.cell? ⟨b, o + (k + 1) * 5 + 4, none⟩ = some (.slice x2 t2.l.length n2) ∧
            w'.cell? ⟨b, o + (k + 2) * 5, none⟩ = some (.int .i64 t3.k) ∧ w'.cell? ⟨b, o + (k + 2) * 5 + 1, none⟩ = some (.bool t3.b) ∧ w'.cell? ⟨b, o + (k + 2) * 5 + 2, none⟩ = some (.int .i64 t3.i) ∧ w'.cell? ⟨b, o + (k + 2) * 5 + 3, none⟩ = some (.string t3.s) ∧ w'.cell? ⟨b, o + (k + 2) * 5 + 4, none⟩ = some (.slice x3 t3.l.length n3))) := by
            intro w' hb
            have g := fun o => hb.cell (p := ⟨b, o, none⟩) hlb
            have g' := hb.cell (p := ⟨w.heap.size, 0, none⟩) hlw
            rw [g', g, g, g, g, g, g, g, g, g, g, g, g, g, g, g]
            exact ⟨hbox, p1, p2, p3, p4, p5, q1, q2, q3, q4, q5, r1, r2, r3, r4, r5⟩
          go_upto_region 6 with fail
          go_cut [4, 5, 6] (fun p4 p5 p6 wx => ∃ ba bb bc, p4 = .pointer (some ⟨ba, 0, none⟩) ∧ p5 = .pointer (some ⟨bb, 0, none⟩) ∧ p6 = .pointer (some ⟨bc, 0, none⟩) ∧ Hid (Cel wx ba 0 t1 (.slice x1 t1.l.length n1) ∧ Cel wx bb 0 t2 (.slice x2 t2.l.length n2) ∧ Cel wx bc 0 t3 (.slice x3 t3.l.length n3) ∧ Below wr.heap.size wr wx))
          case first =>
            go_region_held3 (fun w' => w'.cell? ⟨w.heap.size, 0, none⟩ = some (.slice (some ⟨b, o, none⟩) ts.length cap) ∧
              w'.cell? ⟨b, o + k * 5, none⟩ = some (.int .i64 t1.k) ∧ w'.cell? ⟨b, o + k * 5 + 1, none⟩ = some (.bool t1.b) ∧ w'.cell? ⟨b, o + k * 5 + 2, none⟩ = some (.int .i64 t1.i) ∧ w'.cell? ⟨b, o + k * 5 + 3, none⟩ = some (.string t1.s) ∧ w'.cell? ⟨b, o + k * 5 + 4, none⟩ = some (.slice x1 t1.l.length n1) ∧
              w'.cell? ⟨b, o + (k + 1) * 5, none⟩ = some (.int .i64 t2.k) ∧ w'.cell? ⟨b, o + (k + 1) * 5 + 1, none⟩ = some (.bool t2.b) ∧ w'.cell? ⟨b, o + (k + 1) * 5 + 2, none⟩ = some (.int .i64 t2.i) ∧ w'.cell? ⟨b, o + (k + 1) * 5 + 3, none⟩ = some (.string t2.s) ∧ w'.cell? ⟨b, o + (k + 1) * 5 + 4, none⟩ = some (.slice x2 t2.l.length n2) ∧
              w'.cell? ⟨b, o + (k + 2) * 5, none⟩ = some (.int .i64 t3.k) ∧ w'.cell? ⟨b, o + (k + 2) * 5 + 1, none⟩ = some (.bool t3.b) ∧ w'.cell? ⟨b, o + (k + 2) * 5 + 2, none⟩ = some (.int .i64 t3.i) ∧ w'.cell? ⟨b, o + (k + 2) * 5 + 3, none⟩ = some (.string t3.s) ∧ w'.cell? ⟨b, o + (k + 2) * 5 + 4, none⟩ = some (.slice x3 t3.l.length n3)) ((refine HS.out _ ?_; repeat (first | exact Below.refl _ _ | refine Below.drew ?_ | refine below_al ?_ _ | refine below_set5 ?_ (Nat.le_refl _) _ _ _ _ _ | refine below_set5 ?_ (Nat.le_succ _) _ _ _ _ _ | refine below_set5 ?_ (Nat.le_add_right _ 2) _ _ _ _ _))) (fail)
            all_goals go_wp2_with fail
            all_goals go_meet
            all_goals exact ⟨_, _, _, rfl, rfl, rfl, by simp [Cel, go_sem], by simp [Cel, go_sem], by simp [Cel, go_sem], (below_al (below2 _ _ _) _).drew⟩
          case rest =>
            obtain ⟨ba, bb, bc, rfl, rfl, rfl, HC⟩ := hcut
            have hbx := HC.out.2.2.2
            have W1 := Hid.intro (Vs.below hbx _ _ _ V1.out)
            have W2 := Hid.intro (Vs.below hbx _ _ _ V2.out)
            have W3 := Hid.intro (Vs.below hbx _ _ _ V3.out)
            obtain ⟨a1, a2, a3, a4, a5⟩ := HC.out.1
            obtain ⟨b1, b2, b3, b4, b5⟩ := HC.out.2.1
            obtain ⟨c1, c2, c3, c4, c5⟩ := HC.out.2.2.1
            have la : ba < wc.heap.size := cell_lt a1
            have lb : bb < wc.heap.size := cell_lt b1
            have lc : bc < wc.heap.size := cell_lt c1
            have HBW : Hid (Below (w.heap.size + 1) (w.alloc (.cells #[.slice (some ⟨b, o, none⟩) ts.length cap] 24)) wc) := hbw.out.trans (hbx.mono hlw)
            clear hbx HC V1 V2 V3 hlb hlb1 hlb2 hlw hlw1 hlw2 j1 j2 t1' t2' p1 p2 p3 p4 p5 q1 q2 q3 q4 q5 r1 r2 r3 r4 r5 HS hbox i01 i02
            go_wp2_with fail
            refine (order_any n t1 t2 _ _ wc W1.out W2.out).mono ?_
            rintro e w2 ⟨rfl, hb2⟩
            have g1 := fun o => hb2.cell (p := ⟨ba, o, none⟩) la
            have g2 := fun o => hb2.cell (p := ⟨bb, o, none⟩) lb
            have g3 := fun o => hb2.cell (p := ⟨bc, o, none⟩) lc
            have B2 := Hid.intro hb2
            clear hb2
            go_wp2_with fail
            refine (order_any n t2 t3 _ _ w2 (Vs.below B2.out _ _ _ W2.out) (Vs.below B2.out _ _ _ W3.out)).mono ?_
            rintro e w3 ⟨rfl, hb3⟩
            clear g1 g2 g3
            have B3 := Hid.intro (hb3.via B2.out)
            have g1 := fun o => B3.out.cell (p := ⟨ba, o, none⟩) la
            have g2 := fun o => B3.out.cell (p := ⟨bb, o, none⟩) lb
            have g3 := fun o => B3.out.cell (p := ⟨bc, o, none⟩) lc
            clear hb3 B2
            go_wp2_with fail
            refine (order_any n t1 t3 _ _ w3 (Vs.below B3.out _ _ _ W1.out) (Vs.below B3.out _ _ _ W3.out)).mono ?_
            rintro e w4 ⟨rfl, hb4⟩
            clear g1 g2 g3
            have B4 := Hid.intro (hb4.via B3.out)
            have g1 := fun o => B4.out.cell (p := ⟨ba, o, none⟩) la
            have g2 := fun o => B4.out.cell (p := ⟨bb, o, none⟩) lb
            have g3 := fun o => B4.out.cell (p := ⟨bc, o, none⟩) lc
            clear hb4 B3
            have HR1 := Hid.intro ((ord_cmp n).rng t1 t2)
            have HR2 := Hid.intro ((ord_cmp n).rng t2 t3)
            have HR3 := Hid.intro ((ord_cmp n).rng t1 t3)
            have HR5 := Hid.intro ((ord_cmp n).trans t1 t2 t3)
            have HR6 := Hid.intro (ord_same n t1 t2 30 W1.out.dep W2.out.dep)
            have HO := Hid.intro (order_any n t2 t1 _ _ w4 (Vs.below B4.out _ _ _ W2.out) (Vs.below B4.out _ _ _ W1.out))
            rw [(ord_cmp n).anti t2 t1] at HO
            generalize ord n t1 t2 = y1 at *
            generalize ord n t2 t3 = y2 at *
            generalize ord n t1 t3 = y3 at *
            go_upto_region 10 with fail
            go_cut [93] (fun c wx => c = .bool false ∧ Hid (Below wc.heap.size wc wx))
            case first =>
              go_wp2_with fail
              refine HO.out.mono ?_
              rintro e w5 ⟨rfl, hb5⟩
              have B5 := Hid.intro (hb5.via B4.out)
              clear hb5 B4 HO g1 g2 g3 a1 a2 a3 a4 a5 b1 b2 b3 b4 b5 c1 c2 c3 c4 c5
              rcases HR1.out with rfl | rfl | rfl <;> rcases HR2.out with rfl | rfl | rfl <;> rcases HR3.out with rfl | rfl | rfl
              all_goals first
                | (exfalso; have := HR5.out; simp at this; done)
                | (clear HR1 HR2 HR3 HR5 HR6; go_wp2; go_meet; exact ⟨rfl, B5⟩)
            case rest =>
              obtain ⟨rfl, B5⟩ := hcut
              clear g1 g2 g3 HO HR1 HR2 HR3 HR5 B4 c1 c2 c3 c4 c5
              have g1 := fun o => B5.out.cell (p := ⟨ba, o, none⟩) la
              have g2 := fun o => B5.out.cell (p := ⟨bb, o, none⟩) lb
              go_wp2_with fail
              refine (check_any n t1 _ _ (Vs.below B5.out _ _ _ W1.out)).mono ?_
              rintro e w6 ⟨rfl, hb6⟩
              have B6 := Hid.intro (hb6.via B5.out)
              clear g1 g2 hb6 B5
              by_cases f1 : fit 30 t1 = true
              · rw [f1]
                have g1 := fun o => B6.out.cell (p := ⟨ba, o, none⟩) la
                have g2 := fun o => B6.out.cell (p := ⟨bb, o, none⟩) lb
                go_wp2_with fail
                refine (check_any n t2 _ _ (Vs.below B6.out _ _ _ W2.out)).mono ?_
                rintro e w7 ⟨rfl, hb7⟩
                have B7 := Hid.intro (hb7.via B6.out)
                clear g1 g2 hb7 B6
                by_cases f2 : fit 30 t2 = true
                · have hs : same n t1 t2 = (y1 == 0) := by
                    rw [Bool.eq_iff_iff, ← HR6.out f1 f2]; simp
                  have HS := Hid.intro (same_any n t1 t2 _ _ w7 (Vs.below B7.out _ _ _ W1.out) (Vs.below B7.out _ _ _ W2.out))
                  rw [hs] at HS
                  rw [f2]
                  clear hs f1 f2 HR6
                  have g1 := fun o => B7.out.cell (p := ⟨ba, o, none⟩) la
                  have g2 := fun o => B7.out.cell (p := ⟨bb, o, none⟩) lb
                  go_wp2_with fail
                  refine HS.out.mono ?_
                  rintro e w8 ⟨rfl, hb8⟩
                  have B8 := Hid.intro (hb8.via B7.out)
                  clear g1 g2 hb8 B7 HS a1 a2 a3 a4 a5 b1 b2 b3 b4 b5
                  go_wp2
                  go_roundw
                  case rel => exact ⟨k + 1, by omega, by go_num, HBW.out.trans (B8.out.mono HBW.out.size1)⟩
                  case measure => simp [intOf]; omega
                · have f2' : fit 30 t2 = false := by simpa using f2
                  rw [f2']
                  clear f1 f2 f2' HR6 a1 a2 a3 a4 a5 b1 b2 b3 b4 b5
                  go_wp2
                  go_roundw
                  case rel => exact ⟨k + 1, by omega, by go_num, HBW.out.trans (B7.out.mono HBW.out.size1)⟩
                  case measure => simp [intOf]; omega
              · have f1' : fit 30 t1 = false := by simpa using f1
                rw [f1']
                clear f1 f1' HR6 a1 a2 a3 a4 a5 b1 b2 b3 b4 b5
                go_wp2
                go_roundw
                case rel => exact ⟨k + 1, by omega, by go_num, HBW.out.trans (B6.out.mono HBW.out.size1)⟩
                case measure => simp [intOf]; omega
        · have hbox := hbw.out.cell (p := ⟨w.heap.size, 0, none⟩) (Nat.lt_succ_self _)
          simp at hbox
          go_wp2_with (go_at_call 10; refine (wakes_any _).mono ?_; rintro e w2 ⟨rfl, hb2⟩)
          go_ret
          exact ⟨rfl, hb2.via (below_box hbw.out)⟩
      · have hbox := hbw.out.cell (p := ⟨w.heap.size, 0, none⟩) (Nat.lt_succ_self _)
        simp at hbox
        have hlt' : ¬ (k : Int) + 2 < (ts.length : Int) := by omega
        go_wp2_with (go_at_call 10; refine (wakes_any _).mono ?_; rintro e w2 ⟨rfl, hb2⟩)
        go_ret
        exact ⟨rfl, hb2.via (below_box hbw.out)⟩
end Go.Proofs.YthhflcdmicpcdaaDoor
