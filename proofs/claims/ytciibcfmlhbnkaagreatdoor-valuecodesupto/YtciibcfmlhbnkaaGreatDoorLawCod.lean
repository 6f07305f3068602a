/- proctorlaw1.ValueCodes: it tells true. -/
import Derived.Test.YtciibcfmlhbnkaaGreatDoorVCodL
import Derived.Test.YtciibcfmlhbnkaaGreatDoorRSame
import Derived.Test.YtciibcfmlhbnkaaGreatDoorWakes
namespace Go.Proofs.YtciibcfmlhbnkaaGreatDoor
open Go.RowKit

theorem below_bx {w w' : World} {o : Obj} (h : Below (w.heap.size + 1) (w.alloc o) w') : Below w.heap.size w w' :=
  ((Below.refl _ _).alloc (Nat.le_refl _) o).trans (h.mono (Nat.le_succ _))

set_option maxRecDepth 20000 in
set_option maxHeartbeats 4000000 in
theorem valueCodes_walk (n : Nat) (ts : List Tr) (sv : Value) (ls : List (List UInt8)) (lv : Value) (w : World) (h : Lv w (Vs w n) ts sv) (hL : ByL w ls lv) (hsz : ∀ t ∈ ts, fit 30 t = true → (enc n t).length ≤ 500000000) :
    Calls Tryz.prog 6 #[.agg #[sv, lv]] w fun e w' => e = .returned (.bool true) ∧ Below w.heap.size w w' := by
  have HS := Hid.intro (fun w' hb => Size_any n ts sv w' (h.mono hb (fun t v => Vs.below hb n t v)))
  have HZ := Hid.intro hsz
  clear hsz
  obtain ⟨a0, cap, rfl, h2, h3, h4⟩ := h
  obtain ⟨b0, cbp, rfl, k2, k3, k4⟩ := hL
  unfold maxLen at h3 k3
  have HE := Hid.intro h4
  have HK := Hid.intro k4
  clear h4 k4
  go_enter Tryz.func6, Tryz.ntmps6
  go_wp2_with fail
  refine (HS.out _ ((Below.refl _ _).alloc (Nat.le_refl _) _)).mono ?_
  rintro e w1 ⟨⟨z, rfl⟩, hb1⟩
  have HB1 := Hid.intro (hb1.mono (B' := w.heap.size + 1) (by simp))
  clear hb1
  by_cases hz : (9000 : Int) < z
  · go_wp2_with fail
    refine (wakes_any _).mono ?_
    rintro e w2 ⟨rfl, hb2⟩
    go_wp2_with fail
    go_ret
    exact ⟨rfl, hb2.via (below_bx HB1.out)⟩
  · go_wp2_with fail
    go_loopw [3] (fun i w' => ∃ k : Nat, k ≤ 30 ∧ i = .int .i64 k ∧ Hid (Below (w.heap.size + 1) (w.alloc (.cells #[.slice a0 ts.length cap, .slice b0 ls.length cbp] 49)) w')) (fun i _ => 30 - (intOf i).toNat)
    case atStart => exact ⟨0, by omega, rfl, HB1⟩
    case round =>
      obtain ⟨k, hk, rfl, hbw⟩ := hrel
      have hbox := hbw.out.cell (p := ⟨w.heap.size, 0, none⟩) (Nat.lt_succ_self _)
      have hbox1 := hbw.out.cell (p := ⟨w.heap.size, 1, none⟩) (Nat.lt_succ_self _)
      simp [go_sem] at hbox hbox1
      have hlw : w.heap.size < wr.heap.size := hbw.out.size1
      by_cases hlt : k < ts.length
      · by_cases hlt2 : k < 30
        · obtain ⟨b, o, rfl, e1⟩ := HE.out (by omega)
          obtain ⟨s1, c1, v1⟩ := e1 k hlt
          obtain ⟨x1, n1, rfl, -, -⟩ := v1.form
          have hbx := below_bx hbw.out
          have HV := Hid.intro (fun (w' : World) (hb : Below wr.heap.size wr w') => Vs.below (hbx.trans (hb.mono hbx.size)) _ _ _ v1)
          have HCel := Hid.intro (fun (w' : World) (hb : Below wr.heap.size wr w') => c1.below (hbx.trans (hb.mono hbx.size)))
          obtain ⟨p1, p2, p3, p4, p5⟩ := HCel.out wr (Below.refl _ _)
          have hlb : b < wr.heap.size := cell_lt p1
          have HZ1 := Hid.intro (HZ.out _ (List.getElem_mem hlt))
          clear c1 v1 e1 hbx
          generalize ts[k] = t1 at *
          have i0 : (0 : Int) ≤ (k : Int) := by omega
          have i1 : (k : Int) < (ts.length : Int) := by omega
          have i2 : (k : Int) < 30 := by omega
          have HX := Hid.intro (encode_any n t1 _ wr (HV.out wr (Below.refl _ _)) HZ1.out)
          have HY := Hid.intro (fun w' hb => rencode_any n t1 _ w' (HV.out w' hb) HZ1.out)
          have HW := Hid.intro hbw
          unfold EncQ at HX HY
          generalize encV n t1 = E at HX HY
          obtain ⟨tk, tb, ti, tz, tl⟩ := t1
          unfold vv at HX HY
          go_wp2_with fail
          refine HX.out.mono ?_
          rintro e w2 ⟨hb2, y1, rfl, z1⟩
          have HZZ := Hid.intro z1
          have HB2 := Hid.intro hb2
          obtain ⟨p1, p2, p3, p4, p5⟩ := HCel.out w2 hb2
          have hbox2 := (hb2.cell (p := ⟨w.heap.size, 0, none⟩) hlw).trans hbox
          have hlw2 : w.heap.size < w2.heap.size := Nat.lt_of_lt_of_le hlw hb2.size
          have hlb2 : b < w2.heap.size := Nat.lt_of_lt_of_le hlb hb2.size
          clear z1 hb2 HX
          go_wp2_with fail
          refine (HY.out w2 HB2.out).mono ?_
          rintro e w3 ⟨hb3, y2, rfl, z2⟩
          have HQ := Hid.intro (eqBytes_v (HZZ.out.below hb3) z2)
          rw [beq_self_eq_true] at HQ
          have HB3 := Hid.intro (hb3.via HB2.out)
          clear hb3 z2 HY
          go_wp2_with fail
          refine HQ.out.mono ?_
          rintro e w4 ⟨hb4, rfl⟩
          have HB4 := Hid.intro (hb4.via HB3.out)
          clear hb4
          go_wp2_with fail
          go_roundw
          case rel => exact ⟨k + 1, by omega, by go_num, Hid.intro (HW.out.trans (HB4.out.mono hlw))⟩
          case measure => simp [intOf]; omega
        · have HW := Hid.intro hbw.out
          clear hbw
          go_wp2_with fail
          go_loopw [8] (fun i w' => ∃ k : Nat, k ≤ 30 ∧ i = .int .i64 k ∧ Hid (Below (w.heap.size + 1) (w.alloc (.cells #[.slice a0 ts.length cap, .slice b0 ls.length cbp] 49)) w')) (fun i _ => 30 - (intOf i).toNat)
          case atStart => exact ⟨0, by omega, rfl, HW⟩
          case round =>
            obtain ⟨q, hq, rfl, hbw⟩ := hrel
            have hbox := hbw.out.cell (p := ⟨w.heap.size, 0, none⟩) (Nat.lt_succ_self _)
            have hbox1 := hbw.out.cell (p := ⟨w.heap.size, 1, none⟩) (Nat.lt_succ_self _)
            simp [go_sem] at hbox hbox1
            have hlw : w.heap.size < wr.heap.size := hbw.out.size1
            by_cases hlt3 : q < ls.length
            · by_cases hlt4 : q < 30
              · obtain ⟨b, o, rfl, hbl, e1⟩ := HK.out (by omega)
                obtain ⟨s1, c1, v1⟩ := e1 q hlt3
                have hbx := below_bx hbw.out
                have HV := Hid.intro (fun (w' : World) (hb : Below wr.heap.size wr w') => v1.below (hbx.trans (hb.mono hbx.size)))
                obtain ⟨p, c, rfl, -, hcm, -⟩ := v1
                unfold maxLen at hcm
                have hc1 := (hbx.cell (p := ⟨b, o + q, none⟩) hbl).trans c1
                have hlb : b < wr.heap.size := Nat.lt_of_lt_of_le hbl hbx.size
                clear c1 e1 hbx
                generalize ls[q] = l at *
                have i0 : (0 : Int) ≤ (q : Int) := by omega
                have i1 : (q : Int) < (ls.length : Int) := by omega
                have i2 : (q : Int) < 30 := by omega
                have HW2 := Hid.intro hbw
                by_cases hl : (3000 : Int) < (l.length : Int)
                · go_wp2_with fail
                  go_roundw
                  case rel => exact ⟨q + 1, by omega, by go_num, HW2.out⟩
                  case measure => simp [intOf]; omega
                · have HX := Hid.intro (decode_any (HV.out wr (Below.refl _ _)) (by omega))
                  have HY := Hid.intro (fun w' hb => rdecode_any (HV.out w' hb) (by omega))
                  unfold DecP at HX HY
                  generalize decV l = E at HX HY
                  obtain ⟨⟨tk, tb, ti, tz, tl⟩, en⟩ := E
                  unfold vv at HX HY
                  dsimp only at HX HY
                  go_wp2_with fail
                  refine HX.out.mono ?_
                  rintro e w2 ⟨hb2, y1, rfl, z1⟩
                  obtain ⟨xa, xc, rfl, -, -⟩ := z1.form
                  have HZZ := Hid.intro z1
                  have HB2 := Hid.intro hb2
                  have hc2 := (hb2.cell (p := ⟨b, o + q, none⟩) hlb).trans hc1
                  have hbox2 := (hb2.cell (p := ⟨w.heap.size, 1, none⟩) hlw).trans hbox1
                  have hlw2 : w.heap.size < w2.heap.size := Nat.lt_of_lt_of_le hlw hb2.size
                  have hlb2 : b < w2.heap.size := Nat.lt_of_lt_of_le hlb hb2.size
                  clear z1 hb2 HX
                  go_wp2_with fail
                  refine (HY.out _ (below_al HB2.out _)).mono ?_
                  rintro e w3 ⟨hb3, y2, rfl, z2⟩
                  obtain ⟨xb, xd, rfl, -, -⟩ := z2.form
                  have g9 := fun j => hb3.cell (p := ⟨w2.heap.size, j, none⟩) (by simp)
                  have hs9 : w2.heap.size < w3.heap.size := by have := hb3.size; simp at this; omega
                  have hb23 : Below w2.heap.size w2 w3 := hb3.via (below_al (Below.refl _ _) _)
                  have HB3 := Hid.intro (hb23.via HB2.out)
                  have HQ := Hid.intro (fun (w' : World) (hb : Below w3.heap.size w3 w') => rsame_any 32 _ _ _ _ w' (Vs.below (hb23.trans (hb.mono hb23.size)) _ _ _ HZZ.out) (Vs.below hb _ _ _ z2))
                  rw [same_refl 32 _ (Vs.dep HZZ.out)] at HQ
                  unfold vv at HQ
                  clear hb3 hb23 z2 HY
                  go_wp2_with fail
                  refine (HQ.out _ (below_al (Below.refl _ _) _)).mono ?_
                  rintro e w4 ⟨rfl, hb4⟩
                  have HB4 := Hid.intro (hb4.via (below_al HB3.out _))
                  clear hb4
                  go_wp2_with fail
                  go_roundw
                  case rel => exact ⟨q + 1, by omega, by go_num, Hid.intro (HW2.out.trans (HB4.out.mono hlw))⟩
                  case measure => simp [intOf]; omega
              · go_wp2_with fail
                refine (wakes_any _).mono ?_
                rintro e w2 ⟨rfl, hb2⟩
                go_wp2_with fail
                go_ret
                exact ⟨rfl, hb2.via (below_bx hbw.out)⟩
            · go_wp2_with fail
              refine (wakes_any _).mono ?_
              rintro e w2 ⟨rfl, hb2⟩
              go_wp2_with fail
              go_ret
              exact ⟨rfl, hb2.via (below_bx hbw.out)⟩
      · have HW := Hid.intro hbw.out
        clear hbw
        go_wp2_with fail
        go_loopw [8] (fun i w' => ∃ k : Nat, k ≤ 30 ∧ i = .int .i64 k ∧ Hid (Below (w.heap.size + 1) (w.alloc (.cells #[.slice a0 ts.length cap, .slice b0 ls.length cbp] 49)) w')) (fun i _ => 30 - (intOf i).toNat)
        case atStart => exact ⟨0, by omega, rfl, HW⟩
        case round =>
          obtain ⟨q, hq, rfl, hbw⟩ := hrel
          have hbox := hbw.out.cell (p := ⟨w.heap.size, 0, none⟩) (Nat.lt_succ_self _)
          have hbox1 := hbw.out.cell (p := ⟨w.heap.size, 1, none⟩) (Nat.lt_succ_self _)
          simp [go_sem] at hbox hbox1
          have hlw : w.heap.size < wr.heap.size := hbw.out.size1
          by_cases hlt3 : q < ls.length
          · by_cases hlt4 : q < 30
            · obtain ⟨b, o, rfl, hbl, e1⟩ := HK.out (by omega)
              obtain ⟨s1, c1, v1⟩ := e1 q hlt3
              have hbx := below_bx hbw.out
              have HV := Hid.intro (fun (w' : World) (hb : Below wr.heap.size wr w') => v1.below (hbx.trans (hb.mono hbx.size)))
              obtain ⟨p, c, rfl, -, hcm, -⟩ := v1
              unfold maxLen at hcm
              have hc1 := (hbx.cell (p := ⟨b, o + q, none⟩) hbl).trans c1
              have hlb : b < wr.heap.size := Nat.lt_of_lt_of_le hbl hbx.size
              clear c1 e1 hbx
              generalize ls[q] = l at *
              have i0 : (0 : Int) ≤ (q : Int) := by omega
              have i1 : (q : Int) < (ls.length : Int) := by omega
              have i2 : (q : Int) < 30 := by omega
              have HW2 := Hid.intro hbw
              by_cases hl : (3000 : Int) < (l.length : Int)
              · go_wp2_with fail
                go_roundw
                case rel => exact ⟨q + 1, by omega, by go_num, HW2.out⟩
                case measure => simp [intOf]; omega
              · have HX := Hid.intro (decode_any (HV.out wr (Below.refl _ _)) (by omega))
                have HY := Hid.intro (fun w' hb => rdecode_any (HV.out w' hb) (by omega))
                unfold DecP at HX HY
                generalize decV l = E at HX HY
                obtain ⟨⟨tk, tb, ti, tz, tl⟩, en⟩ := E
                unfold vv at HX HY
                dsimp only at HX HY
                go_wp2_with fail
                refine HX.out.mono ?_
                rintro e w2 ⟨hb2, y1, rfl, z1⟩
                obtain ⟨xa, xc, rfl, -, -⟩ := z1.form
                have HZZ := Hid.intro z1
                have HB2 := Hid.intro hb2
                have hc2 := (hb2.cell (p := ⟨b, o + q, none⟩) hlb).trans hc1
                have hbox2 := (hb2.cell (p := ⟨w.heap.size, 1, none⟩) hlw).trans hbox1
                have hlw2 : w.heap.size < w2.heap.size := Nat.lt_of_lt_of_le hlw hb2.size
                have hlb2 : b < w2.heap.size := Nat.lt_of_lt_of_le hlb hb2.size
                clear z1 hb2 HX
                go_wp2_with fail
                refine (HY.out _ (below_al HB2.out _)).mono ?_
                rintro e w3 ⟨hb3, y2, rfl, z2⟩
                obtain ⟨xb, xd, rfl, -, -⟩ := z2.form
                have g9 := fun j => hb3.cell (p := ⟨w2.heap.size, j, none⟩) (by simp)
                have hs9 : w2.heap.size < w3.heap.size := by have := hb3.size; simp at this; omega
                have hb23 : Below w2.heap.size w2 w3 := hb3.via (below_al (Below.refl _ _) _)
                have HB3 := Hid.intro (hb23.via HB2.out)
                have HQ := Hid.intro (fun (w' : World) (hb : Below w3.heap.size w3 w') => rsame_any 32 _ _ _ _ w' (Vs.below (hb23.trans (hb.mono hb23.size)) _ _ _ HZZ.out) (Vs.below hb _ _ _ z2))
                rw [same_refl 32 _ (Vs.dep HZZ.out)] at HQ
                unfold vv at HQ
                clear hb3 hb23 z2 HY
                go_wp2_with fail
                refine (HQ.out _ (below_al (Below.refl _ _) _)).mono ?_
                rintro e w4 ⟨rfl, hb4⟩
                have HB4 := Hid.intro (hb4.via (below_al HB3.out _))
                clear hb4
                go_wp2_with fail
                go_roundw
                case rel => exact ⟨q + 1, by omega, by go_num, Hid.intro (HW2.out.trans (HB4.out.mono hlw))⟩
                case measure => simp [intOf]; omega
            · go_wp2_with fail
              refine (wakes_any _).mono ?_
              rintro e w2 ⟨rfl, hb2⟩
              go_wp2_with fail
              go_ret
              exact ⟨rfl, hb2.via (below_bx hbw.out)⟩
          · go_wp2_with fail
            refine (wakes_any _).mono ?_
            rintro e w2 ⟨rfl, hb2⟩
            go_wp2_with fail
            go_ret
            exact ⟨rfl, hb2.via (below_bx hbw.out)⟩
end Go.Proofs.YtciibcfmlhbnkaaGreatDoor
