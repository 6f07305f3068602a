/- proctorlaw1.ValueExact: it tells true. -/
import Derived.Test.YtciibcfmlhbnkaaGreatDoorXTxt
import Derived.Test.YtciibcfmlhbnkaaGreatDoorXOrd
import Derived.Test.YtciibcfmlhbnkaaGreatDoorXCpy
import Derived.Test.YtciibcfmlhbnkaaGreatDoorSame
import Derived.Test.YtciibcfmlhbnkaaGreatDoorRSame
import Derived.Test.YtciibcfmlhbnkaaGreatDoorWakes
import Derived.Test.YtciibcfmlhbnkaaGreatDoorSize
namespace Go.Proofs.YtciibcfmlhbnkaaGreatDoor
open Go.RowKit

theorem below_bE {w w' : World} {o : Obj} (h : Below (w.heap.size + 1) (w.alloc o) w') : Below w.heap.size w w' :=
  ((Below.refl _ _).alloc (Nat.le_refl _) o).trans (h.mono (Nat.le_succ _))
theorem Tb.on {w w' : World} (h : Tb w) (hb : Below w.heap.size w w') : Tb w' := Lib.tabBelow_of_tabIs (h w' hb)
/-- A value of the argument, wherever the walk stands. -/
structure ElX (w wr : World) (b o k n : Nat) (t : Tr) (x : Option Addr) (c : Nat) (bx : Value) : Prop where
  box : wr.cell? ⟨w.heap.size, 0, none⟩ = some bx
  cel : Cel wr b (o + k * 5) t (.slice x t.l.length c)
  vs : Vs wr n t (.slice x t.l.length c)

set_option maxRecDepth 20000 in
set_option maxHeartbeats 4000000 in
theorem valueExact_walk (n : Nat) (ts : List Tr) (sv : Value) (w : World) (h : Lv w (Vs w n) ts sv) (hT : Tb w) (hz : ∀ t ∈ ts, (txt n t).length ≤ 700000000 ∧ sm n t) :
    Calls Tryz.prog 3 #[.agg #[sv]] w fun e w' => e = .returned (.bool true) ∧ Below w.heap.size w w' := by
  have HL := Hid.intro (fun w' hb => light_any n ts sv w' (h.mono hb (fun t v => Vs.below hb n t v)))
  have hmo : Tryz.prog.follows .mixedOrders = true := by kernel_rfl
  obtain ⟨a0, cap, rfl, h2, h3, h4⟩ := h
  unfold maxLen at h3
  have HE := Hid.intro h4
  have HZ := Hid.intro hz
  clear h4 hz
  go_enter Tryz.func3, Tryz.ntmps3
  go_wp2_with fail
  refine (HL.out _ ((Below.refl _ _).alloc (Nat.le_refl _) _)).mono ?_
  rintro e w1 ⟨⟨bl, rfl⟩, hb1⟩
  have HB1 := Hid.intro (hb1.mono (B' := w.heap.size + 1) (by simp))
  clear hb1
  cases bl
  · go_wp2_with fail
    refine (wakes_any _).mono ?_
    rintro e w2 ⟨rfl, hb2⟩
    go_wp2_with fail
    go_ret
    exact ⟨rfl, hb2.via (below_bE HB1.out)⟩
  · go_wp2_with fail
    go_loopw [3] (fun i wr => ∃ k : Nat, i = .int .i64 (k : Int) ∧ k ≤ 10 ∧ Hid (Below (w.heap.size + 1) (w.alloc (.cells #[.slice a0 ts.length cap] 24)) wr)) (fun i _ => 10 - (intOf i).toNat)
    case atStart => exact ⟨0, rfl, by omega, HB1⟩
    case round =>
      obtain ⟨k, rfl, hk, hbw⟩ := hrel
      have hbox := hbw.out.cell (p := ⟨w.heap.size, 0, none⟩) (Nat.lt_succ_self _)
      simp at hbox
      have hlw : w.heap.size < wr.heap.size := hbw.out.size1
      by_cases hlt : k < ts.length
      · by_cases hlt2 : k < 10
        · obtain ⟨b, o, rfl, e1⟩ := HE.out (by omega)
          have VA : Hid (∀ q (hq : q < ts.length), ∃ x c, ∀ wx, Below (w.heap.size + 1) (w.alloc (.cells #[.slice (some ⟨b, o, none⟩) ts.length cap] 24)) wx → ElX w wx b o q n ts[q] x c (.slice (some ⟨b, o, none⟩) ts.length cap)) := Hid.intro (fun q hq => by
            obtain ⟨s1, c1, v1⟩ := e1 q hq
            obtain ⟨x1, n1, rfl, -, -⟩ := v1.form
            refine ⟨x1, n1, fun wx hb => ⟨?_, c1.below (below_bE hb), Vs.below (below_bE hb) _ _ _ v1⟩⟩
            have := hb.cell (p := ⟨w.heap.size, 0, none⟩) (Nat.lt_succ_self _)
            simpa using this)
          have HTB : Hid (∀ wx, Below (w.heap.size + 1) (w.alloc (.cells #[.slice (some ⟨b, o, none⟩) ts.length cap] 24)) wx → Tb wx) := Hid.intro (fun wx hb => hT.on (below_bE hb))
          obtain ⟨x1, n1, vk⟩ := VA.out k hlt
          have HWo := Hid.intro hbw.out
          have HVK0 := Hid.intro vk
          obtain ⟨p1, p2, p3, p4, p5⟩ := (vk wr hbw.out).cel
          have hlb : b < wr.heap.size := cell_lt p1
          have HCP := Hid.intro (copy_any n ts[k] _ wr (vk wr hbw.out).vs (HZ.out _ (List.getElem_mem hlt)).2)
          have HZK := Hid.intro (HZ.out _ (List.getElem_mem hlt)).1
          have ik0 : (0 : Int) ≤ (k : Int) := by omega
          have ik1 : (k : Int) < (ts.length : Int) := by omega
          have ik2 : (k : Int) < 10 := by omega
          clear e1 vk
          generalize ts[k] = t1 at *
          go_wp2_with fail
          refine HCP.out.mono ?_
          rintro e w2 ⟨hb2, s2, rfl, hv2⟩
          obtain ⟨xa, xc, rfl, -, -⟩ := hv2.vs.form
          have HV2 := Hid.intro hv2.vs
          have HW2 : Hid (Below (w.heap.size + 1) (w.alloc (.cells #[.slice (some ⟨b, o, none⟩) ts.length cap] 24)) w2) := Hid.intro (HWo.out.trans (hb2.mono HWo.out.size1))
          clear hb2 hv2 HCP p1 p2 p3 p4 p5 hbox
          unfold vv
          go_wp2_with fail
          have HA : Hid (∀ wx, Below (w2.alloc (.cells #[.int .i64 t1.k, .bool t1.b, .int .i64 t1.i, .string t1.s, .slice xa t1.l.length xc] 28)).heap.size (w2.alloc (.cells #[.int .i64 t1.k, .bool t1.b, .int .i64 t1.i, .string t1.s, .slice xa t1.l.length xc] 28)) wx → Cel wx w2.heap.size 0 t1 (.slice xa t1.l.length xc) ∧ Vs wx n t1 (.slice xa t1.l.length xc)) := Hid.intro (fun wx hb => by
            have h0 := fun j => hb.cell (p := ⟨w2.heap.size, j, none⟩) (by simp)
            refine ⟨?_, Vs.below (((Below.refl w2.heap.size w2).alloc (Nat.le_refl _) _).trans (hb.mono (by simp))) _ _ _ HV2.out⟩
            unfold Cel
            simp only [h0]
            simp [go_sem])
          have HWA : Hid (Below (w.heap.size + 1) (w.alloc (.cells #[.slice (some ⟨b, o, none⟩) ts.length cap] 24)) (w2.alloc (.cells #[.int .i64 t1.k, .bool t1.b, .int .i64 t1.i, .string t1.s, .slice xa t1.l.length xc] 28))) := Hid.intro (HW2.out.trans ((Below.refl _ _).alloc HW2.out.size1 _))
          have hAlt : w2.heap.size < (w2.alloc (.cells #[.int .i64 t1.k, .bool t1.b, .int .i64 t1.i, .string t1.s, .slice xa t1.l.length xc] 28)).heap.size := by simp
          have hlA : w.heap.size < w2.heap.size := HW2.out.size1
          clear HW2 HV2
          generalize w2.alloc (.cells #[.int .i64 t1.k, .bool t1.b, .int .i64 t1.i, .string t1.s, .slice xa t1.l.length xc] 28) = WA at HA HWA hAlt ⊢
          generalize w2.heap.size = A at HA hAlt hlA ⊢
          have VK := Hid.intro (fun wx (hb : Below WA.heap.size WA wx) => HVK0.out wx (HWA.out.trans (hb.mono HWA.out.size1)))
          have HTX := Hid.intro (fun wx (hb : Below WA.heap.size WA wx) => HTB.out wx (HWA.out.trans (hb.mono HWA.out.size1)))
          have HC1 := Hid.intro (fun wx (hb : Below WA.heap.size WA wx) => check_any n t1 _ wx (HA.out wx hb).2)
          have HC2 := Hid.intro (fun wx (hb : Below WA.heap.size WA wx) => rcheck_any n t1 _ wx (VK.out wx hb).vs)
          have HT1 := Hid.intro (fun wx (hb : Below WA.heap.size WA wx) => Text_any n t1 _ wx (HA.out wx hb).2 (HTX.out wx hb) (fun _ => Nat.le_trans HZK.out (by decide)))
          have HT2 := Hid.intro (fun wx (hb : Below WA.heap.size WA wx) => rtext_any n t1 _ wx (VK.out wx hb).vs (fun _ => HZK.out))
          generalize fit 30 t1 = F at HC1 HC2
          generalize tS n t1 = T at HT1 HT2
          refine wp_region_noPanic ?_
          refine wp_region_held_drew (S := fun w' => Below WA.heap.size WA w') hmo (Below.refl _ _).drew (fun hS => ?_)
          refine take_x 0 27 (.agg #[.int .i64 t1.k, .bool t1.b, .int .i64 t1.i, .string t1.s, .slice xa t1.l.length xc]) ⟨_, rfl, rfl, Or.inl ⟨by rfl, fun wx hSw => by obtain ⟨r1, r2, r3, r4, r5⟩ := (HA.out wx hSw).1; go_simp⟩⟩ (by kernel_rfl) (by kernel_rfl) (by kernel_rfl) (fun _ _ _ h => h) hS ?_
          simp only [List.setIfInBounds_toArray, List.set_cons_succ, List.set_cons_zero]
          refine take_x 2 29 (.pointer (some ⟨w.heap.size, 0, none⟩)) ⟨_, rfl, rfl, Or.inl ⟨by rfl, fun wx hSw => by go_simp⟩⟩ (by kernel_rfl) (by kernel_rfl) (by kernel_rfl) (fun _ _ _ h => h) hS ?_
          simp only [List.setIfInBounds_toArray, List.set_cons_succ, List.set_cons_zero]
          refine take_x 3 30 (.slice (some ⟨b, o, none⟩) ts.length cap) ⟨_, rfl, rfl, Or.inl ⟨by rfl, fun wx hSw => by have hc := (VK.out wx hSw).box; go_simp⟩⟩ (by kernel_rfl) (by kernel_rfl) (by kernel_rfl) (fun _ _ _ h => h) hS ?_
          simp only [List.setIfInBounds_toArray, List.set_cons_succ, List.set_cons_zero]
          refine take_x 4 31 (.int .i64 (k : Int)) ⟨_, rfl, rfl, Or.inl ⟨by rfl, fun wx hSw => by go_simp⟩⟩ (by kernel_rfl) (by kernel_rfl) (by kernel_rfl) (fun _ _ _ h => h) hS ?_
          simp only [List.setIfInBounds_toArray, List.set_cons_succ, List.set_cons_zero]
          refine take_x 5 32 (.pointer (some ⟨b, o + k * 5, none⟩)) ⟨_, rfl, rfl, Or.inl ⟨by rfl, fun wx hSw => by go_simp⟩⟩ (by kernel_rfl) (by kernel_rfl) (by kernel_rfl) (fun _ _ _ h => h) hS ?_
          simp only [List.setIfInBounds_toArray, List.set_cons_succ, List.set_cons_zero]
          refine take_x 6 33 (.agg #[.int .i64 t1.k, .bool t1.b, .int .i64 t1.i, .string t1.s, .slice x1 t1.l.length n1]) ⟨_, rfl, rfl, Or.inl ⟨by rfl, fun wx hSw => by obtain ⟨r1, r2, r3, r4, r5⟩ := (VK.out wx hSw).cel; go_simp⟩⟩ (by kernel_rfl) (by kernel_rfl) (by kernel_rfl) (fun _ _ _ h => h) hS ?_
          simp only [List.setIfInBounds_toArray, List.set_cons_succ, List.set_cons_zero]
          refine wpAnyH_ready (rs := [1]) (by kernel_rfl) (by simp) ?_
          refine AllReadyH.cons rfl (fun K' hK => ?_) AllReadyH.nil
          go_simp
          refine (HC1.out _ hS).mono ?_
          rintro e w11 ⟨rfl, hc11⟩
          have D11 := hS.trans (hc11.mono hS.size)
          refine hK.out _ _ D11 (fun hS => ?_)
          clear hK K'
          (try simp only [Act.put, List.setIfInBounds_toArray, List.set_cons_succ, List.set_cons_zero])
          refine wpAnyH_ready (rs := [7]) (by kernel_rfl) (by simp) ?_
          refine AllReadyH.cons rfl (fun K' hK => ?_) AllReadyH.nil
          go_simp
          refine (HC2.out _ hS).mono ?_
          rintro e w12 ⟨rfl, hc12⟩
          have D12 := hS.trans (hc12.mono hS.size)
          refine hK.out _ _ D12 (fun hS => ?_)
          clear hK K'
          (try simp only [Act.put, List.setIfInBounds_toArray, List.set_cons_succ, List.set_cons_zero])
          refine take_x 8 35 (.bool false) ⟨_, rfl, rfl, Or.inl ⟨by rfl, fun wx hSw => by go_simp⟩⟩ (by kernel_rfl) (by kernel_rfl) (by kernel_rfl) (fun _ _ _ h => h) hS ?_
          simp only [List.setIfInBounds_toArray, List.set_cons_succ, List.set_cons_zero]
          refine take_x 9 36 (.bool false) ⟨_, rfl, rfl, Or.inl ⟨by rfl, fun wx hSw => by go_simp⟩⟩ (by kernel_rfl) (by kernel_rfl) (by kernel_rfl) (fun _ _ _ h => h) hS ?_
          simp only [List.setIfInBounds_toArray, List.set_cons_succ, List.set_cons_zero]
          refine take_x 10 37 (.agg #[.int .i64 t1.k, .bool t1.b, .int .i64 t1.i, .string t1.s, .slice xa t1.l.length xc]) ⟨_, rfl, rfl, Or.inl ⟨by rfl, fun wx hSw => by obtain ⟨r1, r2, r3, r4, r5⟩ := (HA.out wx hSw).1; go_simp⟩⟩ (by kernel_rfl) (by kernel_rfl) (by kernel_rfl) (fun _ _ _ h => h) hS ?_
          simp only [List.setIfInBounds_toArray, List.set_cons_succ, List.set_cons_zero]
          refine take_x 12 39 (.pointer (some ⟨w.heap.size, 0, none⟩)) ⟨_, rfl, rfl, Or.inl ⟨by rfl, fun wx hSw => by go_simp⟩⟩ (by kernel_rfl) (by kernel_rfl) (by kernel_rfl) (fun _ _ _ h => h) hS ?_
          simp only [List.setIfInBounds_toArray, List.set_cons_succ, List.set_cons_zero]
          refine take_x 13 40 (.slice (some ⟨b, o, none⟩) ts.length cap) ⟨_, rfl, rfl, Or.inl ⟨by rfl, fun wx hSw => by have hc := (VK.out wx hSw).box; go_simp⟩⟩ (by kernel_rfl) (by kernel_rfl) (by kernel_rfl) (fun _ _ _ h => h) hS ?_
          simp only [List.setIfInBounds_toArray, List.set_cons_succ, List.set_cons_zero]
          refine take_x 14 41 (.int .i64 (k : Int)) ⟨_, rfl, rfl, Or.inl ⟨by rfl, fun wx hSw => by go_simp⟩⟩ (by kernel_rfl) (by kernel_rfl) (by kernel_rfl) (fun _ _ _ h => h) hS ?_
          simp only [List.setIfInBounds_toArray, List.set_cons_succ, List.set_cons_zero]
          refine take_x 15 42 (.pointer (some ⟨b, o + k * 5, none⟩)) ⟨_, rfl, rfl, Or.inl ⟨by rfl, fun wx hSw => by go_simp⟩⟩ (by kernel_rfl) (by kernel_rfl) (by kernel_rfl) (fun _ _ _ h => h) hS ?_
          simp only [List.setIfInBounds_toArray, List.set_cons_succ, List.set_cons_zero]
          refine take_x 16 43 (.agg #[.int .i64 t1.k, .bool t1.b, .int .i64 t1.i, .string t1.s, .slice x1 t1.l.length n1]) ⟨_, rfl, rfl, Or.inl ⟨by rfl, fun wx hSw => by obtain ⟨r1, r2, r3, r4, r5⟩ := (VK.out wx hSw).cel; go_simp⟩⟩ (by kernel_rfl) (by kernel_rfl) (by kernel_rfl) (fun _ _ _ h => h) hS ?_
          simp only [List.setIfInBounds_toArray, List.set_cons_succ, List.set_cons_zero]
          refine wpAnyH_ready (rs := [11]) (by kernel_rfl) (by simp) ?_
          refine AllReadyH.cons rfl (fun K' hK => ?_) AllReadyH.nil
          go_simp
          refine (HT1.out _ hS).mono ?_
          rintro e w13 ⟨rfl, hc13⟩
          have D13 := hS.trans (hc13.mono hS.size)
          refine hK.out _ _ D13 (fun hS => ?_)
          clear hK K'
          (try simp only [Act.put, List.setIfInBounds_toArray, List.set_cons_succ, List.set_cons_zero])
          refine wpAnyH_ready (rs := [17]) (by kernel_rfl) (by simp) ?_
          refine AllReadyH.cons rfl (fun K' hK => ?_) AllReadyH.nil
          go_simp
          refine (HT2.out _ hS).mono ?_
          rintro e w14 ⟨rfl, hc14⟩
          have D14 := hS.trans (hc14.mono hS.size)
          refine hK.out _ _ D14 (fun hS => ?_)
          clear hK K'
          (try simp only [Act.put, List.setIfInBounds_toArray, List.set_cons_succ, List.set_cons_zero])
          refine take_x 18 45 (.bool false) ⟨_, rfl, rfl, Or.inl ⟨by rfl, fun wx hSw => by go_simp⟩⟩ (by kernel_rfl) (by kernel_rfl) (by kernel_rfl) (fun _ _ _ h => h) hS ?_
          simp only [List.setIfInBounds_toArray, List.set_cons_succ, List.set_cons_zero]
          refine take_x 19 46 (.bool false) ⟨_, rfl, rfl, Or.inl ⟨by rfl, fun wx hSw => by go_simp⟩⟩ (by kernel_rfl) (by kernel_rfl) (by kernel_rfl) (fun _ _ _ h => h) hS ?_
          simp only [List.setIfInBounds_toArray, List.set_cons_succ, List.set_cons_zero]
          refine wpAnyH_done (by kernel_rfl) ?_ _
          refine np_y ?_
          clear HC1 HC2 HT1 HT2 hc11 hc12 hc13 hc14 D11 D12 D13
          have HD := Hid.intro D14
          clear D14 hS
          go_wp2_with fail
          go_loopw [5] (fun i wr => ∃ q : Nat, i = .int .i64 (q : Int) ∧ q ≤ 10 ∧ Hid (Below WA.heap.size WA wr)) (fun i _ => 10 - (intOf i).toNat)
          case atStart => exact ⟨0, rfl, by omega, HD⟩
          case round =>
            obtain ⟨q, rfl, hq, hbq⟩ := hrel
            have HWq : Hid (Below (w.heap.size + 1) (w.alloc (.cells #[.slice (some ⟨b, o, none⟩) ts.length cap] 24)) wr) := Hid.intro (HWA.out.trans (hbq.out.mono HWA.out.size1))
            have hbox := HWq.out.cell (p := ⟨w.heap.size, 0, none⟩) (Nat.lt_succ_self _)
            simp at hbox
            have hlw : w.heap.size < wr.heap.size := HWq.out.size1
            by_cases hlq : q < ts.length
            · by_cases hlq2 : q < 10
              · obtain ⟨x2, n2, vq⟩ := VA.out q hlq
                have VQ := Hid.intro (fun wx (hb : Below wr.heap.size wr wx) => vq wx (HWq.out.trans (hb.mono HWq.out.size1)))
                have VK2 := Hid.intro (fun wx (hb : Below wr.heap.size wr wx) => HVK0.out wx (HWq.out.trans (hb.mono HWq.out.size1)))
                have HA2 := Hid.intro (fun wx (hb : Below wr.heap.size wr wx) => HA.out wx (hbq.out.trans (hb.mono hbq.out.size)))
                have HS1 := Hid.intro (fun wx (hb : Below wr.heap.size wr wx) => same_any n t1 ts[q] _ _ wx (HA2.out wx hb).2 (VQ.out wx hb).vs)
                have HS2 := Hid.intro (fun wx (hb : Below wr.heap.size wr wx) => rsame_any n t1 ts[q] _ _ wx (VK2.out wx hb).vs (VQ.out wx hb).vs)
                have HO1 := Hid.intro (fun wx (hb : Below wr.heap.size wr wx) => order_any n t1 ts[q] _ _ wx (HA2.out wx hb).2 (VQ.out wx hb).vs)
                have HO2 := Hid.intro (fun wx (hb : Below wr.heap.size wr wx) => rorder_any n t1 ts[q] _ _ wx (VK2.out wx hb).vs (VQ.out wx hb).vs)
                clear vq
                generalize same n t1 ts[q] = y at HS1 HS2
                generalize ord n t1 ts[q] = z at HO1 HO2
                generalize ts[q] = t2 at *
                have iq0 : (0 : Int) ≤ (q : Int) := by omega
                have iq1 : (q : Int) < (ts.length : Int) := by omega
                have iq2 : (q : Int) < 10 := by omega
                go_wp2_with fail
                refine wp_region_noPanic ?_
                refine wp_region_held_drew (S := fun w' => Below wr.heap.size wr w') hmo (Below.refl _ _).drew (fun hS => ?_)
                refine take_x 0 58 (.agg #[.int .i64 t1.k, .bool t1.b, .int .i64 t1.i, .string t1.s, .slice xa t1.l.length xc]) ⟨_, rfl, rfl, Or.inl ⟨by rfl, fun wx hSw => by obtain ⟨r1, r2, r3, r4, r5⟩ := (HA2.out wx hSw).1; go_simp⟩⟩ (by kernel_rfl) (by kernel_rfl) (by kernel_rfl) (fun _ _ _ h => h) hS ?_
                simp only [List.setIfInBounds_toArray, List.set_cons_succ, List.set_cons_zero]
                refine take_x 1 59 (.pointer (some ⟨w.heap.size, 0, none⟩)) ⟨_, rfl, rfl, Or.inl ⟨by rfl, fun wx hSw => by go_simp⟩⟩ (by kernel_rfl) (by kernel_rfl) (by kernel_rfl) (fun _ _ _ h => h) hS ?_
                simp only [List.setIfInBounds_toArray, List.set_cons_succ, List.set_cons_zero]
                refine take_x 2 60 (.slice (some ⟨b, o, none⟩) ts.length cap) ⟨_, rfl, rfl, Or.inl ⟨by rfl, fun wx hSw => by have hc := (VQ.out wx hSw).box; go_simp⟩⟩ (by kernel_rfl) (by kernel_rfl) (by kernel_rfl) (fun _ _ _ h => h) hS ?_
                simp only [List.setIfInBounds_toArray, List.set_cons_succ, List.set_cons_zero]
                refine take_x 3 61 (.int .i64 (q : Int)) ⟨_, rfl, rfl, Or.inl ⟨by rfl, fun wx hSw => by go_simp⟩⟩ (by kernel_rfl) (by kernel_rfl) (by kernel_rfl) (fun _ _ _ h => h) hS ?_
                simp only [List.setIfInBounds_toArray, List.set_cons_succ, List.set_cons_zero]
                refine take_x 4 62 (.pointer (some ⟨b, o + q * 5, none⟩)) ⟨_, rfl, rfl, Or.inl ⟨by rfl, fun wx hSw => by go_simp⟩⟩ (by kernel_rfl) (by kernel_rfl) (by kernel_rfl) (fun _ _ _ h => h) hS ?_
                simp only [List.setIfInBounds_toArray, List.set_cons_succ, List.set_cons_zero]
                refine take_x 5 63 (.agg #[.int .i64 t2.k, .bool t2.b, .int .i64 t2.i, .string t2.s, .slice x2 t2.l.length n2]) ⟨_, rfl, rfl, Or.inl ⟨by rfl, fun wx hSw => by obtain ⟨r1, r2, r3, r4, r5⟩ := (VQ.out wx hSw).cel; go_simp⟩⟩ (by kernel_rfl) (by kernel_rfl) (by kernel_rfl) (fun _ _ _ h => h) hS ?_
                simp only [List.setIfInBounds_toArray, List.set_cons_succ, List.set_cons_zero]
                refine take_x 7 65 (.pointer (some ⟨w.heap.size, 0, none⟩)) ⟨_, rfl, rfl, Or.inl ⟨by rfl, fun wx hSw => by go_simp⟩⟩ (by kernel_rfl) (by kernel_rfl) (by kernel_rfl) (fun _ _ _ h => h) hS ?_
                simp only [List.setIfInBounds_toArray, List.set_cons_succ, List.set_cons_zero]
                refine take_x 8 66 (.slice (some ⟨b, o, none⟩) ts.length cap) ⟨_, rfl, rfl, Or.inl ⟨by rfl, fun wx hSw => by have hc := (VK2.out wx hSw).box; go_simp⟩⟩ (by kernel_rfl) (by kernel_rfl) (by kernel_rfl) (fun _ _ _ h => h) hS ?_
                simp only [List.setIfInBounds_toArray, List.set_cons_succ, List.set_cons_zero]
                refine take_x 9 67 (.int .i64 (k : Int)) ⟨_, rfl, rfl, Or.inl ⟨by rfl, fun wx hSw => by go_simp⟩⟩ (by kernel_rfl) (by kernel_rfl) (by kernel_rfl) (fun _ _ _ h => h) hS ?_
                simp only [List.setIfInBounds_toArray, List.set_cons_succ, List.set_cons_zero]
                refine take_x 10 68 (.pointer (some ⟨b, o + k * 5, none⟩)) ⟨_, rfl, rfl, Or.inl ⟨by rfl, fun wx hSw => by go_simp⟩⟩ (by kernel_rfl) (by kernel_rfl) (by kernel_rfl) (fun _ _ _ h => h) hS ?_
                simp only [List.setIfInBounds_toArray, List.set_cons_succ, List.set_cons_zero]
                refine take_x 11 69 (.agg #[.int .i64 t1.k, .bool t1.b, .int .i64 t1.i, .string t1.s, .slice x1 t1.l.length n1]) ⟨_, rfl, rfl, Or.inl ⟨by rfl, fun wx hSw => by obtain ⟨r1, r2, r3, r4, r5⟩ := (VK2.out wx hSw).cel; go_simp⟩⟩ (by kernel_rfl) (by kernel_rfl) (by kernel_rfl) (fun _ _ _ h => h) hS ?_
                simp only [List.setIfInBounds_toArray, List.set_cons_succ, List.set_cons_zero]
                refine take_x 12 70 (.pointer (some ⟨w.heap.size, 0, none⟩)) ⟨_, rfl, rfl, Or.inl ⟨by rfl, fun wx hSw => by go_simp⟩⟩ (by kernel_rfl) (by kernel_rfl) (by kernel_rfl) (fun _ _ _ h => h) hS ?_
                simp only [List.setIfInBounds_toArray, List.set_cons_succ, List.set_cons_zero]
                refine take_x 13 71 (.slice (some ⟨b, o, none⟩) ts.length cap) ⟨_, rfl, rfl, Or.inl ⟨by rfl, fun wx hSw => by have hc := (VQ.out wx hSw).box; go_simp⟩⟩ (by kernel_rfl) (by kernel_rfl) (by kernel_rfl) (fun _ _ _ h => h) hS ?_
                simp only [List.setIfInBounds_toArray, List.set_cons_succ, List.set_cons_zero]
                refine take_x 14 72 (.int .i64 (q : Int)) ⟨_, rfl, rfl, Or.inl ⟨by rfl, fun wx hSw => by go_simp⟩⟩ (by kernel_rfl) (by kernel_rfl) (by kernel_rfl) (fun _ _ _ h => h) hS ?_
                simp only [List.setIfInBounds_toArray, List.set_cons_succ, List.set_cons_zero]
                refine take_x 15 73 (.pointer (some ⟨b, o + q * 5, none⟩)) ⟨_, rfl, rfl, Or.inl ⟨by rfl, fun wx hSw => by go_simp⟩⟩ (by kernel_rfl) (by kernel_rfl) (by kernel_rfl) (fun _ _ _ h => h) hS ?_
                simp only [List.setIfInBounds_toArray, List.set_cons_succ, List.set_cons_zero]
                refine take_x 16 74 (.agg #[.int .i64 t2.k, .bool t2.b, .int .i64 t2.i, .string t2.s, .slice x2 t2.l.length n2]) ⟨_, rfl, rfl, Or.inl ⟨by rfl, fun wx hSw => by obtain ⟨r1, r2, r3, r4, r5⟩ := (VQ.out wx hSw).cel; go_simp⟩⟩ (by kernel_rfl) (by kernel_rfl) (by kernel_rfl) (fun _ _ _ h => h) hS ?_
                simp only [List.setIfInBounds_toArray, List.set_cons_succ, List.set_cons_zero]
                refine wpAnyH_ready (rs := [6]) (by kernel_rfl) (by simp) ?_
                refine AllReadyH.cons rfl (fun K' hK => ?_) AllReadyH.nil
                go_simp
                refine (HS1.out _ hS).mono ?_
                rintro e w21 ⟨rfl, hc21⟩
                have D21 := hS.trans (hc21.mono hS.size)
                refine hK.out _ _ D21 (fun hS => ?_)
                clear hK K'
                (try simp only [Act.put, List.setIfInBounds_toArray, List.set_cons_succ, List.set_cons_zero])
                refine wpAnyH_ready (rs := [17]) (by kernel_rfl) (by simp) ?_
                refine AllReadyH.cons rfl (fun K' hK => ?_) AllReadyH.nil
                go_simp
                refine (HS2.out _ hS).mono ?_
                rintro e w22 ⟨rfl, hc22⟩
                have D22 := hS.trans (hc22.mono hS.size)
                refine hK.out _ _ D22 (fun hS => ?_)
                clear hK K'
                (try simp only [Act.put, List.setIfInBounds_toArray, List.set_cons_succ, List.set_cons_zero])
                refine take_x 18 76 (.bool false) ⟨_, rfl, rfl, Or.inl ⟨by rfl, fun wx hSw => by go_simp⟩⟩ (by kernel_rfl) (by kernel_rfl) (by kernel_rfl) (fun _ _ _ h => h) hS ?_
                simp only [List.setIfInBounds_toArray, List.set_cons_succ, List.set_cons_zero]
                refine take_x 19 77 (.bool false) ⟨_, rfl, rfl, Or.inl ⟨by rfl, fun wx hSw => by go_simp⟩⟩ (by kernel_rfl) (by kernel_rfl) (by kernel_rfl) (fun _ _ _ h => h) hS ?_
                simp only [List.setIfInBounds_toArray, List.set_cons_succ, List.set_cons_zero]
                refine take_x 20 78 (.agg #[.int .i64 t1.k, .bool t1.b, .int .i64 t1.i, .string t1.s, .slice xa t1.l.length xc]) ⟨_, rfl, rfl, Or.inl ⟨by rfl, fun wx hSw => by obtain ⟨r1, r2, r3, r4, r5⟩ := (HA2.out wx hSw).1; go_simp⟩⟩ (by kernel_rfl) (by kernel_rfl) (by kernel_rfl) (fun _ _ _ h => h) hS ?_
                simp only [List.setIfInBounds_toArray, List.set_cons_succ, List.set_cons_zero]
                refine take_x 21 79 (.pointer (some ⟨w.heap.size, 0, none⟩)) ⟨_, rfl, rfl, Or.inl ⟨by rfl, fun wx hSw => by go_simp⟩⟩ (by kernel_rfl) (by kernel_rfl) (by kernel_rfl) (fun _ _ _ h => h) hS ?_
                simp only [List.setIfInBounds_toArray, List.set_cons_succ, List.set_cons_zero]
                refine take_x 22 80 (.slice (some ⟨b, o, none⟩) ts.length cap) ⟨_, rfl, rfl, Or.inl ⟨by rfl, fun wx hSw => by have hc := (VQ.out wx hSw).box; go_simp⟩⟩ (by kernel_rfl) (by kernel_rfl) (by kernel_rfl) (fun _ _ _ h => h) hS ?_
                simp only [List.setIfInBounds_toArray, List.set_cons_succ, List.set_cons_zero]
                refine take_x 23 81 (.int .i64 (q : Int)) ⟨_, rfl, rfl, Or.inl ⟨by rfl, fun wx hSw => by go_simp⟩⟩ (by kernel_rfl) (by kernel_rfl) (by kernel_rfl) (fun _ _ _ h => h) hS ?_
                simp only [List.setIfInBounds_toArray, List.set_cons_succ, List.set_cons_zero]
                refine take_x 24 82 (.pointer (some ⟨b, o + q * 5, none⟩)) ⟨_, rfl, rfl, Or.inl ⟨by rfl, fun wx hSw => by go_simp⟩⟩ (by kernel_rfl) (by kernel_rfl) (by kernel_rfl) (fun _ _ _ h => h) hS ?_
                simp only [List.setIfInBounds_toArray, List.set_cons_succ, List.set_cons_zero]
                refine take_x 25 83 (.agg #[.int .i64 t2.k, .bool t2.b, .int .i64 t2.i, .string t2.s, .slice x2 t2.l.length n2]) ⟨_, rfl, rfl, Or.inl ⟨by rfl, fun wx hSw => by obtain ⟨r1, r2, r3, r4, r5⟩ := (VQ.out wx hSw).cel; go_simp⟩⟩ (by kernel_rfl) (by kernel_rfl) (by kernel_rfl) (fun _ _ _ h => h) hS ?_
                simp only [List.setIfInBounds_toArray, List.set_cons_succ, List.set_cons_zero]
                refine take_x 27 85 (.pointer (some ⟨w.heap.size, 0, none⟩)) ⟨_, rfl, rfl, Or.inl ⟨by rfl, fun wx hSw => by go_simp⟩⟩ (by kernel_rfl) (by kernel_rfl) (by kernel_rfl) (fun _ _ _ h => h) hS ?_
                simp only [List.setIfInBounds_toArray, List.set_cons_succ, List.set_cons_zero]
                refine take_x 28 86 (.slice (some ⟨b, o, none⟩) ts.length cap) ⟨_, rfl, rfl, Or.inl ⟨by rfl, fun wx hSw => by have hc := (VK2.out wx hSw).box; go_simp⟩⟩ (by kernel_rfl) (by kernel_rfl) (by kernel_rfl) (fun _ _ _ h => h) hS ?_
                simp only [List.setIfInBounds_toArray, List.set_cons_succ, List.set_cons_zero]
                refine take_x 29 87 (.int .i64 (k : Int)) ⟨_, rfl, rfl, Or.inl ⟨by rfl, fun wx hSw => by go_simp⟩⟩ (by kernel_rfl) (by kernel_rfl) (by kernel_rfl) (fun _ _ _ h => h) hS ?_
                simp only [List.setIfInBounds_toArray, List.set_cons_succ, List.set_cons_zero]
                refine take_x 30 88 (.pointer (some ⟨b, o + k * 5, none⟩)) ⟨_, rfl, rfl, Or.inl ⟨by rfl, fun wx hSw => by go_simp⟩⟩ (by kernel_rfl) (by kernel_rfl) (by kernel_rfl) (fun _ _ _ h => h) hS ?_
                simp only [List.setIfInBounds_toArray, List.set_cons_succ, List.set_cons_zero]
                refine take_x 31 89 (.agg #[.int .i64 t1.k, .bool t1.b, .int .i64 t1.i, .string t1.s, .slice x1 t1.l.length n1]) ⟨_, rfl, rfl, Or.inl ⟨by rfl, fun wx hSw => by obtain ⟨r1, r2, r3, r4, r5⟩ := (VK2.out wx hSw).cel; go_simp⟩⟩ (by kernel_rfl) (by kernel_rfl) (by kernel_rfl) (fun _ _ _ h => h) hS ?_
                simp only [List.setIfInBounds_toArray, List.set_cons_succ, List.set_cons_zero]
                refine take_x 32 90 (.pointer (some ⟨w.heap.size, 0, none⟩)) ⟨_, rfl, rfl, Or.inl ⟨by rfl, fun wx hSw => by go_simp⟩⟩ (by kernel_rfl) (by kernel_rfl) (by kernel_rfl) (fun _ _ _ h => h) hS ?_
                simp only [List.setIfInBounds_toArray, List.set_cons_succ, List.set_cons_zero]
                refine take_x 33 91 (.slice (some ⟨b, o, none⟩) ts.length cap) ⟨_, rfl, rfl, Or.inl ⟨by rfl, fun wx hSw => by have hc := (VQ.out wx hSw).box; go_simp⟩⟩ (by kernel_rfl) (by kernel_rfl) (by kernel_rfl) (fun _ _ _ h => h) hS ?_
                simp only [List.setIfInBounds_toArray, List.set_cons_succ, List.set_cons_zero]
                refine take_x 34 92 (.int .i64 (q : Int)) ⟨_, rfl, rfl, Or.inl ⟨by rfl, fun wx hSw => by go_simp⟩⟩ (by kernel_rfl) (by kernel_rfl) (by kernel_rfl) (fun _ _ _ h => h) hS ?_
                simp only [List.setIfInBounds_toArray, List.set_cons_succ, List.set_cons_zero]
                refine take_x 35 93 (.pointer (some ⟨b, o + q * 5, none⟩)) ⟨_, rfl, rfl, Or.inl ⟨by rfl, fun wx hSw => by go_simp⟩⟩ (by kernel_rfl) (by kernel_rfl) (by kernel_rfl) (fun _ _ _ h => h) hS ?_
                simp only [List.setIfInBounds_toArray, List.set_cons_succ, List.set_cons_zero]
                refine take_x 36 94 (.agg #[.int .i64 t2.k, .bool t2.b, .int .i64 t2.i, .string t2.s, .slice x2 t2.l.length n2]) ⟨_, rfl, rfl, Or.inl ⟨by rfl, fun wx hSw => by obtain ⟨r1, r2, r3, r4, r5⟩ := (VQ.out wx hSw).cel; go_simp⟩⟩ (by kernel_rfl) (by kernel_rfl) (by kernel_rfl) (fun _ _ _ h => h) hS ?_
                simp only [List.setIfInBounds_toArray, List.set_cons_succ, List.set_cons_zero]
                refine wpAnyH_ready (rs := [26]) (by kernel_rfl) (by simp) ?_
                refine AllReadyH.cons rfl (fun K' hK => ?_) AllReadyH.nil
                go_simp
                refine (HO1.out _ hS).mono ?_
                rintro e w23 ⟨rfl, hc23⟩
                have D23 := hS.trans (hc23.mono hS.size)
                refine hK.out _ _ D23 (fun hS => ?_)
                clear hK K'
                (try simp only [Act.put, List.setIfInBounds_toArray, List.set_cons_succ, List.set_cons_zero])
                refine wpAnyH_ready (rs := [37]) (by kernel_rfl) (by simp) ?_
                refine AllReadyH.cons rfl (fun K' hK => ?_) AllReadyH.nil
                go_simp
                refine (HO2.out _ hS).mono ?_
                rintro e w24 ⟨rfl, hc24⟩
                have D24 := hS.trans (hc24.mono hS.size)
                refine hK.out _ _ D24 (fun hS => ?_)
                clear hK K'
                (try simp only [Act.put, List.setIfInBounds_toArray, List.set_cons_succ, List.set_cons_zero])
                refine take_x 38 96 (.bool false) ⟨_, rfl, rfl, Or.inl ⟨by rfl, fun wx hSw => by go_simp⟩⟩ (by kernel_rfl) (by kernel_rfl) (by kernel_rfl) (fun _ _ _ h => h) hS ?_
                simp only [List.setIfInBounds_toArray, List.set_cons_succ, List.set_cons_zero]
                refine take_x 39 97 (.bool false) ⟨_, rfl, rfl, Or.inl ⟨by rfl, fun wx hSw => by go_simp⟩⟩ (by kernel_rfl) (by kernel_rfl) (by kernel_rfl) (fun _ _ _ h => h) hS ?_
                simp only [List.setIfInBounds_toArray, List.set_cons_succ, List.set_cons_zero]
                refine wpAnyH_done (by kernel_rfl) ?_ _
                refine np_y ?_
                go_wp2_with fail
                go_roundw
                case rel => exact ⟨q + 1, by go_num, by omega, Hid.intro (hbq.out.trans (D24.mono hbq.out.size))⟩
                case measure => simp [intOf]; omega
              · go_wp2_with fail
                go_roundw
                case rel => exact ⟨k + 1, by go_num, by omega, HWq⟩
                case measure => simp [intOf]; omega
            · go_wp2_with fail
              go_roundw
              case rel => exact ⟨k + 1, by go_num, by omega, HWq⟩
              case measure => simp [intOf]; omega
        · go_wp2_with fail
          refine (wakes_any _).mono ?_
          rintro e w2 ⟨rfl, hb2⟩
          go_wp2_with fail
          go_ret
          exact ⟨rfl, hb2.via (below_bE hbw.out)⟩
      · go_wp2_with fail
        refine (wakes_any _).mono ?_
        rintro e w2 ⟨rfl, hb2⟩
        go_wp2_with fail
        go_ret
        exact ⟨rfl, hb2.via (below_bE hbw.out)⟩
end Go.Proofs.YtciibcfmlhbnkaaGreatDoor
