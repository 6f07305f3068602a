/- proctorlaw1.ValueLists: it tells true. -/
import Derived.Test.YtlgnhndeeglgfaaDoorOne
import Derived.Test.YtlgnhndeeglgfaaDoorRSame
import Derived.Test.YtlgnhndeeglgfaaDoorRead
import Derived.Test.YtlgnhndeeglgfaaDoorSize
import Derived.Test.YtlgnhndeeglgfaaDoorWakes
import Derived.Deep.DeepCutAuto
namespace Go.Proofs.YtlgnhndeeglgfaaDoor
open Go.RowKit

theorem below_bx {w w' : World} {o : Obj} (h : Below (w.heap.size + 1) (w.alloc o) w') : Below w.heap.size w w' :=
  ((Below.refl _ _).alloc (Nat.le_refl _) o).trans (h.mono (Nat.le_succ _))

theorem Lv.take {w : World} {R : Tr → Value → Prop} {ts : List Tr} {b o cap : Nat} (k : Nat) (hk : k ≤ ts.length) (h : Lv w R ts (.slice (some ⟨b, o, none⟩) ts.length cap)) : Lv w R (ts.take k) (.slice (some ⟨b, o, none⟩) (ts.take k).length cap) := by
  obtain ⟨a0, c, h1, h2, h3, h4⟩ := h
  simp only [Value.slice.injEq, true_and] at h1
  obtain ⟨rfl, rfl⟩ := h1
  refine ⟨_, _, rfl, by rw [List.length_take]; omega, h3, fun h0 => ⟨b, o, rfl, fun j hj => ?_⟩⟩
  rw [List.length_take] at h0 hj
  obtain ⟨b', o', e, h5⟩ := h4 (by omega)
  simp only [Option.some.injEq, Addr.mk.injEq, and_true] at e
  obtain ⟨rfl, rfl⟩ := e
  obtain ⟨sv', h6, h7⟩ := h5 j (by omega)
  rw [List.getElem_take]
  exact ⟨sv', h6, h7⟩

theorem Lv.drop {w : World} {R : Tr → Value → Prop} {ts : List Tr} {b o cap : Nat} (k : Nat) (hk : k ≤ ts.length) (h : Lv w R ts (.slice (some ⟨b, o, none⟩) ts.length cap)) : Lv w R (ts.drop k) (.slice (some ⟨b, o + k * 5, none⟩) (ts.drop k).length (cap - k)) := by
  obtain ⟨a0, c, h1, h2, h3, h4⟩ := h
  simp only [Value.slice.injEq, true_and] at h1
  obtain ⟨rfl, rfl⟩ := h1
  refine ⟨_, _, rfl, by rw [List.length_drop]; omega, by omega, fun h0 => ⟨b, o + k * 5, rfl, fun j hj => ?_⟩⟩
  rw [List.length_drop] at h0 hj
  obtain ⟨b', o', e, h5⟩ := h4 (by omega)
  simp only [Option.some.injEq, Addr.mk.injEq, and_true] at e
  obtain ⟨rfl, rfl⟩ := e
  obtain ⟨sv', h6, h7⟩ := h5 (k + j) (by omega)
  rw [List.getElem_drop]
  refine ⟨sv', ?_, h7⟩
  have : o + k * 5 + j * 5 = o + (k + j) * 5 := by omega
  rw [this]; exact h6

theorem two_lv {w : World} {g m : Nat} {t1 t2 : Tr} {s1 s2 : Value} (h1 : Cel w g 0 t1 s1) (h2 : Cel w g 5 t2 s2) (v1 : Vs w m t1 s1) (v2 : Vs w m t2 s2) : Lv w (Vs w m) [t1, t2] (.slice (some ⟨g, 0, none⟩) 2 2) := by
  refine ⟨some ⟨g, 0, none⟩, 2, rfl, Nat.le_refl _, by unfold maxLen; omega, fun _ => ⟨g, 0, rfl, fun j hj => ?_⟩⟩
  match j, hj with
  | 0, _ => exact ⟨_, h1, v1⟩
  | 1, _ => exact ⟨_, h2, v2⟩

theorem one_lv {w : World} {g m : Nat} {t1 : Tr} {s1 : Value} (h1 : Cel w g 0 t1 s1) (v1 : Vs w m t1 s1) : Lv w (Vs w m) [t1] (.slice (some ⟨g, 0, none⟩) 1 1) := by
  refine ⟨some ⟨g, 0, none⟩, 1, rfl, Nat.le_refl _, by unfold maxLen; omega, fun _ => ⟨g, 0, rfl, fun j hj => ?_⟩⟩
  match j, hj with
  | 0, _ => exact ⟨_, h1, v1⟩

theorem fit_up : ∀ (r : Nat) (t : Tr), fit r t = true → fit (r + 1) t = true
  | 0, t, h => by
    rw [fit] at h
    rw [fit]
    split
    · next h4 => simp [flat, h4] at h
    · exact h
  | r + 1, t, h => by
    rw [fit] at h
    rw [fit]
    split at h
    · next h4 =>
      rw [if_pos h4]
      simp only [Bool.and_eq_true, List.all_eq_true] at h ⊢
      exact ⟨⟨⟨⟨h.1.1.1.1, fun x hx => fit_up r x (h.1.1.1.2 x hx)⟩, h.1.1.2⟩, h.1.2⟩, h.2⟩
    · next h4 => rw [if_neg h4]; exact h

/-- A list as a value. -/
def lst (ts : List Tr) : Tr := ⟨4, false, 0, ⟨#[]⟩, ts⟩

theorem lst_vs {w : World} {n : Nat} {ts : List Tr} {sv : Value} (h : Lv w (Vs w n) ts sv) : Vs w (n + 1) (lst ts) sv :=
  ⟨⟨by simp [lst], by simp [lst], by simp [lst], by simp [lst], by simp [lst, maxLen, ByteArray.size]⟩, h⟩

theorem fit_lst (ts : List Tr) (r : Nat) : fit (r + 1) (lst ts) = (decide (ts.length ≤ 4096) && ts.all (fit r)) := by
  rw [fit, if_pos (show (lst ts).k = 4 from rfl)]; simp [lst]; rfl

set_option maxRecDepth 20000 in
set_option maxHeartbeats 4000000 in
theorem valueLists_walk (n : Nat) (ts : List Tr) (sv : Value) (w : World) (h : Lv w (Vs w n) ts sv) :
    Calls Tryd.prog 7 #[.agg #[sv]] w fun e w' => e = .returned (.bool true) ∧ Below w.heap.size w w' := by
  have HL := Hid.intro (fun w' hb => light_any n ts sv w' (h.mono hb (fun t v => Vs.below hb n t v)))
  have HV := Hid.intro h
  obtain ⟨a0, cap, rfl, h2, h3⟩ := h.form
  clear h
  go_enter Tryd.func7, Tryd.ntmps7
  go_wp2_with fail
  refine (HL.out _ ((Below.refl _ _).alloc (Nat.le_refl _) _)).mono ?_
  rintro e w1 ⟨⟨bl, rfl⟩, hb1⟩
  have HB1 := Hid.intro (hb1.mono (B' := w.heap.size + 1) (by simp))
  clear hb1
  have hbox1 := HB1.out.cell (p := ⟨w.heap.size, 0, none⟩) (Nat.lt_succ_self _)
  simp at hbox1
  cases bl
  · go_wp2_with (go_at_call 10; refine (wakes_any _).mono ?_; rintro e w2 ⟨rfl, hb2⟩)
    go_ret
    exact ⟨rfl, hb2.via (below_bx HB1.out)⟩
  by_cases hml : (ts.length : Int) > 4096
  · go_wp2_with (go_at_call 10; refine (wakes_any _).mono ?_; rintro e w2 ⟨rfl, hb2⟩)
    go_ret
    exact ⟨rfl, hb2.via (below_bx HB1.out)⟩
  · go_wp2
    go_loopw [3] (fun i w' => ∃ k : Nat, k ≤ 9 ∧ i = .int .i64 ((k : Int) + 1) ∧ Hid (Below (w.heap.size + 1) (w.alloc (.cells #[.slice a0 ts.length cap] 24)) w')) (fun i _ => 11 - (intOf i).toNat)
    case atStart => exact ⟨0, by omega, rfl, HB1⟩
    case round =>
      obtain ⟨k, hk, rfl, hbw⟩ := hrel
      have hbox := hbw.out.cell (p := ⟨w.heap.size, 0, none⟩) (Nat.lt_succ_self _)
      simp at hbox
      have hlw : w.heap.size < wr.heap.size := by have := hbw.out.size; simp at this; omega
      by_cases hlt : k + 1 < ts.length
      · by_cases hlt2 : k + 1 < 10
        · have hbx := below_bx hbw.out
          have V0 := HV.out.mono hbx (fun t v => Vs.below hbx n t v)
          obtain ⟨b, o, rfl⟩ : ∃ b o, a0 = some ⟨b, o, none⟩ := by
            obtain ⟨a1, c1, h1, -, -, h4⟩ := HV.out
            simp only [Value.slice.injEq, true_and] at h1
            obtain ⟨rfl, rfl⟩ := h1
            obtain ⟨b, o, e, _⟩ := h4 (by omega)
            exact ⟨b, o, e⟩
          have VA := Hid.intro (V0.take (k + 1) (by omega))
          have VB := Hid.intro (V0.drop (k + 1) (by omega))
          have hla : (ts.take (k + 1)).length = k + 1 := by rw [List.length_take]; omega
          have hlb : (ts.drop (k + 1)).length = ts.length - (k + 1) := List.length_drop
          rw [hla] at VA
          rw [hlb] at VB
          have VT := Hid.intro V0
          clear V0
          have i0 : (0 : Int) ≤ (k : Int) + 1 := by omega
          have i1 : (k : Int) + 1 < (ts.length : Int) := by omega
          have i2 : (k : Int) + 1 < 10 := by omega
          have i3 : (k : Int) + 1 ≤ (ts.length : Int) := by omega
          have i4 : (k : Int) + 1 ≤ (cap : Int) := by omega
          have i5 : ((k : Int) + 1).toNat = k + 1 := by omega
          have htv : Hid (ts.take (k + 1) ++ ts.drop (k + 1) = ts) := List.take_append_drop _ _
          have hlab : Hid ((ts.take (k + 1)).length + (ts.drop (k + 1)).length ≤ 4096) := by rw [hla, hlb]; show _ ≤ _; omega
          have hl4 : ts.length ≤ 4096 := by omega
          have HTK : Hid (∀ t ∈ ts, t ∈ ts.take (k + 1) ∨ t ∈ ts.drop (k + 1)) := by
            intro t ht
            rw [← htv.out] at ht
            exact List.mem_append.1 ht
          generalize ts.take (k + 1) = us at *
          generalize ts.drop (k + 1) = vs at *
          have CA := Hid.intro (fun w' (hb : Below wr.heap.size wr w') => check_any (n + 1) (lst us) _ w' (lst_vs (VA.out.mono hb (fun t v => Vs.below hb n t v))))
          have CB := Hid.intro (fun w' (hb : Below wr.heap.size wr w') => check_any (n + 1) (lst vs) _ w' (lst_vs (VB.out.mono hb (fun t v => Vs.below hb n t v))))
          have FA := Hid.intro (fit_lst us 29)
          have FB := Hid.intro (fit_lst vs 29)
          simp only [Nat.reduceAdd] at FA FB
          unfold vv at CA CB
          go_wp2_with fail
          refine (CA.out _ (below2 _ _ _)).mono ?_
          rintro e y1 ⟨rfl, hb1⟩
          have HT1 : Hid (∀ w', Below y1.heap.size y1 w' → Cel w' wr.heap.size 0 (lst us) (.slice (some ⟨b, o, none⟩) (k + 1) cap) ∧ Cel w' (wr.heap.size + 1) 0 (lst vs) (.slice (some ⟨b, o + (k + 1) * 5, none⟩) (ts.length - (k + 1)) (cap - (k + 1))) ∧ w'.cell? ⟨w.heap.size, 0, none⟩ = some (.slice (some ⟨b, o, none⟩) ts.length cap)) := by
            intro w' hb
            have hv := hb.via hb1
            refine ⟨Cel.below (by simp [Cel, go_sem, lst]) hv, Cel.below (by simp [Cel, go_sem, lst]) hv, ?_⟩
            rw [hv.cell (p := ⟨w.heap.size, 0, none⟩) (by simp; omega)]
            simp [go_sem, hbox, hlw]
          have B1 := Hid.intro (hb1.via (below2 _ _ _))
          clear hb1
          obtain ⟨⟨ca0, ca1, ca2, ca3, ca4⟩, ⟨cb0, cb1, cb2, cb3, cb4⟩, cx⟩ := HT1.out _ (Below.refl _ _)
          simp only [lst, Nat.zero_add] at ca0 ca1 ca2 ca3 ca4 cb0 cb1 cb2 cb3 cb4
          have cla := cell_lt ca0
          have clb := cell_lt cb0
          have clx := cell_lt cx
          cases hfa : fit 30 (lst us)
          · go_wp2
            go_roundw
            case rel => exact ⟨k + 1, by omega, by go_num, hbw.out.trans (B1.out.mono hlw)⟩
            case measure => simp [intOf]; omega
          go_wp2_with fail
          refine (CB.out _ B1.out).mono ?_
          rintro e y2 ⟨rfl, hb2⟩
          have HT2 := Hid.intro (fun w' hb => HT1.out w' (Below.via (c := w') hb hb2))
          have B2 := Hid.intro (hb2.via B1.out)
          clear hb2 CA CB
          clear ca0 ca1 ca2 ca3 ca4 cb0 cb1 cb2 cb3 cb4 cx
          obtain ⟨⟨da0, da1, da2, da3, da4⟩, ⟨db0, db1, db2, db3, db4⟩, dx⟩ := HT2.out _ (Below.refl _ _)
          simp only [lst, Nat.zero_add] at da0 da1 da2 da3 da4 db0 db1 db2 db3 db4
          have dla := cell_lt da0
          have dlb := cell_lt db0
          have dlx := cell_lt dx
          cases hfb : fit 30 (lst vs)
          · go_wp2
            go_roundw
            case rel => exact ⟨k + 1, by omega, by go_num, hbw.out.trans (B2.out.mono hlw)⟩
            case measure => simp [intOf]; omega
          have hu29 : Hid (∀ t ∈ us, fit 29 t = true) := by
            have := FA.out
            rw [hfa] at this
            simp at this
            exact this.2
          have hv29 : Hid (∀ t ∈ vs, fit 29 t = true) := by
            have := FB.out
            rw [hfb] at this
            simp at this
            exact this.2
          have hft : fit 30 (lst ts) = true := by
            rw [fit_lst ts 29]
            simp
            exact ⟨hl4, fun t ht => (HTK.out t ht).elim (hu29.out t) (hv29.out t)⟩
          go_wp2_with fail
          have VA2 := Hid.intro (fun w' (hb : Below y2.heap.size y2 w') => lst_vs (VA.out.mono (hb.via B2.out) (fun t v => Vs.below (hb.via B2.out) n t v)))
          have VB2 := Hid.intro (fun w' (hb : Below y2.heap.size y2 w') => lst_vs (VB.out.mono (hb.via B2.out) (fun t v => Vs.below (hb.via B2.out) n t v)))
          refine (apply_addL (n + 1) (lst us) (lst vs) _ _ (two_lv (by simp [Cel, go_sem, lst]) (by simp [Cel, go_sem, lst]) (VA2.out _ (below_al (Below.refl _ _) _)) (VB2.out _ (below_al (Below.refl _ _) _))) hfa hfb 4 false 0 ⟨#[]⟩ ts.length 0 (fun v w' => LvB (y2.heap.size + 2 ≤ ·) w' (VsB (y2.heap.size + 2 ≤ ·) w' n) ts v) ?hS ?HC).mono ?_
          case hS =>
            intro v w1 w2 hk hs
            exact hs.up (fun b hb hb2 o => hk b (by simp; omega) hb2 o) (fun b hb => hb)
          case HC =>
            intro s1 s2 w' v1 v2 hb hsz
            refine (add_lists n 29 _ _ _ _ _ _ us vs s1 s2 w' (v1.2.mono hb (fun t v => Vs.below hb n t v)) (v2.2.mono hb (fun t v => Vs.below hb n t v)) hlab.out hu29.out hv29.out).mono ?_
            rintro e w'' ⟨sv', rfl, L, hb'⟩
            rw [htv.out] at L
            obtain ⟨ra, rc, rfl, -, -⟩ := L.out.form
            refine ⟨ra, rc, rfl, L.out.up (fun _ _ _ _ => rfl) (fun b hb => by simp at hsz; omega), hb'⟩
          rintro e y3 ⟨ra, rc, rfl, SS, hb3⟩
          have B3 := Hid.intro (hb3.via (below_al (Below.refl _ y2) _))
          have VV := Hid.intro (fun w' (hb : Below y3.heap.size y3 w') => Vs.below hb _ _ _ (lst_vs (LvB.lv (fun t v => VsB.vs n t v) SS.out)))
          have dx3 := (B3.out.cell (p := ⟨w.heap.size, 0, none⟩) dlx).trans dx
          have dl3 := cell_lt dx3
          clear hb3 VA2 VB2 HT1 SS VA VB FA FB hu29 hv29 hfa hfb hlab HTK htv da0 da1 da2 da3 da4 db0 db1 db2 db3 db4 dx
          go_wp2_with fail
          refine (apply_21 (n + 1) (lst ts) _ _ (one_lv (by simp [Cel, go_sem, lst]) (VV.out _ (below2 _ _ _))) hft 2 false (ts.length : Int) ⟨#[]⟩ none 0 0 0 ?HC).mono ?_
          case HC =>
            intro s1 w' v1 hb
            obtain ⟨x1, x2, rfl, -, -⟩ := v1.form
            exact size_list _ _ _ ts _ _ w'
          rintro e y4 ⟨rfl, hb4⟩
          have B4 := Hid.intro (hb4.via (below2 _ _ _))
          have HV4 : Hid (∀ w', Below y4.heap.size y4 w' → Cel w' y3.heap.size 0 (lst ts) (.slice ra ts.length rc) ∧ w'.cell? ⟨w.heap.size, 0, none⟩ = some (.slice (some ⟨b, o, none⟩) ts.length cap)) := by
            intro w' hb
            refine ⟨Cel.below (by simp [Cel, go_sem, lst]) (hb.via hb4), ?_⟩
            rw [(hb.via B4.out).cell (p := ⟨w.heap.size, 0, none⟩) dl3]
            exact dx3
          clear hb4
          obtain ⟨⟨e0, e1, e2, e3, e4⟩, ex⟩ := HV4.out _ (Below.refl _ _)
          simp only [lst, Nat.zero_add] at e0 e1 e2 e3 e4
          have el := cell_lt e0
          have exl := cell_lt ex
          have HEQ : Hid (∀ w', Below y4.heap.size y4 w' → Calls Tryd.prog 20 #[.slice ra ts.length rc, (.slice (some ⟨b, o, none⟩) ts.length cap)] w' fun e w'' => e = .returned (.bool true) ∧ Below w'.heap.size w' w'') := by
            intro w' hb
            have hvt := VT.out.mono (hb.via (B4.out.via (B3.out.via B2.out))) (fun t v => Vs.below (hb.via (B4.out.via (B3.out.via B2.out))) n t v)
            have := eqVals_any n (rsame_any n) ts ts _ _ w' (VV.out w' (hb.via B4.out)).2 hvt
            rw [sameL_refl (same n) ts (fun t ht => same_refl n t ?_)] at this
            · exact this
            · have hd := (lst_vs hvt).dep
              exact hd t ht
          go_wp2_with ((go_at_call 20; refine (HEQ.out _ (below_al (Below.refl _ _) _)).mono ?_; rintro e y5 ⟨rfl, hb5⟩; have g1 := fun o => hb5.cell (p := ⟨y4.heap.size, o, none⟩) (by simp); have g2 := (hb5.cell (p := ⟨w.heap.size, 0, none⟩) (by simp; omega)); simp at g1 g2))
          have B5 := Hid.intro (hb5.via (below_al (Below.refl _ y4) _))
          have BT := Hid.intro (B5.out.via (B4.out.via (B3.out.via B2.out)))
          obtain ⟨sk, ck, vk⟩ : ∃ sk, Cel wr b (o + k * 5) (ts[k]'(by omega)) sk ∧ Vs wr n (ts[k]'(by omega)) sk := by
            obtain ⟨a1, c1, h1, -, -, h4⟩ := VT.out
            simp only [Value.slice.injEq, true_and] at h1
            obtain ⟨rfl, rfl⟩ := h1
            obtain ⟨b', o', e, h5⟩ := h4 (by omega)
            simp only [Option.some.injEq, Addr.mk.injEq, and_true] at e
            obtain ⟨rfl, rfl⟩ := e
            exact h5 k (by omega)
          obtain ⟨xk, nk, rfl, -, -⟩ := vk.form
          have hfk : fit 30 (ts[k]'(by omega)) = true := by
            rw [fit_lst ts 29] at hft
            simp only [Bool.and_eq_true, List.all_eq_true] at hft
            exact fit_up 29 _ (hft.2 _ (List.getElem_mem _))
          have hin : inL (n + 1) ts (ts[k]'(by omega)) = true := List.any_eq_true.2 ⟨_, List.getElem_mem (by omega), same_refl (n + 1) _ vk.succ.dep⟩
          have HA : Hid (∀ g w', Below y5.heap.size y5 w' → Cel w' g 0 (lst ts) (.slice ra ts.length rc) → Cel w' g 5 (ts[k]'(by omega)) (.slice xk (ts[k]'(by omega)).l.length nk) → Calls Tryd.prog 19 #[.int .i64 22, .slice (some ⟨g, 0, none⟩) 2 2] w' fun e w'' => e = .returned (.tuple #[.agg #[.int .i64 1, .bool true, .int .i64 0, .string ⟨#[]⟩, .slice none 0 0], .int .i64 0]) ∧ Below w'.heap.size w' w'') := by
            intro g w' hb h1 h2
            refine apply_22 (n + 1) (lst ts) _ _ w' (two_lv h1 h2 (VV.out w' (hb.via (B5.out.via B4.out))) (Vs.below (hb.via BT.out) _ _ _ vk).succ) hft hfk 1 true 0 ⟨#[]⟩ none 0 0 0 ?_
            intro s1 s2 w'' v1 v2 hb'
            have := has_list (n + 1) false 0 ⟨#[]⟩ ts (ts[k]'(by omega)) s1 s2 w'' (v1.2.mono hb' (fun t v h => (Vs.below hb' n t v h).succ)) (Vs.below hb' _ _ _ v2)
            rw [hin] at this
            exact this
          have HT5 : Hid (∀ w', Below y5.heap.size y5 w' → Cel w' y3.heap.size 0 (lst ts) (.slice ra ts.length rc) ∧ w'.cell? ⟨w.heap.size, 0, none⟩ = some (.slice (some ⟨b, o, none⟩) ts.length cap) ∧ Cel w' b (o + k * 5) (ts[k]'(by omega)) (.slice xk (ts[k]'(by omega)).l.length nk)) := by
            intro w' hb
            have hz := HV4.out _ (hb.via B5.out)
            exact ⟨hz.1, hz.2, ck.below (hb.via BT.out)⟩
          generalize hgk : ts[k]'(by omega) = tk at *
          have HS5 : Hid (∀ w', Below y5.heap.size y5 w' → (w'.cell? ⟨y3.heap.size, 0, none⟩ = some (.int .i64 4) ∧ w'.cell? ⟨y3.heap.size, 1, none⟩ = some (.bool false) ∧ w'.cell? ⟨y3.heap.size, 2, none⟩ = some (.int .i64 0) ∧ w'.cell? ⟨y3.heap.size, 3, none⟩ = some (.string ⟨#[]⟩) ∧ w'.cell? ⟨y3.heap.size, 4, none⟩ = some (.slice ra ts.length rc) ∧ w'.cell? ⟨w.heap.size, 0, none⟩ = some (.slice (some ⟨b, o, none⟩) ts.length cap) ∧ w'.cell? ⟨b, o + k * 5, none⟩ = some (.int .i64 tk.k) ∧ w'.cell? ⟨b, o + k * 5 + 1, none⟩ = some (.bool tk.b) ∧ w'.cell? ⟨b, o + k * 5 + 2, none⟩ = some (.int .i64 tk.i) ∧ w'.cell? ⟨b, o + k * 5 + 3, none⟩ = some (.string tk.s) ∧ w'.cell? ⟨b, o + k * 5 + 4, none⟩ = some (.slice xk tk.l.length nk))) := by
            intro w' hb
            obtain ⟨⟨f0, f1, f2, f3, f4⟩, fx, ⟨m0, m1, m2, m3, m4⟩⟩ := HT5.out w' hb
            exact ⟨f0, f1, f2, f3, f4, fx, m0, m1, m2, m3, m4⟩
          have hs0 := HS5.out _ (Below.refl _ _)
          obtain ⟨f0, f1, f2, f3, f4, fx, m0, m1, m2, m3, m4⟩ := hs0
          have fl0 := cell_lt f0
          have flx := cell_lt fx
          have flm := cell_lt m0
          have j1 : IntKind.i64.wrap (k : Int) = (k : Int) := by simp [IntKind.wrap, IntKind.bits, IntKind.signed]; omega
          have j1' : IntKind.i64.wrap ((k : Int) + 1 - 1) = (k : Int) := by simp [IntKind.wrap, IntKind.bits, IntKind.signed]; omega
          have j2 : (0 : Int) ≤ (k : Int) := by omega
          have j3 : (k : Int) < (ts.length : Int) := by omega
          clear hb5 g1 g2 e0 e1 e2 e3 e4 ex HV4 HEQ VT hgk hin hfk hft VV HT5 ck vk dx3
          have hwy : wr.heap.size ≤ y5.heap.size := BT.out.size
          go_cut [10, 11] (fun va vb wx => ∃ gq, va = .pointer (some ⟨gq, 0, none⟩) ∧ vb = .int .i64 0 ∧ Hid (Cel wx gq 0 ⟨1, true, 0, ⟨#[]⟩, []⟩ (.slice none 0 0) ∧ Below wr.heap.size wr wx))
          case first =>
            go_region_held3 (fun w' => w'.cell? ⟨y3.heap.size, 0, none⟩ = some (.int .i64 4) ∧ w'.cell? ⟨y3.heap.size, 1, none⟩ = some (.bool false) ∧ w'.cell? ⟨y3.heap.size, 2, none⟩ = some (.int .i64 0) ∧ w'.cell? ⟨y3.heap.size, 3, none⟩ = some (.string ⟨#[]⟩) ∧ w'.cell? ⟨y3.heap.size, 4, none⟩ = some (.slice ra ts.length rc) ∧ w'.cell? ⟨w.heap.size, 0, none⟩ = some (.slice (some ⟨b, o, none⟩) ts.length cap) ∧ w'.cell? ⟨b, o + k * 5, none⟩ = some (.int .i64 tk.k) ∧ w'.cell? ⟨b, o + k * 5 + 1, none⟩ = some (.bool tk.b) ∧ w'.cell? ⟨b, o + k * 5 + 2, none⟩ = some (.int .i64 tk.i) ∧ w'.cell? ⟨b, o + k * 5 + 3, none⟩ = some (.string tk.s) ∧ w'.cell? ⟨b, o + k * 5 + 4, none⟩ = some (.slice xk tk.l.length nk)) ((refine HS5.out _ ?_; repeat (first | exact Below.refl _ _ | refine Below.drew ?_ | refine below_al ?_ _ | refine below_put ?_ (Nat.le_refl _) _ | refine below_put ?_ (Nat.le_succ _) _ | refine below_put ?_ ld6 _ | exact D6.out)))
              ((go_at_call 19; refine (HA.out _ _ (by repeat (first | exact Below.refl _ _ | refine Below.drew ?_ | refine below_al ?_ _)) (by simp [Cel, go_sem, lst]) (by simp [Cel, go_sem])).mono ?_; rintro e y6 ⟨rfl, hb6⟩; have D6 : Hid (Below y5.heap.size y5 y6) := hb6.via (by repeat (first | exact Below.refl _ _ | refine Below.drew ?_ | refine below_al ?_ _)); have ld6 := D6.out.size; obtain ⟨g6, g7⟩ := bcell hb6 rfl; have ld7 := hb6.size; simp at g6 g7 ld7))
            all_goals go_wp2_with fail
            all_goals go_meet
            · refine ⟨_, rfl, rfl, ?_, below_al (D6.out.via BT.out) _⟩
              simp [Cel, go_sem]
            · refine ⟨_, rfl, rfl, put5_cel (t0 := zeroT) (s0 := .slice none 0 0) ?_ ⟨1, true, 0, ⟨#[]⟩, []⟩ _, below_set5 (D6.out.via BT.out) (Nat.le_succ_of_le hwy) _ _ _ _ _⟩
              simp [Cel, zeroT, g6, go_sem]
            · refine ⟨_, rfl, rfl, put5_cel (t0 := zeroT) (s0 := .slice none 0 0) ?_ ⟨1, true, 0, ⟨#[]⟩, []⟩ _, below_set5 (D6.out.via BT.out) hwy _ _ _ _ _⟩
              simp [Cel, zeroT, g6, go_sem]
          case rest =>
            obtain ⟨gq, rfl, rfl, HQ⟩ := hcut
            obtain ⟨⟨h0, h1, h2', h3', h4⟩, B6⟩ := HQ.out
            simp only [Nat.zero_add] at h0 h1 h2' h3' h4
            have hlq := cell_lt h0
            have B7 := Hid.intro B6
            clear B6 HQ f0 f1 f2 f3 f4 fx m0 m1 m2 m3 m4 BT B5 B4 B3 B2 B1 HS5 HA
            go_wp2
            go_roundw
            case rel => exact ⟨k + 1, by omega, by go_num, hbw.out.trans (B7.out.mono hlw)⟩
            case measure => simp [intOf]; omega
        · have hlt2' : ¬ ((k : Int) + 1 < 10) := by omega
          have hltI : (k : Int) + 1 < (ts.length : Int) := by omega
          go_wp2_with (go_at_call 10; refine (wakes_any _).mono ?_; rintro e w9 ⟨rfl, hb9⟩)
          go_ret
          exact ⟨rfl, hb9.via (below_bx hbw.out)⟩
      · have hltI : ¬ ((k : Int) + 1 < (ts.length : Int)) := by omega
        go_wp2_with (go_at_call 10; refine (wakes_any _).mono ?_; rintro e w9 ⟨rfl, hb9⟩)
        go_ret
        exact ⟨rfl, hb9.via (below_bx hbw.out)⟩
end Go.Proofs.YtlgnhndeeglgfaaDoor
