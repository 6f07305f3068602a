/- proctorlaw1.ValueBack: it tells true. -/
import Derived.Test.YthhflcdmicpcdaaDoorVLaw0
import Derived.Test.YthhflcdmicpcdaaDoorLawOrder
import Derived.Test.YthhflcdmicpcdaaDoorRead
namespace Go.Proofs.YthhflcdmicpcdaaDoor
open Go.RowKit

theorem vs_le {w : World} {n m : Nat} (h : n ≤ m) {t : Tr} {sv : Value} (hv : Vs w n t sv) : Vs w m t sv := by
  induction h with
  | refl => exact hv
  | step _ ih => exact ih.succ
theorem np_v {Q : Exit → Act → World → Prop} {a : Act} {w : World} (h : Q .normal a w) : NoPanic Q .normal a w := h
/-- A value of the argument, wherever the walk stands. -/
structure El (w wr : World) (b o k n : Nat) (t : Tr) (x : Option Addr) (c : Nat) (bx : Value) : Prop where
  box : wr.cell? ⟨w.heap.size, 0, none⟩ = some bx
  hbx : w.heap.size < wr.heap.size
  hb : b < wr.heap.size
  cel : Cel wr b (o + k * 5) t (.slice x t.l.length c)
  vs : Vs wr n t (.slice x t.l.length c)
theorem El.via {w wr w' : World} {b o k n : Nat} {t : Tr} {x : Option Addr} {c : Nat} {bx : Value} (h : El w wr b o k n t x c bx) (hb : Below wr.heap.size wr w') : El w w' b o k n t x c bx :=
  ⟨(hb.cell (p := ⟨w.heap.size, 0, none⟩) h.hbx).trans h.box, Nat.lt_of_lt_of_le h.hbx hb.size, Nat.lt_of_lt_of_le h.hb hb.size, h.cel.below hb, Vs.below hb _ _ _ h.vs⟩

set_option maxRecDepth 20000 in
set_option maxHeartbeats 2000000 in
theorem valueBack_walk (n : Nat) (ts : List Tr) (sv : Value) (w : World) (h : Lv w (Vs w n) ts sv) (hsz : ∀ t ∈ ts, fit 30 t = true → (enc n t).length ≤ 500000000) :
    Calls Tryd.prog 3 #[.agg #[sv]] w fun e w' => e = .returned (.bool true) ∧ Below w.heap.size w w' := by
  have HL := Hid.intro (fun w' hb => light_any n ts sv w' (h.mono hb (fun t v => Vs.below hb n t v)))
  have HV := Hid.intro h
  have HZ := Hid.intro hsz
  clear hsz
  have hmo : Tryd.prog.follows .mixedOrders = true := by kernel_rfl
  obtain ⟨a0, cap, rfl, h2, h3, h4⟩ := h
  unfold maxLen at h3
  have HE := Hid.intro h4
  clear h4
  go_enter Tryd.func3, Tryd.ntmps3
  go_wp2_with fail
  refine (HL.out _ ((Below.refl _ _).alloc (Nat.le_refl _) _)).mono ?_
  rintro e w1 ⟨⟨bl, rfl⟩, hb1⟩
  have HB1 := Hid.intro (hb1.mono (B' := w.heap.size + 1) (by simp))
  clear hb1
  cases bl
  · go_wp2_with (go_at_call 10; refine (wakes_any _).mono ?_; rintro e w2 ⟨rfl, hb2⟩)
    go_ret
    exact ⟨rfl, hb2.via (below_box HB1.out)⟩
  · go_wp2
    go_loopw [3] (fun i w' => ∃ k : Nat, k ≤ 10 ∧ i = .int .i64 k ∧ Hid (Below (w.heap.size + 1) (w.alloc (.cells #[.slice a0 ts.length cap] 24)) w')) (fun i _ => 10 - (intOf i).toNat)
    case atStart => exact ⟨0, by omega, rfl, HB1⟩
    case round =>
      obtain ⟨k, hk, rfl, hbw⟩ := hrel
      have hbox := hbw.out.cell (p := ⟨w.heap.size, 0, none⟩) (Nat.lt_succ_self _)
      simp at hbox
      by_cases hlt : k < ts.length
      · by_cases hlt2 : k < 10
        · obtain ⟨b, o, rfl, e1⟩ := HE.out (by omega)
          have HA : Hid (∀ j (hj : j < ts.length), ∃ x c, El w wr b o j n ts[j] x c (.slice (some ⟨b, o, none⟩) ts.length cap)) := Hid.intro (fun j hj => by
            obtain ⟨s1, c1, v1⟩ := e1 j hj
            obtain ⟨x1, n1, rfl, -, -⟩ := v1.form
            have hbx := below_box hbw.out
            exact ⟨x1, n1, hbox, cell_lt hbox, cell_lt (c1.below hbx).1, c1.below hbx, Vs.below hbx _ _ _ v1⟩)
          clear e1
          obtain ⟨x1, n1, E1⟩ := HA.out k hlt
          have hmem : ts[k] ∈ ts := List.getElem_mem _
          have HZ1 := Hid.intro (HZ.out _ hmem)
          have hlw : w.heap.size < wr.heap.size := E1.hbx
          have hlb : b < wr.heap.size := E1.hb
          have V1 := Hid.intro E1
          obtain ⟨p1, p2, p3, p4, p5⟩ := E1.cel
          clear E1 hmem
          generalize ts[k] = t1 at *
          have i0 : (0 : Int) ≤ (k : Int) := by omega
          have i1 : (k : Int) < (ts.length : Int) := by omega
          have i2 : (k : Int) < 10 := by omega
          go_wp2_with fail
          by_cases hf : fit 30 t1 = true
          · have hpos : 0 < (enc n t1).length := enc_long n t1 V1.out.vs.ok
            have hds := dec_self V1.out.vs.ok hf
            have hdm := dec_more V1.out.vs.ok hf
            have hle : (enc n t1).length ≤ 500000000 := HZ1.out hf
            refine (Encode_yes n t1 _ wr V1.out.vs hf (by omega)).mono ?_
            rintro e w2 ⟨hb2, v2, rfl, ho2⟩
            obtain ⟨g, cp, rfl, hg1, hg2, hlc, hcm, hby⟩ := own_bys ho2 hpos
            have hdl : ∀ t', dec 30 (enc n t1).dropLast ≠ some (t', []) := dec_less (by intro h; rw [h] at hpos; simp at hpos) hds
            clear ho2 p1 p2 p3 p4 p5
            have HL1 : Hid (enc n t1 = enc n t1) := Hid.intro rfl
            generalize hl : enc n t1 = l at hpos hds hdm hle hdl hby hlc ⊢
            have HI := Hid.intro info5
            have hz : ((l.length : Int) == 0) = false := by rw [beq_eq_false_iff_ne]; omega
            have V2 := Hid.intro (V1.out.via hb2)
            have H2 := Hid.intro hb2
            clear hb2
            go_wp2_with fail
            refine (Decode_yes hby hg2 hlc hcm (Nat.le_trans hle (by decide)) hds).mono ?_
            rintro e w3 ⟨hb3, sv3, rfl, hvs3⟩
            obtain ⟨xa, xc, rfl, -, -⟩ := hvs3.form
            have HS3 := Hid.intro hvs3
            have B3 := fun j hj => (hb3.cell (p := ⟨g, 0 + j, none⟩) hg2).trans (hby j hj)
            have hg3 : g < w3.heap.size := Nat.lt_of_lt_of_le hg2 hb3.size
            have H3 := Hid.intro (hb3.via H2.out)
            clear hvs3 hb3 hby
            unfold vv
            go_wp2_with (at_builtin; refine wpList_append_grows _ rfl _ _ 27 rfl 5 HI.out.choose (.int .u8 0) 1 1 Tryd.underlying27 HI.out.choose_spec.1 HI.out.choose_spec.2.1 HI.out.choose_spec.2.2.1 HI.out.choose_spec.2.2.2 rfl (by decide) (some ⟨g, 0, none⟩) l.length l.length (bv (ii l)) rfl (fun h => by cases h) (by simp [bv, ii]) ?c0 ⟨w3.heap.size + 1, 0, none⟩ 1 1 [.int .u8 0] rfl rfl ?c1 ?c2 (by omega) ?c3 ?c4 ?_)
            case c0 =>
              intro b' hb' j u hu
              cases hb'
              have hj : j < l.length := by
                have := (List.getElem?_eq_some_iff.1 hu).1
                simpa [bv, ii] using this
              have e1 : (⟨g, 0, none⟩ : Addr).add j = ⟨g, 0 + j, none⟩ := Addr.add_lit ..
              have e2 : u = .int .u8 (l[j].toNat : Int) := by
                rw [show (bv (ii l))[j]? = some (.int .u8 (l[j].toNat : Int)) by simp [bv, ii, List.getElem?_eq_getElem hj]] at hu
                exact (Option.some.inj hu).symm
              rw [e1, e2]
              have q1 : g < w3.heap.size + 1 := by omega
              rw [World.cell?_of_block (a := ⟨g, 0 + j, none⟩) (heap_alloc_old (w3.alloc _) _ (by simp; omega)), World.cell?_of_block (a := ⟨g, 0 + j, none⟩) (heap_alloc_old w3 _ hg3)]
              exact B3 j hj
            case c1 => intro j u hj; match j, hj with | 0, hj => simp at hj; subst hj; simp [Addr.add]
            case c2 => intro u hu; simp at hu; subst hu; rfl
            case c3 => unfold maxLen; omega
            case c4 => omega
            intro v4 w4 ho4 hg4
            have hlen4 : l.length + 1 = (l ++ [0]).length := by simp
            have ho4' : w4.ownsRow (w3.heap.size + 1 + 1) 5 1 v4 (l ++ [0]).length (bv (ii (l ++ [0]))) := by
              have e : bv (ii (l ++ [0])) = bv (ii l) ++ [.int .u8 0] := by simp [bv, ii]
              rw [e, ← hlen4]; exact ho4
            obtain ⟨g4, cp4, rfl, -, hg42, hlc4, hcm4, hby4⟩ := own_bys ho4' (by simp)
            have hb34 : Below w3.heap.size w3 w4 := grown_below (below_al (below_al (Below.refl _ _) _) _) hg4 (fun g h => by cases h)
            have C4 : Cel w4 w3.heap.size 0 t1 (.slice xa t1.l.length xc) := by
              have hc := fun j => World.cell?_of_block (a := ⟨w3.heap.size, j, none⟩) (hg4.block w3.heap.size (by simp; omega) (by simp))
              unfold Cel
              simp only [hc]
              simp [go_sem]
            have hs34 : w3.heap.size < w4.heap.size := by have := hg4.size; simp at this; omega
            clear ho4 ho4' hg4
            have B4 := fun j hj => (hb34.cell (p := ⟨g, 0 + j, none⟩) hg3).trans (B3 j hj)
            have hg4' : g < w4.heap.size := Nat.lt_of_lt_of_le hg3 hb34.size
            have H4 := Hid.intro (hb34.via H3.out)
            have HS4 := Hid.intro (Vs.below hb34 _ _ _ HS3.out)
            have hle4 : (l ++ [0]).length ≤ 1000000000 := by simp; omega
            clear hb34 H3 H2 B3 HS3 HI hlen4
            generalize l ++ [0] = l4 at hby4 hlc4 hle4 hdm ⊢
            go_wp2_with fail
            refine (Decode_bad hby4 hg42 hlc4 hcm4 hle4 hdm).mono ?_
            rintro e w5 ⟨hb5, rfl⟩
            have C5 := C4.below hb5
            have B5 : Bys w5 g 0 l := fun j hj => (hb5.cell (p := ⟨g, 0 + j, none⟩) hg4').trans (B4 j hj)
            have hg5 : g < w5.heap.size := Nat.lt_of_lt_of_le hg4' hb5.size
            have hs35 : w3.heap.size < w5.heap.size := Nat.lt_of_lt_of_le hs34 hb5.size
            have H5 := Hid.intro (hb5.via H4.out)
            have HS5 := Hid.intro (Vs.below hb5 _ _ _ HS4.out)
            clear hb5 H4 HS4 C4 B4 hg4' hs34 hg42 hlc4 hcm4 hby4 hle4
            have hw1 : IntKind.i64.wrap ((l.length : Int) - 1) = (l.length : Int) - 1 := by simp [IntKind.wrap, IntKind.bits, IntKind.signed]; omega
            have hw2 : ((l.length : Int) - 1).toNat = l.length - 1 := by omega
            have hw3 : l.length - 1 ≤ cp := by omega
            have hw4 : (0 : Int) ≤ (l.length : Int) - 1 := by omega
            have hw5 : (l.length : Int) - 1 ≤ (cp : Int) := by omega
            have HD := Hid.intro (fun (w' : World) (hb : Below w5.heap.size w5 w') => Decode_bad (w := w') (G := g) (off := 0) (cap := cp) (l := l.dropLast) (fun j hj => by
              rw [hb.cell (p := ⟨g, 0 + j, none⟩) hg5]
              have := B5.take (l.length - 1) j (by rw [← List.dropLast_eq_take]; exact hj)
              simp only [← List.dropLast_eq_take] at this
              exact this) (Nat.lt_of_lt_of_le hg5 hb.size) (by simp; omega) hcm (by simp; omega) hdl)
            rw [List.length_dropLast] at HD
            go_wp2_with fail
            refine (HD.out _ (below_al (Below.refl _ _) _)).mono ?_
            rintro e w6 ⟨hb6, rfl⟩
            have hb56 : Below w5.heap.size w5 w6 := hb6.via (below_al (Below.refl _ _) _)
            have C6 := C5.below hb56
            have B6 : Bys w6 g 0 l := fun j hj => (hb56.cell (p := ⟨g, 0 + j, none⟩) hg5).trans (B5 j hj)
            have hg6 : g < w6.heap.size := Nat.lt_of_lt_of_le hg5 hb56.size
            have hs36 : w3.heap.size < w6.heap.size := Nat.lt_of_lt_of_le hs35 hb56.size
            have H6 := Hid.intro (hb56.via H5.out)
            have HS6 := Hid.intro (Vs.below hb56 _ _ _ HS5.out)
            have V6 := Hid.intro (V1.out.via H6.out)
            clear hb6 hb56 HD hw1 hw2 hw3 hw4 hw5 C5 B5 hg5 hs35 H5 HS5 hdl hds hdm
            have HSA := Hid.intro (fun (w' : World) (hb : Below w6.heap.size w6 w') => rsame_any (n + 31) t1 t1 _ _ w' (vs_le (Nat.le_add_left 31 n) (Vs.below hb _ _ _ HS6.out)) (vs_le (Nat.le_add_right n 31) (V6.out.via hb).vs))
            rw [same_refl (n + 31) t1 (Vs.dep (vs_le (Nat.le_add_left 31 n) HS6.out))] at HSA
            have HC6 := Hid.intro C6
            clear HS6 C6
            go_wp2_with fail
            refine wp_region_noPanic ?_
            refine wp_region_held_drew (S := fun w' => Below w6.heap.size w6 w') hmo (below_al (Below.refl _ _) _).drew (fun hS => ?_)
            refine take_q 0 80 (.int .i64 0) ⟨_, rfl, rfl, Or.inl ⟨by rfl, fun w hSw => by go_simp⟩⟩ (by kernel_rfl) (by kernel_rfl) (by kernel_rfl) (fun _ _ _ h => h) hS ?_
            simp only [List.setIfInBounds_toArray, List.set_cons_succ, List.set_cons_zero]
            refine take_q 1 81 (.bool false) ⟨_, rfl, rfl, Or.inl ⟨by rfl, fun w hSw => by go_simp⟩⟩ (by kernel_rfl) (by kernel_rfl) (by kernel_rfl) (fun _ _ _ h => h) hS ?_
            simp only [List.setIfInBounds_toArray, List.set_cons_succ, List.set_cons_zero]
            refine take_q 2 82 (.bool false) ⟨_, rfl, rfl, Or.inl ⟨by rfl, fun w hSw => by go_simp⟩⟩ (by kernel_rfl) (by kernel_rfl) (by kernel_rfl) (fun _ _ _ h => h) hS ?_
            simp only [List.setIfInBounds_toArray, List.set_cons_succ, List.set_cons_zero]
            refine take_q 3 83 (.agg #[.int .i64 t1.k, .bool t1.b, .int .i64 t1.i, .string t1.s, .slice xa t1.l.length xc]) ⟨_, rfl, rfl, Or.inl ⟨by rfl, fun w hSw => by obtain ⟨r1, r2, r3, r4, r5⟩ := HC6.out.below hSw; go_simp⟩⟩ (by kernel_rfl) (by kernel_rfl) (by kernel_rfl) (fun _ _ _ h => h) hS ?_
            simp only [List.setIfInBounds_toArray, List.set_cons_succ, List.set_cons_zero]
            refine take_q 4 84 (.pointer (some ⟨w.heap.size, 0, none⟩)) ⟨_, rfl, rfl, Or.inl ⟨by rfl, fun w hSw => by go_simp⟩⟩ (by kernel_rfl) (by kernel_rfl) (by kernel_rfl) (fun _ _ _ h => h) hS ?_
            simp only [List.setIfInBounds_toArray, List.set_cons_succ, List.set_cons_zero]
            refine take_q 5 85 (.slice (some ⟨b, o, none⟩) ts.length cap) ⟨_, rfl, rfl, Or.inl ⟨by rfl, fun w hSw => by have hc := (V6.out.via hSw).box; go_simp⟩⟩ (by kernel_rfl) (by kernel_rfl) (by kernel_rfl) (fun _ _ _ h => h) hS ?_
            simp only [List.setIfInBounds_toArray, List.set_cons_succ, List.set_cons_zero]
            refine take_q 6 86 (.int .i64 (k : Int)) ⟨_, rfl, rfl, Or.inl ⟨by rfl, fun w hSw => by go_simp⟩⟩ (by kernel_rfl) (by kernel_rfl) (by kernel_rfl) (fun _ _ _ h => h) hS ?_
            simp only [List.setIfInBounds_toArray, List.set_cons_succ, List.set_cons_zero]
            refine take_q 7 87 (.pointer (some ⟨b, o + k * 5, none⟩)) ⟨_, rfl, rfl, Or.inl ⟨by rfl, fun w hSw => by go_simp⟩⟩ (by kernel_rfl) (by kernel_rfl) (by kernel_rfl) (fun _ _ _ h => h) hS ?_
            simp only [List.setIfInBounds_toArray, List.set_cons_succ, List.set_cons_zero]
            refine take_q 8 88 (.agg #[.int .i64 t1.k, .bool t1.b, .int .i64 t1.i, .string t1.s, .slice x1 t1.l.length n1]) ⟨_, rfl, rfl, Or.inl ⟨by rfl, fun w hSw => by obtain ⟨r1, r2, r3, r4, r5⟩ := (V6.out.via hSw).cel; go_simp⟩⟩ (by kernel_rfl) (by kernel_rfl) (by kernel_rfl) (fun _ _ _ h => h) hS ?_
            simp only [List.setIfInBounds_toArray, List.set_cons_succ, List.set_cons_zero]
            generalize World.drew _ = w7 at hS ⊢
            refine wpAnyH_ready (rs := [9]) (by kernel_rfl) (by simp) ?_
            refine AllReadyH.cons rfl (fun K' hK => ?_) AllReadyH.nil
            go_simp
            refine (HSA.out _ hS).mono ?_
            rintro e w8 ⟨rfl, hc8⟩
            have D8 := hS.trans (hc8.mono hS.size)
            refine hK.out _ _ D8 (fun hS => ?_)
            clear hK K'
            (try simp only [Act.put, List.setIfInBounds_toArray, List.set_cons_succ, List.set_cons_zero])
            refine take_q 10 90 (.bool false) ⟨_, rfl, rfl, Or.inl ⟨by rfl, fun w hSw => by go_simp⟩⟩ (by kernel_rfl) (by kernel_rfl) (by kernel_rfl) (fun _ _ _ h => h) hS ?_
            simp only [List.setIfInBounds_toArray, List.set_cons_succ, List.set_cons_zero]
            refine take_q 11 91 (.bool false) ⟨_, rfl, rfl, Or.inl ⟨by rfl, fun w hSw => by go_simp⟩⟩ (by kernel_rfl) (by kernel_rfl) (by kernel_rfl) (fun _ _ _ h => h) hS ?_
            simp only [List.setIfInBounds_toArray, List.set_cons_succ, List.set_cons_zero]
            refine take_q 12 92 (.bool false) ⟨_, rfl, rfl, Or.inl ⟨by rfl, fun w hSw => by go_simp⟩⟩ (by kernel_rfl) (by kernel_rfl) (by kernel_rfl) (fun _ _ _ h => h) hS ?_
            simp only [List.setIfInBounds_toArray, List.set_cons_succ, List.set_cons_zero]
            refine take_q 13 93 (.int .i64 8) ⟨_, rfl, rfl, Or.inl ⟨by rfl, fun w hSw => by go_simp⟩⟩ (by kernel_rfl) (by kernel_rfl) (by kernel_rfl) (fun _ _ _ h => h) hS ?_
            simp only [List.setIfInBounds_toArray, List.set_cons_succ, List.set_cons_zero]
            refine take_q 14 94 (.bool false) ⟨_, rfl, rfl, Or.inl ⟨by rfl, fun w hSw => by go_simp⟩⟩ (by kernel_rfl) (by kernel_rfl) (by kernel_rfl) (fun _ _ _ h => h) hS ?_
            simp only [List.setIfInBounds_toArray, List.set_cons_succ, List.set_cons_zero]
            refine take_q 15 95 (.bool false) ⟨_, rfl, rfl, Or.inl ⟨by rfl, fun w hSw => by go_simp⟩⟩ (by kernel_rfl) (by kernel_rfl) (by kernel_rfl) (fun _ _ _ h => h) hS ?_
            simp only [List.setIfInBounds_toArray, List.set_cons_succ, List.set_cons_zero]
            refine take_q 16 96 (.bool false) ⟨_, rfl, rfl, Or.inl ⟨by rfl, fun w hSw => by go_simp⟩⟩ (by kernel_rfl) (by kernel_rfl) (by kernel_rfl) (fun _ _ _ h => h) hS ?_
            simp only [List.setIfInBounds_toArray, List.set_cons_succ, List.set_cons_zero]
            refine take_q 17 97 (.int .i64 8) ⟨_, rfl, rfl, Or.inl ⟨by rfl, fun w hSw => by go_simp⟩⟩ (by kernel_rfl) (by kernel_rfl) (by kernel_rfl) (fun _ _ _ h => h) hS ?_
            simp only [List.setIfInBounds_toArray, List.set_cons_succ, List.set_cons_zero]
            refine take_q 18 98 (.bool false) ⟨_, rfl, rfl, Or.inl ⟨by rfl, fun w hSw => by go_simp⟩⟩ (by kernel_rfl) (by kernel_rfl) (by kernel_rfl) (fun _ _ _ h => h) hS ?_
            simp only [List.setIfInBounds_toArray, List.set_cons_succ, List.set_cons_zero]
            refine take_q 19 99 (.bool false) ⟨_, rfl, rfl, Or.inl ⟨by rfl, fun w hSw => by go_simp⟩⟩ (by kernel_rfl) (by kernel_rfl) (by kernel_rfl) (fun _ _ _ h => h) hS ?_
            simp only [List.setIfInBounds_toArray, List.set_cons_succ, List.set_cons_zero]
            refine wpAnyH_done (by kernel_rfl) ?_ _
            refine np_v ?_
            have HW6 : Hid (Below (w.heap.size + 1) (w.alloc (.cells #[.slice (some ⟨b, o, none⟩) ts.length cap] 24)) w6) := Hid.intro (hbw.out.trans (H6.out.mono hlw))
            have HA6 : Hid (∀ j (hj : j < ts.length), ∃ x c, El w w6 b o j n ts[j] x c (.slice (some ⟨b, o, none⟩) ts.length cap)) := Hid.intro (fun j hj => by
              obtain ⟨x, c, h⟩ := HA.out j hj
              exact ⟨x, c, h.via H6.out⟩)
            have HB6 := Hid.intro B6
            have HF1 := Hid.intro hf
            have HD8 := Hid.intro D8
            have HZ3 : Hid (∀ j (hj : j < ts.length), fit 30 ts[j] = true → (enc n ts[j]).length ≤ 500000000) := Hid.intro (fun j hj => HZ.out _ (List.getElem_mem _))
            clear HA H6 V1 D8 hS hc8 HSA HC6 HZ1 B6 hf hbox
            go_wp2_with fail
            go_loopw [12] (fun i w' => ∃ q : Nat, q ≤ k ∧ i = .int .i64 q ∧ Hid (Below w6.heap.size w6 w')) (fun i _ => k - (intOf i).toNat)
            case atStart => exact ⟨0, by omega, rfl, HD8⟩
            case round =>
              obtain ⟨q, hq, rfl, hbq⟩ := hrel
              by_cases hlt3 : q < k
              · obtain ⟨x2, n2, E2⟩ := HA6.out q (by omega)
                have HZ2 := Hid.intro (HZ3.out q (by omega))
                have VQ := Hid.intro (E2.via hbq.out)
                generalize ts[q]'(by omega) = t2 at VQ HZ2
                clear E2
                have hbox := VQ.out.box
                obtain ⟨p1, p2, p3, p4, p5⟩ := VQ.out.cel
                have i3 : (0 : Int) ≤ (q : Int) := by omega
                have i4 : (q : Int) < (k : Int) := by omega
                have i5 : (q : Int) < (ts.length : Int) := by omega
                go_wp2_with fail
                by_cases hf2 : fit 30 t2 = true
                · have hpos2 : 0 < (enc n t2).length := enc_long n t2 VQ.out.vs.ok
                  have hle2 : (enc n t2).length ≤ 500000000 := HZ2.out hf2
                  have hes : (l == enc n t2) = same n t1 t2 := by rw [← hl]; exact enc_same V6.out.vs.ok VQ.out.vs.ok HF1.out hf2 V6.out.vs.dep
                  refine (Encode_yes n t2 _ wr VQ.out.vs hf2 (by omega)).mono ?_
                  rintro e wB ⟨hbB, v2, rfl, ho2⟩
                  obtain ⟨g2, cp2, rfl, hgB1, hgB2, hlcB, hcmB, hbyB⟩ := own_bys ho2 hpos2
                  have HBB : Hid (Below w6.heap.size w6 wB) := Hid.intro (hbB.via hbq.out)
                  have VB := Hid.intro (V6.out.via HBB.out)
                  have VC := Hid.intro (VQ.out.via hbB)
                  have hgB : g < wB.heap.size := Nat.lt_of_lt_of_le hg6 HBB.out.size
                  have BB : Bys wB g 0 l := fun j hj => (HBB.out.cell (p := ⟨g, 0 + j, none⟩) hg6).trans (HB6.out j hj)
                  clear ho2 p1 p2 p3 p4 p5 hbox
                  generalize enc n t2 = l2 at hpos2 hle2 hes hlcB hbyB ⊢
                  have HB := Hid.intro (fun (w' : World) (hb : Below wB.heap.size wB w') => eqBytes_any (w := w') (G := g) (G' := g2) (cap := cp) (cap' := cp2) (l := l) (l' := l2) (fun j hj => (hb.cell (p := ⟨g, 0 + j, none⟩) hgB).trans (BB j hj)) (fun j hj => (hb.cell (p := ⟨g2, 0 + j, none⟩) hgB2).trans (hbyB j hj)))
                  have HSB := Hid.intro (fun (w' : World) (hb : Below wB.heap.size wB w') => rsame_any n t1 t2 _ _ w' (VB.out.via hb).vs (VC.out.via hb).vs)
                  rw [hes] at HB
                  generalize same n t1 t2 = y at HB HSB
                  clear hes BB hbyB hbB
                  go_wp2_with fail
                  refine wp_region_noPanic ?_
                  refine wp_region_held_drew (S := fun w' => Below wB.heap.size wB w') hmo (Below.refl _ _).drew (fun hS => ?_)
                  refine take_q 0 114 (.int .i64 0) ⟨_, rfl, rfl, Or.inl ⟨by rfl, fun w hSw => by go_simp⟩⟩ (by kernel_rfl) (by kernel_rfl) (by kernel_rfl) (fun _ _ _ h => h) hS ?_
                  simp only [List.setIfInBounds_toArray, List.set_cons_succ, List.set_cons_zero]
                  refine take_q 1 115 (.bool true) ⟨_, rfl, rfl, Or.inl ⟨by rfl, fun w hSw => by go_simp⟩⟩ (by kernel_rfl) (by kernel_rfl) (by kernel_rfl) (fun _ _ _ h => h) hS ?_
                  simp only [List.setIfInBounds_toArray, List.set_cons_succ, List.set_cons_zero]
                  refine take_q 2 116 (.bool true) ⟨_, rfl, rfl, Or.inl ⟨by rfl, fun w hSw => by go_simp⟩⟩ (by kernel_rfl) (by kernel_rfl) (by kernel_rfl) (fun _ _ _ h => h) hS ?_
                  simp only [List.setIfInBounds_toArray, List.set_cons_succ, List.set_cons_zero]
                  refine take_q 3 117 (.slice (some ⟨g, 0, none⟩) l.length cp) ⟨_, rfl, rfl, Or.inl ⟨by rfl, fun w hSw => by go_simp⟩⟩ (by kernel_rfl) (by kernel_rfl) (by kernel_rfl) (fun _ _ _ h => h) hS ?_
                  simp only [List.setIfInBounds_toArray, List.set_cons_succ, List.set_cons_zero]
                  refine take_q 4 118 (.slice (some ⟨g2, 0, none⟩) l2.length cp2) ⟨_, rfl, rfl, Or.inl ⟨by rfl, fun w hSw => by go_simp⟩⟩ (by kernel_rfl) (by kernel_rfl) (by kernel_rfl) (fun _ _ _ h => h) hS ?_
                  simp only [List.setIfInBounds_toArray, List.set_cons_succ, List.set_cons_zero]
                  refine take_q 6 120 (.pointer (some ⟨w.heap.size, 0, none⟩)) ⟨_, rfl, rfl, Or.inl ⟨by rfl, fun w hSw => by go_simp⟩⟩ (by kernel_rfl) (by kernel_rfl) (by kernel_rfl) (fun _ _ _ h => h) hS ?_
                  simp only [List.setIfInBounds_toArray, List.set_cons_succ, List.set_cons_zero]
                  refine take_q 7 121 (.slice (some ⟨b, o, none⟩) ts.length cap) ⟨_, rfl, rfl, Or.inl ⟨by rfl, fun w hSw => by have hc := (VB.out.via hSw).box; go_simp⟩⟩ (by kernel_rfl) (by kernel_rfl) (by kernel_rfl) (fun _ _ _ h => h) hS ?_
                  simp only [List.setIfInBounds_toArray, List.set_cons_succ, List.set_cons_zero]
                  refine take_q 8 122 (.int .i64 (k : Int)) ⟨_, rfl, rfl, Or.inl ⟨by rfl, fun w hSw => by go_simp⟩⟩ (by kernel_rfl) (by kernel_rfl) (by kernel_rfl) (fun _ _ _ h => h) hS ?_
                  simp only [List.setIfInBounds_toArray, List.set_cons_succ, List.set_cons_zero]
                  refine take_q 9 123 (.pointer (some ⟨b, o + k * 5, none⟩)) ⟨_, rfl, rfl, Or.inl ⟨by rfl, fun w hSw => by go_simp⟩⟩ (by kernel_rfl) (by kernel_rfl) (by kernel_rfl) (fun _ _ _ h => h) hS ?_
                  simp only [List.setIfInBounds_toArray, List.set_cons_succ, List.set_cons_zero]
                  refine take_q 10 124 (.agg #[.int .i64 t1.k, .bool t1.b, .int .i64 t1.i, .string t1.s, .slice x1 t1.l.length n1]) ⟨_, rfl, rfl, Or.inl ⟨by rfl, fun w hSw => by obtain ⟨r1, r2, r3, r4, r5⟩ := (VB.out.via hSw).cel; go_simp⟩⟩ (by kernel_rfl) (by kernel_rfl) (by kernel_rfl) (fun _ _ _ h => h) hS ?_
                  simp only [List.setIfInBounds_toArray, List.set_cons_succ, List.set_cons_zero]
                  refine take_q 11 125 (.pointer (some ⟨w.heap.size, 0, none⟩)) ⟨_, rfl, rfl, Or.inl ⟨by rfl, fun w hSw => by go_simp⟩⟩ (by kernel_rfl) (by kernel_rfl) (by kernel_rfl) (fun _ _ _ h => h) hS ?_
                  simp only [List.setIfInBounds_toArray, List.set_cons_succ, List.set_cons_zero]
                  refine take_q 12 126 (.slice (some ⟨b, o, none⟩) ts.length cap) ⟨_, rfl, rfl, Or.inl ⟨by rfl, fun w hSw => by have hc := (VC.out.via hSw).box; go_simp⟩⟩ (by kernel_rfl) (by kernel_rfl) (by kernel_rfl) (fun _ _ _ h => h) hS ?_
                  simp only [List.setIfInBounds_toArray, List.set_cons_succ, List.set_cons_zero]
                  refine take_q 13 127 (.int .i64 (q : Int)) ⟨_, rfl, rfl, Or.inl ⟨by rfl, fun w hSw => by go_simp⟩⟩ (by kernel_rfl) (by kernel_rfl) (by kernel_rfl) (fun _ _ _ h => h) hS ?_
                  simp only [List.setIfInBounds_toArray, List.set_cons_succ, List.set_cons_zero]
                  refine take_q 14 128 (.pointer (some ⟨b, o + q * 5, none⟩)) ⟨_, rfl, rfl, Or.inl ⟨by rfl, fun w hSw => by go_simp⟩⟩ (by kernel_rfl) (by kernel_rfl) (by kernel_rfl) (fun _ _ _ h => h) hS ?_
                  simp only [List.setIfInBounds_toArray, List.set_cons_succ, List.set_cons_zero]
                  refine take_q 15 129 (.agg #[.int .i64 t2.k, .bool t2.b, .int .i64 t2.i, .string t2.s, .slice x2 t2.l.length n2]) ⟨_, rfl, rfl, Or.inl ⟨by rfl, fun w hSw => by obtain ⟨r1, r2, r3, r4, r5⟩ := (VC.out.via hSw).cel; go_simp⟩⟩ (by kernel_rfl) (by kernel_rfl) (by kernel_rfl) (fun _ _ _ h => h) hS ?_
                  simp only [List.setIfInBounds_toArray, List.set_cons_succ, List.set_cons_zero]
                  generalize World.drew _ = wC at hS ⊢
                  refine wpAnyH_ready (rs := [5]) (by kernel_rfl) (by simp) ?_
                  refine AllReadyH.cons rfl (fun K' hK => ?_) AllReadyH.nil
                  go_simp
                  refine (HB.out _ hS).mono ?_
                  rintro e w21 ⟨hc21, rfl⟩
                  have D21 := hS.trans (hc21.mono hS.size)
                  refine hK.out _ _ D21 (fun hS => ?_)
                  clear hK K'
                  (try simp only [Act.put, List.setIfInBounds_toArray, List.set_cons_succ, List.set_cons_zero])
                  refine wpAnyH_ready (rs := [16]) (by kernel_rfl) (by simp) ?_
                  refine AllReadyH.cons rfl (fun K' hK => ?_) AllReadyH.nil
                  go_simp
                  refine (HSB.out _ hS).mono ?_
                  rintro e w22 ⟨rfl, hc22⟩
                  have D22 := hS.trans (hc22.mono hS.size)
                  refine hK.out _ _ D22 (fun hS => ?_)
                  clear hK K'
                  (try simp only [Act.put, List.setIfInBounds_toArray, List.set_cons_succ, List.set_cons_zero])
                  refine take_q 17 131 (.bool false) ⟨_, rfl, rfl, Or.inl ⟨by rfl, fun w hSw => by go_simp⟩⟩ (by kernel_rfl) (by kernel_rfl) (by kernel_rfl) (fun _ _ _ h => h) hS ?_
                  simp only [List.setIfInBounds_toArray, List.set_cons_succ, List.set_cons_zero]
                  refine take_q 18 132 (.bool false) ⟨_, rfl, rfl, Or.inl ⟨by rfl, fun w hSw => by go_simp⟩⟩ (by kernel_rfl) (by kernel_rfl) (by kernel_rfl) (fun _ _ _ h => h) hS ?_
                  simp only [List.setIfInBounds_toArray, List.set_cons_succ, List.set_cons_zero]
                  refine wpAnyH_done (by kernel_rfl) ?_ _
                  refine np_v ?_
                  go_wp2
                  go_roundw
                  case rel => exact ⟨q + 1, by omega, by go_num, Hid.intro (D22.via HBB.out)⟩
                  case measure => simp [intOf]; omega
                · have hf2' : fit 30 t2 = false := by simpa using hf2
                  refine (Encode_no n t2 _ wr VQ.out.vs hf2').mono ?_
                  rintro e wB ⟨hbB, rfl⟩
                  have HBB : Hid (Below w6.heap.size w6 wB) := Hid.intro (hbB.via hbq.out)
                  clear hbB p1 p2 p3 p4 p5 hbox
                  go_wp2_with fail
                  refine wp_region_noPanic ?_
                  refine wp_region_held_drew (S := fun w' => Below wB.heap.size wB w') hmo (Below.refl _ _).drew (fun hS => ?_)
                  refine take_q 0 114 (.int .i64 1) ⟨_, rfl, rfl, Or.inl ⟨by rfl, fun w hSw => by go_simp⟩⟩ (by kernel_rfl) (by kernel_rfl) (by kernel_rfl) (fun _ _ _ h => h) hS ?_
                  simp only [List.setIfInBounds_toArray, List.set_cons_succ, List.set_cons_zero]
                  refine take_q 1 115 (.bool false) ⟨_, rfl, rfl, Or.inl ⟨by rfl, fun w hSw => by go_simp⟩⟩ (by kernel_rfl) (by kernel_rfl) (by kernel_rfl) (fun _ _ _ h => h) hS ?_
                  simp only [List.setIfInBounds_toArray, List.set_cons_succ, List.set_cons_zero]
                  refine take_q 2 116 (.bool false) ⟨_, rfl, rfl, Or.inl ⟨by rfl, fun w hSw => by go_simp⟩⟩ (by kernel_rfl) (by kernel_rfl) (by kernel_rfl) (fun _ _ _ h => h) hS ?_
                  simp only [List.setIfInBounds_toArray, List.set_cons_succ, List.set_cons_zero]
                  refine take_q 3 117 undef ⟨_, rfl, rfl, Or.inr ⟨by rfl, rfl⟩⟩ (by kernel_rfl) (by kernel_rfl) (by kernel_rfl) (fun _ _ _ h => h) hS ?_
                  simp only [List.setIfInBounds_toArray, List.set_cons_succ, List.set_cons_zero]
                  refine take_q 4 118 undef ⟨_, rfl, rfl, Or.inr ⟨by rfl, rfl⟩⟩ (by kernel_rfl) (by kernel_rfl) (by kernel_rfl) (fun _ _ _ h => h) hS ?_
                  simp only [List.setIfInBounds_toArray, List.set_cons_succ, List.set_cons_zero]
                  refine take_q 5 119 undef ⟨_, rfl, rfl, Or.inr ⟨by rfl, rfl⟩⟩ (by kernel_rfl) (by kernel_rfl) (by kernel_rfl) (fun _ _ _ h => h) hS ?_
                  simp only [List.setIfInBounds_toArray, List.set_cons_succ, List.set_cons_zero]
                  refine take_q 6 120 undef ⟨_, rfl, rfl, Or.inr ⟨by rfl, rfl⟩⟩ (by kernel_rfl) (by kernel_rfl) (by kernel_rfl) (fun _ _ _ h => h) hS ?_
                  simp only [List.setIfInBounds_toArray, List.set_cons_succ, List.set_cons_zero]
                  refine take_q 7 121 undef ⟨_, rfl, rfl, Or.inr ⟨by rfl, rfl⟩⟩ (by kernel_rfl) (by kernel_rfl) (by kernel_rfl) (fun _ _ _ h => h) hS ?_
                  simp only [List.setIfInBounds_toArray, List.set_cons_succ, List.set_cons_zero]
                  refine take_q 8 122 undef ⟨_, rfl, rfl, Or.inr ⟨by rfl, rfl⟩⟩ (by kernel_rfl) (by kernel_rfl) (by kernel_rfl) (fun _ _ _ h => h) hS ?_
                  simp only [List.setIfInBounds_toArray, List.set_cons_succ, List.set_cons_zero]
                  refine take_q 9 123 undef ⟨_, rfl, rfl, Or.inr ⟨by rfl, rfl⟩⟩ (by kernel_rfl) (by kernel_rfl) (by kernel_rfl) (fun _ _ _ h => h) hS ?_
                  simp only [List.setIfInBounds_toArray, List.set_cons_succ, List.set_cons_zero]
                  refine take_q 10 124 undef ⟨_, rfl, rfl, Or.inr ⟨by rfl, rfl⟩⟩ (by kernel_rfl) (by kernel_rfl) (by kernel_rfl) (fun _ _ _ h => h) hS ?_
                  simp only [List.setIfInBounds_toArray, List.set_cons_succ, List.set_cons_zero]
                  refine take_q 11 125 undef ⟨_, rfl, rfl, Or.inr ⟨by rfl, rfl⟩⟩ (by kernel_rfl) (by kernel_rfl) (by kernel_rfl) (fun _ _ _ h => h) hS ?_
                  simp only [List.setIfInBounds_toArray, List.set_cons_succ, List.set_cons_zero]
                  refine take_q 12 126 undef ⟨_, rfl, rfl, Or.inr ⟨by rfl, rfl⟩⟩ (by kernel_rfl) (by kernel_rfl) (by kernel_rfl) (fun _ _ _ h => h) hS ?_
                  simp only [List.setIfInBounds_toArray, List.set_cons_succ, List.set_cons_zero]
                  refine take_q 13 127 undef ⟨_, rfl, rfl, Or.inr ⟨by rfl, rfl⟩⟩ (by kernel_rfl) (by kernel_rfl) (by kernel_rfl) (fun _ _ _ h => h) hS ?_
                  simp only [List.setIfInBounds_toArray, List.set_cons_succ, List.set_cons_zero]
                  refine take_q 14 128 undef ⟨_, rfl, rfl, Or.inr ⟨by rfl, rfl⟩⟩ (by kernel_rfl) (by kernel_rfl) (by kernel_rfl) (fun _ _ _ h => h) hS ?_
                  simp only [List.setIfInBounds_toArray, List.set_cons_succ, List.set_cons_zero]
                  refine take_q 15 129 undef ⟨_, rfl, rfl, Or.inr ⟨by rfl, rfl⟩⟩ (by kernel_rfl) (by kernel_rfl) (by kernel_rfl) (fun _ _ _ h => h) hS ?_
                  simp only [List.setIfInBounds_toArray, List.set_cons_succ, List.set_cons_zero]
                  refine take_q 16 130 undef ⟨_, rfl, rfl, Or.inr ⟨by rfl, rfl⟩⟩ (by kernel_rfl) (by kernel_rfl) (by kernel_rfl) (fun _ _ _ h => h) hS ?_
                  simp only [List.setIfInBounds_toArray, List.set_cons_succ, List.set_cons_zero]
                  refine take_q 17 131 undef ⟨_, rfl, rfl, Or.inr ⟨by rfl, rfl⟩⟩ (by kernel_rfl) (by kernel_rfl) (by kernel_rfl) (fun _ _ _ h => h) hS ?_
                  simp only [List.setIfInBounds_toArray, List.set_cons_succ, List.set_cons_zero]
                  refine take_q 18 132 (.bool false) ⟨_, rfl, rfl, Or.inl ⟨by rfl, fun w hSw => by go_simp⟩⟩ (by kernel_rfl) (by kernel_rfl) (by kernel_rfl) (fun _ _ _ h => h) hS ?_
                  simp only [List.setIfInBounds_toArray, List.set_cons_succ, List.set_cons_zero]
                  refine wpAnyH_done (by kernel_rfl) ?_ _
                  refine np_v ?_
                  go_wp2
                  go_roundw
                  case rel => exact ⟨q + 1, by omega, by go_num, Hid.intro (hS.via HBB.out)⟩
                  case measure => simp [intOf]; omega
              · have hq' : ¬ (q : Int) < (k : Int) := by omega
                go_wp2
                go_roundw
                case rel => exact ⟨k + 1, by omega, by go_num, HW6.out.trans (hbq.out.mono HW6.out.size1)⟩
                case measure => simp [intOf]; omega
          · have hf' : fit 30 t1 = false := by simpa using hf
            refine (Encode_no n t1 _ wr V1.out.vs hf').mono ?_
            rintro e w2 ⟨hb2, rfl⟩
            have V2 := Hid.intro (V1.out.via hb2)
            have H2 := Hid.intro hb2
            clear hb2 p1 p2 p3 p4 p5 hbox
            have hbox := V2.out.box
            obtain ⟨p1, p2, p3, p4, p5⟩ := V2.out.cel
            go_wp2_with fail
            refine (check_any n t1 _ _ V2.out.vs).mono ?_
            rintro e w3 ⟨rfl, hb3⟩
            rw [hf']
            have H3 := Hid.intro (hb3.via H2.out)
            clear hb3 p1 p2 p3 p4 p5 hbox
            go_wp2
            go_roundw
            case rel => exact ⟨k + 1, by omega, by go_num, hbw.out.trans (H3.out.mono hlw)⟩
            case measure => simp [intOf]; omega
        · have hlt2' : ¬ (k : Int) < 10 := by omega
          have i1 : (k : Int) < (ts.length : Int) := by omega
          go_wp2_with (go_at_call 10; refine (wakes_any _).mono ?_; rintro e w2 ⟨rfl, hb2⟩)
          go_ret
          exact ⟨rfl, hb2.via (below_box hbw.out)⟩
      · have hlt' : ¬ (k : Int) < (ts.length : Int) := by omega
        go_wp2_with (go_at_call 10; refine (wakes_any _).mono ?_; rintro e w2 ⟨rfl, hb2⟩)
        go_ret
        exact ⟨rfl, hb2.via (below_box hbw.out)⟩
end Go.Proofs.YthhflcdmicpcdaaDoor
