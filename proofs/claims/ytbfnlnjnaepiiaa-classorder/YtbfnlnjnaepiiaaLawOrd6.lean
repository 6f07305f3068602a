/- ClassOrder: the walk. -/
import Derived.Test.YtbfnlnjnaepiiaaCReg
import Derived.Deep.DeepCutAuto
namespace Go.Proofs.Ytbfnlnjnaepiiaa
open Go.RowKit Go.Maps

set_option maxRecDepth 100000 in
set_option maxHeartbeats 8000000 in
theorem lawOrd (w : World) (l : List Cl) (sv : Value) (hl : Cv Any w l sv) (hc : ∀ c ∈ l, c.f.length ≤ 4398046511104) :
    Calls Try.prog 5 #[sv] w fun e w' => e = .returned (.bool true) ∧ Below w.heap.size w w' := by
  have HL := Hid.intro hl
  have HWk := Hid.intro wakes_any
  by_cases h64 : (64 : Int) < (l.length : Int)
  · have HLs := Hid.intro (light_some l sv hl)
    have HN := Hid.intro (new_big l sv hl (by omega))
    obtain ⟨a0, cap, rfl, hc1, hc2⟩ := hl.form
    go_enter Try.func5, Try.ntmps5
    go_wp2_with fail
    refine HLs.out.mono ?_
    rintro e w1 ⟨hb0, hw1⟩; subst w1
    obtain ⟨b, rfl⟩ := hb0
    cases b
    · go_wp2_with fail
      refine (HWk.out _).mono ?_
      rintro e w1 ⟨rfl, hb1⟩
      go_wp2
      go_ret
      exact ⟨rfl, hb1⟩
    · go_wp2_with fail
      refine HN.out.mono ?_
      rintro e w1 ⟨hb1, rfl⟩
      go_wp2_with fail
      refine (HWk.out _).mono ?_
      rintro e w2 ⟨rfl, hb2⟩
      have HB2 := Hid.intro (hb2.via hb1)
      clear hb1 hb2
      go_wp2
      go_ret
      exact ⟨rfl, HB2.out⟩
  have h64' : l.length ≤ 64 := by omega
  have hb : bulk l ≤ 4611686018427387904 := by
    have := bulk_bound 4398046511104 l hc
    have h2 : l.length * (4398046511104 + 1) ≤ 64 * (4398046511104 + 1) := Nat.mul_le_mul_right _ (by omega)
    omega
  clear hc
  have HLi := light_any l sv hl hb
  cases hli : decide (bulk l ≤ 1500) with
  | false =>
    rw [hli] at HLi
    obtain ⟨a0, cap, rfl, hc1, hc2⟩ := hl.form
    go_enter Try.func5, Try.ntmps5
    go_wp2_with fail
    refine HLi.mono ?_
    rintro e w1 ⟨rfl, hw1⟩; subst w1
    go_wp2_with fail
    refine (HWk.out _).mono ?_
    rintro e w1 ⟨rfl, hb1⟩
    go_wp2
    go_ret
    exact ⟨rfl, hb1⟩
  | true =>
    rw [hli] at HLi
    have hbl : bulk l ≤ 1500 := by simpa using hli
    have HN := Hid.intro (new_any l sv hl (fun c hc => by have := bulk_mem hc; omega))
    obtain ⟨a0, cap, rfl, hc1, hc2⟩ := hl.form
    cases hnt : newT l with
    | none =>
      rw [hnt] at HN
      go_enter Try.func5, Try.ntmps5
      go_wp2_with fail
      refine HLi.mono ?_
      rintro e w1 ⟨rfl, hw1⟩; subst w1
      go_wp2_with fail
      refine HN.out.mono ?_
      rintro e w1 ⟨hb1, ⟨-, rfl⟩ | ⟨T, g, h, -⟩⟩
      · go_wp2_with fail
        refine (HWk.out _).mono ?_
        rintro e w2 ⟨rfl, hb2⟩
        have HB2 := Hid.intro (hb2.via hb1)
        clear hb1 hb2
        go_wp2
        go_ret
        exact ⟨rfl, HB2.out⟩
      · cases h
    | some T =>
      rw [hnt] at HN
      have HG := Hid.intro (newT_good hnt).1
      have hlT := newT_length hnt
      go_enter Try.func5, Try.ntmps5
      go_wp2_with fail
      refine HLi.mono ?_
      rintro e w1 ⟨rfl, hw1⟩; subst w1
      go_wp2_with fail
      refine HN.out.mono ?_
      rintro e w6 ⟨hb6, ⟨h, -⟩ | ⟨T', g, h, hW, rfl, hT⟩⟩
      · cases h
      · cases h
        have HB6 := Hid.intro hb6
        have HT6 := Hid.intro hT
        have HW := Hid.intro hW
        have HLw := Hid.intro (HL.out.below hb6)
        clear hb6 hT hW HN HLi
        go_wp2_with fail
        go_loopw [5] (fun i wr => Hid (Below w6.heap.size w6 wr) ∧ ∃ k : Nat, k ≤ l.length ∧ i = .int .i64 (k : Int)) (fun i _ => l.length - (intOf i).toNat)
        case atStart => exact ⟨Below.refl _ _, 0, by omega, rfl⟩
        case round =>
          rename World => w0
          obtain ⟨HBR, k, hk, rfl⟩ := hrel
          by_cases hlt : (k : Int) < (l.length : Int) ∧ (k : Int) < 20
          · obtain ⟨hlt1, hlt2⟩ := hlt
            have hlt' : k < l.length := by omega
            obtain ⟨b, o, rfl, svk, ⟨d0, d1, d2⟩, hfv⟩ := (HLw.out.below HBR.out).cell hlt'
            obtain ⟨xa, xc, rfl, -, -⟩ := hfv.form
            clear hfv
            obtain ⟨c, hcT, hcn, hcs, hcf⟩ := newT_at hnt HW.out hlt'
            have hff : fieldsT T l[k].n = c.f := by unfold fieldsT; rw [hcf]
            have hx : hasT T l[k].n = true := newT_has hnt (List.getElem_mem hlt')
            have HC := Hid.intro (And.intro hcT (And.intro hcn (And.intro hcs hcf)))
            have hc62 : c.f.length ≤ 62 := by
              obtain ⟨r, es, osv, -, -, -, -, -, -, -, g8⟩ := HT6.out
              exact g8 c hcT
            clear hcf
            have HA := Hid.intro (below_al (Below.refl w0.heap.size w0) (.cells #[.string l[k].n, .string l[k].s, .slice xa l[k].f.length xc] 35))
            have HK : Hid (∀ w', Below (w0.heap.size + 1) (w0.alloc (.cells #[.string l[k].n, .string l[k].s, .slice xa l[k].f.length xc] 35)) w' → w'.cell? ⟨w0.heap.size, 0, none⟩ = some (.string l[k].n) ∧ w'.cell? ⟨w0.heap.size, 1, none⟩ = some (.string l[k].s)) := fun w' hb => ⟨(hb.cell (p := ⟨w0.heap.size, 0, none⟩) (by simp)).trans (by simp), (hb.cell (p := ⟨w0.heap.size, 1, none⟩) (by simp)).trans (by simp)⟩
            have F1 := fields_any (HT6.out.below (HA.out.via HBR.out)) l[k].n
            rw [hx, hff] at F1
            have HF1 := Hid.intro F1
            clear F1
            go_wp2_with fail
            refine HF1.out.mono ?_
            rintro e w7 ⟨hb7, ⟨h, -⟩ | ⟨-, v7, rfl, FV7⟩⟩
            · cases h
            · have HA7 : Hid (Below (w0.heap.size + 1) (w0.alloc (.cells #[.string l[k].n, .string l[k].s, .slice xa l[k].f.length xc] 35)) w7) := hb7.mono (by simp)
              have HB7 := Hid.intro ((hb7.via HA.out).via HBR.out)
              have V7 : Hid (Fv Any w7 c.f v7) := FV7.out.move (fun _ _ _ _ => rfl) (fun _ _ => trivial)
              clear hb7 FV7 HF1 d0 d1 d2
              obtain ⟨a7, c7, rfl, y71, y72⟩ := V7.out.form
              obtain ⟨e0, e1⟩ := HK.out _ HA7.out
              have I1 := is_any (HT6.out.below HB7.out).tab HW.out l[k].n l[k].n
              rw [isT_self HW.out hx] at I1
              have HI1 := Hid.intro I1
              clear I1
              go_wp2_with fail
              refine HI1.out.mono ?_
              rintro e w8 ⟨rfl, hb8⟩
              have HA8 : Hid (Below (w0.heap.size + 1) (w0.alloc (.cells #[.string l[k].n, .string l[k].s, .slice xa l[k].f.length xc] 35)) w8) := HA7.out.trans (hb8.mono (by have := HA7.out.size; simp at this; omega))
              have HB8 := Hid.intro (hb8.via HB7.out)
              have V8 := Hid.intro (V7.out.below hb8)
              clear hb8 HI1 V7 e0 e1
              obtain ⟨e0, e1⟩ := HK.out _ HA8.out
              go_upto_if 78 with fail
              go_cut [] (fun wx => Hid (Below w8.heap.size w8 wx))
              case first =>
                cases h0 : l[k].s.toList.isEmpty with
                | true =>
                  go_wp2
                  go_meet
                  exact Below.refl _ _
                | false =>
                  have hne : c.s ≠ ⟨#[]⟩ := by
                    rw [HC.out.2.2.1]
                    intro e
                    have h1 : eqS l[k].s ⟨#[]⟩ = true := eqS_iff.2 e
                    rw [eqS_empty] at h1
                    have h2 : l[k].s.toList = [] := by simpa using h1
                    rw [h2] at h0
                    cases h0
                  obtain ⟨s1, s2, s3, s4⟩ := sup_at HW.out HG.out HC.out.1 hne
                  rw [HC.out.2.2.1] at s1 s2 s3 s4
                  rw [HC.out.2.1] at s3 s4
                  have hple := s2.length_le
                  have hpt := List.prefix_iff_eq_take.1 s2
                  generalize hsf : fieldsT T l[k].s = sf at *
                  have F2 := fields_any (HT6.out.below HB8.out) l[k].s
                  rw [s1, hsf] at F2
                  have HF2 := Hid.intro F2
                  have HPT := Hid.intro hpt
                  clear F2 hpt
                  go_wp2_with fail
                  refine HF2.out.mono ?_
                  rintro e w9 ⟨hb9, ⟨h, -⟩ | ⟨-, v9, rfl, FV9⟩⟩
                  · cases h
                  · have HA9 : Hid (Below (w0.heap.size + 1) (w0.alloc (.cells #[.string l[k].n, .string l[k].s, .slice xa l[k].f.length xc] 35)) w9) := HA8.out.trans (hb9.mono (by have := HA8.out.size; simp at this; omega))
                    have HB9 := Hid.intro hb9
                    have V9 : Hid (Fv Any w9 sf v9) := FV9.out.move (fun _ _ _ _ => rfl) (fun _ _ => trivial)
                    have V89 := Hid.intro ((V8.out.below hb9).take (k := sf.length) (by omega))
                    rw [← HPT.out] at V89
                    clear hb9 FV9 HF2 e0 e1
                    obtain ⟨e0, e1⟩ := HK.out _ HA9.out
                    obtain ⟨a9, c9, rfl, y91, y92⟩ := V9.out.form
                    have b1 : (sf.length : Int) ≤ (c.f.length : Int) := by omega
                    have b2 : (sf.length : Int) ≤ (c7 : Int) := by omega
                    have HE := Hid.intro (eqFields_same sf _ _ V89.out V9.out)
                    go_wp2_with fail
                    refine HE.out.mono ?_
                    rintro e w10 ⟨rfl, hb10⟩
                    have HA10 : Hid (Below (w0.heap.size + 1) (w0.alloc (.cells #[.string l[k].n, .string l[k].s, .slice xa l[k].f.length xc] 35)) w10) := HA9.out.trans (hb10.mono (by have := HA9.out.size; simp at this; omega))
                    have HB10 := Hid.intro (hb10.via HB9.out)
                    clear hb10 e0 e1 HE
                    obtain ⟨e0, e1⟩ := HK.out _ HA10.out
                    have I3 := is_any (HT6.out.below (HB10.out.via HB8.out)).tab HW.out l[k].n l[k].s
                    rw [s3] at I3
                    have HI3 := Hid.intro I3
                    clear I3
                    go_wp2_with fail
                    refine HI3.out.mono ?_
                    rintro e w11 ⟨rfl, hb11⟩
                    have HA11 : Hid (Below (w0.heap.size + 1) (w0.alloc (.cells #[.string l[k].n, .string l[k].s, .slice xa l[k].f.length xc] 35)) w11) := HA10.out.trans (hb11.mono (by have := HA10.out.size; simp at this; omega))
                    have HB11 := Hid.intro (hb11.via HB10.out)
                    clear hb11 e0 e1 HI3
                    obtain ⟨e0, e1⟩ := HK.out _ HA11.out
                    have I4 := is_any (HT6.out.below (HB11.out.via HB8.out)).tab HW.out l[k].s l[k].n
                    rw [s4] at I4
                    have HI4 := Hid.intro I4
                    clear I4
                    go_wp2_with fail
                    refine HI4.out.mono ?_
                    rintro e w12 ⟨rfl, hb12⟩
                    have HB12 := Hid.intro (hb12.via HB11.out)
                    clear hb12 HI4
                    go_wp2
                    go_meet
                    exact HB12
              case rest =>
                have HBc := Hid.intro (hcut.out.via HB8.out)
                have HAc : Hid (Below (w0.heap.size + 1) (w0.alloc (.cells #[.string l[k].n, .string l[k].s, .slice xa l[k].f.length xc] 35)) wc) := HA8.out.trans (hcut.out.mono (by have := HA8.out.size; simp at this; omega))
                have Vc := Hid.intro (V8.out.below hcut.out)
                clear hcut V8 e0 e1 HB7 HA7 HA8 HB8
                obtain ⟨i0, z0, hi, hz, hz1, hz2, hz3⟩ := zeroS
                go_wp2_with fail
                go_loopw [11, 12, 13] (fun va vn i wr => Hid (Below wc.heap.size wc wr) ∧ ∃ q z : Nat, q ≤ c.f.length ∧ i = .int .i64 (q : Int) ∧ va = .int .u64 (z : Int) ∧ Hid (z = 2 ^ q - 1) ∧ Hid (wr.ownsRow wc.heap.size 9 1 vn q ((c.f.take q).map (fun f => Value.string f.n)))) (fun _ _ i _ => c.f.length - (intOf i).toNat)
                case atStart => exact ⟨Below.refl _ _, 0, 0, by omega, rfl, rfl, rfl, World.ownsRow_nil _ _ _ _⟩
                case round =>
                  obtain ⟨HBQ, q, z, hq, rfl, rfl, HZ, O⟩ := hrel
                  by_cases hqt : (q : Int) < (c.f.length : Int)
                  · have hqt' : q < c.f.length := by omega
                    obtain ⟨b7, o7, rfl, f0, f1, f2⟩ := (Vc.out.below HBQ.out).cell hqt'
                    have HAq : Hid (Below (w0.heap.size + 1) (w0.alloc (.cells #[.string l[k].n, .string l[k].s, .slice xa l[k].f.length xc] 35)) wr) := HAc.out.trans (HBQ.out.mono (by have := HAc.out.size; simp at this; omega))
                    obtain ⟨e0, e1⟩ := HK.out _ HAq.out
                    have HM := Hid.intro (fun (w' : World) (hb : Below wr.heap.size wr w') (sv : Value) (hsv : Sv (wr.heap.size ≤ ·) w' [c.f[q].n] sv) => mask_any (HT6.out.below ((hb.via HBQ.out).via HBc.out)) l[k].n [c.f[q].n] sv hsv)
                    have hmo := mask_one HW.out HG.out HC.out.1 hqt'
                    rw [HC.out.2.1] at hmo
                    rw [hmo] at HM
                    obtain ⟨m, hm⟩ : ∃ m : Nat, m = 2 ^ q := ⟨_, rfl⟩
                    have hm62 : m < 2 ^ 62 := by rw [hm]; exact Nat.pow_lt_pow_right (by omega) (by omega)
                    have hz62 : z < 2 ^ 62 := by rw [HZ.out, ← hm]; omega
                    have hA1 : bits BinOp.and IntKind.u64 (z : Int) (m : Int) = 0 := by
                      rw [bits_and_u64_nat _ _ (by omega) (by omega), HZ.out, hm, and_pow]; rfl
                    have hA2 : bits BinOp.or IntKind.u64 (z : Int) (m : Int) = ((z ||| m : Nat) : Int) := bits_or_u64_nat _ _ (by omega) (by omega)
                    have HZ2 : Hid (z ||| m = 2 ^ (q + 1) - 1) := by rw [HZ.out, hm]; exact or_pow q
                    have hm0 : 0 < m := by rw [hm]; exact Nat.two_pow_pos q
                    have hm1 : ((m : Int) == 0) = false := by simp; omega
                    rw [← hm] at HM
                    clear hm hmo
                    generalize hzm : z ||| m = z2 at *
                    clear hzm
                    have HS : Hid (∀ w', Below wr.heap.size wr w' → w'.cell? ⟨w0.heap.size, 0, none⟩ = some (.string l[k].n) ∧ w'.cell? ⟨b7, o7 + q * 3, none⟩ = some (.string c.f[q].n)) := fun w' hb => ⟨(hb.cell (p := ⟨w0.heap.size, 0, none⟩) (cell_lt e0)).trans e0, (hb.cell (p := ⟨b7, o7 + q * 3, none⟩) (cell_lt f0)).trans f0⟩
                    have hB1 : Below wr.heap.size wr (wr.alloc (.cells #[.string c.f[q].n] 9)).drew := (below_al (Below.refl _ _) _).drew
                    have HM1 := Hid.intro (HM.out _ hB1 (.slice (some ⟨wr.heap.size, 0, none⟩) 1 1) (sv_lit wr [c.f[q].n] (by simp)))
                    have HB1 := Hid.intro hB1
                    clear hB1 HM
                    go_upto_region 22 with fail
                    go_region_held3 (fun w' => w'.cell? ⟨w0.heap.size, 0, none⟩ = some (.string l[k].n) ∧ w'.cell? ⟨b7, o7 + q * 3, none⟩ = some (.string c.f[q].n)) ((first | (with_reducible exact HS.out _ D2.out) | exact HS.out _ HB1.out | exact HS.out _ (Below.refl _ _).drew | exact HS.out _ (Below.refl _ _))) ((go_at_call 23; refine HM1.out.mono ?_; rintro e w10 ⟨rfl, hb10⟩; have D2 := Hid.intro (hb10.via HB1.out); clear hb10))
                    obtain ⟨e0', f0'⟩ := HS.out _ D2.out
                    have HB10 : Hid (Below wc.heap.size wc w10) := D2.out.via HBQ.out
                    have O2 := Hid.intro (own_below O.out D2.out)
                    clear e0 f0 e1 f1 f2 HM1 HB1 O HS
                    obtain ⟨hn1, hn2⟩ := news_one w10 c.f[q].n
                    have hbw : wc.heap.size ≤ (w10.alloc (.cells #[.string c.f[q].n] 9)).heap.size := by have := HB10.out.size; simp; omega
                    have h63 : q + 1 ≤ maxLen := by unfold maxLen; omega
                    go_wp2_with (at_builtin; refine wpList_append_lies _ rfl _ _ _ rfl wc.heap.size 9 i0 z0 1 16 Try.underlying23 hi hz hz2 hz3 hz1 (by omega) _ _ _ rfl (O2.out.alloc _) ⟨w10.heap.size, 0, none⟩ 1 1 [.string c.f[q].n] rfl rfl hn1 hn2 (by omega) h63 (by omega) hbw (w10.heap.size + 1) (by simp) ?_)
                    intro g4 cap4 w11 O4 gr4 at4 lt4
                    have HB11 : Hid (Below wc.heap.size wc w11) := own_step (below_al HB10.out _) gr4 (O2.out.alloc (.cells #[.string c.f[q].n] 9)) (Nat.le_refl _)
                    have O4' : Hid (w11.ownsRow wc.heap.size 9 1 (.slice (some ⟨g4, 0, none⟩) (q + 1) cap4) (q + 1) ((c.f.take (q + 1)).map (fun f => Value.string f.n))) := by
                      rw [List.take_succ_eq_append_getElem hqt', List.map_append, List.map_take]
                      exact O4
                    clear gr4 O4 at4 hn1 hn2
                    go_wp2
                    go_roundw
                    case rel => exact ⟨HB11, q + 1, z2, by omega, by go_num, rfl, HZ2, O4'⟩
                    case measure => simp [intOf]; omega
                  · have hqe : q = c.f.length := by omega
                    subst hqe
                    rw [List.take_length] at O
                    have hmap : c.f.map (fun f => Value.string f.n) = (c.f.map (·.n)).map Value.string := by rw [List.map_map]; rfl
                    rw [hmap] at O
                    have HBx := Hid.intro (HBQ.out.via HBc.out)
                    have VN := Hid.intro (own_sv (P := Any) O.out (fun _ _ => trivial))
                    obtain ⟨an, cn, hvn, yn1, yn2⟩ := VN.out.form
                    rw [List.length_map] at hvn yn1
                    have HAq : Hid (Below (w0.heap.size + 1) (w0.alloc (.cells #[.string l[k].n, .string l[k].s, .slice xa l[k].f.length xc] 35)) wr) := HAc.out.trans (HBQ.out.mono (by have := HAc.out.size; simp at this; omega))
                    obtain ⟨e0, e1⟩ := HK.out _ HAq.out
                    have M1 := mask_any (HT6.out.below HBx.out) l[k].n (c.f.map (·.n)) u12 VN.out
                    have hma := mask_all HW.out HG.out HC.out.1
                    rw [HC.out.2.1] at hma
                    rw [hma, ← HZ.out] at M1
                    have HM1 := Hid.intro M1
                    clear M1 hma O hmap
                    subst hvn
                    go_wp2_with fail
                    refine HM1.out.mono ?_
                    rintro e w13 ⟨rfl, hb13⟩
                    have HB13 := Hid.intro (hb13.via HBx.out)
                    have HA13 : Hid (Below (w0.heap.size + 1) (w0.alloc (.cells #[.string l[k].n, .string l[k].s, .slice xa l[k].f.length xc] 35)) w13) := HAq.out.trans (hb13.mono (by have := HAq.out.size; simp at this; omega))
                    clear hb13 HM1 VN HBx HAq e0 e1
                    have HL13 := Hid.intro (HLw.out.below HB13.out)
                    go_wp2_with fail
                    go_loopw [18] (fun i wr => Hid (Below w13.heap.size w13 wr) ∧ ∃ j : Nat, j ≤ l.length ∧ i = .int .i64 (j : Int)) (fun i _ => l.length - (intOf i).toNat)
                    case atStart => exact ⟨Below.refl _ _, 0, by omega, rfl⟩
                    case round =>
                      obtain ⟨HBj, j, hj, rfl⟩ := hrel
                      by_cases hjt : (j : Int) < (l.length : Int) ∧ (j : Int) < 20
                      · obtain ⟨hjt1, hjt2⟩ := hjt
                        have hjt' : j < l.length := by omega
                        go_wp2_with fail
                        go_loopw [19] (fun i wr => Hid (Below w13.heap.size w13 wr) ∧ ∃ n : Nat, n ≤ l.length ∧ i = .int .i64 (n : Int)) (fun i _ => l.length - (intOf i).toNat)
                        case atStart => exact ⟨HBj, 0, by omega, rfl⟩
                        case round =>
                          obtain ⟨HBn, n, hn, rfl⟩ := hrel
                          by_cases hnt : (n : Int) < (l.length : Int) ∧ (n : Int) < 20
                          · obtain ⟨hnt1, hnt2⟩ := hnt
                            have hnt' : n < l.length := by omega
                            have HBx := Hid.intro (HBn.out.via HB13.out)
                            obtain ⟨bj, oj, ej, svj, ⟨p0, -, -⟩, -⟩ := (HL13.out.below HBn.out).cell hjt'
                            obtain ⟨bn, on, en, svn, ⟨q0, -, -⟩, -⟩ := (HL13.out.below HBn.out).cell hnt'
                            obtain ⟨rfl, rfl⟩ : bj = b ∧ oj = o := by simp at ej; exact ⟨ej.1.symm, ej.2.symm⟩
                            obtain ⟨rfl, rfl⟩ : bn = bj ∧ on = oj := by simp at en; exact ⟨en.1.symm, en.2.symm⟩
                            have HAn : Hid (Below (w0.heap.size + 1) (w0.alloc (.cells #[.string l[k].n, .string l[k].s, .slice xa l[k].f.length xc] 35)) wr) := HA13.out.trans (HBn.out.mono (by have := HA13.out.size; simp at this; omega))
                            obtain ⟨e0, -⟩ := HK.out _ HAn.out
                            have HS : Hid (∀ w', Below wr.heap.size wr w' → w'.cell? ⟨w0.heap.size, 0, none⟩ = some (.string l[k].n) ∧ w'.cell? ⟨bn, on + j * 3, none⟩ = some (.string l[j].n) ∧ w'.cell? ⟨bn, on + n * 3, none⟩ = some (.string l[n].n)) := fun w' hb => ⟨(hb.cell (p := ⟨w0.heap.size, 0, none⟩) (cell_lt e0)).trans e0, (hb.cell (p := ⟨bn, on + j * 3, none⟩) (cell_lt p0)).trans p0, (hb.cell (p := ⟨bn, on + n * 3, none⟩) (cell_lt q0)).trans q0⟩
                            have I1 := Hid.intro (fun w' (hb : Below wr.heap.size wr w') => is_any (HT6.out.below (hb.via HBx.out)).tab HW.out l[k].n l[j].n)
                            have I2 := Hid.intro (fun w' (hb : Below wr.heap.size wr w') => is_any (HT6.out.below (hb.via HBx.out)).tab HW.out l[j].n l[n].n)
                            have I3 := Hid.intro (fun w' (hb : Below wr.heap.size wr w') => is_any (HT6.out.below (hb.via HBx.out)).tab HW.out l[k].n l[n].n)
                            have HTr := Hid.intro (fun (h1 : isT T l[k].n l[j].n = true) (h2 : isT T l[j].n l[n].n = true) => isT_trans HW.out h1 h2)
                            have j0 : (0 : Int) ≤ (j : Int) := by omega
                            have n0 : (0 : Int) ≤ (n : Int) := by omega
                            clear e0 p0 q0 HAn HBx ej en
                            generalize l[k].n = x1 at HS I1 I2 I3 HTr ⊢
                            generalize l[j].n = x2 at HS I1 I2 I3 HTr ⊢
                            generalize l[n].n = x3 at HS I1 I2 I3 HTr ⊢
                            go_upto_region 36 with fail
                            go_cut [232] (fun v wx => v = .bool false ∧ Hid (Below wr.heap.size wr wx))
                            case first =>
                              cases h1 : isT T x1 x2 with
                              | false =>
                                rw [h1] at I1
                                refine reg36A _ _ _ _ _ _ _ _ _ _ _ _ _ _ _ _ _ _ _ _ _ _ _ _ _ _ _ _ _ _ _ _ _ _ _ _ _ _ _ _ _ _ _ _ _ _ _ _ _ _ _ _ _ _ _ _ _ _ _ _ _ _ _ _ _ _ _ _ _ _ _ _ _ _ _ _ _ _ _ _ _ _ _ _ _ _ _ _ _ _ _ _ _ _ _ _ _ _ _ _ _ _ _ _ _ _ _ _ _ _ _ _ _ _ _ _ _ _ _ _ _ _ _ _ _ _ _ _ _ _ _ _ _ _ _ _ _ _ _ _ _ _ _ _ _ _ _ _ _ _ _ _ _ _ _ _ _ _ _ _ _ _ _ _ _ _ _ _ _ _ _ _ _ _ _ _ _ _ _ _ _ _ _ _ _ _ _ _ _ _ _ _ _ _ _ _ _ _ _ _ _ _ _ _ _ _ _ _ _ _ _ _ _ _ _ _ _ _ _ _ _ _ _ _ _ _ _ _ _ _ _ _ _ _ _ _ _ _ _ _ _ _ HS hjt1 hnt1 j0 n0 I1 (Hid.intro (fun y198 y199 y200 y201 y202 y203 y204 y205 y206 y207 y208 y209 y210 y211 y212 y213 y214 y215 y216 y217 y218 y219 y220 y221 y222 y223 y224 y225 y226 y227 y228 y229 y230 y231 wx hbx => ?_))
                                have HX := Hid.intro hbx
                                clear hbx
                                go_wp2_with fail
                                go_meet
                                exact ⟨rfl, HX⟩
                              | true =>
                                rw [h1] at I1
                                cases h2 : isT T x2 x3 with
                                | false =>
                                  rw [h2] at I2
                                  refine reg36B _ _ _ _ _ _ _ _ _ _ _ _ _ _ _ _ _ _ _ _ _ _ _ _ _ _ _ _ _ _ _ _ _ _ _ _ _ _ _ _ _ _ _ _ _ _ _ _ _ _ _ _ _ _ _ _ _ _ _ _ _ _ _ _ _ _ _ _ _ _ _ _ _ _ _ _ _ _ _ _ _ _ _ _ _ _ _ _ _ _ _ _ _ _ _ _ _ _ _ _ _ _ _ _ _ _ _ _ _ _ _ _ _ _ _ _ _ _ _ _ _ _ _ _ _ _ _ _ _ _ _ _ _ _ _ _ _ _ _ _ _ _ _ _ _ _ _ _ _ _ _ _ _ _ _ _ _ _ _ _ _ _ _ _ _ _ _ _ _ _ _ _ _ _ _ _ _ _ _ _ _ _ _ _ _ _ _ _ _ _ _ _ _ _ _ _ _ _ _ _ _ _ _ _ _ _ _ _ _ _ _ _ _ _ _ _ _ _ _ _ _ _ _ _ _ _ _ _ _ _ _ _ _ _ _ _ _ _ _ _ _ _ HS hjt1 hnt1 j0 n0 I1 I2 (Hid.intro (fun y198 y199 y200 y201 y202 y203 y204 y205 y206 y207 y208 y209 y210 y211 y212 y213 y214 y215 y216 y217 y218 y219 y220 y221 y222 y223 y224 y225 y226 y227 y228 y229 y230 y231 wx hbx => ?_))
                                  have HX := Hid.intro hbx
                                  clear hbx
                                  go_wp2_with fail
                                  go_meet
                                  exact ⟨rfl, HX⟩
                                | true =>
                                  have h3 := HTr.out h1 h2
                                  rw [h2] at I2
                                  rw [h3] at I3
                                  refine reg36C _ _ _ _ _ _ _ _ _ _ _ _ _ _ _ _ _ _ _ _ _ _ _ _ _ _ _ _ _ _ _ _ _ _ _ _ _ _ _ _ _ _ _ _ _ _ _ _ _ _ _ _ _ _ _ _ _ _ _ _ _ _ _ _ _ _ _ _ _ _ _ _ _ _ _ _ _ _ _ _ _ _ _ _ _ _ _ _ _ _ _ _ _ _ _ _ _ _ _ _ _ _ _ _ _ _ _ _ _ _ _ _ _ _ _ _ _ _ _ _ _ _ _ _ _ _ _ _ _ _ _ _ _ _ _ _ _ _ _ _ _ _ _ _ _ _ _ _ _ _ _ _ _ _ _ _ _ _ _ _ _ _ _ _ _ _ _ _ _ _ _ _ _ _ _ _ _ _ _ _ _ _ _ _ _ _ _ _ _ _ _ _ _ _ _ _ _ _ _ _ _ _ _ _ _ _ _ _ _ _ _ _ _ _ _ _ _ _ _ _ _ _ _ _ _ _ _ _ _ _ _ _ _ _ _ _ _ _ _ _ _ _ HS hjt1 hnt1 j0 n0 I1 I2 I3 (Hid.intro (fun y198 y199 y200 y201 y202 y203 y204 y205 y206 y207 y208 y209 y210 y211 y212 y213 y214 y215 y216 y217 y218 y219 y220 y221 y222 y223 y224 y225 y226 y227 y228 y229 y230 y231 wx hbx => ?_))
                                  have HX := Hid.intro hbx
                                  clear hbx
                                  go_wp2_with fail
                                  go_meet
                                  exact ⟨rfl, HX⟩
                            case rest =>
                              obtain ⟨rfl, HBc2⟩ := hcut
                              go_wp2
                              go_roundw
                              case rel => exact ⟨HBc2.out.via HBn.out, n + 1, by omega, by go_num⟩
                              case measure => simp [intOf]; omega
                          · go_wp2
                            all_goals (
                              go_roundw
                              case rel => exact ⟨HBn, j + 1, by omega, by go_num⟩
                              case measure => simp [intOf]; omega)
                      · go_wp2
                        all_goals (
                          go_roundw
                          case rel => exact ⟨HBj.out.via HB13.out, k + 1, by omega, by go_num⟩
                          case measure => simp [intOf]; omega)
          · go_wp2_with fail
            all_goals (
              refine (HWk.out _).mono ?_
              rintro e w7 ⟨rfl, hb7⟩
              have HB7 := Hid.intro ((hb7.via HBR.out).via HB6.out)
              clear hb7
              go_wp2
              go_ret
              exact ⟨rfl, HB7.out⟩)
end Go.Proofs.Ytbfnlnjnaepiiaa
