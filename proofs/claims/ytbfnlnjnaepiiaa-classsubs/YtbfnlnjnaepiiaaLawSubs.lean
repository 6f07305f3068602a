/- ClassSubs: the walk. -/
import Derived.Test.YtbfnlnjnaepiiaaCRow
namespace Go.Proofs.Ytbfnlnjnaepiiaa
open Go.RowKit Go.Maps

theorem bulk_mem : ∀ {l : List Cl} {c : Cl}, c ∈ l → c.f.length ≤ bulk l
  | [], _, h => by simp at h
  | d :: l, c, h => by
    rw [bulk]
    rcases List.mem_cons.1 h with rfl | h
    · omega
    · have := bulk_mem h; omega

/-- It tells yes or no. -/
def SomeB (e : Ending) : Prop := ∃ b, e = .returned (.bool b)

set_option maxRecDepth 100000 in
set_option maxHeartbeats 4000000 in
/-- light, whatever its sum: it tells something. -/
theorem light_some {P : Nat → Prop} {w : World} (l : List Cl) (sa : Value) (ha : Cv P w l sa) :
    Calls Try.prog 8 #[sa] w fun e w' => SomeB e ∧ w' = w := by
  have HA := Hid.intro ha
  obtain ⟨a0, ca, rfl, a1, a2⟩ := ha.form
  go_enter Try.func8, Try.ntmps8
  go_wp2_with fail
  go_loopw [3, 4] (fun n i wr => wr = w ∧ ∃ (k : Nat) (z : Int), k ≤ l.length ∧ i = .int .i64 (k : Int) ∧ n = .int .i64 z) (fun _ i _ => l.length - (intOf i).toNat)
  case atStart => exact ⟨rfl, 0, 0, by omega, rfl, rfl⟩
  case round =>
    obtain ⟨hw, k, z, hk, rfl, rfl⟩ := hrel
    subst wr
    by_cases hlt : (k : Int) < (l.length : Int)
    · have hlt' : k < l.length := by omega
      obtain ⟨b, o, rfl, sv', ⟨d0, d1, d2⟩, hfv⟩ := HA.out.cell hlt'
      obtain ⟨xa, xc, rfl, y1, y2⟩ := hfv.form
      go_wp2
      go_roundw
      case rel => exact ⟨trivial, k + 1, _, by omega, by go_num, rfl⟩
      case measure => simp [intOf]; omega
    · go_wp2
      go_ret
      exact ⟨⟨_, rfl⟩, rfl⟩

theorem bulk_bound (M : Nat) : ∀ (l : List Cl), (∀ c ∈ l, c.f.length ≤ M) → bulk l ≤ l.length * (M + 1)
  | [], _ => by simp [bulk]
  | c :: l, h => by
    have h1 := bulk_bound M l (fun d hd => h d (List.mem_cons_of_mem _ hd))
    have h2 := h c (by simp)
    rw [bulk, List.length_cons, Nat.add_mul]
    omega

set_option maxRecDepth 100000 in
set_option maxHeartbeats 8000000 in
theorem lawSubs (w : World) (l : List Cl) (sv : Value) (hl : Cv Any w l sv) (hc : ∀ c ∈ l, c.f.length ≤ 4398046511104) :
    Calls Try.prog 6 #[sv] w fun e w' => e = .returned (.bool true) ∧ Below w.heap.size w w' := by
  have HL := Hid.intro hl
  have HWk := Hid.intro wakes_any
  by_cases h64 : (64 : Int) ≤ (l.length : Int)
  · have HLs := Hid.intro (light_some l sv hl)
    obtain ⟨a0, cap, rfl, hc1, hc2⟩ := hl.form
    go_enter Try.func6, Try.ntmps6
    go_wp2_with fail
    refine HLs.out.mono ?_
    rintro e w1 ⟨hb0, hw1⟩; subst w1
    obtain ⟨b, rfl⟩ := hb0
    cases b
    all_goals (
      go_wp2_with fail
      refine (HWk.out _).mono ?_
      rintro e w1 ⟨rfl, hb1⟩
      go_wp2
      go_ret
      exact ⟨rfl, hb1⟩)
  have h64' : l.length < 64 := by omega
  have hb : bulk l ≤ 4611686018427387904 := by
    have := bulk_bound 4398046511104 l hc
    have h2 : l.length * (4398046511104 + 1) ≤ 64 * (4398046511104 + 1) := Nat.mul_le_mul_right _ (by omega)
    omega
  clear hc
  have HLi := light_any l sv hl hb
  cases hli : decide (bulk l ≤ 1500) with
  | false =>
    rw [hli] at HLi
    obtain ⟨a0, cap, rfl, hc1, hc2⟩ := hl.form
    go_enter Try.func6, Try.ntmps6
    go_wp2_with fail
    refine HLi.mono ?_
    rintro e w1 ⟨rfl, hw1⟩; subst w1
    go_wp2_with fail
    refine (HWk.out _).mono ?_
    rintro e w1 ⟨rfl, hb1⟩
    go_wp2
    go_ret
    exact ⟨rfl, hb1⟩
  | true =>
    rw [hli] at HLi
    have hbl : bulk l ≤ 1500 := by simpa using hli
    have HN := Hid.intro (new_any l sv hl (fun c hc => by have := bulk_mem hc; omega))
    obtain ⟨a0, cap, rfl, hc1, hc2⟩ := hl.form
    · cases hnt : newT l with
      | none =>
        rw [hnt] at HN
        go_enter Try.func6, Try.ntmps6
        go_wp2_with fail
        refine HLi.mono ?_
        rintro e w1 ⟨rfl, hw1⟩; subst w1
        go_wp2_with fail
        refine HN.out.mono ?_
        rintro e w1 ⟨hb1, ⟨-, rfl⟩ | ⟨T, g, h, -⟩⟩
        · go_wp2_with fail
          refine (HWk.out _).mono ?_
          rintro e w2 ⟨rfl, hb2⟩
          have HB2 := Hid.intro (hb2.via hb1)
          clear hb1 hb2
          go_wp2
          go_ret
          exact ⟨rfl, HB2.out⟩
        · cases h
      | some T =>
        rw [hnt] at HN
        have HZ := Hid.intro (fun (w : World) (g base : Nat) (h : TabB base w g T) => has_any h.tab zz9)
        cases hz : hasT T zz9 with
        | true =>
          rw [hz] at HZ
          go_enter Try.func6, Try.ntmps6
          go_wp2_with fail
          refine HLi.mono ?_
          rintro e w1 ⟨rfl, hw1⟩; subst w1
          go_wp2_with fail
          refine HN.out.mono ?_
          rintro e w1 ⟨hb1, ⟨h, -⟩ | ⟨T', g, h, hW, rfl, hT⟩⟩
          · cases h
          · cases h
            go_wp2_with fail
            refine (HZ.out _ _ _ hT).mono ?_
            rintro e w2 ⟨rfl, hb2⟩
            have HB2 := Hid.intro (hb2.via hb1)
            clear hb1 hb2
            go_wp2_with fail
            refine (HWk.out _).mono ?_
            rintro e w3 ⟨rfl, hb3⟩
            have HB3 := Hid.intro (hb3.via HB2.out)
            clear hb3
            go_wp2
            go_ret
            exact ⟨rfl, HB3.out⟩
        | false =>
          rw [hz] at HZ
          go_enter Try.func6, Try.ntmps6
          go_wp2_with fail
          refine HLi.mono ?_
          rintro e w1 ⟨rfl, hw1⟩; subst w1
          go_wp2_with fail
          refine HN.out.mono ?_
          rintro e w1 ⟨hb1, ⟨h, -⟩ | ⟨T', g, h, hW, rfl, hT⟩⟩
          · cases h
          · cases h
            go_wp2_with fail
            refine (HZ.out _ _ _ hT).mono ?_
            rintro e w2 ⟨rfl, hb2⟩
            have HB2 := Hid.intro (hb2.via hb1)
            have HT2 := Hid.intro (hT.below hb2)
            have HW := Hid.intro hW
            clear hb1 hb2 hT hW
            obtain ⟨a0', cap', ps, hps, hpf, hsv, -, -, hrow⟩ := (HL.out.below HB2.out).row
            have hpl : ps.length = l.length := by rw [← hps, List.length_map]
            obtain ⟨rfl, rfl⟩ : a0' = a0 ∧ cap' = cap := by simp at hsv; exact ⟨hsv.1.symm, hsv.2.2.symm⟩
            obtain ⟨v3, w3, hrun3, o3, gr3⟩ := append_cls 22 (World.ownsRow_nil w2 w2.heap.size 35 3) ps a0' cap' (fun p hp => by obtain ⟨a, c, h, -⟩ := (hpf p hp).form; exact ⟨a, _, c, h⟩) hrow (by omega) (Nat.le_refl _)
            rw [hpl] at hrun3
            have hB3 : Below w2.heap.size w2 w3 := (Below.refl w2.heap.size w2).grown gr3 (Nat.le_refl _) (fun k e => by cases e)
            simp only [List.nil_append, Nat.zero_add] at o3
            have hB4 : Below w3.heap.size w3 (w3.alloc (.cells #[.string zz9, .string ⟨#[]⟩, .slice none 0 0] 35)) := below_al (Below.refl _ _) _
            obtain ⟨v5, w5, hrun5, o5, gr5⟩ := append_cls 22 (o3.alloc (.cells #[.string zz9, .string ⟨#[]⟩, .slice none 0 0] 35)) [(zzC, .slice none 0 0)] (some ⟨w3.heap.size, 0, none⟩) 1 (fun p hp => by simp at hp; subst hp; exact ⟨_, _, _, rfl⟩) (fun _ => ⟨w3.heap.size, 0, rfl, World.news_of_block (cs := #[.string zz9, .string ⟨#[]⟩, .slice none 0 0]) (t := 35) (fr := (0, 0)) (heap_alloc_new w3 _)⟩) (by simp; omega) (by have := hB3.size; simp; omega)
            have hB5 : Below w2.heap.size w2 w5 := (below_al hB3 _).grown gr5 (by have := hB3.size; simp; omega) (fun k e => (o3.lt k e).1)
            have hcv : Cv Any w5 (l ++ [zzC]) v5 := by
              have := own_cv (w := w5) (ps ++ [(zzC, .slice none 0 0)]) (fun p hp => by
                rcases List.mem_append.1 hp with h | h
                · exact (hpf p h).below hB5
                · simp at h; subst h; exact ⟨none, 0, rfl, by simp [zzC], by unfold maxLen; omega, fun h => by simp [zzC] at h⟩) (n := ps.length + 1) (base := w2.heap.size) (v := v5) (by rw [List.flatMap_append]; exact o5)
              rw [List.map_append, hps] at this
              exact this
            have hnz := new_zz hnt HW.out hz h64'
            have HN2 := new_any (l ++ [zzC]) v5 hcv (fun c hc => by
              rcases List.mem_append.1 hc with h | h
              · have := bulk_mem h; omega
              · simp at h; subst h; simp [zzC])
            rw [hnz] at HN2
            have HN2' := Hid.intro HN2
            have HB5 := Hid.intro (hB5.via HB2.out)
            have HT5 := Hid.intro (HT2.out.below hB5)
            clear HN2 hcv hB5 hB4 hB3 o3 o5 gr3 gr5 hrow hpf hsv
            go_wp2_with (at_builtin; first | refine Lib.wpList_append_run _ rfl _ _ _ _ rfl _ _ rfl rfl _ _ hrun3 ?_ | refine Lib.wpList_append_run _ rfl _ _ _ _ rfl _ _ rfl rfl _ _ hrun5 ?_)
            refine HN2'.out.mono ?_
            rintro e w6 ⟨hb6, ⟨h, -⟩ | ⟨U, gu, h, hWu, rfl, hTu⟩⟩
            · cases h
            · cases h
              have HB6 := Hid.intro (hb6.via HB5.out)
              have HT6 := Hid.intro (HT5.out.below hb6)
              have HU6 := Hid.intro hTu
              have HWu := Hid.intro hWu
              have hlT := newT_length hnt
              clear hb6 hTu hWu HT5 HB5 HN2' hrun3 hrun5 HT2 HB2 HN HZ HLi
              have HLw := Hid.intro (HL.out.below HB6.out)
              go_wp2_with fail
              go_loopw [7] (fun i wr => Hid (Below w6.heap.size w6 wr) ∧ ∃ k : Nat, k ≤ l.length ∧ i = .int .i64 (k : Int)) (fun i _ => l.length - (intOf i).toNat)
              case atStart => exact ⟨Below.refl _ _, 0, by omega, rfl⟩
              case round =>
                obtain ⟨HBR, k, hk, rfl⟩ := hrel
                by_cases hlt : (k : Int) < (l.length : Int) ∧ (k : Int) < 20
                · obtain ⟨hlt1, hlt2⟩ := hlt
                  have hlt' : k < l.length := by omega
                  obtain ⟨b, o, rfl, svk, ⟨d0, d1, d2⟩, -⟩ := (HLw.out.below HBR.out).cell hlt'
                  have hx : hasT T l[k].n = true := newT_has hnt (List.getElem_mem hlt')
                  have hxu : hasT (T ++ [zzC]) l[k].n = true := by rw [hasT_app, hx]; rfl
                  obtain ⟨hsz, -⟩ := subs_zz HW.out hz hx
                  have hself : l[k].n ∈ subsT T l[k].n := subs_mem.2 ⟨hx, isT_self HW.out hx⟩
                  have S1 := subs_any (HT6.out.below HBR.out) HW.out l[k].n (by omega)
                  rw [hx] at S1
                  have HS1 := Hid.intro S1
                  clear S1
                  go_wp2_with fail
                  refine HS1.out.mono ?_
                  rintro e w7 ⟨hb7, ⟨h, -⟩ | ⟨-, v7, rfl, O7⟩⟩
                  · cases h
                  · have HB7 := Hid.intro (hb7.via HBR.out)
                    have S2 := subs_any (HU6.out.below HB7.out) HWu.out l[k].n (by simp; omega)
                    rw [hxu, hsz] at S2
                    have HS2 := Hid.intro S2
                    have d0' := (hb7.cell (p := ⟨b, o + k * 3, none⟩) (cell_lt d0)).trans d0
                    clear S2 hb7 HS1
                    go_wp2_with fail
                    refine HS2.out.mono ?_
                    rintro e w8 ⟨hb8, ⟨h, -⟩ | ⟨-, v8, rfl, O8⟩⟩
                    · cases h
                    · have HB8 := Hid.intro (hb8.via HB7.out)
                      have V7 := Hid.intro (own_sv (P := Any) (own_below O7.out hb8) (fun _ _ => trivial))
                      have V8 := Hid.intro (own_sv (P := Any) O8.out (fun _ _ => trivial))
                      have d0'' := (hb8.cell (p := ⟨b, o + k * 3, none⟩) (cell_lt d0')).trans d0'
                      clear hb8 HS2 O7 O8 d0 d1 d2 d0'
                      obtain ⟨a7, c7, rfl, x7, y7⟩ := V7.out.form
                      obtain ⟨a8, c8, rfl, x8, y8⟩ := V8.out.form
                      have HE := Hid.intro (eqTexts_same _ _ _ V7.out V8.out)
                      go_wp2_with fail
                      refine HE.out.mono ?_
                      rintro e w9 ⟨rfl, hb9⟩
                      have HB9 := Hid.intro (hb9.via HB8.out)
                      have V9 := Hid.intro (V7.out.below hb9)
                      have d9 := (hb9.cell (p := ⟨b, o + k * 3, none⟩) (cell_lt d0'')).trans d0''
                      have HIx := Hid.intro (index0_any _ _ V9.out l[k].n)
                      have hpl0 : 0 ≤ plI (subsT T l[k].n) l[k].n := plN_mem _ _ 0 hself
                      clear hb9 HE V7 V8 d0''
                      go_wp2_with fail
                      refine HIx.out.mono ?_
                      rintro e w9' ⟨rfl, hw9⟩
                      subst w9'
                      go_wp2_with fail
                      go_loopw [12] (fun i wr => Hid (Below w9.heap.size w9 wr) ∧ ∃ j : Nat, j ≤ (subsT T l[k].n).length ∧ i = .int .i64 (j : Int)) (fun i _ => (subsT T l[k].n).length - (intOf i).toNat)
                      case atStart => exact ⟨Below.refl _ _, 0, by omega, rfl⟩
                      case round =>
                        obtain ⟨HBM, j, hj, rfl⟩ := hrel
                        by_cases hjt : (j : Int) < ((subsT T l[k].n).length : Int)
                        · have hjt' : j < (subsT T l[k].n).length := by omega
                          obtain ⟨b7, o7, rfl, f0⟩ := (V9.out.below HBM.out).cell hjt'
                          have e0 := (HBM.out.cell (p := ⟨b, o + k * 3, none⟩) (cell_lt d9)).trans d9
                          obtain ⟨hsh, hsi⟩ := subs_mem.1 (List.getElem_mem hjt')
                          have hzf := (subs_zz HW.out hz hsh).2
                          have HBX := Hid.intro (HBM.out.via HB9.out)
                          generalize hsj : (subsT T l[k].n)[j] = sj at *
                          have I1 := fun w' (hb : Below wr.heap.size wr w') => is_any (HT6.out.below (hb.via HBX.out)).tab HW.out sj l[k].n
                          rw [hsi] at I1
                          have HI1 := Hid.intro I1
                          have I2 := fun w' (hb : Below wr.heap.size wr w') => is_any (HU6.out.below (hb.via HBX.out)).tab HWu.out zz9 sj
                          rw [hzf] at I2
                          have HI2 := Hid.intro I2
                          clear I1 I2
                          have HK : Hid (∀ w', Below wr.heap.size wr w' → w'.cell? ⟨b7, o7 + j, none⟩ = some (.string sj) ∧ w'.cell? ⟨b, o + k * 3, none⟩ = some (.string l[k].n)) := fun w' hb => ⟨(hb.cell (p := ⟨b7, o7 + j, none⟩) (cell_lt f0)).trans f0, (hb.cell (p := ⟨b, o + k * 3, none⟩) (cell_lt e0)).trans e0⟩
                          go_wp2
                          go_region_held3 (fun w' => w'.cell? ⟨b7, o7 + j, none⟩ = some (.string sj) ∧ w'.cell? ⟨b, o + k * 3, none⟩ = some (.string l[k].n)) ((first | (with_reducible exact HK.out _ D2.out) | (with_reducible exact HK.out _ D1.out) | (with_reducible exact HK.out _ (Below.refl _ _).drew) | (with_reducible exact HK.out _ (Below.refl _ _)))) ((first | (go_at_call_of 14 (Value.pointer (some ⟨g, 0, none⟩)); refine (HI1.out _ (Below.refl _ _).drew).mono ?_; rintro e w10 ⟨rfl, hb10⟩; have D1 := Hid.intro (Below.trans (Below.refl wr.heap.size wr).drew hb10); clear hb10) | (go_at_call_of 14 (Value.pointer (some ⟨gu, 0, none⟩)); refine (HI2.out _ D1.out).mono ?_; rintro e w11 ⟨rfl, hb11⟩; have D2 := Hid.intro (hb11.via D1.out); clear hb11)))
                          have HB11 : Hid (Below wr.heap.size wr w11) := D2
                          obtain ⟨f1, e1⟩ := HK.out _ HB11.out
                          have HX11 := Hid.intro (HB11.out.via HBX.out)
                          have S3 := subs_any (HT6.out.below HX11.out) HW.out sj (by omega)
                          rw [hsh] at S3
                          have HS3 := Hid.intro S3
                          have hin : Hid (∀ z ∈ subsT T sj, z ∈ subsT T l[k].n) := fun z hz' => by
                            obtain ⟨m1, m2⟩ := subs_mem.1 hz'
                            exact subs_mem.2 ⟨m1, isT_trans HW.out m2 hsi⟩
                          have V11 := Hid.intro (V9.out.below (HB11.out.via HBM.out))
                          clear S3 HI1 HI2 HK f0 e0
                          go_wp2_with fail
                          refine HS3.out.mono ?_
                          rintro e w12 ⟨hb12, ⟨h, -⟩ | ⟨-, v12, rfl, O12⟩⟩
                          · cases h
                          · have HB12 := Hid.intro (hb12.via HB11.out)
                            have V12 := Hid.intro (own_sv (P := Any) O12.out (fun _ _ => trivial))
                            have V11' := Hid.intro (V11.out.below hb12)
                            clear hb12 O12 HS3 V11
                            obtain ⟨a12, c12, rfl, x12, y12⟩ := V12.out.form
                            go_wp2_with fail
                            go_loopw [15] (fun i wr => Hid (Below w12.heap.size w12 wr) ∧ ∃ q : Nat, q ≤ (subsT T sj).length ∧ i = .int .i64 (q : Int)) (fun i _ => (subsT T sj).length - (intOf i).toNat)
                            case atStart => exact ⟨Below.refl _ _, 0, by omega, rfl⟩
                            case round =>
                              obtain ⟨HBQ, q, hq, rfl⟩ := hrel
                              by_cases hqt : (q : Int) < ((subsT T sj).length : Int)
                              · have hqt' : q < (subsT T sj).length := by omega
                                obtain ⟨b12, o12, rfl, q0⟩ := (V12.out.below HBQ.out).cell hqt'
                                have HIx := Hid.intro (index0_any _ _ (V11'.out.below HBQ.out) (subsT T sj)[q])
                                have hpl1 : 0 ≤ plI (subsT T l[k].n) (subsT T sj)[q] := plN_mem _ _ 0 (hin.out _ (List.getElem_mem hqt'))
                                go_wp2_with fail
                                refine HIx.out.mono ?_
                                rintro e w13 ⟨rfl, hw13⟩
                                subst w13
                                go_wp2
                                go_roundw
                                case rel => exact ⟨HBQ, q + 1, by omega, by go_num⟩
                                case measure => simp [intOf]; omega
                              · go_wp2
                                go_roundw
                                case rel => exact ⟨(HBQ.out.via HB12.out).via HBM.out, j + 1, by omega, by go_num⟩
                                case measure => simp [intOf]; omega
                        · go_wp2
                          go_roundw
                          case rel => exact ⟨HBM.out.via HB9.out, k + 1, by omega, by go_num⟩
                          case measure => simp [intOf]; omega
                · have S4 := subs_any (HU6.out.below HBR.out) HWu.out zz9 (by simp; omega)
                  rw [show hasT (T ++ [zzC]) zz9 = true by rw [hasT_app, show hasT [zzC] zz9 = true by kernel_rfl]; simp, subs_zz9 HW.out hz] at S4
                  have HS4 := Hid.intro S4
                  clear S4
                  go_wp2_with fail
                  all_goals (
                    refine HS4.out.mono ?_
                    rintro e w7 ⟨hb7, ⟨h, -⟩ | ⟨-, v7, rfl, O7⟩⟩
                    · cases h
                    · have HB7 := Hid.intro (hb7.via HBR.out)
                      have V7 := Hid.intro (own_sv (P := Any) (xs := [zz9]) O7.out (fun _ _ => trivial))
                      clear hb7 O7 HS4
                      obtain ⟨a7, c7, rfl, x7, y7⟩ := V7.out.form
                      have HE := Hid.intro (eqTexts_same [zz9] _ _ (V7.out.below (below_al (Below.refl _ _) _)) (sv_lit w7 [zz9] (by simp)))
                      go_wp2_with fail
                      refine HE.out.mono ?_
                      rintro e w8 ⟨rfl, hb8⟩
                      have HB8 := Hid.intro ((hb8.via (below_al (Below.refl _ _) _)).via HB7.out)
                      clear hb8 HE
                      go_wp2_with fail
                      refine (HWk.out _).mono ?_
                      rintro e w9 ⟨rfl, hb9⟩
                      have HB9 := Hid.intro ((hb9.via HB8.out).via HB6.out)
                      clear hb9
                      go_wp2
                      go_ret
                      exact ⟨rfl, HB9.out⟩)
end Go.Proofs.Ytbfnlnjnaepiiaa
