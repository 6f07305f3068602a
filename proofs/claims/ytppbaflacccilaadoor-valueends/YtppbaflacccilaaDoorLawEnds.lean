/- proctorlaw1.ValueEnds: it tells true. -/
import Derived.Test.YtppbaflacccilaaDoorEndR3
import Derived.Test.YtppbaflacccilaaDoorEndR4
import Derived.Test.YtppbaflacccilaaDoorEndR5
import Derived.Test.YtppbaflacccilaaDoorEndR12
import Derived.Test.YtppbaflacccilaaDoorWakes
namespace Go.Proofs.YtppbaflacccilaaDoor
open Go.RowKit

set_option maxRecDepth 20000 in
set_option maxHeartbeats 40000000 in
theorem valueEnds_walk (w : World) :
    Calls Tryd.prog 8 #[] w fun e w' => e = .returned (.bool true) ∧ Below w.heap.size w w' := by
  have HNeg : Hid (∀ (l1 : Option Addr) (n1 m1 : Nat) (w : World), Calls Tryd.prog 58 #[.agg #[.int .i64 2, .bool false, .int .i64 (-9223372036854775808), .string ⟨#[]⟩, .slice l1 n1 m1]] w fun e w' => e = .returned (.tuple #[.agg #[.int .i64 0, .bool false, .int .i64 0, .string ⟨#[]⟩, .slice none 0 0], .int .i64 2]) ∧ Below w.heap.size w w') := fun l1 n1 m1 w => by
    have := negate_any (-9223372036854775808) (by omega) (by omega) (by omega) false ⟨#[]⟩ l1 n1 m1 w
    simpa [narK, narI, narE] using this
  have HDiv : Hid (∀ (g : Nat) (w : World), Cel w g 0 (numT (-9223372036854775808)) (.slice none 0 0) → Cel w g 5 (numT (-1)) (.slice none 0 0) → Calls Tryd.prog 19 #[.int .i64 19, .slice (some ⟨g, 0, none⟩) 2 2] w fun e w' => e = .returned (.tuple #[.agg #[.int .i64 0, .bool false, .int .i64 0, .string ⟨#[]⟩, .slice none 0 0], .int .i64 2]) ∧ Below w.heap.size w w') := fun g w h1 h2 => by
    have := two_19 (-9223372036854775808) (-1) (by omega) (by omega) (by omega) (by omega) g w h1 h2
    simpa [divK, divI, divE] using this
  have HMod : Hid (∀ (g : Nat) (w : World), Cel w g 0 (numT (-9223372036854775808)) (.slice none 0 0) → Cel w g 5 (numT (-1)) (.slice none 0 0) → Calls Tryd.prog 19 #[.int .i64 20, .slice (some ⟨g, 0, none⟩) 2 2] w fun e w' => e = .returned (.tuple #[.agg #[.int .i64 2, .bool false, .int .i64 0, .string ⟨#[]⟩, .slice none 0 0], .int .i64 0]) ∧ Below w.heap.size w w') := fun g w h1 h2 => by
    have := two_20 (-9223372036854775808) (-1) (by omega) (by omega) (by omega) (by omega) g w h1 h2
    simpa [modK, modI, modE] using this
  have HMul : Hid (∀ (g : Nat) (w : World), Cel w g 0 (numT (-9223372036854775808)) (.slice none 0 0) → Cel w g 5 (numT (-1)) (.slice none 0 0) → Calls Tryd.prog 19 #[.int .i64 18, .slice (some ⟨g, 0, none⟩) 2 2] w fun e w' => e = .returned (.tuple #[.agg #[.int .i64 0, .bool false, .int .i64 0, .string ⟨#[]⟩, .slice none 0 0], .int .i64 2]) ∧ Below w.heap.size w w') := fun g w h1 h2 => by
    have := two_18 (-9223372036854775808) (-1) (by omega) (by omega) (by omega) (by omega) g w h1 h2
    simpa [narK, narI, narE] using this
  go_enter Tryd.func8, Tryd.ntmps8
  go_wp2_with fail
  refine (num_e (-9223372036854775808) _).mono ?_
  rintro e y0 ⟨rfl, hb0⟩
  go_wp2_with fail
  refine (apply_6 2 (numT (-9223372036854775808)) _ _ (one_lw (by simp [Cel, go_sem, numT]) (num_vs (by omega) (by omega) 1)) (fit_num _) 0 false 0 ⟨#[]⟩ none 0 0 2 ?HC).mono ?_
  case HC =>
    intro s1 w' v1 _
    obtain ⟨x1, x2, rfl, -, -⟩ := v1.form
    exact HNeg.out _ _ _ w'
  rintro e y1 ⟨rfl, hb1⟩
  have HK0 : Hid (∀ w', Below y1.heap.size y1 w' → Cel w' y0.heap.size 0 (numT (-9223372036854775808)) (.slice none 0 0)) := fun w' hb => Cel.below (by simp [Cel, go_sem, numT]) (hb.via hb1)
  have B1 := Hid.intro ((hb1.via (below2 _ _ _)).via hb0)
  clear hb0 hb1 HNeg
  generalize hgl : y0.heap.size = gl at *
  have HKP := Hid.intro (fun w' (hb : Below (y1.alloc (.cells #[.int .i64 0, .bool false, .int .i64 0, .string ⟨#[]⟩, .slice none 0 0] 32)).heap.size (y1.alloc (.cells #[.int .i64 0, .bool false, .int .i64 0, .string ⟨#[]⟩, .slice none 0 0] 32)) w') => HK0.out w' (hb.via (below_al (Below.refl _ y1) _)))
  have B1' := Hid.intro (below_al B1.out (.cells #[.int .i64 0, .bool false, .int .i64 0, .string ⟨#[]⟩, .slice none 0 0] 32))
  clear HK0 B1
  go_wp2
  generalize (y1.alloc (.cells #[.int .i64 0, .bool false, .int .i64 0, .string ⟨#[]⟩, .slice none 0 0] 32)) = W1 at *
  have HK : Hid (∀ w', Below W1.heap.size W1 w' → (w'.cell? ⟨gl, 0, none⟩ = some (.int .i64 2) ∧ w'.cell? ⟨gl, 1, none⟩ = some (.bool false) ∧ w'.cell? ⟨gl, 2, none⟩ = some (.int .i64 (-9223372036854775808)) ∧ w'.cell? ⟨gl, 3, none⟩ = some (.string ⟨#[]⟩) ∧ w'.cell? ⟨gl, 4, none⟩ = some (.slice none 0 0))) := fun w' hb => by
    obtain ⟨c0, c1, c2, c3, c4⟩ := HKP.out w' hb
    exact ⟨c0, c1, c2, c3, c4⟩
  refine endR3 _ _ W1 gl HK HDiv _ _ _ _ _ _ _ _ _ _ _ _ _ _ _ _ _ _ _ _ _ _ _ _ _ _ _ _ _ _ _ _ _ _ _ _ _ _ _ _ _ _ _ _ _ _ _ _ _ _ _ _ _ _ _ _ _ _ _ _ _ _ _ _ _ _ _ _ _ _ _ _ _ _ _ _ _ _ _ _ _ _ _ _ _ _ _ _ _ _ _ _ _ _ _ _ _ _ _ _ _ _ _ _ _ _ _ _ _ _ _ _ _ _ _ _ _ _ _ _ _ _ _ _ _ _ _ _ _ _ _ _ _ _ _ _ _ _ _ _ _ _ _ _ _ _ _ _ _ _ _ _ _ _ _ _ _ _ _ _ _ _ ?_
  intro u4 u5 u33 u34 u35 u36 u37 u38 u39 wc hcut
  try dsimp only
  skip
  obtain ⟨rfl, B2⟩ := hcut
  have HKP2 := Hid.intro (fun w' (hb : Below wc.heap.size wc w') => HKP.out w' (hb.via B2.out))
  have BW2 := Hid.intro (B2.out.via B1'.out)
  clear HKP B1' HK B2 HDiv
  generalize wc = W2 at *
  go_wp2
  have HK : Hid (∀ w', Below W2.heap.size W2 w' → (w'.cell? ⟨gl, 0, none⟩ = some (.int .i64 2) ∧ w'.cell? ⟨gl, 1, none⟩ = some (.bool false) ∧ w'.cell? ⟨gl, 2, none⟩ = some (.int .i64 (-9223372036854775808)) ∧ w'.cell? ⟨gl, 3, none⟩ = some (.string ⟨#[]⟩) ∧ w'.cell? ⟨gl, 4, none⟩ = some (.slice none 0 0))) := fun w' hb => by
    obtain ⟨c0, c1, c2, c3, c4⟩ := HKP2.out w' hb
    exact ⟨c0, c1, c2, c3, c4⟩
  refine endR4 _ _ W2 gl HK HMod _ _ _ _ _ _ _ _ _ _ _ _ _ _ _ _ _ _ _ _ _ _ _ _ _ _ _ _ _ _ _ _ _ _ _ _ _ _ _ _ _ _ _ _ _ _ _ _ _ _ _ _ _ _ _ _ _ _ _ _ _ _ _ _ _ _ _ _ _ _ _ _ _ _ _ _ _ _ _ _ _ _ _ _ _ _ _ _ _ _ _ _ _ _ _ _ _ _ _ _ _ _ _ _ _ _ _ _ _ _ _ _ _ _ _ _ _ _ _ _ _ _ _ _ _ _ _ _ _ _ _ _ _ _ _ _ _ _ _ _ _ _ _ _ _ _ _ _ _ _ _ _ _ _ _ _ _ _ _ _ _ _ ?_
  intro u6 u7 u40 u41 u42 u43 u44 u45 u46 wc hcut
  try dsimp only
  skip
  obtain ⟨gm, rfl, rfl, HM2⟩ := hcut
  have HKP3 := Hid.intro (fun w' (hb : Below wc.heap.size wc w') => HKP2.out w' (hb.via HM2.out.2))
  have BW3 := Hid.intro (HM2.out.2.via BW2.out)
  have HGM := Hid.intro HM2.out.1
  clear HKP2 BW2 HK HM2 HMod
  generalize wc = W3 at *
  go_wp2
  have HK : Hid (∀ w', Below W3.heap.size W3 w' → (w'.cell? ⟨gl, 0, none⟩ = some (.int .i64 2) ∧ w'.cell? ⟨gl, 1, none⟩ = some (.bool false) ∧ w'.cell? ⟨gl, 2, none⟩ = some (.int .i64 (-9223372036854775808)) ∧ w'.cell? ⟨gl, 3, none⟩ = some (.string ⟨#[]⟩) ∧ w'.cell? ⟨gl, 4, none⟩ = some (.slice none 0 0))) := fun w' hb => by
    obtain ⟨c0, c1, c2, c3, c4⟩ := HKP3.out w' hb
    exact ⟨c0, c1, c2, c3, c4⟩
  refine endR5 _ _ W3 gl HK HMul _ _ _ _ _ _ _ _ _ _ _ _ _ _ _ _ _ _ _ _ _ _ _ _ _ _ _ _ _ _ _ _ _ _ _ _ _ _ _ _ _ _ _ _ _ _ _ _ _ _ _ _ _ _ _ _ _ _ _ _ _ _ _ _ _ _ _ _ _ _ _ _ _ _ _ _ _ _ _ _ _ _ _ _ _ _ _ _ _ _ _ _ _ _ _ _ _ _ _ _ _ _ _ _ _ _ _ _ _ _ _ _ _ _ _ _ _ _ _ _ _ _ _ _ _ _ _ _ _ _ _ _ _ _ _ _ _ _ _ _ _ _ _ _ _ _ _ _ _ _ _ _ _ _ _ _ _ _ _ _ _ _ ?_
  intro u8 u9 u47 u48 u49 u50 u51 u52 u53 wc hcut
  try dsimp only
  skip
  obtain ⟨rfl, B4⟩ := hcut
  have BW4 := Hid.intro (B4.out.via BW3.out)
  have lgm0 := cell_lt HGM.out
  have gm4 := (B4.out.cell (p := ⟨gm, 2, none⟩) lgm0).trans HGM.out
  clear HKP3 BW3 HK B4 HMul HGM lgm0
  generalize wc = W4 at *
  have lgm := cell_lt gm4
  go_wp2_with fail
  refine (num_e 9223372036854775807 _).mono ?_
  rintro e v1 ⟨rfl, hv1⟩
  go_wp2_with fail
  refine (num_e 1 _).mono ?_
  rintro e v2 ⟨rfl, hv2⟩
  go_wp2_with fail
  refine (num_e (-1) _).mono ?_
  rintro e v3 ⟨rfl, hv3⟩
  have V3 := Hid.intro (hv3.via (hv2.via hv1))
  clear hv1 hv2 hv3
  go_wp2_with fail
  refine (aggregate_sum 2 [numT 9223372036854775807, numT 1, numT (-1)] _ _ (three_lw (by simp [Cel, go_sem, numT]) (by simp [Cel, go_sem, numT]) (by simp [Cel, go_sem, numT]) (num_vs (by omega) (by omega) 1) (num_vs (by omega) (by omega) 1) (num_vs (by omega) (by omega) 1)) ?hi ?hf ?hj 2 9223372036854775807 0 ?HN).mono ?_
  case hi => intro t ht; simp at ht; rcases ht with rfl | rfl | rfl <;> rfl
  case hf => intro t ht; simp at ht; rcases ht with rfl | rfl | rfl <;> simp [flat, numT]
  case hj => intro t ht; simp at ht; rcases ht with rfl | rfl | rfl <;> simp [numT]
  case HN =>
    intro w'
    have hs : sumT [numT 9223372036854775807, numT 1, numT (-1)] = 9223372036854775807 := by simp [sumT, numT]
    rw [hs]
    exact narrow_yes 9223372036854775807 (by omega) (by omega) w'
  rintro e y4 ⟨rfl, hb4⟩
  have D4 := Hid.intro (hb4.via (below_al V3.out _))
  have gm5 := (D4.out.cell (p := ⟨gm, 2, none⟩) lgm).trans gm4
  have BW5 := Hid.intro (D4.out.via BW4.out)
  have lg5 := cell_lt gm5
  clear hb4 D4 V3 BW4 gm4 lgm
  have HM : ∀ w : World, (Instr.makeSlice 22 (.int .i64 4096) (.int .i64 4096)).run Tryd.prog w = .ok (.slice (some ⟨w.heap.size, 0, none⟩) 4096 4096) (w.alloc (.cells (madeCells #[.int .i64 0, .bool false, .int .i64 0, .string ⟨#[]⟩, .slice none 0 0] (4096 * 5)) 32)) := fun w => make_vals w 4096 (by omega)
  have HMC := Hid.intro (fun (w : World) j (h : j < 4096) => made_cel w 4096 j h)
  obtain ⟨MC, hMC⟩ : ∃ MC, MC = madeCells #[.int .i64 0, .bool false, .int .i64 0, .string ⟨#[]⟩, .slice none 0 0] (4096 * 5) := ⟨_, rfl⟩
  rw [← hMC] at HM HMC
  clear hMC
  obtain ⟨C, hC, HMB⟩ := make_bytes
  obtain ⟨tx, htx, HCV'⟩ := conv_bytes
  have HCV : ∀ (w : World) (g : Nat), w.heap.size = g → (convert 27 9 (.slice (some ⟨g, 0, none⟩) 65536 65536)).run Tryd.prog (w.alloc (.cells C 5)) = .ok (.string tx) (w.alloc (.cells C 5)) := fun w g h => by subst h; exact HCV' C w hC
  clear HCV' hC
  obtain ⟨us, hul, huf, huv⟩ := long_lv (w := (y4.alloc (.cells #[.int .i64 2, .bool false, .int .i64 9223372036854775807, .string ⟨#[]⟩, .slice none 0 0] 32)).alloc (.cells MC 32)) (g := y4.heap.size + 1) 1 (Nat.le_refl _) (fun j h => by have := HMC.out (y4.alloc (.cells #[.int .i64 2, .bool false, .int .i64 9223372036854775807, .string ⟨#[]⟩, .slice none 0 0] 32)) j h; simpa using this)
  have HU := Hid.intro huv
  have HF := Hid.intro huf
  have hfu : fit 30 (lsT us) = true := by
    rw [fit_lsT us 29]
    simp only [Bool.and_eq_true, decide_eq_true_eq, List.all_eq_true]
    exact ⟨by omega, fun t ht => huf 29 t ht⟩
  have hf0 : fit 30 (lsT []) = true := by rw [fit_lsT [] 29]; simp
  clear huv huf HMC
  go_wp2_with fail
  refine (apply_addL 3 (lsT us) (lsT []) _ _ (two_lw (by simp [Cel, go_sem, lsT]) (by simp [Cel, go_sem, lsT]) (lsT_vs (HU.out.mono ?b1 (fun t v => Vs.below ?b1 2 t v))) (lsT_vs nil_lv)) hfu hf0 4 false 0 ⟨#[]⟩ us.length 0 (fun _ _ => True) (fun _ _ _ _ _ => trivial) ?HC).mono ?_
  case b1 => repeat (first | with_reducible exact Below.refl _ _ | with_reducible refine below_al ?_ _)
  case HC =>
    intro s1 s2 w' v1 v2 hb hsz
    refine (add_lists 2 29 _ _ _ _ _ _ us [] s1 s2 w' (v1.2.mono hb (fun t v => Vs.below hb 2 t v)) (v2.2.mono hb (fun t v => Vs.below hb 2 t v)) (by simp; omega) (HF.out 29) (fun t ht => by simp at ht)).mono ?_
    rintro e w'' ⟨sv', rfl, L, hb'⟩
    rw [List.append_nil] at L
    obtain ⟨ra, rc, rfl, -, -⟩ := L.out.form
    exact ⟨ra, rc, by rw [List.append_nil]; rfl, trivial, hb'⟩
  rintro e z1 ⟨ra, rc, rfl, -, hz1⟩
  have HP : Hid (∀ w', Below z1.heap.size z1 w' → Cel w' (y4.heap.size + 1 + 1) 0 (lsT us) (.slice (some ⟨y4.heap.size + 1, 0, none⟩) 4096 4096) ∧ Cel w' (y4.heap.size + 1 + 1 + 1 + 1) 0 (txT tx) (.slice none 0 0) ∧ Lv w' (Vs w' 2) us (.slice (some ⟨y4.heap.size + 1, 0, none⟩) 4096 4096)) := by
    intro w' hb
    have hv := hb.via hz1
    refine ⟨Cel.below (by simp [Cel, go_sem, lsT]) hv, Cel.below (by simp [Cel, go_sem, txT]) hv, ?_⟩
    have hv2 := hv.via (below_al (below_al (below_al (below_al (Below.refl _ _) _) _) _) _)
    exact HU.out.mono hv2 (fun t v => Vs.below hv2 2 t v)
  have BW6 := Hid.intro ((hz1.via (below_al (below_al (below_al (below_al (below_al (below_al (Below.refl _ y4) _) _) _) _) _) _)).via BW5.out)
  clear hz1 HU HM HMB HCV BW5 gm5 lg5
  generalize y4.heap.size + 1 + 1 + 1 + 1 = gT at *
  generalize y4.heap.size + 1 + 1 = gO at *
  have HPZ := Hid.intro (fun w' (hb : Below (z1.alloc (.cells #[.int .i64 4, .bool false, .int .i64 0, .string ⟨#[]⟩, .slice ra 4096 rc] 32)).heap.size (z1.alloc (.cells #[.int .i64 4, .bool false, .int .i64 0, .string ⟨#[]⟩, .slice ra 4096 rc] 32)) w') => HP.out w' (hb.via (below_al (Below.refl _ z1) _)))
  have BW7 := Hid.intro (below_al BW6.out (.cells #[.int .i64 4, .bool false, .int .i64 0, .string ⟨#[]⟩, .slice ra 4096 rc] 32))
  clear HP BW6
  have hf1 : fit 30 (lsT [zeroT]) = true := by
    rw [fit_lsT [zeroT] 29, List.all_cons, fit_flat _ _ (by simp [zeroT])]
    simp [flat, zeroT]
  have hr1 : us.length ≤ 4096 := by omega
  have hr2 : 4096 < us.length + [zeroT].length := by simp; omega
  go_wp2
  generalize (z1.alloc (.cells #[.int .i64 4, .bool false, .int .i64 0, .string ⟨#[]⟩, .slice ra 4096 rc] 32)) = Z at *
  have HA : Hid (∀ g h w', Below Z.heap.size Z w' → Cel w' g 0 (lsT us) (.slice (some ⟨y4.heap.size + 1, 0, none⟩) 4096 4096) → Cel w' g 5 (lsT [zeroT]) (.slice (some ⟨h, 0, none⟩) 1 1) → Cel w' h 0 zeroT (.slice none 0 0) → Calls Tryd.prog 19 #[.int .i64 16, .slice (some ⟨g, 0, none⟩) 2 2] w' fun e w'' => e = .returned (.tuple #[.agg #[.int .i64 0, .bool false, .int .i64 0, .string ⟨#[]⟩, .slice none 0 0], .int .i64 2]) ∧ Below w'.heap.size w' w'') := by
    intro g h w' hb h1 h2 h3
    refine apply_add 3 (lsT us) (lsT [zeroT]) _ w' (two_lw h1 h2 (lsT_vs (HPZ.out w' hb).2.2) (lsT_vs (one_lw h3 (zero_vs 1)))) hfu hf1 0 false 0 ⟨#[]⟩ none 0 0 2 ?_
    intro s1 s2 w'' v1 v2 _
    obtain ⟨x1, x2, rfl, -, -⟩ := v1.form
    obtain ⟨x3, x4, rfl, -, -⟩ := v2.form
    exact add_lists_no _ _ _ _ _ _ us [zeroT] x1 x3 x2 x4 w'' hr2 hr1 (by simp)
  have HM1 := make_one
  refine endR12 _ _ Z gO (y4.heap.size + 1) us (Hid.intro (fun w' hb => (HPZ.out w' hb).1)) HA _ _ _ _ _ _ _ _ _ _ _ _ _ _ _ _ _ _ _ _ _ _ _ _ _ _ _ _ _ _ _ _ _ _ _ _ _ _ _ _ _ _ _ _ _ _ _ _ _ _ _ _ _ _ _ _ _ _ _ _ _ _ _ _ _ _ _ _ _ _ _ _ _ _ _ _ _ _ _ _ _ _ _ _ _ _ _ _ _ _ _ _ _ _ _ _ _ _ _ _ _ _ _ _ _ _ _ _ _ _ _ _ _ _ _ _ _ _ _ _ _ _ _ _ _ _ _ _ _ _ _ _ _ _ _ _ _ _ _ _ _ _ _ _ _ _ _ _ _ _ _ _ _ _ _ _ _ _ _ _ _ _ ?_
  intro u16 u17 u102 u103 u104 u105 u106 u107 u108 u109 wc hcut
  try dsimp only
  skip
  obtain ⟨rfl, B8⟩ := hcut
  have HP8 := Hid.intro (fun w' (hb : Below wc.heap.size wc w') => (HPZ.out w' (hb.via B8.out)).2.1)
  have BW8 := Hid.intro (B8.out.via BW7.out)
  clear HPZ BW7 B8 HA HM1 hfu hf0 hf1 hr1 hr2 HF
  generalize wc = Z2 at *
  have htx2 : tx.size ≤ 65536 := by omega
  obtain ⟨t0, t1, t2, t3, t4⟩ := HP8.out _ (Below.refl _ Z2)
  simp only [txT, Nat.zero_add] at t0 t1 t2 t3 t4
  have lgt := cell_lt t0
  go_wp2_with fail
  refine (apply_add 1 (txT tx) (txT ⟨#[]⟩) _ _ (two_lw (by simp [Cel, go_sem, txT]) (by simp [Cel, go_sem, txT]) (txT_vs htx2 0) (txT_vs (by simp [ByteArray.size]) 0)) (fit_txT htx2 30) (fit_txT (by simp [ByteArray.size]) 30) 3 false 0 (tx ++ ⟨#[]⟩) none 0 0 0 ?HC).mono ?_
  case HC =>
    intro s1 s2 w' v1 v2 _
    obtain ⟨x1, x2, rfl, -, -⟩ := v1.form
    obtain ⟨x3, x4, rfl, -, -⟩ := v2.form
    exact add_texts _ _ _ _ tx ⟨#[]⟩ _ _ _ _ _ _ 3 _ 0 w' (fun w'' => joinT_yes tx ⟨#[]⟩ (show tx.size + 0 ≤ 65536 by omega) w'')
  rintro e q1 ⟨rfl, hq1⟩
  have Q1 := Hid.intro (hq1.via (below_al (Below.refl _ Z2) _))
  clear hq1 t0 t1 t2 t3 t4 lgt
  obtain ⟨t0, t1, t2, t3, t4⟩ := HP8.out _ Q1.out
  simp only [txT, Nat.zero_add] at t0 t1 t2 t3 t4
  have lgt := cell_lt t0
  go_wp2_with fail
  refine (apply_add 1 (txT tx) (txT ⟨#[97]⟩) _ _ (two_lw (by simp [Cel, go_sem, txT]) (by simp [Cel, go_sem, txT]) (txT_vs htx2 0) (txT_vs (by simp [ByteArray.size]) 0)) (fit_txT htx2 30) (fit_txT (by simp [ByteArray.size]) 30) 0 false 0 ⟨#[]⟩ none 0 0 2 ?HC).mono ?_
  case HC =>
    intro s1 s2 w' v1 v2 _
    obtain ⟨x1, x2, rfl, -, -⟩ := v1.form
    obtain ⟨x3, x4, rfl, -, -⟩ := v2.form
    exact add_texts _ _ _ _ tx ⟨#[97]⟩ _ _ _ _ _ _ 0 _ 2 w' (fun w'' => joinT_no tx ⟨#[97]⟩ (by rw [htx]; simp [ByteArray.size]) htx2 (by simp [ByteArray.size]) w'')
  rintro e q2 ⟨rfl, hq2⟩
  have BQ := Hid.intro ((hq2.via (below_al (below_al Q1.out _) _)).via BW8.out)
  clear hq2 Q1 BW8 HP8 t0 t1 t2 t3 t4 lgt htx2
  go_wp2
  go_loopw [23] (fun i w' => ∃ k : Nat, k ≤ 29 ∧ i = .int .i64 ((k : Int) + 1) ∧ Hid (DeepAt q2 k w')) (fun i _ => 31 - (intOf i).toNat)
  case atStart => exact ⟨0, by omega, rfl, deep_start q2⟩
  case round =>
    obtain ⟨k, hk, rfl, HD⟩ := hrel
    obtain ⟨hbd, sv, cd, vd, fd⟩ := HD.out
    obtain ⟨a1, n1, rfl, -, -⟩ := (VsB.vs _ _ _ vd).form
    have cd' := cd
    obtain ⟨d0, d1, d2, d3, d4⟩ := cd'
    obtain ⟨e0, e1, e2, e3⟩ := dp_form k
    simp only [e0, e1, e2, e3, Nat.zero_add] at d0 d1 d2 d3 d4
    have lgd := cell_lt d0
    by_cases hlt : (k : Int) + 1 < 30
    · have HS := Hid.intro (deep_step HD.out cd vd)
      clear HD hbd cd vd
      go_wp2
      go_roundw
      case rel => exact ⟨k + 1, by omega, by go_num, HS⟩
      case measure => simp [intOf]; omega
    · obtain rfl : k = 29 := by omega
      have VD := Hid.intro (VsB.vs _ _ _ vd)
      have CD := Hid.intro cd
      have BD := Hid.intro (hbd.via (below_al BQ.out _))
      clear HD hbd cd vd BQ
      have HG : Hid (∀ g w', Below wr.heap.size wr w' → Cel w' g 0 (dp 29) (.slice a1 (dp 29).l.length n1) → Calls Tryd.prog 22 #[.string ⟨#[108, 105, 115, 116]⟩, .slice (some ⟨g, 0, none⟩) 1 1] w' fun e w'' => e = .returned (.tuple #[.agg #[.int .i64 0, .bool false, .int .i64 0, .string ⟨#[]⟩, .slice none 0 0], .int .i64 2]) ∧ Below w'.heap.size w' w'') := by
        intro g w' hb h1
        exact agg_list_no 30 [dp 29] _ w' (one_lw h1 (Vs.below hb _ _ _ VD.out)) (by simp) (by simp [fit_dp]) (by simp [fit_dp])
      have HCk : Hid (∀ w', Below wr.heap.size wr w' → Calls Tryd.prog 12 #[vv (dp 29) (.slice a1 (dp 29).l.length n1)] w' fun e w'' => e = .returned (.bool true) ∧ Below w'.heap.size w' w'') := by
        intro w' hb
        have := check_any 30 (dp 29) _ w' (Vs.below hb _ _ _ VD.out)
        rw [fit_dp] at this
        simpa using this
      have hvv : vv (dp 29) (.slice a1 (dp 29).l.length n1) = .agg #[.int .i64 4, .bool false, .int .i64 0, .string ⟨#[]⟩, .slice a1 (dp 29).l.length n1] := by unfold vv; rw [e0, e1, e2, e3]
      rw [hvv] at HCk
      clear hvv VD
      have HCel : Hid (∀ w', Below wr.heap.size wr w' → Cel w' (q2.heap.size + 1) 0 (dp 29) (.slice a1 (dp 29).l.length n1)) := fun w' hb => CD.out.below hb
      generalize (dp 29).l.length = dn at *
      go_wp2_with fail
      refine (HG.out _ _ (below_al (Below.refl _ _) _) (by simp [Cel, go_sem, e0, e1, e2, e3])).mono ?_
      rintro e r1 ⟨rfl, hr1⟩
      have R1 := Hid.intro (hr1.via (below_al (Below.refl _ wr) _))
      clear hr1 d0 d1 d2 d3 d4 lgd
      obtain ⟨d0, d1, d2, d3, d4⟩ := HCel.out _ R1.out
      simp only [e0, e1, e2, e3, Nat.zero_add] at d0 d1 d2 d3 d4
      have lgd := cell_lt d0
      go_wp2_with (first | (go_at_call 12; refine (HCk.out _ (below_al R1.out _)).mono ?_; rintro e r2 ⟨rfl, hr2⟩) | (go_at_call 10; refine (wakes_any _).mono ?_; rintro e r3 ⟨rfl, hr3⟩))
      go_ret
      exact ⟨rfl, hr3.via ((hr2.via (below_al R1.out _)).via BD.out)⟩
end Go.Proofs.YtppbaflacccilaaDoor
