import Derived.Test.YtcgaadnfocmdbaaGreatDoorJoin17

section
/- What the laws' own equality tells of data that are the same: expressions. -/
namespace Go.Proofs.YtcgaadnfocmdbaaGreatDoor
open Go.RowKit

theorem ExV.via {P : Nat → Prop} {w w' : World} {x : Ex} {v : Value} (h : ExV P w x v) (hb : Below w.heap.size w w') : ExV P w' x v := by
  obtain ⟨p, n, c, q, m, d, e, h, k⟩ := h
  exact ⟨p, n, c, q, m, d, e, h.via hb, k.via hb⟩
theorem ex_cells {P : Nat → Prop} {w : World} {x : Ex} {vs : List Value} (h : reps P w x.cs vs) : ∃ p6 c6 p7 c7, vs = [.int .i64 x.op, .string x.t, .int .i64 x.v.k, .bool x.v.b, .int .i64 x.v.i, .string x.v.s, .slice p6 x.v.l.length c6, .slice p7 x.a.length c7] ∧
    rep P w (.sl x.v.l.length (Vt.css x.v.l)) (.slice p6 x.v.l.length c6) ∧ rep P w (.sl x.a.length (Ex.css x.a)) (.slice p7 x.a.length c7) := by
  rw [Ex.cs_eq] at h
  obtain ⟨v0, _, rfl, h0, h⟩ := h.uncons
  obtain ⟨v1, _, rfl, h1, h⟩ := h.uncons
  obtain ⟨v2, _, rfl, h2, h⟩ := h.uncons
  obtain ⟨v3, _, rfl, h3, h⟩ := h.uncons
  obtain ⟨v4, _, rfl, h4, h⟩ := h.uncons
  obtain ⟨v5, _, rfl, h5, h⟩ := h.uncons
  obtain ⟨v6, _, rfl, h6, h⟩ := h.uncons
  obtain ⟨v7, _, rfl, h7, h⟩ := h.uncons
  simp only [reps] at h
  subst h
  obtain ⟨rfl, -⟩ := rep.lit_iff.1 h0
  obtain ⟨rfl, -⟩ := rep.lit_iff.1 h1
  obtain ⟨rfl, -⟩ := rep.lit_iff.1 h2
  obtain ⟨rfl, -⟩ := rep.lit_iff.1 h3
  obtain ⟨rfl, -⟩ := rep.lit_iff.1 h4
  obtain ⟨rfl, -⟩ := rep.lit_iff.1 h5
  obtain ⟨p6, c6, rfl, -⟩ := sl_form h6
  obtain ⟨p7, c7, rfl, -⟩ := sl_form h7
  exact ⟨p6, c6, p7, c7, rfl, h6, h7⟩

set_option maxRecDepth 100000 in
set_option maxHeartbeats 4000000 in
theorem eqExprs_of (l : List Ex) (ih : ∀ x ∈ l, ∀ (P Q : Nat → Prop) (w : World) (va vb : Value), ExV P w x va → ExV Q w x vb → Alike 16 va vb w)
    {P Q : Nat → Prop} {w : World} {sa sb : Value} (ha : rep P w (.sl l.length (Ex.css l)) sa) (hb : rep Q w (.sl l.length (Ex.css l)) sb) : Alike 29 sa sb w := by
  have HA := Hid.intro ha
  have HB := Hid.intro hb
  rw [Ex.css_eq] at HA HB
  obtain ⟨pa, ca, rfl, a1, a2⟩ := sl_form ha
  obtain ⟨pb, cb, rfl, b1, b2⟩ := sl_form hb
  clear ha hb
  have hm : l.length ≤ 9223372036854775807 := Nat.le_trans a1 (Nat.le_trans a2 (by decide))
  go_enter Tryz.func29, Tryz.ntmps29
  go_wp2_with fail
  go_loopw [5] (fun i wr => Hid (Below w.heap.size w wr) ∧ ∃ k : Nat, k ≤ l.length ∧ i = .int .i64 (k : Int)) (fun i _ => l.length - (intOf i).toNat)
  case atStart => exact ⟨Below.refl _ _, 0, by omega, rfl⟩
  case round =>
    obtain ⟨HW, k, hk, rfl⟩ := hrel
    by_cases hlt : (k : Int) < (l.length : Int)
    · have hlt' : k < l.length := by omega
      obtain ⟨ab, ao, us, rfl, -, -, r1, r2⟩ := sl_elem Ex.cs 8 Ex.cs_len (HA.out.via HW.out) hlt'
      obtain ⟨bb, bo, us', rfl, -, -, s1, s2⟩ := sl_elem Ex.cs 8 Ex.cs_len (HB.out.via HW.out) hlt'
      obtain ⟨p, c, q, d, rfl, r3, r4⟩ := ex_cells r1
      obtain ⟨p', c', q', d', rfl, s3, s4⟩ := ex_cells s1
      have HC := fun w' (h : Below wr.heap.size wr w') => Hid.intro (ih l[k] (List.getElem_mem _) P Q w' _ _ (ExV.via ⟨p, _, c, q, _, d, rfl, r3, r4⟩ h) (ExV.via ⟨p', _, c', q', _, d', rfl, s3, s4⟩ h))
      have x0 := r2 0 _ rfl
      have x1 := r2 1 _ rfl
      have x2 := r2 2 _ rfl
      have x3 := r2 3 _ rfl
      have x4 := r2 4 _ rfl
      have x5 := r2 5 _ rfl
      have x6 := r2 6 _ rfl
      have x7 := r2 7 _ rfl
      have y0 := s2 0 _ rfl
      have y1 := s2 1 _ rfl
      have y2 := s2 2 _ rfl
      have y3 := s2 3 _ rfl
      have y4 := s2 4 _ rfl
      have y5 := s2 5 _ rfl
      have y6 := s2 6 _ rfl
      have y7 := s2 7 _ rfl
      rw [Nat.add_zero] at x0 y0
      clear r1 r2 s1 s2 r3 s3 r4 s4
      go_wp2
      go_region_with ((go_at_call 16; refine (HC _ (Below.refl _ _).drew).out.mono ?_; rintro e w2 ⟨rfl, hb2⟩))
      all_goals go_wp2
      all_goals go_roundw
      all_goals first
        | exact ⟨HW.out.trans ((Below.drew (Below.refl _ _)).trans hb2 |>.mono HW.out.size), k + 1, by omega, by go_num⟩
        | (simp [intOf]; omega)
    · go_wp2
      go_ret
      exact ⟨rfl, HW.out⟩

theorem Ex.lt_of_mem {x y : Ex} (h : y ∈ x.a) : SizeOf.sizeOf y < SizeOf.sizeOf x := by
  obtain ⟨op, t, v, a⟩ := x
  have := List.sizeOf_lt_of_mem h
  simp at *
  omega

set_option maxRecDepth 100000 in
set_option maxHeartbeats 4000000 in
theorem eqExpr_n : ∀ (n : Nat) (x : Ex), SizeOf.sizeOf x < n → ∀ (P Q : Nat → Prop) (w : World) (va vb : Value), ExV P w x va → ExV Q w x vb → Alike 16 va vb w
  | 0, x, h => absurd h (Nat.not_lt_zero _)
  | n + 1, x, h => by
    intro P Q w va vb ha hb
    obtain ⟨p6, n6, c6, p7, n7, c7, rfl, ha, ha'⟩ := ha
    obtain ⟨p6', n6', c6', p7', n7', c7', rfl, hb, hb'⟩ := hb
    have HS := fun w' (hw : Below w.heap.size w w') => Hid.intro (same_any (x := x.v) ⟨p6, n6, c6, rfl, ha.via hw⟩ ⟨p6', n6', c6', rfl, hb.via hw⟩)
    have HV := fun w' (hw : Below w.heap.size w w') => Hid.intro (eqExprs_of x.a (fun y hy => eqExpr_n n y (by have := Ex.lt_of_mem hy; omega)) (ha'.via hw) (hb'.via hw))
    clear ha hb ha' hb'
    have b0 : Below w.heap.size w ((w.alloc (.cells #[.int .i64 x.op, .string x.t, .int .i64 x.v.k, .bool x.v.b, .int .i64 x.v.i, .string x.v.s, .slice p6 n6 c6, .slice p7 n7 c7] 39)).alloc (.cells #[.int .i64 x.op, .string x.t, .int .i64 x.v.k, .bool x.v.b, .int .i64 x.v.i, .string x.v.s, .slice p6' n6' c6', .slice p7' n7' c7'] 39)) := below_al (below_al (Below.refl _ _) _) _
    go_enter Tryz.func16, Tryz.ntmps16
    go_wp2_with fail
    refine (HS _ b0).out.mono ?_
    rintro e w1 ⟨rfl, hb1⟩
    have hA : w1.cell? ⟨w.heap.size, 7, none⟩ = some (.slice p7 n7 c7) := (hb1.cell (p := ⟨w.heap.size, 7, none⟩) (by simp; omega)).trans (by simp [go_sem])
    have hB : w1.cell? ⟨w.heap.size + 1, 7, none⟩ = some (.slice p7' n7' c7') := (hb1.cell (p := ⟨w.heap.size + 1, 7, none⟩) (by simp)).trans (by simp [go_sem])
    have b1 := b0.trans (hb1.mono b0.size)
    go_wp2_with fail
    refine (HV _ b1).out.mono ?_
    rintro e w2 ⟨rfl, hb2⟩
    go_wp2_with fail
    go_ret
    exact ⟨rfl, b1.trans (hb2.mono b1.size)⟩
theorem eqExpr_any {x : Ex} {P Q : Nat → Prop} {w : World} {va vb : Value} (ha : ExV P w x va) (hb : ExV Q w x vb) : Alike 16 va vb w := eqExpr_n _ x (Nat.lt_succ_self _) P Q w va vb ha hb
theorem eqExprs_any {l : List Ex} {P Q : Nat → Prop} {w : World} {sa sb : Value} (ha : rep P w (.sl l.length (Ex.css l)) sa) (hb : rep Q w (.sl l.length (Ex.css l)) sb) : Alike 29 sa sb w :=
  eqExprs_of l (fun _ _ _ _ _ _ _ => eqExpr_any) ha hb
end Go.Proofs.YtcgaadnfocmdbaaGreatDoor
end

section
/- proctorlaw5.ParseLevels: the walk. -/
namespace Go.Proofs.YtcgaadnfocmdbaaGreatDoor
open Go.RowKit

set_option maxRecDepth 100000 in
set_option maxHeartbeats 8000000 in
theorem lawLev {w : World} (hw : ErrW w) : Calls Tryz.prog 8 #[] w fun e w' => e = .returned (.bool true) ∧ Below w.heap.size w w' := by
  have HP := fun (s : ByteArray) w' (h : ErrW w') => Hid.intro (parsE_any s w' h.1 h.2)
  have HW0 := fun w' (h : ErrW w') => Hid.intro (wakes_any h)
  have HQ := fun (x : Ex) (P Q : Nat → Prop) (w' : World) (va vb : Value) (ha : ExV P w' x va) (hb : ExV Q w' x vb) => Hid.intro (eqExpr_any ha hb)
  have HE0 := Hid.intro hw
  clear hw
  go_enter Tryz.func8, Tryz.ntmps8
  go_wp2_with fail
  go_loopw [2] (fun i wr => Hid (Below w.heap.size w wr) ∧ Hid (ErrW wr) ∧ Hid (w.heap.size < wr.heap.size) ∧ Hid (∀ j, j < 26 → wr.cell? ⟨w.heap.size, j, none⟩ = some (.string (lvA j))) ∧ ∃ k : Nat, k ≤ 13 ∧ i = .int .i64 (2 * (k : Int))) (fun i _ => 26 - (intOf i).toNat)
  case atStart =>
    refine ⟨below_al (Below.refl _ _) _, HE0.out.below (below_al (Below.refl _ _) _), Hid.intro (by simp), fun j hj => ?_, 0, by omega, by rfl⟩
    rw [(heap_cell (heap_alloc_new _ _) j).1]
    exact getD_map levA j hj
  case round =>
    obtain ⟨HW, HE, HS, HC, k, hk, rfl⟩ := hrel
    by_cases hlt : 2 * (k : Int) < 26
    · have hlt' : k < 13 := by omega
      obtain ⟨a, p1, p2⟩ := lvA_ex k hlt'
      have y0 := HC.out (2 * k) (by omega)
      have y1 := HC.out (2 * k + 1) (by omega)
      have P1 := HP (lvA (2 * k))
      have P2 := HP (lvA (2 * k + 1))
      rw [p1] at P1
      rw [p2] at P2
      clear HP p1 p2
      go_wp2_with fail
      refine (P1 _ HE.out).out.mono ?_
      rintro e v1 ⟨hb1, x, rfl, p1, n1, c1, q1, m1, d1, rfl, r1, s1⟩
      have A1 := hb1.alloc hb1.size (.cells #[.int .i64 a.op, .string a.t, .int .i64 a.v.k, .bool a.v.b, .int .i64 a.v.i, .string a.v.s, .slice p1 n1 c1, .slice q1 m1 d1] 39)
      have HE1 := Hid.intro (HE.out.below A1)
      have g1 := (A1.cell (p := ⟨w.heap.size, 2 * k + 1, none⟩) HS.out).trans y1
      have X1 := heap_alloc_new v1 (.cells #[.int .i64 a.op, .string a.t, .int .i64 a.v.k, .bool a.v.b, .int .i64 a.v.i, .string a.v.s, .slice p1 n1 c1, .slice q1 m1 d1] 39)
      go_wp2_with fail
      refine (P2 _ HE1.out).out.mono ?_
      rintro e v2 ⟨hb2, x, rfl, p2, n2, c2, q2, m2, d2, rfl, r2, s2⟩
      have A2 := hb2.alloc hb2.size (.cells #[.int .i64 a.op, .string a.t, .int .i64 a.v.k, .bool a.v.b, .int .i64 a.v.i, .string a.v.s, .slice p2 n2 c2, .slice q2 m2 d2] 39)
      have A12 := A1.trans (A2.mono A1.size)
      have HE2 := Hid.intro (HE1.out.below A2)
      have hz : v1.heap.size < (v1.alloc (.cells #[.int .i64 a.op, .string a.t, .int .i64 a.v.k, .bool a.v.b, .int .i64 a.v.i, .string a.v.s, .slice p1 n1 c1, .slice q1 m1 d1] 39)).heap.size := by simp
      have X2 := (A2.block v1.heap.size hz).trans X1
      have f0 : _ = some (Value.int .i64 a.op) := (heap_cell X2 0).1
      have f1 : _ = some (Value.string a.t) := (heap_cell X2 1).1
      have f2 : _ = some (Value.int .i64 a.v.k) := (heap_cell X2 2).1
      have f3 : _ = some (Value.bool a.v.b) := (heap_cell X2 3).1
      have f4 : _ = some (Value.int .i64 a.v.i) := (heap_cell X2 4).1
      have f5 : _ = some (Value.string a.v.s) := (heap_cell X2 5).1
      have f6 : _ = some (Value.slice p1 n1 c1) := (heap_cell X2 6).1
      have f7 : _ = some (Value.slice q1 m1 d1) := (heap_cell X2 7).1
      have b1 : Below v1.heap.size v1 (v2.alloc (.cells #[.int .i64 a.op, .string a.t, .int .i64 a.v.k, .bool a.v.b, .int .i64 a.v.i, .string a.v.s, .slice p2 n2 c2, .slice q2 m2 d2] 39)) := (below_al (Below.refl _ _) _).trans (A2.mono (by simp))
      have b2 : Below v2.heap.size v2 (v2.alloc (.cells #[.int .i64 a.op, .string a.t, .int .i64 a.v.k, .bool a.v.b, .int .i64 a.v.i, .string a.v.s, .slice p2 n2 c2, .slice q2 m2 d2] 39)) := below_al (Below.refl _ _) _
      have HX := HQ a _ _ _ _ _ ⟨p1, n1, c1, q1, m1, d1, rfl, r1.via b1, s1.via b1⟩ ⟨p2, n2, c2, q2, m2, d2, rfl, r2.via b2, s2.via b2⟩
      clear X1 X2 r1 s1 r2 s2 P1 P2 y0 y1
      go_wp2_with fail
      refine HX.out.mono ?_
      rintro e v3 ⟨rfl, hb3⟩
      have A3 := A12.trans (hb3.mono A12.size)
      go_wp2_with fail
      go_roundw
      case rel => exact ⟨HW.out.trans (A3.mono HW.out.size), HE2.out.below hb3, Hid.intro (Nat.lt_of_lt_of_le HS.out A3.size), fun j hj => (A3.cell (p := ⟨w.heap.size, j, none⟩) HS.out).trans (HC.out j hj), k + 1, by omega, by go_num⟩
      case measure => simp [intOf]; omega
    · obtain rfl : k = 13 := by omega
      go_wp2_with fail
      go_loopw [10] (fun i wq => Hid (Below wr.heap.size wr wq) ∧ Hid (ErrW wq) ∧ Hid (wr.heap.size < wq.heap.size) ∧ Hid (∀ j, j < 17 → wq.cell? ⟨wr.heap.size, j, none⟩ = some (.string (lvB j))) ∧ ∃ k : Nat, k ≤ 17 ∧ i = .int .i64 (k : Int)) (fun i _ => 17 - (intOf i).toNat)
      case atStart =>
        refine ⟨below_al (Below.refl _ _) _, HE.out.below (below_al (Below.refl _ _) _), Hid.intro (by simp), fun j hj => ?_, 0, by omega, by rfl⟩
        rw [(heap_cell (heap_alloc_new _ _) j).1]
        exact getD_map levB j hj
      case round =>
        obtain ⟨HW', HE', HS', HC', k, hk', rfl⟩ := hrel
        by_cases hlt : (k : Int) < 17
        · have hlt' : k < 17 := by omega
          obtain ⟨q, p1⟩ := lvB_ex k hlt'
          have y0 := HC'.out k hlt'
          have P1 := HP (lvB k)
          rw [p1] at P1
          clear HP p1
          go_wp2_with fail
          refine (P1 _ HE'.out).out.mono ?_
          rintro e v1 ⟨hb1, rfl⟩
          have A1 := hb1.alloc hb1.size (.cells #[.int .i64 0, .string ⟨#[]⟩, .int .i64 0, .bool false, .int .i64 0, .string ⟨#[]⟩, .slice none 0 0, .slice none 0 0] 39)
          go_wp2_with fail
          go_roundw
          case rel => exact ⟨HW'.out.trans (A1.mono HW'.out.size), HE'.out.below A1, Hid.intro (Nat.lt_of_lt_of_le HS'.out A1.size), fun j hj => (A1.cell (p := ⟨_, j, none⟩) HS'.out).trans (HC'.out j hj), k + 1, by omega, by go_num⟩
          case measure => simp [intOf]; omega
        · obtain rfl : k = 17 := by omega
          go_wp2_with fail
          refine (HW0 _ HE'.out).out.mono ?_
          rintro e v1 ⟨rfl, hb1⟩
          go_wp2_with fail
          go_ret
          exact ⟨rfl, HW.out.trans ((HW'.out.trans (hb1.mono HW'.out.size)).mono HW.out.size)⟩
end Go.Proofs.YtcgaadnfocmdbaaGreatDoor
end

section
/- proctorlaw5.ParseLevels: it tells true; the listed variables are tied to the program's text. -/
namespace Go.Proofs.YtcgaadnfocmdbaaGreatDoor.pLev
open Go.ChangeShapes Go.WideShapes Go.ChangeAt Go.RowKit Go.Proofs.YtcgaadnfocmdbaaGreatDoor Go.Proofs.YtcgaadnfocmdbaaGreatDoor.pLaid

set_option maxRecDepth 100000 in
theorem contract (H : Type) (enc : TypeId × Value → H) (W : World) (base : Nat) (args : Array Value) (ds gs : List (DataW H)) (before : List MemPlace)
    (hval : ∀ (j : Nat) t v, Tryz.f8.params[j]? = some t → args[j]? = some v → Value.okWide Tryz.prog W .any base t v)
    (hL : laidMetH Tryz.prog Rows.parseLevelsRow.laid W) (hW : DataW.Whole enc Tryz.prog Tryz.f8.params.toList Rows.parseLevelsSpec.vars false W args.toList ds gs before) :
    Calls Tryz.prog 8 args W fun e W' => ∃ v, e = .returned v ∧ Rows.parseLevelsSpec.post enc Tryz.prog Tryz.f8 false true false false W args v W' := by
  have hW' := hW
  obtain ⟨p, q, hA0, hV, rfl, hfz, hnd⟩ := hW
  have hA : DataW.TrodAll enc Tryz.prog W 0 (fun _ => true) true Tryz.f8.params.toList args.toList ds p := hA0
  rw [Tryz.params8] at hA hval
  obtain ⟨hargs, rfl, rfl⟩ := trodAll_nil hA
  obtain rfl : args = #[] := by cases args; simp_all
  obtain ⟨rfl, rfl⟩ := trodVars_none hV
  simp only [List.append_nil] at hW'
  refine (lawLev (pLaid.errW hL)).mono fun e W' ⟨he, hb⟩ => ?_
  subst he
  exact ⟨_, rfl, _, _, _, [], [], [], hW', trodAll_cons_mk (shut_bool Tryz.underlying4 _) trodAll_mk0, trodAll_mk0, rfl, hb.frame _, fun h => by cases h⟩

theorem reads (os : Os) {H : Type} (enc : TypeId × Value → H) : ∃ places, DataW.whole enc Tryz.prog ((lay (World.holding Tryz.prog os ⟨#[], #[], []⟩)).forCall (fun _ _ => 0) ⟨#[], #[], []⟩).memory Tryz.f8.params.toList Rows.parseLevelsSpec.vars false (#[] : Array Value).toList 8 = some ([], [], places) :=
  ⟨[], by kernel_rfl⟩

set_option maxRecDepth 100000 in
theorem lifted (os : Os) (started : os.Started) (H : Type) (enc : TypeId × Value → H) (F : Stop.Interp) :
    ReturnsInHanded {} Tryz.checked os 8 .any ((OpenSpec.ofChange Rows.parseLevelsSpec).preRow enc Tryz.prog Tryz.f8 Rows.parseLevelsRow.domain false Rows.parseLevelsRow.laid) (((OpenSpec.ofChange Rows.parseLevelsSpec).at F).post enc Tryz.prog Tryz.f8 false true false false) := by
  obtain ⟨places, hx⟩ := reads os enc
  refine returnsInHanded_of_row (C := Tryz.checked) (s := OpenSpec.ofChange Rows.parseLevelsSpec) own started (by kernel_rfl) Tryz.func8
    (witness_row_atRef (enc := enc) (C := Tryz.checked) false (lay (World.holding Tryz.prog os ⟨#[], #[], []⟩)) #[] rfl (by kernel_rfl) (by kernel_rfl) (by kernel_rfl)
      (OpenSpec.preRow_of_cond 8 hx (by kernel_rfl) (fun k hk => by cases hk) (by kernel_rfl) (laid_met os))) ?_
  intro W base args ds gs before hval hW _ _ _ hL _ _
  exact contract H enc W base args ds gs before hval hL hW

theorem said : Rows.ParseLevelsSaid :=
  OpenClaim.holds_of_cond 8 Tryz.f8 rfl rfl rfl rfl rfl rfl rfl ⟨rfl, rfl, rfl, rfl, rfl⟩ rfl rfl rfl rfl rfl (by kernel_rfl) Tryz.func8 (by kernel_rfl)
    (of_decide_eq_true (by kernel_rfl)) (by unfold Func.isWrapper; first | (rw [if_pos (by decide +kernel)]; kernel_rfl) | (rw [if_neg (by decide +kernel)]; exact ⟨rfl, rfl⟩))
    (fun os started H enc _ F => by rw [OpenClaim.pre_eq_preRow]; exact lifted os started H enc F)
theorem plain (f : FuncId) (fn : Func) (hf : Tryz.pinned.checked.prog.funcNamed "proctor/proctorlaw5.ParseLevels" = some f) (hfn : Tryz.pinned.checked.prog.funcs[f]? = some fn) :
    true = Tryz.pinned.checked.prog.looks [] ∧ ∀ (j : Nat) t, fn.params[j]? = some t → Tryz.pinned.checked.prog.wantsStandIn t = false := by
  obtain rfl : f = 8 := Option.some.inj ((show Tryz.prog.funcNamed "proctor/proctorlaw5.ParseLevels" = some 8 by kernel_rfl).symm.trans hf) |>.symm
  obtain rfl : fn = Tryz.f8 := (Option.some.inj (Tryz.func8.symm.trans hfn)).symm
  refine ⟨by kernel_rfl, fun j t ht => ?_⟩
  rw [Tryz.params8] at ht
  simp at ht
end Go.Proofs.YtcgaadnfocmdbaaGreatDoor.pLev

namespace Go.Proofs.YtcgaadnfocmdbaaGreatDoor
theorem parseLevels_card : Rows.ParseLevelsCardSaid :=
  Claim7.holds_tied_plain_at .later [] _ _ _ _ pLev.said (fun _ h => by cases h) (by kernel_rfl) (fun _ h => by cases h) parseLevels_row_tie rfl ⟨rfl, rfl⟩ (by kernel_rfl) rfl pLev.plain (by kernel_rfl)
end Go.Proofs.YtcgaadnfocmdbaaGreatDoor
#print axioms Go.Proofs.YtcgaadnfocmdbaaGreatDoor.parseLevels_card
end
