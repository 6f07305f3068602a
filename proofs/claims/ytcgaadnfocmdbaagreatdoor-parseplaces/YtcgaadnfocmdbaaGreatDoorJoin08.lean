import Derived.Test.YtcgaadnfocmdbaaGreatDoorJoin07

section
/- insertion, update: their closures. -/
namespace Go.Proofs.YtcgaadnfocmdbaaGreatDoor
open Go.RowKit

theorem run_ins1 (caps : Array Value) (w : World) : (callFunc 170 caps).run Tryz.prog w = .ok (.enter 170 caps) w := by simp [go_sem]

set_option maxRecDepth 100000 in
set_option maxHeartbeats 4000000 in
theorem ins1_clo {K B o : Nat} (n c1 C : Nat) (A : Value → Array Value) (hA : ∀ u u', (A u).setIfInBounds 2 u' = A u') (hAj : ∀ u, (A u)[2]? = some u) (hCK : K ≤ C) :
    Clo K B o QG (QJ n B c1 C 99 A 101 As.cs) 170 #[.pointer (some ⟨C, 0, none⟩), .pointer (some ⟨c1, 0, none⟩)] (fun l r => (assignM o r).bd fun t r => .ok (l ++ [t]) r) := by
  refine ⟨run_ins1 _, ?_⟩
  rintro P l r w hP hg ⟨h1, h2, h3, h5⟩ h
  show Calls _ _ _ _ (CPost K B o r.length P w _ _ ((assignM o r).bd fun t r => .ok (l ++ [t]) r))
  have HT := fun w (h : PAt K w B r o) => Hid.intro (assign_any h)
  have hmo : Tryz.prog.follows .mixedOrders = true := by kernel_rfl
  obtain ⟨x, r0, hr0, -⟩ := gd_cons h.gd
  have hrl : 0 < r.length := by rw [hr0]; simp
  obtain ⟨i0, hi, hz0, hz1, hz2⟩ := info_parts infoAssign'
  have d1 := h1.2.2.1
  have HX := Hid.intro h1
  have HV := Hid.intro h5
  obtain ⟨hBE, hEn, hnw, ps, cs, vs, he, hown, hrep, hpa⟩ := h5
  unfold QG at hg
  have hln : l.length ≤ 10000 := by omega
  have e0 : w.cell? ⟨C, 2, none⟩ = some (.slice ps l.length cs) := by rw [(heap_cell he 2).1]; exact hAj _
  have hEw : C < w.heap.size := by omega
  clear hr0
  cases hm : assignM o r with
  | bad q =>
    rw [hm] at HT
    rw [bd_bad]
    clear hm
    go_enter Tryz.func170, Tryz.ntmps170
    go_wp2_with fail
    refine wp_region_held_drew (S := fun w' => w'.cell? ⟨c1, 0, none⟩ = some (.pointer (some ⟨B, 0, none⟩))) hmo d1 (fun hS => ?_)
    refine take_q 0 2 (.pointer (some ⟨C, 2, none⟩)) ⟨_, rfl, rfl, Or.inl ⟨by rfl, fun w hSw => by go_simp⟩⟩ (by kernel_rfl) (by kernel_rfl) (by kernel_rfl) (fun _ _ _ h => h) hS ?_
    simp only [List.setIfInBounds_toArray, List.set_cons_succ, List.set_cons_zero]
    refine take_q 2 4 (.pointer (some ⟨B, 0, none⟩)) ⟨_, rfl, rfl, Or.inl ⟨by rfl, fun w hSw => by go_simp⟩⟩ (by kernel_rfl) (by kernel_rfl) (by kernel_rfl) (fun _ _ _ h => h) hS ?_
    simp only [List.setIfInBounds_toArray, List.set_cons_succ, List.set_cons_zero]
    refine wpAnyH_ready (rs := [1, 3]) (by kernel_rfl) (by simp) ?_
    refine AllReadyH.cons rfl (fun K' hK => ?_) (AllReadyH.cons rfl (fun K' hK => ?_) AllReadyH.nil)
    · go_simp
      refine hK.out _ _ (hS) (fun hS => ?_)
      clear hK K'
      (try simp only [Act.put, List.setIfInBounds_toArray, List.set_cons_succ, List.set_cons_zero])
      refine wpAnyH_ready (rs := [3]) (by kernel_rfl) (by simp) ?_
      refine AllReadyH.cons rfl (fun K' hK => ?_) AllReadyH.nil
      go_simp
      refine (HT w.drew (h.via (Below.refl _ _).drew)).out.mono ?_
      rintro e w4 ⟨hb4, rfl⟩
      exact ⟨rfl, ((Bt.refl B w).drew.trans hb4).fr hP, rfl⟩
    · go_simp
      refine (HT w.drew (h.via (Below.refl _ _).drew)).out.mono ?_
      rintro e w4 ⟨hb4, rfl⟩
      exact ⟨rfl, ((Bt.refl B w).drew.trans hb4).fr hP, rfl⟩
  | ok t r1 =>
    rw [hm] at HT
    rw [bd_ok]
    clear hm
    go_enter Tryz.func170, Tryz.ntmps170
    go_wp2_with fail
    refine wp_region_held_drew (S := fun w' => w'.cell? ⟨c1, 0, none⟩ = some (.pointer (some ⟨B, 0, none⟩))) hmo d1 (fun hS => ?_)
    refine take_q 0 2 (.pointer (some ⟨C, 2, none⟩)) ⟨_, rfl, rfl, Or.inl ⟨by rfl, fun w hSw => by go_simp⟩⟩ (by kernel_rfl) (by kernel_rfl) (by kernel_rfl) (fun _ _ _ h => h) hS ?_
    simp only [List.setIfInBounds_toArray, List.set_cons_succ, List.set_cons_zero]
    refine take_q 2 4 (.pointer (some ⟨B, 0, none⟩)) ⟨_, rfl, rfl, Or.inl ⟨by rfl, fun w hSw => by go_simp⟩⟩ (by kernel_rfl) (by kernel_rfl) (by kernel_rfl) (fun _ _ _ h => h) hS ?_
    simp only [List.setIfInBounds_toArray, List.set_cons_succ, List.set_cons_zero]
    refine wpAnyH_ready (rs := [1, 3]) (by kernel_rfl) (by simp) ?_
    refine AllReadyH.cons rfl (fun K' hK => ?_) (AllReadyH.cons rfl (fun K' hK => ?_) AllReadyH.nil)
    · go_simp
      refine hK.out _ _ (hS) (fun hS => ?_)
      clear hK K'
      (try simp only [Act.put, List.setIfInBounds_toArray, List.set_cons_succ, List.set_cons_zero])
      refine wpAnyH_ready (rs := [3]) (by kernel_rfl) (by simp) ?_
      refine AllReadyH.cons rfl (fun K' hK => ?_) AllReadyH.nil
      go_simp
      refine (HT w.drew (h.via (Below.refl _ _).drew)).out.mono ?_
      rintro e w4 ⟨hb4, hl4, hp4, v4, rfl, p6, n6, c6, p7, n7, c7, rfl, z6, z7⟩
      have hbt4 : Bt B w w4 := (Bt.refl B w).drew.trans hb4
      have hx4 := HX.out.bt hbt4
      have hV4 := RowA.stb _ _ _ P HV.out hbt4 (fun _ h => .inl h)
      obtain ⟨-, -, hnw4, ps4, cs4, vs4, he4, hown4, hrep4, hpa4⟩ := hV4
      obtain ⟨rfl, rfl⟩ : ps4 = ps ∧ cs4 = cs := by have h8 := (row_bt hbt4 (by omega) he).symm.trans he4; have h9 := congrArg (fun o => match o with | some (Obj.cells a _ _) => a[2]? | _ => none) h8; simp only [hAj, Option.some.injEq, Value.slice.injEq, true_and] at h9; exact ⟨h9.1.symm, h9.2.symm⟩
      have hc4 := hx4.2.2.1
      have hs4 : w.heap.size ≤ w4.heap.size := hb4.size
      go_wp2_with fail
      refine hK.out _ _ (hc4) (fun hS => ?_)
      clear hK K'
      (try simp only [Act.put, List.setIfInBounds_toArray, List.set_cons_succ, List.set_cons_zero])
      refine wpAnyH_ready (rs := [4]) (by kernel_rfl) (by simp) ?_
      refine AllReadyH.cons rfl (fun K' hK => ?_) AllReadyH.nil
      go_simp
      go_wp2_with fail
      refine hK.out _ _ (((hx4.bt ((Bt.refl B w4).alloc _)).2.2.1)) (fun hS => ?_)
      clear hK K'
      (try simp only [Act.put, List.setIfInBounds_toArray, List.set_cons_succ, List.set_cons_zero])
      have hal : w4.heap.size < (w4.alloc (.cells #[.string t.f, .int .i64 t.e.op, .string t.e.t, .int .i64 t.e.v.k, .bool t.e.v.b, .int .i64 t.e.v.i, .string t.e.v.s, .slice p6 n6 c6, .slice p7 n7 c7] 101)).heap.size := by simp
      refine wpAnyH_ready (rs := [5]) (by kernel_rfl) (by simp) ?_
      refine AllReadyH.cons rfl (fun K' hK => ?_) AllReadyH.nil
      rw [if_pos (by rfl)]
      refine wp_append_own _ _ 97 rfl n 101 i0 _ 9 128 Tryz.underlying97 hi hz0 hz1 hz2 rfl (by decide) _ _ _ rfl (hown4.alloc _) ⟨w4.heap.size, 0, none⟩ 1 1 [.string t.f, .int .i64 t.e.op, .string t.e.t, .int .i64 t.e.v.k, .bool t.e.v.b, .int .i64 t.e.v.i, .string t.e.v.s, .slice p6 n6 c6, .slice p7 n7 c7] rfl rfl (fun j u hj => by rw [addr_add, Nat.zero_add, (heap_cell (heap_alloc_new w4 _) j).1, ← hj]; simp) (by simp [Value.oneCell']) (by unfold maxLen; omega) (by omega) (by simp; omega) (fun sv' w5 hown5 hgr5 hat5 => ?_)
      have hq : ∀ b, b < w4.heap.size → w.heap.size ≤ b → (n ≤ b ∧ some b ≠ Value.ownBlock (.slice ps4 l.length cs4)) := fun b hb h => ⟨by omega, fun he => by have := (hown.lt b he.symm).2; omega⟩
      have htr := sx_reps (s := t.f) (rep.move (Kp.alloc w4 (.cells #[.string t.f, .int .i64 t.e.op, .string t.e.t, .int .i64 t.e.v.k, .bool t.e.v.b, .int .i64 t.e.v.i, .string t.e.v.s, .slice p6 n6 c6, .slice p7 n7 c7] 101)) (fun b hb h => hq b hb h) _ _ z6) (rep.move (Kp.alloc w4 (.cells #[.string t.f, .int .i64 t.e.op, .string t.e.t, .int .i64 t.e.v.k, .bool t.e.v.b, .int .i64 t.e.v.i, .string t.e.v.s, .slice p6 n6 c6, .slice p7 n7 c7] 101)) (fun b hb h => hq b hb h) _ _ z7)
      obtain ⟨g5, k5, rfl⟩ := ownsRow_succ hown5
      obtain ⟨hV5, hF5, hE5⟩ := RowA.push (j := 2) hA hBE hEn (by simp; omega) ((heap_alloc_old w4 _ (by omega)).trans he4) (hown4.alloc _) (reps.move (Kp.alloc w4 _) (fun _ _ h => h) _ _ hrep4) hpa4 ((hP.up hs4).up (by simp)) htr hown5 hgr5 hat5
      have hx5 := (hx4.bt ((Bt.refl B w4).alloc _)).grown hgr5 (own_below hown4 (.inl h2))
      have e5 : w5.cell? ⟨C, 2, none⟩ = some (.slice ps4 l.length cs4) := by rw [(heap_cell hE5 2).1]; exact hAj _
      have f5 : w5.frozen? ⟨C, 2, none⟩ = false := (heap_cell hE5 2).2
      refine hK.out _ _ (hx5.2.2.1) (fun hS => ?_)
      clear hK K'
      (try simp only [Act.put, List.setIfInBounds_toArray])
      refine take_q 6 8 (.pointer (some ⟨C, 2, none⟩)) ⟨_, rfl, rfl, Or.inl ⟨by rfl, fun w hSw => by go_simp⟩⟩ (by kernel_rfl) (by kernel_rfl) (by kernel_rfl) (fun _ _ _ h => h) hS ?_
      simp only [List.setIfInBounds_toArray, List.set_cons_succ, List.set_cons_zero]
      refine wpAnyH_ready (rs := [7]) (by kernel_rfl) (by simp) ?_
      refine AllReadyH.cons rfl (fun K' hK => ?_) AllReadyH.nil
      go_simp
      go_wp2_with fail
      refine hK.out _ _ ((hx5.set h3).2.2.1) (fun hS => ?_)
      clear hK K'
      (try simp only [Act.put, List.setIfInBounds_toArray, List.set_cons_succ, List.set_cons_zero])
      refine wpAnyH_done (by kernel_rfl) ?_ _
      go_wp2_with fail
      go_end0
      refine ⟨(((hbt4.fr hP).alloc (hP.up hs4 · · |>.1) _).trans hF5), rfl, by unfold QG; simp; omega, ⟨hx5.set h3, h2, h3, by simpa [List.flatMap_append, As.cs] using hV5⟩, ((hp4.via (below_al (Below.refl _ _) _)).grown hgr5 (fun k hk => by have := (hown4.lt k hk).1; omega)).set hCK _ _, by omega⟩
    · go_simp
      refine (HT w.drew (h.via (Below.refl _ _).drew)).out.mono ?_
      rintro e w4 ⟨hb4, hl4, hp4, v4, rfl, p6, n6, c6, p7, n7, c7, rfl, z6, z7⟩
      have hbt4 : Bt B w w4 := (Bt.refl B w).drew.trans hb4
      have hx4 := HX.out.bt hbt4
      have hV4 := RowA.stb _ _ _ P HV.out hbt4 (fun _ h => .inl h)
      obtain ⟨-, -, hnw4, ps4, cs4, vs4, he4, hown4, hrep4, hpa4⟩ := hV4
      obtain ⟨rfl, rfl⟩ : ps4 = ps ∧ cs4 = cs := by have h8 := (row_bt hbt4 (by omega) he).symm.trans he4; have h9 := congrArg (fun o => match o with | some (Obj.cells a _ _) => a[2]? | _ => none) h8; simp only [hAj, Option.some.injEq, Value.slice.injEq, true_and] at h9; exact ⟨h9.1.symm, h9.2.symm⟩
      have hc4 := hx4.2.2.1
      have hs4 : w.heap.size ≤ w4.heap.size := hb4.size
      go_wp2_with fail
      refine hK.out _ _ (hc4) (fun hS => ?_)
      clear hK K'
      (try simp only [Act.put, List.setIfInBounds_toArray, List.set_cons_succ, List.set_cons_zero])
      refine wpAnyH_ready (rs := [1, 4]) (by kernel_rfl) (by simp) ?_
      refine AllReadyH.cons rfl (fun K' hK => ?_) (AllReadyH.cons rfl (fun K' hK => ?_) AllReadyH.nil)
      · have e04 : w4.cell? ⟨C, 2, none⟩ = some (.slice ps4 l.length cs4) := by rw [(heap_cell he4 2).1]; exact hAj _
        have hEw4 : C < w4.heap.size := by omega
        go_simp
        refine hK.out _ _ (hS) (fun hS => ?_)
        clear hK K'
        (try simp only [Act.put, List.setIfInBounds_toArray, List.set_cons_succ, List.set_cons_zero])
        refine wpAnyH_ready (rs := [4]) (by kernel_rfl) (by simp) ?_
        refine AllReadyH.cons rfl (fun K' hK => ?_) AllReadyH.nil
        go_simp
        go_wp2_with fail
        refine hK.out _ _ (((hx4.bt ((Bt.refl B w4).alloc _)).2.2.1)) (fun hS => ?_)
        clear hK K'
        (try simp only [Act.put, List.setIfInBounds_toArray, List.set_cons_succ, List.set_cons_zero])
        have hal : w4.heap.size < (w4.alloc (.cells #[.string t.f, .int .i64 t.e.op, .string t.e.t, .int .i64 t.e.v.k, .bool t.e.v.b, .int .i64 t.e.v.i, .string t.e.v.s, .slice p6 n6 c6, .slice p7 n7 c7] 101)).heap.size := by simp
        refine wpAnyH_ready (rs := [5]) (by kernel_rfl) (by simp) ?_
        refine AllReadyH.cons rfl (fun K' hK => ?_) AllReadyH.nil
        rw [if_pos (by rfl)]
        refine wp_append_own _ _ 97 rfl n 101 i0 _ 9 128 Tryz.underlying97 hi hz0 hz1 hz2 rfl (by decide) _ _ _ rfl (hown4.alloc _) ⟨w4.heap.size, 0, none⟩ 1 1 [.string t.f, .int .i64 t.e.op, .string t.e.t, .int .i64 t.e.v.k, .bool t.e.v.b, .int .i64 t.e.v.i, .string t.e.v.s, .slice p6 n6 c6, .slice p7 n7 c7] rfl rfl (fun j u hj => by rw [addr_add, Nat.zero_add, (heap_cell (heap_alloc_new w4 _) j).1, ← hj]; simp) (by simp [Value.oneCell']) (by unfold maxLen; omega) (by omega) (by simp; omega) (fun sv' w5 hown5 hgr5 hat5 => ?_)
        have hq : ∀ b, b < w4.heap.size → w.heap.size ≤ b → (n ≤ b ∧ some b ≠ Value.ownBlock (.slice ps4 l.length cs4)) := fun b hb h => ⟨by omega, fun he => by have := (hown.lt b he.symm).2; omega⟩
        have htr := sx_reps (s := t.f) (rep.move (Kp.alloc w4 (.cells #[.string t.f, .int .i64 t.e.op, .string t.e.t, .int .i64 t.e.v.k, .bool t.e.v.b, .int .i64 t.e.v.i, .string t.e.v.s, .slice p6 n6 c6, .slice p7 n7 c7] 101)) (fun b hb h => hq b hb h) _ _ z6) (rep.move (Kp.alloc w4 (.cells #[.string t.f, .int .i64 t.e.op, .string t.e.t, .int .i64 t.e.v.k, .bool t.e.v.b, .int .i64 t.e.v.i, .string t.e.v.s, .slice p6 n6 c6, .slice p7 n7 c7] 101)) (fun b hb h => hq b hb h) _ _ z7)
        obtain ⟨g5, k5, rfl⟩ := ownsRow_succ hown5
        obtain ⟨hV5, hF5, hE5⟩ := RowA.push (j := 2) hA hBE hEn (by simp; omega) ((heap_alloc_old w4 _ (by omega)).trans he4) (hown4.alloc _) (reps.move (Kp.alloc w4 _) (fun _ _ h => h) _ _ hrep4) hpa4 ((hP.up hs4).up (by simp)) htr hown5 hgr5 hat5
        have hx5 := (hx4.bt ((Bt.refl B w4).alloc _)).grown hgr5 (own_below hown4 (.inl h2))
        have e5 : w5.cell? ⟨C, 2, none⟩ = some (.slice ps4 l.length cs4) := by rw [(heap_cell hE5 2).1]; exact hAj _
        have f5 : w5.frozen? ⟨C, 2, none⟩ = false := (heap_cell hE5 2).2
        refine hK.out _ _ (hx5.2.2.1) (fun hS => ?_)
        clear hK K'
        (try simp only [Act.put, List.setIfInBounds_toArray])
        refine take_q 6 8 (.pointer (some ⟨C, 2, none⟩)) ⟨_, rfl, rfl, Or.inl ⟨by rfl, fun w hSw => by go_simp⟩⟩ (by kernel_rfl) (by kernel_rfl) (by kernel_rfl) (fun _ _ _ h => h) hS ?_
        simp only [List.setIfInBounds_toArray, List.set_cons_succ, List.set_cons_zero]
        refine wpAnyH_ready (rs := [7]) (by kernel_rfl) (by simp) ?_
        refine AllReadyH.cons rfl (fun K' hK => ?_) AllReadyH.nil
        go_simp
        go_wp2_with fail
        refine hK.out _ _ ((hx5.set h3).2.2.1) (fun hS => ?_)
        clear hK K'
        (try simp only [Act.put, List.setIfInBounds_toArray, List.set_cons_succ, List.set_cons_zero])
        refine wpAnyH_done (by kernel_rfl) ?_ _
        go_wp2_with fail
        go_end0
        refine ⟨(((hbt4.fr hP).alloc (hP.up hs4 · · |>.1) _).trans hF5), rfl, by unfold QG; simp; omega, ⟨hx5.set h3, h2, h3, by simpa [List.flatMap_append, As.cs] using hV5⟩, ((hp4.via (below_al (Below.refl _ _) _)).grown hgr5 (fun k hk => by have := (hown4.lt k hk).1; omega)).set hCK _ _, by omega⟩
      · go_simp
        go_wp2_with fail
        refine hK.out _ _ (((hx4.bt ((Bt.refl B w4).alloc _)).2.2.1)) (fun hS => ?_)
        clear hK K'
        (try simp only [Act.put, List.setIfInBounds_toArray, List.set_cons_succ, List.set_cons_zero])
        refine wpAnyH_ready (rs := [1]) (by kernel_rfl) (by simp) ?_
        refine AllReadyH.cons rfl (fun K' hK => ?_) AllReadyH.nil
        have e04 : w4.cell? ⟨C, 2, none⟩ = some (.slice ps4 l.length cs4) := by rw [(heap_cell he4 2).1]; exact hAj _
        have hEw4 : C < w4.heap.size := by omega
        go_simp
        refine hK.out _ _ (((hx4.bt ((Bt.refl B w4).alloc _)).2.2.1)) (fun hS => ?_)
        clear hK K'
        (try simp only [Act.put, List.setIfInBounds_toArray, List.set_cons_succ, List.set_cons_zero])
        have hal : w4.heap.size < (w4.alloc (.cells #[.string t.f, .int .i64 t.e.op, .string t.e.t, .int .i64 t.e.v.k, .bool t.e.v.b, .int .i64 t.e.v.i, .string t.e.v.s, .slice p6 n6 c6, .slice p7 n7 c7] 101)).heap.size := by simp
        refine wpAnyH_ready (rs := [5]) (by kernel_rfl) (by simp) ?_
        refine AllReadyH.cons rfl (fun K' hK => ?_) AllReadyH.nil
        rw [if_pos (by rfl)]
        refine wp_append_own _ _ 97 rfl n 101 i0 _ 9 128 Tryz.underlying97 hi hz0 hz1 hz2 rfl (by decide) _ _ _ rfl (hown4.alloc _) ⟨w4.heap.size, 0, none⟩ 1 1 [.string t.f, .int .i64 t.e.op, .string t.e.t, .int .i64 t.e.v.k, .bool t.e.v.b, .int .i64 t.e.v.i, .string t.e.v.s, .slice p6 n6 c6, .slice p7 n7 c7] rfl rfl (fun j u hj => by rw [addr_add, Nat.zero_add, (heap_cell (heap_alloc_new w4 _) j).1, ← hj]; simp) (by simp [Value.oneCell']) (by unfold maxLen; omega) (by omega) (by simp; omega) (fun sv' w5 hown5 hgr5 hat5 => ?_)
        have hq : ∀ b, b < w4.heap.size → w.heap.size ≤ b → (n ≤ b ∧ some b ≠ Value.ownBlock (.slice ps4 l.length cs4)) := fun b hb h => ⟨by omega, fun he => by have := (hown.lt b he.symm).2; omega⟩
        have htr := sx_reps (s := t.f) (rep.move (Kp.alloc w4 (.cells #[.string t.f, .int .i64 t.e.op, .string t.e.t, .int .i64 t.e.v.k, .bool t.e.v.b, .int .i64 t.e.v.i, .string t.e.v.s, .slice p6 n6 c6, .slice p7 n7 c7] 101)) (fun b hb h => hq b hb h) _ _ z6) (rep.move (Kp.alloc w4 (.cells #[.string t.f, .int .i64 t.e.op, .string t.e.t, .int .i64 t.e.v.k, .bool t.e.v.b, .int .i64 t.e.v.i, .string t.e.v.s, .slice p6 n6 c6, .slice p7 n7 c7] 101)) (fun b hb h => hq b hb h) _ _ z7)
        obtain ⟨g5, k5, rfl⟩ := ownsRow_succ hown5
        obtain ⟨hV5, hF5, hE5⟩ := RowA.push (j := 2) hA hBE hEn (by simp; omega) ((heap_alloc_old w4 _ (by omega)).trans he4) (hown4.alloc _) (reps.move (Kp.alloc w4 _) (fun _ _ h => h) _ _ hrep4) hpa4 ((hP.up hs4).up (by simp)) htr hown5 hgr5 hat5
        have hx5 := (hx4.bt ((Bt.refl B w4).alloc _)).grown hgr5 (own_below hown4 (.inl h2))
        have e5 : w5.cell? ⟨C, 2, none⟩ = some (.slice ps4 l.length cs4) := by rw [(heap_cell hE5 2).1]; exact hAj _
        have f5 : w5.frozen? ⟨C, 2, none⟩ = false := (heap_cell hE5 2).2
        refine hK.out _ _ (hx5.2.2.1) (fun hS => ?_)
        clear hK K'
        (try simp only [Act.put, List.setIfInBounds_toArray])
        refine take_q 6 8 (.pointer (some ⟨C, 2, none⟩)) ⟨_, rfl, rfl, Or.inl ⟨by rfl, fun w hSw => by go_simp⟩⟩ (by kernel_rfl) (by kernel_rfl) (by kernel_rfl) (fun _ _ _ h => h) hS ?_
        simp only [List.setIfInBounds_toArray, List.set_cons_succ, List.set_cons_zero]
        refine wpAnyH_ready (rs := [7]) (by kernel_rfl) (by simp) ?_
        refine AllReadyH.cons rfl (fun K' hK => ?_) AllReadyH.nil
        go_simp
        go_wp2_with fail
        refine hK.out _ _ ((hx5.set h3).2.2.1) (fun hS => ?_)
        clear hK K'
        (try simp only [Act.put, List.setIfInBounds_toArray, List.set_cons_succ, List.set_cons_zero])
        refine wpAnyH_done (by kernel_rfl) ?_ _
        go_wp2_with fail
        go_end0
        refine ⟨(((hbt4.fr hP).alloc (hP.up hs4 · · |>.1) _).trans hF5), rfl, by unfold QG; simp; omega, ⟨hx5.set h3, h2, h3, by simpa [List.flatMap_append, As.cs] using hV5⟩, ((hp4.via (below_al (Below.refl _ _) _)).grown hgr5 (fun k hk => by have := (hown4.lt k hk).1; omega)).set hCK _ _, by omega⟩

theorem run_upd1 (caps : Array Value) (w : World) : (callFunc 173 caps).run Tryz.prog w = .ok (.enter 173 caps) w := by simp [go_sem]

set_option maxRecDepth 100000 in
set_option maxHeartbeats 4000000 in
theorem upd1_clo {K B o : Nat} (n c1 C : Nat) (A : Value → Array Value) (hA : ∀ u u', (A u).setIfInBounds 2 u' = A u') (hAj : ∀ u, (A u)[2]? = some u) (hCK : K ≤ C) :
    Clo K B o QG (QJ n B c1 C 99 A 101 As.cs) 173 #[.pointer (some ⟨C, 0, none⟩), .pointer (some ⟨c1, 0, none⟩)] (fun l r => (assignM o r).bd fun t r => .ok (l ++ [t]) r) := by
  refine ⟨run_upd1 _, ?_⟩
  rintro P l r w hP hg ⟨h1, h2, h3, h5⟩ h
  show Calls _ _ _ _ (CPost K B o r.length P w _ _ ((assignM o r).bd fun t r => .ok (l ++ [t]) r))
  have HT := fun w (h : PAt K w B r o) => Hid.intro (assign_any h)
  have hmo : Tryz.prog.follows .mixedOrders = true := by kernel_rfl
  obtain ⟨x, r0, hr0, -⟩ := gd_cons h.gd
  have hrl : 0 < r.length := by rw [hr0]; simp
  obtain ⟨i0, hi, hz0, hz1, hz2⟩ := info_parts infoAssign'
  have d1 := h1.2.2.1
  have HX := Hid.intro h1
  have HV := Hid.intro h5
  obtain ⟨hBE, hEn, hnw, ps, cs, vs, he, hown, hrep, hpa⟩ := h5
  unfold QG at hg
  have hln : l.length ≤ 10000 := by omega
  have e0 : w.cell? ⟨C, 2, none⟩ = some (.slice ps l.length cs) := by rw [(heap_cell he 2).1]; exact hAj _
  have hEw : C < w.heap.size := by omega
  clear hr0
  cases hm : assignM o r with
  | bad q =>
    rw [hm] at HT
    rw [bd_bad]
    clear hm
    go_enter Tryz.func173, Tryz.ntmps173
    go_wp2_with fail
    refine wp_region_held_drew (S := fun w' => w'.cell? ⟨c1, 0, none⟩ = some (.pointer (some ⟨B, 0, none⟩))) hmo d1 (fun hS => ?_)
    refine take_q 0 2 (.pointer (some ⟨C, 2, none⟩)) ⟨_, rfl, rfl, Or.inl ⟨by rfl, fun w hSw => by go_simp⟩⟩ (by kernel_rfl) (by kernel_rfl) (by kernel_rfl) (fun _ _ _ h => h) hS ?_
    simp only [List.setIfInBounds_toArray, List.set_cons_succ, List.set_cons_zero]
    refine take_q 2 4 (.pointer (some ⟨B, 0, none⟩)) ⟨_, rfl, rfl, Or.inl ⟨by rfl, fun w hSw => by go_simp⟩⟩ (by kernel_rfl) (by kernel_rfl) (by kernel_rfl) (fun _ _ _ h => h) hS ?_
    simp only [List.setIfInBounds_toArray, List.set_cons_succ, List.set_cons_zero]
    refine wpAnyH_ready (rs := [1, 3]) (by kernel_rfl) (by simp) ?_
    refine AllReadyH.cons rfl (fun K' hK => ?_) (AllReadyH.cons rfl (fun K' hK => ?_) AllReadyH.nil)
    · go_simp
      refine hK.out _ _ (hS) (fun hS => ?_)
      clear hK K'
      (try simp only [Act.put, List.setIfInBounds_toArray, List.set_cons_succ, List.set_cons_zero])
      refine wpAnyH_ready (rs := [3]) (by kernel_rfl) (by simp) ?_
      refine AllReadyH.cons rfl (fun K' hK => ?_) AllReadyH.nil
      go_simp
      refine (HT w.drew (h.via (Below.refl _ _).drew)).out.mono ?_
      rintro e w4 ⟨hb4, rfl⟩
      exact ⟨rfl, ((Bt.refl B w).drew.trans hb4).fr hP, rfl⟩
    · go_simp
      refine (HT w.drew (h.via (Below.refl _ _).drew)).out.mono ?_
      rintro e w4 ⟨hb4, rfl⟩
      exact ⟨rfl, ((Bt.refl B w).drew.trans hb4).fr hP, rfl⟩
  | ok t r1 =>
    rw [hm] at HT
    rw [bd_ok]
    clear hm
    go_enter Tryz.func173, Tryz.ntmps173
    go_wp2_with fail
    refine wp_region_held_drew (S := fun w' => w'.cell? ⟨c1, 0, none⟩ = some (.pointer (some ⟨B, 0, none⟩))) hmo d1 (fun hS => ?_)
    refine take_q 0 2 (.pointer (some ⟨C, 2, none⟩)) ⟨_, rfl, rfl, Or.inl ⟨by rfl, fun w hSw => by go_simp⟩⟩ (by kernel_rfl) (by kernel_rfl) (by kernel_rfl) (fun _ _ _ h => h) hS ?_
    simp only [List.setIfInBounds_toArray, List.set_cons_succ, List.set_cons_zero]
    refine take_q 2 4 (.pointer (some ⟨B, 0, none⟩)) ⟨_, rfl, rfl, Or.inl ⟨by rfl, fun w hSw => by go_simp⟩⟩ (by kernel_rfl) (by kernel_rfl) (by kernel_rfl) (fun _ _ _ h => h) hS ?_
    simp only [List.setIfInBounds_toArray, List.set_cons_succ, List.set_cons_zero]
    refine wpAnyH_ready (rs := [1, 3]) (by kernel_rfl) (by simp) ?_
    refine AllReadyH.cons rfl (fun K' hK => ?_) (AllReadyH.cons rfl (fun K' hK => ?_) AllReadyH.nil)
    · go_simp
      refine hK.out _ _ (hS) (fun hS => ?_)
      clear hK K'
      (try simp only [Act.put, List.setIfInBounds_toArray, List.set_cons_succ, List.set_cons_zero])
      refine wpAnyH_ready (rs := [3]) (by kernel_rfl) (by simp) ?_
      refine AllReadyH.cons rfl (fun K' hK => ?_) AllReadyH.nil
      go_simp
      refine (HT w.drew (h.via (Below.refl _ _).drew)).out.mono ?_
      rintro e w4 ⟨hb4, hl4, hp4, v4, rfl, p6, n6, c6, p7, n7, c7, rfl, z6, z7⟩
      have hbt4 : Bt B w w4 := (Bt.refl B w).drew.trans hb4
      have hx4 := HX.out.bt hbt4
      have hV4 := RowA.stb _ _ _ P HV.out hbt4 (fun _ h => .inl h)
      obtain ⟨-, -, hnw4, ps4, cs4, vs4, he4, hown4, hrep4, hpa4⟩ := hV4
      obtain ⟨rfl, rfl⟩ : ps4 = ps ∧ cs4 = cs := by have h8 := (row_bt hbt4 (by omega) he).symm.trans he4; have h9 := congrArg (fun o => match o with | some (Obj.cells a _ _) => a[2]? | _ => none) h8; simp only [hAj, Option.some.injEq, Value.slice.injEq, true_and] at h9; exact ⟨h9.1.symm, h9.2.symm⟩
      have hc4 := hx4.2.2.1
      have hs4 : w.heap.size ≤ w4.heap.size := hb4.size
      go_wp2_with fail
      refine hK.out _ _ (hc4) (fun hS => ?_)
      clear hK K'
      (try simp only [Act.put, List.setIfInBounds_toArray, List.set_cons_succ, List.set_cons_zero])
      refine wpAnyH_ready (rs := [4]) (by kernel_rfl) (by simp) ?_
      refine AllReadyH.cons rfl (fun K' hK => ?_) AllReadyH.nil
      go_simp
      go_wp2_with fail
      refine hK.out _ _ (((hx4.bt ((Bt.refl B w4).alloc _)).2.2.1)) (fun hS => ?_)
      clear hK K'
      (try simp only [Act.put, List.setIfInBounds_toArray, List.set_cons_succ, List.set_cons_zero])
      have hal : w4.heap.size < (w4.alloc (.cells #[.string t.f, .int .i64 t.e.op, .string t.e.t, .int .i64 t.e.v.k, .bool t.e.v.b, .int .i64 t.e.v.i, .string t.e.v.s, .slice p6 n6 c6, .slice p7 n7 c7] 101)).heap.size := by simp
      refine wpAnyH_ready (rs := [5]) (by kernel_rfl) (by simp) ?_
      refine AllReadyH.cons rfl (fun K' hK => ?_) AllReadyH.nil
      rw [if_pos (by rfl)]
      refine wp_append_own _ _ 97 rfl n 101 i0 _ 9 128 Tryz.underlying97 hi hz0 hz1 hz2 rfl (by decide) _ _ _ rfl (hown4.alloc _) ⟨w4.heap.size, 0, none⟩ 1 1 [.string t.f, .int .i64 t.e.op, .string t.e.t, .int .i64 t.e.v.k, .bool t.e.v.b, .int .i64 t.e.v.i, .string t.e.v.s, .slice p6 n6 c6, .slice p7 n7 c7] rfl rfl (fun j u hj => by rw [addr_add, Nat.zero_add, (heap_cell (heap_alloc_new w4 _) j).1, ← hj]; simp) (by simp [Value.oneCell']) (by unfold maxLen; omega) (by omega) (by simp; omega) (fun sv' w5 hown5 hgr5 hat5 => ?_)
      have hq : ∀ b, b < w4.heap.size → w.heap.size ≤ b → (n ≤ b ∧ some b ≠ Value.ownBlock (.slice ps4 l.length cs4)) := fun b hb h => ⟨by omega, fun he => by have := (hown.lt b he.symm).2; omega⟩
      have htr := sx_reps (s := t.f) (rep.move (Kp.alloc w4 (.cells #[.string t.f, .int .i64 t.e.op, .string t.e.t, .int .i64 t.e.v.k, .bool t.e.v.b, .int .i64 t.e.v.i, .string t.e.v.s, .slice p6 n6 c6, .slice p7 n7 c7] 101)) (fun b hb h => hq b hb h) _ _ z6) (rep.move (Kp.alloc w4 (.cells #[.string t.f, .int .i64 t.e.op, .string t.e.t, .int .i64 t.e.v.k, .bool t.e.v.b, .int .i64 t.e.v.i, .string t.e.v.s, .slice p6 n6 c6, .slice p7 n7 c7] 101)) (fun b hb h => hq b hb h) _ _ z7)
      obtain ⟨g5, k5, rfl⟩ := ownsRow_succ hown5
      obtain ⟨hV5, hF5, hE5⟩ := RowA.push (j := 2) hA hBE hEn (by simp; omega) ((heap_alloc_old w4 _ (by omega)).trans he4) (hown4.alloc _) (reps.move (Kp.alloc w4 _) (fun _ _ h => h) _ _ hrep4) hpa4 ((hP.up hs4).up (by simp)) htr hown5 hgr5 hat5
      have hx5 := (hx4.bt ((Bt.refl B w4).alloc _)).grown hgr5 (own_below hown4 (.inl h2))
      have e5 : w5.cell? ⟨C, 2, none⟩ = some (.slice ps4 l.length cs4) := by rw [(heap_cell hE5 2).1]; exact hAj _
      have f5 : w5.frozen? ⟨C, 2, none⟩ = false := (heap_cell hE5 2).2
      refine hK.out _ _ (hx5.2.2.1) (fun hS => ?_)
      clear hK K'
      (try simp only [Act.put, List.setIfInBounds_toArray])
      refine take_q 6 8 (.pointer (some ⟨C, 2, none⟩)) ⟨_, rfl, rfl, Or.inl ⟨by rfl, fun w hSw => by go_simp⟩⟩ (by kernel_rfl) (by kernel_rfl) (by kernel_rfl) (fun _ _ _ h => h) hS ?_
      simp only [List.setIfInBounds_toArray, List.set_cons_succ, List.set_cons_zero]
      refine wpAnyH_ready (rs := [7]) (by kernel_rfl) (by simp) ?_
      refine AllReadyH.cons rfl (fun K' hK => ?_) AllReadyH.nil
      go_simp
      go_wp2_with fail
      refine hK.out _ _ ((hx5.set h3).2.2.1) (fun hS => ?_)
      clear hK K'
      (try simp only [Act.put, List.setIfInBounds_toArray, List.set_cons_succ, List.set_cons_zero])
      refine wpAnyH_done (by kernel_rfl) ?_ _
      go_wp2_with fail
      go_end0
      refine ⟨(((hbt4.fr hP).alloc (hP.up hs4 · · |>.1) _).trans hF5), rfl, by unfold QG; simp; omega, ⟨hx5.set h3, h2, h3, by simpa [List.flatMap_append, As.cs] using hV5⟩, ((hp4.via (below_al (Below.refl _ _) _)).grown hgr5 (fun k hk => by have := (hown4.lt k hk).1; omega)).set hCK _ _, by omega⟩
    · go_simp
      refine (HT w.drew (h.via (Below.refl _ _).drew)).out.mono ?_
      rintro e w4 ⟨hb4, hl4, hp4, v4, rfl, p6, n6, c6, p7, n7, c7, rfl, z6, z7⟩
      have hbt4 : Bt B w w4 := (Bt.refl B w).drew.trans hb4
      have hx4 := HX.out.bt hbt4
      have hV4 := RowA.stb _ _ _ P HV.out hbt4 (fun _ h => .inl h)
      obtain ⟨-, -, hnw4, ps4, cs4, vs4, he4, hown4, hrep4, hpa4⟩ := hV4
      obtain ⟨rfl, rfl⟩ : ps4 = ps ∧ cs4 = cs := by have h8 := (row_bt hbt4 (by omega) he).symm.trans he4; have h9 := congrArg (fun o => match o with | some (Obj.cells a _ _) => a[2]? | _ => none) h8; simp only [hAj, Option.some.injEq, Value.slice.injEq, true_and] at h9; exact ⟨h9.1.symm, h9.2.symm⟩
      have hc4 := hx4.2.2.1
      have hs4 : w.heap.size ≤ w4.heap.size := hb4.size
      go_wp2_with fail
      refine hK.out _ _ (hc4) (fun hS => ?_)
      clear hK K'
      (try simp only [Act.put, List.setIfInBounds_toArray, List.set_cons_succ, List.set_cons_zero])
      refine wpAnyH_ready (rs := [1, 4]) (by kernel_rfl) (by simp) ?_
      refine AllReadyH.cons rfl (fun K' hK => ?_) (AllReadyH.cons rfl (fun K' hK => ?_) AllReadyH.nil)
      · have e04 : w4.cell? ⟨C, 2, none⟩ = some (.slice ps4 l.length cs4) := by rw [(heap_cell he4 2).1]; exact hAj _
        have hEw4 : C < w4.heap.size := by omega
        go_simp
        refine hK.out _ _ (hS) (fun hS => ?_)
        clear hK K'
        (try simp only [Act.put, List.setIfInBounds_toArray, List.set_cons_succ, List.set_cons_zero])
        refine wpAnyH_ready (rs := [4]) (by kernel_rfl) (by simp) ?_
        refine AllReadyH.cons rfl (fun K' hK => ?_) AllReadyH.nil
        go_simp
        go_wp2_with fail
        refine hK.out _ _ (((hx4.bt ((Bt.refl B w4).alloc _)).2.2.1)) (fun hS => ?_)
        clear hK K'
        (try simp only [Act.put, List.setIfInBounds_toArray, List.set_cons_succ, List.set_cons_zero])
        have hal : w4.heap.size < (w4.alloc (.cells #[.string t.f, .int .i64 t.e.op, .string t.e.t, .int .i64 t.e.v.k, .bool t.e.v.b, .int .i64 t.e.v.i, .string t.e.v.s, .slice p6 n6 c6, .slice p7 n7 c7] 101)).heap.size := by simp
        refine wpAnyH_ready (rs := [5]) (by kernel_rfl) (by simp) ?_
        refine AllReadyH.cons rfl (fun K' hK => ?_) AllReadyH.nil
        rw [if_pos (by rfl)]
        refine wp_append_own _ _ 97 rfl n 101 i0 _ 9 128 Tryz.underlying97 hi hz0 hz1 hz2 rfl (by decide) _ _ _ rfl (hown4.alloc _) ⟨w4.heap.size, 0, none⟩ 1 1 [.string t.f, .int .i64 t.e.op, .string t.e.t, .int .i64 t.e.v.k, .bool t.e.v.b, .int .i64 t.e.v.i, .string t.e.v.s, .slice p6 n6 c6, .slice p7 n7 c7] rfl rfl (fun j u hj => by rw [addr_add, Nat.zero_add, (heap_cell (heap_alloc_new w4 _) j).1, ← hj]; simp) (by simp [Value.oneCell']) (by unfold maxLen; omega) (by omega) (by simp; omega) (fun sv' w5 hown5 hgr5 hat5 => ?_)
        have hq : ∀ b, b < w4.heap.size → w.heap.size ≤ b → (n ≤ b ∧ some b ≠ Value.ownBlock (.slice ps4 l.length cs4)) := fun b hb h => ⟨by omega, fun he => by have := (hown.lt b he.symm).2; omega⟩
        have htr := sx_reps (s := t.f) (rep.move (Kp.alloc w4 (.cells #[.string t.f, .int .i64 t.e.op, .string t.e.t, .int .i64 t.e.v.k, .bool t.e.v.b, .int .i64 t.e.v.i, .string t.e.v.s, .slice p6 n6 c6, .slice p7 n7 c7] 101)) (fun b hb h => hq b hb h) _ _ z6) (rep.move (Kp.alloc w4 (.cells #[.string t.f, .int .i64 t.e.op, .string t.e.t, .int .i64 t.e.v.k, .bool t.e.v.b, .int .i64 t.e.v.i, .string t.e.v.s, .slice p6 n6 c6, .slice p7 n7 c7] 101)) (fun b hb h => hq b hb h) _ _ z7)
        obtain ⟨g5, k5, rfl⟩ := ownsRow_succ hown5
        obtain ⟨hV5, hF5, hE5⟩ := RowA.push (j := 2) hA hBE hEn (by simp; omega) ((heap_alloc_old w4 _ (by omega)).trans he4) (hown4.alloc _) (reps.move (Kp.alloc w4 _) (fun _ _ h => h) _ _ hrep4) hpa4 ((hP.up hs4).up (by simp)) htr hown5 hgr5 hat5
        have hx5 := (hx4.bt ((Bt.refl B w4).alloc _)).grown hgr5 (own_below hown4 (.inl h2))
        have e5 : w5.cell? ⟨C, 2, none⟩ = some (.slice ps4 l.length cs4) := by rw [(heap_cell hE5 2).1]; exact hAj _
        have f5 : w5.frozen? ⟨C, 2, none⟩ = false := (heap_cell hE5 2).2
        refine hK.out _ _ (hx5.2.2.1) (fun hS => ?_)
        clear hK K'
        (try simp only [Act.put, List.setIfInBounds_toArray])
        refine take_q 6 8 (.pointer (some ⟨C, 2, none⟩)) ⟨_, rfl, rfl, Or.inl ⟨by rfl, fun w hSw => by go_simp⟩⟩ (by kernel_rfl) (by kernel_rfl) (by kernel_rfl) (fun _ _ _ h => h) hS ?_
        simp only [List.setIfInBounds_toArray, List.set_cons_succ, List.set_cons_zero]
        refine wpAnyH_ready (rs := [7]) (by kernel_rfl) (by simp) ?_
        refine AllReadyH.cons rfl (fun K' hK => ?_) AllReadyH.nil
        go_simp
        go_wp2_with fail
        refine hK.out _ _ ((hx5.set h3).2.2.1) (fun hS => ?_)
        clear hK K'
        (try simp only [Act.put, List.setIfInBounds_toArray, List.set_cons_succ, List.set_cons_zero])
        refine wpAnyH_done (by kernel_rfl) ?_ _
        go_wp2_with fail
        go_end0
        refine ⟨(((hbt4.fr hP).alloc (hP.up hs4 · · |>.1) _).trans hF5), rfl, by unfold QG; simp; omega, ⟨hx5.set h3, h2, h3, by simpa [List.flatMap_append, As.cs] using hV5⟩, ((hp4.via (below_al (Below.refl _ _) _)).grown hgr5 (fun k hk => by have := (hown4.lt k hk).1; omega)).set hCK _ _, by omega⟩
      · go_simp
        go_wp2_with fail
        refine hK.out _ _ (((hx4.bt ((Bt.refl B w4).alloc _)).2.2.1)) (fun hS => ?_)
        clear hK K'
        (try simp only [Act.put, List.setIfInBounds_toArray, List.set_cons_succ, List.set_cons_zero])
        refine wpAnyH_ready (rs := [1]) (by kernel_rfl) (by simp) ?_
        refine AllReadyH.cons rfl (fun K' hK => ?_) AllReadyH.nil
        have e04 : w4.cell? ⟨C, 2, none⟩ = some (.slice ps4 l.length cs4) := by rw [(heap_cell he4 2).1]; exact hAj _
        have hEw4 : C < w4.heap.size := by omega
        go_simp
        refine hK.out _ _ (((hx4.bt ((Bt.refl B w4).alloc _)).2.2.1)) (fun hS => ?_)
        clear hK K'
        (try simp only [Act.put, List.setIfInBounds_toArray, List.set_cons_succ, List.set_cons_zero])
        have hal : w4.heap.size < (w4.alloc (.cells #[.string t.f, .int .i64 t.e.op, .string t.e.t, .int .i64 t.e.v.k, .bool t.e.v.b, .int .i64 t.e.v.i, .string t.e.v.s, .slice p6 n6 c6, .slice p7 n7 c7] 101)).heap.size := by simp
        refine wpAnyH_ready (rs := [5]) (by kernel_rfl) (by simp) ?_
        refine AllReadyH.cons rfl (fun K' hK => ?_) AllReadyH.nil
        rw [if_pos (by rfl)]
        refine wp_append_own _ _ 97 rfl n 101 i0 _ 9 128 Tryz.underlying97 hi hz0 hz1 hz2 rfl (by decide) _ _ _ rfl (hown4.alloc _) ⟨w4.heap.size, 0, none⟩ 1 1 [.string t.f, .int .i64 t.e.op, .string t.e.t, .int .i64 t.e.v.k, .bool t.e.v.b, .int .i64 t.e.v.i, .string t.e.v.s, .slice p6 n6 c6, .slice p7 n7 c7] rfl rfl (fun j u hj => by rw [addr_add, Nat.zero_add, (heap_cell (heap_alloc_new w4 _) j).1, ← hj]; simp) (by simp [Value.oneCell']) (by unfold maxLen; omega) (by omega) (by simp; omega) (fun sv' w5 hown5 hgr5 hat5 => ?_)
        have hq : ∀ b, b < w4.heap.size → w.heap.size ≤ b → (n ≤ b ∧ some b ≠ Value.ownBlock (.slice ps4 l.length cs4)) := fun b hb h => ⟨by omega, fun he => by have := (hown.lt b he.symm).2; omega⟩
        have htr := sx_reps (s := t.f) (rep.move (Kp.alloc w4 (.cells #[.string t.f, .int .i64 t.e.op, .string t.e.t, .int .i64 t.e.v.k, .bool t.e.v.b, .int .i64 t.e.v.i, .string t.e.v.s, .slice p6 n6 c6, .slice p7 n7 c7] 101)) (fun b hb h => hq b hb h) _ _ z6) (rep.move (Kp.alloc w4 (.cells #[.string t.f, .int .i64 t.e.op, .string t.e.t, .int .i64 t.e.v.k, .bool t.e.v.b, .int .i64 t.e.v.i, .string t.e.v.s, .slice p6 n6 c6, .slice p7 n7 c7] 101)) (fun b hb h => hq b hb h) _ _ z7)
        obtain ⟨g5, k5, rfl⟩ := ownsRow_succ hown5
        obtain ⟨hV5, hF5, hE5⟩ := RowA.push (j := 2) hA hBE hEn (by simp; omega) ((heap_alloc_old w4 _ (by omega)).trans he4) (hown4.alloc _) (reps.move (Kp.alloc w4 _) (fun _ _ h => h) _ _ hrep4) hpa4 ((hP.up hs4).up (by simp)) htr hown5 hgr5 hat5
        have hx5 := (hx4.bt ((Bt.refl B w4).alloc _)).grown hgr5 (own_below hown4 (.inl h2))
        have e5 : w5.cell? ⟨C, 2, none⟩ = some (.slice ps4 l.length cs4) := by rw [(heap_cell hE5 2).1]; exact hAj _
        have f5 : w5.frozen? ⟨C, 2, none⟩ = false := (heap_cell hE5 2).2
        refine hK.out _ _ (hx5.2.2.1) (fun hS => ?_)
        clear hK K'
        (try simp only [Act.put, List.setIfInBounds_toArray])
        refine take_q 6 8 (.pointer (some ⟨C, 2, none⟩)) ⟨_, rfl, rfl, Or.inl ⟨by rfl, fun w hSw => by go_simp⟩⟩ (by kernel_rfl) (by kernel_rfl) (by kernel_rfl) (fun _ _ _ h => h) hS ?_
        simp only [List.setIfInBounds_toArray, List.set_cons_succ, List.set_cons_zero]
        refine wpAnyH_ready (rs := [7]) (by kernel_rfl) (by simp) ?_
        refine AllReadyH.cons rfl (fun K' hK => ?_) AllReadyH.nil
        go_simp
        go_wp2_with fail
        refine hK.out _ _ ((hx5.set h3).2.2.1) (fun hS => ?_)
        clear hK K'
        (try simp only [Act.put, List.setIfInBounds_toArray, List.set_cons_succ, List.set_cons_zero])
        refine wpAnyH_done (by kernel_rfl) ?_ _
        go_wp2_with fail
        go_end0
        refine ⟨(((hbt4.fr hP).alloc (hP.up hs4 · · |>.1) _).trans hF5), rfl, by unfold QG; simp; omega, ⟨hx5.set h3, h2, h3, by simpa [List.flatMap_append, As.cs] using hV5⟩, ((hp4.via (below_al (Below.refl _ _) _)).grown hgr5 (fun k hk => by have := (hown4.lt k hk).1; omega)).set hCK _ _, by omega⟩
end Go.Proofs.YtcgaadnfocmdbaaGreatDoor
end

section
/- question. -/
namespace Go.Proofs.YtcgaadnfocmdbaaGreatDoor
open Go.RowKit

def quA (s : ByteArray) : Value → Array Value := fun u => #[.int .i64 9, .string ⟨#[]⟩, .string ⟨#[]⟩, .slice none 0 0, .slice none 0 0, .slice none 0 0, .slice none 0 0, .slice none 0 0, .int .i64 0, .string ⟨#[]⟩, .int .i64 0, .bool false, .int .i64 0, .string ⟨#[]⟩, .slice none 0 0, .slice none 0 0, .string ⟨#[]⟩, .string s, u]
theorem quA_set (s : ByteArray) (u u' : Value) : (quA s u).setIfInBounds 18 u' = quA s u' := by simp [quA]
theorem quA_at (s : ByteArray) (u : Value) : (quA s u)[18]? = some u := by simp [quA]

set_option maxRecDepth 100000 in
set_option maxHeartbeats 4000000 in
theorem question_any {K B o : Nat} {r : List Lx} {w : World} (h : PAt K w B r o) :
    Calls Tryz.prog 114 #[.pointer (some ⟨B, 0, none⟩)] w (Post K B o (r.length - 1) w (questionM o r) fun w' c v => CdV (fun b => w.heap.size ≤ b) w' c v) := by
  have hmf : ∀ (fn : Fn) (first cap : Array Value) (w : World), (Instr.makeFunc fn first cap).run Tryz.prog w = .ok (.func fn first cap) w := fun _ _ _ _ => rfl
  have hsz := h.size
  have hlen := h.len
  have b0 : Below w.heap.size w ((w.alloc (.cells #[.pointer (some ⟨B, 0, none⟩)] 55)).alloc (.cells #[.int .i64 0, .string ⟨#[]⟩, .string ⟨#[]⟩, .slice none 0 0, .slice none 0 0, .slice none 0 0, .slice none 0 0, .slice none 0 0, .int .i64 0, .string ⟨#[]⟩, .int .i64 0, .bool false, .int .i64 0, .string ⟨#[]⟩, .slice none 0 0, .slice none 0 0, .string ⟨#[]⟩, .string ⟨#[]⟩, .slice none 0 0] 96)) := below_al (below_al (Below.refl _ _) _) _
  have hX0 : Bx B w.heap.size (.pointer (some ⟨B, 0, none⟩)) ((w.alloc (.cells #[.pointer (some ⟨B, 0, none⟩)] 55)).alloc (.cells #[.int .i64 0, .string ⟨#[]⟩, .string ⟨#[]⟩, .slice none 0 0, .slice none 0 0, .slice none 0 0, .slice none 0 0, .slice none 0 0, .int .i64 0, .string ⟨#[]⟩, .int .i64 0, .bool false, .int .i64 0, .string ⟨#[]⟩, .slice none 0 0, .slice none 0 0, .string ⟨#[]⟩, .string ⟨#[]⟩, .slice none 0 0] 96)) := (Bx.new w _ _ (by omega)).bt ((Bt.refl B _).alloc _)
  have hR0 : ((w.alloc (.cells #[.pointer (some ⟨B, 0, none⟩)] 55)).alloc (.cells #[.int .i64 0, .string ⟨#[]⟩, .string ⟨#[]⟩, .slice none 0 0, .slice none 0 0, .slice none 0 0, .slice none 0 0, .slice none 0 0, .int .i64 0, .string ⟨#[]⟩, .int .i64 0, .bool false, .int .i64 0, .string ⟨#[]⟩, .slice none 0 0, .slice none 0 0, .string ⟨#[]⟩, .string ⟨#[]⟩, .slice none 0 0] 96)).heap[w.heap.size + 1]? = some (.cells #[.int .i64 0, .string ⟨#[]⟩, .string ⟨#[]⟩, .slice none 0 0, .slice none 0 0, .slice none 0 0, .slice none 0 0, .slice none 0 0, .int .i64 0, .string ⟨#[]⟩, .int .i64 0, .bool false, .int .i64 0, .string ⟨#[]⟩, .slice none 0 0, .slice none 0 0, .string ⟨#[]⟩, .string ⟨#[]⟩, .slice none 0 0] 96) := heap_alloc2_new w _ _
  have HN := Hid.intro (pname_any (h.via b0))
  unfold questionM
  cases h1 : nameM r with
  | bad q =>
    rw [h1] at HN
    rw [bd_bad]
    clear h1
    go_enter Tryz.func114, Tryz.ntmps114
    go_wp2_with fail
    refine HN.out.mono ?_
    rintro e v1 ⟨ht1, rfl⟩
    exact ⟨rfl, (Bt.below b0).trans ht1, rfl⟩
  | ok s r1 =>
    rw [h1] at HN
    rw [bd_ok]
    clear h1
    have hstep : ∀ v1 : World, Bt B ((w.alloc (.cells #[.pointer (some ⟨B, 0, none⟩)] 55)).alloc (.cells #[.int .i64 0, .string ⟨#[]⟩, .string ⟨#[]⟩, .slice none 0 0, .slice none 0 0, .slice none 0 0, .slice none 0 0, .slice none 0 0, .int .i64 0, .string ⟨#[]⟩, .int .i64 0, .bool false, .int .i64 0, .string ⟨#[]⟩, .slice none 0 0, .slice none 0 0, .string ⟨#[]⟩, .string ⟨#[]⟩, .slice none 0 0] 96)) v1 → PAt K v1 B r1 o → r1.length ≤ r.length - 1 → ∃ W0, Hid ((v1.alloc (.cells #[.int .i64 0, .string ⟨#[]⟩, .string ⟨#[]⟩, .slice none 0 0, .slice none 0 0, .slice none 0 0, .slice none 0 0, .slice none 0 0, .int .i64 0, .string ⟨#[]⟩, .int .i64 0, .bool false, .int .i64 0, .string ⟨#[]⟩, .slice none 0 0, .slice none 0 0, .string ⟨#[]⟩, .string ⟨#[]⟩, .slice none 0 0] 96)).heap[v1.heap.size]? = some (.cells #[.int .i64 0, .string ⟨#[]⟩, .string ⟨#[]⟩, .slice none 0 0, .slice none 0 0, .slice none 0 0, .slice none 0 0, .slice none 0 0, .int .i64 0, .string ⟨#[]⟩, .int .i64 0, .bool false, .int .i64 0, .string ⟨#[]⟩, .slice none 0 0, .slice none 0 0, .string ⟨#[]⟩, .string ⟨#[]⟩, .slice none 0 0] 96)) ∧ (v1.alloc (.cells #[.int .i64 0, .string ⟨#[]⟩, .string ⟨#[]⟩, .slice none 0 0, .slice none 0 0, .slice none 0 0, .slice none 0 0, .slice none 0 0, .int .i64 0, .string ⟨#[]⟩, .int .i64 0, .bool false, .int .i64 0, .string ⟨#[]⟩, .slice none 0 0, .slice none 0 0, .string ⟨#[]⟩, .string ⟨#[]⟩, .slice none 0 0] 96)).setRow v1.heap.size #[.int .i64 9, .string ⟨#[]⟩, .string ⟨#[]⟩, .slice none 0 0, .slice none 0 0, .slice none 0 0, .slice none 0 0, .slice none 0 0, .int .i64 0, .string ⟨#[]⟩, .int .i64 0, .bool false, .int .i64 0, .string ⟨#[]⟩, .slice none 0 0, .slice none 0 0, .string ⟨#[]⟩, .string s, .slice none 0 0] = W0 ∧ Hid (Bt B w W0) ∧ W0.cell? ⟨w.heap.size, 0, none⟩ = some (.pointer (some ⟨B, 0, none⟩)) ∧ w.heap.size < W0.heap.size ∧ w.heap.size + 1 < v1.heap.size ∧
        Hid (W0.heap[w.heap.size + 1]? = some (.cells #[.int .i64 0, .string ⟨#[]⟩, .string ⟨#[]⟩, .slice none 0 0, .slice none 0 0, .slice none 0 0, .slice none 0 0, .slice none 0 0, .int .i64 0, .string ⟨#[]⟩, .int .i64 0, .bool false, .int .i64 0, .string ⟨#[]⟩, .slice none 0 0, .slice none 0 0, .string ⟨#[]⟩, .string ⟨#[]⟩, .slice none 0 0] 96)) ∧ Hid (Calls Tryz.prog 68 #[.pointer (some ⟨B, 0, none⟩), .string ⟨#[40]⟩, .string ⟨#[41]⟩, .func (.func 155) #[] #[.pointer (some ⟨v1.heap.size, 0, none⟩), .pointer (some ⟨w.heap.size, 0, none⟩)]] W0 (CPost K B o (r1.length - 1) (fun b => (b < w.heap.size ∧ b ≠ B) ∨ b = w.heap.size + 1) W0 QG (QJ (v1.heap.size + 1) B w.heap.size v1.heap.size 96 (quA s) 130 Ar.cs) (listM ⟨#[40]⟩ ⟨#[41]⟩ o (fun l r => (argM (o + 1) r).bd fun t r => .ok (l ++ [t]) r) [] r1))) := by
      intro v1 ht1 hp1 hl1
      have hA : (v1.alloc (.cells #[.int .i64 0, .string ⟨#[]⟩, .string ⟨#[]⟩, .slice none 0 0, .slice none 0 0, .slice none 0 0, .slice none 0 0, .slice none 0 0, .int .i64 0, .string ⟨#[]⟩, .int .i64 0, .bool false, .int .i64 0, .string ⟨#[]⟩, .slice none 0 0, .slice none 0 0, .string ⟨#[]⟩, .string ⟨#[]⟩, .slice none 0 0] 96)).heap[v1.heap.size]? = some (.cells #[.int .i64 0, .string ⟨#[]⟩, .string ⟨#[]⟩, .slice none 0 0, .slice none 0 0, .slice none 0 0, .slice none 0 0, .slice none 0 0, .int .i64 0, .string ⟨#[]⟩, .int .i64 0, .bool false, .int .i64 0, .string ⟨#[]⟩, .slice none 0 0, .slice none 0 0, .string ⟨#[]⟩, .string ⟨#[]⟩, .slice none 0 0] 96) := heap_alloc_new _ _
      have hR1 := row_bt ht1 (by omega) hR0
      have hlt1 : w.heap.size + 1 < v1.heap.size := (Array.getElem?_eq_some_iff.1 hR1).1
      have hbW : Bt B ((w.alloc (.cells #[.pointer (some ⟨B, 0, none⟩)] 55)).alloc (.cells #[.int .i64 0, .string ⟨#[]⟩, .string ⟨#[]⟩, .slice none 0 0, .slice none 0 0, .slice none 0 0, .slice none 0 0, .slice none 0 0, .int .i64 0, .string ⟨#[]⟩, .int .i64 0, .bool false, .int .i64 0, .string ⟨#[]⟩, .slice none 0 0, .slice none 0 0, .string ⟨#[]⟩, .string ⟨#[]⟩, .slice none 0 0] 96)) ((v1.alloc (.cells #[.int .i64 0, .string ⟨#[]⟩, .string ⟨#[]⟩, .slice none 0 0, .slice none 0 0, .slice none 0 0, .slice none 0 0, .slice none 0 0, .int .i64 0, .string ⟨#[]⟩, .int .i64 0, .bool false, .int .i64 0, .string ⟨#[]⟩, .slice none 0 0, .slice none 0 0, .string ⟨#[]⟩, .string ⟨#[]⟩, .slice none 0 0] 96)).setRow v1.heap.size #[.int .i64 9, .string ⟨#[]⟩, .string ⟨#[]⟩, .slice none 0 0, .slice none 0 0, .slice none 0 0, .slice none 0 0, .slice none 0 0, .int .i64 0, .string ⟨#[]⟩, .int .i64 0, .bool false, .int .i64 0, .string ⟨#[]⟩, .slice none 0 0, .slice none 0 0, .string ⟨#[]⟩, .string s, .slice none 0 0]) := (ht1.alloc _).row (by simp; omega) _
      have hXW := hX0.bt hbW
      refine ⟨_, hA, rfl, (Bt.below b0).trans hbW, hXW.2.2.1, hXW.2.1, hlt1, row_bt hbW (by omega) hR0, ?_⟩
      refine list_any QG.tail (QJ.stb (v1.heap.size + 1) B w.heap.size v1.heap.size 96 (quA s) 130 Ar.cs) (que1_clo (v1.heap.size + 1) w.heap.size v1.heap.size (quA s) (quA_set s) (quA_at s) (by omega)) (P := fun b => (b < w.heap.size ∧ b ≠ B) ∨ b = w.heap.size + 1) (s := []) (r := r1) (fun b hb => ⟨by simp; omega, by omega⟩) (by unfold QG; simp; omega) ⟨hXW, by omega, by omega, ?_⟩ ((hp1.via (below_al (Below.refl _ _) _)).row (by omega) _) ⟨#[40]⟩ ⟨#[41]⟩
      exact ⟨by omega, by omega, by simp, none, 0, [], setRow_heap _ _ _ _ _ _ hA, World.ownsRow_nil _ _ _ _, reps.nil, fun b hb => ⟨by omega, by simp [Value.ownBlock]⟩⟩
    cases hm : listM ⟨#[40]⟩ ⟨#[41]⟩ o (fun l r => (argM (o + 1) r).bd fun t r => .ok (l ++ [t]) r) [] r1 with
    | bad q =>
      rw [hm] at hstep
      rw [bd_bad]
      clear hm
      go_enter Tryz.func114, Tryz.ntmps114
      go_wp2_with fail
      refine HN.out.mono ?_
      rintro e v1 ⟨ht1, hl1, hp1, x, rfl, rfl⟩
      obtain ⟨W0, HA, hW0, HB, hc1, hc2, hlt1, HR, HW⟩ := hstep v1 ht1 hp1 hl1
      go_wp2_with (with_reducible refine (id (?_ : wpList _ _ _ (Oper.mk _ (Op.store _ _ _) _ _ _ _ :: _) _ _)); refine wpList_store_row rfl _ _ _ rfl _ _ rfl rfl _ _ HA.out infoCond rfl rfl (by simp [Value.oneCell']) ?_)
      refine HW.out.mono ?_
      rintro e w1 ⟨hf, rfl⟩
      exact ⟨rfl, HB.out.fra (hf.mono fun b hb => .inl hb), rfl⟩
    | ok l r2 =>
      rw [hm] at hstep
      rw [bd_ok]
      clear hm
      go_enter Tryz.func114, Tryz.ntmps114
      go_wp2_with fail
      refine HN.out.mono ?_
      rintro e v1 ⟨ht1, hl1, hp1, x, rfl, rfl⟩
      obtain ⟨W0, HA, hW0, HB, hc1, hc2, hlt1, HR, HW⟩ := hstep v1 ht1 hp1 hl1
      go_wp2_with (with_reducible refine (id (?_ : wpList _ _ _ (Oper.mk _ (Op.store _ _ _) _ _ _ _ :: _) _ _)); refine wpList_store_row rfl _ _ _ rfl _ _ rfl rfl _ _ HA.out infoCond rfl rfl (by simp [Value.oneCell']) ?_)
      refine HW.out.mono ?_
      rintro e w1 ⟨hf, rfl, hg, ⟨j1, j2, j3, k1, k2, k3, p, c, vs, k4, k5, k6, k7⟩, hp, hl⟩
      have HC1 := Hid.intro k4
      have HR1 := Hid.intro ((hf.block _ (.inr rfl)).trans HR.out)
      have hrep : rep (fun b => v1.heap.size < b) w1 (.sl l.length (l.flatMap Ar.cs)) (.slice p l.length c) := rep.own k5 (reps.move Kp.refl (fun b _ h => by omega) _ _ k6) (fun g hg => by have := (k5.lt g hg).1; omega)
      unfold quA at HC1
      go_wp2_with (first | (with_reducible refine (id (?_ : wpList _ _ _ (Oper.mk _ (Op.load _ _) _ _ _ _ :: _) _ _)); refine wpList_load_cells rfl _ _ rfl _ rfl _ _ _ HC1.out Tryz.underlying96 infoCond rfl ?_) | (with_reducible refine (id (?_ : wpList _ _ _ (Oper.mk _ (Op.store _ _ _) _ _ _ _ :: _) _ _)); refine wpList_store_row rfl _ _ _ rfl _ _ rfl rfl _ _ HR1.out infoCond rfl rfl (by simp [Value.oneCell']) ?_))
      refine ret_cells rfl rfl (setRow_heap _ _ _ _ _ _ HR1.out) Tryz.underlying96 infoCond rfl rfl (Post.ok ((HB.out.fra (hf.mono fun b hb => .inl hb)).row (by omega) _) (by omega) (hp.row (by omega) _) ?_)
      refine ⟨.slice none 0 0, .slice none 0 0, .slice none 0 0, .slice none 0 0, .slice none 0 0, .slice none 0 0, .slice none 0 0, .slice p l.length c, rfl, ⟨rep.none, rep.none, ?_, ?_, ?_⟩, ?_, ?_, ?_⟩
      · simpa [Cd.css] using rep.none
      · simpa [Cd.css] using rep.none
      · simpa [Cd.csss] using rep.none
      · simpa [Vt.css] using rep.none
      · simpa [Ex.css] using rep.none
      · exact rep.move ⟨by simp, fun b hb _ o => World.cell?_of_block (a := ⟨b, o, none⟩) (setRow_other _ _ _ _ (by simp only; omega))⟩ (fun b _ h => by omega) _ _ hrep
end Go.Proofs.YtcgaadnfocmdbaaGreatDoor
end

section
/- insertion. -/
namespace Go.Proofs.YtcgaadnfocmdbaaGreatDoor
open Go.RowKit

/-- An action's cells. -/
def AcV (P : Nat → Prop) (w : World) (a : Ac) (v : Value) : Prop :=
  ∃ x2 p6 n6 c6 p7 n7 c7, v = .agg #[.int .i64 a.k, .string a.c, x2, .int .i64 a.e.op, .string a.e.t, .int .i64 a.e.v.k, .bool a.e.v.b, .int .i64 a.e.v.i, .string a.e.v.s, .slice p6 n6 c6, .slice p7 n7 c7, .string a.t] ∧
    rep P w (.sl a.set.length (a.set.flatMap As.cs)) x2 ∧ rep P w (.sl a.e.v.l.length (Vt.css a.e.v.l)) (.slice p6 n6 c6) ∧ rep P w (.sl a.e.a.length (Ex.css a.e.a)) (.slice p7 n7 c7)
theorem infoAct : (Tryz.prog.info? 99).map (·.size) = some 12 := by kernel_rfl
def inA (k : Int) (s : ByteArray) : Value → Array Value := fun u => #[.int .i64 k, .string s, u, .int .i64 0, .string ⟨#[]⟩, .int .i64 0, .bool false, .int .i64 0, .string ⟨#[]⟩, .slice none 0 0, .slice none 0 0, .string ⟨#[]⟩]
theorem inA_set (k : Int) (s : ByteArray) (u u' : Value) : (inA k s u).setIfInBounds 2 u' = inA k s u' := by simp [inA]
theorem inA_at (k : Int) (s : ByteArray) (u : Value) : (inA k s u)[2]? = some u := by simp [inA]

set_option maxRecDepth 100000 in
set_option maxHeartbeats 4000000 in
theorem insertion_any {K B : Nat} {r : List Lx} {w : World} (h : PAt K w B r 0) (k : Int) :
    Calls Tryz.prog 160 #[.pointer (some ⟨B, 0, none⟩), .int .i64 k] w (Post K B 0 (r.length - 1) w (insM k r) fun w' c v => AcV (fun b => w.heap.size ≤ b) w' c v) := by
  have hmf : ∀ (fn : Fn) (first cap : Array Value) (w : World), (Instr.makeFunc fn first cap).run Tryz.prog w = .ok (.func fn first cap) w := fun _ _ _ _ => rfl
  have hsz := h.size
  have hlen := h.len
  have b0 : Below w.heap.size w ((w.alloc (.cells #[.pointer (some ⟨B, 0, none⟩)] 55)).alloc (.cells #[.int .i64 0, .string ⟨#[]⟩, .slice none 0 0, .int .i64 0, .string ⟨#[]⟩, .int .i64 0, .bool false, .int .i64 0, .string ⟨#[]⟩, .slice none 0 0, .slice none 0 0, .string ⟨#[]⟩] 99)) := below_al (below_al (Below.refl _ _) _) _
  have hX0 : Bx B w.heap.size (.pointer (some ⟨B, 0, none⟩)) ((w.alloc (.cells #[.pointer (some ⟨B, 0, none⟩)] 55)).alloc (.cells #[.int .i64 0, .string ⟨#[]⟩, .slice none 0 0, .int .i64 0, .string ⟨#[]⟩, .int .i64 0, .bool false, .int .i64 0, .string ⟨#[]⟩, .slice none 0 0, .slice none 0 0, .string ⟨#[]⟩] 99)) := (Bx.new w _ _ (by omega)).bt ((Bt.refl B _).alloc _)
  have hR0 : ((w.alloc (.cells #[.pointer (some ⟨B, 0, none⟩)] 55)).alloc (.cells #[.int .i64 0, .string ⟨#[]⟩, .slice none 0 0, .int .i64 0, .string ⟨#[]⟩, .int .i64 0, .bool false, .int .i64 0, .string ⟨#[]⟩, .slice none 0 0, .slice none 0 0, .string ⟨#[]⟩] 99)).heap[w.heap.size + 1]? = some (.cells #[.int .i64 0, .string ⟨#[]⟩, .slice none 0 0, .int .i64 0, .string ⟨#[]⟩, .int .i64 0, .bool false, .int .i64 0, .string ⟨#[]⟩, .slice none 0 0, .slice none 0 0, .string ⟨#[]⟩] 99) := heap_alloc2_new w _ _
  have HN := Hid.intro (pname_any (h.via b0))
  unfold insM
  change Calls _ _ _ _ (Post K B 0 (r.length - 1) w ((nameM r).bd fun c r => (listM ⟨#[123]⟩ ⟨#[125]⟩ 0 (fun l r => (assignM (0 + 1) r).bd fun t r => .ok (l ++ [t]) r) [] r).bd fun l r => .ok ({ k := k, c := c, set := l } : Ac) r) _)
  cases h1 : nameM r with
  | bad q =>
    rw [h1] at HN
    rw [bd_bad]
    clear h1
    go_enter Tryz.func160, Tryz.ntmps160
    go_wp2_with fail
    refine HN.out.mono ?_
    rintro e v1 ⟨ht1, rfl⟩
    exact ⟨rfl, (Bt.below b0).trans ht1, rfl⟩
  | ok s r1 =>
    rw [h1] at HN
    rw [bd_ok]
    clear h1
    have hstep : ∀ v1 : World, Bt B ((w.alloc (.cells #[.pointer (some ⟨B, 0, none⟩)] 55)).alloc (.cells #[.int .i64 0, .string ⟨#[]⟩, .slice none 0 0, .int .i64 0, .string ⟨#[]⟩, .int .i64 0, .bool false, .int .i64 0, .string ⟨#[]⟩, .slice none 0 0, .slice none 0 0, .string ⟨#[]⟩] 99)) v1 → PAt K v1 B r1 0 → r1.length ≤ r.length - 1 → ∃ W0, Hid ((v1.alloc (.cells #[.int .i64 0, .string ⟨#[]⟩, .slice none 0 0, .int .i64 0, .string ⟨#[]⟩, .int .i64 0, .bool false, .int .i64 0, .string ⟨#[]⟩, .slice none 0 0, .slice none 0 0, .string ⟨#[]⟩] 99)).heap[v1.heap.size]? = some (.cells #[.int .i64 0, .string ⟨#[]⟩, .slice none 0 0, .int .i64 0, .string ⟨#[]⟩, .int .i64 0, .bool false, .int .i64 0, .string ⟨#[]⟩, .slice none 0 0, .slice none 0 0, .string ⟨#[]⟩] 99)) ∧ (v1.alloc (.cells #[.int .i64 0, .string ⟨#[]⟩, .slice none 0 0, .int .i64 0, .string ⟨#[]⟩, .int .i64 0, .bool false, .int .i64 0, .string ⟨#[]⟩, .slice none 0 0, .slice none 0 0, .string ⟨#[]⟩] 99)).setRow v1.heap.size #[.int .i64 k, .string s, .slice none 0 0, .int .i64 0, .string ⟨#[]⟩, .int .i64 0, .bool false, .int .i64 0, .string ⟨#[]⟩, .slice none 0 0, .slice none 0 0, .string ⟨#[]⟩] = W0 ∧ Hid (Bt B w W0) ∧ W0.cell? ⟨w.heap.size, 0, none⟩ = some (.pointer (some ⟨B, 0, none⟩)) ∧ w.heap.size < W0.heap.size ∧ w.heap.size + 1 < v1.heap.size ∧
        Hid (W0.heap[w.heap.size + 1]? = some (.cells #[.int .i64 0, .string ⟨#[]⟩, .slice none 0 0, .int .i64 0, .string ⟨#[]⟩, .int .i64 0, .bool false, .int .i64 0, .string ⟨#[]⟩, .slice none 0 0, .slice none 0 0, .string ⟨#[]⟩] 99)) ∧ Hid (Calls Tryz.prog 68 #[.pointer (some ⟨B, 0, none⟩), .string ⟨#[123]⟩, .string ⟨#[125]⟩, .func (.func 170) #[] #[.pointer (some ⟨v1.heap.size, 0, none⟩), .pointer (some ⟨w.heap.size, 0, none⟩)]] W0 (CPost K B 0 (r1.length - 1) (fun b => (b < w.heap.size ∧ b ≠ B) ∨ b = w.heap.size + 1) W0 QG (QJ (v1.heap.size + 1) B w.heap.size v1.heap.size 99 (inA k s) 101 As.cs) (listM ⟨#[123]⟩ ⟨#[125]⟩ 0 (fun l r => (assignM (0 + 1) r).bd fun t r => .ok (l ++ [t]) r) [] r1))) := by
      intro v1 ht1 hp1 hl1
      have hA : (v1.alloc (.cells #[.int .i64 0, .string ⟨#[]⟩, .slice none 0 0, .int .i64 0, .string ⟨#[]⟩, .int .i64 0, .bool false, .int .i64 0, .string ⟨#[]⟩, .slice none 0 0, .slice none 0 0, .string ⟨#[]⟩] 99)).heap[v1.heap.size]? = some (.cells #[.int .i64 0, .string ⟨#[]⟩, .slice none 0 0, .int .i64 0, .string ⟨#[]⟩, .int .i64 0, .bool false, .int .i64 0, .string ⟨#[]⟩, .slice none 0 0, .slice none 0 0, .string ⟨#[]⟩] 99) := heap_alloc_new _ _
      have hR1 := row_bt ht1 (by omega) hR0
      have hlt1 : w.heap.size + 1 < v1.heap.size := (Array.getElem?_eq_some_iff.1 hR1).1
      have hbW : Bt B ((w.alloc (.cells #[.pointer (some ⟨B, 0, none⟩)] 55)).alloc (.cells #[.int .i64 0, .string ⟨#[]⟩, .slice none 0 0, .int .i64 0, .string ⟨#[]⟩, .int .i64 0, .bool false, .int .i64 0, .string ⟨#[]⟩, .slice none 0 0, .slice none 0 0, .string ⟨#[]⟩] 99)) ((v1.alloc (.cells #[.int .i64 0, .string ⟨#[]⟩, .slice none 0 0, .int .i64 0, .string ⟨#[]⟩, .int .i64 0, .bool false, .int .i64 0, .string ⟨#[]⟩, .slice none 0 0, .slice none 0 0, .string ⟨#[]⟩] 99)).setRow v1.heap.size #[.int .i64 k, .string s, .slice none 0 0, .int .i64 0, .string ⟨#[]⟩, .int .i64 0, .bool false, .int .i64 0, .string ⟨#[]⟩, .slice none 0 0, .slice none 0 0, .string ⟨#[]⟩]) := (ht1.alloc _).row (by simp; omega) _
      have hXW := hX0.bt hbW
      refine ⟨_, hA, rfl, (Bt.below b0).trans hbW, hXW.2.2.1, hXW.2.1, hlt1, row_bt hbW (by omega) hR0, ?_⟩
      refine list_any QG.tail (QJ.stb (v1.heap.size + 1) B w.heap.size v1.heap.size 99 (inA k s) 101 As.cs) (ins1_clo (v1.heap.size + 1) w.heap.size v1.heap.size (inA k s) (inA_set k s) (inA_at k s) (by omega)) (P := fun b => (b < w.heap.size ∧ b ≠ B) ∨ b = w.heap.size + 1) (s := []) (r := r1) (fun b hb => ⟨by simp; omega, by omega⟩) (by unfold QG; simp; omega) ⟨hXW, by omega, by omega, ?_⟩ ((hp1.via (below_al (Below.refl _ _) _)).row (by omega) _) ⟨#[123]⟩ ⟨#[125]⟩
      exact ⟨by omega, by omega, by simp, none, 0, [], setRow_heap _ _ _ _ _ _ hA, World.ownsRow_nil _ _ _ _, reps.nil, fun b hb => ⟨by omega, by simp [Value.ownBlock]⟩⟩
    cases hm : listM ⟨#[123]⟩ ⟨#[125]⟩ 0 (fun l r => (assignM (0 + 1) r).bd fun t r => .ok (l ++ [t]) r) [] r1 with
    | bad q =>
      rw [hm] at hstep
      rw [bd_bad]
      clear hm
      go_enter Tryz.func160, Tryz.ntmps160
      go_wp2_with fail
      refine HN.out.mono ?_
      rintro e v1 ⟨ht1, hl1, hp1, x, rfl, rfl⟩
      obtain ⟨W0, HA, hW0, HB, hc1, hc2, hlt1, HR, HW⟩ := hstep v1 ht1 hp1 hl1
      go_wp2_with (with_reducible refine (id (?_ : wpList _ _ _ (Oper.mk _ (Op.store _ _ _) _ _ _ _ :: _) _ _)); refine wpList_store_row rfl _ _ _ rfl _ _ rfl rfl _ _ HA.out infoAct rfl rfl (by simp [Value.oneCell']) ?_)
      refine HW.out.mono ?_
      rintro e w1 ⟨hf, rfl⟩
      exact ⟨rfl, HB.out.fra (hf.mono fun b hb => .inl hb), rfl⟩
    | ok l r2 =>
      rw [hm] at hstep
      rw [bd_ok]
      clear hm
      go_enter Tryz.func160, Tryz.ntmps160
      go_wp2_with fail
      refine HN.out.mono ?_
      rintro e v1 ⟨ht1, hl1, hp1, x, rfl, rfl⟩
      obtain ⟨W0, HA, hW0, HB, hc1, hc2, hlt1, HR, HW⟩ := hstep v1 ht1 hp1 hl1
      go_wp2_with (with_reducible refine (id (?_ : wpList _ _ _ (Oper.mk _ (Op.store _ _ _) _ _ _ _ :: _) _ _)); refine wpList_store_row rfl _ _ _ rfl _ _ rfl rfl _ _ HA.out infoAct rfl rfl (by simp [Value.oneCell']) ?_)
      refine HW.out.mono ?_
      rintro e w1 ⟨hf, rfl, hg, ⟨j1, j2, j3, k1, k2, k3, p, c, vs, k4, k5, k6, k7⟩, hp, hl⟩
      have HC1 := Hid.intro k4
      have HR1 := Hid.intro ((hf.block _ (.inr rfl)).trans HR.out)
      have hrep : rep (fun b => v1.heap.size < b) w1 (.sl l.length (l.flatMap As.cs)) (.slice p l.length c) := rep.own k5 (reps.move Kp.refl (fun b _ h => by omega) _ _ k6) (fun g hg => by have := (k5.lt g hg).1; omega)
      unfold inA at HC1
      go_wp2_with (first | (with_reducible refine (id (?_ : wpList _ _ _ (Oper.mk _ (Op.load _ _) _ _ _ _ :: _) _ _)); refine wpList_load_cells rfl _ _ rfl _ rfl _ _ _ HC1.out Tryz.underlying99 infoAct rfl ?_) | (with_reducible refine (id (?_ : wpList _ _ _ (Oper.mk _ (Op.store _ _ _) _ _ _ _ :: _) _ _)); refine wpList_store_row rfl _ _ _ rfl _ _ rfl rfl _ _ HR1.out infoAct rfl rfl (by simp [Value.oneCell']) ?_))
      refine ret_cells rfl rfl (setRow_heap _ _ _ _ _ _ HR1.out) Tryz.underlying99 infoAct rfl rfl (Post.ok ((HB.out.fra (hf.mono fun b hb => .inl hb)).row (by omega) _) (by omega) (hp.row (by omega) _) ?_)
      refine ⟨.slice p l.length c, none, 0, 0, none, 0, 0, rfl, ?_, rep.none, rep.none⟩
      exact rep.move ⟨by simp, fun b hb _ o => World.cell?_of_block (a := ⟨b, o, none⟩) (setRow_other _ _ _ _ (by simp only; omega))⟩ (fun b _ h => by omega) _ _ hrep
end Go.Proofs.YtcgaadnfocmdbaaGreatDoor
end

section
/- update. -/
namespace Go.Proofs.YtcgaadnfocmdbaaGreatDoor
open Go.RowKit

theorem run_u1 (caps : Array Value) (w : World) : (callFunc 172 caps).run Tryz.prog w = .ok (.enter 172 caps) w := by simp [go_sem]
set_option maxRecDepth 100000 in
set_option maxHeartbeats 4000000 in
theorem u1_clo {K B o : Nat} (n c1 C : Nat) (A : Value → Array Value) (hA : ∀ u u', (A u).setIfInBounds 2 u' = A u') (hAj : ∀ u, (A u)[2]? = some u) (hCK : K ≤ C) :
    Clo K B o QG (QJ n B c1 C 99 A 101 As.cs) 172 #[.pointer (some ⟨c1, 0, none⟩), .pointer (some ⟨C, 0, none⟩)] (fun l r => commasM (fun l r => (assignM o r).bd fun t r => .ok (l ++ [t]) r) l r) := by
  have hmf : ∀ (fn : Fn) (first cap : Array Value) (w : World), (Instr.makeFunc fn first cap).run Tryz.prog w = .ok (.func fn first cap) w := fun _ _ _ _ => rfl
  refine ⟨run_u1 _, ?_⟩
  rintro P l r w hP hg ⟨h1, h2, h3, h5⟩ h
  have d1 := h1.2.2.1
  have HC := Hid.intro (commas_any QG.tail (QJ.stb n B c1 C 99 A 101 As.cs) (upd1_clo n c1 C A hA hAj hCK) hP hg ⟨h1, h2, h3, h5⟩ h)
  show Calls _ _ _ _ (CPost K B o r.length P w _ _ (commasM (fun l r => (assignM o r).bd fun t r => .ok (l ++ [t]) r) l r))
  clear h5
  cases hm : commasM (fun l r => (assignM o r).bd fun t r => .ok (l ++ [t]) r) l r with
  | bad q =>
    rw [hm] at HC
    clear hm
    go_enter Tryz.func172, Tryz.ntmps172
    go_wp2_with fail
    refine HC.out.mono ?_
    rintro e w1 ⟨hf, rfl⟩
    exact ⟨rfl, hf, rfl⟩
  | ok l2 r2 =>
    rw [hm] at HC
    clear hm
    go_enter Tryz.func172, Tryz.ntmps172
    go_wp2_with fail
    refine HC.out.mono ?_
    rintro e w1 ⟨hf, rfl, hrest⟩
    go_wp2_with fail
    go_end0
    exact ⟨hf, rfl, hrest⟩

def upA (x0 : Int) (x1 : ByteArray) (x2 : Int) (x3 : Bool) (x4 : Int) (x5 : ByteArray) (v6 v7 : Value) : Value → Array Value := fun u => #[.int .i64 3, .string ⟨#[]⟩, u, .int .i64 x0, .string x1, .int .i64 x2, .bool x3, .int .i64 x4, .string x5, v6, v7, .string ⟨#[]⟩]
theorem upA_set {x0 : Int} {x1 : ByteArray} {x2 : Int} {x3 : Bool} {x4 : Int} {x5 : ByteArray} {v6 v7 : Value} (u u' : Value) : (upA x0 x1 x2 x3 x4 x5 v6 v7 u).setIfInBounds 2 u' = upA x0 x1 x2 x3 x4 x5 v6 v7 u' := by simp [upA]
theorem upA_at {x0 : Int} {x1 : ByteArray} {x2 : Int} {x3 : Bool} {x4 : Int} {x5 : ByteArray} {v6 v7 : Value} (u : Value) : (upA x0 x1 x2 x3 x4 x5 v6 v7 u)[2]? = some u := by simp [upA]

set_option maxRecDepth 100000 in
set_option maxHeartbeats 4000000 in
theorem update_any {K B : Nat} {r : List Lx} {w : World} (h : PAt K w B r 0) :
    Calls Tryz.prog 161 #[.pointer (some ⟨B, 0, none⟩)] w (Post K B 0 (r.length - 1) w (updM r) fun w' c v => AcV (fun b => w.heap.size ≤ b) w' c v) := by
  have hmf : ∀ (fn : Fn) (first cap : Array Value) (w : World), (Instr.makeFunc fn first cap).run Tryz.prog w = .ok (.func fn first cap) w := fun _ _ _ _ => rfl
  have hsz := h.size
  have hlen := h.len
  have b0 : Below w.heap.size w ((w.alloc (.cells #[.pointer (some ⟨B, 0, none⟩)] 55)).alloc (.cells #[.int .i64 0, .string ⟨#[]⟩, .slice none 0 0, .int .i64 0, .string ⟨#[]⟩, .int .i64 0, .bool false, .int .i64 0, .string ⟨#[]⟩, .slice none 0 0, .slice none 0 0, .string ⟨#[]⟩] 99)) := below_al (below_al (Below.refl _ _) _) _
  have hX0 : Bx B w.heap.size (.pointer (some ⟨B, 0, none⟩)) ((w.alloc (.cells #[.pointer (some ⟨B, 0, none⟩)] 55)).alloc (.cells #[.int .i64 0, .string ⟨#[]⟩, .slice none 0 0, .int .i64 0, .string ⟨#[]⟩, .int .i64 0, .bool false, .int .i64 0, .string ⟨#[]⟩, .slice none 0 0, .slice none 0 0, .string ⟨#[]⟩] 99)) := (Bx.new w _ _ (by omega)).bt ((Bt.refl B _).alloc _)
  have hR0 : ((w.alloc (.cells #[.pointer (some ⟨B, 0, none⟩)] 55)).alloc (.cells #[.int .i64 0, .string ⟨#[]⟩, .slice none 0 0, .int .i64 0, .string ⟨#[]⟩, .int .i64 0, .bool false, .int .i64 0, .string ⟨#[]⟩, .slice none 0 0, .slice none 0 0, .string ⟨#[]⟩] 99)).heap[w.heap.size + 1]? = some (.cells #[.int .i64 0, .string ⟨#[]⟩, .slice none 0 0, .int .i64 0, .string ⟨#[]⟩, .int .i64 0, .bool false, .int .i64 0, .string ⟨#[]⟩, .slice none 0 0, .slice none 0 0, .string ⟨#[]⟩] 99) := heap_alloc2_new w _ _
  have HN := Hid.intro (expr_any (h.via b0))
  unfold updM
  change Calls _ _ _ _ (Post K B 0 (r.length - 1) w ((exprM 0 r).bd fun t r => (withinM ⟨#[123]⟩ ⟨#[125]⟩ 0 (commasM (fun l r => (assignM (0 + 1) r).bd fun t r => .ok (l ++ [t]) r) []) r).bd fun l r => .ok ({ k := 3, e := t.e, set := l } : Ac) r) _)
  cases h1 : exprM 0 r with
  | bad q =>
    rw [h1] at HN
    rw [bd_bad]
    clear h1
    go_enter Tryz.func161, Tryz.ntmps161
    go_wp2_with fail
    refine HN.out.mono ?_
    rintro e v1 ⟨ht1, rfl⟩
    exact ⟨rfl, (Bt.below b0).trans ht1, rfl⟩
  | ok t r1 =>
    rw [h1] at HN
    rw [bd_ok]
    clear h1
    have hstep : ∀ (v1 : World) (p6 : Option Addr) (n6 c6 : Nat) (p7 : Option Addr) (n7 c7 : Nat), Bt B ((w.alloc (.cells #[.pointer (some ⟨B, 0, none⟩)] 55)).alloc (.cells #[.int .i64 0, .string ⟨#[]⟩, .slice none 0 0, .int .i64 0, .string ⟨#[]⟩, .int .i64 0, .bool false, .int .i64 0, .string ⟨#[]⟩, .slice none 0 0, .slice none 0 0, .string ⟨#[]⟩] 99)) v1 → PAt K v1 B r1 0 → r1.length ≤ r.length - 1 → ∃ W0, Hid ((v1.alloc (.cells #[.int .i64 0, .string ⟨#[]⟩, .slice none 0 0, .int .i64 0, .string ⟨#[]⟩, .int .i64 0, .bool false, .int .i64 0, .string ⟨#[]⟩, .slice none 0 0, .slice none 0 0, .string ⟨#[]⟩] 99)).heap[v1.heap.size]? = some (.cells #[.int .i64 0, .string ⟨#[]⟩, .slice none 0 0, .int .i64 0, .string ⟨#[]⟩, .int .i64 0, .bool false, .int .i64 0, .string ⟨#[]⟩, .slice none 0 0, .slice none 0 0, .string ⟨#[]⟩] 99)) ∧ (v1.alloc (.cells #[.int .i64 0, .string ⟨#[]⟩, .slice none 0 0, .int .i64 0, .string ⟨#[]⟩, .int .i64 0, .bool false, .int .i64 0, .string ⟨#[]⟩, .slice none 0 0, .slice none 0 0, .string ⟨#[]⟩] 99)).setRow v1.heap.size #[.int .i64 3, .string ⟨#[]⟩, .slice none 0 0, .int .i64 t.e.op, .string t.e.t, .int .i64 t.e.v.k, .bool t.e.v.b, .int .i64 t.e.v.i, .string t.e.v.s, .slice p6 n6 c6, .slice p7 n7 c7, .string ⟨#[]⟩] = W0 ∧ Hid (Bt B w W0) ∧ Hid (Below v1.heap.size v1 W0) ∧ W0.cell? ⟨w.heap.size, 0, none⟩ = some (.pointer (some ⟨B, 0, none⟩)) ∧ w.heap.size < W0.heap.size ∧ w.heap.size + 1 < v1.heap.size ∧
        Hid (W0.heap[w.heap.size + 1]? = some (.cells #[.int .i64 0, .string ⟨#[]⟩, .slice none 0 0, .int .i64 0, .string ⟨#[]⟩, .int .i64 0, .bool false, .int .i64 0, .string ⟨#[]⟩, .slice none 0 0, .slice none 0 0, .string ⟨#[]⟩] 99)) ∧ Hid (Calls Tryz.prog 60 #[.pointer (some ⟨B, 0, none⟩), .string ⟨#[123]⟩, .string ⟨#[125]⟩, .func (.func 172) #[] #[.pointer (some ⟨w.heap.size, 0, none⟩), .pointer (some ⟨v1.heap.size, 0, none⟩)]] W0 (CPost K B 0 (r1.length - 1) (fun b => b < v1.heap.size ∧ b ≠ B) W0 QG (QJ (v1.heap.size + 1) B w.heap.size v1.heap.size 99 (upA t.e.op t.e.t t.e.v.k t.e.v.b t.e.v.i t.e.v.s (.slice p6 n6 c6) (.slice p7 n7 c7)) 101 As.cs) (withinM ⟨#[123]⟩ ⟨#[125]⟩ 0 (commasM (fun l r => (assignM (0 + 1) r).bd fun t r => .ok (l ++ [t]) r) []) r1))) := by
      intro v1 p6 n6 c6 p7 n7 c7 ht1 hp1 hl1
      have hA : (v1.alloc (.cells #[.int .i64 0, .string ⟨#[]⟩, .slice none 0 0, .int .i64 0, .string ⟨#[]⟩, .int .i64 0, .bool false, .int .i64 0, .string ⟨#[]⟩, .slice none 0 0, .slice none 0 0, .string ⟨#[]⟩] 99)).heap[v1.heap.size]? = some (.cells #[.int .i64 0, .string ⟨#[]⟩, .slice none 0 0, .int .i64 0, .string ⟨#[]⟩, .int .i64 0, .bool false, .int .i64 0, .string ⟨#[]⟩, .slice none 0 0, .slice none 0 0, .string ⟨#[]⟩] 99) := heap_alloc_new _ _
      have hR1 := row_bt ht1 (by omega) hR0
      have hlt1 : w.heap.size + 1 < v1.heap.size := (Array.getElem?_eq_some_iff.1 hR1).1
      have hbW : Bt B ((w.alloc (.cells #[.pointer (some ⟨B, 0, none⟩)] 55)).alloc (.cells #[.int .i64 0, .string ⟨#[]⟩, .slice none 0 0, .int .i64 0, .string ⟨#[]⟩, .int .i64 0, .bool false, .int .i64 0, .string ⟨#[]⟩, .slice none 0 0, .slice none 0 0, .string ⟨#[]⟩] 99)) ((v1.alloc (.cells #[.int .i64 0, .string ⟨#[]⟩, .slice none 0 0, .int .i64 0, .string ⟨#[]⟩, .int .i64 0, .bool false, .int .i64 0, .string ⟨#[]⟩, .slice none 0 0, .slice none 0 0, .string ⟨#[]⟩] 99)).setRow v1.heap.size #[.int .i64 3, .string ⟨#[]⟩, .slice none 0 0, .int .i64 t.e.op, .string t.e.t, .int .i64 t.e.v.k, .bool t.e.v.b, .int .i64 t.e.v.i, .string t.e.v.s, .slice p6 n6 c6, .slice p7 n7 c7, .string ⟨#[]⟩]) := (ht1.alloc _).row (by simp; omega) _
      have hXW := hX0.bt hbW
      refine ⟨_, hA, rfl, (Bt.below b0).trans hbW, below_row (below_al (Below.refl _ _) _) (Nat.le_refl _) _, hXW.2.2.1, hXW.2.1, hlt1, row_bt hbW (by omega) hR0, ?_⟩
      refine within_any QG.tail (QJ.stb (v1.heap.size + 1) B w.heap.size v1.heap.size 99 (upA t.e.op t.e.t t.e.v.k t.e.v.b t.e.v.i t.e.v.s (.slice p6 n6 c6) (.slice p7 n7 c7)) 101 As.cs) (u1_clo (v1.heap.size + 1) w.heap.size v1.heap.size _ upA_set upA_at (by omega)) (P := fun b => b < v1.heap.size ∧ b ≠ B) (s := []) (r := r1) (fun b hb => ⟨by simp; omega, by omega⟩) (by unfold QG; simp; omega) ⟨hXW, by omega, by omega, ?_⟩ ((hp1.via (below_al (Below.refl _ _) _)).row (by omega) _) ⟨#[123]⟩ ⟨#[125]⟩
      exact ⟨by omega, by omega, by simp, none, 0, [], setRow_heap _ _ _ _ _ _ hA, World.ownsRow_nil _ _ _ _, reps.nil, fun b hb => ⟨by omega, by simp [Value.ownBlock]⟩⟩
    cases hm : withinM ⟨#[123]⟩ ⟨#[125]⟩ 0 (commasM (fun l r => (assignM (0 + 1) r).bd fun t r => .ok (l ++ [t]) r) []) r1 with
    | bad q =>
      rw [hm] at hstep
      rw [bd_bad]
      clear hm
      go_enter Tryz.func161, Tryz.ntmps161
      go_wp2_with fail
      refine HN.out.mono ?_
      rintro e v1 ⟨ht1, hl1, hp1, x, rfl, p6, n6, c6, p7, n7, c7, rfl, h6, h7⟩
      obtain ⟨W0, HA, hW0, HB, HBw, hc1, hc2, hlt1, HR, HW⟩ := hstep v1 p6 n6 c6 p7 n7 c7 ht1 hp1 hl1
      go_wp2_with (with_reducible refine (id (?_ : wpList _ _ _ (Oper.mk _ (Op.store _ _ _) _ _ _ _ :: _) _ _)); refine wpList_store_row rfl _ _ _ rfl _ _ rfl rfl _ _ HA.out infoAct rfl rfl (by simp [Value.oneCell']) ?_)
      refine HW.out.mono ?_
      rintro e w1 ⟨hf, rfl⟩
      exact ⟨rfl, HB.out.fra (hf.mono fun b hb => ⟨by omega, hb.2⟩), rfl⟩
    | ok l r2 =>
      rw [hm] at hstep
      rw [bd_ok]
      clear hm
      go_enter Tryz.func161, Tryz.ntmps161
      go_wp2_with fail
      refine HN.out.mono ?_
      rintro e v1 ⟨ht1, hl1, hp1, x, rfl, p6, n6, c6, p7, n7, c7, rfl, h6, h7⟩
      obtain ⟨W0, HA, hW0, HB, HBw, hc1, hc2, hlt1, HR, HW⟩ := hstep v1 p6 n6 c6 p7 n7 c7 ht1 hp1 hl1
      go_wp2_with (with_reducible refine (id (?_ : wpList _ _ _ (Oper.mk _ (Op.store _ _ _) _ _ _ _ :: _) _ _)); refine wpList_store_row rfl _ _ _ rfl _ _ rfl rfl _ _ HA.out infoAct rfl rfl (by simp [Value.oneCell']) ?_)
      refine HW.out.mono ?_
      rintro e w1 ⟨hf, rfl, hg, ⟨j1, j2, j3, k1, k2, k3, p, c, vs, k4, k5, k6, k7⟩, hp, hl⟩
      have HC1 := Hid.intro k4
      have hq6 : ∀ b, b < v1.heap.size → ((w.alloc (.cells #[.pointer (some ⟨B, 0, none⟩)] 55)).alloc (.cells #[.int .i64 0, .string ⟨#[]⟩, .slice none 0 0, .int .i64 0, .string ⟨#[]⟩, .int .i64 0, .bool false, .int .i64 0, .string ⟨#[]⟩, .slice none 0 0, .slice none 0 0, .string ⟨#[]⟩] 99)).heap.size ≤ b → (w.heap.size + 1 < b ∧ b < v1.heap.size) := fun b hb h => by simp at h; omega
      have hkp : Kp (fun b => w.heap.size + 1 < b ∧ b < v1.heap.size) v1 w1 := ⟨Nat.le_trans HBw.out.size hf.size, fun b hb hlt o => (World.cell?_of_block (a := ⟨b, o, none⟩) (hf.block b ⟨hb.2, by omega⟩)).trans (HBw.out.cell (p := ⟨b, o, none⟩) hlt)⟩
      have h6' := rep.move hkp (fun _ _ h => h) _ _ (rep.move Kp.refl hq6 _ _ h6)
      have h7' := rep.move hkp (fun _ _ h => h) _ _ (rep.move Kp.refl hq6 _ _ h7)
      have HR1 := Hid.intro ((hf.block (w.heap.size + 1) ⟨hlt1, by omega⟩).trans HR.out)
      have hrep : rep (fun b => w.heap.size + 1 < b) w1 (.sl l.length (l.flatMap As.cs)) (.slice p l.length c) := rep.own k5 (reps.move Kp.refl (fun b _ h => by omega) _ _ k6) (fun g hg => by have := (k5.lt g hg).1; omega)
      unfold upA at HC1
      go_wp2_with (first | (with_reducible refine (id (?_ : wpList _ _ _ (Oper.mk _ (Op.load _ _) _ _ _ _ :: _) _ _)); refine wpList_load_cells rfl _ _ rfl _ rfl _ _ _ HC1.out Tryz.underlying99 infoAct rfl ?_) | (with_reducible refine (id (?_ : wpList _ _ _ (Oper.mk _ (Op.store _ _ _) _ _ _ _ :: _) _ _)); refine wpList_store_row rfl _ _ _ rfl _ _ rfl rfl _ _ HR1.out infoAct rfl rfl (by simp [Value.oneCell']) ?_))
      refine ret_cells rfl rfl (setRow_heap _ _ _ _ _ _ HR1.out) Tryz.underlying99 infoAct rfl rfl (Post.ok ((HB.out.fra (hf.mono fun b hb => ⟨by omega, hb.2⟩)).row (by omega) _) (by omega) (hp.row (by omega) _) ?_)
      refine ⟨.slice p l.length c, p6, n6, c6, p7, n7, c7, rfl, ?_, ?_, ?_⟩
      · exact rep.move (kp_row w1 _) (fun b _ h => by omega) _ _ hrep
      · exact rep.move (kp_row w1 _) (fun b _ h => by omega) _ _ (rep.move Kp.refl (fun b _ h => h.1) _ _ h6')
      · exact rep.move (kp_row w1 _) (fun b _ h => by omega) _ _ (rep.move Kp.refl (fun b _ h => h.1) _ _ h7')
end Go.Proofs.YtcgaadnfocmdbaaGreatDoor
end
