import Derived.Test.YtoeodjobggodcaaGreatDoorJoin10
/- pattern: the closure that fills its binds and tests. -/
namespace Go.Proofs.YtoeodjobggodcaaGreatDoor
section
open Go.RowKit
theorem run_pat1 (caps : Array Value) (w : World) : (callFunc 157 caps).run Tryz.prog w = .ok (.enter 157 caps) w := by simp [go_sem]
theorem infoBind' : (Tryz.prog.info? 128).map (fun i => (i.zero, i.size, i.bytes)) = some (some (.agg #[.string ⟨#[]⟩, .string ⟨#[]⟩]), 2, 32) := by kernel_rfl
def patR (s : List Bi × List Ex) : List Rd := [⟨128, 2, s.1.length, s.1.flatMap Bi.cs⟩, ⟨39, 8, s.2.length, Ex.css s.2⟩]
def PtJ (n B c1 C : Nat) (A : List Value → Array Value) (s : List Bi × List Ex) (w : World) (P : Nat → Prop) : Prop := Bx B c1 (.pointer (some ⟨B, 0, none⟩)) w ∧ c1 < n ∧ c1 ≠ C ∧ JR n B C 96 A (patR s) w P
theorem PtJ.stb (n B c1 C : Nat) (A : List Value → Array Value) (s : List Bi × List Ex) : Stb B (PtJ n B c1 C A s) := fun w w' P P' h hb hp => ⟨h.1.bt hb, h.2.1, h.2.2.1, JR.stb w w' P P' h.2.2.2 hb hp⟩
def PtG (s : List Bi × List Ex) (r : List Lx) : Prop := s.1.length + s.2.length + r.length ≤ 10000
theorem PtG.tail (s : List Bi × List Ex) (r : List Lx) (h : PtG s r) : PtG s r.tail := by unfold PtG at *; simp; omega
set_option maxRecDepth 100000 in
set_option maxHeartbeats 8000000 in
theorem pat1_clo {K B o : Nat} (n c1 C : Nat) (A : List Value → Array Value) (hA3 : ∀ x y u, (A [x, y]).setIfInBounds 3 u = A [u, y]) (hA4 : ∀ x y u, (A [x, y]).setIfInBounds 4 u = A [x, u]) (hj3 : ∀ x y, (A [x, y])[3]? = some x) (hj4 : ∀ x y, (A [x, y])[4]? = some y) (hCK : K ≤ C) :
  Clo K B o PtG (PtJ n B c1 C A) 157 #[.pointer (some ⟨c1, 0, none⟩), .pointer (some ⟨C, 0, none⟩)] (fun p r => if isVW ⟨#[58]⟩ r then (bindM r).bd fun b r => .ok (p.1 ++ [b], p.2) r else (exprM o r).bd fun t r => .ok (p.1, p.2 ++ [t.e]) r) := by
 refine ⟨run_pat1 _, ?_⟩
 rintro P s r w hP hg ⟨h1, h2, h3, h5⟩ h
 show Calls _ _ _ _ (CPost K B o r.length P w _ _ (if isVW ⟨#[58]⟩ r = true then (bindM r).bd fun b r => .ok (s.1 ++ [b], s.2) r else (exprM o r).bd fun t r => .ok (s.1, s.2 ++ [t.e]) r))
 have HI := Hid.intro (isVarWith_any h ⟨#[58]⟩)
 have hmo : Tryz.prog.follows .mixedOrders = true := by kernel_rfl
 obtain ⟨x, r0, hr0, -⟩ := gd_cons h.gd
 have hrl : 0 < r.length := by rw [hr0]; simp
 clear hr0
 unfold PtG at hg
 have d0 := h1.2.2.1
 cases hv : isVW ⟨#[58]⟩ r with
 | true =>
  rw [hv] at HI
  rw [if_pos rfl]
  clear hv
  obtain ⟨i0, hi, hz0, hz1, hz2⟩ := info_parts infoBind'
  have HT := fun w (h : PAt K w B r o) => Hid.intro (bind_any h)
  cases hm : bindM r with
  | bad q =>
   rw [hm] at HT
   rw [bd_bad]
   clear hm
   go_enter Tryz.func157, Tryz.ntmps157
   go_wp2_with fail
   refine HI.out.mono ?_
   rintro e wc ⟨rfl, hbc⟩
   have HP := Hid.intro (h.via hbc)
   have HX := Hid.intro (h1.bt (Bt.below hbc))
   have d1 := HX.out.2.2.1
   have HK := Hid.intro (hP.up hbc.size)
   have HF := Hid.intro ((Bt.below (B := B) hbc).fr hP)
   obtain ⟨hBC, hCn, hnw, vs, he, zrows, hpa⟩ := JR.stb _ _ _ P h5 (Bt.below hbc) (fun _ h => .inl h)
   obtain ⟨v3, v4, rfl⟩ : ∃ x y, vs = [x, y] := by have := zrows.1; simp only [patR, List.length_cons, List.length_nil] at this; match vs, this with | [x, y], _ => exact ⟨x, y, rfl⟩
   obtain ⟨p0, c0, xs0, hv0, -, -⟩ := zrows.2.2 0 _ _ rfl rfl
   dsimp only at hv0
   subst hv0
   have e0 : wc.cell? ⟨C, 3, none⟩ = some (.slice p0 s.1.length c0) := by rw [(heap_cell he 3).1]; exact hj3 _ _
   have hEw : C < wc.heap.size := by omega
   go_wp2_with fail
   refine wp_region_held_drew (S := fun w' => w'.cell? ⟨c1, 0, none⟩ = some (.pointer (some ⟨B, 0, none⟩))) hmo d1 (fun hS => ?_)
   refine tq 0 4 (.pointer (some ⟨C, 3, none⟩)) hS ?_
   simp only [n3]
   refine tq 2 6 (.pointer (some ⟨B, 0, none⟩)) hS ?_
   simp only [n3]
   refine on2 1 3 rfl (fun K' hK => ?_) rfl (fun K' hK => ?_)
   ·go_simp
    refine hK.out _ _ ((by first | exact hS | exact (hx4.bt ((Bt.refl B w4).alloc _)).2.2.1 | exact hx4.2.2.1 | exact (HX.out.bt ((Bt.refl B _).drew.alloc _)).2.2.1 | exact (HX.out.bt (((Bt.refl B _).alloc _).drew)).2.2.1)) (fun hS => ?_)
    clear hK K'
    (try simp only [Act.put, n3])
    refine on1 3 rfl (fun K' hK => ?_)
    go_simp
    refine (HT _ (by first | exact HP.out.via (Below.refl _ _).drew | exact HP.out.via (below_al (Below.refl _ _).drew _) | exact HP.out.via (below_al (Below.refl _ _) _).drew)).out.mono ?_
    rintro e w4 ⟨hb4, rfl⟩
    have hbt4 : Bt B wc w4 := Bt.trans (by first | exact (Bt.refl B _).drew | exact (Bt.refl B _).drew.alloc _ | exact ((Bt.refl B _).alloc _).drew) hb4
    exact ⟨rfl, HF.out.trans (hbt4.fr HK.out), rfl⟩
   ·go_simp
    refine (HT _ (by first | exact HP.out.via (Below.refl _ _).drew | exact HP.out.via (below_al (Below.refl _ _).drew _) | exact HP.out.via (below_al (Below.refl _ _) _).drew)).out.mono ?_
    rintro e w4 ⟨hb4, rfl⟩
    have hbt4 : Bt B wc w4 := Bt.trans (by first | exact (Bt.refl B _).drew | exact (Bt.refl B _).drew.alloc _ | exact ((Bt.refl B _).alloc _).drew) hb4
    exact ⟨rfl, HF.out.trans (hbt4.fr HK.out), rfl⟩
  | ok t r1 =>
   rw [hm] at HT
   rw [bd_ok]
   clear hm
   go_enter Tryz.func157, Tryz.ntmps157
   go_wp2_with fail
   refine HI.out.mono ?_
   rintro e wc ⟨rfl, hbc⟩
   have HP := Hid.intro (h.via hbc)
   have HX := Hid.intro (h1.bt (Bt.below hbc))
   have d1 := HX.out.2.2.1
   have HK := Hid.intro (hP.up hbc.size)
   have HF := Hid.intro ((Bt.below (B := B) hbc).fr hP)
   obtain ⟨hBC, hCn, hnw, vs, he, zrows, hpa⟩ := JR.stb _ _ _ P h5 (Bt.below hbc) (fun _ h => .inl h)
   obtain ⟨v3, v4, rfl⟩ : ∃ x y, vs = [x, y] := by have := zrows.1; simp only [patR, List.length_cons, List.length_nil] at this; match vs, this with | [x, y], _ => exact ⟨x, y, rfl⟩
   obtain ⟨p0, c0, xs0, hv0, -, -⟩ := zrows.2.2 0 _ _ rfl rfl
   dsimp only at hv0
   subst hv0
   have e0 : wc.cell? ⟨C, 3, none⟩ = some (.slice p0 s.1.length c0) := by rw [(heap_cell he 3).1]; exact hj3 _ _
   have hEw : C < wc.heap.size := by omega
   go_wp2_with fail
   refine wp_region_held_drew (S := fun w' => w'.cell? ⟨c1, 0, none⟩ = some (.pointer (some ⟨B, 0, none⟩))) hmo d1 (fun hS => ?_)
   refine tq 0 4 (.pointer (some ⟨C, 3, none⟩)) hS ?_
   simp only [n3]
   refine tq 2 6 (.pointer (some ⟨B, 0, none⟩)) hS ?_
   simp only [n3]
   refine share (fun z W us => Fr P wc W ∧ PAt K W B r1 o ∧ RowsAt n (patR s) [(.slice p0 s.1.length c0), v4] W ∧ W.heap[C]? = some (.cells (A [(.slice p0 s.1.length c0), v4]) 96 (0, 0)) ∧ us.length = 2 ∧ (∀ u ∈ us, u.oneCell' = true) ∧ reps (offR n [(.slice p0 s.1.length c0), v4]) W t.cs us ∧ W.heap[z]? = some (.cells us.toArray 128 (0, 0)) ∧ wc.heap.size ≤ W.heap.size ∧ r1.length ≤ r.length - 1 ∧ Bx B c1 (.pointer (some ⟨B, 0, none⟩)) W) 3 #[true, true, true, true, true, false, false, false] (fun z us => [(5, .slice p0 s.1.length c0), (7, .agg us.toArray), (8, .slice (some ⟨z, 0, none⟩) 1 1)]) ?_ (fun HT5 => ?_)
   ·rintro z W us ⟨zf, zp, zr, zh, zl, zo, zu, zz, zs, zlf, zx⟩
    simp only [putL, List.foldl, Act.put, List.setIfInBounds_toArray, List.set_cons_succ, List.set_cons_zero]
    obtain ⟨pq, cq, xs, hveq, hown, hxs⟩ := zr.2.2 0 _ _ rfl rfl
    dsimp only at hveq hown hxs
    clear hveq
    have hCW : C < W.heap.size := by omega
    have hKn := HK.out.up zs
    refine on1 5 rfl (fun K' hK => ?_)
    rw [if_pos (by rfl)]
    refine wp_append_own _ _ 92 rfl n 128 i0 _ 2 32 Tryz.underlying92 hi hz0 hz1 hz2 rfl (by decide) _ _ _ rfl hown ⟨z, 0, none⟩ 1 1 us rfl (by rw [zl]) (fun j u hj => by rw [addr_add, Nat.zero_add, (heap_cell zz j).1, ← hj]; simp) zo (by unfold maxLen; omega) (by omega) (by omega) (fun sv' w5 hown5 hgr5 hat5 => ?_)
    obtain ⟨g5, k5, rfl⟩ := ownsRow_succ hown5
    have hch5 : Chg C _ W w5 := Chg.of hgr5
    have e5 : w5.heap[C]? = some (.cells (A [(.slice p0 s.1.length c0), v4]) 96 (0, 0)) := (hgr5.block C hCW (own_below hown (.inl hCn))).trans zh
    have c5 : w5.cell? ⟨C, 3, none⟩ = some (.slice p0 s.1.length c0) := by rw [(heap_cell e5 3).1]; exact hj3 _ _
    have f5 : w5.frozen? ⟨C, 3, none⟩ = false := (heap_cell e5 3).2
    have hKg : ∀ g, (Value.slice p0 s.1.length c0).ownBlock = some g → K ≤ g := fun g hg => by have := (hown.lt g hg).1; omega
    have hx5 := zx.chg hch5 h3 (own_below hown (.inl h2))
    refine hK.out _ _ (hx5.2.2.1) (fun hS => ?_)
    clear hK K'
    (try simp only [Act.put, n3])
    refine tq 6 10 (.pointer (some ⟨C, 3, none⟩)) hS ?_
    simp only [n3]
    refine on1 7 rfl (fun K' hK => ?_)
    go_simp
    go_wp2_with fail
    have hch6 := hch5.set (p := ⟨C, 3, none⟩) (.inl rfl) (.slice (some ⟨g5, 0, none⟩) (s.1.length + 1) k5)
    have hx6 := zx.chg hch6 h3 (own_below hown (.inl h2))
    refine hK.out _ _ (hx6.2.2.1) (fun hS => ?_)
    clear hK K'
    (try simp only [n3])
    obtain ⟨hJ6, hF6⟩ := JR.push (A := A) (T := 96) hBC hCn (by omega) zr hpa hKn 0 rfl rfl hxs zu rfl (own_setC 3 hown5 hCn _) hch6 hat5 (by rw [heap_put e5, hA3]; rfl)
    have hp6 := zp.chg hch6 hCK hKg
    refine wpAnyH_done (by kernel_rfl) ?_ _
    go_wp2_with fail
    go_end0
    refine ⟨(HF.out.trans zf).trans hF6, rfl, by unfold PtG; simp; omega, ⟨hx6, h2, h3, ?_⟩, hp6, by omega⟩
    simpa [patR, Rd.up, List.flatMap_append, css_snoc, Bi.cs] using hJ6
   ·(try simp only [putL, List.foldl, Act.put, List.setIfInBounds_toArray, List.set_cons_succ, List.set_cons_zero] at HT5)
    refine on2 1 3 rfl (fun K' hK => ?_) rfl (fun K' hK => ?_)
    ·go_simp
     refine hK.out _ _ ((by first | exact hS | exact (hx4.bt ((Bt.refl B w4).alloc _)).2.2.1 | exact hx4.2.2.1 | exact (HX.out.bt ((Bt.refl B _).drew.alloc _)).2.2.1 | exact (HX.out.bt (((Bt.refl B _).alloc _).drew)).2.2.1)) (fun hS => ?_)
     clear hK K'
     (try simp only [Act.put, n3])
     refine on1 3 rfl (fun K' hK => ?_)
     go_simp
     refine (HT _ (by first | exact HP.out.via (Below.refl _ _).drew | exact HP.out.via (below_al (Below.refl _ _).drew _) | exact HP.out.via (below_al (Below.refl _ _) _).drew)).out.mono ?_
     rintro e w4 ⟨hb4, hl4, hp4, v4, rfl, rfl⟩
     have hbt4 : Bt B wc w4 := Bt.trans (by first | exact (Bt.refl B _).drew | exact (Bt.refl B _).drew.alloc _ | exact ((Bt.refl B _).alloc _).drew) hb4
     have hr4 := zrows.bt hbt4 (by omega)
     have hC4 := row_bt hbt4 (by omega) he
     have hs4 : wc.heap.size ≤ w4.heap.size := hbt4.size
     have hx4 := HX.out.bt hbt4
     go_wp2_with fail
     refine hK.out _ _ ((by first | exact hS | exact (hx4.bt ((Bt.refl B w4).alloc _)).2.2.1 | exact hx4.2.2.1 | exact (HX.out.bt ((Bt.refl B _).drew.alloc _)).2.2.1 | exact (HX.out.bt (((Bt.refl B _).alloc _).drew)).2.2.1)) (fun hS => ?_)
     clear hK K'
     (try simp only [Act.put, n3])
     refine on1 4 rfl (fun K' hK => ?_)
     go_simp
     go_wp2_with fail
     refine hK.out _ _ ((by first | exact hS | exact (hx4.bt ((Bt.refl B w4).alloc _)).2.2.1 | exact hx4.2.2.1 | exact (HX.out.bt ((Bt.refl B _).drew.alloc _)).2.2.1 | exact (HX.out.bt (((Bt.refl B _).alloc _).drew)).2.2.1)) (fun hS => ?_)
     clear hK K'
     (try simp only [Act.put, n3])
     have hbt5 : Bt B wc (w4.alloc (.cells #[.string t.v, .string t.f] 128)) := hbt4.alloc _
     refine HT5 w4.heap.size (w4.alloc (.cells #[.string t.v, .string t.f] 128)) [.string t.v, .string t.f] ⟨hbt5.fr HK.out, hp4.via (below_al (Below.refl _ _) _), zrows.bt hbt5 (by omega), row_bt hbt5 (by omega) he, rfl, (by simp [Value.oneCell']), reps.move (Kp.alloc _ _) (fun b _ h => zrows.off hnw b (by first | exact h | exact Nat.le_trans (by simp) h)) _ _ (reps.cons (rep.lit rfl) (reps.cons (rep.lit rfl) reps.nil)), heap_alloc_new w4 _, hbt5.size, hl4, HX.out.bt hbt5⟩
    ·go_simp
     refine (HT _ (by first | exact HP.out.via (Below.refl _ _).drew | exact HP.out.via (below_al (Below.refl _ _).drew _) | exact HP.out.via (below_al (Below.refl _ _) _).drew)).out.mono ?_
     rintro e w4 ⟨hb4, hl4, hp4, v4, rfl, rfl⟩
     have hbt4 : Bt B wc w4 := Bt.trans (by first | exact (Bt.refl B _).drew | exact (Bt.refl B _).drew.alloc _ | exact ((Bt.refl B _).alloc _).drew) hb4
     have hr4 := zrows.bt hbt4 (by omega)
     have hC4 := row_bt hbt4 (by omega) he
     have hs4 : wc.heap.size ≤ w4.heap.size := hbt4.size
     have hx4 := HX.out.bt hbt4
     go_wp2_with fail
     refine hK.out _ _ ((by first | exact hS | exact (hx4.bt ((Bt.refl B w4).alloc _)).2.2.1 | exact hx4.2.2.1 | exact (HX.out.bt ((Bt.refl B _).drew.alloc _)).2.2.1 | exact (HX.out.bt (((Bt.refl B _).alloc _).drew)).2.2.1)) (fun hS => ?_)
     clear hK K'
     (try simp only [Act.put, n3])
     refine on2 1 4 rfl (fun K' hK => ?_) rfl (fun K' hK => ?_)
     ·have e04 : w4.cell? ⟨C, 3, none⟩ = some (.slice p0 s.1.length c0) := by rw [(heap_cell hC4 3).1]; exact hj3 _ _
      have hEw4 : C < w4.heap.size := by omega
      go_simp
      refine hK.out _ _ ((by first | exact hS | exact (hx4.bt ((Bt.refl B w4).alloc _)).2.2.1 | exact hx4.2.2.1 | exact (HX.out.bt ((Bt.refl B _).drew.alloc _)).2.2.1 | exact (HX.out.bt (((Bt.refl B _).alloc _).drew)).2.2.1)) (fun hS => ?_)
      clear hK K'
      (try simp only [Act.put, n3])
      refine on1 4 rfl (fun K' hK => ?_)
      go_simp
      go_wp2_with fail
      refine hK.out _ _ ((by first | exact hS | exact (hx4.bt ((Bt.refl B w4).alloc _)).2.2.1 | exact hx4.2.2.1 | exact (HX.out.bt ((Bt.refl B _).drew.alloc _)).2.2.1 | exact (HX.out.bt (((Bt.refl B _).alloc _).drew)).2.2.1)) (fun hS => ?_)
      clear hK K'
      (try simp only [Act.put, n3])
      have hbt5 : Bt B wc (w4.alloc (.cells #[.string t.v, .string t.f] 128)) := hbt4.alloc _
      refine HT5 w4.heap.size (w4.alloc (.cells #[.string t.v, .string t.f] 128)) [.string t.v, .string t.f] ⟨hbt5.fr HK.out, hp4.via (below_al (Below.refl _ _) _), zrows.bt hbt5 (by omega), row_bt hbt5 (by omega) he, rfl, (by simp [Value.oneCell']), reps.move (Kp.alloc _ _) (fun b _ h => zrows.off hnw b (by first | exact h | exact Nat.le_trans (by simp) h)) _ _ (reps.cons (rep.lit rfl) (reps.cons (rep.lit rfl) reps.nil)), heap_alloc_new w4 _, hbt5.size, hl4, HX.out.bt hbt5⟩
     ·go_simp
      go_wp2_with fail
      refine hK.out _ _ ((by first | exact hS | exact (hx4.bt ((Bt.refl B w4).alloc _)).2.2.1 | exact hx4.2.2.1 | exact (HX.out.bt ((Bt.refl B _).drew.alloc _)).2.2.1 | exact (HX.out.bt (((Bt.refl B _).alloc _).drew)).2.2.1)) (fun hS => ?_)
      clear hK K'
      (try simp only [Act.put, n3])
      refine on1 1 rfl (fun K' hK => ?_)
      have e04 : w4.cell? ⟨C, 3, none⟩ = some (.slice p0 s.1.length c0) := by rw [(heap_cell hC4 3).1]; exact hj3 _ _
      have hEw4 : C < w4.heap.size := by omega
      go_simp
      refine hK.out _ _ ((by first | exact hS | exact (hx4.bt ((Bt.refl B w4).alloc _)).2.2.1 | exact hx4.2.2.1 | exact (HX.out.bt ((Bt.refl B _).drew.alloc _)).2.2.1 | exact (HX.out.bt (((Bt.refl B _).alloc _).drew)).2.2.1)) (fun hS => ?_)
      clear hK K'
      (try simp only [Act.put, n3])
      have hbt5 : Bt B wc (w4.alloc (.cells #[.string t.v, .string t.f] 128)) := hbt4.alloc _
      refine HT5 w4.heap.size (w4.alloc (.cells #[.string t.v, .string t.f] 128)) [.string t.v, .string t.f] ⟨hbt5.fr HK.out, hp4.via (below_al (Below.refl _ _) _), zrows.bt hbt5 (by omega), row_bt hbt5 (by omega) he, rfl, (by simp [Value.oneCell']), reps.move (Kp.alloc _ _) (fun b _ h => zrows.off hnw b (by first | exact h | exact Nat.le_trans (by simp) h)) _ _ (reps.cons (rep.lit rfl) (reps.cons (rep.lit rfl) reps.nil)), heap_alloc_new w4 _, hbt5.size, hl4, HX.out.bt hbt5⟩
 | false =>
  rw [hv] at HI
  rw [if_neg (by simp)]
  clear hv
  obtain ⟨i0, hi, hz0, hz1, hz2⟩ := info_parts infoExpr'
  have HT := fun w (h : PAt K w B r o) => Hid.intro (expr_any h)
  cases hm : exprM o r with
  | bad q =>
   rw [hm] at HT
   rw [bd_bad]
   clear hm
   go_enter Tryz.func157, Tryz.ntmps157
   go_wp2_with fail
   refine HI.out.mono ?_
   rintro e wc ⟨rfl, hbc⟩
   have HP := Hid.intro (h.via hbc)
   have HX := Hid.intro (h1.bt (Bt.below hbc))
   have d1 := HX.out.2.2.1
   have HK := Hid.intro (hP.up hbc.size)
   have HF := Hid.intro ((Bt.below (B := B) hbc).fr hP)
   obtain ⟨hBC, hCn, hnw, vs, he, zrows, hpa⟩ := JR.stb _ _ _ P h5 (Bt.below hbc) (fun _ h => .inl h)
   obtain ⟨v3, v4, rfl⟩ : ∃ x y, vs = [x, y] := by have := zrows.1; simp only [patR, List.length_cons, List.length_nil] at this; match vs, this with | [x, y], _ => exact ⟨x, y, rfl⟩
   obtain ⟨p0, c0, xs0, hv0, -, -⟩ := zrows.2.2 1 _ _ rfl rfl
   dsimp only at hv0
   subst hv0
   have e0 : wc.cell? ⟨C, 4, none⟩ = some (.slice p0 s.2.length c0) := by rw [(heap_cell he 4).1]; exact hj4 _ _
   have hEw : C < wc.heap.size := by omega
   go_wp2_with fail
   refine wp_region_held_drew (S := fun w' => w'.cell? ⟨c1, 0, none⟩ = some (.pointer (some ⟨B, 0, none⟩))) hmo d1 (fun hS => ?_)
   refine tq 0 11 (.pointer (some ⟨C, 4, none⟩)) hS ?_
   simp only [n3]
   refine tq 2 13 (.pointer (some ⟨B, 0, none⟩)) hS ?_
   simp only [n3]
   refine wpAnyH_ready (rs := [1, 3, 5]) (by kernel_rfl) (by simp) ?_
   refine AllReadyH.cons rfl (fun K' hK => ?_) (AllReadyH.cons rfl (fun K' hK => ?_) (AllReadyH.cons rfl (fun K' hK => ?_) AllReadyH.nil))
   ·go_simp
    refine hK.out _ _ ((by first | exact hS | exact (hx4.bt ((Bt.refl B w4).alloc _)).2.2.1 | exact hx4.2.2.1 | exact (HX.out.bt ((Bt.refl B _).drew.alloc _)).2.2.1 | exact (HX.out.bt (((Bt.refl B _).alloc _).drew)).2.2.1)) (fun hS => ?_)
    clear hK K'
    (try simp only [Act.put, n3])
    refine tq 4 15 (.int .i64 (s.2.length : Int)) hS ?_
    simp only [n3]
    refine on2 3 5 rfl (fun K' hK => ?_) rfl (fun K' hK => ?_)
    ·go_simp
     refine (HT _ (by first | exact HP.out.via (Below.refl _ _).drew | exact HP.out.via (below_al (Below.refl _ _).drew _) | exact HP.out.via (below_al (Below.refl _ _) _).drew)).out.mono ?_
     rintro e w4 ⟨hb4, rfl⟩
     have hbt4 : Bt B wc w4 := Bt.trans (by first | exact (Bt.refl B _).drew | exact (Bt.refl B _).drew.alloc _ | exact ((Bt.refl B _).alloc _).drew) hb4
     exact ⟨rfl, HF.out.trans (hbt4.fr HK.out), rfl⟩
    ·go_simp
     go_wp2_with fail
     refine hK.out _ _ ((by first | exact hS | exact (hx4.bt ((Bt.refl B w4).alloc _)).2.2.1 | exact hx4.2.2.1 | exact (HX.out.bt ((Bt.refl B _).drew.alloc _)).2.2.1 | exact (HX.out.bt (((Bt.refl B _).alloc _).drew)).2.2.1)) (fun hS => ?_)
     clear hK K'
     (try simp only [Act.put, n3])
     refine on1 3 rfl (fun K' hK => ?_)
     go_simp
     refine (HT _ (by first | exact HP.out.via (Below.refl _ _).drew | exact HP.out.via (below_al (Below.refl _ _).drew _) | exact HP.out.via (below_al (Below.refl _ _) _).drew)).out.mono ?_
     rintro e w4 ⟨hb4, rfl⟩
     have hbt4 : Bt B wc w4 := Bt.trans (by first | exact (Bt.refl B _).drew | exact (Bt.refl B _).drew.alloc _ | exact ((Bt.refl B _).alloc _).drew) hb4
     exact ⟨rfl, HF.out.trans (hbt4.fr HK.out), rfl⟩
   ·go_simp
    refine (HT _ (by first | exact HP.out.via (Below.refl _ _).drew | exact HP.out.via (below_al (Below.refl _ _).drew _) | exact HP.out.via (below_al (Below.refl _ _) _).drew)).out.mono ?_
    rintro e w4 ⟨hb4, rfl⟩
    have hbt4 : Bt B wc w4 := Bt.trans (by first | exact (Bt.refl B _).drew | exact (Bt.refl B _).drew.alloc _ | exact ((Bt.refl B _).alloc _).drew) hb4
    exact ⟨rfl, HF.out.trans (hbt4.fr HK.out), rfl⟩
   ·go_simp
    go_wp2_with fail
    refine hK.out _ _ ((by first | exact hS | exact (hx4.bt ((Bt.refl B w4).alloc _)).2.2.1 | exact hx4.2.2.1 | exact (HX.out.bt ((Bt.refl B _).drew.alloc _)).2.2.1 | exact (HX.out.bt (((Bt.refl B _).alloc _).drew)).2.2.1)) (fun hS => ?_)
    clear hK K'
    (try simp only [Act.put, n3])
    refine on2 1 3 rfl (fun K' hK => ?_) rfl (fun K' hK => ?_)
    ·go_simp
     refine hK.out _ _ ((by first | exact hS | exact (hx4.bt ((Bt.refl B w4).alloc _)).2.2.1 | exact hx4.2.2.1 | exact (HX.out.bt ((Bt.refl B _).drew.alloc _)).2.2.1 | exact (HX.out.bt (((Bt.refl B _).alloc _).drew)).2.2.1)) (fun hS => ?_)
     clear hK K'
     (try simp only [Act.put, n3])
     refine tq 4 15 (.int .i64 (s.2.length : Int)) hS ?_
     simp only [n3]
     refine on1 3 rfl (fun K' hK => ?_)
     go_simp
     refine (HT _ (by first | exact HP.out.via (Below.refl _ _).drew | exact HP.out.via (below_al (Below.refl _ _).drew _) | exact HP.out.via (below_al (Below.refl _ _) _).drew)).out.mono ?_
     rintro e w4 ⟨hb4, rfl⟩
     have hbt4 : Bt B wc w4 := Bt.trans (by first | exact (Bt.refl B _).drew | exact (Bt.refl B _).drew.alloc _ | exact ((Bt.refl B _).alloc _).drew) hb4
     exact ⟨rfl, HF.out.trans (hbt4.fr HK.out), rfl⟩
    ·go_simp
     refine (HT _ (by first | exact HP.out.via (Below.refl _ _).drew | exact HP.out.via (below_al (Below.refl _ _).drew _) | exact HP.out.via (below_al (Below.refl _ _) _).drew)).out.mono ?_
     rintro e w4 ⟨hb4, rfl⟩
     have hbt4 : Bt B wc w4 := Bt.trans (by first | exact (Bt.refl B _).drew | exact (Bt.refl B _).drew.alloc _ | exact ((Bt.refl B _).alloc _).drew) hb4
     exact ⟨rfl, HF.out.trans (hbt4.fr HK.out), rfl⟩
  | ok t r1 =>
   rw [hm] at HT
   rw [bd_ok]
   clear hm
   go_enter Tryz.func157, Tryz.ntmps157
   go_wp2_with fail
   refine HI.out.mono ?_
   rintro e wc ⟨rfl, hbc⟩
   have HP := Hid.intro (h.via hbc)
   have HX := Hid.intro (h1.bt (Bt.below hbc))
   have d1 := HX.out.2.2.1
   have HK := Hid.intro (hP.up hbc.size)
   have HF := Hid.intro ((Bt.below (B := B) hbc).fr hP)
   obtain ⟨hBC, hCn, hnw, vs, he, zrows, hpa⟩ := JR.stb _ _ _ P h5 (Bt.below hbc) (fun _ h => .inl h)
   obtain ⟨v3, v4, rfl⟩ : ∃ x y, vs = [x, y] := by have := zrows.1; simp only [patR, List.length_cons, List.length_nil] at this; match vs, this with | [x, y], _ => exact ⟨x, y, rfl⟩
   obtain ⟨p0, c0, xs0, hv0, -, -⟩ := zrows.2.2 1 _ _ rfl rfl
   dsimp only at hv0
   subst hv0
   have e0 : wc.cell? ⟨C, 4, none⟩ = some (.slice p0 s.2.length c0) := by rw [(heap_cell he 4).1]; exact hj4 _ _
   have hEw : C < wc.heap.size := by omega
   go_wp2_with fail
   refine wp_region_held_drew (S := fun w' => w'.cell? ⟨c1, 0, none⟩ = some (.pointer (some ⟨B, 0, none⟩))) hmo d1 (fun hS => ?_)
   refine tq 0 11 (.pointer (some ⟨C, 4, none⟩)) hS ?_
   simp only [n3]
   refine tq 2 13 (.pointer (some ⟨B, 0, none⟩)) hS ?_
   simp only [n3]
   refine share (fun z W us => Fr P wc W ∧ PAt K W B r1 o ∧ RowsAt n (patR s) [v3, (.slice p0 s.2.length c0)] W ∧ W.heap[C]? = some (.cells (A [v3, (.slice p0 s.2.length c0)]) 96 (0, 0)) ∧ us.length = 8 ∧ (∀ u ∈ us, u.oneCell' = true) ∧ reps (offR n [v3, (.slice p0 s.2.length c0)]) W t.e.cs us ∧ W.heap[z]? = some (.cells #[.int .i64 0, .string ⟨#[]⟩, .int .i64 0, .bool false, .int .i64 0, .string ⟨#[]⟩, .slice none 0 0, .slice none 0 0] 39 (0, 0)) ∧ wc.heap.size ≤ W.heap.size ∧ r1.length ≤ r.length - 1 ∧ Bx B c1 (.pointer (some ⟨B, 0, none⟩)) W) 5 #[true, true, true, true, true, true, false, false, false, false, false] (fun z us => [(12, .slice p0 s.2.length c0), (14, .agg us.toArray), (15, .int .i64 (s.2.length : Int)), (16, .slice (some ⟨z, 0, none⟩) 1 1)]) ?_ (fun HT5 => ?_)
   ·rintro z W us ⟨zf, zp, zr, zh, zl, zo, zu, zz, zs, zlf, zx⟩
    simp only [putL, List.foldl, Act.put, List.setIfInBounds_toArray, List.set_cons_succ, List.set_cons_zero]
    obtain ⟨pq, cq, xs, hveq, hown, hxs⟩ := zr.2.2 1 _ _ rfl rfl
    dsimp only at hveq hown hxs
    clear hveq
    have hCW : C < W.heap.size := by omega
    have hKn := HK.out.up zs
    refine on1 6 rfl (fun K' hK => ?_)
    rw [if_pos (by rfl)]
    refine wp_append_own _ _ 37 rfl n 39 i0 _ 8 112 Tryz.underlying37 hi hz0 hz1 hz2 rfl (by decide) _ _ _ rfl hown ⟨z, 0, none⟩ 1 1 [.int .i64 0, .string ⟨#[]⟩, .int .i64 0, .bool false, .int .i64 0, .string ⟨#[]⟩, .slice none 0 0, .slice none 0 0] rfl rfl (fun j u hj => by rw [addr_add, Nat.zero_add, (heap_cell zz j).1, ← hj]; simp) (by simp [Value.oneCell']) (by unfold maxLen; omega) (by omega) (by omega) (fun sv' w5 hown5 hgr5 hat5 => ?_)
    obtain ⟨g5, k5, rfl⟩ := ownsRow_succ hown5
    have hch5 : Chg C _ W w5 := Chg.of hgr5
    have e5 : w5.heap[C]? = some (.cells (A [v3, (.slice p0 s.2.length c0)]) 96 (0, 0)) := (hgr5.block C hCW (own_below hown (.inl hCn))).trans zh
    have c5 : w5.cell? ⟨C, 4, none⟩ = some (.slice p0 s.2.length c0) := by rw [(heap_cell e5 4).1]; exact hj4 _ _
    have f5 : w5.frozen? ⟨C, 4, none⟩ = false := (heap_cell e5 4).2
    have hKg : ∀ g, (Value.slice p0 s.2.length c0).ownBlock = some g → K ≤ g := fun g hg => by have := (hown.lt g hg).1; omega
    have hx5 := zx.chg hch5 h3 (own_below hown (.inl h2))
    refine hK.out _ _ (hx5.2.2.1) (fun hS => ?_)
    clear hK K'
    (try simp only [Act.put, n3])
    refine tp 7 18 (.pointer (some ⟨g5, s.2.length * 8, none⟩)) ⟨_, rfl, rfl, Or.inl ⟨by rfl, fun w hSw => by go_simp; intro hh; exact absurd hh (by omega)⟩⟩ hS ?_
    simp only [n3]
    refine tq 9 19 (.pointer (some ⟨C, 4, none⟩)) hS ?_
    simp only [n3]
    have hxl : xs.length = s.2.length * 8 := hown.1
    have hgne : g5 ≠ C := by have := (hown5.lt g5 rfl).1; omega
    have hgs : some g5 = (Value.slice p0 s.2.length c0).ownBlock ∨ W.heap.size ≤ g5 := by rcases hat5 with e | e; exact .inl e; cases e; exact .inr (Nat.le_refl _)
    have hth : ∀ (w6 : World), w6.ownsRow n 39 8 (.slice (some ⟨g5, 0, none⟩) (s.2.length + 1) k5) (s.2.length + 1) (xs ++ [.int .i64 0, .string ⟨#[]⟩, .int .i64 0, .bool false, .int .i64 0, .string ⟨#[]⟩, .slice none 0 0, .slice none 0 0]) → w6.there g5 (s.2.length * 8) us.toArray.size := fun w6 h6 j hj => ⟨by rw [List.size_toArray, zl] at hj; rw [h6.cellAt (s.2.length * 8 + j) (by omega), List.getElem?_eq_getElem (by rw [List.length_append, hxl]; simp; omega)]; rfl, h6.frozenAt _⟩
    refine on2 8 10 rfl (fun K' hK => ?_) rfl (fun K' hK => ?_)
    ·have zl8 : us.toArray.size = 8 := by simpa using zl
     rw [if_pos (by rfl)]
     refine wp_store_mid _ _ _ rfl g5 (s.2.length * 8) us.toArray rfl rfl (hth _ hown5) (by rw [zl8]; kernel_rfl) (all_oneCell_toArray zo) ?_
     have hch6 := Chg.setCells (ow := (Value.slice p0 s.2.length c0).ownBlock) hgs us (s.2.length * 8) _ hch5
     have hown6 := own_last us _ xs _ hown5 (by rw [zl]; rfl)
     rw [hxl] at hown6
     have e6 := (heap_setCells us g5 (s.2.length * 8) w5 (Ne.symm hgne)).trans e5
     have c6 : (w5.setCells g5 (s.2.length * 8) us).cell? ⟨C, 4, none⟩ = some (.slice p0 s.2.length c0) := by rw [(heap_cell e6 4).1]; exact hj4 _ _
     have f6 : (w5.setCells g5 (s.2.length * 8) us).frozen? ⟨C, 4, none⟩ = false := (heap_cell e6 4).2
     have hx6 := zx.chg hch6 h3 (own_below hown (.inl h2))
     (try simp only [])
     refine hK.out _ _ (hx6.2.2.1) (fun hS => ?_)
     clear hK K'
     (try simp only [Act.put, n3])
     refine on1 10 rfl (fun K' hK => ?_)
     go_simp
     go_wp2_with fail
     have hch7 := hch6.set (p := ⟨C, 4, none⟩) (.inl rfl) (.slice (some ⟨g5, 0, none⟩) (s.2.length + 1) k5)
     have hown7 := own_setC 4 hown6 hCn (.slice (some ⟨g5, 0, none⟩) (s.2.length + 1) k5)
     have e7 := heap_put (i := 4) e6 (.slice (some ⟨g5, 0, none⟩) (s.2.length + 1) k5)
     have hx7 := zx.chg hch7 h3 (own_below hown (.inl h2))
     refine hK.out _ _ (hx7.2.2.1) (fun hS => ?_)
     clear hK K'
     (try simp only [n3])
     obtain ⟨hJ6, hF6⟩ := JR.push (A := A) (T := 96) hBC hCn (by omega) zr hpa hKn 1 rfl rfl hxs zu rfl hown7 hch7 hat5 (by rw [e7, hA4]; rfl)
     have hp6 := zp.chg hch7 hCK hKg
     refine wpAnyH_done (by kernel_rfl) ?_ _
     go_wp2_with fail
     go_end0
     refine ⟨(HF.out.trans zf).trans hF6, rfl, by unfold PtG; simp; omega, ⟨hx7, h2, h3, ?_⟩, hp6, by omega⟩
     simpa [patR, Rd.up, List.flatMap_append, css_snoc, Bi.cs] using hJ6
    ·have zl8 : us.toArray.size = 8 := by simpa using zl
     go_simp
     go_wp2_with fail
     have hch6 := hch5.set (p := ⟨C, 4, none⟩) (.inl rfl) (.slice (some ⟨g5, 0, none⟩) (s.2.length + 1) k5)
     have hown6 := own_setC 4 hown5 hCn (.slice (some ⟨g5, 0, none⟩) (s.2.length + 1) k5)
     have e6 := heap_put (i := 4) e5 (.slice (some ⟨g5, 0, none⟩) (s.2.length + 1) k5)
     have hx6 := zx.chg hch6 h3 (own_below hown (.inl h2))
     refine hK.out _ _ (hx6.2.2.1) (fun hS => ?_)
     clear hK K'
     (try simp only [n3])
     refine on1 8 rfl (fun K' hK => ?_)
     rw [if_pos (by rfl)]
     refine wp_store_mid _ _ _ rfl g5 (s.2.length * 8) us.toArray rfl rfl (hth _ hown6) (by rw [zl8]; kernel_rfl) (all_oneCell_toArray zo) ?_
     have hch7 := Chg.setCells (ow := (Value.slice p0 s.2.length c0).ownBlock) hgs us (s.2.length * 8) _ hch6
     have hown7 := own_last us _ xs _ hown6 (by rw [zl]; rfl)
     rw [hxl] at hown7
     have e7 := (heap_setCells us g5 (s.2.length * 8) _ (Ne.symm hgne)).trans e6
     (try simp only [])
     have hx7 := zx.chg hch7 h3 (own_below hown (.inl h2))
     refine hK.out _ _ (hx7.2.2.1) (fun hS => ?_)
     clear hK K'
     (try simp only [Act.put, n3])
     obtain ⟨hJ6, hF6⟩ := JR.push (A := A) (T := 96) hBC hCn (by omega) zr hpa hKn 1 rfl rfl hxs zu rfl hown7 hch7 hat5 (by rw [e7, hA4]; rfl)
     have hp6 := zp.chg hch7 hCK hKg
     refine wpAnyH_done (by kernel_rfl) ?_ _
     go_wp2_with fail
     go_end0
     refine ⟨(HF.out.trans zf).trans hF6, rfl, by unfold PtG; simp; omega, ⟨hx7, h2, h3, ?_⟩, hp6, by omega⟩
     simpa [patR, Rd.up, List.flatMap_append, css_snoc, Bi.cs] using hJ6
   ·(try simp only [putL, List.foldl, Act.put, List.setIfInBounds_toArray, List.set_cons_succ, List.set_cons_zero] at HT5)
    refine wpAnyH_ready (rs := [1, 3, 5]) (by kernel_rfl) (by simp) ?_
    refine AllReadyH.cons rfl (fun K' hK => ?_) (AllReadyH.cons rfl (fun K' hK => ?_) (AllReadyH.cons rfl (fun K' hK => ?_) AllReadyH.nil))
    ·go_simp
     refine hK.out _ _ ((by first | exact hS | exact (hx4.bt ((Bt.refl B w4).alloc _)).2.2.1 | exact hx4.2.2.1 | exact (HX.out.bt ((Bt.refl B _).drew.alloc _)).2.2.1 | exact (HX.out.bt (((Bt.refl B _).alloc _).drew)).2.2.1)) (fun hS => ?_)
     clear hK K'
     (try simp only [Act.put, n3])
     refine tq 4 15 (.int .i64 (s.2.length : Int)) hS ?_
     simp only [n3]
     refine on2 3 5 rfl (fun K' hK => ?_) rfl (fun K' hK => ?_)
     ·go_simp
      refine (HT _ (by first | exact HP.out.via (Below.refl _ _).drew | exact HP.out.via (below_al (Below.refl _ _).drew _) | exact HP.out.via (below_al (Below.refl _ _) _).drew)).out.mono ?_
      rintro e w4 ⟨hb4, hl4, hp4, v4, rfl, p6, n6, c6, p7, n7, c7, rfl, z6, z7⟩
      have hbt4 : Bt B wc w4 := Bt.trans (by first | exact (Bt.refl B _).drew | exact (Bt.refl B _).drew.alloc _ | exact ((Bt.refl B _).alloc _).drew) hb4
      have hr4 := zrows.bt hbt4 (by omega)
      have hC4 := row_bt hbt4 (by omega) he
      have hs4 : wc.heap.size ≤ w4.heap.size := hbt4.size
      have hx4 := HX.out.bt hbt4
      go_wp2_with fail
      refine hK.out _ _ ((by first | exact hS | exact (hx4.bt ((Bt.refl B w4).alloc _)).2.2.1 | exact hx4.2.2.1 | exact (HX.out.bt ((Bt.refl B _).drew.alloc _)).2.2.1 | exact (HX.out.bt (((Bt.refl B _).alloc _).drew)).2.2.1)) (fun hS => ?_)
      clear hK K'
      (try simp only [Act.put, n3])
      refine on1 5 rfl (fun K' hK => ?_)
      go_simp
      go_wp2_with fail
      refine hK.out _ _ ((by first | exact hS | exact (hx4.bt ((Bt.refl B w4).alloc _)).2.2.1 | exact hx4.2.2.1 | exact (HX.out.bt ((Bt.refl B _).drew.alloc _)).2.2.1 | exact (HX.out.bt (((Bt.refl B _).alloc _).drew)).2.2.1)) (fun hS => ?_)
      clear hK K'
      (try simp only [Act.put, n3])
      have hbt5 : Bt B wc (w4.alloc (.cells #[.int .i64 0, .string ⟨#[]⟩, .int .i64 0, .bool false, .int .i64 0, .string ⟨#[]⟩, .slice none 0 0, .slice none 0 0] 39)) := hbt4.alloc _
      refine HT5 w4.heap.size (w4.alloc (.cells #[.int .i64 0, .string ⟨#[]⟩, .int .i64 0, .bool false, .int .i64 0, .string ⟨#[]⟩, .slice none 0 0, .slice none 0 0] 39)) [.int .i64 t.e.op, .string t.e.t, .int .i64 t.e.v.k, .bool t.e.v.b, .int .i64 t.e.v.i, .string t.e.v.s, .slice p6 n6 c6, .slice p7 n7 c7] ⟨hbt5.fr HK.out, hp4.via (below_al (Below.refl _ _) _), zrows.bt hbt5 (by omega), row_bt hbt5 (by omega) he, rfl, (by simp [Value.oneCell']), reps.move (Kp.alloc _ _) (fun b _ h => zrows.off hnw b (by first | exact h | exact Nat.le_trans (by simp) h)) _ _ (ex_reps z6 z7), heap_alloc_new w4 _, hbt5.size, hl4, HX.out.bt hbt5⟩
     ·go_simp
      go_wp2_with fail
      refine hK.out _ _ ((by first | exact hS | exact (hx4.bt ((Bt.refl B w4).alloc _)).2.2.1 | exact hx4.2.2.1 | exact (HX.out.bt ((Bt.refl B _).drew.alloc _)).2.2.1 | exact (HX.out.bt (((Bt.refl B _).alloc _).drew)).2.2.1)) (fun hS => ?_)
      clear hK K'
      (try simp only [Act.put, n3])
      refine on1 3 rfl (fun K' hK => ?_)
      go_simp
      refine (HT _ (by first | exact HP.out.via (Below.refl _ _).drew | exact HP.out.via (below_al (Below.refl _ _).drew _) | exact HP.out.via (below_al (Below.refl _ _) _).drew)).out.mono ?_
      rintro e w4 ⟨hb4, hl4, hp4, v4, rfl, p6, n6, c6, p7, n7, c7, rfl, z6, z7⟩
      have hbt4 : Bt B wc w4 := Bt.trans (by first | exact (Bt.refl B _).drew | exact (Bt.refl B _).drew.alloc _ | exact ((Bt.refl B _).alloc _).drew) hb4
      have hr4 := zrows.bt hbt4 (by omega)
      have hC4 := row_bt hbt4 (by omega) he
      have hs4 : wc.heap.size ≤ w4.heap.size := hbt4.size
      have hx4 := HX.out.bt hbt4
      go_wp2_with fail
      refine hK.out _ _ ((by first | exact hS | exact (hx4.bt ((Bt.refl B w4).alloc _)).2.2.1 | exact hx4.2.2.1 | exact (HX.out.bt ((Bt.refl B _).drew.alloc _)).2.2.1 | exact (HX.out.bt (((Bt.refl B _).alloc _).drew)).2.2.1)) (fun hS => ?_)
      clear hK K'
      (try simp only [Act.put, n3])
      refine HT5 wc.heap.size w4 [.int .i64 t.e.op, .string t.e.t, .int .i64 t.e.v.k, .bool t.e.v.b, .int .i64 t.e.v.i, .string t.e.v.s, .slice p6 n6 c6, .slice p7 n7 c7] ⟨hbt4.fr HK.out, hp4, hr4, hC4, rfl, (by simp [Value.oneCell']), reps.move Kp.refl (fun b _ h => zrows.off hnw b (by first | exact h | exact Nat.le_trans (by simp) h)) _ _ (ex_reps z6 z7), row_bt hb4 (by omega) (heap_alloc_new wc _), hs4, hl4, hx4⟩
    ·go_simp
     refine (HT _ (by first | exact HP.out.via (Below.refl _ _).drew | exact HP.out.via (below_al (Below.refl _ _).drew _) | exact HP.out.via (below_al (Below.refl _ _) _).drew)).out.mono ?_
     rintro e w4 ⟨hb4, hl4, hp4, v4, rfl, p6, n6, c6, p7, n7, c7, rfl, z6, z7⟩
     have hbt4 : Bt B wc w4 := Bt.trans (by first | exact (Bt.refl B _).drew | exact (Bt.refl B _).drew.alloc _ | exact ((Bt.refl B _).alloc _).drew) hb4
     have hr4 := zrows.bt hbt4 (by omega)
     have hC4 := row_bt hbt4 (by omega) he
     have hs4 : wc.heap.size ≤ w4.heap.size := hbt4.size
     have hx4 := HX.out.bt hbt4
     go_wp2_with fail
     refine hK.out _ _ ((by first | exact hS | exact (hx4.bt ((Bt.refl B w4).alloc _)).2.2.1 | exact hx4.2.2.1 | exact (HX.out.bt ((Bt.refl B _).drew.alloc _)).2.2.1 | exact (HX.out.bt (((Bt.refl B _).alloc _).drew)).2.2.1)) (fun hS => ?_)
     clear hK K'
     (try simp only [Act.put, n3])
     refine on2 1 5 rfl (fun K' hK => ?_) rfl (fun K' hK => ?_)
     ·have e04 : w4.cell? ⟨C, 4, none⟩ = some (.slice p0 s.2.length c0) := by rw [(heap_cell hC4 4).1]; exact hj4 _ _
      have hEw4 : C < w4.heap.size := by omega
      go_simp
      refine hK.out _ _ ((by first | exact hS | exact (hx4.bt ((Bt.refl B w4).alloc _)).2.2.1 | exact hx4.2.2.1 | exact (HX.out.bt ((Bt.refl B _).drew.alloc _)).2.2.1 | exact (HX.out.bt (((Bt.refl B _).alloc _).drew)).2.2.1)) (fun hS => ?_)
      clear hK K'
      (try simp only [Act.put, n3])
      refine tq 4 15 (.int .i64 (s.2.length : Int)) hS ?_
      simp only [n3]
      refine on1 5 rfl (fun K' hK => ?_)
      go_simp
      go_wp2_with fail
      refine hK.out _ _ ((by first | exact hS | exact (hx4.bt ((Bt.refl B w4).alloc _)).2.2.1 | exact hx4.2.2.1 | exact (HX.out.bt ((Bt.refl B _).drew.alloc _)).2.2.1 | exact (HX.out.bt (((Bt.refl B _).alloc _).drew)).2.2.1)) (fun hS => ?_)
      clear hK K'
      (try simp only [Act.put, n3])
      have hbt5 : Bt B wc (w4.alloc (.cells #[.int .i64 0, .string ⟨#[]⟩, .int .i64 0, .bool false, .int .i64 0, .string ⟨#[]⟩, .slice none 0 0, .slice none 0 0] 39)) := hbt4.alloc _
      refine HT5 w4.heap.size (w4.alloc (.cells #[.int .i64 0, .string ⟨#[]⟩, .int .i64 0, .bool false, .int .i64 0, .string ⟨#[]⟩, .slice none 0 0, .slice none 0 0] 39)) [.int .i64 t.e.op, .string t.e.t, .int .i64 t.e.v.k, .bool t.e.v.b, .int .i64 t.e.v.i, .string t.e.v.s, .slice p6 n6 c6, .slice p7 n7 c7] ⟨hbt5.fr HK.out, hp4.via (below_al (Below.refl _ _) _), zrows.bt hbt5 (by omega), row_bt hbt5 (by omega) he, rfl, (by simp [Value.oneCell']), reps.move (Kp.alloc _ _) (fun b _ h => zrows.off hnw b (by first | exact h | exact Nat.le_trans (by simp) h)) _ _ (ex_reps z6 z7), heap_alloc_new w4 _, hbt5.size, hl4, HX.out.bt hbt5⟩
     ·go_simp
      go_wp2_with fail
      refine hK.out _ _ ((by first | exact hS | exact (hx4.bt ((Bt.refl B w4).alloc _)).2.2.1 | exact hx4.2.2.1 | exact (HX.out.bt ((Bt.refl B _).drew.alloc _)).2.2.1 | exact (HX.out.bt (((Bt.refl B _).alloc _).drew)).2.2.1)) (fun hS => ?_)
      clear hK K'
      (try simp only [Act.put, n3])
      refine on1 1 rfl (fun K' hK => ?_)
      have e04 : w4.cell? ⟨C, 4, none⟩ = some (.slice p0 s.2.length c0) := by rw [(heap_cell hC4 4).1]; exact hj4 _ _
      have hEw4 : C < w4.heap.size := by omega
      go_simp
      refine hK.out _ _ ((by first | exact hS | exact (hx4.bt ((Bt.refl B w4).alloc _)).2.2.1 | exact hx4.2.2.1 | exact (HX.out.bt ((Bt.refl B _).drew.alloc _)).2.2.1 | exact (HX.out.bt (((Bt.refl B _).alloc _).drew)).2.2.1)) (fun hS => ?_)
      clear hK K'
      (try simp only [Act.put, n3])
      refine tq 4 15 (.int .i64 (s.2.length : Int)) hS ?_
      simp only [n3]
      have hbt5 : Bt B wc (w4.alloc (.cells #[.int .i64 0, .string ⟨#[]⟩, .int .i64 0, .bool false, .int .i64 0, .string ⟨#[]⟩, .slice none 0 0, .slice none 0 0] 39)) := hbt4.alloc _
      refine HT5 w4.heap.size (w4.alloc (.cells #[.int .i64 0, .string ⟨#[]⟩, .int .i64 0, .bool false, .int .i64 0, .string ⟨#[]⟩, .slice none 0 0, .slice none 0 0] 39)) [.int .i64 t.e.op, .string t.e.t, .int .i64 t.e.v.k, .bool t.e.v.b, .int .i64 t.e.v.i, .string t.e.v.s, .slice p6 n6 c6, .slice p7 n7 c7] ⟨hbt5.fr HK.out, hp4.via (below_al (Below.refl _ _) _), zrows.bt hbt5 (by omega), row_bt hbt5 (by omega) he, rfl, (by simp [Value.oneCell']), reps.move (Kp.alloc _ _) (fun b _ h => zrows.off hnw b (by first | exact h | exact Nat.le_trans (by simp) h)) _ _ (ex_reps z6 z7), heap_alloc_new w4 _, hbt5.size, hl4, HX.out.bt hbt5⟩
    ·go_simp
     go_wp2_with fail
     refine hK.out _ _ ((by first | exact hS | exact (hx4.bt ((Bt.refl B w4).alloc _)).2.2.1 | exact hx4.2.2.1 | exact (HX.out.bt ((Bt.refl B _).drew.alloc _)).2.2.1 | exact (HX.out.bt (((Bt.refl B _).alloc _).drew)).2.2.1)) (fun hS => ?_)
     clear hK K'
     (try simp only [Act.put, n3])
     refine on2 1 3 rfl (fun K' hK => ?_) rfl (fun K' hK => ?_)
     ·go_simp
      refine hK.out _ _ ((by first | exact hS | exact (hx4.bt ((Bt.refl B w4).alloc _)).2.2.1 | exact hx4.2.2.1 | exact (HX.out.bt ((Bt.refl B _).drew.alloc _)).2.2.1 | exact (HX.out.bt (((Bt.refl B _).alloc _).drew)).2.2.1)) (fun hS => ?_)
      clear hK K'
      (try simp only [Act.put, n3])
      refine tq 4 15 (.int .i64 (s.2.length : Int)) hS ?_
      simp only [n3]
      refine on1 3 rfl (fun K' hK => ?_)
      go_simp
      refine (HT _ (by first | exact HP.out.via (Below.refl _ _).drew | exact HP.out.via (below_al (Below.refl _ _).drew _) | exact HP.out.via (below_al (Below.refl _ _) _).drew)).out.mono ?_
      rintro e w4 ⟨hb4, hl4, hp4, v4, rfl, p6, n6, c6, p7, n7, c7, rfl, z6, z7⟩
      have hbt4 : Bt B wc w4 := Bt.trans (by first | exact (Bt.refl B _).drew | exact (Bt.refl B _).drew.alloc _ | exact ((Bt.refl B _).alloc _).drew) hb4
      have hr4 := zrows.bt hbt4 (by omega)
      have hC4 := row_bt hbt4 (by omega) he
      have hs4 : wc.heap.size ≤ w4.heap.size := hbt4.size
      have hx4 := HX.out.bt hbt4
      go_wp2_with fail
      refine hK.out _ _ ((by first | exact hS | exact (hx4.bt ((Bt.refl B w4).alloc _)).2.2.1 | exact hx4.2.2.1 | exact (HX.out.bt ((Bt.refl B _).drew.alloc _)).2.2.1 | exact (HX.out.bt (((Bt.refl B _).alloc _).drew)).2.2.1)) (fun hS => ?_)
      clear hK K'
      (try simp only [Act.put, n3])
      refine HT5 wc.heap.size w4 [.int .i64 t.e.op, .string t.e.t, .int .i64 t.e.v.k, .bool t.e.v.b, .int .i64 t.e.v.i, .string t.e.v.s, .slice p6 n6 c6, .slice p7 n7 c7] ⟨hbt4.fr HK.out, hp4, hr4, hC4, rfl, (by simp [Value.oneCell']), reps.move Kp.refl (fun b _ h => zrows.off hnw b (by first | exact h | exact Nat.le_trans (by simp) h)) _ _ (ex_reps z6 z7), row_bt hb4 (by omega) (heap_alloc_new wc _), hs4, hl4, hx4⟩
     ·go_simp
      refine (HT _ (by first | exact HP.out.via (Below.refl _ _).drew | exact HP.out.via (below_al (Below.refl _ _).drew _) | exact HP.out.via (below_al (Below.refl _ _) _).drew)).out.mono ?_
      rintro e w4 ⟨hb4, hl4, hp4, v4, rfl, p6, n6, c6, p7, n7, c7, rfl, z6, z7⟩
      have hbt4 : Bt B wc w4 := Bt.trans (by first | exact (Bt.refl B _).drew | exact (Bt.refl B _).drew.alloc _ | exact ((Bt.refl B _).alloc _).drew) hb4
      have hr4 := zrows.bt hbt4 (by omega)
      have hC4 := row_bt hbt4 (by omega) he
      have hs4 : wc.heap.size ≤ w4.heap.size := hbt4.size
      have hx4 := HX.out.bt hbt4
      go_wp2_with fail
      refine hK.out _ _ ((by first | exact hS | exact (hx4.bt ((Bt.refl B w4).alloc _)).2.2.1 | exact hx4.2.2.1 | exact (HX.out.bt ((Bt.refl B _).drew.alloc _)).2.2.1 | exact (HX.out.bt (((Bt.refl B _).alloc _).drew)).2.2.1)) (fun hS => ?_)
      clear hK K'
      (try simp only [Act.put, n3])
      refine on1 1 rfl (fun K' hK => ?_)
      have e04 : w4.cell? ⟨C, 4, none⟩ = some (.slice p0 s.2.length c0) := by rw [(heap_cell hC4 4).1]; exact hj4 _ _
      have hEw4 : C < w4.heap.size := by omega
      go_simp
      refine hK.out _ _ ((by first | exact hS | exact (hx4.bt ((Bt.refl B w4).alloc _)).2.2.1 | exact hx4.2.2.1 | exact (HX.out.bt ((Bt.refl B _).drew.alloc _)).2.2.1 | exact (HX.out.bt (((Bt.refl B _).alloc _).drew)).2.2.1)) (fun hS => ?_)
      clear hK K'
      (try simp only [Act.put, n3])
      refine tq 4 15 (.int .i64 (s.2.length : Int)) hS ?_
      simp only [n3]
      refine HT5 wc.heap.size w4 [.int .i64 t.e.op, .string t.e.t, .int .i64 t.e.v.k, .bool t.e.v.b, .int .i64 t.e.v.i, .string t.e.v.s, .slice p6 n6 c6, .slice p7 n7 c7] ⟨hbt4.fr HK.out, hp4, hr4, hC4, rfl, (by simp [Value.oneCell']), reps.move Kp.refl (fun b _ h => zrows.off hnw b (by first | exact h | exact Nat.le_trans (by simp) h)) _ _ (ex_reps z6 z7), row_bt hb4 (by omega) (heap_alloc_new wc _), hs4, hl4, hx4⟩
end
end Go.Proofs.YtoeodjobggodcaaGreatDoor
/- pattern. -/
namespace Go.Proofs.YtoeodjobggodcaaGreatDoor
section
open Go.RowKit
theorem rows_nil (n : Nat) (rs : List Rd) (hz : ∀ r ∈ rs, r.m = 0 ∧ r.ds = []) (w : World) : RowsAt n rs (rs.map fun _ => .slice none 0 0) w := by
 refine ⟨by simp, fun i j vi vj hi _ _ g hg => ?_, fun i r v hr hv => ?_⟩
 ·rw [List.getElem?_map] at hi
  obtain ⟨r, -, rfl⟩ := Option.map_eq_some_iff.1 hi
  simp [Value.ownBlock] at hg
 ·rw [List.getElem?_map] at hv
  obtain ⟨r', -, rfl⟩ := Option.map_eq_some_iff.1 hv
  have := hz r (List.mem_of_getElem? hr)
  obtain ⟨el, sz, m, ds⟩ := r
  obtain ⟨rfl, rfl⟩ := this
  exact ⟨none, 0, [], rfl, World.ownsRow_nil _ _ _ _, reps.nil⟩
def patA (v s : ByteArray) : List Value → Array Value
 | [x, y] => #[.int .i64 1, .string v, .string s, x, y, .slice none 0 0, .slice none 0 0, .slice none 0 0, .int .i64 0, .string ⟨#[]⟩, .int .i64 0, .bool false, .int .i64 0, .string ⟨#[]⟩, .slice none 0 0, .slice none 0 0, .string ⟨#[]⟩, .string ⟨#[]⟩, .slice none 0 0]
 | _ => #[]
set_option maxRecDepth 100000 in
set_option maxHeartbeats 4000000 in
theorem pattern_any {K B o : Nat} (v0 : ByteArray) {r : List Lx} {w : World} (h : PAt K w B r o) :
  Calls Tryz.prog 115 #[.pointer (some ⟨B, 0, none⟩), .string v0] w (Post K B o (r.length - 1) w (patternM v0 o r) fun w' c v => CdV (fun b => w.heap.size ≤ b) w' c v) := by
 have hmf : ∀ (fn : Fn) (first cap : Array Value) (w : World), (Instr.makeFunc fn first cap).run Tryz.prog w = .ok (.func fn first cap) w := fun _ _ _ _ => rfl
 have hsz := h.size
 have hlen := h.len
 have b0 : Below w.heap.size w ((w.alloc (.cells #[.pointer (some ⟨B, 0, none⟩)] 55)).alloc (.cells #[.int .i64 0, .string ⟨#[]⟩, .string ⟨#[]⟩, .slice none 0 0, .slice none 0 0, .slice none 0 0, .slice none 0 0, .slice none 0 0, .int .i64 0, .string ⟨#[]⟩, .int .i64 0, .bool false, .int .i64 0, .string ⟨#[]⟩, .slice none 0 0, .slice none 0 0, .string ⟨#[]⟩, .string ⟨#[]⟩, .slice none 0 0] 96)) := below_al (below_al (Below.refl _ _) _) _
 have hX0 : Bx B w.heap.size (.pointer (some ⟨B, 0, none⟩)) ((w.alloc (.cells #[.pointer (some ⟨B, 0, none⟩)] 55)).alloc (.cells #[.int .i64 0, .string ⟨#[]⟩, .string ⟨#[]⟩, .slice none 0 0, .slice none 0 0, .slice none 0 0, .slice none 0 0, .slice none 0 0, .int .i64 0, .string ⟨#[]⟩, .int .i64 0, .bool false, .int .i64 0, .string ⟨#[]⟩, .slice none 0 0, .slice none 0 0, .string ⟨#[]⟩, .string ⟨#[]⟩, .slice none 0 0] 96)) := (Bx.new w _ _ (by omega)).bt ((Bt.refl B _).alloc _)
 have hR0 : ((w.alloc (.cells #[.pointer (some ⟨B, 0, none⟩)] 55)).alloc (.cells #[.int .i64 0, .string ⟨#[]⟩, .string ⟨#[]⟩, .slice none 0 0, .slice none 0 0, .slice none 0 0, .slice none 0 0, .slice none 0 0, .int .i64 0, .string ⟨#[]⟩, .int .i64 0, .bool false, .int .i64 0, .string ⟨#[]⟩, .slice none 0 0, .slice none 0 0, .string ⟨#[]⟩, .string ⟨#[]⟩, .slice none 0 0] 96)).heap[w.heap.size + 1]? = some (.cells #[.int .i64 0, .string ⟨#[]⟩, .string ⟨#[]⟩, .slice none 0 0, .slice none 0 0, .slice none 0 0, .slice none 0 0, .slice none 0 0, .int .i64 0, .string ⟨#[]⟩, .int .i64 0, .bool false, .int .i64 0, .string ⟨#[]⟩, .slice none 0 0, .slice none 0 0, .string ⟨#[]⟩, .string ⟨#[]⟩, .slice none 0 0] 96) := heap_alloc2_new w _ _
 have HN := Hid.intro (pname_any (h.via b0))
 unfold patternM
 cases h1 : nameM r with
 | bad q =>
  rw [h1] at HN
  rw [bd_bad]
  clear h1
  go_enter Tryz.func115, Tryz.ntmps115
  go_wp2_with fail
  refine HN.out.mono ?_
  rintro e v1 ⟨ht1, rfl⟩
  exact ⟨rfl, (Bt.below b0).trans ht1, rfl⟩
 | ok s r1 =>
  rw [h1] at HN
  rw [bd_ok]
  clear h1
  have hstep : ∀ v1 : World, Bt B ((w.alloc (.cells #[.pointer (some ⟨B, 0, none⟩)] 55)).alloc (.cells #[.int .i64 0, .string ⟨#[]⟩, .string ⟨#[]⟩, .slice none 0 0, .slice none 0 0, .slice none 0 0, .slice none 0 0, .slice none 0 0, .int .i64 0, .string ⟨#[]⟩, .int .i64 0, .bool false, .int .i64 0, .string ⟨#[]⟩, .slice none 0 0, .slice none 0 0, .string ⟨#[]⟩, .string ⟨#[]⟩, .slice none 0 0] 96)) v1 → PAt K v1 B r1 o → r1.length ≤ r.length - 1 → ∃ W0, Hid ((v1.alloc (.cells #[.int .i64 0, .string ⟨#[]⟩, .string ⟨#[]⟩, .slice none 0 0, .slice none 0 0, .slice none 0 0, .slice none 0 0, .slice none 0 0, .int .i64 0, .string ⟨#[]⟩, .int .i64 0, .bool false, .int .i64 0, .string ⟨#[]⟩, .slice none 0 0, .slice none 0 0, .string ⟨#[]⟩, .string ⟨#[]⟩, .slice none 0 0] 96)).heap[v1.heap.size]? = some (.cells #[.int .i64 0, .string ⟨#[]⟩, .string ⟨#[]⟩, .slice none 0 0, .slice none 0 0, .slice none 0 0, .slice none 0 0, .slice none 0 0, .int .i64 0, .string ⟨#[]⟩, .int .i64 0, .bool false, .int .i64 0, .string ⟨#[]⟩, .slice none 0 0, .slice none 0 0, .string ⟨#[]⟩, .string ⟨#[]⟩, .slice none 0 0] 96)) ∧ (v1.alloc (.cells #[.int .i64 0, .string ⟨#[]⟩, .string ⟨#[]⟩, .slice none 0 0, .slice none 0 0, .slice none 0 0, .slice none 0 0, .slice none 0 0, .int .i64 0, .string ⟨#[]⟩, .int .i64 0, .bool false, .int .i64 0, .string ⟨#[]⟩, .slice none 0 0, .slice none 0 0, .string ⟨#[]⟩, .string ⟨#[]⟩, .slice none 0 0] 96)).setRow v1.heap.size #[.int .i64 1, .string v0, .string s, .slice none 0 0, .slice none 0 0, .slice none 0 0, .slice none 0 0, .slice none 0 0, .int .i64 0, .string ⟨#[]⟩, .int .i64 0, .bool false, .int .i64 0, .string ⟨#[]⟩, .slice none 0 0, .slice none 0 0, .string ⟨#[]⟩, .string ⟨#[]⟩, .slice none 0 0] = W0 ∧ Hid (Bt B w W0) ∧ W0.cell? ⟨w.heap.size, 0, none⟩ = some (.pointer (some ⟨B, 0, none⟩)) ∧ w.heap.size < W0.heap.size ∧ w.heap.size + 1 < v1.heap.size ∧
    Hid (W0.heap[w.heap.size + 1]? = some (.cells #[.int .i64 0, .string ⟨#[]⟩, .string ⟨#[]⟩, .slice none 0 0, .slice none 0 0, .slice none 0 0, .slice none 0 0, .slice none 0 0, .int .i64 0, .string ⟨#[]⟩, .int .i64 0, .bool false, .int .i64 0, .string ⟨#[]⟩, .slice none 0 0, .slice none 0 0, .string ⟨#[]⟩, .string ⟨#[]⟩, .slice none 0 0] 96)) ∧ Hid (Calls Tryz.prog 68 #[.pointer (some ⟨B, 0, none⟩), .string ⟨#[40]⟩, .string ⟨#[41]⟩, .func (.func 157) #[] #[.pointer (some ⟨w.heap.size, 0, none⟩), .pointer (some ⟨v1.heap.size, 0, none⟩)]] W0 (CPost K B o (r1.length - 1) (fun b => (b < w.heap.size ∧ b ≠ B) ∨ b = w.heap.size + 1) W0 PtG (PtJ (v1.heap.size + 1) B w.heap.size v1.heap.size (patA v0 s)) (listM ⟨#[40]⟩ ⟨#[41]⟩ o (fun (p : List Bi × List Ex) r => if isVW ⟨#[58]⟩ r then (bindM r).bd fun b r => .ok (p.1 ++ [b], p.2) r else (exprM (o + 1) r).bd fun t r => .ok (p.1, p.2 ++ [t.e]) r) ([], []) r1))) := by
   intro v1 ht1 hp1 hl1
   have hA : (v1.alloc (.cells #[.int .i64 0, .string ⟨#[]⟩, .string ⟨#[]⟩, .slice none 0 0, .slice none 0 0, .slice none 0 0, .slice none 0 0, .slice none 0 0, .int .i64 0, .string ⟨#[]⟩, .int .i64 0, .bool false, .int .i64 0, .string ⟨#[]⟩, .slice none 0 0, .slice none 0 0, .string ⟨#[]⟩, .string ⟨#[]⟩, .slice none 0 0] 96)).heap[v1.heap.size]? = some (.cells #[.int .i64 0, .string ⟨#[]⟩, .string ⟨#[]⟩, .slice none 0 0, .slice none 0 0, .slice none 0 0, .slice none 0 0, .slice none 0 0, .int .i64 0, .string ⟨#[]⟩, .int .i64 0, .bool false, .int .i64 0, .string ⟨#[]⟩, .slice none 0 0, .slice none 0 0, .string ⟨#[]⟩, .string ⟨#[]⟩, .slice none 0 0] 96) := heap_alloc_new _ _
   have hR1 := row_bt ht1 (by omega) hR0
   have hlt1 : w.heap.size + 1 < v1.heap.size := (Array.getElem?_eq_some_iff.1 hR1).1
   have hbW : Bt B ((w.alloc (.cells #[.pointer (some ⟨B, 0, none⟩)] 55)).alloc (.cells #[.int .i64 0, .string ⟨#[]⟩, .string ⟨#[]⟩, .slice none 0 0, .slice none 0 0, .slice none 0 0, .slice none 0 0, .slice none 0 0, .int .i64 0, .string ⟨#[]⟩, .int .i64 0, .bool false, .int .i64 0, .string ⟨#[]⟩, .slice none 0 0, .slice none 0 0, .string ⟨#[]⟩, .string ⟨#[]⟩, .slice none 0 0] 96)) ((v1.alloc (.cells #[.int .i64 0, .string ⟨#[]⟩, .string ⟨#[]⟩, .slice none 0 0, .slice none 0 0, .slice none 0 0, .slice none 0 0, .slice none 0 0, .int .i64 0, .string ⟨#[]⟩, .int .i64 0, .bool false, .int .i64 0, .string ⟨#[]⟩, .slice none 0 0, .slice none 0 0, .string ⟨#[]⟩, .string ⟨#[]⟩, .slice none 0 0] 96)).setRow v1.heap.size #[.int .i64 1, .string v0, .string s, .slice none 0 0, .slice none 0 0, .slice none 0 0, .slice none 0 0, .slice none 0 0, .int .i64 0, .string ⟨#[]⟩, .int .i64 0, .bool false, .int .i64 0, .string ⟨#[]⟩, .slice none 0 0, .slice none 0 0, .string ⟨#[]⟩, .string ⟨#[]⟩, .slice none 0 0]) := (ht1.alloc _).row (by simp; omega) _
   have hXW := hX0.bt hbW
   refine ⟨_, hA, rfl, (Bt.below b0).trans hbW, hXW.2.2.1, hXW.2.1, hlt1, row_bt hbW (by omega) hR0, ?_⟩
   refine list_any PtG.tail (PtJ.stb (v1.heap.size + 1) B w.heap.size v1.heap.size (patA v0 s)) (pat1_clo (v1.heap.size + 1) w.heap.size v1.heap.size (patA v0 s) (fun _ _ _ => by simp [patA]) (fun _ _ _ => by simp [patA]) (fun _ _ => by simp [patA]) (fun _ _ => by simp [patA]) (by omega)) (P := fun b => (b < w.heap.size ∧ b ≠ B) ∨ b = w.heap.size + 1) (s := ([], [])) (r := r1) (fun b hb => ⟨by simp; omega, by omega⟩) (by unfold PtG; simp; omega) ⟨hXW, by omega, by omega, ?_⟩ ((hp1.via (below_al (Below.refl _ _) _)).row (by omega) _) ⟨#[40]⟩ ⟨#[41]⟩
   exact ⟨by omega, by omega, by simp, [.slice none 0 0, .slice none 0 0], setRow_heap _ _ _ _ _ _ hA, rows_nil _ (patR ([], [])) (by simp [patR, Ex.css]) _, fun b hb => ⟨by omega, by simp [Value.ownBlock]⟩⟩
  cases hm : listM ⟨#[40]⟩ ⟨#[41]⟩ o (fun (p : List Bi × List Ex) r => if isVW ⟨#[58]⟩ r then (bindM r).bd fun b r => .ok (p.1 ++ [b], p.2) r else (exprM (o + 1) r).bd fun t r => .ok (p.1, p.2 ++ [t.e]) r) ([], []) r1 with
  | bad q =>
   rw [hm] at hstep
   rw [bd_bad]
   clear hm
   go_enter Tryz.func115, Tryz.ntmps115
   go_wp2_with fail
   refine HN.out.mono ?_
   rintro e v1 ⟨ht1, hl1, hp1, x, rfl, rfl⟩
   obtain ⟨W0, HA, hW0, HB, hc1, hc2, hlt1, HR, HW⟩ := hstep v1 ht1 hp1 hl1
   go_wp2_with (with_reducible refine (id (?_ : wpList _ _ _ (Oper.mk _ (Op.store _ _ _) _ _ _ _ :: _) _ _)); refine wpList_store_row rfl _ _ _ rfl _ _ rfl rfl _ _ HA.out infoCond rfl rfl (by simp [Value.oneCell']) ?_)
   refine HW.out.mono ?_
   rintro e w1 ⟨hf, rfl⟩
   exact ⟨rfl, HB.out.fra (hf.mono fun b hb => .inl hb), rfl⟩
  | ok l r2 =>
   rw [hm] at hstep
   rw [bd_ok]
   clear hm
   go_enter Tryz.func115, Tryz.ntmps115
   go_wp2_with fail
   refine HN.out.mono ?_
   rintro e v1 ⟨ht1, hl1, hp1, x, rfl, rfl⟩
   obtain ⟨W0, HA, hW0, HB, hc1, hc2, hlt1, HR, HW⟩ := hstep v1 ht1 hp1 hl1
   go_wp2_with (with_reducible refine (id (?_ : wpList _ _ _ (Oper.mk _ (Op.store _ _ _) _ _ _ _ :: _) _ _)); refine wpList_store_row rfl _ _ _ rfl _ _ rfl rfl _ _ HA.out infoCond rfl rfl (by simp [Value.oneCell']) ?_)
   refine HW.out.mono ?_
   rintro e w1 ⟨hf, rfl, hg, ⟨j1, j2, j3, k1, k2, k3, vs, k4, k5, -⟩, hp, hl⟩
   obtain ⟨x3, x4, rfl⟩ : ∃ x y, vs = [x, y] := by have := k5.1; simp only [patR, List.length_cons, List.length_nil] at this; match vs, this with | [x, y], _ => exact ⟨x, y, rfl⟩
   obtain ⟨p3, c3, y3, he3, o3, r3⟩ := k5.2.2 0 _ _ rfl rfl
   obtain ⟨p4, c4, y4, he4, o4, r4⟩ := k5.2.2 1 _ _ rfl rfl
   dsimp only at he3 he4 o3 o4 r3 r4
   have hrep3 : rep (fun b => v1.heap.size < b) w1 (.sl l.1.length (l.1.flatMap Bi.cs)) x3 := rep.own o3 (reps.move Kp.refl (fun b _ h => by have := h.1; omega) _ _ r3) (fun g hg => by have := (o3.lt g hg).1; omega)
   have hrep4 : rep (fun b => v1.heap.size < b) w1 (.sl l.2.length (Ex.css l.2)) x4 := rep.own o4 (reps.move Kp.refl (fun b _ h => by have := h.1; omega) _ _ r4) (fun g hg => by have := (o4.lt g hg).1; omega)
   subst he3 he4
   have HC1 := Hid.intro k4
   have HR1 := Hid.intro ((hf.block _ (.inr rfl)).trans HR.out)
   unfold patA at HC1
   go_wp2_with (first | (with_reducible refine (id (?_ : wpList _ _ _ (Oper.mk _ (Op.load _ _) _ _ _ _ :: _) _ _)); refine wpList_load_cells rfl _ _ rfl _ rfl _ _ _ HC1.out Tryz.underlying96 infoCond rfl ?_) | (with_reducible refine (id (?_ : wpList _ _ _ (Oper.mk _ (Op.store _ _ _) _ _ _ _ :: _) _ _)); refine wpList_store_row rfl _ _ _ rfl _ _ rfl rfl _ _ HR1.out infoCond rfl rfl (by simp [Value.oneCell']) ?_))
   have hkk : Kp (fun b => v1.heap.size < b) w1 (w1.setRow (w.heap.size + 1) #[.int .i64 1, .string v0, .string s, .slice p3 l.1.length c3, .slice p4 l.2.length c4, .slice none 0 0, .slice none 0 0, .slice none 0 0, .int .i64 0, .string ⟨#[]⟩, .int .i64 0, .bool false, .int .i64 0, .string ⟨#[]⟩, .slice none 0 0, .slice none 0 0, .string ⟨#[]⟩, .string ⟨#[]⟩, .slice none 0 0]) := ⟨by simp, fun b hb _ o => World.cell?_of_block (a := ⟨b, o, none⟩) (setRow_other _ _ _ _ (by simp only; omega))⟩
   refine ret_cells rfl rfl (setRow_heap _ _ _ _ _ _ HR1.out) Tryz.underlying96 infoCond rfl rfl (Post.ok ((HB.out.fra (hf.mono fun b hb => .inl hb)).row (by omega) _) (by omega) (hp.row (by omega) _) ?_)
   refine ⟨.slice p3 l.1.length c3, .slice p4 l.2.length c4, .slice none 0 0, .slice none 0 0, .slice none 0 0, .slice none 0 0, .slice none 0 0, .slice none 0 0, rfl, ⟨?_, ?_, ?_, ?_, ?_⟩, ?_, ?_, rep.none⟩
   ·exact rep.move hkk (fun b _ h => by omega) _ _ hrep3
   ·exact rep.move hkk (fun b _ h => by omega) _ _ hrep4
   ·simpa [Cd.css] using rep.none
   ·simpa [Cd.css] using rep.none
   ·simpa [Cd.csss] using rep.none
   ·simpa [Vt.css] using rep.none
   ·simpa [Ex.css] using rep.none
end
end Go.Proofs.YtoeodjobggodcaaGreatDoor
