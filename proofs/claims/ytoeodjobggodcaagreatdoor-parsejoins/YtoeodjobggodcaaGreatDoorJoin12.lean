import Derived.Test.YtoeodjobggodcaaGreatDoorJoin11
/- or: the closure that fills its alternatives. -/
namespace Go.Proofs.YtoeodjobggodcaaGreatDoor
section
open Go.RowKit
theorem run_or1 (caps : Array Value) (w : World) : (callFunc 151 caps).run Tryz.prog w = .ok (.enter 151 caps) w := by simp [go_sem]
theorem infoConds' : (Tryz.prog.info? 48).map (fun i => (i.zero, i.size, i.bytes)) = some (some (.slice none 0 0), 1, 24) := by kernel_rfl
def orR (l : List (List Cd)) : List Rd := [⟨48, 1, l.length, Cd.csss l⟩]
def OJ (n B c1 C : Nat) (A : List Value → Array Value) (s : List (List Cd)) (w : World) (P : Nat → Prop) : Prop := Bx B c1 (.pointer (some ⟨B, 0, none⟩)) w ∧ c1 < n ∧ c1 ≠ C ∧ JR n B C 96 A (orR s) w P
theorem OJ.stb (n B c1 C : Nat) (A : List Value → Array Value) (s : List (List Cd)) : Stb B (OJ n B c1 C A s) := fun w w' P P' h hb hp => ⟨h.1.bt hb, h.2.1, h.2.2.1, JR.stb w w' P P' h.2.2.2 hb hp⟩
theorem csss_snoc (l : List (List Cd)) (c : List Cd) : Cd.csss (l ++ [c]) = Cd.csss l ++ [.sl c.length (Cd.css c)] := by simp [Cd.csss_eq]
theorem str_cell1 (w : World) (s : ByteArray) (t : TypeId) : ∀ k (hk : k < [s].length), (w.alloc (.cells #[.string s] t)).cell? ⟨w.heap.size, k, none⟩ = some (.string [s][k]) := str_cell w s t
theorem str_cell2 (w : World) (s1 s2 : ByteArray) (t : TypeId) : ∀ k (hk : k < [s1, s2].length), (w.alloc (.cells #[.string s1, .string s2] t)).cell? ⟨w.heap.size, k, none⟩ = some (.string [s1, s2][k]) := by
 intro k hk
 match k, hk with
 | 0, _ => exact (heap_cell (heap_alloc_new w _) 0).1
 | 1, _ => exact (heap_cell (heap_alloc_new w _) 1).1
set_option maxRecDepth 100000 in
set_option maxHeartbeats 8000000 in
theorem or1_clo {K B o : Nat} {m : List Lx → Rs Cd} (hC : CC K B o m) (n c1 C : Nat) (A : List Value → Array Value) (hA7 : ∀ x u, (A [x]).setIfInBounds 7 u = A [u]) (hj7 : ∀ x, (A [x])[7]? = some x) (hCK : K ≤ C) :
  Clo K B o QG (OJ n B c1 C A) 151 #[.pointer (some ⟨C, 0, none⟩), .pointer (some ⟨c1, 0, none⟩)] (fun s r => (condsM m [⟨#[111, 114]⟩] r).bd fun l r => orL m r.length (s ++ [l]) r) := by
 refine ⟨run_or1 _, ?_⟩
 rintro P s r w hP hg ⟨h1, h2, h3, h5⟩ h
 show Calls _ _ _ _ (CPost K B o r.length P w _ _ ((condsM m [⟨#[111, 114]⟩] r).bd fun l r => orL m r.length (s ++ [l]) r))
 have hBw : B < w.heap.size := by have := h.size; omega
 have HT0 := fun w' (h : PAt K w' B r o) (hg : w.heap.size < w'.heap.size) (hc : ∀ k (hk : k < [⟨#[111, 114]⟩].length), w'.cell? ⟨w.heap.size, k, none⟩ = some (.string [⟨#[111, 114]⟩][k])) => Hid.intro (conds_any hC [⟨#[111, 114]⟩] (by simp) h w.heap.size 1 hc hg (by omega))
 have HT2 := fun (wc : World) (hwc : w.heap.size ≤ wc.heap.size) r w' (h : PAt K w' B r o) (hg : wc.heap.size < w'.heap.size) (hc : ∀ k (hk : k < [⟨#[111, 114]⟩, ⟨#[41]⟩].length), w'.cell? ⟨wc.heap.size, k, none⟩ = some (.string [⟨#[111, 114]⟩, ⟨#[41]⟩][k])) => Hid.intro (conds_any hC [⟨#[111, 114]⟩, ⟨#[41]⟩] (by simp) h wc.heap.size 2 hc hg (by omega))
 have HYes := fun r w (h : PAt K w B r o) hs => Hid.intro (skip_yes (s := ⟨#[111, 114]⟩) h hs)
 have HNo := fun r w (h : PAt K w B r o) hs => Hid.intro (skip_no (s := ⟨#[111, 114]⟩) h hs)
 have hmo : Tryz.prog.follows .mixedOrders = true := by kernel_rfl
 obtain ⟨x, r0, hr0, -⟩ := gd_cons h.gd
 have hrl : 0 < r.length := by rw [hr0]; simp
 clear hr0
 unfold QG at hg
 have hsz := h.size
 obtain ⟨i0, hi, hz0, hz1, hz2⟩ := info_parts infoConds'
 have d1 := h1.2.2.1
 have HP := Hid.intro h
 have HX := Hid.intro h1
 have HK := Hid.intro hP
 have HJ0 := Hid.intro (show OJ n B c1 C A s w P from ⟨h1, h2, h3, h5⟩)
 obtain ⟨hBC, hCn, hnw, vs, he, zrows, hpa⟩ := h5
 obtain ⟨v1, rfl⟩ : ∃ x, vs = [x] := by have := zrows.1; simp only [orR, List.length_cons, List.length_nil] at this; match vs, this with | [x], _ => exact ⟨x, rfl⟩
 obtain ⟨p0, c0, xs0, hv0, -, -⟩ := zrows.2.2 0 _ _ rfl rfl
 dsimp only at hv0
 subst hv0
 have e0 : w.cell? ⟨C, 7, none⟩ = some (.slice p0 s.length c0) := by rw [(heap_cell he 7).1]; exact hj7 _
 have hEw : C < w.heap.size := by omega
 clear h1 h
 cases hm : condsM m [⟨#[111, 114]⟩] r with
 | bad q =>
  rw [hm] at HT0
  rw [bd_bad]
  clear hm
  go_enter Tryz.func151, Tryz.ntmps151
  go_wp2_with fail
  refine wp_region_held_drew (S := fun w' => w'.cell? ⟨c1, 0, none⟩ = some (.pointer (some ⟨B, 0, none⟩))) hmo d1 (fun hS => ?_)
  refine tq 0 2 (.pointer (some ⟨C, 7, none⟩)) hS ?_
  simp only [n3]
  refine tq 2 4 (.pointer (some ⟨B, 0, none⟩)) hS ?_
  simp only [n3]
  refine on2 1 3 rfl (fun K' hK => ?_) rfl (fun K' hK => ?_)
  ·go_simp
   refine hK.out _ _ ((by first | exact hS | exact (hx4.bt ((Bt.refl B w4).alloc _)).2.2.1 | exact hx4.2.2.1 | exact (HX.out.bt ((Bt.refl B _).drew.alloc _)).2.2.1 | exact (HX.out.bt (((Bt.refl B _).alloc _).drew)).2.2.1)) (fun hS => ?_)
   clear hK K'
   (try simp only [Act.put, n3])
   refine on1 3 rfl (fun K' hK => ?_)
   go_simp
   go_wp2_with fail
   refine hK.out _ _ ((by first | exact hS | exact (hx4.bt ((Bt.refl B w4).alloc _)).2.2.1 | exact hx4.2.2.1 | exact (HX.out.bt ((Bt.refl B _).drew.alloc _)).2.2.1 | exact (HX.out.bt (((Bt.refl B _).alloc _).drew)).2.2.1)) (fun hS => ?_)
   clear hK K'
   (try simp only [Act.put, n3])
   refine on1 4 rfl (fun K' hK => ?_)
   go_simp
   refine (HT0 _ (by first | exact HP.out.via (below_al (Below.refl _ _).drew _) | exact HP.out.via (below_al (Below.refl _ _) _).drew) (by simp) (by first | exact str_cell1 _ _ _ | exact str_cell1 _ _ _ _)).out.mono ?_
   rintro e w4 ⟨hb4, rfl⟩
   have hbt4 : Bt B w w4 := Bt.trans (by first | exact (Bt.refl B _).drew | exact (Bt.refl B _).drew.alloc _ | exact ((Bt.refl B _).alloc _).drew) hb4
   exact ⟨rfl, hbt4.fr HK.out, rfl⟩
  ·go_simp
   go_wp2_with fail
   refine hK.out _ _ ((by first | exact hS | exact (hx4.bt ((Bt.refl B w4).alloc _)).2.2.1 | exact hx4.2.2.1 | exact (HX.out.bt ((Bt.refl B _).drew.alloc _)).2.2.1 | exact (HX.out.bt (((Bt.refl B _).alloc _).drew)).2.2.1)) (fun hS => ?_)
   clear hK K'
   (try simp only [Act.put, n3])
   refine on2 1 4 rfl (fun K' hK => ?_) rfl (fun K' hK => ?_)
   ·go_simp
    refine hK.out _ _ ((by first | exact hS | exact (hx4.bt ((Bt.refl B w4).alloc _)).2.2.1 | exact hx4.2.2.1 | exact (HX.out.bt ((Bt.refl B _).drew.alloc _)).2.2.1 | exact (HX.out.bt (((Bt.refl B _).alloc _).drew)).2.2.1)) (fun hS => ?_)
    clear hK K'
    (try simp only [Act.put, n3])
    refine on1 4 rfl (fun K' hK => ?_)
    go_simp
    refine (HT0 _ (by first | exact HP.out.via (below_al (Below.refl _ _).drew _) | exact HP.out.via (below_al (Below.refl _ _) _).drew) (by simp) (by first | exact str_cell1 _ _ _ | exact str_cell1 _ _ _ _)).out.mono ?_
    rintro e w4 ⟨hb4, rfl⟩
    have hbt4 : Bt B w w4 := Bt.trans (by first | exact (Bt.refl B _).drew | exact (Bt.refl B _).drew.alloc _ | exact ((Bt.refl B _).alloc _).drew) hb4
    exact ⟨rfl, hbt4.fr HK.out, rfl⟩
   ·go_simp
    refine (HT0 _ (by first | exact HP.out.via (below_al (Below.refl _ _).drew _) | exact HP.out.via (below_al (Below.refl _ _) _).drew) (by simp) (by first | exact str_cell1 _ _ _ | exact str_cell1 _ _ _ _)).out.mono ?_
    rintro e w4 ⟨hb4, rfl⟩
    have hbt4 : Bt B w w4 := Bt.trans (by first | exact (Bt.refl B _).drew | exact (Bt.refl B _).drew.alloc _ | exact ((Bt.refl B _).alloc _).drew) hb4
    exact ⟨rfl, hbt4.fr HK.out, rfl⟩
 | ok t r1 =>
  rw [hm] at HT0
  rw [bd_ok]
  clear hm
  go_enter Tryz.func151, Tryz.ntmps151
  go_wp2_with fail
  refine wp_region_held_drew (S := fun w' => w'.cell? ⟨c1, 0, none⟩ = some (.pointer (some ⟨B, 0, none⟩))) hmo d1 (fun hS => ?_)
  refine tq 0 2 (.pointer (some ⟨C, 7, none⟩)) hS ?_
  simp only [n3]
  refine tq 2 4 (.pointer (some ⟨B, 0, none⟩)) hS ?_
  simp only [n3]
  refine share (fun z W us => Fr P w W ∧ PAt K W B r1 o ∧ RowsAt n (orR s) [(.slice p0 s.length c0)] W ∧ W.heap[C]? = some (.cells (A [(.slice p0 s.length c0)]) 96 (0, 0)) ∧ us.length = 1 ∧ (∀ u ∈ us, u.oneCell' = true) ∧ reps (offR n [(.slice p0 s.length c0)]) W [.sl t.length (Cd.css t)] us ∧ W.heap[z]? = some (.cells us.toArray 48 (0, 0)) ∧ w.heap.size ≤ W.heap.size ∧ r1.length ≤ r.length - 1 ∧ Bx B c1 (.pointer (some ⟨B, 0, none⟩)) W) 3 #[true, true, true, true, true, true, false, false, false] (fun z us => [(3, .slice p0 s.length c0), (5, .slice (some ⟨w.heap.size, 0, none⟩) 1 1), (6, us.headD undef), (7, .slice (some ⟨z, 0, none⟩) 1 1)]) ?_ (fun HT5 => ?_)
  ·rintro z W us ⟨zf, zp, zr, zh, zl, zo, zu, zz, zs, zlf, zx⟩
   simp only [putL, List.foldl, Act.put, List.setIfInBounds_toArray, List.set_cons_succ, List.set_cons_zero]
   obtain ⟨pq, cq, xs, hveq, hown, hxs⟩ := zr.2.2 0 _ _ rfl rfl
   dsimp only at hveq hown hxs
   clear hveq
   have hCW : C < W.heap.size := by omega
   have hKn := HK.out.up zs
   refine on1 6 rfl (fun K' hK => ?_)
   rw [if_pos (by rfl)]
   refine wp_append_own _ _ 93 rfl n 48 i0 _ 1 24 Tryz.underlying93 hi hz0 hz1 hz2 rfl (by decide) _ _ _ rfl hown ⟨z, 0, none⟩ 1 1 us rfl (by rw [zl]) (fun j u hj => by rw [addr_add, Nat.zero_add, (heap_cell zz j).1, ← hj]; simp) zo (by unfold maxLen; omega) (by omega) (by omega) (fun sv' w5 hown5 hgr5 hat5 => ?_)
   obtain ⟨g5, k5, rfl⟩ := ownsRow_succ hown5
   have hch5 : Chg C _ W w5 := Chg.of hgr5
   have e5 : w5.heap[C]? = some (.cells (A [(.slice p0 s.length c0)]) 96 (0, 0)) := (hgr5.block C hCW (own_below hown (.inl hCn))).trans zh
   have c5 : w5.cell? ⟨C, 7, none⟩ = some (.slice p0 s.length c0) := by rw [(heap_cell e5 7).1]; exact hj7 _
   have f5 : w5.frozen? ⟨C, 7, none⟩ = false := (heap_cell e5 7).2
   have hKg : ∀ g, (Value.slice p0 s.length c0).ownBlock = some g → K ≤ g := fun g hg => by have := (hown.lt g hg).1; omega
   have hx5 := zx.chg hch5 h3 (own_below hown (.inl h2))
   refine hK.out _ _ (hx5.2.2.1) (fun hS => ?_)
   clear hK K'
   (try simp only [Act.put, n3])
   refine tq 7 9 (.pointer (some ⟨C, 7, none⟩)) hS ?_
   simp only [n3]
   refine on1 8 rfl (fun K' hK => ?_)
   go_simp
   go_wp2_with fail
   have hch6 := hch5.set (p := ⟨C, 7, none⟩) (.inl rfl) (.slice (some ⟨g5, 0, none⟩) (s.length + 1) k5)
   have hx6 := zx.chg hch6 h3 (own_below hown (.inl h2))
   refine hK.out _ _ (hx6.2.2.1) (fun hS => ?_)
   clear hK K'
   (try simp only [n3])
   obtain ⟨hJ6, hF6⟩ := JR.push (A := A) (T := 96) hBC hCn (by omega) zr hpa hKn 0 rfl rfl hxs zu rfl (own_setC 7 hown5 hCn _) hch6 hat5 (by rw [heap_put e5, hA7]; rfl)
   have hp6 := zp.chg hch6 hCK hKg
   refine wpAnyH_done (by kernel_rfl) ?_ _
   have hK6 := Hid.intro (HK.out.up (Nat.le_trans zs hF6.size))
   have HF6 := Hid.intro (zf.trans hF6)
   have hJ6' := Hid.intro (show OJ n B c1 C A (s ++ [t]) _ P from ⟨hx6, h2, h3, by simpa [orR, Rd.up, csss_snoc] using hJ6⟩)
   have HP6 := Hid.intro hp6
   generalize w5.setCell ⟨C, 7, none⟩ (.slice (some ⟨g5, 0, none⟩) (s.length + 1) k5) = w6 at HF6 hJ6' HP6 hK6 ⊢
   clear hx6 hJ6 hF6 hp6 hch6 hown5 hgr5 hat5 e5 c5 f5 hx5 hch5 HT0 zf zp zr zh zl zo zu zz hown hxs HJ0 HX zrows he hKn HP
   go_wp2_with fail
   go_loopw [10] (fun _ w' => ∃ l r' f, Hid (Fr P w w') ∧ Hid (OJ n B c1 C A l w' P) ∧ Hid (PAt K w' B r' o) ∧ l.length + r'.length ≤ 10000 ∧ r'.length ≤ r.length - 1 ∧ r'.length ≤ f ∧ Hid (orL m f l r' = orL m r1.length (s ++ [t]) r1)) (fun _ w' => rlen B w')
   case atStart => exact ⟨s ++ [t], r1, r1.length, HF6, hJ6', HP6, by simp; omega, zlf, Nat.le_refl _, Hid.intro rfl⟩
   case round =>
    clear HF6 hJ6' HP6
    obtain ⟨l, r', f, HF, HJ, HQ, hll, hl', hlf, HE⟩ := hrel
    obtain ⟨x, r0, hr', -⟩ := gd_cons HQ.out.gd
    have hlr : 0 < r'.length := by rw [hr']; simp
    clear hr'
    obtain ⟨f, rfl⟩ : ∃ f', f = f' + 1 := ⟨f - 1, by omega⟩
    have HKr := Hid.intro (HK.out.up HF.out.size)
    have hrlen := HQ.out.rlen
    have hx0 := HJ.out.1.2.2.1
    have hln : l.length ≤ 10000 := by omega
    cases k0 : isM ⟨#[111, 114]⟩ r' with
    | false =>
     have HNo := HNo r' wr HQ.out k0
     have HE : Hid (Rs.ok l r' = orL m r1.length (s ++ [t]) r1) := by
      have := HE.out
      rw [orL, if_neg (by simp [k0])] at this
      exact this
     clear k0 HYes
     go_wp2_with fail
     refine HNo.out.mono ?_
     rintro e w7 ⟨rfl, hb7⟩
     go_wp2_with fail
     go_end0
     rw [← HE.out]
     exact ⟨HF.out.trans ((Bt.below hb7).fr HKr.out), rfl, by unfold QG; omega, OJ.stb _ _ _ _ _ _ _ _ _ _ HJ.out (Bt.below hb7) (fun _ h => .inl h), HQ.out.via hb7, by omega⟩
    | true =>
     have HYes := HYes r' wr HQ.out k0
     have HE : Hid ((condsM m [⟨#[111, 114]⟩, ⟨#[41]⟩] r'.tail).bd (fun c r => orL m f (l ++ [c]) r) = orL m r1.length (s ++ [t]) r1) := by
      have := HE.out
      rw [orL, if_pos k0] at this
      exact this
     clear k0 HNo
     cases hm2 : condsM m [⟨#[111, 114]⟩, ⟨#[41]⟩] r'.tail with
     | bad q =>
      rw [hm2, bd_bad] at HE
      go_wp2_with fail
      refine HYes.out.mono ?_
      rintro e wc ⟨rfl, hb7, hp7⟩
      have HP := Hid.intro hp7
      have HFc := Hid.intro (HF.out.trans (hb7.fr HKr.out))
      have HJc := Hid.intro (OJ.stb _ _ _ _ _ _ _ _ _ P HJ.out hb7 (fun _ h => .inl h))
      have HKc := Hid.intro (HK.out.up HFc.out.size)
      have HX := Hid.intro HJc.out.1
      have d1 := HX.out.2.2.1
      obtain ⟨hBC, hCn, hnw, vs, he, zrows, hpa⟩ := HJc.out.2.2.2
      obtain ⟨v1, rfl⟩ : ∃ x, vs = [x] := by have := zrows.1; simp only [orR, List.length_cons, List.length_nil] at this; match vs, this with | [x], _ => exact ⟨x, rfl⟩
      obtain ⟨p0, c0, xs0, hv0, -, -⟩ := zrows.2.2 0 _ _ rfl rfl
      dsimp only at hv0
      subst hv0
      have e0 : wc.cell? ⟨C, 7, none⟩ = some (.slice p0 l.length c0) := by rw [(heap_cell he 7).1]; exact hj7 _
      have hEw : C < wc.heap.size := by omega
      have HT2 := HT2 wc HFc.out.size r'.tail
      rw [hm2] at HT2
      clear hm2
      (try simp only [List.length_tail] at HT2)
      go_wp2_with fail
      refine wp_region_held_drew (S := fun w' => w'.cell? ⟨c1, 0, none⟩ = some (.pointer (some ⟨B, 0, none⟩))) hmo d1 (fun hS => ?_)
      refine tq 0 12 (.pointer (some ⟨C, 7, none⟩)) hS ?_
      simp only [n3]
      refine tq 2 14 (.pointer (some ⟨B, 0, none⟩)) hS ?_
      simp only [n3]
      refine on2 1 3 rfl (fun K' hK => ?_) rfl (fun K' hK => ?_)
      ·go_simp
       refine hK.out _ _ ((by first | exact hS | exact (hx4.bt ((Bt.refl B w4).alloc _)).2.2.1 | exact hx4.2.2.1 | exact (HX.out.bt ((Bt.refl B _).drew.alloc _)).2.2.1 | exact (HX.out.bt (((Bt.refl B _).alloc _).drew)).2.2.1)) (fun hS => ?_)
       clear hK K'
       (try simp only [Act.put, n3])
       refine on1 3 rfl (fun K' hK => ?_)
       go_simp
       go_wp2_with fail
       refine hK.out _ _ ((by first | exact hS | exact (hx4.bt ((Bt.refl B w4).alloc _)).2.2.1 | exact hx4.2.2.1 | exact (HX.out.bt ((Bt.refl B _).drew.alloc _)).2.2.1 | exact (HX.out.bt (((Bt.refl B _).alloc _).drew)).2.2.1)) (fun hS => ?_)
       clear hK K'
       (try simp only [Act.put, n3])
       refine on1 4 rfl (fun K' hK => ?_)
       go_simp
       refine (HT2 _ (by first | exact HP.out.via (below_al (Below.refl _ _).drew _) | exact HP.out.via (below_al (Below.refl _ _) _).drew) (by simp) (by first | exact str_cell2 _ _ _ | exact str_cell2 _ _ _ _)).out.mono ?_
       rintro e w4 ⟨hb4, rfl⟩
       have hbt4 : Bt B wc w4 := Bt.trans (by first | exact (Bt.refl B _).drew | exact (Bt.refl B _).drew.alloc _ | exact ((Bt.refl B _).alloc _).drew) hb4
       refine ⟨rfl, HFc.out.trans (hbt4.fr HKc.out), ?_⟩
       rw [← HE.out]
      ·go_simp
       go_wp2_with fail
       refine hK.out _ _ ((by first | exact hS | exact (hx4.bt ((Bt.refl B w4).alloc _)).2.2.1 | exact hx4.2.2.1 | exact (HX.out.bt ((Bt.refl B _).drew.alloc _)).2.2.1 | exact (HX.out.bt (((Bt.refl B _).alloc _).drew)).2.2.1)) (fun hS => ?_)
       clear hK K'
       (try simp only [Act.put, n3])
       refine on2 1 4 rfl (fun K' hK => ?_) rfl (fun K' hK => ?_)
       ·go_simp
        refine hK.out _ _ ((by first | exact hS | exact (hx4.bt ((Bt.refl B w4).alloc _)).2.2.1 | exact hx4.2.2.1 | exact (HX.out.bt ((Bt.refl B _).drew.alloc _)).2.2.1 | exact (HX.out.bt (((Bt.refl B _).alloc _).drew)).2.2.1)) (fun hS => ?_)
        clear hK K'
        (try simp only [Act.put, n3])
        refine on1 4 rfl (fun K' hK => ?_)
        go_simp
        refine (HT2 _ (by first | exact HP.out.via (below_al (Below.refl _ _).drew _) | exact HP.out.via (below_al (Below.refl _ _) _).drew) (by simp) (by first | exact str_cell2 _ _ _ | exact str_cell2 _ _ _ _)).out.mono ?_
        rintro e w4 ⟨hb4, rfl⟩
        have hbt4 : Bt B wc w4 := Bt.trans (by first | exact (Bt.refl B _).drew | exact (Bt.refl B _).drew.alloc _ | exact ((Bt.refl B _).alloc _).drew) hb4
        refine ⟨rfl, HFc.out.trans (hbt4.fr HKc.out), ?_⟩
        rw [← HE.out]
       ·go_simp
        refine (HT2 _ (by first | exact HP.out.via (below_al (Below.refl _ _).drew _) | exact HP.out.via (below_al (Below.refl _ _) _).drew) (by simp) (by first | exact str_cell2 _ _ _ | exact str_cell2 _ _ _ _)).out.mono ?_
        rintro e w4 ⟨hb4, rfl⟩
        have hbt4 : Bt B wc w4 := Bt.trans (by first | exact (Bt.refl B _).drew | exact (Bt.refl B _).drew.alloc _ | exact ((Bt.refl B _).alloc _).drew) hb4
        refine ⟨rfl, HFc.out.trans (hbt4.fr HKc.out), ?_⟩
        rw [← HE.out]
     | ok t2 r2 =>
      rw [hm2, bd_ok] at HE
      go_wp2_with fail
      refine HYes.out.mono ?_
      rintro e wc ⟨rfl, hb7, hp7⟩
      have HP := Hid.intro hp7
      have HFc := Hid.intro (HF.out.trans (hb7.fr HKr.out))
      have HJc := Hid.intro (OJ.stb _ _ _ _ _ _ _ _ _ P HJ.out hb7 (fun _ h => .inl h))
      have HKc := Hid.intro (HK.out.up HFc.out.size)
      have HX := Hid.intro HJc.out.1
      have d1 := HX.out.2.2.1
      obtain ⟨hBC, hCn, hnw, vs, he, zrows, hpa⟩ := HJc.out.2.2.2
      obtain ⟨v1, rfl⟩ : ∃ x, vs = [x] := by have := zrows.1; simp only [orR, List.length_cons, List.length_nil] at this; match vs, this with | [x], _ => exact ⟨x, rfl⟩
      obtain ⟨p0, c0, xs0, hv0, -, -⟩ := zrows.2.2 0 _ _ rfl rfl
      dsimp only at hv0
      subst hv0
      have e0 : wc.cell? ⟨C, 7, none⟩ = some (.slice p0 l.length c0) := by rw [(heap_cell he 7).1]; exact hj7 _
      have hEw : C < wc.heap.size := by omega
      have HT2 := HT2 wc HFc.out.size r'.tail
      rw [hm2] at HT2
      clear hm2
      (try simp only [List.length_tail] at HT2)
      go_wp2_with fail
      refine wp_region_held_drew (S := fun w' => w'.cell? ⟨c1, 0, none⟩ = some (.pointer (some ⟨B, 0, none⟩))) hmo d1 (fun hS => ?_)
      refine tq 0 12 (.pointer (some ⟨C, 7, none⟩)) hS ?_
      simp only [n3]
      refine tq 2 14 (.pointer (some ⟨B, 0, none⟩)) hS ?_
      simp only [n3]
      refine share (fun z W us => Fr P wc W ∧ PAt K W B r2 o ∧ RowsAt n (orR l) [(.slice p0 l.length c0)] W ∧ W.heap[C]? = some (.cells (A [(.slice p0 l.length c0)]) 96 (0, 0)) ∧ us.length = 1 ∧ (∀ u ∈ us, u.oneCell' = true) ∧ reps (offR n [(.slice p0 l.length c0)]) W [.sl t2.length (Cd.css t2)] us ∧ W.heap[z]? = some (.cells us.toArray 48 (0, 0)) ∧ wc.heap.size ≤ W.heap.size ∧ r2.length ≤ r'.length - 1 - 1 ∧ Bx B c1 (.pointer (some ⟨B, 0, none⟩)) W) 3 #[true, true, true, true, true, true, false, false, false] (fun z us => [(13, .slice p0 l.length c0), (15, .slice (some ⟨wc.heap.size, 0, none⟩) 2 2), (16, us.headD undef), (17, .slice (some ⟨z, 0, none⟩) 1 1)]) ?_ (fun HT5 => ?_)
      ·rintro z W us ⟨zf, zp, zr, zh, zl, zo, zu, zz, zs, zlf, zx⟩
       simp only [putL, List.foldl, Act.put, List.setIfInBounds_toArray, List.set_cons_succ, List.set_cons_zero]
       obtain ⟨pq, cq, xs, hveq, hown, hxs⟩ := zr.2.2 0 _ _ rfl rfl
       dsimp only at hveq hown hxs
       clear hveq
       have hCW : C < W.heap.size := by omega
       have hKn := HKc.out.up zs
       refine on1 6 rfl (fun K' hK => ?_)
       rw [if_pos (by rfl)]
       refine wp_append_own _ _ 93 rfl n 48 i0 _ 1 24 Tryz.underlying93 hi hz0 hz1 hz2 rfl (by decide) _ _ _ rfl hown ⟨z, 0, none⟩ 1 1 us rfl (by rw [zl]) (fun j u hj => by rw [addr_add, Nat.zero_add, (heap_cell zz j).1, ← hj]; simp) zo (by unfold maxLen; omega) (by omega) (by omega) (fun sv' w5 hown5 hgr5 hat5 => ?_)
       obtain ⟨g5, k5, rfl⟩ := ownsRow_succ hown5
       have hch5 : Chg C _ W w5 := Chg.of hgr5
       have e5 : w5.heap[C]? = some (.cells (A [(.slice p0 l.length c0)]) 96 (0, 0)) := (hgr5.block C hCW (own_below hown (.inl hCn))).trans zh
       have c5 : w5.cell? ⟨C, 7, none⟩ = some (.slice p0 l.length c0) := by rw [(heap_cell e5 7).1]; exact hj7 _
       have f5 : w5.frozen? ⟨C, 7, none⟩ = false := (heap_cell e5 7).2
       have hKg : ∀ g, (Value.slice p0 l.length c0).ownBlock = some g → K ≤ g := fun g hg => by have := (hown.lt g hg).1; omega
       have hx5 := zx.chg hch5 h3 (own_below hown (.inl h2))
       refine hK.out _ _ (hx5.2.2.1) (fun hS => ?_)
       clear hK K'
       (try simp only [Act.put, n3])
       refine tq 7 19 (.pointer (some ⟨C, 7, none⟩)) hS ?_
       simp only [n3]
       refine on1 8 rfl (fun K' hK => ?_)
       go_simp
       go_wp2_with fail
       have hch6 := hch5.set (p := ⟨C, 7, none⟩) (.inl rfl) (.slice (some ⟨g5, 0, none⟩) (l.length + 1) k5)
       have hx6 := zx.chg hch6 h3 (own_below hown (.inl h2))
       refine hK.out _ _ (hx6.2.2.1) (fun hS => ?_)
       clear hK K'
       (try simp only [n3])
       obtain ⟨hJ6, hF6⟩ := JR.push (A := A) (T := 96) hBC hCn (by omega) zr hpa hKn 0 rfl rfl hxs zu rfl (own_setC 7 hown5 hCn _) hch6 hat5 (by rw [heap_put e5, hA7]; rfl)
       have hp6 := zp.chg hch6 hCK hKg
       refine wpAnyH_done (by kernel_rfl) ?_ _
       have hr5 := hp6.rlen
       go_wp2_with fail
       go_roundw
       case rel => exact ⟨l ++ [t2], r2, f, Hid.intro ((HFc.out.trans zf).trans hF6), Hid.intro ⟨hx6, h2, h3, by simpa [orR, Rd.up, csss_snoc] using hJ6⟩, Hid.intro hp6, by simp; omega, by omega, by omega, HE⟩
       case measure => omega
      ·(try simp only [putL, List.foldl, Act.put, List.setIfInBounds_toArray, List.set_cons_succ, List.set_cons_zero] at HT5)
       refine on2 1 3 rfl (fun K' hK => ?_) rfl (fun K' hK => ?_)
       ·go_simp
        refine hK.out _ _ ((by first | exact hS | exact (hx4.bt ((Bt.refl B w4).alloc _)).2.2.1 | exact hx4.2.2.1 | exact (HX.out.bt ((Bt.refl B _).drew.alloc _)).2.2.1 | exact (HX.out.bt (((Bt.refl B _).alloc _).drew)).2.2.1)) (fun hS => ?_)
        clear hK K'
        (try simp only [Act.put, n3])
        refine on1 3 rfl (fun K' hK => ?_)
        go_simp
        go_wp2_with fail
        refine hK.out _ _ ((by first | exact hS | exact (hx4.bt ((Bt.refl B w4).alloc _)).2.2.1 | exact hx4.2.2.1 | exact (HX.out.bt ((Bt.refl B _).drew.alloc _)).2.2.1 | exact (HX.out.bt (((Bt.refl B _).alloc _).drew)).2.2.1)) (fun hS => ?_)
        clear hK K'
        (try simp only [Act.put, n3])
        refine on1 4 rfl (fun K' hK => ?_)
        go_simp
        refine (HT2 _ (by first | exact HP.out.via (below_al (Below.refl _ _).drew _) | exact HP.out.via (below_al (Below.refl _ _) _).drew) (by simp) (by first | exact str_cell2 _ _ _ | exact str_cell2 _ _ _ _)).out.mono ?_
        rintro e w4 ⟨hb4, hl4, hp4, v4, rfl, p5, c5, rfl, z5⟩
        have hbt4 : Bt B wc w4 := Bt.trans (by first | exact (Bt.refl B _).drew | exact (Bt.refl B _).drew.alloc _ | exact ((Bt.refl B _).alloc _).drew) hb4
        have hr4 := zrows.bt hbt4 (by omega)
        have hC4 := row_bt hbt4 (by omega) he
        have hs4 : wc.heap.size ≤ w4.heap.size := hbt4.size
        have hx4 := HX.out.bt hbt4
        go_wp2_with fail
        refine hK.out _ _ ((by first | exact hS | exact (hx4.bt ((Bt.refl B w4).alloc _)).2.2.1 | exact hx4.2.2.1 | exact (HX.out.bt ((Bt.refl B _).drew.alloc _)).2.2.1 | exact (HX.out.bt (((Bt.refl B _).alloc _).drew)).2.2.1)) (fun hS => ?_)
        clear hK K'
        (try simp only [Act.put, n3])
        refine on1 5 rfl (fun K' hK => ?_)
        go_simp
        go_wp2_with fail
        refine hK.out _ _ ((by first | exact hS | exact (hx4.bt ((Bt.refl B w4).alloc _)).2.2.1 | exact hx4.2.2.1 | exact (HX.out.bt ((Bt.refl B _).drew.alloc _)).2.2.1 | exact (HX.out.bt (((Bt.refl B _).alloc _).drew)).2.2.1)) (fun hS => ?_)
        clear hK K'
        (try simp only [Act.put, n3])
        have hbt5 : Bt B wc (w4.alloc (.cells #[.slice p5 t2.length c5] 48)) := hbt4.alloc _
        refine HT5 w4.heap.size (w4.alloc (.cells #[.slice p5 t2.length c5] 48)) [.slice p5 t2.length c5] ⟨hbt5.fr HKc.out, hp4.via (below_al (Below.refl _ _) _), zrows.bt hbt5 (by omega), row_bt hbt5 (by omega) he, rfl, (by simp [Value.oneCell']), reps.move (Kp.alloc _ _) (fun b _ h => zrows.off hnw b (by first | exact h | exact Nat.le_trans (by simp) h)) _ _ (reps.cons z5 reps.nil), heap_alloc_new w4 _, hbt5.size, hl4, HX.out.bt hbt5⟩
       ·go_simp
        go_wp2_with fail
        refine hK.out _ _ ((by first | exact hS | exact (hx4.bt ((Bt.refl B w4).alloc _)).2.2.1 | exact hx4.2.2.1 | exact (HX.out.bt ((Bt.refl B _).drew.alloc _)).2.2.1 | exact (HX.out.bt (((Bt.refl B _).alloc _).drew)).2.2.1)) (fun hS => ?_)
        clear hK K'
        (try simp only [Act.put, n3])
        refine on2 1 4 rfl (fun K' hK => ?_) rfl (fun K' hK => ?_)
        ·go_simp
         refine hK.out _ _ ((by first | exact hS | exact (hx4.bt ((Bt.refl B w4).alloc _)).2.2.1 | exact hx4.2.2.1 | exact (HX.out.bt ((Bt.refl B _).drew.alloc _)).2.2.1 | exact (HX.out.bt (((Bt.refl B _).alloc _).drew)).2.2.1)) (fun hS => ?_)
         clear hK K'
         (try simp only [Act.put, n3])
         refine on1 4 rfl (fun K' hK => ?_)
         go_simp
         refine (HT2 _ (by first | exact HP.out.via (below_al (Below.refl _ _).drew _) | exact HP.out.via (below_al (Below.refl _ _) _).drew) (by simp) (by first | exact str_cell2 _ _ _ | exact str_cell2 _ _ _ _)).out.mono ?_
         rintro e w4 ⟨hb4, hl4, hp4, v4, rfl, p5, c5, rfl, z5⟩
         have hbt4 : Bt B wc w4 := Bt.trans (by first | exact (Bt.refl B _).drew | exact (Bt.refl B _).drew.alloc _ | exact ((Bt.refl B _).alloc _).drew) hb4
         have hr4 := zrows.bt hbt4 (by omega)
         have hC4 := row_bt hbt4 (by omega) he
         have hs4 : wc.heap.size ≤ w4.heap.size := hbt4.size
         have hx4 := HX.out.bt hbt4
         go_wp2_with fail
         refine hK.out _ _ ((by first | exact hS | exact (hx4.bt ((Bt.refl B w4).alloc _)).2.2.1 | exact hx4.2.2.1 | exact (HX.out.bt ((Bt.refl B _).drew.alloc _)).2.2.1 | exact (HX.out.bt (((Bt.refl B _).alloc _).drew)).2.2.1)) (fun hS => ?_)
         clear hK K'
         (try simp only [Act.put, n3])
         refine on1 5 rfl (fun K' hK => ?_)
         go_simp
         go_wp2_with fail
         refine hK.out _ _ ((by first | exact hS | exact (hx4.bt ((Bt.refl B w4).alloc _)).2.2.1 | exact hx4.2.2.1 | exact (HX.out.bt ((Bt.refl B _).drew.alloc _)).2.2.1 | exact (HX.out.bt (((Bt.refl B _).alloc _).drew)).2.2.1)) (fun hS => ?_)
         clear hK K'
         (try simp only [Act.put, n3])
         have hbt5 : Bt B wc (w4.alloc (.cells #[.slice p5 t2.length c5] 48)) := hbt4.alloc _
         refine HT5 w4.heap.size (w4.alloc (.cells #[.slice p5 t2.length c5] 48)) [.slice p5 t2.length c5] ⟨hbt5.fr HKc.out, hp4.via (below_al (Below.refl _ _) _), zrows.bt hbt5 (by omega), row_bt hbt5 (by omega) he, rfl, (by simp [Value.oneCell']), reps.move (Kp.alloc _ _) (fun b _ h => zrows.off hnw b (by first | exact h | exact Nat.le_trans (by simp) h)) _ _ (reps.cons z5 reps.nil), heap_alloc_new w4 _, hbt5.size, hl4, HX.out.bt hbt5⟩
        ·go_simp
         refine (HT2 _ (by first | exact HP.out.via (below_al (Below.refl _ _).drew _) | exact HP.out.via (below_al (Below.refl _ _) _).drew) (by simp) (by first | exact str_cell2 _ _ _ | exact str_cell2 _ _ _ _)).out.mono ?_
         rintro e w4 ⟨hb4, hl4, hp4, v4, rfl, p5, c5, rfl, z5⟩
         have hbt4 : Bt B wc w4 := Bt.trans (by first | exact (Bt.refl B _).drew | exact (Bt.refl B _).drew.alloc _ | exact ((Bt.refl B _).alloc _).drew) hb4
         have hr4 := zrows.bt hbt4 (by omega)
         have hC4 := row_bt hbt4 (by omega) he
         have hs4 : wc.heap.size ≤ w4.heap.size := hbt4.size
         have hx4 := HX.out.bt hbt4
         go_wp2_with fail
         refine hK.out _ _ ((by first | exact hS | exact (hx4.bt ((Bt.refl B w4).alloc _)).2.2.1 | exact hx4.2.2.1 | exact (HX.out.bt ((Bt.refl B _).drew.alloc _)).2.2.1 | exact (HX.out.bt (((Bt.refl B _).alloc _).drew)).2.2.1)) (fun hS => ?_)
         clear hK K'
         (try simp only [Act.put, n3])
         refine on2 1 5 rfl (fun K' hK => ?_) rfl (fun K' hK => ?_)
         ·have e04 : w4.cell? ⟨C, 7, none⟩ = some (.slice p0 l.length c0) := by rw [(heap_cell hC4 7).1]; exact hj7 _
          have hEw4 : C < w4.heap.size := by omega
          go_simp
          refine hK.out _ _ ((by first | exact hS | exact (hx4.bt ((Bt.refl B w4).alloc _)).2.2.1 | exact hx4.2.2.1 | exact (HX.out.bt ((Bt.refl B _).drew.alloc _)).2.2.1 | exact (HX.out.bt (((Bt.refl B _).alloc _).drew)).2.2.1)) (fun hS => ?_)
          clear hK K'
          (try simp only [Act.put, n3])
          refine on1 5 rfl (fun K' hK => ?_)
          go_simp
          go_wp2_with fail
          refine hK.out _ _ ((by first | exact hS | exact (hx4.bt ((Bt.refl B w4).alloc _)).2.2.1 | exact hx4.2.2.1 | exact (HX.out.bt ((Bt.refl B _).drew.alloc _)).2.2.1 | exact (HX.out.bt (((Bt.refl B _).alloc _).drew)).2.2.1)) (fun hS => ?_)
          clear hK K'
          (try simp only [Act.put, n3])
          have hbt5 : Bt B wc (w4.alloc (.cells #[.slice p5 t2.length c5] 48)) := hbt4.alloc _
          refine HT5 w4.heap.size (w4.alloc (.cells #[.slice p5 t2.length c5] 48)) [.slice p5 t2.length c5] ⟨hbt5.fr HKc.out, hp4.via (below_al (Below.refl _ _) _), zrows.bt hbt5 (by omega), row_bt hbt5 (by omega) he, rfl, (by simp [Value.oneCell']), reps.move (Kp.alloc _ _) (fun b _ h => zrows.off hnw b (by first | exact h | exact Nat.le_trans (by simp) h)) _ _ (reps.cons z5 reps.nil), heap_alloc_new w4 _, hbt5.size, hl4, HX.out.bt hbt5⟩
         ·go_simp
          go_wp2_with fail
          refine hK.out _ _ ((by first | exact hS | exact (hx4.bt ((Bt.refl B w4).alloc _)).2.2.1 | exact hx4.2.2.1 | exact (HX.out.bt ((Bt.refl B _).drew.alloc _)).2.2.1 | exact (HX.out.bt (((Bt.refl B _).alloc _).drew)).2.2.1)) (fun hS => ?_)
          clear hK K'
          (try simp only [Act.put, n3])
          refine on1 1 rfl (fun K' hK => ?_)
          have e04 : w4.cell? ⟨C, 7, none⟩ = some (.slice p0 l.length c0) := by rw [(heap_cell hC4 7).1]; exact hj7 _
          have hEw4 : C < w4.heap.size := by omega
          go_simp
          refine hK.out _ _ ((by first | exact hS | exact (hx4.bt ((Bt.refl B w4).alloc _)).2.2.1 | exact hx4.2.2.1 | exact (HX.out.bt ((Bt.refl B _).drew.alloc _)).2.2.1 | exact (HX.out.bt (((Bt.refl B _).alloc _).drew)).2.2.1)) (fun hS => ?_)
          clear hK K'
          (try simp only [Act.put, n3])
          have hbt5 : Bt B wc (w4.alloc (.cells #[.slice p5 t2.length c5] 48)) := hbt4.alloc _
          refine HT5 w4.heap.size (w4.alloc (.cells #[.slice p5 t2.length c5] 48)) [.slice p5 t2.length c5] ⟨hbt5.fr HKc.out, hp4.via (below_al (Below.refl _ _) _), zrows.bt hbt5 (by omega), row_bt hbt5 (by omega) he, rfl, (by simp [Value.oneCell']), reps.move (Kp.alloc _ _) (fun b _ h => zrows.off hnw b (by first | exact h | exact Nat.le_trans (by simp) h)) _ _ (reps.cons z5 reps.nil), heap_alloc_new w4 _, hbt5.size, hl4, HX.out.bt hbt5⟩
  ·(try simp only [putL, List.foldl, Act.put, List.setIfInBounds_toArray, List.set_cons_succ, List.set_cons_zero] at HT5)
   refine on2 1 3 rfl (fun K' hK => ?_) rfl (fun K' hK => ?_)
   ·go_simp
    refine hK.out _ _ ((by first | exact hS | exact (hx4.bt ((Bt.refl B w4).alloc _)).2.2.1 | exact hx4.2.2.1 | exact (HX.out.bt ((Bt.refl B _).drew.alloc _)).2.2.1 | exact (HX.out.bt (((Bt.refl B _).alloc _).drew)).2.2.1)) (fun hS => ?_)
    clear hK K'
    (try simp only [Act.put, n3])
    refine on1 3 rfl (fun K' hK => ?_)
    go_simp
    go_wp2_with fail
    refine hK.out _ _ ((by first | exact hS | exact (hx4.bt ((Bt.refl B w4).alloc _)).2.2.1 | exact hx4.2.2.1 | exact (HX.out.bt ((Bt.refl B _).drew.alloc _)).2.2.1 | exact (HX.out.bt (((Bt.refl B _).alloc _).drew)).2.2.1)) (fun hS => ?_)
    clear hK K'
    (try simp only [Act.put, n3])
    refine on1 4 rfl (fun K' hK => ?_)
    go_simp
    refine (HT0 _ (by first | exact HP.out.via (below_al (Below.refl _ _).drew _) | exact HP.out.via (below_al (Below.refl _ _) _).drew) (by simp) (by first | exact str_cell1 _ _ _ | exact str_cell1 _ _ _ _)).out.mono ?_
    rintro e w4 ⟨hb4, hl4, hp4, v4, rfl, p5, c5, rfl, z5⟩
    have hbt4 : Bt B w w4 := Bt.trans (by first | exact (Bt.refl B _).drew | exact (Bt.refl B _).drew.alloc _ | exact ((Bt.refl B _).alloc _).drew) hb4
    have hr4 := zrows.bt hbt4 (by omega)
    have hC4 := row_bt hbt4 (by omega) he
    have hs4 : w.heap.size ≤ w4.heap.size := hbt4.size
    have hx4 := HX.out.bt hbt4
    go_wp2_with fail
    refine hK.out _ _ ((by first | exact hS | exact (hx4.bt ((Bt.refl B w4).alloc _)).2.2.1 | exact hx4.2.2.1 | exact (HX.out.bt ((Bt.refl B _).drew.alloc _)).2.2.1 | exact (HX.out.bt (((Bt.refl B _).alloc _).drew)).2.2.1)) (fun hS => ?_)
    clear hK K'
    (try simp only [Act.put, n3])
    refine on1 5 rfl (fun K' hK => ?_)
    go_simp
    go_wp2_with fail
    refine hK.out _ _ ((by first | exact hS | exact (hx4.bt ((Bt.refl B w4).alloc _)).2.2.1 | exact hx4.2.2.1 | exact (HX.out.bt ((Bt.refl B _).drew.alloc _)).2.2.1 | exact (HX.out.bt (((Bt.refl B _).alloc _).drew)).2.2.1)) (fun hS => ?_)
    clear hK K'
    (try simp only [Act.put, n3])
    have hbt5 : Bt B w (w4.alloc (.cells #[.slice p5 t.length c5] 48)) := hbt4.alloc _
    refine HT5 w4.heap.size (w4.alloc (.cells #[.slice p5 t.length c5] 48)) [.slice p5 t.length c5] ⟨hbt5.fr HK.out, hp4.via (below_al (Below.refl _ _) _), zrows.bt hbt5 (by omega), row_bt hbt5 (by omega) he, rfl, (by simp [Value.oneCell']), reps.move (Kp.alloc _ _) (fun b _ h => zrows.off hnw b (by first | exact h | exact Nat.le_trans (by simp) h)) _ _ (reps.cons z5 reps.nil), heap_alloc_new w4 _, hbt5.size, hl4, HX.out.bt hbt5⟩
   ·go_simp
    go_wp2_with fail
    refine hK.out _ _ ((by first | exact hS | exact (hx4.bt ((Bt.refl B w4).alloc _)).2.2.1 | exact hx4.2.2.1 | exact (HX.out.bt ((Bt.refl B _).drew.alloc _)).2.2.1 | exact (HX.out.bt (((Bt.refl B _).alloc _).drew)).2.2.1)) (fun hS => ?_)
    clear hK K'
    (try simp only [Act.put, n3])
    refine on2 1 4 rfl (fun K' hK => ?_) rfl (fun K' hK => ?_)
    ·go_simp
     refine hK.out _ _ ((by first | exact hS | exact (hx4.bt ((Bt.refl B w4).alloc _)).2.2.1 | exact hx4.2.2.1 | exact (HX.out.bt ((Bt.refl B _).drew.alloc _)).2.2.1 | exact (HX.out.bt (((Bt.refl B _).alloc _).drew)).2.2.1)) (fun hS => ?_)
     clear hK K'
     (try simp only [Act.put, n3])
     refine on1 4 rfl (fun K' hK => ?_)
     go_simp
     refine (HT0 _ (by first | exact HP.out.via (below_al (Below.refl _ _).drew _) | exact HP.out.via (below_al (Below.refl _ _) _).drew) (by simp) (by first | exact str_cell1 _ _ _ | exact str_cell1 _ _ _ _)).out.mono ?_
     rintro e w4 ⟨hb4, hl4, hp4, v4, rfl, p5, c5, rfl, z5⟩
     have hbt4 : Bt B w w4 := Bt.trans (by first | exact (Bt.refl B _).drew | exact (Bt.refl B _).drew.alloc _ | exact ((Bt.refl B _).alloc _).drew) hb4
     have hr4 := zrows.bt hbt4 (by omega)
     have hC4 := row_bt hbt4 (by omega) he
     have hs4 : w.heap.size ≤ w4.heap.size := hbt4.size
     have hx4 := HX.out.bt hbt4
     go_wp2_with fail
     refine hK.out _ _ ((by first | exact hS | exact (hx4.bt ((Bt.refl B w4).alloc _)).2.2.1 | exact hx4.2.2.1 | exact (HX.out.bt ((Bt.refl B _).drew.alloc _)).2.2.1 | exact (HX.out.bt (((Bt.refl B _).alloc _).drew)).2.2.1)) (fun hS => ?_)
     clear hK K'
     (try simp only [Act.put, n3])
     refine on1 5 rfl (fun K' hK => ?_)
     go_simp
     go_wp2_with fail
     refine hK.out _ _ ((by first | exact hS | exact (hx4.bt ((Bt.refl B w4).alloc _)).2.2.1 | exact hx4.2.2.1 | exact (HX.out.bt ((Bt.refl B _).drew.alloc _)).2.2.1 | exact (HX.out.bt (((Bt.refl B _).alloc _).drew)).2.2.1)) (fun hS => ?_)
     clear hK K'
     (try simp only [Act.put, n3])
     have hbt5 : Bt B w (w4.alloc (.cells #[.slice p5 t.length c5] 48)) := hbt4.alloc _
     refine HT5 w4.heap.size (w4.alloc (.cells #[.slice p5 t.length c5] 48)) [.slice p5 t.length c5] ⟨hbt5.fr HK.out, hp4.via (below_al (Below.refl _ _) _), zrows.bt hbt5 (by omega), row_bt hbt5 (by omega) he, rfl, (by simp [Value.oneCell']), reps.move (Kp.alloc _ _) (fun b _ h => zrows.off hnw b (by first | exact h | exact Nat.le_trans (by simp) h)) _ _ (reps.cons z5 reps.nil), heap_alloc_new w4 _, hbt5.size, hl4, HX.out.bt hbt5⟩
    ·go_simp
     refine (HT0 _ (by first | exact HP.out.via (below_al (Below.refl _ _).drew _) | exact HP.out.via (below_al (Below.refl _ _) _).drew) (by simp) (by first | exact str_cell1 _ _ _ | exact str_cell1 _ _ _ _)).out.mono ?_
     rintro e w4 ⟨hb4, hl4, hp4, v4, rfl, p5, c5, rfl, z5⟩
     have hbt4 : Bt B w w4 := Bt.trans (by first | exact (Bt.refl B _).drew | exact (Bt.refl B _).drew.alloc _ | exact ((Bt.refl B _).alloc _).drew) hb4
     have hr4 := zrows.bt hbt4 (by omega)
     have hC4 := row_bt hbt4 (by omega) he
     have hs4 : w.heap.size ≤ w4.heap.size := hbt4.size
     have hx4 := HX.out.bt hbt4
     go_wp2_with fail
     refine hK.out _ _ ((by first | exact hS | exact (hx4.bt ((Bt.refl B w4).alloc _)).2.2.1 | exact hx4.2.2.1 | exact (HX.out.bt ((Bt.refl B _).drew.alloc _)).2.2.1 | exact (HX.out.bt (((Bt.refl B _).alloc _).drew)).2.2.1)) (fun hS => ?_)
     clear hK K'
     (try simp only [Act.put, n3])
     refine on2 1 5 rfl (fun K' hK => ?_) rfl (fun K' hK => ?_)
     ·have e04 : w4.cell? ⟨C, 7, none⟩ = some (.slice p0 s.length c0) := by rw [(heap_cell hC4 7).1]; exact hj7 _
      have hEw4 : C < w4.heap.size := by omega
      go_simp
      refine hK.out _ _ ((by first | exact hS | exact (hx4.bt ((Bt.refl B w4).alloc _)).2.2.1 | exact hx4.2.2.1 | exact (HX.out.bt ((Bt.refl B _).drew.alloc _)).2.2.1 | exact (HX.out.bt (((Bt.refl B _).alloc _).drew)).2.2.1)) (fun hS => ?_)
      clear hK K'
      (try simp only [Act.put, n3])
      refine on1 5 rfl (fun K' hK => ?_)
      go_simp
      go_wp2_with fail
      refine hK.out _ _ ((by first | exact hS | exact (hx4.bt ((Bt.refl B w4).alloc _)).2.2.1 | exact hx4.2.2.1 | exact (HX.out.bt ((Bt.refl B _).drew.alloc _)).2.2.1 | exact (HX.out.bt (((Bt.refl B _).alloc _).drew)).2.2.1)) (fun hS => ?_)
      clear hK K'
      (try simp only [Act.put, n3])
      have hbt5 : Bt B w (w4.alloc (.cells #[.slice p5 t.length c5] 48)) := hbt4.alloc _
      refine HT5 w4.heap.size (w4.alloc (.cells #[.slice p5 t.length c5] 48)) [.slice p5 t.length c5] ⟨hbt5.fr HK.out, hp4.via (below_al (Below.refl _ _) _), zrows.bt hbt5 (by omega), row_bt hbt5 (by omega) he, rfl, (by simp [Value.oneCell']), reps.move (Kp.alloc _ _) (fun b _ h => zrows.off hnw b (by first | exact h | exact Nat.le_trans (by simp) h)) _ _ (reps.cons z5 reps.nil), heap_alloc_new w4 _, hbt5.size, hl4, HX.out.bt hbt5⟩
     ·go_simp
      go_wp2_with fail
      refine hK.out _ _ ((by first | exact hS | exact (hx4.bt ((Bt.refl B w4).alloc _)).2.2.1 | exact hx4.2.2.1 | exact (HX.out.bt ((Bt.refl B _).drew.alloc _)).2.2.1 | exact (HX.out.bt (((Bt.refl B _).alloc _).drew)).2.2.1)) (fun hS => ?_)
      clear hK K'
      (try simp only [Act.put, n3])
      refine on1 1 rfl (fun K' hK => ?_)
      have e04 : w4.cell? ⟨C, 7, none⟩ = some (.slice p0 s.length c0) := by rw [(heap_cell hC4 7).1]; exact hj7 _
      have hEw4 : C < w4.heap.size := by omega
      go_simp
      refine hK.out _ _ ((by first | exact hS | exact (hx4.bt ((Bt.refl B w4).alloc _)).2.2.1 | exact hx4.2.2.1 | exact (HX.out.bt ((Bt.refl B _).drew.alloc _)).2.2.1 | exact (HX.out.bt (((Bt.refl B _).alloc _).drew)).2.2.1)) (fun hS => ?_)
      clear hK K'
      (try simp only [Act.put, n3])
      have hbt5 : Bt B w (w4.alloc (.cells #[.slice p5 t.length c5] 48)) := hbt4.alloc _
      refine HT5 w4.heap.size (w4.alloc (.cells #[.slice p5 t.length c5] 48)) [.slice p5 t.length c5] ⟨hbt5.fr HK.out, hp4.via (below_al (Below.refl _ _) _), zrows.bt hbt5 (by omega), row_bt hbt5 (by omega) he, rfl, (by simp [Value.oneCell']), reps.move (Kp.alloc _ _) (fun b _ h => zrows.off hnw b (by first | exact h | exact Nat.le_trans (by simp) h)) _ _ (reps.cons z5 reps.nil), heap_alloc_new w4 _, hbt5.size, hl4, HX.out.bt hbt5⟩
end
end Go.Proofs.YtoeodjobggodcaaGreatDoor
/- or; cond with nothing left open. -/
namespace Go.Proofs.YtoeodjobggodcaaGreatDoor
section
open Go.RowKit
def orA : List Value → Array Value
 | [x] => #[.int .i64 5, .string ⟨#[]⟩, .string ⟨#[]⟩, .slice none 0 0, .slice none 0 0, .slice none 0 0, .slice none 0 0, x, .int .i64 0, .string ⟨#[]⟩, .int .i64 0, .bool false, .int .i64 0, .string ⟨#[]⟩, .slice none 0 0, .slice none 0 0, .string ⟨#[]⟩, .string ⟨#[]⟩, .slice none 0 0]
 | _ => #[]
set_option maxRecDepth 100000 in
set_option maxHeartbeats 4000000 in
theorem or_any {K B o : Nat} {C : Ps Cd} (hC : CC K B (o + 1) (C (o + 1))) {r : List Lx} {w : World} (h : PAt K w B r o) :
  Calls Tryz.prog 111 #[.pointer (some ⟨B, 0, none⟩)] w (Post K B o (r.length - 1) w (orM C o r) fun w' c v => CdV (fun b => w.heap.size ≤ b) w' c v) := by
 have hmf : ∀ (fn : Fn) (first cap : Array Value) (w : World), (Instr.makeFunc fn first cap).run Tryz.prog w = .ok (.func fn first cap) w := fun _ _ _ _ => rfl
 have hsz := h.size
 have hA : (((w.alloc (.cells #[.pointer (some ⟨B, 0, none⟩)] 55)).alloc (.cells #[.int .i64 0, .string ⟨#[]⟩, .string ⟨#[]⟩, .slice none 0 0, .slice none 0 0, .slice none 0 0, .slice none 0 0, .slice none 0 0, .int .i64 0, .string ⟨#[]⟩, .int .i64 0, .bool false, .int .i64 0, .string ⟨#[]⟩, .slice none 0 0, .slice none 0 0, .string ⟨#[]⟩, .string ⟨#[]⟩, .slice none 0 0] 96)).alloc (.cells #[.int .i64 0, .string ⟨#[]⟩, .string ⟨#[]⟩, .slice none 0 0, .slice none 0 0, .slice none 0 0, .slice none 0 0, .slice none 0 0, .int .i64 0, .string ⟨#[]⟩, .int .i64 0, .bool false, .int .i64 0, .string ⟨#[]⟩, .slice none 0 0, .slice none 0 0, .string ⟨#[]⟩, .string ⟨#[]⟩, .slice none 0 0] 96)).heap[w.heap.size + 1 + 1]? = some (.cells #[.int .i64 0, .string ⟨#[]⟩, .string ⟨#[]⟩, .slice none 0 0, .slice none 0 0, .slice none 0 0, .slice none 0 0, .slice none 0 0, .int .i64 0, .string ⟨#[]⟩, .int .i64 0, .bool false, .int .i64 0, .string ⟨#[]⟩, .slice none 0 0, .slice none 0 0, .string ⟨#[]⟩, .string ⟨#[]⟩, .slice none 0 0] 96) := by
  have := heap_alloc_new ((w.alloc (.cells #[.pointer (some ⟨B, 0, none⟩)] 55)).alloc (.cells #[.int .i64 0, .string ⟨#[]⟩, .string ⟨#[]⟩, .slice none 0 0, .slice none 0 0, .slice none 0 0, .slice none 0 0, .slice none 0 0, .int .i64 0, .string ⟨#[]⟩, .int .i64 0, .bool false, .int .i64 0, .string ⟨#[]⟩, .slice none 0 0, .slice none 0 0, .string ⟨#[]⟩, .string ⟨#[]⟩, .slice none 0 0] 96)) (.cells #[.int .i64 0, .string ⟨#[]⟩, .string ⟨#[]⟩, .slice none 0 0, .slice none 0 0, .slice none 0 0, .slice none 0 0, .slice none 0 0, .int .i64 0, .string ⟨#[]⟩, .int .i64 0, .bool false, .int .i64 0, .string ⟨#[]⟩, .slice none 0 0, .slice none 0 0, .string ⟨#[]⟩, .string ⟨#[]⟩, .slice none 0 0] 96)
  rw [World.size_alloc, World.size_alloc] at this
  exact this
 have HA := Hid.intro hA
 clear hA
 generalize hW0 : (((w.alloc (.cells #[.pointer (some ⟨B, 0, none⟩)] 55)).alloc (.cells #[.int .i64 0, .string ⟨#[]⟩, .string ⟨#[]⟩, .slice none 0 0, .slice none 0 0, .slice none 0 0, .slice none 0 0, .slice none 0 0, .int .i64 0, .string ⟨#[]⟩, .int .i64 0, .bool false, .int .i64 0, .string ⟨#[]⟩, .slice none 0 0, .slice none 0 0, .string ⟨#[]⟩, .string ⟨#[]⟩, .slice none 0 0] 96)).alloc (.cells #[.int .i64 0, .string ⟨#[]⟩, .string ⟨#[]⟩, .slice none 0 0, .slice none 0 0, .slice none 0 0, .slice none 0 0, .slice none 0 0, .int .i64 0, .string ⟨#[]⟩, .int .i64 0, .bool false, .int .i64 0, .string ⟨#[]⟩, .slice none 0 0, .slice none 0 0, .string ⟨#[]⟩, .string ⟨#[]⟩, .slice none 0 0] 96)).setRow (w.heap.size + 1 + 1) #[.int .i64 5, .string ⟨#[]⟩, .string ⟨#[]⟩, .slice none 0 0, .slice none 0 0, .slice none 0 0, .slice none 0 0, .slice none 0 0, .int .i64 0, .string ⟨#[]⟩, .int .i64 0, .bool false, .int .i64 0, .string ⟨#[]⟩, .slice none 0 0, .slice none 0 0, .string ⟨#[]⟩, .string ⟨#[]⟩, .slice none 0 0] = W0
 have hW0s : W0.heap.size = w.heap.size + 3 := by rw [← hW0]; simp
 have hb0 : Bt B w W0 := by rw [← hW0]; exact ((((Bt.refl B w).alloc _).alloc _).alloc _).row (by omega) _
 have hX0 : Bx B w.heap.size (.pointer (some ⟨B, 0, none⟩)) W0 := by rw [← hW0]; exact (((Bx.new w _ _ (by omega)).bt ((Bt.refl B _).alloc _)).bt ((Bt.refl B _).alloc _)).row (by omega) _
 have hR0 : W0.heap[w.heap.size + 1]? = some (.cells #[.int .i64 0, .string ⟨#[]⟩, .string ⟨#[]⟩, .slice none 0 0, .slice none 0 0, .slice none 0 0, .slice none 0 0, .slice none 0 0, .int .i64 0, .string ⟨#[]⟩, .int .i64 0, .bool false, .int .i64 0, .string ⟨#[]⟩, .slice none 0 0, .slice none 0 0, .string ⟨#[]⟩, .string ⟨#[]⟩, .slice none 0 0] 96) := by rw [← hW0]; exact (setRow_other _ _ _ _ (by omega)).trans ((heap_alloc_old _ _ (by simp)).trans (heap_alloc2_new w _ _))
 have hC0 : W0.heap[w.heap.size + 2]? = some (.cells (orA [.slice none 0 0]) 96 (0, 0)) := by
  rw [← hW0]
  exact setRow_heap _ _ _ _ _ _ HA.out
 have hp0 : PAt K W0 B r o := by rw [← hW0]; exact (h.via (below_al (below_al (below_al (Below.refl _ _) _) _) _)).row (by omega) _
 have hlen := h.len
 have HW := Hid.intro (within_any QG.tail (OJ.stb (w.heap.size + 3) B w.heap.size (w.heap.size + 2) orA) (or1_clo hC (w.heap.size + 3) w.heap.size (w.heap.size + 2) orA (fun _ _ => by simp [orA]) (fun _ => by simp [orA]) (by omega)) (P := fun b => (b < w.heap.size ∧ b ≠ B) ∨ b = w.heap.size + 1) (s := []) (r := r) (w := W0) (fun b hb => ⟨by rw [hW0s]; omega, by omega⟩) (by unfold QG; simp; omega)
  ⟨hX0, by omega, by omega, by omega, by omega, by omega, [.slice none 0 0], hC0, rows_nil _ (orR []) (by simp [orR, Cd.csss]) _, fun b hb => ⟨by omega, by simp [Value.ownBlock]⟩⟩ hp0 ⟨#[40]⟩ ⟨#[41]⟩)
 have d0 := hX0.2.2.1
 unfold orM
 have hmod : withinM ⟨#[40]⟩ ⟨#[41]⟩ o (fun r => (condsM (C (o + 1)) [⟨#[111, 114]⟩] r).bd fun l r => orL (C (o + 1)) r.length ([] ++ [l]) r) r = withinM ⟨#[40]⟩ ⟨#[41]⟩ o (fun r => (condsM (C (o + 1)) [⟨#[111, 114]⟩] r).bd fun l r => orL (C (o + 1)) r.length [l] r) r := rfl
 cases hm : withinM ⟨#[40]⟩ ⟨#[41]⟩ o (fun r => (condsM (C (o + 1)) [⟨#[111, 114]⟩] r).bd fun l r => orL (C (o + 1)) r.length [l] r) r with
 | bad q =>
  rw [hmod, hm] at HW
  rw [bd_bad]
  clear hm hmod
  go_enter Tryz.func111, Tryz.ntmps111
  go_wp2_with (with_reducible refine (id (?_ : wpList _ _ _ (Oper.mk _ (Op.store _ _ _) _ _ _ _ :: _) _ _)); refine wpList_store_row rfl _ _ _ rfl _ _ rfl rfl _ _ HA.out infoCond rfl rfl (by simp [Value.oneCell']) ?_)
  refine HW.out.mono ?_
  rintro e w1 ⟨hf, rfl⟩
  exact ⟨rfl, hb0.fra (hf.mono fun b hb => .inl hb), rfl⟩
 | ok c r1 =>
  rw [hmod, hm] at HW
  rw [bd_ok]
  clear hm hmod
  go_enter Tryz.func111, Tryz.ntmps111
  go_wp2_with (with_reducible refine (id (?_ : wpList _ _ _ (Oper.mk _ (Op.store _ _ _) _ _ _ _ :: _) _ _)); refine wpList_store_row rfl _ _ _ rfl _ _ rfl rfl _ _ HA.out infoCond rfl rfl (by simp [Value.oneCell']) ?_)
  refine HW.out.mono ?_
  rintro e w1 ⟨hf, rfl, -, ⟨j1, j2, j3, k1, k2, k3, vs, k4, k5, -⟩, hp, hl⟩
  obtain ⟨x7, rfl⟩ : ∃ x, vs = [x] := by have := k5.1; simp only [orR, List.length_cons, List.length_nil] at this; match vs, this with | [x], _ => exact ⟨x, rfl⟩
  obtain ⟨p7, c7, y7, he7, o7, r7⟩ := k5.2.2 0 _ _ rfl rfl
  dsimp only at he7 o7 r7
  have hrep7 : rep (fun b => w.heap.size + 2 < b) w1 (.sl c.length (Cd.csss c)) x7 := rep.own o7 (reps.move Kp.refl (fun b _ h => by have := h.1; omega) _ _ r7) (fun g hg => by have := (o7.lt g hg).1; omega)
  subst he7
  have HC1 := Hid.intro k4
  have HR1 := Hid.intro ((hf.block _ (.inr rfl)).trans hR0)
  unfold orA at HC1
  go_wp2_with (first | (with_reducible refine (id (?_ : wpList _ _ _ (Oper.mk _ (Op.load _ _) _ _ _ _ :: _) _ _)); refine wpList_load_cells rfl _ _ rfl _ rfl _ _ _ HC1.out Tryz.underlying96 infoCond rfl ?_) | (with_reducible refine (id (?_ : wpList _ _ _ (Oper.mk _ (Op.store _ _ _) _ _ _ _ :: _) _ _)); refine wpList_store_row rfl _ _ _ rfl _ _ rfl rfl _ _ HR1.out infoCond rfl rfl (by simp [Value.oneCell']) ?_))
  refine ret_cells rfl rfl (setRow_heap _ _ _ _ _ _ HR1.out) Tryz.underlying96 infoCond rfl rfl (Post.ok ((hb0.fra (hf.mono fun b hb => .inl hb)).row (by omega) _) hl (hp.row (by omega) _) ?_)
  refine ⟨.slice none 0 0, .slice none 0 0, .slice none 0 0, .slice none 0 0, .slice p7 c.length c7, .slice none 0 0, .slice none 0 0, .slice none 0 0, rfl, ⟨rep.none, rep.none, ?_, ?_, ?_⟩, ?_, ?_, rep.none⟩
  ·simpa [Cd.css] using rep.none
  ·simpa [Cd.css] using rep.none
  ·exact rep.move ⟨by simp, fun b hb _ o => World.cell?_of_block (a := ⟨b, o, none⟩) (setRow_other _ _ _ _ (by simp only; omega))⟩ (fun b _ h => by omega) _ _ hrep7
  ·simpa [Vt.css] using rep.none
  ·simpa [Ex.css] using rep.none
theorem cond_any (K B o : Nat) : CC K B o (condM (31 - o) o) := cond_fuel (fun _ v _ _ h => pattern_any v h) (fun _ _ hC _ _ h => or_any hC h) (31 - o) o (by omega)
end
end Go.Proofs.YtoeodjobggodcaaGreatDoor
