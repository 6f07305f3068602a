import Derived.Test.YtoeodjobggodcaaGreatDoorJoin06
/- acc. -/
namespace Go.Proofs.YtoeodjobggodcaaGreatDoor
section
open Go.RowKit
theorem CdBx.putE {B C : Nat} {w : World} {c : Cd} (h : CdBx B C w c) {e : Ex} {p6 : Option Addr} {n6 c6 : Nat} {p7 : Option Addr} {n7 c7 : Nat} (k6 : rep (fun b => C < b) w (.sl e.v.l.length (Vt.css e.v.l)) (.slice p6 n6 c6)) (k7 : rep (fun b => C < b) w (.sl e.a.length (Ex.css e.a)) (.slice p7 n7 c7)) :
  ∃ x3 x4 x5 x6 x7 x14 x15 x18, w.heap[C]? = some (.cells #[.int .i64 c.k, .string c.v, .string c.c, x3, x4, x5, x6, x7, .int .i64 c.e.op, .string c.e.t, .int .i64 c.e.v.k, .bool c.e.v.b, .int .i64 c.e.v.i, .string c.e.v.s, x14, x15, .string c.fn, .string c.name, x18] 96 (0, 0)) ∧ CdBx B C (w.setRow C #[.int .i64 c.k, .string c.v, .string c.c, x3, x4, x5, x6, x7, .int .i64 e.op, .string e.t, .int .i64 e.v.k, .bool e.v.b, .int .i64 e.v.i, .string e.v.s, .slice p6 n6 c6, .slice p7 n7 c7, .string c.fn, .string c.name, x18]) { c with e := e } := by
 obtain ⟨hB, cells, hh, x3, x4, x5, x6, x7, x14, x15, x18, he, ⟨h3, h4, h5, h6, h7⟩, h14, h15, h18⟩ := h
 obtain rfl := Value.agg.inj he
 have hk : ∀ cs, Kp (fun b => C < b) w (w.setRow C cs) := fun cs => kp_row w cs
 exact ⟨x3, x4, x5, x6, x7, x14, x15, x18, hh, hB, _, setRow_heap _ _ _ _ _ _ hh, x3, x4, x5, x6, x7, .slice p6 n6 c6, .slice p7 n7 c7, x18, rfl, ⟨rep.move (hk _) (fun _ _ h => h) _ _ h3, rep.move (hk _) (fun _ _ h => h) _ _ h4, rep.move (hk _) (fun _ _ h => h) _ _ h5, rep.move (hk _) (fun _ _ h => h) _ _ h6, rep.move (hk _) (fun _ _ h => h) _ _ h7⟩, rep.move (hk _) (fun _ _ h => h) _ _ k6, rep.move (hk _) (fun _ _ h => h) _ _ k7, rep.move (hk _) (fun _ _ h => h) _ _ h18⟩
theorem CK.putRow {P : Nat → Prop} {w0 : World} {K B o c1 C : Nat} {c c' : Cd} {W : World} {r : List Lx} (h : CK P w0 K B o c1 C c W r) {cs : Array Value} (hc : c1 ≠ C) (hp : ∀ b, P b → b ≠ C) (hC : K ≤ C) (hcb : CdBx B C (W.setRow C cs) c') : CK P w0 K B o c1 C c' (W.setRow C cs) r :=
 ⟨h.fr.row hp _, h.bx.row hc _, hcb, h.at_.row hC _⟩
theorem CK.cells {P : Nat → Prop} {w0 : World} {K B o c1 C : Nat} {c : Cd} {W : World} {r : List Lx} (h : CK P w0 K B o c1 C c W r) (j : Nat) (hj : j < 19) : (∃ u, W.cell? ⟨C, j, none⟩ = some u) ∧ W.frozen? ⟨C, j, none⟩ = false := by
 obtain ⟨cells, k1, k2, k3⟩ := h.cb.cell
 exact cell_some k1 (by omega)
theorem CK.lt {P : Nat → Prop} {w0 : World} {K B o c1 C : Nat} {c : Cd} {W : World} {r : List Lx} (h : CK P w0 K B o c1 C c W r) : C < W.heap.size := by
 obtain ⟨cells, k1, k2, k3⟩ := h.cb.cell
 exact k3
theorem paren_any {K B o : Nat} {r : List Lx} {w : World} (h : PAt K w B r o) : Calls Tryz.prog 112 #[.pointer (some ⟨B, 0, none⟩)] w (Post K B o (r.length - 1) w (parenM exprM o r) fun w' t v => TeV (fun b => w.heap.size ≤ b) w' t v) := par_any (tree_any K B (o + 1)) h
theorem run_acc1 (caps : Array Value) (w : World) : (callFunc 153 caps).run Tryz.prog w = .ok (.enter 153 caps) w := by simp [go_sem]
set_option maxRecDepth 100000 in
set_option maxHeartbeats 4000000 in
theorem acc1_clo {K B o : Nat} {m : List Lx → Rs Cd} (hC : CC K B o m) (c1 C : Nat) (hCK : K ≤ C) :
  Clo K B o (fun _ _ => True) (CJ B c1 C) 153 #[.pointer (some ⟨c1, 0, none⟩), .pointer (some ⟨C, 0, none⟩)] (fun c r => (varM r).bd fun v r => (takeM ⟨#[58]⟩ r).bd fun _ r => (fnM r).bd fun f r => (parenM exprM o r).bd fun t r => (takeM ⟨#[111, 118, 101, 114]⟩ r).bd fun _ r => (condsM m [⟨#[41]⟩] r).bd fun l r => .ok { c with v := v, fn := f, e := t.e, conds := l } r) := by
 refine ⟨run_acc1 _, ?_⟩
 rintro P c r w hP - ⟨h1, h2, h3, h4⟩ h
 show Calls _ _ _ _ (CPost K B o r.length P w _ _ ((varM r).bd fun v r => (takeM ⟨#[58]⟩ r).bd fun _ r => (fnM r).bd fun f r => (parenM exprM o r).bd fun t r => (takeM ⟨#[111, 118, 101, 114]⟩ r).bd fun _ r => (condsM m [⟨#[41]⟩] r).bd fun l r => .ok { c with v := v, fn := f, e := t.e, conds := l } r))
 have d1 := h1.2.2.1
 have hsz := h.size
 have hk0 : CK P w K B o c1 C c w r := ⟨Fr.refl _ _, h1, h2, h⟩
 have ha0 : ∀ s : ByteArray, ∀ W : World, Bt B W (W.alloc (.cells #[.string s] 9)) := fun s W => (Bt.refl B W).alloc _
 have H0 := fun w (h : PAt K w B r o) => Hid.intro (pvar_any h)
 cases hm0 : varM r with
 | bad q =>
  rw [hm0] at H0
  rw [bd_bad]
  clear hm0
  go_enter Tryz.func153, Tryz.ntmps153
  go_wp2_with fail
  refine (H0 _ (h)).out.mono ?_
  rintro e v1 ⟨ht1, rfl⟩
  exact ⟨rfl, (ht1.fr hP), rfl⟩
 | ok v r1 =>
  rw [hm0] at H0
  rw [bd_ok]
  clear hm0
  have H1 := fun w (h : PAt K w B r1 o) => Hid.intro (take_any h ⟨#[58]⟩)
  cases hm1 : takeM ⟨#[58]⟩ r1 with
  | bad q =>
   rw [hm1] at H1
   rw [bd_bad]
   clear hm1
   go_enter Tryz.func153, Tryz.ntmps153
   go_wp2_with fail
   refine (H0 _ (h)).out.mono ?_
   rintro e v1 ⟨ht1, hl1, hp1, x, rfl, rfl⟩
   have g0 := hk0.bt ht1 hP hp1
   obtain ⟨⟨u1, eu1⟩, fu1⟩ := g0.cells 1 (by omega)
   have g1 := g0.put h3 h4 hCK (g0.cb.putV v)
   have d2 := g1.bx.2.2.1
   go_wp2_with fail
   refine (H1 _ (g1.at_)).out.mono ?_
   rintro e v2 ⟨ht2, rfl⟩
   exact ⟨rfl, (g1.fr.trans (ht2.fr (hP.up g1.fr.size))), rfl⟩
  | ok u r2 =>
   rw [hm1] at H1
   rw [bd_ok]
   clear hm1
   have H2 := fun w (h : PAt K w B r2 o) => Hid.intro (function_any h)
   cases hm2 : fnM r2 with
   | bad q =>
    rw [hm2] at H2
    rw [bd_bad]
    clear hm2
    go_enter Tryz.func153, Tryz.ntmps153
    go_wp2_with fail
    refine (H0 _ (h)).out.mono ?_
    rintro e v1 ⟨ht1, hl1, hp1, x, rfl, rfl⟩
    have g0 := hk0.bt ht1 hP hp1
    obtain ⟨⟨u1, eu1⟩, fu1⟩ := g0.cells 1 (by omega)
    have g1 := g0.put h3 h4 hCK (g0.cb.putV v)
    have d2 := g1.bx.2.2.1
    go_wp2_with fail
    refine (H1 _ (g1.at_)).out.mono ?_
    rintro e v2 ⟨ht2, hl2, hp2, x, rfl, rfl⟩
    have g2 := g1.bt ht2 hP hp2
    have d3 := g2.bx.2.2.1
    go_wp2_with fail
    refine (H2 _ (g2.at_)).out.mono ?_
    rintro e v3 ⟨ht3, rfl⟩
    exact ⟨rfl, (g2.fr.trans (ht3.fr (hP.up g2.fr.size))), rfl⟩
   | ok f r3 =>
    rw [hm2] at H2
    rw [bd_ok]
    clear hm2
    have H3 := fun w (h : PAt K w B r3 o) => Hid.intro (paren_any h)
    cases hm3 : parenM exprM o r3 with
    | bad q =>
     rw [hm3] at H3
     rw [bd_bad]
     clear hm3
     go_enter Tryz.func153, Tryz.ntmps153
     go_wp2_with fail
     refine (H0 _ (h)).out.mono ?_
     rintro e v1 ⟨ht1, hl1, hp1, x, rfl, rfl⟩
     have g0 := hk0.bt ht1 hP hp1
     obtain ⟨⟨u1, eu1⟩, fu1⟩ := g0.cells 1 (by omega)
     have g1 := g0.put h3 h4 hCK (g0.cb.putV v)
     have d2 := g1.bx.2.2.1
     go_wp2_with fail
     refine (H1 _ (g1.at_)).out.mono ?_
     rintro e v2 ⟨ht2, hl2, hp2, x, rfl, rfl⟩
     have g2 := g1.bt ht2 hP hp2
     have d3 := g2.bx.2.2.1
     go_wp2_with fail
     refine (H2 _ (g2.at_)).out.mono ?_
     rintro e v3 ⟨ht3, hl3, hp3, x, rfl, rfl⟩
     have g3 := g2.bt ht3 hP hp3
     obtain ⟨⟨u4, eu4⟩, fu4⟩ := g3.cells 16 (by omega)
     have g4 := g3.put h3 h4 hCK (g3.cb.putFn f)
     have d4 := g4.bx.2.2.1
     go_wp2_with fail
     refine (H3 _ (g4.at_)).out.mono ?_
     rintro e v4 ⟨ht4, rfl⟩
     exact ⟨rfl, (g4.fr.trans (ht4.fr (hP.up g4.fr.size))), rfl⟩
    | ok t r4 =>
     rw [hm3] at H3
     rw [bd_ok]
     clear hm3
     have H4 := fun w (h : PAt K w B r4 o) => Hid.intro (take_any h ⟨#[111, 118, 101, 114]⟩)
     cases hm4 : takeM ⟨#[111, 118, 101, 114]⟩ r4 with
     | bad q =>
      rw [hm4] at H4
      rw [bd_bad]
      clear hm4
      go_enter Tryz.func153, Tryz.ntmps153
      go_wp2_with fail
      refine (H0 _ (h)).out.mono ?_
      rintro e v1 ⟨ht1, hl1, hp1, x, rfl, rfl⟩
      have g0 := hk0.bt ht1 hP hp1
      obtain ⟨⟨u1, eu1⟩, fu1⟩ := g0.cells 1 (by omega)
      have g1 := g0.put h3 h4 hCK (g0.cb.putV v)
      have d2 := g1.bx.2.2.1
      go_wp2_with fail
      refine (H1 _ (g1.at_)).out.mono ?_
      rintro e v2 ⟨ht2, hl2, hp2, x, rfl, rfl⟩
      have g2 := g1.bt ht2 hP hp2
      have d3 := g2.bx.2.2.1
      go_wp2_with fail
      refine (H2 _ (g2.at_)).out.mono ?_
      rintro e v3 ⟨ht3, hl3, hp3, x, rfl, rfl⟩
      have g3 := g2.bt ht3 hP hp3
      obtain ⟨⟨u4, eu4⟩, fu4⟩ := g3.cells 16 (by omega)
      have g4 := g3.put h3 h4 hCK (g3.cb.putFn f)
      have d4 := g4.bx.2.2.1
      go_wp2_with fail
      refine (H3 _ (g4.at_)).out.mono ?_
      rintro e v4 ⟨ht4, hl4, hp4, x, rfl, p6, n6, c6, p7, n7, c7, rfl, z6, z7, z8⟩
      have g5 := g4.bt ht4 hP hp4
      have hlt4 := g4.lt
      obtain ⟨x3, x4, x5, x6, x7, x14, x15, x18, hh5, hcb5⟩ := g5.cb.putE (e := t.e) (rep.move Kp.refl (fun b _ h => by omega) _ _ z6) (rep.move Kp.refl (fun b _ h => by omega) _ _ z7)
      have HH5 := Hid.intro hh5
      have g6 := g5.putRow h3 h4 hCK hcb5
      have d5 := g6.bx.2.2.1
      have hfe := fld_expr t.e.op t.e.t t.e.v.k t.e.v.b t.e.v.i t.e.v.s p6 n6 c6 p7 n7 c7 t.d
      have hh6 : (#[.int .i64 t.e.op, .string t.e.t, .int .i64 t.e.v.k, .bool t.e.v.b, .int .i64 t.e.v.i, .string t.e.v.s, .slice p6 n6 c6, .slice p7 n7 c7] : Array Value).all (·.oneCell') = true := by simp [Value.oneCell']
      go_wp2_with (with_reducible refine (id (?_ : wpList _ _ _ (Oper.mk _ (Op.store _ _ _) _ _ _ _ :: _) _ _)); refine wpList_store_part rfl 39 _ _ rfl C 8 _ rfl rfl _ _ #[.int .i64 c.k, .string v, .string c.c, x3, x4, x5, x6, x7, .int .i64 t.e.op, .string t.e.t, .int .i64 t.e.v.k, .bool t.e.v.b, .int .i64 t.e.v.i, .string t.e.v.s, .slice p6 n6 c6, .slice p7 n7 c7, .string f, .string c.name, x18] HH5.out infoExpr rfl (by simp) hh6 (by simp) ?_)
      refine (H4 _ (g6.at_)).out.mono ?_
      rintro e v5 ⟨ht5, rfl⟩
      exact ⟨rfl, (g6.fr.trans (ht5.fr (hP.up g6.fr.size))), rfl⟩
     | ok u2 r5 =>
      rw [hm4] at H4
      rw [bd_ok]
      clear hm4
      have H5 := fun w (h : PAt K w B r5 o) => Hid.intro (conds_any hC [⟨#[41]⟩] (by simp) (h.via (below_al (Below.refl _ _) (.cells #[.string ⟨#[41]⟩] 9))) w.heap.size 1 (str_cell w ⟨#[41]⟩ 9) (by simp) (by have := h.size; omega))
      cases hm5 : condsM m [⟨#[41]⟩] r5 with
      | bad q =>
       rw [hm5] at H5
       rw [bd_bad]
       clear hm5
       go_enter Tryz.func153, Tryz.ntmps153
       go_wp2_with fail
       refine (H0 _ (h)).out.mono ?_
       rintro e v1 ⟨ht1, hl1, hp1, x, rfl, rfl⟩
       have g0 := hk0.bt ht1 hP hp1
       obtain ⟨⟨u1, eu1⟩, fu1⟩ := g0.cells 1 (by omega)
       have g1 := g0.put h3 h4 hCK (g0.cb.putV v)
       have d2 := g1.bx.2.2.1
       go_wp2_with fail
       refine (H1 _ (g1.at_)).out.mono ?_
       rintro e v2 ⟨ht2, hl2, hp2, x, rfl, rfl⟩
       have g2 := g1.bt ht2 hP hp2
       have d3 := g2.bx.2.2.1
       go_wp2_with fail
       refine (H2 _ (g2.at_)).out.mono ?_
       rintro e v3 ⟨ht3, hl3, hp3, x, rfl, rfl⟩
       have g3 := g2.bt ht3 hP hp3
       obtain ⟨⟨u4, eu4⟩, fu4⟩ := g3.cells 16 (by omega)
       have g4 := g3.put h3 h4 hCK (g3.cb.putFn f)
       have d4 := g4.bx.2.2.1
       go_wp2_with fail
       refine (H3 _ (g4.at_)).out.mono ?_
       rintro e v4 ⟨ht4, hl4, hp4, x, rfl, p6, n6, c6, p7, n7, c7, rfl, z6, z7, z8⟩
       have g5 := g4.bt ht4 hP hp4
       have hlt4 := g4.lt
       obtain ⟨x3, x4, x5, x6, x7, x14, x15, x18, hh5, hcb5⟩ := g5.cb.putE (e := t.e) (rep.move Kp.refl (fun b _ h => by omega) _ _ z6) (rep.move Kp.refl (fun b _ h => by omega) _ _ z7)
       have HH5 := Hid.intro hh5
       have g6 := g5.putRow h3 h4 hCK hcb5
       have d5 := g6.bx.2.2.1
       have hfe := fld_expr t.e.op t.e.t t.e.v.k t.e.v.b t.e.v.i t.e.v.s p6 n6 c6 p7 n7 c7 t.d
       have hh6 : (#[.int .i64 t.e.op, .string t.e.t, .int .i64 t.e.v.k, .bool t.e.v.b, .int .i64 t.e.v.i, .string t.e.v.s, .slice p6 n6 c6, .slice p7 n7 c7] : Array Value).all (·.oneCell') = true := by simp [Value.oneCell']
       go_wp2_with (with_reducible refine (id (?_ : wpList _ _ _ (Oper.mk _ (Op.store _ _ _) _ _ _ _ :: _) _ _)); refine wpList_store_part rfl 39 _ _ rfl C 8 _ rfl rfl _ _ #[.int .i64 c.k, .string v, .string c.c, x3, x4, x5, x6, x7, .int .i64 t.e.op, .string t.e.t, .int .i64 t.e.v.k, .bool t.e.v.b, .int .i64 t.e.v.i, .string t.e.v.s, .slice p6 n6 c6, .slice p7 n7 c7, .string f, .string c.name, x18] HH5.out infoExpr rfl (by simp) hh6 (by simp) ?_)
       refine (H4 _ (g6.at_)).out.mono ?_
       rintro e v5 ⟨ht5, hl5, hp5, x, rfl, rfl⟩
       have g7 := g6.bt ht5 hP hp5
       have d6 := g7.bx.2.2.1
       go_wp2_with fail
       refine (H5 _ (g7.at_)).out.mono ?_
       rintro e v6 ⟨ht6, rfl⟩
       exact ⟨rfl, (g7.fr.trans (((ha0 _ _).trans ht6).fr (hP.up g7.fr.size))), rfl⟩
      | ok l r6 =>
       rw [hm5] at H5
       rw [bd_ok]
       clear hm5
       go_enter Tryz.func153, Tryz.ntmps153
       go_wp2_with fail
       refine (H0 _ (h)).out.mono ?_
       rintro e v1 ⟨ht1, hl1, hp1, x, rfl, rfl⟩
       have g0 := hk0.bt ht1 hP hp1
       obtain ⟨⟨u1, eu1⟩, fu1⟩ := g0.cells 1 (by omega)
       have g1 := g0.put h3 h4 hCK (g0.cb.putV v)
       have d2 := g1.bx.2.2.1
       go_wp2_with fail
       refine (H1 _ (g1.at_)).out.mono ?_
       rintro e v2 ⟨ht2, hl2, hp2, x, rfl, rfl⟩
       have g2 := g1.bt ht2 hP hp2
       have d3 := g2.bx.2.2.1
       go_wp2_with fail
       refine (H2 _ (g2.at_)).out.mono ?_
       rintro e v3 ⟨ht3, hl3, hp3, x, rfl, rfl⟩
       have g3 := g2.bt ht3 hP hp3
       obtain ⟨⟨u4, eu4⟩, fu4⟩ := g3.cells 16 (by omega)
       have g4 := g3.put h3 h4 hCK (g3.cb.putFn f)
       have d4 := g4.bx.2.2.1
       go_wp2_with fail
       refine (H3 _ (g4.at_)).out.mono ?_
       rintro e v4 ⟨ht4, hl4, hp4, x, rfl, p6, n6, c6, p7, n7, c7, rfl, z6, z7, z8⟩
       have g5 := g4.bt ht4 hP hp4
       have hlt4 := g4.lt
       obtain ⟨x3, x4, x5, x6, x7, x14, x15, x18, hh5, hcb5⟩ := g5.cb.putE (e := t.e) (rep.move Kp.refl (fun b _ h => by omega) _ _ z6) (rep.move Kp.refl (fun b _ h => by omega) _ _ z7)
       have HH5 := Hid.intro hh5
       have g6 := g5.putRow h3 h4 hCK hcb5
       have d5 := g6.bx.2.2.1
       have hfe := fld_expr t.e.op t.e.t t.e.v.k t.e.v.b t.e.v.i t.e.v.s p6 n6 c6 p7 n7 c7 t.d
       have hh6 : (#[.int .i64 t.e.op, .string t.e.t, .int .i64 t.e.v.k, .bool t.e.v.b, .int .i64 t.e.v.i, .string t.e.v.s, .slice p6 n6 c6, .slice p7 n7 c7] : Array Value).all (·.oneCell') = true := by simp [Value.oneCell']
       go_wp2_with (with_reducible refine (id (?_ : wpList _ _ _ (Oper.mk _ (Op.store _ _ _) _ _ _ _ :: _) _ _)); refine wpList_store_part rfl 39 _ _ rfl C 8 _ rfl rfl _ _ #[.int .i64 c.k, .string v, .string c.c, x3, x4, x5, x6, x7, .int .i64 t.e.op, .string t.e.t, .int .i64 t.e.v.k, .bool t.e.v.b, .int .i64 t.e.v.i, .string t.e.v.s, .slice p6 n6 c6, .slice p7 n7 c7, .string f, .string c.name, x18] HH5.out infoExpr rfl (by simp) hh6 (by simp) ?_)
       refine (H4 _ (g6.at_)).out.mono ?_
       rintro e v5 ⟨ht5, hl5, hp5, x, rfl, rfl⟩
       have g7 := g6.bt ht5 hP hp5
       have d6 := g7.bx.2.2.1
       go_wp2_with fail
       refine (H5 _ (g7.at_)).out.mono ?_
       rintro e v6 ⟨ht6, hl6, hp6, x, rfl, p, q, rfl, hr⟩
       have g8 := g7.bt ((ha0 _ _).trans ht6) hP hp6
       have hlt7 := g7.lt
       obtain ⟨⟨u9, eu9⟩, fu9⟩ := g8.cells 5 (by omega)
       have g9 := g8.put h3 h4 hCK (g8.cb.putConds (rep.move Kp.refl (fun b _ h => by simp at h; omega) _ _ hr))
       go_wp2_with fail
       go_end0
       exact ⟨g9.fr, rfl, trivial, ⟨g9.bx, g9.cb, h3, h4⟩, g9.at_, by omega⟩
set_option maxRecDepth 100000 in
set_option maxHeartbeats 4000000 in
theorem acc_any {K B o : Nat} {C : Ps Cd} (hC : CC K B (o + 1) (C (o + 1))) {r : List Lx} {w : World} (h : PAt K w B r o) :
  Calls Tryz.prog 113 #[.pointer (some ⟨B, 0, none⟩)] w (Post K B o (r.length - 1) w (accM C o r) fun w' c v => CdV (fun b => w.heap.size ≤ b) w' c v) := by
 have hmf : ∀ (fn : Fn) (first cap : Array Value) (w : World), (Instr.makeFunc fn first cap).run Tryz.prog w = .ok (.func fn first cap) w := fun _ _ _ _ => rfl
 have hsz := h.size
 have hA : (((w.alloc (.cells #[.pointer (some ⟨B, 0, none⟩)] 55)).alloc (.cells #[.int .i64 0, .string ⟨#[]⟩, .string ⟨#[]⟩, .slice none 0 0, .slice none 0 0, .slice none 0 0, .slice none 0 0, .slice none 0 0, .int .i64 0, .string ⟨#[]⟩, .int .i64 0, .bool false, .int .i64 0, .string ⟨#[]⟩, .slice none 0 0, .slice none 0 0, .string ⟨#[]⟩, .string ⟨#[]⟩, .slice none 0 0] 96)).alloc (.cells #[.int .i64 0, .string ⟨#[]⟩, .string ⟨#[]⟩, .slice none 0 0, .slice none 0 0, .slice none 0 0, .slice none 0 0, .slice none 0 0, .int .i64 0, .string ⟨#[]⟩, .int .i64 0, .bool false, .int .i64 0, .string ⟨#[]⟩, .slice none 0 0, .slice none 0 0, .string ⟨#[]⟩, .string ⟨#[]⟩, .slice none 0 0] 96)).heap[w.heap.size + 1 + 1]? = some (.cells #[.int .i64 0, .string ⟨#[]⟩, .string ⟨#[]⟩, .slice none 0 0, .slice none 0 0, .slice none 0 0, .slice none 0 0, .slice none 0 0, .int .i64 0, .string ⟨#[]⟩, .int .i64 0, .bool false, .int .i64 0, .string ⟨#[]⟩, .slice none 0 0, .slice none 0 0, .string ⟨#[]⟩, .string ⟨#[]⟩, .slice none 0 0] 96) := by
  have := heap_alloc_new ((w.alloc (.cells #[.pointer (some ⟨B, 0, none⟩)] 55)).alloc (.cells #[.int .i64 0, .string ⟨#[]⟩, .string ⟨#[]⟩, .slice none 0 0, .slice none 0 0, .slice none 0 0, .slice none 0 0, .slice none 0 0, .int .i64 0, .string ⟨#[]⟩, .int .i64 0, .bool false, .int .i64 0, .string ⟨#[]⟩, .slice none 0 0, .slice none 0 0, .string ⟨#[]⟩, .string ⟨#[]⟩, .slice none 0 0] 96)) (.cells #[.int .i64 0, .string ⟨#[]⟩, .string ⟨#[]⟩, .slice none 0 0, .slice none 0 0, .slice none 0 0, .slice none 0 0, .slice none 0 0, .int .i64 0, .string ⟨#[]⟩, .int .i64 0, .bool false, .int .i64 0, .string ⟨#[]⟩, .slice none 0 0, .slice none 0 0, .string ⟨#[]⟩, .string ⟨#[]⟩, .slice none 0 0] 96)
  rw [World.size_alloc, World.size_alloc] at this
  exact this
 have HA := Hid.intro hA
 clear hA
 generalize hW0 : (((w.alloc (.cells #[.pointer (some ⟨B, 0, none⟩)] 55)).alloc (.cells #[.int .i64 0, .string ⟨#[]⟩, .string ⟨#[]⟩, .slice none 0 0, .slice none 0 0, .slice none 0 0, .slice none 0 0, .slice none 0 0, .int .i64 0, .string ⟨#[]⟩, .int .i64 0, .bool false, .int .i64 0, .string ⟨#[]⟩, .slice none 0 0, .slice none 0 0, .string ⟨#[]⟩, .string ⟨#[]⟩, .slice none 0 0] 96)).alloc (.cells #[.int .i64 0, .string ⟨#[]⟩, .string ⟨#[]⟩, .slice none 0 0, .slice none 0 0, .slice none 0 0, .slice none 0 0, .slice none 0 0, .int .i64 0, .string ⟨#[]⟩, .int .i64 0, .bool false, .int .i64 0, .string ⟨#[]⟩, .slice none 0 0, .slice none 0 0, .string ⟨#[]⟩, .string ⟨#[]⟩, .slice none 0 0] 96)).setRow (w.heap.size + 1 + 1) #[.int .i64 7, .string ⟨#[]⟩, .string ⟨#[]⟩, .slice none 0 0, .slice none 0 0, .slice none 0 0, .slice none 0 0, .slice none 0 0, .int .i64 0, .string ⟨#[]⟩, .int .i64 0, .bool false, .int .i64 0, .string ⟨#[]⟩, .slice none 0 0, .slice none 0 0, .string ⟨#[]⟩, .string ⟨#[]⟩, .slice none 0 0] = W0
 have hW0s : W0.heap.size = w.heap.size + 3 := by rw [← hW0]; simp
 have hb0 : Bt B w W0 := by rw [← hW0]; exact ((((Bt.refl B w).alloc _).alloc _).alloc _).row (by omega) _
 have hX0 : Bx B w.heap.size (.pointer (some ⟨B, 0, none⟩)) W0 := by rw [← hW0]; exact (((Bx.new w _ _ (by omega)).bt ((Bt.refl B _).alloc _)).bt ((Bt.refl B _).alloc _)).row (by omega) _
 have hR0 : W0.heap[w.heap.size + 1]? = some (.cells #[.int .i64 0, .string ⟨#[]⟩, .string ⟨#[]⟩, .slice none 0 0, .slice none 0 0, .slice none 0 0, .slice none 0 0, .slice none 0 0, .int .i64 0, .string ⟨#[]⟩, .int .i64 0, .bool false, .int .i64 0, .string ⟨#[]⟩, .slice none 0 0, .slice none 0 0, .string ⟨#[]⟩, .string ⟨#[]⟩, .slice none 0 0] 96) := by rw [← hW0]; exact (setRow_other _ _ _ _ (by omega)).trans ((heap_alloc_old _ _ (by simp)).trans (heap_alloc2_new w _ _))
 have hC0 : CdBx B (w.heap.size + 2) W0 { k := 7 } := by
  refine ⟨by omega, _, ?_, .slice none 0 0, .slice none 0 0, .slice none 0 0, .slice none 0 0, .slice none 0 0, .slice none 0 0, .slice none 0 0, .slice none 0 0, rfl, ⟨rep.none, rep.none, ?_, ?_, ?_⟩, ?_, ?_, rep.none⟩
  ·rw [← hW0]
   exact setRow_heap _ _ _ _ _ _ HA.out
  ·simpa [Cd.css] using rep.none
  ·simpa [Cd.css] using rep.none
  ·simpa [Cd.csss] using rep.none
  ·simpa [Vt.css] using rep.none
  ·simpa [Ex.css] using rep.none
 have hp0 : PAt K W0 B r o := by rw [← hW0]; exact (h.via (below_al (below_al (below_al (Below.refl _ _) _) _) _)).row (by omega) _
 have HW := Hid.intro (within_any (fun _ _ _ => trivial) (CJ.stb B w.heap.size (w.heap.size + 2)) (acc1_clo hC w.heap.size (w.heap.size + 2) (by omega)) (P := fun b => (b < w.heap.size ∧ b ≠ B) ∨ b = w.heap.size + 1) (s := { k := 7 }) (r := r) (w := W0) (fun b hb => ⟨by rw [hW0s]; omega, by omega⟩) trivial ⟨hX0, hC0, by omega, fun b hb => by omega⟩ hp0 ⟨#[40]⟩ ⟨#[41]⟩)
 have d0 := hX0.2.2.1
 unfold accM
 have hmod : withinM ⟨#[40]⟩ ⟨#[41]⟩ o (fun r => (varM r).bd fun v r => (takeM ⟨#[58]⟩ r).bd fun _ r => (fnM r).bd fun f r => (parenM exprM (o + 1) r).bd fun t r => (takeM ⟨#[111, 118, 101, 114]⟩ r).bd fun _ r => (condsM (C (o + 1)) [⟨#[41]⟩] r).bd fun l r => .ok ({ ({ k := 7 } : Cd) with v := v, fn := f, e := t.e, conds := l }) r) r = withinM ⟨#[40]⟩ ⟨#[41]⟩ o (fun r => (varM r).bd fun v r => (takeM ⟨#[58]⟩ r).bd fun _ r => (fnM r).bd fun f r => (parenM exprM (o + 1) r).bd fun t r => (takeM ⟨#[111, 118, 101, 114]⟩ r).bd fun _ r => (condsM (C (o + 1)) [⟨#[41]⟩] r).bd fun l r => .ok { k := 7, v := v, fn := f, e := t.e, conds := l } r) r := rfl
 cases hm : withinM ⟨#[40]⟩ ⟨#[41]⟩ o (fun r => (varM r).bd fun v r => (takeM ⟨#[58]⟩ r).bd fun _ r => (fnM r).bd fun f r => (parenM exprM (o + 1) r).bd fun t r => (takeM ⟨#[111, 118, 101, 114]⟩ r).bd fun _ r => (condsM (C (o + 1)) [⟨#[41]⟩] r).bd fun l r => .ok ({ k := 7, v := v, fn := f, e := t.e, conds := l } : Cd) r) r with
 | bad q =>
  rw [hmod, hm] at HW
  clear hm hmod
  go_enter Tryz.func113, Tryz.ntmps113
  go_wp2_with (with_reducible refine (id (?_ : wpList _ _ _ (Oper.mk _ (Op.store _ _ _) _ _ _ _ :: _) _ _)); refine wpList_store_row rfl _ _ _ rfl _ _ rfl rfl _ _ HA.out infoCond rfl rfl (by simp [Value.oneCell']) ?_)
  refine HW.out.mono ?_
  rintro e w1 ⟨hf, rfl⟩
  exact ⟨rfl, hb0.fra (hf.mono fun b hb => .inl hb), rfl⟩
 | ok c r1 =>
  rw [hmod, hm] at HW
  clear hm hmod
  go_enter Tryz.func113, Tryz.ntmps113
  go_wp2_with (with_reducible refine (id (?_ : wpList _ _ _ (Oper.mk _ (Op.store _ _ _) _ _ _ _ :: _) _ _)); refine wpList_store_row rfl _ _ _ rfl _ _ rfl rfl _ _ HA.out infoCond rfl rfl (by simp [Value.oneCell']) ?_)
  refine HW.out.mono ?_
  rintro e w1 ⟨hf, rfl, -, ⟨-, ⟨hB, cells, hc, hv⟩, -, -⟩, hp, hl⟩
  have HC1 := Hid.intro hc
  have HR1 := Hid.intro ((hf.block _ (.inr rfl)).trans hR0)
  have hr := hv.reps
  have hz : (#[.int .i64 0, .string ⟨#[]⟩, .string ⟨#[]⟩, .slice none 0 0, .slice none 0 0, .slice none 0 0, .slice none 0 0, .slice none 0 0, .int .i64 0, .string ⟨#[]⟩, .int .i64 0, .bool false, .int .i64 0, .string ⟨#[]⟩, .slice none 0 0, .slice none 0 0, .string ⟨#[]⟩, .string ⟨#[]⟩, .slice none 0 0] : Array Value).size = 19 := rfl
  go_wp2_with (first | (with_reducible refine (id (?_ : wpList _ _ _ (Oper.mk _ (Op.load _ _) _ _ _ _ :: _) _ _)); refine wpList_load_cells rfl _ _ rfl _ rfl _ _ _ HC1.out Tryz.underlying96 infoCond hr.2.1 ?_) | (with_reducible refine (id (?_ : wpList _ _ _ (Oper.mk _ (Op.store _ _ _) _ _ _ _ :: _) _ _)); refine wpList_store_row rfl _ _ _ rfl _ _ rfl rfl _ _ HR1.out infoCond rfl hr.2.1 hr.2.2 ?_))
  refine ret_cells rfl rfl (setRow_heap _ _ _ _ _ _ HR1.out) Tryz.underlying96 infoCond hr.2.1 rfl (Post.ok ((hb0.fra (hf.mono fun b hb => .inl hb)).row (by omega) _) hl (hp.row (by omega) _) ?_)
  exact hv.move ⟨by simp, fun b hb _ o => World.cell?_of_block (a := ⟨b, o, none⟩) (setRow_other _ _ _ _ (by simp only; omega))⟩ (fun b _ h => by omega)
end
end Go.Proofs.YtoeodjobggodcaaGreatDoor
/- Rows that closures fill: question, insertion, update. -/
namespace Go.Proofs.YtoeodjobggodcaaGreatDoor
section
open Go.RowKit
def RowA (n B C : Nat) (T : TypeId) (A : Value → Array Value) (el : TypeId) (sz m : Nat) (ds : List Dt) (w : World) (P : Nat → Prop) : Prop :=
 B < C ∧ C < n ∧ n ≤ w.heap.size ∧ ∃ p c vs, w.heap[C]? = some (.cells (A (.slice p m c)) T (0, 0)) ∧ w.ownsRow n el sz (.slice p m c) m vs ∧ reps (fun b => n ≤ b ∧ some b ≠ (Value.slice p m c).ownBlock) w ds vs ∧ ∀ b, P b → b ≠ C ∧ some b ≠ (Value.slice p m c).ownBlock
theorem RowA.stb {n B C : Nat} {T : TypeId} {A : Value → Array Value} {el : TypeId} {sz m : Nat} {ds : List Dt} : Stb B (RowA n B C T A el sz m ds) := by
 rintro w w' P P' ⟨h1, h2, h3, p, c, vs, h4, h5, h6, h7⟩ hb hp
 have h5' : w'.ownsRow n el sz (.slice p m c) m vs := by
  refine ⟨h5.1, ?_⟩
  rcases h5.2 with hn | ⟨g, cap, cur, he, hb1, hgg, rest⟩
  ·exact .inl hn
  ·exact .inr ⟨g, cap, cur, he, hb1, row_bt hb (by omega) hgg, rest⟩
 refine ⟨h1, h2, Nat.le_trans h3 hb.size, p, c, vs, row_bt hb (by omega) h4, h5', reps.move (hb.kp (by omega)) (fun _ _ h => h) _ _ h6, fun b h => ?_⟩
 rcases hp b h with h | h
 ·exact h7 b h
 ·refine ⟨by omega, fun he => ?_⟩
  have := (h5.lt b he.symm).2
  omega
theorem RowA.push {n B C j : Nat} {T : TypeId} {A : Value → Array Value} {el : TypeId} {sz m : Nat} {ds es : List Dt} {W w1 : World} {P : Nat → Prop} {p p' : Option Addr} {c c' : Nat} {vs us : List Value} (hA : ∀ u u', (A u).setIfInBounds j u' = A u') (h1 : B < C) (h2 : C < n) (h3 : n ≤ W.heap.size) (h4 : W.heap[C]? = some (.cells (A (.slice p m c)) T (0, 0))) (h5 : W.ownsRow n el sz (.slice p m c) m vs)
  (h6 : reps (fun b => n ≤ b ∧ some b ≠ (Value.slice p m c).ownBlock) W ds vs) (h7 : ∀ b, P b → b ≠ C ∧ some b ≠ (Value.slice p m c).ownBlock) (hP : Kn B P W) (h8 : reps (fun b => n ≤ b ∧ some b ≠ (Value.slice p m c).ownBlock) W es us)
  (ho : w1.ownsRow n el sz (.slice p' (m + 1) c') (m + 1) (vs ++ us)) (hg : W.grownBy w1 (Value.slice p m c).ownBlock) (hat : (Value.slice p' (m + 1) c').ownBlock = (Value.slice p m c).ownBlock ∨ (Value.slice p' (m + 1) c').ownBlock = some W.heap.size) :
  RowA n B C T A el sz (m + 1) (ds ++ es) (w1.setCell ⟨C, j, none⟩ (.slice p' (m + 1) c')) P ∧ Fr P W (w1.setCell ⟨C, j, none⟩ (.slice p' (m + 1) c')) ∧ w1.heap[C]? = some (.cells (A (.slice p m c)) T (0, 0)) := by
 have hCw : C < W.heap.size := by omega
 have hC1 : w1.heap[C]? = some (.cells (A (.slice p m c)) T (0, 0)) := (hg.block C hCw (own_below h5 (.inl h2))).trans h4
 have hk : Kp (fun b => n ≤ b ∧ some b ≠ (Value.slice p m c).ownBlock) W (w1.setCell ⟨C, j, none⟩ (.slice p' (m + 1) c')) := by
  refine Kp.trans (Kp.grown hg (fun k hk => ?_)) (Kp.set _ _ _ (by simp only; omega))
  intro h
  exact h.2 hk.symm
 have hq : ∀ b, b < W.heap.size → (n ≤ b ∧ some b ≠ (Value.slice p m c).ownBlock) → (n ≤ b ∧ some b ≠ (Value.slice p' (m + 1) c').ownBlock) := fun b hb h => by
  refine ⟨h.1, fun he => ?_⟩
  rcases hat with e | e
  ·exact h.2 (he.trans e)
  ·rw [e] at he
   cases he
   omega
 refine ⟨⟨h1, h2, by have := hg.size; simp; omega, p', c', vs ++ us, ?_, ownsRow_setCell_below ho h2 _, reps.append (reps.move hk hq _ _ h6) (reps.move hk hq _ _ h8), fun b hb => ⟨(h7 b hb).1, fun he => ?_⟩⟩, ?_, hC1⟩
 ·rw [heap_put hC1, hA]
 ·rcases hat with e | e
  ·exact (h7 b hb).2 (he.trans e)
  ·rw [e] at he
   cases he
   have := (hP _ hb).1
   omega
 ·exact ((Fr.refl P W).grown (fun b hb => ⟨(hP b hb).1, (h7 b hb).2⟩) hg).set (fun b hb => (h7 b hb).1) _
def QJ {α : Type} (n B c1 C : Nat) (T : TypeId) (A : Value → Array Value) (el : TypeId) (cs : α → List Dt) (l : List α) (w : World) (P : Nat → Prop) : Prop := Bx B c1 (.pointer (some ⟨B, 0, none⟩)) w ∧ c1 < n ∧ c1 ≠ C ∧ RowA n B C T A el 9 l.length (l.flatMap cs) w P
theorem QJ.stb {α : Type} (n B c1 C : Nat) (T : TypeId) (A : Value → Array Value) (el : TypeId) (cs : α → List Dt) (l : List α) : Stb B (QJ n B c1 C T A el cs l) := fun w w' P P' h hb hp => ⟨h.1.bt hb, h.2.1, h.2.2.1, RowA.stb w w' P P' h.2.2.2 hb hp⟩
def QG {α : Type} (l : List α) (r : List Lx) : Prop := l.length + r.length ≤ 10000
theorem QG.tail {α : Type} (l : List α) (r : List Lx) (h : QG l r) : QG l r.tail := by unfold QG at *; simp; omega
theorem sx_reps {P : Nat → Prop} {w : World} {s : ByteArray} {e : Ex} {p6 p7 : Option Addr} {n6 n7 c6 c7 : Nat} (h6 : rep P w (.sl e.v.l.length (Vt.css e.v.l)) (.slice p6 n6 c6)) (h7 : rep P w (.sl e.a.length (Ex.css e.a)) (.slice p7 n7 c7)) :
  reps P w (dS s :: e.cs) [.string s, .int .i64 e.op, .string e.t, .int .i64 e.v.k, .bool e.v.b, .int .i64 e.v.i, .string e.v.s, .slice p6 n6 c6, .slice p7 n7 c7] := reps.cons (rep.lit rfl) (ex_reps h6 h7)
theorem infoArg' : (Tryz.prog.info? 130).map (fun i => (i.zero, i.size, i.bytes)) = some (some (.agg #[.string ⟨#[]⟩, .int .i64 0, .string ⟨#[]⟩, .int .i64 0, .bool false, .int .i64 0, .string ⟨#[]⟩, .slice none 0 0, .slice none 0 0]), 9, 128) := by kernel_rfl
theorem infoAssign' : (Tryz.prog.info? 101).map (fun i => (i.zero, i.size, i.bytes)) = some (some (.agg #[.string ⟨#[]⟩, .int .i64 0, .string ⟨#[]⟩, .int .i64 0, .bool false, .int .i64 0, .string ⟨#[]⟩, .slice none 0 0, .slice none 0 0]), 9, 128) := by kernel_rfl
theorem run_que1 (caps : Array Value) (w : World) : (callFunc 155 caps).run Tryz.prog w = .ok (.enter 155 caps) w := by simp [go_sem]
set_option maxRecDepth 100000 in
set_option maxHeartbeats 4000000 in
theorem que1_clo {K B o : Nat} (n c1 C : Nat) (A : Value → Array Value) (hA : ∀ u u', (A u).setIfInBounds 18 u' = A u') (hAj : ∀ u, (A u)[18]? = some u) (hCK : K ≤ C) :
  Clo K B o QG (QJ n B c1 C 96 A 130 Ar.cs) 155 #[.pointer (some ⟨C, 0, none⟩), .pointer (some ⟨c1, 0, none⟩)] (fun l r => (argM o r).bd fun t r => .ok (l ++ [t]) r) := by
 refine ⟨run_que1 _, ?_⟩
 rintro P l r w hP hg ⟨h1, h2, h3, h5⟩ h
 show Calls _ _ _ _ (CPost K B o r.length P w _ _ ((argM o r).bd fun t r => .ok (l ++ [t]) r))
 have HT := fun w (h : PAt K w B r o) => Hid.intro (arg_any h)
 have hmo : Tryz.prog.follows .mixedOrders = true := by kernel_rfl
 obtain ⟨x, r0, hr0, -⟩ := gd_cons h.gd
 have hrl : 0 < r.length := by rw [hr0]; simp
 obtain ⟨i0, hi, hz0, hz1, hz2⟩ := info_parts infoArg'
 have d1 := h1.2.2.1
 have HX := Hid.intro h1
 have HV := Hid.intro h5
 obtain ⟨hBE, hEn, hnw, ps, cs, vs, he, hown, hrep, hpa⟩ := h5
 unfold QG at hg
 have hln : l.length ≤ 10000 := by omega
 have e0 : w.cell? ⟨C, 18, none⟩ = some (.slice ps l.length cs) := by rw [(heap_cell he 18).1]; exact hAj _
 have hEw : C < w.heap.size := by omega
 clear hr0
 cases hm : argM o r with
 | bad q =>
  rw [hm] at HT
  rw [bd_bad]
  clear hm
  go_enter Tryz.func155, Tryz.ntmps155
  go_wp2_with fail
  refine wp_region_held_drew (S := fun w' => w'.cell? ⟨c1, 0, none⟩ = some (.pointer (some ⟨B, 0, none⟩))) hmo d1 (fun hS => ?_)
  refine tq 0 2 (.pointer (some ⟨C, 18, none⟩)) hS ?_
  simp only [n3]
  refine tq 2 4 (.pointer (some ⟨B, 0, none⟩)) hS ?_
  simp only [n3]
  refine on2 1 3 rfl (fun K' hK => ?_) rfl (fun K' hK => ?_)
  ·go_simp
   refine hK.out _ _ (hS) (fun hS => ?_)
   clear hK K'
   (try simp only [Act.put, n3])
   refine on1 3 rfl (fun K' hK => ?_)
   go_simp
   refine (HT w.drew (h.via (Below.refl _ _).drew)).out.mono ?_
   rintro e w4 ⟨hb4, rfl⟩
   exact ⟨rfl, ((Bt.refl B w).drew.trans hb4).fr hP, rfl⟩
  ·go_simp
   refine (HT w.drew (h.via (Below.refl _ _).drew)).out.mono ?_
   rintro e w4 ⟨hb4, rfl⟩
   exact ⟨rfl, ((Bt.refl B w).drew.trans hb4).fr hP, rfl⟩
 | ok t r1 =>
  rw [hm] at HT
  rw [bd_ok]
  clear hm
  go_enter Tryz.func155, Tryz.ntmps155
  go_wp2_with fail
  refine wp_region_held_drew (S := fun w' => w'.cell? ⟨c1, 0, none⟩ = some (.pointer (some ⟨B, 0, none⟩))) hmo d1 (fun hS => ?_)
  refine tq 0 2 (.pointer (some ⟨C, 18, none⟩)) hS ?_
  simp only [n3]
  refine tq 2 4 (.pointer (some ⟨B, 0, none⟩)) hS ?_
  simp only [n3]
  refine on2 1 3 rfl (fun K' hK => ?_) rfl (fun K' hK => ?_)
  ·go_simp
   refine hK.out _ _ (hS) (fun hS => ?_)
   clear hK K'
   (try simp only [Act.put, n3])
   refine on1 3 rfl (fun K' hK => ?_)
   go_simp
   refine (HT w.drew (h.via (Below.refl _ _).drew)).out.mono ?_
   rintro e w4 ⟨hb4, hl4, hp4, v4, rfl, p6, n6, c6, p7, n7, c7, rfl, z6, z7⟩
   have hbt4 : Bt B w w4 := (Bt.refl B w).drew.trans hb4
   have hx4 := HX.out.bt hbt4
   have hV4 := RowA.stb _ _ _ P HV.out hbt4 (fun _ h => .inl h)
   obtain ⟨-, -, hnw4, ps4, cs4, vs4, he4, hown4, hrep4, hpa4⟩ := hV4
   obtain ⟨rfl, rfl⟩ : ps4 = ps ∧ cs4 = cs := by have h8 := (row_bt hbt4 (by omega) he).symm.trans he4; have h9 := congrArg (fun o => match o with | some (Obj.cells a _ _) => a[18]? | _ => none) h8; simp only [hAj, Option.some.injEq, Value.slice.injEq, true_and] at h9; exact ⟨h9.1.symm, h9.2.symm⟩
   have hc4 := hx4.2.2.1
   have hs4 : w.heap.size ≤ w4.heap.size := hb4.size
   go_wp2_with fail
   refine hK.out _ _ (hc4) (fun hS => ?_)
   clear hK K'
   (try simp only [Act.put, n3])
   refine on1 4 rfl (fun K' hK => ?_)
   go_simp
   go_wp2_with fail
   refine hK.out _ _ (((hx4.bt ((Bt.refl B w4).alloc _)).2.2.1)) (fun hS => ?_)
   clear hK K'
   (try simp only [Act.put, n3])
   have hal : w4.heap.size < (w4.alloc (.cells #[.string t.v, .int .i64 t.e.op, .string t.e.t, .int .i64 t.e.v.k, .bool t.e.v.b, .int .i64 t.e.v.i, .string t.e.v.s, .slice p6 n6 c6, .slice p7 n7 c7] 130)).heap.size := by simp
   refine on1 5 rfl (fun K' hK => ?_)
   rw [if_pos (by rfl)]
   refine wp_append_own _ _ 94 rfl n 130 i0 _ 9 128 Tryz.underlying94 hi hz0 hz1 hz2 rfl (by decide) _ _ _ rfl (hown4.alloc _) ⟨w4.heap.size, 0, none⟩ 1 1 [.string t.v, .int .i64 t.e.op, .string t.e.t, .int .i64 t.e.v.k, .bool t.e.v.b, .int .i64 t.e.v.i, .string t.e.v.s, .slice p6 n6 c6, .slice p7 n7 c7] rfl rfl (fun j u hj => by rw [addr_add, Nat.zero_add, (heap_cell (heap_alloc_new w4 _) j).1, ← hj]; simp) (by simp [Value.oneCell']) (by unfold maxLen; omega) (by omega) (by simp; omega) (fun sv' w5 hown5 hgr5 hat5 => ?_)
   have hq : ∀ b, b < w4.heap.size → w.heap.size ≤ b → (n ≤ b ∧ some b ≠ Value.ownBlock (.slice ps4 l.length cs4)) := fun b hb h => ⟨by omega, fun he => by have := (hown.lt b he.symm).2; omega⟩
   have htr := sx_reps (s := t.v) (rep.move (Kp.alloc w4 (.cells #[.string t.v, .int .i64 t.e.op, .string t.e.t, .int .i64 t.e.v.k, .bool t.e.v.b, .int .i64 t.e.v.i, .string t.e.v.s, .slice p6 n6 c6, .slice p7 n7 c7] 130)) (fun b hb h => hq b hb h) _ _ z6) (rep.move (Kp.alloc w4 (.cells #[.string t.v, .int .i64 t.e.op, .string t.e.t, .int .i64 t.e.v.k, .bool t.e.v.b, .int .i64 t.e.v.i, .string t.e.v.s, .slice p6 n6 c6, .slice p7 n7 c7] 130)) (fun b hb h => hq b hb h) _ _ z7)
   obtain ⟨g5, k5, rfl⟩ := ownsRow_succ hown5
   obtain ⟨hV5, hF5, hE5⟩ := RowA.push (j := 18) hA hBE hEn (by simp; omega) ((heap_alloc_old w4 _ (by omega)).trans he4) (hown4.alloc _) (reps.move (Kp.alloc w4 _) (fun _ _ h => h) _ _ hrep4) hpa4 ((hP.up hs4).up (by simp)) htr hown5 hgr5 hat5
   have hx5 := (hx4.bt ((Bt.refl B w4).alloc _)).grown hgr5 (own_below hown4 (.inl h2))
   have e5 : w5.cell? ⟨C, 18, none⟩ = some (.slice ps4 l.length cs4) := by rw [(heap_cell hE5 18).1]; exact hAj _
   have f5 : w5.frozen? ⟨C, 18, none⟩ = false := (heap_cell hE5 18).2
   refine hK.out _ _ (hx5.2.2.1) (fun hS => ?_)
   clear hK K'
   (try simp only [Act.put, List.setIfInBounds_toArray])
   refine tq 6 8 (.pointer (some ⟨C, 18, none⟩)) hS ?_
   simp only [n3]
   refine on1 7 rfl (fun K' hK => ?_)
   go_simp
   go_wp2_with fail
   refine hK.out _ _ ((hx5.set h3).2.2.1) (fun hS => ?_)
   clear hK K'
   (try simp only [Act.put, n3])
   refine wpAnyH_done (by kernel_rfl) ?_ _
   go_wp2_with fail
   go_end0
   refine ⟨(((hbt4.fr hP).alloc (hP.up hs4 · · |>.1) _).trans hF5), rfl, by unfold QG; simp; omega, ⟨hx5.set h3, h2, h3, by simpa [List.flatMap_append, Ar.cs] using hV5⟩, ((hp4.via (below_al (Below.refl _ _) _)).grown hgr5 (fun k hk => by have := (hown4.lt k hk).1; omega)).set hCK _ _, by omega⟩
  ·go_simp
   refine (HT w.drew (h.via (Below.refl _ _).drew)).out.mono ?_
   rintro e w4 ⟨hb4, hl4, hp4, v4, rfl, p6, n6, c6, p7, n7, c7, rfl, z6, z7⟩
   have hbt4 : Bt B w w4 := (Bt.refl B w).drew.trans hb4
   have hx4 := HX.out.bt hbt4
   have hV4 := RowA.stb _ _ _ P HV.out hbt4 (fun _ h => .inl h)
   obtain ⟨-, -, hnw4, ps4, cs4, vs4, he4, hown4, hrep4, hpa4⟩ := hV4
   obtain ⟨rfl, rfl⟩ : ps4 = ps ∧ cs4 = cs := by have h8 := (row_bt hbt4 (by omega) he).symm.trans he4; have h9 := congrArg (fun o => match o with | some (Obj.cells a _ _) => a[18]? | _ => none) h8; simp only [hAj, Option.some.injEq, Value.slice.injEq, true_and] at h9; exact ⟨h9.1.symm, h9.2.symm⟩
   have hc4 := hx4.2.2.1
   have hs4 : w.heap.size ≤ w4.heap.size := hb4.size
   go_wp2_with fail
   refine hK.out _ _ (hc4) (fun hS => ?_)
   clear hK K'
   (try simp only [Act.put, n3])
   refine on2 1 4 rfl (fun K' hK => ?_) rfl (fun K' hK => ?_)
   ·have e04 : w4.cell? ⟨C, 18, none⟩ = some (.slice ps4 l.length cs4) := by rw [(heap_cell he4 18).1]; exact hAj _
    have hEw4 : C < w4.heap.size := by omega
    go_simp
    refine hK.out _ _ (hS) (fun hS => ?_)
    clear hK K'
    (try simp only [Act.put, n3])
    refine on1 4 rfl (fun K' hK => ?_)
    go_simp
    go_wp2_with fail
    refine hK.out _ _ (((hx4.bt ((Bt.refl B w4).alloc _)).2.2.1)) (fun hS => ?_)
    clear hK K'
    (try simp only [Act.put, n3])
    have hal : w4.heap.size < (w4.alloc (.cells #[.string t.v, .int .i64 t.e.op, .string t.e.t, .int .i64 t.e.v.k, .bool t.e.v.b, .int .i64 t.e.v.i, .string t.e.v.s, .slice p6 n6 c6, .slice p7 n7 c7] 130)).heap.size := by simp
    refine on1 5 rfl (fun K' hK => ?_)
    rw [if_pos (by rfl)]
    refine wp_append_own _ _ 94 rfl n 130 i0 _ 9 128 Tryz.underlying94 hi hz0 hz1 hz2 rfl (by decide) _ _ _ rfl (hown4.alloc _) ⟨w4.heap.size, 0, none⟩ 1 1 [.string t.v, .int .i64 t.e.op, .string t.e.t, .int .i64 t.e.v.k, .bool t.e.v.b, .int .i64 t.e.v.i, .string t.e.v.s, .slice p6 n6 c6, .slice p7 n7 c7] rfl rfl (fun j u hj => by rw [addr_add, Nat.zero_add, (heap_cell (heap_alloc_new w4 _) j).1, ← hj]; simp) (by simp [Value.oneCell']) (by unfold maxLen; omega) (by omega) (by simp; omega) (fun sv' w5 hown5 hgr5 hat5 => ?_)
    have hq : ∀ b, b < w4.heap.size → w.heap.size ≤ b → (n ≤ b ∧ some b ≠ Value.ownBlock (.slice ps4 l.length cs4)) := fun b hb h => ⟨by omega, fun he => by have := (hown.lt b he.symm).2; omega⟩
    have htr := sx_reps (s := t.v) (rep.move (Kp.alloc w4 (.cells #[.string t.v, .int .i64 t.e.op, .string t.e.t, .int .i64 t.e.v.k, .bool t.e.v.b, .int .i64 t.e.v.i, .string t.e.v.s, .slice p6 n6 c6, .slice p7 n7 c7] 130)) (fun b hb h => hq b hb h) _ _ z6) (rep.move (Kp.alloc w4 (.cells #[.string t.v, .int .i64 t.e.op, .string t.e.t, .int .i64 t.e.v.k, .bool t.e.v.b, .int .i64 t.e.v.i, .string t.e.v.s, .slice p6 n6 c6, .slice p7 n7 c7] 130)) (fun b hb h => hq b hb h) _ _ z7)
    obtain ⟨g5, k5, rfl⟩ := ownsRow_succ hown5
    obtain ⟨hV5, hF5, hE5⟩ := RowA.push (j := 18) hA hBE hEn (by simp; omega) ((heap_alloc_old w4 _ (by omega)).trans he4) (hown4.alloc _) (reps.move (Kp.alloc w4 _) (fun _ _ h => h) _ _ hrep4) hpa4 ((hP.up hs4).up (by simp)) htr hown5 hgr5 hat5
    have hx5 := (hx4.bt ((Bt.refl B w4).alloc _)).grown hgr5 (own_below hown4 (.inl h2))
    have e5 : w5.cell? ⟨C, 18, none⟩ = some (.slice ps4 l.length cs4) := by rw [(heap_cell hE5 18).1]; exact hAj _
    have f5 : w5.frozen? ⟨C, 18, none⟩ = false := (heap_cell hE5 18).2
    refine hK.out _ _ (hx5.2.2.1) (fun hS => ?_)
    clear hK K'
    (try simp only [Act.put, List.setIfInBounds_toArray])
    refine tq 6 8 (.pointer (some ⟨C, 18, none⟩)) hS ?_
    simp only [n3]
    refine on1 7 rfl (fun K' hK => ?_)
    go_simp
    go_wp2_with fail
    refine hK.out _ _ ((hx5.set h3).2.2.1) (fun hS => ?_)
    clear hK K'
    (try simp only [Act.put, n3])
    refine wpAnyH_done (by kernel_rfl) ?_ _
    go_wp2_with fail
    go_end0
    refine ⟨(((hbt4.fr hP).alloc (hP.up hs4 · · |>.1) _).trans hF5), rfl, by unfold QG; simp; omega, ⟨hx5.set h3, h2, h3, by simpa [List.flatMap_append, Ar.cs] using hV5⟩, ((hp4.via (below_al (Below.refl _ _) _)).grown hgr5 (fun k hk => by have := (hown4.lt k hk).1; omega)).set hCK _ _, by omega⟩
   ·go_simp
    go_wp2_with fail
    refine hK.out _ _ (((hx4.bt ((Bt.refl B w4).alloc _)).2.2.1)) (fun hS => ?_)
    clear hK K'
    (try simp only [Act.put, n3])
    refine on1 1 rfl (fun K' hK => ?_)
    have e04 : w4.cell? ⟨C, 18, none⟩ = some (.slice ps4 l.length cs4) := by rw [(heap_cell he4 18).1]; exact hAj _
    have hEw4 : C < w4.heap.size := by omega
    go_simp
    refine hK.out _ _ (((hx4.bt ((Bt.refl B w4).alloc _)).2.2.1)) (fun hS => ?_)
    clear hK K'
    (try simp only [Act.put, n3])
    have hal : w4.heap.size < (w4.alloc (.cells #[.string t.v, .int .i64 t.e.op, .string t.e.t, .int .i64 t.e.v.k, .bool t.e.v.b, .int .i64 t.e.v.i, .string t.e.v.s, .slice p6 n6 c6, .slice p7 n7 c7] 130)).heap.size := by simp
    refine on1 5 rfl (fun K' hK => ?_)
    rw [if_pos (by rfl)]
    refine wp_append_own _ _ 94 rfl n 130 i0 _ 9 128 Tryz.underlying94 hi hz0 hz1 hz2 rfl (by decide) _ _ _ rfl (hown4.alloc _) ⟨w4.heap.size, 0, none⟩ 1 1 [.string t.v, .int .i64 t.e.op, .string t.e.t, .int .i64 t.e.v.k, .bool t.e.v.b, .int .i64 t.e.v.i, .string t.e.v.s, .slice p6 n6 c6, .slice p7 n7 c7] rfl rfl (fun j u hj => by rw [addr_add, Nat.zero_add, (heap_cell (heap_alloc_new w4 _) j).1, ← hj]; simp) (by simp [Value.oneCell']) (by unfold maxLen; omega) (by omega) (by simp; omega) (fun sv' w5 hown5 hgr5 hat5 => ?_)
    have hq : ∀ b, b < w4.heap.size → w.heap.size ≤ b → (n ≤ b ∧ some b ≠ Value.ownBlock (.slice ps4 l.length cs4)) := fun b hb h => ⟨by omega, fun he => by have := (hown.lt b he.symm).2; omega⟩
    have htr := sx_reps (s := t.v) (rep.move (Kp.alloc w4 (.cells #[.string t.v, .int .i64 t.e.op, .string t.e.t, .int .i64 t.e.v.k, .bool t.e.v.b, .int .i64 t.e.v.i, .string t.e.v.s, .slice p6 n6 c6, .slice p7 n7 c7] 130)) (fun b hb h => hq b hb h) _ _ z6) (rep.move (Kp.alloc w4 (.cells #[.string t.v, .int .i64 t.e.op, .string t.e.t, .int .i64 t.e.v.k, .bool t.e.v.b, .int .i64 t.e.v.i, .string t.e.v.s, .slice p6 n6 c6, .slice p7 n7 c7] 130)) (fun b hb h => hq b hb h) _ _ z7)
    obtain ⟨g5, k5, rfl⟩ := ownsRow_succ hown5
    obtain ⟨hV5, hF5, hE5⟩ := RowA.push (j := 18) hA hBE hEn (by simp; omega) ((heap_alloc_old w4 _ (by omega)).trans he4) (hown4.alloc _) (reps.move (Kp.alloc w4 _) (fun _ _ h => h) _ _ hrep4) hpa4 ((hP.up hs4).up (by simp)) htr hown5 hgr5 hat5
    have hx5 := (hx4.bt ((Bt.refl B w4).alloc _)).grown hgr5 (own_below hown4 (.inl h2))
    have e5 : w5.cell? ⟨C, 18, none⟩ = some (.slice ps4 l.length cs4) := by rw [(heap_cell hE5 18).1]; exact hAj _
    have f5 : w5.frozen? ⟨C, 18, none⟩ = false := (heap_cell hE5 18).2
    refine hK.out _ _ (hx5.2.2.1) (fun hS => ?_)
    clear hK K'
    (try simp only [Act.put, List.setIfInBounds_toArray])
    refine tq 6 8 (.pointer (some ⟨C, 18, none⟩)) hS ?_
    simp only [n3]
    refine on1 7 rfl (fun K' hK => ?_)
    go_simp
    go_wp2_with fail
    refine hK.out _ _ ((hx5.set h3).2.2.1) (fun hS => ?_)
    clear hK K'
    (try simp only [Act.put, n3])
    refine wpAnyH_done (by kernel_rfl) ?_ _
    go_wp2_with fail
    go_end0
    refine ⟨(((hbt4.fr hP).alloc (hP.up hs4 · · |>.1) _).trans hF5), rfl, by unfold QG; simp; omega, ⟨hx5.set h3, h2, h3, by simpa [List.flatMap_append, Ar.cs] using hV5⟩, ((hp4.via (below_al (Below.refl _ _) _)).grown hgr5 (fun k hk => by have := (hown4.lt k hk).1; omega)).set hCK _ _, by omega⟩
end
end Go.Proofs.YtoeodjobggodcaaGreatDoor
/- insertion, update: their closures. -/
namespace Go.Proofs.YtoeodjobggodcaaGreatDoor
section
open Go.RowKit
theorem run_ins1 (caps : Array Value) (w : World) : (callFunc 170 caps).run Tryz.prog w = .ok (.enter 170 caps) w := by simp [go_sem]
set_option maxRecDepth 100000 in
set_option maxHeartbeats 4000000 in
theorem ins1_clo {K B o : Nat} (n c1 C : Nat) (A : Value → Array Value) (hA : ∀ u u', (A u).setIfInBounds 2 u' = A u') (hAj : ∀ u, (A u)[2]? = some u) (hCK : K ≤ C) :
  Clo K B o QG (QJ n B c1 C 99 A 101 As.cs) 170 #[.pointer (some ⟨C, 0, none⟩), .pointer (some ⟨c1, 0, none⟩)] (fun l r => (assignM o r).bd fun t r => .ok (l ++ [t]) r) := by
 refine ⟨run_ins1 _, ?_⟩
 rintro P l r w hP hg ⟨h1, h2, h3, h5⟩ h
 show Calls _ _ _ _ (CPost K B o r.length P w _ _ ((assignM o r).bd fun t r => .ok (l ++ [t]) r))
 have HT := fun w (h : PAt K w B r o) => Hid.intro (assign_any h)
 have hmo : Tryz.prog.follows .mixedOrders = true := by kernel_rfl
 obtain ⟨x, r0, hr0, -⟩ := gd_cons h.gd
 have hrl : 0 < r.length := by rw [hr0]; simp
 obtain ⟨i0, hi, hz0, hz1, hz2⟩ := info_parts infoAssign'
 have d1 := h1.2.2.1
 have HX := Hid.intro h1
 have HV := Hid.intro h5
 obtain ⟨hBE, hEn, hnw, ps, cs, vs, he, hown, hrep, hpa⟩ := h5
 unfold QG at hg
 have hln : l.length ≤ 10000 := by omega
 have e0 : w.cell? ⟨C, 2, none⟩ = some (.slice ps l.length cs) := by rw [(heap_cell he 2).1]; exact hAj _
 have hEw : C < w.heap.size := by omega
 clear hr0
 cases hm : assignM o r with
 | bad q =>
  rw [hm] at HT
  rw [bd_bad]
  clear hm
  go_enter Tryz.func170, Tryz.ntmps170
  go_wp2_with fail
  refine wp_region_held_drew (S := fun w' => w'.cell? ⟨c1, 0, none⟩ = some (.pointer (some ⟨B, 0, none⟩))) hmo d1 (fun hS => ?_)
  refine tq 0 2 (.pointer (some ⟨C, 2, none⟩)) hS ?_
  simp only [n3]
  refine tq 2 4 (.pointer (some ⟨B, 0, none⟩)) hS ?_
  simp only [n3]
  refine on2 1 3 rfl (fun K' hK => ?_) rfl (fun K' hK => ?_)
  ·go_simp
   refine hK.out _ _ (hS) (fun hS => ?_)
   clear hK K'
   (try simp only [Act.put, n3])
   refine on1 3 rfl (fun K' hK => ?_)
   go_simp
   refine (HT w.drew (h.via (Below.refl _ _).drew)).out.mono ?_
   rintro e w4 ⟨hb4, rfl⟩
   exact ⟨rfl, ((Bt.refl B w).drew.trans hb4).fr hP, rfl⟩
  ·go_simp
   refine (HT w.drew (h.via (Below.refl _ _).drew)).out.mono ?_
   rintro e w4 ⟨hb4, rfl⟩
   exact ⟨rfl, ((Bt.refl B w).drew.trans hb4).fr hP, rfl⟩
 | ok t r1 =>
  rw [hm] at HT
  rw [bd_ok]
  clear hm
  go_enter Tryz.func170, Tryz.ntmps170
  go_wp2_with fail
  refine wp_region_held_drew (S := fun w' => w'.cell? ⟨c1, 0, none⟩ = some (.pointer (some ⟨B, 0, none⟩))) hmo d1 (fun hS => ?_)
  refine tq 0 2 (.pointer (some ⟨C, 2, none⟩)) hS ?_
  simp only [n3]
  refine tq 2 4 (.pointer (some ⟨B, 0, none⟩)) hS ?_
  simp only [n3]
  refine on2 1 3 rfl (fun K' hK => ?_) rfl (fun K' hK => ?_)
  ·go_simp
   refine hK.out _ _ (hS) (fun hS => ?_)
   clear hK K'
   (try simp only [Act.put, n3])
   refine on1 3 rfl (fun K' hK => ?_)
   go_simp
   refine (HT w.drew (h.via (Below.refl _ _).drew)).out.mono ?_
   rintro e w4 ⟨hb4, hl4, hp4, v4, rfl, p6, n6, c6, p7, n7, c7, rfl, z6, z7⟩
   have hbt4 : Bt B w w4 := (Bt.refl B w).drew.trans hb4
   have hx4 := HX.out.bt hbt4
   have hV4 := RowA.stb _ _ _ P HV.out hbt4 (fun _ h => .inl h)
   obtain ⟨-, -, hnw4, ps4, cs4, vs4, he4, hown4, hrep4, hpa4⟩ := hV4
   obtain ⟨rfl, rfl⟩ : ps4 = ps ∧ cs4 = cs := by have h8 := (row_bt hbt4 (by omega) he).symm.trans he4; have h9 := congrArg (fun o => match o with | some (Obj.cells a _ _) => a[2]? | _ => none) h8; simp only [hAj, Option.some.injEq, Value.slice.injEq, true_and] at h9; exact ⟨h9.1.symm, h9.2.symm⟩
   have hc4 := hx4.2.2.1
   have hs4 : w.heap.size ≤ w4.heap.size := hb4.size
   go_wp2_with fail
   refine hK.out _ _ (hc4) (fun hS => ?_)
   clear hK K'
   (try simp only [Act.put, n3])
   refine on1 4 rfl (fun K' hK => ?_)
   go_simp
   go_wp2_with fail
   refine hK.out _ _ (((hx4.bt ((Bt.refl B w4).alloc _)).2.2.1)) (fun hS => ?_)
   clear hK K'
   (try simp only [Act.put, n3])
   have hal : w4.heap.size < (w4.alloc (.cells #[.string t.f, .int .i64 t.e.op, .string t.e.t, .int .i64 t.e.v.k, .bool t.e.v.b, .int .i64 t.e.v.i, .string t.e.v.s, .slice p6 n6 c6, .slice p7 n7 c7] 101)).heap.size := by simp
   refine on1 5 rfl (fun K' hK => ?_)
   rw [if_pos (by rfl)]
   refine wp_append_own _ _ 97 rfl n 101 i0 _ 9 128 Tryz.underlying97 hi hz0 hz1 hz2 rfl (by decide) _ _ _ rfl (hown4.alloc _) ⟨w4.heap.size, 0, none⟩ 1 1 [.string t.f, .int .i64 t.e.op, .string t.e.t, .int .i64 t.e.v.k, .bool t.e.v.b, .int .i64 t.e.v.i, .string t.e.v.s, .slice p6 n6 c6, .slice p7 n7 c7] rfl rfl (fun j u hj => by rw [addr_add, Nat.zero_add, (heap_cell (heap_alloc_new w4 _) j).1, ← hj]; simp) (by simp [Value.oneCell']) (by unfold maxLen; omega) (by omega) (by simp; omega) (fun sv' w5 hown5 hgr5 hat5 => ?_)
   have hq : ∀ b, b < w4.heap.size → w.heap.size ≤ b → (n ≤ b ∧ some b ≠ Value.ownBlock (.slice ps4 l.length cs4)) := fun b hb h => ⟨by omega, fun he => by have := (hown.lt b he.symm).2; omega⟩
   have htr := sx_reps (s := t.f) (rep.move (Kp.alloc w4 (.cells #[.string t.f, .int .i64 t.e.op, .string t.e.t, .int .i64 t.e.v.k, .bool t.e.v.b, .int .i64 t.e.v.i, .string t.e.v.s, .slice p6 n6 c6, .slice p7 n7 c7] 101)) (fun b hb h => hq b hb h) _ _ z6) (rep.move (Kp.alloc w4 (.cells #[.string t.f, .int .i64 t.e.op, .string t.e.t, .int .i64 t.e.v.k, .bool t.e.v.b, .int .i64 t.e.v.i, .string t.e.v.s, .slice p6 n6 c6, .slice p7 n7 c7] 101)) (fun b hb h => hq b hb h) _ _ z7)
   obtain ⟨g5, k5, rfl⟩ := ownsRow_succ hown5
   obtain ⟨hV5, hF5, hE5⟩ := RowA.push (j := 2) hA hBE hEn (by simp; omega) ((heap_alloc_old w4 _ (by omega)).trans he4) (hown4.alloc _) (reps.move (Kp.alloc w4 _) (fun _ _ h => h) _ _ hrep4) hpa4 ((hP.up hs4).up (by simp)) htr hown5 hgr5 hat5
   have hx5 := (hx4.bt ((Bt.refl B w4).alloc _)).grown hgr5 (own_below hown4 (.inl h2))
   have e5 : w5.cell? ⟨C, 2, none⟩ = some (.slice ps4 l.length cs4) := by rw [(heap_cell hE5 2).1]; exact hAj _
   have f5 : w5.frozen? ⟨C, 2, none⟩ = false := (heap_cell hE5 2).2
   refine hK.out _ _ (hx5.2.2.1) (fun hS => ?_)
   clear hK K'
   (try simp only [Act.put, List.setIfInBounds_toArray])
   refine tq 6 8 (.pointer (some ⟨C, 2, none⟩)) hS ?_
   simp only [n3]
   refine on1 7 rfl (fun K' hK => ?_)
   go_simp
   go_wp2_with fail
   refine hK.out _ _ ((hx5.set h3).2.2.1) (fun hS => ?_)
   clear hK K'
   (try simp only [Act.put, n3])
   refine wpAnyH_done (by kernel_rfl) ?_ _
   go_wp2_with fail
   go_end0
   refine ⟨(((hbt4.fr hP).alloc (hP.up hs4 · · |>.1) _).trans hF5), rfl, by unfold QG; simp; omega, ⟨hx5.set h3, h2, h3, by simpa [List.flatMap_append, As.cs] using hV5⟩, ((hp4.via (below_al (Below.refl _ _) _)).grown hgr5 (fun k hk => by have := (hown4.lt k hk).1; omega)).set hCK _ _, by omega⟩
  ·go_simp
   refine (HT w.drew (h.via (Below.refl _ _).drew)).out.mono ?_
   rintro e w4 ⟨hb4, hl4, hp4, v4, rfl, p6, n6, c6, p7, n7, c7, rfl, z6, z7⟩
   have hbt4 : Bt B w w4 := (Bt.refl B w).drew.trans hb4
   have hx4 := HX.out.bt hbt4
   have hV4 := RowA.stb _ _ _ P HV.out hbt4 (fun _ h => .inl h)
   obtain ⟨-, -, hnw4, ps4, cs4, vs4, he4, hown4, hrep4, hpa4⟩ := hV4
   obtain ⟨rfl, rfl⟩ : ps4 = ps ∧ cs4 = cs := by have h8 := (row_bt hbt4 (by omega) he).symm.trans he4; have h9 := congrArg (fun o => match o with | some (Obj.cells a _ _) => a[2]? | _ => none) h8; simp only [hAj, Option.some.injEq, Value.slice.injEq, true_and] at h9; exact ⟨h9.1.symm, h9.2.symm⟩
   have hc4 := hx4.2.2.1
   have hs4 : w.heap.size ≤ w4.heap.size := hb4.size
   go_wp2_with fail
   refine hK.out _ _ (hc4) (fun hS => ?_)
   clear hK K'
   (try simp only [Act.put, n3])
   refine on2 1 4 rfl (fun K' hK => ?_) rfl (fun K' hK => ?_)
   ·have e04 : w4.cell? ⟨C, 2, none⟩ = some (.slice ps4 l.length cs4) := by rw [(heap_cell he4 2).1]; exact hAj _
    have hEw4 : C < w4.heap.size := by omega
    go_simp
    refine hK.out _ _ (hS) (fun hS => ?_)
    clear hK K'
    (try simp only [Act.put, n3])
    refine on1 4 rfl (fun K' hK => ?_)
    go_simp
    go_wp2_with fail
    refine hK.out _ _ (((hx4.bt ((Bt.refl B w4).alloc _)).2.2.1)) (fun hS => ?_)
    clear hK K'
    (try simp only [Act.put, n3])
    have hal : w4.heap.size < (w4.alloc (.cells #[.string t.f, .int .i64 t.e.op, .string t.e.t, .int .i64 t.e.v.k, .bool t.e.v.b, .int .i64 t.e.v.i, .string t.e.v.s, .slice p6 n6 c6, .slice p7 n7 c7] 101)).heap.size := by simp
    refine on1 5 rfl (fun K' hK => ?_)
    rw [if_pos (by rfl)]
    refine wp_append_own _ _ 97 rfl n 101 i0 _ 9 128 Tryz.underlying97 hi hz0 hz1 hz2 rfl (by decide) _ _ _ rfl (hown4.alloc _) ⟨w4.heap.size, 0, none⟩ 1 1 [.string t.f, .int .i64 t.e.op, .string t.e.t, .int .i64 t.e.v.k, .bool t.e.v.b, .int .i64 t.e.v.i, .string t.e.v.s, .slice p6 n6 c6, .slice p7 n7 c7] rfl rfl (fun j u hj => by rw [addr_add, Nat.zero_add, (heap_cell (heap_alloc_new w4 _) j).1, ← hj]; simp) (by simp [Value.oneCell']) (by unfold maxLen; omega) (by omega) (by simp; omega) (fun sv' w5 hown5 hgr5 hat5 => ?_)
    have hq : ∀ b, b < w4.heap.size → w.heap.size ≤ b → (n ≤ b ∧ some b ≠ Value.ownBlock (.slice ps4 l.length cs4)) := fun b hb h => ⟨by omega, fun he => by have := (hown.lt b he.symm).2; omega⟩
    have htr := sx_reps (s := t.f) (rep.move (Kp.alloc w4 (.cells #[.string t.f, .int .i64 t.e.op, .string t.e.t, .int .i64 t.e.v.k, .bool t.e.v.b, .int .i64 t.e.v.i, .string t.e.v.s, .slice p6 n6 c6, .slice p7 n7 c7] 101)) (fun b hb h => hq b hb h) _ _ z6) (rep.move (Kp.alloc w4 (.cells #[.string t.f, .int .i64 t.e.op, .string t.e.t, .int .i64 t.e.v.k, .bool t.e.v.b, .int .i64 t.e.v.i, .string t.e.v.s, .slice p6 n6 c6, .slice p7 n7 c7] 101)) (fun b hb h => hq b hb h) _ _ z7)
    obtain ⟨g5, k5, rfl⟩ := ownsRow_succ hown5
    obtain ⟨hV5, hF5, hE5⟩ := RowA.push (j := 2) hA hBE hEn (by simp; omega) ((heap_alloc_old w4 _ (by omega)).trans he4) (hown4.alloc _) (reps.move (Kp.alloc w4 _) (fun _ _ h => h) _ _ hrep4) hpa4 ((hP.up hs4).up (by simp)) htr hown5 hgr5 hat5
    have hx5 := (hx4.bt ((Bt.refl B w4).alloc _)).grown hgr5 (own_below hown4 (.inl h2))
    have e5 : w5.cell? ⟨C, 2, none⟩ = some (.slice ps4 l.length cs4) := by rw [(heap_cell hE5 2).1]; exact hAj _
    have f5 : w5.frozen? ⟨C, 2, none⟩ = false := (heap_cell hE5 2).2
    refine hK.out _ _ (hx5.2.2.1) (fun hS => ?_)
    clear hK K'
    (try simp only [Act.put, List.setIfInBounds_toArray])
    refine tq 6 8 (.pointer (some ⟨C, 2, none⟩)) hS ?_
    simp only [n3]
    refine on1 7 rfl (fun K' hK => ?_)
    go_simp
    go_wp2_with fail
    refine hK.out _ _ ((hx5.set h3).2.2.1) (fun hS => ?_)
    clear hK K'
    (try simp only [Act.put, n3])
    refine wpAnyH_done (by kernel_rfl) ?_ _
    go_wp2_with fail
    go_end0
    refine ⟨(((hbt4.fr hP).alloc (hP.up hs4 · · |>.1) _).trans hF5), rfl, by unfold QG; simp; omega, ⟨hx5.set h3, h2, h3, by simpa [List.flatMap_append, As.cs] using hV5⟩, ((hp4.via (below_al (Below.refl _ _) _)).grown hgr5 (fun k hk => by have := (hown4.lt k hk).1; omega)).set hCK _ _, by omega⟩
   ·go_simp
    go_wp2_with fail
    refine hK.out _ _ (((hx4.bt ((Bt.refl B w4).alloc _)).2.2.1)) (fun hS => ?_)
    clear hK K'
    (try simp only [Act.put, n3])
    refine on1 1 rfl (fun K' hK => ?_)
    have e04 : w4.cell? ⟨C, 2, none⟩ = some (.slice ps4 l.length cs4) := by rw [(heap_cell he4 2).1]; exact hAj _
    have hEw4 : C < w4.heap.size := by omega
    go_simp
    refine hK.out _ _ (((hx4.bt ((Bt.refl B w4).alloc _)).2.2.1)) (fun hS => ?_)
    clear hK K'
    (try simp only [Act.put, n3])
    have hal : w4.heap.size < (w4.alloc (.cells #[.string t.f, .int .i64 t.e.op, .string t.e.t, .int .i64 t.e.v.k, .bool t.e.v.b, .int .i64 t.e.v.i, .string t.e.v.s, .slice p6 n6 c6, .slice p7 n7 c7] 101)).heap.size := by simp
    refine on1 5 rfl (fun K' hK => ?_)
    rw [if_pos (by rfl)]
    refine wp_append_own _ _ 97 rfl n 101 i0 _ 9 128 Tryz.underlying97 hi hz0 hz1 hz2 rfl (by decide) _ _ _ rfl (hown4.alloc _) ⟨w4.heap.size, 0, none⟩ 1 1 [.string t.f, .int .i64 t.e.op, .string t.e.t, .int .i64 t.e.v.k, .bool t.e.v.b, .int .i64 t.e.v.i, .string t.e.v.s, .slice p6 n6 c6, .slice p7 n7 c7] rfl rfl (fun j u hj => by rw [addr_add, Nat.zero_add, (heap_cell (heap_alloc_new w4 _) j).1, ← hj]; simp) (by simp [Value.oneCell']) (by unfold maxLen; omega) (by omega) (by simp; omega) (fun sv' w5 hown5 hgr5 hat5 => ?_)
    have hq : ∀ b, b < w4.heap.size → w.heap.size ≤ b → (n ≤ b ∧ some b ≠ Value.ownBlock (.slice ps4 l.length cs4)) := fun b hb h => ⟨by omega, fun he => by have := (hown.lt b he.symm).2; omega⟩
    have htr := sx_reps (s := t.f) (rep.move (Kp.alloc w4 (.cells #[.string t.f, .int .i64 t.e.op, .string t.e.t, .int .i64 t.e.v.k, .bool t.e.v.b, .int .i64 t.e.v.i, .string t.e.v.s, .slice p6 n6 c6, .slice p7 n7 c7] 101)) (fun b hb h => hq b hb h) _ _ z6) (rep.move (Kp.alloc w4 (.cells #[.string t.f, .int .i64 t.e.op, .string t.e.t, .int .i64 t.e.v.k, .bool t.e.v.b, .int .i64 t.e.v.i, .string t.e.v.s, .slice p6 n6 c6, .slice p7 n7 c7] 101)) (fun b hb h => hq b hb h) _ _ z7)
    obtain ⟨g5, k5, rfl⟩ := ownsRow_succ hown5
    obtain ⟨hV5, hF5, hE5⟩ := RowA.push (j := 2) hA hBE hEn (by simp; omega) ((heap_alloc_old w4 _ (by omega)).trans he4) (hown4.alloc _) (reps.move (Kp.alloc w4 _) (fun _ _ h => h) _ _ hrep4) hpa4 ((hP.up hs4).up (by simp)) htr hown5 hgr5 hat5
    have hx5 := (hx4.bt ((Bt.refl B w4).alloc _)).grown hgr5 (own_below hown4 (.inl h2))
    have e5 : w5.cell? ⟨C, 2, none⟩ = some (.slice ps4 l.length cs4) := by rw [(heap_cell hE5 2).1]; exact hAj _
    have f5 : w5.frozen? ⟨C, 2, none⟩ = false := (heap_cell hE5 2).2
    refine hK.out _ _ (hx5.2.2.1) (fun hS => ?_)
    clear hK K'
    (try simp only [Act.put, List.setIfInBounds_toArray])
    refine tq 6 8 (.pointer (some ⟨C, 2, none⟩)) hS ?_
    simp only [n3]
    refine on1 7 rfl (fun K' hK => ?_)
    go_simp
    go_wp2_with fail
    refine hK.out _ _ ((hx5.set h3).2.2.1) (fun hS => ?_)
    clear hK K'
    (try simp only [Act.put, n3])
    refine wpAnyH_done (by kernel_rfl) ?_ _
    go_wp2_with fail
    go_end0
    refine ⟨(((hbt4.fr hP).alloc (hP.up hs4 · · |>.1) _).trans hF5), rfl, by unfold QG; simp; omega, ⟨hx5.set h3, h2, h3, by simpa [List.flatMap_append, As.cs] using hV5⟩, ((hp4.via (below_al (Below.refl _ _) _)).grown hgr5 (fun k hk => by have := (hown4.lt k hk).1; omega)).set hCK _ _, by omega⟩
theorem run_upd1 (caps : Array Value) (w : World) : (callFunc 173 caps).run Tryz.prog w = .ok (.enter 173 caps) w := by simp [go_sem]
set_option maxRecDepth 100000 in
set_option maxHeartbeats 4000000 in
theorem upd1_clo {K B o : Nat} (n c1 C : Nat) (A : Value → Array Value) (hA : ∀ u u', (A u).setIfInBounds 2 u' = A u') (hAj : ∀ u, (A u)[2]? = some u) (hCK : K ≤ C) :
  Clo K B o QG (QJ n B c1 C 99 A 101 As.cs) 173 #[.pointer (some ⟨C, 0, none⟩), .pointer (some ⟨c1, 0, none⟩)] (fun l r => (assignM o r).bd fun t r => .ok (l ++ [t]) r) := by
 refine ⟨run_upd1 _, ?_⟩
 rintro P l r w hP hg ⟨h1, h2, h3, h5⟩ h
 show Calls _ _ _ _ (CPost K B o r.length P w _ _ ((assignM o r).bd fun t r => .ok (l ++ [t]) r))
 have HT := fun w (h : PAt K w B r o) => Hid.intro (assign_any h)
 have hmo : Tryz.prog.follows .mixedOrders = true := by kernel_rfl
 obtain ⟨x, r0, hr0, -⟩ := gd_cons h.gd
 have hrl : 0 < r.length := by rw [hr0]; simp
 obtain ⟨i0, hi, hz0, hz1, hz2⟩ := info_parts infoAssign'
 have d1 := h1.2.2.1
 have HX := Hid.intro h1
 have HV := Hid.intro h5
 obtain ⟨hBE, hEn, hnw, ps, cs, vs, he, hown, hrep, hpa⟩ := h5
 unfold QG at hg
 have hln : l.length ≤ 10000 := by omega
 have e0 : w.cell? ⟨C, 2, none⟩ = some (.slice ps l.length cs) := by rw [(heap_cell he 2).1]; exact hAj _
 have hEw : C < w.heap.size := by omega
 clear hr0
 cases hm : assignM o r with
 | bad q =>
  rw [hm] at HT
  rw [bd_bad]
  clear hm
  go_enter Tryz.func173, Tryz.ntmps173
  go_wp2_with fail
  refine wp_region_held_drew (S := fun w' => w'.cell? ⟨c1, 0, none⟩ = some (.pointer (some ⟨B, 0, none⟩))) hmo d1 (fun hS => ?_)
  refine tq 0 2 (.pointer (some ⟨C, 2, none⟩)) hS ?_
  simp only [n3]
  refine tq 2 4 (.pointer (some ⟨B, 0, none⟩)) hS ?_
  simp only [n3]
  refine on2 1 3 rfl (fun K' hK => ?_) rfl (fun K' hK => ?_)
  ·go_simp
   refine hK.out _ _ (hS) (fun hS => ?_)
   clear hK K'
   (try simp only [Act.put, n3])
   refine on1 3 rfl (fun K' hK => ?_)
   go_simp
   refine (HT w.drew (h.via (Below.refl _ _).drew)).out.mono ?_
   rintro e w4 ⟨hb4, rfl⟩
   exact ⟨rfl, ((Bt.refl B w).drew.trans hb4).fr hP, rfl⟩
  ·go_simp
   refine (HT w.drew (h.via (Below.refl _ _).drew)).out.mono ?_
   rintro e w4 ⟨hb4, rfl⟩
   exact ⟨rfl, ((Bt.refl B w).drew.trans hb4).fr hP, rfl⟩
 | ok t r1 =>
  rw [hm] at HT
  rw [bd_ok]
  clear hm
  go_enter Tryz.func173, Tryz.ntmps173
  go_wp2_with fail
  refine wp_region_held_drew (S := fun w' => w'.cell? ⟨c1, 0, none⟩ = some (.pointer (some ⟨B, 0, none⟩))) hmo d1 (fun hS => ?_)
  refine tq 0 2 (.pointer (some ⟨C, 2, none⟩)) hS ?_
  simp only [n3]
  refine tq 2 4 (.pointer (some ⟨B, 0, none⟩)) hS ?_
  simp only [n3]
  refine on2 1 3 rfl (fun K' hK => ?_) rfl (fun K' hK => ?_)
  ·go_simp
   refine hK.out _ _ (hS) (fun hS => ?_)
   clear hK K'
   (try simp only [Act.put, n3])
   refine on1 3 rfl (fun K' hK => ?_)
   go_simp
   refine (HT w.drew (h.via (Below.refl _ _).drew)).out.mono ?_
   rintro e w4 ⟨hb4, hl4, hp4, v4, rfl, p6, n6, c6, p7, n7, c7, rfl, z6, z7⟩
   have hbt4 : Bt B w w4 := (Bt.refl B w).drew.trans hb4
   have hx4 := HX.out.bt hbt4
   have hV4 := RowA.stb _ _ _ P HV.out hbt4 (fun _ h => .inl h)
   obtain ⟨-, -, hnw4, ps4, cs4, vs4, he4, hown4, hrep4, hpa4⟩ := hV4
   obtain ⟨rfl, rfl⟩ : ps4 = ps ∧ cs4 = cs := by have h8 := (row_bt hbt4 (by omega) he).symm.trans he4; have h9 := congrArg (fun o => match o with | some (Obj.cells a _ _) => a[2]? | _ => none) h8; simp only [hAj, Option.some.injEq, Value.slice.injEq, true_and] at h9; exact ⟨h9.1.symm, h9.2.symm⟩
   have hc4 := hx4.2.2.1
   have hs4 : w.heap.size ≤ w4.heap.size := hb4.size
   go_wp2_with fail
   refine hK.out _ _ (hc4) (fun hS => ?_)
   clear hK K'
   (try simp only [Act.put, n3])
   refine on1 4 rfl (fun K' hK => ?_)
   go_simp
   go_wp2_with fail
   refine hK.out _ _ (((hx4.bt ((Bt.refl B w4).alloc _)).2.2.1)) (fun hS => ?_)
   clear hK K'
   (try simp only [Act.put, n3])
   have hal : w4.heap.size < (w4.alloc (.cells #[.string t.f, .int .i64 t.e.op, .string t.e.t, .int .i64 t.e.v.k, .bool t.e.v.b, .int .i64 t.e.v.i, .string t.e.v.s, .slice p6 n6 c6, .slice p7 n7 c7] 101)).heap.size := by simp
   refine on1 5 rfl (fun K' hK => ?_)
   rw [if_pos (by rfl)]
   refine wp_append_own _ _ 97 rfl n 101 i0 _ 9 128 Tryz.underlying97 hi hz0 hz1 hz2 rfl (by decide) _ _ _ rfl (hown4.alloc _) ⟨w4.heap.size, 0, none⟩ 1 1 [.string t.f, .int .i64 t.e.op, .string t.e.t, .int .i64 t.e.v.k, .bool t.e.v.b, .int .i64 t.e.v.i, .string t.e.v.s, .slice p6 n6 c6, .slice p7 n7 c7] rfl rfl (fun j u hj => by rw [addr_add, Nat.zero_add, (heap_cell (heap_alloc_new w4 _) j).1, ← hj]; simp) (by simp [Value.oneCell']) (by unfold maxLen; omega) (by omega) (by simp; omega) (fun sv' w5 hown5 hgr5 hat5 => ?_)
   have hq : ∀ b, b < w4.heap.size → w.heap.size ≤ b → (n ≤ b ∧ some b ≠ Value.ownBlock (.slice ps4 l.length cs4)) := fun b hb h => ⟨by omega, fun he => by have := (hown.lt b he.symm).2; omega⟩
   have htr := sx_reps (s := t.f) (rep.move (Kp.alloc w4 (.cells #[.string t.f, .int .i64 t.e.op, .string t.e.t, .int .i64 t.e.v.k, .bool t.e.v.b, .int .i64 t.e.v.i, .string t.e.v.s, .slice p6 n6 c6, .slice p7 n7 c7] 101)) (fun b hb h => hq b hb h) _ _ z6) (rep.move (Kp.alloc w4 (.cells #[.string t.f, .int .i64 t.e.op, .string t.e.t, .int .i64 t.e.v.k, .bool t.e.v.b, .int .i64 t.e.v.i, .string t.e.v.s, .slice p6 n6 c6, .slice p7 n7 c7] 101)) (fun b hb h => hq b hb h) _ _ z7)
   obtain ⟨g5, k5, rfl⟩ := ownsRow_succ hown5
   obtain ⟨hV5, hF5, hE5⟩ := RowA.push (j := 2) hA hBE hEn (by simp; omega) ((heap_alloc_old w4 _ (by omega)).trans he4) (hown4.alloc _) (reps.move (Kp.alloc w4 _) (fun _ _ h => h) _ _ hrep4) hpa4 ((hP.up hs4).up (by simp)) htr hown5 hgr5 hat5
   have hx5 := (hx4.bt ((Bt.refl B w4).alloc _)).grown hgr5 (own_below hown4 (.inl h2))
   have e5 : w5.cell? ⟨C, 2, none⟩ = some (.slice ps4 l.length cs4) := by rw [(heap_cell hE5 2).1]; exact hAj _
   have f5 : w5.frozen? ⟨C, 2, none⟩ = false := (heap_cell hE5 2).2
   refine hK.out _ _ (hx5.2.2.1) (fun hS => ?_)
   clear hK K'
   (try simp only [Act.put, List.setIfInBounds_toArray])
   refine tq 6 8 (.pointer (some ⟨C, 2, none⟩)) hS ?_
   simp only [n3]
   refine on1 7 rfl (fun K' hK => ?_)
   go_simp
   go_wp2_with fail
   refine hK.out _ _ ((hx5.set h3).2.2.1) (fun hS => ?_)
   clear hK K'
   (try simp only [Act.put, n3])
   refine wpAnyH_done (by kernel_rfl) ?_ _
   go_wp2_with fail
   go_end0
   refine ⟨(((hbt4.fr hP).alloc (hP.up hs4 · · |>.1) _).trans hF5), rfl, by unfold QG; simp; omega, ⟨hx5.set h3, h2, h3, by simpa [List.flatMap_append, As.cs] using hV5⟩, ((hp4.via (below_al (Below.refl _ _) _)).grown hgr5 (fun k hk => by have := (hown4.lt k hk).1; omega)).set hCK _ _, by omega⟩
  ·go_simp
   refine (HT w.drew (h.via (Below.refl _ _).drew)).out.mono ?_
   rintro e w4 ⟨hb4, hl4, hp4, v4, rfl, p6, n6, c6, p7, n7, c7, rfl, z6, z7⟩
   have hbt4 : Bt B w w4 := (Bt.refl B w).drew.trans hb4
   have hx4 := HX.out.bt hbt4
   have hV4 := RowA.stb _ _ _ P HV.out hbt4 (fun _ h => .inl h)
   obtain ⟨-, -, hnw4, ps4, cs4, vs4, he4, hown4, hrep4, hpa4⟩ := hV4
   obtain ⟨rfl, rfl⟩ : ps4 = ps ∧ cs4 = cs := by have h8 := (row_bt hbt4 (by omega) he).symm.trans he4; have h9 := congrArg (fun o => match o with | some (Obj.cells a _ _) => a[2]? | _ => none) h8; simp only [hAj, Option.some.injEq, Value.slice.injEq, true_and] at h9; exact ⟨h9.1.symm, h9.2.symm⟩
   have hc4 := hx4.2.2.1
   have hs4 : w.heap.size ≤ w4.heap.size := hb4.size
   go_wp2_with fail
   refine hK.out _ _ (hc4) (fun hS => ?_)
   clear hK K'
   (try simp only [Act.put, n3])
   refine on2 1 4 rfl (fun K' hK => ?_) rfl (fun K' hK => ?_)
   ·have e04 : w4.cell? ⟨C, 2, none⟩ = some (.slice ps4 l.length cs4) := by rw [(heap_cell he4 2).1]; exact hAj _
    have hEw4 : C < w4.heap.size := by omega
    go_simp
    refine hK.out _ _ (hS) (fun hS => ?_)
    clear hK K'
    (try simp only [Act.put, n3])
    refine on1 4 rfl (fun K' hK => ?_)
    go_simp
    go_wp2_with fail
    refine hK.out _ _ (((hx4.bt ((Bt.refl B w4).alloc _)).2.2.1)) (fun hS => ?_)
    clear hK K'
    (try simp only [Act.put, n3])
    have hal : w4.heap.size < (w4.alloc (.cells #[.string t.f, .int .i64 t.e.op, .string t.e.t, .int .i64 t.e.v.k, .bool t.e.v.b, .int .i64 t.e.v.i, .string t.e.v.s, .slice p6 n6 c6, .slice p7 n7 c7] 101)).heap.size := by simp
    refine on1 5 rfl (fun K' hK => ?_)
    rw [if_pos (by rfl)]
    refine wp_append_own _ _ 97 rfl n 101 i0 _ 9 128 Tryz.underlying97 hi hz0 hz1 hz2 rfl (by decide) _ _ _ rfl (hown4.alloc _) ⟨w4.heap.size, 0, none⟩ 1 1 [.string t.f, .int .i64 t.e.op, .string t.e.t, .int .i64 t.e.v.k, .bool t.e.v.b, .int .i64 t.e.v.i, .string t.e.v.s, .slice p6 n6 c6, .slice p7 n7 c7] rfl rfl (fun j u hj => by rw [addr_add, Nat.zero_add, (heap_cell (heap_alloc_new w4 _) j).1, ← hj]; simp) (by simp [Value.oneCell']) (by unfold maxLen; omega) (by omega) (by simp; omega) (fun sv' w5 hown5 hgr5 hat5 => ?_)
    have hq : ∀ b, b < w4.heap.size → w.heap.size ≤ b → (n ≤ b ∧ some b ≠ Value.ownBlock (.slice ps4 l.length cs4)) := fun b hb h => ⟨by omega, fun he => by have := (hown.lt b he.symm).2; omega⟩
    have htr := sx_reps (s := t.f) (rep.move (Kp.alloc w4 (.cells #[.string t.f, .int .i64 t.e.op, .string t.e.t, .int .i64 t.e.v.k, .bool t.e.v.b, .int .i64 t.e.v.i, .string t.e.v.s, .slice p6 n6 c6, .slice p7 n7 c7] 101)) (fun b hb h => hq b hb h) _ _ z6) (rep.move (Kp.alloc w4 (.cells #[.string t.f, .int .i64 t.e.op, .string t.e.t, .int .i64 t.e.v.k, .bool t.e.v.b, .int .i64 t.e.v.i, .string t.e.v.s, .slice p6 n6 c6, .slice p7 n7 c7] 101)) (fun b hb h => hq b hb h) _ _ z7)
    obtain ⟨g5, k5, rfl⟩ := ownsRow_succ hown5
    obtain ⟨hV5, hF5, hE5⟩ := RowA.push (j := 2) hA hBE hEn (by simp; omega) ((heap_alloc_old w4 _ (by omega)).trans he4) (hown4.alloc _) (reps.move (Kp.alloc w4 _) (fun _ _ h => h) _ _ hrep4) hpa4 ((hP.up hs4).up (by simp)) htr hown5 hgr5 hat5
    have hx5 := (hx4.bt ((Bt.refl B w4).alloc _)).grown hgr5 (own_below hown4 (.inl h2))
    have e5 : w5.cell? ⟨C, 2, none⟩ = some (.slice ps4 l.length cs4) := by rw [(heap_cell hE5 2).1]; exact hAj _
    have f5 : w5.frozen? ⟨C, 2, none⟩ = false := (heap_cell hE5 2).2
    refine hK.out _ _ (hx5.2.2.1) (fun hS => ?_)
    clear hK K'
    (try simp only [Act.put, List.setIfInBounds_toArray])
    refine tq 6 8 (.pointer (some ⟨C, 2, none⟩)) hS ?_
    simp only [n3]
    refine on1 7 rfl (fun K' hK => ?_)
    go_simp
    go_wp2_with fail
    refine hK.out _ _ ((hx5.set h3).2.2.1) (fun hS => ?_)
    clear hK K'
    (try simp only [Act.put, n3])
    refine wpAnyH_done (by kernel_rfl) ?_ _
    go_wp2_with fail
    go_end0
    refine ⟨(((hbt4.fr hP).alloc (hP.up hs4 · · |>.1) _).trans hF5), rfl, by unfold QG; simp; omega, ⟨hx5.set h3, h2, h3, by simpa [List.flatMap_append, As.cs] using hV5⟩, ((hp4.via (below_al (Below.refl _ _) _)).grown hgr5 (fun k hk => by have := (hown4.lt k hk).1; omega)).set hCK _ _, by omega⟩
   ·go_simp
    go_wp2_with fail
    refine hK.out _ _ (((hx4.bt ((Bt.refl B w4).alloc _)).2.2.1)) (fun hS => ?_)
    clear hK K'
    (try simp only [Act.put, n3])
    refine on1 1 rfl (fun K' hK => ?_)
    have e04 : w4.cell? ⟨C, 2, none⟩ = some (.slice ps4 l.length cs4) := by rw [(heap_cell he4 2).1]; exact hAj _
    have hEw4 : C < w4.heap.size := by omega
    go_simp
    refine hK.out _ _ (((hx4.bt ((Bt.refl B w4).alloc _)).2.2.1)) (fun hS => ?_)
    clear hK K'
    (try simp only [Act.put, n3])
    have hal : w4.heap.size < (w4.alloc (.cells #[.string t.f, .int .i64 t.e.op, .string t.e.t, .int .i64 t.e.v.k, .bool t.e.v.b, .int .i64 t.e.v.i, .string t.e.v.s, .slice p6 n6 c6, .slice p7 n7 c7] 101)).heap.size := by simp
    refine on1 5 rfl (fun K' hK => ?_)
    rw [if_pos (by rfl)]
    refine wp_append_own _ _ 97 rfl n 101 i0 _ 9 128 Tryz.underlying97 hi hz0 hz1 hz2 rfl (by decide) _ _ _ rfl (hown4.alloc _) ⟨w4.heap.size, 0, none⟩ 1 1 [.string t.f, .int .i64 t.e.op, .string t.e.t, .int .i64 t.e.v.k, .bool t.e.v.b, .int .i64 t.e.v.i, .string t.e.v.s, .slice p6 n6 c6, .slice p7 n7 c7] rfl rfl (fun j u hj => by rw [addr_add, Nat.zero_add, (heap_cell (heap_alloc_new w4 _) j).1, ← hj]; simp) (by simp [Value.oneCell']) (by unfold maxLen; omega) (by omega) (by simp; omega) (fun sv' w5 hown5 hgr5 hat5 => ?_)
    have hq : ∀ b, b < w4.heap.size → w.heap.size ≤ b → (n ≤ b ∧ some b ≠ Value.ownBlock (.slice ps4 l.length cs4)) := fun b hb h => ⟨by omega, fun he => by have := (hown.lt b he.symm).2; omega⟩
    have htr := sx_reps (s := t.f) (rep.move (Kp.alloc w4 (.cells #[.string t.f, .int .i64 t.e.op, .string t.e.t, .int .i64 t.e.v.k, .bool t.e.v.b, .int .i64 t.e.v.i, .string t.e.v.s, .slice p6 n6 c6, .slice p7 n7 c7] 101)) (fun b hb h => hq b hb h) _ _ z6) (rep.move (Kp.alloc w4 (.cells #[.string t.f, .int .i64 t.e.op, .string t.e.t, .int .i64 t.e.v.k, .bool t.e.v.b, .int .i64 t.e.v.i, .string t.e.v.s, .slice p6 n6 c6, .slice p7 n7 c7] 101)) (fun b hb h => hq b hb h) _ _ z7)
    obtain ⟨g5, k5, rfl⟩ := ownsRow_succ hown5
    obtain ⟨hV5, hF5, hE5⟩ := RowA.push (j := 2) hA hBE hEn (by simp; omega) ((heap_alloc_old w4 _ (by omega)).trans he4) (hown4.alloc _) (reps.move (Kp.alloc w4 _) (fun _ _ h => h) _ _ hrep4) hpa4 ((hP.up hs4).up (by simp)) htr hown5 hgr5 hat5
    have hx5 := (hx4.bt ((Bt.refl B w4).alloc _)).grown hgr5 (own_below hown4 (.inl h2))
    have e5 : w5.cell? ⟨C, 2, none⟩ = some (.slice ps4 l.length cs4) := by rw [(heap_cell hE5 2).1]; exact hAj _
    have f5 : w5.frozen? ⟨C, 2, none⟩ = false := (heap_cell hE5 2).2
    refine hK.out _ _ (hx5.2.2.1) (fun hS => ?_)
    clear hK K'
    (try simp only [Act.put, List.setIfInBounds_toArray])
    refine tq 6 8 (.pointer (some ⟨C, 2, none⟩)) hS ?_
    simp only [n3]
    refine on1 7 rfl (fun K' hK => ?_)
    go_simp
    go_wp2_with fail
    refine hK.out _ _ ((hx5.set h3).2.2.1) (fun hS => ?_)
    clear hK K'
    (try simp only [Act.put, n3])
    refine wpAnyH_done (by kernel_rfl) ?_ _
    go_wp2_with fail
    go_end0
    refine ⟨(((hbt4.fr hP).alloc (hP.up hs4 · · |>.1) _).trans hF5), rfl, by unfold QG; simp; omega, ⟨hx5.set h3, h2, h3, by simpa [List.flatMap_append, As.cs] using hV5⟩, ((hp4.via (below_al (Below.refl _ _) _)).grown hgr5 (fun k hk => by have := (hown4.lt k hk).1; omega)).set hCK _ _, by omega⟩
end
end Go.Proofs.YtoeodjobggodcaaGreatDoor
/- question. -/
namespace Go.Proofs.YtoeodjobggodcaaGreatDoor
section
open Go.RowKit
def quA (s : ByteArray) : Value → Array Value := fun u => #[.int .i64 9, .string ⟨#[]⟩, .string ⟨#[]⟩, .slice none 0 0, .slice none 0 0, .slice none 0 0, .slice none 0 0, .slice none 0 0, .int .i64 0, .string ⟨#[]⟩, .int .i64 0, .bool false, .int .i64 0, .string ⟨#[]⟩, .slice none 0 0, .slice none 0 0, .string ⟨#[]⟩, .string s, u]
theorem quA_set (s : ByteArray) (u u' : Value) : (quA s u).setIfInBounds 18 u' = quA s u' := by simp [quA]
theorem quA_at (s : ByteArray) (u : Value) : (quA s u)[18]? = some u := by simp [quA]
set_option maxRecDepth 100000 in
set_option maxHeartbeats 4000000 in
theorem question_any {K B o : Nat} {r : List Lx} {w : World} (h : PAt K w B r o) :
  Calls Tryz.prog 114 #[.pointer (some ⟨B, 0, none⟩)] w (Post K B o (r.length - 1) w (questionM o r) fun w' c v => CdV (fun b => w.heap.size ≤ b) w' c v) := by
 have hmf : ∀ (fn : Fn) (first cap : Array Value) (w : World), (Instr.makeFunc fn first cap).run Tryz.prog w = .ok (.func fn first cap) w := fun _ _ _ _ => rfl
 have hsz := h.size
 have hlen := h.len
 have b0 : Below w.heap.size w ((w.alloc (.cells #[.pointer (some ⟨B, 0, none⟩)] 55)).alloc (.cells #[.int .i64 0, .string ⟨#[]⟩, .string ⟨#[]⟩, .slice none 0 0, .slice none 0 0, .slice none 0 0, .slice none 0 0, .slice none 0 0, .int .i64 0, .string ⟨#[]⟩, .int .i64 0, .bool false, .int .i64 0, .string ⟨#[]⟩, .slice none 0 0, .slice none 0 0, .string ⟨#[]⟩, .string ⟨#[]⟩, .slice none 0 0] 96)) := below_al (below_al (Below.refl _ _) _) _
 have hX0 : Bx B w.heap.size (.pointer (some ⟨B, 0, none⟩)) ((w.alloc (.cells #[.pointer (some ⟨B, 0, none⟩)] 55)).alloc (.cells #[.int .i64 0, .string ⟨#[]⟩, .string ⟨#[]⟩, .slice none 0 0, .slice none 0 0, .slice none 0 0, .slice none 0 0, .slice none 0 0, .int .i64 0, .string ⟨#[]⟩, .int .i64 0, .bool false, .int .i64 0, .string ⟨#[]⟩, .slice none 0 0, .slice none 0 0, .string ⟨#[]⟩, .string ⟨#[]⟩, .slice none 0 0] 96)) := (Bx.new w _ _ (by omega)).bt ((Bt.refl B _).alloc _)
 have hR0 : ((w.alloc (.cells #[.pointer (some ⟨B, 0, none⟩)] 55)).alloc (.cells #[.int .i64 0, .string ⟨#[]⟩, .string ⟨#[]⟩, .slice none 0 0, .slice none 0 0, .slice none 0 0, .slice none 0 0, .slice none 0 0, .int .i64 0, .string ⟨#[]⟩, .int .i64 0, .bool false, .int .i64 0, .string ⟨#[]⟩, .slice none 0 0, .slice none 0 0, .string ⟨#[]⟩, .string ⟨#[]⟩, .slice none 0 0] 96)).heap[w.heap.size + 1]? = some (.cells #[.int .i64 0, .string ⟨#[]⟩, .string ⟨#[]⟩, .slice none 0 0, .slice none 0 0, .slice none 0 0, .slice none 0 0, .slice none 0 0, .int .i64 0, .string ⟨#[]⟩, .int .i64 0, .bool false, .int .i64 0, .string ⟨#[]⟩, .slice none 0 0, .slice none 0 0, .string ⟨#[]⟩, .string ⟨#[]⟩, .slice none 0 0] 96) := heap_alloc2_new w _ _
 have HN := Hid.intro (pname_any (h.via b0))
 unfold questionM
 cases h1 : nameM r with
 | bad q =>
  rw [h1] at HN
  rw [bd_bad]
  clear h1
  go_enter Tryz.func114, Tryz.ntmps114
  go_wp2_with fail
  refine HN.out.mono ?_
  rintro e v1 ⟨ht1, rfl⟩
  exact ⟨rfl, (Bt.below b0).trans ht1, rfl⟩
 | ok s r1 =>
  rw [h1] at HN
  rw [bd_ok]
  clear h1
  have hstep : ∀ v1 : World, Bt B ((w.alloc (.cells #[.pointer (some ⟨B, 0, none⟩)] 55)).alloc (.cells #[.int .i64 0, .string ⟨#[]⟩, .string ⟨#[]⟩, .slice none 0 0, .slice none 0 0, .slice none 0 0, .slice none 0 0, .slice none 0 0, .int .i64 0, .string ⟨#[]⟩, .int .i64 0, .bool false, .int .i64 0, .string ⟨#[]⟩, .slice none 0 0, .slice none 0 0, .string ⟨#[]⟩, .string ⟨#[]⟩, .slice none 0 0] 96)) v1 → PAt K v1 B r1 o → r1.length ≤ r.length - 1 → ∃ W0, Hid ((v1.alloc (.cells #[.int .i64 0, .string ⟨#[]⟩, .string ⟨#[]⟩, .slice none 0 0, .slice none 0 0, .slice none 0 0, .slice none 0 0, .slice none 0 0, .int .i64 0, .string ⟨#[]⟩, .int .i64 0, .bool false, .int .i64 0, .string ⟨#[]⟩, .slice none 0 0, .slice none 0 0, .string ⟨#[]⟩, .string ⟨#[]⟩, .slice none 0 0] 96)).heap[v1.heap.size]? = some (.cells #[.int .i64 0, .string ⟨#[]⟩, .string ⟨#[]⟩, .slice none 0 0, .slice none 0 0, .slice none 0 0, .slice none 0 0, .slice none 0 0, .int .i64 0, .string ⟨#[]⟩, .int .i64 0, .bool false, .int .i64 0, .string ⟨#[]⟩, .slice none 0 0, .slice none 0 0, .string ⟨#[]⟩, .string ⟨#[]⟩, .slice none 0 0] 96)) ∧ (v1.alloc (.cells #[.int .i64 0, .string ⟨#[]⟩, .string ⟨#[]⟩, .slice none 0 0, .slice none 0 0, .slice none 0 0, .slice none 0 0, .slice none 0 0, .int .i64 0, .string ⟨#[]⟩, .int .i64 0, .bool false, .int .i64 0, .string ⟨#[]⟩, .slice none 0 0, .slice none 0 0, .string ⟨#[]⟩, .string ⟨#[]⟩, .slice none 0 0] 96)).setRow v1.heap.size #[.int .i64 9, .string ⟨#[]⟩, .string ⟨#[]⟩, .slice none 0 0, .slice none 0 0, .slice none 0 0, .slice none 0 0, .slice none 0 0, .int .i64 0, .string ⟨#[]⟩, .int .i64 0, .bool false, .int .i64 0, .string ⟨#[]⟩, .slice none 0 0, .slice none 0 0, .string ⟨#[]⟩, .string s, .slice none 0 0] = W0 ∧ Hid (Bt B w W0) ∧ W0.cell? ⟨w.heap.size, 0, none⟩ = some (.pointer (some ⟨B, 0, none⟩)) ∧ w.heap.size < W0.heap.size ∧ w.heap.size + 1 < v1.heap.size ∧
    Hid (W0.heap[w.heap.size + 1]? = some (.cells #[.int .i64 0, .string ⟨#[]⟩, .string ⟨#[]⟩, .slice none 0 0, .slice none 0 0, .slice none 0 0, .slice none 0 0, .slice none 0 0, .int .i64 0, .string ⟨#[]⟩, .int .i64 0, .bool false, .int .i64 0, .string ⟨#[]⟩, .slice none 0 0, .slice none 0 0, .string ⟨#[]⟩, .string ⟨#[]⟩, .slice none 0 0] 96)) ∧ Hid (Calls Tryz.prog 68 #[.pointer (some ⟨B, 0, none⟩), .string ⟨#[40]⟩, .string ⟨#[41]⟩, .func (.func 155) #[] #[.pointer (some ⟨v1.heap.size, 0, none⟩), .pointer (some ⟨w.heap.size, 0, none⟩)]] W0 (CPost K B o (r1.length - 1) (fun b => (b < w.heap.size ∧ b ≠ B) ∨ b = w.heap.size + 1) W0 QG (QJ (v1.heap.size + 1) B w.heap.size v1.heap.size 96 (quA s) 130 Ar.cs) (listM ⟨#[40]⟩ ⟨#[41]⟩ o (fun l r => (argM (o + 1) r).bd fun t r => .ok (l ++ [t]) r) [] r1))) := by
   intro v1 ht1 hp1 hl1
   have hA : (v1.alloc (.cells #[.int .i64 0, .string ⟨#[]⟩, .string ⟨#[]⟩, .slice none 0 0, .slice none 0 0, .slice none 0 0, .slice none 0 0, .slice none 0 0, .int .i64 0, .string ⟨#[]⟩, .int .i64 0, .bool false, .int .i64 0, .string ⟨#[]⟩, .slice none 0 0, .slice none 0 0, .string ⟨#[]⟩, .string ⟨#[]⟩, .slice none 0 0] 96)).heap[v1.heap.size]? = some (.cells #[.int .i64 0, .string ⟨#[]⟩, .string ⟨#[]⟩, .slice none 0 0, .slice none 0 0, .slice none 0 0, .slice none 0 0, .slice none 0 0, .int .i64 0, .string ⟨#[]⟩, .int .i64 0, .bool false, .int .i64 0, .string ⟨#[]⟩, .slice none 0 0, .slice none 0 0, .string ⟨#[]⟩, .string ⟨#[]⟩, .slice none 0 0] 96) := heap_alloc_new _ _
   have hR1 := row_bt ht1 (by omega) hR0
   have hlt1 : w.heap.size + 1 < v1.heap.size := (Array.getElem?_eq_some_iff.1 hR1).1
   have hbW : Bt B ((w.alloc (.cells #[.pointer (some ⟨B, 0, none⟩)] 55)).alloc (.cells #[.int .i64 0, .string ⟨#[]⟩, .string ⟨#[]⟩, .slice none 0 0, .slice none 0 0, .slice none 0 0, .slice none 0 0, .slice none 0 0, .int .i64 0, .string ⟨#[]⟩, .int .i64 0, .bool false, .int .i64 0, .string ⟨#[]⟩, .slice none 0 0, .slice none 0 0, .string ⟨#[]⟩, .string ⟨#[]⟩, .slice none 0 0] 96)) ((v1.alloc (.cells #[.int .i64 0, .string ⟨#[]⟩, .string ⟨#[]⟩, .slice none 0 0, .slice none 0 0, .slice none 0 0, .slice none 0 0, .slice none 0 0, .int .i64 0, .string ⟨#[]⟩, .int .i64 0, .bool false, .int .i64 0, .string ⟨#[]⟩, .slice none 0 0, .slice none 0 0, .string ⟨#[]⟩, .string ⟨#[]⟩, .slice none 0 0] 96)).setRow v1.heap.size #[.int .i64 9, .string ⟨#[]⟩, .string ⟨#[]⟩, .slice none 0 0, .slice none 0 0, .slice none 0 0, .slice none 0 0, .slice none 0 0, .int .i64 0, .string ⟨#[]⟩, .int .i64 0, .bool false, .int .i64 0, .string ⟨#[]⟩, .slice none 0 0, .slice none 0 0, .string ⟨#[]⟩, .string s, .slice none 0 0]) := (ht1.alloc _).row (by simp; omega) _
   have hXW := hX0.bt hbW
   refine ⟨_, hA, rfl, (Bt.below b0).trans hbW, hXW.2.2.1, hXW.2.1, hlt1, row_bt hbW (by omega) hR0, ?_⟩
   refine list_any QG.tail (QJ.stb (v1.heap.size + 1) B w.heap.size v1.heap.size 96 (quA s) 130 Ar.cs) (que1_clo (v1.heap.size + 1) w.heap.size v1.heap.size (quA s) (quA_set s) (quA_at s) (by omega)) (P := fun b => (b < w.heap.size ∧ b ≠ B) ∨ b = w.heap.size + 1) (s := []) (r := r1) (fun b hb => ⟨by simp; omega, by omega⟩) (by unfold QG; simp; omega) ⟨hXW, by omega, by omega, ?_⟩ ((hp1.via (below_al (Below.refl _ _) _)).row (by omega) _) ⟨#[40]⟩ ⟨#[41]⟩
   exact ⟨by omega, by omega, by simp, none, 0, [], setRow_heap _ _ _ _ _ _ hA, World.ownsRow_nil _ _ _ _, reps.nil, fun b hb => ⟨by omega, by simp [Value.ownBlock]⟩⟩
  cases hm : listM ⟨#[40]⟩ ⟨#[41]⟩ o (fun l r => (argM (o + 1) r).bd fun t r => .ok (l ++ [t]) r) [] r1 with
  | bad q =>
   rw [hm] at hstep
   rw [bd_bad]
   clear hm
   go_enter Tryz.func114, Tryz.ntmps114
   go_wp2_with fail
   refine HN.out.mono ?_
   rintro e v1 ⟨ht1, hl1, hp1, x, rfl, rfl⟩
   obtain ⟨W0, HA, hW0, HB, hc1, hc2, hlt1, HR, HW⟩ := hstep v1 ht1 hp1 hl1
   go_wp2_with (with_reducible refine (id (?_ : wpList _ _ _ (Oper.mk _ (Op.store _ _ _) _ _ _ _ :: _) _ _)); refine wpList_store_row rfl _ _ _ rfl _ _ rfl rfl _ _ HA.out infoCond rfl rfl (by simp [Value.oneCell']) ?_)
   refine HW.out.mono ?_
   rintro e w1 ⟨hf, rfl⟩
   exact ⟨rfl, HB.out.fra (hf.mono fun b hb => .inl hb), rfl⟩
  | ok l r2 =>
   rw [hm] at hstep
   rw [bd_ok]
   clear hm
   go_enter Tryz.func114, Tryz.ntmps114
   go_wp2_with fail
   refine HN.out.mono ?_
   rintro e v1 ⟨ht1, hl1, hp1, x, rfl, rfl⟩
   obtain ⟨W0, HA, hW0, HB, hc1, hc2, hlt1, HR, HW⟩ := hstep v1 ht1 hp1 hl1
   go_wp2_with (with_reducible refine (id (?_ : wpList _ _ _ (Oper.mk _ (Op.store _ _ _) _ _ _ _ :: _) _ _)); refine wpList_store_row rfl _ _ _ rfl _ _ rfl rfl _ _ HA.out infoCond rfl rfl (by simp [Value.oneCell']) ?_)
   refine HW.out.mono ?_
   rintro e w1 ⟨hf, rfl, hg, ⟨j1, j2, j3, k1, k2, k3, p, c, vs, k4, k5, k6, k7⟩, hp, hl⟩
   have HC1 := Hid.intro k4
   have HR1 := Hid.intro ((hf.block _ (.inr rfl)).trans HR.out)
   have hrep : rep (fun b => v1.heap.size < b) w1 (.sl l.length (l.flatMap Ar.cs)) (.slice p l.length c) := rep.own k5 (reps.move Kp.refl (fun b _ h => by omega) _ _ k6) (fun g hg => by have := (k5.lt g hg).1; omega)
   unfold quA at HC1
   go_wp2_with (first | (with_reducible refine (id (?_ : wpList _ _ _ (Oper.mk _ (Op.load _ _) _ _ _ _ :: _) _ _)); refine wpList_load_cells rfl _ _ rfl _ rfl _ _ _ HC1.out Tryz.underlying96 infoCond rfl ?_) | (with_reducible refine (id (?_ : wpList _ _ _ (Oper.mk _ (Op.store _ _ _) _ _ _ _ :: _) _ _)); refine wpList_store_row rfl _ _ _ rfl _ _ rfl rfl _ _ HR1.out infoCond rfl rfl (by simp [Value.oneCell']) ?_))
   refine ret_cells rfl rfl (setRow_heap _ _ _ _ _ _ HR1.out) Tryz.underlying96 infoCond rfl rfl (Post.ok ((HB.out.fra (hf.mono fun b hb => .inl hb)).row (by omega) _) (by omega) (hp.row (by omega) _) ?_)
   refine ⟨.slice none 0 0, .slice none 0 0, .slice none 0 0, .slice none 0 0, .slice none 0 0, .slice none 0 0, .slice none 0 0, .slice p l.length c, rfl, ⟨rep.none, rep.none, ?_, ?_, ?_⟩, ?_, ?_, ?_⟩
   ·simpa [Cd.css] using rep.none
   ·simpa [Cd.css] using rep.none
   ·simpa [Cd.csss] using rep.none
   ·simpa [Vt.css] using rep.none
   ·simpa [Ex.css] using rep.none
   ·exact rep.move ⟨by simp, fun b hb _ o => World.cell?_of_block (a := ⟨b, o, none⟩) (setRow_other _ _ _ _ (by simp only; omega))⟩ (fun b _ h => by omega) _ _ hrep
end
end Go.Proofs.YtoeodjobggodcaaGreatDoor
