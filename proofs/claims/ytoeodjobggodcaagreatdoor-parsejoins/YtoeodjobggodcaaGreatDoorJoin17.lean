import Derived.Test.YtoeodjobggodcaaGreatDoorJoin16
import Derived.Test.YtoeodjobggodcaaGreatDoorJoin08
import Derived.Deep.RegionHeld3
import Derived.Test.YtoeodjobggodcaaGreatDoorJoin15
import Derived.Test.YtoeodjobggodcaaGreatDoorJoin02
import Derived.Test.YtoeodjobggodcaaGreatDoorJoin01
import Derived.Deep.Slices
import Derived.Deep.Strs
import Derived.SizedLaws
/- What the laws' own equality tells of data that are the same: actions. -/
namespace Go.Proofs.YtoeodjobggodcaaGreatDoor
section
open Go.RowKit
theorem Ac.cs_eq (c : Ac) : c.cs = [dI c.k, dS c.c, .sl c.set.length (c.set.flatMap As.cs), dI c.e.op, dS c.e.t, dI c.e.v.k, dB c.e.v.b, dI c.e.v.i, dS c.e.v.s, .sl c.e.v.l.length (Vt.css c.e.v.l), .sl c.e.a.length (Ex.css c.e.a), dS c.t] := by
 simp [Ac.cs, Ex.cs_eq]
theorem ac_cells {P : Nat → Prop} {w : World} {c : Ac} {vs : List Value} (h : reps P w c.cs vs) : ∃ p2 q2 p9 q9 p10 q10, vs = [.int .i64 c.k, .string c.c, .slice p2 c.set.length q2, .int .i64 c.e.op, .string c.e.t, .int .i64 c.e.v.k, .bool c.e.v.b, .int .i64 c.e.v.i, .string c.e.v.s, .slice p9 c.e.v.l.length q9, .slice p10 c.e.a.length q10, .string c.t] ∧ rep P w (.sl c.set.length (c.set.flatMap As.cs)) (.slice p2 c.set.length q2) ∧ rep P w (.sl c.e.v.l.length (Vt.css c.e.v.l)) (.slice p9 c.e.v.l.length q9) ∧ rep P w (.sl c.e.a.length (Ex.css c.e.a)) (.slice p10 c.e.a.length q10) := by
 rw [Ac.cs_eq] at h
 obtain ⟨v0, _, rfl, h0, h⟩ := h.uncons
 obtain ⟨v1, _, rfl, h1, h⟩ := h.uncons
 obtain ⟨v2, _, rfl, h2, h⟩ := h.uncons
 obtain ⟨v3, _, rfl, h3, h⟩ := h.uncons
 obtain ⟨v4, _, rfl, h4, h⟩ := h.uncons
 obtain ⟨v5, _, rfl, h5, h⟩ := h.uncons
 obtain ⟨v6, _, rfl, h6, h⟩ := h.uncons
 obtain ⟨v7, _, rfl, h7, h⟩ := h.uncons
 obtain ⟨v8, _, rfl, h8, h⟩ := h.uncons
 obtain ⟨v9, _, rfl, h9, h⟩ := h.uncons
 obtain ⟨v10, _, rfl, h10, h⟩ := h.uncons
 obtain ⟨v11, _, rfl, h11, h⟩ := h.uncons
 simp only [reps] at h
 subst h
 obtain ⟨rfl, -⟩ := rep.lit_iff.1 h0
 obtain ⟨rfl, -⟩ := rep.lit_iff.1 h1
 obtain ⟨p2, q2, rfl, -⟩ := sl_form h2
 obtain ⟨rfl, -⟩ := rep.lit_iff.1 h3
 obtain ⟨rfl, -⟩ := rep.lit_iff.1 h4
 obtain ⟨rfl, -⟩ := rep.lit_iff.1 h5
 obtain ⟨rfl, -⟩ := rep.lit_iff.1 h6
 obtain ⟨rfl, -⟩ := rep.lit_iff.1 h7
 obtain ⟨rfl, -⟩ := rep.lit_iff.1 h8
 obtain ⟨p9, q9, rfl, -⟩ := sl_form h9
 obtain ⟨p10, q10, rfl, -⟩ := sl_form h10
 obtain ⟨rfl, -⟩ := rep.lit_iff.1 h11
 exact ⟨p2, q2, p9, q9, p10, q10, rfl, h2, h9, h10⟩
theorem np_nrm5 {Q : Exit → Act → World → Prop} {a : Act} {w : World} (h : Q .normal a w) : NoPanic Q .normal a w := h
theorem cell_lt5 {w : World} {b o : Nat} {v : Value} (h : w.cell? ⟨b, o, none⟩ = some v) : b < w.heap.size := by
 unfold World.cell? at h
 by_cases hh : b < w.heap.size
 ·exact hh
 ·simp [Array.getElem?_eq_none (Nat.le_of_not_lt hh)] at h
theorem fresh_row {wr W : World} {z cs : Array Value} {t : TypeId} (hW : W = (wr.alloc (.cells z t)).setRow wr.heap.size cs) : Below wr.heap.size wr W ∧ W.heap.size = wr.heap.size + 1 ∧ W.heap[wr.heap.size]? = some (.cells cs t (0, 0)) := by
 subst hW
 refine ⟨below_row (below_al (Below.refl _ _) _) (Nat.le_refl _) _, by simp, setRow_heap _ _ _ _ _ _ (heap_alloc_new wr _)⟩
set_option maxRecDepth 100000 in
set_option maxHeartbeats 8000000 in
theorem eqActions_any {l : List Ac} {P Q : Nat → Prop} {w : World} {sa sb : Value} (ha : rep P w (.sl l.length (l.flatMap Ac.cs)) sa) (hb : rep Q w (.sl l.length (l.flatMap Ac.cs)) sb) : Alike 23 sa sb w := by
 have HA := Hid.intro ha
 have HB := Hid.intro hb
 obtain ⟨pa, ca, rfl, a1, a2⟩ := sl_form ha
 obtain ⟨pb, cb, rfl, b1, b2⟩ := sl_form hb
 clear ha hb
 have hm : l.length ≤ 9223372036854775807 := Nat.le_trans a1 (Nat.le_trans a2 (by decide))
 clear a1 a2 b1 b2
 have hmo : Tryz.prog.follows .mixedOrders = true := by kernel_rfl
 go_enter Tryz.func23, Tryz.ntmps23
 go_wp2_with fail
 go_loopw [5] (fun i wr => Hid (Below w.heap.size w wr) ∧ ∃ k : Nat, k ≤ l.length ∧ i = .int .i64 (k : Int)) (fun i _ => l.length - (intOf i).toNat)
 case atStart => exact ⟨Below.refl _ _, 0, by omega, rfl⟩
 case round =>
  obtain ⟨HW, k, hk, rfl⟩ := hrel
  by_cases hlt : (k : Int) < (l.length : Int)
  ·have hlt' : k < l.length := by omega
   obtain ⟨ab, ao, us, rfl, hab, -, r1, r2⟩ := sl_elem Ac.cs 12 Ac.cs_len (HA.out.via HW.out) hlt'
   obtain ⟨bb, bo, us', rfl, hbb, -, s1, s2⟩ := sl_elem Ac.cs 12 Ac.cs_len (HB.out.via HW.out) hlt'
   obtain ⟨p2, q2, p9, q9, p10, q10, rfl, h2, h9, h10⟩ := ac_cells r1
   obtain ⟨p2', q2', p9', q9', p10', q10', rfl, h2', h9', h10'⟩ := ac_cells s1
   have HX := fun w' (hw : Below wr.heap.size wr w') => Hid.intro (eqExpr_any (x := l[k].e) ⟨p9, _, q9, p10, _, q10, rfl, h9.via hw, h10.via hw⟩ ⟨p9', _, q9', p10', _, q10', rfl, h9'.via hw, h10'.via hw⟩)
   have HS := Hid.intro h2
   have HS' := Hid.intro h2'
   obtain ⟨_, _, e2, l2, m2⟩ := sl_form h2
   have hm2 : l[k].set.length ≤ 9223372036854775807 := Nat.le_trans l2 (Nat.le_trans m2 (by decide))
   clear r1 s1 h2 h2' h9 h9' h10 h10' e2 l2 m2
   have hF := fresh_row (rfl : ((wr.alloc (.cells #[.int .i64 0, .string ⟨#[]⟩, .slice none 0 0, .int .i64 0, .string ⟨#[]⟩, .int .i64 0, .bool false, .int .i64 0, .string ⟨#[]⟩, .slice none 0 0, .slice none 0 0, .string ⟨#[]⟩] 99)).setRow wr.heap.size #[.int .i64 l[k].k, .string l[k].c, .slice p2 l[k].set.length q2, .int .i64 l[k].e.op, .string l[k].e.t, .int .i64 l[k].e.v.k, .bool l[k].e.v.b, .int .i64 l[k].e.v.i, .string l[k].e.v.s, .slice p9 l[k].e.v.l.length q9, .slice p10 l[k].e.a.length q10, .string l[k].t]) = ((wr.alloc (.cells #[.int .i64 0, .string ⟨#[]⟩, .slice none 0 0, .int .i64 0, .string ⟨#[]⟩, .int .i64 0, .bool false, .int .i64 0, .string ⟨#[]⟩, .slice none 0 0, .slice none 0 0, .string ⟨#[]⟩] 99)).setRow wr.heap.size #[.int .i64 l[k].k, .string l[k].c, .slice p2 l[k].set.length q2, .int .i64 l[k].e.op, .string l[k].e.t, .int .i64 l[k].e.v.k, .bool l[k].e.v.b, .int .i64 l[k].e.v.i, .string l[k].e.v.s, .slice p9 l[k].e.v.l.length q9, .slice p10 l[k].e.a.length q10, .string l[k].t]))
   have hR1 := heap_alloc_new wr (.cells #[.int .i64 0, .string ⟨#[]⟩, .slice none 0 0, .int .i64 0, .string ⟨#[]⟩, .int .i64 0, .bool false, .int .i64 0, .string ⟨#[]⟩, .slice none 0 0, .slice none 0 0, .string ⟨#[]⟩] 99)
   have hn1 : ((wr.alloc (.cells #[.int .i64 0, .string ⟨#[]⟩, .slice none 0 0, .int .i64 0, .string ⟨#[]⟩, .int .i64 0, .bool false, .int .i64 0, .string ⟨#[]⟩, .slice none 0 0, .slice none 0 0, .string ⟨#[]⟩] 99)).setRow wr.heap.size #[.int .i64 l[k].k, .string l[k].c, .slice p2 l[k].set.length q2, .int .i64 l[k].e.op, .string l[k].e.t, .int .i64 l[k].e.v.k, .bool l[k].e.v.b, .int .i64 l[k].e.v.i, .string l[k].e.v.s, .slice p9 l[k].e.v.l.length q9, .slice p10 l[k].e.a.length q10, .string l[k].t]).heap.size = wr.heap.size + 1 := hF.2.1
   have hR2 : (((wr.alloc (.cells #[.int .i64 0, .string ⟨#[]⟩, .slice none 0 0, .int .i64 0, .string ⟨#[]⟩, .int .i64 0, .bool false, .int .i64 0, .string ⟨#[]⟩, .slice none 0 0, .slice none 0 0, .string ⟨#[]⟩] 99)).setRow wr.heap.size #[.int .i64 l[k].k, .string l[k].c, .slice p2 l[k].set.length q2, .int .i64 l[k].e.op, .string l[k].e.t, .int .i64 l[k].e.v.k, .bool l[k].e.v.b, .int .i64 l[k].e.v.i, .string l[k].e.v.s, .slice p9 l[k].e.v.l.length q9, .slice p10 l[k].e.a.length q10, .string l[k].t]).alloc (.cells #[.int .i64 0, .string ⟨#[]⟩, .slice none 0 0, .int .i64 0, .string ⟨#[]⟩, .int .i64 0, .bool false, .int .i64 0, .string ⟨#[]⟩, .slice none 0 0, .slice none 0 0, .string ⟨#[]⟩] 99)).heap[wr.heap.size + 1]? = some (.cells #[.int .i64 0, .string ⟨#[]⟩, .slice none 0 0, .int .i64 0, .string ⟨#[]⟩, .int .i64 0, .bool false, .int .i64 0, .string ⟨#[]⟩, .slice none 0 0, .slice none 0 0, .string ⟨#[]⟩] 99) := by
    have := heap_alloc_new ((wr.alloc (.cells #[.int .i64 0, .string ⟨#[]⟩, .slice none 0 0, .int .i64 0, .string ⟨#[]⟩, .int .i64 0, .bool false, .int .i64 0, .string ⟨#[]⟩, .slice none 0 0, .slice none 0 0, .string ⟨#[]⟩] 99)).setRow wr.heap.size #[.int .i64 l[k].k, .string l[k].c, .slice p2 l[k].set.length q2, .int .i64 l[k].e.op, .string l[k].e.t, .int .i64 l[k].e.v.k, .bool l[k].e.v.b, .int .i64 l[k].e.v.i, .string l[k].e.v.s, .slice p9 l[k].e.v.l.length q9, .slice p10 l[k].e.a.length q10, .string l[k].t]) (.cells #[.int .i64 0, .string ⟨#[]⟩, .slice none 0 0, .int .i64 0, .string ⟨#[]⟩, .int .i64 0, .bool false, .int .i64 0, .string ⟨#[]⟩, .slice none 0 0, .slice none 0 0, .string ⟨#[]⟩] 99)
    rwa [hn1] at this
   have hG := fresh_row (show ((((wr.alloc (.cells #[.int .i64 0, .string ⟨#[]⟩, .slice none 0 0, .int .i64 0, .string ⟨#[]⟩, .int .i64 0, .bool false, .int .i64 0, .string ⟨#[]⟩, .slice none 0 0, .slice none 0 0, .string ⟨#[]⟩] 99)).setRow wr.heap.size #[.int .i64 l[k].k, .string l[k].c, .slice p2 l[k].set.length q2, .int .i64 l[k].e.op, .string l[k].e.t, .int .i64 l[k].e.v.k, .bool l[k].e.v.b, .int .i64 l[k].e.v.i, .string l[k].e.v.s, .slice p9 l[k].e.v.l.length q9, .slice p10 l[k].e.a.length q10, .string l[k].t]).alloc (.cells #[.int .i64 0, .string ⟨#[]⟩, .slice none 0 0, .int .i64 0, .string ⟨#[]⟩, .int .i64 0, .bool false, .int .i64 0, .string ⟨#[]⟩, .slice none 0 0, .slice none 0 0, .string ⟨#[]⟩] 99)).setRow (wr.heap.size + 1) #[.int .i64 l[k].k, .string l[k].c, .slice p2' l[k].set.length q2', .int .i64 l[k].e.op, .string l[k].e.t, .int .i64 l[k].e.v.k, .bool l[k].e.v.b, .int .i64 l[k].e.v.i, .string l[k].e.v.s, .slice p9' l[k].e.v.l.length q9', .slice p10' l[k].e.a.length q10', .string l[k].t]) = (((wr.alloc (.cells #[.int .i64 0, .string ⟨#[]⟩, .slice none 0 0, .int .i64 0, .string ⟨#[]⟩, .int .i64 0, .bool false, .int .i64 0, .string ⟨#[]⟩, .slice none 0 0, .slice none 0 0, .string ⟨#[]⟩] 99)).setRow wr.heap.size #[.int .i64 l[k].k, .string l[k].c, .slice p2 l[k].set.length q2, .int .i64 l[k].e.op, .string l[k].e.t, .int .i64 l[k].e.v.k, .bool l[k].e.v.b, .int .i64 l[k].e.v.i, .string l[k].e.v.s, .slice p9 l[k].e.v.l.length q9, .slice p10 l[k].e.a.length q10, .string l[k].t]).alloc (.cells #[.int .i64 0, .string ⟨#[]⟩, .slice none 0 0, .int .i64 0, .string ⟨#[]⟩, .int .i64 0, .bool false, .int .i64 0, .string ⟨#[]⟩, .slice none 0 0, .slice none 0 0, .string ⟨#[]⟩] 99)).setRow ((wr.alloc (.cells #[.int .i64 0, .string ⟨#[]⟩, .slice none 0 0, .int .i64 0, .string ⟨#[]⟩, .int .i64 0, .bool false, .int .i64 0, .string ⟨#[]⟩, .slice none 0 0, .slice none 0 0, .string ⟨#[]⟩] 99)).setRow wr.heap.size #[.int .i64 l[k].k, .string l[k].c, .slice p2 l[k].set.length q2, .int .i64 l[k].e.op, .string l[k].e.t, .int .i64 l[k].e.v.k, .bool l[k].e.v.b, .int .i64 l[k].e.v.i, .string l[k].e.v.s, .slice p9 l[k].e.v.l.length q9, .slice p10 l[k].e.a.length q10, .string l[k].t]).heap.size #[.int .i64 l[k].k, .string l[k].c, .slice p2' l[k].set.length q2', .int .i64 l[k].e.op, .string l[k].e.t, .int .i64 l[k].e.v.k, .bool l[k].e.v.b, .int .i64 l[k].e.v.i, .string l[k].e.v.s, .slice p9' l[k].e.v.l.length q9', .slice p10' l[k].e.a.length q10', .string l[k].t] by rw [hn1])
   have x0 := r2 0 _ rfl
   have x1 := r2 1 _ rfl
   have x2 := r2 2 _ rfl
   have x3 := r2 3 _ rfl
   have x4 := r2 4 _ rfl
   have x5 := r2 5 _ rfl
   have x6 := r2 6 _ rfl
   have x7 := r2 7 _ rfl
   have x8 := r2 8 _ rfl
   have x9 := r2 9 _ rfl
   have x10 := r2 10 _ rfl
   have x11 := r2 11 _ rfl
   rw [Nat.add_zero] at x0
   have y0 := (hF.1.cell (p := ⟨bb, _, none⟩) hbb).trans (s2 0 _ rfl)
   have y1 := (hF.1.cell (p := ⟨bb, _, none⟩) hbb).trans (s2 1 _ rfl)
   have y2 := (hF.1.cell (p := ⟨bb, _, none⟩) hbb).trans (s2 2 _ rfl)
   have y3 := (hF.1.cell (p := ⟨bb, _, none⟩) hbb).trans (s2 3 _ rfl)
   have y4 := (hF.1.cell (p := ⟨bb, _, none⟩) hbb).trans (s2 4 _ rfl)
   have y5 := (hF.1.cell (p := ⟨bb, _, none⟩) hbb).trans (s2 5 _ rfl)
   have y6 := (hF.1.cell (p := ⟨bb, _, none⟩) hbb).trans (s2 6 _ rfl)
   have y7 := (hF.1.cell (p := ⟨bb, _, none⟩) hbb).trans (s2 7 _ rfl)
   have y8 := (hF.1.cell (p := ⟨bb, _, none⟩) hbb).trans (s2 8 _ rfl)
   have y9 := (hF.1.cell (p := ⟨bb, _, none⟩) hbb).trans (s2 9 _ rfl)
   have y10 := (hF.1.cell (p := ⟨bb, _, none⟩) hbb).trans (s2 10 _ rfl)
   have y11 := (hF.1.cell (p := ⟨bb, _, none⟩) hbb).trans (s2 11 _ rfl)
   rw [Nat.add_zero] at y0
   clear r2 s2
   have B2 : Below wr.heap.size wr ((((wr.alloc (.cells #[.int .i64 0, .string ⟨#[]⟩, .slice none 0 0, .int .i64 0, .string ⟨#[]⟩, .int .i64 0, .bool false, .int .i64 0, .string ⟨#[]⟩, .slice none 0 0, .slice none 0 0, .string ⟨#[]⟩] 99)).setRow wr.heap.size #[.int .i64 l[k].k, .string l[k].c, .slice p2 l[k].set.length q2, .int .i64 l[k].e.op, .string l[k].e.t, .int .i64 l[k].e.v.k, .bool l[k].e.v.b, .int .i64 l[k].e.v.i, .string l[k].e.v.s, .slice p9 l[k].e.v.l.length q9, .slice p10 l[k].e.a.length q10, .string l[k].t]).alloc (.cells #[.int .i64 0, .string ⟨#[]⟩, .slice none 0 0, .int .i64 0, .string ⟨#[]⟩, .int .i64 0, .bool false, .int .i64 0, .string ⟨#[]⟩, .slice none 0 0, .slice none 0 0, .string ⟨#[]⟩] 99)).setRow (wr.heap.size + 1) #[.int .i64 l[k].k, .string l[k].c, .slice p2' l[k].set.length q2', .int .i64 l[k].e.op, .string l[k].e.t, .int .i64 l[k].e.v.k, .bool l[k].e.v.b, .int .i64 l[k].e.v.i, .string l[k].e.v.s, .slice p9' l[k].e.v.l.length q9', .slice p10' l[k].e.a.length q10', .string l[k].t]) := hF.1.trans (hG.1.mono hF.1.size)
   have XA : ((((wr.alloc (.cells #[.int .i64 0, .string ⟨#[]⟩, .slice none 0 0, .int .i64 0, .string ⟨#[]⟩, .int .i64 0, .bool false, .int .i64 0, .string ⟨#[]⟩, .slice none 0 0, .slice none 0 0, .string ⟨#[]⟩] 99)).setRow wr.heap.size #[.int .i64 l[k].k, .string l[k].c, .slice p2 l[k].set.length q2, .int .i64 l[k].e.op, .string l[k].e.t, .int .i64 l[k].e.v.k, .bool l[k].e.v.b, .int .i64 l[k].e.v.i, .string l[k].e.v.s, .slice p9 l[k].e.v.l.length q9, .slice p10 l[k].e.a.length q10, .string l[k].t]).alloc (.cells #[.int .i64 0, .string ⟨#[]⟩, .slice none 0 0, .int .i64 0, .string ⟨#[]⟩, .int .i64 0, .bool false, .int .i64 0, .string ⟨#[]⟩, .slice none 0 0, .slice none 0 0, .string ⟨#[]⟩] 99)).setRow (wr.heap.size + 1) #[.int .i64 l[k].k, .string l[k].c, .slice p2' l[k].set.length q2', .int .i64 l[k].e.op, .string l[k].e.t, .int .i64 l[k].e.v.k, .bool l[k].e.v.b, .int .i64 l[k].e.v.i, .string l[k].e.v.s, .slice p9' l[k].e.v.l.length q9', .slice p10' l[k].e.a.length q10', .string l[k].t]).heap[wr.heap.size]? = _ := (hG.1.block wr.heap.size (by rw [hn1]; omega)).trans hF.2.2
   have XB := hG.2.2
   rw [hn1] at XB
   have a0 : _ = some (Value.int .i64 l[k].k) := (heap_cell XA 0).1
   have b0 : _ = some (Value.int .i64 l[k].k) := (heap_cell XB 0).1
   have a1 : _ = some (Value.string l[k].c) := (heap_cell XA 1).1
   have b1 : _ = some (Value.string l[k].c) := (heap_cell XB 1).1
   have a2 : _ = some (Value.slice p2 l[k].set.length q2) := (heap_cell XA 2).1
   have b2 : _ = some (Value.slice p2' l[k].set.length q2') := (heap_cell XB 2).1
   have a3 : _ = some (Value.int .i64 l[k].e.op) := (heap_cell XA 3).1
   have b3 : _ = some (Value.int .i64 l[k].e.op) := (heap_cell XB 3).1
   have a4 : _ = some (Value.string l[k].e.t) := (heap_cell XA 4).1
   have b4 : _ = some (Value.string l[k].e.t) := (heap_cell XB 4).1
   have a5 : _ = some (Value.int .i64 l[k].e.v.k) := (heap_cell XA 5).1
   have b5 : _ = some (Value.int .i64 l[k].e.v.k) := (heap_cell XB 5).1
   have a6 : _ = some (Value.bool l[k].e.v.b) := (heap_cell XA 6).1
   have b6 : _ = some (Value.bool l[k].e.v.b) := (heap_cell XB 6).1
   have a7 : _ = some (Value.int .i64 l[k].e.v.i) := (heap_cell XA 7).1
   have b7 : _ = some (Value.int .i64 l[k].e.v.i) := (heap_cell XB 7).1
   have a8 : _ = some (Value.string l[k].e.v.s) := (heap_cell XA 8).1
   have b8 : _ = some (Value.string l[k].e.v.s) := (heap_cell XB 8).1
   have a9 : _ = some (Value.slice p9 l[k].e.v.l.length q9) := (heap_cell XA 9).1
   have b9 : _ = some (Value.slice p9' l[k].e.v.l.length q9') := (heap_cell XB 9).1
   have a10 : _ = some (Value.slice p10 l[k].e.a.length q10) := (heap_cell XA 10).1
   have b10 : _ = some (Value.slice p10' l[k].e.a.length q10') := (heap_cell XB 10).1
   have a11 : _ = some (Value.string l[k].t) := (heap_cell XA 11).1
   have b11 : _ = some (Value.string l[k].t) := (heap_cell XB 11).1
   go_wp2_with (with_reducible refine (id (?_ : wpList _ _ _ (Oper.mk _ (Op.store _ _ _) _ _ _ _ :: _) _ _)); first | refine wpList_store_row rfl _ _ _ rfl _ _ rfl rfl _ _ hR1 infoAct rfl rfl (by simp [Value.oneCell']) ?_ | refine wpList_store_row rfl _ _ _ rfl _ _ rfl rfl _ _ hR2 infoAct rfl rfl (by simp [Value.oneCell']) ?_)
   clear hF hG hR1 hR2 XA XB x0 y0 x1 y1 x2 y2 x3 y3 x4 y4 x5 y5 x6 y6 x7 y7 x8 y8 x9 y9 x10 y10 x11 y11
   refine (HX _ B2).out.mono ?_
   rintro e w4 ⟨rfl, hb4⟩
   have HD := B2.trans (hb4.mono B2.size)
   have HW4 := Hid.intro (HW.out.trans (HD.mono HW.out.size))
   have HS4 := Hid.intro (HS.out.via HD)
   have HS4' := Hid.intro (HS'.out.via HD)
   have g2 := (hb4.cell (p := ⟨wr.heap.size, 2, none⟩) (cell_lt5 a2)).trans a2
   have h2 := (hb4.cell (p := ⟨wr.heap.size + 1, 2, none⟩) (cell_lt5 b2)).trans b2
   have hN1 : wr.heap.size + 1 < w4.heap.size := cell_lt5 h2
   clear a0 a1 a2 a3 a4 a5 a6 a7 a8 a9 a10 a11 b0 b1 b2 b3 b4 b5 b6 b7 b8 b9 b10 b11 HS HS' HX hb4 B2 hn1
   generalize hN : wr.heap.size = N at *
   go_wp2_with fail
   go_loopw [8] (fun i wq => Hid (Below w4.heap.size w4 wq) ∧ ∃ j : Nat, j ≤ l[k].set.length ∧ i = .int .i64 (j : Int)) (fun i _ => l[k].set.length - (intOf i).toNat)
   case atStart => exact ⟨Below.refl _ _, 0, by omega, rfl⟩
   case round =>
    obtain ⟨HI, j, hj, rfl⟩ := hrel
    have g2 := (HI.out.cell (p := ⟨N, 2, none⟩) (by show N < _; omega)).trans g2
    have h2 := (HI.out.cell (p := ⟨N + 1, 2, none⟩) hN1).trans h2
    by_cases hjl : (j : Int) < (l[k].set.length : Int)
    ·have hj' : j < l[k].set.length := by omega
     obtain ⟨cb, co, us, rfl, hab, -, r1, r2⟩ := sl_elem As.cs 9 As.cs_len (HS4.out.via HI.out) hj'
     obtain ⟨db, do', us', rfl, hbb, -, s1, s2⟩ := sl_elem As.cs 9 As.cs_len (HS4'.out.via HI.out) hj'
     unfold As.cs at r1 s1
     obtain ⟨v0, _, rfl, z0, r5⟩ := r1.uncons
     obtain ⟨v0', _, rfl, t0, s5⟩ := s1.uncons
     obtain ⟨rfl, -⟩ := rep.lit_iff.1 z0
     obtain ⟨rfl, -⟩ := rep.lit_iff.1 t0
     obtain ⟨e6, f6, e7, f7, rfl, u6, u7⟩ := ex_cells r5
     obtain ⟨e6', f6', e7', f7', rfl, v6, v7⟩ := ex_cells s5
     have HQ := fun w' (h : Below wr.heap.size wr w') => Hid.intro (eqExpr_any (x := l[k].set[j].e) ⟨e6, _, f6, e7, _, f7, rfl, u6.via h, u7.via h⟩ ⟨e6', _, f6', e7', _, f7', rfl, v6.via h, v7.via h⟩)
     have x0 := r2 0 _ rfl
     have y0 := s2 0 _ rfl
     rw [Nat.add_zero] at x0 y0
     have CA := fun w' (h : Below wr.heap.size wr w') => (h.cell (p := ⟨N, 2, none⟩) (cell_lt5 g2)).trans g2
     have CB := fun w' (h : Below wr.heap.size wr w') => (h.cell (p := ⟨N + 1, 2, none⟩) (cell_lt5 h2)).trans h2
     have XA0 := fun w' (h : Below wr.heap.size wr w') => (h.cell (p := ⟨cb, co + j * 9, none⟩) hab).trans x0
     have XB0 := fun w' (h : Below wr.heap.size wr w') => (h.cell (p := ⟨db, do' + j * 9, none⟩) hbb).trans y0
     have XAE := fun (w' : World) (h : Below wr.heap.size wr w') => (fun i u hi => (h.cell (p := ⟨cb, co + j * 9 + 1 + i, none⟩) hab).trans (by rw [Nat.add_assoc (co + j * 9), Nat.add_comm 1 i]; exact r2 (i + 1) u hi) : w'.rangeAt cb (co + j * 9 + 1) [.int .i64 l[k].set[j].e.op, .string l[k].set[j].e.t, .int .i64 l[k].set[j].e.v.k, .bool l[k].set[j].e.v.b, .int .i64 l[k].set[j].e.v.i, .string l[k].set[j].e.v.s, .slice e6 l[k].set[j].e.v.l.length f6, .slice e7 l[k].set[j].e.a.length f7])
     have XBE := fun (w' : World) (h : Below wr.heap.size wr w') => (fun i u hi => (h.cell (p := ⟨db, do' + j * 9 + 1 + i, none⟩) hbb).trans (by rw [Nat.add_assoc (do' + j * 9), Nat.add_comm 1 i]; exact s2 (i + 1) u hi) : w'.rangeAt db (do' + j * 9 + 1) [.int .i64 l[k].set[j].e.op, .string l[k].set[j].e.t, .int .i64 l[k].set[j].e.v.k, .bool l[k].set[j].e.v.b, .int .i64 l[k].set[j].e.v.i, .string l[k].set[j].e.v.s, .slice e6' l[k].set[j].e.v.l.length f6', .slice e7' l[k].set[j].e.a.length f7'])
     clear r1 s1 r5 s5 z0 t0 u6 u7 v6 v7
     go_wp2_with fail
     refine wp_region_noPanic ?_
     refine wp_region_held_drew (S := fun w' => Below wr.heap.size wr w') hmo (Below.refl _ _).drew (fun hS => ?_)
     refine tq 0 71 (.pointer (some ⟨N, 2, none⟩)) hS ?_
     simp only [n3]
     refine tp 1 72 (.slice (some ⟨cb, co, none⟩) l[k].set.length q2) ⟨_, rfl, rfl, Or.inl ⟨by rfl, fun w hSw => by have hc := CA w hSw; go_simp⟩⟩ hS ?_
     simp only [n3]
     refine tq 2 73 (.int .i64 (j : Int)) hS ?_
     simp only [n3]
     refine tq 3 74 (.pointer (some ⟨cb, co + j * 9, none⟩)) hS ?_
     simp only [n3]
     refine tq 4 75 (.pointer (some ⟨cb, co + j * 9, none⟩)) hS ?_
     simp only [n3]
     refine tp 5 76 (.string l[k].set[j].f) ⟨_, rfl, rfl, Or.inl ⟨by rfl, fun w hSw => by have hc := XA0 w hSw; go_simp⟩⟩ hS ?_
     simp only [n3]
     refine tq 6 77 (.pointer (some ⟨N + 1, 2, none⟩)) hS ?_
     simp only [n3]
     refine tp 7 78 (.slice (some ⟨db, do', none⟩) l[k].set.length q2') ⟨_, rfl, rfl, Or.inl ⟨by rfl, fun w hSw => by have hc := CB w hSw; go_simp⟩⟩ hS ?_
     simp only [n3]
     refine tq 8 79 (.int .i64 (j : Int)) hS ?_
     simp only [n3]
     refine tq 9 80 (.pointer (some ⟨db, do' + j * 9, none⟩)) hS ?_
     simp only [n3]
     refine tq 10 81 (.pointer (some ⟨db, do' + j * 9, none⟩)) hS ?_
     simp only [n3]
     refine tp 11 82 (.string l[k].set[j].f) ⟨_, rfl, rfl, Or.inl ⟨by rfl, fun w hSw => by have hc := XB0 w hSw; go_simp⟩⟩ hS ?_
     simp only [n3]
     refine tq 12 83 (.bool false) hS ?_
     simp only [n3]
     refine tq 13 84 (.bool false) hS ?_
     simp only [n3]
     refine tq 14 85 (.pointer (some ⟨N, 2, none⟩)) hS ?_
     simp only [n3]
     refine tp 15 86 (.slice (some ⟨cb, co, none⟩) l[k].set.length q2) ⟨_, rfl, rfl, Or.inl ⟨by rfl, fun w hSw => by have hc := CA w hSw; go_simp⟩⟩ hS ?_
     simp only [n3]
     refine tq 16 87 (.int .i64 (j : Int)) hS ?_
     simp only [n3]
     refine tq 17 88 (.pointer (some ⟨cb, co + j * 9, none⟩)) hS ?_
     simp only [n3]
     refine tq 18 89 (.pointer (some ⟨cb, co + j * 9 + 1, none⟩)) hS ?_
     simp only [n3]
     refine tp 19 90 (.agg #[.int .i64 l[k].set[j].e.op, .string l[k].set[j].e.t, .int .i64 l[k].set[j].e.v.k, .bool l[k].set[j].e.v.b, .int .i64 l[k].set[j].e.v.i, .string l[k].set[j].e.v.s, .slice e6 l[k].set[j].e.v.l.length f6, .slice e7 l[k].set[j].e.a.length f7]) ⟨_, rfl, rfl, yieldsIf_load_mid (by rfl) _ _ rfl cb (co + j * 9 + 1) rfl [.int .i64 l[k].set[j].e.op, .string l[k].set[j].e.t, .int .i64 l[k].set[j].e.v.k, .bool l[k].set[j].e.v.b, .int .i64 l[k].set[j].e.v.i, .string l[k].set[j].e.v.s, .slice e6 l[k].set[j].e.v.l.length f6, .slice e7 l[k].set[j].e.a.length f7] _ (fun w' h => XAE w' h) Tryz.underlying39 rfl (by exact infoExpr)⟩ hS ?_
     simp only [n3]
     refine tq 20 91 (.pointer (some ⟨N + 1, 2, none⟩)) hS ?_
     simp only [n3]
     refine tp 21 92 (.slice (some ⟨db, do', none⟩) l[k].set.length q2') ⟨_, rfl, rfl, Or.inl ⟨by rfl, fun w hSw => by have hc := CB w hSw; go_simp⟩⟩ hS ?_
     simp only [n3]
     refine tq 22 93 (.int .i64 (j : Int)) hS ?_
     simp only [n3]
     refine tq 23 94 (.pointer (some ⟨db, do' + j * 9, none⟩)) hS ?_
     simp only [n3]
     refine tq 24 95 (.pointer (some ⟨db, do' + j * 9 + 1, none⟩)) hS ?_
     simp only [n3]
     refine tp 25 96 (.agg #[.int .i64 l[k].set[j].e.op, .string l[k].set[j].e.t, .int .i64 l[k].set[j].e.v.k, .bool l[k].set[j].e.v.b, .int .i64 l[k].set[j].e.v.i, .string l[k].set[j].e.v.s, .slice e6' l[k].set[j].e.v.l.length f6', .slice e7' l[k].set[j].e.a.length f7']) ⟨_, rfl, rfl, yieldsIf_load_mid (by rfl) _ _ rfl db (do' + j * 9 + 1) rfl [.int .i64 l[k].set[j].e.op, .string l[k].set[j].e.t, .int .i64 l[k].set[j].e.v.k, .bool l[k].set[j].e.v.b, .int .i64 l[k].set[j].e.v.i, .string l[k].set[j].e.v.s, .slice e6' l[k].set[j].e.v.l.length f6', .slice e7' l[k].set[j].e.a.length f7'] _ (fun w' h => XBE w' h) Tryz.underlying39 rfl (by exact infoExpr)⟩ hS ?_
     simp only [n3]
     generalize World.drew _ = w5 at hS ⊢
     refine on1 26 rfl (fun K' hK => ?_)
     go_simp
     refine (HQ _ hS).out.mono ?_
     rintro e w6 ⟨rfl, hb6⟩
     have D := hS.trans (hb6.mono hS.size)
     refine hK.out _ _ D (fun hS => ?_)
     clear hK K'
     (try simp only [Act.put, n3])
     refine tq 27 98 (.bool false) hS ?_
     simp only [n3]
     refine tq 28 99 (.bool false) hS ?_
     simp only [n3]
     refine wpAnyH_done (by kernel_rfl) ?_ _
     refine np_nrm5 ?_
     go_wp2
     go_roundw
     case rel => exact ⟨Hid.intro (HI.out.trans (D.mono HI.out.size)), j + 1, by omega, by go_num⟩
     case measure => simp [intOf]; omega
    ·go_wp2_with fail
     go_roundw
     case rel => exact ⟨Hid.intro (HW4.out.trans (HI.out.mono HW4.out.size)), k + 1, by omega, by go_num⟩
     case measure => simp [intOf]; omega
  ·go_wp2
   go_ret
   exact ⟨rfl, HW.out⟩
end
end Go.Proofs.YtoeodjobggodcaaGreatDoor
/- What the laws' own equality tells of data that are the same: bases. -/
namespace Go.Proofs.YtoeodjobggodcaaGreatDoor
section
open Go.RowKit
theorem Ca.cs_len (x : Ca) : x.cs.length = 3 := rfl
theorem Ru.cs_len (x : Ru) : x.cs.length = 8 := rfl
theorem Qu.cs_len (x : Qu) : x.cs.length = 3 := rfl
set_option maxRecDepth 100000 in
set_option maxHeartbeats 8000000 in
theorem eqBase_any {x : Bs} {P Q : Nat → Prop} {w : World} {va vb : Value} (ha : BsV P w x va) (hb : BsV Q w x vb) : Alike 12 va vb w := by
 obtain ⟨v1, v2, v3, rfl, h1, h2, h3⟩ := ha
 obtain ⟨v1', v2', v3', rfl, h1', h2', h3'⟩ := hb
 have H1 := Hid.intro h1
 have H1' := Hid.intro h1'
 have H2 := Hid.intro h2
 have H2' := Hid.intro h2'
 have H3 := Hid.intro h3
 have H3' := Hid.intro h3'
 obtain ⟨p1, c1, rfl, l1, m1⟩ := sl_form h1
 obtain ⟨p2, c2, rfl, l2, m2⟩ := sl_form h2
 obtain ⟨p3, c3, rfl, l3, m3⟩ := sl_form h3
 obtain ⟨p1', c1', rfl, -, -⟩ := sl_form h1'
 obtain ⟨p2', c2', rfl, -, -⟩ := sl_form h2'
 obtain ⟨p3', c3', rfl, -, -⟩ := sl_form h3'
 have hm1 : x.c.length ≤ 9223372036854775807 := Nat.le_trans l1 (Nat.le_trans m1 (by decide))
 have hm2 : x.r.length ≤ 9223372036854775807 := Nat.le_trans l2 (Nat.le_trans m2 (by decide))
 have hm3 : x.q.length ≤ 9223372036854775807 := Nat.le_trans l3 (Nat.le_trans m3 (by decide))
 clear h1 h2 h3 h1' h2' h3' l1 l2 l3 m1 m2 m3
 have hmo : Tryz.prog.follows .mixedOrders = true := by kernel_rfl
 have b0 : Below w.heap.size w ((w.alloc (.cells #[.slice p1 x.c.length c1, .slice p2 x.r.length c2, .slice p3 x.q.length c3] 27)).alloc (.cells #[.slice p1' x.c.length c1', .slice p2' x.r.length c2', .slice p3' x.q.length c3'] 27)) := below_al (below_al (Below.refl _ _) _) _
 have hz : ((w.alloc (.cells #[.slice p1 x.c.length c1, .slice p2 x.r.length c2, .slice p3 x.q.length c3] 27)).alloc (.cells #[.slice p1' x.c.length c1', .slice p2' x.r.length c2', .slice p3' x.q.length c3'] 27)).heap.size = w.heap.size + 2 := by simp
 have XA : ((w.alloc (.cells #[.slice p1 x.c.length c1, .slice p2 x.r.length c2, .slice p3 x.q.length c3] 27)).alloc (.cells #[.slice p1' x.c.length c1', .slice p2' x.r.length c2', .slice p3' x.q.length c3'] 27)).heap[w.heap.size]? = some (.cells #[.slice p1 x.c.length c1, .slice p2 x.r.length c2, .slice p3 x.q.length c3] 27) := (heap_alloc_old _ _ (by simp)).trans (heap_alloc_new w _)
 have XB : ((w.alloc (.cells #[.slice p1 x.c.length c1, .slice p2 x.r.length c2, .slice p3 x.q.length c3] 27)).alloc (.cells #[.slice p1' x.c.length c1', .slice p2' x.r.length c2', .slice p3' x.q.length c3'] 27)).heap[w.heap.size + 1]? = some (.cells #[.slice p1' x.c.length c1', .slice p2' x.r.length c2', .slice p3' x.q.length c3'] 27) := by
  have := heap_alloc_new (w.alloc (.cells #[.slice p1 x.c.length c1, .slice p2 x.r.length c2, .slice p3 x.q.length c3] 27)) (.cells #[.slice p1' x.c.length c1', .slice p2' x.r.length c2', .slice p3' x.q.length c3'] 27)
  simpa using this
 have FA := fun w' (hw : Below ((w.alloc (.cells #[.slice p1 x.c.length c1, .slice p2 x.r.length c2, .slice p3 x.q.length c3] 27)).alloc (.cells #[.slice p1' x.c.length c1', .slice p2' x.r.length c2', .slice p3' x.q.length c3'] 27)).heap.size ((w.alloc (.cells #[.slice p1 x.c.length c1, .slice p2 x.r.length c2, .slice p3 x.q.length c3] 27)).alloc (.cells #[.slice p1' x.c.length c1', .slice p2' x.r.length c2', .slice p3' x.q.length c3'] 27)) w') j => (hw.cell (p := ⟨w.heap.size, j, none⟩) (by rw [hz]; show w.heap.size < _; omega)).trans (heap_cell XA j).1
 have FB := fun w' (hw : Below ((w.alloc (.cells #[.slice p1 x.c.length c1, .slice p2 x.r.length c2, .slice p3 x.q.length c3] 27)).alloc (.cells #[.slice p1' x.c.length c1', .slice p2' x.r.length c2', .slice p3' x.q.length c3'] 27)).heap.size ((w.alloc (.cells #[.slice p1 x.c.length c1, .slice p2 x.r.length c2, .slice p3 x.q.length c3] 27)).alloc (.cells #[.slice p1' x.c.length c1', .slice p2' x.r.length c2', .slice p3' x.q.length c3'] 27)) w') j => (hw.cell (p := ⟨w.heap.size + 1, j, none⟩) (by rw [hz]; show w.heap.size + 1 < _; omega)).trans (heap_cell XB j).1
 clear XA XB
 go_enter Tryz.func12, Tryz.ntmps12
 go_wp2_with fail
 go_loopw [5] (fun i wr => Hid (Below ((w.alloc (.cells #[.slice p1 x.c.length c1, .slice p2 x.r.length c2, .slice p3 x.q.length c3] 27)).alloc (.cells #[.slice p1' x.c.length c1', .slice p2' x.r.length c2', .slice p3' x.q.length c3'] 27)).heap.size ((w.alloc (.cells #[.slice p1 x.c.length c1, .slice p2 x.r.length c2, .slice p3 x.q.length c3] 27)).alloc (.cells #[.slice p1' x.c.length c1', .slice p2' x.r.length c2', .slice p3' x.q.length c3'] 27)) wr) ∧ ∃ k : Nat, k ≤ x.c.length ∧ i = .int .i64 (k : Int)) (fun i _ => x.c.length - (intOf i).toNat)
 case atStart => exact ⟨Hid.intro (Below.refl _ _), 0, by omega, rfl⟩
 case round =>
  obtain ⟨HW, k, hk, rfl⟩ := hrel
  have fa0 : wr.cell? ⟨w.heap.size, 0, none⟩ = some (Value.slice p1 x.c.length c1) := FA _ HW.out 0
  have fb0 : wr.cell? ⟨w.heap.size + 1, 0, none⟩ = some (Value.slice p1' x.c.length c1') := FB _ HW.out 0
  by_cases hlt : (k : Int) < (x.c.length : Int)
  ·have hlt' : k < x.c.length := by omega
   obtain ⟨cb, co, us, rfl, hab, -, r1, r2⟩ := sl_elem Ca.cs 3 Ca.cs_len (H1.out.via (b0.trans (HW.out.mono b0.size))) hlt'
   obtain ⟨db, eo, us', rfl, hbb, -, s1, s2⟩ := sl_elem Ca.cs 3 Ca.cs_len (H1'.out.via (b0.trans (HW.out.mono b0.size))) hlt'
   unfold Ca.cs at r1 s1
   obtain ⟨v0, _, rfl, z0, g0⟩ := r1.uncons
   obtain ⟨v0', _, rfl, t0, j0⟩ := s1.uncons
   obtain ⟨v1, _, rfl, z1, g1⟩ := g0.uncons
   obtain ⟨v1', _, rfl, t1, j1⟩ := j0.uncons
   obtain ⟨v2, _, rfl, z2, g2⟩ := g1.uncons
   obtain ⟨v2', _, rfl, t2, j2⟩ := j1.uncons
   obtain ⟨rfl, -⟩ := rep.lit_iff.1 z0
   obtain ⟨rfl, -⟩ := rep.lit_iff.1 t0
   obtain ⟨rfl, -⟩ := rep.lit_iff.1 z1
   obtain ⟨rfl, -⟩ := rep.lit_iff.1 t1
   have HF := fun w' (h : Below wr.heap.size wr w') => Hid.intro (eqFields_any (l := x.c[k].f) (z2.via h) (t2.via h))
   obtain ⟨pf, qf, rfl, -⟩ := sl_form z2
   obtain ⟨pf', qf', rfl, -⟩ := sl_form t2
   have XA0 := fun w' (h : Below wr.heap.size wr w') => (h.cell (p := ⟨cb, co + k * 3, none⟩) hab).trans (r2 0 _ rfl)
   have XB0 := fun w' (h : Below wr.heap.size wr w') => (h.cell (p := ⟨db, eo + k * 3, none⟩) hbb).trans (s2 0 _ rfl)
   have XA1 := fun w' (h : Below wr.heap.size wr w') => (h.cell (p := ⟨cb, co + k * 3 + 1, none⟩) hab).trans (r2 1 _ rfl)
   have XB1 := fun w' (h : Below wr.heap.size wr w') => (h.cell (p := ⟨db, eo + k * 3 + 1, none⟩) hbb).trans (s2 1 _ rfl)
   have XA2 := fun w' (h : Below wr.heap.size wr w') => (h.cell (p := ⟨cb, co + k * 3 + 2, none⟩) hab).trans (r2 2 _ rfl)
   have XB2 := fun w' (h : Below wr.heap.size wr w') => (h.cell (p := ⟨db, eo + k * 3 + 2, none⟩) hbb).trans (s2 2 _ rfl)
   have CA := fun w' (h : Below wr.heap.size wr w') => (h.cell (p := ⟨w.heap.size, 0, none⟩) (cell_lt5 fa0)).trans fa0
   have CB := fun w' (h : Below wr.heap.size wr w') => (h.cell (p := ⟨w.heap.size + 1, 0, none⟩) (cell_lt5 fb0)).trans fb0
   clear r1 s1 r2 s2 z0 t0 z1 t1 z2 t2 g0 j0 g1 j1 g2 j2 FA FB
   go_wp2_with fail
   refine wp_region_noPanic ?_
   refine wp_region_held_drew (S := fun w' => Below wr.heap.size wr w') hmo (Below.refl _ _).drew (fun hS => ?_)
   refine tq 0 42 (.pointer (some ⟨w.heap.size, 0, none⟩)) hS ?_
   simp only [n3]
   refine tp 1 43 (.slice (some ⟨cb, co, none⟩) x.c.length c1) ⟨_, rfl, rfl, Or.inl ⟨by rfl, fun w hSw => by have hc := CA w hSw; go_simp⟩⟩ hS ?_
   simp only [n3]
   refine tq 2 44 (.int .i64 (k : Int)) hS ?_
   simp only [n3]
   refine tq 3 45 (.pointer (some ⟨cb, co + k * 3, none⟩)) hS ?_
   simp only [n3]
   refine tq 4 46 (.pointer (some ⟨cb, co + k * 3, none⟩)) hS ?_
   simp only [n3]
   refine tp 5 47 (.string x.c[k].n) ⟨_, rfl, rfl, Or.inl ⟨by rfl, fun w hSw => by have hc := XA0 w hSw; go_simp⟩⟩ hS ?_
   simp only [n3]
   refine tq 6 48 (.pointer (some ⟨w.heap.size + 1, 0, none⟩)) hS ?_
   simp only [n3]
   refine tp 7 49 (.slice (some ⟨db, eo, none⟩) x.c.length c1') ⟨_, rfl, rfl, Or.inl ⟨by rfl, fun w hSw => by have hc := CB w hSw; go_simp⟩⟩ hS ?_
   simp only [n3]
   refine tq 8 50 (.int .i64 (k : Int)) hS ?_
   simp only [n3]
   refine tq 9 51 (.pointer (some ⟨db, eo + k * 3, none⟩)) hS ?_
   simp only [n3]
   refine tq 10 52 (.pointer (some ⟨db, eo + k * 3, none⟩)) hS ?_
   simp only [n3]
   refine tp 11 53 (.string x.c[k].n) ⟨_, rfl, rfl, Or.inl ⟨by rfl, fun w hSw => by have hc := XB0 w hSw; go_simp⟩⟩ hS ?_
   simp only [n3]
   refine tq 12 54 (.bool false) hS ?_
   simp only [n3]
   refine tq 13 55 (.bool false) hS ?_
   simp only [n3]
   refine tq 14 56 (.pointer (some ⟨w.heap.size, 0, none⟩)) hS ?_
   simp only [n3]
   refine tp 15 57 (.slice (some ⟨cb, co, none⟩) x.c.length c1) ⟨_, rfl, rfl, Or.inl ⟨by rfl, fun w hSw => by have hc := CA w hSw; go_simp⟩⟩ hS ?_
   simp only [n3]
   refine tq 16 58 (.int .i64 (k : Int)) hS ?_
   simp only [n3]
   refine tq 17 59 (.pointer (some ⟨cb, co + k * 3, none⟩)) hS ?_
   simp only [n3]
   refine tq 18 60 (.pointer (some ⟨cb, co + k * 3 + 1, none⟩)) hS ?_
   simp only [n3]
   refine tp 19 61 (.string x.c[k].s) ⟨_, rfl, rfl, Or.inl ⟨by rfl, fun w hSw => by have hc := XA1 w hSw; go_simp⟩⟩ hS ?_
   simp only [n3]
   refine tq 20 62 (.pointer (some ⟨w.heap.size + 1, 0, none⟩)) hS ?_
   simp only [n3]
   refine tp 21 63 (.slice (some ⟨db, eo, none⟩) x.c.length c1') ⟨_, rfl, rfl, Or.inl ⟨by rfl, fun w hSw => by have hc := CB w hSw; go_simp⟩⟩ hS ?_
   simp only [n3]
   refine tq 22 64 (.int .i64 (k : Int)) hS ?_
   simp only [n3]
   refine tq 23 65 (.pointer (some ⟨db, eo + k * 3, none⟩)) hS ?_
   simp only [n3]
   refine tq 24 66 (.pointer (some ⟨db, eo + k * 3 + 1, none⟩)) hS ?_
   simp only [n3]
   refine tp 25 67 (.string x.c[k].s) ⟨_, rfl, rfl, Or.inl ⟨by rfl, fun w hSw => by have hc := XB1 w hSw; go_simp⟩⟩ hS ?_
   simp only [n3]
   refine tq 26 68 (.bool false) hS ?_
   simp only [n3]
   refine tq 27 69 (.bool false) hS ?_
   simp only [n3]
   refine tq 28 70 (.bool false) hS ?_
   simp only [n3]
   refine tq 29 71 (.pointer (some ⟨w.heap.size, 0, none⟩)) hS ?_
   simp only [n3]
   refine tp 30 72 (.slice (some ⟨cb, co, none⟩) x.c.length c1) ⟨_, rfl, rfl, Or.inl ⟨by rfl, fun w hSw => by have hc := CA w hSw; go_simp⟩⟩ hS ?_
   simp only [n3]
   refine tq 31 73 (.int .i64 (k : Int)) hS ?_
   simp only [n3]
   refine tq 32 74 (.pointer (some ⟨cb, co + k * 3, none⟩)) hS ?_
   simp only [n3]
   refine tq 33 75 (.pointer (some ⟨cb, co + k * 3 + 2, none⟩)) hS ?_
   simp only [n3]
   refine tp 34 76 (.slice pf x.c[k].f.length qf) ⟨_, rfl, rfl, Or.inl ⟨by rfl, fun w hSw => by have hc := XA2 w hSw; go_simp⟩⟩ hS ?_
   simp only [n3]
   refine tq 35 77 (.pointer (some ⟨w.heap.size + 1, 0, none⟩)) hS ?_
   simp only [n3]
   refine tp 36 78 (.slice (some ⟨db, eo, none⟩) x.c.length c1') ⟨_, rfl, rfl, Or.inl ⟨by rfl, fun w hSw => by have hc := CB w hSw; go_simp⟩⟩ hS ?_
   simp only [n3]
   refine tq 37 79 (.int .i64 (k : Int)) hS ?_
   simp only [n3]
   refine tq 38 80 (.pointer (some ⟨db, eo + k * 3, none⟩)) hS ?_
   simp only [n3]
   refine tq 39 81 (.pointer (some ⟨db, eo + k * 3 + 2, none⟩)) hS ?_
   simp only [n3]
   refine tp 40 82 (.slice pf' x.c[k].f.length qf') ⟨_, rfl, rfl, Or.inl ⟨by rfl, fun w hSw => by have hc := XB2 w hSw; go_simp⟩⟩ hS ?_
   simp only [n3]
   generalize World.drew _ = w3 at hS ⊢
   refine on1 41 rfl (fun K' hK => ?_)
   go_simp
   refine (HF _ hS).out.mono ?_
   rintro e w4 ⟨rfl, hc4⟩
   have D4 := hS.trans (hc4.mono hS.size)
   refine hK.out _ _ D4 (fun hS => ?_)
   clear hK K'
   (try simp only [Act.put, n3])
   refine tq 42 84 (.bool false) hS ?_
   simp only [n3]
   refine tq 43 85 (.bool false) hS ?_
   simp only [n3]
   refine wpAnyH_done (by kernel_rfl) ?_ _
   refine np_nrm5 ?_
   go_wp2
   go_roundw
   case rel => exact ⟨Hid.intro (HW.out.trans (D4.mono HW.out.size)), k + 1, by omega, by go_num⟩
   case measure => simp [intOf]; omega
  ·go_wp2_with fail
   clear fa0 fb0
   go_loopw [6] (fun i wq => Hid (Below ((w.alloc (.cells #[.slice p1 x.c.length c1, .slice p2 x.r.length c2, .slice p3 x.q.length c3] 27)).alloc (.cells #[.slice p1' x.c.length c1', .slice p2' x.r.length c2', .slice p3' x.q.length c3'] 27)).heap.size ((w.alloc (.cells #[.slice p1 x.c.length c1, .slice p2 x.r.length c2, .slice p3 x.q.length c3] 27)).alloc (.cells #[.slice p1' x.c.length c1', .slice p2' x.r.length c2', .slice p3' x.q.length c3'] 27)) wq) ∧ ∃ k : Nat, k ≤ x.r.length ∧ i = .int .i64 (k : Int)) (fun i _ => x.r.length - (intOf i).toNat)
   case atStart => exact ⟨HW, 0, by omega, rfl⟩
   case round =>
    clear HW
    obtain ⟨HW, k, hk', rfl⟩ := hrel
    have fa1 : wr.cell? ⟨w.heap.size, 1, none⟩ = some (Value.slice p2 x.r.length c2) := FA _ HW.out 1
    have fb1 : wr.cell? ⟨w.heap.size + 1, 1, none⟩ = some (Value.slice p2' x.r.length c2') := FB _ HW.out 1
    by_cases hlt : (k : Int) < (x.r.length : Int)
    ·have hlt' : k < x.r.length := by omega
     obtain ⟨cb, co, us, rfl, hab, -, r1, r2⟩ := sl_elem Ru.cs 8 Ru.cs_len (H2.out.via (b0.trans (HW.out.mono b0.size))) hlt'
     obtain ⟨db, eo, us', rfl, hbb, -, s1, s2⟩ := sl_elem Ru.cs 8 Ru.cs_len (H2'.out.via (b0.trans (HW.out.mono b0.size))) hlt'
     unfold Ru.cs at r1 s1
     obtain ⟨v0, _, rfl, z0, g0⟩ := r1.uncons
     obtain ⟨v0', _, rfl, t0, j0⟩ := s1.uncons
     obtain ⟨v1, _, rfl, z1, g1⟩ := g0.uncons
     obtain ⟨v1', _, rfl, t1, j1⟩ := j0.uncons
     obtain ⟨v2, _, rfl, z2, g2⟩ := g1.uncons
     obtain ⟨v2', _, rfl, t2, j2⟩ := j1.uncons
     obtain ⟨v3, _, rfl, z3, g3⟩ := g2.uncons
     obtain ⟨v3', _, rfl, t3, j3⟩ := j2.uncons
     obtain ⟨v4, _, rfl, z4, g4⟩ := g3.uncons
     obtain ⟨v4', _, rfl, t4, j4⟩ := j3.uncons
     obtain ⟨v5, _, rfl, z5, g5⟩ := g4.uncons
     obtain ⟨v5', _, rfl, t5, j5⟩ := j4.uncons
     obtain ⟨v6, _, rfl, z6, g6⟩ := g5.uncons
     obtain ⟨v6', _, rfl, t6, j6⟩ := j5.uncons
     obtain ⟨v7, _, rfl, z7, g7⟩ := g6.uncons
     obtain ⟨v7', _, rfl, t7, j7⟩ := j6.uncons
     obtain ⟨rfl, -⟩ := rep.lit_iff.1 z0
     obtain ⟨rfl, -⟩ := rep.lit_iff.1 t0
     obtain ⟨rfl, -⟩ := rep.lit_iff.1 z1
     obtain ⟨rfl, -⟩ := rep.lit_iff.1 t1
     obtain ⟨rfl, -⟩ := rep.lit_iff.1 z2
     obtain ⟨rfl, -⟩ := rep.lit_iff.1 t2
     obtain ⟨rfl, -⟩ := rep.lit_iff.1 z3
     obtain ⟨rfl, -⟩ := rep.lit_iff.1 t3
     obtain ⟨rfl, -⟩ := rep.lit_iff.1 z4
     obtain ⟨rfl, -⟩ := rep.lit_iff.1 t4
     obtain ⟨rfl, -⟩ := rep.lit_iff.1 z5
     obtain ⟨rfl, -⟩ := rep.lit_iff.1 t5
     have HF := fun w' (h : Below wr.heap.size wr w') => Hid.intro (eqConds_any (l := x.r[k].whn) (z6.via h) (t6.via h))
     have HG := fun w' (h : Below wr.heap.size wr w') => Hid.intro (eqActions_any (l := x.r[k].thn) (z7.via h) (t7.via h))
     obtain ⟨pf, qf, rfl, -⟩ := sl_form z6
     obtain ⟨pf', qf', rfl, -⟩ := sl_form t6
     obtain ⟨pg, qg, rfl, -⟩ := sl_form z7
     obtain ⟨pg', qg', rfl, -⟩ := sl_form t7
     have x0 := r2 0 _ rfl
     have y0 := s2 0 _ rfl
     have x1 := r2 1 _ rfl
     have y1 := s2 1 _ rfl
     have x2 := r2 2 _ rfl
     have y2 := s2 2 _ rfl
     have x3 := r2 3 _ rfl
     have y3 := s2 3 _ rfl
     have x4 := r2 4 _ rfl
     have y4 := s2 4 _ rfl
     have x5 := r2 5 _ rfl
     have y5 := s2 5 _ rfl
     have x6 := r2 6 _ rfl
     have y6 := s2 6 _ rfl
     have x7 := r2 7 _ rfl
     have y7 := s2 7 _ rfl
     rw [Nat.add_zero] at x0 y0
     have hn1 := cell_lt5 fb1
     have B2 : Below wr.heap.size wr ((wr.alloc (.cells #[.string x.r[k].name, .int .i64 x.r[k].sal, .string x.r[k].group, .string x.r[k].flow, .bool x.r[k].nl, .bool x.r[k].lock, .slice pf x.r[k].whn.length qf, .slice pg x.r[k].thn.length qg] 51)).alloc (.cells #[.string x.r[k].name, .int .i64 x.r[k].sal, .string x.r[k].group, .string x.r[k].flow, .bool x.r[k].nl, .bool x.r[k].lock, .slice pf' x.r[k].whn.length qf', .slice pg' x.r[k].thn.length qg'] 51)) := below_al (below_al (Below.refl _ _) _) _
     clear r1 s1 r2 s2 z0 t0 z1 t1 z2 t2 z3 t3 z4 t4 z5 t5 z6 t6 z7 t7 g0 j0 g1 j1 g2 j2 g3 j3 g4 j4 g5 j5 g6 j6 g7 j7 FA FB
     go_wp2_with fail
     refine (HF _ B2).out.mono ?_
     rintro e w4 ⟨rfl, hb4⟩
     have c7 : w4.cell? ⟨wr.heap.size, 7, none⟩ = some (.slice pg x.r[k].thn.length qg) := (hb4.cell (p := ⟨wr.heap.size, 7, none⟩) (by simp; omega)).trans (by simp [go_sem])
     have d7 : w4.cell? ⟨wr.heap.size + 1, 7, none⟩ = some (.slice pg' x.r[k].thn.length qg') := (hb4.cell (p := ⟨wr.heap.size + 1, 7, none⟩) (by simp)).trans (by simp [go_sem])
     have D4 := B2.trans (hb4.mono B2.size)
     go_wp2_with fail
     refine (HG _ D4).out.mono ?_
     rintro e w5 ⟨rfl, hb5⟩
     have D5 := D4.trans (hb5.mono D4.size)
     go_wp2_with fail
     go_roundw
     case rel => exact ⟨Hid.intro (HW.out.trans (D5.mono HW.out.size)), k + 1, by omega, by go_num⟩
     case measure => simp [intOf]; omega
    ·go_wp2_with fail
     clear fa1 fb1
     go_loopw [9] (fun i wq => Hid (Below ((w.alloc (.cells #[.slice p1 x.c.length c1, .slice p2 x.r.length c2, .slice p3 x.q.length c3] 27)).alloc (.cells #[.slice p1' x.c.length c1', .slice p2' x.r.length c2', .slice p3' x.q.length c3'] 27)).heap.size ((w.alloc (.cells #[.slice p1 x.c.length c1, .slice p2 x.r.length c2, .slice p3 x.q.length c3] 27)).alloc (.cells #[.slice p1' x.c.length c1', .slice p2' x.r.length c2', .slice p3' x.q.length c3'] 27)) wq) ∧ ∃ k : Nat, k ≤ x.q.length ∧ i = .int .i64 (k : Int)) (fun i _ => x.q.length - (intOf i).toNat)
     case atStart => exact ⟨HW, 0, by omega, rfl⟩
     case round =>
      clear HW
      obtain ⟨HW, k, hk'', rfl⟩ := hrel
      have fa2 : wr.cell? ⟨w.heap.size, 2, none⟩ = some (Value.slice p3 x.q.length c3) := FA _ HW.out 2
      have fb2 : wr.cell? ⟨w.heap.size + 1, 2, none⟩ = some (Value.slice p3' x.q.length c3') := FB _ HW.out 2
      by_cases hlt : (k : Int) < (x.q.length : Int)
      ·have hlt' : k < x.q.length := by omega
       obtain ⟨cb, co, us, rfl, hab, -, r1, r2⟩ := sl_elem Qu.cs 3 Qu.cs_len (H3.out.via (b0.trans (HW.out.mono b0.size))) hlt'
       obtain ⟨db, eo, us', rfl, hbb, -, s1, s2⟩ := sl_elem Qu.cs 3 Qu.cs_len (H3'.out.via (b0.trans (HW.out.mono b0.size))) hlt'
       unfold Qu.cs at r1 s1
       obtain ⟨v0, _, rfl, z0, g0⟩ := r1.uncons
       obtain ⟨v0', _, rfl, t0, j0⟩ := s1.uncons
       obtain ⟨v1, _, rfl, z1, g1⟩ := g0.uncons
       obtain ⟨v1', _, rfl, t1, j1⟩ := j0.uncons
       obtain ⟨v2, _, rfl, z2, g2⟩ := g1.uncons
       obtain ⟨v2', _, rfl, t2, j2⟩ := j1.uncons
       obtain ⟨rfl, -⟩ := rep.lit_iff.1 z0
       obtain ⟨rfl, -⟩ := rep.lit_iff.1 t0
       have HF := fun w' (h : Below wr.heap.size wr w') => Hid.intro (eqTexts_any (l := x.q[k].params) (z1.via h) (t1.via h))
       have HG := fun w' (h : Below wr.heap.size wr w') => Hid.intro (eqConds_any (l := x.q[k].whn) (z2.via h) (t2.via h))
       obtain ⟨pf, qf, rfl, -⟩ := sl_form z1
       obtain ⟨pf', qf', rfl, -⟩ := sl_form t1
       obtain ⟨pg, qg, rfl, -⟩ := sl_form z2
       obtain ⟨pg', qg', rfl, -⟩ := sl_form t2
       have XA0 := fun w' (h : Below wr.heap.size wr w') => (h.cell (p := ⟨cb, co + k * 3, none⟩) hab).trans (r2 0 _ rfl)
       have XB0 := fun w' (h : Below wr.heap.size wr w') => (h.cell (p := ⟨db, eo + k * 3, none⟩) hbb).trans (s2 0 _ rfl)
       have XA1 := fun w' (h : Below wr.heap.size wr w') => (h.cell (p := ⟨cb, co + k * 3 + 1, none⟩) hab).trans (r2 1 _ rfl)
       have XB1 := fun w' (h : Below wr.heap.size wr w') => (h.cell (p := ⟨db, eo + k * 3 + 1, none⟩) hbb).trans (s2 1 _ rfl)
       have XA2 := fun w' (h : Below wr.heap.size wr w') => (h.cell (p := ⟨cb, co + k * 3 + 2, none⟩) hab).trans (r2 2 _ rfl)
       have XB2 := fun w' (h : Below wr.heap.size wr w') => (h.cell (p := ⟨db, eo + k * 3 + 2, none⟩) hbb).trans (s2 2 _ rfl)
       have CA := fun w' (h : Below wr.heap.size wr w') => (h.cell (p := ⟨w.heap.size, 2, none⟩) (cell_lt5 fa2)).trans fa2
       have CB := fun w' (h : Below wr.heap.size wr w') => (h.cell (p := ⟨w.heap.size + 1, 2, none⟩) (cell_lt5 fb2)).trans fb2
       clear r1 s1 r2 s2 z0 t0 z1 t1 z2 t2 g0 j0 g1 j1 g2 j2 FA FB
       go_wp2_with fail
       refine wp_region_noPanic ?_
       refine wp_region_held_drew (S := fun w' => Below wr.heap.size wr w') hmo (Below.refl _ _).drew (fun hS => ?_)
       refine tq 0 166 (.pointer (some ⟨w.heap.size, 2, none⟩)) hS ?_
       simp only [n3]
       refine tp 1 167 (.slice (some ⟨cb, co, none⟩) x.q.length c3) ⟨_, rfl, rfl, Or.inl ⟨by rfl, fun w hSw => by have hc := CA w hSw; go_simp⟩⟩ hS ?_
       simp only [n3]
       refine tq 2 168 (.int .i64 (k : Int)) hS ?_
       simp only [n3]
       refine tq 3 169 (.pointer (some ⟨cb, co + k * 3, none⟩)) hS ?_
       simp only [n3]
       refine tq 4 170 (.pointer (some ⟨cb, co + k * 3, none⟩)) hS ?_
       simp only [n3]
       refine tp 5 171 (.string x.q[k].name) ⟨_, rfl, rfl, Or.inl ⟨by rfl, fun w hSw => by have hc := XA0 w hSw; go_simp⟩⟩ hS ?_
       simp only [n3]
       refine tq 6 172 (.pointer (some ⟨w.heap.size + 1, 2, none⟩)) hS ?_
       simp only [n3]
       refine tp 7 173 (.slice (some ⟨db, eo, none⟩) x.q.length c3') ⟨_, rfl, rfl, Or.inl ⟨by rfl, fun w hSw => by have hc := CB w hSw; go_simp⟩⟩ hS ?_
       simp only [n3]
       refine tq 8 174 (.int .i64 (k : Int)) hS ?_
       simp only [n3]
       refine tq 9 175 (.pointer (some ⟨db, eo + k * 3, none⟩)) hS ?_
       simp only [n3]
       refine tq 10 176 (.pointer (some ⟨db, eo + k * 3, none⟩)) hS ?_
       simp only [n3]
       refine tp 11 177 (.string x.q[k].name) ⟨_, rfl, rfl, Or.inl ⟨by rfl, fun w hSw => by have hc := XB0 w hSw; go_simp⟩⟩ hS ?_
       simp only [n3]
       refine tq 12 178 (.bool false) hS ?_
       simp only [n3]
       refine tq 13 179 (.bool false) hS ?_
       simp only [n3]
       refine tq 14 180 (.pointer (some ⟨w.heap.size, 2, none⟩)) hS ?_
       simp only [n3]
       refine tp 15 181 (.slice (some ⟨cb, co, none⟩) x.q.length c3) ⟨_, rfl, rfl, Or.inl ⟨by rfl, fun w hSw => by have hc := CA w hSw; go_simp⟩⟩ hS ?_
       simp only [n3]
       refine tq 16 182 (.int .i64 (k : Int)) hS ?_
       simp only [n3]
       refine tq 17 183 (.pointer (some ⟨cb, co + k * 3, none⟩)) hS ?_
       simp only [n3]
       refine tq 18 184 (.pointer (some ⟨cb, co + k * 3 + 1, none⟩)) hS ?_
       simp only [n3]
       refine tp 19 185 (.slice pf x.q[k].params.length qf) ⟨_, rfl, rfl, Or.inl ⟨by rfl, fun w hSw => by have hc := XA1 w hSw; go_simp⟩⟩ hS ?_
       simp only [n3]
       refine tq 20 186 (.pointer (some ⟨w.heap.size + 1, 2, none⟩)) hS ?_
       simp only [n3]
       refine tp 21 187 (.slice (some ⟨db, eo, none⟩) x.q.length c3') ⟨_, rfl, rfl, Or.inl ⟨by rfl, fun w hSw => by have hc := CB w hSw; go_simp⟩⟩ hS ?_
       simp only [n3]
       refine tq 22 188 (.int .i64 (k : Int)) hS ?_
       simp only [n3]
       refine tq 23 189 (.pointer (some ⟨db, eo + k * 3, none⟩)) hS ?_
       simp only [n3]
       refine tq 24 190 (.pointer (some ⟨db, eo + k * 3 + 1, none⟩)) hS ?_
       simp only [n3]
       refine tp 25 191 (.slice pf' x.q[k].params.length qf') ⟨_, rfl, rfl, Or.inl ⟨by rfl, fun w hSw => by have hc := XB1 w hSw; go_simp⟩⟩ hS ?_
       simp only [n3]
       generalize World.drew _ = w3 at hS ⊢
       refine on1 26 rfl (fun K' hK => ?_)
       go_simp
       refine (HF _ hS).out.mono ?_
       rintro e w4 ⟨rfl, hc4⟩
       have D4 := hS.trans (hc4.mono hS.size)
       refine hK.out _ _ D4 (fun hS => ?_)
       clear hK K'
       (try simp only [Act.put, n3])
       refine tq 27 193 (.bool false) hS ?_
       simp only [n3]
       refine tq 28 194 (.bool false) hS ?_
       simp only [n3]
       refine tq 29 195 (.bool false) hS ?_
       simp only [n3]
       refine tq 30 196 (.pointer (some ⟨w.heap.size, 2, none⟩)) hS ?_
       simp only [n3]
       refine tp 31 197 (.slice (some ⟨cb, co, none⟩) x.q.length c3) ⟨_, rfl, rfl, Or.inl ⟨by rfl, fun w hSw => by have hc := CA w hSw; go_simp⟩⟩ hS ?_
       simp only [n3]
       refine tq 32 198 (.int .i64 (k : Int)) hS ?_
       simp only [n3]
       refine tq 33 199 (.pointer (some ⟨cb, co + k * 3, none⟩)) hS ?_
       simp only [n3]
       refine tq 34 200 (.pointer (some ⟨cb, co + k * 3 + 2, none⟩)) hS ?_
       simp only [n3]
       refine tp 35 201 (.slice pg x.q[k].whn.length qg) ⟨_, rfl, rfl, Or.inl ⟨by rfl, fun w hSw => by have hc := XA2 w hSw; go_simp⟩⟩ hS ?_
       simp only [n3]
       refine tq 36 202 (.pointer (some ⟨w.heap.size + 1, 2, none⟩)) hS ?_
       simp only [n3]
       refine tp 37 203 (.slice (some ⟨db, eo, none⟩) x.q.length c3') ⟨_, rfl, rfl, Or.inl ⟨by rfl, fun w hSw => by have hc := CB w hSw; go_simp⟩⟩ hS ?_
       simp only [n3]
       refine tq 38 204 (.int .i64 (k : Int)) hS ?_
       simp only [n3]
       refine tq 39 205 (.pointer (some ⟨db, eo + k * 3, none⟩)) hS ?_
       simp only [n3]
       refine tq 40 206 (.pointer (some ⟨db, eo + k * 3 + 2, none⟩)) hS ?_
       simp only [n3]
       refine tp 41 207 (.slice pg' x.q[k].whn.length qg') ⟨_, rfl, rfl, Or.inl ⟨by rfl, fun w hSw => by have hc := XB2 w hSw; go_simp⟩⟩ hS ?_
       simp only [n3]
       refine on1 42 rfl (fun K' hK => ?_)
       go_simp
       refine (HG _ hS).out.mono ?_
       rintro e w5 ⟨rfl, hc5⟩
       have D5 := hS.trans (hc5.mono hS.size)
       refine hK.out _ _ D5 (fun hS => ?_)
       clear hK K'
       (try simp only [Act.put, n3])
       refine tq 43 209 (.bool false) hS ?_
       simp only [n3]
       refine tq 44 210 (.bool false) hS ?_
       simp only [n3]
       refine wpAnyH_done (by kernel_rfl) ?_ _
       refine np_nrm5 ?_
       go_wp2
       go_roundw
       case rel => exact ⟨Hid.intro (HW.out.trans (D5.mono HW.out.size)), k + 1, by omega, by go_num⟩
       case measure => simp [intOf]; omega
      ·go_wp2_with fail
       go_ret
       exact ⟨rfl, b0.trans (HW.out.mono b0.size)⟩
end
end Go.Proofs.YtoeodjobggodcaaGreatDoor
/- What the laws' own equality tells of two bases that are empty. -/
namespace Go.Proofs.YtoeodjobggodcaaGreatDoor
section
open Go.RowKit
set_option maxRecDepth 100000 in
set_option maxHeartbeats 4000000 in
theorem eqBase_none (w : World) : Calls Tryz.prog 12 #[.agg #[.slice none 0 0, .slice none 0 0, .slice none 0 0], .agg #[.slice none 0 0, .slice none 0 0, .slice none 0 0]] w fun e w' => e = .returned (.bool true) ∧ Below w.heap.size w w' := by
 have b0 : Below w.heap.size w ((w.alloc (.cells #[.slice none 0 0, .slice none 0 0, .slice none 0 0] 27)).alloc (.cells #[.slice none 0 0, .slice none 0 0, .slice none 0 0] 27)) := below_al (below_al (Below.refl _ _) _) _
 go_enter Tryz.func12, Tryz.ntmps12
 go_wp2_with fail
 go_loopw [5] (fun i wr => wr = (w.alloc (.cells #[.slice none 0 0, .slice none 0 0, .slice none 0 0] 27)).alloc (.cells #[.slice none 0 0, .slice none 0 0, .slice none 0 0] 27) ∧ i = .int .i64 0) (fun _ _ => 0)
 case atStart => exact ⟨rfl, rfl⟩
 case round =>
  obtain ⟨hw, rfl⟩ := hrel
  subst hw
  go_wp2_with fail
  go_loopw [6] (fun i wr => wr = (w.alloc (.cells #[.slice none 0 0, .slice none 0 0, .slice none 0 0] 27)).alloc (.cells #[.slice none 0 0, .slice none 0 0, .slice none 0 0] 27) ∧ i = .int .i64 0) (fun _ _ => 0)
  case atStart => exact ⟨rfl, rfl⟩
  case round =>
   obtain ⟨hw, rfl⟩ := hrel
   subst hw
   go_wp2_with fail
   go_loopw [9] (fun i wr => wr = (w.alloc (.cells #[.slice none 0 0, .slice none 0 0, .slice none 0 0] 27)).alloc (.cells #[.slice none 0 0, .slice none 0 0, .slice none 0 0] 27) ∧ i = .int .i64 0) (fun _ _ => 0)
   case atStart => exact ⟨rfl, rfl⟩
   case round =>
    obtain ⟨hw, rfl⟩ := hrel
    subst hw
    go_wp2_with fail
    go_ret
    exact ⟨rfl, b0⟩
end
end Go.Proofs.YtoeodjobggodcaaGreatDoor
/- What is read as data is a list of texts that lies in memory. -/
namespace Go.Proofs.YtoeodjobggodcaaGreatDoor
section
open Go.RowKit Go.Deep
def Tv (w : World) (xs : List ByteArray) (sv : Value) : Prop :=
 ∃ (a0 : Option Addr) (cap : Nat), sv = .slice a0 xs.length cap ∧ xs.length ≤ cap ∧ cap ≤ maxLen ∧
  (0 < xs.length → ∃ b o, a0 = some ⟨b, o, none⟩ ∧ ∀ j (h : j < xs.length), w.cell? ⟨b, o + j, none⟩ = some (.string xs[j]))
theorem cellsT : Tryz.prog.cellsOf 9 = 1 := by kernel_rfl
theorem spot_none {W : World} {a : Addr} {v : Value} (this : W.cell? a = some v) : a.spot = none := by
 unfold World.cell? at this
 split at this
 ·split at this
  ·cases this
  ·cases hs : a.spot with
   | none => rfl
   | some q => rename_i hn; simp [hs] at hn
 ·cases this
theorem add_at {a : Addr} (h : a.spot = none) (j : Nat) : a.add j = ⟨a.block, a.off + j, none⟩ := by
 cases a
 simp at h
 subst h
 simp [Addr.add]
section
variable {H : Type} {enc : TypeId × Value → H} {W : World} {spare : Nat → Bool}
theorem mem_all {P : Program} {e : TypeId} {m : Nat} : ∀ {ds : List (DataW H)} {d : DataW H}, d ∈ ds → m ∈ d.weights P e → m ∈ DataW.weightsAll P e ds
 | [], _, h, _ => by simp at h
 | d0 :: ds, d, h, hm => by
  rw [DataW.weightsAll, List.mem_append]
  rcases List.mem_cons.1 h with rfl | h
  ·exact .inl hm
  ·exact .inr (mem_all h hm)
theorem read_str (f : Nat) (cs : List Value) (x : DataW H × List MemPlace) (h : DataW.trod enc Tryz.prog W 0 spare true f 9 cs = some x) :
  ∃ s : ByteArray, cs = [.string s] ∧ ((∀ n ∈ x.1.weights Tryz.prog 9, n ≤ reachBytes) → s.size ≤ reachBytes) := by
 obtain ⟨s, e0, e1, e2⟩ := DataW.trod_string Tryz.underlying9 h
 subst e0 e1
 refine ⟨s, rfl, fun hw => ?_⟩
 have := hw s.data.toList.length (by simp [DataW.weights])
 rw [← Lib.size_eq] at this
 exact this
theorem read_strs (f : Nat) (cs : List Value) (x : DataW H × List MemPlace) (h : DataW.trod enc Tryz.prog W 0 spare true f 22 cs = some x) :
  ∃ (l : List ByteArray) (sv : Value), cs = [sv] ∧ Tv W l sv ∧ ((∀ n ∈ x.1.weights Tryz.prog 22, n ≤ reachBytes) → ∀ s ∈ l, s.size ≤ reachBytes) := by
 rcases DataW.trod_slice Tryz.underlying22 h with ⟨rfl, _⟩ | ⟨a, len, cap, elems, rest, n, rfl, rfl, rfl, hb, hl, hm, hel, he, _, _⟩
 ·exact ⟨[], _, rfl, ⟨none, 0, rfl, Nat.le_refl _, Nat.zero_le _, fun h => absurd h (Nat.lt_irrefl 0)⟩, fun _ => by simp⟩
 ·have key : ∀ i, i < len → ∃ p : ByteArray, W.cell? (a.add i) = some (.string p) ∧ ((∀ n ∈ (DataW.slice (elems.map (·.1)) (rest.map (·.1))).weights Tryz.prog 22, n ≤ reachBytes) → p.size ≤ reachBytes) := by
   intro i hi
   have e := he i hi
   rw [List.getElem?_eq_getElem (by omega)] at e
   obtain ⟨cs', h1, h2⟩ := Option.bind_eq_some_iff.1 e
   obtain ⟨s, rfl, hsz⟩ := read_str n _ _ h2
   obtain ⟨_, _, hc⟩ := World.cells?_some h1
   rw [cellsT] at hc
   refine ⟨s, ?_, fun hw => hsz (fun m hm => hw m ?_)⟩
   ·have := hc 0 (by omega)
    rw [add_add] at this
    simpa using this
   ·rw [DataW.weights, Tryz.underlying22]
    refine List.mem_cons_of_mem _ (List.mem_append.2 (.inl (mem_all (List.mem_map.2 ⟨elems[i], List.getElem_mem _, rfl⟩) hm)))
  obtain ⟨T, hT⟩ := @choose_lt ByteArray ⟨⟨#[]⟩⟩ len _ key
  refine ⟨(List.range len).map T, _, rfl, ⟨some a, cap, by simp, by simpa using hl, hm, fun h0 => ?_⟩, fun hw c hc => ?_⟩
  ·simp only [List.length_map, List.length_range] at h0
   have hspot : a.spot = none := by
    have := (hT 0 h0).1
    simp [Addr.add] at this
    exact spot_none this
   refine ⟨a.block, a.off, by cases a; simp at hspot; subst hspot; rfl, fun j hj => ?_⟩
   simp only [List.length_map, List.length_range] at hj
   simp only [List.getElem_map, List.getElem_range]
   have hc := (hT j hj).1
   rw [add_at hspot] at hc
   exact hc
  ·obtain ⟨i, hi, rfl⟩ := List.mem_map.1 hc
   exact (hT i (List.mem_range.1 hi)).2 hw
end
theorem Tv.form {w : World} {xs : List ByteArray} {sv : Value} (h : Tv w xs sv) : ∃ a0 cap, sv = .slice a0 xs.length cap ∧ xs.length ≤ cap ∧ cap ≤ maxLen := by
 obtain ⟨a0, cap, h1, h2, h3, -⟩ := h
 exact ⟨a0, cap, h1, h2, h3⟩
theorem Tv.cell {w : World} {xs : List ByteArray} {a0 : Option Addr} {n cap : Nat} (h : Tv w xs (.slice a0 n cap)) {j : Nat} (hj : j < xs.length) : ∃ b o, a0 = some ⟨b, o, none⟩ ∧ w.cell? ⟨b, o + j, none⟩ = some (.string xs[j]) := by
 obtain ⟨a1, cap1, h1, h2, h3, h4⟩ := h
 cases h1
 obtain ⟨b, o, e, h5⟩ := h4 (by omega)
 exact ⟨b, o, e, h5 j hj⟩
theorem Tv.below {w w' : World} {xs : List ByteArray} {sv : Value} (h : Tv w xs sv) (hb : Below w.heap.size w w') : Tv w' xs sv := by
 obtain ⟨a0, cap, h1, h2, h3, h4⟩ := h
 refine ⟨a0, cap, h1, h2, h3, fun h0 => ?_⟩
 obtain ⟨b, o, e, h5⟩ := h4 h0
 refine ⟨b, o, e, fun j hj => ?_⟩
 have h6 := h5 j hj
 have hlt : b < w.heap.size := by
  unfold World.cell? at h6
  simp only at h6
  cases ho : w.heap[b]? with
  | none => rw [ho] at h6; cases h6
  | some o' => exact (Array.getElem?_eq_some_iff.1 ho).1
 exact (hb.cell (p := ⟨b, o + j, none⟩) hlt).trans h6
theorem cell_lt {w : World} {b o : Nat} {v : Value} (h : w.cell? ⟨b, o, none⟩ = some v) : b < w.heap.size := by
 unfold World.cell? at h
 by_cases hh : b < w.heap.size
 ·exact hh
 ·simp [Array.getElem?_eq_none (Nat.le_of_not_lt hh)] at h
end
end Go.Proofs.YtoeodjobggodcaaGreatDoor
/- As many lexemes, as many bytes as may be: what their lexemes are. -/
namespace Go.Proofs.YtoeodjobggodcaaGreatDoor
section
open Go.RowKit
theorem tl_bs (l : List UInt8) : tl (bs l) 0 = l := by simp [tl, bs]
theorem tells_blank {c : UInt8} (hc : isBl c = true) (a : Nat) (l : List UInt8) : tells a (c :: l) = tells (a + 1) l := by
 have hb : blk false (c :: l) = blk false l + 1 := by rw [blk, if_pos hc]
 have hd : (c :: l).drop (blk false (c :: l)) = l.drop (blk false l) := by rw [hb, List.drop_succ_cons]
 have ha : a + blk false (c :: l) = a + 1 + blk false l := by rw [hb]; omega
 cases h : l.drop (blk false l) with
 | nil => rw [tells_end (hd.trans h), tells_end h]
 | cons d r =>
  cases h1 : oneL (a + 1 + blk false l) (d :: r) with
  | none => rw [tells_no (hd.trans h) (by rw [ha]; exact h1), tells_no h h1, ha]
  | some x =>
   have hp := oneL_pos h1
   rw [tells_yes (hd.trans h) (by rw [ha]; exact h1), tells_yes h h1]
   rw [show x.e - a = (x.e - (a + 1)) + 1 by omega, List.drop_succ_cons]
theorem tells_a (a : Nat) (l : List UInt8) : tells a (97 :: 32 :: l) = (⟨0, bs [97], a, a + 1⟩, true) :: tells (a + 2) l := by
 have hb : blk false (97 :: 32 :: l) = 0 := by
  rw [blk, if_neg (by decide), if_neg]
  unfold pre2
  simp
 have hd : (97 :: 32 :: l : List UInt8).drop (blk false (97 :: 32 :: l)) = 97 :: 32 :: l := by rw [hb, List.drop_zero]
 have ho : oneL (a + blk false (97 :: 32 :: l)) (97 :: 32 :: l) = some ⟨0, bs [97], a, a + 1⟩ := by
  rw [hb, Nat.add_zero, oneL, if_pos (by decide), List.takeWhile_cons, if_pos (by decide), List.takeWhile_cons, if_neg (by decide)]
  rfl
 rw [tells_yes hd ho]
 simp only [Nat.add_sub_cancel_left, List.drop_succ_cons, List.drop_zero]
 rw [tells_blank (by decide)]
theorem tells_b (a : Nat) : tells a [98] = [(⟨0, bs [98], a, a + 1⟩, true)] := by
 have hb : blk false [98] = 0 := by decide
 have hd : ([98] : List UInt8).drop (blk false [98]) = [98] := by rw [hb, List.drop_zero]
 have ho : oneL (a + blk false [98]) [98] = some ⟨0, bs [98], a, a + 1⟩ := by
  rw [hb, Nat.add_zero, oneL, if_pos (by decide), List.takeWhile_cons, if_pos (by decide)]
  rfl
 rw [tells_yes hd ho]
 simp only [Nat.add_sub_cancel_left, List.drop_succ_cons, List.drop_zero]
 rw [tells_end (by decide)]
def repA : Nat → List UInt8
 | 0 => []
 | n + 1 => repA n ++ [97, 32]
theorem repA_len : ∀ n, (repA n).length = 2 * n
 | 0 => rfl
 | n + 1 => by rw [repA, List.length_append, repA_len n]; simp; omega
theorem tells_rep : ∀ (n a : Nat) (l : List UInt8), ∃ P, tells a (repA n ++ l) = P ++ tells (a + 2 * n) l ∧ P.length = n ∧ ∀ z ∈ P, z.2 = true
 | 0, a, l => ⟨[], by simp [repA], rfl, by simp⟩
 | n + 1, a, l => by
  obtain ⟨P, h1, h2, h3⟩ := tells_rep n a (97 :: 32 :: l)
  refine ⟨P ++ [(⟨0, bs [97], a + 2 * n, a + 2 * n + 1⟩, true)], ?_, by simp [h2], ?_⟩
  ·rw [repA, List.append_assoc, List.append_assoc]
   refine h1.trans ?_
   rw [tells_a]
   rfl
  ·intro z hz
   rcases List.mem_append.1 hz with h | h
   ·exact h3 z h
   ·simp at h; subst h; rfl
theorem tells_blanks : ∀ (n a : Nat), tells a (List.replicate n 32) = []
 | 0, a => tells_end rfl
 | n + 1, a => by rw [List.replicate_succ, tells_blank (by decide), tells_blanks n]
theorem most_fit : lexF (bs (repA 4096)) = none ∧ (lexT (bs (repA 4096))).length = 4096 := by
 obtain ⟨P, h1, h2, h3⟩ := tells_rep 4096 0 []
 have e0 : tells (0 + 2 * 4096) [] = [] := tells_end rfl
 rw [List.append_nil, e0, List.append_nil] at h1
 have : tells 0 (tl (bs (repA 4096)) 0) = P := by rw [tl_bs]; exact h1
 exact ⟨by rw [lexF, this]; exact gth_ok P 0 h3 (by omega), by rw [lexT_len, this, h2]⟩
theorem most_more : lexF (bs (repA 4096) ++ ⟨#[98]⟩) = some 8192 := by
 obtain ⟨P, h1, h2, h3⟩ := tells_rep 4096 0 [98]
 rw [tells_b] at h1
 have e : tl (bs (repA 4096) ++ ⟨#[98]⟩) 0 = repA 4096 ++ [98] := by simp [tl, bs]
 rw [lexF, e, h1]
 have := gth_bad P (⟨0, bs [98], 0 + 2 * 4096, 0 + 2 * 4096 + 1⟩, true) [] 0 h3 (by omega) (.inr (by omega))
 simpa using this
theorem most_blank (n : Nat) : lexF (bs (List.replicate n 32)) = none := by rw [lexF, tl_bs, tells_blanks]; rfl
theorem bs_size (l : List UInt8) : (bs l).size = l.length := by simp [bs, ByteArray.size]
end
end Go.Proofs.YtoeodjobggodcaaGreatDoor
/- What stands in quotes; a lexeme ahead of a line's end. -/
namespace Go.Proofs.YtoeodjobggodcaaGreatDoor
section
open Go.RowKit
/-! What stands in quotes. -/
theorem quoL_q (t : List UInt8) : quo (34 :: t) = some ([], 1) := by cases t <;> rfl
theorem quoL_low {c : UInt8} (h : c < 32) (t : List UInt8) : quo (c :: t) = none := by
 have h1 : ¬ c = 34 := fun e => by rw [e] at h; exact absurd h (by decide)
 cases t with
 | nil => rw [quo, if_neg h1]
 | cons d r => rw [quo, if_neg h1, if_pos h]
theorem quoL_plain {c : UInt8} (h1 : ¬ c = 34) (h2 : ¬ c < 32) (h3 : ¬ c = 92) (t : List UInt8) : quo (c :: t) = (quo t).map (fun p => (c :: p.1, p.2 + 1)) := by
 cases t with
 | nil => show quo [c] = none; rw [quo, if_neg h1]
 | cons d r => rw [quo, if_neg h1, if_neg h2, if_neg h3]
theorem quoL_esc {d x : UInt8} (h : escU d = some x) (r : List UInt8) : quo (92 :: d :: r) = (quo r).map (fun p => (x :: p.1, p.2 + 2)) := by
 rw [quo, if_neg (by decide), if_neg (by decide), if_pos rfl, h]
theorem quoL_esc_no {d : UInt8} (h : escU d = none) (r : List UInt8) : quo (92 :: d :: r) = none := by
 rw [quo, if_neg (by decide), if_neg (by decide), if_pos rfl, h]
/-! One text behind the other, a line's end between. -/
theorem takeWhile_app {p : UInt8 → Bool} (hp : p 10 = false) (b : List UInt8) : ∀ l : List UInt8, (l ++ 10 :: b).takeWhile p = l.takeWhile p
 | [] => by rw [List.nil_append, List.takeWhile_cons_of_neg (by simp [hp])]; rfl
 | c :: l => by
  rw [List.cons_append]
  cases h : p c with
  | true => rw [List.takeWhile_cons_of_pos h, List.takeWhile_cons_of_pos h, takeWhile_app hp b l]
  | false => rw [List.takeWhile_cons_of_neg (by simp [h]), List.takeWhile_cons_of_neg (by simp [h])]
theorem quo_app (b : List UInt8) : ∀ l : List UInt8, quo (l ++ 10 :: b) = quo l
 | [] => quoL_low (by decide) _
 | [c] => by
  show quo (c :: 10 :: b) = quo [c]
  by_cases h1 : c = 34
  ·subst h1; rw [quoL_q, quoL_q]
  ·have h0 : quo [c] = none := by rw [quo, if_neg h1]
   rw [h0]
   by_cases h2 : c < 32
   ·exact quoL_low h2 _
   ·by_cases h3 : c = 92
    ·subst h3; exact quoL_esc_no (by decide) _
    ·rw [quoL_plain h1 h2 h3, quoL_low (by decide)]; rfl
 | c :: d :: r => by
  show quo (c :: d :: (r ++ 10 :: b)) = _
  have i1 := quo_app b r
  have i2 := quo_app b (d :: r)
  rw [List.cons_append] at i2
  rw [quo, quo, i1, i2]
theorem pre2_app (b : List UInt8) (c : UInt8) (r : List UInt8) : pre2 (c :: (r ++ 10 :: b)) = pre2 (c :: r) := by
 cases r with
 | nil => simp [pre2]
 | cons d r => simp [pre2]
theorem oneL_app (a : Nat) (b : List UInt8) (c : UInt8) (r : List UInt8) : oneL a (c :: (r ++ 10 :: b)) = oneL a (c :: r) := by
 have h1 := takeWhile_app (p := isCh) (by decide) b (c :: r)
 have h2 := takeWhile_app (p := isDig) (by decide) b (c :: r)
 rw [List.cons_append] at h1 h2
 have h3 : varL a (r ++ 10 :: b) = varL a r := by
  cases r with
  | nil => unfold varL; rw [List.nil_append]; simp only; rw [if_neg (by decide)]
  | cons d r =>
   have h := takeWhile_app (p := isCh) (by decide) b (d :: r)
   rw [List.cons_append] at h ⊢
   unfold varL
   simp only
   rw [h]
 have h4 : quoL a (r ++ 10 :: b) = quoL a r := by rw [quoL, quoL, quo_app]
 have h5 : markL a (c :: (r ++ 10 :: b)) = markL a (c :: r) := by
  have ht : twoL (c :: (r ++ 10 :: b)) = twoL (c :: r) := by
   cases r with
   | nil =>
    have : twoB (bs [c, 10]) = false := by
     simp [twoB, twos, bs, Lib.toList_data]
    simp [twoL, this]
   | cons d r => simp [twoL]
  unfold markL
  simp only
  rw [ht]
  cases r with
  | nil => rw [show twoL [c] = false from by simp [twoL]]; rfl
  | cons d r => simp [List.take_succ_cons]
 rw [oneL, oneL, h1, h2, h3, h4, h5]
end
end Go.Proofs.YtoeodjobggodcaaGreatDoor
/- The lexemes of two texts, one behind the other. -/
namespace Go.Proofs.YtoeodjobggodcaaGreatDoor
section
open Go.RowKit
theorem blk_app_yes (t : List UInt8) : ∀ (l : List UInt8) (b : Bool), blk b l = l.length → blk b (l ++ 10 :: t) = l.length + 1 + blk false t
 | [], b, _ => by
  cases b <;> rw [List.nil_append, blk]
  ·rw [if_pos (by decide)]; simp; omega
  ·rw [if_pos rfl]; simp; omega
 | c :: l, true, h => by
  rw [List.cons_append, blk]
  rw [blk, List.length_cons] at h
  by_cases hc : c = 10
  ·rw [if_pos hc] at h ⊢
   rw [blk_app_yes t l false (by omega), List.length_cons]; omega
  ·rw [if_neg hc] at h ⊢
   rw [blk_app_yes t l true (by omega), List.length_cons]; omega
 | c :: l, false, h => by
  rw [List.cons_append, blk, pre2_app]
  rw [blk, List.length_cons] at h
  by_cases hc : isBl c = true
  ·rw [if_pos hc] at h ⊢
   rw [blk_app_yes t l false (by omega), List.length_cons]; omega
  ·rw [if_neg hc] at h ⊢
   by_cases hp : pre2 (c :: l) = true
   ·rw [if_pos hp] at h ⊢
    rw [blk_app_yes t l true (by omega), List.length_cons]; omega
   ·rw [if_neg hp] at h; omega
theorem blk_app_no (t : List UInt8) : ∀ (l : List UInt8) (b : Bool), blk b l < l.length → blk b (l ++ 10 :: t) = blk b l
 | [], b, h => by simp at h
 | c :: l, true, h => by
  rw [List.cons_append, blk]
  rw [blk, List.length_cons] at h
  rw [blk]
  by_cases hc : c = 10
  ·rw [if_pos hc] at h ⊢
   rw [if_pos hc, blk_app_no t l false (by omega)]
  ·rw [if_neg hc] at h ⊢
   rw [if_neg hc, blk_app_no t l true (by omega)]
 | c :: l, false, h => by
  rw [List.cons_append, blk, pre2_app]
  rw [blk, List.length_cons] at h
  rw [blk]
  by_cases hc : isBl c = true
  ·rw [if_pos hc] at h ⊢
   rw [if_pos hc, blk_app_no t l false (by omega)]
  ·rw [if_neg hc] at h ⊢
   rw [if_neg hc]
   by_cases hp : pre2 (c :: l) = true
   ·rw [if_pos hp] at h ⊢
    rw [if_pos hp, blk_app_no t l true (by omega)]
   ·rw [if_neg hp, if_neg hp]
theorem tells_skip (a : Nat) (pre b : List UInt8) (h : blk false (pre ++ b) = pre.length + blk false b) : tells a (pre ++ b) = tells (a + pre.length) b := by
 have hd : (pre ++ b).drop (blk false (pre ++ b)) = b.drop (blk false b) := by rw [h, ← List.drop_drop, List.drop_left]
 have ha : a + blk false (pre ++ b) = a + pre.length + blk false b := by rw [h]; omega
 cases h0 : b.drop (blk false b) with
 | nil => rw [tells_end (hd.trans h0), tells_end h0]
 | cons d r =>
  cases h1 : oneL (a + pre.length + blk false b) (d :: r) with
  | none => rw [tells_no (hd.trans h0) (by rw [ha]; exact h1), tells_no h0 h1, ha]
  | some x =>
   have hp := oneL_pos h1
   rw [tells_yes (hd.trans h0) (by rw [ha]; exact h1), tells_yes h0 h1]
   rw [show x.e - a = pre.length + (x.e - (a + pre.length)) by omega, ← List.drop_drop, List.drop_left]
def allT (T : List (Lx × Bool)) : Bool := T.all (·.2)
theorem tells_join : ∀ (n a : Nat) (l b : List UInt8), l.length ≤ n → tells a (l ++ 10 :: b) = if allT (tells a l) then tells a l ++ tells (a + l.length + 1) b else tells a l
 | n, a, l, b, hn => by
  have hle := blk_le false l
  cases hd : l.drop (blk false l) with
  | nil =>
   have hb : blk false l = l.length := by
    have := congrArg List.length hd
    rw [List.length_drop, List.length_nil] at this; omega
   rw [tells_end hd]
   have hs := tells_skip a (l ++ [10]) b (by
    rw [List.append_assoc, List.cons_append, List.nil_append, blk_app_yes b l false hb, List.length_append]; rfl)
   rw [List.append_assoc, List.cons_append, List.nil_append] at hs
   rw [hs, List.length_append]
   rfl
  | cons c r =>
   have hlt : blk false l < l.length := by
    have := congrArg List.length hd
    rw [List.length_drop, List.length_cons] at this; omega
   have hb := blk_app_no b l false hlt
   have hd' : (l ++ 10 :: b).drop (blk false (l ++ 10 :: b)) = c :: (r ++ 10 :: b) := by
    rw [hb, List.drop_append_of_le_length hle, hd]; rfl
   cases h1 : oneL (a + blk false l) (c :: r) with
   | none =>
    rw [tells_no hd h1, tells_no hd' (by rw [hb, oneL_app]; exact h1), hb]
    rfl
   | some x =>
    have hp := oneL_pos h1
    have hlc := congrArg List.length hd
    rw [List.length_drop, List.length_cons] at hlc
    rw [List.length_cons] at hp
    rw [tells_yes hd h1, tells_yes hd' (by rw [hb, oneL_app]; exact h1)]
    rw [List.drop_append_of_le_length (by omega)]
    match n, hn with
    | 0, hn => omega
    | n + 1, hn =>
     rw [tells_join n x.e (l.drop (x.e - a)) b (by rw [List.length_drop]; omega), List.length_drop]
     rw [show x.e + (l.length - (x.e - a)) + 1 = a + l.length + 1 by omega]
     rw [show allT ((x, true) :: tells x.e (l.drop (x.e - a))) = allT (tells x.e (l.drop (x.e - a))) from by simp [allT]]
     split <;> rfl
def sh (n : Nat) (z : Lx × Bool) : Lx × Bool := (⟨z.1.k, z.1.t, z.1.a + n, if z.2 then z.1.e + n else z.1.e⟩, z.2)
def shx (n : Nat) (x : Lx) : Lx := ⟨x.k, x.t, x.a + n, x.e + n⟩
theorem oneL_shift (a n : Nat) (l : List UInt8) : oneL (a + n) l = (oneL a l).map (shx n) := by
 cases l with
 | nil => rfl
 | cons c r =>
  rw [oneL, oneL]
  split
  ·simp [shx]; omega
  split
  ·simp [shx]; omega
  split
  ·unfold varL
   cases r with
   | nil => rfl
   | cons d r =>
    simp only
    split
    ·simp [shx]; omega
    ·rfl
  split
  ·unfold quoL
   rw [Option.map_map]
   congr 1
   funext p
   simp [shx]; omega
  ·unfold markL
   simp only
   split
   ·simp [shx]; omega
   split
   ·simp [shx]; omega
   ·rfl
theorem tells_shift : ∀ (m a n : Nat) (l : List UInt8), l.length ≤ m → tells (a + n) l = (tells a l).map (sh n)
 | m, a, n, l, hm => by
  have hle := blk_le false l
  have ha : a + n + blk false l = a + blk false l + n := by omega
  cases hd : l.drop (blk false l) with
  | nil => rw [tells_end hd, tells_end hd]; rfl
  | cons c r =>
   cases h1 : oneL (a + blk false l) (c :: r) with
   | none =>
    rw [tells_no hd h1, tells_no hd (by rw [ha, oneL_shift, h1]; rfl), ha]
    rfl
   | some x =>
    have hp := oneL_pos h1
    have hlc := congrArg List.length hd
    rw [List.length_drop, List.length_cons] at hlc
    rw [List.length_cons] at hp
    rw [tells_yes hd h1, tells_yes hd (by rw [ha, oneL_shift, h1]; rfl)]
    match m, hm with
    | 0, hm => omega
    | m + 1, hm =>
     rw [List.map_cons]
     have e1 : (shx n x).e = x.e + n := rfl
     rw [e1, show x.e + n - (a + n) = x.e - a by omega, tells_shift m x.e n _ (by rw [List.length_drop]; omega)]
     rfl
theorem tells_form : ∀ (m a : Nat) (l : List UInt8), l.length ≤ m → (tells a l).length ≤ l.length ∧ (∀ z ∈ tells a l, a ≤ z.1.a ∧ z.1.a < a + l.length) ∧
  (allT (tells a l) = true ∨ ∃ p z, tells a l = p ++ [z] ∧ (∀ y ∈ p, y.2 = true) ∧ z.2 = false)
 | m, a, l, hm => by
  have hle := blk_le false l
  cases hd : l.drop (blk false l) with
  | nil => rw [tells_end hd]; exact ⟨Nat.zero_le _, fun z hz => by simp at hz, .inl rfl⟩
  | cons c r =>
   have hlc := congrArg List.length hd
   rw [List.length_drop, List.length_cons] at hlc
   cases h1 : oneL (a + blk false l) (c :: r) with
   | none =>
    rw [tells_no hd h1]
    refine ⟨by simp; omega, fun z hz => ?_, .inr ⟨[], _, rfl, fun y hy => by simp at hy, rfl⟩⟩
    simp at hz; subst hz; simp only; omega
   | some x =>
    have hp := oneL_pos h1
    rw [List.length_cons] at hp
    rw [tells_yes hd h1]
    match m, hm with
    | 0, hm => omega
    | m + 1, hm =>
     obtain ⟨i1, i2, i3⟩ := tells_form m x.e (l.drop (x.e - a)) (by rw [List.length_drop]; omega)
     rw [List.length_drop] at i1
     refine ⟨by rw [List.length_cons]; omega, fun z hz => ?_, ?_⟩
     ·rcases List.mem_cons.1 hz with rfl | hz
      ·simp only; omega
      ·have := i2 z hz
       rw [List.length_drop] at this
       omega
     ·rcases i3 with i3 | ⟨p, z, e, h3, h4⟩
      ·exact .inl (by unfold allT at i3 ⊢; rw [List.all_cons, i3]; rfl)
      ·refine .inr ⟨(x, true) :: p, z, by rw [e]; rfl, fun y hy => ?_, h4⟩
       rcases List.mem_cons.1 hy with rfl | hy
       ·rfl
       ·exact h3 y hy
theorem tl0_len (s : ByteArray) : (tl s 0).length = s.size := by rw [tl_len]; omega
theorem lexF_none {s : ByteArray} (h : s.size ≤ 4096) : lexF s = none ↔ allT (tells 0 (tl s 0)) = true := by
 obtain ⟨h1, -, h3⟩ := tells_form _ 0 (tl s 0) (Nat.le_refl _)
 rw [tl0_len] at h1
 constructor
 ·intro hF
  rcases h3 with h3 | ⟨p, z, e, h3, h4⟩
  ·exact h3
  ·rw [e, List.length_append, List.length_singleton] at h1
   rw [lexF, e, gth_bad p z [] 0 h3 (by omega) (.inl h4)] at hF
   cases hF
 ·intro hA
  exact gth_ok _ 0 (fun z hz => List.all_eq_true.1 hA z hz) (by omega)
theorem lexF_some {s : ByteArray} (h : s.size ≤ 4096) {a : Nat} (hF : lexF s = some a) : a < s.size ∧ ∃ p z, tells 0 (tl s 0) = p ++ [z] ∧ (∀ y ∈ p, y.2 = true) ∧ z.2 = false ∧ z.1.a = a := by
 obtain ⟨h1, h2, h3⟩ := tells_form _ 0 (tl s 0) (Nat.le_refl _)
 rw [tl0_len] at h1
 rcases h3 with h3 | ⟨p, z, e, h3, h4⟩
 ·rw [(lexF_none h).2 h3] at hF; cases hF
 ·have h5 := h2 z (by rw [e]; simp)
  rw [tl0_len] at h5
  rw [e, List.length_append, List.length_singleton] at h1
  rw [lexF, e, gth_bad p z [] 0 h3 (by omega) (.inl h4)] at hF
  cases hF
  exact ⟨by omega, p, z, e, h3, h4, rfl⟩
theorem lexT_le {s : ByteArray} : (lexT s).length ≤ s.size := by
 obtain ⟨h1, -, -⟩ := tells_form _ 0 (tl s 0) (Nat.le_refl _)
 rw [lexT_len, ← tl0_len]; exact h1
def joinS (a b : ByteArray) : ByteArray := a ++ ⟨#[10]⟩ ++ b
theorem tl_join (a b : ByteArray) : tl (joinS a b) 0 = tl a 0 ++ 10 :: tl b 0 := by simp [tl, joinS]
theorem join_size (a b : ByteArray) : (joinS a b).size = a.size + 1 + b.size := by rw [joinS, ByteArray.size_append, ByteArray.size_append]; rfl
theorem tells_joinS (a b : ByteArray) : tells 0 (tl (joinS a b) 0) = if allT (tells 0 (tl a 0)) then tells 0 (tl a 0) ++ (tells 0 (tl b 0)).map (sh (a.size + 1)) else tells 0 (tl a 0) := by
 rw [tl_join, tells_join _ 0 _ _ (Nat.le_refl _), tl0_len, ← tells_shift _ 0 _ _ (Nat.le_refl _)]
 rw [show 0 + a.size + 1 = 0 + (a.size + 1) by omega]
theorem allT_sh (n : Nat) (T : List (Lx × Bool)) : allT (T.map (sh n)) = allT T := by
 unfold allT; rw [List.all_map]; rfl
theorem join_bad1 {a b : ByteArray} (h : a.size + b.size ≤ 3000) {i : Nat} (hF : lexF a = some i) : ∃ j, lexF (joinS a b) = some j := by
 have hA : allT (tells 0 (tl a 0)) = false := by
  cases hh : allT (tells 0 (tl a 0)) with
  | false => rfl
  | true => rw [(lexF_none (by omega)).2 hh] at hF; cases hF
 cases hj : lexF (joinS a b) with
 | some j => exact ⟨j, rfl⟩
 | none =>
  have := (lexF_none (by rw [join_size]; omega)).1 hj
  rw [tells_joinS, hA, if_neg (by decide), hA] at this
  cases this
theorem join_bad2 {a b : ByteArray} (h : a.size + b.size ≤ 3000) (hA : lexF a = none) {i : Nat} (hF : lexF b = some i) : lexF (joinS a b) = some (a.size + 1 + i) := by
 have hA' := (lexF_none (by omega)).1 hA
 obtain ⟨-, p, z, e, h3, h4, rfl⟩ := lexF_some (by omega) hF
 have h1 := (tells_form _ 0 (tl a 0) (Nat.le_refl _)).1
 have h2 := (tells_form _ 0 (tl b 0) (Nat.le_refl _)).1
 rw [tl0_len] at h1 h2
 rw [e, List.length_append, List.length_singleton] at h2
 rw [lexF, tells_joinS, hA', if_pos rfl, e, List.map_append, ← List.append_assoc]
 have := gth_bad (tells 0 (tl a 0) ++ p.map (sh (a.size + 1))) (sh (a.size + 1) z) [] 0 (fun y hy => by
  rcases List.mem_append.1 hy with hy | hy
  ·exact List.all_eq_true.1 hA' y hy
  ·obtain ⟨y', hy', rfl⟩ := List.mem_map.1 hy
   exact h3 y' hy') (by rw [List.length_append, List.length_map]; omega) (.inl h4)
 refine this.trans ?_
 show some (z.1.a + (a.size + 1)) = _
 rw [Nat.add_comm]
theorem join_good {a b : ByteArray} (h : a.size + b.size ≤ 3000) (hA : lexF a = none) (hB : lexF b = none) : lexF (joinS a b) = none ∧ (lexT (joinS a b)).length = (lexT a).length + (lexT b).length ∧
  ∀ k (hk : k < (lexT b).length) (hk' : (lexT a).length + k < (lexT (joinS a b)).length), (lexT (joinS a b))[(lexT a).length + k].a = (lexT b)[k].a + a.size + 1 ∧ (lexT (joinS a b))[(lexT a).length + k].t = (lexT b)[k].t ∧ (lexT (joinS a b))[(lexT a).length + k].k = (lexT b)[k].k := by
 have hA' := (lexF_none (by omega)).1 hA
 have hB' := (lexF_none (by omega)).1 hB
 have hT : tells 0 (tl (joinS a b) 0) = tells 0 (tl a 0) ++ (tells 0 (tl b 0)).map (sh (a.size + 1)) := by rw [tells_joinS, hA', if_pos rfl]
 have hL : lexT (joinS a b) = lexT a ++ (tells 0 (tl b 0)).map (fun z => (sh (a.size + 1) z).1) := by
  rw [lexT, hT, List.map_append, List.map_map]; rfl
 refine ⟨(lexF_none (by rw [join_size]; omega)).2 ?_, ?_, ?_⟩
 ·rw [hT]; unfold allT at *; rw [List.all_append, hA']; exact (allT_sh _ _).trans hB'
 ·rw [hL, List.length_append, List.length_map, lexT_len b]
 ·intro k hk hk'
  have : (lexT (joinS a b))[(lexT a).length + k] = (sh (a.size + 1) ((tells 0 (tl b 0))[k]'(by rw [← lexT_len]; exact hk))).1 := by
   simp only [hL]
   rw [List.getElem_append_right (by omega)]
   simp
  rw [this]
  simp only [lexT, List.getElem_map]
  refine ⟨?_, rfl, rfl⟩
  show _ + (a.size + 1) = _
  omega
end
end Go.Proofs.YtoeodjobggodcaaGreatDoor
