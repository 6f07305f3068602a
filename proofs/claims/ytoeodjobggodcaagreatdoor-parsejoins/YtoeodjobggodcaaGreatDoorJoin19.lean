import Derived.Test.YtoeodjobggodcaaGreatDoorJoin16
import Derived.Test.YtoeodjobggodcaaGreatDoorJoin17
import Derived.Test.YtoeodjobggodcaaGreatDoorJoin18
import Derived.BigQuiet
/- proctorlaw5.ParseJoins: the walk. -/
namespace Go.Proofs.YtoeodjobggodcaaGreatDoor
section
open Go.RowKit
theorem below_drewJ {a w : World} (h : Below a.heap.size a w) (n : Nat) : Below a.heap.size a (w.drewN n) := ⟨h.os, h.tape, h.output, h.size, h.block⟩
theorem below_chg {B n : Nat} {w W W' : World} (h : Below n w W) (hn : n ≤ B) (hw : n ≤ W.heap.size) (k : Chg B none W W') : Below n w W' :=
 ⟨k.os.trans h.os, k.tape.trans h.tape, k.output.trans h.output, Nat.le_trans h.size k.size, fun b hb => (k.block b (by omega) (by omega) (by simp)).trans (h.block b hb)⟩
theorem told_cases {s : ByteArray} (h : s.size ≤ 65536) : (∃ q, parseM s = .bad q) ∨ (∃ x, parseM s = .ok x) := by
 cases hm : parseM s with
 | bad q => exact .inl ⟨q, rfl⟩
 | ok x => exact .inr ⟨x, rfl⟩
 | long =>
  unfold parseM readM at hm
  rw [if_neg (by omega)] at hm
  split at hm
  ·cases hm
  ·split at hm <;> cases hm
set_option maxRecDepth 100000 in
set_option maxHeartbeats 16000000 in
theorem lawJo {w : World} (hw : ErrW w) (l : List ByteArray) (sv : Value) (hl : Tv w l sv) (hsz : ∀ s ∈ l, s.size ≤ reachBytes) :
  Calls Tryz.prog 6 #[sv] w fun e w' => e = .returned (.bool true) ∧ Below w.heap.size w w' := by
 have hmo : Tryz.prog.follows .mixedOrders = true := by kernel_rfl
 have HT := Hid.intro hl
 have HS := Hid.intro hsz
 have HP := fun (s : ByteArray) w' (h : ErrW w') => Hid.intro (parse_any s w' h.1 h.2)
 have HW := fun w' (h : ErrW w') => Hid.intro (wakes_any h)
 have HE0 := Hid.intro hw
 obtain ⟨a0, cap, rfl, hc1, hc2⟩ := hl.form
 have hm : l.length ≤ 9223372036854775807 := Nat.le_trans hc1 (Nat.le_trans hc2 (by decide))
 clear hl hw hsz
 go_enter Tryz.func6, Tryz.ntmps6
 go_wp2_with fail
 go_loopw [3] (fun i wr => ∃ k : Nat, i = .int .i64 ((k : Int) + 1) ∧ (k ≤ l.length) ∧ Hid (Below w.heap.size w wr)) (fun i _ => l.length + 1 - (intOf i).toNat)
 case atStart => exact ⟨0, rfl, Nat.zero_le _, Below.refl _ _⟩
 case round =>
  obtain ⟨k, rfl, hk, HB⟩ := hrel
  have HE := Hid.intro (HE0.out.below HB.out)
  by_cases hlt : (k : Int) + 1 < (l.length : Int)
  ·by_cases h8 : (k : Int) + 1 < 6
   ·have hlt' : k + 1 < l.length := by omega
    obtain ⟨b, o, rfl, hc⟩ := (HT.out.below HB.out).cell (j := k) (by omega)
    obtain ⟨b', o', e', hc'⟩ := (HT.out.below HB.out).cell hlt'
    cases e'
    have hz1 := HS.out l[k] (List.getElem_mem _)
    have hz2 := HS.out l[k + 1] (List.getElem_mem _)
    generalize hsa : l[k] = sa at hc hz1
    generalize hsb : l[k + 1] = sb at hc' hz2
    unfold reachBytes at hz1 hz2
    have hk1 : (k : Int) + 1 - 1 = (k : Int) := by omega
    go_wp2_with fail
    go_quiet (fail)
    have HB := Hid.intro (below_drewJ HB.out nq)
    have HE := Hid.intro (HE0.out.below HB.out)
    clear hc hc'
    generalize wr.drewN nq = wq at *
    by_cases hlong : (3000 : Int) < (sa.size : Int) + (sb.size : Int)
    ·go_wp2
     go_roundw
     case rel => exact ⟨k + 1, by go_num, by omega, HB⟩
     case measure => simp [intOf]; omega
    ·have hsm : sa.size + sb.size ≤ 3000 := by omega
     have hbig1 : ¬ 9223372036854775807 < sa.size + 1 := by omega
     have hbig2 : ¬ 9223372036854775807 < sa.size + 1 + sb.size := by omega
     have hJS := join_size sa sb
     have HPa := HP sa wq HE.out
     have HPb := HP sb
     have HPj : ∀ w', ErrW w' → Hid (Calls Tryz.prog 10 #[.string (sa ++ ⟨#[10]⟩ ++ sb)] w' fun x w'_1 => Below w'.heap.size w' w'_1 ∧ ParP w'.heap.size w'_1 x (parseM (joinS sa sb))) := fun w' h => HP (joinS sa sb) w' h
     have hpj := fun x => parse_join (x := x) hsm
     rcases told_cases (s := sa) (by omega) with ⟨qa, hpa⟩ | ⟨x, hpa⟩
     ·rw [hpa] at HPa
      clear HP hpj
      go_wp2_with fail
      refine HPa.out.mono ?_
      rintro e v1 ⟨hb1, rfl⟩
      have A1 := hb1.alloc hb1.size (.cells #[.slice none 0 0, .slice none 0 0, .slice none 0 0] 27)
      have HEa := HE.out.below A1
      go_wp2_with fail
      refine (HPb _ HEa).out.mono ?_
      rintro e v2 ⟨hb2, hp2⟩
      obtain ⟨p1, n1, c1, p2, n2, c2, p3, n3', c3, a2, e2, rfl⟩ := par_weak hp2
      have A2 := (A1.trans (hb2.mono A1.size)).alloc (A1.trans (hb2.mono A1.size)).size (.cells #[.slice p1 n1 c1, .slice p2 n2 c2, .slice p3 n3' c3] 27)
      have HEb := HE.out.below A2
      clear hp2
      go_wp2_with fail
      refine (HPj _ HEb).out.mono ?_
      rintro e v3 ⟨hb3, hp3⟩
      obtain ⟨q1, m1, d1, q2, m2, d2, q3, m3, d3, a3, e3, rfl⟩ := par_weak hp3
      have A3 := (A2.trans (hb3.mono A2.size)).alloc (A2.trans (hb3.mono A2.size)).size (.cells #[.slice q1 m1 d1, .slice q2 m2 d2, .slice q3 m3 d3] 27)
      clear hp3
      go_wp2_with fail
      go_roundw
      case rel => exact ⟨k + 1, by go_num, by omega, HB.out.trans (A3.mono HB.out.size)⟩
      case measure => simp [intOf]; omega
     ·rw [hpa] at HPa
      obtain ⟨hj1, hj2⟩ := hpj x hpa
      rcases told_cases (s := sb) (by omega) with ⟨qb, hpb⟩ | ⟨y, hpb⟩
      ·have hqb := bad_le (by omega) hpb
       rw [hpb] at HPb
       rw [hj1 qb hpb] at HPj
       clear HP hpj hj1 hj2
       go_wp2_with fail
       refine HPa.out.mono ?_
       rintro e v1 ⟨hb1, v, rfl, x1, x2, x3, rfl, h1, h2, h3⟩
       obtain ⟨p1, c1, rfl, -⟩ := sl_form h1
       obtain ⟨p2, c2, rfl, -⟩ := sl_form h2
       obtain ⟨p3, c3, rfl, -⟩ := sl_form h3
       clear h1 h2 h3
       have A1 := hb1.alloc hb1.size (.cells #[.slice p1 x.c.length c1, .slice p2 x.r.length c2, .slice p3 x.q.length c3] 27)
       have HEa := HE.out.below A1
       go_wp2_with fail
       refine (HPb _ HEa).out.mono ?_
       rintro e v2 ⟨hb2, rfl⟩
       have A2 := (A1.trans (hb2.mono A1.size)).alloc (A1.trans (hb2.mono A1.size)).size (.cells #[.slice none 0 0, .slice none 0 0, .slice none 0 0] 27)
       have HEb := HE.out.below A2
       go_wp2_with fail
       refine (HPj _ HEb).out.mono ?_
       rintro e v3 ⟨hb3, rfl⟩
       have A3 := (A2.trans (hb3.mono A2.size)).alloc (A2.trans (hb3.mono A2.size)).size (.cells #[.slice none 0 0, .slice none 0 0, .slice none 0 0] 27)
       have hqe : ((sa.size + 1 + qb : Nat) : Int) = (sa.size : Int) + 1 + (qb : Int) := by omega
       have hq1 : (sa.size : Int) + 1 + (qb : Int) ≤ 10000 := by omega
       go_wp2_with fail
       go_roundw
       case rel => exact ⟨k + 1, by go_num, by omega, HB.out.trans (A3.mono HB.out.size)⟩
       case measure => simp [intOf]; omega
      ·rw [hpb] at HPb
       rw [hj2 y hpb] at HPj
       clear HP hpj hj1 hj2
       obtain ⟨ml1, ml2, ml3⟩ := parse_many hpa
       obtain ⟨mr1, mr2, mr3⟩ := parse_many hpb
       clear hpa hpb
       go_wp2_with fail
       refine HPa.out.mono ?_
       rintro e v1 ⟨hb1, v, rfl, x1, x2, x3, rfl, h1, h2, h3⟩
       have HX := Hid.intro (And.intro h1 (And.intro h2 h3))
       obtain ⟨px0, kx0, rfl, -⟩ := sl_form h1
       obtain ⟨px1, kx1, rfl, -⟩ := sl_form h2
       obtain ⟨px2, kx2, rfl, -⟩ := sl_form h3
       clear h1 h2 h3
       have A1 := hb1.alloc hb1.size (.cells #[.slice px0 x.c.length kx0, .slice px1 x.r.length kx1, .slice px2 x.q.length kx2] 27)
       have X1 := heap_alloc_new v1 (.cells #[.slice px0 x.c.length kx0, .slice px1 x.r.length kx1, .slice px2 x.q.length kx2] 27)
       have HEa := HE.out.below A1
       have B1 : Below v1.heap.size v1 (v1.alloc (.cells #[.slice px0 x.c.length kx0, .slice px1 x.r.length kx1, .slice px2 x.q.length kx2] 27)) := below_al (Below.refl _ _) _
       have hs1 : v1.heap.size < (v1.alloc (.cells #[.slice px0 x.c.length kx0, .slice px1 x.r.length kx1, .slice px2 x.q.length kx2] 27)).heap.size := by simp
       go_wp2_with fail
       generalize (v1.alloc (.cells #[.slice px0 x.c.length kx0, .slice px1 x.r.length kx1, .slice px2 x.q.length kx2] 27)) = V1 at *
       refine (HPb _ HEa).out.mono ?_
       rintro e v2 ⟨hb2, v, rfl, x1, x2, x3, rfl, h1, h2, h3⟩
       have HY := Hid.intro (And.intro h1 (And.intro h2 h3))
       obtain ⟨py0, ky0, rfl, -⟩ := sl_form h1
       obtain ⟨py1, ky1, rfl, -⟩ := sl_form h2
       obtain ⟨py2, ky2, rfl, -⟩ := sl_form h3
       clear h1 h2 h3
       have A2 := (A1.trans (hb2.mono A1.size)).alloc (A1.trans (hb2.mono A1.size)).size (.cells #[.slice py0 y.c.length ky0, .slice py1 y.r.length ky1, .slice py2 y.q.length ky2] 27)
       have Y1 := heap_alloc_new v2 (.cells #[.slice py0 y.c.length ky0, .slice py1 y.r.length ky1, .slice py2 y.q.length ky2] 27)
       have HEb := HE.out.below A2
       have B2 : Below v2.heap.size v2 (v2.alloc (.cells #[.slice py0 y.c.length ky0, .slice py1 y.r.length ky1, .slice py2 y.q.length ky2] 27)) := below_al (Below.refl _ _) _
       have hs2 : v2.heap.size < (v2.alloc (.cells #[.slice py0 y.c.length ky0, .slice py1 y.r.length ky1, .slice py2 y.q.length ky2] 27)).heap.size := by simp
       go_wp2_with fail
       generalize (v2.alloc (.cells #[.slice py0 y.c.length ky0, .slice py1 y.r.length ky1, .slice py2 y.q.length ky2] 27)) = V2 at *
       refine (HPj _ HEb).out.mono ?_
       rintro e v3 ⟨hb3, v, rfl, x1, x2, x3, rfl, h1, h2, h3⟩
       have HJ := Hid.intro (And.intro h1 (And.intro h2 h3))
       obtain ⟨pj0, kj0, rfl, -⟩ := sl_form h1
       obtain ⟨pj1, kj1, rfl, -⟩ := sl_form h2
       obtain ⟨pj2, kj2, rfl, -⟩ := sl_form h3
       clear h1 h2 h3
       have A3 := (A2.trans (hb3.mono A2.size)).alloc (A2.trans (hb3.mono A2.size)).size (.cells #[.slice pj0 (addS x y).c.length kj0, .slice pj1 (addS x y).r.length kj1, .slice pj2 (addS x y).q.length kj2] 27)
       have J1 := heap_alloc_new v3 (.cells #[.slice pj0 (addS x y).c.length kj0, .slice pj1 (addS x y).r.length kj1, .slice pj2 (addS x y).q.length kj2] 27)
       have B3 : Below v3.heap.size v3 (v3.alloc (.cells #[.slice pj0 (addS x y).c.length kj0, .slice pj1 (addS x y).r.length kj1, .slice pj2 (addS x y).q.length kj2] 27)) := below_al (Below.refl _ _) _
       have hs3 : v3.heap.size < (v3.alloc (.cells #[.slice pj0 (addS x y).c.length kj0, .slice pj1 (addS x y).r.length kj1, .slice pj2 (addS x y).q.length kj2] 27)).heap.size := by simp
       generalize hV3 : (v3.alloc (.cells #[.slice pj0 (addS x y).c.length kj0, .slice pj1 (addS x y).r.length kj1, .slice pj2 (addS x y).q.length kj2] 27)) = V3 at *
       have A4 := A3.alloc A3.size (.cells #[.slice none 0 0, .slice none 0 0, .slice none 0 0] 27)
       have hB := heap_alloc_new V3 (.cells #[.slice none 0 0, .slice none 0 0, .slice none 0 0] 27)
       have B4 : Below V3.heap.size V3 (V3.alloc (.cells #[.slice none 0 0, .slice none 0 0, .slice none 0 0] 27)) := below_al (Below.refl _ _) _
       have hs4 : V3.heap.size < (V3.alloc (.cells #[.slice none 0 0, .slice none 0 0, .slice none 0 0] 27)).heap.size := by simp
       have C1 : Below v1.heap.size v1 v2 := B1.trans (hb2.mono B1.size)
       have C2 : Below v2.heap.size v2 v3 := B2.trans (hb3.mono B2.size)
       have C4 : Below v1.heap.size v1 v3 := C1.trans (C2.mono C1.size)
       have C3 : Below v3.heap.size v3 (V3.alloc (.cells #[.slice none 0 0, .slice none 0 0, .slice none 0 0] 27)) := B3.trans (B4.mono B3.size)
       have D1 : Below v1.heap.size v1 (V3.alloc (.cells #[.slice none 0 0, .slice none 0 0, .slice none 0 0] 27)) := C4.trans (C3.mono C4.size)
       have D2 : Below v2.heap.size v2 (V3.alloc (.cells #[.slice none 0 0, .slice none 0 0, .slice none 0 0] 27)) := C2.trans (C3.mono C2.size)
       have E1 : Below V1.heap.size V1 (V3.alloc (.cells #[.slice none 0 0, .slice none 0 0, .slice none 0 0] 27)) := hb2.trans (D2.mono hb2.size)
       have E2 : Below V2.heap.size V2 (V3.alloc (.cells #[.slice none 0 0, .slice none 0 0, .slice none 0 0] 27)) := hb3.trans (C3.mono hb3.size)
       have hX := row_call E1 hs1 X1
       have hY := row_call E2 hs2 Y1
       have hJ := row_call B4 hs3 J1
       have cX0 : _ = some (Value.slice px0 x.c.length kx0) := (heap_cell hX 0).1
       have cX1 : _ = some (Value.slice px1 x.r.length kx1) := (heap_cell hX 1).1
       have cX2 : _ = some (Value.slice px2 x.q.length kx2) := (heap_cell hX 2).1
       have cY0 : _ = some (Value.slice py0 y.c.length ky0) := (heap_cell hY 0).1
       have cY1 : _ = some (Value.slice py1 y.r.length ky1) := (heap_cell hY 1).1
       have cY2 : _ = some (Value.slice py2 y.q.length ky2) := (heap_cell hY 2).1
       have cJ0 : _ = some (Value.slice pj0 (addS x y).c.length kj0) := (heap_cell hJ 0).1
       have cJ1 : _ = some (Value.slice pj1 (addS x y).r.length kj1) := (heap_cell hJ 1).1
       have cJ2 : _ = some (Value.slice pj2 (addS x y).q.length kj2) := (heap_cell hJ 2).1
       have z1 := hb2.size
       have z2 := hb3.size
       have HX0 := Hid.intro (rep.move (Q := fun b => b ≠ V3.heap.size) (Kp.below D1) (fun b hb _ => by omega) _ _ HX.out.1)
       have HX1 := Hid.intro (rep.move (Q := fun b => b ≠ V3.heap.size) (Kp.below D1) (fun b hb _ => by omega) _ _ HX.out.2.1)
       have HX2 := Hid.intro (rep.move (Q := fun b => b ≠ V3.heap.size) (Kp.below D1) (fun b hb _ => by omega) _ _ HX.out.2.2)
       have HY0 := Hid.intro (rep.move (Q := fun b => b ≠ V3.heap.size) (Kp.below D2) (fun b hb _ => by omega) _ _ HY.out.1)
       have HY1 := Hid.intro (rep.move (Q := fun b => b ≠ V3.heap.size) (Kp.below D2) (fun b hb _ => by omega) _ _ HY.out.2.1)
       have HY2 := Hid.intro (rep.move (Q := fun b => b ≠ V3.heap.size) (Kp.below D2) (fun b hb _ => by omega) _ _ HY.out.2.2)
       have HJ0 := Hid.intro (rep.move (Q := fun b => b ≠ V3.heap.size) (Kp.below C3) (fun b hb _ => by omega) _ _ HJ.out.1)
       have HJ1 := Hid.intro (rep.move (Q := fun b => b ≠ V3.heap.size) (Kp.below C3) (fun b hb _ => by omega) _ _ HJ.out.2.1)
       have HJ2 := Hid.intro (rep.move (Q := fun b => b ≠ V3.heap.size) (Kp.below C3) (fun b hb _ => by omega) _ _ HJ.out.2.2)
       have HBW := Hid.intro (HB.out.trans (A4.mono HB.out.size))
       have hNB : w.heap.size ≤ V3.heap.size := Nat.le_trans HB.out.size A3.size
       have hNW : w.heap.size ≤ (V3.alloc (.cells #[.slice none 0 0, .slice none 0 0, .slice none 0 0] 27)).heap.size := by omega
       have hX1 : v1.heap.size < (V3.alloc (.cells #[.slice none 0 0, .slice none 0 0, .slice none 0 0] 27)).heap.size := by omega
       have hY1 : v2.heap.size < (V3.alloc (.cells #[.slice none 0 0, .slice none 0 0, .slice none 0 0] 27)).heap.size := by omega
       have hJ1 : v3.heap.size < (V3.alloc (.cells #[.slice none 0 0, .slice none 0 0, .slice none 0 0] 27)).heap.size := by omega
       have hX2 : v1.heap.size ≠ V3.heap.size := by omega
       have hY2 : v2.heap.size ≠ V3.heap.size := by omega
       have hJ2 : v3.heap.size ≠ V3.heap.size := by omega
       clear C1 C2 C3 C4 D1 D2 E1 E2 hX hY hJ X1 Y1 J1 HX HY HJ HEa HEb A1 A2 A3 A4 B1 B2 B3 B4 hs1 hs2 hs3 hs4 z1 z2 HPb HPj hb1 hb2 hb3
       go_wp2_with fail
       generalize (V3.alloc (.cells #[.slice none 0 0, .slice none 0 0, .slice none 0 0] 27)) = W0 at *
       generalize V3.heap.size = NB at *
       generalize v1.heap.size = NX at *
       generalize v2.heap.size = NY at *
       generalize v3.heap.size = NJ at *
       obtain ⟨i0, hi, hz0, hz1, hz2⟩ := info_parts infoClass'
       have HcX := fun w' (h : Chg NB none W0 w') => (h.cell' (g := NX) (j := 0) hX1 hX2).trans cX0
       have HcY := fun w' (h : Chg NB none W0 w') => (h.cell' (g := NY) (j := 0) hY1 hY2).trans cY0
       have hN := (Array.getElem?_eq_some_iff.1 hB).1
       have cBd : W0.drew.cell? ⟨NB, 0, none⟩ = some (.slice none 0 0) := (heap_cell (w := W0.drew) hB 0).1
       clear cX0 cY0
       go_wp2_with fail
       refine wp_region_held_drew (S := fun w' => Chg NB none W0 w') hmo (Chg.refl _ _).drew (fun hS => ?_)
       refine tq 0 78 (.pointer (some ⟨NB, 0, none⟩)) hS ?_
       simp only [n3]
       refine tq 2 80 (.pointer (some ⟨NX, 0, none⟩)) hS ?_
       simp only [n3]
       refine tp 3 81 (.slice px0 x.c.length kx0) ⟨_, rfl, rfl, Or.inl ⟨by rfl, fun w hSw => by have hc := HcX w hSw; go_simp⟩⟩ hS ?_
       simp only [n3]
       refine tq 5 83 (.pointer (some ⟨NY, 0, none⟩)) hS ?_
       simp only [n3]
       refine tp 6 84 (.slice py0 y.c.length ky0) ⟨_, rfl, rfl, Or.inl ⟨by rfl, fun w hSw => by have hc := HcY w hSw; go_simp⟩⟩ hS ?_
       simp only [n3]
       refine on1 1 rfl (fun K' hK => ?_)
       go_simp
       refine hK.out _ _ hS (fun hS => ?_)
       clear hK K'
       (try simp only [Act.put, List.getElem_toArray, List.getElem_cons_succ, List.getElem_cons_zero, List.setIfInBounds_toArray, List.set_cons_succ, List.set_cons_zero])
       refine on1 4 rfl (fun K' hK => ?_)
       rw [if_pos (by rfl)]
       refine wp_append_rep _ _ 23 rfl W0.heap.size 58 i0 _ 3 56 Tryz.underlying23 hi hz0 hz1 hz2 rfl (by decide) (.slice none 0 0) 0 [] rfl (own_nil _ _ _ _) _ rfl (HX0.out.old hS) (ca_len _) (by unfold maxLen; omega) (by omega) (Nat.le_refl _) (fun va wa us hus howa hgra => ?_)
       have hSa : Chg NB none W0 wa := hS.grow hgra (fun g e => by cases e)
       have husa := reps.move (kp_chg2 hS hSa hgra.size) (fun _ _ h => h) _ _ hus
       have hBa := (hgra.block NB hN (by simp [Value.ownBlock])).trans hB
       simp only [List.nil_append, Nat.zero_add] at howa
       clear hus hgra cBd
       refine hK.out _ _ hSa (fun hS => ?_)
       clear hK K'
       (try simp only [Act.put, List.getElem_toArray, List.getElem_cons_succ, List.getElem_cons_zero, List.setIfInBounds_toArray, List.set_cons_succ, List.set_cons_zero])
       refine on1 7 rfl (fun K' hK => ?_)
       rw [if_pos (by rfl)]
       refine wp_append_rep _ _ 23 rfl W0.heap.size 58 i0 _ 3 56 Tryz.underlying23 hi hz0 hz1 hz2 rfl (by decide) va (0 + x.c.length) us rfl (by rw [Nat.zero_add]; exact howa) _ rfl (HY0.out.old hS) (ca_len _) (by unfold maxLen; omega) (by omega) hS.size (fun vb wb ts hts howb hgrb => ?_)
       rw [Nat.zero_add] at howb
       have hSb : Chg NB none W0 wb := hS.grow hgrb (fun g e => (howa.lt g e).1)
       have hreps := (reps.move (kp_chg2 hS hSb hgrb.size) (fun _ _ h => h) _ _ husa).append (reps.move (kp_chg2 hS hSb hgrb.size) (fun _ _ h => h) _ _ hts)
       rw [← List.flatMap_append] at hreps
       have hBb := (hgrb.block NB (Nat.lt_of_lt_of_le hN hS.size) (own_below howa (.inl hN))).trans hBa
       clear hts hgrb husa howa hBa
       obtain ⟨pb0, kb0, rfl⟩ := own_form howb
       refine hK.out _ _ hSb (fun hS => ?_)
       clear hK K'
       (try simp only [Act.put, List.getElem_toArray, List.getElem_cons_succ, List.getElem_cons_zero, List.setIfInBounds_toArray, List.set_cons_succ, List.set_cons_zero])
       refine tq 8 86 (.pointer (some ⟨NB, 0, none⟩)) hS ?_
       simp only [n3]
       refine on1 9 rfl (fun K' hK => ?_)
       have c5 : wb.cell? ⟨NB, 0, none⟩ = some (.slice none 0 0) := (heap_cell hBb 0).1
       have f5 : wb.frozen? ⟨NB, 0, none⟩ = false := (heap_cell hBb 0).2
       have hSc : Chg NB none W0 (wb.setCell ⟨NB, 0, none⟩ (.slice pb0 (x.c.length + y.c.length) kb0)) := hSb.set (p := ⟨NB, 0, none⟩) (.inl rfl) _
       have hR0 := Hid.intro (rep.own (P := fun b => b ≠ NB) (own_setC 0 howb hN (.slice pb0 (x.c.length + y.c.length) kb0)) (reps.move (kp_chg2 hSb hSc (by simp)) (fun _ _ h => h.1) _ _ hreps) (fun g hg => by have := (howb.lt g hg).1; omega))
       have hB' : (wb.setCell ⟨NB, 0, none⟩ (.slice pb0 (x.c.length + y.c.length) kb0)).heap[NB]? = some (.cells #[.slice pb0 (x.c.length + y.c.length) kb0, .slice none 0 0, .slice none 0 0] 27 (0, 0)) := by rw [heap_put hBb]; rfl
       go_simp
       refine hK.out _ _ hSc (fun hS => ?_)
       clear hK K' c5 f5 hreps howb hBb HcX HcY hS hB
       (try simp only [Act.put, List.getElem_toArray, List.getElem_cons_succ, List.getElem_cons_zero, List.setIfInBounds_toArray, List.set_cons_succ, List.set_cons_zero])
       refine wpAnyH_done (by kernel_rfl) ?_ _
       have W10 : ∃ W', wb.setCell ⟨NB, 0, none⟩ (.slice pb0 (x.c.length + y.c.length) kb0) = W' := ⟨_, rfl⟩
       obtain ⟨W1, hW1⟩ := W10
       rw [hW1] at hSc hR0 hB' ⊢
       clear hW1
       have hB := hB'
       clear hB' hSb
       have cX1 := (hSc.cell' (g := NX) (j := 1) hX1 hX2).trans cX1
       have cY1 := (hSc.cell' (g := NY) (j := 1) hY1 hY2).trans cY1
       have cX2 := (hSc.cell' (g := NX) (j := 2) hX1 hX2).trans cX2
       have cY2 := (hSc.cell' (g := NY) (j := 2) hY1 hY2).trans cY2
       have cJ0 := (hSc.cell' (g := NJ) (j := 0) hJ1 hJ2).trans cJ0
       have cJ1 := (hSc.cell' (g := NJ) (j := 1) hJ1 hJ2).trans cJ1
       have cJ2 := (hSc.cell' (g := NJ) (j := 2) hJ1 hJ2).trans cJ2
       have hX1 := Nat.lt_of_lt_of_le hX1 hSc.size
       have hY1 := Nat.lt_of_lt_of_le hY1 hSc.size
       have hJ1 := Nat.lt_of_lt_of_le hJ1 hSc.size
       have HX1 := Hid.intro (HX1.out.chg hSc)
       have HY1 := Hid.intro (HY1.out.chg hSc)
       have HX2 := Hid.intro (HX2.out.chg hSc)
       have HY2 := Hid.intro (HY2.out.chg hSc)
       have HJ0 := Hid.intro (HJ0.out.chg hSc)
       have HJ1 := Hid.intro (HJ1.out.chg hSc)
       have HJ2 := Hid.intro (HJ2.out.chg hSc)
       have HBW := Hid.intro (below_chg HBW.out hNB hNW hSc)
       have hNW := Nat.le_trans hNW hSc.size
       clear hSc hi hz0 hz1 hz2 hN
       obtain ⟨i1, hi, hz0, hz1, hz2⟩ := info_parts infoRule'
       have HcX := fun w' (h : Chg NB none W1 w') => (h.cell' (g := NX) (j := 1) hX1 hX2).trans cX1
       have HcY := fun w' (h : Chg NB none W1 w') => (h.cell' (g := NY) (j := 1) hY1 hY2).trans cY1
       have hN := (Array.getElem?_eq_some_iff.1 hB).1
       have cBd : W1.drew.cell? ⟨NB, 1, none⟩ = some (.slice none 0 0) := (heap_cell (w := W1.drew) hB 1).1
       clear cX1 cY1
       go_wp2_with fail
       refine wp_region_held_drew (S := fun w' => Chg NB none W1 w') hmo (Chg.refl _ _).drew (fun hS => ?_)
       refine tq 0 87 (.pointer (some ⟨NB, 1, none⟩)) hS ?_
       simp only [n3]
       refine tq 2 89 (.pointer (some ⟨NX, 1, none⟩)) hS ?_
       simp only [n3]
       refine tp 3 90 (.slice px1 x.r.length kx1) ⟨_, rfl, rfl, Or.inl ⟨by rfl, fun w hSw => by have hc := HcX w hSw; go_simp⟩⟩ hS ?_
       simp only [n3]
       refine tq 5 92 (.pointer (some ⟨NY, 1, none⟩)) hS ?_
       simp only [n3]
       refine tp 6 93 (.slice py1 y.r.length ky1) ⟨_, rfl, rfl, Or.inl ⟨by rfl, fun w hSw => by have hc := HcY w hSw; go_simp⟩⟩ hS ?_
       simp only [n3]
       refine on1 1 rfl (fun K' hK => ?_)
       go_simp
       refine hK.out _ _ hS (fun hS => ?_)
       clear hK K'
       (try simp only [Act.put, List.getElem_toArray, List.getElem_cons_succ, List.getElem_cons_zero, List.setIfInBounds_toArray, List.set_cons_succ, List.set_cons_zero])
       refine on1 4 rfl (fun K' hK => ?_)
       rw [if_pos (by rfl)]
       refine wp_append_rep _ _ 24 rfl W1.heap.size 51 i1 _ 8 112 Tryz.underlying24 hi hz0 hz1 hz2 rfl (by decide) (.slice none 0 0) 0 [] rfl (own_nil _ _ _ _) _ rfl (HX1.out.old hS) (ru_len _) (by unfold maxLen; omega) (by omega) (Nat.le_refl _) (fun va wa us hus howa hgra => ?_)
       have hSa : Chg NB none W1 wa := hS.grow hgra (fun g e => by cases e)
       have husa := reps.move (kp_chg2 hS hSa hgra.size) (fun _ _ h => h) _ _ hus
       have hBa := (hgra.block NB hN (by simp [Value.ownBlock])).trans hB
       simp only [List.nil_append, Nat.zero_add] at howa
       clear hus hgra cBd
       refine hK.out _ _ hSa (fun hS => ?_)
       clear hK K'
       (try simp only [Act.put, List.getElem_toArray, List.getElem_cons_succ, List.getElem_cons_zero, List.setIfInBounds_toArray, List.set_cons_succ, List.set_cons_zero])
       refine on1 7 rfl (fun K' hK => ?_)
       rw [if_pos (by rfl)]
       refine wp_append_rep _ _ 24 rfl W1.heap.size 51 i1 _ 8 112 Tryz.underlying24 hi hz0 hz1 hz2 rfl (by decide) va (0 + x.r.length) us rfl (by rw [Nat.zero_add]; exact howa) _ rfl (HY1.out.old hS) (ru_len _) (by unfold maxLen; omega) (by omega) hS.size (fun vb wb ts hts howb hgrb => ?_)
       rw [Nat.zero_add] at howb
       have hSb : Chg NB none W1 wb := hS.grow hgrb (fun g e => (howa.lt g e).1)
       have hreps := (reps.move (kp_chg2 hS hSb hgrb.size) (fun _ _ h => h) _ _ husa).append (reps.move (kp_chg2 hS hSb hgrb.size) (fun _ _ h => h) _ _ hts)
       rw [← List.flatMap_append] at hreps
       have hBb := (hgrb.block NB (Nat.lt_of_lt_of_le hN hS.size) (own_below howa (.inl hN))).trans hBa
       clear hts hgrb husa howa hBa
       obtain ⟨pb1, kb1, rfl⟩ := own_form howb
       refine hK.out _ _ hSb (fun hS => ?_)
       clear hK K'
       (try simp only [Act.put, List.getElem_toArray, List.getElem_cons_succ, List.getElem_cons_zero, List.setIfInBounds_toArray, List.set_cons_succ, List.set_cons_zero])
       refine tq 8 95 (.pointer (some ⟨NB, 1, none⟩)) hS ?_
       simp only [n3]
       refine on1 9 rfl (fun K' hK => ?_)
       have c5 : wb.cell? ⟨NB, 1, none⟩ = some (.slice none 0 0) := (heap_cell hBb 1).1
       have f5 : wb.frozen? ⟨NB, 1, none⟩ = false := (heap_cell hBb 1).2
       have hSc : Chg NB none W1 (wb.setCell ⟨NB, 1, none⟩ (.slice pb1 (x.r.length + y.r.length) kb1)) := hSb.set (p := ⟨NB, 1, none⟩) (.inl rfl) _
       have hR1 := Hid.intro (rep.own (P := fun b => b ≠ NB) (own_setC 1 howb hN (.slice pb1 (x.r.length + y.r.length) kb1)) (reps.move (kp_chg2 hSb hSc (by simp)) (fun _ _ h => h.1) _ _ hreps) (fun g hg => by have := (howb.lt g hg).1; omega))
       have hB' : (wb.setCell ⟨NB, 1, none⟩ (.slice pb1 (x.r.length + y.r.length) kb1)).heap[NB]? = some (.cells #[.slice pb0 (x.c.length + y.c.length) kb0, .slice pb1 (x.r.length + y.r.length) kb1, .slice none 0 0] 27 (0, 0)) := by rw [heap_put hBb]; rfl
       go_simp
       refine hK.out _ _ hSc (fun hS => ?_)
       clear hK K' c5 f5 hreps howb hBb HcX HcY hS hB
       (try simp only [Act.put, List.getElem_toArray, List.getElem_cons_succ, List.getElem_cons_zero, List.setIfInBounds_toArray, List.set_cons_succ, List.set_cons_zero])
       refine wpAnyH_done (by kernel_rfl) ?_ _
       have W20 : ∃ W', wb.setCell ⟨NB, 1, none⟩ (.slice pb1 (x.r.length + y.r.length) kb1) = W' := ⟨_, rfl⟩
       obtain ⟨W2, hW2⟩ := W20
       rw [hW2] at hSc hR1 hB' ⊢
       clear hW2
       have hB := hB'
       clear hB' hSb
       have cX2 := (hSc.cell' (g := NX) (j := 2) hX1 hX2).trans cX2
       have cY2 := (hSc.cell' (g := NY) (j := 2) hY1 hY2).trans cY2
       have cJ0 := (hSc.cell' (g := NJ) (j := 0) hJ1 hJ2).trans cJ0
       have cJ1 := (hSc.cell' (g := NJ) (j := 1) hJ1 hJ2).trans cJ1
       have cJ2 := (hSc.cell' (g := NJ) (j := 2) hJ1 hJ2).trans cJ2
       have hX1 := Nat.lt_of_lt_of_le hX1 hSc.size
       have hY1 := Nat.lt_of_lt_of_le hY1 hSc.size
       have hJ1 := Nat.lt_of_lt_of_le hJ1 hSc.size
       have HX2 := Hid.intro (HX2.out.chg hSc)
       have HY2 := Hid.intro (HY2.out.chg hSc)
       have hR0 := Hid.intro (hR0.out.chg hSc)
       have HJ0 := Hid.intro (HJ0.out.chg hSc)
       have HJ1 := Hid.intro (HJ1.out.chg hSc)
       have HJ2 := Hid.intro (HJ2.out.chg hSc)
       have HBW := Hid.intro (below_chg HBW.out hNB hNW hSc)
       have hNW := Nat.le_trans hNW hSc.size
       clear hSc hi hz0 hz1 hz2 hN
       obtain ⟨i2, hi, hz0, hz1, hz2⟩ := info_parts infoQuery'
       have HcX := fun w' (h : Chg NB none W2 w') => (h.cell' (g := NX) (j := 2) hX1 hX2).trans cX2
       have HcY := fun w' (h : Chg NB none W2 w') => (h.cell' (g := NY) (j := 2) hY1 hY2).trans cY2
       have hN := (Array.getElem?_eq_some_iff.1 hB).1
       have cBd : W2.drew.cell? ⟨NB, 2, none⟩ = some (.slice none 0 0) := (heap_cell (w := W2.drew) hB 2).1
       clear cX2 cY2
       go_wp2_with fail
       refine wp_region_held_drew (S := fun w' => Chg NB none W2 w') hmo (Chg.refl _ _).drew (fun hS => ?_)
       refine tq 0 96 (.pointer (some ⟨NB, 2, none⟩)) hS ?_
       simp only [n3]
       refine tq 2 98 (.pointer (some ⟨NX, 2, none⟩)) hS ?_
       simp only [n3]
       refine tp 3 99 (.slice px2 x.q.length kx2) ⟨_, rfl, rfl, Or.inl ⟨by rfl, fun w hSw => by have hc := HcX w hSw; go_simp⟩⟩ hS ?_
       simp only [n3]
       refine tq 5 101 (.pointer (some ⟨NY, 2, none⟩)) hS ?_
       simp only [n3]
       refine tp 6 102 (.slice py2 y.q.length ky2) ⟨_, rfl, rfl, Or.inl ⟨by rfl, fun w hSw => by have hc := HcY w hSw; go_simp⟩⟩ hS ?_
       simp only [n3]
       refine on1 1 rfl (fun K' hK => ?_)
       go_simp
       refine hK.out _ _ hS (fun hS => ?_)
       clear hK K'
       (try simp only [Act.put, List.getElem_toArray, List.getElem_cons_succ, List.getElem_cons_zero, List.setIfInBounds_toArray, List.set_cons_succ, List.set_cons_zero])
       refine on1 4 rfl (fun K' hK => ?_)
       rw [if_pos (by rfl)]
       refine wp_append_rep _ _ 25 rfl W2.heap.size 63 i2 _ 3 64 Tryz.underlying25 hi hz0 hz1 hz2 rfl (by decide) (.slice none 0 0) 0 [] rfl (own_nil _ _ _ _) _ rfl (HX2.out.old hS) (qu_len _) (by unfold maxLen; omega) (by omega) (Nat.le_refl _) (fun va wa us hus howa hgra => ?_)
       have hSa : Chg NB none W2 wa := hS.grow hgra (fun g e => by cases e)
       have husa := reps.move (kp_chg2 hS hSa hgra.size) (fun _ _ h => h) _ _ hus
       have hBa := (hgra.block NB hN (by simp [Value.ownBlock])).trans hB
       simp only [List.nil_append, Nat.zero_add] at howa
       clear hus hgra cBd
       refine hK.out _ _ hSa (fun hS => ?_)
       clear hK K'
       (try simp only [Act.put, List.getElem_toArray, List.getElem_cons_succ, List.getElem_cons_zero, List.setIfInBounds_toArray, List.set_cons_succ, List.set_cons_zero])
       refine on1 7 rfl (fun K' hK => ?_)
       rw [if_pos (by rfl)]
       refine wp_append_rep _ _ 25 rfl W2.heap.size 63 i2 _ 3 64 Tryz.underlying25 hi hz0 hz1 hz2 rfl (by decide) va (0 + x.q.length) us rfl (by rw [Nat.zero_add]; exact howa) _ rfl (HY2.out.old hS) (qu_len _) (by unfold maxLen; omega) (by omega) hS.size (fun vb wb ts hts howb hgrb => ?_)
       rw [Nat.zero_add] at howb
       have hSb : Chg NB none W2 wb := hS.grow hgrb (fun g e => (howa.lt g e).1)
       have hreps := (reps.move (kp_chg2 hS hSb hgrb.size) (fun _ _ h => h) _ _ husa).append (reps.move (kp_chg2 hS hSb hgrb.size) (fun _ _ h => h) _ _ hts)
       rw [← List.flatMap_append] at hreps
       have hBb := (hgrb.block NB (Nat.lt_of_lt_of_le hN hS.size) (own_below howa (.inl hN))).trans hBa
       clear hts hgrb husa howa hBa
       obtain ⟨pb2, kb2, rfl⟩ := own_form howb
       refine hK.out _ _ hSb (fun hS => ?_)
       clear hK K'
       (try simp only [Act.put, List.getElem_toArray, List.getElem_cons_succ, List.getElem_cons_zero, List.setIfInBounds_toArray, List.set_cons_succ, List.set_cons_zero])
       refine tq 8 104 (.pointer (some ⟨NB, 2, none⟩)) hS ?_
       simp only [n3]
       refine on1 9 rfl (fun K' hK => ?_)
       have c5 : wb.cell? ⟨NB, 2, none⟩ = some (.slice none 0 0) := (heap_cell hBb 2).1
       have f5 : wb.frozen? ⟨NB, 2, none⟩ = false := (heap_cell hBb 2).2
       have hSc : Chg NB none W2 (wb.setCell ⟨NB, 2, none⟩ (.slice pb2 (x.q.length + y.q.length) kb2)) := hSb.set (p := ⟨NB, 2, none⟩) (.inl rfl) _
       have hR2 := Hid.intro (rep.own (P := fun b => b ≠ NB) (own_setC 2 howb hN (.slice pb2 (x.q.length + y.q.length) kb2)) (reps.move (kp_chg2 hSb hSc (by simp)) (fun _ _ h => h.1) _ _ hreps) (fun g hg => by have := (howb.lt g hg).1; omega))
       have hB' : (wb.setCell ⟨NB, 2, none⟩ (.slice pb2 (x.q.length + y.q.length) kb2)).heap[NB]? = some (.cells #[.slice pb0 (x.c.length + y.c.length) kb0, .slice pb1 (x.r.length + y.r.length) kb1, .slice pb2 (x.q.length + y.q.length) kb2] 27 (0, 0)) := by rw [heap_put hBb]; rfl
       go_simp
       refine hK.out _ _ hSc (fun hS => ?_)
       clear hK K' c5 f5 hreps howb hBb HcX HcY hS hB
       (try simp only [Act.put, List.getElem_toArray, List.getElem_cons_succ, List.getElem_cons_zero, List.setIfInBounds_toArray, List.set_cons_succ, List.set_cons_zero])
       refine wpAnyH_done (by kernel_rfl) ?_ _
       have W30 : ∃ W', wb.setCell ⟨NB, 2, none⟩ (.slice pb2 (x.q.length + y.q.length) kb2) = W' := ⟨_, rfl⟩
       obtain ⟨W3, hW3⟩ := W30
       rw [hW3] at hSc hR2 hB' ⊢
       clear hW3
       have hB := hB'
       clear hB' hSb
       have cJ0 := (hSc.cell' (g := NJ) (j := 0) hJ1 hJ2).trans cJ0
       have cJ1 := (hSc.cell' (g := NJ) (j := 1) hJ1 hJ2).trans cJ1
       have cJ2 := (hSc.cell' (g := NJ) (j := 2) hJ1 hJ2).trans cJ2
       have hX1 := Nat.lt_of_lt_of_le hX1 hSc.size
       have hY1 := Nat.lt_of_lt_of_le hY1 hSc.size
       have hJ1 := Nat.lt_of_lt_of_le hJ1 hSc.size
       have hR0 := Hid.intro (hR0.out.chg hSc)
       have hR1 := Hid.intro (hR1.out.chg hSc)
       have HJ0 := Hid.intro (HJ0.out.chg hSc)
       have HJ1 := Hid.intro (HJ1.out.chg hSc)
       have HJ2 := Hid.intro (HJ2.out.chg hSc)
       have HBW := Hid.intro (below_chg HBW.out hNB hNW hSc)
       have hNW := Nat.le_trans hNW hSc.size
       clear hSc hi hz0 hz1 hz2 hN
       have l0 : (addS x y).c.length = x.c.length + y.c.length := List.length_append
       have l1 : (addS x y).r.length = x.r.length + y.r.length := List.length_append
       have l2 : (addS x y).q.length = x.q.length + y.q.length := List.length_append
       have HEQ := Hid.intro (eqBase_any (x := addS x y) (vb := .agg #[.slice pb0 (x.c.length + y.c.length) kb0, .slice pb1 (x.r.length + y.r.length) kb1, .slice pb2 (x.q.length + y.q.length) kb2]) ⟨_, _, _, rfl, HJ0.out, HJ1.out, HJ2.out⟩
        ⟨_, _, _, rfl, by rw [l0]; exact hR0.out, by rw [l1]; exact hR1.out, by rw [l2]; exact hR2.out⟩)
       have g0 : _ = some (Value.slice pb0 (x.c.length + y.c.length) kb0) := (heap_cell hB 0).1
       have g1 : _ = some (Value.slice pb1 (x.r.length + y.r.length) kb1) := (heap_cell hB 1).1
       have g2 : _ = some (Value.slice pb2 (x.q.length + y.q.length) kb2) := (heap_cell hB 2).1
       clear hB HJ0 HJ1 HJ2 hR0 hR1 hR2 l0 l1 l2
       go_wp2_with fail
       refine HEQ.out.mono ?_
       rintro e w4 ⟨rfl, hb4⟩
       go_wp2_with fail
       go_roundw
       case rel => exact ⟨k + 1, by go_num, by omega, HBW.out.trans (hb4.mono hNW)⟩
       case measure => simp [intOf]; omega
   ·go_wp2_with fail
    refine (HW _ HE.out).out.mono ?_
    rintro e w2 ⟨rfl, hb2⟩
    go_wp2
    go_ret
    exact ⟨rfl, HB.out.trans (hb2.mono HB.out.size)⟩
  ·go_wp2_with fail
   refine (HW _ HE.out).out.mono ?_
   rintro e w2 ⟨rfl, hb2⟩
   go_wp2
   go_ret
   exact ⟨rfl, HB.out.trans (hb2.mono HB.out.size)⟩
end
end Go.Proofs.YtoeodjobggodcaaGreatDoor
section
/- proctorlaw5.ParseJoins: it tells true; the listed variables are tied to the program's text. -/
namespace Go.Proofs.YtoeodjobggodcaaGreatDoor.pJo
open Go.ChangeShapes Go.WideShapes Go.ChangeAt Go.RowKit Go.Proofs.YtoeodjobggodcaaGreatDoor Go.Proofs.YtoeodjobggodcaaGreatDoor.pLaid
theorem laidOut : laidOutB Tryz.prog = true := by kernel_rfl
theorem readable : Tryz.prog.readableRec 22 = true := by kernel_rfl
theorem inTypes : 22 < Tryz.prog.types.size := of_decide_eq_true (by kernel_rfl)
set_option maxRecDepth 100000 in
theorem contract (H : Type) (enc : TypeId × Value → H) (W : World) (base : Nat) (args : Array Value) (ds gs : List (DataW H)) (before : List MemPlace)
  (hval : ∀ (j : Nat) t v, Tryz.f6.params[j]? = some t → args[j]? = some v → Value.okWide Tryz.prog W .any base t v)
  (hsz : (DataW.weightsEach Tryz.prog (Tryz.f6.params.toList ++ Rows.parseJoinsSpec.plain.varTypes Tryz.prog) (ds ++ gs)).all (· ≤ reachBytes) = true) (hL : laidMetH Tryz.prog Rows.parseJoinsRow.laid W) (hW : DataW.Whole enc Tryz.prog Tryz.f6.params.toList Rows.parseJoinsSpec.vars false W args.toList ds gs before) :
  Calls Tryz.prog 6 args W fun e W' => ∃ v, e = .returned v ∧ Rows.parseJoinsSpec.post enc Tryz.prog Tryz.f6 false true false false W args v W' := by
 have hW' := hW
 obtain ⟨p, q, hA0, hV, rfl, hfz, hnd⟩ := hW
 have hA : DataW.TrodAll enc Tryz.prog W 0 (fun _ => true) true Tryz.f6.params.toList args.toList ds p := hA0
 rw [Tryz.params6] at hA hval hsz
 obtain ⟨v0, vs0, d0, ds0, p0, q0, hargs, rfl, rfl, h0, r0⟩ := trodAll_cons hA
 obtain ⟨rfl, rfl, rfl⟩ := trodAll_nil r0
 obtain rfl : args = #[v0] := by cases args; simp_all
 obtain ⟨rfl, rfl⟩ := trodVars_none hV
 simp only [List.append_nil] at hW'
 obtain ⟨a0, len, cap, rfl⟩ := okWide_slice Tryz.underlying22 (hval 0 22 v0 rfl rfl)
 have h0' := h0
 obtain ⟨fuel, hf⟩ := h0
 obtain ⟨l, sv, e, hl, hlen⟩ := read_strs fuel _ _ hf
 simp [Value.cells] at e
 subst e
 have hc := hlen (fun n hn => by
  have := List.all_eq_true.1 hsz n (DataW.weights_mem_each (j := 0) (t := 22) (d := d0) rfl rfl n hn)
  simpa using this)
 refine (lawJo (pLaid.errW hL) l _ hl hc).mono fun e W' ⟨he, hb⟩ => ?_
 subst he
 have hlt : ∀ x ∈ p0, x.block < W.heap.size := fun x hx => hW'.lt x (by simpa using hx)
 exact ⟨_, rfl, _, _, _, [], p0 ++ [], [], hW', trodAll_cons_mk (shut_bool Tryz.underlying4 _) trodAll_mk0, trodAll_cons_mk (hb.trod laidOut readable inTypes h0' hlt) trodAll_mk0, rfl, hb.frame _, fun h => by cases h⟩
theorem reads (os : Os) {H : Type} (enc : TypeId × Value → H) : ∃ places, DataW.whole enc Tryz.prog ((lay (World.holding Tryz.prog os ⟨#[], #[.slice none 0 0], []⟩)).forCall (fun _ _ => 0) ⟨#[], #[.slice none 0 0], []⟩).memory Tryz.f6.params.toList Rows.parseJoinsSpec.vars false (#[.slice none 0 0] : Array Value).toList 8 = some ([.nil], [], places) :=
 ⟨[], by kernel_rfl⟩
set_option maxRecDepth 100000 in
theorem lifted (os : Os) (started : os.Started) (H : Type) (enc : TypeId × Value → H) (F : Stop.Interp) :
  ReturnsInHanded {} Tryz.checked os 6 .any ((OpenSpec.ofChange Rows.parseJoinsSpec).preRow enc Tryz.prog Tryz.f6 Rows.parseJoinsRow.domain false Rows.parseJoinsRow.laid) (((OpenSpec.ofChange Rows.parseJoinsSpec).at F).post enc Tryz.prog Tryz.f6 false true false false) := by
 obtain ⟨places, hx⟩ := reads os enc
 refine returnsInHanded_of_row (C := Tryz.checked) (s := OpenSpec.ofChange Rows.parseJoinsSpec) own started (by kernel_rfl) Tryz.func6
  (witness_row_atRef (enc := enc) (C := Tryz.checked) false (lay (World.holding Tryz.prog os ⟨#[], #[.slice none 0 0], []⟩)) #[.slice none 0 0] rfl (by kernel_rfl) (by kernel_rfl) (by kernel_rfl)
   (OpenSpec.preRow_of_cond 8 hx (by kernel_rfl) (fun k hk => by cases hk) (by kernel_rfl) (laid_met os))) ?_
 intro W base args ds gs before hval hW _ _ hsz hL _ _
 exact contract H enc W base args ds gs before hval hsz hL hW
theorem said : Rows.ParseJoinsSaid :=
 OpenClaim.holds_of_cond 6 Tryz.f6 rfl rfl rfl rfl rfl rfl rfl ⟨rfl, rfl, rfl, rfl, rfl⟩ rfl rfl rfl rfl rfl (by kernel_rfl) Tryz.func6 (by kernel_rfl)
  (of_decide_eq_true (by kernel_rfl)) (by unfold Func.isWrapper; first | (rw [if_pos (by decide +kernel)]; kernel_rfl) | (rw [if_neg (by decide +kernel)]; exact ⟨rfl, rfl⟩))
  (fun os started H enc _ F => by rw [OpenClaim.pre_eq_preRow]; exact lifted os started H enc F)
theorem plain (f : FuncId) (fn : Func) (hf : Tryz.pinned.checked.prog.funcNamed "proctor/proctorlaw5.ParseJoins" = some f) (hfn : Tryz.pinned.checked.prog.funcs[f]? = some fn) :
  true = Tryz.pinned.checked.prog.looks [] ∧ ∀ (j : Nat) t, fn.params[j]? = some t → Tryz.pinned.checked.prog.wantsStandIn t = false := by
 obtain rfl : f = 6 := Option.some.inj ((show Tryz.prog.funcNamed "proctor/proctorlaw5.ParseJoins" = some 6 by kernel_rfl).symm.trans hf) |>.symm
 obtain rfl : fn = Tryz.f6 := (Option.some.inj (Tryz.func6.symm.trans hfn)).symm
 refine ⟨by kernel_rfl, fun j t ht => ?_⟩
 rw [Tryz.params6] at ht
 have ht' : #[22][j]? = some t := ht
 cases j with
 | zero => obtain rfl : 22 = t := Option.some.inj ht'; (show Tryz.prog.wantsStandIn 22 = false; kernel_rfl)
 | succ j => simp at ht'
end Go.Proofs.YtoeodjobggodcaaGreatDoor.pJo
namespace Go.Proofs.YtoeodjobggodcaaGreatDoor
theorem parseJoins_card : Rows.ParseJoinsCardSaid :=
 Claim7.holds_tied_plain_at .later [] _ _ _ _ pJo.said (fun _ h => by cases h) (by kernel_rfl) (fun _ h => by cases h) parseJoins_row_tie rfl ⟨rfl, rfl⟩ (by kernel_rfl) rfl pJo.plain (by kernel_rfl)
end Go.Proofs.YtoeodjobggodcaaGreatDoor
#print axioms Go.Proofs.YtoeodjobggodcaaGreatDoor.parseJoins_card
end
