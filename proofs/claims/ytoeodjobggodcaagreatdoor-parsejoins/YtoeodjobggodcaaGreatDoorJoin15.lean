import Derived.Test.YtoeodjobggodcaaGreatDoorJoin14
import Derived.Recover
import Derived.Test.YtoeodjobggodcaaGreatDoorJoin04
import Derived.BigQuiet
import Derived.Test.YtoeodjobggodcaaGreatDoorJoin01
/- file. -/
namespace Go.Proofs.YtoeodjobggodcaaGreatDoor
section
open Go.RowKit
def fiA : List Value → Array Value
 | [x, y, z] => #[x, y, z]
 | _ => #[]
theorem fiA_set0 (x y z v : Value) : (fiA [x, y, z]).setIfInBounds 0 v = fiA [v, y, z] := by simp [fiA]
theorem fiA_set1 (x y z v : Value) : (fiA [x, y, z]).setIfInBounds 1 v = fiA [x, v, z] := by simp [fiA]
theorem fiA_set2 (x y z v : Value) : (fiA [x, y, z]).setIfInBounds 2 v = fiA [x, y, v] := by simp [fiA]
def fiR (b : Bs) : List Rd := [⟨58, 3, b.c.length, b.c.flatMap Ca.cs⟩, ⟨51, 8, b.r.length, b.r.flatMap Ru.cs⟩, ⟨63, 3, b.q.length, b.q.flatMap Qu.cs⟩]
def BsV (P : Nat → Prop) (w : World) (b : Bs) (v : Value) : Prop := ∃ x y z, v = .agg #[x, y, z] ∧ rep P w (.sl b.c.length (b.c.flatMap Ca.cs)) x ∧ rep P w (.sl b.r.length (b.r.flatMap Ru.cs)) y ∧ rep P w (.sl b.q.length (b.q.flatMap Qu.cs)) z
theorem infoBase : (Tryz.prog.info? 27).map (·.size) = some 3 := by kernel_rfl
theorem infoClass' : (Tryz.prog.info? 58).map (fun i => (i.zero, i.size, i.bytes)) = some (some (.agg #[.string ⟨#[]⟩, .string ⟨#[]⟩, .slice none 0 0]), 3, 56) := by kernel_rfl
theorem infoRule' : (Tryz.prog.info? 51).map (fun i => (i.zero, i.size, i.bytes)) = some (some (.agg #[.string ⟨#[]⟩, .int .i64 0, .string ⟨#[]⟩, .string ⟨#[]⟩, .bool false, .bool false, .slice none 0 0, .slice none 0 0]), 8, 112) := by kernel_rfl
theorem infoQuery' : (Tryz.prog.info? 63).map (fun i => (i.zero, i.size, i.bytes)) = some (some (.agg #[.string ⟨#[]⟩, .slice none 0 0, .slice none 0 0]), 3, 64) := by kernel_rfl
theorem ca_reps {P : Nat → Prop} {w : World} {t : Ca} {v : Value} (h : rep P w (.sl t.f.length (t.f.flatMap Fd.cs)) v) : reps P w t.cs [.string t.n, .string t.s, v] := reps.cons (rep.lit rfl) (reps.cons (rep.lit rfl) (reps.cons h reps.nil))
theorem ru_reps {P : Nat → Prop} {w : World} {t : Ru} {x y : Value} (h : rep P w (.sl t.whn.length (Cd.css t.whn)) x) (k : rep P w (.sl t.thn.length (t.thn.flatMap Ac.cs)) y) :
  reps P w t.cs [.string t.name, .int .i64 t.sal, .string t.group, .string t.flow, .bool t.nl, .bool t.lock, x, y] := reps.cons (rep.lit rfl) (reps.cons (rep.lit rfl) (reps.cons (rep.lit rfl) (reps.cons (rep.lit rfl) (reps.cons (rep.lit rfl) (reps.cons (rep.lit rfl) (reps.cons h (reps.cons k reps.nil)))))))
theorem qu_reps {P : Nat → Prop} {w : World} {t : Qu} {x y : Value} (h : rep P w (.sl t.params.length (t.params.map dS)) x) (k : rep P w (.sl t.whn.length (Cd.css t.whn)) y) : reps P w t.cs [.string t.name, x, y] := reps.cons (rep.lit rfl) (reps.cons h (reps.cons k reps.nil))
set_option maxRecDepth 100000 in
set_option maxHeartbeats 8000000 in
theorem file_any {K B : Nat} {r : List Lx} {w : World} (h : PAt K w B r 0) :
  Calls Tryz.prog 19 #[.pointer (some ⟨B, 0, none⟩)] w (Post K B 0 r.length w (fileL r.length {} r) fun w' b v => BsV (fun k => w.heap.size ≤ k) w' b v) := by
 have hsz := h.size
 have hlen := h.len
 have hR0 : ((w.alloc (.cells #[.slice none 0 0, .slice none 0 0, .slice none 0 0] 27)).alloc (.cells #[.slice none 0 0, .slice none 0 0, .slice none 0 0] 27)).heap[w.heap.size]? = some (.cells #[.slice none 0 0, .slice none 0 0, .slice none 0 0] 27) := (heap_alloc_old _ _ (by simp)).trans (heap_alloc_new w _)
 have hC0 : ((w.alloc (.cells #[.slice none 0 0, .slice none 0 0, .slice none 0 0] 27)).alloc (.cells #[.slice none 0 0, .slice none 0 0, .slice none 0 0] 27)).heap[w.heap.size + 1]? = some (.cells #[.slice none 0 0, .slice none 0 0, .slice none 0 0] 27) := heap_alloc2_new w _ _
 have b0 : Below w.heap.size w ((w.alloc (.cells #[.slice none 0 0, .slice none 0 0, .slice none 0 0] 27)).alloc (.cells #[.slice none 0 0, .slice none 0 0, .slice none 0 0] 27)) := below_al (below_al (Below.refl _ _) _) _
 have hp0 := h.via b0
 have hs0 : ((w.alloc (.cells #[.slice none 0 0, .slice none 0 0, .slice none 0 0] 27)).alloc (.cells #[.slice none 0 0, .slice none 0 0, .slice none 0 0] 27)).heap.size = w.heap.size + 2 := by simp
 go_enter Tryz.func19, Tryz.ntmps19
 go_wp2_with fail
 generalize (w.alloc (.cells #[.slice none 0 0, .slice none 0 0, .slice none 0 0] 27)).alloc (.cells #[.slice none 0 0, .slice none 0 0, .slice none 0 0] 27) = w1 at hR0 hC0 b0 hp0 hs0 ⊢
 have HJ1 := Hid.intro (show JR (w.heap.size + 2) B (w.heap.size + 1) 27 fiA (fiR {}) w1 (fun b => (b < w.heap.size ∧ b ≠ B) ∨ b = w.heap.size) from ⟨by omega, by omega, by omega, [.slice none 0 0, .slice none 0 0, .slice none 0 0], hC0, rows_nil _ (fiR {}) (by simp [fiR]) _, fun b hb => ⟨by omega, by simp [Value.ownBlock]⟩⟩)
 have HP1 := Hid.intro hp0
 have HR1 := Hid.intro hR0
 have HB1 := Hid.intro (Bt.below (B := B) b0)
 have HKn : Hid (Kn B (fun b => (b < w.heap.size ∧ b ≠ B) ∨ b = w.heap.size) w1) := fun b hb => ⟨by omega, by omega⟩
 have hmo : Tryz.prog.follows .mixedOrders = true := by kernel_rfl
 have HI := fun r w (h : PAt K w B r 0) => Hid.intro (isKind_any h (-1))
 have HBar := fun r w (h : PAt K w B r 0) => Hid.intro (bar_any h)
 have HCl := fun r w (h : PAt K w B r 0) => Hid.intro (class_any (r := r) (w := w) h)
 have HRu := fun r w (h : PAt K w B r 0) => Hid.intro (rule_any (r := r) (w := w) h)
 have HQu := fun r w (h : PAt K w B r 0) => Hid.intro (query_any (r := r) (w := w) h)
 have HY0 := fun r w (h : PAt K w B r 0) hs => Hid.intro (skip_yes (s := ⟨#[99, 108, 97, 115, 115]⟩) h hs)
 have HN0 := fun r w (h : PAt K w B r 0) hs => Hid.intro (skip_no (s := ⟨#[99, 108, 97, 115, 115]⟩) h hs)
 have HY1 := fun r w (h : PAt K w B r 0) hs => Hid.intro (skip_yes (s := ⟨#[114, 117, 108, 101]⟩) h hs)
 have HN1 := fun r w (h : PAt K w B r 0) hs => Hid.intro (skip_no (s := ⟨#[114, 117, 108, 101]⟩) h hs)
 have HY2 := fun r w (h : PAt K w B r 0) hs => Hid.intro (skip_yes (s := ⟨#[113, 117, 101, 114, 121]⟩) h hs)
 have HN2 := fun r w (h : PAt K w B r 0) hs => Hid.intro (skip_no (s := ⟨#[113, 117, 101, 114, 121]⟩) h hs)
 have hCK : K ≤ w.heap.size + 1 := by omega
 clear hR0 hC0 b0 hp0 h
 go_wp2_with fail
 go_loopw [4] (fun _ w' => ∃ b r' f, Hid (Fr (fun b => (b < w.heap.size ∧ b ≠ B) ∨ b = w.heap.size) w1 w') ∧ Hid (JR (w.heap.size + 2) B (w.heap.size + 1) 27 fiA (fiR b) w' (fun b => (b < w.heap.size ∧ b ≠ B) ∨ b = w.heap.size)) ∧ Hid (PAt K w' B r' 0) ∧ b.c.length + b.r.length + b.q.length + r'.length ≤ 10000 ∧ r'.length ≤ r.length ∧ r'.length ≤ f ∧ Hid (fileL f b r' = fileL r.length {} r)) (fun _ w' => rlen B w')
 case atStart => exact ⟨{}, r, r.length, Hid.intro (Fr.refl _ _), HJ1, HP1, by simp; omega, Nat.le_refl _, Nat.le_refl _, Hid.intro rfl⟩
 case round =>
  clear HJ1 HP1
  obtain ⟨b, r', f, HF, HJ, HQ, hll, hl', hlf, HE⟩ := hrel
  obtain ⟨x, r0, hr', -⟩ := gd_cons HQ.out.gd
  have hlr : 0 < r'.length := by rw [hr']; simp
  clear hr'
  obtain ⟨f, rfl⟩ : ∃ f', f = f' + 1 := ⟨f - 1, by omega⟩
  have HKr := Hid.intro (HKn.out.up HF.out.size)
  have hrlen := HQ.out.rlen
  have hws := HF.out.size
  have HI := HI r' wr HQ.out
  cases k9 : isK (-1) r' with
  | true =>
   rw [k9] at HI
   have HE : Hid (Rs.ok b r' = fileL r.length {} r) := by
    have := HE.out
    rw [fileL, if_pos k9] at this
    exact this
   clear k9
   obtain ⟨k1, k2, k3, vs, k4, k5, -⟩ := HJ.out
   obtain ⟨x1, x2, x3, rfl⟩ : ∃ x y z, vs = [x, y, z] := by have := k5.1; simp only [fiR, List.length_cons, List.length_nil] at this; match vs, this with | [x, y, z], _ => exact ⟨x, y, z, rfl⟩
   obtain ⟨p3, c3, y3, he3, o3, r3'⟩ := k5.2.2 0 _ _ rfl rfl
   obtain ⟨p4, c4, y4, he4, o4, r4'⟩ := k5.2.2 1 _ _ rfl rfl
   obtain ⟨p5, c5, y5, he5, o5, r5'⟩ := k5.2.2 2 _ _ rfl rfl
   dsimp only at he3 he4 he5 o3 o4 o5 r3' r4' r5'
   have hrep3 : rep (fun k => w.heap.size + 1 < k) wr (.sl b.c.length (b.c.flatMap Ca.cs)) x1 := rep.own o3 (reps.move Kp.refl (fun b _ h => by have := h.1; omega) _ _ r3') (fun g hg => by have := (o3.lt g hg).1; omega)
   have hrep4 : rep (fun k => w.heap.size + 1 < k) wr (.sl b.r.length (b.r.flatMap Ru.cs)) x2 := rep.own o4 (reps.move Kp.refl (fun b _ h => by have := h.1; omega) _ _ r4') (fun g hg => by have := (o4.lt g hg).1; omega)
   have hrep5 : rep (fun k => w.heap.size + 1 < k) wr (.sl b.q.length (b.q.flatMap Qu.cs)) x3 := rep.own o5 (reps.move Kp.refl (fun b _ h => by have := h.1; omega) _ _ r5') (fun g hg => by have := (o5.lt g hg).1; omega)
   subst he3 he4 he5
   have HC1 := Hid.intro k4
   have HR8 := Hid.intro ((HF.out.block _ (.inr rfl)).trans HR1.out)
   unfold fiA at HC1
   go_wp2_with (first | (go_at_call 34; refine HI.out.mono ?_; rintro e w8 ⟨rfl, hw8⟩; subst w8) | (with_reducible refine (id (?_ : wpList _ _ _ (Oper.mk _ (Op.load _ _) _ _ _ _ :: _) _ _)); refine wpList_load_cells rfl _ _ rfl _ rfl _ _ _ HC1.out Tryz.underlying27 infoBase rfl ?_) | (with_reducible refine (id (?_ : wpList _ _ _ (Oper.mk _ (Op.store _ _ _) _ _ _ _ :: _) _ _)); refine wpList_store_row rfl _ _ _ rfl _ _ rfl rfl _ _ HR8.out infoBase rfl rfl (by simp [Value.oneCell']) ?_))
   rw [← HE.out]
   refine ret_cells rfl rfl (setRow_heap _ _ _ _ _ _ HR8.out) Tryz.underlying27 infoBase rfl rfl (Post.ok ((HB1.out.fra (HF.out.mono fun b hb => .inl hb)).row (by omega) _) (by omega) (HQ.out.row (by omega) _) ?_)
   have hkk : Kp (fun k => w.heap.size + 1 < k) wr (wr.setRow w.heap.size #[.slice p3 b.c.length c3, .slice p4 b.r.length c4, .slice p5 b.q.length c5]) := ⟨by simp, fun b hb _ o => World.cell?_of_block (a := ⟨b, o, none⟩) (setRow_other _ _ _ _ (by simp only; omega))⟩
   exact ⟨_, _, _, rfl, rep.move hkk (fun b _ h => by omega) _ _ hrep3, rep.move hkk (fun b _ h => by omega) _ _ hrep4, rep.move hkk (fun b _ h => by omega) _ _ hrep5⟩
  | false =>
   rw [k9] at HI
   cases k0 : isM ⟨#[99, 108, 97, 115, 115]⟩ r' with
   | true =>
    have HE : Hid ((classM r'.tail).bd (fun x r => fileL f { b with c := b.c ++ [x] } r) = fileL r.length {} r) := by
     have := HE.out
     rw [fileL, if_neg (by simp [k9]), if_pos k0] at this
     exact this
    have HT := HCl r'.tail
    cases hm2 : classM r'.tail with
    | bad q2 =>
     rw [hm2] at HT
     rw [hm2, bd_bad] at HE
     clear hm2
     go_wp2_with (go_at_call 34; refine HI.out.mono ?_; rintro e w8 ⟨rfl, hw8⟩; subst w8)
     refine (HY0 r' wr HQ.out k0).out.mono ?_
     rintro e wc ⟨rfl, hb7, hp7⟩
     have HP := Hid.intro hp7
     have HBc := Hid.intro (hb7)
     have HFc := Hid.intro (HF.out.trans (HBc.out.fr HKr.out))
     have HKc := Hid.intro (HKn.out.up HFc.out.size)
     obtain ⟨hBC, hCn, hnw, vs, he, zrows, hpa⟩ := JR.stb _ _ _ (fun b => (b < w.heap.size ∧ b ≠ B) ∨ b = w.heap.size) HJ.out HBc.out (fun _ h => .inl h)
     obtain ⟨x1, x2, x3, rfl⟩ : ∃ x y z, vs = [x, y, z] := by have := zrows.1; simp only [fiR, List.length_cons, List.length_nil] at this; match vs, this with | [x, y, z], _ => exact ⟨x, y, z, rfl⟩
     obtain ⟨p0, c0, xs0, hv0, -, -⟩ := zrows.2.2 0 _ _ rfl rfl
     dsimp only at hv0
     subst hv0
     obtain ⟨i0, hi, hz0, hz1, hz2⟩ := info_parts infoClass'
     have e0 : wc.cell? ⟨w.heap.size + 1, 0, none⟩ = some (.slice p0 b.c.length c0) := by rw [(heap_cell he 0).1]; rfl
     have hEw : w.heap.size + 1 < wc.heap.size := by omega
     have hln : b.c.length ≤ 10000 := by omega
     (try simp only [List.length_tail] at HT)
     go_wp2_with fail
     refine wp_region_held_drew (S := fun _ => True) hmo trivial (fun hS => ?_)
     refine tq 0 12 (.pointer (some ⟨w.heap.size + 1, 0, none⟩)) hS ?_
     simp only [n3]
     refine tq 2 14 (.pointer (some ⟨B, 0, none⟩)) hS ?_
     simp only [n3]
     refine on2 1 3 rfl (fun K' hK => ?_) rfl (fun K' hK => ?_)
     ·go_simp
      refine hK.out _ _ (trivial) (fun hS => ?_)
      clear hK K'
      (try simp only [Act.put, n3])
      refine on1 3 rfl (fun K' hK => ?_)
      go_simp
      refine (HT _ (by first | exact HP.out.via (Below.refl _ _).drew | exact HP.out.via (below_al (Below.refl _ _).drew _) | exact HP.out.via (below_al (Below.refl _ _) _).drew)).out.mono ?_
      rintro e w4 ⟨hb4, rfl⟩
      have hbt4 : Bt B wc w4 := Bt.trans (by first | exact (Bt.refl B _).drew | exact (Bt.refl B _).drew.alloc _ | exact ((Bt.refl B _).alloc _).drew) hb4
      refine ⟨rfl, HB1.out.fra ((HFc.out.trans (hbt4.fr HKc.out)).mono fun b hb => .inl hb), ?_⟩
      rw [← HE.out]
     ·go_simp
      refine (HT _ (by first | exact HP.out.via (Below.refl _ _).drew | exact HP.out.via (below_al (Below.refl _ _).drew _) | exact HP.out.via (below_al (Below.refl _ _) _).drew)).out.mono ?_
      rintro e w4 ⟨hb4, rfl⟩
      have hbt4 : Bt B wc w4 := Bt.trans (by first | exact (Bt.refl B _).drew | exact (Bt.refl B _).drew.alloc _ | exact ((Bt.refl B _).alloc _).drew) hb4
      refine ⟨rfl, HB1.out.fra ((HFc.out.trans (hbt4.fr HKc.out)).mono fun b hb => .inl hb), ?_⟩
      rw [← HE.out]
    | ok t r5 =>
     rw [hm2] at HT
     rw [hm2, bd_ok] at HE
     clear hm2
     go_wp2_with (go_at_call 34; refine HI.out.mono ?_; rintro e w8 ⟨rfl, hw8⟩; subst w8)
     refine (HY0 r' wr HQ.out k0).out.mono ?_
     rintro e wc ⟨rfl, hb7, hp7⟩
     have HP := Hid.intro hp7
     have HBc := Hid.intro (hb7)
     have HFc := Hid.intro (HF.out.trans (HBc.out.fr HKr.out))
     have HKc := Hid.intro (HKn.out.up HFc.out.size)
     obtain ⟨hBC, hCn, hnw, vs, he, zrows, hpa⟩ := JR.stb _ _ _ (fun b => (b < w.heap.size ∧ b ≠ B) ∨ b = w.heap.size) HJ.out HBc.out (fun _ h => .inl h)
     obtain ⟨x1, x2, x3, rfl⟩ : ∃ x y z, vs = [x, y, z] := by have := zrows.1; simp only [fiR, List.length_cons, List.length_nil] at this; match vs, this with | [x, y, z], _ => exact ⟨x, y, z, rfl⟩
     obtain ⟨p0, c0, xs0, hv0, -, -⟩ := zrows.2.2 0 _ _ rfl rfl
     dsimp only at hv0
     subst hv0
     obtain ⟨i0, hi, hz0, hz1, hz2⟩ := info_parts infoClass'
     have e0 : wc.cell? ⟨w.heap.size + 1, 0, none⟩ = some (.slice p0 b.c.length c0) := by rw [(heap_cell he 0).1]; rfl
     have hEw : w.heap.size + 1 < wc.heap.size := by omega
     have hln : b.c.length ≤ 10000 := by omega
     (try simp only [List.length_tail] at HT)
     go_wp2_with fail
     refine wp_region_held_drew (S := fun _ => True) hmo trivial (fun hS => ?_)
     refine tq 0 12 (.pointer (some ⟨w.heap.size + 1, 0, none⟩)) hS ?_
     simp only [n3]
     refine tq 2 14 (.pointer (some ⟨B, 0, none⟩)) hS ?_
     simp only [n3]
     refine share (fun z W us => Fr (fun b => (b < w.heap.size ∧ b ≠ B) ∨ b = w.heap.size) wc W ∧ PAt K W B r5 0 ∧ RowsAt (w.heap.size + 2) (fiR b) [(.slice p0 b.c.length c0), x2, x3] W ∧ W.heap[(w.heap.size + 1)]? = some (.cells (fiA [(.slice p0 b.c.length c0), x2, x3]) 27 (0, 0)) ∧ us.length = 3 ∧ (∀ u ∈ us, u.oneCell' = true) ∧ reps (offR (w.heap.size + 2) [(.slice p0 b.c.length c0), x2, x3]) W t.cs us ∧ W.heap[z]? = some (.cells us.toArray 58 (0, 0)) ∧ wc.heap.size ≤ W.heap.size ∧ r5.length ≤ r'.length - 1 - 1 ∧ True) 3 #[true, true, true, true, true, false, false, false] (fun z us => [(13, .slice p0 b.c.length c0), (15, .agg us.toArray), (16, .slice (some ⟨z, 0, none⟩) 1 1)]) ?_ (fun HT5 => ?_)
     ·rintro z W us ⟨zf, zp, zr, zh, zl, zo, zu, zz, zs, zlf, zx⟩
      simp only [putL, List.foldl, Act.put, List.setIfInBounds_toArray, List.set_cons_succ, List.set_cons_zero]
      obtain ⟨pq, cq, xs, hveq, hown, hxs⟩ := zr.2.2 0 _ _ rfl rfl
      dsimp only at hveq hown hxs
      clear hveq
      have hCW : (w.heap.size + 1) < W.heap.size := by omega
      have hKn := HKc.out.up zs
      refine on1 5 rfl (fun K' hK => ?_)
      rw [if_pos (by rfl)]
      refine wp_append_own _ _ 23 rfl (w.heap.size + 2) 58 i0 _ 3 56 Tryz.underlying23 hi hz0 hz1 hz2 rfl (by decide) _ _ _ rfl hown ⟨z, 0, none⟩ 1 1 us rfl (by rw [zl]) (fun j u hj => by rw [addr_add, Nat.zero_add, (heap_cell zz j).1, ← hj]; simp) zo (by unfold maxLen; omega) (by omega) (by omega) (fun sv' w5 hown5 hgr5 hat5 => ?_)
      obtain ⟨g5, k5, rfl⟩ := ownsRow_succ hown5
      have hch5 : Chg (w.heap.size + 1) _ W w5 := Chg.of hgr5
      have e5 : w5.heap[(w.heap.size + 1)]? = some (.cells (fiA [(.slice p0 b.c.length c0), x2, x3]) 27 (0, 0)) := (hgr5.block (w.heap.size + 1) hCW (own_below hown (.inl hCn))).trans zh
      have c5 : w5.cell? ⟨w.heap.size + 1, 0, none⟩ = some (.slice p0 b.c.length c0) := by rw [(heap_cell e5 0).1]; exact rfl
      have f5 : w5.frozen? ⟨w.heap.size + 1, 0, none⟩ = false := (heap_cell e5 0).2
      have hKg : ∀ g, (Value.slice p0 b.c.length c0).ownBlock = some g → K ≤ g := fun g hg => by have := (hown.lt g hg).1; omega
      refine hK.out _ _ (trivial) (fun hS => ?_)
      clear hK K'
      (try simp only [Act.put, n3])
      refine tq 6 18 (.pointer (some ⟨w.heap.size + 1, 0, none⟩)) hS ?_
      simp only [n3]
      refine on1 7 rfl (fun K' hK => ?_)
      go_simp
      go_wp2_with fail
      have hch6 := hch5.set (p := ⟨w.heap.size + 1, 0, none⟩) (.inl rfl) (.slice (some ⟨g5, 0, none⟩) (b.c.length + 1) k5)
      refine hK.out _ _ (trivial) (fun hS => ?_)
      clear hK K'
      (try simp only [n3])
      obtain ⟨hJ6, hF6⟩ := JR.push (A := fiA) (T := 27) hBC hCn (by omega) zr hpa hKn 0 rfl rfl hxs zu rfl (own_setC 0 hown5 hCn _) hch6 hat5 (by rw [heap_put e5, fiA_set0]; rfl)
      have hp6 := zp.chg hch6 hCK hKg
      refine wpAnyH_done (by kernel_rfl) ?_ _
      have hr5 := hp6.rlen
      go_wp2_with fail
      go_roundw
      case rel => exact ⟨{ b with c := b.c ++ [t] }, r5, f, Hid.intro ((HFc.out.trans zf).trans hF6), Hid.intro (by simpa [fiR, Rd.up, List.flatMap_append] using hJ6), Hid.intro hp6, by simp; omega, by omega, by omega, HE⟩
      case measure => omega
     ·(try simp only [putL, List.foldl, Act.put, List.setIfInBounds_toArray, List.set_cons_succ, List.set_cons_zero] at HT5)
      refine on2 1 3 rfl (fun K' hK => ?_) rfl (fun K' hK => ?_)
      ·go_simp
       refine hK.out _ _ (trivial) (fun hS => ?_)
       clear hK K'
       (try simp only [Act.put, n3])
       refine on1 3 rfl (fun K' hK => ?_)
       go_simp
       refine (HT _ (by first | exact HP.out.via (Below.refl _ _).drew | exact HP.out.via (below_al (Below.refl _ _).drew _) | exact HP.out.via (below_al (Below.refl _ _) _).drew)).out.mono ?_
       rintro e w4 ⟨hb4, hl4, hp4, v4, rfl, pq, kq, rfl, gq⟩
       have hbt4 : Bt B wc w4 := Bt.trans (by first | exact (Bt.refl B _).drew | exact (Bt.refl B _).drew.alloc _ | exact ((Bt.refl B _).alloc _).drew) hb4
       have hr4 := zrows.bt hbt4 (by omega)
       have hC4 := row_bt hbt4 (by omega) he
       have hs4 : wc.heap.size ≤ w4.heap.size := hbt4.size
       go_wp2_with fail
       refine hK.out _ _ (trivial) (fun hS => ?_)
       clear hK K'
       (try simp only [Act.put, n3])
       refine on1 4 rfl (fun K' hK => ?_)
       go_simp
       go_wp2_with fail
       refine hK.out _ _ (trivial) (fun hS => ?_)
       clear hK K'
       (try simp only [Act.put, n3])
       have hbt5 : Bt B wc (w4.alloc (.cells #[.string t.n, .string t.s, .slice pq t.f.length kq] 58)) := hbt4.alloc _
       refine HT5 w4.heap.size (w4.alloc (.cells #[.string t.n, .string t.s, .slice pq t.f.length kq] 58)) [.string t.n, .string t.s, .slice pq t.f.length kq] ⟨hbt5.fr HKc.out, hp4.via (below_al (Below.refl _ _) _), zrows.bt hbt5 (by omega), row_bt hbt5 (by omega) he, rfl, (reps.ones (ca_reps gq)), reps.move (Kp.alloc _ _) (fun b _ h => zrows.off hnw b (by first | exact h | exact Nat.le_trans (by simp) h)) _ _ (ca_reps gq), heap_alloc_new w4 _, hbt5.size, hl4, trivial⟩
      ·go_simp
       refine (HT _ (by first | exact HP.out.via (Below.refl _ _).drew | exact HP.out.via (below_al (Below.refl _ _).drew _) | exact HP.out.via (below_al (Below.refl _ _) _).drew)).out.mono ?_
       rintro e w4 ⟨hb4, hl4, hp4, v4, rfl, pq, kq, rfl, gq⟩
       have hbt4 : Bt B wc w4 := Bt.trans (by first | exact (Bt.refl B _).drew | exact (Bt.refl B _).drew.alloc _ | exact ((Bt.refl B _).alloc _).drew) hb4
       have hr4 := zrows.bt hbt4 (by omega)
       have hC4 := row_bt hbt4 (by omega) he
       have hs4 : wc.heap.size ≤ w4.heap.size := hbt4.size
       go_wp2_with fail
       refine hK.out _ _ (trivial) (fun hS => ?_)
       clear hK K'
       (try simp only [Act.put, n3])
       refine on2 1 4 rfl (fun K' hK => ?_) rfl (fun K' hK => ?_)
       ·have e04 : w4.cell? ⟨w.heap.size + 1, 0, none⟩ = some (.slice p0 b.c.length c0) := by rw [(heap_cell hC4 0).1]; exact rfl
        have hEw4 : (w.heap.size + 1) < w4.heap.size := by omega
        go_simp
        refine hK.out _ _ (trivial) (fun hS => ?_)
        clear hK K'
        (try simp only [Act.put, n3])
        refine on1 4 rfl (fun K' hK => ?_)
        go_simp
        go_wp2_with fail
        refine hK.out _ _ (trivial) (fun hS => ?_)
        clear hK K'
        (try simp only [Act.put, n3])
        have hbt5 : Bt B wc (w4.alloc (.cells #[.string t.n, .string t.s, .slice pq t.f.length kq] 58)) := hbt4.alloc _
        refine HT5 w4.heap.size (w4.alloc (.cells #[.string t.n, .string t.s, .slice pq t.f.length kq] 58)) [.string t.n, .string t.s, .slice pq t.f.length kq] ⟨hbt5.fr HKc.out, hp4.via (below_al (Below.refl _ _) _), zrows.bt hbt5 (by omega), row_bt hbt5 (by omega) he, rfl, (reps.ones (ca_reps gq)), reps.move (Kp.alloc _ _) (fun b _ h => zrows.off hnw b (by first | exact h | exact Nat.le_trans (by simp) h)) _ _ (ca_reps gq), heap_alloc_new w4 _, hbt5.size, hl4, trivial⟩
       ·go_simp
        go_wp2_with fail
        refine hK.out _ _ (trivial) (fun hS => ?_)
        clear hK K'
        (try simp only [Act.put, n3])
        refine on1 1 rfl (fun K' hK => ?_)
        have e04 : w4.cell? ⟨w.heap.size + 1, 0, none⟩ = some (.slice p0 b.c.length c0) := by rw [(heap_cell hC4 0).1]; exact rfl
        have hEw4 : (w.heap.size + 1) < w4.heap.size := by omega
        go_simp
        refine hK.out _ _ (trivial) (fun hS => ?_)
        clear hK K'
        (try simp only [Act.put, n3])
        have hbt5 : Bt B wc (w4.alloc (.cells #[.string t.n, .string t.s, .slice pq t.f.length kq] 58)) := hbt4.alloc _
        refine HT5 w4.heap.size (w4.alloc (.cells #[.string t.n, .string t.s, .slice pq t.f.length kq] 58)) [.string t.n, .string t.s, .slice pq t.f.length kq] ⟨hbt5.fr HKc.out, hp4.via (below_al (Below.refl _ _) _), zrows.bt hbt5 (by omega), row_bt hbt5 (by omega) he, rfl, (reps.ones (ca_reps gq)), reps.move (Kp.alloc _ _) (fun b _ h => zrows.off hnw b (by first | exact h | exact Nat.le_trans (by simp) h)) _ _ (ca_reps gq), heap_alloc_new w4 _, hbt5.size, hl4, trivial⟩
   | false =>
    cases k1 : isM ⟨#[114, 117, 108, 101]⟩ r' with
    | true =>
     have HE : Hid ((ruleM r'.tail).bd (fun x r => fileL f { b with r := b.r ++ [x] } r) = fileL r.length {} r) := by
      have := HE.out
      rw [fileL, if_neg (by simp [k9]), if_neg (by simp [k0]), if_pos k1] at this
      exact this
     have HT := HRu r'.tail
     cases hm2 : ruleM r'.tail with
     | bad q2 =>
      rw [hm2] at HT
      rw [hm2, bd_bad] at HE
      clear hm2
      go_wp2_with (go_at_call 34; refine HI.out.mono ?_; rintro e w8 ⟨rfl, hw8⟩; subst w8)
      refine (HN0 r' wr HQ.out k0).out.mono ?_
      rintro e s0 ⟨rfl, hs0⟩
      have HQ1 := Hid.intro (HQ.out.via hs0)
      have HB2w := Hid.intro (Bt.below (B := B) hs0)
      go_wp2_with fail
      refine (HY1 r' s0 HQ1.out k1).out.mono ?_
      rintro e wc ⟨rfl, hb7, hp7⟩
      have HP := Hid.intro hp7
      have HBc := Hid.intro (HB2w.out.trans hb7)
      have HFc := Hid.intro (HF.out.trans (HBc.out.fr HKr.out))
      have HKc := Hid.intro (HKn.out.up HFc.out.size)
      obtain ⟨hBC, hCn, hnw, vs, he, zrows, hpa⟩ := JR.stb _ _ _ (fun b => (b < w.heap.size ∧ b ≠ B) ∨ b = w.heap.size) HJ.out HBc.out (fun _ h => .inl h)
      obtain ⟨x1, x2, x3, rfl⟩ : ∃ x y z, vs = [x, y, z] := by have := zrows.1; simp only [fiR, List.length_cons, List.length_nil] at this; match vs, this with | [x, y, z], _ => exact ⟨x, y, z, rfl⟩
      obtain ⟨p0, c0, xs0, hv0, -, -⟩ := zrows.2.2 1 _ _ rfl rfl
      dsimp only at hv0
      subst hv0
      obtain ⟨i0, hi, hz0, hz1, hz2⟩ := info_parts infoRule'
      have e0 : wc.cell? ⟨w.heap.size + 1, 1, none⟩ = some (.slice p0 b.r.length c0) := by rw [(heap_cell he 1).1]; rfl
      have hEw : w.heap.size + 1 < wc.heap.size := by omega
      have hln : b.r.length ≤ 10000 := by omega
      (try simp only [List.length_tail] at HT)
      go_wp2_with fail
      refine wp_region_held_drew (S := fun _ => True) hmo trivial (fun hS => ?_)
      refine tq 0 22 (.pointer (some ⟨w.heap.size + 1, 1, none⟩)) hS ?_
      simp only [n3]
      refine tq 2 24 (.pointer (some ⟨B, 0, none⟩)) hS ?_
      simp only [n3]
      refine on2 1 3 rfl (fun K' hK => ?_) rfl (fun K' hK => ?_)
      ·go_simp
       refine hK.out _ _ (trivial) (fun hS => ?_)
       clear hK K'
       (try simp only [Act.put, n3])
       refine on1 3 rfl (fun K' hK => ?_)
       go_simp
       refine (HT _ (by first | exact HP.out.via (Below.refl _ _).drew | exact HP.out.via (below_al (Below.refl _ _).drew _) | exact HP.out.via (below_al (Below.refl _ _) _).drew)).out.mono ?_
       rintro e w4 ⟨hb4, rfl⟩
       have hbt4 : Bt B wc w4 := Bt.trans (by first | exact (Bt.refl B _).drew | exact (Bt.refl B _).drew.alloc _ | exact ((Bt.refl B _).alloc _).drew) hb4
       refine ⟨rfl, HB1.out.fra ((HFc.out.trans (hbt4.fr HKc.out)).mono fun b hb => .inl hb), ?_⟩
       rw [← HE.out]
      ·go_simp
       refine (HT _ (by first | exact HP.out.via (Below.refl _ _).drew | exact HP.out.via (below_al (Below.refl _ _).drew _) | exact HP.out.via (below_al (Below.refl _ _) _).drew)).out.mono ?_
       rintro e w4 ⟨hb4, rfl⟩
       have hbt4 : Bt B wc w4 := Bt.trans (by first | exact (Bt.refl B _).drew | exact (Bt.refl B _).drew.alloc _ | exact ((Bt.refl B _).alloc _).drew) hb4
       refine ⟨rfl, HB1.out.fra ((HFc.out.trans (hbt4.fr HKc.out)).mono fun b hb => .inl hb), ?_⟩
       rw [← HE.out]
     | ok t r5 =>
      rw [hm2] at HT
      rw [hm2, bd_ok] at HE
      clear hm2
      go_wp2_with (go_at_call 34; refine HI.out.mono ?_; rintro e w8 ⟨rfl, hw8⟩; subst w8)
      refine (HN0 r' wr HQ.out k0).out.mono ?_
      rintro e s0 ⟨rfl, hs0⟩
      have HQ1 := Hid.intro (HQ.out.via hs0)
      have HB2w := Hid.intro (Bt.below (B := B) hs0)
      go_wp2_with fail
      refine (HY1 r' s0 HQ1.out k1).out.mono ?_
      rintro e wc ⟨rfl, hb7, hp7⟩
      have HP := Hid.intro hp7
      have HBc := Hid.intro (HB2w.out.trans hb7)
      have HFc := Hid.intro (HF.out.trans (HBc.out.fr HKr.out))
      have HKc := Hid.intro (HKn.out.up HFc.out.size)
      obtain ⟨hBC, hCn, hnw, vs, he, zrows, hpa⟩ := JR.stb _ _ _ (fun b => (b < w.heap.size ∧ b ≠ B) ∨ b = w.heap.size) HJ.out HBc.out (fun _ h => .inl h)
      obtain ⟨x1, x2, x3, rfl⟩ : ∃ x y z, vs = [x, y, z] := by have := zrows.1; simp only [fiR, List.length_cons, List.length_nil] at this; match vs, this with | [x, y, z], _ => exact ⟨x, y, z, rfl⟩
      obtain ⟨p0, c0, xs0, hv0, -, -⟩ := zrows.2.2 1 _ _ rfl rfl
      dsimp only at hv0
      subst hv0
      obtain ⟨i0, hi, hz0, hz1, hz2⟩ := info_parts infoRule'
      have e0 : wc.cell? ⟨w.heap.size + 1, 1, none⟩ = some (.slice p0 b.r.length c0) := by rw [(heap_cell he 1).1]; rfl
      have hEw : w.heap.size + 1 < wc.heap.size := by omega
      have hln : b.r.length ≤ 10000 := by omega
      (try simp only [List.length_tail] at HT)
      go_wp2_with fail
      refine wp_region_held_drew (S := fun _ => True) hmo trivial (fun hS => ?_)
      refine tq 0 22 (.pointer (some ⟨w.heap.size + 1, 1, none⟩)) hS ?_
      simp only [n3]
      refine tq 2 24 (.pointer (some ⟨B, 0, none⟩)) hS ?_
      simp only [n3]
      refine share (fun z W us => Fr (fun b => (b < w.heap.size ∧ b ≠ B) ∨ b = w.heap.size) wc W ∧ PAt K W B r5 0 ∧ RowsAt (w.heap.size + 2) (fiR b) [x1, (.slice p0 b.r.length c0), x3] W ∧ W.heap[(w.heap.size + 1)]? = some (.cells (fiA [x1, (.slice p0 b.r.length c0), x3]) 27 (0, 0)) ∧ us.length = 8 ∧ (∀ u ∈ us, u.oneCell' = true) ∧ reps (offR (w.heap.size + 2) [x1, (.slice p0 b.r.length c0), x3]) W t.cs us ∧ W.heap[z]? = some (.cells us.toArray 51 (0, 0)) ∧ wc.heap.size ≤ W.heap.size ∧ r5.length ≤ r'.length - 1 - 1 ∧ True) 3 #[true, true, true, true, true, false, false, false] (fun z us => [(23, .slice p0 b.r.length c0), (25, .agg us.toArray), (26, .slice (some ⟨z, 0, none⟩) 1 1)]) ?_ (fun HT5 => ?_)
      ·rintro z W us ⟨zf, zp, zr, zh, zl, zo, zu, zz, zs, zlf, zx⟩
       simp only [putL, List.foldl, Act.put, List.setIfInBounds_toArray, List.set_cons_succ, List.set_cons_zero]
       obtain ⟨pq, cq, xs, hveq, hown, hxs⟩ := zr.2.2 1 _ _ rfl rfl
       dsimp only at hveq hown hxs
       clear hveq
       have hCW : (w.heap.size + 1) < W.heap.size := by omega
       have hKn := HKc.out.up zs
       refine on1 5 rfl (fun K' hK => ?_)
       rw [if_pos (by rfl)]
       refine wp_append_own _ _ 24 rfl (w.heap.size + 2) 51 i0 _ 8 112 Tryz.underlying24 hi hz0 hz1 hz2 rfl (by decide) _ _ _ rfl hown ⟨z, 0, none⟩ 1 1 us rfl (by rw [zl]) (fun j u hj => by rw [addr_add, Nat.zero_add, (heap_cell zz j).1, ← hj]; simp) zo (by unfold maxLen; omega) (by omega) (by omega) (fun sv' w5 hown5 hgr5 hat5 => ?_)
       obtain ⟨g5, k5, rfl⟩ := ownsRow_succ hown5
       have hch5 : Chg (w.heap.size + 1) _ W w5 := Chg.of hgr5
       have e5 : w5.heap[(w.heap.size + 1)]? = some (.cells (fiA [x1, (.slice p0 b.r.length c0), x3]) 27 (0, 0)) := (hgr5.block (w.heap.size + 1) hCW (own_below hown (.inl hCn))).trans zh
       have c5 : w5.cell? ⟨w.heap.size + 1, 1, none⟩ = some (.slice p0 b.r.length c0) := by rw [(heap_cell e5 1).1]; exact rfl
       have f5 : w5.frozen? ⟨w.heap.size + 1, 1, none⟩ = false := (heap_cell e5 1).2
       have hKg : ∀ g, (Value.slice p0 b.r.length c0).ownBlock = some g → K ≤ g := fun g hg => by have := (hown.lt g hg).1; omega
       refine hK.out _ _ (trivial) (fun hS => ?_)
       clear hK K'
       (try simp only [Act.put, n3])
       refine tq 6 28 (.pointer (some ⟨w.heap.size + 1, 1, none⟩)) hS ?_
       simp only [n3]
       refine on1 7 rfl (fun K' hK => ?_)
       go_simp
       go_wp2_with fail
       have hch6 := hch5.set (p := ⟨w.heap.size + 1, 1, none⟩) (.inl rfl) (.slice (some ⟨g5, 0, none⟩) (b.r.length + 1) k5)
       refine hK.out _ _ (trivial) (fun hS => ?_)
       clear hK K'
       (try simp only [n3])
       obtain ⟨hJ6, hF6⟩ := JR.push (A := fiA) (T := 27) hBC hCn (by omega) zr hpa hKn 1 rfl rfl hxs zu rfl (own_setC 1 hown5 hCn _) hch6 hat5 (by rw [heap_put e5, fiA_set1]; rfl)
       have hp6 := zp.chg hch6 hCK hKg
       refine wpAnyH_done (by kernel_rfl) ?_ _
       have hr5 := hp6.rlen
       go_wp2_with fail
       go_roundw
       case rel => exact ⟨{ b with r := b.r ++ [t] }, r5, f, Hid.intro ((HFc.out.trans zf).trans hF6), Hid.intro (by simpa [fiR, Rd.up, List.flatMap_append] using hJ6), Hid.intro hp6, by simp; omega, by omega, by omega, HE⟩
       case measure => omega
      ·(try simp only [putL, List.foldl, Act.put, List.setIfInBounds_toArray, List.set_cons_succ, List.set_cons_zero] at HT5)
       refine on2 1 3 rfl (fun K' hK => ?_) rfl (fun K' hK => ?_)
       ·go_simp
        refine hK.out _ _ (trivial) (fun hS => ?_)
        clear hK K'
        (try simp only [Act.put, n3])
        refine on1 3 rfl (fun K' hK => ?_)
        go_simp
        refine (HT _ (by first | exact HP.out.via (Below.refl _ _).drew | exact HP.out.via (below_al (Below.refl _ _).drew _) | exact HP.out.via (below_al (Below.refl _ _) _).drew)).out.mono ?_
        rintro e w4 ⟨hb4, hl4, hp4, v4, rfl, x6, x7, rfl, g6, g7⟩
        have hbt4 : Bt B wc w4 := Bt.trans (by first | exact (Bt.refl B _).drew | exact (Bt.refl B _).drew.alloc _ | exact ((Bt.refl B _).alloc _).drew) hb4
        have hr4 := zrows.bt hbt4 (by omega)
        have hC4 := row_bt hbt4 (by omega) he
        have hs4 : wc.heap.size ≤ w4.heap.size := hbt4.size
        go_wp2_with fail
        refine hK.out _ _ (trivial) (fun hS => ?_)
        clear hK K'
        (try simp only [Act.put, n3])
        refine on1 4 rfl (fun K' hK => ?_)
        go_simp
        go_wp2_with fail
        refine hK.out _ _ (trivial) (fun hS => ?_)
        clear hK K'
        (try simp only [Act.put, n3])
        have hbt5 : Bt B wc (w4.alloc (.cells #[.string t.name, .int .i64 t.sal, .string t.group, .string t.flow, .bool t.nl, .bool t.lock, x6, x7] 51)) := hbt4.alloc _
        refine HT5 w4.heap.size (w4.alloc (.cells #[.string t.name, .int .i64 t.sal, .string t.group, .string t.flow, .bool t.nl, .bool t.lock, x6, x7] 51)) [.string t.name, .int .i64 t.sal, .string t.group, .string t.flow, .bool t.nl, .bool t.lock, x6, x7] ⟨hbt5.fr HKc.out, hp4.via (below_al (Below.refl _ _) _), zrows.bt hbt5 (by omega), row_bt hbt5 (by omega) he, rfl, (reps.ones (ru_reps g6 g7)), reps.move (Kp.alloc _ _) (fun b _ h => zrows.off hnw b (by first | exact h | exact Nat.le_trans (by simp) h)) _ _ (ru_reps g6 g7), heap_alloc_new w4 _, hbt5.size, hl4, trivial⟩
       ·go_simp
        refine (HT _ (by first | exact HP.out.via (Below.refl _ _).drew | exact HP.out.via (below_al (Below.refl _ _).drew _) | exact HP.out.via (below_al (Below.refl _ _) _).drew)).out.mono ?_
        rintro e w4 ⟨hb4, hl4, hp4, v4, rfl, x6, x7, rfl, g6, g7⟩
        have hbt4 : Bt B wc w4 := Bt.trans (by first | exact (Bt.refl B _).drew | exact (Bt.refl B _).drew.alloc _ | exact ((Bt.refl B _).alloc _).drew) hb4
        have hr4 := zrows.bt hbt4 (by omega)
        have hC4 := row_bt hbt4 (by omega) he
        have hs4 : wc.heap.size ≤ w4.heap.size := hbt4.size
        go_wp2_with fail
        refine hK.out _ _ (trivial) (fun hS => ?_)
        clear hK K'
        (try simp only [Act.put, n3])
        refine on2 1 4 rfl (fun K' hK => ?_) rfl (fun K' hK => ?_)
        ·have e04 : w4.cell? ⟨w.heap.size + 1, 1, none⟩ = some (.slice p0 b.r.length c0) := by rw [(heap_cell hC4 1).1]; exact rfl
         have hEw4 : (w.heap.size + 1) < w4.heap.size := by omega
         go_simp
         refine hK.out _ _ (trivial) (fun hS => ?_)
         clear hK K'
         (try simp only [Act.put, n3])
         refine on1 4 rfl (fun K' hK => ?_)
         go_simp
         go_wp2_with fail
         refine hK.out _ _ (trivial) (fun hS => ?_)
         clear hK K'
         (try simp only [Act.put, n3])
         have hbt5 : Bt B wc (w4.alloc (.cells #[.string t.name, .int .i64 t.sal, .string t.group, .string t.flow, .bool t.nl, .bool t.lock, x6, x7] 51)) := hbt4.alloc _
         refine HT5 w4.heap.size (w4.alloc (.cells #[.string t.name, .int .i64 t.sal, .string t.group, .string t.flow, .bool t.nl, .bool t.lock, x6, x7] 51)) [.string t.name, .int .i64 t.sal, .string t.group, .string t.flow, .bool t.nl, .bool t.lock, x6, x7] ⟨hbt5.fr HKc.out, hp4.via (below_al (Below.refl _ _) _), zrows.bt hbt5 (by omega), row_bt hbt5 (by omega) he, rfl, (reps.ones (ru_reps g6 g7)), reps.move (Kp.alloc _ _) (fun b _ h => zrows.off hnw b (by first | exact h | exact Nat.le_trans (by simp) h)) _ _ (ru_reps g6 g7), heap_alloc_new w4 _, hbt5.size, hl4, trivial⟩
        ·go_simp
         go_wp2_with fail
         refine hK.out _ _ (trivial) (fun hS => ?_)
         clear hK K'
         (try simp only [Act.put, n3])
         refine on1 1 rfl (fun K' hK => ?_)
         have e04 : w4.cell? ⟨w.heap.size + 1, 1, none⟩ = some (.slice p0 b.r.length c0) := by rw [(heap_cell hC4 1).1]; exact rfl
         have hEw4 : (w.heap.size + 1) < w4.heap.size := by omega
         go_simp
         refine hK.out _ _ (trivial) (fun hS => ?_)
         clear hK K'
         (try simp only [Act.put, n3])
         have hbt5 : Bt B wc (w4.alloc (.cells #[.string t.name, .int .i64 t.sal, .string t.group, .string t.flow, .bool t.nl, .bool t.lock, x6, x7] 51)) := hbt4.alloc _
         refine HT5 w4.heap.size (w4.alloc (.cells #[.string t.name, .int .i64 t.sal, .string t.group, .string t.flow, .bool t.nl, .bool t.lock, x6, x7] 51)) [.string t.name, .int .i64 t.sal, .string t.group, .string t.flow, .bool t.nl, .bool t.lock, x6, x7] ⟨hbt5.fr HKc.out, hp4.via (below_al (Below.refl _ _) _), zrows.bt hbt5 (by omega), row_bt hbt5 (by omega) he, rfl, (reps.ones (ru_reps g6 g7)), reps.move (Kp.alloc _ _) (fun b _ h => zrows.off hnw b (by first | exact h | exact Nat.le_trans (by simp) h)) _ _ (ru_reps g6 g7), heap_alloc_new w4 _, hbt5.size, hl4, trivial⟩
    | false =>
     cases k2 : isM ⟨#[113, 117, 101, 114, 121]⟩ r' with
     | true =>
      have HE : Hid ((queryM r'.tail).bd (fun x r => fileL f { b with q := b.q ++ [x] } r) = fileL r.length {} r) := by
       have := HE.out
       rw [fileL, if_neg (by simp [k9]), if_neg (by simp [k0]), if_neg (by simp [k1]), if_pos k2] at this
       exact this
      have HT := HQu r'.tail
      cases hm2 : queryM r'.tail with
      | bad q2 =>
       rw [hm2] at HT
       rw [hm2, bd_bad] at HE
       clear hm2
       go_wp2_with (go_at_call 34; refine HI.out.mono ?_; rintro e w8 ⟨rfl, hw8⟩; subst w8)
       refine (HN0 r' wr HQ.out k0).out.mono ?_
       rintro e s0 ⟨rfl, hs0⟩
       have HQ1 := Hid.intro (HQ.out.via hs0)
       have HB2w := Hid.intro (Bt.below (B := B) hs0)
       go_wp2_with fail
       refine (HN1 r' s0 HQ1.out k1).out.mono ?_
       rintro e s1 ⟨rfl, hs1⟩
       have HQ2 := Hid.intro (HQ1.out.via hs1)
       have HB3w := Hid.intro (HB2w.out.trans (Bt.below (B := B) hs1))
       go_wp2_with fail
       refine (HY2 r' s1 HQ2.out k2).out.mono ?_
       rintro e wc ⟨rfl, hb7, hp7⟩
       have HP := Hid.intro hp7
       have HBc := Hid.intro (HB3w.out.trans hb7)
       have HFc := Hid.intro (HF.out.trans (HBc.out.fr HKr.out))
       have HKc := Hid.intro (HKn.out.up HFc.out.size)
       obtain ⟨hBC, hCn, hnw, vs, he, zrows, hpa⟩ := JR.stb _ _ _ (fun b => (b < w.heap.size ∧ b ≠ B) ∨ b = w.heap.size) HJ.out HBc.out (fun _ h => .inl h)
       obtain ⟨x1, x2, x3, rfl⟩ : ∃ x y z, vs = [x, y, z] := by have := zrows.1; simp only [fiR, List.length_cons, List.length_nil] at this; match vs, this with | [x, y, z], _ => exact ⟨x, y, z, rfl⟩
       obtain ⟨p0, c0, xs0, hv0, -, -⟩ := zrows.2.2 2 _ _ rfl rfl
       dsimp only at hv0
       subst hv0
       obtain ⟨i0, hi, hz0, hz1, hz2⟩ := info_parts infoQuery'
       have e0 : wc.cell? ⟨w.heap.size + 1, 2, none⟩ = some (.slice p0 b.q.length c0) := by rw [(heap_cell he 2).1]; rfl
       have hEw : w.heap.size + 1 < wc.heap.size := by omega
       have hln : b.q.length ≤ 10000 := by omega
       (try simp only [List.length_tail] at HT)
       go_wp2_with fail
       refine wp_region_held_drew (S := fun _ => True) hmo trivial (fun hS => ?_)
       refine tq 0 32 (.pointer (some ⟨w.heap.size + 1, 2, none⟩)) hS ?_
       simp only [n3]
       refine tq 2 34 (.pointer (some ⟨B, 0, none⟩)) hS ?_
       simp only [n3]
       refine on2 1 3 rfl (fun K' hK => ?_) rfl (fun K' hK => ?_)
       ·go_simp
        refine hK.out _ _ (trivial) (fun hS => ?_)
        clear hK K'
        (try simp only [Act.put, n3])
        refine on1 3 rfl (fun K' hK => ?_)
        go_simp
        refine (HT _ (by first | exact HP.out.via (Below.refl _ _).drew | exact HP.out.via (below_al (Below.refl _ _).drew _) | exact HP.out.via (below_al (Below.refl _ _) _).drew)).out.mono ?_
        rintro e w4 ⟨hb4, rfl⟩
        have hbt4 : Bt B wc w4 := Bt.trans (by first | exact (Bt.refl B _).drew | exact (Bt.refl B _).drew.alloc _ | exact ((Bt.refl B _).alloc _).drew) hb4
        refine ⟨rfl, HB1.out.fra ((HFc.out.trans (hbt4.fr HKc.out)).mono fun b hb => .inl hb), ?_⟩
        rw [← HE.out]
       ·go_simp
        refine (HT _ (by first | exact HP.out.via (Below.refl _ _).drew | exact HP.out.via (below_al (Below.refl _ _).drew _) | exact HP.out.via (below_al (Below.refl _ _) _).drew)).out.mono ?_
        rintro e w4 ⟨hb4, rfl⟩
        have hbt4 : Bt B wc w4 := Bt.trans (by first | exact (Bt.refl B _).drew | exact (Bt.refl B _).drew.alloc _ | exact ((Bt.refl B _).alloc _).drew) hb4
        refine ⟨rfl, HB1.out.fra ((HFc.out.trans (hbt4.fr HKc.out)).mono fun b hb => .inl hb), ?_⟩
        rw [← HE.out]
      | ok t r5 =>
       rw [hm2] at HT
       rw [hm2, bd_ok] at HE
       clear hm2
       go_wp2_with (go_at_call 34; refine HI.out.mono ?_; rintro e w8 ⟨rfl, hw8⟩; subst w8)
       refine (HN0 r' wr HQ.out k0).out.mono ?_
       rintro e s0 ⟨rfl, hs0⟩
       have HQ1 := Hid.intro (HQ.out.via hs0)
       have HB2w := Hid.intro (Bt.below (B := B) hs0)
       go_wp2_with fail
       refine (HN1 r' s0 HQ1.out k1).out.mono ?_
       rintro e s1 ⟨rfl, hs1⟩
       have HQ2 := Hid.intro (HQ1.out.via hs1)
       have HB3w := Hid.intro (HB2w.out.trans (Bt.below (B := B) hs1))
       go_wp2_with fail
       refine (HY2 r' s1 HQ2.out k2).out.mono ?_
       rintro e wc ⟨rfl, hb7, hp7⟩
       have HP := Hid.intro hp7
       have HBc := Hid.intro (HB3w.out.trans hb7)
       have HFc := Hid.intro (HF.out.trans (HBc.out.fr HKr.out))
       have HKc := Hid.intro (HKn.out.up HFc.out.size)
       obtain ⟨hBC, hCn, hnw, vs, he, zrows, hpa⟩ := JR.stb _ _ _ (fun b => (b < w.heap.size ∧ b ≠ B) ∨ b = w.heap.size) HJ.out HBc.out (fun _ h => .inl h)
       obtain ⟨x1, x2, x3, rfl⟩ : ∃ x y z, vs = [x, y, z] := by have := zrows.1; simp only [fiR, List.length_cons, List.length_nil] at this; match vs, this with | [x, y, z], _ => exact ⟨x, y, z, rfl⟩
       obtain ⟨p0, c0, xs0, hv0, -, -⟩ := zrows.2.2 2 _ _ rfl rfl
       dsimp only at hv0
       subst hv0
       obtain ⟨i0, hi, hz0, hz1, hz2⟩ := info_parts infoQuery'
       have e0 : wc.cell? ⟨w.heap.size + 1, 2, none⟩ = some (.slice p0 b.q.length c0) := by rw [(heap_cell he 2).1]; rfl
       have hEw : w.heap.size + 1 < wc.heap.size := by omega
       have hln : b.q.length ≤ 10000 := by omega
       (try simp only [List.length_tail] at HT)
       go_wp2_with fail
       refine wp_region_held_drew (S := fun _ => True) hmo trivial (fun hS => ?_)
       refine tq 0 32 (.pointer (some ⟨w.heap.size + 1, 2, none⟩)) hS ?_
       simp only [n3]
       refine tq 2 34 (.pointer (some ⟨B, 0, none⟩)) hS ?_
       simp only [n3]
       refine share (fun z W us => Fr (fun b => (b < w.heap.size ∧ b ≠ B) ∨ b = w.heap.size) wc W ∧ PAt K W B r5 0 ∧ RowsAt (w.heap.size + 2) (fiR b) [x1, x2, (.slice p0 b.q.length c0)] W ∧ W.heap[(w.heap.size + 1)]? = some (.cells (fiA [x1, x2, (.slice p0 b.q.length c0)]) 27 (0, 0)) ∧ us.length = 3 ∧ (∀ u ∈ us, u.oneCell' = true) ∧ reps (offR (w.heap.size + 2) [x1, x2, (.slice p0 b.q.length c0)]) W t.cs us ∧ W.heap[z]? = some (.cells us.toArray 63 (0, 0)) ∧ wc.heap.size ≤ W.heap.size ∧ r5.length ≤ r'.length - 1 - 1 ∧ True) 3 #[true, true, true, true, true, false, false, false] (fun z us => [(33, .slice p0 b.q.length c0), (35, .agg us.toArray), (36, .slice (some ⟨z, 0, none⟩) 1 1)]) ?_ (fun HT5 => ?_)
       ·rintro z W us ⟨zf, zp, zr, zh, zl, zo, zu, zz, zs, zlf, zx⟩
        simp only [putL, List.foldl, Act.put, List.setIfInBounds_toArray, List.set_cons_succ, List.set_cons_zero]
        obtain ⟨pq, cq, xs, hveq, hown, hxs⟩ := zr.2.2 2 _ _ rfl rfl
        dsimp only at hveq hown hxs
        clear hveq
        have hCW : (w.heap.size + 1) < W.heap.size := by omega
        have hKn := HKc.out.up zs
        refine on1 5 rfl (fun K' hK => ?_)
        rw [if_pos (by rfl)]
        refine wp_append_own _ _ 25 rfl (w.heap.size + 2) 63 i0 _ 3 64 Tryz.underlying25 hi hz0 hz1 hz2 rfl (by decide) _ _ _ rfl hown ⟨z, 0, none⟩ 1 1 us rfl (by rw [zl]) (fun j u hj => by rw [addr_add, Nat.zero_add, (heap_cell zz j).1, ← hj]; simp) zo (by unfold maxLen; omega) (by omega) (by omega) (fun sv' w5 hown5 hgr5 hat5 => ?_)
        obtain ⟨g5, k5, rfl⟩ := ownsRow_succ hown5
        have hch5 : Chg (w.heap.size + 1) _ W w5 := Chg.of hgr5
        have e5 : w5.heap[(w.heap.size + 1)]? = some (.cells (fiA [x1, x2, (.slice p0 b.q.length c0)]) 27 (0, 0)) := (hgr5.block (w.heap.size + 1) hCW (own_below hown (.inl hCn))).trans zh
        have c5 : w5.cell? ⟨w.heap.size + 1, 2, none⟩ = some (.slice p0 b.q.length c0) := by rw [(heap_cell e5 2).1]; exact rfl
        have f5 : w5.frozen? ⟨w.heap.size + 1, 2, none⟩ = false := (heap_cell e5 2).2
        have hKg : ∀ g, (Value.slice p0 b.q.length c0).ownBlock = some g → K ≤ g := fun g hg => by have := (hown.lt g hg).1; omega
        refine hK.out _ _ (trivial) (fun hS => ?_)
        clear hK K'
        (try simp only [Act.put, n3])
        refine tq 6 38 (.pointer (some ⟨w.heap.size + 1, 2, none⟩)) hS ?_
        simp only [n3]
        refine on1 7 rfl (fun K' hK => ?_)
        go_simp
        go_wp2_with fail
        have hch6 := hch5.set (p := ⟨w.heap.size + 1, 2, none⟩) (.inl rfl) (.slice (some ⟨g5, 0, none⟩) (b.q.length + 1) k5)
        refine hK.out _ _ (trivial) (fun hS => ?_)
        clear hK K'
        (try simp only [n3])
        obtain ⟨hJ6, hF6⟩ := JR.push (A := fiA) (T := 27) hBC hCn (by omega) zr hpa hKn 2 rfl rfl hxs zu rfl (own_setC 2 hown5 hCn _) hch6 hat5 (by rw [heap_put e5, fiA_set2]; rfl)
        have hp6 := zp.chg hch6 hCK hKg
        refine wpAnyH_done (by kernel_rfl) ?_ _
        have hr5 := hp6.rlen
        go_wp2_with fail
        go_roundw
        case rel => exact ⟨{ b with q := b.q ++ [t] }, r5, f, Hid.intro ((HFc.out.trans zf).trans hF6), Hid.intro (by simpa [fiR, Rd.up, List.flatMap_append] using hJ6), Hid.intro hp6, by simp; omega, by omega, by omega, HE⟩
        case measure => omega
       ·(try simp only [putL, List.foldl, Act.put, List.setIfInBounds_toArray, List.set_cons_succ, List.set_cons_zero] at HT5)
        refine on2 1 3 rfl (fun K' hK => ?_) rfl (fun K' hK => ?_)
        ·go_simp
         refine hK.out _ _ (trivial) (fun hS => ?_)
         clear hK K'
         (try simp only [Act.put, n3])
         refine on1 3 rfl (fun K' hK => ?_)
         go_simp
         refine (HT _ (by first | exact HP.out.via (Below.refl _ _).drew | exact HP.out.via (below_al (Below.refl _ _).drew _) | exact HP.out.via (below_al (Below.refl _ _) _).drew)).out.mono ?_
         rintro e w4 ⟨hb4, hl4, hp4, v4, rfl, x6, x7, rfl, g6, g7⟩
         have hbt4 : Bt B wc w4 := Bt.trans (by first | exact (Bt.refl B _).drew | exact (Bt.refl B _).drew.alloc _ | exact ((Bt.refl B _).alloc _).drew) hb4
         have hr4 := zrows.bt hbt4 (by omega)
         have hC4 := row_bt hbt4 (by omega) he
         have hs4 : wc.heap.size ≤ w4.heap.size := hbt4.size
         go_wp2_with fail
         refine hK.out _ _ (trivial) (fun hS => ?_)
         clear hK K'
         (try simp only [Act.put, n3])
         refine on1 4 rfl (fun K' hK => ?_)
         go_simp
         go_wp2_with fail
         refine hK.out _ _ (trivial) (fun hS => ?_)
         clear hK K'
         (try simp only [Act.put, n3])
         have hbt5 : Bt B wc (w4.alloc (.cells #[.string t.name, x6, x7] 63)) := hbt4.alloc _
         refine HT5 w4.heap.size (w4.alloc (.cells #[.string t.name, x6, x7] 63)) [.string t.name, x6, x7] ⟨hbt5.fr HKc.out, hp4.via (below_al (Below.refl _ _) _), zrows.bt hbt5 (by omega), row_bt hbt5 (by omega) he, rfl, (reps.ones (qu_reps g6 g7)), reps.move (Kp.alloc _ _) (fun b _ h => zrows.off hnw b (by first | exact h | exact Nat.le_trans (by simp) h)) _ _ (qu_reps g6 g7), heap_alloc_new w4 _, hbt5.size, hl4, trivial⟩
        ·go_simp
         refine (HT _ (by first | exact HP.out.via (Below.refl _ _).drew | exact HP.out.via (below_al (Below.refl _ _).drew _) | exact HP.out.via (below_al (Below.refl _ _) _).drew)).out.mono ?_
         rintro e w4 ⟨hb4, hl4, hp4, v4, rfl, x6, x7, rfl, g6, g7⟩
         have hbt4 : Bt B wc w4 := Bt.trans (by first | exact (Bt.refl B _).drew | exact (Bt.refl B _).drew.alloc _ | exact ((Bt.refl B _).alloc _).drew) hb4
         have hr4 := zrows.bt hbt4 (by omega)
         have hC4 := row_bt hbt4 (by omega) he
         have hs4 : wc.heap.size ≤ w4.heap.size := hbt4.size
         go_wp2_with fail
         refine hK.out _ _ (trivial) (fun hS => ?_)
         clear hK K'
         (try simp only [Act.put, n3])
         refine on2 1 4 rfl (fun K' hK => ?_) rfl (fun K' hK => ?_)
         ·have e04 : w4.cell? ⟨w.heap.size + 1, 2, none⟩ = some (.slice p0 b.q.length c0) := by rw [(heap_cell hC4 2).1]; exact rfl
          have hEw4 : (w.heap.size + 1) < w4.heap.size := by omega
          go_simp
          refine hK.out _ _ (trivial) (fun hS => ?_)
          clear hK K'
          (try simp only [Act.put, n3])
          refine on1 4 rfl (fun K' hK => ?_)
          go_simp
          go_wp2_with fail
          refine hK.out _ _ (trivial) (fun hS => ?_)
          clear hK K'
          (try simp only [Act.put, n3])
          have hbt5 : Bt B wc (w4.alloc (.cells #[.string t.name, x6, x7] 63)) := hbt4.alloc _
          refine HT5 w4.heap.size (w4.alloc (.cells #[.string t.name, x6, x7] 63)) [.string t.name, x6, x7] ⟨hbt5.fr HKc.out, hp4.via (below_al (Below.refl _ _) _), zrows.bt hbt5 (by omega), row_bt hbt5 (by omega) he, rfl, (reps.ones (qu_reps g6 g7)), reps.move (Kp.alloc _ _) (fun b _ h => zrows.off hnw b (by first | exact h | exact Nat.le_trans (by simp) h)) _ _ (qu_reps g6 g7), heap_alloc_new w4 _, hbt5.size, hl4, trivial⟩
         ·go_simp
          go_wp2_with fail
          refine hK.out _ _ (trivial) (fun hS => ?_)
          clear hK K'
          (try simp only [Act.put, n3])
          refine on1 1 rfl (fun K' hK => ?_)
          have e04 : w4.cell? ⟨w.heap.size + 1, 2, none⟩ = some (.slice p0 b.q.length c0) := by rw [(heap_cell hC4 2).1]; exact rfl
          have hEw4 : (w.heap.size + 1) < w4.heap.size := by omega
          go_simp
          refine hK.out _ _ (trivial) (fun hS => ?_)
          clear hK K'
          (try simp only [Act.put, n3])
          have hbt5 : Bt B wc (w4.alloc (.cells #[.string t.name, x6, x7] 63)) := hbt4.alloc _
          refine HT5 w4.heap.size (w4.alloc (.cells #[.string t.name, x6, x7] 63)) [.string t.name, x6, x7] ⟨hbt5.fr HKc.out, hp4.via (below_al (Below.refl _ _) _), zrows.bt hbt5 (by omega), row_bt hbt5 (by omega) he, rfl, (reps.ones (qu_reps g6 g7)), reps.move (Kp.alloc _ _) (fun b _ h => zrows.off hnw b (by first | exact h | exact Nat.le_trans (by simp) h)) _ _ (qu_reps g6 g7), heap_alloc_new w4 _, hbt5.size, hl4, trivial⟩
     | false =>
      have HE : Hid (Rs.bad (hA r') = fileL r.length {} r) := by
       have := HE.out
       rw [fileL, if_neg (by simp [k9]), if_neg (by simp [k0]), if_neg (by simp [k1]), if_neg (by simp [k2])] at this
       exact this
      go_wp2_with (go_at_call 34; refine HI.out.mono ?_; rintro e w8 ⟨rfl, hw8⟩; subst w8)
      refine (HN0 r' wr HQ.out k0).out.mono ?_
      rintro e s0 ⟨rfl, hs0⟩
      have HQ1 := Hid.intro (HQ.out.via hs0)
      have HB2w := Hid.intro (Bt.below (B := B) hs0)
      go_wp2_with fail
      refine (HN1 r' s0 HQ1.out k1).out.mono ?_
      rintro e s1 ⟨rfl, hs1⟩
      have HQ2 := Hid.intro (HQ1.out.via hs1)
      have HB3w := Hid.intro (HB2w.out.trans (Bt.below (B := B) hs1))
      go_wp2_with fail
      refine (HN2 r' s1 HQ2.out k2).out.mono ?_
      rintro e s2 ⟨rfl, hs2⟩
      have HQ3 := Hid.intro (HQ2.out.via hs2)
      have HB4w := Hid.intro (HB3w.out.trans (Bt.below (B := B) hs2))
      go_wp2_with fail
      refine (HBar r' s2 HQ3.out).out.mono ?_
      rintro e w9 ⟨rfl, hw9⟩
      subst w9
      refine ⟨rfl, HB1.out.fra ((HF.out.trans (HB4w.out.fr HKr.out)).mono fun b hb => .inl hb), ?_⟩
      rw [← HE.out]
end
end Go.Proofs.YtoeodjobggodcaaGreatDoor
/- read: what its deferred closure does; end. -/
namespace Go.Proofs.YtoeodjobggodcaaGreatDoor
section
open Go.RowKit
set_option maxRecDepth 100000 in
set_option maxHeartbeats 2000000 in
theorem end_any {K B : Nat} {r : List Lx} {w : World} (h : PAt K w B r 0) :
  Calls Tryz.prog 33 #[.pointer (some ⟨B, 0, none⟩)] w fun e w' => Below w.heap.size w w' ∧ if isK (-1) r then e = .returned (.tuple #[]) else e = .panicked (flt (hA r)) := by
 obtain ⟨x, r', rfl, -⟩ := gd_cons h.gd
 by_cases hk : x.k = -1
 ·have HK := Hid.intro (kind_yes h)
  rw [hk] at HK
  have hi : isK (-1) (x :: r') = true := by simp [isK, hk]
  rw [hi]
  simp only [if_true]
  clear h
  go_enter Tryz.func33, Tryz.ntmps33
  go_wp2_with (go_at_call 56; refine HK.out.mono ?_; rintro e w1 ⟨rfl, hw1⟩)
  go_end0
  exact ⟨hw1, rfl⟩
 ·have HK := Hid.intro (kind_no h hk)
  have hi : isK (-1) (x :: r') = false := by simp [isK, hk]
  rw [hi]
  simp only [Bool.false_eq_true, if_false]
  clear h
  go_enter Tryz.func33, Tryz.ntmps33
  go_wp2_with (go_at_call 56; refine HK.out.mono ?_; rintro e w1 ⟨rfl, hw1⟩)
  exact ⟨rfl, hw1, rfl⟩
set_option maxRecDepth 100000 in
set_option maxHeartbeats 2000000 in
theorem catchB (p q : Nat) (a : Nat) (x y : Int) (w : World) (hp : w.cell? ⟨p, 0, none⟩ = some (.int .i64 x)) (hpf : w.frozen? ⟨p, 0, none⟩ = false) (hq : w.cell? ⟨q, 0, none⟩ = some (.int .i64 y)) (hqf : w.frozen? ⟨q, 0, none⟩ = false) (hpq : p ≠ q) (hps : p < w.heap.size) (hqs : q < w.heap.size) :
  CallsD Tryz.prog 31 #[.pointer (some ⟨p, 0, none⟩), .pointer (some ⟨q, 0, none⟩)] (.panicking (flt a)) w fun e u' w' =>
   e = .returned (.tuple #[]) ∧ settle u' = .returning ∧ w' = ((w.setCell ⟨p, 0, none⟩ (.int .i64 (a : Int))).setCell ⟨q, 0, none⟩ (.int .i64 20)).alloc (.cells #[.int .i64 (a : Int)] 74) := by
 refine callsD_of_wpS Tryz.func31 rfl fun c₀ cs hu => ?_
 unfold flt at hu
 apply wpS_seq
 apply wpS_region
 simp [wpOpsS, go_sem, recoverD, hu, Tryz.ntmps31, Exit.thenS]
 refine wpS_of_wp ?_
 have hfr : (#[.pointer (some ⟨p, 0, none⟩), .pointer (some ⟨q, 0, none⟩)] ++ (Array.replicate 11 undef).setIfInBounds 3 (.iface 74 (.agg #[.int .i64 (a : Int)])) : Array Value) = #[.pointer (some ⟨p, 0, none⟩), .pointer (some ⟨q, 0, none⟩), undef, undef, undef, .iface 74 (.agg #[.int .i64 (a : Int)]), undef, undef, undef, undef, undef, undef, undef] := rfl
 rw [hfr]
 have hta : ∀ w, (Instr.typeAssert (.iface 74 (.agg #[.int .i64 (a : Int)])) 20 74 true).run Tryz.prog w = .ok (.tuple #[.agg #[.int .i64 (a : Int)], .bool true]) w := fun w => by kernel_rfl
 go_wp2
 exact ⟨rfl, _, rfl, .tuple #[], by simp [results, Tryz.results31, go_sem], rfl, rfl, rfl⟩
set_option maxRecDepth 100000 in
set_option maxHeartbeats 2000000 in
theorem catchB_idle (p q : Nat) (w : World) :
  CallsD Tryz.prog 31 #[.pointer (some ⟨p, 0, none⟩), .pointer (some ⟨q, 0, none⟩)] .returning w fun e u' w' => e = .returned (.tuple #[]) ∧ settle u' = .returning ∧ w' = w := by
 refine callsD_of_wpS Tryz.func31 rfl fun c₀ cs hu => ?_
 apply wpS_seq
 apply wpS_region
 simp [wpOpsS, go_sem, recoverD, hu, Tryz.ntmps31, Exit.thenS]
 refine wpS_of_wp ?_
 go_wp2
 cases c₀
 simp_all [bodyPostS, results, Tryz.results31, settle]
set_option maxRecDepth 100000 in
set_option maxHeartbeats 2000000 in
theorem catchE (p q : Nat) (a : Nat) (x y : Int) (w : World) (hp : w.cell? ⟨p, 0, none⟩ = some (.int .i64 x)) (hpf : w.frozen? ⟨p, 0, none⟩ = false) (hq : w.cell? ⟨q, 0, none⟩ = some (.int .i64 y)) (hqf : w.frozen? ⟨q, 0, none⟩ = false) (hpq : p ≠ q) (hps : p < w.heap.size) (hqs : q < w.heap.size) :
  CallsD Tryz.prog 48 #[.pointer (some ⟨p, 0, none⟩), .pointer (some ⟨q, 0, none⟩)] (.panicking (flt a)) w fun e u' w' =>
   e = .returned (.tuple #[]) ∧ settle u' = .returning ∧ w' = ((w.setCell ⟨p, 0, none⟩ (.int .i64 (a : Int))).setCell ⟨q, 0, none⟩ (.int .i64 20)).alloc (.cells #[.int .i64 (a : Int)] 74) := by
 refine callsD_of_wpS Tryz.func48 rfl fun c₀ cs hu => ?_
 unfold flt at hu
 apply wpS_seq
 apply wpS_region
 simp [wpOpsS, go_sem, recoverD, hu, Tryz.ntmps48, Exit.thenS]
 refine wpS_of_wp ?_
 have hfr : (#[.pointer (some ⟨p, 0, none⟩), .pointer (some ⟨q, 0, none⟩)] ++ (Array.replicate 11 undef).setIfInBounds 3 (.iface 74 (.agg #[.int .i64 (a : Int)])) : Array Value) = #[.pointer (some ⟨p, 0, none⟩), .pointer (some ⟨q, 0, none⟩), undef, undef, undef, .iface 74 (.agg #[.int .i64 (a : Int)]), undef, undef, undef, undef, undef, undef, undef] := rfl
 rw [hfr]
 have hta : ∀ w, (Instr.typeAssert (.iface 74 (.agg #[.int .i64 (a : Int)])) 20 74 true).run Tryz.prog w = .ok (.tuple #[.agg #[.int .i64 (a : Int)], .bool true]) w := fun w => by kernel_rfl
 go_wp2
 exact ⟨rfl, _, rfl, .tuple #[], by simp [results, Tryz.results48, go_sem], rfl, rfl, rfl⟩
set_option maxRecDepth 100000 in
set_option maxHeartbeats 2000000 in
theorem catchE_idle (p q : Nat) (w : World) :
  CallsD Tryz.prog 48 #[.pointer (some ⟨p, 0, none⟩), .pointer (some ⟨q, 0, none⟩)] .returning w fun e u' w' => e = .returned (.tuple #[]) ∧ settle u' = .returning ∧ w' = w := by
 refine callsD_of_wpS Tryz.func48 rfl fun c₀ cs hu => ?_
 apply wpS_seq
 apply wpS_region
 simp [wpOpsS, go_sem, recoverD, hu, Tryz.ntmps48, Exit.thenS]
 refine wpS_of_wp ?_
 go_wp2
 cases c₀
 simp_all [bodyPostS, results, Tryz.results48, settle]
end
end Go.Proofs.YtoeodjobggodcaaGreatDoor
/- read. -/
namespace Go.Proofs.YtoeodjobggodcaaGreatDoor
section
open Go.RowKit
def R3 (n : Nat) (t : TypeId) (Z : Array Value) (a e : Int) (w : World) : Prop :=
 w.heap[n]? = some (.cells Z t (0, 0)) ∧ w.heap[n + 1]? = some (.cells #[.int .i64 a] 3 (0, 0)) ∧ w.heap[n + 1 + 1]? = some (.cells #[.int .i64 e] 28 (0, 0))
theorem R3.new (w : World) (t : TypeId) (Z : Array Value) : R3 w.heap.size t Z 0 0 (((w.alloc (.cells Z t)).alloc (.cells #[.int .i64 0] 3)).alloc (.cells #[.int .i64 0] 28)) := by
 refine ⟨(heap_alloc_old _ _ (by simp; omega)).trans ((heap_alloc_old _ _ (by simp)).trans (heap_alloc_new _ _)), (heap_alloc_old _ _ (by simp)).trans (heap_alloc2_new w _ _), ?_⟩
 have := heap_alloc_new ((w.alloc (.cells Z t)).alloc (.cells #[.int .i64 0] 3)) (.cells #[.int .i64 0] 28)
 rwa [World.size_alloc, World.size_alloc] at this
theorem R3.same {n : Nat} {t : TypeId} {Z : Array Value} {a e : Int} {w w' : World} (h : R3 n t Z a e w) (hb : ∀ k, n ≤ k → k ≤ n + 2 → w'.heap[k]? = w.heap[k]?) : R3 n t Z a e w' :=
 ⟨(hb n (by omega) (by omega)).trans h.1, (hb (n + 1) (by omega) (by omega)).trans h.2.1, (hb (n + 1 + 1) (by omega) (by omega)).trans h.2.2⟩
theorem R3.lt {n : Nat} {t : TypeId} {Z : Array Value} {a e : Int} {w : World} (h : R3 n t Z a e w) : n + 1 + 1 < w.heap.size := (Array.getElem?_eq_some_iff.1 h.2.2).1
theorem R3.below {n m : Nat} {t : TypeId} {Z : Array Value} {a e : Int} {w w' : World} (h : R3 n t Z a e w) (hb : Below m w w') (hm : n + 2 < m) : R3 n t Z a e w' := h.same fun k _ h2 => hb.block k (by omega)
theorem R3.put1 {n : Nat} {t : TypeId} {Z : Array Value} {a e : Int} {w : World} (h : R3 n t Z a e w) (a' : Int) : R3 n t Z a' e (w.setCell ⟨n + 1, 0, none⟩ (.int .i64 a')) := by
 have h1 := heap_put (i := 0) h.2.1 (.int .i64 a')
 exact ⟨(Below.heap_setCell w _ _ _ (by simp)).trans h.1, h1, (Below.heap_setCell w _ _ _ (by simp)).trans h.2.2⟩
theorem R3.put2 {n : Nat} {t : TypeId} {Z : Array Value} {a e : Int} {w : World} (h : R3 n t Z a e w) (e' : Int) : R3 n t Z a e' (w.setCell ⟨n + 1 + 1, 0, none⟩ (.int .i64 e')) := by
 have h1 := heap_put (i := 0) h.2.2 (.int .i64 e')
 exact ⟨(Below.heap_setCell w _ _ _ (by simp only; omega)).trans h.1, (Below.heap_setCell w _ _ _ (by simp)).trans h.2.1, h1⟩
theorem R3.row {n : Nat} {t : TypeId} {Z : Array Value} {a e : Int} {w : World} (h : R3 n t Z a e w) (Z' : Array Value) : R3 n t Z' a e (w.setRow n Z') :=
 ⟨setRow_heap _ _ _ _ _ _ h.1, (setRow_other _ _ _ _ (by omega)).trans h.2.1, (setRow_other _ _ _ _ (by omega)).trans h.2.2⟩
theorem np_normal {Q : Exit → Act → World → Prop} {a : Act} {w : World} (h : Q .normal a w) : NoPanic Q .normal a w := h
theorem R3.drew {n : Nat} {t : TypeId} {Z : Array Value} {a e : Int} {w : World} (h : R3 n t Z a e w) : R3 n t Z a e w.drew := h
set_option maxRecDepth 100000 in
set_option maxHeartbeats 4000000 in
theorem readB_lex {s : ByteArray} (fv : Value) (w : World) (a e : Int) (he : e ≠ 0) (HL : ∀ w, Hid (Calls Tryz.prog 17 #[.string s] w fun x W' => x = .returned (.tuple #[.slice none 0 0, .int .i64 a, .int .i64 e]) ∧ Below w.heap.size w W')) :
  Calls Tryz.prog 18 #[.string s, fv] w fun x w' => Below w.heap.size w w' ∧ x = .returned (.tuple #[.agg #[.slice none 0 0, .slice none 0 0, .slice none 0 0], .int .i64 a, .int .i64 e]) := by
 have hR0 := R3.new w 27 #[.slice none 0 0, .slice none 0 0, .slice none 0 0]
 have hs0 := hR0.lt
 have b0 : Below w.heap.size w (((w.alloc (.cells #[.slice none 0 0, .slice none 0 0, .slice none 0 0] 27)).alloc (.cells #[.int .i64 0] 3)).alloc (.cells #[.int .i64 0] 28)) := below_al (below_al (below_al (Below.refl _ _) _) _) _
 go_enter_defers Tryz.func18, Tryz.ntmps18
 go_wp2_with fail
 refine (HL _).out.mono ?_
 rintro x w1 ⟨rfl, hb1⟩
 have hR1 := hR0.below hb1 (by omega)
 have hB1 := b0.trans (hb1.mono (by omega))
 have hl1 := hR1.lt
 have c1 := (heap_cell hR1.2.1 0).1
 have f1 := (heap_cell hR1.2.1 0).2
 have c2 := (heap_cell hR1.2.2 0).1
 have f2 := (heap_cell hR1.2.2 0).2
 have z0 := (heap_cell hR1.1 0).1
 have z1 := (heap_cell hR1.1 1).1
 have z2 := (heap_cell hR1.1 2).1
 have g0 := (heap_cell hR1.1 0).2
 have g1 := (heap_cell hR1.1 1).2
 have g2 := (heap_cell hR1.1 2).2
 simp only [List.getElem?_toArray, List.getElem?_cons_zero, List.getElem?_cons_succ] at c1 c2 z0 z1 z2
 have hR2 := (hR1.put1 a).put2 e
 have hB2 := (hB1.setCell (p := ⟨w.heap.size + 1, 0, none⟩) (by simp) (.int .i64 a)).setCell (p := ⟨w.heap.size + 1 + 1, 0, none⟩) (by simp only; omega) (.int .i64 e)
 have hmo : Tryz.prog.follows .mixedOrders = true := by kernel_rfl
 go_wp2_with fail
 refine wp_region_noPanic ?_
 refine wp_region_held_drew (S := fun w' => R3 w.heap.size 27 #[.slice none 0 0, .slice none 0 0, .slice none 0 0] a e w' ∧ Below w.heap.size w w') hmo ⟨hR2, hB2.drew⟩ (fun hS => ?_)
 refine tp 0 18 (.agg #[.slice none 0 0, .slice none 0 0, .slice none 0 0]) ⟨_, rfl, rfl, yieldsIf_load_mid (by rfl) _ _ rfl w.heap.size 0 rfl [.slice none 0 0, .slice none 0 0, .slice none 0 0] _ (fun w' h j v hv => by rw [Nat.zero_add, (heap_cell h.1.1 j).1]; simpa using hv) Tryz.underlying27 rfl (by kernel_rfl)⟩ hS ?_
 simp only [n3]
 refine tp 1 19 (.int .i64 a) ⟨_, rfl, rfl, Or.inl ⟨by rfl, fun w' hSw => by have hc := (heap_cell hSw.1.2.1 0).1; simp only [List.getElem?_toArray, List.getElem?_cons_zero] at hc; go_simp⟩⟩ hS ?_
 simp only [n3]
 refine tp 2 20 (.int .i64 e) ⟨_, rfl, rfl, Or.inl ⟨by rfl, fun w' hSw => by have hc := (heap_cell hSw.1.2.2 0).1; simp only [List.getElem?_toArray, List.getElem?_cons_zero] at hc; go_simp⟩⟩ hS ?_
 simp only [n3]
 generalize World.drew _ = w3 at hS ⊢
 refine on1 3 rfl (fun K' hK => ?_)
 rw [if_pos (by rfl)]
 refine wp_store_cells _ _ _ rfl w.heap.size _ rfl rfl _ _ hS.1.1 infoBase rfl rfl (by simp [Value.oneCell']) ?_
 refine hK.out _ _ ⟨hS.1.row _, below_row hS.2 (Nat.le_refl _) _⟩ (fun hS => ?_)
 clear hK K'
 (try simp only [Act.put, List.setIfInBounds_toArray])
 generalize World.setRow _ _ _ = w4 at hS ⊢
 refine on1 4 rfl (fun K' hK => ?_)
 have d1 := (heap_cell hS.1.2.1 0).1
 have d1f := (heap_cell hS.1.2.1 0).2
 have d1s := hS.1.lt
 simp only [List.getElem?_toArray, List.getElem?_cons_zero] at d1
 go_simp
 go_wp2_with fail
 refine hK.out _ _ ⟨hS.1.put1 _, hS.2.setCell (p := ⟨w.heap.size + 1, 0, none⟩) (by simp) _⟩ (fun hS => ?_)
 clear hK K' d1 d1f d1s
 (try simp only [Act.put, n3])
 generalize World.setCell _ _ _ = w5 at hS ⊢
 refine on1 5 rfl (fun K' hK => ?_)
 have d1 := (heap_cell hS.1.2.2 0).1
 have d1f := (heap_cell hS.1.2.2 0).2
 have d1s := hS.1.lt
 simp only [List.getElem?_toArray, List.getElem?_cons_zero] at d1
 go_simp
 go_wp2_with fail
 refine hK.out _ _ ⟨hS.1.put2 _, hS.2.setCell (p := ⟨w.heap.size + 1 + 1, 0, none⟩) (by simp only; omega) _⟩ (fun hS => ?_)
 clear hK K' d1 d1f d1s
 (try simp only [Act.put, n3])
 generalize World.setCell _ _ _ = w6 at hS ⊢
 refine wpAnyH_done (by kernel_rfl) ?_ _
 refine np_normal ?_
 go_wp2_with fail
 have hres : (results Tryz.f18 #[.string s, fv, undef, undef, .pointer (some ⟨w.heap.size, 0, none⟩), .pointer (some ⟨w.heap.size + 1, 0, none⟩), .pointer (some ⟨w.heap.size + 1 + 1, 0, none⟩), .slice none 0 0, undef, undef, .tuple #[.slice none 0 0, .int .i64 a, .int .i64 e], .string s, .tuple #[.slice none 0 0, .int .i64 a, .int .i64 e], .slice none 0 0, .int .i64 a, .int .i64 e, .int .i64 e, .bool true, .agg #[.slice none 0 0, .slice none 0 0, .slice none 0 0], .int .i64 a, .int .i64 e, undef, undef, undef, undef, undef, undef, undef, undef, undef, undef, undef]).run Tryz.prog w6 = .ok (.tuple #[.agg #[.slice none 0 0, .slice none 0 0, .slice none 0 0], .int .i64 a, .int .i64 e]) w6 := by
  have hl := run_loadVar_mid (P := Tryz.prog) w6 w.heap.size 0 27 [.slice none 0 0, .slice none 0 0, .slice none 0 0] _ (fun j v hv => by rw [Nat.zero_add, (heap_cell hS.1.1 j).1]; simpa using hv) Tryz.underlying27 rfl (by kernel_rfl)
  have d1 := (heap_cell hS.1.2.1 0).1
  have d2 := (heap_cell hS.1.2.2 0).1
  simp only [List.getElem?_toArray, List.getElem?_cons_zero] at d1 d2
  simp [results, Tryz.results18, asAddr, Result.andThen, hl]
  simp [go_sem, d1, d2]
 exact ⟨_, hres, hS.2, rfl⟩
end
end Go.Proofs.YtoeodjobggodcaaGreatDoor
/- read: the ways behind lex. -/
namespace Go.Proofs.YtoeodjobggodcaaGreatDoor
section
open Go.RowKit
theorem BsV.move {P Q : Nat → Prop} {w w' : World} {b : Bs} {v : Value} (h : BsV P w b v) (hk : Kp P w w') (hpq : ∀ b, b < w.heap.size → P b → Q b) : BsV Q w' b v := by
 obtain ⟨x, y, z, rfl, h1, h2, h3⟩ := h
 exact ⟨x, y, z, rfl, rep.move hk hpq _ _ h1, rep.move hk hpq _ _ h2, rep.move hk hpq _ _ h3⟩
theorem res3B {tmps : Array Value} {n : Nat} {Z : Array Value} {a e : Int} {w : World} (t4 : tmps.getD 4 undef = .pointer (some ⟨n, 0, none⟩)) (t5 : tmps.getD 5 undef = .pointer (some ⟨n + 1, 0, none⟩)) (t6 : tmps.getD 6 undef = .pointer (some ⟨n + 1 + 1, 0, none⟩)) (hR : R3 n 27 Z a e w) (hZ : Z.size = 3) :
  (results Tryz.f18 tmps).run Tryz.prog w = .ok (.tuple #[.agg Z, .int .i64 a, .int .i64 e]) w := by
 have hl := run_loadVar_mid (P := Tryz.prog) w n 0 27 Z.toList _ (fun j v hv => by rw [Nat.zero_add, (heap_cell hR.1 j).1]; simpa using hv) Tryz.underlying27 rfl (by rw [Array.length_toList, hZ]; kernel_rfl)
 have d1 := (heap_cell hR.2.1 0).1
 have d2 := (heap_cell hR.2.2 0).1
 simp only [List.getElem?_toArray, List.getElem?_cons_zero] at d1 d2
 rw [Array.getD_eq_getD_getElem?] at t4 t5 t6
 simp [results, Tryz.results18, asAddr, Result.andThen, t4, t5, t6, hl]
 simp [go_sem, d1, d2]
set_option maxRecDepth 100000 in
set_option maxHeartbeats 4000000 in
theorem readB_go {s : ByteArray} (w : World) (h : s.size ≤ 65536) (hF : lexF s = none) (hgd : Gd (lexR s)) (hnl : (lexT s).length ≤ 4096) (hE : 2 < w.heap.size) (hev : ∃ ev, w.cell? ⟨2, 0, none⟩ = some ev ∧ (ev = .nilIface ∨ ∃ te pe, ev = .iface te pe)) :
  Calls Tryz.prog 18 #[.string s, .func (.func 19) #[] #[]] w fun x w' => Below w.heap.size w w' ∧ match (fileL (lexR s).length {} (lexR s)).bd endM with
   | .bad q => x = .returned (.tuple #[.agg #[.slice none 0 0, .slice none 0 0, .slice none 0 0], .int .i64 (q : Int), .int .i64 20])
   | .ok b _ => ∃ v, x = .returned (.tuple #[v, .int .i64 0, .int .i64 0]) ∧ BsV (fun k => w.heap.size ≤ k) w' b v := by
 have hmf : ∀ (fn : Fn) (first cap : Array Value) (w : World), (Instr.makeFunc fn first cap).run Tryz.prog w = .ok (.func fn first cap) w := fun _ _ _ _ => rfl
 have HL := fun w => Hid.intro (lex_ok h hF w)
 have hR0 := R3.new w 27 #[.slice none 0 0, .slice none 0 0, .slice none 0 0]
 have b0 : Below w.heap.size w (((w.alloc (.cells #[.slice none 0 0, .slice none 0 0, .slice none 0 0] 27)).alloc (.cells #[.int .i64 0] 3)).alloc (.cells #[.int .i64 0] 28)) := below_al (below_al (below_al (Below.refl _ _) _) _) _
 have hs0 : (((w.alloc (.cells #[.slice none 0 0, .slice none 0 0, .slice none 0 0] 27)).alloc (.cells #[.int .i64 0] 3)).alloc (.cells #[.int .i64 0] 28)).heap.size = w.heap.size + 3 := by simp
 have HNew := fun {w'} {v} hv hb hE hev => Hid.intro (new_any (base := w.heap.size + 3) (w := w') (v := v) (xs := lexT s) hv hb hnl s.size hgd hE hev)
 have HPart := fun B w' (hp : PAt (B + 1) w' B (lexR s) 0) => Hid.intro (file_any hp)
 have HEnd := fun B w' r (hp : PAt (B + 1) w' B r 0) => Hid.intro (end_any hp)
 have start : ∀ w1 v, w1.ownsRow (w.heap.size + 3) 47 4 v (lexT s).length ((lexT s).flatMap celL) → R3 w.heap.size 27 #[.slice none 0 0, .slice none 0 0, .slice none 0 0] 0 0 w1 → Below w.heap.size w w1 →
   Hid (R3 w.heap.size 27 #[.slice none 0 0, .slice none 0 0, .slice none 0 0] 0 0 ((w1.setCell ⟨w.heap.size + 1, 0, none⟩ (.int .i64 0)).setCell ⟨w.heap.size + 1 + 1, 0, none⟩ (.int .i64 0))) ∧ Hid (Below w.heap.size w ((w1.setCell ⟨w.heap.size + 1, 0, none⟩ (.int .i64 0)).setCell ⟨w.heap.size + 1 + 1, 0, none⟩ (.int .i64 0))) ∧ w.heap.size + 3 ≤ w1.heap.size ∧
   Hid (Calls Tryz.prog 32 #[v, .int .i64 (s.size : Int)] ((w1.setCell ⟨w.heap.size + 1, 0, none⟩ (.int .i64 0)).setCell ⟨w.heap.size + 1 + 1, 0, none⟩ (.int .i64 0)) fun e w' => ∃ B, e = .returned (.pointer (some ⟨B, 0, none⟩)) ∧ w.heap.size + 3 ≤ B ∧ PAt (B + 1) w' B (lexR s) 0 ∧ Below (w.heap.size + 3) ((w1.setCell ⟨w.heap.size + 1, 0, none⟩ (.int .i64 0)).setCell ⟨w.heap.size + 1 + 1, 0, none⟩ (.int .i64 0)) w') := by
  intro w1 v ho hR hB
  have hR2 := (hR.put1 0).put2 0
  have hB2 := (hB.setCell (p := ⟨w.heap.size + 1, 0, none⟩) (by simp) (.int .i64 0)).setCell (p := ⟨w.heap.size + 1 + 1, 0, none⟩) (by simp only; omega) (.int .i64 0)
  have hl := hR.lt
  refine ⟨hR2, hB2, by omega, ?_⟩
  refine (HNew (own_same ho fun g hg => ?_) (by simp; omega) (by omega) ?_).out
  ·have := (ho.lt g hg).1
   exact (Below.heap_setCell _ _ _ _ (by simp only; omega)).trans (Below.heap_setCell _ _ _ _ (by simp only; omega))
  ·obtain ⟨ev, h1, h2⟩ := hev
   exact ⟨ev, (hB2.cell (p := ⟨_, 0, none⟩) hE).trans h1, h2⟩
 clear HNew hev hgd hnl
 -- the deferred closure, behind a fault
 have hbad : ∀ (w4 : World) (q : Nat) (tmps : Array Value), R3 w.heap.size 27 #[.slice none 0 0, .slice none 0 0, .slice none 0 0] 0 0 w4 → Below w.heap.size w w4 → tmps.getD 4 undef = .pointer (some ⟨w.heap.size, 0, none⟩) → tmps.getD 5 undef = .pointer (some ⟨w.heap.size + 1, 0, none⟩) → tmps.getD 6 undef = .pointer (some ⟨w.heap.size + 1 + 1, 0, none⟩) →
   Leaves Tryz.prog Tryz.f18 tmps (fun x w' => Below w.heap.size w w' ∧ x = .returned (.tuple #[.agg #[.slice none 0 0, .slice none 0 0, .slice none 0 0], .int .i64 (q : Int), .int .i64 20])) [{ target := .fn (.func 31) #[.pointer (some ⟨w.heap.size + 1, 0, none⟩), .pointer (some ⟨w.heap.size + 1 + 1, 0, none⟩)], args := #[] }] (.panicking (flt q)) w4 := by
  intro w4 q tmps hR hB t4 t5 t6
  have hl := hR.lt
  refine leaves_cons (f := 31) (args := #[.pointer (some ⟨w.heap.size + 1, 0, none⟩), .pointer (some ⟨w.heap.size + 1 + 1, 0, none⟩)]) (by simp) (by simp [go_sem]) ?_
  refine (catchB (w.heap.size + 1) (w.heap.size + 1 + 1) q 0 0 w4 (by rw [(heap_cell hR.2.1 0).1]; rfl) (heap_cell hR.2.1 0).2 (by rw [(heap_cell hR.2.2 0).1]; rfl) (heap_cell hR.2.2 0).2 (by omega) (by omega) (by omega)).mono ?_
  rintro e u' w'' ⟨rfl, hset, rfl⟩
  show Leaves _ _ _ _ [] (settle u') _
  rw [hset]
  have hR' := ((hR.put1 (q : Int)).put2 20).below ((Below.refl _ _).alloc (Nat.le_refl _) (.cells #[.int .i64 (q : Int)] 74)) (by simp; omega)
  exact ⟨_, res3B t4 t5 t6 hR' rfl, ((hB.setCell (p := ⟨w.heap.size + 1, 0, none⟩) (by simp) (.int .i64 (q : Int))).setCell (p := ⟨w.heap.size + 1 + 1, 0, none⟩) (by simp only; omega) (.int .i64 20)).alloc (by simp; omega) _, rfl⟩
 have stay : ∀ (B : Nat) (w3 w4 : World), w.heap.size + 3 ≤ B → R3 w.heap.size 27 #[.slice none 0 0, .slice none 0 0, .slice none 0 0] 0 0 w3 → Below w.heap.size w w3 → Bt B w3 w4 → R3 w.heap.size 27 #[.slice none 0 0, .slice none 0 0, .slice none 0 0] 0 0 w4 ∧ Below w.heap.size w w4 := fun B w3 w4 hBn hR hB hb =>
  ⟨hR.same fun k h1 h2 => hb.block k (by have := hR.lt; omega) (by omega), hB.trans (hb.fresh (by omega) hB.size)⟩
 cases hm : fileL (lexR s).length {} (lexR s) with
 | bad q =>
  rw [hm] at HPart
  clear HEnd hm
  simp only [bd_bad]
  go_enter_defers Tryz.func18, Tryz.ntmps18
  go_wp2_with fail
  refine (HL _).out.mono ?_
  rintro x w1 ⟨v, rfl, hown, hb1⟩
  have hR1 := hR0.below hb1 (by omega)
  have hB1 := b0.trans (hb1.mono (by omega))
  obtain ⟨hR2, hB2, hs1, hNew⟩ := start w1 v (by rw [hs0] at hown; exact hown) hR1 hB1
  have hl1 := hR1.lt
  have c1 := (heap_cell hR1.2.1 0).1
  have f1 := (heap_cell hR1.2.1 0).2
  have c2 := (heap_cell hR1.2.2 0).1
  have f2 := (heap_cell hR1.2.2 0).2
  simp only [List.getElem?_toArray, List.getElem?_cons_zero] at c1 c2
  go_wp2_with fail
  refine hNew.out.mono ?_
  rintro x w3 ⟨B, rfl, hBn, hp3, hb3⟩
  have hR3 := hR2.out.below hb3 (by omega)
  have hB3 := hB2.out.trans (hb3.mono (by omega))
  clear c1 f1 c2 f2 hown hNew
  go_wp2_with fail
  refine (HPart B w3 hp3).out.mono ?_
  rintro x w4 ⟨hb4, rfl⟩
  obtain ⟨hR4, hB4⟩ := stay B w3 w4 hBn hR3 hB3 hb4
  exact hbad w4 q _ hR4 hB4 rfl rfl rfl
 | ok b r1 =>
  rw [hm] at HPart
  clear hm
  simp only [bd_ok]
  have HEnd := fun B w' (hp : PAt (B + 1) w' B r1 0) => HEnd B w' r1 hp
  cases hk : isK (-1) r1 with
  | false =>
   rw [show endM b r1 = .bad (hA r1) by unfold endM; rw [hk]; rfl]
   simp only [hk, Bool.false_eq_true, if_false] at HEnd
   go_enter_defers Tryz.func18, Tryz.ntmps18
   go_wp2_with fail
   refine (HL _).out.mono ?_
   rintro x w1 ⟨v, rfl, hown, hb1⟩
   have hR1 := hR0.below hb1 (by omega)
   have hB1 := b0.trans (hb1.mono (by omega))
   obtain ⟨hR2, hB2, hs1, hNew⟩ := start w1 v (by rw [hs0] at hown; exact hown) hR1 hB1
   have hl1 := hR1.lt
   have c1 := (heap_cell hR1.2.1 0).1
   have f1 := (heap_cell hR1.2.1 0).2
   have c2 := (heap_cell hR1.2.2 0).1
   have f2 := (heap_cell hR1.2.2 0).2
   simp only [List.getElem?_toArray, List.getElem?_cons_zero] at c1 c2
   go_wp2_with fail
   refine hNew.out.mono ?_
   rintro x w3 ⟨B, rfl, hBn, hp3, hb3⟩
   have hR3 := hR2.out.below hb3 (by omega)
   have hB3 := hB2.out.trans (hb3.mono (by omega))
   clear c1 f1 c2 f2 hown hNew
   go_wp2_with fail
   refine (HPart B w3 hp3).out.mono ?_
   rintro x w4 ⟨hb4, hl4, hp4, v4, rfl, hv⟩
   obtain ⟨hR4, hB4⟩ := stay B w3 w4 hBn hR3 hB3 hb4
   have hsz4 := hB4.size
   have hl4' := hR4.lt
   have hv' := hv
   obtain ⟨xa, xb, xc, rfl, q1, q2, q3⟩ := hv
   have hone : (#[xa, xb, xc] : Array Value).all (·.oneCell') = true := by simp [rep.one q1, rep.one q2, rep.one q3]
   have hbW : Below w4.heap.size w4 ((w4.alloc (.cells #[.slice none 0 0, .slice none 0 0, .slice none 0 0] 27)).setRow w4.heap.size #[xa, xb, xc]) := below_row (below_al (Below.refl _ _) _) (Nat.le_refl _) _
   go_wp2_with (with_reducible refine (id (?_ : wpList _ _ _ (Oper.mk _ (Op.store _ _ _) _ _ _ _ :: _) _ _)); refine wpList_store_row rfl _ _ _ rfl _ _ rfl rfl _ _ (heap_alloc_new w4 _) infoBase rfl rfl hone ?_)
   refine (HEnd B _ (hp4.via hbW)).out.mono ?_
   rintro x w5 ⟨hb5, rfl⟩
   have hR5 := hR4.below (hb5.via hbW) (by omega)
   have hB5 := hB4.trans ((hb5.via hbW).mono (by omega))
   exact hbad w5 _ _ hR5 hB5 rfl rfl rfl
  | true =>
   rw [show endM b r1 = .ok b r1 by unfold endM; rw [hk]; rfl]
   simp only [hk, if_true] at HEnd
   go_enter_defers Tryz.func18, Tryz.ntmps18
   go_wp2_with fail
   refine (HL _).out.mono ?_
   rintro x w1 ⟨v, rfl, hown, hb1⟩
   have hR1 := hR0.below hb1 (by omega)
   have hB1 := b0.trans (hb1.mono (by omega))
   obtain ⟨hR2, hB2, hs1, hNew⟩ := start w1 v (by rw [hs0] at hown; exact hown) hR1 hB1
   have hl1 := hR1.lt
   have c1 := (heap_cell hR1.2.1 0).1
   have f1 := (heap_cell hR1.2.1 0).2
   have c2 := (heap_cell hR1.2.2 0).1
   have f2 := (heap_cell hR1.2.2 0).2
   simp only [List.getElem?_toArray, List.getElem?_cons_zero] at c1 c2
   go_wp2_with fail
   refine hNew.out.mono ?_
   rintro x w3 ⟨B, rfl, hBn, hp3, hb3⟩
   have hR3 := hR2.out.below hb3 (by omega)
   have hB3 := hB2.out.trans (hb3.mono (by omega))
   clear c1 f1 c2 f2 hown hNew
   go_wp2_with fail
   refine (HPart B w3 hp3).out.mono ?_
   rintro x w4 ⟨hb4, hl4, hp4, v4, rfl, hv⟩
   obtain ⟨hR4, hB4⟩ := stay B w3 w4 hBn hR3 hB3 hb4
   have hsz4 := hB4.size
   have hl4' := hR4.lt
   have hv' := hv
   obtain ⟨xa, xb, xc, rfl, q1, q2, q3⟩ := hv
   have hone : (#[xa, xb, xc] : Array Value).all (·.oneCell') = true := by simp [rep.one q1, rep.one q2, rep.one q3]
   have hbW : Below w4.heap.size w4 ((w4.alloc (.cells #[.slice none 0 0, .slice none 0 0, .slice none 0 0] 27)).setRow w4.heap.size #[xa, xb, xc]) := below_row (below_al (Below.refl _ _) _) (Nat.le_refl _) _
   go_wp2_with (with_reducible refine (id (?_ : wpList _ _ _ (Oper.mk _ (Op.store _ _ _) _ _ _ _ :: _) _ _)); refine wpList_store_row rfl _ _ _ rfl _ _ rfl rfl _ _ (heap_alloc_new w4 _) infoBase rfl rfl hone ?_)
   refine (HEnd B _ (hp4.via hbW)).out.mono ?_
   rintro x w5 ⟨hb5, rfl⟩
   have hR5 := Hid.intro (hR4.below (hb5.via hbW) (by omega))
   have hB5 := Hid.intro (hB4.trans ((hb5.via hbW).mono (by omega)))
   have HR5a : Hid (w5.heap[w.heap.size]? = some (.cells #[.slice none 0 0, .slice none 0 0, .slice none 0 0] 27 (0, 0))) := hR5.out.1
   have hT5 := Hid.intro (row_call hb5 (by simp) (setRow_heap _ _ _ _ _ _ (heap_alloc_new w4 (.cells #[.slice none 0 0, .slice none 0 0, .slice none 0 0] 27))))
   have hR6 := hR5.out.row #[xa, xb, xc]
   have hB6 : Below w.heap.size w _ := below_row hB5.out (Nat.le_refl _) #[xa, xb, xc]
   have c5 := (heap_cell hR6.2.1 0).1
   have c6 := (heap_cell hR6.2.2 0).1
   have c5f := (heap_cell hR6.2.1 0).2
   have c6f := (heap_cell hR6.2.2 0).2
   have hl5 := hR6.lt
   simp only [List.getElem?_toArray, List.getElem?_cons_zero] at c5 c6
   go_wp2_with (first | (with_reducible refine (id (?_ : wpList _ _ _ (Oper.mk _ (Op.load _ _) _ _ _ _ :: _) _ _)); refine wpList_load_cells rfl _ _ rfl _ rfl _ _ _ hT5.out Tryz.underlying27 infoBase rfl ?_) | (with_reducible refine (id (?_ : wpList _ _ _ (Oper.mk _ (Op.store _ _ _) _ _ _ _ :: _) _ _)); refine wpList_store_row rfl _ _ _ rfl _ _ rfl rfl _ _ HR5a.out infoBase rfl rfl hone ?_))
   have hR7 := (hR6.put1 0).put2 0
   have hB7 := (hB6.setCell (p := ⟨w.heap.size + 1, 0, none⟩) (by simp) (.int .i64 0)).setCell (p := ⟨w.heap.size + 1 + 1, 0, none⟩) (by simp only; omega) (.int .i64 0)
   have hk : Kp (fun k => w3.heap.size ≤ k) w4 (((w5.setRow w.heap.size #[xa, xb, xc]).setCell ⟨w.heap.size + 1, 0, none⟩ (.int .i64 0)).setCell ⟨w.heap.size + 1 + 1, 0, none⟩ (.int .i64 0)) := by
    have hn3 := hR3.lt
    have h45 := hb5.via hbW
    refine ⟨by simpa using h45.size, fun b hb hlt o => World.cell?_of_block (a := ⟨b, o, none⟩) ?_⟩
    exact (Below.heap_setCell _ _ _ _ (by simp only; omega)).trans ((Below.heap_setCell _ _ _ _ (by simp only; omega)).trans ((setRow_other _ _ _ _ (by simp only; omega)).trans (h45.block b hlt)))
   refine leaves_cons (f := 31) (args := #[.pointer (some ⟨w.heap.size + 1, 0, none⟩), .pointer (some ⟨w.heap.size + 1 + 1, 0, none⟩)]) (by simp) (by simp [go_sem]) ?_
   refine (catchB_idle (w.heap.size + 1) (w.heap.size + 1 + 1) _).mono ?_
   rintro e u' w'' ⟨rfl, hset, rfl⟩
   show Leaves _ _ _ _ [] (settle u') _
   rw [hset]
   exact ⟨_, res3B rfl rfl rfl hR7 rfl, hB7, _, rfl, BsV.move hv' hk (fun b _ h => by have := hR3.lt; omega)⟩
end
end Go.Proofs.YtoeodjobggodcaaGreatDoor
/- The lexemes of a text are good ones. -/
namespace Go.Proofs.YtoeodjobggodcaaGreatDoor
section
open Go.RowKit
def gdX (x : Lx) : Prop := 0 ≤ x.k ∧ (x.k = 2 → x.t.data.toList ≠ [] ∧ x.t.size ≤ 1000000 ∧ ∀ c ∈ x.t.data.toList, isDig c = true)
theorem gd_of : ∀ (xs : List Lx) (z : Lx), (∀ x ∈ xs, gdX x) → z.k = -1 → Gd (xs ++ [z])
 | [], z, _, hz => hz
 | [x], z, h, hz => ⟨h x (by simp), hz⟩
 | x :: y :: r, z, h, hz => ⟨h x (by simp), gd_of (y :: r) z (fun x hx => h x (by simp [hx])) hz⟩
theorem mem_tw (p : UInt8 → Bool) : ∀ (l : List UInt8) {d : UInt8}, d ∈ l.takeWhile p → p d = true
 | [], d, h => by simp at h
 | c :: l, d, h => by
  rw [List.takeWhile_cons] at h
  split at h
  ·rename_i hc
   rcases List.mem_cons.1 h with rfl | h
   ·exact hc
   ·exact mem_tw p l h
  ·simp at h
theorem one_good {a : Nat} {l : List UInt8} {x : Lx} (h : oneL a l = some x) (hl : l.length ≤ 1000000) : gdX x := by
 unfold oneL at h
 split at h
 ·cases h
 ·rename_i c r
  split at h
  ·cases h; exact ⟨by simp, fun e => by simp at e⟩
  ·split at h
   ·rename_i hd
    cases h
    refine ⟨by simp, fun _ => ⟨?_, ?_, ?_⟩⟩
    ·have := takeWhile_pos (p := isDig) (c := c) (r := r) hd
     intro e
     have e' : (c :: r).takeWhile isDig = [] := by simpa [bs] using e
     rw [e'] at this
     exact absurd this (by simp)
    ·have := takeWhile_le isDig (c :: r)
     show ((c :: r).takeWhile isDig).toArray.size ≤ _
     rw [List.size_toArray]; omega
    ·intro d hd'
     have hd' : d ∈ (c :: r).takeWhile isDig := by simpa [bs] using hd'
     exact mem_tw isDig _ hd'
   ·split at h
    ·unfold varL at h
     split at h
     ·split at h
      ·cases h; exact ⟨by simp, fun e => by simp at e⟩
      ·cases h
     ·cases h
    ·split at h
     ·unfold quoL at h
      obtain ⟨p, -, rfl⟩ := Option.map_eq_some_iff.1 h
      exact ⟨by simp, fun e => by simp at e⟩
     ·unfold markL at h
      simp only at h
      split at h
      ·cases h; exact ⟨by simp, fun e => by simp at e⟩
      ·split at h
       ·cases h; exact ⟨by simp, fun e => by simp at e⟩
       ·cases h
theorem tells_good : ∀ (m a : Nat) (l : List UInt8), l.length ≤ m → l.length ≤ 1000000 → ∀ z ∈ tells a l, z.2 = true → gdX z.1
 | m, a, l, hm, hl, z, hz, h2 => by
  cases hd : l.drop (blk false l) with
  | nil => rw [tells_end hd] at hz; cases hz
  | cons c r =>
   have hlc := congrArg List.length hd
   rw [List.length_drop, List.length_cons] at hlc
   cases h1 : oneL (a + blk false l) (c :: r) with
   | none => rw [tells_no hd h1] at hz; simp at hz; subst hz; cases h2
   | some x =>
    have hp := oneL_pos h1
    rw [List.length_cons] at hp
    rw [tells_yes hd h1] at hz
    match m, hm with
    | 0, hm => omega
    | m + 1, hm =>
     rcases List.mem_cons.1 hz with rfl | hz
     ·exact one_good h1 (by simp; omega)
     ·exact tells_good m x.e (l.drop (x.e - a)) (by rw [List.length_drop]; omega) (by rw [List.length_drop]; omega) z hz h2
theorem gth_none : ∀ (T : List (Lx × Bool)) (k : Nat), gth k T = none → (∀ z ∈ T, z.2 = true) ∧ (k ≤ 4096 → k + T.length ≤ 4096)
 | [], k, _ => ⟨fun z hz => by simp at hz, fun h => by simpa using h⟩
 | z :: r, k, h => by
  rw [gth] at h
  split at h
  ·cases h
  ·rename_i hn
   obtain ⟨h1, h2⟩ := gth_none r (k + 1) h
   have hz : z.2 = true := by
    cases hb : z.2 with
    | true => rfl
    | false => exact absurd (.inl hb) hn
   have hk : k ≠ 4096 := fun e => hn (.inr e)
   refine ⟨fun y hy => ?_, fun h => ?_⟩
   ·rcases List.mem_cons.1 hy with rfl | hy
    ·exact hz
    ·exact h1 y hy
   ·have := h2 (by omega); simp; omega
theorem lexR_good {s : ByteArray} (h : s.size ≤ 65536) (hF : lexF s = none) : Gd (lexR s) ∧ (lexT s).length ≤ 4096 := by
 obtain ⟨h1, h2⟩ := gth_none _ 0 hF
 have hlen : (tl s 0).length ≤ 1000000 := by rw [tl_len]; omega
 refine ⟨gd_of _ _ (fun x hx => ?_) rfl, ?_⟩
 ·obtain ⟨z, hz, rfl⟩ := List.mem_map.1 hx
  exact tells_good _ 0 _ (Nat.le_refl _) hlen z hz (h1 z hz)
 ·have := h2 (by omega)
  rw [lexT_len]; omega
end
end Go.Proofs.YtoeodjobggodcaaGreatDoor
