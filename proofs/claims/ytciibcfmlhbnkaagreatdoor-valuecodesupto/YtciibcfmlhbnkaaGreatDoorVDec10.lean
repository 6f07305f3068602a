/- value.Decode: what it tells. -/
import Derived.Test.YtciibcfmlhbnkaaGreatDoorVDec9
namespace Go.Proofs.YtciibcfmlhbnkaaGreatDoor
open Go.RowKit

theorem Kept.al {P : Nat → Prop} {w0 w : World} (h : Kept P w0 w) (hs : w0.heap.size ≤ w.heap.size) (o : Obj) : Kept P w0 (w.alloc o) := fun g hg hlt k => by
  rw [← h g hg hlt k]
  exact World.cell?_of_block (a := ⟨g, k, none⟩) (heap_alloc_old w o (Nat.lt_of_lt_of_le hlt hs))

set_option maxRecDepth 20000 in
set_option maxHeartbeats 2000000 in
theorem Decode_no {w : World} {G off cap : Nat} {l : List UInt8} (hb : Bys w G off l) (hG : G < w.heap.size) (hle : l.length ≤ cap) (hcap : cap ≤ 9223372036854775807) (hl : l.length ≤ 1000000000) (hd : dec 30 l = none) :
    Calls Tryz.prog 31 #[.slice (some ⟨G, off, none⟩) l.length cap] w fun e w' => Below w.heap.size w w' ∧ e = .returned (.tuple #[.agg #[.int .i64 0, .bool false, .int .i64 0, .string ⟨#[]⟩, .slice none 0 0], .int .i64 8]) := by
  have hA : Below w.heap.size w ((w.alloc (.cells #[.int .i64 0, .bool false, .int .i64 0, .string ⟨#[]⟩, .slice none 0 0] 28)).alloc (.cells #[.slice (some ⟨G, off, none⟩) l.length cap, .bool false] 99)) := below_al (below_al (Below.refl _ _) _) _
  have hR : Rd ((w.alloc (.cells #[.int .i64 0, .bool false, .int .i64 0, .string ⟨#[]⟩, .slice none 0 0] 28)).alloc (.cells #[.slice (some ⟨G, off, none⟩) l.length cap, .bool false] 99)) (w.heap.size + 1) G off cap l :=
    ⟨by simp, by simp, by simp, by simp, hle, hcap, by simp, by simp; omega, by omega, fun j hj => (hA.cell (p := ⟨G, off + j, none⟩) hG).trans (hb j hj)⟩
  have HV := Hid.intro (val_at 30 (Nat.le_refl _) _ _ _ _ _ _ hR hl)
  rw [hd] at HV
  clear hb hR hd
  go_enter Tryz.func31, Tryz.ntmps31
  go_wp2_with fail
  refine HV.out.mono ?_
  rintro e w1 ⟨h2, ⟨k, b, i, s, p, m, c, rfl⟩, h3⟩
  have g0 := fun j => h2.cell (g := w.heap.size) (j := j) (by simp; omega) (by omega)
  have z0 := fun j => h2.froz (g := w.heap.size) (j := j) (by simp; omega) (by omega)
  have hs : w.heap.size + 1 < w1.heap.size := by have := h2.size; simp at this; omega
  have hs2 : w.heap.size < w1.heap.size := by omega
  have hs3 : w.heap.size < w1.heap.size + 1 := by omega
  have n1 : ¬ w1.heap.size = w.heap.size := by omega
  have n2 : ¬ w.heap.size = w1.heap.size := by omega
  have hB : Hid (Below w.heap.size w w1) := Hid.intro (h2.toBelow hA (by omega))
  clear HV h2 hA
  have c1 := h3.c1
  obtain ⟨p0, m0, k0, c0⟩ := h3.c0
  go_wp2_with fail
  refine bodyPost_ret (v := .tuple #[.agg #[.int .i64 0, .bool false, .int .i64 0, .string ⟨#[]⟩, .slice none 0 0], .int .i64 8]) (by simp [results, Tryz.results31, go_sem, g0, hs2]) rfl ⟨?_, rfl⟩
  (repeat (first | with_reducible exact hB.out | with_reducible refine below_al ?_ _ | with_reducible refine below_put ?_ (Nat.le_refl _) _))

set_option maxRecDepth 20000 in
set_option maxHeartbeats 2000000 in
theorem Decode_more {w : World} {G off cap : Nat} {l : List UInt8} (hb : Bys w G off l) (hG : G < w.heap.size) (hle : l.length ≤ cap) (hcap : cap ≤ 9223372036854775807) (hl : l.length ≤ 1000000000) {t : Tr} {c0 : UInt8} {r : List UInt8} (hd : dec 30 l = some (t, c0 :: r)) :
    Calls Tryz.prog 31 #[.slice (some ⟨G, off, none⟩) l.length cap] w fun e w' => Below w.heap.size w w' ∧ e = .returned (.tuple #[.agg #[.int .i64 0, .bool false, .int .i64 0, .string ⟨#[]⟩, .slice none 0 0], .int .i64 8]) := by
  have hA : Below w.heap.size w ((w.alloc (.cells #[.int .i64 0, .bool false, .int .i64 0, .string ⟨#[]⟩, .slice none 0 0] 28)).alloc (.cells #[.slice (some ⟨G, off, none⟩) l.length cap, .bool false] 99)) := below_al (below_al (Below.refl _ _) _) _
  have hR : Rd ((w.alloc (.cells #[.int .i64 0, .bool false, .int .i64 0, .string ⟨#[]⟩, .slice none 0 0] 28)).alloc (.cells #[.slice (some ⟨G, off, none⟩) l.length cap, .bool false] 99)) (w.heap.size + 1) G off cap l :=
    ⟨by simp, by simp, by simp, by simp, hle, hcap, by simp, by simp; omega, by omega, fun j hj => (hA.cell (p := ⟨G, off + j, none⟩) hG).trans (hb j hj)⟩
  have HV := Hid.intro (val_at 30 (Nat.le_refl _) _ _ _ _ _ _ hR hl)
  rw [hd] at HV
  clear hb hR hd
  go_enter Tryz.func31, Tryz.ntmps31
  go_wp2_with fail
  refine HV.out.mono ?_
  rintro e w1 ⟨h2, sv, rfl, hvs, o1, k1, h3⟩
  have g0 := fun j => h2.cell (g := w.heap.size) (j := j) (by simp; omega) (by omega)
  have z0 := fun j => h2.froz (g := w.heap.size) (j := j) (by simp; omega) (by omega)
  have hs : w.heap.size + 1 < w1.heap.size := by have := h2.size; simp at this; omega
  have hs2 : w.heap.size < w1.heap.size := by omega
  have hs3 : w.heap.size < w1.heap.size + 1 := by omega
  have n1 : ¬ w1.heap.size = w.heap.size := by omega
  have n2 : ¬ w.heap.size = w1.heap.size := by omega
  have hB : Hid (Below w.heap.size w w1) := Hid.intro (h2.toBelow hA (by omega))
  clear HV h2 hA
  have c1 := h3.c1
  have c0 := h3.c0
  dsimp only at c0 hvs
  obtain ⟨xa, xc, rfl, -, -⟩ := hvs.vs.form
  obtain ⟨tk, tb, ti, tz, tl⟩ := t
  unfold vv
  clear hvs h3
  have hz : ¬ ((r.length : Int) + 1 = 0) := by omega
  go_wp2_with fail
  refine bodyPost_ret (v := .tuple #[.agg #[.int .i64 0, .bool false, .int .i64 0, .string ⟨#[]⟩, .slice none 0 0], .int .i64 8]) (by simp [results, Tryz.results31, go_sem, g0, hs2]) rfl ⟨?_, rfl⟩
  (repeat (first | with_reducible exact hB.out | with_reducible refine below_al ?_ _ | with_reducible refine below_put ?_ (Nat.le_refl _) _))

set_option maxRecDepth 20000 in
set_option maxHeartbeats 2000000 in
theorem Decode_yes {w : World} {G off cap : Nat} {l : List UInt8} (hb : Bys w G off l) (hG : G < w.heap.size) (hle : l.length ≤ cap) (hcap : cap ≤ 9223372036854775807) (hl : l.length ≤ 1000000000) {t : Tr} (hd : dec 30 l = some (t, [])) :
    Calls Tryz.prog 31 #[.slice (some ⟨G, off, none⟩) l.length cap] w fun e w' => Below w.heap.size w w' ∧ ∃ sv, e = .returned (.tuple #[vv t sv, .int .i64 0]) ∧ Vs w' 31 t sv := by
  have hA : Below w.heap.size w ((w.alloc (.cells #[.int .i64 0, .bool false, .int .i64 0, .string ⟨#[]⟩, .slice none 0 0] 28)).alloc (.cells #[.slice (some ⟨G, off, none⟩) l.length cap, .bool false] 99)) := below_al (below_al (Below.refl _ _) _) _
  have hR : Rd ((w.alloc (.cells #[.int .i64 0, .bool false, .int .i64 0, .string ⟨#[]⟩, .slice none 0 0] 28)).alloc (.cells #[.slice (some ⟨G, off, none⟩) l.length cap, .bool false] 99)) (w.heap.size + 1) G off cap l :=
    ⟨by simp, by simp, by simp, by simp, hle, hcap, by simp, by simp; omega, by omega, fun j hj => (hA.cell (p := ⟨G, off + j, none⟩) hG).trans (hb j hj)⟩
  have HV := Hid.intro (val_at 30 (Nat.le_refl _) _ _ _ _ _ _ hR hl)
  rw [hd] at HV
  clear hb hR hd
  go_enter Tryz.func31, Tryz.ntmps31
  go_wp2_with fail
  refine HV.out.mono ?_
  rintro e w1 ⟨h2, sv, rfl, hvs, o1, k1, h3⟩
  have g0 := fun j => h2.cell (g := w.heap.size) (j := j) (by simp; omega) (by omega)
  have z0 := fun j => h2.froz (g := w.heap.size) (j := j) (by simp; omega) (by omega)
  have hs : w.heap.size + 1 < w1.heap.size := by have := h2.size; simp at this; omega
  have hs2 : w.heap.size < w1.heap.size := by omega
  have hs3 : w.heap.size < w1.heap.size + 1 := by omega
  have n1 : ¬ w1.heap.size = w.heap.size := by omega
  have n2 : ¬ w.heap.size = w1.heap.size := by omega
  have hB : Hid (Below w.heap.size w w1) := Hid.intro (h2.toBelow hA (by omega))
  clear HV h2 hA
  have c1 := h3.c1
  have c0 := h3.c0
  dsimp only at c0 hvs
  obtain ⟨xa, xc, rfl, -, -⟩ := hvs.vs.form
  obtain ⟨tk, tb, ti, tz, tl⟩ := t
  unfold vv
  have HVS := Hid.intro hvs
  clear hvs h3
  go_wp2_with fail
  refine bodyPost_ret (v := .tuple #[.agg #[.int .i64 tk, .bool tb, .int .i64 ti, .string tz, .slice xa tl.length xc], .int .i64 0]) (by simp [results, Tryz.results31, go_sem, g0, hs2]) rfl ⟨?_, .slice xa tl.length xc, rfl, ?_⟩
  · (repeat (first | with_reducible exact hB.out | with_reducible refine below_al ?_ _ | with_reducible refine below_put ?_ (Nat.le_refl _) _))
  · refine (VsB.move (Q := fun _ => True) ?_ (fun _ _ => trivial) _ _ _ HVS.out).vs
    (repeat (first | with_reducible exact Kept.refl _ _ | with_reducible refine Kept.al ?_ (by simp) _ | with_reducible refine Kept.put ?_ (by simp; omega) _))
end Go.Proofs.YtciibcfmlhbnkaaGreatDoor
