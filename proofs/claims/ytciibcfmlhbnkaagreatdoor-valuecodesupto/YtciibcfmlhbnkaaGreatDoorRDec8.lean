/- proctorref1.Decode: what it tells. -/
import Derived.Test.YtciibcfmlhbnkaaGreatDoorRDec7
import Derived.Test.YtciibcfmlhbnkaaGreatDoorRMay
namespace Go.Proofs.YtciibcfmlhbnkaaGreatDoor
open Go.RowKit

set_option maxHeartbeats 1000000 in
theorem rno_any (i : Int) (w : World) : Calls Tryz.prog 52 #[.int .i64 i] w fun e w' => e = .returned (.tuple #[.agg #[.int .i64 0, .bool false, .int .i64 0, .string ⟨#[]⟩, .slice none 0 0], .int .i64 i]) ∧ Below w.heap.size w w' := by
  go_enter Tryz.func52, Tryz.ntmps52
  go_wp2
  refine bodyPost_ret (v := .tuple #[.agg #[.int .i64 0, .bool false, .int .i64 0, .string ⟨#[]⟩, .slice none 0 0], .int .i64 i]) (by simp [results, Tryz.results52, go_sem]) rfl ⟨rfl, ?_⟩
  (repeat (first | with_reducible exact Below.refl _ _ | with_reducible refine below_al ?_ _ | with_reducible refine below_put ?_ (Nat.le_refl _) _))

set_option maxRecDepth 20000 in
set_option maxHeartbeats 2000000 in
theorem RDecode_no {w : World} {G off cap : Nat} {l : List UInt8} (hb : Bys w G off l) (hG : G < w.heap.size) (hle : l.length ≤ cap) (hcap : cap ≤ 9223372036854775807) (hl : l.length ≤ 1000000000) (hd : rdec 31 l = none) :
    Calls Tryz.prog 32 #[.slice (some ⟨G, off, none⟩) l.length cap] w fun e w' => Below w.heap.size w w' ∧ e = .returned (.tuple #[.agg #[.int .i64 0, .bool false, .int .i64 0, .string ⟨#[]⟩, .slice none 0 0], .int .i64 8]) := by
  have hA : Below w.heap.size w ((w.alloc (.cells #[.int .i64 0, .bool false, .int .i64 0, .string ⟨#[]⟩, .slice none 0 0] 28)).alloc (.cells #[.slice (some ⟨G, off, none⟩) l.length cap, .bool false] 103)) := below_al (below_al (Below.refl _ _) _) _
  have hR : Rd ((w.alloc (.cells #[.int .i64 0, .bool false, .int .i64 0, .string ⟨#[]⟩, .slice none 0 0] 28)).alloc (.cells #[.slice (some ⟨G, off, none⟩) l.length cap, .bool false] 103)) (w.heap.size + 1) G off cap l :=
    ⟨by simp, by simp, by simp, by simp, hle, hcap, by simp, by simp; omega, by omega, fun j hj => (hA.cell (p := ⟨G, off + j, none⟩) hG).trans (hb j hj)⟩
  have HV := Hid.intro (rval_at 31 0 rfl _ _ _ _ _ _ hR hl)
  rw [hd] at HV
  have HN := Hid.intro (fun w' => rno_any 8 w')
  clear hb hR hd
  go_enter Tryz.func32, Tryz.ntmps32
  go_wp2_with fail
  refine HV.out.mono ?_
  rintro e w1 ⟨h2, ⟨k, b, i, s, p, m, c, rfl⟩, h3⟩
  have g0 := fun j => h2.cell (g := w.heap.size) (j := j) (by simp; omega) (by omega)
  have z0 := fun j => h2.froz (g := w.heap.size) (j := j) (by simp; omega) (by omega)
  have hs : w.heap.size + 1 < w1.heap.size := by have := h2.size; simp at this; omega
  have hs2 : w.heap.size < w1.heap.size := by omega
  have hs3 : w.heap.size < w1.heap.size + 1 := by omega
  have n1 : ¬ w1.heap.size = w.heap.size := by omega
  have n2 : ¬ w.heap.size = w1.heap.size := by omega
  have hB : Hid (Below w.heap.size w w1) := Hid.intro (h2.toBelow hA (by omega))
  clear HV h2 hA
  have c1 := h3.c1
  obtain ⟨p0, m0, k0, c0⟩ := h3.c0
  go_wp2_with fail
  refine (HN.out _).mono ?_
  rintro e w2 ⟨rfl, hb2⟩
  have g2 := fun j => hb2.cell (p := ⟨w.heap.size, j, none⟩) (by simp; omega)
  have z2 := fun j => hb2.frozen (p := ⟨w.heap.size, j, none⟩) (by simp; omega)
  have hs4 : w.heap.size < w2.heap.size := by have := hb2.size; simp at this; omega
  have HB2 : Hid (Below w.heap.size w w2) := Hid.intro (hb2.via (below_al hB.out _))
  clear hb2
  go_wp2_with fail
  refine bodyPost_ret (v := .tuple #[.agg #[.int .i64 0, .bool false, .int .i64 0, .string ⟨#[]⟩, .slice none 0 0], .int .i64 8]) (by simp [results, Tryz.results32, go_sem, g0, g2, hs2]) rfl ⟨?_, rfl⟩
  (repeat (first | with_reducible exact HB2.out | with_reducible refine below_al ?_ _ | with_reducible refine below_put ?_ (Nat.le_refl _) _))
set_option maxRecDepth 20000 in
set_option maxHeartbeats 2000000 in
theorem RDecode_more {w : World} {G off cap : Nat} {l : List UInt8} (hb : Bys w G off l) (hG : G < w.heap.size) (hle : l.length ≤ cap) (hcap : cap ≤ 9223372036854775807) (hl : l.length ≤ 1000000000) {t : Tr} {c0 : UInt8} {r : List UInt8} (hd : rdec 31 l = some (t, c0 :: r)) :
    Calls Tryz.prog 32 #[.slice (some ⟨G, off, none⟩) l.length cap] w fun e w' => Below w.heap.size w w' ∧ e = .returned (.tuple #[.agg #[.int .i64 0, .bool false, .int .i64 0, .string ⟨#[]⟩, .slice none 0 0], .int .i64 8]) := by
  have hA : Below w.heap.size w ((w.alloc (.cells #[.int .i64 0, .bool false, .int .i64 0, .string ⟨#[]⟩, .slice none 0 0] 28)).alloc (.cells #[.slice (some ⟨G, off, none⟩) l.length cap, .bool false] 103)) := below_al (below_al (Below.refl _ _) _) _
  have hR : Rd ((w.alloc (.cells #[.int .i64 0, .bool false, .int .i64 0, .string ⟨#[]⟩, .slice none 0 0] 28)).alloc (.cells #[.slice (some ⟨G, off, none⟩) l.length cap, .bool false] 103)) (w.heap.size + 1) G off cap l :=
    ⟨by simp, by simp, by simp, by simp, hle, hcap, by simp, by simp; omega, by omega, fun j hj => (hA.cell (p := ⟨G, off + j, none⟩) hG).trans (hb j hj)⟩
  have HV := Hid.intro (rval_at 31 0 rfl _ _ _ _ _ _ hR hl)
  rw [hd] at HV
  have HN := Hid.intro (fun w' => rno_any 8 w')
  clear hb hR hd
  go_enter Tryz.func32, Tryz.ntmps32
  go_wp2_with fail
  refine HV.out.mono ?_
  rintro e w1 ⟨h2, sv, rfl, hvs, o1, k1, h3⟩
  have g0 := fun j => h2.cell (g := w.heap.size) (j := j) (by simp; omega) (by omega)
  have z0 := fun j => h2.froz (g := w.heap.size) (j := j) (by simp; omega) (by omega)
  have hs : w.heap.size + 1 < w1.heap.size := by have := h2.size; simp at this; omega
  have hs2 : w.heap.size < w1.heap.size := by omega
  have hs3 : w.heap.size < w1.heap.size + 1 := by omega
  have n1 : ¬ w1.heap.size = w.heap.size := by omega
  have n2 : ¬ w.heap.size = w1.heap.size := by omega
  have hB : Hid (Below w.heap.size w w1) := Hid.intro (h2.toBelow hA (by omega))
  clear HV h2 hA
  have c1 := h3.c1
  have c0 := h3.c0
  dsimp only at c0 hvs
  obtain ⟨xa, xc, rfl, -, -⟩ := hvs.vs.form
  obtain ⟨tk, tb, ti, tz, tl⟩ := t
  unfold vv
  clear hvs h3
  have hz : (0 : Int) < (r.length : Int) + 1 := by omega
  go_wp2_with fail
  refine (HN.out _).mono ?_
  rintro e w2 ⟨rfl, hb2⟩
  have g2 := fun j => hb2.cell (p := ⟨w.heap.size, j, none⟩) (by simp; omega)
  have z2 := fun j => hb2.frozen (p := ⟨w.heap.size, j, none⟩) (by simp; omega)
  have hs4 : w.heap.size < w2.heap.size := by have := hb2.size; simp at this; omega
  have HB2 : Hid (Below w.heap.size w w2) := Hid.intro (hb2.via (below_al hB.out _))
  clear hb2
  go_wp2_with fail
  refine bodyPost_ret (v := .tuple #[.agg #[.int .i64 0, .bool false, .int .i64 0, .string ⟨#[]⟩, .slice none 0 0], .int .i64 8]) (by simp [results, Tryz.results32, go_sem, g0, g2, hs2]) rfl ⟨?_, rfl⟩
  (repeat (first | with_reducible exact HB2.out | with_reducible refine below_al ?_ _ | with_reducible refine below_put ?_ (Nat.le_refl _) _))
set_option maxRecDepth 20000 in
set_option maxHeartbeats 2000000 in
theorem RDecode_unfit {w : World} {G off cap : Nat} {l : List UInt8} (hb : Bys w G off l) (hG : G < w.heap.size) (hle : l.length ≤ cap) (hcap : cap ≤ 9223372036854775807) (hl : l.length ≤ 1000000000) {t : Tr} (hd : rdec 31 l = some (t, [])) (hf : fit 30 t = false) :
    Calls Tryz.prog 32 #[.slice (some ⟨G, off, none⟩) l.length cap] w fun e w' => Below w.heap.size w w' ∧ e = .returned (.tuple #[.agg #[.int .i64 0, .bool false, .int .i64 0, .string ⟨#[]⟩, .slice none 0 0], .int .i64 8]) := by
  have hA : Below w.heap.size w ((w.alloc (.cells #[.int .i64 0, .bool false, .int .i64 0, .string ⟨#[]⟩, .slice none 0 0] 28)).alloc (.cells #[.slice (some ⟨G, off, none⟩) l.length cap, .bool false] 103)) := below_al (below_al (Below.refl _ _) _) _
  have hR : Rd ((w.alloc (.cells #[.int .i64 0, .bool false, .int .i64 0, .string ⟨#[]⟩, .slice none 0 0] 28)).alloc (.cells #[.slice (some ⟨G, off, none⟩) l.length cap, .bool false] 103)) (w.heap.size + 1) G off cap l :=
    ⟨by simp, by simp, by simp, by simp, hle, hcap, by simp, by simp; omega, by omega, fun j hj => (hA.cell (p := ⟨G, off + j, none⟩) hG).trans (hb j hj)⟩
  have HV := Hid.intro (rval_at 31 0 rfl _ _ _ _ _ _ hR hl)
  rw [hd] at HV
  have HN := Hid.intro (fun w' => rno_any 8 w')
  clear hb hR hd
  go_enter Tryz.func32, Tryz.ntmps32
  go_wp2_with fail
  refine HV.out.mono ?_
  rintro e w1 ⟨h2, sv, rfl, hvs, o1, k1, h3⟩
  have g0 := fun j => h2.cell (g := w.heap.size) (j := j) (by simp; omega) (by omega)
  have z0 := fun j => h2.froz (g := w.heap.size) (j := j) (by simp; omega) (by omega)
  have hs : w.heap.size + 1 < w1.heap.size := by have := h2.size; simp at this; omega
  have hs2 : w.heap.size < w1.heap.size := by omega
  have hs3 : w.heap.size < w1.heap.size + 1 := by omega
  have n1 : ¬ w1.heap.size = w.heap.size := by omega
  have n2 : ¬ w.heap.size = w1.heap.size := by omega
  have hB : Hid (Below w.heap.size w w1) := Hid.intro (h2.toBelow hA (by omega))
  clear HV h2 hA
  have c1 := h3.c1
  have c0 := h3.c0
  dsimp only at c0 hvs
  obtain ⟨xa, xc, rfl, -, -⟩ := hvs.vs.form
  have HVS := Hid.intro (VsB.vs _ _ _ hvs)
  have HC := Hid.intro (fun w' hb => rcheck_any 32 t _ w' (Vs.below (w' := w') hb _ _ _ HVS.out))
  rw [hf] at HC
  obtain ⟨tk, tb, ti, tz, tl⟩ := t
  unfold vv
  unfold vv at HC
  clear hvs h3
  have hl0 : ¬ (0 : Int) < 0 := by decide
  go_wp2_with fail
  refine (HC.out _ (below_al (Below.refl _ _) _)).mono ?_
  rintro e w2 ⟨rfl, hb2⟩
  have hb12 : Below w1.heap.size w1 w2 := hb2.via (below_al (Below.refl _ _) _)
  have g2 := fun j => hb2.cell (p := ⟨w.heap.size, j, none⟩) (by simp; omega)
  have z2 := fun j => hb2.frozen (p := ⟨w.heap.size, j, none⟩) (by simp; omega)
  have v2 := fun j => hb2.cell (p := ⟨w1.heap.size, j, none⟩) (by simp)
  have hs4 : w.heap.size < w2.heap.size := by have := hb2.size; simp at this; omega
  have hs5 : w1.heap.size < w2.heap.size := by have := hb2.size; simp at this; omega
  have HB2 : Hid (Below w.heap.size w w2) := Hid.intro (hb12.via hB.out)
  clear hb2 hb12
  go_wp2_with fail
  refine (HN.out _).mono ?_
  rintro e w3 ⟨rfl, hb3⟩
  have g3 := fun j => hb3.cell (p := ⟨w.heap.size, j, none⟩) (by first | omega | (simp; omega))
  have z3 := fun j => hb3.frozen (p := ⟨w.heap.size, j, none⟩) (by first | omega | (simp; omega))
  have hs6 : w.heap.size < w3.heap.size := by have := hb3.size; first | omega | (simp at this; omega)
  have HB3 : Hid (Below w.heap.size w w3) := Hid.intro (hb3.via HB2.out)
  clear hb3
  go_wp2_with fail
  refine bodyPost_ret (v := .tuple #[.agg #[.int .i64 0, .bool false, .int .i64 0, .string ⟨#[]⟩, .slice none 0 0], .int .i64 8]) (by simp [results, Tryz.results32, go_sem, g0, g2, g3, hs2]) rfl ⟨?_, rfl⟩
  (repeat (first | with_reducible exact HB3.out | with_reducible refine below_al ?_ _ | with_reducible refine below_put ?_ (Nat.le_refl _) _))
set_option maxRecDepth 20000 in
set_option maxHeartbeats 2000000 in
theorem RDecode_yes {w : World} {G off cap : Nat} {l : List UInt8} (hb : Bys w G off l) (hG : G < w.heap.size) (hle : l.length ≤ cap) (hcap : cap ≤ 9223372036854775807) (hl : l.length ≤ 1000000000) {t : Tr} (hd : rdec 31 l = some (t, [])) (hf : fit 30 t = true) :
    Calls Tryz.prog 32 #[.slice (some ⟨G, off, none⟩) l.length cap] w fun e w' => Below w.heap.size w w' ∧ ∃ sv, e = .returned (.tuple #[vv t sv, .int .i64 0]) ∧ Vs w' 32 t sv := by
  have hA : Below w.heap.size w ((w.alloc (.cells #[.int .i64 0, .bool false, .int .i64 0, .string ⟨#[]⟩, .slice none 0 0] 28)).alloc (.cells #[.slice (some ⟨G, off, none⟩) l.length cap, .bool false] 103)) := below_al (below_al (Below.refl _ _) _) _
  have hR : Rd ((w.alloc (.cells #[.int .i64 0, .bool false, .int .i64 0, .string ⟨#[]⟩, .slice none 0 0] 28)).alloc (.cells #[.slice (some ⟨G, off, none⟩) l.length cap, .bool false] 103)) (w.heap.size + 1) G off cap l :=
    ⟨by simp, by simp, by simp, by simp, hle, hcap, by simp, by simp; omega, by omega, fun j hj => (hA.cell (p := ⟨G, off + j, none⟩) hG).trans (hb j hj)⟩
  have HV := Hid.intro (rval_at 31 0 rfl _ _ _ _ _ _ hR hl)
  rw [hd] at HV
  have HN := Hid.intro (fun w' => rno_any 8 w')
  clear hb hR hd
  go_enter Tryz.func32, Tryz.ntmps32
  go_wp2_with fail
  refine HV.out.mono ?_
  rintro e w1 ⟨h2, sv, rfl, hvs, o1, k1, h3⟩
  have g0 := fun j => h2.cell (g := w.heap.size) (j := j) (by simp; omega) (by omega)
  have z0 := fun j => h2.froz (g := w.heap.size) (j := j) (by simp; omega) (by omega)
  have hs : w.heap.size + 1 < w1.heap.size := by have := h2.size; simp at this; omega
  have hs2 : w.heap.size < w1.heap.size := by omega
  have hs3 : w.heap.size < w1.heap.size + 1 := by omega
  have n1 : ¬ w1.heap.size = w.heap.size := by omega
  have n2 : ¬ w.heap.size = w1.heap.size := by omega
  have hB : Hid (Below w.heap.size w w1) := Hid.intro (h2.toBelow hA (by omega))
  clear HV h2 hA
  have c1 := h3.c1
  have c0 := h3.c0
  dsimp only at c0 hvs
  obtain ⟨xa, xc, rfl, -, -⟩ := hvs.vs.form
  have HVS := Hid.intro (VsB.vs _ _ _ hvs)
  have HVX := Hid.intro hvs
  have HC := Hid.intro (fun w' hb => rcheck_any 32 t _ w' (Vs.below (w' := w') hb _ _ _ HVS.out))
  rw [hf] at HC
  obtain ⟨tk, tb, ti, tz, tl⟩ := t
  unfold vv
  unfold vv at HC
  clear hvs h3
  have hl0 : ¬ (0 : Int) < 0 := by decide
  go_wp2_with fail
  refine (HC.out _ (below_al (Below.refl _ _) _)).mono ?_
  rintro e w2 ⟨rfl, hb2⟩
  have hb12 : Below w1.heap.size w1 w2 := hb2.via (below_al (Below.refl _ _) _)
  have g2 := fun j => hb2.cell (p := ⟨w.heap.size, j, none⟩) (by simp; omega)
  have z2 := fun j => hb2.frozen (p := ⟨w.heap.size, j, none⟩) (by simp; omega)
  have v2 := fun j => hb2.cell (p := ⟨w1.heap.size, j, none⟩) (by simp)
  have hs4 : w.heap.size < w2.heap.size := by have := hb2.size; simp at this; omega
  have hs5 : w1.heap.size < w2.heap.size := by have := hb2.size; simp at this; omega
  have HB2 : Hid (Below w.heap.size w w2) := Hid.intro (hb12.via hB.out)
  have HVB := Hid.intro (VsB.move (Q := (w.heap.size + 1 ≤ ·)) (Kept.below hb12) (fun b hb => by simp at hb; omega) _ _ _ HVX.out)
  clear hb2 hb12
  go_wp2_with fail
  refine bodyPost_ret (v := .tuple #[.agg #[.int .i64 tk, .bool tb, .int .i64 ti, .string tz, .slice xa tl.length xc], .int .i64 0]) (by simp [results, Tryz.results32, go_sem, g0, g2, hs2]) rfl ⟨?_, .slice xa tl.length xc, rfl, ?_⟩
  · (repeat (first | with_reducible exact HB2.out | with_reducible refine below_al ?_ _ | with_reducible refine below_put ?_ (Nat.le_refl _) _))
  · refine (VsB.move (Q := fun _ => True) ?_ (fun _ _ => trivial) _ _ _ HVB.out).vs
    (repeat (first | with_reducible exact Kept.refl _ _ | with_reducible refine Kept.put ?_ (by show ¬ _ ≤ _; omega) _))
end Go.Proofs.YtciibcfmlhbnkaaGreatDoor
