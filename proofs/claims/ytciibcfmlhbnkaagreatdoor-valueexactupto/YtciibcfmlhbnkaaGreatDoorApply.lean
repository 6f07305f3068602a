/- value.Apply of the operation for sums: what it tells. -/
import Derived.Test.YtciibcfmlhbnkaaGreatDoorFits
import Derived.Test.YtciibcfmlhbnkaaGreatDoorAdd
import Derived.Test.YtciibcfmlhbnkaaGreatDoorMaps
namespace Go.Proofs.YtciibcfmlhbnkaaGreatDoor
open Go.RowKit

/-- A slice of two values. -/
theorem two_cells {w : World} {n : Nat} {t1 t2 : Tr} {sv : Value} (h : Lv w (Vs w n) [t1, t2] sv) :
    ∃ b o cap s1 s2, sv = .slice (some ⟨b, o, none⟩) 2 cap ∧ 2 ≤ cap ∧ cap ≤ 9223372036854775807 ∧ Cel w b o t1 s1 ∧ Vs w n t1 s1 ∧ Cel w b (o + 5) t2 s2 ∧ Vs w n t2 s2 := by
  obtain ⟨a0, cap, rfl, h2, h3, h4⟩ := h
  obtain ⟨b, o, rfl, h5⟩ := h4 (by simp)
  obtain ⟨s1, c1, v1⟩ := h5 0 (by simp)
  obtain ⟨s2, c2, v2⟩ := h5 1 (by simp)
  exact ⟨b, o, cap, s1, s2, rfl, by simpa using h2, h3, by simpa using c1, v1, by simpa using c2, v2⟩

set_option maxRecDepth 10000 in
set_option maxHeartbeats 1000000 in
theorem apply_add (n : Nat) (t1 t2 : Tr) (sv : Value) (w : World) (hl : Lv w (Vs w n) [t1, t2] sv) (hf1 : fit 30 t1 = true) (hf2 : fit 30 t2 = true)
    (rk : Int) (rb : Bool) (ri : Int) (rs : ByteArray) (ra : Option Addr) (rn rc : Nat) (er : Int)
    (HC : ∀ s1 s2 w', Vs w n t1 s1 → Vs w n t2 s2 → Below w.heap.size w w' → Calls Tryz.prog 90 #[vv t1 s1, vv t2 s2] w' fun e w'' => e = .returned (.tuple #[.agg #[.int .i64 rk, .bool rb, .int .i64 ri, .string rs, .slice ra rn rc], .int .i64 er]) ∧ Below w'.heap.size w' w'') :
    Calls Tryz.prog 21 #[.int .i64 16, sv] w fun e w' => e = .returned (.tuple #[.agg #[.int .i64 rk, .bool rb, .int .i64 ri, .string rs, .slice ra rn rc], .int .i64 er]) ∧ Below w.heap.size w w' := by
  have HF := Hid.intro (fun w' hb => allFit_any n (fits_any n) 30 [t1, t2] sv w' (Nat.le_refl _) (hl.mono hb (fun t v => Vs.below hb n t v)))
  have hall : [t1, t2].all (fit 30) = true := by simp [hf1, hf2]
  rw [hall] at HF
  obtain ⟨b, o, cap, s1, s2, rfl, hc1, hc2, c1, v1, c2, v2⟩ := two_cells hl
  have HC' := Hid.intro (fun w' hb => HC s1 s2 w' v1 v2 hb)
  obtain ⟨a1, n1, rfl, -, -⟩ := v1.form
  obtain ⟨a2, n2, rfl, -, -⟩ := v2.form
  clear HC v1 v2 hl hf1 hf2 hall
  unfold vv at HC'
  go_enter Tryz.func21, Tryz.ntmps21
  go_wp2_with fail
  refine (HF.out _ ((Below.refl _ _).alloc (Nat.le_refl _) _)).mono ?_
  rintro e w1 ⟨rfl, hb1⟩
  have hb1' := Hid.intro (((Below.refl _ _).alloc (Nat.le_refl _) _).trans (hb1.mono (B' := w.heap.size) (by simp)))
  have hsz := hb1.size
  simp at hsz
  obtain ⟨hc, hf⟩ := bcell hb1 (N := w.heap.size + 1) (by simp)
  clear hb1 HF
  have HCm := Hid.intro (comparing_any w1)
  have HRm := Hid.intro (reckoning_any (w1.alloc (.map compEs 6)))
  have L1 := run_lookno _ _ und_two (w1.alloc (.map compEs 6)) _ (zero_onTwo _) w1.heap.size compEs 6 (heap_new _ _) 16 (by decide) rfl
  have L2 := run_look _ _ und_two ((w1.alloc (.map compEs 6)).alloc (.map reckEs 6)) (w1.heap.size + 1) reckEs 6 (by have := heap_new (w1.alloc (.map compEs 6)) (.map reckEs 6); simpa using this) 16 (by decide) 0 (.func (.func 90) #[] #[]) rfl
  go_wp2_with fail
  refine HCm.out.mono ?_
  rintro e w2 ⟨rfl, rfl⟩
  clear HCm
  go_wp2_with fail
  refine HRm.out.mono ?_
  rintro e w2 ⟨rfl, rfl⟩
  clear HRm
  have hlb : b < w.heap.size := cell_lt c1.1
  obtain ⟨p1, p2, p3, p4, p5⟩ := c1
  obtain ⟨q1, q2, q3, q4, q5⟩ := c2
  have hlb1 : b < w1.heap.size := by omega
  have hlw : w.heap.size < w1.heap.size := by omega
  have HC2 := Hid.intro (HC'.out ((w1.alloc (.map compEs 6)).alloc (.map reckEs 6)).drew ((below2 _ _ _).drew.via hb1'.out))
  clear HC'
  go_wp2
  go_region_with ((go_at_call 90; refine HC2.out.mono ?_; rintro e w2 ⟨rfl, hb2⟩; have hd : ∀ o, w2.cell? ⟨w.heap.size, o, none⟩ = w1.cell? ⟨w.heap.size, o, none⟩ := fun o => (hb2.cell (p := ⟨w.heap.size, o, none⟩) (by simp; omega)).trans ((below2 w1 (.map compEs 6) (.map reckEs 6)).cell (p := ⟨w.heap.size, o, none⟩) hlw); have hg : ∀ o, w2.frozen? ⟨w.heap.size, o, none⟩ = w1.frozen? ⟨w.heap.size, o, none⟩ := fun o => (hb2.frozen (p := ⟨w.heap.size, o, none⟩) (by simp; omega)).trans ((below2 w1 (.map compEs 6) (.map reckEs 6)).frozen (p := ⟨w.heap.size, o, none⟩) hlw)))
  all_goals go_wp2
  all_goals refine bodyPost_ret (v := .tuple #[.agg #[.int .i64 rk, .bool rb, .int .i64 ri, .string rs, .slice ra rn rc], .int .i64 er]) (by simp [results, Tryz.results21, go_sem, hd, hc]) rfl ⟨rfl, below_set5 ?_ (Nat.le_refl _) _ _ _ _ _⟩
  all_goals exact hb2.via ((below2 _ _ _).drew.via hb1'.out)
end Go.Proofs.YtciibcfmlhbnkaaGreatDoor
