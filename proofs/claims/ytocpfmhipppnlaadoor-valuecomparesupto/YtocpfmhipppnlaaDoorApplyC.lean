/- value.Apply of the operations that compare, and where it refuses: what it tells. -/
import Derived.Test.YtocpfmhipppnlaaDoorCmp
namespace Go.Proofs.YtocpfmhipppnlaaDoor
open Go.RowKit

set_option maxRecDepth 10000 in
set_option maxHeartbeats 1000000 in
theorem apply_10 (n : Nat) (t1 t2 : Tr) (sv : Value) (w : World) (hl : Lv w (Vs w n) [t1, t2] sv) (hf1 : fit 30 t1 = true) (hf2 : fit 30 t2 = true)
    (rk : Int) (rb : Bool) (ri : Int) (rs : ByteArray) (ra : Option Addr) (rn rc : Nat) (er : Int)
    (HC : ∀ s1 s2 w', Vs w n t1 s1 → Vs w n t2 s2 → Below w.heap.size w w' → Calls Tryd.prog 61 #[vv t1 s1, vv t2 s2] w' fun e w'' => e = .returned (.tuple #[.agg #[.int .i64 rk, .bool rb, .int .i64 ri, .string rs, .slice ra rn rc], .int .i64 er]) ∧ Below w'.heap.size w' w'') :
    Calls Tryd.prog 19 #[.int .i64 10, sv] w fun e w' => e = .returned (.tuple #[.agg #[.int .i64 rk, .bool rb, .int .i64 ri, .string rs, .slice ra rn rc], .int .i64 er]) ∧ Below w.heap.size w w' := by
  have HF := Hid.intro (fun w' hb => allFit_any n (fits_any n) 30 [t1, t2] sv w' (Nat.le_refl _) (hl.mono hb (fun t v => Vs.below hb n t v)))
  have hall : [t1, t2].all (fit 30) = true := by simp [hf1, hf2]
  rw [hall] at HF
  obtain ⟨b, o, cap, s1, s2, rfl, hc1, hc2, c1, v1, c2, v2⟩ := two_cells hl
  have HC' := Hid.intro (fun w' hb => HC s1 s2 w' v1 v2 hb)
  obtain ⟨a1, n1, rfl, -, -⟩ := v1.form
  obtain ⟨a2, n2, rfl, -, -⟩ := v2.form
  clear HC v1 v2 hl hf1 hf2 hall
  unfold vv at HC'
  go_enter Tryd.func19, Tryd.ntmps19
  go_wp2_with fail
  refine (HF.out _ ((Below.refl _ _).alloc (Nat.le_refl _) _)).mono ?_
  rintro e w1 ⟨rfl, hb1⟩
  have hb1' := Hid.intro (((Below.refl _ _).alloc (Nat.le_refl _) _).trans (hb1.mono (B' := w.heap.size) (by simp)))
  have hsz := hb1.size
  simp at hsz
  obtain ⟨hc, hf⟩ := bcell hb1 (N := w.heap.size + 1) (by simp)
  clear hb1 HF
  have HCm := Hid.intro (comparing_any w1)
  have L1 := run_look _ _ und_two (w1.alloc (.map compEs 6)) w1.heap.size compEs 6 (heap_new _ _) 10 (by decide) 0 (.func (.func 61) #[] #[]) rfl
  go_wp2_with fail
  refine HCm.out.mono ?_
  rintro e w2 ⟨rfl, rfl⟩
  clear HCm
  have hlb : b < w.heap.size := cell_lt c1.1
  obtain ⟨p1, p2, p3, p4, p5⟩ := c1
  obtain ⟨q1, q2, q3, q4, q5⟩ := c2
  have hlb1 : b < w1.heap.size := by omega
  have hlw : w.heap.size < w1.heap.size := by omega
  have HC2 := Hid.intro (HC'.out (w1.alloc (.map compEs 6)).drew ((below_al (Below.refl _ _) _).drew.via hb1'.out))
  clear HC'
  go_wp2
  go_region_with ((go_at_call 61; refine HC2.out.mono ?_; rintro e w2 ⟨rfl, hb2⟩; have hd : ∀ o, w2.cell? ⟨w.heap.size, o, none⟩ = w1.cell? ⟨w.heap.size, o, none⟩ := fun o => (hb2.cell (p := ⟨w.heap.size, o, none⟩) (by simp; omega)).trans ((below_al (Below.refl w1.heap.size w1) (.map compEs 6)).cell (p := ⟨w.heap.size, o, none⟩) hlw); have hg : ∀ o, w2.frozen? ⟨w.heap.size, o, none⟩ = w1.frozen? ⟨w.heap.size, o, none⟩ := fun o => (hb2.frozen (p := ⟨w.heap.size, o, none⟩) (by simp; omega)).trans ((below_al (Below.refl w1.heap.size w1) (.map compEs 6)).frozen (p := ⟨w.heap.size, o, none⟩) hlw)))
  all_goals go_wp2
  all_goals refine bodyPost_ret (v := .tuple #[.agg #[.int .i64 rk, .bool rb, .int .i64 ri, .string rs, .slice ra rn rc], .int .i64 er]) (by simp [results, Tryd.results19, go_sem, hd, hc]) rfl ⟨rfl, below_set5 ?_ (Nat.le_refl _) _ _ _ _ _⟩
  all_goals exact hb2.via ((below_al (Below.refl _ _) _).drew.via hb1'.out)
set_option maxRecDepth 10000 in
set_option maxHeartbeats 1000000 in
theorem apply_11 (n : Nat) (t1 t2 : Tr) (sv : Value) (w : World) (hl : Lv w (Vs w n) [t1, t2] sv) (hf1 : fit 30 t1 = true) (hf2 : fit 30 t2 = true)
    (rk : Int) (rb : Bool) (ri : Int) (rs : ByteArray) (ra : Option Addr) (rn rc : Nat) (er : Int)
    (HC : ∀ s1 s2 w', Vs w n t1 s1 → Vs w n t2 s2 → Below w.heap.size w w' → Calls Tryd.prog 63 #[vv t1 s1, vv t2 s2] w' fun e w'' => e = .returned (.tuple #[.agg #[.int .i64 rk, .bool rb, .int .i64 ri, .string rs, .slice ra rn rc], .int .i64 er]) ∧ Below w'.heap.size w' w'') :
    Calls Tryd.prog 19 #[.int .i64 11, sv] w fun e w' => e = .returned (.tuple #[.agg #[.int .i64 rk, .bool rb, .int .i64 ri, .string rs, .slice ra rn rc], .int .i64 er]) ∧ Below w.heap.size w w' := by
  have HF := Hid.intro (fun w' hb => allFit_any n (fits_any n) 30 [t1, t2] sv w' (Nat.le_refl _) (hl.mono hb (fun t v => Vs.below hb n t v)))
  have hall : [t1, t2].all (fit 30) = true := by simp [hf1, hf2]
  rw [hall] at HF
  obtain ⟨b, o, cap, s1, s2, rfl, hc1, hc2, c1, v1, c2, v2⟩ := two_cells hl
  have HC' := Hid.intro (fun w' hb => HC s1 s2 w' v1 v2 hb)
  obtain ⟨a1, n1, rfl, -, -⟩ := v1.form
  obtain ⟨a2, n2, rfl, -, -⟩ := v2.form
  clear HC v1 v2 hl hf1 hf2 hall
  unfold vv at HC'
  go_enter Tryd.func19, Tryd.ntmps19
  go_wp2_with fail
  refine (HF.out _ ((Below.refl _ _).alloc (Nat.le_refl _) _)).mono ?_
  rintro e w1 ⟨rfl, hb1⟩
  have hb1' := Hid.intro (((Below.refl _ _).alloc (Nat.le_refl _) _).trans (hb1.mono (B' := w.heap.size) (by simp)))
  have hsz := hb1.size
  simp at hsz
  obtain ⟨hc, hf⟩ := bcell hb1 (N := w.heap.size + 1) (by simp)
  clear hb1 HF
  have HCm := Hid.intro (comparing_any w1)
  have L1 := run_look _ _ und_two (w1.alloc (.map compEs 6)) w1.heap.size compEs 6 (heap_new _ _) 11 (by decide) 1 (.func (.func 63) #[] #[]) rfl
  go_wp2_with fail
  refine HCm.out.mono ?_
  rintro e w2 ⟨rfl, rfl⟩
  clear HCm
  have hlb : b < w.heap.size := cell_lt c1.1
  obtain ⟨p1, p2, p3, p4, p5⟩ := c1
  obtain ⟨q1, q2, q3, q4, q5⟩ := c2
  have hlb1 : b < w1.heap.size := by omega
  have hlw : w.heap.size < w1.heap.size := by omega
  have HC2 := Hid.intro (HC'.out (w1.alloc (.map compEs 6)).drew ((below_al (Below.refl _ _) _).drew.via hb1'.out))
  clear HC'
  go_wp2
  go_region_with ((go_at_call 63; refine HC2.out.mono ?_; rintro e w2 ⟨rfl, hb2⟩; have hd : ∀ o, w2.cell? ⟨w.heap.size, o, none⟩ = w1.cell? ⟨w.heap.size, o, none⟩ := fun o => (hb2.cell (p := ⟨w.heap.size, o, none⟩) (by simp; omega)).trans ((below_al (Below.refl w1.heap.size w1) (.map compEs 6)).cell (p := ⟨w.heap.size, o, none⟩) hlw); have hg : ∀ o, w2.frozen? ⟨w.heap.size, o, none⟩ = w1.frozen? ⟨w.heap.size, o, none⟩ := fun o => (hb2.frozen (p := ⟨w.heap.size, o, none⟩) (by simp; omega)).trans ((below_al (Below.refl w1.heap.size w1) (.map compEs 6)).frozen (p := ⟨w.heap.size, o, none⟩) hlw)))
  all_goals go_wp2
  all_goals refine bodyPost_ret (v := .tuple #[.agg #[.int .i64 rk, .bool rb, .int .i64 ri, .string rs, .slice ra rn rc], .int .i64 er]) (by simp [results, Tryd.results19, go_sem, hd, hc]) rfl ⟨rfl, below_set5 ?_ (Nat.le_refl _) _ _ _ _ _⟩
  all_goals exact hb2.via ((below_al (Below.refl _ _) _).drew.via hb1'.out)
set_option maxRecDepth 10000 in
set_option maxHeartbeats 1000000 in
theorem apply_12 (n : Nat) (t1 t2 : Tr) (sv : Value) (w : World) (hl : Lv w (Vs w n) [t1, t2] sv) (hf1 : fit 30 t1 = true) (hf2 : fit 30 t2 = true)
    (rk : Int) (rb : Bool) (ri : Int) (rs : ByteArray) (ra : Option Addr) (rn rc : Nat) (er : Int)
    (HC : ∀ s1 s2 w', Vs w n t1 s1 → Vs w n t2 s2 → Below w.heap.size w w' → Calls Tryd.prog 64 #[vv t1 s1, vv t2 s2] w' fun e w'' => e = .returned (.tuple #[.agg #[.int .i64 rk, .bool rb, .int .i64 ri, .string rs, .slice ra rn rc], .int .i64 er]) ∧ Below w'.heap.size w' w'') :
    Calls Tryd.prog 19 #[.int .i64 12, sv] w fun e w' => e = .returned (.tuple #[.agg #[.int .i64 rk, .bool rb, .int .i64 ri, .string rs, .slice ra rn rc], .int .i64 er]) ∧ Below w.heap.size w w' := by
  have HF := Hid.intro (fun w' hb => allFit_any n (fits_any n) 30 [t1, t2] sv w' (Nat.le_refl _) (hl.mono hb (fun t v => Vs.below hb n t v)))
  have hall : [t1, t2].all (fit 30) = true := by simp [hf1, hf2]
  rw [hall] at HF
  obtain ⟨b, o, cap, s1, s2, rfl, hc1, hc2, c1, v1, c2, v2⟩ := two_cells hl
  have HC' := Hid.intro (fun w' hb => HC s1 s2 w' v1 v2 hb)
  obtain ⟨a1, n1, rfl, -, -⟩ := v1.form
  obtain ⟨a2, n2, rfl, -, -⟩ := v2.form
  clear HC v1 v2 hl hf1 hf2 hall
  unfold vv at HC'
  go_enter Tryd.func19, Tryd.ntmps19
  go_wp2_with fail
  refine (HF.out _ ((Below.refl _ _).alloc (Nat.le_refl _) _)).mono ?_
  rintro e w1 ⟨rfl, hb1⟩
  have hb1' := Hid.intro (((Below.refl _ _).alloc (Nat.le_refl _) _).trans (hb1.mono (B' := w.heap.size) (by simp)))
  have hsz := hb1.size
  simp at hsz
  obtain ⟨hc, hf⟩ := bcell hb1 (N := w.heap.size + 1) (by simp)
  clear hb1 HF
  have HCm := Hid.intro (comparing_any w1)
  have L1 := run_look _ _ und_two (w1.alloc (.map compEs 6)) w1.heap.size compEs 6 (heap_new _ _) 12 (by decide) 2 (.func (.func 64) #[] #[]) rfl
  go_wp2_with fail
  refine HCm.out.mono ?_
  rintro e w2 ⟨rfl, rfl⟩
  clear HCm
  have hlb : b < w.heap.size := cell_lt c1.1
  obtain ⟨p1, p2, p3, p4, p5⟩ := c1
  obtain ⟨q1, q2, q3, q4, q5⟩ := c2
  have hlb1 : b < w1.heap.size := by omega
  have hlw : w.heap.size < w1.heap.size := by omega
  have HC2 := Hid.intro (HC'.out (w1.alloc (.map compEs 6)).drew ((below_al (Below.refl _ _) _).drew.via hb1'.out))
  clear HC'
  go_wp2
  go_region_with ((go_at_call 64; refine HC2.out.mono ?_; rintro e w2 ⟨rfl, hb2⟩; have hd : ∀ o, w2.cell? ⟨w.heap.size, o, none⟩ = w1.cell? ⟨w.heap.size, o, none⟩ := fun o => (hb2.cell (p := ⟨w.heap.size, o, none⟩) (by simp; omega)).trans ((below_al (Below.refl w1.heap.size w1) (.map compEs 6)).cell (p := ⟨w.heap.size, o, none⟩) hlw); have hg : ∀ o, w2.frozen? ⟨w.heap.size, o, none⟩ = w1.frozen? ⟨w.heap.size, o, none⟩ := fun o => (hb2.frozen (p := ⟨w.heap.size, o, none⟩) (by simp; omega)).trans ((below_al (Below.refl w1.heap.size w1) (.map compEs 6)).frozen (p := ⟨w.heap.size, o, none⟩) hlw)))
  all_goals go_wp2
  all_goals refine bodyPost_ret (v := .tuple #[.agg #[.int .i64 rk, .bool rb, .int .i64 ri, .string rs, .slice ra rn rc], .int .i64 er]) (by simp [results, Tryd.results19, go_sem, hd, hc]) rfl ⟨rfl, below_set5 ?_ (Nat.le_refl _) _ _ _ _ _⟩
  all_goals exact hb2.via ((below_al (Below.refl _ _) _).drew.via hb1'.out)
set_option maxRecDepth 10000 in
set_option maxHeartbeats 1000000 in
theorem apply_13 (n : Nat) (t1 t2 : Tr) (sv : Value) (w : World) (hl : Lv w (Vs w n) [t1, t2] sv) (hf1 : fit 30 t1 = true) (hf2 : fit 30 t2 = true)
    (rk : Int) (rb : Bool) (ri : Int) (rs : ByteArray) (ra : Option Addr) (rn rc : Nat) (er : Int)
    (HC : ∀ s1 s2 w', Vs w n t1 s1 → Vs w n t2 s2 → Below w.heap.size w w' → Calls Tryd.prog 66 #[vv t1 s1, vv t2 s2] w' fun e w'' => e = .returned (.tuple #[.agg #[.int .i64 rk, .bool rb, .int .i64 ri, .string rs, .slice ra rn rc], .int .i64 er]) ∧ Below w'.heap.size w' w'') :
    Calls Tryd.prog 19 #[.int .i64 13, sv] w fun e w' => e = .returned (.tuple #[.agg #[.int .i64 rk, .bool rb, .int .i64 ri, .string rs, .slice ra rn rc], .int .i64 er]) ∧ Below w.heap.size w w' := by
  have HF := Hid.intro (fun w' hb => allFit_any n (fits_any n) 30 [t1, t2] sv w' (Nat.le_refl _) (hl.mono hb (fun t v => Vs.below hb n t v)))
  have hall : [t1, t2].all (fit 30) = true := by simp [hf1, hf2]
  rw [hall] at HF
  obtain ⟨b, o, cap, s1, s2, rfl, hc1, hc2, c1, v1, c2, v2⟩ := two_cells hl
  have HC' := Hid.intro (fun w' hb => HC s1 s2 w' v1 v2 hb)
  obtain ⟨a1, n1, rfl, -, -⟩ := v1.form
  obtain ⟨a2, n2, rfl, -, -⟩ := v2.form
  clear HC v1 v2 hl hf1 hf2 hall
  unfold vv at HC'
  go_enter Tryd.func19, Tryd.ntmps19
  go_wp2_with fail
  refine (HF.out _ ((Below.refl _ _).alloc (Nat.le_refl _) _)).mono ?_
  rintro e w1 ⟨rfl, hb1⟩
  have hb1' := Hid.intro (((Below.refl _ _).alloc (Nat.le_refl _) _).trans (hb1.mono (B' := w.heap.size) (by simp)))
  have hsz := hb1.size
  simp at hsz
  obtain ⟨hc, hf⟩ := bcell hb1 (N := w.heap.size + 1) (by simp)
  clear hb1 HF
  have HCm := Hid.intro (comparing_any w1)
  have L1 := run_look _ _ und_two (w1.alloc (.map compEs 6)) w1.heap.size compEs 6 (heap_new _ _) 13 (by decide) 3 (.func (.func 66) #[] #[]) rfl
  go_wp2_with fail
  refine HCm.out.mono ?_
  rintro e w2 ⟨rfl, rfl⟩
  clear HCm
  have hlb : b < w.heap.size := cell_lt c1.1
  obtain ⟨p1, p2, p3, p4, p5⟩ := c1
  obtain ⟨q1, q2, q3, q4, q5⟩ := c2
  have hlb1 : b < w1.heap.size := by omega
  have hlw : w.heap.size < w1.heap.size := by omega
  have HC2 := Hid.intro (HC'.out (w1.alloc (.map compEs 6)).drew ((below_al (Below.refl _ _) _).drew.via hb1'.out))
  clear HC'
  go_wp2
  go_region_with ((go_at_call 66; refine HC2.out.mono ?_; rintro e w2 ⟨rfl, hb2⟩; have hd : ∀ o, w2.cell? ⟨w.heap.size, o, none⟩ = w1.cell? ⟨w.heap.size, o, none⟩ := fun o => (hb2.cell (p := ⟨w.heap.size, o, none⟩) (by simp; omega)).trans ((below_al (Below.refl w1.heap.size w1) (.map compEs 6)).cell (p := ⟨w.heap.size, o, none⟩) hlw); have hg : ∀ o, w2.frozen? ⟨w.heap.size, o, none⟩ = w1.frozen? ⟨w.heap.size, o, none⟩ := fun o => (hb2.frozen (p := ⟨w.heap.size, o, none⟩) (by simp; omega)).trans ((below_al (Below.refl w1.heap.size w1) (.map compEs 6)).frozen (p := ⟨w.heap.size, o, none⟩) hlw)))
  all_goals go_wp2
  all_goals refine bodyPost_ret (v := .tuple #[.agg #[.int .i64 rk, .bool rb, .int .i64 ri, .string rs, .slice ra rn rc], .int .i64 er]) (by simp [results, Tryd.results19, go_sem, hd, hc]) rfl ⟨rfl, below_set5 ?_ (Nat.le_refl _) _ _ _ _ _⟩
  all_goals exact hb2.via ((below_al (Below.refl _ _) _).drew.via hb1'.out)
set_option maxRecDepth 10000 in
set_option maxHeartbeats 1000000 in
theorem apply_14 (n : Nat) (t1 t2 : Tr) (sv : Value) (w : World) (hl : Lv w (Vs w n) [t1, t2] sv) (hf1 : fit 30 t1 = true) (hf2 : fit 30 t2 = true)
    (rk : Int) (rb : Bool) (ri : Int) (rs : ByteArray) (ra : Option Addr) (rn rc : Nat) (er : Int)
    (HC : ∀ s1 s2 w', Vs w n t1 s1 → Vs w n t2 s2 → Below w.heap.size w w' → Calls Tryd.prog 67 #[vv t1 s1, vv t2 s2] w' fun e w'' => e = .returned (.tuple #[.agg #[.int .i64 rk, .bool rb, .int .i64 ri, .string rs, .slice ra rn rc], .int .i64 er]) ∧ Below w'.heap.size w' w'') :
    Calls Tryd.prog 19 #[.int .i64 14, sv] w fun e w' => e = .returned (.tuple #[.agg #[.int .i64 rk, .bool rb, .int .i64 ri, .string rs, .slice ra rn rc], .int .i64 er]) ∧ Below w.heap.size w w' := by
  have HF := Hid.intro (fun w' hb => allFit_any n (fits_any n) 30 [t1, t2] sv w' (Nat.le_refl _) (hl.mono hb (fun t v => Vs.below hb n t v)))
  have hall : [t1, t2].all (fit 30) = true := by simp [hf1, hf2]
  rw [hall] at HF
  obtain ⟨b, o, cap, s1, s2, rfl, hc1, hc2, c1, v1, c2, v2⟩ := two_cells hl
  have HC' := Hid.intro (fun w' hb => HC s1 s2 w' v1 v2 hb)
  obtain ⟨a1, n1, rfl, -, -⟩ := v1.form
  obtain ⟨a2, n2, rfl, -, -⟩ := v2.form
  clear HC v1 v2 hl hf1 hf2 hall
  unfold vv at HC'
  go_enter Tryd.func19, Tryd.ntmps19
  go_wp2_with fail
  refine (HF.out _ ((Below.refl _ _).alloc (Nat.le_refl _) _)).mono ?_
  rintro e w1 ⟨rfl, hb1⟩
  have hb1' := Hid.intro (((Below.refl _ _).alloc (Nat.le_refl _) _).trans (hb1.mono (B' := w.heap.size) (by simp)))
  have hsz := hb1.size
  simp at hsz
  obtain ⟨hc, hf⟩ := bcell hb1 (N := w.heap.size + 1) (by simp)
  clear hb1 HF
  have HCm := Hid.intro (comparing_any w1)
  have L1 := run_look _ _ und_two (w1.alloc (.map compEs 6)) w1.heap.size compEs 6 (heap_new _ _) 14 (by decide) 4 (.func (.func 67) #[] #[]) rfl
  go_wp2_with fail
  refine HCm.out.mono ?_
  rintro e w2 ⟨rfl, rfl⟩
  clear HCm
  have hlb : b < w.heap.size := cell_lt c1.1
  obtain ⟨p1, p2, p3, p4, p5⟩ := c1
  obtain ⟨q1, q2, q3, q4, q5⟩ := c2
  have hlb1 : b < w1.heap.size := by omega
  have hlw : w.heap.size < w1.heap.size := by omega
  have HC2 := Hid.intro (HC'.out (w1.alloc (.map compEs 6)).drew ((below_al (Below.refl _ _) _).drew.via hb1'.out))
  clear HC'
  go_wp2
  go_region_with ((go_at_call 67; refine HC2.out.mono ?_; rintro e w2 ⟨rfl, hb2⟩; have hd : ∀ o, w2.cell? ⟨w.heap.size, o, none⟩ = w1.cell? ⟨w.heap.size, o, none⟩ := fun o => (hb2.cell (p := ⟨w.heap.size, o, none⟩) (by simp; omega)).trans ((below_al (Below.refl w1.heap.size w1) (.map compEs 6)).cell (p := ⟨w.heap.size, o, none⟩) hlw); have hg : ∀ o, w2.frozen? ⟨w.heap.size, o, none⟩ = w1.frozen? ⟨w.heap.size, o, none⟩ := fun o => (hb2.frozen (p := ⟨w.heap.size, o, none⟩) (by simp; omega)).trans ((below_al (Below.refl w1.heap.size w1) (.map compEs 6)).frozen (p := ⟨w.heap.size, o, none⟩) hlw)))
  all_goals go_wp2
  all_goals refine bodyPost_ret (v := .tuple #[.agg #[.int .i64 rk, .bool rb, .int .i64 ri, .string rs, .slice ra rn rc], .int .i64 er]) (by simp [results, Tryd.results19, go_sem, hd, hc]) rfl ⟨rfl, below_set5 ?_ (Nat.le_refl _) _ _ _ _ _⟩
  all_goals exact hb2.via ((below_al (Below.refl _ _) _).drew.via hb1'.out)
set_option maxRecDepth 10000 in
set_option maxHeartbeats 1000000 in
theorem apply_15 (n : Nat) (t1 t2 : Tr) (sv : Value) (w : World) (hl : Lv w (Vs w n) [t1, t2] sv) (hf1 : fit 30 t1 = true) (hf2 : fit 30 t2 = true)
    (rk : Int) (rb : Bool) (ri : Int) (rs : ByteArray) (ra : Option Addr) (rn rc : Nat) (er : Int)
    (HC : ∀ s1 s2 w', Vs w n t1 s1 → Vs w n t2 s2 → Below w.heap.size w w' → Calls Tryd.prog 68 #[vv t1 s1, vv t2 s2] w' fun e w'' => e = .returned (.tuple #[.agg #[.int .i64 rk, .bool rb, .int .i64 ri, .string rs, .slice ra rn rc], .int .i64 er]) ∧ Below w'.heap.size w' w'') :
    Calls Tryd.prog 19 #[.int .i64 15, sv] w fun e w' => e = .returned (.tuple #[.agg #[.int .i64 rk, .bool rb, .int .i64 ri, .string rs, .slice ra rn rc], .int .i64 er]) ∧ Below w.heap.size w w' := by
  have HF := Hid.intro (fun w' hb => allFit_any n (fits_any n) 30 [t1, t2] sv w' (Nat.le_refl _) (hl.mono hb (fun t v => Vs.below hb n t v)))
  have hall : [t1, t2].all (fit 30) = true := by simp [hf1, hf2]
  rw [hall] at HF
  obtain ⟨b, o, cap, s1, s2, rfl, hc1, hc2, c1, v1, c2, v2⟩ := two_cells hl
  have HC' := Hid.intro (fun w' hb => HC s1 s2 w' v1 v2 hb)
  obtain ⟨a1, n1, rfl, -, -⟩ := v1.form
  obtain ⟨a2, n2, rfl, -, -⟩ := v2.form
  clear HC v1 v2 hl hf1 hf2 hall
  unfold vv at HC'
  go_enter Tryd.func19, Tryd.ntmps19
  go_wp2_with fail
  refine (HF.out _ ((Below.refl _ _).alloc (Nat.le_refl _) _)).mono ?_
  rintro e w1 ⟨rfl, hb1⟩
  have hb1' := Hid.intro (((Below.refl _ _).alloc (Nat.le_refl _) _).trans (hb1.mono (B' := w.heap.size) (by simp)))
  have hsz := hb1.size
  simp at hsz
  obtain ⟨hc, hf⟩ := bcell hb1 (N := w.heap.size + 1) (by simp)
  clear hb1 HF
  have HCm := Hid.intro (comparing_any w1)
  have L1 := run_look _ _ und_two (w1.alloc (.map compEs 6)) w1.heap.size compEs 6 (heap_new _ _) 15 (by decide) 5 (.func (.func 68) #[] #[]) rfl
  go_wp2_with fail
  refine HCm.out.mono ?_
  rintro e w2 ⟨rfl, rfl⟩
  clear HCm
  have hlb : b < w.heap.size := cell_lt c1.1
  obtain ⟨p1, p2, p3, p4, p5⟩ := c1
  obtain ⟨q1, q2, q3, q4, q5⟩ := c2
  have hlb1 : b < w1.heap.size := by omega
  have hlw : w.heap.size < w1.heap.size := by omega
  have HC2 := Hid.intro (HC'.out (w1.alloc (.map compEs 6)).drew ((below_al (Below.refl _ _) _).drew.via hb1'.out))
  clear HC'
  go_wp2
  go_region_with ((go_at_call 68; refine HC2.out.mono ?_; rintro e w2 ⟨rfl, hb2⟩; have hd : ∀ o, w2.cell? ⟨w.heap.size, o, none⟩ = w1.cell? ⟨w.heap.size, o, none⟩ := fun o => (hb2.cell (p := ⟨w.heap.size, o, none⟩) (by simp; omega)).trans ((below_al (Below.refl w1.heap.size w1) (.map compEs 6)).cell (p := ⟨w.heap.size, o, none⟩) hlw); have hg : ∀ o, w2.frozen? ⟨w.heap.size, o, none⟩ = w1.frozen? ⟨w.heap.size, o, none⟩ := fun o => (hb2.frozen (p := ⟨w.heap.size, o, none⟩) (by simp; omega)).trans ((below_al (Below.refl w1.heap.size w1) (.map compEs 6)).frozen (p := ⟨w.heap.size, o, none⟩) hlw)))
  all_goals go_wp2
  all_goals refine bodyPost_ret (v := .tuple #[.agg #[.int .i64 rk, .bool rb, .int .i64 ri, .string rs, .slice ra rn rc], .int .i64 er]) (by simp [results, Tryd.results19, go_sem, hd, hc]) rfl ⟨rfl, below_set5 ?_ (Nat.le_refl _) _ _ _ _ _⟩
  all_goals exact hb2.via ((below_al (Below.refl _ _) _).drew.via hb1'.out)
set_option maxRecDepth 10000 in
set_option maxHeartbeats 1000000 in
theorem apply_bad (n : Nat) (ts : List Tr) (op : Int) (sv : Value) (w : World) (hl : Lv w (Vs w n) ts sv) (hf : ts.all (fit 30) = false) :
    Calls Tryd.prog 19 #[.int .i64 op, sv] w fun e w' => e = .returned (.tuple #[.agg #[.int .i64 0, .bool false, .int .i64 0, .string ⟨#[]⟩, .slice none 0 0], .int .i64 1]) ∧ Below w.heap.size w w' := by
  have HF := Hid.intro (fun w' hb => allFit_any n (fits_any n) 30 ts sv w' (Nat.le_refl _) (hl.mono hb (fun t v => Vs.below hb n t v)))
  rw [hf] at HF
  obtain ⟨a0, cap, rfl, h2, h3, -⟩ := hl
  clear hf
  go_enter Tryd.func19, Tryd.ntmps19
  go_wp2_with fail
  refine (HF.out _ ((Below.refl _ _).alloc (Nat.le_refl _) _)).mono ?_
  rintro e w1 ⟨rfl, hb1⟩
  have hb1' := Hid.intro (hb1.via ((Below.refl _ _).alloc (Nat.le_refl _) _))
  have hsz := hb1.size
  simp at hsz
  obtain ⟨hc, hf⟩ := bcell hb1 (N := w.heap.size + 1) (by simp)
  clear hb1 HF
  go_wp2
  refine bodyPost_ret (v := .tuple #[.agg #[.int .i64 0, .bool false, .int .i64 0, .string ⟨#[]⟩, .slice none 0 0], .int .i64 1]) (by simp [results, Tryd.results19, go_sem, hc]) rfl ⟨rfl, below_set5 hb1'.out (Nat.le_refl _) _ _ _ _ _⟩
end Go.Proofs.YtocpfmhipppnlaaDoor
