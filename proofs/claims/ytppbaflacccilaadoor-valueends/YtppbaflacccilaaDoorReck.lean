/- The operations of two numbers: value.reckon, its closures, value.Apply with them. -/
import Derived.Test.YtppbaflacccilaaDoorArith2
import Derived.Test.YtppbaflacccilaaDoorApply
import Derived.Test.YtppbaflacccilaaDoorCmp
namespace Go.Proofs.YtppbaflacccilaaDoor
open Go.RowKit

set_option maxHeartbeats 1000000 in
theorem reckon_subtract (x y : Int) (b1 b2 : Bool) (s1 s2 : ByteArray) (l1 l2 : Option Addr) (n1 n2 m1 m2 : Nat) (rk ri er : Int) (w : World)
    (HC : ∀ w', Calls Tryd.prog 72 #[.int .i64 x, .int .i64 y] w' fun e w'' => e = .returned (.tuple #[.agg #[.int .i64 rk, .bool false, .int .i64 ri, .string ⟨#[]⟩, .slice none 0 0], .int .i64 er]) ∧ Below w'.heap.size w' w'') :
    Calls Tryd.prog 71 #[.agg #[.int .i64 2, .bool b1, .int .i64 x, .string s1, .slice l1 n1 m1], .agg #[.int .i64 2, .bool b2, .int .i64 y, .string s2, .slice l2 n2 m2], .func (.func 72) #[] #[]] w fun e w' => e = .returned (.tuple #[.agg #[.int .i64 rk, .bool false, .int .i64 ri, .string ⟨#[]⟩, .slice none 0 0], .int .i64 er]) ∧ Below w.heap.size w w' := by
  have HC' := Hid.intro HC
  clear HC
  go_enter Tryd.func71, Tryd.ntmps71
  go_wp2_with fail
  refine (HC'.out _).mono ?_
  rintro e w1 ⟨rfl, hb1⟩
  have HB := Hid.intro (hb1.via (below3 _ _ _ _))
  obtain ⟨hc, hf⟩ := bcell hb1 (N := w.heap.size + 3) (by simp)
  clear hb1 HC'
  go_wp2
  refine bodyPost_ret (v := .tuple #[.agg #[.int .i64 rk, .bool false, .int .i64 ri, .string ⟨#[]⟩, .slice none 0 0], .int .i64 er]) (by simp [results, Tryd.results71, go_sem, hc]) rfl ⟨rfl, below_set5 HB.out (Nat.le_add_right _ 2) _ _ _ _ _⟩

set_option maxHeartbeats 1000000 in
theorem op_r1 (x y : Int) (b1 b2 : Bool) (s1 s2 : ByteArray) (l1 l2 : Option Addr) (n1 n2 m1 m2 : Nat) (rk ri er : Int) (w : World)
    (HC : ∀ w', Calls Tryd.prog 72 #[.int .i64 x, .int .i64 y] w' fun e w'' => e = .returned (.tuple #[.agg #[.int .i64 rk, .bool false, .int .i64 ri, .string ⟨#[]⟩, .slice none 0 0], .int .i64 er]) ∧ Below w'.heap.size w' w'') :
    Calls Tryd.prog 70 #[.agg #[.int .i64 2, .bool b1, .int .i64 x, .string s1, .slice l1 n1 m1], .agg #[.int .i64 2, .bool b2, .int .i64 y, .string s2, .slice l2 n2 m2]] w fun e w' => e = .returned (.tuple #[.agg #[.int .i64 rk, .bool false, .int .i64 ri, .string ⟨#[]⟩, .slice none 0 0], .int .i64 er]) ∧ Below w.heap.size w w' := by
  have HO := Hid.intro (fun w' => reckon_subtract x y b1 b2 s1 s2 l1 l2 n1 n2 m1 m2 rk ri er w' HC)
  clear HC
  go_enter Tryd.func70, Tryd.ntmps70
  go_wp2_with fail
  refine (HO.out _).mono ?_
  rintro e w1 ⟨rfl, hb1⟩
  have HB := Hid.intro (hb1.via (below3 _ _ _ _))
  obtain ⟨hc, hf⟩ := bcell hb1 (N := w.heap.size + 3) (by simp)
  clear hb1 HO
  go_wp2
  refine bodyPost_ret (v := .tuple #[.agg #[.int .i64 rk, .bool false, .int .i64 ri, .string ⟨#[]⟩, .slice none 0 0], .int .i64 er]) (by simp [results, Tryd.results70, go_sem, hc]) rfl ⟨rfl, below_set5 HB.out (Nat.le_add_right _ 2) _ _ _ _ _⟩

set_option maxHeartbeats 1000000 in
theorem reckon_multiply (x y : Int) (b1 b2 : Bool) (s1 s2 : ByteArray) (l1 l2 : Option Addr) (n1 n2 m1 m2 : Nat) (rk ri er : Int) (w : World)
    (HC : ∀ w', Calls Tryd.prog 74 #[.int .i64 x, .int .i64 y] w' fun e w'' => e = .returned (.tuple #[.agg #[.int .i64 rk, .bool false, .int .i64 ri, .string ⟨#[]⟩, .slice none 0 0], .int .i64 er]) ∧ Below w'.heap.size w' w'') :
    Calls Tryd.prog 71 #[.agg #[.int .i64 2, .bool b1, .int .i64 x, .string s1, .slice l1 n1 m1], .agg #[.int .i64 2, .bool b2, .int .i64 y, .string s2, .slice l2 n2 m2], .func (.func 74) #[] #[]] w fun e w' => e = .returned (.tuple #[.agg #[.int .i64 rk, .bool false, .int .i64 ri, .string ⟨#[]⟩, .slice none 0 0], .int .i64 er]) ∧ Below w.heap.size w w' := by
  have HC' := Hid.intro HC
  clear HC
  go_enter Tryd.func71, Tryd.ntmps71
  go_wp2_with fail
  refine (HC'.out _).mono ?_
  rintro e w1 ⟨rfl, hb1⟩
  have HB := Hid.intro (hb1.via (below3 _ _ _ _))
  obtain ⟨hc, hf⟩ := bcell hb1 (N := w.heap.size + 3) (by simp)
  clear hb1 HC'
  go_wp2
  refine bodyPost_ret (v := .tuple #[.agg #[.int .i64 rk, .bool false, .int .i64 ri, .string ⟨#[]⟩, .slice none 0 0], .int .i64 er]) (by simp [results, Tryd.results71, go_sem, hc]) rfl ⟨rfl, below_set5 HB.out (Nat.le_add_right _ 2) _ _ _ _ _⟩

set_option maxHeartbeats 1000000 in
theorem op_r2 (x y : Int) (b1 b2 : Bool) (s1 s2 : ByteArray) (l1 l2 : Option Addr) (n1 n2 m1 m2 : Nat) (rk ri er : Int) (w : World)
    (HC : ∀ w', Calls Tryd.prog 74 #[.int .i64 x, .int .i64 y] w' fun e w'' => e = .returned (.tuple #[.agg #[.int .i64 rk, .bool false, .int .i64 ri, .string ⟨#[]⟩, .slice none 0 0], .int .i64 er]) ∧ Below w'.heap.size w' w'') :
    Calls Tryd.prog 73 #[.agg #[.int .i64 2, .bool b1, .int .i64 x, .string s1, .slice l1 n1 m1], .agg #[.int .i64 2, .bool b2, .int .i64 y, .string s2, .slice l2 n2 m2]] w fun e w' => e = .returned (.tuple #[.agg #[.int .i64 rk, .bool false, .int .i64 ri, .string ⟨#[]⟩, .slice none 0 0], .int .i64 er]) ∧ Below w.heap.size w w' := by
  have HO := Hid.intro (fun w' => reckon_multiply x y b1 b2 s1 s2 l1 l2 n1 n2 m1 m2 rk ri er w' HC)
  clear HC
  go_enter Tryd.func73, Tryd.ntmps73
  go_wp2_with fail
  refine (HO.out _).mono ?_
  rintro e w1 ⟨rfl, hb1⟩
  have HB := Hid.intro (hb1.via (below3 _ _ _ _))
  obtain ⟨hc, hf⟩ := bcell hb1 (N := w.heap.size + 3) (by simp)
  clear hb1 HO
  go_wp2
  refine bodyPost_ret (v := .tuple #[.agg #[.int .i64 rk, .bool false, .int .i64 ri, .string ⟨#[]⟩, .slice none 0 0], .int .i64 er]) (by simp [results, Tryd.results73, go_sem, hc]) rfl ⟨rfl, below_set5 HB.out (Nat.le_add_right _ 2) _ _ _ _ _⟩

set_option maxHeartbeats 1000000 in
theorem reckon_divide (x y : Int) (b1 b2 : Bool) (s1 s2 : ByteArray) (l1 l2 : Option Addr) (n1 n2 m1 m2 : Nat) (rk ri er : Int) (w : World)
    (HC : ∀ w', Calls Tryd.prog 76 #[.int .i64 x, .int .i64 y] w' fun e w'' => e = .returned (.tuple #[.agg #[.int .i64 rk, .bool false, .int .i64 ri, .string ⟨#[]⟩, .slice none 0 0], .int .i64 er]) ∧ Below w'.heap.size w' w'') :
    Calls Tryd.prog 71 #[.agg #[.int .i64 2, .bool b1, .int .i64 x, .string s1, .slice l1 n1 m1], .agg #[.int .i64 2, .bool b2, .int .i64 y, .string s2, .slice l2 n2 m2], .func (.func 76) #[] #[]] w fun e w' => e = .returned (.tuple #[.agg #[.int .i64 rk, .bool false, .int .i64 ri, .string ⟨#[]⟩, .slice none 0 0], .int .i64 er]) ∧ Below w.heap.size w w' := by
  have HC' := Hid.intro HC
  clear HC
  go_enter Tryd.func71, Tryd.ntmps71
  go_wp2_with fail
  refine (HC'.out _).mono ?_
  rintro e w1 ⟨rfl, hb1⟩
  have HB := Hid.intro (hb1.via (below3 _ _ _ _))
  obtain ⟨hc, hf⟩ := bcell hb1 (N := w.heap.size + 3) (by simp)
  clear hb1 HC'
  go_wp2
  refine bodyPost_ret (v := .tuple #[.agg #[.int .i64 rk, .bool false, .int .i64 ri, .string ⟨#[]⟩, .slice none 0 0], .int .i64 er]) (by simp [results, Tryd.results71, go_sem, hc]) rfl ⟨rfl, below_set5 HB.out (Nat.le_add_right _ 2) _ _ _ _ _⟩

set_option maxHeartbeats 1000000 in
theorem op_r3 (x y : Int) (b1 b2 : Bool) (s1 s2 : ByteArray) (l1 l2 : Option Addr) (n1 n2 m1 m2 : Nat) (rk ri er : Int) (w : World)
    (HC : ∀ w', Calls Tryd.prog 76 #[.int .i64 x, .int .i64 y] w' fun e w'' => e = .returned (.tuple #[.agg #[.int .i64 rk, .bool false, .int .i64 ri, .string ⟨#[]⟩, .slice none 0 0], .int .i64 er]) ∧ Below w'.heap.size w' w'') :
    Calls Tryd.prog 75 #[.agg #[.int .i64 2, .bool b1, .int .i64 x, .string s1, .slice l1 n1 m1], .agg #[.int .i64 2, .bool b2, .int .i64 y, .string s2, .slice l2 n2 m2]] w fun e w' => e = .returned (.tuple #[.agg #[.int .i64 rk, .bool false, .int .i64 ri, .string ⟨#[]⟩, .slice none 0 0], .int .i64 er]) ∧ Below w.heap.size w w' := by
  have HO := Hid.intro (fun w' => reckon_divide x y b1 b2 s1 s2 l1 l2 n1 n2 m1 m2 rk ri er w' HC)
  clear HC
  go_enter Tryd.func75, Tryd.ntmps75
  go_wp2_with fail
  refine (HO.out _).mono ?_
  rintro e w1 ⟨rfl, hb1⟩
  have HB := Hid.intro (hb1.via (below3 _ _ _ _))
  obtain ⟨hc, hf⟩ := bcell hb1 (N := w.heap.size + 3) (by simp)
  clear hb1 HO
  go_wp2
  refine bodyPost_ret (v := .tuple #[.agg #[.int .i64 rk, .bool false, .int .i64 ri, .string ⟨#[]⟩, .slice none 0 0], .int .i64 er]) (by simp [results, Tryd.results75, go_sem, hc]) rfl ⟨rfl, below_set5 HB.out (Nat.le_add_right _ 2) _ _ _ _ _⟩

set_option maxHeartbeats 1000000 in
theorem reckon_remainder (x y : Int) (b1 b2 : Bool) (s1 s2 : ByteArray) (l1 l2 : Option Addr) (n1 n2 m1 m2 : Nat) (rk ri er : Int) (w : World)
    (HC : ∀ w', Calls Tryd.prog 78 #[.int .i64 x, .int .i64 y] w' fun e w'' => e = .returned (.tuple #[.agg #[.int .i64 rk, .bool false, .int .i64 ri, .string ⟨#[]⟩, .slice none 0 0], .int .i64 er]) ∧ Below w'.heap.size w' w'') :
    Calls Tryd.prog 71 #[.agg #[.int .i64 2, .bool b1, .int .i64 x, .string s1, .slice l1 n1 m1], .agg #[.int .i64 2, .bool b2, .int .i64 y, .string s2, .slice l2 n2 m2], .func (.func 78) #[] #[]] w fun e w' => e = .returned (.tuple #[.agg #[.int .i64 rk, .bool false, .int .i64 ri, .string ⟨#[]⟩, .slice none 0 0], .int .i64 er]) ∧ Below w.heap.size w w' := by
  have HC' := Hid.intro HC
  clear HC
  go_enter Tryd.func71, Tryd.ntmps71
  go_wp2_with fail
  refine (HC'.out _).mono ?_
  rintro e w1 ⟨rfl, hb1⟩
  have HB := Hid.intro (hb1.via (below3 _ _ _ _))
  obtain ⟨hc, hf⟩ := bcell hb1 (N := w.heap.size + 3) (by simp)
  clear hb1 HC'
  go_wp2
  refine bodyPost_ret (v := .tuple #[.agg #[.int .i64 rk, .bool false, .int .i64 ri, .string ⟨#[]⟩, .slice none 0 0], .int .i64 er]) (by simp [results, Tryd.results71, go_sem, hc]) rfl ⟨rfl, below_set5 HB.out (Nat.le_add_right _ 2) _ _ _ _ _⟩

set_option maxHeartbeats 1000000 in
theorem op_r4 (x y : Int) (b1 b2 : Bool) (s1 s2 : ByteArray) (l1 l2 : Option Addr) (n1 n2 m1 m2 : Nat) (rk ri er : Int) (w : World)
    (HC : ∀ w', Calls Tryd.prog 78 #[.int .i64 x, .int .i64 y] w' fun e w'' => e = .returned (.tuple #[.agg #[.int .i64 rk, .bool false, .int .i64 ri, .string ⟨#[]⟩, .slice none 0 0], .int .i64 er]) ∧ Below w'.heap.size w' w'') :
    Calls Tryd.prog 77 #[.agg #[.int .i64 2, .bool b1, .int .i64 x, .string s1, .slice l1 n1 m1], .agg #[.int .i64 2, .bool b2, .int .i64 y, .string s2, .slice l2 n2 m2]] w fun e w' => e = .returned (.tuple #[.agg #[.int .i64 rk, .bool false, .int .i64 ri, .string ⟨#[]⟩, .slice none 0 0], .int .i64 er]) ∧ Below w.heap.size w w' := by
  have HO := Hid.intro (fun w' => reckon_remainder x y b1 b2 s1 s2 l1 l2 n1 n2 m1 m2 rk ri er w' HC)
  clear HC
  go_enter Tryd.func77, Tryd.ntmps77
  go_wp2_with fail
  refine (HO.out _).mono ?_
  rintro e w1 ⟨rfl, hb1⟩
  have HB := Hid.intro (hb1.via (below3 _ _ _ _))
  obtain ⟨hc, hf⟩ := bcell hb1 (N := w.heap.size + 3) (by simp)
  clear hb1 HO
  go_wp2
  refine bodyPost_ret (v := .tuple #[.agg #[.int .i64 rk, .bool false, .int .i64 ri, .string ⟨#[]⟩, .slice none 0 0], .int .i64 er]) (by simp [results, Tryd.results77, go_sem, hc]) rfl ⟨rfl, below_set5 HB.out (Nat.le_add_right _ 2) _ _ _ _ _⟩

set_option maxRecDepth 10000 in
set_option maxHeartbeats 1000000 in
theorem apply_17 (n : Nat) (t1 t2 : Tr) (sv : Value) (w : World) (hl : Lv w (Vs w n) [t1, t2] sv) (hf1 : fit 30 t1 = true) (hf2 : fit 30 t2 = true)
    (rk : Int) (rb : Bool) (ri : Int) (rs : ByteArray) (ra : Option Addr) (rn rc : Nat) (er : Int)
    (HC : ∀ s1 s2 w', Vs w n t1 s1 → Vs w n t2 s2 → Below w.heap.size w w' → Calls Tryd.prog 70 #[vv t1 s1, vv t2 s2] w' fun e w'' => e = .returned (.tuple #[.agg #[.int .i64 rk, .bool rb, .int .i64 ri, .string rs, .slice ra rn rc], .int .i64 er]) ∧ Below w'.heap.size w' w'') :
    Calls Tryd.prog 19 #[.int .i64 17, sv] w fun e w' => e = .returned (.tuple #[.agg #[.int .i64 rk, .bool rb, .int .i64 ri, .string rs, .slice ra rn rc], .int .i64 er]) ∧ Below w.heap.size w w' := by
  have HF := Hid.intro (fun w' hb => allFit_any n (fits_any n) 30 [t1, t2] sv w' (Nat.le_refl _) (hl.mono hb (fun t v => Vs.below hb n t v)))
  have hall : [t1, t2].all (fit 30) = true := by simp [hf1, hf2]
  rw [hall] at HF
  obtain ⟨b, o, cap, s1, s2, rfl, hc1, hc2, c1, v1, c2, v2⟩ := two_cells hl
  have HC' := Hid.intro (fun w' hb => HC s1 s2 w' v1 v2 hb)
  obtain ⟨a1, n1, rfl, -, -⟩ := v1.form
  obtain ⟨a2, n2, rfl, -, -⟩ := v2.form
  clear HC v1 v2 hl hf1 hf2 hall
  unfold vv at HC'
  go_enter Tryd.func19, Tryd.ntmps19
  go_wp2_with fail
  refine (HF.out _ ((Below.refl _ _).alloc (Nat.le_refl _) _)).mono ?_
  rintro e w1 ⟨rfl, hb1⟩
  have hb1' := Hid.intro (((Below.refl _ _).alloc (Nat.le_refl _) _).trans (hb1.mono (B' := w.heap.size) (by simp)))
  have hsz := hb1.size
  simp at hsz
  obtain ⟨hc, hf⟩ := bcell hb1 (N := w.heap.size + 1) (by simp)
  clear hb1 HF
  have HCm := Hid.intro (comparing_any w1)
  have HRm := Hid.intro (reckoning_any (w1.alloc (.map compEs 6)))
  have L1 := run_lookno _ _ und_two (w1.alloc (.map compEs 6)) _ (zero_onTwo _) w1.heap.size compEs 6 (heap_new _ _) 17 (by decide) rfl
  have L2 := run_look _ _ und_two ((w1.alloc (.map compEs 6)).alloc (.map reckEs 6)) (w1.heap.size + 1) reckEs 6 (by have := heap_new (w1.alloc (.map compEs 6)) (.map reckEs 6); simpa using this) 17 (by decide) 1 (.func (.func 70) #[] #[]) rfl
  go_wp2_with fail
  refine HCm.out.mono ?_
  rintro e w2 ⟨rfl, rfl⟩
  clear HCm
  go_wp2_with fail
  refine HRm.out.mono ?_
  rintro e w2 ⟨rfl, rfl⟩
  clear HRm
  have hlb : b < w.heap.size := cell_lt c1.1
  obtain ⟨p1, p2, p3, p4, p5⟩ := c1
  obtain ⟨q1, q2, q3, q4, q5⟩ := c2
  have hlb1 : b < w1.heap.size := by omega
  have hlw : w.heap.size < w1.heap.size := by omega
  have HC2 := Hid.intro (HC'.out ((w1.alloc (.map compEs 6)).alloc (.map reckEs 6)).drew ((below2 _ _ _).drew.via hb1'.out))
  clear HC'
  go_wp2
  go_region_with ((go_at_call 70; refine HC2.out.mono ?_; rintro e w2 ⟨rfl, hb2⟩; have hd : ∀ o, w2.cell? ⟨w.heap.size, o, none⟩ = w1.cell? ⟨w.heap.size, o, none⟩ := fun o => (hb2.cell (p := ⟨w.heap.size, o, none⟩) (by simp; omega)).trans ((below2 w1 (.map compEs 6) (.map reckEs 6)).cell (p := ⟨w.heap.size, o, none⟩) hlw); have hg : ∀ o, w2.frozen? ⟨w.heap.size, o, none⟩ = w1.frozen? ⟨w.heap.size, o, none⟩ := fun o => (hb2.frozen (p := ⟨w.heap.size, o, none⟩) (by simp; omega)).trans ((below2 w1 (.map compEs 6) (.map reckEs 6)).frozen (p := ⟨w.heap.size, o, none⟩) hlw)))
  all_goals go_wp2
  all_goals refine bodyPost_ret (v := .tuple #[.agg #[.int .i64 rk, .bool rb, .int .i64 ri, .string rs, .slice ra rn rc], .int .i64 er]) (by simp [results, Tryd.results19, go_sem, hd, hc]) rfl ⟨rfl, below_set5 ?_ (Nat.le_refl _) _ _ _ _ _⟩
  all_goals exact hb2.via ((below2 _ _ _).drew.via hb1'.out)
set_option maxRecDepth 10000 in
set_option maxHeartbeats 1000000 in
theorem apply_18 (n : Nat) (t1 t2 : Tr) (sv : Value) (w : World) (hl : Lv w (Vs w n) [t1, t2] sv) (hf1 : fit 30 t1 = true) (hf2 : fit 30 t2 = true)
    (rk : Int) (rb : Bool) (ri : Int) (rs : ByteArray) (ra : Option Addr) (rn rc : Nat) (er : Int)
    (HC : ∀ s1 s2 w', Vs w n t1 s1 → Vs w n t2 s2 → Below w.heap.size w w' → Calls Tryd.prog 73 #[vv t1 s1, vv t2 s2] w' fun e w'' => e = .returned (.tuple #[.agg #[.int .i64 rk, .bool rb, .int .i64 ri, .string rs, .slice ra rn rc], .int .i64 er]) ∧ Below w'.heap.size w' w'') :
    Calls Tryd.prog 19 #[.int .i64 18, sv] w fun e w' => e = .returned (.tuple #[.agg #[.int .i64 rk, .bool rb, .int .i64 ri, .string rs, .slice ra rn rc], .int .i64 er]) ∧ Below w.heap.size w w' := by
  have HF := Hid.intro (fun w' hb => allFit_any n (fits_any n) 30 [t1, t2] sv w' (Nat.le_refl _) (hl.mono hb (fun t v => Vs.below hb n t v)))
  have hall : [t1, t2].all (fit 30) = true := by simp [hf1, hf2]
  rw [hall] at HF
  obtain ⟨b, o, cap, s1, s2, rfl, hc1, hc2, c1, v1, c2, v2⟩ := two_cells hl
  have HC' := Hid.intro (fun w' hb => HC s1 s2 w' v1 v2 hb)
  obtain ⟨a1, n1, rfl, -, -⟩ := v1.form
  obtain ⟨a2, n2, rfl, -, -⟩ := v2.form
  clear HC v1 v2 hl hf1 hf2 hall
  unfold vv at HC'
  go_enter Tryd.func19, Tryd.ntmps19
  go_wp2_with fail
  refine (HF.out _ ((Below.refl _ _).alloc (Nat.le_refl _) _)).mono ?_
  rintro e w1 ⟨rfl, hb1⟩
  have hb1' := Hid.intro (((Below.refl _ _).alloc (Nat.le_refl _) _).trans (hb1.mono (B' := w.heap.size) (by simp)))
  have hsz := hb1.size
  simp at hsz
  obtain ⟨hc, hf⟩ := bcell hb1 (N := w.heap.size + 1) (by simp)
  clear hb1 HF
  have HCm := Hid.intro (comparing_any w1)
  have HRm := Hid.intro (reckoning_any (w1.alloc (.map compEs 6)))
  have L1 := run_lookno _ _ und_two (w1.alloc (.map compEs 6)) _ (zero_onTwo _) w1.heap.size compEs 6 (heap_new _ _) 18 (by decide) rfl
  have L2 := run_look _ _ und_two ((w1.alloc (.map compEs 6)).alloc (.map reckEs 6)) (w1.heap.size + 1) reckEs 6 (by have := heap_new (w1.alloc (.map compEs 6)) (.map reckEs 6); simpa using this) 18 (by decide) 2 (.func (.func 73) #[] #[]) rfl
  go_wp2_with fail
  refine HCm.out.mono ?_
  rintro e w2 ⟨rfl, rfl⟩
  clear HCm
  go_wp2_with fail
  refine HRm.out.mono ?_
  rintro e w2 ⟨rfl, rfl⟩
  clear HRm
  have hlb : b < w.heap.size := cell_lt c1.1
  obtain ⟨p1, p2, p3, p4, p5⟩ := c1
  obtain ⟨q1, q2, q3, q4, q5⟩ := c2
  have hlb1 : b < w1.heap.size := by omega
  have hlw : w.heap.size < w1.heap.size := by omega
  have HC2 := Hid.intro (HC'.out ((w1.alloc (.map compEs 6)).alloc (.map reckEs 6)).drew ((below2 _ _ _).drew.via hb1'.out))
  clear HC'
  go_wp2
  go_region_with ((go_at_call 73; refine HC2.out.mono ?_; rintro e w2 ⟨rfl, hb2⟩; have hd : ∀ o, w2.cell? ⟨w.heap.size, o, none⟩ = w1.cell? ⟨w.heap.size, o, none⟩ := fun o => (hb2.cell (p := ⟨w.heap.size, o, none⟩) (by simp; omega)).trans ((below2 w1 (.map compEs 6) (.map reckEs 6)).cell (p := ⟨w.heap.size, o, none⟩) hlw); have hg : ∀ o, w2.frozen? ⟨w.heap.size, o, none⟩ = w1.frozen? ⟨w.heap.size, o, none⟩ := fun o => (hb2.frozen (p := ⟨w.heap.size, o, none⟩) (by simp; omega)).trans ((below2 w1 (.map compEs 6) (.map reckEs 6)).frozen (p := ⟨w.heap.size, o, none⟩) hlw)))
  all_goals go_wp2
  all_goals refine bodyPost_ret (v := .tuple #[.agg #[.int .i64 rk, .bool rb, .int .i64 ri, .string rs, .slice ra rn rc], .int .i64 er]) (by simp [results, Tryd.results19, go_sem, hd, hc]) rfl ⟨rfl, below_set5 ?_ (Nat.le_refl _) _ _ _ _ _⟩
  all_goals exact hb2.via ((below2 _ _ _).drew.via hb1'.out)
set_option maxRecDepth 10000 in
set_option maxHeartbeats 1000000 in
theorem apply_19 (n : Nat) (t1 t2 : Tr) (sv : Value) (w : World) (hl : Lv w (Vs w n) [t1, t2] sv) (hf1 : fit 30 t1 = true) (hf2 : fit 30 t2 = true)
    (rk : Int) (rb : Bool) (ri : Int) (rs : ByteArray) (ra : Option Addr) (rn rc : Nat) (er : Int)
    (HC : ∀ s1 s2 w', Vs w n t1 s1 → Vs w n t2 s2 → Below w.heap.size w w' → Calls Tryd.prog 75 #[vv t1 s1, vv t2 s2] w' fun e w'' => e = .returned (.tuple #[.agg #[.int .i64 rk, .bool rb, .int .i64 ri, .string rs, .slice ra rn rc], .int .i64 er]) ∧ Below w'.heap.size w' w'') :
    Calls Tryd.prog 19 #[.int .i64 19, sv] w fun e w' => e = .returned (.tuple #[.agg #[.int .i64 rk, .bool rb, .int .i64 ri, .string rs, .slice ra rn rc], .int .i64 er]) ∧ Below w.heap.size w w' := by
  have HF := Hid.intro (fun w' hb => allFit_any n (fits_any n) 30 [t1, t2] sv w' (Nat.le_refl _) (hl.mono hb (fun t v => Vs.below hb n t v)))
  have hall : [t1, t2].all (fit 30) = true := by simp [hf1, hf2]
  rw [hall] at HF
  obtain ⟨b, o, cap, s1, s2, rfl, hc1, hc2, c1, v1, c2, v2⟩ := two_cells hl
  have HC' := Hid.intro (fun w' hb => HC s1 s2 w' v1 v2 hb)
  obtain ⟨a1, n1, rfl, -, -⟩ := v1.form
  obtain ⟨a2, n2, rfl, -, -⟩ := v2.form
  clear HC v1 v2 hl hf1 hf2 hall
  unfold vv at HC'
  go_enter Tryd.func19, Tryd.ntmps19
  go_wp2_with fail
  refine (HF.out _ ((Below.refl _ _).alloc (Nat.le_refl _) _)).mono ?_
  rintro e w1 ⟨rfl, hb1⟩
  have hb1' := Hid.intro (((Below.refl _ _).alloc (Nat.le_refl _) _).trans (hb1.mono (B' := w.heap.size) (by simp)))
  have hsz := hb1.size
  simp at hsz
  obtain ⟨hc, hf⟩ := bcell hb1 (N := w.heap.size + 1) (by simp)
  clear hb1 HF
  have HCm := Hid.intro (comparing_any w1)
  have HRm := Hid.intro (reckoning_any (w1.alloc (.map compEs 6)))
  have L1 := run_lookno _ _ und_two (w1.alloc (.map compEs 6)) _ (zero_onTwo _) w1.heap.size compEs 6 (heap_new _ _) 19 (by decide) rfl
  have L2 := run_look _ _ und_two ((w1.alloc (.map compEs 6)).alloc (.map reckEs 6)) (w1.heap.size + 1) reckEs 6 (by have := heap_new (w1.alloc (.map compEs 6)) (.map reckEs 6); simpa using this) 19 (by decide) 3 (.func (.func 75) #[] #[]) rfl
  go_wp2_with fail
  refine HCm.out.mono ?_
  rintro e w2 ⟨rfl, rfl⟩
  clear HCm
  go_wp2_with fail
  refine HRm.out.mono ?_
  rintro e w2 ⟨rfl, rfl⟩
  clear HRm
  have hlb : b < w.heap.size := cell_lt c1.1
  obtain ⟨p1, p2, p3, p4, p5⟩ := c1
  obtain ⟨q1, q2, q3, q4, q5⟩ := c2
  have hlb1 : b < w1.heap.size := by omega
  have hlw : w.heap.size < w1.heap.size := by omega
  have HC2 := Hid.intro (HC'.out ((w1.alloc (.map compEs 6)).alloc (.map reckEs 6)).drew ((below2 _ _ _).drew.via hb1'.out))
  clear HC'
  go_wp2
  go_region_with ((go_at_call 75; refine HC2.out.mono ?_; rintro e w2 ⟨rfl, hb2⟩; have hd : ∀ o, w2.cell? ⟨w.heap.size, o, none⟩ = w1.cell? ⟨w.heap.size, o, none⟩ := fun o => (hb2.cell (p := ⟨w.heap.size, o, none⟩) (by simp; omega)).trans ((below2 w1 (.map compEs 6) (.map reckEs 6)).cell (p := ⟨w.heap.size, o, none⟩) hlw); have hg : ∀ o, w2.frozen? ⟨w.heap.size, o, none⟩ = w1.frozen? ⟨w.heap.size, o, none⟩ := fun o => (hb2.frozen (p := ⟨w.heap.size, o, none⟩) (by simp; omega)).trans ((below2 w1 (.map compEs 6) (.map reckEs 6)).frozen (p := ⟨w.heap.size, o, none⟩) hlw)))
  all_goals go_wp2
  all_goals refine bodyPost_ret (v := .tuple #[.agg #[.int .i64 rk, .bool rb, .int .i64 ri, .string rs, .slice ra rn rc], .int .i64 er]) (by simp [results, Tryd.results19, go_sem, hd, hc]) rfl ⟨rfl, below_set5 ?_ (Nat.le_refl _) _ _ _ _ _⟩
  all_goals exact hb2.via ((below2 _ _ _).drew.via hb1'.out)
set_option maxRecDepth 10000 in
set_option maxHeartbeats 1000000 in
theorem apply_20 (n : Nat) (t1 t2 : Tr) (sv : Value) (w : World) (hl : Lv w (Vs w n) [t1, t2] sv) (hf1 : fit 30 t1 = true) (hf2 : fit 30 t2 = true)
    (rk : Int) (rb : Bool) (ri : Int) (rs : ByteArray) (ra : Option Addr) (rn rc : Nat) (er : Int)
    (HC : ∀ s1 s2 w', Vs w n t1 s1 → Vs w n t2 s2 → Below w.heap.size w w' → Calls Tryd.prog 77 #[vv t1 s1, vv t2 s2] w' fun e w'' => e = .returned (.tuple #[.agg #[.int .i64 rk, .bool rb, .int .i64 ri, .string rs, .slice ra rn rc], .int .i64 er]) ∧ Below w'.heap.size w' w'') :
    Calls Tryd.prog 19 #[.int .i64 20, sv] w fun e w' => e = .returned (.tuple #[.agg #[.int .i64 rk, .bool rb, .int .i64 ri, .string rs, .slice ra rn rc], .int .i64 er]) ∧ Below w.heap.size w w' := by
  have HF := Hid.intro (fun w' hb => allFit_any n (fits_any n) 30 [t1, t2] sv w' (Nat.le_refl _) (hl.mono hb (fun t v => Vs.below hb n t v)))
  have hall : [t1, t2].all (fit 30) = true := by simp [hf1, hf2]
  rw [hall] at HF
  obtain ⟨b, o, cap, s1, s2, rfl, hc1, hc2, c1, v1, c2, v2⟩ := two_cells hl
  have HC' := Hid.intro (fun w' hb => HC s1 s2 w' v1 v2 hb)
  obtain ⟨a1, n1, rfl, -, -⟩ := v1.form
  obtain ⟨a2, n2, rfl, -, -⟩ := v2.form
  clear HC v1 v2 hl hf1 hf2 hall
  unfold vv at HC'
  go_enter Tryd.func19, Tryd.ntmps19
  go_wp2_with fail
  refine (HF.out _ ((Below.refl _ _).alloc (Nat.le_refl _) _)).mono ?_
  rintro e w1 ⟨rfl, hb1⟩
  have hb1' := Hid.intro (((Below.refl _ _).alloc (Nat.le_refl _) _).trans (hb1.mono (B' := w.heap.size) (by simp)))
  have hsz := hb1.size
  simp at hsz
  obtain ⟨hc, hf⟩ := bcell hb1 (N := w.heap.size + 1) (by simp)
  clear hb1 HF
  have HCm := Hid.intro (comparing_any w1)
  have HRm := Hid.intro (reckoning_any (w1.alloc (.map compEs 6)))
  have L1 := run_lookno _ _ und_two (w1.alloc (.map compEs 6)) _ (zero_onTwo _) w1.heap.size compEs 6 (heap_new _ _) 20 (by decide) rfl
  have L2 := run_look _ _ und_two ((w1.alloc (.map compEs 6)).alloc (.map reckEs 6)) (w1.heap.size + 1) reckEs 6 (by have := heap_new (w1.alloc (.map compEs 6)) (.map reckEs 6); simpa using this) 20 (by decide) 4 (.func (.func 77) #[] #[]) rfl
  go_wp2_with fail
  refine HCm.out.mono ?_
  rintro e w2 ⟨rfl, rfl⟩
  clear HCm
  go_wp2_with fail
  refine HRm.out.mono ?_
  rintro e w2 ⟨rfl, rfl⟩
  clear HRm
  have hlb : b < w.heap.size := cell_lt c1.1
  obtain ⟨p1, p2, p3, p4, p5⟩ := c1
  obtain ⟨q1, q2, q3, q4, q5⟩ := c2
  have hlb1 : b < w1.heap.size := by omega
  have hlw : w.heap.size < w1.heap.size := by omega
  have HC2 := Hid.intro (HC'.out ((w1.alloc (.map compEs 6)).alloc (.map reckEs 6)).drew ((below2 _ _ _).drew.via hb1'.out))
  clear HC'
  go_wp2
  go_region_with ((go_at_call 77; refine HC2.out.mono ?_; rintro e w2 ⟨rfl, hb2⟩; have hd : ∀ o, w2.cell? ⟨w.heap.size, o, none⟩ = w1.cell? ⟨w.heap.size, o, none⟩ := fun o => (hb2.cell (p := ⟨w.heap.size, o, none⟩) (by simp; omega)).trans ((below2 w1 (.map compEs 6) (.map reckEs 6)).cell (p := ⟨w.heap.size, o, none⟩) hlw); have hg : ∀ o, w2.frozen? ⟨w.heap.size, o, none⟩ = w1.frozen? ⟨w.heap.size, o, none⟩ := fun o => (hb2.frozen (p := ⟨w.heap.size, o, none⟩) (by simp; omega)).trans ((below2 w1 (.map compEs 6) (.map reckEs 6)).frozen (p := ⟨w.heap.size, o, none⟩) hlw)))
  all_goals go_wp2
  all_goals refine bodyPost_ret (v := .tuple #[.agg #[.int .i64 rk, .bool rb, .int .i64 ri, .string rs, .slice ra rn rc], .int .i64 er]) (by simp [results, Tryd.results19, go_sem, hd, hc]) rfl ⟨rfl, below_set5 ?_ (Nat.le_refl _) _ _ _ _ _⟩
  all_goals exact hb2.via ((below2 _ _ _).drew.via hb1'.out)
end Go.Proofs.YtppbaflacccilaaDoor
