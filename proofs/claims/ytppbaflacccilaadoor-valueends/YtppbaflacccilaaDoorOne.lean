/- value.size, value.has; value.Apply of operations of one value, and of has: what they tell. -/
import Derived.Test.YtppbaflacccilaaDoorJoin
import Derived.Test.YtppbaflacccilaaDoorOrdSame
import Derived.Deep.RegionHeld3
namespace Go.Proofs.YtppbaflacccilaaDoor
open Go.RowKit

set_option maxHeartbeats 1000000 in
theorem size_list (b : Bool) (i : Int) (s : ByteArray) (l : List Tr) (a0 : Option Addr) (c : Nat) (w : World) :
    Calls Tryd.prog 60 #[vv ⟨4, b, i, s, l⟩ (.slice a0 l.length c)] w fun e w' => e = .returned (.tuple #[.agg #[.int .i64 2, .bool false, .int .i64 (l.length : Int), .string ⟨#[]⟩, .slice none 0 0], .int .i64 0]) ∧ Below w.heap.size w w' := by
  unfold vv
  generalize l.length = n
  go_enter Tryd.func60, Tryd.ntmps60
  go_wp2_with fail
  refine (number_any (n : Int) _).mono ?_
  rintro e w1 ⟨rfl, hb1⟩
  have HB := Hid.intro (hb1.via (below2 _ _ _))
  obtain ⟨hc, hf⟩ := bcell hb1 (N := w.heap.size + 2) (by simp)
  have hsz : w.heap.size + 1 < w1.heap.size := by have := hb1.size; simp at this; omega
  clear hb1
  go_wp2
  refine bodyPost_ret (v := .tuple #[.agg #[.int .i64 2, .bool false, .int .i64 (n : Int), .string ⟨#[]⟩, .slice none 0 0], .int .i64 0]) (by simp [results, Tryd.results60, go_sem, hc]) rfl ⟨rfl, ?_⟩
  exact below_set5 HB.out (Nat.le_succ _) _ _ _ _ _

theorem one_cell {w : World} {n : Nat} {t1 : Tr} {sv : Value} (h : Lv w (Vs w n) [t1] sv) :
    ∃ b o cap s1, sv = .slice (some ⟨b, o, none⟩) 1 cap ∧ 1 ≤ cap ∧ cap ≤ 9223372036854775807 ∧ Cel w b o t1 s1 ∧ Vs w n t1 s1 := by
  obtain ⟨a0, cap, rfl, h2, h3, h4⟩ := h
  obtain ⟨b, o, rfl, h5⟩ := h4 (by simp)
  obtain ⟨s1, c1, v1⟩ := h5 0 (by simp)
  exact ⟨b, o, cap, s1, rfl, by simpa using h2, h3, by simpa using c1, v1⟩

set_option maxRecDepth 10000 in
set_option maxHeartbeats 1000000 in
theorem apply_21 (n : Nat) (t1 : Tr) (sv : Value) (w : World) (hl : Lv w (Vs w n) [t1] sv) (hf1 : fit 30 t1 = true)
    (rk : Int) (rb : Bool) (ri : Int) (rs : ByteArray) (ra : Option Addr) (rn rc : Nat) (er : Int)
    (HC : ∀ s1 w', Vs w n t1 s1 → Below w.heap.size w w' → Calls Tryd.prog 60 #[vv t1 s1] w' fun e w'' => e = .returned (.tuple #[.agg #[.int .i64 rk, .bool rb, .int .i64 ri, .string rs, .slice ra rn rc], .int .i64 er]) ∧ Below w'.heap.size w' w'') :
    Calls Tryd.prog 19 #[.int .i64 21, sv] w fun e w' => e = .returned (.tuple #[.agg #[.int .i64 rk, .bool rb, .int .i64 ri, .string rs, .slice ra rn rc], .int .i64 er]) ∧ Below w.heap.size w w' := by
  have HF := Hid.intro (fun w' hb => allFit_any n (fits_any n) 30 [t1] sv w' (Nat.le_refl _) (hl.mono hb (fun t v => Vs.below hb n t v)))
  have hall : [t1].all (fit 30) = true := by simp [hf1]
  rw [hall] at HF
  obtain ⟨b, o, cap, s1, rfl, hc1, hc2, c1, v1⟩ := one_cell hl
  have HC' := Hid.intro (fun w' hb => HC s1 w' v1 hb)
  obtain ⟨a1, n1, rfl, -, -⟩ := v1.form
  clear HC v1 hl hf1 hall
  unfold vv at HC'
  go_enter Tryd.func19, Tryd.ntmps19
  go_wp2_with fail
  refine (HF.out _ ((Below.refl _ _).alloc (Nat.le_refl _) _)).mono ?_
  rintro e w1 ⟨rfl, hb1⟩
  have hb1' := Hid.intro (((Below.refl _ _).alloc (Nat.le_refl _) _).trans (hb1.mono (B' := w.heap.size) (by simp)))
  have hsz := hb1.size
  simp at hsz
  obtain ⟨hc, hf⟩ := bcell hb1 (N := w.heap.size + 1) (by simp)
  clear hb1 HF
  have HCm := Hid.intro (ofOne_any w1)
  have L1 := run_look _ _ und_one (w1.alloc (.map oneEs 3)) w1.heap.size oneEs 3 (heap_new _ _) 21 (by decide) 2 (.func (.func 60) #[] #[]) rfl
  go_wp2_with fail
  refine HCm.out.mono ?_
  rintro e w2 ⟨rfl, rfl⟩
  clear HCm
  have hlb : b < w.heap.size := cell_lt c1.1
  obtain ⟨p1, p2, p3, p4, p5⟩ := c1
  have hlb1 : b < w1.heap.size := by omega
  have hlw : w.heap.size < w1.heap.size := by omega
  have HC2 := Hid.intro (HC'.out (w1.alloc (.map oneEs 3)) ((below_al (Below.refl _ _) _).via hb1'.out))
  clear HC'
  go_wp2_with fail
  refine HC2.out.mono ?_
  rintro e w2 ⟨rfl, hb2⟩
  have hd : ∀ o, w2.cell? ⟨w.heap.size, o, none⟩ = w1.cell? ⟨w.heap.size, o, none⟩ := fun o => (hb2.cell (p := ⟨w.heap.size, o, none⟩) (by simp; omega)).trans ((below_al (Below.refl w1.heap.size w1) (.map oneEs 3)).cell (p := ⟨w.heap.size, o, none⟩) hlw)
  have hg : ∀ o, w2.frozen? ⟨w.heap.size, o, none⟩ = w1.frozen? ⟨w.heap.size, o, none⟩ := fun o => (hb2.frozen (p := ⟨w.heap.size, o, none⟩) (by simp; omega)).trans ((below_al (Below.refl w1.heap.size w1) (.map oneEs 3)).frozen (p := ⟨w.heap.size, o, none⟩) hlw)
  have HB2 := Hid.intro (hb2.via ((below_al (Below.refl _ _) _).via hb1'.out))
  have hsz2 : w.heap.size < w2.heap.size := by have := hb2.size; simp at this; omega
  clear hb2
  go_wp2
  refine bodyPost_ret (v := .tuple #[.agg #[.int .i64 rk, .bool rb, .int .i64 ri, .string rs, .slice ra rn rc], .int .i64 er]) (by simp [results, Tryd.results19, go_sem, hd, hc]) rfl ⟨rfl, ?_⟩
  exact below_set5 HB2.out (Nat.le_refl _) _ _ _ _ _

set_option maxRecDepth 10000 in
set_option maxHeartbeats 1000000 in
theorem apply_6 (n : Nat) (t1 : Tr) (sv : Value) (w : World) (hl : Lv w (Vs w n) [t1] sv) (hf1 : fit 30 t1 = true)
    (rk : Int) (rb : Bool) (ri : Int) (rs : ByteArray) (ra : Option Addr) (rn rc : Nat) (er : Int)
    (HC : ∀ s1 w', Vs w n t1 s1 → Below w.heap.size w w' → Calls Tryd.prog 58 #[vv t1 s1] w' fun e w'' => e = .returned (.tuple #[.agg #[.int .i64 rk, .bool rb, .int .i64 ri, .string rs, .slice ra rn rc], .int .i64 er]) ∧ Below w'.heap.size w' w'') :
    Calls Tryd.prog 19 #[.int .i64 6, sv] w fun e w' => e = .returned (.tuple #[.agg #[.int .i64 rk, .bool rb, .int .i64 ri, .string rs, .slice ra rn rc], .int .i64 er]) ∧ Below w.heap.size w w' := by
  have HF := Hid.intro (fun w' hb => allFit_any n (fits_any n) 30 [t1] sv w' (Nat.le_refl _) (hl.mono hb (fun t v => Vs.below hb n t v)))
  have hall : [t1].all (fit 30) = true := by simp [hf1]
  rw [hall] at HF
  obtain ⟨b, o, cap, s1, rfl, hc1, hc2, c1, v1⟩ := one_cell hl
  have HC' := Hid.intro (fun w' hb => HC s1 w' v1 hb)
  obtain ⟨a1, n1, rfl, -, -⟩ := v1.form
  clear HC v1 hl hf1 hall
  unfold vv at HC'
  go_enter Tryd.func19, Tryd.ntmps19
  go_wp2_with fail
  refine (HF.out _ ((Below.refl _ _).alloc (Nat.le_refl _) _)).mono ?_
  rintro e w1 ⟨rfl, hb1⟩
  have hb1' := Hid.intro (((Below.refl _ _).alloc (Nat.le_refl _) _).trans (hb1.mono (B' := w.heap.size) (by simp)))
  have hsz := hb1.size
  simp at hsz
  obtain ⟨hc, hf⟩ := bcell hb1 (N := w.heap.size + 1) (by simp)
  clear hb1 HF
  have HCm := Hid.intro (ofOne_any w1)
  have L1 := run_look _ _ und_one (w1.alloc (.map oneEs 3)) w1.heap.size oneEs 3 (heap_new _ _) 6 (by decide) 0 (.func (.func 58) #[] #[]) rfl
  go_wp2_with fail
  refine HCm.out.mono ?_
  rintro e w2 ⟨rfl, rfl⟩
  clear HCm
  have hlb : b < w.heap.size := cell_lt c1.1
  obtain ⟨p1, p2, p3, p4, p5⟩ := c1
  have hlb1 : b < w1.heap.size := by omega
  have hlw : w.heap.size < w1.heap.size := by omega
  have HC2 := Hid.intro (HC'.out (w1.alloc (.map oneEs 3)) ((below_al (Below.refl _ _) _).via hb1'.out))
  clear HC'
  go_wp2_with fail
  refine HC2.out.mono ?_
  rintro e w2 ⟨rfl, hb2⟩
  have hd : ∀ o, w2.cell? ⟨w.heap.size, o, none⟩ = w1.cell? ⟨w.heap.size, o, none⟩ := fun o => (hb2.cell (p := ⟨w.heap.size, o, none⟩) (by simp; omega)).trans ((below_al (Below.refl w1.heap.size w1) (.map oneEs 3)).cell (p := ⟨w.heap.size, o, none⟩) hlw)
  have hg : ∀ o, w2.frozen? ⟨w.heap.size, o, none⟩ = w1.frozen? ⟨w.heap.size, o, none⟩ := fun o => (hb2.frozen (p := ⟨w.heap.size, o, none⟩) (by simp; omega)).trans ((below_al (Below.refl w1.heap.size w1) (.map oneEs 3)).frozen (p := ⟨w.heap.size, o, none⟩) hlw)
  have HB2 := Hid.intro (hb2.via ((below_al (Below.refl _ _) _).via hb1'.out))
  have hsz2 : w.heap.size < w2.heap.size := by have := hb2.size; simp at this; omega
  clear hb2
  go_wp2
  refine bodyPost_ret (v := .tuple #[.agg #[.int .i64 rk, .bool rb, .int .i64 ri, .string rs, .slice ra rn rc], .int .i64 er]) (by simp [results, Tryd.results19, go_sem, hd, hc]) rfl ⟨rfl, ?_⟩
  exact below_set5 HB2.out (Nat.le_refl _) _ _ _ _ _
set_option maxRecDepth 10000 in
set_option maxHeartbeats 1000000 in
theorem apply_22 (n : Nat) (t1 t2 : Tr) (sv : Value) (w : World) (hl : Lv w (Vs w n) [t1, t2] sv) (hf1 : fit 30 t1 = true) (hf2 : fit 30 t2 = true)
    (rk : Int) (rb : Bool) (ri : Int) (rs : ByteArray) (ra : Option Addr) (rn rc : Nat) (er : Int)
    (HC : ∀ s1 s2 w', Vs w n t1 s1 → Vs w n t2 s2 → Below w.heap.size w w' → Calls Tryd.prog 79 #[vv t1 s1, vv t2 s2] w' fun e w'' => e = .returned (.tuple #[.agg #[.int .i64 rk, .bool rb, .int .i64 ri, .string rs, .slice ra rn rc], .int .i64 er]) ∧ Below w'.heap.size w' w'') :
    Calls Tryd.prog 19 #[.int .i64 22, sv] w fun e w' => e = .returned (.tuple #[.agg #[.int .i64 rk, .bool rb, .int .i64 ri, .string rs, .slice ra rn rc], .int .i64 er]) ∧ Below w.heap.size w w' := by
  have HF := Hid.intro (fun w' hb => allFit_any n (fits_any n) 30 [t1, t2] sv w' (Nat.le_refl _) (hl.mono hb (fun t v => Vs.below hb n t v)))
  have hall : [t1, t2].all (fit 30) = true := by simp [hf1, hf2]
  rw [hall] at HF
  obtain ⟨b, o, cap, s1, s2, rfl, hc1, hc2, c1, v1, c2, v2⟩ := two_cells hl
  have HC' := Hid.intro (fun w' hb => HC s1 s2 w' v1 v2 hb)
  obtain ⟨a1, n1, rfl, -, -⟩ := v1.form
  obtain ⟨a2, n2, rfl, -, -⟩ := v2.form
  clear HC v1 v2 hl hf1 hf2 hall
  unfold vv at HC'
  go_enter Tryd.func19, Tryd.ntmps19
  go_wp2_with fail
  refine (HF.out _ ((Below.refl _ _).alloc (Nat.le_refl _) _)).mono ?_
  rintro e w1 ⟨rfl, hb1⟩
  have hb1' := Hid.intro (((Below.refl _ _).alloc (Nat.le_refl _) _).trans (hb1.mono (B' := w.heap.size) (by simp)))
  have hsz := hb1.size
  simp at hsz
  obtain ⟨hc, hf⟩ := bcell hb1 (N := w.heap.size + 1) (by simp)
  clear hb1 HF
  have HCm := Hid.intro (comparing_any w1)
  have HRm := Hid.intro (reckoning_any (w1.alloc (.map compEs 6)))
  have L1 := run_lookno _ _ und_two (w1.alloc (.map compEs 6)) _ (zero_onTwo _) w1.heap.size compEs 6 (heap_new _ _) 22 (by decide) rfl
  have L2 := run_look _ _ und_two ((w1.alloc (.map compEs 6)).alloc (.map reckEs 6)) (w1.heap.size + 1) reckEs 6 (by have := heap_new (w1.alloc (.map compEs 6)) (.map reckEs 6); simpa using this) 22 (by decide) 5 (.func (.func 79) #[] #[]) rfl
  go_wp2_with fail
  refine HCm.out.mono ?_
  rintro e w2 ⟨rfl, rfl⟩
  clear HCm
  go_wp2_with fail
  refine HRm.out.mono ?_
  rintro e w2 ⟨rfl, rfl⟩
  clear HRm
  have hlb : b < w.heap.size := cell_lt c1.1
  obtain ⟨p1, p2, p3, p4, p5⟩ := c1
  obtain ⟨q1, q2, q3, q4, q5⟩ := c2
  have hlb1 : b < w1.heap.size := by omega
  have hlw : w.heap.size < w1.heap.size := by omega
  have HC2 := Hid.intro (HC'.out ((w1.alloc (.map compEs 6)).alloc (.map reckEs 6)).drew ((below2 _ _ _).drew.via hb1'.out))
  clear HC'
  go_wp2
  go_region_with ((go_at_call 79; refine HC2.out.mono ?_; rintro e w2 ⟨rfl, hb2⟩; have hd : ∀ o, w2.cell? ⟨w.heap.size, o, none⟩ = w1.cell? ⟨w.heap.size, o, none⟩ := fun o => (hb2.cell (p := ⟨w.heap.size, o, none⟩) (by simp; omega)).trans ((below2 w1 (.map compEs 6) (.map reckEs 6)).cell (p := ⟨w.heap.size, o, none⟩) hlw); have hg : ∀ o, w2.frozen? ⟨w.heap.size, o, none⟩ = w1.frozen? ⟨w.heap.size, o, none⟩ := fun o => (hb2.frozen (p := ⟨w.heap.size, o, none⟩) (by simp; omega)).trans ((below2 w1 (.map compEs 6) (.map reckEs 6)).frozen (p := ⟨w.heap.size, o, none⟩) hlw)))
  all_goals go_wp2
  all_goals refine bodyPost_ret (v := .tuple #[.agg #[.int .i64 rk, .bool rb, .int .i64 ri, .string rs, .slice ra rn rc], .int .i64 er]) (by simp [results, Tryd.results19, go_sem, hd, hc]) rfl ⟨rfl, below_set5 ?_ (Nat.le_refl _) _ _ _ _ _⟩
  all_goals exact hb2.via ((below2 _ _ _).drew.via hb1'.out)

set_option maxHeartbeats 1000000 in
theorem has1_any (n : Nat) (x y : Tr) (sx sy : Value) (g : Nat) (w : World) (hx : Vs w n x sx) (hy : Vs w n y sy) (hc : Cel w g 0 y sy) :
    Calls Tryd.prog 95 #[vv x sx, .pointer (some ⟨g, 0, none⟩)] w fun e w' => e = .returned (.bool (same n x y)) ∧ Below w.heap.size w w' := by
  have HS := Hid.intro (fun w' (h : Below w.heap.size w w') => same_any n x y sx sy w' (Vs.below h _ _ _ hx) (Vs.below h _ _ _ hy))
  obtain ⟨a1, n1, rfl, -, -⟩ := hx.form
  obtain ⟨a2, n2, rfl, -, -⟩ := hy.form
  obtain ⟨p1, p2, p3, p4, p5⟩ := hc
  have hlg : g < w.heap.size := cell_lt p1
  clear hx hy
  unfold vv at *
  go_enter Tryd.func95, Tryd.ntmps95
  go_wp2_with fail
  refine (HS.out _ (below_al (Below.refl _ _) _)).mono ?_
  rintro e w1 ⟨rfl, hb1⟩
  go_wp2
  go_ret
  exact ⟨rfl, hb1.via (below_al (Below.refl _ _) _)⟩

/-- The first of them that is the same. -/
def inL (n : Nat) (ts : List Tr) (y : Tr) : Bool := ts.any (fun x => same n x y)

set_option maxHeartbeats 1000000 in
theorem index_any (n : Nat) (ts : List Tr) (y : Tr) (sv sy : Value) (g : Nat) (w : World) (hl : Lv w (Vs w n) ts sv) (hy : Vs w n y sy) (hc : Cel w g 0 y sy) :
    Calls Tryd.prog 102 #[sv, .func (.func 95) #[] #[.pointer (some ⟨g, 0, none⟩)]] w fun e w' => ∃ i : Int, e = .returned (.int .i64 i) ∧ Hid (decide (0 ≤ i) = inL n ts y) ∧ Below w.heap.size w w' := by
  obtain ⟨a0, ca, rfl, la, ma, ea⟩ := hl
  unfold maxLen at ma
  have ea' := Hid.intro ea
  have HY := Hid.intro hy
  have HG := Hid.intro hc
  clear ea hy hc
  go_enter Tryd.func102, Tryd.ntmps102
  go_wp2
  go_loopw [8] (fun i w' => ∃ k : Nat, k ≤ ts.length ∧ i = .int .i64 k ∧ Hid (inL n (ts.take k) y = false) ∧ Hid (Below w.heap.size w w')) (fun i _ => ts.length - (intOf i).toNat)
  case atStart => exact ⟨0, by omega, rfl, rfl, Below.refl _ _⟩
  case round =>
    obtain ⟨k, hk1, rfl, hk3, HW⟩ := hrel
    by_cases hlt : k < ts.length
    · obtain ⟨b1, o1, rfl, e1⟩ := ea'.out (by omega)
      obtain ⟨s1, c1, v1⟩ := e1 k hlt
      clear e1 ea'
      obtain ⟨a1, n1, rfl, -, -⟩ := v1.form
      have v1' := Vs.below HW.out _ _ _ v1
      obtain ⟨p1, p2, p3, p4, p5⟩ := c1.below HW.out
      have hl1 : b1 < wr.heap.size := cell_lt p1
      have ib : (0 : Int) ≤ (k : Int) := by omega
      have ix : (k : Int) < (ts.length : Int) := by omega
      have HC := Hid.intro (has1_any n ts[k] y _ _ g wr v1' (Vs.below HW.out _ _ _ HY.out) (HG.out.below HW.out))
      clear v1 v1' c1
      have H1 : Hid (same n ts[k] y = true → inL n ts y = true) := fun h => List.any_eq_true.2 ⟨ts[k], List.getElem_mem hlt, h⟩
      have H2 : Hid (same n ts[k] y = false → inL n (ts.take (k + 1)) y = false) := fun h => by
        have h3 := hk3.out
        unfold inL at *
        rw [List.take_succ_eq_append_getElem hlt, List.any_append, h3]
        simp [h]
      generalize same n ts[k] y = f at *
      generalize ts[k] = tx at *
      unfold vv at HC
      go_wp2_with fail
      refine HC.out.mono ?_
      rintro e w1 ⟨rfl, hb1⟩
      have HB := Hid.intro (hb1.via HW.out)
      clear hb1 HC
      cases f
      · go_wp2
        go_roundw
        case rel => exact ⟨k + 1, by omega, by go_num, H2.out (by simp), HB⟩
        case measure => simp [intOf]; omega
      · go_wp2
        go_ret
        exact ⟨_, rfl, by rw [H1.out (by simp)]; simp [Hid], HB.out⟩
    · have hts : Hid (ts.take k = ts) := List.take_of_length_le (by omega)
      go_wp2
      go_ret
      refine ⟨-1, rfl, ?_, HW.out⟩
      have := hk3.out
      rw [hts.out] at this
      rw [this]; rfl

set_option maxHeartbeats 1000000 in
theorem contains_any (n : Nat) (ts : List Tr) (y : Tr) (sv sy : Value) (g : Nat) (w : World) (hl : Lv w (Vs w n) ts sv) (hy : Vs w n y sy) (hc : Cel w g 0 y sy) :
    Calls Tryd.prog 94 #[sv, .func (.func 95) #[] #[.pointer (some ⟨g, 0, none⟩)]] w fun e w' => e = .returned (.bool (inL n ts y)) ∧ Below w.heap.size w w' := by
  have HI := Hid.intro (index_any n ts y sv sy g w hl hy hc)
  obtain ⟨a0, ca, rfl, la, ma⟩ := hl.form
  clear hl hy hc
  generalize inL n ts y = f at *
  go_enter Tryd.func94, Tryd.ntmps94
  go_wp2_with fail
  refine HI.out.mono ?_
  rintro e w1 ⟨i, rfl, H1, hb1⟩
  go_wp2
  go_ret
  exact ⟨by rw [← H1.out]; simp, hb1⟩

set_option maxHeartbeats 1000000 in
theorem has_list (n : Nat) (b : Bool) (i : Int) (s : ByteArray) (ts : List Tr) (y : Tr) (sv sy : Value) (w : World) (hl : Lv w (Vs w n) ts sv) (hy : Vs w n y sy) :
    Calls Tryd.prog 79 #[vv ⟨4, b, i, s, ts⟩ sv, vv y sy] w fun e w' => e = .returned (.tuple #[.agg #[.int .i64 1, .bool (inL n ts y), .int .i64 0, .string ⟨#[]⟩, .slice none 0 0], .int .i64 0]) ∧ Below w.heap.size w w' := by
  have HI := Hid.intro (fun g w' (h : Below w.heap.size w w') (hc : Cel w' g 0 y sy) => contains_any n ts y sv sy g w' (hl.mono h (fun t v => Vs.below h n t v)) (Vs.below h _ _ _ hy) hc)
  obtain ⟨a0, ca, rfl, la, ma⟩ := hl.form
  obtain ⟨a1, n1, rfl, -, -⟩ := hy.form
  clear hl hy
  generalize inL n ts y = f at *
  unfold vv
  go_enter Tryd.func79, Tryd.ntmps79
  go_wp2_with fail
  refine (HI.out _ _ (below3 _ _ _ _) (by simp [Cel, go_sem])).mono ?_
  rintro e w1 ⟨rfl, hb1⟩
  have HB := Hid.intro (hb1.via (below3 _ _ _ _))
  obtain ⟨hc, hf⟩ := bcell hb1 (N := w.heap.size + 3) (by simp)
  have hsz : w.heap.size + 1 + 1 < w1.heap.size := by have := hb1.size; simp at this; omega
  clear hb1 HI
  go_wp2_with (go_at_call 62; refine (truth_any _ _).mono ?_; rintro e w1 ⟨rfl, ⟨cw, rfl⟩⟩)
  refine bodyPost_ret (v := .tuple #[.agg #[.int .i64 1, .bool f, .int .i64 0, .string ⟨#[]⟩, .slice none 0 0], .int .i64 0]) (by simp [results, Tryd.results79, go_sem, hc, hsz]) rfl ⟨rfl, ?_⟩
  exact below_al (below_set5 HB.out (Nat.le_add_right _ 2) _ _ _ _ _) _
end Go.Proofs.YtppbaflacccilaaDoor
