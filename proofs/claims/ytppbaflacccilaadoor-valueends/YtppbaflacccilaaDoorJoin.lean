/- value.joinLists, value.add of two lists, value.Apply of it: what they tell. -/
import Derived.Test.YtppbaflacccilaaDoorClone
import Derived.Test.YtppbaflacccilaaDoorConcat
import Derived.Test.YtppbaflacccilaaDoorCmp
namespace Go.Proofs.YtppbaflacccilaaDoor
open Go.RowKit

theorem LvB.up {P Q : Nat → Prop} {w1 w2 : World} {n : Nat} {ts : List Tr} {sv : Value} (h : LvB P w1 (VsB P w1 n) ts sv) (hk : Kept P w1 w2) (hpq : ∀ b, P b → Q b) : LvB Q w2 (VsB Q w2 n) ts sv :=
  LvB.move hk hpq (fun t v => VsB.move hk hpq n t v) h

set_option maxHeartbeats 2000000 in
theorem join_yes (n r : Nat) (us vs : List Tr) (sa sb : Value) (w : World) (ha : Lv w (Vs w n) us sa) (hb : Lv w (Vs w n) vs sb) (hl : us.length + vs.length ≤ 4096) (hu : ∀ t ∈ us, fit r t = true) (hv : ∀ t ∈ vs, fit r t = true) :
    Calls Tryd.prog 92 #[sa, sb] w fun e w' => ∃ sv', e = .returned (.tuple #[vv ⟨4, false, 0, ⟨#[]⟩, us ++ vs⟩ sv', .int .i64 0]) ∧ Hid (LvB (w.heap.size + 1 ≤ ·) w' (VsB (w.heap.size + 1 ≤ ·) w' n) (us ++ vs) sv') ∧ Below w.heap.size w w' := by
  obtain ⟨ts, hts⟩ : ∃ ts, ts = us ++ vs := ⟨_, rfl⟩
  rw [← hts]
  have HU := Hid.intro (fun w' (hb : Below w.heap.size w w') => ha.mono hb (fun t v => Vs.below hb n t v))
  have HV := Hid.intro (fun w' (h : Below w.heap.size w w') => hb.mono h (fun t v => Vs.below h n t v))
  obtain ⟨a0, ca, rfl, la, ma⟩ := ha.form
  obtain ⟨b0, cb, rfl, lb, mb⟩ := hb.form
  clear ha hb
  have s2 : wrap64 ((us.length : Int) + (vs.length : Int)) = ((us.length + vs.length : Nat) : Int) := by unfold wrap64; omega
  have n2 : ¬ (((us.length + vs.length : Nat) : Int) > 4096) := by omega
  go_enter Tryd.func92, Tryd.ntmps92
  go_wp2_with fail
  refine (concat_two n us vs _ _ (w.heap.size + 1) _ (by simp [go_sem]) (by simp [go_sem]) (HU.out _ (below2 _ _ _)) (HV.out _ (below2 _ _ _)) hl).mono ?_
  rintro e w1 ⟨v1, rfl, L1, hb1⟩
  rw [← hts] at L1
  obtain ⟨c1, m1, rfl, lc1, -⟩ := L1.out.form
  have HB := Hid.intro (hb1.via (below2 _ _ _))
  obtain ⟨hc, hf⟩ := bcell hb1 (N := w.heap.size + 2) (by simp)
  have hs1 : w.heap.size + 2 ≤ w1.heap.size := by have := hb1.size; simpa using this
  clear hb1 HU HV
  have HC := Hid.intro (cloneList_any n (clone_any n) r ts _ w1 (by rw [hts]; simpa using hl) (fun t ht => (List.mem_append.1 (by rw [← hts]; exact ht)).elim (hu t) (hv t)) (LvB.lv (fun _ _ h => h) L1.out))
  clear L1 hts
  go_wp2_with fail
  refine HC.out.mono ?_
  rintro e w2 ⟨v2, rfl, L2, hb2⟩
  obtain ⟨c2, m2, rfl, -, -⟩ := L2.out.form
  have HB2 := Hid.intro (hb2.via HB.out)
  obtain ⟨hc2, hf2⟩ := bcell hb2 (N := w1.heap.size) rfl
  have hs2 : w.heap.size + 2 ≤ w2.heap.size := Nat.le_trans hs1 hb2.size
  have d0 := (hc2 w.heap.size 0 (by omega)).trans (hc w.heap.size 0 (by omega))
  have d1 := (hc2 w.heap.size 1 (by omega)).trans (hc w.heap.size 1 (by omega))
  have d2 := (hc2 w.heap.size 2 (by omega)).trans (hc w.heap.size 2 (by omega))
  have d3 := (hc2 w.heap.size 3 (by omega)).trans (hc w.heap.size 3 (by omega))
  have d4 := (hc2 w.heap.size 4 (by omega)).trans (hc w.heap.size 4 (by omega))
  have e0 := fun o => (hf2 w.heap.size o (by omega)).trans (hf w.heap.size o (by omega))
  simp [go_sem] at d0 d1 d2 d3 d4 e0
  have hs3 : w.heap.size < w2.heap.size := by omega
  clear hb2 HC hc hf hc2 hf2 HB
  go_wp2
  refine bodyPost_ret (v := .tuple #[vv ⟨4, false, 0, ⟨#[]⟩, ts⟩ (.slice c2 ts.length m2), .int .i64 0]) (by simp [results, Tryd.results92, go_sem, d0, d1, d2, d3, d4, vv]) rfl ⟨_, rfl, L2.out.up ?kk (fun b hb => by omega), below_set5 HB2.out (Nat.le_refl _) _ _ _ _ _⟩
  case kk =>
    intro b hb _ o
    repeat rw [cell_other _ _ _ _ _ _ (.inl (by omega))]
set_option maxHeartbeats 2000000 in
theorem join_no (a0 b0 : Option Addr) (n1 n2 c1 c2 : Nat) (w : World) (h1 : n1 ≤ 9223372036854775807) (h2 : n2 ≤ 4096) (hl : 4096 < n1 + n2) (h3 : n1 ≤ 4096) :
    Calls Tryd.prog 92 #[.slice a0 n1 c1, .slice b0 n2 c2] w fun e w' => e = .returned (.tuple #[.agg #[.int .i64 0, .bool false, .int .i64 0, .string ⟨#[]⟩, .slice none 0 0], .int .i64 2]) ∧ Below w.heap.size w w' := by
  have s2 : wrap64 ((n1 : Int) + (n2 : Int)) = ((n1 + n2 : Nat) : Int) := by unfold wrap64; omega
  have g2 : ((n1 + n2 : Nat) : Int) > 4096 := by omega
  go_enter Tryd.func92, Tryd.ntmps92
  go_wp2
  refine bodyPost_ret (v := .tuple #[.agg #[.int .i64 0, .bool false, .int .i64 0, .string ⟨#[]⟩, .slice none 0 0], .int .i64 2]) (by simp [results, Tryd.results92, go_sem]) rfl ⟨rfl, ?_⟩
  exact below_al (Below.refl _ _) _

set_option maxHeartbeats 2000000 in
theorem add_lists (n r : Nat) (b1 b2 : Bool) (i1 i2 : Int) (x1 x2 : ByteArray) (us vs : List Tr) (sa sb : Value) (w : World) (ha : Lv w (Vs w n) us sa) (hb : Lv w (Vs w n) vs sb) (hl : us.length + vs.length ≤ 4096) (hu : ∀ t ∈ us, fit r t = true) (hv : ∀ t ∈ vs, fit r t = true) :
    Calls Tryd.prog 69 #[vv ⟨4, b1, i1, x1, us⟩ sa, vv ⟨4, b2, i2, x2, vs⟩ sb] w fun e w' => ∃ sv', e = .returned (.tuple #[vv ⟨4, false, 0, ⟨#[]⟩, us ++ vs⟩ sv', .int .i64 0]) ∧ Hid (LvB (w.heap.size ≤ ·) w' (VsB (w.heap.size ≤ ·) w' n) (us ++ vs) sv') ∧ Below w.heap.size w w' := by
  have HJ := Hid.intro (fun w' (h : Below w.heap.size w w') => join_yes n r us vs sa sb w' (ha.mono h (fun t v => Vs.below h n t v)) (hb.mono h (fun t v => Vs.below h n t v)) hl hu hv)
  obtain ⟨ts, hts⟩ : ∃ ts, ts = us ++ vs := ⟨_, rfl⟩
  rw [← hts] at HJ ⊢
  obtain ⟨a0, ca, rfl, la, ma⟩ := ha.form
  obtain ⟨b0, cb, rfl, lb, mb⟩ := hb.form
  clear ha hb hu hv hts
  unfold vv at *
  go_enter Tryd.func69, Tryd.ntmps69
  go_wp2_with fail
  refine (HJ.out _ (below3 _ _ _ _)).mono ?_
  rintro e w1 ⟨v1, rfl, L1, hb1⟩
  obtain ⟨c1, m1, rfl, -, -⟩ := L1.out.form
  have HB := Hid.intro (hb1.via (below3 _ _ _ _))
  obtain ⟨hc, hf⟩ := bcell hb1 (N := w.heap.size + 3) (by simp)
  have hs1 : w.heap.size + 1 + 1 < w1.heap.size := by have := hb1.size; simp at this; omega
  clear hb1 HJ
  go_wp2
  refine bodyPost_ret (v := .tuple #[.agg #[.int .i64 4, .bool false, .int .i64 0, .string ⟨#[]⟩, .slice c1 ts.length m1], .int .i64 0]) (by simp [results, Tryd.results69, go_sem, hc]) rfl ⟨_, rfl, L1.out.up ?kk (fun b hb => by simp at hb; omega), below_set5 HB.out (Nat.le_add_right _ 2) _ _ _ _ _⟩
  case kk =>
    intro b hb _ o
    simp at hb
    repeat rw [cell_other _ _ _ _ _ _ (.inl (by omega))]

set_option maxHeartbeats 2000000 in
theorem add_lists_no (b1 b2 : Bool) (i1 i2 : Int) (x1 x2 : ByteArray) (us vs : List Tr) (a0 b0 : Option Addr) (ca cb : Nat) (w : World) (hl : 4096 < us.length + vs.length) (hu : us.length ≤ 4096) (hv : vs.length ≤ 4096) :
    Calls Tryd.prog 69 #[vv ⟨4, b1, i1, x1, us⟩ (.slice a0 us.length ca), vv ⟨4, b2, i2, x2, vs⟩ (.slice b0 vs.length cb)] w fun e w' => e = .returned (.tuple #[.agg #[.int .i64 0, .bool false, .int .i64 0, .string ⟨#[]⟩, .slice none 0 0], .int .i64 2]) ∧ Below w.heap.size w w' := by
  have HJ := Hid.intro (fun w' => join_no a0 b0 us.length vs.length ca cb w' (by omega) hv hl hu)
  unfold vv at *
  generalize us.length = n1 at *
  generalize vs.length = n2 at *
  go_enter Tryd.func69, Tryd.ntmps69
  go_wp2_with fail
  refine (HJ.out _).mono ?_
  rintro e w1 ⟨rfl, hb1⟩
  have HB := Hid.intro (hb1.via (below3 _ _ _ _))
  obtain ⟨hc, hf⟩ := bcell hb1 (N := w.heap.size + 3) (by simp)
  have hs1 : w.heap.size + 1 + 1 < w1.heap.size := by have := hb1.size; simp at this; omega
  clear hb1 HJ
  go_wp2
  refine bodyPost_ret (v := .tuple #[.agg #[.int .i64 0, .bool false, .int .i64 0, .string ⟨#[]⟩, .slice none 0 0], .int .i64 2]) (by simp [results, Tryd.results69, go_sem, hc]) rfl ⟨rfl, below_set5 HB.out (Nat.le_add_right _ 2) _ _ _ _ _⟩

set_option maxRecDepth 10000 in
set_option maxHeartbeats 2000000 in
/-- Apply of the operation for sums, where a list is told: S is what is said of it; what is written below does not touch it. -/
theorem apply_addL (n : Nat) (t1 t2 : Tr) (sv : Value) (w : World) (hl : Lv w (Vs w n) [t1, t2] sv) (hf1 : fit 30 t1 = true) (hf2 : fit 30 t2 = true)
    (rk : Int) (rb : Bool) (ri : Int) (rs : ByteArray) (rn : Nat) (er : Int) (S : Value → World → Prop) (hS : ∀ v w1 w2, Kept (w.heap.size + 1 ≤ ·) w1 w2 → S v w1 → S v w2)
    (HC : ∀ s1 s2 w', Vs w n t1 s1 → Vs w n t2 s2 → Below w.heap.size w w' → w.heap.size + 1 ≤ w'.heap.size → Calls Tryd.prog 69 #[vv t1 s1, vv t2 s2] w' fun e w'' => ∃ ra rc, e = .returned (.tuple #[.agg #[.int .i64 rk, .bool rb, .int .i64 ri, .string rs, .slice ra rn rc], .int .i64 er]) ∧ Hid (S (.slice ra rn rc) w'') ∧ Below w'.heap.size w' w'') :
    Calls Tryd.prog 19 #[.int .i64 16, sv] w fun e w' => ∃ ra rc, e = .returned (.tuple #[.agg #[.int .i64 rk, .bool rb, .int .i64 ri, .string rs, .slice ra rn rc], .int .i64 er]) ∧ Hid (S (.slice ra rn rc) w') ∧ Below w.heap.size w w' := by
  have HF := Hid.intro (fun w' hb => allFit_any n (fits_any n) 30 [t1, t2] sv w' (Nat.le_refl _) (hl.mono hb (fun t v => Vs.below hb n t v)))
  have hall : [t1, t2].all (fit 30) = true := by simp [hf1, hf2]
  rw [hall] at HF
  obtain ⟨b, o, cap, s1, s2, rfl, hc1, hc2, c1, v1, c2, v2⟩ := two_cells hl
  have HC' := Hid.intro (fun w' hb => HC s1 s2 w' v1 v2 hb)
  obtain ⟨a1, n1, rfl, -, -⟩ := v1.form
  obtain ⟨a2, n2, rfl, -, -⟩ := v2.form
  clear HC v1 v2 hl hf1 hf2 hall
  have HS := Hid.intro hS
  clear hS
  unfold vv at HC'
  go_enter Tryd.func19, Tryd.ntmps19
  go_wp2_with fail
  refine (HF.out _ ((Below.refl _ _).alloc (Nat.le_refl _) _)).mono ?_
  rintro e w1 ⟨rfl, hb1⟩
  have hb1' := Hid.intro (((Below.refl _ _).alloc (Nat.le_refl _) _).trans (hb1.mono (B' := w.heap.size) (by simp)))
  have hsz := hb1.size
  simp at hsz
  obtain ⟨hc, hf⟩ := bcell hb1 (N := w.heap.size + 1) (by simp)
  clear hb1 HF
  have HCm := Hid.intro (comparing_any w1)
  have HRm := Hid.intro (reckoning_any (w1.alloc (.map compEs 6)))
  have L1 := run_lookno _ _ und_two (w1.alloc (.map compEs 6)) _ (zero_onTwo _) w1.heap.size compEs 6 (heap_new _ _) 16 (by decide) rfl
  have L2 := run_look _ _ und_two ((w1.alloc (.map compEs 6)).alloc (.map reckEs 6)) (w1.heap.size + 1) reckEs 6 (by have := heap_new (w1.alloc (.map compEs 6)) (.map reckEs 6); simpa using this) 16 (by decide) 0 (.func (.func 69) #[] #[]) rfl
  go_wp2_with fail
  refine HCm.out.mono ?_
  rintro e w2 ⟨rfl, rfl⟩
  clear HCm
  go_wp2_with fail
  refine HRm.out.mono ?_
  rintro e w2 ⟨rfl, rfl⟩
  clear HRm
  have hlb : b < w.heap.size := cell_lt c1.1
  obtain ⟨p1, p2, p3, p4, p5⟩ := c1
  obtain ⟨q1, q2, q3, q4, q5⟩ := c2
  have hlb1 : b < w1.heap.size := by omega
  have hlw : w.heap.size < w1.heap.size := by omega
  have HC2 := Hid.intro (HC'.out ((w1.alloc (.map compEs 6)).alloc (.map reckEs 6)).drew ((below2 _ _ _).drew.via hb1'.out) (by simp; omega))
  clear HC'
  go_wp2
  go_region_with ((go_at_call 69; refine HC2.out.mono ?_; rintro e w2 ⟨ra, rc, rfl, SS, hb2⟩; have hd : ∀ o, w2.cell? ⟨w.heap.size, o, none⟩ = w1.cell? ⟨w.heap.size, o, none⟩ := fun o => (hb2.cell (p := ⟨w.heap.size, o, none⟩) (by simp; omega)).trans ((below2 w1 (.map compEs 6) (.map reckEs 6)).cell (p := ⟨w.heap.size, o, none⟩) hlw); have hg : ∀ o, w2.frozen? ⟨w.heap.size, o, none⟩ = w1.frozen? ⟨w.heap.size, o, none⟩ := fun o => (hb2.frozen (p := ⟨w.heap.size, o, none⟩) (by simp; omega)).trans ((below2 w1 (.map compEs 6) (.map reckEs 6)).frozen (p := ⟨w.heap.size, o, none⟩) hlw)))
  all_goals go_wp2
  all_goals refine bodyPost_ret (v := .tuple #[.agg #[.int .i64 rk, .bool rb, .int .i64 ri, .string rs, .slice ra rn rc], .int .i64 er]) (by simp [results, Tryd.results19, go_sem, hd, hc]) rfl ⟨_, _, rfl, HS.out _ _ _ ?_ SS.out, below_set5 ?_ (Nat.le_refl _) _ _ _ _ _⟩
  all_goals first
    | exact hb2.via ((below2 _ _ _).drew.via hb1'.out)
    | (intro b hb _ o; repeat rw [cell_other _ _ _ _ _ _ (.inl (by omega))])
end Go.Proofs.YtppbaflacccilaaDoor
