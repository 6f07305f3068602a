/- value.negate, value.joinTexts, value.add of two texts, value.gather where it refuses: what they tell. -/
import Derived.Test.YtppbaflacccilaaDoorOne
import Derived.Test.YtppbaflacccilaaDoorNumOps
import Derived.Laws.BytesArg
namespace Go.Proofs.YtppbaflacccilaaDoor
open Go.RowKit

set_option maxHeartbeats 1000000 in
theorem negate_any (x : Int) (h0 : ¬ x = 0) (hx1 : -9223372036854775808 ≤ x) (hx2 : x ≤ 9223372036854775807) (b1 : Bool) (s1 : ByteArray) (l1 : Option Addr) (n1 m1 : Nat) (w : World) :
    Calls Tryd.prog 58 #[.agg #[.int .i64 2, .bool b1, .int .i64 x, .string s1, .slice l1 n1 m1]] w fun e w' =>
      e = .returned (.tuple #[.agg #[.int .i64 (narK (0 - x)), .bool false, .int .i64 (narI (0 - x)), .string ⟨#[]⟩, .slice none 0 0], .int .i64 (narE (0 - x))]) ∧ Below w.heap.size w w' := by
  have HX := Hid.intro (widen_any x hx1 hx2)
  have HY := Hid.intro (widen_any 0 (by omega) (by omega))
  have HP := Hid.intro (minus_any 0 x)
  have HN := Hid.intro (narrow_any (0 - x) (by omega) (by omega))
  generalize hiW x = xh at *
  generalize hiW 0 = yh at *
  generalize loW x = xl at *
  generalize loW 0 = yl at *
  generalize hiW (0 - x) = zh at *
  generalize loW (0 - x) = zl at *
  generalize narK (0 - x) = rk at *
  generalize narI (0 - x) = ri at *
  generalize narE (0 - x) = er at *
  have h0' : ¬ (Value.int IntKind.i64 x = Value.int IntKind.i64 0) := by simp [h0]
  clear hx1 hx2
  go_enter Tryd.func58, Tryd.ntmps58
  go_wp2
  go_region_with (first | (go_at_call_of 82 (Value.int IntKind.i64 x); refine (HX.out _).mono ?_; rintro e w1 ⟨rfl, ⟨cw, rfl⟩⟩) | (go_at_call_of 82 (Value.int IntKind.i64 0); refine (HY.out _).mono ?_; rintro e w1 ⟨rfl, ⟨cw, rfl⟩⟩) | (go_at_call 90; refine (HP.out _).mono ?_; rintro e w1 ⟨rfl, ⟨cp1, cp2, cp3, rfl⟩⟩) | (go_at_call 83; refine (HN.out _).mono ?_; rintro e w1 ⟨rfl, hb1⟩; obtain ⟨hc, hf⟩ := bcell hb1 rfl; simp at hc hf))
  all_goals go_wp2
  all_goals refine bodyPost_ret (v := .tuple #[.agg #[.int .i64 rk, .bool false, .int .i64 ri, .string ⟨#[]⟩, .slice none 0 0], .int .i64 er]) (by simp [results, Tryd.results58, go_sem, hc]) rfl ⟨rfl, below_set5 ?_ (Nat.le_succ _) _ _ _ _ _⟩
  all_goals refine Below.trans ?_ (hb1.mono (by simp; omega))
  all_goals repeat (first | exact Below.refl _ _ | refine Below.drew ?_ | refine below_al ?_ _)

set_option maxHeartbeats 1000000 in
theorem joinT_yes (a b : ByteArray) (h : a.size + b.size ≤ 65536) (w : World) :
    Calls Tryd.prog 91 #[.string a, .string b] w fun e w' => e = .returned (.tuple #[.agg #[.int .i64 3, .bool false, .int .i64 0, .string (a ++ b), .slice none 0 0], .int .i64 0]) ∧ Below w.heap.size w w' := by
  have s2 : wrap64 ((a.size : Int) + (b.size : Int)) = ((a.size + b.size : Nat) : Int) := by unfold wrap64; omega
  have n2 : ¬ (((a.size + b.size : Nat) : Int) > 65536) := by omega
  go_enter Tryd.func91, Tryd.ntmps91
  go_wp2
  refine bodyPost_ret (v := .tuple #[.agg #[.int .i64 3, .bool false, .int .i64 0, .string (a ++ b), .slice none 0 0], .int .i64 0]) (by simp [results, Tryd.results91, go_sem]) rfl ⟨rfl, ?_⟩
  exact below_al (Below.refl _ _) _

set_option maxHeartbeats 1000000 in
theorem joinT_no (a b : ByteArray) (h : 65536 < a.size + b.size) (ha : a.size ≤ 65536) (hb : b.size ≤ 65536) (w : World) :
    Calls Tryd.prog 91 #[.string a, .string b] w fun e w' => e = .returned (.tuple #[.agg #[.int .i64 0, .bool false, .int .i64 0, .string ⟨#[]⟩, .slice none 0 0], .int .i64 2]) ∧ Below w.heap.size w w' := by
  have s2 : wrap64 ((a.size : Int) + (b.size : Int)) = ((a.size + b.size : Nat) : Int) := by unfold wrap64; omega
  have n2 : ((a.size + b.size : Nat) : Int) > 65536 := by omega
  go_enter Tryd.func91, Tryd.ntmps91
  go_wp2
  refine bodyPost_ret (v := .tuple #[.agg #[.int .i64 0, .bool false, .int .i64 0, .string ⟨#[]⟩, .slice none 0 0], .int .i64 2]) (by simp [results, Tryd.results91, go_sem]) rfl ⟨rfl, ?_⟩
  exact below_al (Below.refl _ _) _

set_option maxHeartbeats 1000000 in
/-- value.add of two texts: what joinTexts tells. -/
theorem add_texts (b1 b2 : Bool) (i1 i2 : Int) (x1 x2 : ByteArray) (a1 a2 : Option Addr) (n1 n2 c1 c2 : Nat) (rk : Int) (rs : ByteArray) (er : Int) (w : World)
    (HJ : ∀ w', Calls Tryd.prog 91 #[.string x1, .string x2] w' fun e w'' => e = .returned (.tuple #[.agg #[.int .i64 rk, .bool false, .int .i64 0, .string rs, .slice none 0 0], .int .i64 er]) ∧ Below w'.heap.size w' w'') :
    Calls Tryd.prog 69 #[.agg #[.int .i64 3, .bool b1, .int .i64 i1, .string x1, .slice a1 n1 c1], .agg #[.int .i64 3, .bool b2, .int .i64 i2, .string x2, .slice a2 n2 c2]] w fun e w' => e = .returned (.tuple #[.agg #[.int .i64 rk, .bool false, .int .i64 0, .string rs, .slice none 0 0], .int .i64 er]) ∧ Below w.heap.size w w' := by
  have HJ' := Hid.intro HJ
  clear HJ
  go_enter Tryd.func69, Tryd.ntmps69
  go_wp2_with fail
  refine (HJ'.out _).mono ?_
  rintro e w1 ⟨rfl, hb1⟩
  have HB := Hid.intro (hb1.via (below3 _ _ _ _))
  obtain ⟨hc, hf⟩ := bcell hb1 (N := w.heap.size + 3) (by simp)
  have hs1 : w.heap.size + 1 + 1 < w1.heap.size := by have := hb1.size; simp at this; omega
  clear hb1 HJ'
  go_wp2
  refine bodyPost_ret (v := .tuple #[.agg #[.int .i64 rk, .bool false, .int .i64 0, .string rs, .slice none 0 0], .int .i64 er]) (by simp [results, Tryd.results69, go_sem, hc]) rfl ⟨rfl, below_set5 HB.out (Nat.le_add_right _ 2) _ _ _ _ _⟩

set_option maxHeartbeats 1000000 in
theorem gather_no (n : Nat) (ts : List Tr) (sv : Value) (w : World) (hl : Lv w (Vs w n) ts sv) (hlen : ts.length ≤ 4096) (hf : ts.all (fit 29) = false) :
    Calls Tryd.prog 42 #[sv] w fun e w' => e = .returned (.tuple #[.agg #[.int .i64 0, .bool false, .int .i64 0, .string ⟨#[]⟩, .slice none 0 0], .int .i64 2]) ∧ Below w.heap.size w w' := by
  have HF := Hid.intro (fun w' hb => allFit_any n (fits_any n) 29 ts sv w' (by omega) (hl.mono hb (fun t v => Vs.below hb n t v)))
  rw [hf] at HF
  obtain ⟨a0, ca, rfl, la, ma⟩ := hl.form
  clear hl hf
  have n2 : ¬ ((ts.length : Int) > 4096) := by omega
  go_enter Tryd.func42, Tryd.ntmps42
  go_wp2_with ((go_at_call 34; refine (HF.out _ (below_al (Below.refl _ _) _)).mono ?_; rintro e w1 ⟨rfl, hb1⟩; obtain ⟨hc, hf⟩ := bcell hb1 (N := w.heap.size + 1) (by simp)))
  have HB := Hid.intro (hb1.via (below_al (Below.refl _ _) _))
  refine bodyPost_ret (v := .tuple #[.agg #[.int .i64 0, .bool false, .int .i64 0, .string ⟨#[]⟩, .slice none 0 0], .int .i64 2]) (by simp [results, Tryd.results42, go_sem, hc]) rfl ⟨rfl, below_set5 HB.out (Nat.le_refl _) _ _ _ _ _⟩

set_option maxHeartbeats 1000000 in
theorem agg_list_no (n : Nat) (ts : List Tr) (sv : Value) (w : World) (hl : Lv w (Vs w n) ts sv) (hlen : ts.length ≤ 4096) (hf0 : ts.all (fit 30) = true) (hf1 : ts.all (fit 29) = false) :
    Calls Tryd.prog 22 #[.string ⟨#[108, 105, 115, 116]⟩, sv] w fun e w' => e = .returned (.tuple #[.agg #[.int .i64 0, .bool false, .int .i64 0, .string ⟨#[]⟩, .slice none 0 0], .int .i64 2]) ∧ Below w.heap.size w w' := by
  have HF := Hid.intro (fun w' hb => allFit_any n (fits_any n) 30 ts sv w' (by omega) (hl.mono hb (fun t v => Vs.below hb n t v)))
  rw [hf0] at HF
  have HG := Hid.intro (fun w' hb => gather_no n ts sv w' (hl.mono hb (fun t v => Vs.below hb n t v)) hlen hf1)
  obtain ⟨a0, ca, rfl, la, ma⟩ := hl.form
  clear hl hf0 hf1
  go_enter Tryd.func22, Tryd.ntmps22
  go_wp2_with fail
  refine (HF.out _ (below_al (Below.refl _ _) _)).mono ?_
  rintro e w1 ⟨rfl, hb1⟩
  have HB := Hid.intro (hb1.via (below_al (Below.refl _ _) _))
  obtain ⟨hc, hf⟩ := bcell hb1 (N := w.heap.size + 1) (by simp)
  have hs1 : w.heap.size < w1.heap.size := by have := hb1.size; simp at this; omega
  clear hb1 HF
  go_wp2_with fail
  refine (HG.out _ HB.out).mono ?_
  rintro e w2 ⟨rfl, hb2⟩
  have HB2 := Hid.intro (hb2.via HB.out)
  obtain ⟨hc2, hf2⟩ := bcell hb2 (N := w1.heap.size) rfl
  have hs2 : w.heap.size < w2.heap.size := Nat.lt_of_lt_of_le hs1 hb2.size
  clear hb2 HG HB
  go_wp2
  refine bodyPost_ret (v := .tuple #[.agg #[.int .i64 0, .bool false, .int .i64 0, .string ⟨#[]⟩, .slice none 0 0], .int .i64 2]) (by simp [results, Tryd.results22, go_sem, hc, hc2, hs1]) rfl ⟨rfl, below_set5 HB2.out (Nat.le_refl _) _ _ _ _ _⟩
end Go.Proofs.YtppbaflacccilaaDoor
