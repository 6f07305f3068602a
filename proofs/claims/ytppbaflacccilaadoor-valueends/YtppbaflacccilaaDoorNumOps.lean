/- Operations on two numbers, by value.Apply: what they tell. -/
import Derived.Test.YtppbaflacccilaaDoorNums
import Derived.Test.YtppbaflacccilaaDoorReck
namespace Go.Proofs.YtppbaflacccilaaDoor
open Go.RowKit

set_option maxHeartbeats 1000000 in
theorem add_all (x y : Int) (hx1 : -9223372036854775808 ≤ x) (hx2 : x ≤ 9223372036854775807) (hy1 : -9223372036854775808 ≤ y) (hy2 : y ≤ 9223372036854775807) (b1 b2 : Bool) (s1 s2 : ByteArray) (l1 l2 : Option Addr) (n1 n2 m1 m2 : Nat) (w : World) :
    Calls Tryd.prog 69 #[.agg #[.int .i64 2, .bool b1, .int .i64 x, .string s1, .slice l1 n1 m1], .agg #[.int .i64 2, .bool b2, .int .i64 y, .string s2, .slice l2 n2 m2]] w fun e w' =>
      e = .returned (.tuple #[.agg #[.int .i64 (narK (x + y)), .bool false, .int .i64 (narI (x + y)), .string ⟨#[]⟩, .slice none 0 0], .int .i64 (narE (x + y))]) ∧ Below w.heap.size w w' := by
  have HX := Hid.intro (widen_any x hx1 hx2)
  have HY := Hid.intro (widen_any y hy1 hy2)
  have HP := Hid.intro (plus_any x y)
  have HN := Hid.intro (narrow_any (x + y) (by omega) (by omega))
  generalize hiW x = xh at *
  generalize hiW y = yh at *
  generalize loW x = xl at *
  generalize loW y = yl at *
  generalize hiW (x + y) = zh at *
  generalize loW (x + y) = zl at *
  generalize narK (x + y) = rk at *
  generalize narI (x + y) = ri at *
  generalize narE (x + y) = er at *
  clear hx1 hx2 hy1 hy2
  go_enter Tryd.func69, Tryd.ntmps69
  go_wp2
  go_region_with (first | (go_at_call_of 82 (Value.int IntKind.i64 x); refine (HX.out _).mono ?_; rintro e w1 ⟨rfl, ⟨cw, rfl⟩⟩) | (go_at_call_of 82 (Value.int IntKind.i64 y); refine (HY.out _).mono ?_; rintro e w1 ⟨rfl, ⟨cw, rfl⟩⟩) | (go_at_call 81; refine (HP.out _).mono ?_; rintro e w1 ⟨rfl, ⟨cp1, cp2, cp3, rfl⟩⟩) | (go_at_call 83; refine (HN.out _).mono ?_; rintro e w1 ⟨rfl, hb1⟩; obtain ⟨hc, hf⟩ := bcell hb1 (N := w.heap.size + 8) (by simp)))
  all_goals go_wp2
  all_goals refine bodyPost_ret (v := .tuple #[.agg #[.int .i64 rk, .bool false, .int .i64 ri, .string ⟨#[]⟩, .slice none 0 0], .int .i64 er]) (by simp [results, Tryd.results69, go_sem, hc]) rfl ⟨rfl, below_set5 ?_ (Nat.le_add_right _ 2) _ _ _ _ _⟩
  all_goals refine Below.trans ?_ (hb1.mono (by simp; omega))
  all_goals repeat (first | exact Below.refl _ _ | refine Below.drew ?_ | refine below_al ?_ _)

theorem sub_all (x y : Int) (hx1 : -9223372036854775808 ≤ x) (hx2 : x ≤ 9223372036854775807) (hy1 : -9223372036854775808 ≤ y) (hy2 : y ≤ 9223372036854775807) (w : World) :
    Calls Tryd.prog 72 #[.int .i64 x, .int .i64 y] w fun e w' => e = .returned (.tuple #[.agg #[.int .i64 (narK (x - y)), .bool false, .int .i64 (narI (x - y)), .string ⟨#[]⟩, .slice none 0 0], .int .i64 (narE (x - y))]) ∧ Below w.heap.size w w' := by
  unfold narK narI narE
  by_cases h : -9223372036854775808 ≤ x - y ∧ x - y ≤ 9223372036854775807
  · rw [if_pos h, if_pos h, if_pos h]; exact subtract_yes x y hx1 hx2 hy1 hy2 h.1 h.2 w
  · rw [if_neg h, if_neg h, if_neg h]; exact subtract_no x y hx1 hx2 hy1 hy2 h w

theorem mul_all (x y : Int) (hx1 : -9223372036854775808 ≤ x) (hx2 : x ≤ 9223372036854775807) (hy1 : -9223372036854775808 ≤ y) (hy2 : y ≤ 9223372036854775807) (w : World) :
    Calls Tryd.prog 74 #[.int .i64 x, .int .i64 y] w fun e w' => e = .returned (.tuple #[.agg #[.int .i64 (narK (x * y)), .bool false, .int .i64 (narI (x * y)), .string ⟨#[]⟩, .slice none 0 0], .int .i64 (narE (x * y))]) ∧ Below w.heap.size w w' := by
  unfold narK narI narE
  by_cases h : -9223372036854775808 ≤ x * y ∧ x * y ≤ 9223372036854775807
  · rw [if_pos h, if_pos h, if_pos h]; exact multiply_yes x y hx1 hx2 hy1 hy2 h.1 h.2 w
  · rw [if_neg h, if_neg h, if_neg h]; exact multiply_no x y hx1 hx2 hy1 hy2 h w

/-- What divide tells. -/
def divK (x y : Int) : Int := if y = 0 then 0 else if x = -9223372036854775808 ∧ y = -1 then 0 else 2
def divI (x y : Int) : Int := if y = 0 then 0 else if x = -9223372036854775808 ∧ y = -1 then 0 else x.tdiv y
def divE (x y : Int) : Int := if y = 0 then 3 else if x = -9223372036854775808 ∧ y = -1 then 2 else 0
def modK (y : Int) : Int := if y = 0 then 0 else 2
def modI (x y : Int) : Int := if y = 0 then 0 else x.tmod y
def modE (y : Int) : Int := if y = 0 then 3 else 0

theorem div_all (x y : Int) (hx1 : -9223372036854775808 ≤ x) (hx2 : x ≤ 9223372036854775807) (_ : -9223372036854775808 ≤ y) (_ : y ≤ 9223372036854775807) (w : World) :
    Calls Tryd.prog 76 #[.int .i64 x, .int .i64 y] w fun e w' => e = .returned (.tuple #[.agg #[.int .i64 (divK x y), .bool false, .int .i64 (divI x y), .string ⟨#[]⟩, .slice none 0 0], .int .i64 (divE x y)]) ∧ Below w.heap.size w w' := by
  unfold divK divI divE
  by_cases h : y = 0
  · rw [if_pos h, if_pos h, if_pos h]; subst h; exact divide_zero x w
  · rw [if_neg h, if_neg h, if_neg h]
    by_cases g : x = -9223372036854775808 ∧ y = -1
    · rw [if_pos g, if_pos g, if_pos g]; obtain ⟨rfl, rfl⟩ := g; exact divide_over w
    · rw [if_neg g, if_neg g, if_neg g]; exact divide_any x y hx1 hx2 h g w

theorem mod_all (x y : Int) (_ : -9223372036854775808 ≤ x) (_ : x ≤ 9223372036854775807) (_ : -9223372036854775808 ≤ y) (_ : y ≤ 9223372036854775807) (w : World) :
    Calls Tryd.prog 78 #[.int .i64 x, .int .i64 y] w fun e w' => e = .returned (.tuple #[.agg #[.int .i64 (modK y), .bool false, .int .i64 (modI x y), .string ⟨#[]⟩, .slice none 0 0], .int .i64 (modE y)]) ∧ Below w.heap.size w w' := by
  unfold modK modI modE
  by_cases h : y = 0
  · rw [if_pos h, if_pos h, if_pos h]; subst h; exact remainder_zero x w
  · rw [if_neg h, if_neg h, if_neg h]; exact remainder_any x y h w

theorem fit_num (x : Int) : fit 30 (numT x) = true := by
  rw [fit_flat _ _ (by simp [numT])]; simp [flat, numT]

theorem two_nums {w : World} {g : Nat} (x y : Int) (hx1 : -9223372036854775808 ≤ x) (hx2 : x ≤ 9223372036854775807) (hy1 : -9223372036854775808 ≤ y) (hy2 : y ≤ 9223372036854775807) (h1 : Cel w g 0 (numT x) (.slice none 0 0)) (h2 : Cel w g 5 (numT y) (.slice none 0 0)) : Lv w (Vs w 2) [numT x, numT y] (.slice (some ⟨g, 0, none⟩) 2 2) := by
  have ok : ∀ z : Int, -9223372036854775808 ≤ z → z ≤ 9223372036854775807 → Vs w 2 (numT z) (.slice none 0 0) := by
    intro z a b
    refine ⟨⟨by simp [numT], by simp [numT], by simpa [numT] using a, by simpa [numT] using b, by simp [numT, maxLen, ByteArray.size]⟩, none, 0, by simp [numT], by simp [numT], by unfold maxLen; omega, fun hp => by simp [numT] at hp⟩
  refine ⟨some ⟨g, 0, none⟩, 2, rfl, Nat.le_refl _, by unfold maxLen; omega, fun _ => ⟨g, 0, rfl, fun j hj => ?_⟩⟩
  match j, hj with
  | 0, _ => exact ⟨_, h1, ok x hx1 hx2⟩
  | 1, _ => exact ⟨_, h2, ok y hy1 hy2⟩

theorem two_16 (x y : Int) (hx1 : -9223372036854775808 ≤ x) (hx2 : x ≤ 9223372036854775807) (hy1 : -9223372036854775808 ≤ y) (hy2 : y ≤ 9223372036854775807) (g : Nat) (w : World) (h1 : Cel w g 0 (numT x) (.slice none 0 0)) (h2 : Cel w g 5 (numT y) (.slice none 0 0)) :
    Calls Tryd.prog 19 #[.int .i64 16, .slice (some ⟨g, 0, none⟩) 2 2] w fun e w' => e = .returned (.tuple #[.agg #[.int .i64 (narK (x + y)), .bool false, .int .i64 (narI (x + y)), .string ⟨#[]⟩, .slice none 0 0], .int .i64 (narE (x + y))]) ∧ Below w.heap.size w w' := by
  refine apply_add 2 (numT x) (numT y) _ w (two_nums x y hx1 hx2 hy1 hy2 h1 h2) (fit_num x) (fit_num y) _ _ _ _ _ _ _ _ ?_
  intro s1 s2 w' v1 v2 _
  obtain ⟨a1, n1, rfl, -, -⟩ := v1.form
  obtain ⟨a2, n2, rfl, -, -⟩ := v2.form
  exact add_all x y hx1 hx2 hy1 hy2 _ _ _ _ _ _ _ _ _ _ w'

theorem two_17 (x y : Int) (hx1 : -9223372036854775808 ≤ x) (hx2 : x ≤ 9223372036854775807) (hy1 : -9223372036854775808 ≤ y) (hy2 : y ≤ 9223372036854775807) (g : Nat) (w : World) (h1 : Cel w g 0 (numT x) (.slice none 0 0)) (h2 : Cel w g 5 (numT y) (.slice none 0 0)) :
    Calls Tryd.prog 19 #[.int .i64 17, .slice (some ⟨g, 0, none⟩) 2 2] w fun e w' => e = .returned (.tuple #[.agg #[.int .i64 (narK (x - y)), .bool false, .int .i64 (narI (x - y)), .string ⟨#[]⟩, .slice none 0 0], .int .i64 (narE (x - y))]) ∧ Below w.heap.size w w' := by
  refine apply_17 2 (numT x) (numT y) _ w (two_nums x y hx1 hx2 hy1 hy2 h1 h2) (fit_num x) (fit_num y) _ _ _ _ _ _ _ _ ?_
  intro s1 s2 w' v1 v2 _
  obtain ⟨a1, n1, rfl, -, -⟩ := v1.form
  obtain ⟨a2, n2, rfl, -, -⟩ := v2.form
  exact op_r1 x y _ _ _ _ _ _ _ _ _ _ _ _ _ w' (fun w'' => sub_all x y hx1 hx2 hy1 hy2 w'')

theorem two_18 (x y : Int) (hx1 : -9223372036854775808 ≤ x) (hx2 : x ≤ 9223372036854775807) (hy1 : -9223372036854775808 ≤ y) (hy2 : y ≤ 9223372036854775807) (g : Nat) (w : World) (h1 : Cel w g 0 (numT x) (.slice none 0 0)) (h2 : Cel w g 5 (numT y) (.slice none 0 0)) :
    Calls Tryd.prog 19 #[.int .i64 18, .slice (some ⟨g, 0, none⟩) 2 2] w fun e w' => e = .returned (.tuple #[.agg #[.int .i64 (narK (x * y)), .bool false, .int .i64 (narI (x * y)), .string ⟨#[]⟩, .slice none 0 0], .int .i64 (narE (x * y))]) ∧ Below w.heap.size w w' := by
  refine apply_18 2 (numT x) (numT y) _ w (two_nums x y hx1 hx2 hy1 hy2 h1 h2) (fit_num x) (fit_num y) _ _ _ _ _ _ _ _ ?_
  intro s1 s2 w' v1 v2 _
  obtain ⟨a1, n1, rfl, -, -⟩ := v1.form
  obtain ⟨a2, n2, rfl, -, -⟩ := v2.form
  exact op_r2 x y _ _ _ _ _ _ _ _ _ _ _ _ _ w' (fun w'' => mul_all x y hx1 hx2 hy1 hy2 w'')

theorem two_19 (x y : Int) (hx1 : -9223372036854775808 ≤ x) (hx2 : x ≤ 9223372036854775807) (hy1 : -9223372036854775808 ≤ y) (hy2 : y ≤ 9223372036854775807) (g : Nat) (w : World) (h1 : Cel w g 0 (numT x) (.slice none 0 0)) (h2 : Cel w g 5 (numT y) (.slice none 0 0)) :
    Calls Tryd.prog 19 #[.int .i64 19, .slice (some ⟨g, 0, none⟩) 2 2] w fun e w' => e = .returned (.tuple #[.agg #[.int .i64 (divK x y), .bool false, .int .i64 (divI x y), .string ⟨#[]⟩, .slice none 0 0], .int .i64 (divE x y)]) ∧ Below w.heap.size w w' := by
  refine apply_19 2 (numT x) (numT y) _ w (two_nums x y hx1 hx2 hy1 hy2 h1 h2) (fit_num x) (fit_num y) _ _ _ _ _ _ _ _ ?_
  intro s1 s2 w' v1 v2 _
  obtain ⟨a1, n1, rfl, -, -⟩ := v1.form
  obtain ⟨a2, n2, rfl, -, -⟩ := v2.form
  exact op_r3 x y _ _ _ _ _ _ _ _ _ _ _ _ _ w' (fun w'' => div_all x y hx1 hx2 hy1 hy2 w'')

theorem two_20 (x y : Int) (hx1 : -9223372036854775808 ≤ x) (hx2 : x ≤ 9223372036854775807) (hy1 : -9223372036854775808 ≤ y) (hy2 : y ≤ 9223372036854775807) (g : Nat) (w : World) (h1 : Cel w g 0 (numT x) (.slice none 0 0)) (h2 : Cel w g 5 (numT y) (.slice none 0 0)) :
    Calls Tryd.prog 19 #[.int .i64 20, .slice (some ⟨g, 0, none⟩) 2 2] w fun e w' => e = .returned (.tuple #[.agg #[.int .i64 (modK y), .bool false, .int .i64 (modI x y), .string ⟨#[]⟩, .slice none 0 0], .int .i64 (modE y)]) ∧ Below w.heap.size w w' := by
  refine apply_20 2 (numT x) (numT y) _ w (two_nums x y hx1 hx2 hy1 hy2 h1 h2) (fit_num x) (fit_num y) _ _ _ _ _ _ _ _ ?_
  intro s1 s2 w' v1 v2 _
  obtain ⟨a1, n1, rfl, -, -⟩ := v1.form
  obtain ⟨a2, n2, rfl, -, -⟩ := v2.form
  exact op_r4 x y _ _ _ _ _ _ _ _ _ _ _ _ _ w' (fun w'' => mod_all x y hx1 hx2 hy1 hy2 w'')

set_option maxHeartbeats 1000000 in
theorem eqVals0 (w : World) : Calls Tryd.prog 20 #[.slice none 0 0, .slice none 0 0] w fun e w' => e = .returned (.bool true) ∧ Below w.heap.size w w' := by
  go_enter Tryd.func20, Tryd.ntmps20
  go_wp2
  go_loopw [5] (fun i w' => i = .int .i64 0 ∧ w' = w) (fun _ _ => 0)
  case atStart => exact ⟨rfl, rfl⟩
  case round =>
    obtain ⟨rfl, rfl⟩ := hrel
    go_wp2
    go_ret
    exact ⟨rfl, Below.refl _ _⟩

set_option maxHeartbeats 1000000 in
/-- The reference's Same, of a value and itself, where it holds no list. -/
theorem same0 (k i : Int) (w : World) : Calls Tryd.prog 14 #[.agg #[.int .i64 k, .bool false, .int .i64 i, .string ⟨#[]⟩, .slice none 0 0], .agg #[.int .i64 k, .bool false, .int .i64 i, .string ⟨#[]⟩, .slice none 0 0]] w fun e w' => e = .returned (.bool true) ∧ Below w.heap.size w w' := by
  go_enter Tryd.func14, Tryd.ntmps14
  go_wp2_with ((go_at_call 20; refine (eqVals0 _).mono ?_; rintro e w1 ⟨rfl, hb1⟩))
  go_ret
  exact ⟨rfl, hb1.via (below2 _ _ _)⟩
end Go.Proofs.YtppbaflacccilaaDoor
