/- value.add of two numbers: what it tells. -/
import Derived.Test.YtciibcfmlhbnkaaGreatDoorWide
namespace Go.Proofs.YtciibcfmlhbnkaaGreatDoor
open Go.RowKit

set_option maxHeartbeats 1000000 in
theorem add_int (x y : Int) (hx1 : -9223372036854775808 ≤ x) (hx2 : x ≤ 9223372036854775807) (hy1 : -9223372036854775808 ≤ y) (hy2 : y ≤ 9223372036854775807) (h1 : -9223372036854775808 ≤ x + y) (h2 : x + y ≤ 9223372036854775807) (b1 b2 : Bool) (s1 s2 : ByteArray) (l1 l2 : Option Addr) (n1 n2 m1 m2 : Nat) (w : World) :
    Calls Tryz.prog 90 #[.agg #[.int .i64 2, .bool b1, .int .i64 x, .string s1, .slice l1 n1 m1], .agg #[.int .i64 2, .bool b2, .int .i64 y, .string s2, .slice l2 n2 m2]] w fun e w' =>
      e = .returned (.tuple #[.agg #[.int .i64 2, .bool false, .int .i64 (x + y), .string ⟨#[]⟩, .slice none 0 0], .int .i64 0]) ∧ Below w.heap.size w w' := by
  have HX := Hid.intro (widen_any x hx1 hx2)
  have HY := Hid.intro (widen_any y hy1 hy2)
  have HP := Hid.intro (plus_any x y)
  have HN := Hid.intro (narrow_yes (x + y) h1 h2)
  generalize hiW x = xh at *
  generalize hiW y = yh at *
  generalize loW x = xl at *
  generalize loW y = yl at *
  generalize hiW (x + y) = zh at *
  generalize loW (x + y) = zl at *
  generalize x + y = z at *
  clear hx1 hx2 hy1 hy2 h1 h2
  go_enter Tryz.func90, Tryz.ntmps90
  go_wp2
  go_region_with (first | (go_at_call_of 106 (Value.int IntKind.i64 x); refine (HX.out _).mono ?_; rintro e w1 ⟨rfl, ⟨cw, rfl⟩⟩) | (go_at_call_of 106 (Value.int IntKind.i64 y); refine (HY.out _).mono ?_; rintro e w1 ⟨rfl, ⟨cw, rfl⟩⟩) | (go_at_call 105; refine (HP.out _).mono ?_; rintro e w1 ⟨rfl, ⟨cp1, cp2, cp3, rfl⟩⟩) | (go_at_call 107; refine (HN.out _).mono ?_; rintro e w1 ⟨rfl, hb1⟩; obtain ⟨hc, hf⟩ := bcell hb1 (N := w.heap.size + 8) (by simp)))
  all_goals go_wp2
  all_goals refine bodyPost_ret (v := .tuple #[.agg #[.int .i64 2, .bool false, .int .i64 z, .string ⟨#[]⟩, .slice none 0 0], .int .i64 0]) (by simp [results, Tryz.results90, go_sem, hc]) rfl ⟨rfl, below_set5 ?_ (Nat.le_add_right _ 2) _ _ _ _ _⟩
  all_goals refine Below.trans ?_ (hb1.mono (by simp; omega))
  all_goals repeat (first | exact Below.refl _ _ | refine Below.drew ?_ | refine below_al ?_ _)
end Go.Proofs.YtciibcfmlhbnkaaGreatDoor
