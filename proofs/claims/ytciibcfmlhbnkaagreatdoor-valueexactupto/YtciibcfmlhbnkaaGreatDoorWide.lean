/- The numbers in two words: what they tell. -/
import Derived.Test.YtciibcfmlhbnkaaGreatDoorOrder
import Derived.Laws.Externs
namespace Go.Proofs.YtciibcfmlhbnkaaGreatDoor
open Go.RowKit

theorem add64 (x y c : Int) (hx : 0 ≤ x) (hy : 0 ≤ y) (hc0 : 0 ≤ c) (hc : c ≤ 1) (w : World) : (callFunc 129 #[.int .u64 x, .int .u64 y, .int .u64 c]).run Tryz.prog w =
    .ok (.value (.tuple #[.int .u64 ((x + y + c) % 18446744073709551616), .int .u64 ((x + y + c) / 18446744073709551616)])) w := by
  rw [run_callFunc_extern Tryz.func129 (by kernel_rfl) (by kernel_rfl) (by kernel_rfl) (e := add64Entry) (by kernel_rfl), run_add64 x y c hx hy hc0 hc]
  rfl

theorem add64_0 (x y : Int) (hx : 0 ≤ x) (hy : 0 ≤ y) (w : World) : (callFunc 129 #[.int .u64 x, .int .u64 y, .int .u64 0]).run Tryz.prog w =
    .ok (.value (.tuple #[.int .u64 ((x + y) % 18446744073709551616), .int .u64 ((x + y) / 18446744073709551616)])) w := by
  simpa using add64 x y 0 hx hy (Int.le_refl 0) (by decide) w

/-- The two words of a number. -/
def hiW (n : Int) : Int := n / 18446744073709551616 % 18446744073709551616
def loW (n : Int) : Int := n % 18446744073709551616

theorem loW_bd (n : Int) : 0 ≤ loW n ∧ loW n < 18446744073709551616 := by unfold loW; omega
theorem hiW_bd (n : Int) : 0 ≤ hiW n ∧ hiW n < 18446744073709551616 := by unfold hiW; omega
theorem plus_lo (a b : Int) : (loW a + loW b) % 18446744073709551616 = loW (a + b) := by unfold loW; omega
theorem plus_hi (a b : Int) : (hiW a + hiW b + (loW a + loW b) / 18446744073709551616) % 18446744073709551616 = hiW (a + b) := by unfold loW hiW; omega

theorem ret_two {a b c d : Int} {e : Ending} (h : e = .returned (.agg #[.int .u64 a, .int .u64 b])) (h1 : a = c) (h2 : b = d) : e = .returned (.agg #[.int .u64 c, .int .u64 d]) := by
  subst h1; subst h2; exact h

set_option maxHeartbeats 400000 in
theorem widen_any (n : Int) (h1 : -9223372036854775808 ≤ n) (h2 : n ≤ 9223372036854775807) (w : World) :
    Calls Tryz.prog 106 #[.int .i64 n] w fun e w' => e = .returned (.agg #[.int .u64 (hiW n), .int .u64 (loW n)]) ∧ ∃ c, w' = w.alloc (.cells c 118) := by
  go_enter Tryz.func106, Tryz.ntmps106
  go_wp2
  refine bodyPost_ret (v := .agg #[.int .u64 (IntKind.u64.wrap (n / 9223372036854775808)), .int .u64 (IntKind.u64.wrap n)]) (by simp [results, Tryz.results106, go_sem]) rfl ⟨ret_two rfl ?_ ?_, ⟨_, rfl⟩⟩
  · rw [IntKind.wrap_u64]; unfold hiW; omega
  · rw [IntKind.wrap_u64]; rfl

set_option maxHeartbeats 400000 in
theorem plus_any (a b : Int) (w : World) :
    Calls Tryz.prog 105 #[.agg #[.int .u64 (hiW a), .int .u64 (loW a)], .agg #[.int .u64 (hiW b), .int .u64 (loW b)]] w fun e w' => e = .returned (.agg #[.int .u64 (hiW (a + b)), .int .u64 (loW (a + b))]) ∧ ∃ c1 c2 c3, w' = ((w.alloc (.cells c1 118)).alloc (.cells c2 118)).alloc (.cells c3 118) := by
  obtain ⟨a1, a2⟩ := hiW_bd a
  obtain ⟨b1, b2⟩ := hiW_bd b
  obtain ⟨c1, c2⟩ := loW_bd a
  obtain ⟨d1, d2⟩ := loW_bd b
  have E1 := Hid.intro (plus_lo a b)
  have E2 := Hid.intro (plus_hi a b)
  generalize hiW a = ah at *
  generalize hiW b = bh at *
  generalize loW a = al at *
  generalize loW b = bl at *
  generalize hiW (a + b) = ch at *
  generalize loW (a + b) = cl at *
  have k0 : 0 ≤ (al + bl) / 18446744073709551616 := by omega
  have k1 : (al + bl) / 18446744073709551616 ≤ 1 := by omega
  go_enter Tryz.func105, Tryz.ntmps105
  go_wp2_with (first | simp only [add64_0 al bl c1 d1] | simp only [add64 ah bh _ a1 b1 k0 k1])
  refine bodyPost_ret (v := .agg #[.int .u64 ((ah + bh + (al + bl) / 18446744073709551616) % 18446744073709551616), .int .u64 ((al + bl) % 18446744073709551616)]) (by simp [results, Tryz.results105, go_sem]) rfl ⟨ret_two rfl E2.out E1.out, ⟨_, _, _, rfl⟩⟩

set_option maxHeartbeats 400000 in
theorem number_any (n : Int) (w : World) :
    Calls Tryz.prog 56 #[.int .i64 n] w fun e w' => e = .returned (.agg #[.int .i64 2, .bool false, .int .i64 n, .string ⟨#[]⟩, .slice none 0 0]) ∧ Below w.heap.size w w' := by
  go_enter Tryz.func56, Tryz.ntmps56
  go_wp2
  refine bodyPost_ret (v := .agg #[.int .i64 2, .bool false, .int .i64 n, .string ⟨#[]⟩, .slice none 0 0]) (by simp [results, Tryz.results56, go_sem]) rfl ⟨rfl, (Below.refl _ _).alloc (Nat.le_refl _) _⟩

def Tr.num (n : Int) : Tr := ⟨2, false, n, ⟨#[]⟩, []⟩
def Tr.zero : Tr := ⟨0, false, 0, ⟨#[]⟩, []⟩
/-- What a number in two words is made into: the value, and the error's number. -/
def fitsI (z : Int) : Bool := decide (-9223372036854775808 ≤ z ∧ z ≤ 9223372036854775807)

theorem wrap64_lo (z : Int) (h1 : -9223372036854775808 ≤ z) (h2 : z ≤ 9223372036854775807) : wrap64 (loW z) = z := by
  unfold wrap64 loW; omega

set_option maxHeartbeats 1000000 in
theorem narrow_yes (z : Int) (h1 : -9223372036854775808 ≤ z) (h2 : z ≤ 9223372036854775807) (w : World) :
    Calls Tryz.prog 107 #[.agg #[.int .u64 (hiW z), .int .u64 (loW z)]] w fun e w' => e = .returned (.tuple #[.agg #[.int .i64 2, .bool false, .int .i64 z, .string ⟨#[]⟩, .slice none 0 0], .int .i64 0]) ∧ Below w.heap.size w w' := by
  have hlo := Hid.intro (wrap64_lo z h1 h2)
  have HW := Hid.intro (widen_any z h1 h2)
  obtain ⟨a1, a2⟩ := hiW_bd z
  obtain ⟨c1, c2⟩ := loW_bd z
  go_enter Tryz.func107, Tryz.ntmps107
  go_wp2
  rw [hlo.out]
  go_region_held3 (fun w' => w'.cell? ⟨w.heap.size, 0, none⟩ = some (.int .u64 (hiW z)) ∧ w'.cell? ⟨w.heap.size, 1, none⟩ = some (.int .u64 (loW z))) (go_keep)
    ((go_at_call 106; refine (HW.out _).mono ?_; rintro e w1 ⟨rfl, ⟨cw, hw1⟩⟩; have hb1 : Below ((w.alloc (.cells #[.int .u64 (hiW z), .int .u64 (loW z)] 118)).alloc (.cells #[.int .i64 0, .bool false, .int .i64 0, .string ⟨#[]⟩, .slice none 0 0] 28)).drew.heap.size ((w.alloc (.cells #[.int .u64 (hiW z), .int .u64 (loW z)] 118)).alloc (.cells #[.int .i64 0, .bool false, .int .i64 0, .string ⟨#[]⟩, .slice none 0 0] 28)).drew w1 := by { rw [hw1]; exact (Below.refl _ _).alloc (Nat.le_refl _) _ }; clear hw1; have g1 := fun o => hb1.cell (p := ⟨w.heap.size, o, none⟩) (by simp; omega)))
  have hbx : Hid (Below w.heap.size w w1) := (below2 _ _ _).drew.trans (hb1.mono (by simp; omega))
  obtain ⟨hc, hf⟩ := bcell hb1 (N := w.heap.size + 2) (by simp)
  have hsz := hb1.size
  simp at hsz
  clear hb1 g1
  go_wp2_with fail
  refine (number_any _ _).mono ?_
  rintro e w2 ⟨rfl, hb2⟩
  have hby : Hid (Below w.heap.size w w2) := hbx.out.trans (hb2.mono hbx.out.size)
  have g2 := fun o => hb2.cell (p := ⟨w.heap.size + 1, o, none⟩) hsz
  have f2 := fun o => hb2.frozen (p := ⟨w.heap.size + 1, o, none⟩) hsz
  go_wp2
  refine bodyPost_ret (v := .tuple #[.agg #[.int .i64 2, .bool false, .int .i64 z, .string ⟨#[]⟩, .slice none 0 0], .int .i64 0]) (by simp [results, Tryz.results107, go_sem, g2, hc]) rfl ⟨rfl, below_set5 hby.out (Nat.le_succ _) _ _ _ _ _⟩

end Go.Proofs.YtciibcfmlhbnkaaGreatDoor
