/- The numbers in two words, more: differences, products, and what is beyond. -/
import Derived.Test.YtppbaflacccilaaDoorWide
import Derived.Shelf.Spec.BitsCarry
import Derived.Shelf.Bits.Mul64
namespace Go.Proofs.YtppbaflacccilaaDoor
open Go.RowKit

/-- The borrow. -/
def bor (x y : Int) : Int := if x < y then 1 else 0
theorem bor_bd (x y : Int) : 0 ≤ bor x y ∧ bor x y ≤ 1 := by unfold bor; split <;> omega

theorem sub64 (x y b : Int) (hx : 0 ≤ x) (hy : 0 ≤ y) (hy' : y < 18446744073709551616) (hb0 : 0 ≤ b) (hb : b ≤ 1) (w : World) : (callFunc 99 #[.int .u64 x, .int .u64 y, .int .u64 b]).run Tryd.prog w =
    .ok (.value (.tuple #[.int .u64 ((x - y - b) % 18446744073709551616), .int .u64 (bor x (y + b))])) w := by
  obtain ⟨x, rfl⟩ := Int.eq_ofNat_of_zero_le hx
  obtain ⟨y, rfl⟩ := Int.eq_ofNat_of_zero_le hy
  obtain ⟨b, rfl⟩ := Int.eq_ofNat_of_zero_le hb0
  have e1 : (((x + 18446744073709551616 - y - b) % 18446744073709551616 : Nat) : Int) = ((x : Int) - y - b) % 18446744073709551616 := by omega
  have e2 : ((if x < y + b then 1 else 0 : Nat) : Int) = bor (x : Int) ((y : Int) + b) := by unfold bor; split <;> split <;> omega
  rw [← e1, ← e2]
  rw [run_callFunc_extern Tryd.func99 (by kernel_rfl) (by kernel_rfl) (by kernel_rfl) (e := sub64Entry) (by kernel_rfl), run_sub64 x y b (by omega)]
  rfl

theorem sub64_0 (x y : Int) (hx : 0 ≤ x) (hy : 0 ≤ y) (hy' : y < 18446744073709551616) (w : World) : (callFunc 99 #[.int .u64 x, .int .u64 y, .int .u64 0]).run Tryd.prog w =
    .ok (.value (.tuple #[.int .u64 ((x - y) % 18446744073709551616), .int .u64 (bor x y)])) w := by
  simpa using sub64 x y 0 hx hy hy' (Int.le_refl 0) (by decide) w

theorem minus_lo (a b : Int) : (loW a - loW b) % 18446744073709551616 = loW (a - b) := by unfold loW; omega
theorem minus_hi (a b : Int) : (hiW a - hiW b - bor (loW a) (loW b)) % 18446744073709551616 = hiW (a - b) := by unfold bor loW hiW; split <;> omega

set_option maxHeartbeats 400000 in
theorem minus_any (a b : Int) (w : World) :
    Calls Tryd.prog 90 #[.agg #[.int .u64 (hiW a), .int .u64 (loW a)], .agg #[.int .u64 (hiW b), .int .u64 (loW b)]] w fun e w' => e = .returned (.agg #[.int .u64 (hiW (a - b)), .int .u64 (loW (a - b))]) ∧ ∃ c1 c2 c3, w' = ((w.alloc (.cells c1 91)).alloc (.cells c2 91)).alloc (.cells c3 91) := by
  obtain ⟨a1, a2⟩ := hiW_bd a
  obtain ⟨b1, b2⟩ := hiW_bd b
  obtain ⟨c1, c2⟩ := loW_bd a
  obtain ⟨d1, d2⟩ := loW_bd b
  have E1 := Hid.intro (minus_lo a b)
  have E2 := Hid.intro (minus_hi a b)
  obtain ⟨k0, k1⟩ := bor_bd (loW a) (loW b)
  generalize hiW a = ah at *
  generalize hiW b = bh at *
  generalize loW a = al at *
  generalize loW b = bl at *
  generalize hiW (a - b) = ch at *
  generalize loW (a - b) = cl at *
  have S1 := sub64_0 al bl c1 d1 d2
  generalize bor al bl = br at *
  have S2 := sub64 ah bh br a1 b1 b2 k0 k1
  go_enter Tryd.func90, Tryd.ntmps90
  go_wp2_with (first | simp only [S1] | simp only [S2])
  refine bodyPost_ret (v := .agg #[.int .u64 ((ah - bh - br) % 18446744073709551616), .int .u64 ((al - bl) % 18446744073709551616)]) (by simp [results, Tryd.results90, go_sem]) rfl ⟨ret_two rfl E2.out E1.out, ⟨_, _, _, rfl⟩⟩

theorem narrow_other (z : Int) (h0 : -170141183460469231731687303715884105728 ≤ z) (h1 : z < 170141183460469231731687303715884105728) (h : ¬ (-9223372036854775808 ≤ z ∧ z ≤ 9223372036854775807)) : ¬ hiW (wrap64 (loW z)) = hiW z := by
  unfold wrap64 loW hiW; omega
theorem narrow_low (z : Int) : loW (wrap64 (loW z)) = loW z := by unfold wrap64 loW; omega
theorem wrap64_bd (z : Int) : -9223372036854775808 ≤ wrap64 z ∧ wrap64 z ≤ 9223372036854775807 := by unfold wrap64; omega

set_option maxHeartbeats 1000000 in
theorem narrow_no (z : Int) (h0 : -170141183460469231731687303715884105728 ≤ z) (h1 : z < 170141183460469231731687303715884105728) (h : ¬ (-9223372036854775808 ≤ z ∧ z ≤ 9223372036854775807)) (w : World) :
    Calls Tryd.prog 83 #[.agg #[.int .u64 (hiW z), .int .u64 (loW z)]] w fun e w' => e = .returned (.tuple #[.agg #[.int .i64 0, .bool false, .int .i64 0, .string ⟨#[]⟩, .slice none 0 0], .int .i64 2]) ∧ Below w.heap.size w w' := by
  have HN := Hid.intro (narrow_other z h0 h1 h)
  have HL := Hid.intro (narrow_low z)
  obtain ⟨m1, m2⟩ := wrap64_bd (loW z)
  have HW := Hid.intro (widen_any (wrap64 (loW z)) m1 m2)
  rw [HL.out] at HW
  clear h0 h1 h HL
  generalize hw : wrap64 (loW z) = m at *
  have HM := Hid.intro hw
  clear hw
  generalize hiW m = mh at *
  have hne : (mh == hiW z) = false := by simpa using HN.out
  generalize hiW z = zh at *
  have hne2 : (zh == mh) = false := by rw [beq_eq_false_iff_ne] at hne ⊢; exact fun e => hne e.symm
  clear HN
  go_enter Tryd.func83, Tryd.ntmps83
  go_wp2
  rw [HM.out]
  generalize loW z = zl at *
  go_region_held3 (fun w' => w'.cell? ⟨w.heap.size, 0, none⟩ = some (.int .u64 zh) ∧ w'.cell? ⟨w.heap.size, 1, none⟩ = some (.int .u64 zl)) (go_keep)
    ((go_at_call 82; refine (HW.out _).mono ?_; rintro e w1 ⟨rfl, ⟨cw, hw1⟩⟩; have hb1 : Below ((w.alloc (.cells #[.int .u64 zh, .int .u64 zl] 91)).alloc (.cells #[.int .i64 0, .bool false, .int .i64 0, .string ⟨#[]⟩, .slice none 0 0] 32)).drew.heap.size ((w.alloc (.cells #[.int .u64 zh, .int .u64 zl] 91)).alloc (.cells #[.int .i64 0, .bool false, .int .i64 0, .string ⟨#[]⟩, .slice none 0 0] 32)).drew w1 := by { rw [hw1]; exact (Below.refl _ _).alloc (Nat.le_refl _) _ }; clear hw1; have g1 := fun o => hb1.cell (p := ⟨w.heap.size, o, none⟩) (by simp; omega)))
  have hbx : Hid (Below w.heap.size w w1) := (below2 _ _ _).drew.trans (hb1.mono (by simp; omega))
  obtain ⟨hc, hf⟩ := bcell hb1 (N := w.heap.size + 2) (by simp)
  clear hb1 g1
  go_wp2
  refine bodyPost_ret (v := .tuple #[.agg #[.int .i64 0, .bool false, .int .i64 0, .string ⟨#[]⟩, .slice none 0 0], .int .i64 2]) (by simp [results, Tryd.results83, go_sem, hc]) rfl ⟨rfl, below_set5 hbx.out (Nat.le_succ _) _ _ _ _ _⟩
end Go.Proofs.YtppbaflacccilaaDoor
