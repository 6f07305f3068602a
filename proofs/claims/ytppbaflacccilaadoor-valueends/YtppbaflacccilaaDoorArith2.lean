/- Products in two words. -/
import Derived.Test.YtppbaflacccilaaDoorArith
namespace Go.Proofs.YtppbaflacccilaaDoor
open Go.RowKit Go.Lib

set_option maxHeartbeats 1000000 in
theorem mul64_any (x y : Int) (hx0 : 0 ≤ x) (hx : x < 18446744073709551616) (hy0 : 0 ≤ y) (hy : y < 18446744073709551616) (w : World) :
    Calls Tryd.prog 101 #[.int .u64 x, .int .u64 y] w fun e w' => e = .returned (.tuple #[.int .u64 (x * y / 18446744073709551616), .int .u64 (x * y % 18446744073709551616)]) ∧ w' = w := by
  obtain ⟨x, rfl⟩ := Int.eq_ofNat_of_zero_le hx0
  obtain ⟨y, rfl⟩ := Int.eq_ofNat_of_zero_le hy0
  have hx' : x < 18446744073709551616 := by omega
  have hy' : y < 18446744073709551616 := by omega
  clear hx hy hx0 hy0
  obtain ⟨bd, bt, bw, hhi⟩ := Lib.mul64_hi x y hx' hy'
  have ba := Lib.half_mul_le (a := x / 4294967296) (b := y / 4294967296) (by omega) (by omega)
  have bb := Lib.half_mul_le (a := x / 4294967296) (b := y % 4294967296) (by omega) (by omega)
  have bc := Lib.half_mul_le (a := x % 4294967296) (b := y / 4294967296) (by omega) (by omega)
  have ba' : x / 4294967296 * (y / 4294967296) < 18446744073709551616 := by omega
  have bb' : x / 4294967296 * (y % 4294967296) < 18446744073709551616 := by omega
  have bc' : x % 4294967296 * (y / 4294967296) < 18446744073709551616 := by omega
  have bh1 : x / 4294967296 * (y / 4294967296) + (x / 4294967296 * (y % 4294967296) + x % 4294967296 * (y % 4294967296) / 4294967296) / 4294967296 < 18446744073709551616 := by omega
  have bh : x / 4294967296 * (y / 4294967296) + (x / 4294967296 * (y % 4294967296) + x % 4294967296 * (y % 4294967296) / 4294967296) / 4294967296 + ((x / 4294967296 * (y % 4294967296) + x % 4294967296 * (y % 4294967296) / 4294967296) % 4294967296 + x % 4294967296 * (y / 4294967296)) / 4294967296 < 18446744073709551616 := by omega
  have e1 : (x : Int) * (y : Int) / 18446744073709551616 = ((x * y / 18446744073709551616 : Nat) : Int) := by rw [← Int.natCast_mul]; omega
  have e2 : (x : Int) * (y : Int) % 18446744073709551616 = ((x * y % 18446744073709551616 : Nat) : Int) := by rw [← Int.natCast_mul]; omega
  rw [e1, e2]
  clear e1 e2
  go_enter Tryd.func101, Tryd.ntmps101
  go_wp2
  simp only [Mul64.maskN x hx', Mul64.maskN y hy', Mul64.divN, Mul64.mulN, Mul64.addN, Mul64.wrapN _ bd, Mul64.wrapN _ bb', Mul64.wrapN _ bt, Mul64.maskN _ bt, Mul64.wrapN _ bc', Mul64.wrapN _ bw, Mul64.wrapN _ ba', Mul64.wrapN _ bh1, Mul64.wrapN _ bh, Mul64.wrapM (x * y)]
  rw [hhi]
  go_ret2
  exact ⟨rfl, rfl⟩

theorem times_lo (a b : Int) : loW a * loW b % 18446744073709551616 = loW (a * b) := by
  unfold loW; rw [← Int.mul_emod]

theorem alg1 (M A B a b : Int) : (M * A + a) * (M * B + b) = a * b + M * (A * b + a * B + M * (A * B)) := by
  simp only [Int.mul_add, Int.mul_comm, Int.mul_left_comm]; omega
theorem alg2 (M A B a b q x y : Int) : q + (A - M * x) * b + a * (B - M * y) = (q + A * b + a * B + M * (A * B)) + M * (-(x * b + a * y + A * B)) := by
  simp only [Int.mul_sub, Int.mul_add, Int.mul_neg, Int.mul_comm, Int.mul_left_comm]; omega

theorem times_hi (a b : Int) : (loW a * loW b / 18446744073709551616 + hiW a * loW b + loW a * hiW b) % 18446744073709551616 = hiW (a * b) := by
  have ea : a = 18446744073709551616 * (a / 18446744073709551616) + loW a := (Int.mul_ediv_add_emod a _).symm
  have eb : b = 18446744073709551616 * (b / 18446744073709551616) + loW b := (Int.mul_ediv_add_emod b _).symm
  have hd : a * b / 18446744073709551616 = loW a * loW b / 18446744073709551616 + (a / 18446744073709551616 * loW b + loW a * (b / 18446744073709551616) + 18446744073709551616 * (a / 18446744073709551616 * (b / 18446744073709551616))) := by
    have h := alg1 18446744073709551616 (a / 18446744073709551616) (b / 18446744073709551616) (loW a) (loW b)
    rw [← ea, ← eb] at h
    rw [h, Int.add_mul_ediv_left _ _ (by decide)]
  have ha : hiW a = a / 18446744073709551616 - 18446744073709551616 * (a / 18446744073709551616 / 18446744073709551616) := by unfold hiW; omega
  have hb : hiW b = b / 18446744073709551616 - 18446744073709551616 * (b / 18446744073709551616 / 18446744073709551616) := by unfold hiW; omega
  have h2 := alg2 18446744073709551616 (a / 18446744073709551616) (b / 18446744073709551616) (loW a) (loW b) (loW a * loW b / 18446744073709551616) (a / 18446744073709551616 / 18446744073709551616) (b / 18446744073709551616 / 18446744073709551616)
  rw [ha, hb, h2, Int.add_mul_emod_self_left]
  show _ = a * b / 18446744073709551616 % 18446744073709551616
  rw [hd]
  congr 1
  omega

set_option maxRecDepth 10000 in
set_option maxHeartbeats 1000000 in
theorem times_any (a b : Int) (w : World) :
    Calls Tryd.prog 93 #[.agg #[.int .u64 (hiW a), .int .u64 (loW a)], .agg #[.int .u64 (hiW b), .int .u64 (loW b)]] w fun e w' => e = .returned (.agg #[.int .u64 (hiW (a * b)), .int .u64 (loW (a * b))]) ∧ ∃ c1 c2 c3, w' = ((w.alloc (.cells c1 91)).alloc (.cells c2 91)).alloc (.cells c3 91) := by
  obtain ⟨c1, c2⟩ := loW_bd a
  obtain ⟨d1, d2⟩ := loW_bd b
  have E1 := Hid.intro (times_lo a b)
  have E2 := Hid.intro (times_hi a b)
  generalize hiW a = ah at *
  generalize hiW b = bh at *
  generalize loW a = al at *
  generalize loW b = bl at *
  generalize hiW (a * b) = ch at *
  generalize loW (a * b) = cl at *
  have HM := Hid.intro (mul64_any al bl c1 c2 d1 d2)
  generalize al * bl / 18446744073709551616 = ph at *
  generalize al * bl % 18446744073709551616 = pl at *
  clear c1 c2 d1 d2
  go_enter Tryd.func93, Tryd.ntmps93
  go_wp2_with (go_at_call 101; refine (HM.out _).mono ?_; rintro e w1 ⟨rfl, rfl⟩)
  refine bodyPost_ret (v := .agg #[.int .u64 (IntKind.u64.wrap (IntKind.u64.wrap (ph + IntKind.u64.wrap (ah * bl)) + IntKind.u64.wrap (al * bh))), .int .u64 pl]) (by simp [results, Tryd.results93, go_sem]) rfl ⟨ret_two rfl ?_ E1.out, ⟨_, _, _, rfl⟩⟩
  rw [← E2.out]
  simp only [IntKind.wrap_u64]
  omega

theorem mul_bd (x y : Int) (hx1 : -9223372036854775808 ≤ x) (hx2 : x ≤ 9223372036854775807) (hy1 : -9223372036854775808 ≤ y) (hy2 : y ≤ 9223372036854775807) :
    -170141183460469231731687303715884105728 ≤ x * y ∧ x * y < 170141183460469231731687303715884105728 := by
  have h1 : x.natAbs ≤ 9223372036854775808 := by omega
  have h2 : y.natAbs ≤ 9223372036854775808 := by omega
  have h3 := Nat.mul_le_mul h1 h2
  rw [← Int.natAbs_mul] at h3
  omega


set_option maxHeartbeats 1000000 in
theorem subtract_yes (x y : Int) (hx1 : -9223372036854775808 ≤ x) (hx2 : x ≤ 9223372036854775807) (hy1 : -9223372036854775808 ≤ y) (hy2 : y ≤ 9223372036854775807) (h1 : -9223372036854775808 ≤ x - y) (h2 : x - y ≤ 9223372036854775807) (w : World) :
    Calls Tryd.prog 72 #[.int .i64 x, .int .i64 y] w fun e w' => e = .returned (.tuple #[.agg #[.int .i64 2, .bool false, .int .i64 (x - y), .string ⟨#[]⟩, .slice none 0 0], .int .i64 0]) ∧ Below w.heap.size w w' := by
  have HX := Hid.intro (widen_any x hx1 hx2)
  have HY := Hid.intro (widen_any y hy1 hy2)
  have HP := Hid.intro (minus_any x y)
  have HN := Hid.intro (narrow_yes (x - y) h1 h2)
  generalize hiW x = xh at *
  generalize hiW y = yh at *
  generalize loW x = xl at *
  generalize loW y = yl at *
  generalize hiW (x - y) = zh at *
  generalize loW (x - y) = zl at *
  clear hx1 hx2 hy1 hy2 h1 h2
  generalize x - y = z at *
  go_enter Tryd.func72, Tryd.ntmps72
  go_wp2_with fail
  refine (HX.out _).mono ?_
  rintro e w1 ⟨rfl, ⟨cw, rfl⟩⟩
  go_wp2_with fail
  refine (HY.out _).mono ?_
  rintro e w1 ⟨rfl, ⟨cw2, rfl⟩⟩
  go_wp2_with fail
  refine (HP.out _).mono ?_
  rintro e w1 ⟨rfl, ⟨cp1, cp2, cp3, rfl⟩⟩
  go_wp2_with fail
  refine (HN.out _).mono ?_
  rintro e w1 ⟨rfl, hb1⟩
  have hb0 : Below (w.alloc (.cells #[.int .i64 0, .bool false, .int .i64 0, .string ⟨#[]⟩, .slice none 0 0] 32)).heap.size (w.alloc (.cells #[.int .i64 0, .bool false, .int .i64 0, .string ⟨#[]⟩, .slice none 0 0] 32)) w1 :=
    hb1.via (below_al (below_al (below_al (below2 _ _ _) _) _) _)
  have hd := fun o => hb0.cell (p := ⟨w.heap.size, o, none⟩) (by simp)
  have hg := fun o => hb0.frozen (p := ⟨w.heap.size, o, none⟩) (by simp)
  have HB := Hid.intro (hb0.via (below_al (Below.refl _ _) _))
  clear hb1 hb0
  go_wp2
  refine bodyPost_ret (v := .tuple #[.agg #[.int .i64 2, .bool false, .int .i64 z, .string ⟨#[]⟩, .slice none 0 0], .int .i64 0]) (by simp [results, Tryd.results72, go_sem, hd]) rfl ⟨rfl, below_set5 HB.out (Nat.le_refl _) _ _ _ _ _⟩

set_option maxHeartbeats 1000000 in
theorem subtract_no (x y : Int) (hx1 : -9223372036854775808 ≤ x) (hx2 : x ≤ 9223372036854775807) (hy1 : -9223372036854775808 ≤ y) (hy2 : y ≤ 9223372036854775807) (h : ¬ (-9223372036854775808 ≤ x - y ∧ x - y ≤ 9223372036854775807)) (w : World) :
    Calls Tryd.prog 72 #[.int .i64 x, .int .i64 y] w fun e w' => e = .returned (.tuple #[.agg #[.int .i64 0, .bool false, .int .i64 0, .string ⟨#[]⟩, .slice none 0 0], .int .i64 2]) ∧ Below w.heap.size w w' := by
  have HX := Hid.intro (widen_any x hx1 hx2)
  have HY := Hid.intro (widen_any y hy1 hy2)
  have HP := Hid.intro (minus_any x y)
  have HN := Hid.intro (narrow_no (x - y) (by omega) (by omega) h)
  generalize hiW x = xh at *
  generalize hiW y = yh at *
  generalize loW x = xl at *
  generalize loW y = yl at *
  generalize hiW (x - y) = zh at *
  generalize loW (x - y) = zl at *
  clear hx1 hx2 hy1 hy2 h
  go_enter Tryd.func72, Tryd.ntmps72
  go_wp2_with fail
  refine (HX.out _).mono ?_
  rintro e w1 ⟨rfl, ⟨cw, rfl⟩⟩
  go_wp2_with fail
  refine (HY.out _).mono ?_
  rintro e w1 ⟨rfl, ⟨cw2, rfl⟩⟩
  go_wp2_with fail
  refine (HP.out _).mono ?_
  rintro e w1 ⟨rfl, ⟨cp1, cp2, cp3, rfl⟩⟩
  go_wp2_with fail
  refine (HN.out _).mono ?_
  rintro e w1 ⟨rfl, hb1⟩
  have hb0 : Below (w.alloc (.cells #[.int .i64 0, .bool false, .int .i64 0, .string ⟨#[]⟩, .slice none 0 0] 32)).heap.size (w.alloc (.cells #[.int .i64 0, .bool false, .int .i64 0, .string ⟨#[]⟩, .slice none 0 0] 32)) w1 :=
    hb1.via (below_al (below_al (below_al (below2 _ _ _) _) _) _)
  have hd := fun o => hb0.cell (p := ⟨w.heap.size, o, none⟩) (by simp)
  have hg := fun o => hb0.frozen (p := ⟨w.heap.size, o, none⟩) (by simp)
  have HB := Hid.intro (hb0.via (below_al (Below.refl _ _) _))
  clear hb1 hb0
  go_wp2
  refine bodyPost_ret (v := .tuple #[.agg #[.int .i64 0, .bool false, .int .i64 0, .string ⟨#[]⟩, .slice none 0 0], .int .i64 2]) (by simp [results, Tryd.results72, go_sem, hd]) rfl ⟨rfl, below_set5 HB.out (Nat.le_refl _) _ _ _ _ _⟩

set_option maxHeartbeats 1000000 in
theorem multiply_yes (x y : Int) (hx1 : -9223372036854775808 ≤ x) (hx2 : x ≤ 9223372036854775807) (hy1 : -9223372036854775808 ≤ y) (hy2 : y ≤ 9223372036854775807) (h1 : -9223372036854775808 ≤ x * y) (h2 : x * y ≤ 9223372036854775807) (w : World) :
    Calls Tryd.prog 74 #[.int .i64 x, .int .i64 y] w fun e w' => e = .returned (.tuple #[.agg #[.int .i64 2, .bool false, .int .i64 (x * y), .string ⟨#[]⟩, .slice none 0 0], .int .i64 0]) ∧ Below w.heap.size w w' := by
  have HX := Hid.intro (widen_any x hx1 hx2)
  have HY := Hid.intro (widen_any y hy1 hy2)
  have HP := Hid.intro (times_any x y)
  have HN := Hid.intro (narrow_yes (x * y) h1 h2)
  generalize hiW x = xh at *
  generalize hiW y = yh at *
  generalize loW x = xl at *
  generalize loW y = yl at *
  generalize hiW (x * y) = zh at *
  generalize loW (x * y) = zl at *
  clear hx1 hx2 hy1 hy2 h1 h2
  generalize x * y = z at *
  go_enter Tryd.func74, Tryd.ntmps74
  go_wp2_with fail
  refine (HX.out _).mono ?_
  rintro e w1 ⟨rfl, ⟨cw, rfl⟩⟩
  go_wp2_with fail
  refine (HY.out _).mono ?_
  rintro e w1 ⟨rfl, ⟨cw2, rfl⟩⟩
  go_wp2_with fail
  refine (HP.out _).mono ?_
  rintro e w1 ⟨rfl, ⟨cp1, cp2, cp3, rfl⟩⟩
  go_wp2_with fail
  refine (HN.out _).mono ?_
  rintro e w1 ⟨rfl, hb1⟩
  have hb0 : Below (w.alloc (.cells #[.int .i64 0, .bool false, .int .i64 0, .string ⟨#[]⟩, .slice none 0 0] 32)).heap.size (w.alloc (.cells #[.int .i64 0, .bool false, .int .i64 0, .string ⟨#[]⟩, .slice none 0 0] 32)) w1 :=
    hb1.via (below_al (below_al (below_al (below2 _ _ _) _) _) _)
  have hd := fun o => hb0.cell (p := ⟨w.heap.size, o, none⟩) (by simp)
  have hg := fun o => hb0.frozen (p := ⟨w.heap.size, o, none⟩) (by simp)
  have HB := Hid.intro (hb0.via (below_al (Below.refl _ _) _))
  clear hb1 hb0
  go_wp2
  refine bodyPost_ret (v := .tuple #[.agg #[.int .i64 2, .bool false, .int .i64 z, .string ⟨#[]⟩, .slice none 0 0], .int .i64 0]) (by simp [results, Tryd.results74, go_sem, hd]) rfl ⟨rfl, below_set5 HB.out (Nat.le_refl _) _ _ _ _ _⟩

set_option maxHeartbeats 1000000 in
theorem multiply_no (x y : Int) (hx1 : -9223372036854775808 ≤ x) (hx2 : x ≤ 9223372036854775807) (hy1 : -9223372036854775808 ≤ y) (hy2 : y ≤ 9223372036854775807) (h : ¬ (-9223372036854775808 ≤ x * y ∧ x * y ≤ 9223372036854775807)) (w : World) :
    Calls Tryd.prog 74 #[.int .i64 x, .int .i64 y] w fun e w' => e = .returned (.tuple #[.agg #[.int .i64 0, .bool false, .int .i64 0, .string ⟨#[]⟩, .slice none 0 0], .int .i64 2]) ∧ Below w.heap.size w w' := by
  have HX := Hid.intro (widen_any x hx1 hx2)
  have HY := Hid.intro (widen_any y hy1 hy2)
  have HP := Hid.intro (times_any x y)
  have HN := Hid.intro (narrow_no (x * y) (mul_bd x y hx1 hx2 hy1 hy2).1 (mul_bd x y hx1 hx2 hy1 hy2).2 h)
  generalize hiW x = xh at *
  generalize hiW y = yh at *
  generalize loW x = xl at *
  generalize loW y = yl at *
  generalize hiW (x * y) = zh at *
  generalize loW (x * y) = zl at *
  clear hx1 hx2 hy1 hy2 h
  go_enter Tryd.func74, Tryd.ntmps74
  go_wp2_with fail
  refine (HX.out _).mono ?_
  rintro e w1 ⟨rfl, ⟨cw, rfl⟩⟩
  go_wp2_with fail
  refine (HY.out _).mono ?_
  rintro e w1 ⟨rfl, ⟨cw2, rfl⟩⟩
  go_wp2_with fail
  refine (HP.out _).mono ?_
  rintro e w1 ⟨rfl, ⟨cp1, cp2, cp3, rfl⟩⟩
  go_wp2_with fail
  refine (HN.out _).mono ?_
  rintro e w1 ⟨rfl, hb1⟩
  have hb0 : Below (w.alloc (.cells #[.int .i64 0, .bool false, .int .i64 0, .string ⟨#[]⟩, .slice none 0 0] 32)).heap.size (w.alloc (.cells #[.int .i64 0, .bool false, .int .i64 0, .string ⟨#[]⟩, .slice none 0 0] 32)) w1 :=
    hb1.via (below_al (below_al (below_al (below2 _ _ _) _) _) _)
  have hd := fun o => hb0.cell (p := ⟨w.heap.size, o, none⟩) (by simp)
  have hg := fun o => hb0.frozen (p := ⟨w.heap.size, o, none⟩) (by simp)
  have HB := Hid.intro (hb0.via (below_al (Below.refl _ _) _))
  clear hb1 hb0
  go_wp2
  refine bodyPost_ret (v := .tuple #[.agg #[.int .i64 0, .bool false, .int .i64 0, .string ⟨#[]⟩, .slice none 0 0], .int .i64 2]) (by simp [results, Tryd.results74, go_sem, hd]) rfl ⟨rfl, below_set5 HB.out (Nat.le_refl _) _ _ _ _ _⟩

set_option maxHeartbeats 1000000 in
theorem divide_zero (x : Int) (w : World) :
    Calls Tryd.prog 76 #[.int .i64 x, .int .i64 0] w fun e w' => e = .returned (.tuple #[.agg #[.int .i64 0, .bool false, .int .i64 0, .string ⟨#[]⟩, .slice none 0 0], .int .i64 3]) ∧ Below w.heap.size w w' := by
  go_enter Tryd.func76, Tryd.ntmps76
  go_wp2
  refine bodyPost_ret (v := .tuple #[.agg #[.int .i64 0, .bool false, .int .i64 0, .string ⟨#[]⟩, .slice none 0 0], .int .i64 3]) (by simp [results, Tryd.results76, go_sem]) rfl ⟨rfl, (Below.refl _ _).alloc (Nat.le_refl _) _⟩

set_option maxHeartbeats 1000000 in
theorem divide_over (w : World) :
    Calls Tryd.prog 76 #[.int .i64 (-9223372036854775808), .int .i64 (-1)] w fun e w' => e = .returned (.tuple #[.agg #[.int .i64 0, .bool false, .int .i64 0, .string ⟨#[]⟩, .slice none 0 0], .int .i64 2]) ∧ Below w.heap.size w w' := by
  go_enter Tryd.func76, Tryd.ntmps76
  go_wp2
  refine bodyPost_ret (v := .tuple #[.agg #[.int .i64 0, .bool false, .int .i64 0, .string ⟨#[]⟩, .slice none 0 0], .int .i64 2]) (by simp [results, Tryd.results76, go_sem]) rfl ⟨rfl, (Below.refl _ _).alloc (Nat.le_refl _) _⟩

set_option maxHeartbeats 1000000 in
theorem remainder_zero (x : Int) (w : World) :
    Calls Tryd.prog 78 #[.int .i64 x, .int .i64 0] w fun e w' => e = .returned (.tuple #[.agg #[.int .i64 0, .bool false, .int .i64 0, .string ⟨#[]⟩, .slice none 0 0], .int .i64 3]) ∧ Below w.heap.size w w' := by
  go_enter Tryd.func78, Tryd.ntmps78
  go_wp2
  refine bodyPost_ret (v := .tuple #[.agg #[.int .i64 0, .bool false, .int .i64 0, .string ⟨#[]⟩, .slice none 0 0], .int .i64 3]) (by simp [results, Tryd.results78, go_sem]) rfl ⟨rfl, (Below.refl _ _).alloc (Nat.le_refl _) _⟩

set_option maxHeartbeats 1000000 in
theorem remainder_any (x y : Int) (hy : ¬ y = 0) (w : World) :
    Calls Tryd.prog 78 #[.int .i64 x, .int .i64 y] w fun e w' => e = .returned (.tuple #[.agg #[.int .i64 2, .bool false, .int .i64 (x.tmod y), .string ⟨#[]⟩, .slice none 0 0], .int .i64 0]) ∧ Below w.heap.size w w' := by
  have hy' : (y == 0) = false := by simp [hy]
  go_enter Tryd.func78, Tryd.ntmps78
  go_wp2_with fail
  refine (number_any _ _).mono ?_
  rintro e w1 ⟨rfl, hb1⟩
  have hd := fun o => hb1.cell (p := ⟨w.heap.size, o, none⟩) (by simp)
  have hg := fun o => hb1.frozen (p := ⟨w.heap.size, o, none⟩) (by simp)
  have HB := Hid.intro (hb1.via (below_al (Below.refl _ _) _))
  clear hb1
  go_wp2
  refine bodyPost_ret (v := .tuple #[.agg #[.int .i64 2, .bool false, .int .i64 (x.tmod y), .string ⟨#[]⟩, .slice none 0 0], .int .i64 0]) (by simp [results, Tryd.results78, go_sem, hd]) rfl ⟨rfl, below_set5 HB.out (Nat.le_refl _) _ _ _ _ _⟩

theorem tdiv_bd (x y : Int) (hx1 : -9223372036854775808 ≤ x) (hx2 : x ≤ 9223372036854775807) (hy : ¬ y = 0) (hov : ¬ (x = -9223372036854775808 ∧ y = -1)) : wrap64 (x.tdiv y) = x.tdiv y := by
  have h1 : (x.tdiv y).natAbs ≤ x.natAbs := by
    rw [Int.natAbs_tdiv]; exact Nat.div_le_self _ _
  by_cases hy1 : y = -1
  · subst hy1
    have : x.tdiv (-1) = -x := by rw [Int.tdiv_neg, Int.tdiv_one]
    rw [this]
    unfold wrap64; omega
  · by_cases hx : x = -9223372036854775808
    · by_cases h1' : y = 1
      · subst h1'; rw [Int.tdiv_one]; unfold wrap64; omega
      · have h2 : (x.tdiv y).natAbs ≤ 4611686018427387904 := by
          rw [Int.natAbs_tdiv, hx]
          have : 2 ≤ y.natAbs := by omega
          exact Nat.le_trans (Nat.div_le_div_left this (by decide)) (by decide)
        unfold wrap64; omega
    · unfold wrap64; omega

set_option maxHeartbeats 1000000 in
theorem divide_any (x y : Int) (hx1 : -9223372036854775808 ≤ x) (hx2 : x ≤ 9223372036854775807) (hy : ¬ y = 0) (hov : ¬ (x = -9223372036854775808 ∧ y = -1)) (w : World) :
    Calls Tryd.prog 76 #[.int .i64 x, .int .i64 y] w fun e w' => e = .returned (.tuple #[.agg #[.int .i64 2, .bool false, .int .i64 (x.tdiv y), .string ⟨#[]⟩, .slice none 0 0], .int .i64 0]) ∧ Below w.heap.size w w' := by
  have hy' : (y == 0) = false := by simp [hy]
  have HD := Hid.intro (tdiv_bd x y hx1 hx2 hy hov)
  by_cases hx : x = -9223372036854775808
  · have hy1 : (y == -1) = false := by simp; intro h; exact hov ⟨hx, h⟩
    have HX := Hid.intro hx
    have hx' : (x == -9223372036854775808) = true := by simp [hx]
    clear hx hov hx1 hx2
    go_enter Tryd.func76, Tryd.ntmps76
    go_wp2_with fail
    rw [HD.out]
    refine (number_any _ _).mono ?_
    rintro e w1 ⟨rfl, hb1⟩
    have hd := fun o => hb1.cell (p := ⟨w.heap.size, o, none⟩) (by simp)
    have hg := fun o => hb1.frozen (p := ⟨w.heap.size, o, none⟩) (by simp)
    have HB := Hid.intro (hb1.via (below_al (Below.refl _ _) _))
    clear hb1
    go_wp2
    refine bodyPost_ret (v := .tuple #[.agg #[.int .i64 2, .bool false, .int .i64 (x.tdiv y), .string ⟨#[]⟩, .slice none 0 0], .int .i64 0]) (by simp [results, Tryd.results76, go_sem, hd]) rfl ⟨rfl, below_set5 HB.out (Nat.le_refl _) _ _ _ _ _⟩
  · have hx' : (x == -9223372036854775808) = false := by simp [hx]
    clear hx hov hx1 hx2
    go_enter Tryd.func76, Tryd.ntmps76
    go_wp2_with fail
    rw [HD.out]
    refine (number_any _ _).mono ?_
    rintro e w1 ⟨rfl, hb1⟩
    have hd := fun o => hb1.cell (p := ⟨w.heap.size, o, none⟩) (by simp)
    have hg := fun o => hb1.frozen (p := ⟨w.heap.size, o, none⟩) (by simp)
    have HB := Hid.intro (hb1.via (below_al (Below.refl _ _) _))
    clear hb1
    go_wp2
    refine bodyPost_ret (v := .tuple #[.agg #[.int .i64 2, .bool false, .int .i64 (x.tdiv y), .string ⟨#[]⟩, .slice none 0 0], .int .i64 0]) (by simp [results, Tryd.results76, go_sem, hd]) rfl ⟨rfl, below_set5 HB.out (Nat.le_refl _) _ _ _ _ _⟩
end Go.Proofs.YtppbaflacccilaaDoor
