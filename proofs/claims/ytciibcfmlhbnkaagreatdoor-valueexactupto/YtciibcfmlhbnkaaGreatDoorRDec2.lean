/- proctorref1's reader: num. -/
import Derived.Test.YtciibcfmlhbnkaaGreatDoorRDec1
import Derived.Test.YtciibcfmlhbnkaaGreatDoorVDec3
namespace Go.Proofs.YtciibcfmlhbnkaaGreatDoor
open Go.RowKit

theorem ofInt_wrap64 (m : Nat) (h : m < 18446744073709551616) : (BitVec.ofInt 64 (wrap64 (m : Int))).toNat = m := by
  rw [BitVec.toNat_ofInt]
  unfold wrap64
  omega
theorem wrap_i64_eq (n : Int) : IntKind.i64.wrap n = wrap64 n := by
  simp [IntKind.wrap, IntKind.bits, IntKind.signed, wrap64]
  split <;> omega
theorem or_step64 (a c : Nat) (ha : a < 72057594037927936) (hc : c < 256) : bits .or .i64 (wrap64 ((a * 256 : Nat) : Int)) (c : Int) = wrap64 ((a * 256 + c : Nat) : Int) := by
  show IntKind.i64.wrap ((BitVec.ofInt 64 (wrap64 ((a * 256 : Nat) : Int)) ||| BitVec.ofInt 64 (c : Int)).toNat : Int) = _
  rw [BitVec.toNat_or, ofInt_wrap64 _ (by omega), ofInt_u64 c (by omega), wrap_i64_eq]
  have := Nat.shiftLeft_add_eq_or_of_lt (a := a) (b := c) (i := 8) (by omega)
  rw [Nat.shiftLeft_eq] at this
  rw [← this]
theorem shl_step64 (a : Nat) : IntKind.i64.wrap (wrap64 (a : Int) * 256) = wrap64 ((a * 256 : Nat) : Int) := by
  rw [wrap_i64_eq]
  unfold wrap64
  omega
set_option maxRecDepth 20000 in
set_option maxHeartbeats 1000000 in
theorem rnum_bad {w : World} {R : Nat} (h : Bd w R) (n : Int) : Calls Tryz.prog 119 #[.pointer (some ⟨R, 0, none⟩), .int .i64 n] w fun e w' => e = .returned (.int .i64 0) ∧ Bd w' R ∧ Tu R w w' := by
  have HT := Hid.intro (rtake_bad h n)
  clear h
  go_enter Tryz.func119, Tryz.ntmps119
  go_wp2_with fail
  refine HT.out.mono ?_
  rintro e w1 ⟨rfl, h1, h2⟩
  go_wp2_with fail
  go_loop [6, 7] (fun u i => u = .int .i64 0 ∧ i = .int .i64 0) (fun _ _ => 0)
  case atStart => exact ⟨rfl, rfl⟩
  case round =>
    obtain ⟨rfl, rfl⟩ := hrel
    go_wp2_with fail
    go_ret
    exact ⟨rfl, h1, h2⟩
set_option maxRecDepth 20000 in
set_option maxHeartbeats 1000000 in
theorem rnum_no {w : World} {R G off cap : Nat} {l : List UInt8} (h : Rd w R G off cap l) (n : Int) (hn : (l.length : Int) < n) : Calls Tryz.prog 119 #[.pointer (some ⟨R, 0, none⟩), .int .i64 n] w fun e w' => e = .returned (.int .i64 0) ∧ Bd w' R ∧ Tu R w w' := by
  have HT := Hid.intro (rtake_no h n hn)
  clear h hn
  go_enter Tryz.func119, Tryz.ntmps119
  go_wp2_with fail
  refine HT.out.mono ?_
  rintro e w1 ⟨rfl, h1, h2⟩
  go_wp2_with fail
  go_loop [6, 7] (fun u i => u = .int .i64 0 ∧ i = .int .i64 0) (fun _ _ => 0)
  case atStart => exact ⟨rfl, rfl⟩
  case round =>
    obtain ⟨rfl, rfl⟩ := hrel
    go_wp2_with fail
    go_ret
    exact ⟨rfl, h1, h2⟩
set_option maxRecDepth 20000 in
set_option maxHeartbeats 1000000 in
theorem rnum_yes {w : World} {R G off cap : Nat} {l : List UInt8} (h : Rd w R G off cap l) (n : Nat) (hn : n ≤ l.length) (h8 : n ≤ 8) : Calls Tryz.prog 119 #[.pointer (some ⟨R, 0, none⟩), .int .i64 (n : Int)] w fun e w' =>
    e = .returned (.int .i64 (wordI (l.take n))) ∧ (∃ off' cap', Rd w' R G off' cap' (l.drop n)) ∧ Tu R w w' := by
  have HT := Hid.intro (rtake_yes h n hn)
  have hy := h.by_.take n
  have hG := h.ltG
  have hne := h.ne
  have hlen : (l.take n).length = n := by rw [List.length_take]; omega
  generalize l.take n = t at *
  generalize l.drop n = d at *
  clear h hn
  go_enter Tryz.func119, Tryz.ntmps119
  go_wp2_with fail
  refine HT.out.mono ?_
  rintro e w1 ⟨rfl, ⟨o1, h1⟩, h2⟩
  go_wp2_with fail
  go_loop [6, 7] (fun u i => ∃ k : Nat, k ≤ n ∧ u = .int .i64 (wordI (t.take k)) ∧ i = .int .i64 (k : Int)) (fun _ i => n - (intOf i).toNat)
  case atStart => exact ⟨0, Nat.zero_le _, by simp [wordI, wordN, wrap64], rfl⟩
  case round =>
    obtain ⟨k, hk, rfl, rfl⟩ := hrel
    by_cases hlt : (k : Int) < (n : Int)
    · have hlt' : k < t.length := by omega
      have hc := (h2.cell (j := off + k) hG hne).trans (hy k hlt')
      have hst : wordN (t.take (k + 1)) = wordN (t.take k) * 256 + t[k].toNat := by rw [List.take_succ_eq_append_getElem hlt', wordN_snoc]
      have hb := wordN_lt k (t.take k) (by rw [List.length_take]; omega)
      have hb2 : wordN (t.take k) < 72057594037927936 := by
        refine Nat.lt_of_lt_of_le hb ?_
        have : 256 ^ k ≤ 256 ^ 7 := Nat.pow_le_pow_right (by decide) (by omega)
        simpa using this
      have hor := or_step64 _ t[k].toNat hb2 t[k].toNat_lt
      rw [← hst] at hor
      have hsh := shl_step64 (wordN (t.take k))
      have hw1 : wordI (t.take k) = wrap64 (wordN (t.take k) : Int) := rfl
      have hw2 : wrap64 (wordN (t.take (k + 1)) : Int) = wordI (t.take (k + 1)) := rfl
      have HW2 := Hid.intro hw2
      rw [hw1]
      have hcl := t[k].toNat_lt
      generalize t[k] = c at *
      generalize wordN (t.take k) = a at *
      generalize wordN (t.take (k + 1)) = B at HW2 hor ⊢
      clear hw1 hw2 hst hb hb2
      have hwc : IntKind.i64.wrap (c.toNat : Int) = (c.toNat : Int) := by simp [IntKind.wrap, IntKind.bits, IntKind.signed]; omega
      have hcast : ((a * 256 : Nat) : Int) = (a : Int) * 256 := by simp
      rw [hcast] at hsh hor
      have hw3 : wrap64 (wrap64 (a : Int) * 256) = wrap64 ((a : Int) * 256) := by rw [← wrap_i64_eq (wrap64 (a : Int) * 256)]; exact hsh
      have HR := Hid.intro (hor.trans HW2.out)
      clear hor hcast
      go_wp2_with fail
      go_round
      case rel => exact ⟨k + 1, by omega, congrArg (Value.int .i64) HR.out, by go_num⟩
      case measure => simp [intOf]; omega
    · obtain rfl : k = n := by omega
      have ht : t.take k = t := List.take_of_length_le (by omega)
      rw [ht]
      go_wp2_with fail
      go_ret
      exact ⟨rfl, ⟨_, _, h1⟩, h2⟩
end Go.Proofs.YtciibcfmlhbnkaaGreatDoor
