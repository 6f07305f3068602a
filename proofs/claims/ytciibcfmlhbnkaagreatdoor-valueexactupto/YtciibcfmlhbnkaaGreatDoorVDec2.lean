/- value.Decode's reader: word, length. -/
import Derived.Test.YtciibcfmlhbnkaaGreatDoorVDec1
import Derived.Laws.BitsAllLaws
namespace Go.Proofs.YtciibcfmlhbnkaaGreatDoor
open Go.RowKit

def wordN (l : List UInt8) : Nat := l.foldl (fun a c => a * 256 + c.toNat) 0
theorem wordN_snoc (l : List UInt8) (c : UInt8) : wordN (l ++ [c]) = wordN l * 256 + c.toNat := by simp [wordN]
theorem wordN_lt : ∀ (n : Nat) (l : List UInt8), l.length = n → wordN l < 256 ^ n
  | 0, l, h => by rw [List.eq_nil_of_length_eq_zero h]; decide
  | n + 1, l, h => by
    have hne : l ≠ [] := by intro e; subst e; simp at h
    rw [← List.dropLast_concat_getLast hne, wordN_snoc]
    have := wordN_lt n l.dropLast (by rw [List.length_dropLast]; omega)
    have hc := (l.getLast hne).toNat_lt
    have : wordN l.dropLast + 1 ≤ 256 ^ n := this
    rw [Nat.pow_succ]
    have : (wordN l.dropLast + 1) * 256 ≤ 256 ^ n * 256 := Nat.mul_le_mul_right _ this
    omega
theorem or_step (a c : Nat) (ha : a < 72057594037927936) (hc : c < 256) : bits .or .u64 ((a * 256 : Nat) : Int) (c : Int) = ((a * 256 + c : Nat) : Int) := by
  rw [u64_or_nat _ _ (by omega) (by omega)]
  have := Nat.shiftLeft_add_eq_or_of_lt (a := a) (b := c) (i := 8) (by omega)
  rw [Nat.shiftLeft_eq] at this
  rw [← this]

set_option maxRecDepth 20000 in
set_option maxHeartbeats 1000000 in
theorem word_bad {w : World} {R : Nat} (h : Bd w R) (n : Int) : Calls Tryz.prog 114 #[.pointer (some ⟨R, 0, none⟩), .int .i64 n] w fun e w' => e = .returned (.int .u64 0) ∧ Bd w' R ∧ Tu R w w' := by
  have HT := Hid.intro (take_bad h n)
  clear h
  go_enter Tryz.func114, Tryz.ntmps114
  go_wp2_with fail
  refine HT.out.mono ?_
  rintro e w1 ⟨rfl, h1, h2⟩
  go_wp2_with fail
  go_loop [5, 12] (fun u i => u = .int .u64 0 ∧ i = .int .i64 0) (fun _ _ => 0)
  case atStart => exact ⟨rfl, rfl⟩
  case round =>
    obtain ⟨rfl, rfl⟩ := hrel
    go_wp2_with fail
    go_ret
    exact ⟨rfl, h1, h2⟩
set_option maxRecDepth 20000 in
set_option maxHeartbeats 1000000 in
theorem word_no {w : World} {R G off cap : Nat} {l : List UInt8} (h : Rd w R G off cap l) (n : Int) (hn : (l.length : Int) < n) : Calls Tryz.prog 114 #[.pointer (some ⟨R, 0, none⟩), .int .i64 n] w fun e w' => e = .returned (.int .u64 0) ∧ Bd w' R ∧ Tu R w w' := by
  have HT := Hid.intro (take_no h n hn)
  clear h hn
  go_enter Tryz.func114, Tryz.ntmps114
  go_wp2_with fail
  refine HT.out.mono ?_
  rintro e w1 ⟨rfl, h1, h2⟩
  go_wp2_with fail
  go_loop [5, 12] (fun u i => u = .int .u64 0 ∧ i = .int .i64 0) (fun _ _ => 0)
  case atStart => exact ⟨rfl, rfl⟩
  case round =>
    obtain ⟨rfl, rfl⟩ := hrel
    go_wp2_with fail
    go_ret
    exact ⟨rfl, h1, h2⟩
set_option maxRecDepth 20000 in
set_option maxHeartbeats 1000000 in
theorem word_yes {w : World} {R G off cap : Nat} {l : List UInt8} (h : Rd w R G off cap l) (n : Nat) (hn : n ≤ l.length) (h8 : n ≤ 8) : Calls Tryz.prog 114 #[.pointer (some ⟨R, 0, none⟩), .int .i64 (n : Int)] w fun e w' =>
    e = .returned (.int .u64 (wordN (l.take n) : Int)) ∧ (∃ off' cap', Rd w' R G off' cap' (l.drop n)) ∧ Tu R w w' := by
  have HT := Hid.intro (take_yes h n hn)
  have hy := h.by_.take n
  have hG := h.ltG
  have hne := h.ne
  have hlen : (l.take n).length = n := by rw [List.length_take]; omega
  generalize l.take n = t at *
  generalize l.drop n = d at *
  clear h hn
  go_enter Tryz.func114, Tryz.ntmps114
  go_wp2_with fail
  refine HT.out.mono ?_
  rintro e w1 ⟨rfl, ⟨o1, h1⟩, h2⟩
  go_wp2_with fail
  go_loop [5, 12] (fun u i => ∃ k : Nat, k ≤ n ∧ u = .int .u64 (wordN (t.take k) : Int) ∧ i = .int .i64 (k : Int)) (fun _ i => n - (intOf i).toNat)
  case atStart => exact ⟨0, Nat.zero_le _, rfl, rfl⟩
  case round =>
    obtain ⟨k, hk, rfl, rfl⟩ := hrel
    by_cases hlt : (k : Int) < (n : Int)
    · have hlt' : k < t.length := by omega
      have hc := (h2.cell (j := off + k) hG hne).trans (hy k hlt')
      have hst : wordN (t.take (k + 1)) = wordN (t.take k) * 256 + t[k].toNat := by rw [List.take_succ_eq_append_getElem hlt', wordN_snoc]
      have hb := wordN_lt k (t.take k) (by rw [List.length_take]; omega)
      have hb2 : wordN (t.take k) < 72057594037927936 := by
        refine Nat.lt_of_lt_of_le hb ?_
        have : 256 ^ k ≤ 256 ^ 7 := Nat.pow_le_pow_right (by decide) (by omega)
        simpa using this
      have hor := or_step _ t[k].toNat hb2 t[k].toNat_lt
      rw [← hst] at hor
      generalize t[k] = c at *
      generalize wordN (t.take k) = a at *
      generalize hB : wordN (t.take (k + 1)) = B at *
      have hsh : (a : Int) * 256 ≤ 18446744073709551615 := by omega
      have hcl := c.toNat_lt
      have hwc : IntKind.u64.wrap (c.toNat : Int) = (c.toNat : Int) := by simp [IntKind.wrap, IntKind.bits, IntKind.signed]; omega
      have hor2 : bits .or .u64 ((a : Int) * 256) (c.toNat : Int) = (B : Int) := by rw [← hor]; simp
      clear hor
      go_wp2_with fail
      go_round
      case rel => exact ⟨k + 1, by omega, congrArg (Value.int .u64) (by rw [hB]; omega), by go_num⟩
      case measure => simp [intOf]; omega
    · obtain rfl : k = n := by omega
      have ht : t.take k = t := List.take_of_length_le (by omega)
      rw [ht]
      go_wp2_with fail
      go_ret
      exact ⟨rfl, ⟨_, _, h1⟩, h2⟩

/-- How many there are, if so many may be and as many bytes are left. -/
def lenR (most : Nat) (l : List UInt8) : Option (Nat × List UInt8) :=
  if l.length < 4 then none else if wordN (l.take 4) ≤ most ∧ wordN (l.take 4) ≤ (l.drop 4).length then some (wordN (l.take 4), l.drop 4) else none
theorem lenR_le {most : Nat} {l : List UInt8} {m : Nat} {r : List UInt8} (h : lenR most l = some (m, r)) : m ≤ most ∧ m ≤ r.length ∧ r.length ≤ l.length := by
  unfold lenR at h
  split at h
  · cases h
  · split at h
    · next hc => cases h; exact ⟨hc.1, hc.2, by rw [List.length_drop]; omega⟩
    · cases h
theorem require_bd {w : World} {R : Nat} (h : Bd w R) (b : Bool) : Calls Tryz.prog 115 #[.pointer (some ⟨R, 0, none⟩), .bool b] w fun e w' => e = .returned (.tuple #[]) ∧ Bd w' R ∧ Tu R w w' := by
  refine (require_any b h.f1 h.c1).mono ?_
  rintro e w' ⟨rfl, rfl⟩
  cases b with
  | true => exact ⟨rfl, h, Tu.refl _ _⟩
  | false => exact ⟨rfl, h.bad, Tu.set _ _ _ _⟩
theorem require_true {w : World} {R G off cap : Nat} {l : List UInt8} (h : Rd w R G off cap l) : Calls Tryz.prog 115 #[.pointer (some ⟨R, 0, none⟩), .bool true] w fun e w' => e = .returned (.tuple #[]) ∧ w' = w :=
  require_any true h.f1 h.c1
theorem require_false {w : World} {R G off cap : Nat} {l : List UInt8} (h : Rd w R G off cap l) : Calls Tryz.prog 115 #[.pointer (some ⟨R, 0, none⟩), .bool false] w fun e w' => e = .returned (.tuple #[]) ∧ Bd w' R ∧ Tu R w w' := by
  refine (require_any false h.f1 h.c1).mono ?_
  rintro e w' ⟨rfl, rfl⟩
  exact ⟨rfl, h.bad, Tu.set _ _ _ _⟩
set_option maxRecDepth 20000 in
set_option maxHeartbeats 1000000 in
theorem length_of {w : World} {R : Nat} (most : Nat) (hm : most ≤ 65536) (HT : Hid (Calls Tryz.prog 114 #[.pointer (some ⟨R, 0, none⟩), .int .i64 4] w fun e w' => e = .returned (.int .u64 0) ∧ Bd w' R ∧ Tu R w w')) :
    Calls Tryz.prog 117 #[.pointer (some ⟨R, 0, none⟩), .int .i64 (most : Int)] w fun e w' => e = .returned (.int .i64 0) ∧ Bd w' R ∧ Tu R w w' := by
  go_enter Tryz.func117, Tryz.ntmps117
  go_wp2_with fail
  refine HT.out.mono ?_
  rintro e w1 ⟨rfl, h1, h2⟩
  obtain ⟨p, m, c, c0⟩ := h1.c0
  have c1 := h1.c1
  have f1 := h1.f1
  have HR := fun b => Hid.intro (require_bd h1 b)
  have hw : IntKind.u64.wrap (most : Int) = (most : Int) := by simp [IntKind.wrap, IntKind.bits, IntKind.signed]; omega
  go_wp2_with fail
  refine (HR _).out.mono ?_
  rintro e w2 ⟨rfl, h3, h4⟩
  clear c0 c1 f1
  have c1 := h3.c1
  go_wp2
  go_ret
  exact ⟨rfl, h3, h2.trans h4⟩
theorem length_bad {w : World} {R : Nat} (h : Bd w R) (most : Nat) (hm : most ≤ 65536) : Calls Tryz.prog 117 #[.pointer (some ⟨R, 0, none⟩), .int .i64 (most : Int)] w fun e w' => e = .returned (.int .i64 0) ∧ Bd w' R ∧ Tu R w w' :=
  length_of most hm (Hid.intro (word_bad h 4))
set_option maxRecDepth 20000 in
set_option maxHeartbeats 1000000 in
theorem length_any {w : World} {R G off cap : Nat} {l : List UInt8} (h : Rd w R G off cap l) (most : Nat) (hm : most ≤ 65536) (hl : l.length ≤ 1000000000) :
    Calls Tryz.prog 117 #[.pointer (some ⟨R, 0, none⟩), .int .i64 (most : Int)] w fun e w' => Tu R w w' ∧ match lenR most l with
      | none => e = .returned (.int .i64 0) ∧ Bd w' R
      | some x => e = .returned (.int .i64 (x.1 : Int)) ∧ ∃ off' cap', Rd w' R G off' cap' x.2 := by
  unfold lenR
  by_cases h4 : l.length < 4
  · rw [if_pos h4]
    exact (length_of most hm (Hid.intro (word_no h 4 (by omega)))).mono fun e w' ⟨h1, h2, h3⟩ => ⟨h3, h1, h2⟩
  · rw [if_neg h4]
    have HT := Hid.intro (word_yes h 4 (by omega) (by omega))
    have hb := wordN_lt 4 (l.take 4) (by rw [List.length_take]; omega)
    have hdl : (l.drop 4).length ≤ 1000000000 := by rw [List.length_drop]; omega
    generalize wordN (l.take 4) = n at *
    generalize l.drop 4 = d at *
    have hb' : n < 4294967296 := hb
    have hw : IntKind.u64.wrap (most : Int) = (most : Int) := by simp [IntKind.wrap, IntKind.bits, IntKind.signed]; omega
    have hw2 : IntKind.u64.wrap (d.length : Int) = (d.length : Int) := by simp [IntKind.wrap, IntKind.bits, IntKind.signed]; omega
    have hw3 : IntKind.i64.wrap (n : Int) = (n : Int) := by simp [IntKind.wrap, IntKind.bits, IntKind.signed]; omega
    clear h h4 hb
    by_cases hc : n ≤ most ∧ n ≤ d.length
    · rw [if_pos hc]
      obtain ⟨hc1, hc2⟩ := hc
      have i1 : (n : Int) ≤ (most : Int) := by omega
      have i2 : (n : Int) ≤ (d.length : Int) := by omega
      go_enter Tryz.func117, Tryz.ntmps117
      go_wp2_with fail
      refine HT.out.mono ?_
      rintro e w1 ⟨rfl, ⟨o1, k1, h1⟩, h2⟩
      have c0 := h1.c0
      have c1 := h1.c1
      have HR := Hid.intro (require_true h1)
      go_wp2_with fail
      refine HR.out.mono ?_
      rintro e w2 ⟨rfl, hw2⟩
      subst w2
      go_wp2
      go_ret
      exact ⟨h2, rfl, _, _, h1⟩
    · rw [if_neg hc]
      go_enter Tryz.func117, Tryz.ntmps117
      go_wp2_with fail
      refine HT.out.mono ?_
      rintro e w1 ⟨rfl, ⟨o1, k1, h1⟩, h2⟩
      have c0 := h1.c0
      have c1 := h1.c1
      have HR := Hid.intro (require_false h1)
      by_cases hc1 : (n : Int) ≤ (most : Int)
      · have hc2 : ¬ (n : Int) ≤ (d.length : Int) := by omega
        have hd : decide (n ≤ d.length) = false := decide_eq_false (by omega)
        go_wp2_with fail
        refine HR.out.mono ?_
        rintro e w2 ⟨rfl, h3, h4⟩
        clear c0 c1
        have c1 := h3.c1
        go_wp2
        go_ret
        exact ⟨h2.trans h4, rfl, h3⟩
      · go_wp2_with fail
        refine HR.out.mono ?_
        rintro e w2 ⟨rfl, h3, h4⟩
        clear c0 c1
        have c1 := h3.c1
        go_wp2
        go_ret
        exact ⟨h2.trans h4, rfl, h3⟩
end Go.Proofs.YtciibcfmlhbnkaaGreatDoor
