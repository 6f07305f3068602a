/- The reference's small functions: lists of texts, of fields, that are the same; a text's place. -/
import Derived.Test.YtbfnlnjnaepiiaaCFlds
namespace Go.Proofs.Ytbfnlnjnaepiiaa
open Go.RowKit Go.Maps

theorem Sv.cell {P : Nat → Prop} {w : World} {xs : List ByteArray} {a0 : Option Addr} {n c : Nat} (h : Sv P w xs (.slice a0 n c)) {k : Nat} (hk : k < xs.length) : ∃ b o, a0 = some ⟨b, o, none⟩ ∧ w.cell? ⟨b, o + k, none⟩ = some (.string xs[k]) := by
  obtain ⟨x0, xc, hx, -, -, hx4⟩ := h
  obtain rfl : a0 = x0 := by simp at hx; exact hx.1
  obtain ⟨b, o, e, -, h5⟩ := hx4 (by omega)
  exact ⟨b, o, e, h5 k hk⟩
theorem Fv.cell {P : Nat → Prop} {w : World} {fs : List Fl} {a0 : Option Addr} {n c : Nat} (h : Fv P w fs (.slice a0 n c)) {k : Nat} (hk : k < fs.length) : ∃ b o, a0 = some ⟨b, o, none⟩ ∧ FCel w b (o + k * 3) fs[k] := by
  obtain ⟨x0, xc, hx, -, -, hx4⟩ := h
  obtain rfl : a0 = x0 := by simp at hx; exact hx.1
  obtain ⟨b, o, e, -, h5⟩ := hx4 (by omega)
  exact ⟨b, o, e, h5 k hk⟩

set_option maxRecDepth 100000 in
set_option maxHeartbeats 4000000 in
theorem eqTexts_same {P Q : Nat → Prop} {w : World} (xs : List ByteArray) (sa sb : Value) (ha : Sv P w xs sa) (hb : Sv Q w xs sb) :
    Calls Try.prog 26 #[sa, sb] w fun e w' => e = .returned (.bool true) ∧ Below w.heap.size w w' := by
  have HA := Hid.intro ha
  have HB := Hid.intro hb
  obtain ⟨a0, ca, rfl, a1, a2⟩ := ha.form
  obtain ⟨b0, cb, rfl, b1, b2⟩ := hb.form
  go_enter Try.func26, Try.ntmps26
  go_wp2_with fail
  go_loopw [5] (fun i wr => Hid (Below w.heap.size w wr) ∧ ∃ k : Nat, k ≤ xs.length ∧ i = .int .i64 (k : Int)) (fun i _ => xs.length - (intOf i).toNat)
  case atStart => exact ⟨Below.refl _ _, 0, by omega, rfl⟩
  case round =>
    obtain ⟨HW, k, hk, rfl⟩ := hrel
    by_cases hlt : (k : Int) < (xs.length : Int)
    · have hlt' : k < xs.length := by omega
      obtain ⟨ab, ao, rfl, ad⟩ := (HA.out.below HW.out).cell hlt'
      obtain ⟨bb, bo, rfl, bd⟩ := (HB.out.below HW.out).cell hlt'
      go_wp2
      go_region
      go_wp2
      go_roundw
      case rel => exact ⟨HW.out.drew, k + 1, by omega, by go_num⟩
      case measure => simp [intOf]; omega
    · go_wp2
      go_ret
      exact ⟨rfl, HW.out⟩

set_option maxRecDepth 100000 in
set_option maxHeartbeats 4000000 in
theorem eqFields_same {P Q : Nat → Prop} {w : World} (xs : List Fl) (sa sb : Value) (ha : Fv P w xs sa) (hb : Fv Q w xs sb) :
    Calls Try.prog 22 #[sa, sb] w fun e w' => e = .returned (.bool true) ∧ Below w.heap.size w w' := by
  have HA := Hid.intro ha
  have HB := Hid.intro hb
  obtain ⟨a0, ca, rfl, a1, a2⟩ := ha.form
  obtain ⟨b0, cb, rfl, b1, b2⟩ := hb.form
  go_enter Try.func22, Try.ntmps22
  go_wp2_with fail
  go_loopw [5] (fun i wr => Hid (Below w.heap.size w wr) ∧ ∃ k : Nat, k ≤ xs.length ∧ i = .int .i64 (k : Int)) (fun i _ => xs.length - (intOf i).toNat)
  case atStart => exact ⟨Below.refl _ _, 0, by omega, rfl⟩
  case round =>
    obtain ⟨HW, k, hk, rfl⟩ := hrel
    by_cases hlt : (k : Int) < (xs.length : Int)
    · have hlt' : k < xs.length := by omega
      obtain ⟨ab, ao, rfl, ad⟩ := (HA.out.below HW.out).cell hlt'
      obtain ⟨bb, bo, rfl, bd⟩ := (HB.out.below HW.out).cell hlt'
      obtain ⟨a0, a1, a2⟩ := ad
      obtain ⟨b0, b1, b2⟩ := bd
      go_wp2
      go_region
      go_wp2
      go_roundw
      case rel => exact ⟨HW.out.drew, k + 1, by omega, by go_num⟩
      case measure => simp [intOf]; omega
    · go_wp2
      go_ret
      exact ⟨rfl, HW.out⟩

/-- The place of a text. -/
def plN (x : ByteArray) : List ByteArray → Nat → Int
  | [], _ => -1
  | f :: fs, k => if eqS f x then (k : Int) else plN x fs (k + 1)
def plI (xs : List ByteArray) (x : ByteArray) : Int := plN x xs 0
theorem plN_drop (x : ByteArray) (fs : List ByteArray) (k : Nat) (h : k < fs.length) : plN x (fs.drop k) k = if eqS fs[k] x then (k : Int) else plN x (fs.drop (k + 1)) (k + 1) := by
  rw [List.drop_eq_getElem_cons h, plN]
theorem plN_mem (x : ByteArray) : ∀ (fs : List ByteArray) (k : Nat), x ∈ fs → 0 ≤ plN x fs k
  | [], _, h => by simp at h
  | f :: fs, k, h => by
    rw [plN]
    cases hq : eqS f x with
    | true => simp
    | false =>
      have := eqS_no.1 hq
      rcases List.mem_cons.1 h with rfl | h
      · exact absurd rfl this
      · simpa using plN_mem x fs (k + 1) h

set_option maxRecDepth 100000 in
set_option maxHeartbeats 4000000 in
theorem index0_any {P : Nat → Prop} {w : World} (xs : List ByteArray) (sa : Value) (ha : Sv P w xs sa) (x : ByteArray) :
    Calls Try.prog 27 #[sa, .string x] w fun e w' => e = .returned (.int .i64 (plI xs x)) ∧ w' = w := by
  have HA := Hid.intro ha
  obtain ⟨a0, ca, rfl, a1, a2⟩ := ha.form
  go_enter Try.func27, Try.ntmps27
  go_wp2_with fail
  go_loopw [5] (fun i wr => wr = w ∧ ∃ k : Nat, k ≤ xs.length ∧ i = .int .i64 (k : Int) ∧ Hid (plI xs x = plN x (xs.drop k) k)) (fun i _ => xs.length - (intOf i).toNat)
  case atStart => exact ⟨rfl, 0, by omega, rfl, rfl⟩
  case round =>
    obtain ⟨hw, k, hk, rfl, HP⟩ := hrel
    subst wr
    by_cases hlt : (k : Int) < (xs.length : Int)
    · have hlt' : k < xs.length := by omega
      obtain ⟨ab, ao, rfl, ad⟩ := HA.out.cell hlt'
      have hd := plN_drop x xs k hlt'
      rw [← HP.out] at hd
      have HD := Hid.intro hd
      clear hd
      unfold eqS at HD
      cases hq : (xs[k].toList == x.toList) with
      | true =>
        rw [hq] at HD
        go_wp2
        go_ret
        rw [HD.out]
        exact ⟨rfl, rfl⟩
      | false =>
        rw [hq] at HD
        go_wp2
        go_roundw
        case rel => exact ⟨trivial, k + 1, by omega, by go_num, HD⟩
        case measure => simp [intOf]; omega
    · have hk2 : k = xs.length := by omega
      subst hk2
      go_wp2
      go_ret
      rw [HP.out, List.drop_length]
      exact ⟨rfl, rfl⟩

/-- The parts of a list of classes. -/
def bulk : List Cl → Nat
  | [] => 0
  | c :: l => 1 + c.f.length + bulk l

theorem bulk_app : ∀ (l m : List Cl), bulk (l ++ m) = bulk l + bulk m
  | [], m => by simp [bulk]
  | c :: l, m => by simp [bulk, bulk_app l m]; omega
theorem bulk_take {l : List Cl} {k : Nat} (h : k < l.length) : bulk (l.take (k + 1)) = bulk (l.take k) + 1 + l[k].f.length := by
  rw [List.take_succ_eq_append_getElem h, bulk_app]; simp [bulk]; omega
theorem bulk_le (k : Nat) (l : List Cl) : bulk (l.take k) ≤ bulk l := by
  have := bulk_app (l.take k) (l.drop k)
  rw [List.take_append_drop] at this
  omega
theorem Cv.cell {P : Nat → Prop} {w : World} {l : List Cl} {a0 : Option Addr} {n c : Nat} (h : Cv P w l (.slice a0 n c)) {k : Nat} (hk : k < l.length) : ∃ b o, a0 = some ⟨b, o, none⟩ ∧ ∃ sv', CCel w b (o + k * 3) l[k] sv' ∧ Fv P w l[k].f sv' := by
  obtain ⟨x0, xc, hx, -, -, hx4⟩ := h
  obtain rfl : a0 = x0 := by simp at hx; exact hx.1
  obtain ⟨b, o, e, -, h5⟩ := hx4 (by omega)
  exact ⟨b, o, e, h5 k hk⟩

set_option maxRecDepth 100000 in
set_option maxHeartbeats 4000000 in
theorem light_any {P : Nat → Prop} {w : World} (l : List Cl) (sa : Value) (ha : Cv P w l sa) (hb : bulk l ≤ 4611686018427387904) :
    Calls Try.prog 8 #[sa] w fun e w' => e = .returned (.bool (decide (bulk l ≤ 1500))) ∧ w' = w := by
  have HA := Hid.intro ha
  obtain ⟨a0, ca, rfl, a1, a2⟩ := ha.form
  go_enter Try.func8, Try.ntmps8
  go_wp2_with fail
  go_loopw [3, 4] (fun n i wr => wr = w ∧ ∃ k : Nat, k ≤ l.length ∧ i = .int .i64 (k : Int) ∧ n = .int .i64 (bulk (l.take k) : Int)) (fun _ i _ => l.length - (intOf i).toNat)
  case atStart => exact ⟨rfl, 0, by omega, rfl, rfl⟩
  case round =>
    obtain ⟨hw, k, hk, rfl, rfl⟩ := hrel
    subst wr
    by_cases hlt : (k : Int) < (l.length : Int)
    · have hlt' : k < l.length := by omega
      obtain ⟨b, o, rfl, sv', ⟨d0, d1, d2⟩, hfv⟩ := HA.out.cell hlt'
      obtain ⟨xa, xc, rfl, y1, y2⟩ := hfv.form
      have hs := bulk_take hlt'
      have hle := bulk_le (k + 1) l
      have e1 : ((bulk (l.take k) : Int) + 1) + (l[k].f.length : Int) ≤ 4611686018427387904 := by omega
      go_wp2
      go_roundw
      case rel => exact ⟨trivial, k + 1, by omega, by go_num, by rw [hs]; congr 1⟩
      case measure => simp [intOf]; omega
    · have hk2 : k = l.length := by omega
      subst hk2
      rw [List.take_length]
      go_wp2
      go_ret
      refine ⟨?_, rfl⟩
      congr 2
      simp
      omega
end Go.Proofs.Ytbfnlnjnaepiiaa
