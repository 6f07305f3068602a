/- Mask: what it tells. -/
import Derived.Test.YtbfnlnjnaepiiaaCNew
import Derived.Laws.Bits64b
namespace Go.Proofs.Ytbfnlnjnaepiiaa
open Go.RowKit Go.Maps

theorem placeN_lt (x : ByteArray) : ∀ (fs : List Fl) (k : Nat), placeN x fs k = -1 ∨ ∃ j : Nat, placeN x fs k = ((k + j : Nat) : Int) ∧ ∃ h : j < fs.length, fs[j].n = x
  | [], k => .inl rfl
  | f :: fs, k => by
    rw [placeN]
    cases hq : eqS f.n x with
    | true => exact .inr ⟨0, by simp, by simp, eqS_iff.1 hq⟩
    | false =>
      rcases placeN_lt x fs (k + 1) with h | ⟨j, h, hl, hj⟩
      · exact .inl (by simp [h])
      · exact .inr ⟨j + 1, by rw [if_neg (by simp), h]; congr 1; omega, by simp; omega, by simpa using hj⟩
theorem placeI_lt (fs : List Fl) (x : ByteArray) : placeI fs x = -1 ∨ ∃ j : Nat, placeI fs x = (j : Int) ∧ ∃ h : j < fs.length, fs[j].n = x := by
  rcases placeN_lt x fs 0 with h | ⟨j, h, hl, hj⟩
  · exact .inl h
  · exact .inr ⟨j, by unfold placeI; rw [h]; simp, hl, hj⟩

def maskO (fs : List Fl) : List ByteArray → Nat → Option Nat
  | [], z => some z
  | y :: ys, z => if placeI fs y < 0 then none else maskO fs ys (z ||| 2 ^ (placeI fs y).toNat)

theorem maskO_drop {fs : List Fl} {ys : List ByteArray} {z k : Nat} (h : k < ys.length) : maskO fs (ys.drop k) z = if placeI fs ys[k] < 0 then none else maskO fs (ys.drop (k + 1)) (z ||| 2 ^ (placeI fs ys[k]).toNat) := by
  rw [List.drop_eq_getElem_cons h, maskO]

def maskV (T : List Cl) (x : ByteArray) (ys : List ByteArray) : Nat × Int := if hasT T x then (match maskO (fieldsT T x) ys 0 with | some z => (z, 0) | none => (0, 11)) else (0, 10)

theorem fields62 {T : List Cl} (h : ∀ c ∈ T, c.f.length ≤ 62) (x : ByteArray) : (fieldsT T x).length ≤ 62 := by
  unfold fieldsT
  cases hf : findT T x with
  | none => simp
  | some c => exact h c (findT_some hf).1

theorem or_lt62 {z q : Nat} (hz : z < 2 ^ 62) (hq : q < 62) : z ||| 2 ^ q < 2 ^ 62 := Nat.or_lt_two_pow hz (Nat.pow_lt_pow_right (by omega) hq)

theorem or_step {z q : Nat} (hz : z < 2 ^ 62) (hq : q < 62) : bits BinOp.or IntKind.u64 (z : Int) (IntKind.u64.wrap (2 ^ q)) = ((z ||| 2 ^ q : Nat) : Int) := by
  have h2 : (2 : Nat) ^ q < 2 ^ 62 := Nat.pow_lt_pow_right (by omega) hq
  have h3 : IntKind.u64.wrap (2 ^ q) = ((2 ^ q : Nat) : Int) := by
    rw [IntKind.wrap_u64]
    have : ((2 : Int) ^ q) = ((2 ^ q : Nat) : Int) := by simp
    rw [this]
    generalize 2 ^ q = y at *
    omega
  rw [h3, bits_or_u64_nat _ _ (by omega) (by omega)]

set_option maxRecDepth 100000 in
set_option maxHeartbeats 4000000 in
theorem mask_any {base : Nat} {Q : Nat → Prop} {w : World} {g : Nat} {T : List Cl} (hT : TabB base w g T) (x : ByteArray) (ys : List ByteArray) (sv : Value) (hy : Sv Q w ys sv) :
    Calls Try.prog 23 #[.pointer (some ⟨g, 0, none⟩), .string x, sv] w fun e w' => e = .returned (.tuple #[.int .u64 ((maskV T x ys).1 : Int), .int .i64 (maskV T x ys).2]) ∧ Below w.heap.size w w' := by
  have h62 : (fieldsT T x).length ≤ 62 := by
    obtain ⟨r, es, osv, -, -, -, -, -, -, -, g8⟩ := hT
    exact fields62 g8 x
  have HT := Hid.intro hT.tab
  have HY := Hid.intro hy
  have HC := Hid.intro (has_any hT.tab x)
  obtain ⟨a0, cap, rfl, hc1, hc2⟩ := hy.form
  obtain ⟨V, hV⟩ : ∃ V, maskV T x ys = V := ⟨_, rfl⟩
  rw [hV]
  unfold maskV at hV
  cases hh : hasT T x with
  | false =>
    rw [hh] at HC hV
    have hV' : V = (0, 10) := hV.symm
    subst hV'
    go_enter Try.func23, Try.ntmps23
    go_wp2_with fail
    refine HC.out.mono ?_
    rintro e w1 ⟨rfl, hb1⟩
    have HB1 := Hid.intro hb1
    clear hb1
    go_wp2
    refine bodyPost_ret (v := .tuple #[.int .u64 0, .int .i64 10]) (by simp [results, Try.results23, go_sem]) rfl ⟨rfl, HB1.out⟩
  | true =>
    rw [hh] at HC hV
    simp only [if_true] at hV
    go_enter Try.func23, Try.ntmps23
    go_wp2_with fail
    refine HC.out.mono ?_
    rintro e w1 ⟨rfl, hb1⟩
    have HB1 := Hid.intro hb1
    clear hb1
    go_wp2_with fail
    go_loopw [8, 19] (fun m i wr => Hid (Below w.heap.size w wr) ∧ ∃ k z : Nat, k ≤ ys.length ∧ z < 2 ^ 62 ∧ m = .int .u64 (z : Int) ∧ i = .int .i64 (k : Int) ∧ Hid (maskO (fieldsT T x) ys 0 = maskO (fieldsT T x) (ys.drop k) z)) (fun _ i _ => ys.length - (intOf i).toNat)
    case atStart => exact ⟨HB1, 0, 0, by omega, by omega, rfl, rfl, rfl⟩
    case round =>
      obtain ⟨HBw, k, z, hk, hz, rfl, rfl, HM⟩ := hrel
      by_cases hlt : (k : Int) < (ys.length : Int)
      · have hlt' : k < ys.length := by omega
        obtain ⟨b, o, rfl, d0⟩ : ∃ b o, a0 = some ⟨b, o, none⟩ ∧ wr.cell? ⟨b, o + k, none⟩ = some (.string ys[k]) := by
          obtain ⟨x0, xc, hx, -, -, hx4⟩ := HY.out
          cases hx
          obtain ⟨b, o, e, -, h5⟩ := hx4 (by omega)
          exact ⟨b, o, e, (HBw.out.cell (p := ⟨b, o + k, none⟩) (cell_lt (h5 k hlt'))).trans (h5 k hlt')⟩
        have HI := Hid.intro (index_any (HT.out.below HBw.out) x ys[k])
        have hm := maskO_drop (fs := fieldsT T x) (z := z) hlt'
        rw [← HM.out] at hm
        unfold idxI idxE at HI
        rw [hh] at HI
        rcases placeI_lt (fieldsT T x) ys[k] with hp | ⟨q, hp, hql, -⟩
        · rw [hp] at HI hm
          simp only [Int.reduceNeg, Int.reduceLT, if_true] at HI hm
          rw [hm] at hV
          have hV' : V = (0, 11) := hV.symm
          subst hV'
          go_wp2_with fail
          refine HI.out.mono ?_
          rintro e w2 ⟨rfl, hb2⟩
          have HB2 := Hid.intro (hb2.via HBw.out)
          clear hb2
          go_wp2
          refine bodyPost_ret (v := .tuple #[.int .u64 0, .int .i64 11]) (by simp [results, Try.results23, go_sem]) rfl ⟨rfl, HB2.out⟩
        · have hq0 : ¬ ((q : Int) < 0) := by omega
          have hq62 : q < 62 := by omega
          rw [hp] at HI hm
          simp only [if_neg hq0, if_true] at HI hm
          have HM2 := Hid.intro hm
          clear hm
          go_wp2_with fail
          refine HI.out.mono ?_
          rintro e w2 ⟨rfl, hb2⟩
          have HB2 := Hid.intro (hb2.via HBw.out)
          clear hb2
          go_wp2
          go_roundw
          case rel => exact ⟨HB2, k + 1, z ||| 2 ^ q, by omega, or_lt62 hz hq62, congrArg (Value.int IntKind.u64) (or_step hz hq62), by go_num, Hid.intro (by simpa using HM2.out)⟩
          case measure => simp [intOf]; omega
      · have hk2 : k = ys.length := by omega
        subst hk2
        rw [HM.out, List.drop_length] at hV
        have hV' : V = (z, 0) := hV.symm
        subst hV'
        go_wp2
        refine bodyPost_ret (v := .tuple #[.int .u64 (z : Int), .int .i64 0]) (by simp [results, Try.results23, go_sem]) rfl ⟨rfl, HBw.out⟩
end Go.Proofs.Ytbfnlnjnaepiiaa
