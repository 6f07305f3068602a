/- value.encode, value.Encode: what they tell of any value that may be. -/
import Derived.Test.YtciibcfmlhbnkaaGreatDoorEnc2
import Derived.Lib.AppendStr
namespace Go.Proofs.YtciibcfmlhbnkaaGreatDoor
open Go.RowKit

def ii (l : List UInt8) : List Int := l.map fun c => (c.toNat : Int)
def word8 (W : Int) (n : Nat) : List UInt8 := (wordB W n).map fun i => UInt8.ofNat i.toNat
theorem ii_app (a b : List UInt8) : ii (a ++ b) = ii a ++ ii b := List.map_append
theorem ii_len (a : List UInt8) : (ii a).length = a.length := List.length_map ..
theorem word_len (W : Int) (n : Nat) : (word8 W n).length = n := by simp [word8, wordB]
theorem ii_word (W : Int) (n : Nat) : ii (word8 W n) = wordB W n := by
  unfold ii word8
  rw [List.map_map]
  conv => rhs; rw [← List.map_id (wordB W n)]
  refine List.map_congr_left fun i hi => ?_
  unfold wordB at hi
  obtain ⟨k, -, rfl⟩ := List.mem_map.1 hi
  have h1 : 0 ≤ byteAt W n k := Int.emod_nonneg _ (by decide)
  have h2 : byteAt W n k < 256 := Int.emod_lt_of_pos _ (by decide)
  simp only [Function.comp_apply, id_eq]
  rw [UInt8.toNat_ofNat']
  omega
theorem bv_str (s : ByteArray) : Lib.strCells s = bv (ii s.data.toList) := by
  simp [Lib.strCells, bv, ii]

def bitU (b : Bool) : UInt8 := bif b then 1 else 0
theorem bitU_nat (b : Bool) : ((bitU b).toNat : Int) = bitI b := by cases b <;> rfl
/-- A value's bytes. -/
def enc : Nat → Tr → List UInt8
  | 0, _ => []
  | n + 1, t => UInt8.ofNat t.k.toNat :: (if t.k = 1 then [bitU t.b] else if t.k = 2 ∨ t.k = 5 then word8 (IntKind.u64.wrap t.i) 8 else if t.k = 3 then word8 t.s.size 4 ++ t.s.data.toList else if t.k = 4 then word8 t.l.length 4 ++ t.l.flatMap (enc n) else [])

theorem fit_kind {r : Nat} {t : Tr} (h : fit r t = true) : t.k = 0 ∨ t.k = 1 ∨ t.k = 2 ∨ t.k = 3 ∨ t.k = 4 ∨ t.k = 5 := by
  by_cases h4 : t.k = 4
  · exact .inr (.inr (.inr (.inr (.inl h4))))
  · rw [fit_flat r t h4] at h
    unfold flat at h
    split at h; · left; assumption
    split at h; · right; left; assumption
    split at h; · right; right; left; assumption
    split at h; · right; right; right; left; assumption
    split at h; · right; right; right; right; right; assumption
    cases h
theorem fit_list {r : Nat} {t : Tr} (h : fit r t = true) (h4 : t.k = 4) : ∃ r', r = r' + 1 ∧ t.l.length ≤ 4096 ∧ (∀ c ∈ t.l, fit r' c = true) ∧ t.b = false ∧ t.i = 0 ∧ t.s.toList.isEmpty = true := by
  cases r with
  | zero => rw [fit] at h; simp [flat, h4] at h
  | succ r =>
    rw [fit, if_pos h4] at h
    simp only [Bool.and_eq_true, decide_eq_true_eq, List.all_eq_true, Bool.not_eq_true', beq_iff_eq] at h
    exact ⟨r, rfl, h.1.1.1.1, h.1.1.1.2, h.1.1.2, h.1.2, h.2⟩

theorem grown_below {w0 w w' : World} {ow : Option Nat} (h : Below w0.heap.size w0 w) (hg : w.grownBy w' ow) (how : ∀ g, ow = some g → w0.heap.size ≤ g) : Below w0.heap.size w0 w' :=
  ⟨hg.os.trans h.os, hg.tape.trans h.tape, hg.output.trans h.output, Nat.le_trans h.size hg.size, fun k hk => (hg.block k (Nat.lt_of_lt_of_le hk h.size) (fun e => by have := how k e.symm; omega)).trans (h.block k hk)⟩
/-- What encode leaves. -/
def EncP (w0 w' : World) (ys : List UInt8) (e : Ending) : Prop :=
  ∃ v', e = .returned v' ∧ w'.ownsRow w0.heap.size 5 1 v' ys.length (bv (ii ys)) ∧ Below w0.heap.size w0 w'
def EncAt (n : Nat) : Prop := ∀ (r : Nat) (t : Tr) (sv : Value) (w0 w : World) (v : Value) (xs : List UInt8), fit r t = true → Vs w0 n t sv → Below w0.heap.size w0 w → xs.length + (enc n t).length ≤ 1000000000 →
    w.ownsRow w0.heap.size 5 1 v xs.length (bv (ii xs)) → Calls Tryz.prog 67 #[v, vv t sv] w fun e w' => EncP w0 w' (xs ++ enc n t) e

theorem bvi_snoc (xs ys : List UInt8) (c : Nat) (hc : c < 256) : bv (ii (xs ++ ys)) ++ [.int .u8 (c : Int)] = bv (ii (xs ++ (ys ++ [UInt8.ofNat c]))) := by
  have : (UInt8.ofNat c).toNat = c := by rw [UInt8.toNat_ofNat']; omega
  simp [bv, ii, this]
end Go.Proofs.YtciibcfmlhbnkaaGreatDoor
