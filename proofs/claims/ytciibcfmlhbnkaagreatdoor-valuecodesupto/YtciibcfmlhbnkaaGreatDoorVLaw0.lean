/- Bytes that differ are of values that differ; Decode of what is no value's bytes; the reference's EqBytes. -/
import Derived.Test.YtciibcfmlhbnkaaGreatDoorVPure
import Derived.Test.YtciibcfmlhbnkaaGreatDoorVDec10
import Derived.Test.YtciibcfmlhbnkaaGreatDoorVEnc3
import Derived.Test.YtciibcfmlhbnkaaGreatDoorRSame
import Derived.Deep.AppendLies
import Derived.ArgAppend
import Derived.Deep.RegionHeld3
namespace Go.Proofs.YtciibcfmlhbnkaaGreatDoor
open Go.RowKit

/-- A step that is taken first; its slot written out. -/
theorem take_q {P : Program} {md : Region.Mode} {ops : Array Oper} {Q : Exit → Act → World → Prop} {S : World → Prop} (i d : Nat) (v : Value) {fuel : Nat} {listed : Array Bool} {tmps : Array Value} {df : List Deferred} {w : World}
    (hi : ∃ oi, ops[i]? = some oi ∧ oi.dst = some d ∧ YieldsIf P ops S oi v ⟨tmps, df⟩) (hs : Region.noSelect ops = true) (hf : Region.free md ops listed i = true) (hr : (Region.ready md ops listed).contains i = true)
    (hQ : ∀ c (a : Act) w, Q (.panic c) (a.put (some d) v) w → Q (.panic c) a w) (hS : S w)
    (h : wpAnyH P md ops Q S fuel (listed.setIfInBounds i true) ⟨tmps.setIfInBounds d v, df⟩ w) : wpAnyH P md ops Q S (fuel + 1) listed ⟨tmps, df⟩ w := by
  obtain ⟨oi, h1, h2, h3⟩ := hi
  refine wpAnyH_take h1 hs hf hr (by rw [h2]; exact hQ) h3 hS ?_
  rw [h2]
  exact h
theorem sameL_eq {n : Nat} : ∀ (xs ys : List Tr), (∀ x y, x ∈ xs → y ∈ ys → same n x y = true → x = y) → sameL (same n) xs ys = true → xs = ys
  | [], [], _, _ => rfl
  | [], _ :: _, _, h => by cases h
  | _ :: _, [], _, h => by cases h
  | x :: xs, y :: ys, hi, h => by
    rw [sameL, Bool.and_eq_true] at h
    rw [hi x y (by simp) (by simp) h.1, sameL_eq xs ys (fun a b ha hb => hi a b (by simp [ha]) (by simp [hb])) h.2]
theorem same_eq : ∀ (n : Nat) (a b : Tr), same n a b = true → a = b
  | 0, _, _, h => by cases h
  | n + 1, ⟨k, b, i, s, l⟩, ⟨k', b', i', s', l'⟩, h => by
    rw [same] at h
    simp only [Bool.and_eq_true, beq_iff_eq] at h
    obtain ⟨⟨⟨⟨rfl, rfl⟩, rfl⟩, h4⟩, h5⟩ := h
    have e : s = s' := by
      rw [ByteArray.toList_eq, ByteArray.toList_eq] at h4
      cases s; cases s'
      congr 1
      exact Array.toList_inj.1 h4
    have e2 : l = l' := sameL_eq l l' (fun x y _ _ h => same_eq n x y h) h5
    subst e; subst e2; rfl
theorem enc_same {n : Nat} {a b : Tr} (ha : ok n a) (hb : ok n b) (fa : fit 30 a = true) (fb : fit 30 b = true) (da : dep n a) : (enc n a == enc n b) = same n a b := by
  rw [Bool.eq_iff_iff, beq_iff_eq]
  constructor
  · intro h
    have h1 := dec_enc n 30 a [] ha fa
    have h2 := dec_enc n 30 b [] hb fb
    rw [h, h2] at h1
    cases h1
    exact same_refl n a da
  · intro h
    rw [same_eq n a b h]
theorem dec_self {n : Nat} {a : Tr} (ha : ok n a) (fa : fit 30 a = true) : dec 30 (enc n a) = some (a, []) := by
  have := dec_enc n 30 a [] ha fa
  rwa [List.append_nil] at this
theorem dec_more {n : Nat} {a : Tr} (ha : ok n a) (fa : fit 30 a = true) : ∀ t', dec 30 (enc n a ++ [0]) ≠ some (t', []) := by
  intro t' h
  rw [dec_enc n 30 a [0] ha fa] at h
  cases h
theorem Decode_bad {w : World} {G off cap : Nat} {l : List UInt8} (hb : Bys w G off l) (hG : G < w.heap.size) (hle : l.length ≤ cap) (hcap : cap ≤ 9223372036854775807) (hl : l.length ≤ 1000000000) (hd : ∀ t', dec 30 l ≠ some (t', [])) :
    Calls Tryz.prog 31 #[.slice (some ⟨G, off, none⟩) l.length cap] w fun e w' => Below w.heap.size w w' ∧ e = .returned (.tuple #[.agg #[.int .i64 0, .bool false, .int .i64 0, .string ⟨#[]⟩, .slice none 0 0], .int .i64 8]) := by
  cases h : dec 30 l with
  | none => exact Decode_no hb hG hle hcap hl h
  | some x =>
    obtain ⟨t, r⟩ := x
    cases r with
    | nil => exact absurd h (hd t)
    | cons c r => exact Decode_more hb hG hle hcap hl h
def bs (l : List UInt8) : ByteArray := ⟨l.toArray⟩
theorem conv_bys {w : World} {G cap : Nat} {l : List UInt8} (h : Bys w G 0 l) : (convert 50 9 (.slice (some ⟨G, 0, none⟩) l.length cap)).run Tryz.prog w = .ok (.string (bs l)) w := by
  refine run_convert_bytes_back w 50 9 5 ⟨G, 0, none⟩ cap l Tryz.underlying50 Tryz.underlying5 Tryz.underlying9 ?_
  intro j hj
  have e : (⟨G, 0, none⟩ : Addr).add j = ⟨G, j, none⟩ := by simp [Addr.add]; intro h; exact h.symm
  rw [e]
  have := h j hj
  rwa [Nat.zero_add] at this
theorem bs_eq (a b : List UInt8) : ((bs a).toList == (bs b).toList) = (a == b) := by
  simp [bs, ByteArray.toList_eq]
theorem eqBytes_any {w : World} {G G' cap cap' : Nat} {l l' : List UInt8} (h : Bys w G 0 l) (h' : Bys w G' 0 l') :
    Calls Tryz.prog 30 #[.slice (some ⟨G, 0, none⟩) l.length cap, .slice (some ⟨G', 0, none⟩) l'.length cap'] w fun e w' => Below w.heap.size w w' ∧ e = .returned (.bool (l == l')) := by
  have H1 := conv_bys (cap := cap) h
  have H2 := conv_bys (cap := cap') h'
  clear h h'
  go_enter Tryz.func30, Tryz.ntmps30
  go_wp2
  go_ret
  exact ⟨Below.refl _ _, by simp [bs_eq]⟩
theorem own_bys {w : World} {B : Nat} {v : Value} {l : List UInt8} (h : w.ownsRow B 5 1 v l.length (bv (ii l))) (hn : 0 < l.length) :
    ∃ g cap, v = .slice (some ⟨g, 0, none⟩) l.length cap ∧ B ≤ g ∧ g < w.heap.size ∧ l.length ≤ cap ∧ cap ≤ 9223372036854775807 ∧ Bys w g 0 l := by
  have hlt := h.form hn
  obtain ⟨h1, h | ⟨g, cap, cur, rfl, h2, h3, h4, h5, h6, h7⟩⟩ := h
  · omega
  · obtain ⟨g', cap', e, -, hg⟩ := hlt
    cases e
    refine ⟨g, cap, rfl, h2, hg, h4, by unfold maxLen at h5; omega, fun j hj => ?_⟩
    rw [Nat.zero_add]
    unfold World.cell?
    simp only [h3]
    have hc : (cur.toList.take (l.length * 1))[j]? = (bv (ii l))[j]? := by rw [h7]
    rw [List.getElem?_take_of_lt (by omega), Array.getElem?_toList] at hc
    rw [hc]
    simp [bv, ii, List.getElem?_eq_getElem hj]
end Go.Proofs.YtciibcfmlhbnkaaGreatDoor
