/- The reference's decoder as a function on bytes: it is the program's where the value may be. -/
import Derived.Test.YtciibcfmlhbnkaaGreatDoorVPure
namespace Go.Proofs.YtciibcfmlhbnkaaGreatDoor
open Go.RowKit

def lenS (l : List UInt8) : Option (Nat × List UInt8) := if l.length < 4 then none else if wordN (l.take 4) ≤ 4096 then some (wordN (l.take 4), l.drop 4) else none
/-- What the reference reads: the room is one more than the program's, a fact's number and a text's length are looked at behind. -/
def rdec : Nat → List UInt8 → Option (Tr × List UInt8)
  | _, [] => none
  | room, c :: l =>
    if c.toNat = 0 then some (zeroT, l)
    else if c.toNat = 1 then match l with
      | [] => none
      | d :: l => if d.toNat ≤ 1 then some ({ zeroT with k := 1, b := d.toNat == 1 }, l) else none
    else if c.toNat = 2 ∨ c.toNat = 5 then if l.length < 8 then none else some ({ zeroT with k := c.toNat, i := wordI (l.take 8) }, l.drop 8)
    else if c.toNat = 3 then match lenR 4294967296 l with
      | none => none
      | some x => some ({ zeroT with k := 3, s := ⟨(x.2.take x.1).toArray⟩ }, x.2.drop x.1)
    else if c.toNat = 4 then match room with
      | 0 => none
      | room + 1 => match lenS l with
        | none => none
        | some x => (decL (rdec room) x.1 x.2).map fun y => ({ zeroT with k := 4, l := y.1 }, y.2)
    else none

theorem decL_len {E : List UInt8 → Option (Tr × List UInt8)} (hE : ∀ l t r, E l = some (t, r) → r.length < l.length) : ∀ (m : Nat) (l : List UInt8) (ts : List Tr) (r : List UInt8), decL E m l = some (ts, r) → ts.length = m ∧ m + r.length ≤ l.length
  | 0, l, ts, r, h => by cases h; simp
  | m + 1, l, ts, r, h => by
    rw [decL] at h
    cases hd : E l with
    | none => rw [hd] at h; cases h
    | some x =>
      rw [hd] at h
      obtain ⟨y, hy, e⟩ := Option.map_eq_some_iff.1 h
      cases e
      have h1 := hE l x.1 x.2 hd
      obtain ⟨h2, h3⟩ := decL_len hE m x.2 y.1 y.2 hy
      rw [List.length_cons]
      omega
theorem decL_iff {D E : List UInt8 → Option (Tr × List UInt8)} {p : Tr → Bool} (hD : ∀ l t r, D l = some (t, r) ↔ E l = some (t, r) ∧ p t = true) : ∀ (m : Nat) (l : List UInt8) (ts : List Tr) (r : List UInt8), decL D m l = some (ts, r) ↔ decL E m l = some (ts, r) ∧ ts.all p = true
  | 0, l, ts, r => by
    rw [decL, decL]
    constructor
    · intro h; cases h; exact ⟨rfl, rfl⟩
    · exact fun h => h.1
  | m + 1, l, ts, r => by
    rw [decL, decL]
    constructor
    · intro h
      cases hd : D l with
      | none => rw [hd] at h; cases h
      | some x =>
        rw [hd] at h
        obtain ⟨y, hy, e⟩ := Option.map_eq_some_iff.1 h
        cases e
        obtain ⟨h1, h2⟩ := (hD l x.1 x.2).1 hd
        obtain ⟨h3, h4⟩ := (decL_iff hD m x.2 y.1 y.2).1 hy
        rw [h1]
        simp only [h3, Option.map_some, List.all_cons, h2, h4, Bool.and_self, and_self]
    · rintro ⟨h, hp⟩
      cases hd : E l with
      | none => rw [hd] at h; cases h
      | some x =>
        rw [hd] at h
        obtain ⟨y, hy, e⟩ := Option.map_eq_some_iff.1 h
        cases e
        rw [List.all_cons, Bool.and_eq_true] at hp
        rw [(hD l x.1 x.2).2 ⟨hd, hp.1⟩]
        simp only
        rw [(decL_iff hD m x.2 y.1 y.2).2 ⟨hy, hp.2⟩]
        rfl
theorem lenS_le {l : List UInt8} {m : Nat} {r : List UInt8} (h : lenS l = some (m, r)) : m ≤ 4096 ∧ r.length + 4 = l.length := by
  unfold lenS at h
  split at h
  · cases h
  · split at h
    · cases h
      refine ⟨by assumption, ?_⟩
      rw [List.length_drop]; omega
    · cases h
theorem rdec_lt : ∀ (room : Nat) (l : List UInt8) (t : Tr) (r : List UInt8), rdec room l = some (t, r) → r.length < l.length
  | room, [], t, r, h => by rw [rdec] at h; cases h
  | room, c :: l, t, r, h => by
    rw [rdec.eq_def] at h
    dsimp only at h
    rw [List.length_cons]
    split at h
    · cases h; omega
    split at h
    · split at h
      · cases h
      · split at h
        · cases h; rw [List.length_cons]; omega
        · cases h
    split at h
    · split at h
      · cases h
      · cases h; rw [List.length_drop]; omega
    split at h
    · split at h
      · cases h
      · next x hx =>
        cases h
        have := (lenR_le (m := x.1) (r := x.2) hx).2.2
        rw [List.length_drop]; omega
    split at h
    · cases room with
      | zero => cases h
      | succ q =>
        simp only at h
        split at h
        · cases h
        · next x hx =>
          obtain ⟨y, hy, e⟩ := Option.map_eq_some_iff.1 h
          cases e
          have h1 := (lenS_le (m := x.1) (r := x.2) hx).2
          have h2 := (decL_len (rdec_lt q) x.1 x.2 y.1 y.2 hy).2
          omega
    · cases h
theorem dec_iff : ∀ (room : Nat) (l : List UInt8) (t : Tr) (r : List UInt8), dec room l = some (t, r) ↔ rdec (room + 1) l = some (t, r) ∧ fit room t = true
  | room, [], t, r => by
    rw [dec, rdec]
    exact ⟨fun h => (by cases h), fun h => (by cases h.1)⟩
  | room, c :: l, t, r => by
    rw [dec.eq_def, rdec.eq_def]
    dsimp only
    by_cases h0 : c.toNat = 0
    · rw [if_pos h0, if_pos h0]
      constructor
      · intro h; cases h; exact ⟨rfl, by rw [fit_flat room _ (by simp [zeroT])]; simp [flat, zeroT]⟩
      · exact fun h => h.1
    rw [if_neg h0, if_neg h0]
    by_cases h1 : c.toNat = 1
    · rw [if_pos h1, if_pos h1]
      cases l with
      | nil => exact ⟨fun h => (by cases h), fun h => (by cases h.1)⟩
      | cons d l =>
        simp only
        constructor
        · intro h
          split at h
          · next hd => cases h; exact ⟨by rw [if_pos hd], by rw [fit_flat room _ (by simp)]; simp [flat, zeroT]⟩
          · cases h
        · exact fun h => h.1
    rw [if_neg h1, if_neg h1]
    by_cases h2 : c.toNat = 2
    · rw [if_pos h2, if_pos (Or.inl h2)]
      constructor
      · intro h
        split at h
        · cases h
        · next hl => cases h; exact ⟨by rw [if_neg hl, h2]; rfl, by rw [fit_flat room _ (by simp)]; simp [flat, zeroT]⟩
      · rintro ⟨h, -⟩
        rw [h2] at h
        exact h
    rw [if_neg h2]
    by_cases h5 : c.toNat = 5
    · rw [if_pos h5, if_pos (Or.inr h5)]
      constructor
      · intro h
        split at h
        · cases h
        · next hl =>
          split at h
          · next hi => cases h; exact ⟨by rw [if_neg hl, h5]; rfl, by rw [fit_flat room _ (by simp)]; simp [flat, zeroT, hi]⟩
          · cases h
      · rintro ⟨h, hf⟩
        rw [h5] at h
        split at h
        · cases h
        · next hl =>
          cases h
          rw [fit_flat room _ (by simp)] at hf
          simp [flat, zeroT] at hf
          rw [if_neg hl, if_pos hf]
          rfl
    rw [if_neg h5, if_neg (c := c.toNat = 2 ∨ c.toNat = 5) (by omega)]
    by_cases h3 : c.toNat = 3
    · rw [if_pos h3, if_pos h3]
      have hlen : ∀ (a : List UInt8) (n : Nat), (ByteArray.mk (a.take n).toArray).size = (a.take n).length := fun a n => by simp [ByteArray.size]
      unfold lenR
      by_cases h4 : l.length < 4
      · rw [if_pos h4, if_pos h4]
        exact ⟨fun h => (by cases h), fun h => (by cases h.1)⟩
      rw [if_neg h4, if_neg h4]
      have hw := wordN_lt 4 (l.take 4) (by rw [List.length_take]; omega)
      by_cases hm : wordN (l.take 4) ≤ (l.drop 4).length
      · rw [if_pos (c := wordN (l.take 4) ≤ 4294967296 ∧ _) ⟨by omega, hm⟩]
        have hz : ((ByteArray.mk ((l.drop 4).take (wordN (l.take 4))).toArray).size : Int) = (wordN (l.take 4) : Int) := by
          rw [hlen, List.length_take, Nat.min_eq_left hm]
        by_cases hs : wordN (l.take 4) ≤ 65536
        · rw [if_pos ⟨hs, hm⟩]
          constructor
          · intro h
            cases h
            refine ⟨rfl, ?_⟩
            rw [fit_flat room _ (by simp)]
            simp only [flat, zeroT, hz]
            simp
            omega
          · exact fun h => h.1
        · rw [if_neg (fun h => hs h.1)]
          constructor
          · intro h; cases h
          · rintro ⟨h, hf⟩
            cases h
            rw [fit_flat room _ (by simp)] at hf
            simp only [flat, zeroT, hz] at hf
            simp at hf
            omega
      · rw [if_neg (c := wordN (l.take 4) ≤ 4294967296 ∧ _) (fun h => hm h.2), if_neg (fun h => hm h.2)]
        exact ⟨fun h => (by cases h), fun h => (by cases h.1)⟩
    rw [if_neg h3, if_neg h3]
    by_cases h4 : c.toNat = 4
    · rw [if_pos h4, if_pos h4]
      cases room with
      | zero =>
        constructor
        · intro h; cases h
        · rintro ⟨h, hf⟩
          exfalso
          split at h
          · cases h
          · obtain ⟨y, hy, e⟩ := Option.map_eq_some_iff.1 h
            cases e
            simp [fit, flat] at hf
      | succ q =>
        simp only
        constructor
        · intro h
          split at h
          · cases h
          · next x hx =>
            obtain ⟨y, hy, e⟩ := Option.map_eq_some_iff.1 h
            cases e
            obtain ⟨h5, h6⟩ := (decL_iff (dec_iff q) x.1 x.2 y.1 y.2).1 hy
            have hlen := decL_len (rdec_lt (q + 1)) x.1 x.2 y.1 y.2 h5
            have hxs : lenS l = some x := by
              unfold lenR at hx
              unfold lenS
              split at hx
              · cases hx
              · next hl4 =>
                split at hx
                · next hc => rw [if_neg hl4, if_pos hc.1]; exact hx
                · cases hx
            have h7 := (lenS_le (m := x.1) (r := x.2) hxs).1
            refine ⟨by rw [hxs]; simp only [h5, Option.map_some], ?_⟩
            rw [fit, if_pos rfl]
            simp [zeroT, h6, hlen.1]
            first | exact h7 | exact ⟨h7, by simpa using h6⟩
        · rintro ⟨h, hf⟩
          split at h
          · cases h
          · next x hx =>
            obtain ⟨y, hy, e⟩ := Option.map_eq_some_iff.1 h
            cases e
            have hlen := decL_len (rdec_lt (q + 1)) x.1 x.2 y.1 y.2 hy
            have h7 := lenS_le (m := x.1) (r := x.2) hx
            have hxs : lenR 4096 l = some x := by
              unfold lenS at hx
              unfold lenR
              split at hx
              · cases hx
              · next hl4 =>
                split at hx
                · next hc =>
                  cases hx
                  rw [if_neg hl4, if_pos ⟨hc, by have := hlen.2; simp only at this; omega⟩]
                · cases hx
            rw [hxs]
            simp only
            rw [fit, if_pos rfl] at hf
            simp only [Bool.and_eq_true] at hf
            rw [(decL_iff (dec_iff q) x.1 x.2 y.1 y.2).2 ⟨hy, hf.1.1.1.2⟩]
            rfl
    · rw [if_neg h4, if_neg h4]
      exact ⟨fun h => (by cases h), fun h => (by cases h.1)⟩
end Go.Proofs.YtciibcfmlhbnkaaGreatDoor
