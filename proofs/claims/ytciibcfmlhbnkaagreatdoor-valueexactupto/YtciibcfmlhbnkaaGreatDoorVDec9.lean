/- value.Decode's reader: value, at every room. -/
import Derived.Test.YtciibcfmlhbnkaaGreatDoorVDec8
namespace Go.Proofs.YtciibcfmlhbnkaaGreatDoor
open Go.RowKit

theorem decL_le {D : List UInt8 → Option (Tr × List UInt8)} (hD : ∀ l t r, D l = some (t, r) → r.length ≤ l.length) : ∀ (m : Nat) (l : List UInt8) (ts : List Tr) (r : List UInt8), decL D m l = some (ts, r) → r.length ≤ l.length
  | 0, l, ts, r, h => by cases h; exact Nat.le_refl _
  | m + 1, l, ts, r, h => by
    rw [decL] at h
    cases hd : D l with
    | none => rw [hd] at h; cases h
    | some x =>
      rw [hd] at h
      obtain ⟨y, hy, e⟩ := Option.map_eq_some_iff.1 h
      cases e
      exact Nat.le_trans (decL_le hD m x.2 y.1 y.2 hy) (hD l x.1 x.2 hd)
theorem dec_le : ∀ (room : Nat) (l : List UInt8) (t : Tr) (r : List UInt8), dec room l = some (t, r) → r.length ≤ l.length
  | room, [], t, r, h => by rw [dec] at h; cases h
  | room, c :: l, t, r, h => by
    rw [dec.eq_def] at h
    dsimp only at h
    rw [List.length_cons]
    split at h
    · cases h; omega
    split at h
    · split at h
      · cases h
      · split at h
        · cases h; simp only [List.length_cons]; omega
        · cases h
    split at h
    · split at h
      · cases h
      · cases h; rw [List.length_drop]; omega
    split at h
    · split at h
      · cases h
      · split at h
        · cases h; rw [List.length_drop]; omega
        · cases h
    split at h
    · split at h
      · cases h
      · next x hx =>
        cases h
        have := (lenR_le (m := x.1) (r := x.2) hx).2.2
        rw [List.length_drop]; omega
    split at h
    · cases room with
      | zero => cases h
      | succ q =>
        simp only at h
        split at h
        · cases h
        · next x hx =>
          obtain ⟨y, hy, e⟩ := Option.map_eq_some_iff.1 h
          cases e
          have h1 := (lenR_le (m := x.1) (r := x.2) hx).2.2
          have h2 := decL_le (dec_le q) _ _ _ _ hy
          omega
    · cases h
theorem val_cons (room : Nat) (hroom : room ≤ 30) (ih : ∀ q, room = q + 1 → ValAt q) {w : World} {R G off cap : Nat} {c : UInt8} {l : List UInt8} (h : Rd w R G off cap (c :: l)) (hl : (c :: l).length ≤ 1000000000) :
    Calls Tryz.prog 69 #[.pointer (some ⟨R, 0, none⟩), .int .i64 (room : Int)] w fun e w' => Tu R w w' ∧ ValP w R G (room + 1) e w' (dec room (c :: l)) := by
  have hl' : l.length ≤ 1000000000 := by rw [List.length_cons] at hl; omega
  rw [dec.eq_def]
  dsimp only
  by_cases c0 : c.toNat = 0
  · rw [if_pos c0]; exact val_0 room hroom hl' h c0
  rw [if_neg c0]
  by_cases c1 : c.toNat = 1
  · rw [if_pos c1]
    cases l with
    | nil => exact val_1n room hroom hl' h c1 rfl
    | cons d l0 =>
      simp only
      by_cases d0 : d.toNat = 0
      · rw [if_pos (by omega), show (d.toNat == 1) = false from by rw [d0]; rfl]; exact val_10 room hroom hl' h c1 d0 rfl
      · by_cases d1 : d.toNat = 1
        · rw [if_pos (by omega), show (d.toNat == 1) = true from by rw [d1]; rfl]; exact val_11 room hroom hl' h c1 d1 rfl
        · rw [if_neg (by omega)]; exact val_12 room hroom hl' h c1 (by omega) rfl
  rw [if_neg c1]
  by_cases c2 : c.toNat = 2
  · rw [if_pos c2]
    by_cases h8 : l.length < 8
    · rw [if_pos h8]; exact val_2n room hroom hl' h c2 h8
    · rw [if_neg h8]; exact val_2 room hroom hl' h c2 h8
  rw [if_neg c2]
  by_cases c5 : c.toNat = 5
  · rw [if_pos c5]
    by_cases h8 : l.length < 8
    · rw [if_pos h8]; exact val_5n room hroom hl' h c5 h8
    · rw [if_neg h8]
      by_cases hi : 1 ≤ wordI (l.take 8)
      · rw [if_pos hi]; exact val_5 room hroom hl' h c5 h8 hi
      · rw [if_neg hi]; exact val_50 room hroom hl' h c5 h8 hi
  rw [if_neg c5]
  by_cases c3 : c.toNat = 3
  · rw [if_pos c3]
    cases he : lenR 65536 l with
    | none => exact val_3n room hroom hl' h c3 he
    | some x => exact val_3 (m := x.1) (r := x.2) room hroom hl' h c3 he
  rw [if_neg c3]
  by_cases c4 : c.toNat = 4
  · rw [if_pos c4]
    cases hq : room with
    | zero => subst hq; exact val_40 0 hroom hl' h c4 rfl
    | succ q =>
      subst hq
      simp only
      cases he : lenR 4096 l with
      | none => exact val_4n (q + 1) hroom hl' h c4 (by omega) he
      | some x =>
        simp only
        cases hn : decL (dec q) x.1 x.2 with
        | none => exact val_4y (m := x.1) (r := x.2) (q := q) (ih q rfl) (dec_le q) (q + 1) hroom hl' h c4 rfl he hn
        | some y => exact val_4 (m := x.1) (r := x.2) (q := q) (ts := y.1) (r2 := y.2) (ih q rfl) (dec_le q) (q + 1) hroom hl' h c4 rfl he hn
  rw [if_neg c4]
  exact val_x room hroom hl' h (by omega)
theorem val_at : ∀ room, room ≤ 30 → ValAt room
  | 0, hr => fun w R G off cap l h hl => by
    cases l with
    | nil => rw [dec]; exact val_nil h _ _
    | cons c l => exact val_cons 0 hr (fun q e => by omega) h hl
  | room + 1, hr => fun w R G off cap l h hl => by
    cases l with
    | nil => rw [dec]; exact val_nil h _ _
    | cons c l => exact val_cons (room + 1) hr (fun q e => by obtain rfl : room = q := by omega
                                                              exact val_at room (by omega)) h hl
end Go.Proofs.YtciibcfmlhbnkaaGreatDoor
