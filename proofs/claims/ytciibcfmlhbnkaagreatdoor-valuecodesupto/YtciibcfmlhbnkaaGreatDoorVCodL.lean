/- What Encode and Decode tell, the program's and the reference's, of whatever they are handed. -/
import Derived.Test.YtciibcfmlhbnkaaGreatDoorVNil
import Derived.Test.YtciibcfmlhbnkaaGreatDoorVRead2
import Derived.Test.YtciibcfmlhbnkaaGreatDoorRByt3
import Derived.Test.YtciibcfmlhbnkaaGreatDoorSize
namespace Go.Proofs.YtciibcfmlhbnkaaGreatDoor
open Go.RowKit

theorem vs_up {w : World} {n m : Nat} (h : n ≤ m) {t : Tr} {sv : Value} (hv : Vs w n t sv) : Vs w m t sv := by
  induction h with
  | refl => exact hv
  | step _ ih => exact ih.succ
theorem vs_zero (w : World) (n : Nat) : Vs w (n + 1) zeroT (.slice none 0 0) :=
  ⟨⟨by decide, by decide, by decide, by decide, Nat.zero_le _⟩, none, 0, rfl, Nat.le_refl _, Nat.zero_le _, fun h => absurd h (Nat.lt_irrefl 0)⟩
/-- What Decode tells of bytes. -/
def decV (l : List UInt8) : Tr × Int := match dec 30 l with
  | some (t, []) => (t, 0)
  | _ => (zeroT, 8)
theorem decV_yes {l : List UInt8} {t : Tr} (h : dec 30 l = some (t, [])) : decV l = (t, 0) := by unfold decV; rw [h]
theorem decV_no {l : List UInt8} (h : ∀ t, dec 30 l ≠ some (t, [])) : decV l = (zeroT, 8) := by
  unfold decV
  split
  · next t e => exact absurd e (h t)
  · rfl
def DecP (w' : World) (l : List UInt8) (e : Ending) : Prop := ∃ sv, e = .returned (.tuple #[vv (decV l).1 sv, .int .i64 (decV l).2]) ∧ Vs w' 32 (decV l).1 sv
theorem DecP.none {w' : World} {l : List UInt8} (h : ∀ t, dec 30 l ≠ some (t, [])) : DecP w' l (.returned (.tuple #[.agg #[.int .i64 0, .bool false, .int .i64 0, .string ⟨#[]⟩, .slice none 0 0], .int .i64 8])) := by
  unfold DecP
  rw [decV_no h]
  exact ⟨_, rfl, vs_zero _ _⟩
theorem dec_nil (t : Tr) : dec 30 [] ≠ some (t, []) := by rw [dec]; exact fun h => by cases h
theorem decode_any {w : World} {l : List UInt8} {sv : Value} (h : ByV w l sv) (hl : l.length ≤ 3000) :
    Calls Tryz.prog 31 #[sv] w fun e w' => Below w.heap.size w w' ∧ DecP w' l e := by
  obtain ⟨p, cap, rfl, h2, h3, h4⟩ := h
  by_cases h0 : l.length = 0
  · obtain rfl := List.eq_nil_of_length_eq_zero h0
    refine (Decode_nl w p cap).mono ?_
    rintro e w' ⟨hb, rfl⟩
    exact ⟨hb, DecP.none dec_nil⟩
  · obtain ⟨b, o, rfl, hlt, hy⟩ := h4 (by omega)
    unfold maxLen at h3
    by_cases hd : ∃ t, dec 30 l = some (t, [])
    · obtain ⟨t, hd⟩ := hd
      refine (Decode_yes hy hlt h2 (by omega) (by omega) hd).mono ?_
      rintro e w' ⟨hb, s2, rfl, hv⟩
      refine ⟨hb, ?_⟩
      unfold DecP
      rw [decV_yes hd]
      exact ⟨s2, rfl, vs_up (by decide) hv⟩
    · have hd' : ∀ t, dec 30 l ≠ some (t, []) := fun t h => hd ⟨t, h⟩
      refine (Decode_bad hy hlt h2 (by omega) (by omega) hd').mono ?_
      rintro e w' ⟨hb, rfl⟩
      exact ⟨hb, DecP.none hd'⟩
theorem rdecode_any {w : World} {l : List UInt8} {sv : Value} (h : ByV w l sv) (hl : l.length ≤ 3000) :
    Calls Tryz.prog 32 #[sv] w fun e w' => Below w.heap.size w w' ∧ DecP w' l e := by
  obtain ⟨p, cap, rfl, h2, h3, h4⟩ := h
  by_cases h0 : l.length = 0
  · obtain rfl := List.eq_nil_of_length_eq_zero h0
    refine (RDecode_nl w p cap).mono ?_
    rintro e w' ⟨hb, rfl⟩
    exact ⟨hb, DecP.none dec_nil⟩
  · obtain ⟨b, o, rfl, hlt, hy⟩ := h4 (by omega)
    unfold maxLen at h3
    cases hr : rdec 31 l with
    | none =>
      have hd' : ∀ t, dec 30 l ≠ some (t, []) := fun t h => by have := ((dec_iff 30 l t []).1 h).1; rw [hr] at this; cases this
      refine (RDecode_no hy hlt h2 (by omega) (by omega) hr).mono ?_
      rintro e w' ⟨hb, rfl⟩
      exact ⟨hb, DecP.none hd'⟩
    | some x =>
      obtain ⟨t, r⟩ := x
      cases r with
      | cons c r =>
        have hd' : ∀ t, dec 30 l ≠ some (t, []) := fun t h => by have := ((dec_iff 30 l t []).1 h).1; rw [hr] at this; cases this
        refine (RDecode_more hy hlt h2 (by omega) (by omega) hr).mono ?_
        rintro e w' ⟨hb, rfl⟩
        exact ⟨hb, DecP.none hd'⟩
      | nil =>
        cases hf : fit 30 t with
        | false =>
          have hd' : ∀ t, dec 30 l ≠ some (t, []) := fun t' h => by
            have := (dec_iff 30 l t' []).1 h
            rw [hr] at this
            obtain ⟨e, hf'⟩ := this
            cases e
            rw [hf] at hf'; cases hf'
          refine (RDecode_unfit hy hlt h2 (by omega) (by omega) hr hf).mono ?_
          rintro e w' ⟨hb, rfl⟩
          exact ⟨hb, DecP.none hd'⟩
        | true =>
          refine (RDecode_yes hy hlt h2 (by omega) (by omega) hr hf).mono ?_
          rintro e w' ⟨hb, s2, rfl, hv⟩
          refine ⟨hb, ?_⟩
          unfold DecP
          rw [decV_yes ((dec_iff 30 l t []).2 ⟨hr, hf⟩)]
          exact ⟨s2, rfl, hv⟩

/-- What Encode tells of a value. -/
def encV (n : Nat) (t : Tr) : List UInt8 × Int := if fit 30 t = true then (enc n t, 0) else ([], 1)
def EncQ (n : Nat) (w' : World) (t : Tr) (e : Ending) : Prop := ∃ v, e = .returned (.tuple #[v, .int .i64 (encV n t).2]) ∧ ByV w' (encV n t).1 v
theorem own_byv {w : World} {B : Nat} {v : Value} {l : List UInt8} (h : w.ownsRow B 5 1 v l.length (bv (ii l))) (hn : 0 < l.length) : ByV w l v := by
  obtain ⟨g, cap, rfl, -, h2, h3, h4, h5⟩ := own_bys h hn
  exact ⟨_, cap, rfl, h3, by unfold maxLen; omega, fun _ => ⟨g, 0, rfl, h2, h5⟩⟩
theorem ByV.nil (w : World) : ByV w [] (.slice none 0 0) := ⟨none, 0, rfl, Nat.le_refl _, Nat.zero_le _, fun h => absurd h (Nat.lt_irrefl 0)⟩
theorem encode_any (n : Nat) (t : Tr) (sv : Value) (w : World) (hV : Vs w n t sv) (hx : fit 30 t = true → (enc n t).length ≤ 500000000) :
    Calls Tryz.prog 28 #[vv t sv] w fun e w' => Below w.heap.size w w' ∧ EncQ n w' t e := by
  unfold EncQ encV
  cases hf : fit 30 t with
  | true =>
    refine (Encode_yes n t sv w hV hf (by have := hx hf; omega)).mono ?_
    rintro e w' ⟨hb, v, rfl, ho⟩
    exact ⟨hb, v, rfl, own_byv ho (enc_long n t hV.ok)⟩
  | false =>
    refine (Encode_no n t sv w hV hf).mono ?_
    rintro e w' ⟨hb, rfl⟩
    exact ⟨hb, _, rfl, ByV.nil _⟩
theorem rencode_any (n : Nat) (t : Tr) (sv : Value) (w : World) (hV : Vs w n t sv) (hx : fit 30 t = true → (enc n t).length ≤ 500000000) :
    Calls Tryz.prog 29 #[vv t sv] w fun e w' => Below w.heap.size w w' ∧ EncQ n w' t e := by
  unfold EncQ encV
  cases hf : fit 30 t with
  | true =>
    refine (REncode_yes n t sv w hV hf (by have := hx hf; omega)).mono ?_
    rintro e w' ⟨hb, v, rfl, ho⟩
    exact ⟨hb, v, rfl, own_byv ho (enc_long n t hV.ok)⟩
  | false =>
    refine (REncode_no n t sv w hV hf).mono ?_
    rintro e w' ⟨hb, rfl⟩
    exact ⟨hb, _, rfl, ByV.nil _⟩
theorem conv_byv {w : World} {l : List UInt8} {v : Value} (h : ByV w l v) : (convert 50 9 v).run Tryz.prog w = .ok (.string (bs l)) w := by
  obtain ⟨p, cap, rfl, h2, h3, h4⟩ := h
  by_cases h0 : l.length = 0
  · obtain rfl := List.eq_nil_of_length_eq_zero h0
    cases p with
    | none => exact run_convert_bytes_nil (w := w) 50 5 Tryz.underlying50 Tryz.underlying5 0 cap _ Tryz.underlying9
    | some a => exact run_convert_bytes_back w 50 9 5 a cap [] Tryz.underlying50 Tryz.underlying5 Tryz.underlying9 (fun j hj => by cases hj)
  · obtain ⟨b, o, rfl, -, hy⟩ := h4 (by omega)
    refine run_convert_bytes_back w 50 9 5 ⟨b, o, none⟩ cap l Tryz.underlying50 Tryz.underlying5 Tryz.underlying9 ?_
    intro j hj
    rw [show (⟨b, o, none⟩ : Addr).add j = ⟨b, o + j, none⟩ from Addr.add_lit ..]
    exact hy j hj
set_option maxHeartbeats 1000000 in
theorem eqBytes_v {w : World} {l l' : List UInt8} {v v' : Value} (h : ByV w l v) (h' : ByV w l' v') :
    Calls Tryz.prog 30 #[v, v'] w fun e w' => Below w.heap.size w w' ∧ e = .returned (.bool (l == l')) := by
  have H1 := conv_byv h
  have H2 := conv_byv h'
  clear h h'
  go_enter Tryz.func30, Tryz.ntmps30
  go_wp2
  go_ret
  exact ⟨Below.refl _ _, by simp [bs_eq]⟩
end Go.Proofs.YtciibcfmlhbnkaaGreatDoor
