/- value.encode, value.Encode: what they tell of any value. -/
import Derived.Test.YtciibcfmlhbnkaaGreatDoorVEnc2
namespace Go.Proofs.YtciibcfmlhbnkaaGreatDoor
open Go.RowKit

theorem enc_at : ∀ n, EncAt n
  | 0 => fun _ _ _ _ _ _ _ _ h => h.elim
  | n + 1 => by
    intro r t sv w0 w v xs hf hV hb hx ho
    obtain ⟨a1, c1, rfl, -, -⟩ := hV.form
    have hk := fit_kind hf
    obtain ⟨k, b, i, s, l⟩ := t
    simp only at hk
    have hT : EncP w0 = EncP w0 := rfl
    unfold vv
    rcases hk with rfl | rfl | rfl | rfl | rfl | rfl
    · exact encode_0 b i s _ _ _ w0 w v xs hb (by simpa [enc] using hx) ho
    · exact encode_1 b i s _ _ _ w0 w v xs hb (by simpa [enc] using hx) ho
    · exact encode_2 b i s _ _ _ w0 w v xs hb (by simpa [enc, word_len] using hx) ho
    · have hs : s.size ≤ 65536 := by
        rw [fit_flat r _ (by simp)] at hf
        simp [flat] at hf
        omega
      have hz : s.data.toList.length = s.size := Array.length_toList
      refine encode_3 b i s _ _ _ hs w0 w v xs hb ?_ ho
      rw [enc] at hx
      simp only [show ¬ (3 : Int) = 1 from by decide, show ¬ ((3 : Int) = 2 ∨ (3 : Int) = 5) from by decide, if_false, if_true, List.length_cons, List.length_append, word_len, hz] at hx
      omega
    · obtain ⟨r', rfl, hlen, hfit, -⟩ := fit_list hf rfl
      refine encode_4 w0 n r' (enc_at n) b i s l _ hlen hfit hV.2 w v xs hb ?_ ho
      rw [enc] at hx
      simp only [show ¬ (4 : Int) = 1 from by decide, show ¬ ((4 : Int) = 2 ∨ (4 : Int) = 5) from by decide, show ¬ (4 : Int) = 3 from by decide, if_false, if_true, List.length_cons, List.length_append, word_len] at hx
      omega
    · exact encode_5 b i s _ _ _ w0 w v xs hb (by simpa [enc, word_len] using hx) ho

set_option maxHeartbeats 1000000 in
theorem Encode_yes (n : Nat) (t : Tr) (sv : Value) (w : World) (hV : Vs w n t sv) (hf : fit 30 t = true) (hx : (enc n t).length ≤ 1000000000) :
    Calls Tryz.prog 28 #[vv t sv] w fun e w' => Below w.heap.size w w' ∧ ∃ v', e = .returned (.tuple #[v', .int .i64 0]) ∧ w'.ownsRow w.heap.size 5 1 v' (enc n t).length (bv (ii (enc n t))) := by
  obtain ⟨a1, n1, rfl, -, -⟩ := hV.form
  have HC := Hid.intro (fun w' hb => check_any n t _ w' (Vs.below (w' := w') hb _ _ _ hV))
  have HE2 := Hid.intro (fun w' (hb : Below w.heap.size w w') => enc_at n 30 t _ w w' (.slice none 0 0) [] hf hV hb (by simpa using hx) (World.ownsRow_nil _ _ _ _))
  simp only [List.nil_append] at HE2
  rw [hf] at HC
  clear hV hx hf
  obtain ⟨k, b, i, s, l⟩ := t
  unfold vv at *
  go_enter Tryz.func28, Tryz.ntmps28
  go_wp2_with fail
  refine (HC.out _ ((Below.refl _ _).alloc (Nat.le_refl _) _)).mono ?_
  rintro e w1 ⟨rfl, hb1⟩
  obtain ⟨hc, hf⟩ := bcell hb1 (N := w.heap.size + 1) (by simp)
  have HB := Hid.intro (hb1.via ((Below.refl _ _).alloc (Nat.le_refl _) _))
  clear hb1
  go_wp2_with fail
  refine (HE2.out w1 HB.out).mono ?_
  rintro e w2 ⟨v2, rfl, ho2, hb2⟩
  go_wp2
  go_ret2
  exact ⟨hb2, v2, rfl, ho2⟩
set_option maxHeartbeats 1000000 in
theorem Encode_no (n : Nat) (t : Tr) (sv : Value) (w : World) (hV : Vs w n t sv) (hf : fit 30 t = false) :
    Calls Tryz.prog 28 #[vv t sv] w fun e w' => Below w.heap.size w w' ∧ e = .returned (.tuple #[.slice none 0 0, .int .i64 1]) := by
  obtain ⟨a1, n1, rfl, -, -⟩ := hV.form
  have HC := Hid.intro (fun w' hb => check_any n t _ w' (Vs.below (w' := w') hb _ _ _ hV))
  rw [hf] at HC
  clear hV hf
  obtain ⟨k, b, i, s, l⟩ := t
  unfold vv at *
  go_enter Tryz.func28, Tryz.ntmps28
  go_wp2_with fail
  refine (HC.out _ ((Below.refl _ _).alloc (Nat.le_refl _) _)).mono ?_
  rintro e w1 ⟨rfl, hb1⟩
  have HB := Hid.intro (hb1.via ((Below.refl _ _).alloc (Nat.le_refl _) _))
  clear hb1
  go_wp2
  go_ret2
  exact ⟨HB.out, rfl⟩
end Go.Proofs.YtciibcfmlhbnkaaGreatDoor
