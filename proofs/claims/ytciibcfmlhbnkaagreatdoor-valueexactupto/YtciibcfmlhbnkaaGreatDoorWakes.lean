/- proctorlaw1.wakes: it tells true. -/
import Derived.Test.YtciibcfmlhbnkaaGreatDoorText5
import Derived.Test.YtciibcfmlhbnkaaGreatDoorApply
namespace Go.Proofs.YtciibcfmlhbnkaaGreatDoor
open Go.RowKit

set_option maxHeartbeats 400000 in
theorem num_any (x : Int) (w : World) :
    Calls Tryz.prog 25 #[.int .i64 x] w fun e w' => e = .returned (.agg #[.int .i64 2, .bool false, .int .i64 x, .string ⟨#[]⟩, .slice none 0 0]) ∧ ∃ c, w' = w.alloc (.cells c 28) := by
  go_enter Tryz.func25, Tryz.ntmps25
  go_wp2
  refine bodyPost_ret (v := .agg #[.int .i64 2, .bool false, .int .i64 x, .string ⟨#[]⟩, .slice none 0 0]) (by simp [results, Tryz.results25, go_sem]) rfl ⟨rfl, _, rfl⟩

theorem apply_23 (w : World) (g : Nat)
    (c1 : Cel w g 0 ⟨2, false, 2, ⟨#[]⟩, []⟩ (.slice none 0 0)) (c2 : Cel w g 5 ⟨2, false, 3, ⟨#[]⟩, []⟩ (.slice none 0 0)) :
    Calls Tryz.prog 21 #[.int .i64 16, .slice (some ⟨g, 0, none⟩) 2 2] w fun e w' => e = .returned (.tuple #[.agg #[.int .i64 2, .bool false, .int .i64 5, .string ⟨#[]⟩, .slice none 0 0], .int .i64 0]) ∧ Below w.heap.size w w' := by
  have hfit : ∀ x, fit 30 ⟨2, false, x, ⟨#[]⟩, []⟩ = true := fun x => by rw [fit_flat _ _ (by simp)]; simp [flat]
  refine apply_add 1 ⟨2, false, 2, ⟨#[]⟩, []⟩ ⟨2, false, 3, ⟨#[]⟩, []⟩ _ w ⟨some ⟨g, 0, none⟩, 2, rfl, Nat.le_refl _, by decide, fun _ => ⟨g, 0, rfl, ?_⟩⟩ (hfit 2) (hfit 3) 2 false 5 ⟨#[]⟩ none 0 0 0 ?_
  · intro j hj
    match j, hj with
    | 0, _ => exact ⟨_, by simpa using c1, Vs_num 0 2 w (by decide) (by decide)⟩
    | 1, _ => exact ⟨_, by simpa using c2, Vs_num 0 3 w (by decide) (by decide)⟩
  · intro s1 s2 w' v1 v2 hb
    obtain ⟨a1, n1, rfl, -, -⟩ := v1.form
    obtain ⟨a2, n2, rfl, -, -⟩ := v2.form
    exact add_int 2 3 (by decide) (by decide) (by decide) (by decide) (by decide) (by decide) _ _ _ _ _ _ _ _ _ _ w'

set_option maxRecDepth 20000 in
set_option maxHeartbeats 1000000 in
theorem wakes_any (w : World) : Calls Tryz.prog 9 #[] w fun e w' => e = .returned (.bool true) ∧ Below w.heap.size w w' := by
  go_enter Tryz.func9, Tryz.ntmps9
  go_wp2_with ((go_at_call 25; refine (num_any _ _).mono ?_; rintro e w1 ⟨rfl, ⟨cw, rfl⟩⟩))
  refine (apply_23 _ (w.heap.size + 1 + 1) (by simp [Cel, go_sem]) (by simp [Cel, go_sem])).mono ?_
  rintro e w1 ⟨rfl, hb1⟩
  have HB1 := Hid.intro (hb1.via (below_al (below2 _ _ _) _))
  clear hb1
  go_wp2_with ((go_at_call 25; refine (num_any _ _).mono ?_; rintro e w1 ⟨rfl, ⟨cw, rfl⟩⟩))
  refine (Encode_int (-1) _ (by decide) (by decide)).mono ?_
  rintro e w2 ⟨v2, rfl, ho, hb2⟩
  obtain ⟨g2, cap2, hv2⟩ : ∃ g cap, v2 = .slice (some ⟨g, 0, none⟩) 9 cap := by
    rcases ho.2 with ⟨_, h0⟩ | ⟨g, cap, cur, e, _⟩
    · exact absurd h0 (by decide)
    · exact ⟨g, cap, e⟩
  rw [hv2]
  clear ho hv2
  have gc := fun o => hb2.cell (p := ⟨w1.heap.size, o, none⟩) (by simp; omega)
  have hs2 := hb2.size
  simp at hs2
  have HB2 := Hid.intro (hb2.via ((below2 _ _ _).via HB1.out))
  clear hb2
  have hlt2 : w1.heap.size < w2.heap.size := by omega
  have hfit : ∀ x, fit 30 ⟨2, false, x, ⟨#[]⟩, []⟩ = true := fun x => by rw [fit_flat _ _ (by simp)]; simp [flat]
  have HC := Hid.intro (check_any 1 ⟨2, false, 5, ⟨#[]⟩, []⟩ (.slice none 0 0) w2 (Vs_num 0 5 w2 (by decide) (by decide)))
  rw [hfit] at HC
  unfold vv at HC
  clear hfit
  go_wp2_with fail
  refine HC.out.mono ?_
  rintro e w3 ⟨rfl, hb3⟩
  have gc3 := fun o => hb3.cell (p := ⟨w1.heap.size, o, none⟩) hlt2
  have HB3 := Hid.intro (hb3.via HB2.out)
  have hlt3 : w1.heap.size < w3.heap.size := Nat.lt_of_lt_of_le hlt2 hb3.size
  clear hb3 HC
  go_wp2_with ((go_at_call 25; refine (num_any _ _).mono ?_; rintro e w1 ⟨rfl, ⟨cw, rfl⟩⟩))
  refine (order_any 1 ⟨2, false, 1, ⟨#[]⟩, []⟩ ⟨2, false, 2, ⟨#[]⟩, []⟩ (.slice none 0 0) (.slice none 0 0) _ (Vs_num 0 1 _ (by decide) (by decide)) (Vs_num 0 2 _ (by decide) (by decide))).mono ?_
  rintro e w4 ⟨rfl, hb4⟩
  have ho : ord 1 ⟨2, false, 1, ⟨#[]⟩, []⟩ ⟨2, false, 2, ⟨#[]⟩, []⟩ = -1 := by simp [ord, cmpI]
  rw [ho]
  clear ho
  have gc4 := fun o => hb4.cell (p := ⟨w1.heap.size, o, none⟩) (by simp; omega)
  have HB4 := Hid.intro (hb4.via ((below2 _ _ _).via HB3.out))
  clear hb4
  go_wp2_with fail
  refine (text_5 _).mono ?_
  rintro e w5 ⟨rfl, hb5⟩
  have HB5 := Hid.intro (hb5.via HB4.out)
  clear hb5
  go_wp2
  go_ret
  exact ⟨rfl, HB5.out⟩
end Go.Proofs.YtciibcfmlhbnkaaGreatDoor
