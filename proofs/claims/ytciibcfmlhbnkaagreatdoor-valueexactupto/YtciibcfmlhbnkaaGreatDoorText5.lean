/- value.Text of the number 5. -/
import Derived.Test.YtciibcfmlhbnkaaGreatDoorEnc2
import Derived.Lib.AppendStr
namespace Go.Proofs.YtciibcfmlhbnkaaGreatDoor
open Go.RowKit Go.Lib

set_option maxHeartbeats 1000000 in
theorem small_5 (w : World) : Calls Tryz.prog 137 #[.int .i64 5] w fun e w' => e = .returned (.string ⟨#[53]⟩) ∧ w' = w := by
  go_enter Tryz.func137, Tryz.ntmps137
  go_wp2
  go_ret
  exact ⟨rfl, rfl⟩

set_option maxHeartbeats 1000000 in
theorem appendUint_5 (w : World) : Calls Tryz.prog 131 #[.slice none 0 0, .int .u64 5, .int .i64 10] w fun e w' => ∃ v', e = .returned v' ∧ w'.ownsRow w.heap.size 5 1 v' 1 (bv [53]) ∧ Below w.heap.size w w' := by
  have HI := Hid.intro info5
  go_enter Tryz.func131, Tryz.ntmps131
  go_wp2_with (first | (go_at_call 137; refine (small_5 _).mono ?_; rintro e w1 ⟨rfl, rfl⟩) | (at_builtin; refine wpList_append_own_string _ rfl _ _ 50 9 rfl _ 5 HI.out.choose Tryz.underlying50 Tryz.underlying9 HI.out.choose_spec.1 HI.out.choose_spec.2.1 HI.out.choose_spec.2.2.1 HI.out.choose_spec.2.2.2 _ _ _ rfl (World.ownsRow_nil _ _ _ _) ⟨#[53]⟩ rfl ?c1 ?c2 (Nat.le_refl _) ?_))
  case c1 => decide
  case c2 => decide
  intro v' w' ho hg _
  go_wp2
  go_ret
  exact ⟨v', rfl, ho, hg.os, hg.tape, hg.output, hg.size, fun k hk => hg.block k hk (by simp [Value.ownBlock])⟩

set_option maxHeartbeats 1000000 in
theorem appendInt_5 (w : World) : Calls Tryz.prog 72 #[.slice none 0 0, .int .i64 5, .int .i64 10] w fun e w' => ∃ v', e = .returned v' ∧ w'.ownsRow w.heap.size 5 1 v' 1 (bv [53]) ∧ Below w.heap.size w w' := by
  go_enter Tryz.func72, Tryz.ntmps72
  go_wp2_with (first | (go_at_call 131; refine (appendUint_5 _).mono ?_; rintro e w1 ⟨v', rfl, ho, hb⟩) | go_in)
  go_ret
  exact ⟨v', rfl, ho, hb⟩

set_option maxHeartbeats 1000000 in
theorem write_5 (w : World) : Calls Tryz.prog 35 #[.slice none 0 0, .agg #[.int .i64 2, .bool false, .int .i64 5, .string ⟨#[]⟩, .slice none 0 0]] w fun e w' => ∃ v', e = .returned v' ∧ w'.ownsRow w.heap.size 5 1 v' 1 (bv [53]) ∧ Below w.heap.size w w' := by
  go_enter Tryz.func35, Tryz.ntmps35
  go_wp2_with ((go_at_call 72; refine (appendInt_5 _).mono ?_; rintro e w1 ⟨v', rfl, ho, hb⟩))
  go_ret
  refine ⟨v', rfl, ?_, hb.via ((Below.refl _ _).alloc (Nat.le_refl _) _)⟩
  obtain ⟨h1, h2⟩ := ho
  refine ⟨h1, h2.elim Or.inl ?_⟩
  rintro ⟨g, cap, cur, e1, e2, e3⟩
  exact Or.inr ⟨g, cap, cur, e1, Nat.le_trans (by simp) e2, e3⟩

theorem und_bytes : Tryz.prog.underlying 50 = some (.slice 5) := Tryz.underlying50

/-- The bytes of a row, as a text. -/
def strOf (l : List Int) : ByteArray := l.foldl (fun r n => r.push (UInt8.ofNat n.toNat)) ByteArray.empty

theorem run_text (w : World) (B : Nat) (v : Value) (xs : List Int) (hx : xs ≠ []) (h : w.ownsRow B 5 1 v xs.length (bv xs)) :
    (convert 50 9 v).run Tryz.prog w = .ok (.string (strOf xs)) w := by
  have hp : ∃ g cap, v = .slice (some ⟨g, 0, none⟩) xs.length cap := by
    rcases h.2 with ⟨_, h0⟩ | ⟨g, cap, cur, e, _⟩
    · exact absurd (List.length_eq_zero_iff.1 h0) hx
    · exact ⟨g, cap, e⟩
  obtain ⟨g, cap, rfl⟩ := hp
  have hc := h.cells (g := g) rfl
  rw [run_convert_bytes_string w _ _ _ _ _ _ und_bytes Tryz.underlying5 Tryz.underlying9, run_bytesToString w _ _ _ xs]
  · rfl
  · have := run_loadCells_list (P := Tryz.prog) (w := w) ⟨g, 0, none⟩ (bv xs) hc
    simpa [bv] using this

set_option maxHeartbeats 1000000 in
theorem text_5 (w : World) : Calls Tryz.prog 13 #[.agg #[.int .i64 2, .bool false, .int .i64 5, .string ⟨#[]⟩, .slice none 0 0]] w fun e w' => e = .returned (.string ⟨#[53]⟩) ∧ Below w.heap.size w w' := by
  have HC := Hid.intro (fun w' => check_any 1 ⟨2, false, 5, ⟨#[]⟩, []⟩ (.slice none 0 0) w' (Vs_num 0 5 w' (by decide) (by decide)))
  have hfit : fit 30 ⟨2, false, 5, ⟨#[]⟩, []⟩ = true := by rw [fit_flat _ _ (by simp)]; simp [flat]
  rw [hfit] at HC
  clear hfit
  unfold vv at HC
  go_enter Tryz.func13, Tryz.ntmps13
  go_wp2_with fail
  refine (HC.out _).mono ?_
  rintro e w1 ⟨rfl, hb1⟩
  obtain ⟨hc, hf⟩ := bcell hb1 (N := w.heap.size + 1) (by simp)
  have HB := Hid.intro (hb1.via ((Below.refl _ _).alloc (Nat.le_refl _) _))
  clear hb1
  go_wp2_with fail
  refine (write_5 _).mono ?_
  rintro e w2 ⟨v2, rfl, ho, hb2⟩
  have hcv := run_text w2 _ v2 [53] (by simp) ho
  have hs : strOf [53] = ⟨#[53]⟩ := by decide +kernel
  rw [hs] at hcv
  clear ho
  have HB2 := Hid.intro (hb2.via HB.out)
  clear hb2
  go_wp2
  go_ret
  exact ⟨rfl, HB2.out⟩
end Go.Proofs.YtciibcfmlhbnkaaGreatDoor
