/- value.encode of a number, value.Encode of it. -/
import Derived.Test.YtciibcfmlhbnkaaGreatDoorEnc
namespace Go.Proofs.YtciibcfmlhbnkaaGreatDoor
open Go.RowKit

/-- A block that was there, other than the row's own, is as it was. -/
theorem grown_cell {w w1 : World} {v : Value} {g : Nat} (h : w.grownBy w1 v.ownBlock) (hg : g < w.heap.size) (hne : some g ≠ v.ownBlock) : (∀ o, w1.cell? ⟨g, o, none⟩ = w.cell? ⟨g, o, none⟩) ∧ (∀ o, w1.frozen? ⟨g, o, none⟩ = w.frozen? ⟨g, o, none⟩) :=
  ⟨fun o => World.cell?_of_block (a := ⟨g, o, none⟩) (h.block g hg hne), fun o => World.frozen?_of_block (a := ⟨g, o, none⟩) (h.block g hg hne)⟩

theorem Vs_num (n : Nat) (x : Int) (w : World) (hx1 : -9223372036854775808 ≤ x) (hx2 : x ≤ 9223372036854775807) : Vs w (n + 1) ⟨2, false, x, ⟨#[]⟩, []⟩ (.slice none 0 0) := by
  refine ⟨⟨?_, ?_, hx1, hx2, ?_⟩, none, 0, rfl, ?_, ?_, ?_⟩
  · show (-9223372036854775808 : Int) ≤ 2; decide
  · show (2 : Int) ≤ 9223372036854775807; decide
  · show (0 : Nat) ≤ maxLen; exact Nat.zero_le _
  · exact Nat.le_refl _
  · exact Nat.zero_le _
  · intro h; exact absurd h (Nat.lt_irrefl 0)

set_option maxRecDepth 20000 in
set_option maxHeartbeats 1000000 in
theorem encode_int (B : Nat) (v : Value) (xs : List Int) (x : Int) (w : World) (hB : B ≤ w.heap.size) (hx : xs.length ≤ 70368744177000)
    (hown : w.ownsRow B 5 1 v xs.length (bv xs)) :
    Calls Tryz.prog 67 #[v, .agg #[.int .i64 2, .bool false, .int .i64 x, .string ⟨#[]⟩, .slice none 0 0]] w fun e w' => ∃ v', e = .returned v' ∧ w'.ownsRow B 5 1 v' (xs.length + 9) (bv (xs ++ [2] ++ wordB (IntKind.u64.wrap x) 8)) ∧ Ap w w' v v' := by
  have HI := Hid.intro info5
  have HX := Hid.intro hx
  have HB := Hid.intro hB
  clear hx hB
  have HO := Hid.intro hown
  have hne : some w.heap.size ≠ v.ownBlock := by
    intro e
    have := hown.lt _ e.symm
    omega
  have HN := Hid.intro hne
  clear hown hne
  go_enter Tryz.func67, Tryz.ntmps67
  go_wp2_with (at_builtin; refine wpList_append_own_at _ rfl _ _ 50 rfl B 5 HI.out.choose (.int .u8 0) 1 1 Tryz.underlying50 HI.out.choose_spec.1 HI.out.choose_spec.2.1 HI.out.choose_spec.2.2.1 HI.out.choose_spec.2.2.2 rfl (by decide) _ _ _ rfl ((HO.out.alloc _).alloc _) ⟨w.heap.size + 1, 0, none⟩ 1 1 [.int .u8 2] rfl rfl ?c1 ?c2 ?c3 ?c4 ?c5 ?_)
  case c1 => intro j u hj; match j, hj with | 0, hj => simp at hj; subst hj; simp [Addr.add]
  case c2 => intro u hu; simp at hu; subst hu; rfl
  case c3 => have := HX.out; unfold maxLen; omega
  case c4 => have := HX.out; omega
  case c5 => have := HB.out; simp; omega
  · intro v1 w1 hown' hgrow _ hat
    obtain ⟨gc, gf⟩ := grown_cell (g := w.heap.size) hgrow (by simp; omega) HN.out
    have hap : Hid (Ap w w1 v v1) := ((Ap.alloc w _ v).trans (Ap.alloc _ _ v)).trans ⟨hgrow, hat.elim Or.inl (fun e => Or.inr ⟨_, e, by simp⟩)⟩
    have HW := Hid.intro (encodeWord_any B v1 (xs ++ [2]) (IntKind.u64.wrap x) 8 w1 (Nat.le_trans HB.out hap.out.1.size) (by omega) (by have := HX.out; simp; omega) (by simpa [bv] using hown'))
    clear hown' hgrow hat HO HN
    go_wp2_with fail
    refine HW.out.mono ?_
    rintro e w2 ⟨v2, rfl, ho2, ha2⟩
    go_wp2
    go_ret
    refine ⟨v2, rfl, ?_, hap.out.trans ha2⟩
    simpa using ho2

set_option maxHeartbeats 1000000 in
theorem Encode_int (x : Int) (w : World) (hx1 : -9223372036854775808 ≤ x) (hx2 : x ≤ 9223372036854775807) :
    Calls Tryz.prog 28 #[.agg #[.int .i64 2, .bool false, .int .i64 x, .string ⟨#[]⟩, .slice none 0 0]] w fun e w' => ∃ v', e = .returned (.tuple #[v', .int .i64 0]) ∧ w'.ownsRow w.heap.size 5 1 v' 9 (bv ([2] ++ wordB (IntKind.u64.wrap x) 8)) ∧ Below w.heap.size w w' := by
  have HC := Hid.intro (fun w' => check_any 1 ⟨2, false, x, ⟨#[]⟩, []⟩ (.slice none 0 0) w' (Vs_num 0 x w' hx1 hx2))
  have hfit : fit 30 ⟨2, false, x, ⟨#[]⟩, []⟩ = true := by rw [fit_flat _ _ (by simp)]; simp [flat]
  rw [hfit] at HC
  clear hfit hx1 hx2
  unfold vv at HC
  go_enter Tryz.func28, Tryz.ntmps28
  go_wp2_with fail
  refine (HC.out _).mono ?_
  rintro e w1 ⟨rfl, hb1⟩
  obtain ⟨hc, hf⟩ := bcell hb1 (N := w.heap.size + 1) (by simp)
  have hsz := hb1.size
  have HB := Hid.intro (hb1.via ((Below.refl _ _).alloc (Nat.le_refl _) _))
  clear hb1
  have HE := Hid.intro (encode_int w.heap.size (.slice none 0 0) [] x w1 HB.out.size (by simp) (World.ownsRow_nil _ _ _ _))
  go_wp2_with fail
  refine HE.out.mono ?_
  rintro e w2 ⟨v2, rfl, ho2, ha2⟩
  go_wp2
  go_ret2
  refine ⟨v2, rfl, by simpa using ho2, HB.out.trans (ha2.toBelow HB.out.size (fun g e => by simp [Value.ownBlock] at e))⟩
end Go.Proofs.YtciibcfmlhbnkaaGreatDoor
