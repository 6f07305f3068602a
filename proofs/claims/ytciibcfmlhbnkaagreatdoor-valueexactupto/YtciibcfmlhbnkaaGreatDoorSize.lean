/- proctorkit.Size: it tells a number. -/
import Derived.Test.YtciibcfmlhbnkaaGreatDoorOrder
namespace Go.Proofs.YtciibcfmlhbnkaaGreatDoor
open Go.RowKit

def SizeAt (n : Nat) : Prop := ∀ (ts : List Tr) (d : Int) (sv : Value) (w : World), 0 ≤ d → d ≤ 101 → Lv w (Vs w n) ts sv →
    Calls Tryz.prog 46 #[sv, .int .i64 d] w fun e w' => (∃ z : Int, e = .returned (.int .i64 z)) ∧ Below w.heap.size w w'

set_option maxRecDepth 5000 in
set_option maxHeartbeats 1000000 in
theorem size_step (n : Nat) (ih : ∀ m, m + 1 = n → SizeAt m) : SizeAt n := by
  intro ts d sv w hd0 hd1 hl
  obtain ⟨a0, ca, rfl, la, ma, ea⟩ := hl
  unfold maxLen at ma
  have ea' := Hid.intro ea
  clear ea
  by_cases hd : 100 < d
  · go_enter Tryz.func46, Tryz.ntmps46
    go_wp2
    go_ret
    exact ⟨⟨_, rfl⟩, Below.refl _ _⟩
  go_enter Tryz.func46, Tryz.ntmps46
  go_wp2
  go_loopw [5, 6] (fun x i w' => ∃ (z : Int) (k : Nat), x = .int .i64 z ∧ k ≤ ts.length ∧ i = .int .i64 k ∧ Below w.heap.size w w') (fun _ i _ => ts.length - (intOf i).toNat)
  case atStart => exact ⟨0, 0, rfl, by omega, rfl, Below.refl _ _⟩
  case round =>
    obtain ⟨z, k, rfl, hk1, rfl, hbw⟩ := hrel
    by_cases hlt : k < ts.length
    · obtain ⟨b1, o1, rfl, e1⟩ := ea'.out (by omega)
      obtain ⟨s1, c1, v1⟩ := e1 k hlt
      clear e1 ea'
      have v1' := Vs.below hbw _ _ _ v1
      obtain ⟨p1, p2, p3, p4, p5⟩ := c1.below hbw
      have hl1 : b1 < wr.heap.size := cell_lt p1
      have ib : (0 : Int) ≤ (k : Int) := by omega
      have ix : (k : Int) < (ts.length : Int) := by omega
      generalize ts[k] = t at *
      cases n with
      | zero => exact v1'.elim
      | succ m =>
        have hwr : IntKind.i64.wrap (d + 1) = d + 1 := by simp [IntKind.wrap, IntKind.bits, IntKind.signed]; omega
        have HC := Hid.intro (fun w' hb => ih m rfl t.l (IntKind.i64.wrap (d + 1)) s1 w' (by rw [hwr]; omega) (by rw [hwr]; omega) (v1'.2.mono hb (fun t v => Vs.below hb m t v)))
        have hts : (t.s.size : Int) ≤ 9223372036854775807 := by have := v1'.1.2.2.2.2; unfold maxLen at this; omega
        clear v1 v1' c1 ih hwr
        go_wp2
        go_region_held3 (fun w' => w'.cell? ⟨b1, o1 + k * 5 + 3, none⟩ = some (.string t.s) ∧ w'.cell? ⟨b1, o1 + k * 5 + 4, none⟩ = some s1) (go_keep)
          ((go_at_call 46; refine (HC.out _ (Below.refl _ _).drew).mono ?_; rintro e w1 ⟨⟨z1, rfl⟩, hb1⟩; have g1 := fun o => hb1.cell (p := ⟨b1, o, none⟩) hl1))
        go_wp2
        go_roundw
        case rel => exact ⟨_, k + 1, rfl, by omega, by go_num, (hbw.trans (Below.refl _ _).drew).trans (hb1.mono hbw.size)⟩
        case measure => simp [intOf]; omega
    · go_wp2
      go_ret
      exact ⟨⟨_, rfl⟩, hbw⟩

theorem size_any : ∀ n, SizeAt n
  | 0 => size_step 0 (fun _ h => absurd h (Nat.succ_ne_zero _))
  | n + 1 => size_step (n + 1) (fun m h => by have : m = n := by omega
                                              subst this; exact size_any m)

set_option maxHeartbeats 400000 in
theorem Size_any (n : Nat) (ts : List Tr) (sv : Value) (w : World) (h : Lv w (Vs w n) ts sv) :
    Calls Tryz.prog 19 #[sv] w fun e w' => (∃ z : Int, e = .returned (.int .i64 z)) ∧ Below w.heap.size w w' := by
  have HC := Hid.intro (size_any n ts 0 sv w (by omega) (by omega) h)
  clear h
  go_enter Tryz.func19, Tryz.ntmps19
  go_wp2_with fail
  refine HC.out.mono ?_
  rintro e w1 ⟨⟨z1, rfl⟩, hb1⟩
  go_wp2
  go_ret
  exact ⟨⟨_, rfl⟩, hb1⟩

set_option maxHeartbeats 400000 in
theorem light_any (n : Nat) (ts : List Tr) (sv : Value) (w : World) (h : Lv w (Vs w n) ts sv) :
    Calls Tryz.prog 8 #[.agg #[sv]] w fun e w' => (∃ b : Bool, e = .returned (.bool b)) ∧ Below w.heap.size w w' := by
  have HC := Hid.intro (fun w' hb => Size_any n ts sv w' (h.mono hb (fun t v => Vs.below hb n t v)))
  clear h
  go_enter Tryz.func8, Tryz.ntmps8
  go_wp2_with fail
  refine (HC.out _ ((Below.refl _ _).alloc (Nat.le_refl _) _)).mono ?_
  rintro e w1 ⟨⟨z1, rfl⟩, hb1⟩
  go_wp2
  go_ret
  exact ⟨⟨_, rfl⟩, ((Below.refl _ _).alloc (Nat.le_refl _) _).trans (hb1.mono (by simp))⟩
end Go.Proofs.YtciibcfmlhbnkaaGreatDoor
