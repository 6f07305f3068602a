/- proctorref1's reader: take. -/
import Derived.Test.YtciibcfmlhbnkaaGreatDoorVDec1
namespace Go.Proofs.YtciibcfmlhbnkaaGreatDoor
open Go.RowKit

set_option maxHeartbeats 1000000 in
theorem rtake_bad {w : World} {R : Nat} (h : Bd w R) (n : Int) : Calls Tryz.prog 120 #[.pointer (some ⟨R, 0, none⟩), .int .i64 n] w fun e w' => e = .returned (.slice none 0 0) ∧ Bd w' R ∧ Tu R w w' := by
  have H := Hid.intro h
  obtain ⟨⟨p, m, c, h0⟩, h1, f0, f1, hlt⟩ := h
  go_enter Tryz.func120, Tryz.ntmps120
  go_wp2
  go_ret
  exact ⟨rfl, H.out.bad, Tu.set _ _ _ _⟩
set_option maxHeartbeats 1000000 in
theorem rtake_no {w : World} {R G off cap : Nat} {l : List UInt8} (h : Rd w R G off cap l) (n : Int) (hn : (l.length : Int) < n) : Calls Tryz.prog 120 #[.pointer (some ⟨R, 0, none⟩), .int .i64 n] w fun e w' => e = .returned (.slice none 0 0) ∧ Bd w' R ∧ Tu R w w' := by
  have H := Hid.intro h
  obtain ⟨h0, h1, f0, f1, hle, hm, hlt, hG, hne, -⟩ := h
  go_enter Tryz.func120, Tryz.ntmps120
  go_wp2
  go_ret
  exact ⟨rfl, H.out.bad, Tu.set _ _ _ _⟩
set_option maxHeartbeats 1000000 in
theorem rtake_yes {w : World} {R G off cap : Nat} {l : List UInt8} (h : Rd w R G off cap l) (n : Nat) (hn : n ≤ l.length) : Calls Tryz.prog 120 #[.pointer (some ⟨R, 0, none⟩), .int .i64 (n : Int)] w fun e w' =>
    e = .returned (.slice (some ⟨G, off, none⟩) n cap) ∧ (∃ off', Rd w' R G off' (cap - n) (l.drop n)) ∧ Tu R w w' := by
  have H := Hid.intro (h.step n hn)
  obtain ⟨h0, h1, f0, f1, hle, hm, hlt, hG, hne, -⟩ := h
  have hn' : (n : Int) ≤ (l.length : Int) := by omega
  have hc1 : n ≤ cap := by omega
  have hc2 : l.length ≤ cap := hle
  have i0 : (0 : Int) ≤ (n : Int) := by omega
  have i1 : (n : Int) ≤ (cap : Int) := by omega
  by_cases hcn : cap = n
  · have hln : n = l.length := by omega
    subst hcn
    subst hln
    have H1 := Hid.intro (H.out off (.inl rfl))
    rw [Nat.sub_self] at H1 ⊢
    clear H
    go_enter Tryz.func120, Tryz.ntmps120
    go_wp2
    go_ret
    exact ⟨rfl, ⟨_, H1.out⟩, Tu.set _ _ _ _⟩
  · have hz : ¬ cap - n = 0 := by omega
    have H1 := Hid.intro (H.out (off + n) (.inr rfl))
    clear H
    go_enter Tryz.func120, Tryz.ntmps120
    go_wp2
    go_ret
    exact ⟨rfl, ⟨_, H1.out⟩, Tu.set _ _ _ _⟩
end Go.Proofs.YtciibcfmlhbnkaaGreatDoor
