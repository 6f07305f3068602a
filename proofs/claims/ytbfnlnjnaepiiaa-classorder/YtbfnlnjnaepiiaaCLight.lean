/- light, whatever its sum. -/
import Derived.Test.YtbfnlnjnaepiiaaCRow
namespace Go.Proofs.Ytbfnlnjnaepiiaa
open Go.RowKit Go.Maps

theorem bulk_mem : ∀ {l : List Cl} {c : Cl}, c ∈ l → c.f.length ≤ bulk l
  | [], _, h => by simp at h
  | d :: l, c, h => by
    rw [bulk]
    rcases List.mem_cons.1 h with rfl | h
    · omega
    · have := bulk_mem h; omega

/-- It tells yes or no. -/
def SomeB (e : Ending) : Prop := ∃ b, e = .returned (.bool b)

set_option maxRecDepth 100000 in
set_option maxHeartbeats 4000000 in
/-- light, whatever its sum: it tells something. -/
theorem light_some {P : Nat → Prop} {w : World} (l : List Cl) (sa : Value) (ha : Cv P w l sa) :
    Calls Try.prog 8 #[sa] w fun e w' => SomeB e ∧ w' = w := by
  have HA := Hid.intro ha
  obtain ⟨a0, ca, rfl, a1, a2⟩ := ha.form
  go_enter Try.func8, Try.ntmps8
  go_wp2_with fail
  go_loopw [3, 4] (fun n i wr => wr = w ∧ ∃ (k : Nat) (z : Int), k ≤ l.length ∧ i = .int .i64 (k : Int) ∧ n = .int .i64 z) (fun _ i _ => l.length - (intOf i).toNat)
  case atStart => exact ⟨rfl, 0, 0, by omega, rfl, rfl⟩
  case round =>
    obtain ⟨hw, k, z, hk, rfl, rfl⟩ := hrel
    subst wr
    by_cases hlt : (k : Int) < (l.length : Int)
    · have hlt' : k < l.length := by omega
      obtain ⟨b, o, rfl, sv', ⟨d0, d1, d2⟩, hfv⟩ := HA.out.cell hlt'
      obtain ⟨xa, xc, rfl, y1, y2⟩ := hfv.form
      go_wp2
      go_roundw
      case rel => exact ⟨trivial, k + 1, _, by omega, by go_num, rfl⟩
      case measure => simp [intOf]; omega
    · go_wp2
      go_ret
      exact ⟨⟨_, rfl⟩, rfl⟩

set_option maxRecDepth 100000 in
set_option maxHeartbeats 4000000 in
/-- Too many classes: refused. -/
theorem new_big {P : Nat → Prop} {w : World} (l : List Cl) (sv : Value) (hl : Cv P w l sv) (h64 : 64 < l.length) :
    Calls Try.prog 11 #[sv] w fun e w' => Below w.heap.size w w' ∧ e = .returned (.tuple #[.pointer none, .int .i64 10]) := by
  obtain ⟨a0, cap, rfl, hc1, hc2⟩ := hl.form
  have h64' : (64 : Int) < (l.length : Int) := by omega
  go_enter Try.func11, Try.ntmps11
  go_wp2
  refine bodyPost_ret (v := .tuple #[.pointer none, .int .i64 10]) (by simp [results, Try.results11, go_sem]) rfl ⟨Below.refl _ _, rfl⟩

theorem bulk_bound (M : Nat) : ∀ (l : List Cl), (∀ c ∈ l, c.f.length ≤ M) → bulk l ≤ l.length * (M + 1)
  | [], _ => by simp [bulk]
  | c :: l, h => by
    have h1 := bulk_bound M l (fun d hd => h d (List.mem_cons_of_mem _ hd))
    have h2 := h c (by simp)
    rw [bulk, List.length_cons, Nat.add_mul]
    omega

end Go.Proofs.Ytbfnlnjnaepiiaa
