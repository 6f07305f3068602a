/- Slices of lexemes; wakes. -/
import Derived.Test.YtlheiiapolhpeaaLKey
import Derived.Test.YtlheiiapolhpeaaLQte
namespace Go.Proofs.Ytlheiiapolhpeaa
open Go.RowKit

theorem celL_at : ∀ (xs : List Lx) (k : Nat) (hk : k < xs.length) (j : Nat), j < 4 → (xs.flatMap celL)[k * 4 + j]? = (celL xs[k])[j]?
  | [], _, hk, _, _ => by simp at hk
  | x :: xs, 0, _, j, hj => by
    rw [List.flatMap_cons, List.getElem?_append_left (by simp [celL]; omega)]
    simp
  | x :: xs, k + 1, hk, j, hj => by
    rw [List.flatMap_cons, List.getElem?_append_right (by simp [celL]; omega)]
    have h := celL_at xs k (by simpa using hk) j hj
    rw [show (k + 1) * 4 + j - (celL x).length = k * 4 + j from by simp [celL]; omega, h]
    rfl

/-- The lexemes xs lie in the block g. -/
def LsAt (w : World) (g : Nat) (xs : List Lx) : Prop := ∀ k (hk : k < xs.length),
  w.cell? ⟨g, k * 4, none⟩ = some (.int .i64 xs[k].k) ∧ w.cell? ⟨g, k * 4 + 1, none⟩ = some (.string xs[k].t) ∧ w.cell? ⟨g, k * 4 + 2, none⟩ = some (.int .i64 (xs[k].a : Int)) ∧ w.cell? ⟨g, k * 4 + 3, none⟩ = some (.int .i64 (xs[k].e : Int))
def Ls (w : World) (base : Nat) (xs : List Lx) (v : Value) : Prop := ∃ p cap, v = .slice p xs.length cap ∧ (0 < xs.length → ∃ g, p = some ⟨g, 0, none⟩ ∧ base ≤ g ∧ g < w.heap.size ∧ LsAt w g xs)
theorem LsAt.below {w w' : World} {n g : Nat} {xs : List Lx} (h : LsAt w g xs) (hw : Below n w w') (hg : g < n) : LsAt w' g xs := fun k hk => by
  obtain ⟨a, b, c, d⟩ := h k hk
  exact ⟨(hw.cell (p := ⟨g, k * 4, none⟩) hg).trans a, (hw.cell (p := ⟨g, k * 4 + 1, none⟩) hg).trans b, (hw.cell (p := ⟨g, k * 4 + 2, none⟩) hg).trans c, (hw.cell (p := ⟨g, k * 4 + 3, none⟩) hg).trans d⟩
theorem Ls.below {w w' : World} {base : Nat} {xs : List Lx} {v : Value} (h : Ls w base xs v) (hw : Below w.heap.size w w') : Ls w' base xs v := by
  obtain ⟨p, cap, h1, h2⟩ := h
  refine ⟨p, cap, h1, fun h0 => ?_⟩
  obtain ⟨g, e, h3, h4, h5⟩ := h2 h0
  exact ⟨g, e, h3, Nat.lt_of_lt_of_le h4 hw.size, h5.below hw h4⟩
theorem Ls.of {w : World} {base : Nat} {xs : List Lx} {v : Value} (h : w.ownsRow base 31 4 v xs.length (xs.flatMap celL)) : Ls w base xs v := by
  obtain ⟨-, ⟨rfl, h0⟩ | ⟨g, cap, cur, rfl, h2, h3, h4, h5, h6, h7⟩⟩ := h
  · exact ⟨none, 0, by rw [h0], fun h => by omega⟩
  · refine ⟨_, cap, rfl, fun _ => ⟨g, rfl, h2, (Array.getElem?_eq_some_iff.1 h3).1, fun k hk => ?_⟩⟩
    have key : ∀ j, j < 4 → w.cell? ⟨g, k * 4 + j, none⟩ = (celL xs[k])[j]? := fun j hj => by
      unfold World.cell?
      simp only [h3]
      rw [← celL_at xs k hk j hj, ← h7, List.getElem?_take_of_lt (by omega), Array.getElem?_toList]
      simp
    exact ⟨key 0 (by omega), key 1 (by omega), key 2 (by omega), key 3 (by omega)⟩

theorem lex_ls {s : ByteArray} (h : s.size ≤ 65536) (hF : lexF s = none) (w : World) : Calls Try.prog 8 #[.string s] w fun e W' => ∃ v, e = .returned (.tuple #[v, .int .i64 0, .int .i64 0]) ∧ Hid (Ls W' w.heap.size (lexT s) v) ∧ Hid (Below w.heap.size w W') :=
  (lex_ok h hF w).mono fun _ _ ⟨v, h1, h2, h3⟩ => ⟨v, h1, Ls.of h2, h3⟩

def wkS : ByteArray := ⟨#[36, 120, 32, 58, 32, 80, 40, 97, 32, 62, 61, 32, 49, 41, 32, 47, 47, 32, 101, 110, 100]⟩
theorem wk_f : lexF wkS = none := by kernel_rfl
theorem wk_t : lexT wkS = [⟨1, ⟨#[120]⟩, 0, 2⟩, ⟨4, ⟨#[58]⟩, 3, 4⟩, ⟨0, ⟨#[80]⟩, 5, 6⟩, ⟨4, ⟨#[40]⟩, 6, 7⟩, ⟨0, ⟨#[97]⟩, 7, 8⟩, ⟨4, ⟨#[62, 61]⟩, 9, 11⟩, ⟨2, ⟨#[49]⟩, 12, 13⟩, ⟨4, ⟨#[41]⟩, 13, 14⟩] := by kernel_rfl
theorem wk_k : keyB ⟨#[114, 117, 108, 101]⟩ = true := by kernel_rfl
theorem wk_q : quoteS ⟨#[97, 10]⟩ = ⟨#[34, 97, 92, 110, 34]⟩ := by kernel_rfl

set_option maxRecDepth 100000 in
set_option maxHeartbeats 2000000 in
theorem wakes_any (w : World) : Calls Try.prog 14 #[] w fun e w' => e = .returned (.bool true) ∧ Below w.heap.size w w' := by
  have HL := fun w => Hid.intro (lex_ls (s := wkS) (by decide) wk_f w)
  rw [wk_t] at HL
  unfold wkS at HL
  have HK := fun w => Hid.intro (key_any ⟨#[114, 117, 108, 101]⟩ w)
  rw [wk_k] at HK
  have HQ := fun w => Hid.intro (quote_any ⟨#[97, 10]⟩ (by decide) w)
  rw [wk_q] at HQ
  go_enter Try.func14, Try.ntmps14
  go_wp2_with (first | (go_at_call 8; refine (HL _).out.mono ?_; rintro e w1 ⟨v, rfl, HV, HB⟩; obtain ⟨p, cap, rfl, hp⟩ := HV.out; obtain ⟨g, rfl, -, hg2, hcl⟩ := hp (by decide); have c0 := (hcl 0 (by decide)).1; have c5 := (hcl 5 (by decide)).2.1; simp only [List.getElem_cons_zero, List.getElem_cons_succ] at c0 c5) | (go_at_call 10; refine (HK _).out.mono ?_; rintro e w1 ⟨rfl, hw1⟩; subst w1) | (go_at_call 12; refine (HQ _).out.mono ?_; rintro e w1 ⟨rfl, hw1⟩))
  go_ret
  exact ⟨rfl, hw1.via HB.out⟩
end Go.Proofs.Ytlheiiapolhpeaa
