/- cut, variable, mark: what they tell. -/
import Derived.Test.YtlheiiapolhpeaaLScan3
namespace Go.Proofs.Ytlheiiapolhpeaa
open Go.RowKit

/-- The four cells of a lexeme's block. -/
def F4 (w : World) (b : Nat) (x0 x1 x2 x3 : Value) : Prop :=
  (w.cell? ⟨b, 0, none⟩ = some x0 ∧ w.cell? ⟨b, 1, none⟩ = some x1 ∧ w.cell? ⟨b, 2, none⟩ = some x2 ∧ w.cell? ⟨b, 3, none⟩ = some x3) ∧
  (w.frozen? ⟨b, 0, none⟩ = false ∧ w.frozen? ⟨b, 1, none⟩ = false ∧ w.frozen? ⟨b, 2, none⟩ = false ∧ w.frozen? ⟨b, 3, none⟩ = false)
theorem F4.new (w : World) (x0 x1 x2 x3 : Value) (t : TypeId) : F4 (w.alloc (.cells #[x0, x1, x2, x3] t)) w.heap.size x0 x1 x2 x3 := by
  have h : (w.alloc (.cells #[x0, x1, x2, x3] t)).heap[w.heap.size]? = some (.cells #[x0, x1, x2, x3] t) := heap_alloc_new w _
  refine ⟨four_new w x0 x1 x2 x3 t, ?_, ?_, ?_, ?_⟩ <;> (unfold World.frozen?; rw [h]; rfl)
theorem F4.below {w w1 : World} {n b : Nat} {x0 x1 x2 x3 : Value} (h : F4 w b x0 x1 x2 x3) (hb : b < n) (hw : Below n w w1) : F4 w1 b x0 x1 x2 x3 := by
  obtain ⟨⟨a0, a1, a2, a3⟩, f0, f1, f2, f3⟩ := h
  refine ⟨⟨?_, ?_, ?_, ?_⟩, ?_, ?_, ?_, ?_⟩
  · rw [hw.cell (p := ⟨b, 0, none⟩) hb]; exact a0
  · rw [hw.cell (p := ⟨b, 1, none⟩) hb]; exact a1
  · rw [hw.cell (p := ⟨b, 2, none⟩) hb]; exact a2
  · rw [hw.cell (p := ⟨b, 3, none⟩) hb]; exact a3
  · rw [hw.frozen (p := ⟨b, 0, none⟩) hb]; exact f0
  · rw [hw.frozen (p := ⟨b, 1, none⟩) hb]; exact f1
  · rw [hw.frozen (p := ⟨b, 2, none⟩) hb]; exact f2
  · rw [hw.frozen (p := ⟨b, 3, none⟩) hb]; exact f3
/-- The block of a result, behind a call. -/
theorem F4.call {w w1 : World} {x0 x1 x2 x3 : Value} {t : TypeId} (hw : Below (w.alloc (.cells #[x0, x1, x2, x3] t)).heap.size (w.alloc (.cells #[x0, x1, x2, x3] t)) w1) : F4 w1 w.heap.size x0 x1 x2 x3 :=
  (F4.new w x0 x1 x2 x3 t).below (by simp) hw
theorem F4.put {w : World} {b : Nat} {x0 x1 x2 x3 : Value} (h : F4 w b x0 x1 x2 x3) (v0 v1 v2 v3 : Value) :
    F4 ((((w.setCell ⟨b, 0, none⟩ v0).setCell ⟨b, 1, none⟩ v1).setCell ⟨b, 2, none⟩ v2).setCell ⟨b, 3, none⟩ v3) b v0 v1 v2 v3 := by
  obtain ⟨⟨h0, h1, h2, h3⟩, f0, f1, f2, f3⟩ := h
  have o (W : World) (v : Value) (i j : Nat) (hij : i ≠ j) : (W.setCell ⟨b, i, none⟩ v).cell? ⟨b, j, none⟩ = W.cell? ⟨b, j, none⟩ := World.cell?_setCell_other W _ _ v (by intro e; injection e with e1 e2; exact hij e2)
  refine ⟨⟨?_, ?_, ?_, ?_⟩, by simpa using f0, by simpa using f1, by simpa using f2, by simpa using f3⟩
  · rw [o _ _ 3 0 (by omega), o _ _ 2 0 (by omega), o _ _ 1 0 (by omega)]
    exact World.cell?_setCell_same _ _ _ h0
  · rw [o _ _ 3 1 (by omega), o _ _ 2 1 (by omega)]
    exact World.cell?_setCell_same _ _ _ ((o _ _ 0 1 (by omega)).trans h1)
  · rw [o _ _ 3 2 (by omega)]
    exact World.cell?_setCell_same _ _ _ ((o _ _ 1 2 (by omega)).trans ((o _ _ 0 2 (by omega)).trans h2))
  · exact World.cell?_setCell_same _ _ _ ((o _ _ 2 3 (by omega)).trans ((o _ _ 1 3 (by omega)).trans ((o _ _ 0 3 (by omega)).trans h3)))
theorem below_set4 {a w : World} (h : Below a.heap.size a w) {b : Nat} (hb : a.heap.size ≤ b) (v0 v1 v2 v3 : Value) :
    Below a.heap.size a ((((w.setCell ⟨b, 0, none⟩ v0).setCell ⟨b, 1, none⟩ v1).setCell ⟨b, 2, none⟩ v2).setCell ⟨b, 3, none⟩ v3) :=
  (((h.setCell (p := ⟨b, 0, none⟩) hb _).setCell (p := ⟨b, 1, none⟩) hb _).setCell (p := ⟨b, 2, none⟩) hb _).setCell (p := ⟨b, 3, none⟩) hb _
theorem below_of {w w1 : World} {o : Obj} (h : Below (w.alloc o).heap.size (w.alloc o) w1) : Below w.heap.size w w1 := h.via (below_al (Below.refl _ _) _)

set_option maxRecDepth 100000 in
set_option maxHeartbeats 2000000 in
theorem cut_any (kd : Int) (s : ByteArray) (at_ : Int) (f e : Nat) (hf : f ≤ e) (he : e ≤ s.size) (hs : s.size ≤ 1000000) (w : World) :
    Calls Try.prog 27 #[.int .i64 kd, .string s, .int .i64 at_, .int .i64 (f : Int), .int .i64 (e : Int)] w fun x w' => x = .returned (lxv kd (s.extract f e) at_ (e : Int)) ∧ Below w.heap.size w w' := by
  have HC := fun w => Hid.intro (clone_any (s.extract f e) w (by rw [Lib.size_eq, Lib.extract_data, List.length_take, List.length_drop, ← Lib.size_eq]; omega))
  go_enter Try.func27, Try.ntmps27
  go_wp2_with (go_at_call 39; refine (HC _).out.mono ?_; rintro e w1 ⟨rfl, hw1⟩; have HF := Hid.intro (F4.call hw1); have HB := Hid.intro (below_of hw1); obtain ⟨⟨z0, z1, z2, z3⟩, y0, y1, y2, y3⟩ := HF.out; clear hw1)
  refine bodyPost_ret (v := lxv kd (s.extract f e) at_ e) ?_ rfl ⟨rfl, below_set4 HB.out (Nat.le_refl _) _ _ _ _⟩
  obtain ⟨⟨g0, g1, g2, g3⟩, -⟩ := HF.out.put (.int .i64 kd) (.string (s.extract f e)) (.int .i64 at_) (.int .i64 e)
  simp [results, Try.results27, go_sem, g0, g1, g2, g3, lxv]

/-- A lexeme. -/
structure Lx where
  k : Int
  t : ByteArray
  a : Nat
  e : Nat
def Lx.v (x : Lx) : Value := lxv x.k x.t x.a x.e
def bs (l : List UInt8) : ByteArray := ⟨l.toArray⟩
theorem bs_extract (s : ByteArray) (a b : Nat) : s.extract a b = bs ((tl s a).take (b - a)) := Lib.extract_eq s a b
theorem bs_run (p : UInt8 → Bool) (s : ByteArray) (k : Nat) : s.extract k (k + run p s k) = bs ((tl s k).takeWhile p) := by
  rw [bs_extract]
  congr 1
  rw [Nat.add_sub_cancel_left]
  unfold run
  exact (List.prefix_iff_eq_take.1 (List.takeWhile_prefix p)).symm

/-- What variable, mark, quoted, lexemeAt tell. -/
def told (r : Option Lx) (a : Nat) : Value := match r with
  | some x => .tuple #[x.v, .bool true]
  | none => .tuple #[lxv 0 ⟨#[]⟩ a 0, .bool false]

/-- A variable, behind its sign. -/
def varL (a : Nat) (l : List UInt8) : Option Lx := match l with
  | c :: _ => if isLet c then some ⟨1, bs (l.takeWhile isCh), a, a + 1 + (l.takeWhile isCh).length⟩ else none
  | [] => none

set_option maxRecDepth 100000 in
set_option maxHeartbeats 2000000 in
theorem variable_any (s : ByteArray) (a : Nat) (ha : a < s.size) (hs : s.size ≤ 1000000) (w : World) :
    Calls Try.prog 31 #[.string s, .int .i64 (a : Int)] w fun x w' => x = .returned (told (varL a (tl s (a + 1))) a) ∧ Below w.heap.size w w' := by
  have HBr := fun w => Hid.intro (barred_any (a : Int) w)
  by_cases hlt : a + 1 < s.size
  · have hx : ((a : Int) + 1 == (s.size : Int)) = false := beq_false_of_ne (by omega)
    have hi : (a : Int) + 1 < (s.size : Int) := by omega
    have hi0 : (0 : Int) ≤ (a : Int) + 1 := by omega
    have HL := fun w => letter_any (s[a + 1].toNat : Int) w
    cases hl : letB (s[a + 1].toNat : Int) with
    | true =>
      rw [hl] at HL
      have HW := fun w => Hid.intro (behindWord_any s (a + 1) (by omega) hs w)
      have HC := fun w => Hid.intro (cut_any 1 s a (a + 1) (a + 1 + run isCh s (a + 1)) (by omega) (run_le isCh s (a + 1) (by omega)) hs w)
      have hm : told (varL a (tl s (a + 1))) a = .tuple #[lxv 1 (s.extract (a + 1) (a + 1 + run isCh s (a + 1))) a ((a + 1 + run isCh s (a + 1) : Nat) : Int), .bool true] := by
        rw [bs_run]
        have : varL a (tl s (a + 1)) = some ⟨1, bs ((tl s (a + 1)).takeWhile isCh), a, a + 1 + ((tl s (a + 1)).takeWhile isCh).length⟩ := by
          unfold varL
          rw [tl_cons hlt]
          simp only [isLet, hl, if_true]
        rw [this]; rfl
      rw [hm]
      clear hm
      have hcast : ((a + 1 : Nat) : Int) = (a : Int) + 1 := rfl
      simp only [hcast] at HW HC
      generalize a + 1 + run isCh s (a + 1) = E at HW HC ⊢
      generalize s.extract (a + 1) E = T at HC ⊢
      simp only [lxv] at HC
      go_enter Try.func31, Try.ntmps31
      go_wp2_with (first | (go_at_call 26; refine (HL _).mono ?_; rintro e w1 ⟨rfl, hw1⟩; subst w1) | (go_at_call 28; refine (HW _).out.mono ?_; rintro e w1 ⟨rfl, hw1⟩; subst w1) | (go_at_call 27; refine (HC _).out.mono ?_; rintro e w1 ⟨rfl, hw1⟩; have HF := Hid.intro (F4.call hw1); have HB := Hid.intro (below_of hw1); obtain ⟨⟨z0, z1, z2, z3⟩, y0, y1, y2, y3⟩ := HF.out; clear hw1))
      refine bodyPost_ret (v := .tuple #[lxv 1 T (a : Int) (E : Int), .bool true]) ?_ rfl ⟨rfl, below_set4 HB.out (Nat.le_refl _) _ _ _ _⟩
      obtain ⟨⟨g0, g1, g2, g3⟩, -⟩ := HF.out.put (.int .i64 1) (.string T) (.int .i64 (a : Int)) (.int .i64 (E : Int))
      simp [results, Try.results31, go_sem, g0, g1, g2, g3, lxv]

    | false =>
      rw [hl] at HL
      have hm : varL a (tl s (a + 1)) = none := by
        unfold varL
        rw [tl_cons hlt]
        simp only [isLet, hl]
        rfl
      rw [hm]
      clear hm
      simp only [lxv] at HBr
      go_enter Try.func31, Try.ntmps31
      go_wp2_with (first | (go_at_call 26; refine (HL _).mono ?_; rintro e w1 ⟨rfl, hw1⟩; subst w1) | (go_at_call 40; refine (HBr _).out.mono ?_; rintro e w1 ⟨rfl, hw1⟩; have HF := Hid.intro (F4.call hw1); have HB := Hid.intro (below_of hw1); obtain ⟨⟨z0, z1, z2, z3⟩, y0, y1, y2, y3⟩ := HF.out; clear hw1))
      refine bodyPost_ret (v := .tuple #[lxv 0 ⟨#[]⟩ (a : Int) 0, .bool false]) ?_ rfl ⟨rfl, below_set4 HB.out (Nat.le_refl _) _ _ _ _⟩
      obtain ⟨⟨g0, g1, g2, g3⟩, -⟩ := HF.out.put (.int .i64 0) (.string ⟨#[]⟩) (.int .i64 (a : Int)) (.int .i64 0)
      simp [results, Try.results31, go_sem, g0, g1, g2, g3, lxv]

  · have hx : ((a : Int) + 1 == (s.size : Int)) = true := beq_iff_eq.2 (by omega)
    have hm : varL a (tl s (a + 1)) = none := by
      unfold varL
      rw [tl_end (by omega)]
    rw [hm]
    clear hm
    simp only [lxv] at HBr
    go_enter Try.func31, Try.ntmps31
    go_wp2_with (go_at_call 40; refine (HBr _).out.mono ?_; rintro e w1 ⟨rfl, hw1⟩; have HF := Hid.intro (F4.call hw1); have HB := Hid.intro (below_of hw1); obtain ⟨⟨z0, z1, z2, z3⟩, y0, y1, y2, y3⟩ := HF.out; clear hw1)
    refine bodyPost_ret (v := .tuple #[lxv 0 ⟨#[]⟩ (a : Int) 0, .bool false]) ?_ rfl ⟨rfl, below_set4 HB.out (Nat.le_refl _) _ _ _ _⟩
    obtain ⟨⟨g0, g1, g2, g3⟩, -⟩ := HF.out.put (.int .i64 0) (.string ⟨#[]⟩) (.int .i64 (a : Int)) (.int .i64 0)
    simp [results, Try.results31, go_sem, g0, g1, g2, g3, lxv]

end Go.Proofs.Ytlheiiapolhpeaa
