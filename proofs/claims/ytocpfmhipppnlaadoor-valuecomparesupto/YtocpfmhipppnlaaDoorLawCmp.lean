/- proctorlaw1.ValueCompares: it tells true. -/
import Derived.Test.YtocpfmhipppnlaaDoorCmpOps
import Derived.Test.YtocpfmhipppnlaaDoorOrdSame
import Derived.Test.YtocpfmhipppnlaaDoorSize
import Derived.Test.YtocpfmhipppnlaaDoorWakes
import Derived.Deep.DeepCutAuto
namespace Go.Proofs.YtocpfmhipppnlaaDoor
open Go.RowKit

/-- What Apply tells of two values by a comparing operation: the Kind, the Bool, the error's number. -/
def AppAt (n : Nat) (t1 t2 : Tr) (op k : Int) (b : Bool) (er : Int) : Prop := ∀ (sv : Value) (w : World), Lv w (Vs w n) [t1, t2] sv →
  Calls Tryd.prog 19 #[.int .i64 op, sv] w fun e w' => e = .returned (.tuple #[.agg #[.int .i64 k, .bool b, .int .i64 0, .string ⟨#[]⟩, .slice none 0 0], .int .i64 er]) ∧ Below w.heap.size w w'

theorem app_bad (n : Nat) (t1 t2 : Tr) (op : Int) (h : (fit 30 t1 && fit 30 t2) = false) : AppAt n t1 t2 op 0 false 1 :=
  fun sv w hl => apply_bad n [t1, t2] op sv w hl (by simpa using h)

theorem app_10 (n : Nat) (t1 t2 : Tr) (h1 : fit 30 t1 = true) (h2 : fit 30 t2 = true) : AppAt n t1 t2 10 1 (same n t1 t2) 0 :=
  fun sv w hl => apply_10 n t1 t2 sv w hl h1 h2 1 (same n t1 t2) 0 ⟨#[]⟩ none 0 0 0 (fun s1 s2 w' v1 v2 hb => op_c1 n t1 t2 s1 s2 w' (Vs.below hb _ _ _ v1) (Vs.below hb _ _ _ v2))
theorem app_11 (n : Nat) (t1 t2 : Tr) (h1 : fit 30 t1 = true) (h2 : fit 30 t2 = true) : AppAt n t1 t2 11 1 (!same n t1 t2) 0 :=
  fun sv w hl => apply_11 n t1 t2 sv w hl h1 h2 1 (!same n t1 t2) 0 ⟨#[]⟩ none 0 0 0 (fun s1 s2 w' v1 v2 hb => op_c2 n t1 t2 s1 s2 w' (Vs.below hb _ _ _ v1) (Vs.below hb _ _ _ v2))
theorem app_12y (n : Nat) (t1 t2 : Tr) (h1 : fit 30 t1 = true) (h2 : fit 30 t2 = true) (hc : cmpOk t1 t2 = true) : AppAt n t1 t2 12 1 (decide (-1 ≤ ord n t1 t2) && decide (ord n t1 t2 ≤ -1)) 0 :=
  fun sv w hl => apply_12 n t1 t2 sv w hl h1 h2 1 _ 0 ⟨#[]⟩ none 0 0 0 (fun s1 s2 w' v1 v2 hb => op_c3y n t1 t2 s1 s2 hc w' (Vs.below hb _ _ _ v1) (Vs.below hb _ _ _ v2))
theorem app_12n (n : Nat) (t1 t2 : Tr) (h1 : fit 30 t1 = true) (h2 : fit 30 t2 = true) (hc : cmpOk t1 t2 = false) : AppAt n t1 t2 12 0 false 4 :=
  fun sv w hl => apply_12 n t1 t2 sv w hl h1 h2 0 false 0 ⟨#[]⟩ none 0 0 4 (fun s1 s2 w' v1 v2 _ => by
    obtain ⟨a1, m1, rfl, -, -⟩ := v1.form
    obtain ⟨a2, m2, rfl, -, -⟩ := v2.form
    exact op_c3n t1 t2 a1 a2 _ _ m1 m2 hc w')
theorem app_13y (n : Nat) (t1 t2 : Tr) (h1 : fit 30 t1 = true) (h2 : fit 30 t2 = true) (hc : cmpOk t1 t2 = true) : AppAt n t1 t2 13 1 (decide (-1 ≤ ord n t1 t2) && decide (ord n t1 t2 ≤ 0)) 0 :=
  fun sv w hl => apply_13 n t1 t2 sv w hl h1 h2 1 _ 0 ⟨#[]⟩ none 0 0 0 (fun s1 s2 w' v1 v2 hb => op_c4y n t1 t2 s1 s2 hc w' (Vs.below hb _ _ _ v1) (Vs.below hb _ _ _ v2))
theorem app_13n (n : Nat) (t1 t2 : Tr) (h1 : fit 30 t1 = true) (h2 : fit 30 t2 = true) (hc : cmpOk t1 t2 = false) : AppAt n t1 t2 13 0 false 4 :=
  fun sv w hl => apply_13 n t1 t2 sv w hl h1 h2 0 false 0 ⟨#[]⟩ none 0 0 4 (fun s1 s2 w' v1 v2 _ => by
    obtain ⟨a1, m1, rfl, -, -⟩ := v1.form
    obtain ⟨a2, m2, rfl, -, -⟩ := v2.form
    exact op_c4n t1 t2 a1 a2 _ _ m1 m2 hc w')
theorem app_14y (n : Nat) (t1 t2 : Tr) (h1 : fit 30 t1 = true) (h2 : fit 30 t2 = true) (hc : cmpOk t1 t2 = true) : AppAt n t1 t2 14 1 (decide (1 ≤ ord n t1 t2) && decide (ord n t1 t2 ≤ 1)) 0 :=
  fun sv w hl => apply_14 n t1 t2 sv w hl h1 h2 1 _ 0 ⟨#[]⟩ none 0 0 0 (fun s1 s2 w' v1 v2 hb => op_c5y n t1 t2 s1 s2 hc w' (Vs.below hb _ _ _ v1) (Vs.below hb _ _ _ v2))
theorem app_14n (n : Nat) (t1 t2 : Tr) (h1 : fit 30 t1 = true) (h2 : fit 30 t2 = true) (hc : cmpOk t1 t2 = false) : AppAt n t1 t2 14 0 false 4 :=
  fun sv w hl => apply_14 n t1 t2 sv w hl h1 h2 0 false 0 ⟨#[]⟩ none 0 0 4 (fun s1 s2 w' v1 v2 _ => by
    obtain ⟨a1, m1, rfl, -, -⟩ := v1.form
    obtain ⟨a2, m2, rfl, -, -⟩ := v2.form
    exact op_c5n t1 t2 a1 a2 _ _ m1 m2 hc w')
theorem app_15y (n : Nat) (t1 t2 : Tr) (h1 : fit 30 t1 = true) (h2 : fit 30 t2 = true) (hc : cmpOk t1 t2 = true) : AppAt n t1 t2 15 1 (decide (0 ≤ ord n t1 t2) && decide (ord n t1 t2 ≤ 1)) 0 :=
  fun sv w hl => apply_15 n t1 t2 sv w hl h1 h2 1 _ 0 ⟨#[]⟩ none 0 0 0 (fun s1 s2 w' v1 v2 hb => op_c6y n t1 t2 s1 s2 hc w' (Vs.below hb _ _ _ v1) (Vs.below hb _ _ _ v2))
theorem app_15n (n : Nat) (t1 t2 : Tr) (h1 : fit 30 t1 = true) (h2 : fit 30 t2 = true) (hc : cmpOk t1 t2 = false) : AppAt n t1 t2 15 0 false 4 :=
  fun sv w hl => apply_15 n t1 t2 sv w hl h1 h2 0 false 0 ⟨#[]⟩ none 0 0 4 (fun s1 s2 w' v1 v2 _ => by
    obtain ⟨a1, m1, rfl, -, -⟩ := v1.form
    obtain ⟨a2, m2, rfl, -, -⟩ := v2.form
    exact op_c6n t1 t2 a1 a2 _ _ m1 m2 hc w')

/-- All six comparisons at once. -/
theorem six (n : Nat) (t1 t2 : Tr) (d1 : dep n t1) (d2 : dep n t2) : ∃ (k0 k1 k2 k3 k4 k5 : Int) (b0 b1 b2 b3 b4 b5 : Bool) (e0 e1 e2 e3 e4 e5 : Int),
    AppAt n t1 t2 10 k0 b0 e0 ∧ AppAt n t1 t2 11 k1 b1 e1 ∧ AppAt n t1 t2 12 k2 b2 e2 ∧ AppAt n t1 t2 15 k3 b3 e3 ∧ AppAt n t1 t2 14 k4 b4 e4 ∧ AppAt n t1 t2 13 k5 b5 e5 ∧
    ((fit 30 t1 = false ∧ e0 = 1 ∧ e1 = 1 ∧ e2 = 1 ∧ e3 = 1) ∨ (fit 30 t1 = true ∧ fit 30 t2 = false ∧ e0 = 1 ∧ e1 = 1 ∧ e2 = 1 ∧ e3 = 1) ∨
     (fit 30 t1 = true ∧ fit 30 t2 = true ∧ e0 = 0 ∧ e1 = 0 ∧ b0 = same n t1 t2 ∧ b1 = (!same n t1 t2) ∧ e2 = 4 ∧ e3 = 4 ∧ e4 = 4 ∧ e5 = 4) ∨
     (fit 30 t1 = true ∧ fit 30 t2 = true ∧ e0 = 0 ∧ e1 = 0 ∧ e2 = 0 ∧ e3 = 0 ∧ e4 = 0 ∧ e5 = 0 ∧ ord n t1 t2 = -1 ∧ same n t1 t2 = false ∧ b0 = false ∧ b1 = true ∧ b2 = true ∧ b3 = false ∧ b4 = false ∧ b5 = true) ∨
     (fit 30 t1 = true ∧ fit 30 t2 = true ∧ e0 = 0 ∧ e1 = 0 ∧ e2 = 0 ∧ e3 = 0 ∧ e4 = 0 ∧ e5 = 0 ∧ ord n t1 t2 = 0 ∧ same n t1 t2 = true ∧ b0 = true ∧ b1 = false ∧ b2 = false ∧ b3 = true ∧ b4 = false ∧ b5 = true) ∨
     (fit 30 t1 = true ∧ fit 30 t2 = true ∧ e0 = 0 ∧ e1 = 0 ∧ e2 = 0 ∧ e3 = 0 ∧ e4 = 0 ∧ e5 = 0 ∧ ord n t1 t2 = 1 ∧ same n t1 t2 = false ∧ b0 = false ∧ b1 = true ∧ b2 = false ∧ b3 = true ∧ b4 = true ∧ b5 = false)) := by
  by_cases f1 : fit 30 t1 = true
  · by_cases f2 : fit 30 t2 = true
    · by_cases hc : cmpOk t1 t2 = true
      · refine ⟨_, _, _, _, _, _, _, _, _, _, _, _, _, _, _, _, _, _, app_10 n t1 t2 f1 f2, app_11 n t1 t2 f1 f2, app_12y n t1 t2 f1 f2 hc, app_15y n t1 t2 f1 f2 hc, app_14y n t1 t2 f1 f2 hc, app_13y n t1 t2 f1 f2 hc, ?_⟩
        have hs := ord_same n t1 t2 30 d1 d2 f1 f2
        rcases (ord_cmp n).rng t1 t2 with hy | hy | hy
        · have hs' : same n t1 t2 = false := by
            cases hq : same n t1 t2 with
            | false => rfl
            | true => rw [hy, hq] at hs; exact absurd (hs.2 rfl) (by decide)
          refine .inr (.inr (.inr (.inl ⟨f1, f2, rfl, rfl, rfl, rfl, rfl, rfl, hy, hs', hs', by rw [hs']; rfl, ?_, ?_, ?_, ?_⟩))) <;> rw [hy] <;> decide
        · have hs' : same n t1 t2 = true := hs.1 hy
          refine .inr (.inr (.inr (.inr (.inl ⟨f1, f2, rfl, rfl, rfl, rfl, rfl, rfl, hy, hs', hs', by rw [hs']; rfl, ?_, ?_, ?_, ?_⟩)))) <;> rw [hy] <;> decide
        · have hs' : same n t1 t2 = false := by
            cases hq : same n t1 t2 with
            | false => rfl
            | true => rw [hy, hq] at hs; exact absurd (hs.2 rfl) (by decide)
          refine .inr (.inr (.inr (.inr (.inr ⟨f1, f2, rfl, rfl, rfl, rfl, rfl, rfl, hy, hs', hs', by rw [hs']; rfl, ?_, ?_, ?_, ?_⟩)))) <;> rw [hy] <;> decide
      · have hc' : cmpOk t1 t2 = false := by simpa using hc
        exact ⟨_, _, _, _, _, _, _, _, _, _, _, _, _, _, _, _, _, _, app_10 n t1 t2 f1 f2, app_11 n t1 t2 f1 f2, app_12n n t1 t2 f1 f2 hc', app_15n n t1 t2 f1 f2 hc', app_14n n t1 t2 f1 f2 hc', app_13n n t1 t2 f1 f2 hc', .inr (.inr (.inl ⟨f1, f2, rfl, rfl, rfl, rfl, rfl, rfl, rfl, rfl⟩))⟩
    · have f2' : fit 30 t2 = false := by simpa using f2
      have hb : (fit 30 t1 && fit 30 t2) = false := by rw [f2', Bool.and_false]
      exact ⟨_, _, _, _, _, _, _, _, _, _, _, _, _, _, _, _, _, _, app_bad n t1 t2 _ hb, app_bad n t1 t2 _ hb, app_bad n t1 t2 _ hb, app_bad n t1 t2 _ hb, app_bad n t1 t2 _ hb, app_bad n t1 t2 _ hb, .inr (.inl ⟨f1, f2', rfl, rfl, rfl, rfl⟩)⟩
  · have f1' : fit 30 t1 = false := by simpa using f1
    have hb : (fit 30 t1 && fit 30 t2) = false := by rw [f1', Bool.false_and]
    exact ⟨_, _, _, _, _, _, _, _, _, _, _, _, _, _, _, _, _, _, app_bad n t1 t2 _ hb, app_bad n t1 t2 _ hb, app_bad n t1 t2 _ hb, app_bad n t1 t2 _ hb, app_bad n t1 t2 _ hb, app_bad n t1 t2 _ hb, .inl ⟨f1', rfl, rfl, rfl, rfl⟩⟩

theorem two_lv {w : World} {n g : Nat} {t1 t2 : Tr} {s1 s2 : Value} (c1 : Cel w g 0 t1 s1) (v1 : Vs w n t1 s1) (c2 : Cel w g 5 t2 s2) (v2 : Vs w n t2 s2) : Lv w (Vs w n) [t1, t2] (.slice (some ⟨g, 0, none⟩) 2 2) := by
  refine ⟨some ⟨g, 0, none⟩, 2, rfl, Nat.le_refl _, by decide, fun _ => ⟨g, 0, rfl, fun j hj => ?_⟩⟩
  match j, hj with
  | 0, _ => exact ⟨s1, by simpa using c1, v1⟩
  | 1, _ => exact ⟨s2, by simpa using c2, v2⟩

theorem below_box {w w' : World} {o : Obj} (h : Below (w.heap.size + 1) (w.alloc o) w') : Below w.heap.size w w' :=
  ((Below.refl _ _).alloc (Nat.le_refl _) o).trans (h.mono (Nat.le_succ _))

set_option maxRecDepth 20000 in
set_option maxHeartbeats 12000000 in
theorem valueCompares_walk (n : Nat) (ts : List Tr) (sv : Value) (w : World) (h : Lv w (Vs w n) ts sv) :
    Calls Tryd.prog 6 #[.agg #[sv]] w fun e w' => e = .returned (.bool true) ∧ Below w.heap.size w w' := by
  have HL := Hid.intro (fun w' hb => light_any n ts sv w' (h.mono hb (fun t v => Vs.below hb n t v)))
  obtain ⟨a0, cap, rfl, h2, h3, h4⟩ := h
  unfold maxLen at h3
  have HE := Hid.intro h4
  clear h4
  go_enter Tryd.func6, Tryd.ntmps6
  go_wp2_with fail
  refine (HL.out _ ((Below.refl _ _).alloc (Nat.le_refl _) _)).mono ?_
  rintro e w1 ⟨⟨bl, rfl⟩, hb1⟩
  have HB1 := Hid.intro (hb1.mono (B' := w.heap.size + 1) (by simp))
  clear hb1
  cases bl
  · go_wp2_with (go_at_call 10; refine (wakes_any _).mono ?_; rintro e w2 ⟨rfl, hb2⟩)
    go_ret
    exact ⟨rfl, hb2.via (below_box HB1.out)⟩
  · go_wp2
    go_loopw [3] (fun i w' => ∃ k : Nat, k ≤ 19 ∧ i = .int .i64 ((k : Int) + 1) ∧ Hid (Below (w.heap.size + 1) (w.alloc (.cells #[.slice a0 ts.length cap] 24)) w')) (fun i _ => 21 - (intOf i).toNat)
    case atStart => exact ⟨0, by omega, rfl, HB1⟩
    case round =>
      obtain ⟨k, hk, rfl, hbw⟩ := hrel
      have hbox := hbw.out.cell (p := ⟨w.heap.size, 0, none⟩) (Nat.lt_succ_self _)
      simp at hbox
      by_cases hlt : k + 1 < ts.length
      · by_cases hlt2 : k < 19
        · obtain ⟨b, o, rfl, e1⟩ := HE.out (by omega)
          obtain ⟨s1, c1, v1⟩ := e1 k (by omega)
          obtain ⟨s2, c2, v2⟩ := e1 (k + 1) (by omega)
          clear e1 HE
          have hbx := below_box hbw.out
          obtain ⟨x1, n1, rfl, -, -⟩ := v1.form
          obtain ⟨x2, n2, rfl, -, -⟩ := v2.form
          have V1 := Hid.intro (Vs.below hbx _ _ _ v1)
          have V2 := Hid.intro (Vs.below hbx _ _ _ v2)
          obtain ⟨p1, p2, p3, p4, p5⟩ := c1.below hbx
          obtain ⟨q1, q2, q3, q4, q5⟩ := c2.below hbx
          clear v1 v2 c1 c2 hbx
          generalize ts[k] = t1 at *
          generalize ts[k + 1] = t2 at *
          have i0 : (0 : Int) ≤ (k : Int) := by omega
          have i00 : (0 : Int) ≤ (k : Int) + 1 := by omega
          have hlb : b < wr.heap.size := cell_lt p1
          have hlw : w.heap.size < wr.heap.size := cell_lt hbox
          have i1 : (k : Int) < (ts.length : Int) := by omega
          have i2 : (k : Int) + 1 < (ts.length : Int) := by omega
          have t1' : ((k : Int) + 1).toNat = k + 1 := by omega
          have j1 : IntKind.i64.wrap (k : Int) = (k : Int) := by simp [IntKind.wrap, IntKind.bits, IntKind.signed]; omega
          have j2 : IntKind.i64.wrap ((k : Int) + 1 - 1) = (k : Int) := by simp [IntKind.wrap, IntKind.bits, IntKind.signed]; omega
          have HS : Hid (∀ w', Below wr.heap.size wr w' → (w'.cell? ⟨w.heap.size, 0, none⟩ = some (.slice (some ⟨b, o, none⟩) ts.length cap) ∧ w'.cell? ⟨b, o + k * 5, none⟩ = some (.int .i64 t1.k) ∧ w'.cell? ⟨b, o + k * 5 + 1, none⟩ = some (.bool t1.b) ∧ w'.cell? ⟨b, o + k * 5 + 2, none⟩ = some (.int .i64 t1.i) ∧ w'.cell? ⟨b, o + k * 5 + 3, none⟩ = some (.string t1.s) ∧ w'.cell? ⟨b, o + k * 5 + 4, none⟩ = some (.slice x1 t1.l.length n1) ∧ w'.cell? ⟨b, o + (k + 1) * 5, none⟩ = some (.int .i64 t2.k) ∧ w'.cell? ⟨b, o + (k + 1) * 5 + 1, none⟩ = some (.bool t2.b) ∧ w'.cell? ⟨b, o + (k + 1) * 5 + 2, none⟩ = some (.int .i64 t2.i) ∧ w'.cell? ⟨b, o + (k + 1) * 5 + 3, none⟩ = some (.string t2.s) ∧ w'.cell? ⟨b, o + (k + 1) * 5 + 4, none⟩ = some (.slice x2 t2.l.length n2))) := by
            intro w' hb
            have g := fun o => hb.cell (p := ⟨b, o, none⟩) hlb
            have g' := hb.cell (p := ⟨w.heap.size, 0, none⟩) hlw
            rw [g', g, g, g, g, g, g, g, g, g, g]
            exact ⟨hbox, p1, p2, p3, p4, p5, q1, q2, q3, q4, q5⟩
          go_upto_region 6 with fail
          go_cut [4] (fun p4 wx => ∃ g, p4 = .slice (some ⟨g, 0, none⟩) 2 2 ∧ Hid (Cel wx g 0 t1 (.slice x1 t1.l.length n1) ∧ Cel wx g 5 t2 (.slice x2 t2.l.length n2) ∧ Below wr.heap.size wr wx))
          case first =>
            go_region_held3 (fun w' => w'.cell? ⟨w.heap.size, 0, none⟩ = some (.slice (some ⟨b, o, none⟩) ts.length cap) ∧ w'.cell? ⟨b, o + k * 5, none⟩ = some (.int .i64 t1.k) ∧ w'.cell? ⟨b, o + k * 5 + 1, none⟩ = some (.bool t1.b) ∧ w'.cell? ⟨b, o + k * 5 + 2, none⟩ = some (.int .i64 t1.i) ∧ w'.cell? ⟨b, o + k * 5 + 3, none⟩ = some (.string t1.s) ∧ w'.cell? ⟨b, o + k * 5 + 4, none⟩ = some (.slice x1 t1.l.length n1) ∧ w'.cell? ⟨b, o + (k + 1) * 5, none⟩ = some (.int .i64 t2.k) ∧ w'.cell? ⟨b, o + (k + 1) * 5 + 1, none⟩ = some (.bool t2.b) ∧ w'.cell? ⟨b, o + (k + 1) * 5 + 2, none⟩ = some (.int .i64 t2.i) ∧ w'.cell? ⟨b, o + (k + 1) * 5 + 3, none⟩ = some (.string t2.s) ∧ w'.cell? ⟨b, o + (k + 1) * 5 + 4, none⟩ = some (.slice x2 t2.l.length n2)) ((refine HS.out _ ?_; repeat (first | exact Below.refl _ _ | refine Below.drew ?_ | refine below_al ?_ _))) (fail)
            all_goals go_wp2_with fail
            all_goals go_meet
            all_goals exact ⟨_, rfl, by simp [Cel, go_sem], by simp [Cel, go_sem], (below_al (Below.refl _ _) _).drew⟩
          case rest =>
            obtain ⟨g, rfl, HC⟩ := hcut
            have hbx := HC.out.2.2
            have W1 := Hid.intro (Vs.below hbx _ _ _ V1.out)
            have W2 := Hid.intro (Vs.below hbx _ _ _ V2.out)
            have lg : g < wc.heap.size := cell_lt HC.out.1.1
            have HBW : Hid (Below (w.heap.size + 1) (w.alloc (.cells #[.slice (some ⟨b, o, none⟩) ts.length cap] 24)) wc) := hbw.out.trans (hbx.mono hlw)
            have HLV := Hid.intro (fun w' (hb : Below wc.heap.size wc w') => two_lv (HC.out.1.below hb) (Vs.below hb _ _ _ W1.out) (HC.out.2.1.below hb) (Vs.below hb _ _ _ W2.out))
            clear hbx V1 V2 hlb hlw j1 j2 t1' p1 p2 p3 p4 p5 q1 q2 q3 q4 q5 HS hbox i00 i0 i1 i2
            obtain ⟨k0, k1, k2, k3, k4, k5, b0, b1, b2, b3, b4, b5, e0, e1, e2, e3, e4, e5, A0, A1, A2, A3, A4, A5, HX⟩ := six n t1 t2 W1.out.dep W2.out.dep
            replace A0 := Hid.intro A0
            replace A1 := Hid.intro A1
            replace A2 := Hid.intro A2
            replace A3 := Hid.intro A3
            replace A4 := Hid.intro A4
            replace A5 := Hid.intro A5
            replace HX := Hid.intro HX
            go_wp2_with fail
            refine (A0.out _ _ (HLV.out wc (Below.refl _ _))).mono ?_
            rintro e z0 ⟨rfl, hb0⟩
            have B0 := Hid.intro hb0
            clear hb0
            go_wp2_with fail
            refine (A1.out _ _ (HLV.out _ ((below_al (Below.refl _ _) _).via B0.out))).mono ?_
            rintro e z1 ⟨rfl, hb1⟩
            have B1 := Hid.intro (hb1.via ((below_al (Below.refl _ _) _).via B0.out))
            have V0_1 := Hid.intro hb1
            clear hb1 B0
            go_wp2_with fail
            refine (A2.out _ _ (HLV.out _ ((below_al (Below.refl _ _) _).via B1.out))).mono ?_
            rintro e z2 ⟨rfl, hb2⟩
            have B2 := Hid.intro (hb2.via ((below_al (Below.refl _ _) _).via B1.out))
            have V0_2 := Hid.intro (hb2.via ((below_al (Below.refl _ _) _).via V0_1.out))
            have V1_2 := Hid.intro hb2
            clear V0_1
            clear hb2 B1
            go_wp2_with fail
            refine (A3.out _ _ (HLV.out _ ((below_al (Below.refl _ _) _).via B2.out))).mono ?_
            rintro e z3 ⟨rfl, hb3⟩
            have B3 := Hid.intro (hb3.via ((below_al (Below.refl _ _) _).via B2.out))
            have V0_3 := Hid.intro (hb3.via ((below_al (Below.refl _ _) _).via V0_2.out))
            have V1_3 := Hid.intro (hb3.via ((below_al (Below.refl _ _) _).via V1_2.out))
            have V2_3 := Hid.intro hb3
            clear V0_2 V1_2
            clear hb3 B2
            go_wp2_with fail
            refine (A4.out _ _ (HLV.out _ ((below_al (Below.refl _ _) _).via B3.out))).mono ?_
            rintro e z4 ⟨rfl, hb4⟩
            have B4 := Hid.intro (hb4.via ((below_al (Below.refl _ _) _).via B3.out))
            have V0_4 := Hid.intro (hb4.via ((below_al (Below.refl _ _) _).via V0_3.out))
            have V1_4 := Hid.intro (hb4.via ((below_al (Below.refl _ _) _).via V1_3.out))
            have V2_4 := Hid.intro (hb4.via ((below_al (Below.refl _ _) _).via V2_3.out))
            have V3_4 := Hid.intro hb4
            clear V0_3 V1_3 V2_3
            clear hb4 B3
            go_wp2_with fail
            refine (A5.out _ _ (HLV.out _ ((below_al (Below.refl _ _) _).via B4.out))).mono ?_
            rintro e z5 ⟨rfl, hb5⟩
            have B5 := Hid.intro (hb5.via ((below_al (Below.refl _ _) _).via B4.out))
            have V0_5 := Hid.intro (hb5.via ((below_al (Below.refl _ _) _).via V0_4.out))
            have V1_5 := Hid.intro (hb5.via ((below_al (Below.refl _ _) _).via V1_4.out))
            have V2_5 := Hid.intro (hb5.via ((below_al (Below.refl _ _) _).via V2_4.out))
            have V3_5 := Hid.intro (hb5.via ((below_al (Below.refl _ _) _).via V3_4.out))
            have V4_5 := Hid.intro hb5
            clear V0_4 V1_4 V2_4 V3_4
            clear hb5 B4
            go_upto_region 13 with fail
            have E0 : (z5.alloc (.cells #[.int .i64 k5, .bool b5, .int .i64 0, .string ⟨#[]⟩, .slice none 0 0] 32)).cell? ⟨z0.heap.size, 1, none⟩ = some (.bool b0) := (((below_al (Below.refl _ _) (.cells #[.int .i64 k5, .bool b5, .int .i64 0, .string ⟨#[]⟩, .slice none 0 0] 32)).via V0_5.out).cell (p := ⟨z0.heap.size, 1, none⟩) (by simp)).trans (by simp)
            have E1 : (z5.alloc (.cells #[.int .i64 k5, .bool b5, .int .i64 0, .string ⟨#[]⟩, .slice none 0 0] 32)).cell? ⟨z1.heap.size, 1, none⟩ = some (.bool b1) := (((below_al (Below.refl _ _) (.cells #[.int .i64 k5, .bool b5, .int .i64 0, .string ⟨#[]⟩, .slice none 0 0] 32)).via V1_5.out).cell (p := ⟨z1.heap.size, 1, none⟩) (by simp)).trans (by simp)
            have E2 : (z5.alloc (.cells #[.int .i64 k5, .bool b5, .int .i64 0, .string ⟨#[]⟩, .slice none 0 0] 32)).cell? ⟨z2.heap.size, 1, none⟩ = some (.bool b2) := (((below_al (Below.refl _ _) (.cells #[.int .i64 k5, .bool b5, .int .i64 0, .string ⟨#[]⟩, .slice none 0 0] 32)).via V2_5.out).cell (p := ⟨z2.heap.size, 1, none⟩) (by simp)).trans (by simp)
            have E3 : (z5.alloc (.cells #[.int .i64 k5, .bool b5, .int .i64 0, .string ⟨#[]⟩, .slice none 0 0] 32)).cell? ⟨z3.heap.size, 1, none⟩ = some (.bool b3) := (((below_al (Below.refl _ _) (.cells #[.int .i64 k5, .bool b5, .int .i64 0, .string ⟨#[]⟩, .slice none 0 0] 32)).via V3_5.out).cell (p := ⟨z3.heap.size, 1, none⟩) (by simp)).trans (by simp)
            have E4 : (z5.alloc (.cells #[.int .i64 k5, .bool b5, .int .i64 0, .string ⟨#[]⟩, .slice none 0 0] 32)).cell? ⟨z4.heap.size, 1, none⟩ = some (.bool b4) := (((below_al (Below.refl _ _) (.cells #[.int .i64 k5, .bool b5, .int .i64 0, .string ⟨#[]⟩, .slice none 0 0] 32)).via V4_5.out).cell (p := ⟨z4.heap.size, 1, none⟩) (by simp)).trans (by simp)
            have E5 : (z5.alloc (.cells #[.int .i64 k5, .bool b5, .int .i64 0, .string ⟨#[]⟩, .slice none 0 0] 32)).cell? ⟨z5.heap.size, 1, none⟩ = some (.bool b5) := by simp
            have BX : Hid (Below wc.heap.size wc (z5.alloc (.cells #[.int .i64 k5, .bool b5, .int .i64 0, .string ⟨#[]⟩, .slice none 0 0] 32))) := (below_al (Below.refl _ _) _).via B5.out
            have CX1 := HC.out.1.below BX.out
            have CX2 := HC.out.2.1.below BX.out
            have X1 := Hid.intro (Vs.below BX.out _ _ _ W1.out)
            have X2 := Hid.intro (Vs.below BX.out _ _ _ W2.out)
            clear V0_5 V1_5 V2_5 V3_5 V4_5 B5 A0 A1 A2 A3 A4 A5 HLV HC W1 W2
            generalize (z5.alloc (.cells #[.int .i64 k5, .bool b5, .int .i64 0, .string ⟨#[]⟩, .slice none 0 0] 32)) = X at *
            generalize z0.heap.size = r0 at *
            generalize z1.heap.size = r1 at *
            generalize z2.heap.size = r2 at *
            generalize z3.heap.size = r3 at *
            generalize z4.heap.size = r4 at *
            generalize z5.heap.size = r5 at *
            clear z0 z1 z2 z3 z4 z5
            have HK : Hid (∀ w', Below X.heap.size X w' → Cel w' g 0 t1 (.slice x1 t1.l.length n1) ∧ Cel w' g 5 t2 (.slice x2 t2.l.length n2) ∧ w'.cell? ⟨r0, 1, none⟩ = some (.bool b0) ∧ w'.cell? ⟨r1, 1, none⟩ = some (.bool b1) ∧ w'.cell? ⟨r2, 1, none⟩ = some (.bool b2) ∧ w'.cell? ⟨r3, 1, none⟩ = some (.bool b3) ∧ w'.cell? ⟨r4, 1, none⟩ = some (.bool b4) ∧ w'.cell? ⟨r5, 1, none⟩ = some (.bool b5)) :=
              fun w' hb => ⟨CX1.below hb, CX2.below hb, (hb.cell (p := ⟨r0, 1, none⟩) (cell_lt E0)).trans E0, (hb.cell (p := ⟨r1, 1, none⟩) (cell_lt E1)).trans E1, (hb.cell (p := ⟨r2, 1, none⟩) (cell_lt E2)).trans E2, (hb.cell (p := ⟨r3, 1, none⟩) (cell_lt E3)).trans E3, (hb.cell (p := ⟨r4, 1, none⟩) (cell_lt E4)).trans E4, (hb.cell (p := ⟨r5, 1, none⟩) (cell_lt E5)).trans E5⟩
            clear E0 E1 E2 E3 E4 E5
            have HEnd : Hid (∀ w', Below X.heap.size X w' → Below (w.heap.size + 1) (w.alloc (.cells #[.slice (some ⟨b, o, none⟩) ts.length cap] 24)) w') := fun w' hb => HBW.out.trans ((hb.via BX.out).mono HBW.out.size1)
            have HY1 := Hid.intro (check_any n t1 _ X X1.out)
            obtain ⟨c1, c2, c3, c4, c5⟩ := CX1
            clear CX2
            rcases HX.out with ⟨f1, rfl, rfl, rfl, rfl⟩ | ⟨f1, f2, rfl, rfl, rfl, rfl⟩ | ⟨f1, f2, rfl, rfl, hb0, hb1, rfl, rfl, rfl, rfl⟩ | ⟨f1, f2, rfl, rfl, rfl, rfl, rfl, rfl, hy, hs, rfl, rfl, rfl, rfl, rfl, rfl⟩ | ⟨f1, f2, rfl, rfl, rfl, rfl, rfl, rfl, hy, hs, rfl, rfl, rfl, rfl, rfl, rfl⟩ | ⟨f1, f2, rfl, rfl, rfl, rfl, rfl, rfl, hy, hs, rfl, rfl, rfl, rfl, rfl, rfl⟩
            · as_aux_lemma =>
                rw [f1] at HY1
                clear f1 HX
                go_wp2_with fail
                refine HY1.out.mono ?_
                rintro e y1 ⟨rfl, hc1⟩
                have D1 := Hid.intro hc1
                clear hc1 HY1 HK c1 c2 c3 c4 c5
                go_wp2
                go_roundw
                case rel => exact ⟨k + 1, by omega, by go_num, HEnd.out _ D1.out⟩
                case measure => simp [intOf]; omega
            · as_aux_lemma =>
                rw [f1] at HY1
                clear f1 HX
                go_wp2_with fail
                refine HY1.out.mono ?_
                rintro e y1 ⟨rfl, hc1⟩
                have D1 := Hid.intro hc1
                obtain ⟨u1, u2, u3, u4, u5⟩ := (HK.out y1 D1.out).2.1
                clear hc1 c1 c2 c3 c4 c5
                have HY2 := Hid.intro (check_any n t2 _ y1 (Vs.below D1.out _ _ _ X2.out))
                rw [f2] at HY2
                clear f2 HY1
                go_wp2_with fail
                refine HY2.out.mono ?_
                rintro e y2 ⟨rfl, hc2⟩
                have D2 := Hid.intro (hc2.via D1.out)
                clear hc2 HY2 HK u1 u2 u3 u4 u5 D1
                go_wp2
                go_roundw
                case rel => exact ⟨k + 1, by omega, by go_num, HEnd.out _ D2.out⟩
                case measure => simp [intOf]; omega
            · cases hs : same n t1 t2
              · as_aux_lemma =>
                  rw [hs] at hb0 hb1
                  simp only [Bool.not_false] at hb1
                  subst hb0 hb1
                  rw [f1] at HY1
                  clear f1 HX
                  go_wp2_with fail
                  refine HY1.out.mono ?_
                  rintro e y1 ⟨rfl, hc1⟩
                  have D1 := Hid.intro hc1
                  obtain ⟨u1, u2, u3, u4, u5⟩ := (HK.out y1 D1.out).2.1
                  clear hc1 c1 c2 c3 c4 c5
                  have HY2 := Hid.intro (check_any n t2 _ y1 (Vs.below D1.out _ _ _ X2.out))
                  rw [f2] at HY2
                  clear f2 HY1
                  go_wp2_with fail
                  refine HY2.out.mono ?_
                  rintro e y2 ⟨rfl, hc2⟩
                  have D2 := Hid.intro (hc2.via D1.out)
                  clear hc2 HY2 u1 u2 u3 u4 u5 D1
                  have HS := Hid.intro (fun w' (hb : Below y2.heap.size y2 w') => same_any n t1 t2 _ _ w' (Vs.below hb _ _ _ (Vs.below D2.out _ _ _ X1.out)) (Vs.below hb _ _ _ (Vs.below D2.out _ _ _ X2.out)))
                  rw [hs] at HS
                  unfold vv at HS
                  have HT : Hid (∀ w', Below y2.heap.size y2 w' → (w'.cell? ⟨r0, 1, none⟩ = some (.bool false) ∧ w'.cell? ⟨r1, 1, none⟩ = some (.bool true) ∧ w'.cell? ⟨g, 0, none⟩ = some (.int .i64 t1.k) ∧ w'.cell? ⟨g, 1, none⟩ = some (.bool t1.b) ∧ w'.cell? ⟨g, 2, none⟩ = some (.int .i64 t1.i) ∧ w'.cell? ⟨g, 3, none⟩ = some (.string t1.s) ∧ w'.cell? ⟨g, 4, none⟩ = some (.slice x1 t1.l.length n1) ∧ w'.cell? ⟨g, 5, none⟩ = some (.int .i64 t2.k) ∧ w'.cell? ⟨g, 6, none⟩ = some (.bool t2.b) ∧ w'.cell? ⟨g, 7, none⟩ = some (.int .i64 t2.i) ∧ w'.cell? ⟨g, 8, none⟩ = some (.string t2.s) ∧ w'.cell? ⟨g, 9, none⟩ = some (.slice x2 t2.l.length n2))) := by
                    intro w' hb
                    obtain ⟨⟨m1, m2, m3, m4, m5⟩, ⟨o1, o2, o3, o4, o5⟩, m6, m7, -⟩ := HK.out w' (hb.via D2.out)
                    exact ⟨m6, m7, m1, m2, m3, m4, m5, o1, o2, o3, o4, o5⟩
                  obtain ⟨m6, m7, m1, m2, m3, m4, m5, o1, o2, o3, o4, o5⟩ := HT.out y2 (Below.refl _ _)
                  go_wp2
                  go_region_held3 (fun w' => w'.cell? ⟨r0, 1, none⟩ = some (.bool false) ∧ w'.cell? ⟨r1, 1, none⟩ = some (.bool true) ∧ w'.cell? ⟨g, 0, none⟩ = some (.int .i64 t1.k) ∧ w'.cell? ⟨g, 1, none⟩ = some (.bool t1.b) ∧ w'.cell? ⟨g, 2, none⟩ = some (.int .i64 t1.i) ∧ w'.cell? ⟨g, 3, none⟩ = some (.string t1.s) ∧ w'.cell? ⟨g, 4, none⟩ = some (.slice x1 t1.l.length n1) ∧ w'.cell? ⟨g, 5, none⟩ = some (.int .i64 t2.k) ∧ w'.cell? ⟨g, 6, none⟩ = some (.bool t2.b) ∧ w'.cell? ⟨g, 7, none⟩ = some (.int .i64 t2.i) ∧ w'.cell? ⟨g, 8, none⟩ = some (.string t2.s) ∧ w'.cell? ⟨g, 9, none⟩ = some (.slice x2 t2.l.length n2)) ((first | exact HT.out _ (Below.refl _ _).drew | exact HT.out _ D3.out)) ((go_at_call 17; refine (HS.out _ (Below.refl _ _).drew).mono ?_; rintro e y3 ⟨rfl, hc3⟩; have D3 := Hid.intro (hc3.via (Below.refl _ _).drew)))
                  clear hc3 HS HT m1 m2 m3 m4 m5 m6 m7 o1 o2 o3 o4 o5
                  have D4 := Hid.intro (D3.out.via D2.out)
                  go_wp2
                  go_roundw
                  case rel => exact ⟨k + 1, by omega, by go_num, HEnd.out _ D4.out⟩
                  case measure => simp [intOf]; omega
              · as_aux_lemma =>
                  rw [hs] at hb0 hb1
                  simp only [Bool.not_true] at hb1
                  subst hb0 hb1
                  rw [f1] at HY1
                  clear f1 HX
                  go_wp2_with fail
                  refine HY1.out.mono ?_
                  rintro e y1 ⟨rfl, hc1⟩
                  have D1 := Hid.intro hc1
                  obtain ⟨u1, u2, u3, u4, u5⟩ := (HK.out y1 D1.out).2.1
                  clear hc1 c1 c2 c3 c4 c5
                  have HY2 := Hid.intro (check_any n t2 _ y1 (Vs.below D1.out _ _ _ X2.out))
                  rw [f2] at HY2
                  clear f2 HY1
                  go_wp2_with fail
                  refine HY2.out.mono ?_
                  rintro e y2 ⟨rfl, hc2⟩
                  have D2 := Hid.intro (hc2.via D1.out)
                  clear hc2 HY2 u1 u2 u3 u4 u5 D1
                  have HS := Hid.intro (fun w' (hb : Below y2.heap.size y2 w') => same_any n t1 t2 _ _ w' (Vs.below hb _ _ _ (Vs.below D2.out _ _ _ X1.out)) (Vs.below hb _ _ _ (Vs.below D2.out _ _ _ X2.out)))
                  rw [hs] at HS
                  unfold vv at HS
                  have HT : Hid (∀ w', Below y2.heap.size y2 w' → (w'.cell? ⟨r0, 1, none⟩ = some (.bool true) ∧ w'.cell? ⟨r1, 1, none⟩ = some (.bool false) ∧ w'.cell? ⟨g, 0, none⟩ = some (.int .i64 t1.k) ∧ w'.cell? ⟨g, 1, none⟩ = some (.bool t1.b) ∧ w'.cell? ⟨g, 2, none⟩ = some (.int .i64 t1.i) ∧ w'.cell? ⟨g, 3, none⟩ = some (.string t1.s) ∧ w'.cell? ⟨g, 4, none⟩ = some (.slice x1 t1.l.length n1) ∧ w'.cell? ⟨g, 5, none⟩ = some (.int .i64 t2.k) ∧ w'.cell? ⟨g, 6, none⟩ = some (.bool t2.b) ∧ w'.cell? ⟨g, 7, none⟩ = some (.int .i64 t2.i) ∧ w'.cell? ⟨g, 8, none⟩ = some (.string t2.s) ∧ w'.cell? ⟨g, 9, none⟩ = some (.slice x2 t2.l.length n2))) := by
                    intro w' hb
                    obtain ⟨⟨m1, m2, m3, m4, m5⟩, ⟨o1, o2, o3, o4, o5⟩, m6, m7, -⟩ := HK.out w' (hb.via D2.out)
                    exact ⟨m6, m7, m1, m2, m3, m4, m5, o1, o2, o3, o4, o5⟩
                  obtain ⟨m6, m7, m1, m2, m3, m4, m5, o1, o2, o3, o4, o5⟩ := HT.out y2 (Below.refl _ _)
                  go_wp2
                  go_region_held3 (fun w' => w'.cell? ⟨r0, 1, none⟩ = some (.bool true) ∧ w'.cell? ⟨r1, 1, none⟩ = some (.bool false) ∧ w'.cell? ⟨g, 0, none⟩ = some (.int .i64 t1.k) ∧ w'.cell? ⟨g, 1, none⟩ = some (.bool t1.b) ∧ w'.cell? ⟨g, 2, none⟩ = some (.int .i64 t1.i) ∧ w'.cell? ⟨g, 3, none⟩ = some (.string t1.s) ∧ w'.cell? ⟨g, 4, none⟩ = some (.slice x1 t1.l.length n1) ∧ w'.cell? ⟨g, 5, none⟩ = some (.int .i64 t2.k) ∧ w'.cell? ⟨g, 6, none⟩ = some (.bool t2.b) ∧ w'.cell? ⟨g, 7, none⟩ = some (.int .i64 t2.i) ∧ w'.cell? ⟨g, 8, none⟩ = some (.string t2.s) ∧ w'.cell? ⟨g, 9, none⟩ = some (.slice x2 t2.l.length n2)) ((first | exact HT.out _ (Below.refl _ _).drew | exact HT.out _ D3.out)) ((go_at_call 17; refine (HS.out _ (Below.refl _ _).drew).mono ?_; rintro e y3 ⟨rfl, hc3⟩; have D3 := Hid.intro (hc3.via (Below.refl _ _).drew)))
                  clear hc3 HS HT m1 m2 m3 m4 m5 m6 m7 o1 o2 o3 o4 o5
                  have D4 := Hid.intro (D3.out.via D2.out)
                  go_wp2
                  go_roundw
                  case rel => exact ⟨k + 1, by omega, by go_num, HEnd.out _ D4.out⟩
                  case measure => simp [intOf]; omega
            · as_aux_lemma =>
                rw [f1] at HY1
                clear f1 HX
                go_wp2_with fail
                refine HY1.out.mono ?_
                rintro e y1 ⟨rfl, hc1⟩
                have D1 := Hid.intro hc1
                obtain ⟨u1, u2, u3, u4, u5⟩ := (HK.out y1 D1.out).2.1
                clear hc1 c1 c2 c3 c4 c5
                have HY2 := Hid.intro (check_any n t2 _ y1 (Vs.below D1.out _ _ _ X2.out))
                rw [f2] at HY2
                clear f2 HY1
                go_wp2_with fail
                refine HY2.out.mono ?_
                rintro e y2 ⟨rfl, hc2⟩
                have D2 := Hid.intro (hc2.via D1.out)
                clear hc2 HY2 u1 u2 u3 u4 u5 D1
                have HS := Hid.intro (fun w' (hb : Below y2.heap.size y2 w') => same_any n t1 t2 _ _ w' (Vs.below hb _ _ _ (Vs.below D2.out _ _ _ X1.out)) (Vs.below hb _ _ _ (Vs.below D2.out _ _ _ X2.out)))
                rw [hs] at HS
                unfold vv at HS
                have HT : Hid (∀ w', Below y2.heap.size y2 w' → (w'.cell? ⟨r0, 1, none⟩ = some (.bool false) ∧ w'.cell? ⟨r1, 1, none⟩ = some (.bool true) ∧ w'.cell? ⟨g, 0, none⟩ = some (.int .i64 t1.k) ∧ w'.cell? ⟨g, 1, none⟩ = some (.bool t1.b) ∧ w'.cell? ⟨g, 2, none⟩ = some (.int .i64 t1.i) ∧ w'.cell? ⟨g, 3, none⟩ = some (.string t1.s) ∧ w'.cell? ⟨g, 4, none⟩ = some (.slice x1 t1.l.length n1) ∧ w'.cell? ⟨g, 5, none⟩ = some (.int .i64 t2.k) ∧ w'.cell? ⟨g, 6, none⟩ = some (.bool t2.b) ∧ w'.cell? ⟨g, 7, none⟩ = some (.int .i64 t2.i) ∧ w'.cell? ⟨g, 8, none⟩ = some (.string t2.s) ∧ w'.cell? ⟨g, 9, none⟩ = some (.slice x2 t2.l.length n2))) := by
                  intro w' hb
                  obtain ⟨⟨m1, m2, m3, m4, m5⟩, ⟨o1, o2, o3, o4, o5⟩, m6, m7, -⟩ := HK.out w' (hb.via D2.out)
                  exact ⟨m6, m7, m1, m2, m3, m4, m5, o1, o2, o3, o4, o5⟩
                obtain ⟨m6, m7, m1, m2, m3, m4, m5, o1, o2, o3, o4, o5⟩ := HT.out y2 (Below.refl _ _)
                go_wp2
                go_region_held3 (fun w' => w'.cell? ⟨r0, 1, none⟩ = some (.bool false) ∧ w'.cell? ⟨r1, 1, none⟩ = some (.bool true) ∧ w'.cell? ⟨g, 0, none⟩ = some (.int .i64 t1.k) ∧ w'.cell? ⟨g, 1, none⟩ = some (.bool t1.b) ∧ w'.cell? ⟨g, 2, none⟩ = some (.int .i64 t1.i) ∧ w'.cell? ⟨g, 3, none⟩ = some (.string t1.s) ∧ w'.cell? ⟨g, 4, none⟩ = some (.slice x1 t1.l.length n1) ∧ w'.cell? ⟨g, 5, none⟩ = some (.int .i64 t2.k) ∧ w'.cell? ⟨g, 6, none⟩ = some (.bool t2.b) ∧ w'.cell? ⟨g, 7, none⟩ = some (.int .i64 t2.i) ∧ w'.cell? ⟨g, 8, none⟩ = some (.string t2.s) ∧ w'.cell? ⟨g, 9, none⟩ = some (.slice x2 t2.l.length n2)) ((first | exact HT.out _ (Below.refl _ _).drew | exact HT.out _ D3.out)) ((go_at_call 17; refine (HS.out _ (Below.refl _ _).drew).mono ?_; rintro e y3 ⟨rfl, hc3⟩; have D3 := Hid.intro (hc3.via (Below.refl _ _).drew)))
                clear hc3 HS HT m1 m2 m3 m4 m5 m6 m7 o1 o2 o3 o4 o5
                have D4 := Hid.intro (D3.out.via D2.out)
                have HO := Hid.intro (fun w' (hb : Below y3.heap.size y3 w') => order_any n t1 t2 _ _ w' (Vs.below hb _ _ _ (Vs.below D4.out _ _ _ X1.out)) (Vs.below hb _ _ _ (Vs.below D4.out _ _ _ X2.out)))
                rw [hy] at HO
                unfold vv at HO
                have HT : Hid (∀ w', Below y3.heap.size y3 w' → (w'.cell? ⟨g, 0, none⟩ = some (.int .i64 t1.k) ∧ w'.cell? ⟨g, 1, none⟩ = some (.bool t1.b) ∧ w'.cell? ⟨g, 2, none⟩ = some (.int .i64 t1.i) ∧ w'.cell? ⟨g, 3, none⟩ = some (.string t1.s) ∧ w'.cell? ⟨g, 4, none⟩ = some (.slice x1 t1.l.length n1) ∧ w'.cell? ⟨g, 5, none⟩ = some (.int .i64 t2.k) ∧ w'.cell? ⟨g, 6, none⟩ = some (.bool t2.b) ∧ w'.cell? ⟨g, 7, none⟩ = some (.int .i64 t2.i) ∧ w'.cell? ⟨g, 8, none⟩ = some (.string t2.s) ∧ w'.cell? ⟨g, 9, none⟩ = some (.slice x2 t2.l.length n2))) := by
                  intro w' hb
                  obtain ⟨⟨m1, m2, m3, m4, m5⟩, ⟨o1, o2, o3, o4, o5⟩, -⟩ := HK.out w' (hb.via D4.out)
                  exact ⟨m1, m2, m3, m4, m5, o1, o2, o3, o4, o5⟩
                obtain ⟨m1, m2, m3, m4, m5, o1, o2, o3, o4, o5⟩ := HT.out y3 (Below.refl _ _)
                go_wp2
                go_region_held3 (fun w' => w'.cell? ⟨g, 0, none⟩ = some (.int .i64 t1.k) ∧ w'.cell? ⟨g, 1, none⟩ = some (.bool t1.b) ∧ w'.cell? ⟨g, 2, none⟩ = some (.int .i64 t1.i) ∧ w'.cell? ⟨g, 3, none⟩ = some (.string t1.s) ∧ w'.cell? ⟨g, 4, none⟩ = some (.slice x1 t1.l.length n1) ∧ w'.cell? ⟨g, 5, none⟩ = some (.int .i64 t2.k) ∧ w'.cell? ⟨g, 6, none⟩ = some (.bool t2.b) ∧ w'.cell? ⟨g, 7, none⟩ = some (.int .i64 t2.i) ∧ w'.cell? ⟨g, 8, none⟩ = some (.string t2.s) ∧ w'.cell? ⟨g, 9, none⟩ = some (.slice x2 t2.l.length n2)) ((first | exact HT.out _ (Below.refl _ _).drew | exact HT.out _ D5.out)) ((go_at_call 16; refine (HO.out _ (Below.refl _ _).drew).mono ?_; rintro e y4 ⟨rfl, hc4⟩; have D5 := Hid.intro (hc4.via (Below.refl _ _).drew)))
                have D6 := Hid.intro (D5.out.via D4.out)
                obtain ⟨-, -, m6, m7, m8, m9, m10, m11⟩ := HK.out _ D6.out
                clear hc4 HO HT m1 m2 m3 m4 m5 o1 o2 o3 o4 o5 D5 D4 D3 D2
                go_wp2
                go_roundw
                case rel => exact ⟨k + 1, by omega, by go_num, HEnd.out _ D6.out⟩
                case measure => simp [intOf]; omega
            · as_aux_lemma =>
                rw [f1] at HY1
                clear f1 HX
                go_wp2_with fail
                refine HY1.out.mono ?_
                rintro e y1 ⟨rfl, hc1⟩
                have D1 := Hid.intro hc1
                obtain ⟨u1, u2, u3, u4, u5⟩ := (HK.out y1 D1.out).2.1
                clear hc1 c1 c2 c3 c4 c5
                have HY2 := Hid.intro (check_any n t2 _ y1 (Vs.below D1.out _ _ _ X2.out))
                rw [f2] at HY2
                clear f2 HY1
                go_wp2_with fail
                refine HY2.out.mono ?_
                rintro e y2 ⟨rfl, hc2⟩
                have D2 := Hid.intro (hc2.via D1.out)
                clear hc2 HY2 u1 u2 u3 u4 u5 D1
                have HS := Hid.intro (fun w' (hb : Below y2.heap.size y2 w') => same_any n t1 t2 _ _ w' (Vs.below hb _ _ _ (Vs.below D2.out _ _ _ X1.out)) (Vs.below hb _ _ _ (Vs.below D2.out _ _ _ X2.out)))
                rw [hs] at HS
                unfold vv at HS
                have HT : Hid (∀ w', Below y2.heap.size y2 w' → (w'.cell? ⟨r0, 1, none⟩ = some (.bool true) ∧ w'.cell? ⟨r1, 1, none⟩ = some (.bool false) ∧ w'.cell? ⟨g, 0, none⟩ = some (.int .i64 t1.k) ∧ w'.cell? ⟨g, 1, none⟩ = some (.bool t1.b) ∧ w'.cell? ⟨g, 2, none⟩ = some (.int .i64 t1.i) ∧ w'.cell? ⟨g, 3, none⟩ = some (.string t1.s) ∧ w'.cell? ⟨g, 4, none⟩ = some (.slice x1 t1.l.length n1) ∧ w'.cell? ⟨g, 5, none⟩ = some (.int .i64 t2.k) ∧ w'.cell? ⟨g, 6, none⟩ = some (.bool t2.b) ∧ w'.cell? ⟨g, 7, none⟩ = some (.int .i64 t2.i) ∧ w'.cell? ⟨g, 8, none⟩ = some (.string t2.s) ∧ w'.cell? ⟨g, 9, none⟩ = some (.slice x2 t2.l.length n2))) := by
                  intro w' hb
                  obtain ⟨⟨m1, m2, m3, m4, m5⟩, ⟨o1, o2, o3, o4, o5⟩, m6, m7, -⟩ := HK.out w' (hb.via D2.out)
                  exact ⟨m6, m7, m1, m2, m3, m4, m5, o1, o2, o3, o4, o5⟩
                obtain ⟨m6, m7, m1, m2, m3, m4, m5, o1, o2, o3, o4, o5⟩ := HT.out y2 (Below.refl _ _)
                go_wp2
                go_region_held3 (fun w' => w'.cell? ⟨r0, 1, none⟩ = some (.bool true) ∧ w'.cell? ⟨r1, 1, none⟩ = some (.bool false) ∧ w'.cell? ⟨g, 0, none⟩ = some (.int .i64 t1.k) ∧ w'.cell? ⟨g, 1, none⟩ = some (.bool t1.b) ∧ w'.cell? ⟨g, 2, none⟩ = some (.int .i64 t1.i) ∧ w'.cell? ⟨g, 3, none⟩ = some (.string t1.s) ∧ w'.cell? ⟨g, 4, none⟩ = some (.slice x1 t1.l.length n1) ∧ w'.cell? ⟨g, 5, none⟩ = some (.int .i64 t2.k) ∧ w'.cell? ⟨g, 6, none⟩ = some (.bool t2.b) ∧ w'.cell? ⟨g, 7, none⟩ = some (.int .i64 t2.i) ∧ w'.cell? ⟨g, 8, none⟩ = some (.string t2.s) ∧ w'.cell? ⟨g, 9, none⟩ = some (.slice x2 t2.l.length n2)) ((first | exact HT.out _ (Below.refl _ _).drew | exact HT.out _ D3.out)) ((go_at_call 17; refine (HS.out _ (Below.refl _ _).drew).mono ?_; rintro e y3 ⟨rfl, hc3⟩; have D3 := Hid.intro (hc3.via (Below.refl _ _).drew)))
                clear hc3 HS HT m1 m2 m3 m4 m5 m6 m7 o1 o2 o3 o4 o5
                have D4 := Hid.intro (D3.out.via D2.out)
                have HO := Hid.intro (fun w' (hb : Below y3.heap.size y3 w') => order_any n t1 t2 _ _ w' (Vs.below hb _ _ _ (Vs.below D4.out _ _ _ X1.out)) (Vs.below hb _ _ _ (Vs.below D4.out _ _ _ X2.out)))
                rw [hy] at HO
                unfold vv at HO
                have HT : Hid (∀ w', Below y3.heap.size y3 w' → (w'.cell? ⟨g, 0, none⟩ = some (.int .i64 t1.k) ∧ w'.cell? ⟨g, 1, none⟩ = some (.bool t1.b) ∧ w'.cell? ⟨g, 2, none⟩ = some (.int .i64 t1.i) ∧ w'.cell? ⟨g, 3, none⟩ = some (.string t1.s) ∧ w'.cell? ⟨g, 4, none⟩ = some (.slice x1 t1.l.length n1) ∧ w'.cell? ⟨g, 5, none⟩ = some (.int .i64 t2.k) ∧ w'.cell? ⟨g, 6, none⟩ = some (.bool t2.b) ∧ w'.cell? ⟨g, 7, none⟩ = some (.int .i64 t2.i) ∧ w'.cell? ⟨g, 8, none⟩ = some (.string t2.s) ∧ w'.cell? ⟨g, 9, none⟩ = some (.slice x2 t2.l.length n2))) := by
                  intro w' hb
                  obtain ⟨⟨m1, m2, m3, m4, m5⟩, ⟨o1, o2, o3, o4, o5⟩, -⟩ := HK.out w' (hb.via D4.out)
                  exact ⟨m1, m2, m3, m4, m5, o1, o2, o3, o4, o5⟩
                obtain ⟨m1, m2, m3, m4, m5, o1, o2, o3, o4, o5⟩ := HT.out y3 (Below.refl _ _)
                go_wp2
                go_region_held3 (fun w' => w'.cell? ⟨g, 0, none⟩ = some (.int .i64 t1.k) ∧ w'.cell? ⟨g, 1, none⟩ = some (.bool t1.b) ∧ w'.cell? ⟨g, 2, none⟩ = some (.int .i64 t1.i) ∧ w'.cell? ⟨g, 3, none⟩ = some (.string t1.s) ∧ w'.cell? ⟨g, 4, none⟩ = some (.slice x1 t1.l.length n1) ∧ w'.cell? ⟨g, 5, none⟩ = some (.int .i64 t2.k) ∧ w'.cell? ⟨g, 6, none⟩ = some (.bool t2.b) ∧ w'.cell? ⟨g, 7, none⟩ = some (.int .i64 t2.i) ∧ w'.cell? ⟨g, 8, none⟩ = some (.string t2.s) ∧ w'.cell? ⟨g, 9, none⟩ = some (.slice x2 t2.l.length n2)) ((first | exact HT.out _ (Below.refl _ _).drew | exact HT.out _ D5.out)) ((go_at_call 16; refine (HO.out _ (Below.refl _ _).drew).mono ?_; rintro e y4 ⟨rfl, hc4⟩; have D5 := Hid.intro (hc4.via (Below.refl _ _).drew)))
                have D6 := Hid.intro (D5.out.via D4.out)
                obtain ⟨-, -, m6, m7, m8, m9, m10, m11⟩ := HK.out _ D6.out
                clear hc4 HO HT m1 m2 m3 m4 m5 o1 o2 o3 o4 o5 D5 D4 D3 D2
                go_wp2
                go_roundw
                case rel => exact ⟨k + 1, by omega, by go_num, HEnd.out _ D6.out⟩
                case measure => simp [intOf]; omega
            · as_aux_lemma =>
                rw [f1] at HY1
                clear f1 HX
                go_wp2_with fail
                refine HY1.out.mono ?_
                rintro e y1 ⟨rfl, hc1⟩
                have D1 := Hid.intro hc1
                obtain ⟨u1, u2, u3, u4, u5⟩ := (HK.out y1 D1.out).2.1
                clear hc1 c1 c2 c3 c4 c5
                have HY2 := Hid.intro (check_any n t2 _ y1 (Vs.below D1.out _ _ _ X2.out))
                rw [f2] at HY2
                clear f2 HY1
                go_wp2_with fail
                refine HY2.out.mono ?_
                rintro e y2 ⟨rfl, hc2⟩
                have D2 := Hid.intro (hc2.via D1.out)
                clear hc2 HY2 u1 u2 u3 u4 u5 D1
                have HS := Hid.intro (fun w' (hb : Below y2.heap.size y2 w') => same_any n t1 t2 _ _ w' (Vs.below hb _ _ _ (Vs.below D2.out _ _ _ X1.out)) (Vs.below hb _ _ _ (Vs.below D2.out _ _ _ X2.out)))
                rw [hs] at HS
                unfold vv at HS
                have HT : Hid (∀ w', Below y2.heap.size y2 w' → (w'.cell? ⟨r0, 1, none⟩ = some (.bool false) ∧ w'.cell? ⟨r1, 1, none⟩ = some (.bool true) ∧ w'.cell? ⟨g, 0, none⟩ = some (.int .i64 t1.k) ∧ w'.cell? ⟨g, 1, none⟩ = some (.bool t1.b) ∧ w'.cell? ⟨g, 2, none⟩ = some (.int .i64 t1.i) ∧ w'.cell? ⟨g, 3, none⟩ = some (.string t1.s) ∧ w'.cell? ⟨g, 4, none⟩ = some (.slice x1 t1.l.length n1) ∧ w'.cell? ⟨g, 5, none⟩ = some (.int .i64 t2.k) ∧ w'.cell? ⟨g, 6, none⟩ = some (.bool t2.b) ∧ w'.cell? ⟨g, 7, none⟩ = some (.int .i64 t2.i) ∧ w'.cell? ⟨g, 8, none⟩ = some (.string t2.s) ∧ w'.cell? ⟨g, 9, none⟩ = some (.slice x2 t2.l.length n2))) := by
                  intro w' hb
                  obtain ⟨⟨m1, m2, m3, m4, m5⟩, ⟨o1, o2, o3, o4, o5⟩, m6, m7, -⟩ := HK.out w' (hb.via D2.out)
                  exact ⟨m6, m7, m1, m2, m3, m4, m5, o1, o2, o3, o4, o5⟩
                obtain ⟨m6, m7, m1, m2, m3, m4, m5, o1, o2, o3, o4, o5⟩ := HT.out y2 (Below.refl _ _)
                go_wp2
                go_region_held3 (fun w' => w'.cell? ⟨r0, 1, none⟩ = some (.bool false) ∧ w'.cell? ⟨r1, 1, none⟩ = some (.bool true) ∧ w'.cell? ⟨g, 0, none⟩ = some (.int .i64 t1.k) ∧ w'.cell? ⟨g, 1, none⟩ = some (.bool t1.b) ∧ w'.cell? ⟨g, 2, none⟩ = some (.int .i64 t1.i) ∧ w'.cell? ⟨g, 3, none⟩ = some (.string t1.s) ∧ w'.cell? ⟨g, 4, none⟩ = some (.slice x1 t1.l.length n1) ∧ w'.cell? ⟨g, 5, none⟩ = some (.int .i64 t2.k) ∧ w'.cell? ⟨g, 6, none⟩ = some (.bool t2.b) ∧ w'.cell? ⟨g, 7, none⟩ = some (.int .i64 t2.i) ∧ w'.cell? ⟨g, 8, none⟩ = some (.string t2.s) ∧ w'.cell? ⟨g, 9, none⟩ = some (.slice x2 t2.l.length n2)) ((first | exact HT.out _ (Below.refl _ _).drew | exact HT.out _ D3.out)) ((go_at_call 17; refine (HS.out _ (Below.refl _ _).drew).mono ?_; rintro e y3 ⟨rfl, hc3⟩; have D3 := Hid.intro (hc3.via (Below.refl _ _).drew)))
                clear hc3 HS HT m1 m2 m3 m4 m5 m6 m7 o1 o2 o3 o4 o5
                have D4 := Hid.intro (D3.out.via D2.out)
                have HO := Hid.intro (fun w' (hb : Below y3.heap.size y3 w') => order_any n t1 t2 _ _ w' (Vs.below hb _ _ _ (Vs.below D4.out _ _ _ X1.out)) (Vs.below hb _ _ _ (Vs.below D4.out _ _ _ X2.out)))
                rw [hy] at HO
                unfold vv at HO
                have HT : Hid (∀ w', Below y3.heap.size y3 w' → (w'.cell? ⟨g, 0, none⟩ = some (.int .i64 t1.k) ∧ w'.cell? ⟨g, 1, none⟩ = some (.bool t1.b) ∧ w'.cell? ⟨g, 2, none⟩ = some (.int .i64 t1.i) ∧ w'.cell? ⟨g, 3, none⟩ = some (.string t1.s) ∧ w'.cell? ⟨g, 4, none⟩ = some (.slice x1 t1.l.length n1) ∧ w'.cell? ⟨g, 5, none⟩ = some (.int .i64 t2.k) ∧ w'.cell? ⟨g, 6, none⟩ = some (.bool t2.b) ∧ w'.cell? ⟨g, 7, none⟩ = some (.int .i64 t2.i) ∧ w'.cell? ⟨g, 8, none⟩ = some (.string t2.s) ∧ w'.cell? ⟨g, 9, none⟩ = some (.slice x2 t2.l.length n2))) := by
                  intro w' hb
                  obtain ⟨⟨m1, m2, m3, m4, m5⟩, ⟨o1, o2, o3, o4, o5⟩, -⟩ := HK.out w' (hb.via D4.out)
                  exact ⟨m1, m2, m3, m4, m5, o1, o2, o3, o4, o5⟩
                obtain ⟨m1, m2, m3, m4, m5, o1, o2, o3, o4, o5⟩ := HT.out y3 (Below.refl _ _)
                go_wp2
                go_region_held3 (fun w' => w'.cell? ⟨g, 0, none⟩ = some (.int .i64 t1.k) ∧ w'.cell? ⟨g, 1, none⟩ = some (.bool t1.b) ∧ w'.cell? ⟨g, 2, none⟩ = some (.int .i64 t1.i) ∧ w'.cell? ⟨g, 3, none⟩ = some (.string t1.s) ∧ w'.cell? ⟨g, 4, none⟩ = some (.slice x1 t1.l.length n1) ∧ w'.cell? ⟨g, 5, none⟩ = some (.int .i64 t2.k) ∧ w'.cell? ⟨g, 6, none⟩ = some (.bool t2.b) ∧ w'.cell? ⟨g, 7, none⟩ = some (.int .i64 t2.i) ∧ w'.cell? ⟨g, 8, none⟩ = some (.string t2.s) ∧ w'.cell? ⟨g, 9, none⟩ = some (.slice x2 t2.l.length n2)) ((first | exact HT.out _ (Below.refl _ _).drew | exact HT.out _ D5.out)) ((go_at_call 16; refine (HO.out _ (Below.refl _ _).drew).mono ?_; rintro e y4 ⟨rfl, hc4⟩; have D5 := Hid.intro (hc4.via (Below.refl _ _).drew)))
                have D6 := Hid.intro (D5.out.via D4.out)
                obtain ⟨-, -, m6, m7, m8, m9, m10, m11⟩ := HK.out _ D6.out
                clear hc4 HO HT m1 m2 m3 m4 m5 o1 o2 o3 o4 o5 D5 D4 D3 D2
                go_wp2
                go_roundw
                case rel => exact ⟨k + 1, by omega, by go_num, HEnd.out _ D6.out⟩
                case measure => simp [intOf]; omega
        · go_wp2_with (go_at_call 10; refine (wakes_any _).mono ?_; rintro e w2 ⟨rfl, hb2⟩)
          go_ret
          exact ⟨rfl, hb2.via (below_box hbw.out)⟩
      · have hlt' : ¬ (k : Int) + 1 < (ts.length : Int) := by omega
        go_wp2_with (go_at_call 10; refine (wakes_any _).mono ?_; rintro e w2 ⟨rfl, hb2⟩)
        go_ret
        exact ⟨rfl, hb2.via (below_box hbw.out)⟩
end Go.Proofs.YtocpfmhipppnlaaDoor
