import Derived.Test.YtoeodjobggodcaaGreatDoorJoin00
import Derived.RangeFuncNested
import Derived.RangeFuncLeaves
import Derived.RangeFuncCalls
import Derived.Shelf.Abstract
import Derived.WalkKit
import Derived.OwnWalkIn
import Derived.TacticsInMore
import Derived.LoopNIn
import Derived.LoopIn
import Derived.Maps.OwnIn
import Derived.RangeFuncBox
import Derived.Shelf.RegionOpen
/- lexemeAt: what it tells. -/
namespace Go.Proofs.YtoeodjobggodcaaGreatDoor
section
open Go.RowKit
def oneL (a : Nat) (l : List UInt8) : Option Lx := match l with
 | [] => none
 | c :: r => if isLet c then some ⟨0, bs ((c :: r).takeWhile isCh), a, a + ((c :: r).takeWhile isCh).length⟩
  else if isDig c then some ⟨2, bs ((c :: r).takeWhile isDig), a, a + ((c :: r).takeWhile isDig).length⟩
  else if c = 36 then varL a r
  else if c = 34 then quoL a r
  else markL a (c :: r)
set_option maxRecDepth 100000 in
set_option maxHeartbeats 8000000 in
theorem lexemeAt_any (s : ByteArray) (a : Nat) (ha : a < s.size) (hs : s.size ≤ 1000000) (w : World) :
  Calls Tryz.prog 54 #[.string s, .int .i64 (a : Int)] w fun x w' => x = .returned (told (oneL a (tl s a)) a) ∧ Below w.heap.size w w' := by
 have hi : (a : Int) < (s.size : Int) := by omega
 have HL := fun w => letter_any (s[a].toNat : Int) w
 have HD := fun w => digit_any (s[a].toNat : Int) w
 have ho : oneL a (tl s a) = if isLet s[a] then some ⟨0, bs ((tl s a).takeWhile isCh), a, a + ((tl s a).takeWhile isCh).length⟩
  else if isDig s[a] then some ⟨2, bs ((tl s a).takeWhile isDig), a, a + ((tl s a).takeWhile isDig).length⟩
  else if s[a] = 36 then varL a (tl s (a + 1))
  else if s[a] = 34 then quoL a (tl s (a + 1))
  else markL a (tl s a) := by rw [tl_cons ha]; rfl
 rw [ho]
 clear ho
 cases c1 : letB (s[a].toNat : Int) with
 | true =>
  rw [c1] at HL
  rw [if_pos (show isLet s[a] = true from c1)]
  have HW := fun w => Hid.intro (behindWord_any s a (by omega) hs w)
  have HC := fun w => Hid.intro (cut_any 0 s a a (a + run isCh s a) (by omega) (run_le isCh s a (by omega)) hs w)
  rw [bs_run] at HC
  unfold run at HC HW
  simp only [told, Lx.v]
  generalize a + ((tl s a).takeWhile isCh).length = E at HW HC ⊢
  generalize bs ((tl s a).takeWhile isCh) = T at HC ⊢
  simp only [lxv] at HC
  go_enter Tryz.func54, Tryz.ntmps54
  go_wp2_with (first | (go_at_call 95; refine (HL _).mono ?_; rintro e w1 ⟨rfl, hw1⟩; subst w1) | (go_at_call 97; refine (HW _).out.mono ?_; rintro e w1 ⟨rfl, hw1⟩; subst w1) | (go_at_call 96; refine (HC _).out.mono ?_; rintro e w1 ⟨rfl, hw1⟩; have HF := Hid.intro (F4.call hw1); have HB := Hid.intro (below_of hw1); obtain ⟨⟨z0, z1, z2, z3⟩, y0, y1, y2, y3⟩ := HF.out; clear hw1))
  refine bodyPost_ret (v := .tuple #[lxv 0 T (a : Int) (E : Int), .bool true]) ?_ rfl ⟨rfl, below_set4 HB.out (Nat.le_refl _) _ _ _ _⟩
  obtain ⟨⟨g0, g1, g2, g3⟩, -⟩ := HF.out.put (.int .i64 0) (.string T) (.int .i64 (a : Int)) (.int .i64 (E : Int))
  simp [results, Tryz.results54, go_sem, g0, g1, g2, g3, lxv]
 | false =>
  rw [c1] at HL
  rw [if_neg (show ¬ isLet s[a] = true by rw [isLet, c1]; decide)]
  cases c2 : digB (s[a].toNat : Int) with
  | true =>
   rw [c2] at HD
   rw [if_pos (show isDig s[a] = true from c2)]
   have HW := fun w => Hid.intro (behindDigits_any s a (by omega) hs w)
   have HC := fun w => Hid.intro (cut_any 2 s a a (a + run isDig s a) (by omega) (run_le isDig s a (by omega)) hs w)
   rw [bs_run] at HC
   unfold run at HC HW
   simp only [told, Lx.v]
   generalize a + ((tl s a).takeWhile isDig).length = E at HW HC ⊢
   generalize bs ((tl s a).takeWhile isDig) = T at HC ⊢
   simp only [lxv] at HC
   go_enter Tryz.func54, Tryz.ntmps54
   go_wp2_with (first | (go_at_call 95; refine (HL _).mono ?_; rintro e w1 ⟨rfl, hw1⟩; subst w1) | (go_at_call 98; refine (HD _).mono ?_; rintro e w1 ⟨rfl, hw1⟩; subst w1) | (go_at_call 99; refine (HW _).out.mono ?_; rintro e w1 ⟨rfl, hw1⟩; subst w1) | (go_at_call 96; refine (HC _).out.mono ?_; rintro e w1 ⟨rfl, hw1⟩; have HF := Hid.intro (F4.call hw1); have HB := Hid.intro (below_of hw1); obtain ⟨⟨z0, z1, z2, z3⟩, y0, y1, y2, y3⟩ := HF.out; clear hw1))
   refine bodyPost_ret (v := .tuple #[lxv 2 T (a : Int) (E : Int), .bool true]) ?_ rfl ⟨rfl, below_set4 HB.out (Nat.le_refl _) _ _ _ _⟩
   obtain ⟨⟨g0, g1, g2, g3⟩, -⟩ := HF.out.put (.int .i64 2) (.string T) (.int .i64 (a : Int)) (.int .i64 (E : Int))
   simp [results, Tryz.results54, go_sem, g0, g1, g2, g3, lxv]
  | false =>
   rw [c2] at HD
   rw [if_neg (show ¬ isDig s[a] = true by rw [isDig, c2]; decide)]
   by_cases c3 : (s[a].toNat : Int) = 36
   ·rw [if_pos (UInt8.toNat_inj.1 (show s[a].toNat = 36 by omega) : s[a] = 36)]
    have c3b : ((s[a].toNat : Int) == 36) = true := beq_iff_eq.2 c3
    clear c1 c2 c3
    have HX := fun w => Hid.intro (variable_any s a ha hs w)
    generalize varL a (tl s (a + 1)) = R at HX ⊢
    cases R with
    | none =>
     simp only [told, lxv] at HX ⊢
     go_enter Tryz.func54, Tryz.ntmps54
     go_wp2_with (first | (go_at_call 95; refine (HL _).mono ?_; rintro e w1 ⟨rfl, hw1⟩; subst w1) | (go_at_call 98; refine (HD _).mono ?_; rintro e w1 ⟨rfl, hw1⟩; subst w1) | (go_at_call 100; refine (HX _).out.mono ?_; rintro e w1 ⟨rfl, hw1⟩; have HF := Hid.intro (F4.call hw1); have HB := Hid.intro (below_of hw1); obtain ⟨⟨z0, z1, z2, z3⟩, y0, y1, y2, y3⟩ := HF.out; clear hw1))
     refine bodyPost_ret (v := .tuple #[lxv 0 ⟨#[]⟩ (a : Int) 0, .bool false]) ?_ rfl ⟨rfl, below_set4 HB.out (Nat.le_refl _) _ _ _ _⟩
     obtain ⟨⟨g0, g1, g2, g3⟩, -⟩ := HF.out.put (.int .i64 0) (.string ⟨#[]⟩) (.int .i64 (a : Int)) (.int .i64 0)
     simp [results, Tryz.results54, go_sem, g0, g1, g2, g3, lxv]
    | some x =>
     simp only [told, Lx.v, lxv] at HX ⊢
     go_enter Tryz.func54, Tryz.ntmps54
     go_wp2_with (first | (go_at_call 95; refine (HL _).mono ?_; rintro e w1 ⟨rfl, hw1⟩; subst w1) | (go_at_call 98; refine (HD _).mono ?_; rintro e w1 ⟨rfl, hw1⟩; subst w1) | (go_at_call 100; refine (HX _).out.mono ?_; rintro e w1 ⟨rfl, hw1⟩; have HF := Hid.intro (F4.call hw1); have HB := Hid.intro (below_of hw1); obtain ⟨⟨z0, z1, z2, z3⟩, y0, y1, y2, y3⟩ := HF.out; clear hw1))
     refine bodyPost_ret (v := .tuple #[lxv x.k x.t (x.a : Int) (x.e : Int), .bool true]) ?_ rfl ⟨rfl, below_set4 HB.out (Nat.le_refl _) _ _ _ _⟩
     obtain ⟨⟨g0, g1, g2, g3⟩, -⟩ := HF.out.put (.int .i64 x.k) (.string x.t) (.int .i64 (x.a : Int)) (.int .i64 (x.e : Int))
     simp [results, Tryz.results54, go_sem, g0, g1, g2, g3, lxv]
   ·rw [if_neg (show ¬ s[a] = 36 from fun e => c3 (by rw [e]; rfl))]
    have c3b : ((s[a].toNat : Int) == 36) = false := beq_false_of_ne c3
    by_cases c4 : (s[a].toNat : Int) = 34
    ·rw [if_pos (UInt8.toNat_inj.1 (show s[a].toNat = 34 by omega) : s[a] = 34)]
     have c4b : ((s[a].toNat : Int) == 34) = true := beq_iff_eq.2 c4
     clear c1 c2 c3 c4
     have HX := fun w => Hid.intro (quoted_any s a ha hs w)
     generalize quoL a (tl s (a + 1)) = R at HX ⊢
     cases R with
     | none =>
      simp only [told, lxv] at HX ⊢
      go_enter Tryz.func54, Tryz.ntmps54
      go_wp2_with (first | (go_at_call 95; refine (HL _).mono ?_; rintro e w1 ⟨rfl, hw1⟩; subst w1) | (go_at_call 98; refine (HD _).mono ?_; rintro e w1 ⟨rfl, hw1⟩; subst w1) | (go_at_call 101; refine (HX _).out.mono ?_; rintro e w1 ⟨rfl, hw1⟩; have HF := Hid.intro (F4.call hw1); have HB := Hid.intro (below_of hw1); obtain ⟨⟨z0, z1, z2, z3⟩, y0, y1, y2, y3⟩ := HF.out; clear hw1))
      refine bodyPost_ret (v := .tuple #[lxv 0 ⟨#[]⟩ (a : Int) 0, .bool false]) ?_ rfl ⟨rfl, below_set4 HB.out (Nat.le_refl _) _ _ _ _⟩
      obtain ⟨⟨g0, g1, g2, g3⟩, -⟩ := HF.out.put (.int .i64 0) (.string ⟨#[]⟩) (.int .i64 (a : Int)) (.int .i64 0)
      simp [results, Tryz.results54, go_sem, g0, g1, g2, g3, lxv]
     | some x =>
      simp only [told, Lx.v, lxv] at HX ⊢
      go_enter Tryz.func54, Tryz.ntmps54
      go_wp2_with (first | (go_at_call 95; refine (HL _).mono ?_; rintro e w1 ⟨rfl, hw1⟩; subst w1) | (go_at_call 98; refine (HD _).mono ?_; rintro e w1 ⟨rfl, hw1⟩; subst w1) | (go_at_call 101; refine (HX _).out.mono ?_; rintro e w1 ⟨rfl, hw1⟩; have HF := Hid.intro (F4.call hw1); have HB := Hid.intro (below_of hw1); obtain ⟨⟨z0, z1, z2, z3⟩, y0, y1, y2, y3⟩ := HF.out; clear hw1))
      refine bodyPost_ret (v := .tuple #[lxv x.k x.t (x.a : Int) (x.e : Int), .bool true]) ?_ rfl ⟨rfl, below_set4 HB.out (Nat.le_refl _) _ _ _ _⟩
      obtain ⟨⟨g0, g1, g2, g3⟩, -⟩ := HF.out.put (.int .i64 x.k) (.string x.t) (.int .i64 (x.a : Int)) (.int .i64 (x.e : Int))
      simp [results, Tryz.results54, go_sem, g0, g1, g2, g3, lxv]
    ·rw [if_neg (show ¬ s[a] = 34 from fun e => c4 (by rw [e]; rfl))]
     have c4b : ((s[a].toNat : Int) == 34) = false := beq_false_of_ne c4
     clear c1 c2 c3 c4
     have HX := fun w => Hid.intro (mark_any s a ha hs w)
     generalize markL a (tl s a) = R at HX ⊢
     cases R with
     | none =>
      simp only [told, lxv] at HX ⊢
      go_enter Tryz.func54, Tryz.ntmps54
      go_wp2_with (first | (go_at_call 95; refine (HL _).mono ?_; rintro e w1 ⟨rfl, hw1⟩; subst w1) | (go_at_call 98; refine (HD _).mono ?_; rintro e w1 ⟨rfl, hw1⟩; subst w1) | (go_at_call 102; refine (HX _).out.mono ?_; rintro e w1 ⟨rfl, hw1⟩; have HF := Hid.intro (F4.call hw1); have HB := Hid.intro (below_of hw1); obtain ⟨⟨z0, z1, z2, z3⟩, y0, y1, y2, y3⟩ := HF.out; clear hw1))
      refine bodyPost_ret (v := .tuple #[lxv 0 ⟨#[]⟩ (a : Int) 0, .bool false]) ?_ rfl ⟨rfl, below_set4 HB.out (Nat.le_refl _) _ _ _ _⟩
      obtain ⟨⟨g0, g1, g2, g3⟩, -⟩ := HF.out.put (.int .i64 0) (.string ⟨#[]⟩) (.int .i64 (a : Int)) (.int .i64 0)
      simp [results, Tryz.results54, go_sem, g0, g1, g2, g3, lxv]
     | some x =>
      simp only [told, Lx.v, lxv] at HX ⊢
      go_enter Tryz.func54, Tryz.ntmps54
      go_wp2_with (first | (go_at_call 95; refine (HL _).mono ?_; rintro e w1 ⟨rfl, hw1⟩; subst w1) | (go_at_call 98; refine (HD _).mono ?_; rintro e w1 ⟨rfl, hw1⟩; subst w1) | (go_at_call 102; refine (HX _).out.mono ?_; rintro e w1 ⟨rfl, hw1⟩; have HF := Hid.intro (F4.call hw1); have HB := Hid.intro (below_of hw1); obtain ⟨⟨z0, z1, z2, z3⟩, y0, y1, y2, y3⟩ := HF.out; clear hw1))
      refine bodyPost_ret (v := .tuple #[lxv x.k x.t (x.a : Int) (x.e : Int), .bool true]) ?_ rfl ⟨rfl, below_set4 HB.out (Nat.le_refl _) _ _ _ _⟩
      obtain ⟨⟨g0, g1, g2, g3⟩, -⟩ := HF.out.put (.int .i64 x.k) (.string x.t) (.int .i64 (x.a : Int)) (.int .i64 (x.e : Int))
      simp [results, Tryz.results54, go_sem, g0, g1, g2, g3, lxv]
end
end Go.Proofs.YtoeodjobggodcaaGreatDoor
/- The lexemes of a text, one behind the other; what a round of Lex keeps. -/
namespace Go.Proofs.YtoeodjobggodcaaGreatDoor
section
open Go.RowKit Go.Shelf
theorem quo_pos : ∀ (l : List UInt8) (p : List UInt8 × Nat), quo l = some p → 0 < p.2 ∧ p.2 ≤ l.length
 | [], p, h => by simp [quo] at h
 | [c], p, h => by
  rw [quo] at h
  split at h
  ·cases h; simp
  ·cases h
 | c :: d :: r, p, h => by
  rw [quo] at h
  split at h
  ·cases h; simp
  ·split at h
   ·cases h
   ·split at h
    ·split at h
     ·cases h
     ·obtain ⟨q, hq, rfl⟩ := Option.map_eq_some_iff.1 h
      have := quo_pos r q hq
      simp; omega
    ·obtain ⟨q, hq, rfl⟩ := Option.map_eq_some_iff.1 h
     have := quo_pos (d :: r) q hq
     simp at this ⊢; omega
theorem takeWhile_pos {p : UInt8 → Bool} {c : UInt8} {r : List UInt8} (h : p c = true) : 0 < ((c :: r).takeWhile p).length := by
 rw [List.takeWhile_cons, if_pos h]; simp
theorem takeWhile_le (p : UInt8 → Bool) (l : List UInt8) : (l.takeWhile p).length ≤ l.length := (List.takeWhile_prefix p).length_le
theorem ch_of_let {c : UInt8} (h : isLet c = true) : isCh c = true := by
 unfold isCh chB; unfold isLet at h; rw [h]; rfl
theorem oneL_pos {a : Nat} {l : List UInt8} {x : Lx} (h : oneL a l = some x) : x.a = a ∧ a < x.e ∧ x.e ≤ a + l.length := by
 unfold oneL at h
 split at h
 ·cases h
 ·rename_i c r
  split at h
  ·rename_i hc
   cases h
   have h1 := takeWhile_pos (r := r) (ch_of_let hc)
   have h2 := takeWhile_le isCh (c :: r)
   refine ⟨rfl, ?_, ?_⟩ <;> simp only <;> omega
  ·split at h
   ·rename_i hc
    cases h
    have h1 := takeWhile_pos (r := r) hc
    have h2 := takeWhile_le isDig (c :: r)
    refine ⟨rfl, ?_, ?_⟩ <;> simp only <;> omega
   ·split at h
    ·unfold varL at h
     split at h
     ·split at h
      ·cases h
       rename_i d r' _
       have h2 := takeWhile_le isCh (d :: r')
       simp only [List.length_cons] at h2
       refine ⟨rfl, ?_, ?_⟩ <;> simp only [List.length_cons] <;> omega
      ·cases h
     ·cases h
    ·split at h
     ·obtain ⟨q, hq, rfl⟩ := Option.map_eq_some_iff.1 h
      have := quo_pos _ _ hq
      refine ⟨rfl, ?_, ?_⟩ <;> simp only [List.length_cons] <;> omega
     ·unfold markL at h
      simp only at h
      split at h
      ·rename_i ht
       cases h
       unfold twoL at ht
       have : 2 ≤ (c :: r).length := by
        rw [Bool.and_eq_true] at ht; exact of_decide_eq_true ht.1
       refine ⟨rfl, ?_, ?_⟩ <;> simp only <;> omega
      ·split at h
       ·cases h
        refine ⟨rfl, ?_, ?_⟩ <;> simp only [List.length_cons] <;> omega
       ·cases h
def tellsF : Nat → Nat → List UInt8 → List (Lx × Bool)
 | 0, _, _ => []
 | f + 1, a, l => match l.drop (blk false l) with
  | [] => []
  | c :: r => match oneL (a + blk false l) (c :: r) with
   | none => [(⟨0, ⟨#[]⟩, a + blk false l, 0⟩, false)]
   | some x => (x, true) :: tellsF f x.e (l.drop (x.e - a))
theorem tellsF_fuel : ∀ (f g a : Nat) (l : List UInt8), l.length < f → l.length < g → tellsF f a l = tellsF g a l
 | 0, _, _, _, h, _ => by omega
 | _, 0, _, _, _, h => by omega
 | f + 1, g + 1, a, l, h, k => by
  unfold tellsF
  split
  ·rfl
  ·rename_i c r hd
   split
   ·rfl
   ·rename_i x hx
    have := oneL_pos hx
    have hl := congrArg List.length hd
    simp only [List.length_drop] at hl
    rw [tellsF_fuel f g x.e _ (by simp only [List.length_drop]; simp only [List.length_cons] at hl this; omega) (by simp only [List.length_drop]; simp only [List.length_cons] at hl this; omega)]
def tells (a : Nat) (l : List UInt8) : List (Lx × Bool) := tellsF (l.length + 1) a l
theorem tells_end {a : Nat} {l : List UInt8} (h : l.drop (blk false l) = []) : tells a l = [] := by
 unfold tells tellsF; rw [h]
theorem tells_no {a : Nat} {l : List UInt8} {c : UInt8} {r : List UInt8} (h : l.drop (blk false l) = c :: r) (h1 : oneL (a + blk false l) (c :: r) = none) : tells a l = [(⟨0, ⟨#[]⟩, a + blk false l, 0⟩, false)] := by
 unfold tells tellsF; rw [h]; simp only [h1]
theorem tells_yes {a : Nat} {l : List UInt8} {c : UInt8} {r : List UInt8} {x : Lx} (h : l.drop (blk false l) = c :: r) (h1 : oneL (a + blk false l) (c :: r) = some x) : tells a l = (x, true) :: tells x.e (l.drop (x.e - a)) := by
 have := oneL_pos h1
 have hl := congrArg List.length h
 simp only [List.length_drop] at hl
 unfold tells
 rw [tellsF, h]
 simp only [h1]
 rw [tellsF_fuel _ ((l.drop (x.e - a)).length + 1) x.e _ (by simp only [List.length_drop]; simp only [List.length_cons] at hl this; omega) (by omega)]
theorem tells_at_end {s : ByteArray} {k : Nat} (h : blkAt false s k = s.size) : tells k (tl s k) = [] := by
 refine tells_end ?_
 rw [tl_drop]
 exact tl_end (by unfold blkAt at h; omega)
theorem tells_at_no {s : ByteArray} {k : Nat} (h : blkAt false s k < s.size) (h1 : oneL (blkAt false s k) (tl s (blkAt false s k)) = none) : tells k (tl s k) = [(⟨0, ⟨#[]⟩, blkAt false s k, 0⟩, false)] := by
 have hd : (tl s k).drop (blk false (tl s k)) = s[blkAt false s k] :: tl s (blkAt false s k + 1) := by rw [tl_drop]; exact tl_cons h
 refine tells_no hd ?_
 rw [← hd, tl_drop]; exact h1
theorem tells_at_yes {s : ByteArray} {k : Nat} {x : Lx} (h : blkAt false s k < s.size) (h1 : oneL (blkAt false s k) (tl s (blkAt false s k)) = some x) : tells k (tl s k) = (x, true) :: tells x.e (tl s x.e) := by
 have hd : (tl s k).drop (blk false (tl s k)) = s[blkAt false s k] :: tl s (blkAt false s k + 1) := by rw [tl_drop]; exact tl_cons h
 have hp := oneL_pos h1
 rw [tells_yes hd (by rw [← hd, tl_drop]; exact h1), tl_drop]
 congr 3
 unfold blkAt at hp; omega
/-! What a round keeps: B is the block of the variable that holds the row. -/
def rowB (B : Nat) (W : World) : Option Nat := (W.cell? ⟨B, 0, none⟩).bind Value.ownBlock
structure KpB (B : Nat) (W W' : World) : Prop where
 size : W.heap.size ≤ W'.heap.size
 kept : ∀ b, b < W.heap.size → b ≠ B → rowB B W ≠ some b → ∀ o, W.heap[b]? = some o → o.isCells = true → W'.heap[b]? = some o
 row : ∀ r, rowB B W' = some r → rowB B W = some r ∨ W.heap.size ≤ r
 ok : (∀ r, rowB B W = some r → r < W.heap.size) → ∀ r, rowB B W' = some r → r < W'.heap.size
theorem KpB.refl (B : Nat) (W : World) : KpB B W W := ⟨Nat.le_refl _, fun _ _ _ _ _ h _ => h, fun _ h => .inl h, fun h => h⟩
theorem KpB.trans {B : Nat} {X Y Z : World} (h : KpB B X Y) (k : KpB B Y Z) : KpB B X Z := by
 refine ⟨Nat.le_trans h.size k.size, ?_, ?_, fun e => k.ok (h.ok e)⟩
 ·intro b hb hn hr o ho hc
  refine k.kept b (Nat.lt_of_lt_of_le hb h.size) hn ?_ o (h.kept b hb hn hr o ho hc) hc
  intro e
  rcases h.row b e with e | e
  ·exact hr e
  ·omega
 ·intro r hr
  rcases k.row r hr with e | e
  ·exact h.row r e
  ·exact .inr (Nat.le_trans h.size e)
theorem KpB.put {B : Nat} {W : World} {l : Nat} {o : Obj} (o' : Obj) (hl : l ≠ B) (ho : W.heap[l]? = some o) (hc : o.isCells = false) : KpB B W (W.putObj l o') := by
 have hb : ∀ k, k ≠ l → (W.putObj l o').heap[k]? = W.heap[k]? := fun k hk => by
  simp [World.putObj, Ne.symm hk]
 have hs : (W.putObj l o').heap.size = W.heap.size := by simp [World.putObj]
 have hr : rowB B (W.putObj l o') = rowB B W := by
  unfold rowB; rw [World.cell?_of_block (hb B (Ne.symm hl))]
 refine ⟨by omega, ?_, fun r h => .inl (by rw [← hr]; exact h), fun h r e => by rw [hs]; exact h r (by rw [← hr]; exact e)⟩
 intro b _ _ _ o1 h1 hc1
 rw [hb b (fun e => by subst e; rw [ho] at h1; cases h1; rw [hc] at hc1; cases hc1)]
 exact h1
theorem KpB.below {B : Nat} {W W' : World} (hB : B < W.heap.size) (h : Below W.heap.size W W') : KpB B W W' := by
 have hr : rowB B W' = rowB B W := by unfold rowB; rw [h.cell (p := ⟨B, 0, none⟩) hB]
 exact ⟨h.size, fun b hb _ _ o ho _ => (h.block b hb).trans ho, fun r e => .inl (hr ▸ e), fun k r e => Nat.lt_of_lt_of_le (k r (hr ▸ e)) h.size⟩
theorem KpB.alloc {B : Nat} {W : World} (hB : B < W.heap.size) (o : Obj) : KpB B W (W.alloc o) := KpB.below hB (below_al (Below.refl _ _) _)
theorem KpB.cell {B : Nat} {W W' : World} (h : KpB B W W') {p : Addr} {v : Value} (hp : W.cell? p = some v) (h1 : p.block ≠ B) (h2 : rowB B W ≠ some p.block) : W'.cell? p = some v := by
 have h' := hp
 unfold World.cell? at h'
 cases ho : W.heap[p.block]? with
 | none => rw [ho] at h'; cases h'
 | some o =>
  have hc : o.isCells = true := by
   rw [ho] at h'
   cases o <;> first | rfl | cases h'
  have hlt : p.block < W.heap.size := (Array.getElem?_eq_some_iff.1 ho).1
  rw [World.cell?_of_block ((h.kept p.block hlt h1 h2 o ho hc).trans ho.symm)]
  exact hp
end
end Go.Proofs.YtoeodjobggodcaaGreatDoor
/- The walk over a text's lexemes. -/
namespace Go.Proofs.YtoeodjobggodcaaGreatDoor
section
open Go.RowKit Go.Shelf
attribute [local go_sem] Oper.semAt_some
theorem below_none {w w' : World} (h : Below w.heap.size w w') : w.grownBy w' none := ⟨h.os, h.tape, h.output, h.size, fun k hk _ => h.block k hk⟩
set_option maxRecDepth 100000 in
set_option maxHeartbeats 4000000 in
theorem walk_in (n : Nat) (hn : 1 ≤ n) (l B Bt : Nat) (s : ByteArray) (hs : s.size ≤ 1000000) (w : World) (J Jx : List (Lx × Bool) → World → Prop)
  (hJ : ∀ s A B, J s A → A.grownBy B none → J s B)
  (hY : ∀ pre z W, J pre W → pre.length < (tells 0 (tl s 0)).length → YieldAt Fence.wide (n - 1) Tryz.prog l #[z.1.v, .bool z.2] W fun e W' =>
   (e = .returned (.bool true) ∧ J (pre ++ [z]) W' ∧ KpB B W W') ∨ (e = .returned (.bool false) ∧ Jx (pre ++ [z]) W'))
  (hB : B < w.heap.size) (hBt : Bt ≠ B) (ht : w.cell? ⟨Bt, 0, none⟩ = some (.string s)) (hr : rowB B w = none) (W : World) (hW : Below w.heap.size w W) (h0 : J [] W) :
  CallsIn Fence.wide n Tryz.prog 52 #[.func (.yield l) #[] #[], .pointer (some ⟨Bt, 0, none⟩)] W fun e W' => (∃ v, e = .returned v) ∧
   ((∃ ys, ys = tells 0 (tl s 0) ∧ J ys W') ∨ (∃ pre, pre <+: tells 0 (tl s 0) ∧ Jx pre W')) := by
 refine callsIn_of_wp Tryz.func52 rfl trivial ?_ rfl
 simp only [Tryz.ntmps52, List.size_toArray, List.length_cons, List.length_nil, Nat.reduceAdd, Nat.reduceSub, Array.replicate_succ, Array.replicate_zero, List.push_toArray, List.append_toArray, List.nil_append, List.cons_append]
 generalize hT : tells 0 (tl s 0) = T at *
 refine wpIn_wide.2 ?_
 go_wp2
 refine wp_scope_labels (fun l' a' w' => l' = 0 ∧ ∃ (m : Nat) (pre : List (Lx × Bool)) (u4 u5 u6 u7 u8 u9 u10 u11 u12 u13 u14 u15 u16 u17 u18 u19 u20 u21 u22 u23 u24 u25 u26 u27 u28 u29 : Value), a' = { tmps := #[.func (.yield l) #[] #[], .pointer (some ⟨Bt, 0, none⟩), undef, .int .i64 (m : Int), u4, u5, u6, u7, u8, u9, u10, u11, u12, u13, u14, u15, u16, u17, u18, u19, u20, u21, u22, u23, u24, u25, u26, u27, u28, u29], defers := [] } ∧ m ≤ s.size ∧ T = pre ++ tells m (tl s m) ∧ KpB B w w' ∧ J pre w') (fun _ a' _ => s.size - (intOf (a'.tmps.getD 3 undef)).toNat) ?pass ?first
 case first =>
  intro hL
  go_wp2
  rename_i hK
  refine wp_label (hK _ _ (hL.out 0 _ _ _ rfl ⟨rfl, 0, [], _, _, _, _, _, _, _, _, _, _, _, _, _, _, _, _, _, _, _, _, _, _, _, _, _, _, rfl, Nat.zero_le _, by rw [← hT]; rfl, KpB.below hB hW, h0⟩))
 case pass =>
  rintro l' a' w' ⟨rfl, m, pre, u4, u5, u6, u7, u8, u9, u10, u11, u12, u13, u14, u15, u16, u17, u18, u19, u20, u21, u22, u23, u24, u25, u26, u27, u28, u29, rfl, hm, hx, hKp, hJs⟩
  refine ⟨_, rfl, ?_⟩
  refine (wpIn_wide (n := n)).1 ?_
  have hb0 : blkAt false s m ≤ s.size := by
   have := blk_le false (tl s m); rw [tl_len] at this; unfold blkAt; omega
  have hbm : m ≤ blkAt false s m := by unfold blkAt; omega
  have HB := fun w => Hid.intro (behindBlanks_any s m hm hs w)
  have htw := hKp.cell ht hBt (by rw [hr]; exact fun e => by cases e)
  have hBw : B < w'.heap.size := Nat.lt_of_lt_of_le hB hKp.size
  have hok := hKp.ok (fun r e => by rw [hr] at e; cases e)
  generalize hq : blkAt false s m = q at *
  by_cases hlt : q < s.size
  ·have hne : ((q : Int) == (s.size : Int)) = false := by simp; omega
   have HX := fun w => Hid.intro (lexemeAt_any s q hlt hs w)
   cases ho : oneL q (tl s q) with
   | none =>
    have ht2 := hx.trans (congrArg (pre ++ ·) (tells_at_no (by rw [hq]; exact hlt) (by rw [hq]; exact ho)))
    rw [hq] at ht2
    rw [ho] at HX
    simp only [told, lxv] at HX
    have hlen : pre.length < T.length := by rw [ht2]; simp
    gi_wp2_with (first | (refine ⟨trivial, ?_⟩; gi_at_call 53; refine (callsIn_wide.2 (HB _).out).mono ?_; rintro e w1 ⟨rfl, hw1⟩; subst w1) | (refine ⟨trivial, ?_⟩; gi_at_call 54; refine (callsIn_wide.2 (HX _).out).mono ?_; rintro e w1 ⟨rfl, hw1⟩; have HF := Hid.intro (F4.new w1 (.int .i64 0) (.string ⟨#[]⟩) (.int .i64 (q : Int)) (.int .i64 0) 47); obtain ⟨⟨g0, g1, g2, g3⟩, y0, y1, y2, y3⟩ := HF.out; have HB1 := Hid.intro (below_al hw1 (.cells #[.int .i64 0, .string ⟨#[]⟩, .int .i64 (q : Int), .int .i64 0] 47)); have hsz := hw1.size; clear hw1; obtain ⟨fn, tmps, assign, body, hy, hR⟩ := hY pre (⟨0, ⟨#[]⟩, q, 0⟩, false) _ (hJ _ _ _ hJs (below_none HB1.out)) hlen; simp only [Lx.v, lxv, show ((0 : Nat) : Int) = 0 from rfl] at hy))
    refine hR.mono ?_
    rintro e W3 (⟨rfl, hJ3, hk3⟩ | ⟨rfl, hJx3⟩)
    ·gi_wp2
     refine bodyPost_ret (results_none rfl _ _ _) rfl ?_
     exact ⟨⟨_, rfl⟩, .inl ⟨_, ht2.symm, hJ3⟩⟩
    ·gi_wp2
     refine bodyPost_ret (results_none rfl _ _ _) rfl ?_
     exact ⟨⟨_, rfl⟩, .inr ⟨_, ⟨[], by rw [List.append_nil]; exact ht2.symm⟩, hJx3⟩⟩
   | some x =>
    have ht2 := hx.trans (congrArg (pre ++ ·) (tells_at_yes (by rw [hq]; exact hlt) (by rw [hq]; exact ho)))
    obtain ⟨hp1, hp2, hp3⟩ := oneL_pos ho
    rw [tl_len] at hp3
    have hp4 : x.e ≤ s.size := by omega
    have hlen : pre.length < T.length := by rw [ht2]; simp
    rw [ho] at HX
    obtain ⟨kk, tt, aa, ee⟩ := x
    simp only [told, lxv, Lx.v] at HX ht2 hp1 hp2 hp3 hp4
    subst aa
    gi_wp2_with (first | (refine ⟨trivial, ?_⟩; gi_at_call 53; refine (callsIn_wide.2 (HB _).out).mono ?_; rintro e w1 ⟨rfl, hw1⟩; subst w1) | (refine ⟨trivial, ?_⟩; gi_at_call 54; refine (callsIn_wide.2 (HX _).out).mono ?_; rintro e w1 ⟨rfl, hw1⟩; have HF := Hid.intro (F4.new w1 (.int .i64 kk) (.string tt) (.int .i64 (q : Int)) (.int .i64 (ee : Int)) 47); obtain ⟨⟨g0, g1, g2, g3⟩, y0, y1, y2, y3⟩ := HF.out; have HB1 := Hid.intro (below_al hw1 (.cells #[.int .i64 kk, .string tt, .int .i64 (q : Int), .int .i64 (ee : Int)] 47)); have hsz := hw1.size; clear hw1; obtain ⟨fn, tmps, assign, body, hy, hR⟩ := hY pre (⟨kk, tt, q, ee⟩, true) _ (hJ _ _ _ hJs (below_none HB1.out)) hlen; simp only [Lx.v, lxv] at hy))
    refine hR.mono ?_
    rintro e W3 (⟨rfl, hJ3, hk3⟩ | ⟨rfl, hJx3⟩)
    ·have hkw := KpB.below hBw HB1.out
     have hrw : rowB B (w1.alloc (.cells #[.int .i64 kk, .string tt, .int .i64 (q : Int), .int .i64 (ee : Int)] 47)) = rowB B w' := by
      unfold rowB; rw [HB1.out.cell (p := ⟨B, 0, none⟩) hBw]
     have hc3 := hk3.cell (p := ⟨w1.heap.size, 3, none⟩) g3 (by simp only; omega) (fun e => by
      have := hok _ (hrw ▸ e); simp only at this; omega)
     gi_wp2
     refine wpIn_goto ?_
     refine ⟨⟨rfl, ee, pre ++ [(⟨kk, tt, q, ee⟩, true)], _, _, _, _, _, _, _, _, _, _, _, _, _, _, _, _, _, _, _, _, _, _, _, _, _, _, rfl, hp4, by rw [ht2]; simp, hKp.trans (hkw.trans hk3), hJ3⟩, ?_⟩
     show s.size - ((ee : Int)).toNat < s.size - ((m : Int)).toNat
     omega
    ·gi_wp2
     refine bodyPost_ret (results_none rfl _ _ _) rfl ?_
     exact ⟨⟨_, rfl⟩, .inr ⟨_, ⟨tells ee (tl s ee), by rw [ht2]; simp⟩, hJx3⟩⟩
  ·have hqe : q = s.size := by omega
   have he : ((q : Int) == (s.size : Int)) = true := by simp [hqe]
   have ht2 := tells_at_end (s := s) (k := m) (by rw [hq]; exact hqe)
   rw [ht2, List.append_nil] at hx
   gi_wp2_with (first | (refine ⟨trivial, ?_⟩; gi_at_call 53; refine (callsIn_wide.2 (HB _).out).mono ?_; rintro e w1 ⟨rfl, hw1⟩; subst w1))
   refine bodyPost_ret (results_none rfl _ _ _) rfl ?_
   exact ⟨⟨_, rfl⟩, .inl ⟨pre, hx.symm, hJs⟩⟩
set_option maxRecDepth 100000 in
set_option maxHeartbeats 1000000 in
theorem lexemes_in (n : Nat) (s : ByteArray) (w : World) :
  CallsIn Fence.wide n Tryz.prog 30 #[.string s] w fun e w' => e = .returned (.func (.func 52) #[] #[.pointer (some ⟨w.heap.size, 0, none⟩)]) ∧ w' = w.alloc (.cells #[.string s] 9) := by
 refine callsIn_of_wp Tryz.func30 rfl trivial ?_ rfl
 simp only [Tryz.ntmps30, List.size_toArray, List.length_cons, List.length_nil, Nat.reduceAdd, Nat.reduceSub, Array.replicate_succ, Array.replicate_zero, List.push_toArray, List.append_toArray, List.nil_append, List.cons_append]
 gi_wp2
 go_ret
 exact ⟨rfl, rfl⟩
theorem walk_stops (n : Nat) (hn : 1 ≤ n) (B Bt : Nat) (s : ByteArray) (hs : s.size ≤ 1000000) (w : World)
  (hB : B < w.heap.size) (hBt : Bt ≠ B) (ht : w.cell? ⟨Bt, 0, none⟩ = some (.string s)) (hr : rowB B w = none) :
  SeqStopsK Fence.wide n Tryz.prog 52 #[.pointer (some ⟨Bt, 0, none⟩)] (fun z : Lx × Bool => #[z.1.v, .bool z.2]) (KpB B) (fun ys => ys = tells 0 (tl s 0)) (fun pre => pre <+: tells 0 (tl s 0)) (tells 0 (tl s 0)).length w := fun l J Jx W hW hJ _ hY h0 =>
 walk_in n hn l B Bt s hs w J Jx (fun s A B hs hg => hJ s A B none hs hg (fun r e => by cases e)) hY hB hBt ht hr W hW h0
end
end Go.Proofs.YtoeodjobggodcaaGreatDoor
/- Lex: what it tells. -/
namespace Go.Proofs.YtoeodjobggodcaaGreatDoor
section
open Go.RowKit Go.Shelf
attribute [local go_sem] Oper.semAt_some
def celL (x : Lx) : List Value := [.int .i64 x.k, .string x.t, .int .i64 (x.a : Int), .int .i64 (x.e : Int)]
theorem celL_len (xs : List Lx) : (xs.flatMap celL).length = xs.length * 4 := by
 induction xs with
 | nil => rfl
 | cons p ps ih => rw [List.flatMap_cons, List.length_append, ih, List.length_cons]; simp [celL]; omega
def gth (k : Nat) : List (Lx × Bool) → Option Nat
 | [] => none
 | z :: r => if z.2 = false ∨ k = 4096 then some z.1.a else gth (k + 1) r
def lexF (s : ByteArray) : Option Nat := gth 0 (tells 0 (tl s 0))
def lexT (s : ByteArray) : List Lx := (tells 0 (tl s 0)).map Prod.fst
def lexPost (s : ByteArray) (w : World) (e : Ending) (W' : World) : Prop :=
 if 65536 < s.size then e = .returned (.tuple #[.slice none 0 0, .int .i64 0, .int .i64 21])
 else match lexF s with
  | some a => e = .returned (.tuple #[.slice none 0 0, .int .i64 (a : Int), .int .i64 20])
  | none => ∃ v, e = .returned (.tuple #[v, .int .i64 0, .int .i64 0]) ∧ W'.ownsRow w.heap.size 47 4 v (lexT s).length ((lexT s).flatMap celL)
theorem lexT_len (s : ByteArray) : (lexT s).length = (tells 0 (tl s 0)).length := List.length_map ..
theorem gth_ok : ∀ (T : List (Lx × Bool)) (k : Nat), (∀ z ∈ T, z.2 = true) → k + T.length ≤ 4096 → gth k T = none
 | [], _, _, _ => rfl
 | z :: r, k, h, hk => by
  simp only [List.length_cons] at hk
  rw [gth, if_neg (by rw [h z (by simp)]; simp; omega), gth_ok r (k + 1) (fun y hy => h y (by simp [hy])) (by omega)]
theorem gth_bad : ∀ (p : List (Lx × Bool)) (z : Lx × Bool) (r : List (Lx × Bool)) (k : Nat), (∀ y ∈ p, y.2 = true) → k + p.length ≤ 4096 → (z.2 = false ∨ k + p.length = 4096) → gth k (p ++ z :: r) = some z.1.a
 | [], z, r, k, _, _, hz => by rw [List.nil_append, gth, if_pos (by simpa using hz)]
 | y :: p, z, r, k, h, hk, hz => by
  simp only [List.length_cons] at hk hz
  rw [List.cons_append, gth, if_neg (by rw [h y (by simp)]; simp; omega), gth_bad p z r (k + 1) (fun y hy => h y (by simp [hy])) (by omega) (by rcases hz with hz | hz; exact .inl hz; exact .inr (by omega))]
theorem heap_own {β : Type} (B : Nat) (o : Obj) (hc : o.isCells = true) : Own (fun (_ : β) W => W.heap[B]? = some o) := by
 intro s X Y row hs hg hrow
 rw [hg.block B (Array.getElem?_eq_some_iff.1 hs).1 ?_]
 ·exact hs
 ·intro e
  obtain ⟨o', ho, hc'⟩ := hrow B e.symm
  rw [hs] at ho
  cases ho
  rw [hc] at hc'
  cases hc'
theorem infoL : (Tryz.prog.info? 47).map (fun i => (i.zero, i.size, i.bytes)) = some (some (.agg #[.int .i64 0, .string ⟨#[]⟩, .int .i64 0, .int .i64 0]), 4, 40) := by kernel_rfl
def LI (b : Nat) (pre : List (Lx × Bool)) (W : World) : Prop :=
 (∃ v, Boxed W (b + 1 + 1 + 1) 43 v ∧ W.ownsRow b 47 4 v pre.length ((pre.map Prod.fst).flatMap celL) ∧ True) ∧
 Boxed W b 43 (.slice none 0 0) ∧ Boxed W (b + 1) 3 (.int .i64 0) ∧ Boxed W (b + 1 + 1) 28 (.int .i64 0) ∧ (∀ z ∈ pre, z.2 = true) ∧ pre.length ≤ 4096
theorem LI.own (b : Nat) : Own (LI b) := fun s A B row hs hg hr =>
 ⟨holdsRow_own b (b + 1 + 1 + 1) 43 47 4 (fun pre : List (Lx × Bool) => pre.length) (fun pre => (pre.map Prod.fst).flatMap celL) (fun _ _ => True) s A B row hs.1 hg hr,
  boxed_own (β := Unit) b _ (fun _ => .slice none 0 0) () A B row hs.2.1 hg hr, boxed_own (β := Unit) (b + 1) _ (fun _ => .int .i64 0) () A B row hs.2.2.1 hg hr, boxed_own (β := Unit) (b + 1 + 1) _ (fun _ => .int .i64 0) () A B row hs.2.2.2.1 hg hr, hs.2.2.2.2⟩
def LX (b : Nat) (c : Code) (pre : List (Lx × Bool)) (W : World) : Prop := c = .ret ∧
 Boxed W b 43 (.slice none 0 0) ∧ Boxed W (b + 1 + 1) 28 (.int .i64 20) ∧
 ∃ p z, pre = p ++ [z] ∧ (∀ y ∈ p, y.2 = true) ∧ p.length ≤ 4096 ∧ (z.2 = false ∨ p.length = 4096) ∧ Boxed W (b + 1) 3 (.int .i64 (z.1.a : Int))
theorem LX.own (b : Nat) (c : Code) : Own (LX b c) := fun s A B row hs hg hr => by
 obtain ⟨h1, h2, h3, p, z, h4, h5, h6, h7, h8⟩ := hs
 exact ⟨h1, boxed_own (β := Unit) b _ (fun _ => .slice none 0 0) () A B row h2 hg hr, boxed_own (β := Unit) (b + 1 + 1) _ (fun _ => .int .i64 20) () A B row h3 hg hr, p, z, h4, h5, h6, h7, boxed_own (β := Unit) (b + 1) _ (fun _ => .int .i64 (z.1.a : Int)) () A B row h8 hg hr⟩
theorem LI.start (s : ByteArray) (w : World) : let W := (((((w.alloc (.cells #[.slice none 0 0] 43)).alloc (.cells #[.int .i64 0] 3)).alloc (.cells #[.int .i64 0] 28)).alloc (.cells #[.slice none 0 0] 43)).alloc (.cells #[.string s] 9))
  LI w.heap.size [] W ∧ Below w.heap.size w W ∧ W.cell? ⟨w.heap.size + 1 + 1 + 1 + 1, 0, none⟩ = some (.string s) ∧ rowB (w.heap.size + 1 + 1 + 1) W = none ∧ W.heap.size = w.heap.size + 5 := by
 intro W
 have k1 : Boxed W w.heap.size _ _ := ((((Boxed.new w 43 (.slice none 0 0)).alloc _).alloc _).alloc _).alloc _
 have k2 : Boxed W (w.heap.size + 1) 3 (.int .i64 0) := by
  have := Boxed.new (w.alloc (.cells #[.slice none 0 0] 43)) 3 (.int .i64 0)
  rw [World.size_alloc] at this
  exact (((this).alloc _).alloc _).alloc _
 have k3 : Boxed W (w.heap.size + 1 + 1) 28 (.int .i64 0) := by
  have := Boxed.new ((w.alloc (.cells #[.slice none 0 0] 43)).alloc (.cells #[.int .i64 0] 3)) 28 (.int .i64 0)
  rw [World.size_alloc, World.size_alloc] at this
  exact ((this).alloc _).alloc _
 have k4 : Boxed W (w.heap.size + 1 + 1 + 1) 43 (.slice none 0 0) := by
  have := Boxed.new (((w.alloc (.cells #[.slice none 0 0] 43)).alloc (.cells #[.int .i64 0] 3)).alloc (.cells #[.int .i64 0] 28)) 43 (.slice none 0 0)
  rw [World.size_alloc, World.size_alloc, World.size_alloc] at this
  exact (this).alloc _
 have k5 : Boxed W (w.heap.size + 1 + 1 + 1 + 1) 9 (.string s) := by
  have := Boxed.new ((((w.alloc (.cells #[.slice none 0 0] 43)).alloc (.cells #[.int .i64 0] 3)).alloc (.cells #[.int .i64 0] 28)).alloc (.cells #[.slice none 0 0] 43)) 9 (.string s)
  rw [World.size_alloc, World.size_alloc, World.size_alloc, World.size_alloc] at this
  exact this
 refine ⟨⟨⟨_, k4, ⟨rfl, .inl ⟨rfl, rfl⟩⟩, trivial⟩, k1, k2, k3, (fun z hz => by cases hz), Nat.zero_le _⟩, below_al (below_al (below_al (below_al (below_al (Below.refl _ _) _) _) _) _) _, k5.cell, ?_, by simp [W]⟩
 unfold rowB
 rw [k4.cell]
 rfl
theorem KpB.app {B : Nat} {W w1 : World} {t e : TypeId} {v v' : Value} {tmp : Obj} {base size m : Nat} {ys : List Value} (hv : Boxed W B t v) (hg : (W.alloc tmp).grownBy w1 v.ownBlock) (hv2 : Boxed (w1.setCell ⟨B, 0, none⟩ v') B t v')
  (ho : w1.ownsRow base e size v' m ys) (hat : v'.ownBlock = v.ownBlock ∨ v'.ownBlock = some (W.alloc tmp).heap.size) : KpB B W (w1.setCell ⟨B, 0, none⟩ v') := by
 have hr : rowB B W = v.ownBlock := by unfold rowB; rw [hv.cell]; rfl
 have hr' : rowB B (w1.setCell ⟨B, 0, none⟩ v') = v'.ownBlock := by unfold rowB; rw [hv2.cell]; rfl
 have hs : W.heap.size ≤ w1.heap.size := by have := hg.size; simp at this; omega
 refine ⟨by simpa using hs, ?_, ?_, ?_⟩
 ·intro b hb hn hrb o ho hc
  rw [Below.heap_setCell _ _ _ _ hn, hg.block b (by simp; omega) (fun h => hrb (by rw [hr]; exact h.symm)), Below.heap_alloc _ _ _ hb]
  exact ho
 ·intro r h
  rw [hr'] at h
  rcases hat with k | k
  ·exact .inl (by rw [hr, ← k]; exact h)
  ·rw [k] at h; cases h; exact .inr (by simp)
 ·intro _ r h
  rw [hr'] at h
  rcases ho.2 with ⟨rfl, _⟩ | ⟨g, cap, cur, rfl, _, hgb, _⟩
  ·cases h
  ·cases h
   have := (Array.getElem?_eq_some_iff.1 hgb).1
   simpa using this
theorem cells4_new (w : World) (x0 x1 x2 x3 : Value) (t : TypeId) : ∀ j u, [x0, x1, x2, x3][j]? = some u → (w.alloc (.cells #[x0, x1, x2, x3] t)).cell? ((⟨w.heap.size, 0, none⟩ : Addr).add j) = some u := by
 obtain ⟨⟨g0, g1, g2, g3⟩, -⟩ := F4.new w x0 x1 x2 x3 t
 intro j u hj
 match j, hj with
 | 0, hj => cases hj; exact g0
 | 1, hj => cases hj; exact g1
 | 2, hj => cases hj; exact g2
 | 3, hj => cases hj; exact g3
 | j + 4, hj => simp at hj
theorem four_cells {W : World} {b : Nat} {x0 x1 x2 x3 : Value} {t : TypeId} (h : W.heap[b]? = some (.cells #[x0, x1, x2, x3] t (0, 0))) : F4 W b x0 x1 x2 x3 := by
 refine ⟨⟨?_, ?_, ?_, ?_⟩, ?_, ?_, ?_, ?_⟩ <;> simp [World.cell?, World.frozen?, h]
theorem LX.of {b n : Nat} {w W : World} {pre : List (Lx × Bool)} {z : Lx × Bool} (b2 : Boxed W b 43 (.slice none 0 0)) (b3 : Boxed W (b + 1) 3 (.int .i64 0)) (b4 : Boxed W (b + 1 + 1) 28 (.int .i64 0))
  (hall : ∀ z ∈ pre, z.2 = true) (hlen : pre.length ≤ 4096) (hz : z.2 = false ∨ pre.length = 4096) (hB : Below b w W) :
  let W' := (((W.setCell ⟨b, 0, none⟩ (.slice none 0 0)).setCell ⟨b + 1, 0, none⟩ (.int .i64 (z.1.a : Int))).setCell ⟨b + 1 + 1, 0, none⟩ (.int .i64 20)).drew
  KeepsFrom n W W' ∧ LX b .ret (pre ++ [z]) W' ∧ Below b w W' := by
 intro W'
 refine ⟨((((KeepsOthers.setCell _ _ _).trans (KeepsOthers.setCell _ _ _)).trans (KeepsOthers.setCell _ _ _)).trans (KeepsOthers.drew _)).from _, ⟨rfl, ?_, ?_, pre, z, rfl, hall, hlen, hz, ?_⟩, ?_⟩
 ·exact ((b2.set (.slice none 0 0)).other (by omega) _).other (by omega) _
 ·exact ((b4.other (by omega) _).other (by omega) _).set _
 ·exact ((b3.other (by omega) _).set _).other (by omega) _
 ·exact (((hB.setCell (p := ⟨b, 0, none⟩) (Nat.le_refl _) _).setCell (p := ⟨b + 1, 0, none⟩) (Nat.le_add_right _ _) _).setCell (p := ⟨b + 1 + 1, 0, none⟩) (by simp only; omega) _).drew
set_option maxRecDepth 100000 in
set_option maxHeartbeats 4000000 in
theorem lex_in (n : Nat) (hn : 3 ≤ n) (s : ByteArray) (w : World) :
  CallsIn Fence.wide n Tryz.prog 17 #[.string s] w fun e W' => lexPost s w e W' ∧ Below w.heap.size w W' := by
 have h1 : 1 ≤ n := by omega
 refine callsIn_of_wp_marks Tryz.func17 rfl trivial ?_ rfl
 simp only [Tryz.ntmps17, List.size_toArray, List.length_cons, List.length_nil, Nat.reduceAdd, Nat.reduceSub, Array.replicate_succ, Array.replicate_zero, List.push_toArray, List.append_toArray, List.nil_append, List.cons_append]
 by_cases hlong : 65536 < s.size
 ·have hl : (65536 : Int) < (s.size : Int) := by omega
  gi_wp2
  refine ⟨.tuple #[.slice none 0 0, .int .i64 0, .int .i64 21], ?_, by rw [lexPost, if_pos hlong], below_al (below_al (below_al (Below.refl _ _) _) _) _⟩
  have k1 : Boxed (((w.alloc (.cells #[.slice none 0 0] 43)).alloc (.cells #[.int .i64 0] 3)).alloc (.cells #[.int .i64 21] 28)) w.heap.size 43 (.slice none 0 0) := ((Boxed.new _ _ _).alloc _).alloc _
  have k2 := (Boxed.new (w.alloc (.cells #[.slice none 0 0] 43)) 3 (.int .i64 0)).alloc (.cells #[.int .i64 21] 28)
  have k3 := Boxed.new ((w.alloc (.cells #[.slice none 0 0] 43)).alloc (.cells #[.int .i64 0] 3)) 28 (.int .i64 21)
  rw [World.size_alloc] at k2
  rw [World.size_alloc, World.size_alloc] at k3
  simp [results, Tryz.f17, go_sem, k1.cell, k2.cell, k3.cell]
 ·have hl : ¬ (65536 : Int) < (s.size : Int) := by omega
  gi_wp2_with (refine ⟨trivial, ?_⟩; gi_at_call 30; refine (lexemes_in (n - 1) s _).mono ?_; rintro e w' ⟨rfl, rfl⟩)
  obtain ⟨hI0, hB0, ht0, hr0, hs0⟩ := LI.start s w
  generalize (((((w.alloc (.cells #[.slice none 0 0] 43)).alloc (.cells #[.int .i64 0] 3)).alloc (.cells #[.int .i64 0] 28)).alloc (.cells #[.slice none 0 0] 43)).alloc (.cells #[.string s] 9)) = W0 at *
  refine wpIn_rangeFunc_ownH rfl h1 (gf := 52) (lb := #[.pointer (some ⟨w.heap.size + 1 + 1 + 1 + 1, 0, none⟩)]) rfl trivial (enters_of Tryz.func52 (by kernel_rfl) rfl)
   (walk_stops (n - 1) (by omega) (w.heap.size + 1 + 1 + 1) (w.heap.size + 1 + 1 + 1 + 1) s (by omega) W0 (by omega) (by omega) ht0 hr0) KpB.trans (fun W l o o' hl ho hc _ => KpB.put o' (by omega) ho hc) (Below.refl _ _) (fun _ => rfl)
   (fun pre W => LI w.heap.size pre W ∧ Below w.heap.size w W) (fun c pre W => LX w.heap.size c pre W ∧ Below w.heap.size w W)
   (OwnFrom.and ((LI.own _).from _) (ownFrom_below (Nat.le_refl _) (by omega)))
   (fun c => OwnFrom.and ((LX.own _ c).from _) (ownFrom_below (Nat.le_refl _) (by omega)))
   ⟨hI0, hB0⟩
   (fun x a' W => ∃ Bx, w.heap.size + 1 + 1 + 1 < Bx ∧ W.heap[Bx]? = some (.cells #[.int .i64 x.1.k, .string x.1.t, .int .i64 (x.1.a : Int), .int .i64 (x.1.e : Int)] 47 (0, 0)) ∧ a' = { tmps := #[.string s, undef, .pointer (some ⟨w.heap.size, 0, none⟩), .pointer (some ⟨w.heap.size + 1, 0, none⟩), .pointer (some ⟨w.heap.size + 1 + 1, 0, none⟩), .pointer (some ⟨w.heap.size + 1 + 1 + 1, 0, none⟩), .pointer (some ⟨Bx, 0, none⟩), .bool x.2, .string s, .int .i64 (s.size : Int), .bool false, .string s, .func (.func 52) #[] #[.pointer (some ⟨w.heap.size + 1 + 1 + 1 + 1, 0, none⟩)], x.1.v, .bool x.2, undef, undef, undef, undef, undef, undef, undef, undef, undef, undef, undef, undef, undef, undef], defers := [] })
   (fun x a' => Own.from (fun _ A B row hs hg hr => by obtain ⟨Bx, h1, h2, h3⟩ := hs; exact ⟨Bx, h1, heap_own (β := Unit) Bx _ rfl () A B row h2 hg hr, h3⟩) _) ?assign ?body ?done ?stop
  case assign =>
   rintro l pre ⟨⟨kk, tt, aa, ee⟩, mm⟩ W K ⟨hi, hB⟩ hK
   simp only [Lx.v, lxv]
   gi_wp2
   have hlt : w.heap.size + 1 + 1 + 1 < W.heap.size := by obtain ⟨v, hv, -⟩ := hi.1; exact hv.lt
   exact hK _ _ ((KeepsOthers.alloc _ _).from _) (KpB.alloc hlt _) ⟨LI.own _ pre W _ none hi (World.grownBy_alloc W _ none) (fun r e => by cases e), below_al hB _⟩ ⟨W.heap.size, hlt, World.alloc_heap_new W _, rfl⟩
  case body =>
   rintro l pre ⟨⟨kk, tt, aa, ee⟩, mm⟩ a' W hl ⟨r, hr⟩ ⟨⟨⟨v, hv, hrow, -⟩, b2, b3, b4, hall, hlen⟩, hB⟩ ⟨Bx, hBx, bX, rfl⟩ _
   obtain ⟨⟨z0, z1, z2, z3⟩, y0, y1, y2, y3⟩ := four_cells bX
   have c2 := b2.cell
   have c3 := b3.cell
   have c4 := b4.cell
   have c5 := hv.cell
   have f2 := b2.frozen
   have f3 := b3.frozen
   have f4 := b4.frozen
   have f5 := hv.frozen
   simp only [Lx.v, lxv]
   have hmo : Tryz.prog.follows .mixedOrders = true := by kernel_rfl
   cases mm with
   | false =>
    gi_wp2
    gi_region_o
    all_goals gi_wp2
    all_goals exact LX.of b2 b3 b4 hall hlen (z := (⟨kk, tt, aa, ee⟩, false)) (.inl rfl) hB
   | true =>
    obtain ⟨p0, cap0, hv0⟩ : ∃ p0 cap0, v = .slice p0 pre.length cap0 := by
     rcases hrow.2 with ⟨rfl, h0⟩ | ⟨g, cap, cur, rfl, -⟩
     ·exact ⟨none, 0, by rw [h0]⟩
     ·exact ⟨_, _, rfl⟩
    by_cases hmost : pre.length = 4096
    ·have hm : ((pre.length : Int) == 4096) = true := by rw [hmost]; rfl
     subst hv0
     gi_wp2
     gi_region_o
     all_goals gi_wp2
     all_goals exact LX.of b2 b3 b4 hall hlen (z := (⟨kk, tt, aa, ee⟩, true)) (.inr hmost) hB
    ·have hm : ((pre.length : Int) == 4096) = false := by simp; omega
     obtain ⟨i0, hi, hz0, hz1, hz2⟩ := info_parts infoL
     subst hv0
     have hle : w.heap.size ≤ w.heap.size + 1 + 1 + 1 := by omega
     gi_wp2_with (gi_at_builtin; refine wpListIn_append_own_at _ rfl _ _ 43 rfl w.heap.size 47 i0 _ 4 40 Tryz.underlying43 hi hz0 hz1 hz2 rfl (by decide) _ _ _ rfl (hrow.alloc _) ⟨W.heap.size, 0, none⟩ 1 1 [.int .i64 kk, .string tt, .int .i64 (aa : Int), .int .i64 (ee : Int)] rfl rfl (cells4_new _ _ _ _ _ _) (by simp [Value.oneCell']) (by unfold maxLen; omega) (by omega) (by have := hB.size; simp; omega) ?_; intro v' w1 hown' hgrow _ hat; obtain ⟨g', cap', rfl⟩ := ownsRow_succ hown'; obtain ⟨hv1, hv2, hr2, hk2, hb2⟩ := hv.appended (by decide) hrow hB.size hle hown' hgrow; have hc1 := hv1.cell; have hf1 := hv1.frozen)
     have k2 := (((b2.alloc _).kept hgrow (b2.not_row (by decide) hrow)).other (B' := w.heap.size + 1 + 1 + 1) (by omega) (.slice (some ⟨g', 0, none⟩) (pre.length + 1) cap'))
     have k3 := (((b3.alloc _).kept hgrow (b3.not_row (by decide) hrow)).other (B' := w.heap.size + 1 + 1 + 1) (by omega) (.slice (some ⟨g', 0, none⟩) (pre.length + 1) cap'))
     have k4 := (((b4.alloc _).kept hgrow (b4.not_row (by decide) hrow)).other (B' := w.heap.size + 1 + 1 + 1) (by omega) (.slice (some ⟨g', 0, none⟩) (pre.length + 1) cap'))
     refine ⟨hk2.from _, KpB.app hv hgrow hv2 hown' hat, ⟨⟨_, hv2, ?_, trivial⟩, k2, k3, k4, ?_, ?_⟩, hB.trans hb2⟩
     ·simpa [celL] using hr2
     ·intro z hz
      rcases List.mem_append.1 hz with h | h
      ·exact hall z h
      ·simp at h; subst h; rfl
     ·simp; omega
  case done =>
   rintro D ys W hD rfl ⟨⟨⟨v, hv, hrow, -⟩, b2, b3, b4, hall, hlen⟩, hB⟩ hK
   have c2 := b2.cell
   have c3 := b3.cell
   have c4 := b4.cell
   have c5 := hv.cell
   have f2 := b2.frozen
   have f3 := b3.frozen
   have f4 := b4.frozen
   have hT : (lexT s).flatMap celL = ((tells 0 (tl s 0)).map Prod.fst).flatMap celL := rfl
   rw [← hT, ← lexT_len] at hrow
   clear hT
   obtain ⟨p0, cap0, hv0⟩ : ∃ p0 cap0, v = .slice p0 (lexT s).length cap0 := by
    rcases hrow.2 with ⟨rfl, h0⟩ | ⟨g, cap, cur, rfl, -⟩
    ·exact ⟨none, 0, by rw [h0]⟩
    ·exact ⟨_, _, rfl⟩
   subst hv0
   have hF : lexF s = none := gth_ok _ 0 hall (by omega)
   gi_wp2
   have k2 := ((b2.set (.slice p0 (lexT s).length cap0)).other (B' := w.heap.size + 1) (by omega) (.int .i64 0)).other (B' := w.heap.size + 1 + 1) (by omega) (.int .i64 0)
   have k3 := ((b3.other (B' := w.heap.size) (by omega) (.slice p0 (lexT s).length cap0)).set (.int .i64 0)).other (B' := w.heap.size + 1 + 1) (by omega) (.int .i64 0)
   have k4 := ((b4.other (B' := w.heap.size) (by omega) (.slice p0 (lexT s).length cap0)).other (B' := w.heap.size + 1) (by omega) (.int .i64 0)).set (.int .i64 0)
   have hK' := (((KeepsOthers.setCell W ⟨w.heap.size, 0, none⟩ (.slice p0 (lexT s).length cap0)).trans (KeepsOthers.setCell _ ⟨w.heap.size + 1, 0, none⟩ (.int .i64 0))).trans (KeepsOthers.setCell _ ⟨w.heap.size + 1 + 1, 0, none⟩ (.int .i64 0))).same D _ hK rfl
   have q1 := hrow.kept (grownBy_setCell' W w.heap.size (.slice p0 (lexT s).length cap0)) (.inr (b2.not_row (by decide) hrow).symm)
   have q2 := q1.kept (grownBy_setCell' _ (w.heap.size + 1) (.int .i64 0)) (.inr ((b3.other (B' := w.heap.size) (by omega) _).not_row (by decide) q1).symm)
   have q3 := q2.kept (grownBy_setCell' _ (w.heap.size + 1 + 1) (.int .i64 0)) (.inr (((b4.other (B' := w.heap.size) (by omega) _).other (B' := w.heap.size + 1) (by omega) _).not_row (by decide) q2).symm)
   have hB3 := ((hB.setCell (p := ⟨w.heap.size, 0, none⟩) (Nat.le_refl _) (.slice p0 (lexT s).length cap0)).setCell (p := ⟨w.heap.size + 1, 0, none⟩) (Nat.le_add_right _ _) (.int .i64 0)).setCell (p := ⟨w.heap.size + 1 + 1, 0, none⟩) (by simp only; omega) (.int .i64 0)
   have q4 := ownsRow_putObj q3 (.deferred none) hK' rfl
   have hB4 := hB3.trans (belowK_b (w := w) (Nat.le_refl _) _ D _ (.deferred none) (by omega) hK' rfl rfl)
   have j2 := (k2.kept (grownBy_putObj' _ D (.deferred none)) (by simp; omega)).cell
   have j3 := (k3.kept (grownBy_putObj' _ D (.deferred none)) (by simp; omega)).cell
   have j4 := (k4.kept (grownBy_putObj' _ D (.deferred none)) (by simp; omega)).cell
   refine ⟨by simp, .inl ⟨_, _, rfl, run_takeDeferred hK', ?_⟩⟩
   refine ⟨.tuple #[.slice p0 (lexT s).length cap0, .int .i64 0, .int .i64 0], ?_, ?_, hB4⟩
   ·simp [results, Tryz.f17, go_sem, j2, j3, j4]
   ·rw [lexPost, if_neg hlong, hF]
    exact ⟨_, rfl, q4⟩
  case stop =>
   rintro D c pre W hD hpre ⟨⟨rfl, b2, b4, p, z, rfl, hall, hlen, hz, b3⟩, hB⟩ hK
   gi_wp2
   have hF : lexF s = some z.1.a := by
    obtain ⟨r, hr⟩ := hpre
    unfold lexF
    rw [← hr, List.append_assoc]
    exact gth_bad p z r 0 hall (by omega) (by simpa using hz)
   have j2 := (b2.kept (grownBy_putObj' _ D (.deferred none)) (by simp; omega)).cell
   have j3 := (b3.kept (grownBy_putObj' _ D (.deferred none)) (by simp; omega)).cell
   have j4 := (b4.kept (grownBy_putObj' _ D (.deferred none)) (by simp; omega)).cell
   refine ⟨by simp, .inl ⟨_, _, rfl, run_takeDeferred hK, ?_⟩⟩
   refine ⟨.tuple #[.slice none 0 0, .int .i64 (z.1.a : Int), .int .i64 20], ?_, ?_, hB.trans (belowK_b (w := w) (Nat.le_refl _) _ D _ (.deferred none) (by omega) hK rfl rfl)⟩
   ·simp [results, Tryz.f17, go_sem, j2, j3, j4]
   ·rw [lexPost, if_neg hlong, hF]
theorem lex_any (s : ByteArray) (w : World) : Calls Tryz.prog 17 #[.string s] w fun e W' => lexPost s w e W' ∧ Below w.heap.size w W' :=
 callsIn_wide.1 (lex_in 3 (Nat.le_refl _) s w)
theorem lex_long {s : ByteArray} (h : 65536 < s.size) (w : World) : Calls Tryz.prog 17 #[.string s] w fun e W' => e = .returned (.tuple #[.slice none 0 0, .int .i64 0, .int .i64 21]) ∧ Below w.heap.size w W' :=
 (lex_any s w).mono fun e W' he => by have h1 := he.1; rw [lexPost, if_pos h] at h1; exact ⟨h1, he.2⟩
theorem lex_bad {s : ByteArray} (h : s.size ≤ 65536) {a : Nat} (hF : lexF s = some a) (w : World) : Calls Tryz.prog 17 #[.string s] w fun e W' => e = .returned (.tuple #[.slice none 0 0, .int .i64 (a : Int), .int .i64 20]) ∧ Below w.heap.size w W' :=
 (lex_any s w).mono fun e W' he => by have h1 := he.1; rw [lexPost, if_neg (by omega), hF] at h1; exact ⟨h1, he.2⟩
theorem lex_ok {s : ByteArray} (h : s.size ≤ 65536) (hF : lexF s = none) (w : World) : Calls Tryz.prog 17 #[.string s] w fun e W' => ∃ v, e = .returned (.tuple #[v, .int .i64 0, .int .i64 0]) ∧ W'.ownsRow w.heap.size 47 4 v (lexT s).length ((lexT s).flatMap celL) ∧ Below w.heap.size w W' :=
 (lex_any s w).mono fun e W' he => by
  have h1 := he.1
  rw [lexPost, if_neg (by omega), hF] at h1
  obtain ⟨v, h2, h3⟩ := h1
  exact ⟨v, h2, h3, he.2⟩
end
end Go.Proofs.YtoeodjobggodcaaGreatDoor
/- Key: what it tells. -/
namespace Go.Proofs.YtoeodjobggodcaaGreatDoor
section
open Go.RowKit
def kwsL : List (List UInt8) := [[99, 108, 97, 115, 115], [101, 120, 116, 101, 110, 100, 115], [114, 117, 108, 101], [113, 117, 101, 114, 121], [119, 104, 101, 110], [116, 104, 101, 110], [101, 110, 100], [115, 97, 108, 105, 101, 110, 99, 101], [103, 114, 111, 117, 112], [102, 108, 111, 119], [110, 111, 108, 111, 111, 112], [108, 111, 99, 107], [110, 111, 116], [101, 120, 105, 115, 116, 115], [102, 111, 114, 97, 108, 108], [111, 114], [102, 114, 111, 109], [101, 118, 97, 108], [97, 99, 99], [111, 118, 101, 114], [105, 110, 115, 101, 114, 116], [108, 111, 103, 105, 99, 97, 108], [117, 112, 100, 97, 116, 101], [100, 101, 108, 101, 116, 101], [102, 111, 99, 117, 115], [112, 114, 105, 110, 116], [104, 97, 108, 116], [116, 114, 117, 101], [102, 97, 108, 115, 101], [110, 117, 108, 108], [115, 105, 122, 101], [104, 97, 115], [105, 110, 116], [98, 111, 111, 108], [116, 101, 120, 116], [108, 105, 115, 116], [97, 110, 121], [114, 101, 102]]
def keyB (s : ByteArray) : Bool := kwsL.any (fun k => s.toList == k)
set_option maxRecDepth 100000 in
set_option maxHeartbeats 4000000 in
theorem key_any (s : ByteArray) (w : World) :
  Calls Tryz.prog 104 #[.string s] w fun e w' => e = .returned (.bool (keyB s)) ∧ w' = w := by
 unfold keyB kwsL
 simp only [List.any_cons, List.any_nil]
 go_enter Tryz.func104, Tryz.ntmps104
 go_wp2
 all_goals go_ret
 all_goals refine ⟨?_, rfl⟩
 all_goals (first | (exfalso; simp_all; done) | simp [*])
end
end Go.Proofs.YtoeodjobggodcaaGreatDoor
/- The parser, as a function on lexemes. -/
namespace Go.Proofs.YtoeodjobggodcaaGreatDoor
section
open Go.RowKit
inductive Rs (σ : Type) where
 | bad (a : Nat)
 | ok (s : σ) (r : List Lx)
def Rs.bd {σ τ : Type} : Rs σ → (σ → List Lx → Rs τ) → Rs τ
 | .bad a, _ => .bad a
 | .ok s r, f => f s r
theorem bd_bad {σ τ : Type} (a : Nat) (f : σ → List Lx → Rs τ) : (Rs.bad a).bd f = .bad a := rfl
theorem bd_ok {σ τ : Type} (s : σ) (r : List Lx) (f : σ → List Lx → Rs τ) : (Rs.ok s r).bd f = f s r := rfl
def spl (x : Lx) (s : ByteArray) : Bool := (x.k == 0 || x.k == 4) && x.t.toList == s.toList
def hA : List Lx → Nat
 | [] => 0
 | x :: _ => x.a
def isM (s : ByteArray) : List Lx → Bool
 | [] => false
 | x :: _ => spl x s
def isK (k : Int) : List Lx → Bool
 | [] => false
 | x :: _ => x.k == k
def isVW (s : ByteArray) : List Lx → Bool
 | x :: y :: _ => x.k == 1 && spl y s
 | _ => false
def takeM (s : ByteArray) (r : List Lx) : Rs Unit := if isM s r then .ok () r.tail else .bad (hA r)
def pushM (s : ByteArray) (o : Nat) (r : List Lx) : Rs Nat := if isM s r = true ∧ o ≠ 30 then .ok (hA r) r.tail else .bad (hA r)
def nameM : List Lx → Rs ByteArray
 | [] => .bad 0
 | x :: r => if x.k = 0 ∧ keyB x.t = false ∧ x.t.size ≤ 64 then .ok x.t r else .bad x.a
def varM : List Lx → Rs ByteArray
 | [] => .bad 0
 | x :: r => if x.k = 1 ∧ x.t.size ≤ 64 then .ok x.t r else .bad x.a
def textM : List Lx → Rs ByteArray
 | [] => .bad 0
 | x :: r => if x.k = 3 then .ok x.t r else .bad x.a
def digV : List UInt8 → Nat → Nat
 | [], n => n
 | c :: l, n => digV l (n * 10 + (c.toNat - 48))
def numM (most : Nat) : List Lx → Rs Nat
 | [] => .bad 0
 | x :: r => if x.k = 2 ∧ digV x.t.data.toList 0 ≤ 9223372036854775807 ∧ digV x.t.data.toList 0 ≤ most then .ok (digV x.t.data.toList 0) r else .bad x.a
def withinM {σ : Type} (a z : ByteArray) (o : Nat) (inner : List Lx → Rs σ) (r : List Lx) : Rs σ :=
 (pushM a o r).bd fun _ r => (inner r).bd fun s r => (takeM z r).bd fun _ r => .ok s r
def commasL {σ : Type} (item : σ → List Lx → Rs σ) : Nat → σ → List Lx → Rs σ
 | 0, s, r => .ok s r
 | f + 1, s, r => if isM ⟨#[44]⟩ r then (item s r.tail).bd (commasL item f) else .ok s r
def commasM {σ : Type} (item : σ → List Lx → Rs σ) (s : σ) (r : List Lx) : Rs σ := (item s r).bd fun s r => commasL item r.length s r
def listM {σ : Type} (a z : ByteArray) (o : Nat) (item : σ → List Lx → Rs σ) (s : σ) (r : List Lx) : Rs σ :=
 withinM a z o (fun r => if isM z r then .ok s r else commasM item s r) r
structure Te where
 e : Ex
 d : Nat
def leafM (e : Ex) (r : List Lx) : Rs Te := .ok ⟨e, 1⟩ r
def litM (v : Vt) (r : List Lx) : Rs Te := leafM { op := 1, v := v } r
def deepM (l : List Te) : Nat := l.foldl (fun m a => max m (a.d + 1)) 1
def nodeM (a : Nat) (e : Ex) (l : List Te) (r : List Lx) : Rs Te :=
 if 30 < deepM l then .bad a else .ok ⟨{ e with a := l.map Te.e }, deepM l⟩ r
def opsL : List (List (ByteArray × Int)) :=
 [[(⟨#[124, 124]⟩, 9)], [(⟨#[38, 38]⟩, 8)], [(⟨#[61, 61]⟩, 10), (⟨#[33, 61]⟩, 11), (⟨#[60]⟩, 12), (⟨#[60, 61]⟩, 13), (⟨#[62]⟩, 14), (⟨#[62, 61]⟩, 15)], [(⟨#[43]⟩, 16), (⟨#[45]⟩, 17)], [(⟨#[42]⟩, 18), (⟨#[47]⟩, 19), (⟨#[37]⟩, 20)]]
def findO (t : ByteArray) : List (ByteArray × Int) → Option Int
 | [] => none
 | (s, i) :: l => if t.toList == s.toList then some i else findO t l
def opM (n : Nat) : List Lx → Option Int
 | [] => none
 | x :: _ => if x.k == 4 then findO x.t (opsL.getD n []) else none
abbrev Ps (σ : Type) := Nat → List Lx → Rs σ
def levelL (N : List Lx → Rs Te) (n : Nat) : Nat → Te → List Lx → Rs Te
 | 0, t, r => .ok t r
 | f + 1, t, r => match opM n r with
  | none => .ok t r
  | some op => (N r.tail).bd fun u r' => (nodeM (hA r) { op := op } [t, u] r').bd fun t r => if n = 2 then .ok t r else levelL N n f t r
def levelM (S : Ps Te) (o : Nat) : Nat → List Lx → Rs Te
 | 0, r => S o r
 | k + 1, r => (levelM S o k r).bd fun t r => levelL (levelM S o k) (4 - k) r.length t r
def postL : Nat → Te → List Lx → Rs Te
 | 0, t, r => .ok t r
 | f + 1, t, r => if isM ⟨#[46]⟩ r then (nameM r.tail).bd fun s r' => (nodeM (hA r) { op := 4, t := s } [t] r').bd (postL f) else .ok t r
def signM (A : Ps Te) : Nat → Ps Te
 | 0, _, _ => .bad 0
 | f + 1, o, r =>
  if isM ⟨#[45]⟩ r then (pushM ⟨#[45]⟩ o r).bd fun a r => (signM A f (o + 1) r).bd fun t r => nodeM a { op := 6 } [t] r
  else if isM ⟨#[33]⟩ r then (pushM ⟨#[33]⟩ o r).bd fun a r => (signM A f (o + 1) r).bd fun t r => nodeM a { op := 7 } [t] r
  else (A o r).bd fun t r => postL r.length t r
def parenM (T : Ps Te) (o : Nat) (r : List Lx) : Rs Te := withinM ⟨#[40]⟩ ⟨#[41]⟩ o (T (o + 1)) r
def valuesM (T : Ps Te) (o : Nat) (r : List Lx) : Rs Te :=
 (listM ⟨#[91]⟩ ⟨#[93]⟩ o (fun l r => (T (o + 1) r).bd fun t r => .ok (l ++ [t]) r) [] r).bd fun l r' => nodeM (hA r) { op := 5 } l r'
def sizeM (T : Ps Te) (o : Nat) (r : List Lx) : Rs Te := (parenM T o r.tail).bd fun t r' => nodeM (hA r) { op := 21 } [t] r'
def hasM (T : Ps Te) (o : Nat) (r : List Lx) : Rs Te :=
 (withinM ⟨#[40]⟩ ⟨#[41]⟩ o (fun r => (T (o + 1) r).bd fun l r => (takeM ⟨#[44]⟩ r).bd fun _ r => (T (o + 1) r).bd fun v r => .ok (l, v) r) r.tail).bd fun p r' => nodeM (hA r) { op := 22 } [p.1, p.2] r'
def atomM (T : Ps Te) (o : Nat) (r : List Lx) : Rs Te :=
 if isK 2 r then (numM 9223372036854775807 r).bd fun n r => litM { k := 2, i := n } r
 else if isK 3 r then (textM r).bd fun s r => litM { k := 3, s := s } r
 else if isM ⟨#[116, 114, 117, 101]⟩ r then litM { k := 1, b := true } r.tail
 else if isM ⟨#[102, 97, 108, 115, 101]⟩ r then litM { k := 1 } r.tail
 else if isM ⟨#[110, 117, 108, 108]⟩ r then litM {} r.tail
 else if isK 1 r then (varM r).bd fun s r => leafM { op := 2, t := s } r
 else if isM ⟨#[40]⟩ r then parenM T o r
 else if isM ⟨#[91]⟩ r then valuesM T o r
 else if isM ⟨#[115, 105, 122, 101]⟩ r then sizeM T o r
 else if isM ⟨#[104, 97, 115]⟩ r then hasM T o r
 else (nameM r).bd fun s r => leafM { op := 3, t := s } r
def treeM : Nat → Ps Te
 | 0, _, _ => .bad 0
 | f + 1, o, r => levelM (signM (atomM (treeM f)) 32) o 5 r
def exprM (o : Nat) (r : List Lx) : Rs Te := treeM (31 - o) o r
def condsL (C : List Lx → Rs Cd) (ends : List ByteArray) : Nat → List Cd → List Lx → Rs (List Cd)
 | 0, l, r => .ok l r
 | f + 1, l, r => if ends.any (fun s => isM s r) then .ok l r else (C r).bd fun c r => condsL C ends f (l ++ [c]) r
def condsM (C : List Lx → Rs Cd) (ends : List ByteArray) (r : List Lx) : Rs (List Cd) := (C r).bd fun c r => condsL C ends r.length [c] r
def blockM (C : Ps Cd) (o : Nat) (r : List Lx) : Rs (List Cd) := withinM ⟨#[40]⟩ ⟨#[41]⟩ o (condsM (C (o + 1)) [⟨#[41]⟩]) r
def bindM (r : List Lx) : Rs Bi := (varM r).bd fun v r => (takeM ⟨#[58]⟩ r).bd fun _ r => (nameM r).bd fun f r => .ok ⟨v, f⟩ r
def patternM (v : ByteArray) (o : Nat) (r : List Lx) : Rs Cd :=
 (nameM r).bd fun c r => (listM ⟨#[40]⟩ ⟨#[41]⟩ o (fun (p : List Bi × List Ex) r => if isVW ⟨#[58]⟩ r then (bindM r).bd fun b r => .ok (p.1 ++ [b], p.2) r else (exprM (o + 1) r).bd fun t r => .ok (p.1, p.2 ++ [t.e]) r) ([], []) r).bd
  fun p r => .ok { k := 1, v := v, c := c, binds := p.1, tests := p.2 } r
def ofVarM (o : Nat) (r : List Lx) : Rs Cd :=
 (varM r).bd fun v r => if isM ⟨#[58]⟩ r then patternM v o r.tail else (takeM ⟨#[102, 114, 111, 109]⟩ r).bd fun _ r => (exprM o r).bd fun t r => .ok { k := 6, v := v, e := t.e } r
def forallM (C : Ps Cd) (o : Nat) (r : List Lx) : Rs Cd :=
 withinM ⟨#[40]⟩ ⟨#[41]⟩ o (fun r => (condsM (C (o + 1)) [⟨#[59]⟩] r).bd fun l r => (takeM ⟨#[59]⟩ r).bd fun _ r => (condsM (C (o + 1)) [⟨#[41]⟩] r).bd fun t r => .ok { k := 4, conds := l, thn := t } r) r
def orL (C : List Lx → Rs Cd) : Nat → List (List Cd) → List Lx → Rs (List (List Cd))
 | 0, l, r => .ok l r
 | f + 1, l, r => if isM ⟨#[111, 114]⟩ r then (condsM C [⟨#[111, 114]⟩, ⟨#[41]⟩] r.tail).bd fun c r => orL C f (l ++ [c]) r else .ok l r
def orM (C : Ps Cd) (o : Nat) (r : List Lx) : Rs Cd :=
 (withinM ⟨#[40]⟩ ⟨#[41]⟩ o (fun r => (condsM (C (o + 1)) [⟨#[111, 114]⟩] r).bd fun l r => orL (C (o + 1)) r.length [l] r) r).bd fun l r => .ok { k := 5, alts := l } r
def fnM (r : List Lx) : Rs ByteArray := if isM ⟨#[108, 105, 115, 116]⟩ r then (match r with | x :: r => .ok x.t r | [] => .bad 0) else nameM r
def accM (C : Ps Cd) (o : Nat) (r : List Lx) : Rs Cd :=
 withinM ⟨#[40]⟩ ⟨#[41]⟩ o (fun r => (varM r).bd fun v r => (takeM ⟨#[58]⟩ r).bd fun _ r => (fnM r).bd fun f r => (parenM exprM (o + 1) r).bd fun t r => (takeM ⟨#[111, 118, 101, 114]⟩ r).bd fun _ r => (condsM (C (o + 1)) [⟨#[41]⟩] r).bd fun l r =>
  .ok { k := 7, v := v, fn := f, e := t.e, conds := l } r) r
def argM (o : Nat) (r : List Lx) : Rs Ar :=
 if isVW ⟨#[63]⟩ r then (varM r).bd fun v r => (takeM ⟨#[63]⟩ r).bd fun _ r => .ok { v := v } r else (exprM o r).bd fun t r => .ok { e := t.e } r
def questionM (o : Nat) (r : List Lx) : Rs Cd :=
 (nameM r).bd fun s r => (listM ⟨#[40]⟩ ⟨#[41]⟩ o (fun l r => (argM (o + 1) r).bd fun a r => .ok (l ++ [a]) r) [] r).bd fun l r => .ok { k := 9, name := s, args := l } r
def condM : Nat → Ps Cd
 | 0, _, _ => .bad 0
 | f + 1, o, r =>
  if isK 1 r then ofVarM o r
  else if isM ⟨#[110, 111, 116]⟩ r then (blockM (condM f) o r.tail).bd fun l r => .ok { k := 2, conds := l } r
  else if isM ⟨#[101, 120, 105, 115, 116, 115]⟩ r then (blockM (condM f) o r.tail).bd fun l r => .ok { k := 3, conds := l } r
  else if isM ⟨#[102, 111, 114, 97, 108, 108]⟩ r then forallM (condM f) o r.tail
  else if isM ⟨#[40]⟩ r then orM (condM f) o r
  else if isM ⟨#[101, 118, 97, 108]⟩ r then (parenM exprM o r.tail).bd fun t r => .ok { k := 8, e := t.e } r
  else if isM ⟨#[97, 99, 99]⟩ r then accM (condM f) o r.tail
  else if isM ⟨#[63]⟩ r then questionM o r.tail
  else patternM ⟨#[]⟩ o r
def assignM (o : Nat) (r : List Lx) : Rs As := (nameM r).bd fun f r => (takeM ⟨#[61]⟩ r).bd fun _ r => (exprM o r).bd fun t r => .ok ⟨f, t.e⟩ r
def assM (o : Nat) (l : List As) (r : List Lx) : Rs (List As) := (assignM o r).bd fun a r => .ok (l ++ [a]) r
def insM (k : Int) (r : List Lx) : Rs Ac := (nameM r).bd fun c r => (listM ⟨#[123]⟩ ⟨#[125]⟩ 0 (assM 1) [] r).bd fun l r => .ok { k := k, c := c, set := l } r
def updM (r : List Lx) : Rs Ac := (exprM 0 r).bd fun t r => (withinM ⟨#[123]⟩ ⟨#[125]⟩ 0 (commasM (assM 1) []) r).bd fun l r => .ok { k := 3, e := t.e, set := l } r
def deedM (r : List Lx) : Rs Ac :=
 if isM ⟨#[105, 110, 115, 101, 114, 116]⟩ r then insM 1 r.tail
 else if isM ⟨#[108, 111, 103, 105, 99, 97, 108]⟩ r then insM 2 r.tail
 else if isM ⟨#[117, 112, 100, 97, 116, 101]⟩ r then updM r.tail
 else if isM ⟨#[100, 101, 108, 101, 116, 101]⟩ r then (exprM 0 r.tail).bd fun t r => .ok { k := 4, e := t.e } r
 else if isM ⟨#[102, 111, 99, 117, 115]⟩ r then (textM r.tail).bd fun s r => .ok { k := 5, t := s } r
 else if isM ⟨#[112, 114, 105, 110, 116]⟩ r then (exprM 0 r.tail).bd fun t r => .ok { k := 6, e := t.e } r
 else (takeM ⟨#[104, 97, 108, 116]⟩ r).bd fun _ r => .ok { k := 7 } r
def actionM (r : List Lx) : Rs Ac := (deedM r).bd fun a r => (takeM ⟨#[59]⟩ r).bd fun _ r => .ok a r
def fieldM (r : List Lx) : Rs Fd :=
 (nameM r).bd fun n r => (takeM ⟨#[58]⟩ r).bd fun _ r =>
  if isM ⟨#[105, 110, 116]⟩ r then .ok { n := n, t := 2 } r.tail
  else if isM ⟨#[98, 111, 111, 108]⟩ r then .ok { n := n, t := 1 } r.tail
  else if isM ⟨#[116, 101, 120, 116]⟩ r then .ok { n := n, t := 3 } r.tail
  else if isM ⟨#[108, 105, 115, 116]⟩ r then .ok { n := n, t := 4 } r.tail
  else if isM ⟨#[97, 110, 121]⟩ r then .ok { n := n, t := 0 } r.tail
  else if isM ⟨#[114, 101, 102]⟩ r then (nameM r.tail).bd fun c r => .ok { n := n, t := 5, c := c } r
  else .bad (hA r)
def fieldsL : Nat → List Fd → List Lx → Rs (List Fd)
 | 0, l, r => .ok l r
 | f + 1, l, r => if isM ⟨#[125]⟩ r then .ok l r else (fieldM (if 0 < l.length ∧ isM ⟨#[44]⟩ r = true then r.tail else r)).bd fun x r => fieldsL f (l ++ [x]) r
def classM (r : List Lx) : Rs Ca :=
 (nameM r).bd fun n r => (if isM ⟨#[101, 120, 116, 101, 110, 100, 115]⟩ r then nameM r.tail else .ok ⟨#[]⟩ r).bd fun s r =>
  (withinM ⟨#[123]⟩ ⟨#[125]⟩ 0 (fun r => fieldsL r.length [] r) r).bd fun l r => .ok ⟨n, s, l⟩ r
def salM (r : List Lx) : Rs Int := if isM ⟨#[45]⟩ r then (numM 2147483648 r.tail).bd fun n r => .ok (-(n : Int)) r else (numM 2147483648 r).bd fun n r => .ok n r
def attrsL : Nat → Ru → List Lx → Rs Ru
 | 0, u, r => .ok u r
 | f + 1, u, r =>
  if isM ⟨#[115, 97, 108, 105, 101, 110, 99, 101]⟩ r then (salM r.tail).bd fun i r => attrsL f { u with sal := i } r
  else if isM ⟨#[103, 114, 111, 117, 112]⟩ r then (textM r.tail).bd fun s r => attrsL f { u with group := s } r
  else if isM ⟨#[102, 108, 111, 119]⟩ r then (textM r.tail).bd fun s r => attrsL f { u with flow := s } r
  else if isM ⟨#[110, 111, 108, 111, 111, 112]⟩ r then attrsL f { u with nl := true } r.tail
  else if isM ⟨#[108, 111, 99, 107]⟩ r then attrsL f { u with lock := true } r.tail
  else .ok u r
def untilL {σ : Type} (z : ByteArray) (item : List Lx → Rs σ) : Nat → List σ → List Lx → Rs (List σ)
 | 0, l, r => .ok l r
 | f + 1, l, r => if isM z r then .ok l r.tail else (item r).bd fun x r => untilL z item f (l ++ [x]) r
def ruleM (r : List Lx) : Rs Ru :=
 (textM r).bd fun n r => (attrsL r.length { name := n } r).bd fun u r => (takeM ⟨#[119, 104, 101, 110]⟩ r).bd fun _ r => (untilL ⟨#[116, 104, 101, 110]⟩ (condM 31 0) r.length [] r).bd fun l r => (untilL ⟨#[101, 110, 100]⟩ actionM r.length [] r).bd fun t r => .ok { u with whn := l, thn := t } r
def queryM (r : List Lx) : Rs Qu :=
 (nameM r).bd fun n r => (listM ⟨#[40]⟩ ⟨#[41]⟩ 0 (fun l r => (varM r).bd fun s r => .ok (l ++ [s]) r) [] r).bd fun p r => (untilL ⟨#[101, 110, 100]⟩ (condM 31 0) r.length [] r).bd fun l r => .ok ⟨n, p, l⟩ r
def fileL : Nat → Bs → List Lx → Rs Bs
 | 0, b, r => .ok b r
 | f + 1, b, r =>
  if isK (-1) r then .ok b r
  else if isM ⟨#[99, 108, 97, 115, 115]⟩ r then (classM r.tail).bd fun c r => fileL f { b with c := b.c ++ [c] } r
  else if isM ⟨#[114, 117, 108, 101]⟩ r then (ruleM r.tail).bd fun u r => fileL f { b with r := b.r ++ [u] } r
  else if isM ⟨#[113, 117, 101, 114, 121]⟩ r then (queryM r.tail).bd fun q r => fileL f { b with q := b.q ++ [q] } r
  else .bad (hA r)
def endM {σ : Type} (x : σ) (r : List Lx) : Rs σ := if isK (-1) r then .ok x r else .bad (hA r)
def lexR (s : ByteArray) : List Lx := lexT s ++ [⟨-1, ⟨#[]⟩, s.size, s.size⟩]
inductive Told (σ : Type) where
 | long
 | bad (a : Nat)
 | ok (x : σ)
def readM {σ : Type} (part : List Lx → Rs σ) (s : ByteArray) : Told σ :=
 if 65536 < s.size then .long else match lexF s with
 | some a => .bad a
 | none => match (part (lexR s)).bd endM with
  | .bad a => .bad a
  | .ok x _ => .ok x
def parseM (s : ByteArray) : Told Bs := readM (fun r => fileL r.length {} r) s
def parseE (s : ByteArray) : Told Ex := readM (fun r => (exprM 0 r).bd fun t r => .ok t.e r) s
end
end Go.Proofs.YtoeodjobggodcaaGreatDoor
/- Slices of lexemes. -/
namespace Go.Proofs.YtoeodjobggodcaaGreatDoor
section
open Go.RowKit
theorem celL_at : ∀ (xs : List Lx) (k : Nat) (hk : k < xs.length) (j : Nat), j < 4 → (xs.flatMap celL)[k * 4 + j]? = (celL xs[k])[j]?
 | [], _, hk, _, _ => by simp at hk
 | x :: xs, 0, _, j, hj => by
  rw [List.flatMap_cons, List.getElem?_append_left (by simp [celL]; omega)]
  simp
 | x :: xs, k + 1, hk, j, hj => by
  rw [List.flatMap_cons, List.getElem?_append_right (by simp [celL]; omega)]
  have h := celL_at xs k (by simpa using hk) j hj
  rw [show (k + 1) * 4 + j - (celL x).length = k * 4 + j from by simp [celL]; omega, h]
  rfl
def LsAt (w : World) (g : Nat) (xs : List Lx) : Prop := ∀ k (hk : k < xs.length),
 w.cell? ⟨g, k * 4, none⟩ = some (.int .i64 xs[k].k) ∧ w.cell? ⟨g, k * 4 + 1, none⟩ = some (.string xs[k].t) ∧ w.cell? ⟨g, k * 4 + 2, none⟩ = some (.int .i64 (xs[k].a : Int)) ∧ w.cell? ⟨g, k * 4 + 3, none⟩ = some (.int .i64 (xs[k].e : Int))
def Ls (w : World) (base : Nat) (xs : List Lx) (v : Value) : Prop := ∃ p cap, v = .slice p xs.length cap ∧ (0 < xs.length → ∃ g, p = some ⟨g, 0, none⟩ ∧ base ≤ g ∧ g < w.heap.size ∧ LsAt w g xs)
theorem LsAt.below {w w' : World} {n g : Nat} {xs : List Lx} (h : LsAt w g xs) (hw : Below n w w') (hg : g < n) : LsAt w' g xs := fun k hk => by
 obtain ⟨a, b, c, d⟩ := h k hk
 exact ⟨(hw.cell (p := ⟨g, k * 4, none⟩) hg).trans a, (hw.cell (p := ⟨g, k * 4 + 1, none⟩) hg).trans b, (hw.cell (p := ⟨g, k * 4 + 2, none⟩) hg).trans c, (hw.cell (p := ⟨g, k * 4 + 3, none⟩) hg).trans d⟩
theorem Ls.below {w w' : World} {base : Nat} {xs : List Lx} {v : Value} (h : Ls w base xs v) (hw : Below w.heap.size w w') : Ls w' base xs v := by
 obtain ⟨p, cap, h1, h2⟩ := h
 refine ⟨p, cap, h1, fun h0 => ?_⟩
 obtain ⟨g, e, h3, h4, h5⟩ := h2 h0
 exact ⟨g, e, h3, Nat.lt_of_lt_of_le h4 hw.size, h5.below hw h4⟩
theorem Ls.of {w : World} {base : Nat} {xs : List Lx} {v : Value} (h : w.ownsRow base 47 4 v xs.length (xs.flatMap celL)) : Ls w base xs v := by
 obtain ⟨-, ⟨rfl, h0⟩ | ⟨g, cap, cur, rfl, h2, h3, h4, h5, h6, h7⟩⟩ := h
 ·exact ⟨none, 0, by rw [h0], fun h => by omega⟩
 ·refine ⟨_, cap, rfl, fun _ => ⟨g, rfl, h2, (Array.getElem?_eq_some_iff.1 h3).1, fun k hk => ?_⟩⟩
  have key : ∀ j, j < 4 → w.cell? ⟨g, k * 4 + j, none⟩ = (celL xs[k])[j]? := fun j hj => by
   unfold World.cell?
   simp only [h3]
   rw [← celL_at xs k hk j hj, ← h7, List.getElem?_take_of_lt (by omega), Array.getElem?_toList]
   simp
  exact ⟨key 0 (by omega), key 1 (by omega), key 2 (by omega), key 3 (by omega)⟩
theorem lex_ls {s : ByteArray} (h : s.size ≤ 65536) (hF : lexF s = none) (w : World) : Calls Tryz.prog 17 #[.string s] w fun e W' => ∃ v, e = .returned (.tuple #[v, .int .i64 0, .int .i64 0]) ∧ Hid (Ls W' w.heap.size (lexT s) v) ∧ Hid (Below w.heap.size w W') :=
 (lex_ok h hF w).mono fun _ _ ⟨v, h1, h2, h3⟩ => ⟨v, h1, Ls.of h2, h3⟩
end
end Go.Proofs.YtoeodjobggodcaaGreatDoor
/- The parser in memory; what its calls keep. -/
namespace Go.Proofs.YtoeodjobggodcaaGreatDoor
section
open Go.RowKit
def LxAt (w : World) (g : Nat) : Nat → List Lx → Prop
 | _, [] => True
 | o, x :: r => (w.cell? ⟨g, o, none⟩ = some (.int .i64 x.k) ∧ w.cell? ⟨g, o + 1, none⟩ = some (.string x.t) ∧ w.cell? ⟨g, o + 2, none⟩ = some (.int .i64 (x.a : Int)) ∧ w.cell? ⟨g, o + 3, none⟩ = some (.int .i64 (x.e : Int))) ∧ LxAt w g (o + 4) r
def Gd : List Lx → Prop
 | [] => False
 | [x] => x.k = -1
 | x :: y :: r => (0 ≤ x.k ∧ (x.k = 2 → x.t.data.toList ≠ [] ∧ x.t.size ≤ 1000000 ∧ ∀ c ∈ x.t.data.toList, isDig c = true)) ∧ Gd (y :: r)
def MpIs (w : World) (m : Nat) (l : List (ByteArray × Int)) : Prop :=
 ∃ es clock, w.heap[m]? = some (.map es clock) ∧ ∀ t : ByteArray, match findO t l with
  | some i => ∃ j, Instr.findNow .string (.string t) es.toList 0 = some (some (j, .int .i64 i))
  | none => Instr.findNow .string (.string t) es.toList 0 = some none
def ErrAt (K : Nat) (w : World) (B : Nat) : Prop := 2 < K ∧ 2 ≠ B ∧ ∃ ev, w.cell? ⟨2, 0, none⟩ = some ev ∧ (ev = .nilIface ∨ ∃ te pe, ev = .iface te pe)
def LevAt (K : Nat) (w : World) (B : Nat) (lv : Value) : Prop :=
 ∃ l, lv = .slice (some ⟨l, 0, none⟩) 5 5 ∧ l ≠ B ∧ l < K ∧ (∀ i, i < 5 → ∃ m, w.cell? ⟨l, i, none⟩ = some (.map (some m)) ∧ m < K ∧ m ≠ B ∧ MpIs w m (opsL.getD i [])) ∧ ErrAt K w B
def PAt (K : Nat) (w : World) (B : Nat) (r : List Lx) (o : Nat) : Prop :=
 ∃ g off cap lv, (w.cell? ⟨B, 0, none⟩ = some (.slice (some ⟨g, off, none⟩) r.length cap) ∧ w.cell? ⟨B, 1, none⟩ = some (.int .i64 (o : Int)) ∧ w.cell? ⟨B, 2, none⟩ = some lv) ∧
  (w.frozen? ⟨B, 0, none⟩ = false ∧ w.frozen? ⟨B, 1, none⟩ = false) ∧ r.length ≤ cap ∧ cap ≤ 9223372036854775807 ∧ g ≠ B ∧ g < K ∧ B < K ∧ K ≤ w.heap.size ∧ (o ≤ 30 ∧ r.length ≤ 5000) ∧ LxAt w g off r ∧ LevAt K w B lv ∧ Gd r
theorem LxAt.same {w w' : World} {g : Nat} (h : ∀ o, w'.cell? ⟨g, o, none⟩ = w.cell? ⟨g, o, none⟩) : ∀ (r : List Lx) (o : Nat), LxAt w g o r → LxAt w' g o r
 | [], _, _ => trivial
 | x :: r, o, hx => by
  obtain ⟨⟨h0, h1, h2, h3⟩, h4⟩ := hx
  exact ⟨⟨(h _).trans h0, (h _).trans h1, (h _).trans h2, (h _).trans h3⟩, LxAt.same h r _ h4⟩
theorem LevAt.same {K : Nat} {w w' : World} {B : Nat} {lv : Value} (h : LevAt K w B lv) (hb : ∀ b, b < K → b ≠ B → w'.heap[b]? = w.heap[b]?) : LevAt K w' B lv := by
 obtain ⟨l, e, hl, hk, hm, hK, hB, ev, h1, h2⟩ := h
 refine ⟨l, e, hl, hk, fun i hi => ?_, hK, hB, ev, (World.cell?_of_block (a := ⟨_, 0, none⟩) (hb _ hK hB)).trans h1, h2⟩
 obtain ⟨m, h1, h2, h3, es, ck, h4, h5⟩ := hm i hi
 exact ⟨m, (World.cell?_of_block (a := ⟨l, i, none⟩) (hb l hk hl)).trans h1, h2, h3, es, ck, (hb m h2 h3).trans h4, h5⟩
theorem PAt.other {K : Nat} {w w' : World} {B : Nat} {r : List Lx} {o : Nat} (h : PAt K w B r o) (hs : w.heap.size ≤ w'.heap.size) (hb : ∀ b, b < K → w'.heap[b]? = w.heap[b]?) : PAt K w' B r o := by
 obtain ⟨g, off, cap, lv, ⟨c0, c1, c2⟩, ⟨f0, f1⟩, h1, h2, h3, h4, h5, h6, h7, h8, h9, h10⟩ := h
 have hB := hb B h5
 exact ⟨g, off, cap, lv, ⟨(World.cell?_of_block (a := ⟨B, 0, none⟩) hB).trans c0, (World.cell?_of_block (a := ⟨B, 1, none⟩) hB).trans c1, (World.cell?_of_block (a := ⟨B, 2, none⟩) hB).trans c2⟩,
  ⟨(World.frozen?_of_block (a := ⟨B, 0, none⟩) hB).trans f0, (World.frozen?_of_block (a := ⟨B, 1, none⟩) hB).trans f1⟩, h1, h2, h3, h4, h5, Nat.le_trans h6 hs, h7,
  LxAt.same (fun _ => World.cell?_of_block (hb g h4)) _ _ h8, h9.same (fun b hk _ => hb b hk), h10⟩
theorem PAt.below {K n : Nat} {w w' : World} {B : Nat} {r : List Lx} {o : Nat} (h : PAt K w B r o) (hw : Below n w w') (hn : K ≤ n) : PAt K w' B r o :=
 h.other hw.size fun b hb => hw.block b (by omega)
theorem PAt.size {K : Nat} {w : World} {B : Nat} {r : List Lx} {o : Nat} (h : PAt K w B r o) : K ≤ w.heap.size ∧ B < K := by
 obtain ⟨g, off, cap, lv, -, -, h1, h2, h3, h4, h5, h6, -⟩ := h
 exact ⟨h6, h5⟩
theorem PAt.gd {K : Nat} {w : World} {B : Nat} {r : List Lx} {o : Nat} (h : PAt K w B r o) : Gd r := by
 obtain ⟨g, off, cap, lv, -, -, h1, h2, h3, h4, h5, h6, h7, h8, h9, h10⟩ := h
 exact h10
theorem PAt.most {K : Nat} {w : World} {B : Nat} {r : List Lx} {o : Nat} (h : PAt K w B r o) : o ≤ 30 := by
 obtain ⟨g, off, cap, lv, -, -, h1, h2, h3, h4, h5, h6, h7, h8, h9, h10⟩ := h
 exact h7.1
theorem PAt.len {K : Nat} {w : World} {B : Nat} {r : List Lx} {o : Nat} (h : PAt K w B r o) : r.length ≤ 5000 := by
 obtain ⟨g, off, cap, lv, -, -, h1, h2, h3, h4, h5, h6, h7, h8, h9, h10⟩ := h
 exact h7.2
theorem PAt.via {K : Nat} {w w' : World} {B : Nat} {r : List Lx} {o : Nat} (h : PAt K w B r o) (hw : Below w.heap.size w w') : PAt K w' B r o := h.below hw h.size.1
theorem PAt.pop {K : Nat} {w : World} {B : Nat} {x : Lx} {r : List Lx} {o : Nat} (h : PAt K w B (x :: r) o) (hx : x.k ≠ -1) {g off cap : Nat} (hc : w.cell? ⟨B, 0, none⟩ = some (.slice (some ⟨g, off, none⟩) (r.length + 1) cap)) :
  PAt K (w.setCell ⟨B, 0, none⟩ (.slice (some ⟨g, off + 4, none⟩) r.length (cap - 1))) B r o := by
 obtain ⟨g', off', cap', lv, ⟨c0, c1, c2⟩, ⟨f0, f1⟩, h1, h2, h3, h4, h5, h6, h7, h8, h9, h10⟩ := h
 rw [hc] at c0
 simp only [List.length_cons, Option.some.injEq, Value.slice.injEq, Addr.mk.injEq] at c0 h1
 obtain ⟨⟨rfl, rfl, -⟩, -, rfl⟩ := c0
 refine ⟨g, off + 4, cap - 1, lv, ⟨World.cell?_setCell_same _ _ _ hc, ?_, ?_⟩, ⟨by simpa using f0, by simpa using f1⟩, by omega, by omega, h3, h4, h5, by simpa using h6, ⟨h7.1, by have := h7.2; simp at this; omega⟩, ?_, ?_, ?_⟩
 ·rw [World.cell?_setCell_other _ _ _ _ (by intro e; simp at e)]; exact c1
 ·rw [World.cell?_setCell_other _ _ _ _ (by intro e; simp at e)]; exact c2
 ·refine LxAt.same (fun o => World.cell?_setCell_other _ _ _ _ (by intro e; simp only [Addr.mk.injEq] at e; exact h3 e.1.symm)) _ _ h8.2
 ·exact h9.same fun b hk hb => Below.heap_setCell w _ _ b hb
 ·cases r with
  | nil => exact absurd h10 hx
  | cons y r => exact h10.2
theorem PAt.opened {K : Nat} {w : World} {B : Nat} {r : List Lx} {o : Nat} (h : PAt K w B r o) (o' : Nat) (ho : o' ≤ 30) : PAt K (w.setCell ⟨B, 1, none⟩ (.int .i64 (o' : Int))) B r o' := by
 obtain ⟨g, off, cap, lv, ⟨c0, c1, c2⟩, ⟨f0, f1⟩, h1, h2, h3, h4, h5, h6, h7, h8, h9, h10⟩ := h
 refine ⟨g, off, cap, lv, ⟨?_, World.cell?_setCell_same _ _ _ c1, ?_⟩, ⟨by simpa using f0, by simpa using f1⟩, h1, h2, h3, h4, h5, by simpa using h6, ⟨ho, h7.2⟩, ?_, ?_, h10⟩
 ·rw [World.cell?_setCell_other _ _ _ _ (by intro e; simp at e)]; exact c0
 ·rw [World.cell?_setCell_other _ _ _ _ (by intro e; simp at e)]; exact c2
 ·refine LxAt.same (fun o => World.cell?_setCell_other _ _ _ _ (by intro e; simp only [Addr.mk.injEq] at e; exact h3 e.1.symm)) _ _ h8
 ·exact h9.same fun b hk hb => Below.heap_setCell w _ _ b hb
def rlen (B : Nat) (w : World) : Nat := match w.cell? ⟨B, 0, none⟩ with
 | some (.slice _ n _) => n
 | _ => 0
theorem PAt.rlen {K : Nat} {w : World} {B : Nat} {r : List Lx} {o : Nat} (h : PAt K w B r o) : rlen B w = r.length := by
 obtain ⟨g, off, cap, lv, ⟨c0, -, -⟩, -⟩ := h
 unfold Go.Proofs.YtoeodjobggodcaaGreatDoor.rlen
 rw [c0]
def flt (a : Nat) : List PanicEntry := [{ v := .iface 74 (.agg #[.int .i64 (a : Int)]), recovered := false }]
def Post {σ : Type} (K B o n : Nat) (w : World) (m : Rs σ) (R : World → σ → Value → Prop) (e : Ending) (w' : World) : Prop :=
 Bt B w w' ∧ match m with
 | .bad a => e = .panicked (flt a)
 | .ok x r' => r'.length ≤ n ∧ PAt K w' B r' o ∧ ∃ v, e = .returned v ∧ R w' x v
theorem Post.bad {σ : Type} {K B o n : Nat} {w : World} {a : Nat} {R : World → σ → Value → Prop} {w' : World} (h : Bt B w w') : Post K B o n w (.bad a) R (.panicked (flt a)) w' := ⟨h, rfl⟩
theorem Post.ok {σ : Type} {K B o n : Nat} {w : World} {x : σ} {r' : List Lx} {R : World → σ → Value → Prop} {v : Value} {w' : World} (h : Bt B w w') (hn : r'.length ≤ n) (hp : PAt K w' B r' o) (hr : R w' x v) : Post K B o n w (.ok x r') R (.returned v) w' :=
 ⟨h, hn, hp, v, rfl, hr⟩
theorem Below.al {n : Nat} {a w : World} (h : Below n a w) (hn : n ≤ w.heap.size) (o : Obj) : Below n a (w.alloc o) := h.alloc hn o
theorem gd_dig {x : Lx} {r : List Lx} (h : Gd (x :: r)) (hx : x.k = 2) : x.t.data.toList ≠ [] ∧ x.t.size ≤ 1000000 ∧ ∀ c ∈ x.t.data.toList, isDig c = true := by
 cases r with
 | nil =>
  have : x.k = -1 := h
  omega
 | cons y r => exact h.1.2 hx
theorem gd_cons {r : List Lx} (h : Gd r) : ∃ x r', r = x :: r' ∧ (x.k ≠ -1 → r' ≠ []) := by
 cases r with
 | nil => exact h.elim
 | cons x r => exact ⟨x, r, rfl, fun hx he => by subst he; exact hx h⟩
end
end Go.Proofs.YtoeodjobggodcaaGreatDoor
