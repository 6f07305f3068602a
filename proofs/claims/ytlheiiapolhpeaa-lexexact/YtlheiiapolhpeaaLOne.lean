/- lexemeAt: what it tells. -/
import Derived.Test.YtlheiiapolhpeaaLQuo
namespace Go.Proofs.Ytlheiiapolhpeaa
open Go.RowKit

/-- The lexeme that begins at a place. -/
def oneL (a : Nat) (l : List UInt8) : Option Lx := match l with
  | [] => none
  | c :: r => if isLet c then some ⟨0, bs ((c :: r).takeWhile isCh), a, a + ((c :: r).takeWhile isCh).length⟩
    else if isDig c then some ⟨2, bs ((c :: r).takeWhile isDig), a, a + ((c :: r).takeWhile isDig).length⟩
    else if c = 36 then varL a r
    else if c = 34 then quoL a r
    else markL a (c :: r)

set_option maxRecDepth 100000 in
set_option maxHeartbeats 8000000 in
theorem lexemeAt_any (s : ByteArray) (a : Nat) (ha : a < s.size) (hs : s.size ≤ 1000000) (w : World) :
    Calls Try.prog 21 #[.string s, .int .i64 (a : Int)] w fun x w' => x = .returned (told (oneL a (tl s a)) a) ∧ Below w.heap.size w w' := by
  have hi : (a : Int) < (s.size : Int) := by omega
  have HL := fun w => letter_any (s[a].toNat : Int) w
  have HD := fun w => digit_any (s[a].toNat : Int) w
  have ho : oneL a (tl s a) = if isLet s[a] then some ⟨0, bs ((tl s a).takeWhile isCh), a, a + ((tl s a).takeWhile isCh).length⟩
    else if isDig s[a] then some ⟨2, bs ((tl s a).takeWhile isDig), a, a + ((tl s a).takeWhile isDig).length⟩
    else if s[a] = 36 then varL a (tl s (a + 1))
    else if s[a] = 34 then quoL a (tl s (a + 1))
    else markL a (tl s a) := by rw [tl_cons ha]; rfl
  rw [ho]
  clear ho
  cases c1 : letB (s[a].toNat : Int) with
  | true =>
    rw [c1] at HL
    rw [if_pos (show isLet s[a] = true from c1)]
    have HW := fun w => Hid.intro (behindWord_any s a (by omega) hs w)
    have HC := fun w => Hid.intro (cut_any 0 s a a (a + run isCh s a) (by omega) (run_le isCh s a (by omega)) hs w)
    rw [bs_run] at HC
    unfold run at HC HW
    simp only [told, Lx.v]
    generalize a + ((tl s a).takeWhile isCh).length = E at HW HC ⊢
    generalize bs ((tl s a).takeWhile isCh) = T at HC ⊢
    simp only [lxv] at HC
    go_enter Try.func21, Try.ntmps21
    go_wp2_with (first | (go_at_call 26; refine (HL _).mono ?_; rintro e w1 ⟨rfl, hw1⟩; subst w1) | (go_at_call 28; refine (HW _).out.mono ?_; rintro e w1 ⟨rfl, hw1⟩; subst w1) | (go_at_call 27; refine (HC _).out.mono ?_; rintro e w1 ⟨rfl, hw1⟩; have HF := Hid.intro (F4.call hw1); have HB := Hid.intro (below_of hw1); obtain ⟨⟨z0, z1, z2, z3⟩, y0, y1, y2, y3⟩ := HF.out; clear hw1))
    refine bodyPost_ret (v := .tuple #[lxv 0 T (a : Int) (E : Int), .bool true]) ?_ rfl ⟨rfl, below_set4 HB.out (Nat.le_refl _) _ _ _ _⟩
    obtain ⟨⟨g0, g1, g2, g3⟩, -⟩ := HF.out.put (.int .i64 0) (.string T) (.int .i64 (a : Int)) (.int .i64 (E : Int))
    simp [results, Try.results21, go_sem, g0, g1, g2, g3, lxv]


  | false =>
    rw [c1] at HL
    rw [if_neg (show ¬ isLet s[a] = true by rw [isLet, c1]; decide)]
    cases c2 : digB (s[a].toNat : Int) with
    | true =>
      rw [c2] at HD
      rw [if_pos (show isDig s[a] = true from c2)]
      have HW := fun w => Hid.intro (behindDigits_any s a (by omega) hs w)
      have HC := fun w => Hid.intro (cut_any 2 s a a (a + run isDig s a) (by omega) (run_le isDig s a (by omega)) hs w)
      rw [bs_run] at HC
      unfold run at HC HW
      simp only [told, Lx.v]
      generalize a + ((tl s a).takeWhile isDig).length = E at HW HC ⊢
      generalize bs ((tl s a).takeWhile isDig) = T at HC ⊢
      simp only [lxv] at HC
      go_enter Try.func21, Try.ntmps21
      go_wp2_with (first | (go_at_call 26; refine (HL _).mono ?_; rintro e w1 ⟨rfl, hw1⟩; subst w1) | (go_at_call 29; refine (HD _).mono ?_; rintro e w1 ⟨rfl, hw1⟩; subst w1) | (go_at_call 30; refine (HW _).out.mono ?_; rintro e w1 ⟨rfl, hw1⟩; subst w1) | (go_at_call 27; refine (HC _).out.mono ?_; rintro e w1 ⟨rfl, hw1⟩; have HF := Hid.intro (F4.call hw1); have HB := Hid.intro (below_of hw1); obtain ⟨⟨z0, z1, z2, z3⟩, y0, y1, y2, y3⟩ := HF.out; clear hw1))
      refine bodyPost_ret (v := .tuple #[lxv 2 T (a : Int) (E : Int), .bool true]) ?_ rfl ⟨rfl, below_set4 HB.out (Nat.le_refl _) _ _ _ _⟩
      obtain ⟨⟨g0, g1, g2, g3⟩, -⟩ := HF.out.put (.int .i64 2) (.string T) (.int .i64 (a : Int)) (.int .i64 (E : Int))
      simp [results, Try.results21, go_sem, g0, g1, g2, g3, lxv]


    | false =>
      rw [c2] at HD
      rw [if_neg (show ¬ isDig s[a] = true by rw [isDig, c2]; decide)]
      by_cases c3 : (s[a].toNat : Int) = 36
      · rw [if_pos (UInt8.toNat_inj.1 (show s[a].toNat = 36 by omega) : s[a] = 36)]
        have c3b : ((s[a].toNat : Int) == 36) = true := beq_iff_eq.2 c3
        clear c1 c2 c3
        have HX := fun w => Hid.intro (variable_any s a ha hs w)
        generalize varL a (tl s (a + 1)) = R at HX ⊢
        cases R with
        | none =>
          simp only [told, lxv] at HX ⊢
          go_enter Try.func21, Try.ntmps21
          go_wp2_with (first | (go_at_call 26; refine (HL _).mono ?_; rintro e w1 ⟨rfl, hw1⟩; subst w1) | (go_at_call 29; refine (HD _).mono ?_; rintro e w1 ⟨rfl, hw1⟩; subst w1) | (go_at_call 31; refine (HX _).out.mono ?_; rintro e w1 ⟨rfl, hw1⟩; have HF := Hid.intro (F4.call hw1); have HB := Hid.intro (below_of hw1); obtain ⟨⟨z0, z1, z2, z3⟩, y0, y1, y2, y3⟩ := HF.out; clear hw1))
          refine bodyPost_ret (v := .tuple #[lxv 0 ⟨#[]⟩ (a : Int) 0, .bool false]) ?_ rfl ⟨rfl, below_set4 HB.out (Nat.le_refl _) _ _ _ _⟩
          obtain ⟨⟨g0, g1, g2, g3⟩, -⟩ := HF.out.put (.int .i64 0) (.string ⟨#[]⟩) (.int .i64 (a : Int)) (.int .i64 0)
          simp [results, Try.results21, go_sem, g0, g1, g2, g3, lxv]

        | some x =>
          simp only [told, Lx.v, lxv] at HX ⊢
          go_enter Try.func21, Try.ntmps21
          go_wp2_with (first | (go_at_call 26; refine (HL _).mono ?_; rintro e w1 ⟨rfl, hw1⟩; subst w1) | (go_at_call 29; refine (HD _).mono ?_; rintro e w1 ⟨rfl, hw1⟩; subst w1) | (go_at_call 31; refine (HX _).out.mono ?_; rintro e w1 ⟨rfl, hw1⟩; have HF := Hid.intro (F4.call hw1); have HB := Hid.intro (below_of hw1); obtain ⟨⟨z0, z1, z2, z3⟩, y0, y1, y2, y3⟩ := HF.out; clear hw1))
          refine bodyPost_ret (v := .tuple #[lxv x.k x.t (x.a : Int) (x.e : Int), .bool true]) ?_ rfl ⟨rfl, below_set4 HB.out (Nat.le_refl _) _ _ _ _⟩
          obtain ⟨⟨g0, g1, g2, g3⟩, -⟩ := HF.out.put (.int .i64 x.k) (.string x.t) (.int .i64 (x.a : Int)) (.int .i64 (x.e : Int))
          simp [results, Try.results21, go_sem, g0, g1, g2, g3, lxv]


      · rw [if_neg (show ¬ s[a] = 36 from fun e => c3 (by rw [e]; rfl))]
        have c3b : ((s[a].toNat : Int) == 36) = false := beq_false_of_ne c3
        by_cases c4 : (s[a].toNat : Int) = 34
        · rw [if_pos (UInt8.toNat_inj.1 (show s[a].toNat = 34 by omega) : s[a] = 34)]
          have c4b : ((s[a].toNat : Int) == 34) = true := beq_iff_eq.2 c4
          clear c1 c2 c3 c4
          have HX := fun w => Hid.intro (quoted_any s a ha hs w)
          generalize quoL a (tl s (a + 1)) = R at HX ⊢
          cases R with
          | none =>
            simp only [told, lxv] at HX ⊢
            go_enter Try.func21, Try.ntmps21
            go_wp2_with (first | (go_at_call 26; refine (HL _).mono ?_; rintro e w1 ⟨rfl, hw1⟩; subst w1) | (go_at_call 29; refine (HD _).mono ?_; rintro e w1 ⟨rfl, hw1⟩; subst w1) | (go_at_call 32; refine (HX _).out.mono ?_; rintro e w1 ⟨rfl, hw1⟩; have HF := Hid.intro (F4.call hw1); have HB := Hid.intro (below_of hw1); obtain ⟨⟨z0, z1, z2, z3⟩, y0, y1, y2, y3⟩ := HF.out; clear hw1))
            refine bodyPost_ret (v := .tuple #[lxv 0 ⟨#[]⟩ (a : Int) 0, .bool false]) ?_ rfl ⟨rfl, below_set4 HB.out (Nat.le_refl _) _ _ _ _⟩
            obtain ⟨⟨g0, g1, g2, g3⟩, -⟩ := HF.out.put (.int .i64 0) (.string ⟨#[]⟩) (.int .i64 (a : Int)) (.int .i64 0)
            simp [results, Try.results21, go_sem, g0, g1, g2, g3, lxv]

          | some x =>
            simp only [told, Lx.v, lxv] at HX ⊢
            go_enter Try.func21, Try.ntmps21
            go_wp2_with (first | (go_at_call 26; refine (HL _).mono ?_; rintro e w1 ⟨rfl, hw1⟩; subst w1) | (go_at_call 29; refine (HD _).mono ?_; rintro e w1 ⟨rfl, hw1⟩; subst w1) | (go_at_call 32; refine (HX _).out.mono ?_; rintro e w1 ⟨rfl, hw1⟩; have HF := Hid.intro (F4.call hw1); have HB := Hid.intro (below_of hw1); obtain ⟨⟨z0, z1, z2, z3⟩, y0, y1, y2, y3⟩ := HF.out; clear hw1))
            refine bodyPost_ret (v := .tuple #[lxv x.k x.t (x.a : Int) (x.e : Int), .bool true]) ?_ rfl ⟨rfl, below_set4 HB.out (Nat.le_refl _) _ _ _ _⟩
            obtain ⟨⟨g0, g1, g2, g3⟩, -⟩ := HF.out.put (.int .i64 x.k) (.string x.t) (.int .i64 (x.a : Int)) (.int .i64 (x.e : Int))
            simp [results, Try.results21, go_sem, g0, g1, g2, g3, lxv]


        · rw [if_neg (show ¬ s[a] = 34 from fun e => c4 (by rw [e]; rfl))]
          have c4b : ((s[a].toNat : Int) == 34) = false := beq_false_of_ne c4
          clear c1 c2 c3 c4
          have HX := fun w => Hid.intro (mark_any s a ha hs w)
          generalize markL a (tl s a) = R at HX ⊢
          cases R with
          | none =>
            simp only [told, lxv] at HX ⊢
            go_enter Try.func21, Try.ntmps21
            go_wp2_with (first | (go_at_call 26; refine (HL _).mono ?_; rintro e w1 ⟨rfl, hw1⟩; subst w1) | (go_at_call 29; refine (HD _).mono ?_; rintro e w1 ⟨rfl, hw1⟩; subst w1) | (go_at_call 33; refine (HX _).out.mono ?_; rintro e w1 ⟨rfl, hw1⟩; have HF := Hid.intro (F4.call hw1); have HB := Hid.intro (below_of hw1); obtain ⟨⟨z0, z1, z2, z3⟩, y0, y1, y2, y3⟩ := HF.out; clear hw1))
            refine bodyPost_ret (v := .tuple #[lxv 0 ⟨#[]⟩ (a : Int) 0, .bool false]) ?_ rfl ⟨rfl, below_set4 HB.out (Nat.le_refl _) _ _ _ _⟩
            obtain ⟨⟨g0, g1, g2, g3⟩, -⟩ := HF.out.put (.int .i64 0) (.string ⟨#[]⟩) (.int .i64 (a : Int)) (.int .i64 0)
            simp [results, Try.results21, go_sem, g0, g1, g2, g3, lxv]

          | some x =>
            simp only [told, Lx.v, lxv] at HX ⊢
            go_enter Try.func21, Try.ntmps21
            go_wp2_with (first | (go_at_call 26; refine (HL _).mono ?_; rintro e w1 ⟨rfl, hw1⟩; subst w1) | (go_at_call 29; refine (HD _).mono ?_; rintro e w1 ⟨rfl, hw1⟩; subst w1) | (go_at_call 33; refine (HX _).out.mono ?_; rintro e w1 ⟨rfl, hw1⟩; have HF := Hid.intro (F4.call hw1); have HB := Hid.intro (below_of hw1); obtain ⟨⟨z0, z1, z2, z3⟩, y0, y1, y2, y3⟩ := HF.out; clear hw1))
            refine bodyPost_ret (v := .tuple #[lxv x.k x.t (x.a : Int) (x.e : Int), .bool true]) ?_ rfl ⟨rfl, below_set4 HB.out (Nat.le_refl _) _ _ _ _⟩
            obtain ⟨⟨g0, g1, g2, g3⟩, -⟩ := HF.out.put (.int .i64 x.k) (.string x.t) (.int .i64 (x.a : Int)) (.int .i64 (x.e : Int))
            simp [results, Try.results21, go_sem, g0, g1, g2, g3, lxv]


end Go.Proofs.Ytlheiiapolhpeaa
