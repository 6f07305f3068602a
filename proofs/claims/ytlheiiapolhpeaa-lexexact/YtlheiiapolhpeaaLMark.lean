/- mark: what it tells. -/
import Derived.Test.YtlheiiapolhpeaaLCut
namespace Go.Proofs.Ytlheiiapolhpeaa
open Go.RowKit

def m1 : List UInt8 := [40, 41, 91, 93, 123, 125, 44, 46, 58, 59, 63, 60, 62, 61, 43, 45, 42, 47, 37, 33]
def markB (c : UInt8) : Bool := !decide (Lib.indexByte m1 c < 0)
def twoL (l : List UInt8) : Bool := decide (2 ≤ l.length) && twoB (bs (l.take 2))
def markL (a : Nat) (l : List UInt8) : Option Lx := match l with
  | c :: r => if twoL (c :: r) then some ⟨4, bs ((c :: r).take 2), a, a + 2⟩ else if markB c then some ⟨4, bs [c], a, a + 1⟩ else none
  | [] => none

set_option maxRecDepth 100000 in
set_option maxHeartbeats 4000000 in
theorem mark_any (s : ByteArray) (a : Nat) (ha : a < s.size) (hs : s.size ≤ 1000000) (w : World) :
    Calls Try.prog 33 #[.string s, .int .i64 (a : Int)] w fun x w' => x = .returned (told (markL a (tl s a)) a) ∧ Below w.heap.size w w' := by
  have HBr := fun w => Hid.intro (barred_any (a : Int) w)
  have hi : (a : Int) < (s.size : Int) := by omega
  have hidx : Lib.indexByte (⟨#[40, 41, 91, 93, 123, 125, 44, 46, 58, 59, 63, 60, 62, 61, 43, 45, 42, 47, 37, 33]⟩ : ByteArray).data.toList (s[a].toNat : Int).toNat.toUInt8 = Lib.indexByte m1 s[a] := by
    have : (s[a].toNat : Int).toNat.toUInt8 = s[a] := by simp
    rw [this]; rfl
  by_cases hlt : a + 1 < s.size
  · have hx : (a : Int) + 1 < (s.size : Int) := by omega
    have hl2 : 2 ≤ (tl s a).length := by rw [tl_len]; omega
    have he2 : s.extract a (a + 2) = bs ((tl s a).take 2) := by rw [bs_extract, Nat.add_sub_cancel_left]
    have htw : twoL (tl s a) = twoB (s.extract a (a + 2)) := by rw [he2]; simp [twoL, hl2]
    have HT := fun w => two_any (s.extract a (a + 2)) w
    cases h2 : twoB (s.extract a (a + 2)) with
    | true =>
      rw [h2] at HT htw
      have hm : markL a (tl s a) = some ⟨4, s.extract a (a + 2), a, a + 2⟩ := by
        rw [he2]
        rw [tl_cons ha] at htw ⊢
        unfold markL
        simp only [htw, if_true]
      have HC := fun w => Hid.intro (cut_any 4 s a a (a + 2) (by omega) (by omega) hs w)
      rw [hm]
      simp only [told, Lx.v]
      have hcast : ((a + 2 : Nat) : Int) = (a : Int) + 2 := rfl
      simp only [hcast] at HC ⊢
      clear hm htw h2 he2 hidx
      generalize hT : s.extract a (a + 2) = T at HC HT ⊢
      simp only [lxv] at HC
      go_enter Try.func33, Try.ntmps33
      go_wp2_with (first | (rw [hT]; go_at_call 42; refine (HT _).mono ?_; rintro e w1 ⟨rfl, hw1⟩; subst w1) | (go_at_call 27; refine (HC _).out.mono ?_; rintro e w1 ⟨rfl, hw1⟩; have HF := Hid.intro (F4.call hw1); have HB := Hid.intro (below_of hw1); obtain ⟨⟨z0, z1, z2, z3⟩, y0, y1, y2, y3⟩ := HF.out; clear hw1))
      refine bodyPost_ret (v := .tuple #[lxv 4 T (a : Int) ((a : Int) + 2), .bool true]) ?_ rfl ⟨rfl, below_set4 HB.out (Nat.le_refl _) _ _ _ _⟩
      obtain ⟨⟨g0, g1, g2, g3⟩, -⟩ := HF.out.put (.int .i64 4) (.string T) (.int .i64 (a : Int)) (.int .i64 ((a : Int) + 2))
      simp [results, Try.results33, go_sem, g0, g1, g2, g3, lxv]

    | false =>
      rw [h2] at HT htw
      have hmL : markL a (tl s a) = if markB s[a] then some ⟨4, bs [s[a]], a, a + 1⟩ else none := by
        rw [tl_cons ha] at htw ⊢
        simp only [markL, htw]
        rfl
      clear htw h2 he2 hl2
      have HI := fun w => index_any ⟨#[40, 41, 91, 93, 123, 125, 44, 46, 58, 59, 63, 60, 62, 61, 43, 45, 42, 47, 37, 33]⟩ (s[a].toNat : Int) w
      rw [hidx] at HI
      cases h1 : markB s[a] with
      | true =>
        have hm : markL a (tl s a) = some ⟨4, bs [s[a]], a, a + 1⟩ := by rw [hmL, h1]; rfl
        have HC := fun w => Hid.intro (cut_any 4 s a a (a + 1) (by omega) (by omega) hs w)
        have hex : s.extract a (a + 1) = bs [s[a]] := by
          rw [bs_extract, tl_cons ha, Nat.add_sub_cancel_left]; rfl
        rw [hm]
        have hge : ¬ Lib.indexByte m1 s[a] < 0 := by simpa [markB] using h1
        generalize Lib.indexByte m1 s[a] = ix at HI hge
        rw [hex] at HC
        simp only [told, Lx.v]
        have hcast : ((a + 1 : Nat) : Int) = (a : Int) + 1 := rfl
        simp only [hcast] at HC ⊢
        generalize bs [s[a]] = T at HC ⊢
        clear hm hmL h1 hidx hex
        simp only [lxv] at HC
        go_enter Try.func33, Try.ntmps33
        go_wp2_with (first | (go_at_call 42; refine (HT _).mono ?_; rintro e w1 ⟨rfl, hw1⟩; subst w1) | (go_at_call 43; refine (HI _).mono ?_; rintro e w1 ⟨rfl, hw1⟩; subst w1) | (go_at_call 27; refine (HC _).out.mono ?_; rintro e w1 ⟨rfl, hw1⟩; have HF := Hid.intro (F4.call hw1); have HB := Hid.intro (below_of hw1); obtain ⟨⟨z0, z1, z2, z3⟩, y0, y1, y2, y3⟩ := HF.out; clear hw1))
        refine bodyPost_ret (v := .tuple #[lxv 4 T (a : Int) ((a : Int) + 1), .bool true]) ?_ rfl ⟨rfl, below_set4 HB.out (Nat.le_refl _) _ _ _ _⟩
        obtain ⟨⟨g0, g1, g2, g3⟩, -⟩ := HF.out.put (.int .i64 4) (.string T) (.int .i64 (a : Int)) (.int .i64 ((a : Int) + 1))
        simp [results, Try.results33, go_sem, g0, g1, g2, g3, lxv]

      | false =>
        have hm : markL a (tl s a) = none := by rw [hmL, h1]; rfl
        rw [hm]
        have hge : Lib.indexByte m1 s[a] < 0 := by simpa [markB] using h1
        generalize Lib.indexByte m1 s[a] = ix at HI hge
        clear hm hmL h1 hidx
        simp only [lxv] at HBr
        go_enter Try.func33, Try.ntmps33
        go_wp2_with (first | (go_at_call 42; refine (HT _).mono ?_; rintro e w1 ⟨rfl, hw1⟩; subst w1) | (go_at_call 43; refine (HI _).mono ?_; rintro e w1 ⟨rfl, hw1⟩; subst w1) | (go_at_call 40; refine (HBr _).out.mono ?_; rintro e w1 ⟨rfl, hw1⟩; have HF := Hid.intro (F4.call hw1); have HB := Hid.intro (below_of hw1); obtain ⟨⟨z0, z1, z2, z3⟩, y0, y1, y2, y3⟩ := HF.out; clear hw1))
        refine bodyPost_ret (v := .tuple #[lxv 0 ⟨#[]⟩ (a : Int) 0, .bool false]) ?_ rfl ⟨rfl, below_set4 HB.out (Nat.le_refl _) _ _ _ _⟩
        obtain ⟨⟨g0, g1, g2, g3⟩, -⟩ := HF.out.put (.int .i64 0) (.string ⟨#[]⟩) (.int .i64 (a : Int)) (.int .i64 0)
        simp [results, Try.results33, go_sem, g0, g1, g2, g3, lxv]


  · have hx : ¬ (a : Int) + 1 < (s.size : Int) := by omega
    have hmL : markL a (tl s a) = if markB s[a] then some ⟨4, bs [s[a]], a, a + 1⟩ else none := by
      have htw : twoL (tl s a) = false := by
        unfold twoL
        have : ¬ 2 ≤ (tl s a).length := by rw [tl_len]; omega
        simp [this]
      rw [tl_cons ha] at htw ⊢
      simp only [markL, htw]
      rfl
    have HI := fun w => index_any ⟨#[40, 41, 91, 93, 123, 125, 44, 46, 58, 59, 63, 60, 62, 61, 43, 45, 42, 47, 37, 33]⟩ (s[a].toNat : Int) w
    rw [hidx] at HI
    cases h1 : markB s[a] with
    | true =>
      have hm : markL a (tl s a) = some ⟨4, bs [s[a]], a, a + 1⟩ := by rw [hmL, h1]; rfl
      have HC := fun w => Hid.intro (cut_any 4 s a a (a + 1) (by omega) (by omega) hs w)
      have hex : s.extract a (a + 1) = bs [s[a]] := by
        rw [bs_extract, tl_cons ha, Nat.add_sub_cancel_left]; rfl
      rw [hm]
      have hge : ¬ Lib.indexByte m1 s[a] < 0 := by simpa [markB] using h1
      generalize Lib.indexByte m1 s[a] = ix at HI hge
      rw [hex] at HC
      simp only [told, Lx.v]
      have hcast : ((a + 1 : Nat) : Int) = (a : Int) + 1 := rfl
      simp only [hcast] at HC ⊢
      generalize bs [s[a]] = T at HC ⊢
      clear hm hmL h1 hidx hex
      simp only [lxv] at HC
      go_enter Try.func33, Try.ntmps33
      go_wp2_with (first | (go_at_call 43; refine (HI _).mono ?_; rintro e w1 ⟨rfl, hw1⟩; subst w1) | (go_at_call 27; refine (HC _).out.mono ?_; rintro e w1 ⟨rfl, hw1⟩; have HF := Hid.intro (F4.call hw1); have HB := Hid.intro (below_of hw1); obtain ⟨⟨z0, z1, z2, z3⟩, y0, y1, y2, y3⟩ := HF.out; clear hw1))
      refine bodyPost_ret (v := .tuple #[lxv 4 T (a : Int) ((a : Int) + 1), .bool true]) ?_ rfl ⟨rfl, below_set4 HB.out (Nat.le_refl _) _ _ _ _⟩
      obtain ⟨⟨g0, g1, g2, g3⟩, -⟩ := HF.out.put (.int .i64 4) (.string T) (.int .i64 (a : Int)) (.int .i64 ((a : Int) + 1))
      simp [results, Try.results33, go_sem, g0, g1, g2, g3, lxv]

    | false =>
      have hm : markL a (tl s a) = none := by rw [hmL, h1]; rfl
      rw [hm]
      have hge : Lib.indexByte m1 s[a] < 0 := by simpa [markB] using h1
      generalize Lib.indexByte m1 s[a] = ix at HI hge
      clear hm hmL h1 hidx
      simp only [lxv] at HBr
      go_enter Try.func33, Try.ntmps33
      go_wp2_with (first | (go_at_call 43; refine (HI _).mono ?_; rintro e w1 ⟨rfl, hw1⟩; subst w1) | (go_at_call 40; refine (HBr _).out.mono ?_; rintro e w1 ⟨rfl, hw1⟩; have HF := Hid.intro (F4.call hw1); have HB := Hid.intro (below_of hw1); obtain ⟨⟨z0, z1, z2, z3⟩, y0, y1, y2, y3⟩ := HF.out; clear hw1))
      refine bodyPost_ret (v := .tuple #[lxv 0 ⟨#[]⟩ (a : Int) 0, .bool false]) ?_ rfl ⟨rfl, below_set4 HB.out (Nat.le_refl _) _ _ _ _⟩
      obtain ⟨⟨g0, g1, g2, g3⟩, -⟩ := HF.out.put (.int .i64 0) (.string ⟨#[]⟩) (.int .i64 (a : Int)) (.int .i64 0)
      simp [results, Try.results33, go_sem, g0, g1, g2, g3, lxv]


end Go.Proofs.Ytlheiiapolhpeaa
