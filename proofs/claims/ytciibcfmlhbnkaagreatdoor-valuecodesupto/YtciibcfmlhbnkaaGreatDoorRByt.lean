/- The reference's bytes of a value: they are `enc`. -/
import Derived.Test.YtciibcfmlhbnkaaGreatDoorVEnc3
import Derived.Test.YtciibcfmlhbnkaaGreatDoorRMay
import Derived.Deep.AppendLies
namespace Go.Proofs.YtciibcfmlhbnkaaGreatDoor
open Go.RowKit

theorem word8_4 (m : Int) : bv (ii (word8 m 4)) = [.int .u8 (m / 2 ^ 24 % 256), .int .u8 (m / 2 ^ 16 % 256), .int .u8 (m / 2 ^ 8 % 256), .int .u8 (m % 256)] := by
  rw [ii_word]
  simp [wordB, bv, byteAt, List.range_succ]
set_option maxHeartbeats 1000000 in
theorem four_any (m : Nat) (w : World) (hm : m ≤ 1000000000) :
    Calls Tryz.prog 113 #[.int .i64 (m : Int)] w fun e w' => e = .returned (.slice (some ⟨w.heap.size, 0, none⟩) 4 4) ∧ Below w.heap.size w w' ∧ (∀ j u, (bv (ii (word8 (m : Int) 4)))[j]? = some u → w'.cell? ((⟨w.heap.size, 0, none⟩ : Addr).add j) = some u) := by
  rw [word8_4]
  go_enter Tryz.func113, Tryz.ntmps113
  go_wp2
  go_ret
  refine ⟨rfl, (Below.refl _ _).alloc (Nat.le_refl _) _, ?_⟩
  intro j u hj
  have e1 : (m : Int) / 2 ^ 24 % 256 = (m : Int) / 16777216 := by omega
  rw [e1] at hj
  exact World.news_of_block (heap_alloc_new w _) j u (by simpa using hj)

theorem own_new1 (w : World) (B : Nat) (c : Int) (S : Nat) (hS : w.heap.size = S) (hB : B ≤ S) : (w.alloc (.cells #[.int .u8 c] 5)).ownsRow B 5 1 (.slice (some ⟨S, 0, none⟩) 1 1) 1 [.int .u8 c] := by
  subst hS
  exact ⟨rfl, .inr ⟨w.heap.size, 1, #[.int .u8 c], rfl, hB, heap_alloc_new w _, Nat.le_refl _, by decide, rfl, rfl⟩⟩
/-- What Bytes leaves. -/
def RBytP (w w' : World) (ys : List UInt8) (e : Ending) : Prop :=
  ∃ v', e = .returned v' ∧ w'.ownsRow w.heap.size 5 1 v' ys.length (bv (ii ys)) ∧ Below w.heap.size w w'
def RBytAt (n : Nat) : Prop := ∀ (r : Nat) (t : Tr) (sv : Value) (w : World), fit r t = true → Vs w n t sv → (enc n t).length ≤ 1000000000 →
    Calls Tryz.prog 68 #[vv t sv] w fun e w' => RBytP w w' (enc n t) e

set_option maxRecDepth 20000 in
set_option maxHeartbeats 2000000 in
theorem bytes_0 (b : Bool) (i : Int) (s : ByteArray) (p : Option Addr) (n c : Nat) (w : World) :
    Calls Tryz.prog 68 #[.agg #[.int .i64 0, .bool b, .int .i64 i, .string s, .slice p n c]] w fun e w' => RBytP w w' [0] e := by
  go_enter Tryz.func68, Tryz.ntmps68
  go_wp2
  go_ret
  exact ⟨_, rfl, own_new1 (w.alloc (.cells #[.int .i64 0, .bool b, .int .i64 i, .string s, .slice p n c] 28)) w.heap.size 0 (w.heap.size + 1) (by simp) (by omega), below_al (below_al (Below.refl _ _) _) _⟩

set_option maxRecDepth 20000 in
set_option maxHeartbeats 2000000 in
theorem bytes_1 (b : Bool) (i : Int) (s : ByteArray) (p : Option Addr) (n c : Nat) (w : World) :
    Calls Tryz.prog 68 #[.agg #[.int .i64 1, .bool b, .int .i64 i, .string s, .slice p n c]] w fun e w' => RBytP w w' [1, bitU b] e := by
  have HI := Hid.intro info5
  have HO := Hid.intro (own_new1 (w.alloc (.cells #[.int .i64 1, .bool b, .int .i64 i, .string s, .slice p n c] 28)) w.heap.size 1 (w.heap.size + 1) (by simp) (by omega))
  have HB : Hid (∀ o : Obj, Below w.heap.size w (((w.alloc (.cells #[.int .i64 1, .bool b, .int .i64 i, .string s, .slice p n c] 28)).alloc (.cells #[.int .u8 1] 5)).alloc o)) := Hid.intro (fun o => below_al (below_al (below_al (Below.refl _ _) _) _) _)
  cases b
  · go_enter Tryz.func68, Tryz.ntmps68
    go_wp2_with (at_builtin; refine wpList_append_own_at _ rfl _ _ 50 rfl w.heap.size 5 HI.out.choose (.int .u8 0) 1 1 Tryz.underlying50 HI.out.choose_spec.1 HI.out.choose_spec.2.1 HI.out.choose_spec.2.2.1 HI.out.choose_spec.2.2.2 rfl (by decide) _ _ _ rfl (HO.out.alloc _) ⟨w.heap.size + 1 + 1, 0, none⟩ 1 1 [.int .u8 0] rfl rfl ?c1 ?c2 ?c3 ?c4 ?c5 ?_)
    case c1 => intro j u hj; match j, hj with | 0, hj => simp at hj; subst hj; simp [Addr.add, go_sem]
    case c2 => intro u hu; simp at hu; subst hu; rfl
    case c3 => unfold maxLen; omega
    case c4 => omega
    case c5 => simp; omega
    intro v1 w1 hown' hgrow hx hat
    have hb1 : Below w.heap.size w w1 := grown_below (HB.out _) hgrow (fun g h => by cases h; simp)
    go_wp2_with fail
    go_ret
    exact ⟨v1, rfl, hown', hb1⟩
  · go_enter Tryz.func68, Tryz.ntmps68
    go_wp2_with (at_builtin; refine wpList_append_own_at _ rfl _ _ 50 rfl w.heap.size 5 HI.out.choose (.int .u8 0) 1 1 Tryz.underlying50 HI.out.choose_spec.1 HI.out.choose_spec.2.1 HI.out.choose_spec.2.2.1 HI.out.choose_spec.2.2.2 rfl (by decide) _ _ _ rfl (HO.out.alloc _) ⟨w.heap.size + 1 + 1, 0, none⟩ 1 1 [.int .u8 1] rfl rfl ?c1 ?c2 ?c3 ?c4 ?c5 ?_)
    case c1 => intro j u hj; match j, hj with | 0, hj => simp at hj; subst hj; simp [Addr.add, go_sem]
    case c2 => intro u hu; simp at hu; subst hu; rfl
    case c3 => unfold maxLen; omega
    case c4 => omega
    case c5 => simp; omega
    intro v1 w1 hown' hgrow hx hat
    have hb1 : Below w.heap.size w w1 := grown_below (HB.out _) hgrow (fun g h => by cases h; simp)
    go_wp2_with fail
    go_ret
    exact ⟨v1, rfl, hown', hb1⟩

theorem own_base {w : World} {B B' : Nat} {v : Value} {n : Nat} {xs : List Value} (h : w.ownsRow B 5 1 v n xs) (hB : B' ≤ B) : w.ownsRow B' 5 1 v n xs := by
  obtain ⟨h1, h | ⟨g, cap, cur, a, b, c⟩⟩ := h
  · exact ⟨h1, .inl h⟩
  · exact ⟨h1, .inr ⟨g, cap, cur, a, Nat.le_trans hB b, c⟩⟩
theorem below_al' {B : Nat} {a w : World} (h : Below B a w) (hB : B ≤ w.heap.size) (o : Obj) : Below B a (w.alloc o) := h.trans ((Below.refl _ _).alloc hB o)
theorem grown_belowB {B : Nat} {a w w' : World} {ow : Option Nat} (h : Below B a w) (hg : w.grownBy w' ow) (how : ∀ g, ow = some g → B ≤ g) (hB : B ≤ w.heap.size) : Below B a w' :=
  ⟨hg.os.trans h.os, hg.tape.trans h.tape, hg.output.trans h.output, Nat.le_trans h.size hg.size, fun k hk => (hg.block k (Nat.lt_of_lt_of_le hk hB) (fun e => by have := how k e.symm; omega)).trans (h.block k hk)⟩
theorem byte_wrap (i : Int) (m : Nat) (hm : m ≤ 7) : IntKind.u64.wrap i / 2 ^ (8 * m) % 256 = i / 2 ^ (8 * m) % 256 := by
  have e : IntKind.u64.wrap i = i % 18446744073709551616 := by simp [IntKind.wrap, IntKind.bits, IntKind.signed]
  rw [e]
  have : m = 0 ∨ m = 1 ∨ m = 2 ∨ m = 3 ∨ m = 4 ∨ m = 5 ∨ m = 6 ∨ m = 7 := by omega
  rcases this with rfl | rfl | rfl | rfl | rfl | rfl | rfl | rfl <;> simp <;> omega
theorem word_step (c : UInt8) (i : Int) (j : Nat) (hj : j < 8) : bv (ii (c :: (word8 (IntKind.u64.wrap i) 8).take j)) ++ [.int .u8 (i / 2 ^ (56 - 8 * j) % 256)] = bv (ii (c :: (word8 (IntKind.u64.wrap i) 8).take (j + 1))) := by
  have h := byte_wrap i (7 - j) (by omega)
  rw [show 8 * (7 - j) = 56 - 8 * j by omega] at h
  have hg : (wordB (IntKind.u64.wrap i) 8)[j]? = some (i / 2 ^ (56 - 8 * j) % 256) := by
    rw [← h, wordB, List.getElem?_map, List.getElem?_range hj]
    simp only [Option.map_some, byteAt]
    rw [show 8 * (8 - 1 - j) = 56 - 8 * j by omega]
  have ht : ∀ k, ii ((word8 (IntKind.u64.wrap i) 8).take k) = (wordB (IntKind.u64.wrap i) 8).take k := fun k => by rw [← ii_word]; exact List.map_take ..
  have hc : ∀ l, ii (c :: l) = (c.toNat : Int) :: ii l := fun l => rfl
  rw [hc, hc, ht, ht, List.take_add_one, hg]
  simp [bv]
set_option maxRecDepth 20000 in
set_option maxHeartbeats 2000000 in
theorem bytes_n (k : Int) (hk : k = 2 ∨ k = 5) (b : Bool) (i : Int) (s : ByteArray) (p : Option Addr) (n c : Nat) (w : World) :
    Calls Tryz.prog 68 #[.agg #[.int .i64 k, .bool b, .int .i64 i, .string s, .slice p n c]] w fun e w' => RBytP w w' (UInt8.ofNat k.toNat :: word8 (IntKind.u64.wrap i) 8) e := by
  have HI := Hid.intro info5
  have HO := Hid.intro (own_new1 (w.alloc (.cells #[.int .i64 k, .bool b, .int .i64 i, .string s, .slice p n c] 28)) (w.heap.size + 1) k (w.heap.size + 1) (by simp) (by omega))
  have HB : Hid (Below (w.heap.size + 1) (w.alloc (.cells #[.int .i64 k, .bool b, .int .i64 i, .string s, .slice p n c] 28)) ((w.alloc (.cells #[.int .i64 k, .bool b, .int .i64 i, .string s, .slice p n c] 28)).alloc (.cells #[.int .u8 k] 5))) := Hid.intro ((Below.refl _ _).alloc (by simp) _)
  have hbv : bv (ii [UInt8.ofNat k.toNat]) = [.int .u8 k] := by rcases hk with rfl | rfl <;> rfl
  go_enter Tryz.func68, Tryz.ntmps68
  rcases hk with rfl | rfl
  · go_wp2_with fail
    go_loopw [3, 4] (fun u x w' => ∃ j : Nat, j ≤ 8 ∧ x = .int .i64 (56 - 8 * (j : Int)) ∧ Hid (w'.ownsRow (w.heap.size + 1) 5 1 u (1 + j) (bv (ii (UInt8.ofNat 2 :: (word8 (IntKind.u64.wrap i) 8).take j)))) ∧ Hid (Below (w.heap.size + 1) (w.alloc (.cells #[.int .i64 2, .bool b, .int .i64 i, .string s, .slice p n c] 28)) w')) (fun _ x _ => ((intOf x + 8) / 8).toNat)
    case atStart => exact ⟨0, by omega, rfl, Hid.intro (by simpa [bv, ii] using HO.out), HB⟩
    case round =>
      obtain ⟨j, hj, rfl, ho, hbw⟩ := hrel
      have hbox := hbw.out.cell (p := ⟨w.heap.size, 2, none⟩) (Nat.lt_succ_self _)
      simp [go_sem] at hbox
      by_cases hlt : j < 8
      · have h0 : (0 : Int) ≤ 56 - 8 * (j : Int) := by omega
        have h1 : ¬ (56 - 8 * (j : Int) < 0) := by omega
        have hw := hbw.out.size1
        go_wp2_with (at_builtin; refine wpList_append_own_at _ rfl _ _ 50 rfl (w.heap.size + 1) 5 HI.out.choose (.int .u8 0) 1 1 Tryz.underlying50 HI.out.choose_spec.1 HI.out.choose_spec.2.1 HI.out.choose_spec.2.2.1 HI.out.choose_spec.2.2.2 rfl (by decide) _ _ _ rfl (ho.out.alloc _) ⟨wr.heap.size, 0, none⟩ 1 1 [.int .u8 (i / 2 ^ (56 - 8 * j) % 256)] rfl rfl (new_one _ _ _) ?c2 ?c3 ?c4 ?c5 ?_)
        case c2 => first | rfl | (intro u hu; simp at hu; subst hu; rfl)
        case c3 => unfold maxLen; omega
        case c4 => omega
        case c5 => first | omega | (simp; omega)
        intro v1 w1 hown' hgrow hx hat
        rw [word_step _ _ _ hlt] at hown'
        have ho' := Hid.intro hown'
        have hb1 := Hid.intro (grown_belowB (below_al' hbw.out hw _) hgrow (fun g hg => (ho.out.lt g hg).1) (by simp; omega))
        clear hown' hgrow hx hat hbox
        go_wp2
        go_roundw
        case rel => exact ⟨j + 1, by omega, by go_num, ho', hb1⟩
        case measure => simp [intOf]; omega
      · have h0 : ¬ (0 : Int) ≤ 56 - 8 * (j : Int) := by omega
        obtain rfl : j = 8 := by omega
        go_wp2
        go_ret
        refine ⟨_, rfl, ?_, below_bm hbw.out⟩
        have := own_base ho.out (Nat.le_succ w.heap.size)
        rw [List.take_of_length_le (by rw [word_len]; omega)] at this
        simpa [word_len] using this
  · go_wp2_with fail
    go_loopw [3, 4] (fun u x w' => ∃ j : Nat, j ≤ 8 ∧ x = .int .i64 (56 - 8 * (j : Int)) ∧ Hid (w'.ownsRow (w.heap.size + 1) 5 1 u (1 + j) (bv (ii (UInt8.ofNat 5 :: (word8 (IntKind.u64.wrap i) 8).take j)))) ∧ Hid (Below (w.heap.size + 1) (w.alloc (.cells #[.int .i64 5, .bool b, .int .i64 i, .string s, .slice p n c] 28)) w')) (fun _ x _ => ((intOf x + 8) / 8).toNat)
    case atStart => exact ⟨0, by omega, rfl, Hid.intro (by simpa [bv, ii] using HO.out), HB⟩
    case round =>
      obtain ⟨j, hj, rfl, ho, hbw⟩ := hrel
      have hbox := hbw.out.cell (p := ⟨w.heap.size, 2, none⟩) (Nat.lt_succ_self _)
      simp [go_sem] at hbox
      by_cases hlt : j < 8
      · have h0 : (0 : Int) ≤ 56 - 8 * (j : Int) := by omega
        have h1 : ¬ (56 - 8 * (j : Int) < 0) := by omega
        have hw := hbw.out.size1
        go_wp2_with (at_builtin; refine wpList_append_own_at _ rfl _ _ 50 rfl (w.heap.size + 1) 5 HI.out.choose (.int .u8 0) 1 1 Tryz.underlying50 HI.out.choose_spec.1 HI.out.choose_spec.2.1 HI.out.choose_spec.2.2.1 HI.out.choose_spec.2.2.2 rfl (by decide) _ _ _ rfl (ho.out.alloc _) ⟨wr.heap.size, 0, none⟩ 1 1 [.int .u8 (i / 2 ^ (56 - 8 * j) % 256)] rfl rfl (new_one _ _ _) ?c2 ?c3 ?c4 ?c5 ?_)
        case c2 => first | rfl | (intro u hu; simp at hu; subst hu; rfl)
        case c3 => unfold maxLen; omega
        case c4 => omega
        case c5 => first | omega | (simp; omega)
        intro v1 w1 hown' hgrow hx hat
        rw [word_step _ _ _ hlt] at hown'
        have ho' := Hid.intro hown'
        have hb1 := Hid.intro (grown_belowB (below_al' hbw.out hw _) hgrow (fun g hg => (ho.out.lt g hg).1) (by simp; omega))
        clear hown' hgrow hx hat hbox
        go_wp2
        go_roundw
        case rel => exact ⟨j + 1, by omega, by go_num, ho', hb1⟩
        case measure => simp [intOf]; omega
      · have h0 : ¬ (0 : Int) ≤ 56 - 8 * (j : Int) := by omega
        obtain rfl : j = 8 := by omega
        go_wp2
        go_ret
        refine ⟨_, rfl, ?_, below_bm hbw.out⟩
        have := own_base ho.out (Nat.le_succ w.heap.size)
        rw [List.take_of_length_le (by rw [word_len]; omega)] at this
        simpa [word_len] using this
end Go.Proofs.YtciibcfmlhbnkaaGreatDoor
