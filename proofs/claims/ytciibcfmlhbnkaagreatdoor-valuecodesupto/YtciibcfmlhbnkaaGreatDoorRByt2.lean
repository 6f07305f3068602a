/- The reference's bytes of a list. -/
import Derived.Test.YtciibcfmlhbnkaaGreatDoorRByt
import Derived.Test.YtciibcfmlhbnkaaGreatDoorVPure
import Derived.Test.YtciibcfmlhbnkaaGreatDoorVLaw0
namespace Go.Proofs.YtciibcfmlhbnkaaGreatDoor
open Go.RowKit

theorem own_below {w w' : World} {B : Nat} {v : Value} {n : Nat} {xs : List Value} (h : w.ownsRow B 5 1 v n xs) (hb : Below w.heap.size w w') : w'.ownsRow B 5 1 v n xs :=
  h.kept (row := none) ⟨hb.os, hb.tape, hb.output, hb.size, fun k hk _ => hb.block k hk⟩ (by cases v.ownBlock <;> simp)
set_option maxRecDepth 20000 in
set_option maxHeartbeats 2000000 in
theorem bytes_4 (n r : Nat) (ih : RBytAt n) (b : Bool) (i : Int) (s : ByteArray) (ts : List Tr) (sl : Value) (w : World) (hlen : ts.length ≤ 4096) (hfit : ∀ t ∈ ts, fit r t = true) (hl : Lv w (Vs w n) ts sl) (hx : 5 + (ts.flatMap (enc n)).length ≤ 1000000000) :
    Calls Tryz.prog 68 #[.agg #[.int .i64 4, .bool b, .int .i64 i, .string s, sl]] w fun e w' => RBytP w w' (4 :: (word8 ts.length 4 ++ ts.flatMap (enc n))) e := by
  obtain ⟨a0, ca, rfl, la, ma, ea⟩ := hl
  unfold maxLen at ma
  have HE := Hid.intro ea
  have HX := Hid.intro hx
  clear ea hx
  have HI := Hid.intro info5
  have HO := Hid.intro (own_new1 (w.alloc (.cells #[.int .i64 4, .bool b, .int .i64 i, .string s, .slice a0 ts.length ca] 28)) (w.heap.size + 1) 4 (w.heap.size + 1) (by simp) (by omega))
  have HB : Hid (Below (w.heap.size + 1) (w.alloc (.cells #[.int .i64 4, .bool b, .int .i64 i, .string s, .slice a0 ts.length ca] 28)) ((w.alloc (.cells #[.int .i64 4, .bool b, .int .i64 i, .string s, .slice a0 ts.length ca] 28)).alloc (.cells #[.int .u8 4] 5))) := Hid.intro ((Below.refl _ _).alloc (by simp) _)
  have HF := Hid.intro (fun w' => four_any ts.length w' (by omega))
  go_enter Tryz.func68, Tryz.ntmps68
  go_wp2_with fail
  refine (HF.out _).mono ?_
  rintro e w2 ⟨rfl, hb2, hc2⟩
  have ho2 := Hid.intro (own_below HO.out hb2)
  have hbw2 := Hid.intro (HB.out.trans (hb2.mono (by simp)))
  have hs2 : w.heap.size + 1 + 1 ≤ w2.heap.size := by have := hb2.size; simpa using this
  simp only [World.size_alloc] at hc2
  have HC2 := Hid.intro hc2
  clear hb2 hc2 HO HB
  have hl4 : (bv (ii (word8 (ts.length : Int) 4))).length = 4 * 1 := by simp [bv, ii, word_len]
  have h14 : ∀ u ∈ bv (ii (word8 (ts.length : Int) 4)), u.oneCell' = true := fun u hu => by
    obtain ⟨c, -, rfl⟩ := List.mem_map.1 hu
    rfl
  have H14 := Hid.intro h14
  have HL4 := Hid.intro hl4
  clear h14 hl4
  go_wp2_with (at_builtin; refine wpList_append_own_at _ rfl _ _ 50 rfl (w.heap.size + 1) 5 HI.out.choose (.int .u8 0) 1 1 Tryz.underlying50 HI.out.choose_spec.1 HI.out.choose_spec.2.1 HI.out.choose_spec.2.2.1 HI.out.choose_spec.2.2.2 rfl (by decide) _ _ _ rfl ho2.out ⟨w.heap.size + 1 + 1, 0, none⟩ 4 4 (bv (ii (word8 (ts.length : Int) 4))) rfl HL4.out HC2.out H14.out ?c3 ?c4 ?c5 ?_)
  case c3 => unfold maxLen; omega
  case c4 => omega
  case c5 => omega
  intro v3 w3 hown' hgrow hx3 hat
  have ho3 : Hid (w3.ownsRow (w.heap.size + 1) 5 1 v3 5 (bv (ii (4 :: word8 (ts.length : Int) 4)))) := Hid.intro hown'
  have hbw3 := Hid.intro (grown_belowB hbw2.out hgrow (fun g hg => (ho2.out.lt g hg).1) (by omega))
  clear hown' hgrow hx3 hat ho2 HC2 hbw2 HL4 H14
  go_wp2_with fail
  go_loopw [3, 5] (fun u j wr => ∃ k : Nat, j = .int .i64 (k : Int) ∧ k ≤ ts.length ∧ Hid (wr.ownsRow (w.heap.size + 1) 5 1 u (4 :: (word8 (ts.length : Int) 4 ++ (ts.take k).flatMap (enc n))).length (bv (ii (4 :: (word8 (ts.length : Int) 4 ++ (ts.take k).flatMap (enc n)))))) ∧ Hid (Below (w.heap.size + 1) (w.alloc (.cells #[.int .i64 4, .bool b, .int .i64 i, .string s, .slice a0 ts.length ca] 28)) wr)) (fun _ j _ => ts.length - (intOf j).toNat)
  case atStart => exact ⟨0, rfl, Nat.zero_le _, Hid.intro (by simpa [word_len] using ho3.out), hbw3⟩
  case round =>
    obtain ⟨k, rfl, hk, ho, hbr⟩ := hrel
    have hbox := hbr.out.cell (p := ⟨w.heap.size, 4, none⟩) (Nat.lt_succ_self _)
    simp [go_sem] at hbox
    by_cases hlt : (k : Int) < (ts.length : Int)
    · have hlt' : k < ts.length := by omega
      obtain ⟨b1, o1, rfl, e1⟩ := HE.out (by omega)
      obtain ⟨s1, c1, t1⟩ := e1 k hlt'
      obtain ⟨x1, m1, rfl, -, -⟩ := t1.form
      have hbx := below_bm hbr.out
      obtain ⟨p1, p2, p3, p4, p5⟩ := c1.below hbx
      have ht := List.take_succ_eq_append_getElem hlt'
      have hmem := hfit _ (List.getElem_mem hlt')
      have hsz : (ts.take k).flatMap (enc n) ++ enc n ts[k] = (ts.take (k + 1)).flatMap (enc n) := by rw [ht, List.flatMap_append, List.flatMap_cons, List.flatMap_nil, List.append_nil]
      have hle : ((ts.take (k + 1)).flatMap (enc n)).length ≤ (ts.flatMap (enc n)).length := by
        conv => rhs; rw [← List.take_append_drop (k + 1) ts]
        rw [List.flatMap_append, List.length_append]; omega
      have hle2 : (4 :: (word8 (ts.length : Int) 4 ++ (ts.take k).flatMap (enc n))).length + (enc n ts[k]).length ≤ 1000000000 := by
        have := HX.out
        rw [← hsz] at hle
        simp only [List.length_append, List.length_cons, word_len] at hle ⊢
        omega
      have hys : 4 :: (word8 (ts.length : Int) 4 ++ (ts.take k).flatMap (enc n)) ++ enc n ts[k] = 4 :: (word8 (ts.length : Int) 4 ++ (ts.take (k + 1)).flatMap (enc n)) := by rw [← hsz]; simp only [List.append_assoc, List.cons_append]
      have HC := Hid.intro (ih r ts[k] _ wr hmem (Vs.below hbx _ _ _ t1) (by omega))
      have hpos := enc_long n ts[k] t1.ok
      have hl1 : b1 < wr.heap.size := cell_lt p1
      generalize ts[k] = t at *
      obtain ⟨tk, tb, ti, tz, tl⟩ := t
      unfold vv at HC
      have HYS := Hid.intro hys
      have HLE := Hid.intro hle2
      generalize enc n ⟨tk, tb, ti, tz, tl⟩ = l1 at HC hpos HYS HLE
      clear c1 t1 e1 HE hmem hsz hle hle2 hys ih hfit hbx ht
      generalize 4 :: (word8 (ts.length : Int) 4 ++ (ts.take k).flatMap (enc n)) = pre at ho HYS HLE
      have ib : (0 : Int) ≤ (k : Int) := by omega
      go_wp2_with fail
      refine HC.out.mono ?_
      rintro e w4 ⟨v4, rfl, ho4, hb4⟩
      obtain ⟨g4, cp4, rfl, -, -, -, -, -⟩ := own_bys ho4 hpos
      have HN4 := Hid.intro (ho4.cells (g := g4) rfl)
      have ho5 := Hid.intro (own_below ho.out hb4)
      have hb5 := Hid.intro (hbr.out.trans (hb4.mono hbr.out.size1))
      have hs5 := hb5.out.size1
      have H1 : Hid (∀ u ∈ bv (ii l1), u.oneCell' = true) := Hid.intro (fun u hu => by
        obtain ⟨c, -, rfl⟩ := List.mem_map.1 hu
        rfl)
      have HL1 : Hid ((bv (ii l1)).length = l1.length * 1) := Hid.intro (by simp [bv, ii])
      clear ho4 hb4 ho hbr p1 p2 p3 p4 p5 hbox HC
      go_wp2_with (at_builtin; refine wpList_append_own_at _ rfl _ _ 50 rfl (w.heap.size + 1) 5 HI.out.choose (.int .u8 0) 1 1 Tryz.underlying50 HI.out.choose_spec.1 HI.out.choose_spec.2.1 HI.out.choose_spec.2.2.1 HI.out.choose_spec.2.2.2 rfl (by decide) _ _ _ rfl ho5.out ⟨g4, 0, none⟩ l1.length cp4 (bv (ii l1)) rfl HL1.out HN4.out H1.out ?d3 ?d4 ?d5 ?_)
      case d3 => have := HLE.out; unfold maxLen; omega
      case d4 => have := HLE.out; omega
      case d5 => omega
      intro v6 w6 hown' hgrow hx6 hat
      have e6 : ∀ a : List UInt8, bv (ii a) ++ bv (ii l1) = bv (ii (a ++ l1)) := fun a => by simp [bv, ii]
      rw [e6, ← List.length_append, HYS.out] at hown'
      have ho6 := Hid.intro hown'
      have hb6 := Hid.intro (grown_belowB hb5.out hgrow (fun g hg => (ho5.out.lt g hg).1) (by omega))
      clear hown' hgrow hx6 hat e6 ho5 HN4 hb5 HL1 H1
      go_wp2_with fail
      go_roundw
      case rel => exact ⟨k + 1, by go_num, hlt', ho6, hb6⟩
      case measure => simp [intOf]; omega
    · obtain rfl : k = ts.length := by omega
      rw [List.take_length] at ho
      go_wp2_with fail
      go_ret
      exact ⟨_, rfl, own_base ho.out (Nat.le_succ _), below_bm hbr.out⟩
end Go.Proofs.YtciibcfmlhbnkaaGreatDoor
