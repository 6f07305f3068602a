/- proctorref1's reader: value, a list that may be read. -/
import Derived.Test.YtciibcfmlhbnkaaGreatDoorRDec5
import Derived.Test.YtciibcfmlhbnkaaGreatDoorVLaw0
namespace Go.Proofs.YtciibcfmlhbnkaaGreatDoor
open Go.RowKit

set_option maxRecDepth 20000 in
set_option maxHeartbeats 4000000 in
theorem rval_4 {c : UInt8} {m q D : Nat} {r : List UInt8} (ih : RValAt q) (hD : q + 1 + D = 31) {w : World} {R G off cap : Nat} {l : List UInt8} (h : Rd w R G off cap (c :: l)) (hc : c.toNat = 4) (he : ¬ l.length < 4) (hm : wordN (l.take 4) = m) (hr : l.drop 4 = r) (hx : m ≤ 4096) (hl : l.length ≤ 1000000000) :
    Calls Tryz.prog 70 #[.pointer (some ⟨R, 0, none⟩), .int .i64 (D : Int)] w fun e w' => Tu R w w' ∧ ValP w R G (q + 1 + 1) e w' ((decL (rdec q) m r).map fun y => ({ zeroT with k := 4, l := y.1 }, y.2)) := by
  have hmo : Tryz.prog.follows .mixedOrders = true := by kernel_rfl
  have hA := below_al (Below.refl w.heap.size w) (.cells #[.int .i64 0, .bool false, .int .i64 0, .string ⟨#[]⟩, .slice none 0 0] 28)
  have HW := Hid.intro (rnum_yes (h.below hA) 1 (by simp) (by omega))
  rw [show wordI (List.take 1 (c :: l)) = c.toNat from wordI_1 _, show List.drop 1 (c :: l) = l from rfl] at HW
  have HT := Hid.intro (Tu.below (R := R) hA)
  have hlt := h.lt
  have hltG := h.ltG
  have hrl : r.length ≤ 1000000000 := by rw [← hr, List.length_drop]; omega
  clear h hA
  rw [hc] at HW
  go_enter Tryz.func70, Tryz.ntmps70
  go_wp2_with fail
  refine HW.out.mono ?_
  rintro e w1 ⟨rfl, ⟨o1, k1, h1⟩, h2⟩
  have g0 := fun j => h2.cell (g := w.heap.size) (j := j) (by simp) (by omega)
  have z0 := fun j => h2.froz (g := w.heap.size) (j := j) (by simp) (by omega)
  have hs : w.heap.size < w1.heap.size := by have := h2.size; simp at this; omega
  have hs2 : w.heap.size < w1.heap.size + 1 := by omega
  have T1 := Hid.intro (HT.out.trans h2)
  have n1 : ¬ w1.heap.size = w.heap.size := by omega
  have n2 : ¬ w.heap.size = w1.heap.size := by omega
  have hR1 := h1.lt
  have hG1' := h1.ltG
  have n3 : ¬ w1.heap.size = R := by omega
  have n4 : ¬ w.heap.size = R := by omega
  have n5 : ¬ R = w1.heap.size := by omega
  have n6 : ¬ R = w.heap.size := by omega
  clear HW HT h2
  have HX := fun o => Hid.intro (rnum_yes (h1.al o) 4 (by omega) (by omega))
  rw [wordI_4 he] at HX
  simp only [hm, hr] at HX
  have hm1 : ¬ (4096 : Int) < (m : Int) := by omega
  have hm2 : ¬ (30 : Int) < (D : Int) := by omega
  go_wp2_with fail
  refine ((HX _).out).mono ?_
  rintro e w2 ⟨rfl, ⟨o2, k2, h2⟩, t2⟩
  have e1 := h2.c1
  have e2 := h2.f1
  have hs3 : w1.heap.size < w2.heap.size := by have := t2.size; simp at this; omega
  have T2 : Tu R w w2 := T1.out.trans (Tu.trans (by exact (Tu.refl _ _).al _) t2)
  have HS : Hid (St w R w1.heap.size (w2.setCell ⟨R, 1, none⟩ (.bool false)) 0 [] (.slice none 0 0)) := by
    have b := fun j => t2.cell (g := w1.heap.size) (j := j) (by simp) (by omega)
    have d := fun j => t2.froz (g := w1.heap.size) (j := j) (by simp) (by omega)
    have a := fun j => t2.cell (g := w.heap.size) (j := j) (by simp; omega) (by omega)
    have f := fun j => t2.froz (g := w.heap.size) (j := j) (by simp; omega) (by omega)
    have A := fun j => cell_other w2 R 1 (.bool false) w1.heap.size j (.inl (by omega))
    have B := fun j => cell_other w2 R 1 (.bool false) w.heap.size j (.inl (by omega))
    refine Hid.intro ⟨T2.trans (Tu.set _ _ _ _), by simp; omega, World.ownsRow_nil _ _ _ _, ?_, ?_, ?_, ?_, ?_, ?_, fun j => ?_, fun j => ?_⟩
    · rw [A, b]; exact new_cell rfl 0
    · rw [A, b]; exact new_cell rfl 1
    · rw [A, b]; exact new_cell rfl 2
    · rw [A, b]; exact new_cell rfl 3
    · rw [A, b]; exact new_cell rfl 4
    · simpa using d 4
    · rw [B, a, ← g0 j]
      exact World.cell?_of_block (a := ⟨w.heap.size, j, none⟩) (heap_alloc_old w1 _ hs)
    · have x := f j
      have y : (w1.alloc (.cells #[.int .i64 4, .bool false, .int .i64 0, .string ⟨#[]⟩, .slice none 0 0] 28)).frozen? ⟨w.heap.size, j, none⟩ = w1.frozen? ⟨w.heap.size, j, none⟩ := World.frozen?_of_block (a := ⟨w.heap.size, j, none⟩) (heap_alloc_old w1 _ hs)
      rw [← z0 j, ← y, ← x]
      simp
  have HG : Hid (GotR (rdec q) (q + 1) w1.heap.size R G m r 0 (w2.setCell ⟨R, 1, none⟩ (.bool false)) [] (.slice none 0 0) o2 k2 r) := Hid.intro ⟨h2.same, hrl, by simp, fun x hx => by simp at hx⟩
  obtain ⟨i5, z5, hi5, hz5, hz5c, hs5, hb5⟩ := zeroV
  have hI := Hid.intro (And.intro hi5 (And.intro hz5 (And.intro hz5c (And.intro hs5 hb5))))
  have hV : w.heap.size < w1.heap.size := hs
  generalize w1.heap.size = V at *
  clear HX T1 T2 t2 h2 hz5 hz5c hs5 hb5 hi5 h1 g0 z0 hs
  have hdd : (decide ((4096 : Int) < (m : Int)) || decide ((30 : Int) < (D : Int))) = false := by simp; omega
  go_wp2_with fail
  go_loopw [8] (fun i wr => ∃ (k : Nat) (xs : List (Tr × Value)) (u : Value), i = .int .i64 (k : Int) ∧ k ≤ m ∧ xs.length = k ∧ Hid (St w R V wr k xs u) ∧
    ((∃ off cap r', Hid (GotR (rdec q) (q + 1) V R G m r k wr xs u off cap r')) ∨ Hid (Bd wr R ∧ decL (rdec q) m r = none))) (fun i _ => m - (intOf i).toNat)
  case atStart => exact ⟨0, [], _, rfl, Nat.zero_le _, rfl, HS, .inl ⟨o2, k2, r, HG⟩⟩
  case round =>
    obtain ⟨k, xs, u, rfl, hk, hxl, hS, hst⟩ := hrel
    obtain ⟨pu, cu, rfl⟩ := hS.out.form
    have v0 := hS.out.v0
    have v1 := hS.out.v1
    have v2 := hS.out.v2
    have v3 := hS.out.v3
    have v4 := hS.out.v4
    have vf := hS.out.vf
    have rc := hS.out.rc
    have rf := hS.out.rf
    have lt := hS.out.lt
    have lt2 : w.heap.size < wr.heap.size := by omega
    by_cases hlt2 : (k : Int) < (m : Int)
    · rcases hst with ⟨o3, k3, r', HG⟩ | HB
      · have c1 := HG.out.rd.c1
        have hlt' : k < m := by omega
        go_wp2_with fail
        have hT0 : Tu R wr wr.drew := ⟨rfl, rfl, rfl, Nat.le_refl _, fun _ _ _ => rfl⟩
        have hS1 := Hid.intro (hS.out.via hlt hV hT0)
        have hG1 : Hid (GotR (rdec q) (q + 1) V R G m r k wr.drew xs (.slice pu k cu) o3 k3 r') := Hid.intro ⟨HG.out.rd.below (Below.refl _ _).drew, HG.out.short, HG.out.eq, fun x hx => VsB.move (w := wr) (w' := wr.drew) (fun _ _ _ _ => rfl) (fun _ h => h) _ _ _ (HG.out.vs x hx)⟩
        clear hS HG hT0 v0 v1 v2 v3 v4 vf rc rf c1 lt lt2
        refine wp_region_noPanic ?_
        refine wp_region_held_drew (S := fun _ => True) hmo trivial (fun hS0 => ?_)
        generalize World.drew wr = wd at hS1 hG1 ⊢
        have v4 := hS1.out.v4
        have vf := hS1.out.vf
        have HC := Hid.intro (ih (D + 1) (by omega) wd R G o3 k3 r' hG1.out.rd hG1.out.short)
        have hw : IntKind.i64.wrap ((D : Int) + 1) = ((D + 1 : Nat) : Int) := by simp [IntKind.wrap, IntKind.bits, IntKind.signed]; omega
        refine take_q 0 82 (.pointer (some ⟨V, 4, none⟩)) ⟨_, rfl, rfl, Or.inl ⟨by rfl, fun w hSw => by go_simp⟩⟩ (by kernel_rfl) (by kernel_rfl) (by kernel_rfl) (fun _ _ _ h => h) hS0 ?_
        simp only [List.setIfInBounds_toArray, List.set_cons_succ, List.set_cons_zero]
        refine take_q 2 84 (.pointer (some ⟨R, 0, none⟩)) ⟨_, rfl, rfl, Or.inl ⟨by rfl, fun w hSw => by go_simp⟩⟩ (by kernel_rfl) (by kernel_rfl) (by kernel_rfl) (fun _ _ _ h => h) hS0 ?_
        simp only [List.setIfInBounds_toArray, List.set_cons_succ, List.set_cons_zero]
        refine take_q 3 85 (.int .i64 (D : Int)) ⟨_, rfl, rfl, Or.inl ⟨by rfl, fun w hSw => by go_simp⟩⟩ (by kernel_rfl) (by kernel_rfl) (by kernel_rfl) (fun _ _ _ h => h) hS0 ?_
        simp only [List.setIfInBounds_toArray, List.set_cons_succ, List.set_cons_zero]
        refine take_q 4 86 (.int .i64 ((D + 1 : Nat) : Int)) ⟨_, rfl, rfl, Or.inl ⟨by rfl, fun w hSw => by go_simp⟩⟩ (by kernel_rfl) (by kernel_rfl) (by kernel_rfl) (fun _ _ _ h => h) hS0 ?_
        simp only [List.setIfInBounds_toArray, List.set_cons_succ, List.set_cons_zero]
        refine share (fun z W us => ∃ (w4 : World) (ka : Int) (ba : Bool) (ia : Int) (sa : ByteArray) (pa : Option Addr) (ma ca : Nat), us = [.int .i64 ka, .bool ba, .int .i64 ia, .string sa, .slice pa ma ca] ∧ z = w4.heap.size ∧ W = w4.alloc (.cells us.toArray 28) ∧ Tu R wd w4 ∧ ValP wd R G (q + 1) (.returned (.agg us.toArray)) w4 (rdec q r')) 3 #[true, true, true, true, true, true, true, false, false, false] (fun z us => [(83, .slice pu k cu), (87, .agg us.toArray), (88, .slice (some ⟨z, 0, none⟩) 1 1)]) ?_ (fun HT5 => ?_)
        · rintro z W us ⟨w4, ka, ba, ia, sa, pa, ma, ca, rfl, rfl, rfl, t4, hv⟩
          simp only [putL, List.foldl, Act.put, List.setIfInBounds_toArray, List.set_cons_succ, List.set_cons_zero]
          have hS5 := hS1.out.via (w' := w4.alloc (.cells [.int .i64 ka, .bool ba, .int .i64 ia, .string sa, .slice pa ma ca].toArray 28)) hlt hV (t4.al _)
          have hlt5 := hS5.lt
          obtain ⟨hi5, hz5, hz5c, hs5, hb5⟩ := hI.out
          refine wpAnyH_ready (rs := [7]) (by kernel_rfl) (by simp) ?_
          refine AllReadyH.cons rfl (fun K' hK => ?_) AllReadyH.nil
          rw [if_pos (by rfl)]
          refine wp_append_at _ _ 22 rfl (V + 1) 28 i5 z5 5 64 Tryz.underlying22 hi5 hz5 hs5 hb5 (by rw [hz5c]; rfl) (by decide) _ _ _ rfl hS5.own ⟨w4.heap.size, 0, none⟩ 1 1 [.int .i64 ka, .bool ba, .int .i64 ia, .string sa, .slice pa ma ca] rfl rfl (fun j u hj => new_row w4 _ _ j u hj) (by intro u hu; simp at hu; rcases hu with rfl | rfl | rfl | rfl | rfl <;> rfl) (by unfold maxLen; omega) (by omega) (by omega) (fun u' w5 ho5 hg5 hat5 => ?_)
          obtain ⟨pu', cu', rfl⟩ := own_form ho5
          have hnV : some V ≠ (Value.slice pu k cu).ownBlock := fun e => by have := (hS5.own.lt _ e.symm).1; omega
          have c5 : w5.cell? ⟨V, 4, none⟩ = some (.slice pu k cu) := (World.cell?_of_block (a := ⟨V, 4, none⟩) (hg5.block V hlt5 hnV)).trans hS5.v4
          have f5 : w5.frozen? ⟨V, 4, none⟩ = false := (World.frozen?_of_block (a := ⟨V, 4, none⟩) (hg5.block V hlt5 hnV)).trans hS5.vf
          refine hK.out _ _ trivial (fun _ => ?_)
          clear hK K'
          (try simp only [Act.put, List.getElem_toArray, List.getElem_cons_succ, List.getElem_cons_zero, List.setIfInBounds_toArray, List.set_cons_succ, List.set_cons_zero])
          refine take_q 8 90 (.pointer (some ⟨V, 4, none⟩)) ⟨_, rfl, rfl, Or.inl ⟨by rfl, fun w hSw => by go_simp⟩⟩ (by kernel_rfl) (by kernel_rfl) (by kernel_rfl) (fun _ _ _ h => h) hS0 ?_
          simp only [List.setIfInBounds_toArray, List.set_cons_succ, List.set_cons_zero]
          refine wpAnyH_ready (rs := [9]) (by kernel_rfl) (by simp) ?_
          refine AllReadyH.cons rfl (fun K' hK => ?_) AllReadyH.nil
          go_simp
          go_wp2_with fail
          refine hK.out _ _ trivial (fun _ => ?_)
          clear hK K'
          (try simp only [List.setIfInBounds_toArray, List.set_cons_succ, List.set_cons_zero])
          refine wpAnyH_done (by kernel_rfl) ?_ _
          refine np_x ?_
          have hdl := hG1.out.eq
          have HS6 : ∀ tl : List Tr, Hid (St w R V (w5.setCell ⟨V, 4, none⟩ (.slice pu' (k + 1) cu')) (k + 1) (xs ++ [((⟨ka, ba, ia, sa, tl⟩ : Tr), Value.slice pa ma ca)]) (.slice pu' (k + 1) cu')) := fun tl => Hid.intro (hS5.put hV hg5 (by rw [List.flatMap_append]; simpa [cl5] using ho5))
          have HX6 : Hid (∃ tl, (∃ off cap r0, Hid (GotR (rdec q) (q + 1) V R G m r (k + 1) (w5.setCell ⟨V, 4, none⟩ (.slice pu' (k + 1) cu')) (xs ++ [((⟨ka, ba, ia, sa, tl⟩ : Tr), Value.slice pa ma ca)]) (.slice pu' (k + 1) cu') off cap r0)) ∨ Hid (Bd (w5.setCell ⟨V, 4, none⟩ (.slice pu' (k + 1) cu')) R ∧ decL (rdec q) m r = none)) := by
            refine Hid.intro ?_
            cases hd : rdec q r' with
            | none =>
              rw [hd] at hv
              exact ⟨[], .inr (Hid.intro ⟨bad_more hR1 hS1.out.own hg5 hv.2, decL_none hdl hlt' hd⟩)⟩
            | some x =>
              obtain ⟨t, r0⟩ := x
              rw [hd] at hv
              obtain ⟨sv, he, hvs, off', cap', hrd⟩ := hv
              obtain ⟨tk, tb, ti, tz, tl⟩ := t
              simp [vv] at he
              obtain ⟨rfl, rfl, rfl, rfl, rfl⟩ := he
              exact ⟨tl, .inl ⟨off', cap', r0, Hid.intro (got_more hG1.out hlt' hR1 hG1' hS1.out.lt hS1.out.own t4 hg5 hat5 (rdec_le q) hd hvs hrd)⟩⟩
          clear hv hdl ho5 hg5 hat5 c5 f5 hS5 t4 HC hS1 hG1
          go_wp2_with fail
          go_roundw
          case rel =>
            obtain ⟨tl, hx6⟩ := HX6.out
            exact ⟨k + 1, xs ++ [((⟨ka, ba, ia, sa, tl⟩ : Tr), Value.slice pa ma ca)], _, by go_num, hlt', by simp [hxl], HS6 tl, hx6⟩
          case measure => simp [intOf]; omega
        · (try simp only [putL, List.foldl, Act.put, List.setIfInBounds_toArray, List.set_cons_succ, List.set_cons_zero] at HT5)
          refine wpAnyH_ready (rs := [1, 5]) (by kernel_rfl) (by simp) ?_
          refine AllReadyH.cons rfl (fun K' hK => ?_) (AllReadyH.cons rfl (fun K' hK => ?_) AllReadyH.nil)
          · go_simp
            refine hK.out _ _ trivial (fun _ => ?_)
            clear hK K'
            (try simp only [Act.put, List.getElem_toArray, List.getElem_cons_succ, List.getElem_cons_zero, List.setIfInBounds_toArray, List.set_cons_succ, List.set_cons_zero])
            refine wpAnyH_ready (rs := [5]) (by kernel_rfl) (by simp) ?_
            refine AllReadyH.cons rfl (fun K' hK => ?_) AllReadyH.nil
            go_simp
            refine HC.out.mono ?_
            rintro e w4 ⟨t4, hv⟩
            obtain ⟨ka, ba, ia, sa, pa, ma, ca, rfl⟩ := hv.form
            go_wp2_with fail
            refine hK.out _ _ trivial (fun _ => ?_)
            clear hK K'
            (try simp only [Act.put, List.getElem_toArray, List.getElem_cons_succ, List.getElem_cons_zero, List.setIfInBounds_toArray, List.set_cons_succ, List.set_cons_zero])
            refine wpAnyH_ready (rs := [6]) (by kernel_rfl) (by simp) ?_
            refine AllReadyH.cons rfl (fun K' hK => ?_) AllReadyH.nil
            go_simp
            go_wp2_with fail
            refine hK.out _ _ trivial (fun _ => ?_)
            clear hK K'
            (try simp only [Act.put, List.getElem_toArray, List.getElem_cons_succ, List.getElem_cons_zero, List.setIfInBounds_toArray, List.set_cons_succ, List.set_cons_zero])
            exact HT5 w4.heap.size _ [.int .i64 ka, .bool ba, .int .i64 ia, .string sa, .slice pa ma ca] ⟨w4, ka, ba, ia, sa, pa, ma, ca, rfl, rfl, rfl, t4, hv⟩
          · go_simp
            refine HC.out.mono ?_
            rintro e w4 ⟨t4, hv⟩
            obtain ⟨ka, ba, ia, sa, pa, ma, ca, rfl⟩ := hv.form
            go_wp2_with fail
            have e4 : w4.cell? ⟨V, 4, none⟩ = some (.slice pu k cu) := (t4.cell hS1.out.lt (by omega)).trans hS1.out.v4
            have hl4 : V < w4.heap.size := Nat.lt_of_lt_of_le hS1.out.lt t4.size
            refine hK.out _ _ trivial (fun _ => ?_)
            clear hK K'
            (try simp only [Act.put, List.getElem_toArray, List.getElem_cons_succ, List.getElem_cons_zero, List.setIfInBounds_toArray, List.set_cons_succ, List.set_cons_zero])
            refine wpAnyH_ready (rs := [1, 6]) (by kernel_rfl) (by simp) ?_
            refine AllReadyH.cons rfl (fun K' hK => ?_) (AllReadyH.cons rfl (fun K' hK => ?_) AllReadyH.nil)
            · go_simp
              refine hK.out _ _ trivial (fun _ => ?_)
              clear hK K'
              (try simp only [Act.put, List.getElem_toArray, List.getElem_cons_succ, List.getElem_cons_zero, List.setIfInBounds_toArray, List.set_cons_succ, List.set_cons_zero])
              refine wpAnyH_ready (rs := [6]) (by kernel_rfl) (by simp) ?_
              refine AllReadyH.cons rfl (fun K' hK => ?_) AllReadyH.nil
              go_simp
              go_wp2_with fail
              refine hK.out _ _ trivial (fun _ => ?_)
              clear hK K'
              (try simp only [Act.put, List.getElem_toArray, List.getElem_cons_succ, List.getElem_cons_zero, List.setIfInBounds_toArray, List.set_cons_succ, List.set_cons_zero])
              exact HT5 w4.heap.size _ [.int .i64 ka, .bool ba, .int .i64 ia, .string sa, .slice pa ma ca] ⟨w4, ka, ba, ia, sa, pa, ma, ca, rfl, rfl, rfl, t4, hv⟩
            · go_simp
              go_wp2_with fail
              refine hK.out _ _ trivial (fun _ => ?_)
              clear hK K'
              (try simp only [Act.put, List.getElem_toArray, List.getElem_cons_succ, List.getElem_cons_zero, List.setIfInBounds_toArray, List.set_cons_succ, List.set_cons_zero])
              refine wpAnyH_ready (rs := [1]) (by kernel_rfl) (by simp) ?_
              refine AllReadyH.cons rfl (fun K' hK => ?_) AllReadyH.nil
              go_simp
              refine hK.out _ _ trivial (fun _ => ?_)
              clear hK K'
              (try simp only [Act.put, List.getElem_toArray, List.getElem_cons_succ, List.getElem_cons_zero, List.setIfInBounds_toArray, List.set_cons_succ, List.set_cons_zero])
              exact HT5 w4.heap.size _ [.int .i64 ka, .bool ba, .int .i64 ia, .string sa, .slice pa ma ca] ⟨w4, ka, ba, ia, sa, pa, ma, ca, rfl, rfl, rfl, t4, hv⟩
      · have c1 := HB.out.1.c1
        go_wp2_with fail
        refine bodyPost_ret (v := .agg #[.int .i64 4, .bool false, .int .i64 0, .string ⟨#[]⟩, .slice pu k cu]) (by simp [results, Tryz.results70, go_sem, rc]) rfl ⟨?_, ?_⟩
        · (repeat (first | with_reducible exact hS.out.tu | with_reducible refine Tu.al ?_ _ | with_reducible refine Tu.put ?_ (by simp only; omega) _))
        · rw [HB.out.2]
          refine ⟨⟨_, _, _, _, _, _, _, rfl⟩, ?_⟩
          have hb := HB.out.1
          (repeat (first | with_reducible exact hb | with_reducible refine Bd.al ?_ _ | with_reducible refine Bd.put ?_ (by omega) _))
    · obtain rfl : k = m := by omega
      go_wp2_with fail
      refine bodyPost_ret (v := .agg #[.int .i64 4, .bool false, .int .i64 0, .string ⟨#[]⟩, .slice pu k cu]) (by simp [results, Tryz.results70, go_sem, rc]) rfl ⟨?_, ?_⟩
      · (repeat (first | with_reducible exact hS.out.tu | with_reducible refine Tu.al ?_ _ | with_reducible refine Tu.put ?_ (by simp only; omega) _))
      · rcases hst with ⟨o3, k3, r', HG⟩ | HB
        · have heq := HG.out.eq
          rw [Nat.sub_self] at heq
          have he2 : decL (rdec q) k r = some (xs.map Prod.fst, r') := by rw [heq]; simp [decL]
          rw [he2]
          have hlen : (xs.map Prod.fst).length = k := by rw [List.length_map, hxl]
          have hlv := own_lvb2 (P := (V + 1 ≤ ·)) (n := q + 1) hS.out.own hxl (fun x hx => VsB.move (fun _ _ _ _ => rfl) (fun b hb => hb.1) _ _ _ (HG.out.vs x hx)) (fun g hg => hg)
          have hrd := HG.out.rd
          refine ⟨.slice pu k cu, rfl, ⟨⟨show (-9223372036854775808 : Int) ≤ 4 by decide, show (4 : Int) ≤ 9223372036854775807 by decide, show (-9223372036854775808 : Int) ≤ 0 by decide, show (0 : Int) ≤ 9223372036854775807 by decide, Nat.zero_le _⟩, LvB.move (P := (V + 1 ≤ ·)) ?_ (fun b hb => by omega) (fun t v hv => VsB.move (P := (V + 1 ≤ ·)) ?_ (fun b hb => by omega) _ _ _ hv) hlv⟩, o3, k3, ?_⟩
          · (repeat (first | with_reducible exact Kept.refl _ _ | with_reducible refine Kept.put ?_ (by show ¬ _ ≤ _; omega) _))
          · (repeat (first | with_reducible exact Kept.refl _ _ | with_reducible refine Kept.put ?_ (by show ¬ _ ≤ _; omega) _))
          · (repeat (first | with_reducible exact hrd | with_reducible refine Rd.al ?_ _ | with_reducible refine Rd.put ?_ (by omega) (by omega) _))
        · rw [HB.out.2]
          refine ⟨⟨_, _, _, _, _, _, _, rfl⟩, ?_⟩
          have hb := HB.out.1
          (repeat (first | with_reducible exact hb | with_reducible refine Bd.al ?_ _ | with_reducible refine Bd.put ?_ (by omega) _))
end Go.Proofs.YtciibcfmlhbnkaaGreatDoor
