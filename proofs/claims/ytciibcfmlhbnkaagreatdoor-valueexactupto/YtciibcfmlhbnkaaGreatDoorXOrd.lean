/- proctorref1.Order: what it tells. -/
import Derived.Test.YtciibcfmlhbnkaaGreatDoorOrder
import Derived.Test.YtciibcfmlhbnkaaGreatDoorOrdLaws
namespace Go.Proofs.YtciibcfmlhbnkaaGreatDoor
open Go.RowKit

def sg (l m : Bool) : Int := if l then -1 else if m then 1 else 0
set_option maxHeartbeats 1000000 in
theorem rsign_any (l m : Bool) (w : World) : Calls Tryz.prog 44 #[.bool l, .bool m] w fun e w' => e = .returned (.int .i64 (sg l m)) ∧ w' = w := by
  cases l <;> cases m <;> (
    go_enter Tryz.func44, Tryz.ntmps44
    go_wp2
    go_ret
    exact ⟨rfl, rfl⟩)
theorem sg_cmp (x y : Int) : sg (decide (x < y)) (decide (y < x)) = cmpI x y := by
  unfold sg cmpI
  by_cases h1 : x < y
  · simp [h1]
  · by_cases h2 : y < x
    · simp [h1, h2]
    · simp [h1, h2]
def ROrdAt (n : Nat) : Prop := ∀ (a b : Tr) (sa sb : Value) (w : World), Vs w n a sa → Vs w n b sb →
    Calls Tryz.prog 18 #[vv a sa, vv b sb] w fun e w' => e = .returned (.int .i64 (ord n a b)) ∧ Below w.heap.size w w'

set_option maxHeartbeats 400000 in
theorem rrows_any (n : Nat) (ih : ROrdAt n) (xs ys : List Tr) (sa sb : Value) (w : World) (ha : Lv w (Vs w n) xs sa) (hb : Lv w (Vs w n) ys sb) :
    Calls Tryz.prog 45 #[sa, sb] w fun e w' => e = .returned (.int .i64 (ordL (ord n) xs ys)) ∧ Below w.heap.size w w' := by
  obtain ⟨a0, ca, rfl, la, ma, ea⟩ := ha
  obtain ⟨b0, cb, rfl, lb, mb, eb⟩ := hb
  unfold maxLen at ma mb
  have h0 : Hid (ordL (ord n) (xs.drop 0) (ys.drop 0) = ordL (ord n) xs ys) := rfl
  have ea' : Hid (0 < xs.length → ∃ b o, a0 = some { block := b, off := o } ∧ ∀ (j : Nat) (h : j < xs.length), ∃ sv', Cel w b (o + j * 5) xs[j] sv' ∧ Vs w n xs[j] sv') := ea
  have eb' : Hid (0 < ys.length → ∃ b o, b0 = some { block := b, off := o } ∧ ∀ (j : Nat) (h : j < ys.length), ∃ sv', Cel w b (o + j * 5) ys[j] sv' ∧ Vs w n ys[j] sv') := eb
  clear ea eb
  go_enter Tryz.func45, Tryz.ntmps45
  go_wp2_with fail
  all_goals
    go_loopw [5] (fun i w' => ∃ k : Nat, k ≤ xs.length ∧ k ≤ ys.length ∧ i = .int .i64 k ∧ Hid (ordL (ord n) (xs.drop k) (ys.drop k) = ordL (ord n) xs ys) ∧ Below w.heap.size w w') (fun i _ => xs.length - (intOf i).toNat)
    case atStart => exact ⟨0, by omega, by omega, rfl, h0, Below.refl _ _⟩
  all_goals
    obtain ⟨k, hk1, hk2, rfl, hk3, hbw⟩ := hrel
    by_cases hlt : k < xs.length ∧ k < ys.length
    · obtain ⟨hx, hy⟩ := hlt
      obtain ⟨b1, o1, rfl, e1⟩ := ea'.out (by omega)
      obtain ⟨b2, o2, rfl, e2⟩ := eb'.out (by omega)
      obtain ⟨s1, c1, v1⟩ := e1 k hx
      obtain ⟨s2, c2, v2⟩ := e2 k hy
      clear e1 e2 ea' eb'
      have v1' := Vs.below hbw _ _ _ v1
      have v2' := Vs.below hbw _ _ _ v2
      obtain ⟨p1, p2, p3, p4, p5⟩ := c1.below hbw
      obtain ⟨q1, q2, q3, q4, q5⟩ := c2.below hbw
      have hst := ordL_step (ord n) xs ys k hx hy
      clear c1 c2 v1 v2
      generalize xs[k] = tx at *
      generalize ys[k] = ty at *
      have HC : Hid (Calls Tryz.prog 18 #[vv tx s1, vv ty s2] wr.drew fun e w' => e = .returned (.int .i64 (ord n tx ty)) ∧ Below wr.drew.heap.size wr.drew w') := ih tx ty s1 s2 wr.drew (Vs.below (Below.refl _ _).drew _ _ _ v1') (Vs.below (Below.refl _ _).drew _ _ _ v2')
      have HS : Hid (ordL (ord n) (xs.drop k) (ys.drop k) = if ord n tx ty = 0 then ordL (ord n) (xs.drop (k + 1)) (ys.drop (k + 1)) else ord n tx ty) := hst
      clear hst v1' v2'
      unfold vv at HC
      generalize ord n tx ty = r at *
      have hl1 : b1 < wr.heap.size := cell_lt p1
      have hl2 : b2 < wr.heap.size := cell_lt q1
      have ib : (0 : Int) ≤ (k : Int) := by omega
      have ix : (k : Int) < (xs.length : Int) := by omega
      have iy : (k : Int) < (ys.length : Int) := by omega
      go_wp2
      go_region_held3 (fun w' => w'.cell? ⟨b1, o1 + k * 5, none⟩ = some (.int .i64 tx.k) ∧ w'.cell? ⟨b1, o1 + k * 5 + 1, none⟩ = some (.bool tx.b) ∧ w'.cell? ⟨b1, o1 + k * 5 + 2, none⟩ = some (.int .i64 tx.i) ∧ w'.cell? ⟨b1, o1 + k * 5 + 3, none⟩ = some (.string tx.s) ∧ w'.cell? ⟨b1, o1 + k * 5 + 4, none⟩ = some s1 ∧
        w'.cell? ⟨b2, o2 + k * 5, none⟩ = some (.int .i64 ty.k) ∧ w'.cell? ⟨b2, o2 + k * 5 + 1, none⟩ = some (.bool ty.b) ∧ w'.cell? ⟨b2, o2 + k * 5 + 2, none⟩ = some (.int .i64 ty.i) ∧ w'.cell? ⟨b2, o2 + k * 5 + 3, none⟩ = some (.string ty.s) ∧ w'.cell? ⟨b2, o2 + k * 5 + 4, none⟩ = some s2) (go_keep) ((go_at_call 18; refine HC.out.mono ?_; rintro e w1 ⟨rfl, hb1⟩; have g1 := fun o => hb1.cell (p := ⟨b1, o, none⟩) hl1; have g2 := fun o => hb1.cell (p := ⟨b2, o, none⟩) hl2))
      by_cases hr : r = 0
      · have hr' : (r != 0) = false := by simp [hr]
        have HR : Hid (r = 0) := hr
        clear hr
        go_wp2
        go_roundw
        case rel => exact ⟨k + 1, by omega, by omega, by go_num, by have := HS.out; rw [if_pos HR.out] at this; exact this.symm.trans hk3.out, (hbw.trans (Below.refl _ _).drew).trans (hb1.mono hbw.size)⟩
        case measure => simp [intOf]; omega
      · have hr' : (r != 0) = true := by simp [hr]
        have HR : Hid (¬ r = 0) := hr
        clear hr
        go_wp2
        go_ret
        refine ⟨?_, (hbw.trans (Below.refl _ _).drew).trans (hb1.mono hbw.size)⟩
        have := HS.out; rw [if_neg HR.out] at this
        rw [← hk3.out, this]; rfl
    · have hz : Hid (ordL (ord n) (xs.drop k) (ys.drop k) = cmpI xs.length ys.length) := ordL_end _ _ _ _ hk1 hk2 (by omega)
      have HBW := Hid.intro hbw
      have HS2 := Hid.intro (sg_cmp (xs.length : Int) (ys.length : Int))
      have HSG := Hid.intro (fun w' => rsign_any (decide ((xs.length : Int) < (ys.length : Int))) (decide ((ys.length : Int) < (xs.length : Int))) w')
      by_cases hc : k < xs.length
      · have hd : ¬ k < ys.length := by omega
        have hd1 : ((ys.length : Int) < (xs.length : Int)) := by omega
        clear hlt
        go_wp2_with fail
        refine (rsign_any _ _ _).mono ?_
        rintro e w1 ⟨rfl, hw1⟩
        subst hw1
        go_wp2_with fail
        go_ret
        exact ⟨by rw [← hk3.out, hz.out]; exact congrArg (fun z => Ending.returned (.int .i64 z)) (by unfold sg cmpI; rw [if_neg (by simp; omega), if_pos rfl, if_neg (by omega), if_pos (by omega)]), HBW.out⟩
      · clear hlt
        go_wp2_with fail
        refine (rsign_any _ _ _).mono ?_
        rintro e w1 ⟨rfl, hw1⟩
        subst hw1
        go_wp2_with fail
        go_ret
        exact ⟨by rw [← hk3.out, hz.out]; exact congrArg (fun z => Ending.returned (.int .i64 z)) (by rw [← sg_cmp]; congr 1 <;> exact decide_eq_decide.2 (by omega)), HBW.out⟩
theorem less_eq (x y : ByteArray) : sg (Op.bytesLess x.toList y.toList) (!Op.bytesLess x.toList y.toList && !x.toList == y.toList) = cmpS x y := by
  unfold cmpS sg
  cases Op.bytesLess x.toList y.toList <;> cases (x.toList == y.toList) <;> rfl
set_option maxRecDepth 20000 in
set_option maxHeartbeats 2000000 in
theorem rorder_any : ∀ n, ROrdAt n := by
  intro n
  induction n with
  | zero => intro a b sa sb w ha _; exact ha.elim
  | succ n ih =>
    intro a b sa sb w ha hb
    obtain ⟨ka, ba, ia, ta, la⟩ := a
    obtain ⟨kb, bb, ib, tb, lb⟩ := b
    have HL := Hid.intro (rrows_any n ih la lb sa sb)
    have HA : Hid (Vs w (n + 1) ⟨ka, ba, ia, ta, la⟩ sa) := ha
    have HB : Hid (Vs w (n + 1) ⟨kb, bb, ib, tb, lb⟩ sb) := hb
    clear ha hb ih
    unfold vv
    have HB2 := Hid.intro (below2 w (.cells #[.int .i64 ka, .bool ba, .int .i64 ia, .string ta, sa] 28) (.cells #[.int .i64 kb, .bool bb, .int .i64 ib, .string tb, sb] 28))
    by_cases hk : ka = kb
    · subst hk
      by_cases h0 : ka = 0
      · subst h0
        go_enter Tryz.func18, Tryz.ntmps18
        go_wp2_with fail
        go_ret
        exact ⟨by simp [ord], HB2.out⟩
      by_cases h1 : ka = 1
      · subst h1
        cases ba <;> cases bb <;> (
          go_enter Tryz.func18, Tryz.ntmps18
          go_wp2_with fail
          refine (rsign_any _ _ _).mono ?_
          rintro e w1 ⟨rfl, hw1⟩
          subst hw1
          go_wp2_with fail
          go_ret
          exact ⟨by simp [ord, sg, cmpI, bitI], HB2.out⟩)
      by_cases h2 : ka = 2
      · subst h2
        go_enter Tryz.func18, Tryz.ntmps18
        go_wp2_with fail
        refine (rsign_any _ _ _).mono ?_
        rintro e w1 ⟨rfl, hw1⟩
        subst hw1
        go_wp2_with fail
        go_ret
        exact ⟨by rw [sg_cmp]; simp [ord], HB2.out⟩
      by_cases h5 : ka = 5
      · subst h5
        go_enter Tryz.func18, Tryz.ntmps18
        go_wp2_with fail
        refine (rsign_any _ _ _).mono ?_
        rintro e w1 ⟨rfl, hw1⟩
        subst hw1
        go_wp2_with fail
        go_ret
        exact ⟨by rw [sg_cmp]; simp [ord], HB2.out⟩
      by_cases h4 : ka = 4
      · subst h4
        go_enter Tryz.func18, Tryz.ntmps18
        go_wp2_with fail
        refine (HL.out _ (HA.out.2.mono (below2 _ _ _) (fun t v => Vs.below (below2 _ _ _) n t v)) (HB.out.2.mono (below2 _ _ _) (fun t v => Vs.below (below2 _ _ _) n t v))).mono ?_
        rintro e w1 ⟨rfl, hb1⟩
        have HB3 := Hid.intro (hb1.via HB2.out)
        go_wp2_with fail
        go_ret
        exact ⟨by simp [ord], HB3.out⟩
      · go_enter Tryz.func18, Tryz.ntmps18
        go_wp2_with fail
        refine (rsign_any _ _ _).mono ?_
        rintro e w1 ⟨rfl, hw1⟩
        subst hw1
        go_wp2_with fail
        go_ret
        exact ⟨by rw [less_eq]; simp [ord, h0, h1, h2, h5, h4], HB2.out⟩
    · go_enter Tryz.func18, Tryz.ntmps18
      go_wp2_with fail
      refine (rsign_any _ _ _).mono ?_
      rintro e w1 ⟨rfl, hw1⟩
      subst hw1
      go_wp2_with fail
      go_ret
      exact ⟨by simp only [ord, if_neg hk, sg, cmpI]; split <;> (try split) <;> simp_all <;> omega, HB2.out⟩
end Go.Proofs.YtciibcfmlhbnkaaGreatDoor
