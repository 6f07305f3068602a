/- The closures that compare: what they tell; value.Apply with them. -/
import Derived.Test.YtocpfmhipppnlaaDoorApplyC
namespace Go.Proofs.YtocpfmhipppnlaaDoor
open Go.RowKit

set_option maxHeartbeats 1000000 in
theorem op_c1 (n : Nat) (a b : Tr) (sa sb : Value) (w : World) (ha : Vs w n a sa) (hb : Vs w n b sb) :
    Calls Tryd.prog 61 #[vv a sa, vv b sb] w fun e w' =>
      e = .returned (.tuple #[.agg #[.int .i64 1, .bool (same n a b), .int .i64 0, .string ⟨#[]⟩, .slice none 0 0], .int .i64 0]) ∧ Below w.heap.size w w' := by
  have HO := Hid.intro (fun w' hb' => same_any n a b sa sb w' (Vs.below (w' := w') hb' _ _ _ ha) (Vs.below (w' := w') hb' _ _ _ hb))
  obtain ⟨l1, m1, rfl, -, -⟩ := ha.form
  obtain ⟨l2, m2, rfl, -, -⟩ := hb.form
  clear ha hb
  generalize same n a b = r at *
  obtain ⟨ka, ba, ia, ta, la⟩ := a
  obtain ⟨kb, bb, ib, tb, lb⟩ := b
  unfold vv at *
  go_enter Tryd.func61, Tryd.ntmps61
  go_wp2_with fail
  refine (HO.out _ (below3 _ _ _ _)).mono ?_
  rintro e w1 ⟨rfl, hb1⟩
  have HB := Hid.intro (hb1.via (below3 _ _ _ _))
  obtain ⟨hc, hf⟩ := bcell hb1 (N := w.heap.size + 3) (by simp)
  have hsz : w.heap.size + 1 + 1 < w1.heap.size := by have := hb1.size; simp at this; omega
  clear hb1 HO
  go_wp2_with (go_at_call 62; refine (truth_any _ _).mono ?_; rintro e w1 ⟨rfl, ⟨cw, rfl⟩⟩)
  refine bodyPost_ret (v := .tuple #[.agg #[.int .i64 1, .bool (r), .int .i64 0, .string ⟨#[]⟩, .slice none 0 0], .int .i64 0]) (by simp [results, Tryd.results61, go_sem, hc, hsz]) rfl ⟨rfl, ?_⟩
  exact below_al (below_set5 HB.out (Nat.le_add_right _ 2) _ _ _ _ _) _

set_option maxHeartbeats 1000000 in
theorem op_c2 (n : Nat) (a b : Tr) (sa sb : Value) (w : World) (ha : Vs w n a sa) (hb : Vs w n b sb) :
    Calls Tryd.prog 63 #[vv a sa, vv b sb] w fun e w' =>
      e = .returned (.tuple #[.agg #[.int .i64 1, .bool (!same n a b), .int .i64 0, .string ⟨#[]⟩, .slice none 0 0], .int .i64 0]) ∧ Below w.heap.size w w' := by
  have HO := Hid.intro (fun w' hb' => same_any n a b sa sb w' (Vs.below (w' := w') hb' _ _ _ ha) (Vs.below (w' := w') hb' _ _ _ hb))
  obtain ⟨l1, m1, rfl, -, -⟩ := ha.form
  obtain ⟨l2, m2, rfl, -, -⟩ := hb.form
  clear ha hb
  generalize same n a b = r at *
  obtain ⟨ka, ba, ia, ta, la⟩ := a
  obtain ⟨kb, bb, ib, tb, lb⟩ := b
  unfold vv at *
  go_enter Tryd.func63, Tryd.ntmps63
  go_wp2_with fail
  refine (HO.out _ (below3 _ _ _ _)).mono ?_
  rintro e w1 ⟨rfl, hb1⟩
  have HB := Hid.intro (hb1.via (below3 _ _ _ _))
  obtain ⟨hc, hf⟩ := bcell hb1 (N := w.heap.size + 3) (by simp)
  have hsz : w.heap.size + 1 + 1 < w1.heap.size := by have := hb1.size; simp at this; omega
  clear hb1 HO
  go_wp2_with (go_at_call 62; refine (truth_any _ _).mono ?_; rintro e w1 ⟨rfl, ⟨cw, rfl⟩⟩)
  refine bodyPost_ret (v := .tuple #[.agg #[.int .i64 1, .bool (!r), .int .i64 0, .string ⟨#[]⟩, .slice none 0 0], .int .i64 0]) (by simp [results, Tryd.results63, go_sem, hc, hsz]) rfl ⟨rfl, ?_⟩
  exact below_al (below_set5 HB.out (Nat.le_add_right _ 2) _ _ _ _ _) _

set_option maxHeartbeats 1000000 in
theorem op_c3y (n : Nat) (a b : Tr) (sa sb : Value) (h : cmpOk a b = true) (w : World) (ha : Vs w n a sa) (hb : Vs w n b sb) :
    Calls Tryd.prog 64 #[vv a sa, vv b sb] w fun e w' =>
      e = .returned (.tuple #[.agg #[.int .i64 1, .bool (decide (-1 ≤ ord n a b) && decide (ord n a b ≤ -1)), .int .i64 0, .string ⟨#[]⟩, .slice none 0 0], .int .i64 0]) ∧ Below w.heap.size w w' := by
  have HO := Hid.intro (fun w' hb' => compare_yes n a b sa sb (-1) (-1) h w' (Vs.below (w' := w') hb' _ _ _ ha) (Vs.below (w' := w') hb' _ _ _ hb))
  obtain ⟨l1, m1, rfl, -, -⟩ := ha.form
  obtain ⟨l2, m2, rfl, -, -⟩ := hb.form
  clear ha hb h
  generalize (decide (-1 ≤ ord n a b) && decide (ord n a b ≤ -1)) = r at *
  obtain ⟨ka, ba, ia, ta, la⟩ := a
  obtain ⟨kb, bb, ib, tb, lb⟩ := b
  unfold vv at *
  go_enter Tryd.func64, Tryd.ntmps64
  go_wp2_with fail
  refine (HO.out _ (below3 _ _ _ _)).mono ?_
  rintro e w1 ⟨rfl, hb1⟩
  have HB := Hid.intro (hb1.via (below3 _ _ _ _))
  obtain ⟨hc, hf⟩ := bcell hb1 (N := w.heap.size + 3) (by simp)
  clear hb1 HO
  go_wp2
  refine bodyPost_ret (v := .tuple #[.agg #[.int .i64 1, .bool r, .int .i64 0, .string ⟨#[]⟩, .slice none 0 0], .int .i64 0]) (by simp [results, Tryd.results64, go_sem, hc]) rfl ⟨rfl, ?_⟩
  exact below_set5 HB.out (Nat.le_add_right _ 2) _ _ _ _ _

set_option maxHeartbeats 1000000 in
theorem op_c3n (a b : Tr) (l1 l2 : Option Addr) (n1 n2 m1 m2 : Nat) (h : cmpOk a b = false) (w : World) :
    Calls Tryd.prog 64 #[vv a (.slice l1 n1 m1), vv b (.slice l2 n2 m2)] w fun e w' =>
      e = .returned (.tuple #[.agg #[.int .i64 0, .bool false, .int .i64 0, .string ⟨#[]⟩, .slice none 0 0], .int .i64 4]) ∧ Below w.heap.size w w' := by
  have HO := Hid.intro (fun w' (_ : Below w.heap.size w w') => compare_no a b l1 l2 n1 n2 m1 m2 (-1) (-1) h w')
  clear h
  obtain ⟨ka, ba, ia, ta, la⟩ := a
  obtain ⟨kb, bb, ib, tb, lb⟩ := b
  unfold vv at *
  go_enter Tryd.func64, Tryd.ntmps64
  go_wp2_with fail
  refine (HO.out _ (below3 _ _ _ _)).mono ?_
  rintro e w1 ⟨rfl, hb1⟩
  have HB := Hid.intro (hb1.via (below3 _ _ _ _))
  obtain ⟨hc, hf⟩ := bcell hb1 (N := w.heap.size + 3) (by simp)
  clear hb1 HO
  go_wp2
  refine bodyPost_ret (v := .tuple #[.agg #[.int .i64 0, .bool false, .int .i64 0, .string ⟨#[]⟩, .slice none 0 0], .int .i64 4]) (by simp [results, Tryd.results64, go_sem, hc]) rfl ⟨rfl, ?_⟩
  exact below_set5 HB.out (Nat.le_add_right _ 2) _ _ _ _ _

set_option maxHeartbeats 1000000 in
theorem op_c4y (n : Nat) (a b : Tr) (sa sb : Value) (h : cmpOk a b = true) (w : World) (ha : Vs w n a sa) (hb : Vs w n b sb) :
    Calls Tryd.prog 66 #[vv a sa, vv b sb] w fun e w' =>
      e = .returned (.tuple #[.agg #[.int .i64 1, .bool (decide (-1 ≤ ord n a b) && decide (ord n a b ≤ 0)), .int .i64 0, .string ⟨#[]⟩, .slice none 0 0], .int .i64 0]) ∧ Below w.heap.size w w' := by
  have HO := Hid.intro (fun w' hb' => compare_yes n a b sa sb (-1) 0 h w' (Vs.below (w' := w') hb' _ _ _ ha) (Vs.below (w' := w') hb' _ _ _ hb))
  obtain ⟨l1, m1, rfl, -, -⟩ := ha.form
  obtain ⟨l2, m2, rfl, -, -⟩ := hb.form
  clear ha hb h
  generalize (decide (-1 ≤ ord n a b) && decide (ord n a b ≤ 0)) = r at *
  obtain ⟨ka, ba, ia, ta, la⟩ := a
  obtain ⟨kb, bb, ib, tb, lb⟩ := b
  unfold vv at *
  go_enter Tryd.func66, Tryd.ntmps66
  go_wp2_with fail
  refine (HO.out _ (below3 _ _ _ _)).mono ?_
  rintro e w1 ⟨rfl, hb1⟩
  have HB := Hid.intro (hb1.via (below3 _ _ _ _))
  obtain ⟨hc, hf⟩ := bcell hb1 (N := w.heap.size + 3) (by simp)
  clear hb1 HO
  go_wp2
  refine bodyPost_ret (v := .tuple #[.agg #[.int .i64 1, .bool r, .int .i64 0, .string ⟨#[]⟩, .slice none 0 0], .int .i64 0]) (by simp [results, Tryd.results66, go_sem, hc]) rfl ⟨rfl, ?_⟩
  exact below_set5 HB.out (Nat.le_add_right _ 2) _ _ _ _ _

set_option maxHeartbeats 1000000 in
theorem op_c4n (a b : Tr) (l1 l2 : Option Addr) (n1 n2 m1 m2 : Nat) (h : cmpOk a b = false) (w : World) :
    Calls Tryd.prog 66 #[vv a (.slice l1 n1 m1), vv b (.slice l2 n2 m2)] w fun e w' =>
      e = .returned (.tuple #[.agg #[.int .i64 0, .bool false, .int .i64 0, .string ⟨#[]⟩, .slice none 0 0], .int .i64 4]) ∧ Below w.heap.size w w' := by
  have HO := Hid.intro (fun w' (_ : Below w.heap.size w w') => compare_no a b l1 l2 n1 n2 m1 m2 (-1) 0 h w')
  clear h
  obtain ⟨ka, ba, ia, ta, la⟩ := a
  obtain ⟨kb, bb, ib, tb, lb⟩ := b
  unfold vv at *
  go_enter Tryd.func66, Tryd.ntmps66
  go_wp2_with fail
  refine (HO.out _ (below3 _ _ _ _)).mono ?_
  rintro e w1 ⟨rfl, hb1⟩
  have HB := Hid.intro (hb1.via (below3 _ _ _ _))
  obtain ⟨hc, hf⟩ := bcell hb1 (N := w.heap.size + 3) (by simp)
  clear hb1 HO
  go_wp2
  refine bodyPost_ret (v := .tuple #[.agg #[.int .i64 0, .bool false, .int .i64 0, .string ⟨#[]⟩, .slice none 0 0], .int .i64 4]) (by simp [results, Tryd.results66, go_sem, hc]) rfl ⟨rfl, ?_⟩
  exact below_set5 HB.out (Nat.le_add_right _ 2) _ _ _ _ _

set_option maxHeartbeats 1000000 in
theorem op_c5y (n : Nat) (a b : Tr) (sa sb : Value) (h : cmpOk a b = true) (w : World) (ha : Vs w n a sa) (hb : Vs w n b sb) :
    Calls Tryd.prog 67 #[vv a sa, vv b sb] w fun e w' =>
      e = .returned (.tuple #[.agg #[.int .i64 1, .bool (decide (1 ≤ ord n a b) && decide (ord n a b ≤ 1)), .int .i64 0, .string ⟨#[]⟩, .slice none 0 0], .int .i64 0]) ∧ Below w.heap.size w w' := by
  have HO := Hid.intro (fun w' hb' => compare_yes n a b sa sb 1 1 h w' (Vs.below (w' := w') hb' _ _ _ ha) (Vs.below (w' := w') hb' _ _ _ hb))
  obtain ⟨l1, m1, rfl, -, -⟩ := ha.form
  obtain ⟨l2, m2, rfl, -, -⟩ := hb.form
  clear ha hb h
  generalize (decide (1 ≤ ord n a b) && decide (ord n a b ≤ 1)) = r at *
  obtain ⟨ka, ba, ia, ta, la⟩ := a
  obtain ⟨kb, bb, ib, tb, lb⟩ := b
  unfold vv at *
  go_enter Tryd.func67, Tryd.ntmps67
  go_wp2_with fail
  refine (HO.out _ (below3 _ _ _ _)).mono ?_
  rintro e w1 ⟨rfl, hb1⟩
  have HB := Hid.intro (hb1.via (below3 _ _ _ _))
  obtain ⟨hc, hf⟩ := bcell hb1 (N := w.heap.size + 3) (by simp)
  clear hb1 HO
  go_wp2
  refine bodyPost_ret (v := .tuple #[.agg #[.int .i64 1, .bool r, .int .i64 0, .string ⟨#[]⟩, .slice none 0 0], .int .i64 0]) (by simp [results, Tryd.results67, go_sem, hc]) rfl ⟨rfl, ?_⟩
  exact below_set5 HB.out (Nat.le_add_right _ 2) _ _ _ _ _

set_option maxHeartbeats 1000000 in
theorem op_c5n (a b : Tr) (l1 l2 : Option Addr) (n1 n2 m1 m2 : Nat) (h : cmpOk a b = false) (w : World) :
    Calls Tryd.prog 67 #[vv a (.slice l1 n1 m1), vv b (.slice l2 n2 m2)] w fun e w' =>
      e = .returned (.tuple #[.agg #[.int .i64 0, .bool false, .int .i64 0, .string ⟨#[]⟩, .slice none 0 0], .int .i64 4]) ∧ Below w.heap.size w w' := by
  have HO := Hid.intro (fun w' (_ : Below w.heap.size w w') => compare_no a b l1 l2 n1 n2 m1 m2 1 1 h w')
  clear h
  obtain ⟨ka, ba, ia, ta, la⟩ := a
  obtain ⟨kb, bb, ib, tb, lb⟩ := b
  unfold vv at *
  go_enter Tryd.func67, Tryd.ntmps67
  go_wp2_with fail
  refine (HO.out _ (below3 _ _ _ _)).mono ?_
  rintro e w1 ⟨rfl, hb1⟩
  have HB := Hid.intro (hb1.via (below3 _ _ _ _))
  obtain ⟨hc, hf⟩ := bcell hb1 (N := w.heap.size + 3) (by simp)
  clear hb1 HO
  go_wp2
  refine bodyPost_ret (v := .tuple #[.agg #[.int .i64 0, .bool false, .int .i64 0, .string ⟨#[]⟩, .slice none 0 0], .int .i64 4]) (by simp [results, Tryd.results67, go_sem, hc]) rfl ⟨rfl, ?_⟩
  exact below_set5 HB.out (Nat.le_add_right _ 2) _ _ _ _ _

set_option maxHeartbeats 1000000 in
theorem op_c6y (n : Nat) (a b : Tr) (sa sb : Value) (h : cmpOk a b = true) (w : World) (ha : Vs w n a sa) (hb : Vs w n b sb) :
    Calls Tryd.prog 68 #[vv a sa, vv b sb] w fun e w' =>
      e = .returned (.tuple #[.agg #[.int .i64 1, .bool (decide (0 ≤ ord n a b) && decide (ord n a b ≤ 1)), .int .i64 0, .string ⟨#[]⟩, .slice none 0 0], .int .i64 0]) ∧ Below w.heap.size w w' := by
  have HO := Hid.intro (fun w' hb' => compare_yes n a b sa sb 0 1 h w' (Vs.below (w' := w') hb' _ _ _ ha) (Vs.below (w' := w') hb' _ _ _ hb))
  obtain ⟨l1, m1, rfl, -, -⟩ := ha.form
  obtain ⟨l2, m2, rfl, -, -⟩ := hb.form
  clear ha hb h
  generalize (decide (0 ≤ ord n a b) && decide (ord n a b ≤ 1)) = r at *
  obtain ⟨ka, ba, ia, ta, la⟩ := a
  obtain ⟨kb, bb, ib, tb, lb⟩ := b
  unfold vv at *
  go_enter Tryd.func68, Tryd.ntmps68
  go_wp2_with fail
  refine (HO.out _ (below3 _ _ _ _)).mono ?_
  rintro e w1 ⟨rfl, hb1⟩
  have HB := Hid.intro (hb1.via (below3 _ _ _ _))
  obtain ⟨hc, hf⟩ := bcell hb1 (N := w.heap.size + 3) (by simp)
  clear hb1 HO
  go_wp2
  refine bodyPost_ret (v := .tuple #[.agg #[.int .i64 1, .bool r, .int .i64 0, .string ⟨#[]⟩, .slice none 0 0], .int .i64 0]) (by simp [results, Tryd.results68, go_sem, hc]) rfl ⟨rfl, ?_⟩
  exact below_set5 HB.out (Nat.le_add_right _ 2) _ _ _ _ _

set_option maxHeartbeats 1000000 in
theorem op_c6n (a b : Tr) (l1 l2 : Option Addr) (n1 n2 m1 m2 : Nat) (h : cmpOk a b = false) (w : World) :
    Calls Tryd.prog 68 #[vv a (.slice l1 n1 m1), vv b (.slice l2 n2 m2)] w fun e w' =>
      e = .returned (.tuple #[.agg #[.int .i64 0, .bool false, .int .i64 0, .string ⟨#[]⟩, .slice none 0 0], .int .i64 4]) ∧ Below w.heap.size w w' := by
  have HO := Hid.intro (fun w' (_ : Below w.heap.size w w') => compare_no a b l1 l2 n1 n2 m1 m2 0 1 h w')
  clear h
  obtain ⟨ka, ba, ia, ta, la⟩ := a
  obtain ⟨kb, bb, ib, tb, lb⟩ := b
  unfold vv at *
  go_enter Tryd.func68, Tryd.ntmps68
  go_wp2_with fail
  refine (HO.out _ (below3 _ _ _ _)).mono ?_
  rintro e w1 ⟨rfl, hb1⟩
  have HB := Hid.intro (hb1.via (below3 _ _ _ _))
  obtain ⟨hc, hf⟩ := bcell hb1 (N := w.heap.size + 3) (by simp)
  clear hb1 HO
  go_wp2
  refine bodyPost_ret (v := .tuple #[.agg #[.int .i64 0, .bool false, .int .i64 0, .string ⟨#[]⟩, .slice none 0 0], .int .i64 4]) (by simp [results, Tryd.results68, go_sem, hc]) rfl ⟨rfl, ?_⟩
  exact below_set5 HB.out (Nat.le_add_right _ 2) _ _ _ _ _

end Go.Proofs.YtocpfmhipppnlaaDoor
