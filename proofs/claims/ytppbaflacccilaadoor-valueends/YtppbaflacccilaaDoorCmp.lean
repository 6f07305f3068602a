/- The operations that compare: what they tell. -/
import Derived.Test.YtppbaflacccilaaDoorApply
import Derived.Test.YtppbaflacccilaaDoorSame
import Derived.Test.YtppbaflacccilaaDoorOrdLaws
namespace Go.Proofs.YtppbaflacccilaaDoor
open Go.RowKit

set_option maxHeartbeats 400000 in
theorem truth_any (b : Bool) (w : World) :
    Calls Tryd.prog 62 #[.bool b] w fun e w' => e = .returned (.agg #[.int .i64 1, .bool b, .int .i64 0, .string ⟨#[]⟩, .slice none 0 0]) ∧ ∃ c, w' = w.alloc (.cells c 32) := by
  go_enter Tryd.func62, Tryd.ntmps62
  go_wp2
  refine bodyPost_ret (v := .agg #[.int .i64 1, .bool b, .int .i64 0, .string ⟨#[]⟩, .slice none 0 0]) (by simp [results, Tryd.results62, go_sem]) rfl ⟨rfl, _, rfl⟩

set_option maxHeartbeats 400000 in
theorem refuse_any (w : World) :
    Calls Tryd.prog 80 #[] w fun e w' => e = .returned (.tuple #[.agg #[.int .i64 0, .bool false, .int .i64 0, .string ⟨#[]⟩, .slice none 0 0], .int .i64 4]) ∧ ∃ c, w' = w.alloc (.cells c 32) := by
  go_enter Tryd.func80, Tryd.ntmps80
  go_wp2
  refine bodyPost_ret (v := .tuple #[.agg #[.int .i64 0, .bool false, .int .i64 0, .string ⟨#[]⟩, .slice none 0 0], .int .i64 4]) (by simp [results, Tryd.results80, go_sem]) rfl ⟨rfl, _, rfl⟩

/-- What a comparison is for. -/
def cmpOk (a b : Tr) : Bool := (a.k == b.k) && ((a.k == 2) || (a.k == 3) || (a.k == 1))

theorem below3 (w : World) (o1 o2 o3 : Obj) : Below w.heap.size w (((w.alloc o1).alloc o2).alloc o3) := below_al (below2 _ _ _) _

set_option maxHeartbeats 1000000 in
theorem compare_no (a b : Tr) (l1 l2 : Option Addr) (n1 n2 m1 m2 : Nat) (lo hi : Int) (h : cmpOk a b = false) (w : World) :
    Calls Tryd.prog 65 #[vv a (.slice l1 n1 m1), vv b (.slice l2 n2 m2), .int .i64 lo, .int .i64 hi] w fun e w' =>
      e = .returned (.tuple #[.agg #[.int .i64 0, .bool false, .int .i64 0, .string ⟨#[]⟩, .slice none 0 0], .int .i64 4]) ∧ Below w.heap.size w w' := by
  obtain ⟨ka, ba, ia, ta, la⟩ := a
  obtain ⟨kb, bb, ib, tb, lb⟩ := b
  unfold vv
  by_cases hk : ka = kb
  · subst hk
    have e2 : (ka == 2) = false := by simp [cmpOk] at h; simp [h]
    have e3 : (ka == 3) = false := by simp [cmpOk] at h; simp [h]
    have e1 : (ka == 1) = false := by simp [cmpOk] at h; simp [h]
    clear h
    go_enter Tryd.func65, Tryd.ntmps65
    go_wp2_with (go_at_call 80; refine (refuse_any _).mono ?_; rintro e w1 ⟨rfl, ⟨cw, rfl⟩⟩)
    refine bodyPost_ret (v := .tuple #[.agg #[.int .i64 0, .bool false, .int .i64 0, .string ⟨#[]⟩, .slice none 0 0], .int .i64 4]) (by simp [results, Tryd.results65, go_sem]) rfl ⟨rfl, ?_⟩
    exact below_al (below3 _ _ _ _) _
  · have e0 : (ka != kb) = true := by simp [hk]
    clear h hk
    go_enter Tryd.func65, Tryd.ntmps65
    go_wp2_with (go_at_call 80; refine (refuse_any _).mono ?_; rintro e w1 ⟨rfl, ⟨cw, rfl⟩⟩)
    refine bodyPost_ret (v := .tuple #[.agg #[.int .i64 0, .bool false, .int .i64 0, .string ⟨#[]⟩, .slice none 0 0], .int .i64 4]) (by simp [results, Tryd.results65, go_sem]) rfl ⟨rfl, ?_⟩
    exact below_al (below3 _ _ _ _) _

set_option maxHeartbeats 1000000 in
theorem compare_yes (n : Nat) (a b : Tr) (sa sb : Value) (lo hi : Int) (h : cmpOk a b = true) (w : World) (ha : Vs w n a sa) (hb : Vs w n b sb) :
    Calls Tryd.prog 65 #[vv a sa, vv b sb, .int .i64 lo, .int .i64 hi] w fun e w' =>
      e = .returned (.tuple #[.agg #[.int .i64 1, .bool (decide (lo ≤ ord n a b) && decide (ord n a b ≤ hi)), .int .i64 0, .string ⟨#[]⟩, .slice none 0 0], .int .i64 0]) ∧ Below w.heap.size w w' := by
  have HO := Hid.intro (fun w' hb' => order_any n a b sa sb w' (Vs.below (w' := w') hb' _ _ _ ha) (Vs.below (w' := w') hb' _ _ _ hb))
  obtain ⟨l1, m1, rfl, -, -⟩ := ha.form
  obtain ⟨l2, m2, rfl, -, -⟩ := hb.form
  clear ha hb
  generalize ord n a b = r at *
  obtain ⟨ka, ba, ia, ta, la⟩ := a
  obtain ⟨kb, bb, ib, tb, lb⟩ := b
  unfold vv at *
  have hk : ka = kb := by simp [cmpOk] at h; exact h.1
  subst hk
  have h3 : ka = 2 ∨ ka = 3 ∨ ka = 1 := by simp [cmpOk] at h; omega
  clear h
  rcases h3 with rfl | rfl | rfl
  all_goals
    go_enter Tryd.func65, Tryd.ntmps65
    go_wp2_with fail
    refine (HO.out _ (below3 _ _ _ _)).mono ?_
    rintro e w1 ⟨rfl, hb1⟩
    have HB := Hid.intro (hb1.via (below3 _ _ _ _))
    obtain ⟨hc, hf⟩ := bcell hb1 (N := w.heap.size + 3) (by simp)
    have hsz : w.heap.size + 1 + 1 < w1.heap.size := by have := hb1.size; simp at this; omega
    clear hb1 HO
    by_cases h1 : lo ≤ r
    · by_cases h2 : r ≤ hi
      · go_wp2_with (go_at_call 62; refine (truth_any _ _).mono ?_; rintro e w1 ⟨rfl, ⟨cw, rfl⟩⟩)
        refine bodyPost_ret (v := .tuple #[.agg #[.int .i64 1, .bool true, .int .i64 0, .string ⟨#[]⟩, .slice none 0 0], .int .i64 0]) (by simp [results, Tryd.results65, go_sem, hc, hsz]) rfl ⟨by simp [h1, h2], ?_⟩
        exact below_al (below_set5 HB.out (Nat.le_add_right _ 2) _ _ _ _ _) _
      · have h2' : hi < r := by omega
        go_wp2_with (go_at_call 62; refine (truth_any _ _).mono ?_; rintro e w1 ⟨rfl, ⟨cw, rfl⟩⟩)
        refine bodyPost_ret (v := .tuple #[.agg #[.int .i64 1, .bool false, .int .i64 0, .string ⟨#[]⟩, .slice none 0 0], .int .i64 0]) (by simp [results, Tryd.results65, go_sem, hc, hsz, h2']) rfl ⟨by simp [h2'], ?_⟩
        exact below_al (below_set5 HB.out (Nat.le_add_right _ 2) _ _ _ _ _) _
    · have h1' : r < lo := by omega
      go_wp2_with (go_at_call 62; refine (truth_any _ _).mono ?_; rintro e w1 ⟨rfl, ⟨cw, rfl⟩⟩)
      refine bodyPost_ret (v := .tuple #[.agg #[.int .i64 1, .bool false, .int .i64 0, .string ⟨#[]⟩, .slice none 0 0], .int .i64 0]) (by simp [results, Tryd.results65, go_sem, hc, hsz]) rfl ⟨by simp; intro h; omega, ?_⟩
      exact below_al (below_set5 HB.out (Nat.le_add_right _ 2) _ _ _ _ _) _
end Go.Proofs.YtppbaflacccilaaDoor
