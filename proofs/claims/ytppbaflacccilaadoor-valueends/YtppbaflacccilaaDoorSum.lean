/- value.sum, and value.Aggregate with it: what they tell. -/
import Derived.Test.YtppbaflacccilaaDoorArith2
import Derived.Test.YtppbaflacccilaaDoorFits
import Derived.Test.YtppbaflacccilaaDoorCmp
import Derived.Deep.RegionWith
namespace Go.Proofs.YtppbaflacccilaaDoor
open Go.RowKit

def sumT (ts : List Tr) : Int := (ts.map (·.i)).foldl (· + ·) 0

theorem sumT_snoc (ts : List Tr) (k : Nat) (h : k < ts.length) : sumT (ts.take (k + 1)) = sumT (ts.take k) + ts[k].i := by
  unfold sumT
  rw [List.take_succ_eq_append_getElem h, List.map_append, List.foldl_append]
  rfl

theorem sumT_bd : ∀ (ts : List Tr), (∀ t ∈ ts, -9223372036854775808 ≤ t.i ∧ t.i ≤ 9223372036854775807) → -9223372036854775808 * (ts.length : Int) ≤ sumT ts ∧ sumT ts ≤ 9223372036854775807 * (ts.length : Int) := by
  intro ts
  have key : ∀ (l : List Tr) (z : Int), (∀ t ∈ l, -9223372036854775808 ≤ t.i ∧ t.i ≤ 9223372036854775807) → z + -9223372036854775808 * (l.length : Int) ≤ (l.map (·.i)).foldl (· + ·) z ∧ (l.map (·.i)).foldl (· + ·) z ≤ z + 9223372036854775807 * (l.length : Int) := by
    intro l
    induction l with
    | nil => intro z _; simp
    | cons x l ih =>
      intro z h
      have hx := h x (by simp)
      have := ih (z + x.i) (fun t ht => h t (List.mem_cons_of_mem _ ht))
      simp only [List.map_cons, List.foldl_cons, List.length_cons]
      omega
  intro h
  have := key ts 0 h
  unfold sumT
  omega

set_option maxHeartbeats 2000000 in
theorem sum_walk (n : Nat) (ts : List Tr) (sv : Value) (w : World) (hl : Lv w (Vs w n) ts sv) (hi : ∀ t ∈ ts, t.k = 2) (hj : ∀ t ∈ ts, -9223372036854775808 ≤ t.i ∧ t.i ≤ 9223372036854775807) (rk ri er : Int)
    (HN : ∀ w', Calls Tryd.prog 83 #[.agg #[.int .u64 (hiW (sumT ts)), .int .u64 (loW (sumT ts))]] w' fun e w'' => e = .returned (.tuple #[.agg #[.int .i64 rk, .bool false, .int .i64 ri, .string ⟨#[]⟩, .slice none 0 0], .int .i64 er]) ∧ Below w'.heap.size w' w'') :
    Calls Tryd.prog 39 #[sv] w fun e w' => e = .returned (.tuple #[.agg #[.int .i64 rk, .bool false, .int .i64 ri, .string ⟨#[]⟩, .slice none 0 0], .int .i64 er]) ∧ Below w.heap.size w w' := by
  obtain ⟨a0, ca, rfl, la, ma, ea⟩ := hl
  unfold maxLen at ma
  have ea' := Hid.intro ea
  have HN' := Hid.intro HN
  have HI := Hid.intro hi
  have HJ := Hid.intro hj
  clear ea HN hi hj
  go_enter Tryd.func39, Tryd.ntmps39
  go_wp2
  have S0 : sumT (ts.take 0) = 0 := by simp [sumT]
  go_loopw [9] (fun i w' => ∃ k : Nat, k ≤ ts.length ∧ i = .int .i64 k ∧ w'.cell? ⟨w.heap.size + 1, 0, none⟩ = some (.int .u64 (hiW (sumT (ts.take k)))) ∧ w'.cell? ⟨w.heap.size + 1, 1, none⟩ = some (.int .u64 (loW (sumT (ts.take k)))) ∧ w'.frozen? ⟨w.heap.size + 1, 0, none⟩ = false ∧ w'.frozen? ⟨w.heap.size + 1, 1, none⟩ = false ∧ Hid (Below (w.heap.size + 1) (w.alloc (.cells #[.int .i64 0, .bool false, .int .i64 0, .string ⟨#[]⟩, .slice none 0 0] 32)) w')) (fun i _ => ts.length - (intOf i).toNat)
  case atStart => exact ⟨0, by omega, rfl, by rw [S0]; simp [go_sem, hiW], by rw [S0]; simp [go_sem, loW], by simp [go_sem], by simp [go_sem], (Below.refl _ _).alloc (by simp) _⟩
  case round =>
    obtain ⟨k, hk1, rfl, t1, t2, t3, t4, HZ⟩ := hrel
    have hbw : Below w.heap.size w wr := (below_al (Below.refl _ w) _).trans (HZ.out.mono (Nat.le_succ _))
    by_cases hlt : k < ts.length
    · obtain ⟨b1, o1, rfl, e1⟩ := ea'.out (by omega)
      obtain ⟨s1, c1, v1⟩ := e1 k hlt
      have hkk := HI.out _ (List.getElem_mem hlt)
      have hsum := sumT_snoc ts k hlt
      obtain ⟨-, -, -, -, wf5⟩ := v1.wf
      clear e1 ea'
      obtain ⟨a1, n1, rfl, -, -⟩ := v1.form
      obtain ⟨p1, p2, p3, p4, p5⟩ := c1.below hbw
      have hl1 : b1 < wr.heap.size := cell_lt p1
      have hl2 : w.heap.size + 1 < wr.heap.size := cell_lt t1
      have ib : (0 : Int) ≤ (k : Int) := by omega
      have ix : (k : Int) < (ts.length : Int) := by omega
      rw [hkk] at p1
      clear v1 c1
      have wf6 : -9223372036854775808 ≤ ts[k].i ∧ ts[k].i ≤ 9223372036854775807 := HJ.out _ (List.getElem_mem hlt)
      generalize ts[k] = t at *
      generalize hs : sumT (ts.take k) = z at *
      have HW : Hid (∀ w', Calls Tryd.prog 82 #[.int .i64 t.i] w' fun e w'' => e = .returned (.agg #[.int .u64 (hiW t.i), .int .u64 (loW t.i)]) ∧ Below w'.heap.size w' w'') :=
        fun w' => (widen_any t.i wf6.1 wf6.2 w').mono (by rintro e w'' ⟨rfl, c, rfl⟩; exact ⟨rfl, below_al (Below.refl _ _) _⟩)
      have HP : Hid (∀ w', Calls Tryd.prog 81 #[.agg #[.int .u64 (hiW z), .int .u64 (loW z)], .agg #[.int .u64 (hiW t.i), .int .u64 (loW t.i)]] w' fun e w'' => e = .returned (.agg #[.int .u64 (hiW (z + t.i)), .int .u64 (loW (z + t.i))]) ∧ Below w'.heap.size w' w'') :=
        fun w' => (plus_any z t.i w').mono (by rintro e w'' ⟨rfl, c1, c2, c3, rfl⟩; exact ⟨rfl, below_al (below_al (below_al (Below.refl _ _) _) _) _⟩)
      go_wp2
      generalize hW0 : wr.alloc (Obj.cells #[Value.int IntKind.i64 2, Value.bool t.b, Value.int IntKind.i64 t.i, Value.string t.s, Value.slice a1 t.l.length n1] 32) = W0
      have HT : Hid (∀ w', Below W0.heap.size W0 w' → (w'.cell? ⟨w.heap.size + 1, 0, none⟩ = some (.int .u64 (hiW z)) ∧ w'.cell? ⟨w.heap.size + 1, 1, none⟩ = some (.int .u64 (loW z)) ∧ w'.cell? ⟨wr.heap.size, 2, none⟩ = some (.int .i64 t.i) ∧ w'.frozen? ⟨w.heap.size + 1, 0, none⟩ = false ∧ w'.frozen? ⟨w.heap.size + 1, 1, none⟩ = false)) := by
        intro w' hb
        subst hW0
        have hv := hb.via (below_al (Below.refl _ wr) _)
        refine ⟨?_, ?_, ?_, ?_, ?_⟩
        · rw [hv.cell (p := ⟨w.heap.size + 1, 0, none⟩) hl2]; exact t1
        · rw [hv.cell (p := ⟨w.heap.size + 1, 1, none⟩) hl2]; exact t2
        · rw [hb.cell (p := ⟨wr.heap.size, 2, none⟩) (by simp)]; simp [go_sem]
        · rw [hv.frozen (p := ⟨w.heap.size + 1, 0, none⟩) hl2]; exact t3
        · rw [hv.frozen (p := ⟨w.heap.size + 1, 1, none⟩) hl2]; exact t4
      have hbW : Hid (Below (w.heap.size + 1) (w.alloc (.cells #[.int .i64 0, .bool false, .int .i64 0, .string ⟨#[]⟩, .slice none 0 0] 32)) W0) := by subst hW0; exact HZ.out.alloc (Nat.le_of_lt hl2) _
      have hsz : wr.heap.size < W0.heap.size := by subst hW0; simp
      clear hW0
      obtain ⟨q1, q2, q3, q4, q5⟩ := HT.out _ (Below.refl _ _)
      clear p1 p2 p3 p4 p5 t1 t2 t3 t4
      go_region_with (first | (go_at_call 82; refine (HW.out _).mono ?_; rintro e y1 ⟨rfl, hc1⟩; have D1 := Hid.intro (hc1.via (Below.refl _ _).drew); obtain ⟨n1, n2, n3, n4, n5⟩ := HT.out _ D1.out; clear hc1) | (go_at_call 81; refine (HP.out _).mono ?_; rintro e y2 ⟨rfl, hc2⟩; have D2 := Hid.intro (hc2.via D1.out); obtain ⟨r1, r2, r3, r4, r5⟩ := HT.out _ D2.out; clear hc2))
      all_goals have DB := Hid.intro (hbW.out.trans (D2.out.mono (Nat.le_of_lt (Nat.lt_trans hl2 hsz))))
      all_goals clear D1 D2 n1 n2 n3 n4 n5 q1 q2 q3 q4 q5 HT HP HW
      all_goals go_wp2
      all_goals go_roundw
      case rel | rel | rel => exact ⟨k + 1, by omega, by go_num, by rw [hsum]; simp [go_sem, r1], by rw [hsum]; simp [go_sem, r2], by simp [go_sem, r4], by simp [go_sem, r5], (DB.out.setCell (p := ⟨w.heap.size + 1, 0, none⟩) (Nat.le_refl _) _).setCell (p := ⟨w.heap.size + 1, 1, none⟩) (Nat.le_refl _) _⟩
      case measure | measure | measure => simp [intOf]; omega
    · have hkl : k = ts.length := by omega
      subst hkl
      rw [List.take_length] at t1 t2
      have hl2 : w.heap.size + 1 < wr.heap.size := cell_lt t1
      go_wp2_with fail
      refine (HN'.out _).mono ?_
      rintro e w1 ⟨rfl, hb1⟩
      have HB := Hid.intro (hb1.via hbw)
      have HY := Hid.intro (HZ.out.trans (hb1.mono (Nat.le_of_lt hl2)))
      have g0 := HY.out.cell (p := ⟨w.heap.size, 0, none⟩) (by simp)
      have g1 := HY.out.cell (p := ⟨w.heap.size, 1, none⟩) (by simp)
      have g2 := HY.out.cell (p := ⟨w.heap.size, 2, none⟩) (by simp)
      have g3 := HY.out.cell (p := ⟨w.heap.size, 3, none⟩) (by simp)
      have g4 := HY.out.cell (p := ⟨w.heap.size, 4, none⟩) (by simp)
      have f0 := HY.out.frozen (p := ⟨w.heap.size, 0, none⟩) (by simp)
      have f1 := HY.out.frozen (p := ⟨w.heap.size, 1, none⟩) (by simp)
      have f2 := HY.out.frozen (p := ⟨w.heap.size, 2, none⟩) (by simp)
      have f3 := HY.out.frozen (p := ⟨w.heap.size, 3, none⟩) (by simp)
      have f4 := HY.out.frozen (p := ⟨w.heap.size, 4, none⟩) (by simp)
      simp only [go_sem] at g0 g1 g2 g3 g4 f0 f1 f2 f3 f4
      clear hb1 t1 t2 t3 t4 HN'
      go_wp2
      refine bodyPost_ret (v := .tuple #[.agg #[.int .i64 rk, .bool false, .int .i64 ri, .string ⟨#[]⟩, .slice none 0 0], .int .i64 er]) (by simp [results, Tryd.results39, go_sem, g0, g1, g2, g3, g4]) rfl ⟨rfl, below_set5 HB.out (Nat.le_refl _) _ _ _ _ _⟩
end Go.Proofs.YtppbaflacccilaaDoor
