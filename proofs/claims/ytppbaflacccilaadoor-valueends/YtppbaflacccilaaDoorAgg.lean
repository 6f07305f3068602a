/- value.Aggregate("sum", ..) over numbers: what it tells. -/
import Derived.Test.YtppbaflacccilaaDoorSum
namespace Go.Proofs.YtppbaflacccilaaDoor
open Go.RowKit

theorem fit_ints (ts : List Tr) (hi : ∀ t ∈ ts, t.k = 2) (hf : ∀ t ∈ ts, flat t = true) : ts.all (fit 30) = true := by
  rw [List.all_eq_true]
  intro t ht
  rw [fit_flat _ _ (by rw [hi t ht]; omega)]
  exact hf t ht

set_option maxHeartbeats 2000000 in
theorem aggregate_sum (n : Nat) (ts : List Tr) (sv : Value) (w : World) (hl : Lv w (Vs w n) ts sv) (hi : ∀ t ∈ ts, t.k = 2) (hf : ∀ t ∈ ts, flat t = true) (hj : ∀ t ∈ ts, -9223372036854775808 ≤ t.i ∧ t.i ≤ 9223372036854775807) (rk ri er : Int)
    (HN : ∀ w', Calls Tryd.prog 83 #[.agg #[.int .u64 (hiW (sumT ts)), .int .u64 (loW (sumT ts))]] w' fun e w'' => e = .returned (.tuple #[.agg #[.int .i64 rk, .bool false, .int .i64 ri, .string ⟨#[]⟩, .slice none 0 0], .int .i64 er]) ∧ Below w'.heap.size w' w'') :
    Calls Tryd.prog 22 #[.string ⟨#[115, 117, 109]⟩, sv] w fun e w' => e = .returned (.tuple #[.agg #[.int .i64 rk, .bool false, .int .i64 ri, .string ⟨#[]⟩, .slice none 0 0], .int .i64 er]) ∧ Below w.heap.size w w' := by
  obtain ⟨a0, ca, rfl, la, ma, ea⟩ := id hl
  unfold maxLen at ma
  clear ea
  have hfit := fit_ints ts hi hf
  have HA := Hid.intro (fun w' (hb : Below w.heap.size w w') => allFit_any n (fits_any n) 30 ts _ w' (Nat.le_refl _) (hl.mono hb (fun t v => Vs.below hb n t v)))
  have HS := Hid.intro (fun w' (hb : Below w.heap.size w w') => sum_walk n ts _ w' (hl.mono hb (fun t v => Vs.below hb n t v)) hi hj rk ri er HN)
  rw [hfit] at HA
  clear hl HN hi hf hj hfit
  go_enter Tryd.func22, Tryd.ntmps22
  go_wp2_with fail
  refine (HA.out _ (below_al (Below.refl _ _) _)).mono ?_
  rintro e w1 ⟨rfl, hb1⟩
  have B1 := Hid.intro (hb1.via (below_al (Below.refl _ _) _))
  have g0 := hb1.cell (p := ⟨w.heap.size, 0, none⟩) (by simp)
  have g1 := hb1.cell (p := ⟨w.heap.size, 1, none⟩) (by simp)
  have g2 := hb1.cell (p := ⟨w.heap.size, 2, none⟩) (by simp)
  have g3 := hb1.cell (p := ⟨w.heap.size, 3, none⟩) (by simp)
  have g4 := hb1.cell (p := ⟨w.heap.size, 4, none⟩) (by simp)
  have f0 := hb1.frozen (p := ⟨w.heap.size, 0, none⟩) (by simp)
  have f1 := hb1.frozen (p := ⟨w.heap.size, 1, none⟩) (by simp)
  have f2 := hb1.frozen (p := ⟨w.heap.size, 2, none⟩) (by simp)
  have f3 := hb1.frozen (p := ⟨w.heap.size, 3, none⟩) (by simp)
  have f4 := hb1.frozen (p := ⟨w.heap.size, 4, none⟩) (by simp)
  simp only [go_sem] at g0 g1 g2 g3 g4 f0 f1 f2 f3 f4
  have hsz : w.heap.size < w1.heap.size := cell_lt g0
  clear hb1 HA
  go_wp2_with fail
  refine (HS.out _ B1.out).mono ?_
  rintro e w2 ⟨rfl, hb2⟩
  have B2 := Hid.intro (hb2.via B1.out)
  rw [← hb2.cell (p := ⟨w.heap.size, 0, none⟩) hsz] at g0
  rw [← hb2.cell (p := ⟨w.heap.size, 1, none⟩) hsz] at g1
  rw [← hb2.cell (p := ⟨w.heap.size, 2, none⟩) hsz] at g2
  rw [← hb2.cell (p := ⟨w.heap.size, 3, none⟩) hsz] at g3
  rw [← hb2.cell (p := ⟨w.heap.size, 4, none⟩) hsz] at g4
  rw [← hb2.frozen (p := ⟨w.heap.size, 0, none⟩) hsz] at f0
  rw [← hb2.frozen (p := ⟨w.heap.size, 1, none⟩) hsz] at f1
  rw [← hb2.frozen (p := ⟨w.heap.size, 2, none⟩) hsz] at f2
  rw [← hb2.frozen (p := ⟨w.heap.size, 3, none⟩) hsz] at f3
  rw [← hb2.frozen (p := ⟨w.heap.size, 4, none⟩) hsz] at f4
  clear hb2 HS
  go_wp2
  refine bodyPost_ret (v := .tuple #[.agg #[.int .i64 rk, .bool false, .int .i64 ri, .string ⟨#[]⟩, .slice none 0 0], .int .i64 er]) (by simp [results, Tryd.results22, go_sem, g0, g1, g2, g3, g4]) rfl ⟨rfl, below_set5 B2.out (Nat.le_refl _) _ _ _ _ _⟩
end Go.Proofs.YtppbaflacccilaaDoor
