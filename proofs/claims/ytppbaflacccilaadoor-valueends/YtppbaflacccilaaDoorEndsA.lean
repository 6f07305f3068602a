/- proctorlaw1.ValueEnds: it tells true. -/
import Derived.Test.YtppbaflacccilaaDoorEnds2
import Derived.Test.YtppbaflacccilaaDoorWakes
import Derived.Deep.DeepCutAuto
namespace Go.Proofs.YtppbaflacccilaaDoor
open Go.RowKit

set_option maxHeartbeats 2000000 in
theorem num_e (x : Int) (w : World) :
    Calls Tryd.prog 21 #[.int .i64 x] w fun e w' => e = .returned (.agg #[.int .i64 2, .bool false, .int .i64 x, .string ⟨#[]⟩, .slice none 0 0]) ∧ Below w.heap.size w w' := by
  go_enter Tryd.func21, Tryd.ntmps21
  go_wp2
  refine bodyPost_ret (v := .agg #[.int .i64 2, .bool false, .int .i64 x, .string ⟨#[]⟩, .slice none 0 0]) (by simp [results, Tryd.results21, go_sem]) rfl ⟨rfl, ?_⟩
  repeat (first | exact Below.refl _ _ | refine below_al ?_ _)

theorem num_vs {w : World} {x : Int} (h1 : -9223372036854775808 ≤ x) (h2 : x ≤ 9223372036854775807) (m : Nat) : Vs w (m + 1) (numT x) (.slice none 0 0) :=
  ⟨⟨by simp [numT], by simp [numT], by simpa [numT] using h1, by simpa [numT] using h2, by simp [numT, maxLen, ByteArray.size]⟩, nil_lv⟩

theorem three_lw {w : World} {g m : Nat} {t1 t2 t3 : Tr} {s1 s2 s3 : Value} (h1 : Cel w g 0 t1 s1) (h2 : Cel w g 5 t2 s2) (h3 : Cel w g 10 t3 s3) (v1 : Vs w m t1 s1) (v2 : Vs w m t2 s2) (v3 : Vs w m t3 s3) : Lv w (Vs w m) [t1, t2, t3] (.slice (some ⟨g, 0, none⟩) 3 3) := by
  refine ⟨some ⟨g, 0, none⟩, 3, rfl, Nat.le_refl _, by unfold maxLen; omega, fun _ => ⟨g, 0, rfl, fun j hj => ?_⟩⟩
  match j, hj with
  | 0, _ => exact ⟨_, h1, v1⟩
  | 1, _ => exact ⟨_, h2, v2⟩
  | 2, _ => exact ⟨_, h3, v3⟩

/-- A zero value that was laid, and is as it was. -/
def ZAt (u : World) (g : Nat) : Prop := u.cell? ⟨g, 0, none⟩ = some (.int .i64 0) ∧ u.cell? ⟨g, 1, none⟩ = some (.bool false) ∧ u.cell? ⟨g, 2, none⟩ = some (.int .i64 0) ∧ u.cell? ⟨g, 3, none⟩ = some (.string ⟨#[]⟩) ∧ u.cell? ⟨g, 4, none⟩ = some (.slice none 0 0) ∧ (∀ o, u.frozen? ⟨g, o, none⟩ = false) ∧ g < u.heap.size

theorem ZAt.via {u u' : World} {g : Nat} (h : ZAt u g) (hb : Below u.heap.size u u') : ZAt u' g := by
  obtain ⟨h0, h1, h2, h3, h4, h5, h6⟩ := h
  have c := fun o => hb.cell (p := ⟨g, o, none⟩) h6
  have f := fun o => hb.frozen (p := ⟨g, o, none⟩) h6
  exact ⟨(c 0).trans h0, (c 1).trans h1, (c 2).trans h2, (c 3).trans h3, (c 4).trans h4, fun o => (f o).trans (h5 o), Nat.lt_of_lt_of_le h6 hb.size⟩

theorem zat_new (W : World) : ZAt (W.alloc (.cells #[.int .i64 0, .bool false, .int .i64 0, .string ⟨#[]⟩, .slice none 0 0] 32)) W.heap.size := by
  refine ⟨?_, ?_, ?_, ?_, ?_, fun o => ?_, by simp⟩
  · simp [go_sem]
  · simp [go_sem]
  · simp [go_sem]
  · simp [go_sem]
  · simp [go_sem]
  · unfold World.frozen?
    rw [heap_alloc_new]
    simp
theorem zat1 {W u : World} (h : Below (W.alloc (.cells #[.int .i64 0, .bool false, .int .i64 0, .string ⟨#[]⟩, .slice none 0 0] 32)).heap.size (W.alloc (.cells #[.int .i64 0, .bool false, .int .i64 0, .string ⟨#[]⟩, .slice none 0 0] 32)) u) : ZAt u W.heap.size := (zat_new W).via h
theorem zat1d {W u : World} (h : Below (W.alloc (.cells #[.int .i64 0, .bool false, .int .i64 0, .string ⟨#[]⟩, .slice none 0 0] 32)).drew.heap.size (W.alloc (.cells #[.int .i64 0, .bool false, .int .i64 0, .string ⟨#[]⟩, .slice none 0 0] 32)).drew u) : ZAt u W.heap.size := (zat_new W).via (h.via (Below.refl _ _).drew)
theorem zat2 {W u : World} {o : Obj} (h : Below ((W.alloc (.cells #[.int .i64 0, .bool false, .int .i64 0, .string ⟨#[]⟩, .slice none 0 0] 32)).alloc o).heap.size ((W.alloc (.cells #[.int .i64 0, .bool false, .int .i64 0, .string ⟨#[]⟩, .slice none 0 0] 32)).alloc o) u) : ZAt u W.heap.size := (zat_new W).via (h.via (below_al (Below.refl _ _) _))
theorem zat3 {W u : World} {o : Obj} (h : Below ((W.alloc o).alloc (.cells #[.int .i64 0, .bool false, .int .i64 0, .string ⟨#[]⟩, .slice none 0 0] 32)).heap.size ((W.alloc o).alloc (.cells #[.int .i64 0, .bool false, .int .i64 0, .string ⟨#[]⟩, .slice none 0 0] 32)) u) : ZAt u (W.heap.size + 1) := by
  have := (zat_new (W.alloc o)).via h
  simpa using this
theorem zat4 {W u : World} {o : Obj} {g : Nat} (hz : ZAt W g) (h : Below (W.alloc o).heap.size (W.alloc o) u) : ZAt u g := hz.via (h.via (below_al (Below.refl _ _) _))

theorem set5_i {u : World} {g : Nat} (hz : ZAt u g) (k i : Int) (b : Bool) (s : ByteArray) (v : Value) : (((((u.setCell ⟨g, 0, none⟩ (.int .i64 k)).setCell ⟨g, 1, none⟩ (.bool b)).setCell ⟨g, 2, none⟩ (.int .i64 i)).setCell ⟨g, 3, none⟩ (.string s)).setCell ⟨g, 4, none⟩ v).cell? ⟨g, 2, none⟩ = some (.int .i64 i) := by
  have h : Cel u g 0 zeroT (.slice none 0 0) := ⟨hz.1, hz.2.1, hz.2.2.1, hz.2.2.2.1, hz.2.2.2.2.1⟩
  exact (put5_cel h ⟨k, b, i, s, []⟩ v).2.2.1

/-- What the loop that makes a deep list has done. -/
def DeepAt (q : World) (k : Nat) (w' : World) : Prop :=
  Below (q.alloc (.cells #[.int .i64 0, .bool false, .int .i64 0, .string ⟨#[]⟩, .slice none 0 0] 32)).heap.size (q.alloc (.cells #[.int .i64 0, .bool false, .int .i64 0, .string ⟨#[]⟩, .slice none 0 0] 32)) w' ∧ ∃ sv, Cel w' (q.heap.size + 1) 0 (dp k) sv ∧ VsB (q.heap.size + 2 ≤ ·) w' (k + 1) (dp k) sv ∧ ∀ o, w'.frozen? ⟨q.heap.size + 1, o, none⟩ = false

theorem deep_start (q : World) : DeepAt q 0 ((q.alloc (.cells #[.int .i64 0, .bool false, .int .i64 0, .string ⟨#[]⟩, .slice none 0 0] 32)).alloc (.cells #[.int .i64 4, .bool false, .int .i64 0, .string ⟨#[]⟩, .slice none 0 0] 32)) := by
  refine ⟨below_al (Below.refl _ _) _, .slice none 0 0, by simp [Cel, go_sem, dp, lsT], ⟨lsT_wf _, none, 0, rfl, Nat.le_refl _, Nat.zero_le _, fun h => absurd h (Nat.lt_irrefl 0)⟩, fun o => ?_⟩
  have h := heap_alloc_new (q.alloc (.cells #[.int .i64 0, .bool false, .int .i64 0, .string ⟨#[]⟩, .slice none 0 0] 32)) (.cells #[.int .i64 4, .bool false, .int .i64 0, .string ⟨#[]⟩, .slice none 0 0] 32)
  rw [World.size_alloc] at h
  unfold World.frozen?
  rw [h]
  simp

theorem new_cel {u : World} {g : Nat} (hg : u.heap.size = g) (t : Tr) (e0 : t.k = 4) (e1 : t.b = false) (e2 : t.i = 0) (e3 : t.s = ⟨#[]⟩) (a1 : Option Addr) (n1 c1 : Nat) : Cel (u.alloc (.cells #[.int .i64 4, .bool false, .int .i64 0, .string ⟨#[]⟩, .slice a1 n1 c1] 32)) g 0 t (.slice a1 n1 c1) := by
  subst hg
  simp [Cel, go_sem, e0, e1, e2, e3]

theorem deep_step {q : World} {k : Nat} {wr : World} {a1 : Option Addr} {n1 c1 : Nat} (h : DeepAt q k wr) (cd : Cel wr (q.heap.size + 1) 0 (dp k) (.slice a1 n1 c1)) (vd : VsB (q.heap.size + 2 ≤ ·) wr (k + 1) (dp k) (.slice a1 n1 c1)) :
    DeepAt q (k + 1) ((((((wr.setCell ⟨q.heap.size + 1, 0, none⟩ (.int .i64 4)).setCell ⟨q.heap.size + 1, 1, none⟩ (.bool false)).setCell ⟨q.heap.size + 1, 2, none⟩ (.int .i64 0)).setCell ⟨q.heap.size + 1, 3, none⟩ (.string ⟨#[]⟩)).setCell ⟨q.heap.size + 1, 4, none⟩ (.slice (some ⟨wr.heap.size, 0, none⟩) 1 1)).alloc (.cells #[.int .i64 4, .bool false, .int .i64 0, .string ⟨#[]⟩, .slice a1 n1 c1] 32)) := by
  obtain ⟨hb, -, -, -, hf⟩ := h
  have hsz : q.heap.size + 1 < wr.heap.size := cell_lt cd.1
  obtain ⟨e0, e1, e2, e3⟩ := dp_form k
  have key : (((((wr.setCell ⟨q.heap.size + 1, 0, none⟩ (.int .i64 4)).setCell ⟨q.heap.size + 1, 1, none⟩ (.bool false)).setCell ⟨q.heap.size + 1, 2, none⟩ (.int .i64 0)).setCell ⟨q.heap.size + 1, 3, none⟩ (.string ⟨#[]⟩)).setCell ⟨q.heap.size + 1, 4, none⟩ (.slice (some ⟨wr.heap.size, 0, none⟩) 1 1)) = (put5 wr (q.heap.size + 1) 0 (dp (k + 1)) (.slice (some ⟨wr.heap.size, 0, none⟩) 1 1)) := by
    have f := dp_form (k + 1)
    unfold put5
    rw [f.1, f.2.1, f.2.2.1, f.2.2.2]
  rw [key]
  clear key
  have hal : Below (put5 wr (q.heap.size + 1) 0 (dp (k + 1)) (.slice (some ⟨wr.heap.size, 0, none⟩) 1 1)).heap.size (put5 wr (q.heap.size + 1) 0 (dp (k + 1)) (.slice (some ⟨wr.heap.size, 0, none⟩) 1 1)) ((put5 wr (q.heap.size + 1) 0 (dp (k + 1)) (.slice (some ⟨wr.heap.size, 0, none⟩) 1 1)).alloc (.cells #[.int .i64 4, .bool false, .int .i64 0, .string ⟨#[]⟩, .slice a1 n1 c1] 32)) := below_al (Below.refl _ _) _
  have hps : (put5 wr (q.heap.size + 1) 0 (dp (k + 1)) (.slice (some ⟨wr.heap.size, 0, none⟩) 1 1)).heap.size = wr.heap.size := put5_size _ _ _ _ _
  refine ⟨below_al (put5_below (B := (q.alloc (.cells #[.int .i64 0, .bool false, .int .i64 0, .string ⟨#[]⟩, .slice none 0 0] 32)).heap.size) hb (by simp) 0 (dp (k + 1)) _) _, .slice (some ⟨wr.heap.size, 0, none⟩) 1 1, (put5_cel cd (dp (k + 1)) _).below hal, ?_, fun o => ?_⟩
  · have hc : Cel ((put5 wr (q.heap.size + 1) 0 (dp (k + 1)) (.slice (some ⟨wr.heap.size, 0, none⟩) 1 1)).alloc (.cells #[.int .i64 4, .bool false, .int .i64 0, .string ⟨#[]⟩, .slice a1 n1 c1] 32)) wr.heap.size 0 (dp k) (.slice a1 n1 c1) := by
      exact new_cel hps (dp k) e0 e1 e2 e3 a1 n1 c1
    refine dp_step (w := wr) vd hc (by omega) ?_
    intro b hb1 hb2 o
    exact (hal.cell (p := ⟨b, o, none⟩) (by rw [hps]; exact hb2)).trans (put5_other _ _ _ _ _ _ _ (.inl (by omega)))
  · rw [hal.frozen (p := ⟨q.heap.size + 1, o, none⟩) (by rw [hps]; exact hsz), put5_frozen]
    exact hf o

theorem made1 : madeCells #[.int .i64 0, .bool false, .int .i64 0, .string ⟨#[]⟩, .slice none 0 0] (1 * 5) = #[.int .i64 0, .bool false, .int .i64 0, .string ⟨#[]⟩, .slice none 0 0] := by
  apply Array.ext_getElem?
  intro i
  by_cases h : i < 5
  · have := made_at 1 0 i (by omega) h
    rw [Nat.zero_mul, Nat.zero_add] at this
    exact this
  · rw [Array.getElem?_eq_none (by rw [size_madeCells]; omega), Array.getElem?_eq_none (by simp; omega)]
theorem make_one (w : World) : (Instr.makeSlice 22 (.int .i64 1) (.int .i64 1)).run Tryd.prog w = .ok (.slice (some ⟨w.heap.size, 0, none⟩) 1 1) (w.alloc (.cells #[.int .i64 0, .bool false, .int .i64 0, .string ⟨#[]⟩, .slice none 0 0] 32)) := by
  have := make_vals w 1 (by omega)
  rw [made1] at this
  exact this

theorem al_i (u : World) (T : TypeId) (a b c d e : Value) : (u.alloc (.cells #[a, b, c, d, e] T)).cell? ⟨u.heap.size, 2, none⟩ = some c := by simp


def findReg (n : Nat) : Code → Option Code
  | .region k o d => if k = n then some (.region k o d) else none
  | .seq a b => match findReg n a with
    | some c => some c
    | none => findReg n b
  | .block _ c => findReg n c
  | .loop c => findReg n c
  | .scope c => findReg n c
  | .cond _ a b => match findReg n a with
    | some c => some c
    | none => findReg n b
  | _ => none
def endReg (b : Option Code) (n : Nat) : Code := (b.bind (findReg n)).getD .skip
end Go.Proofs.YtppbaflacccilaaDoor
