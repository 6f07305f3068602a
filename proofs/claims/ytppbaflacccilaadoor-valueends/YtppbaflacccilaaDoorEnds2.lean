/- Values at their ends: a list as long, a text as long, a list as deep as may be. -/
import Derived.Test.YtppbaflacccilaaDoorEnds1
namespace Go.Proofs.YtppbaflacccilaaDoor
open Go.RowKit

theorem two_lw {w : World} {g m : Nat} {t1 t2 : Tr} {s1 s2 : Value} (h1 : Cel w g 0 t1 s1) (h2 : Cel w g 5 t2 s2) (v1 : Vs w m t1 s1) (v2 : Vs w m t2 s2) : Lv w (Vs w m) [t1, t2] (.slice (some ⟨g, 0, none⟩) 2 2) := by
  refine ⟨some ⟨g, 0, none⟩, 2, rfl, Nat.le_refl _, by unfold maxLen; omega, fun _ => ⟨g, 0, rfl, fun j hj => ?_⟩⟩
  match j, hj with
  | 0, _ => exact ⟨_, h1, v1⟩
  | 1, _ => exact ⟨_, h2, v2⟩

theorem one_lw {w : World} {g m : Nat} {t1 : Tr} {s1 : Value} (h1 : Cel w g 0 t1 s1) (v1 : Vs w m t1 s1) : Lv w (Vs w m) [t1] (.slice (some ⟨g, 0, none⟩) 1 1) := by
  refine ⟨some ⟨g, 0, none⟩, 1, rfl, Nat.le_refl _, by unfold maxLen; omega, fun _ => ⟨g, 0, rfl, fun j hj => ?_⟩⟩
  match j, hj with
  | 0, _ => exact ⟨_, h1, v1⟩

/-- A list as a value. -/
def lsT (ts : List Tr) : Tr := ⟨4, false, 0, ⟨#[]⟩, ts⟩
/-- A text as a value. -/
def txT (s : ByteArray) : Tr := ⟨3, false, 0, s, []⟩

theorem lsT_wf (ts : List Tr) : (lsT ts).wf := ⟨by simp [lsT], by simp [lsT], by simp [lsT], by simp [lsT], by simp [lsT, maxLen, ByteArray.size]⟩

theorem lsT_vs {w : World} {n : Nat} {ts : List Tr} {sv : Value} (h : Lv w (Vs w n) ts sv) : Vs w (n + 1) (lsT ts) sv := ⟨lsT_wf ts, h⟩

theorem fit_lsT (ts : List Tr) (r : Nat) : fit (r + 1) (lsT ts) = (decide (ts.length ≤ 4096) && ts.all (fit r)) := by
  rw [fit, if_pos (show (lsT ts).k = 4 from rfl)]; simp [lsT]; rfl

theorem nil_lv {w : World} {R : Tr → Value → Prop} : Lv w R [] (.slice none 0 0) := ⟨none, 0, rfl, Nat.le_refl _, Nat.zero_le _, fun h => absurd h (Nat.lt_irrefl 0)⟩

theorem txT_vs {w : World} {s : ByteArray} (h : s.size ≤ 65536) (m : Nat) : Vs w (m + 1) (txT s) (.slice none 0 0) :=
  ⟨⟨by simp [txT], by simp [txT], by simp [txT], by simp [txT], by simp [txT, maxLen]; omega⟩, nil_lv⟩

theorem fit_txT {s : ByteArray} (h : s.size ≤ 65536) (r : Nat) : fit r (txT s) = true := by
  rw [fit_flat _ _ (by simp [txT])]
  have h' : (s.size : Int) ≤ 65536 := by omega
  simp [flat, txT, h']

theorem zero_vs {w : World} (m : Nat) : Vs w (m + 1) zeroT (.slice none 0 0) :=
  ⟨⟨by simp [zeroT], by simp [zeroT], by simp [zeroT], by simp [zeroT], by simp [zeroT, maxLen, ByteArray.size]⟩, nil_lv⟩

/-- Zero values alone. -/
theorem long_lv {w : World} {g n : Nat} (m : Nat) (hn : n ≤ 4096) (h : ∀ j, j < n → Cel w g (j * 5) zeroT (.slice none 0 0)) : ∃ us : List Tr, us.length = n ∧ (∀ r, ∀ t ∈ us, fit r t = true) ∧ Lv w (Vs w (m + 1)) us (.slice (some ⟨g, 0, none⟩) n n) := by
  refine ⟨List.replicate n zeroT, List.length_replicate, ?_, some ⟨g, 0, none⟩, n, by rw [List.length_replicate], by rw [List.length_replicate]; exact Nat.le_refl _, by unfold maxLen; omega, fun _ => ⟨g, 0, rfl, fun j hj => ?_⟩⟩
  · intro r t ht
    rw [List.eq_of_mem_replicate ht, fit_flat _ _ (by simp [zeroT])]
    simp [flat, zeroT]
  · rw [List.length_replicate] at hj
    rw [List.getElem_replicate, Nat.zero_add]
    exact ⟨_, h j hj, zero_vs m⟩

/-- Lists in one another. -/
def dp : Nat → Tr
  | 0 => lsT []
  | k + 1 => lsT [dp k]

theorem fit_dp : ∀ (r k : Nat), fit r (dp k) = decide (k < r)
  | 0, 0 => by simp [fit, flat, dp, lsT]
  | 0, k + 1 => by simp [fit, flat, dp, lsT]
  | r + 1, 0 => by rw [dp, fit_lsT]; simp
  | r + 1, k + 1 => by
    rw [dp, fit_lsT]
    simp [fit_dp r k]

theorem dp_form (k : Nat) : (dp k).k = 4 ∧ (dp k).b = false ∧ (dp k).i = 0 ∧ (dp k).s = ⟨#[]⟩ := by
  cases k <;> exact ⟨rfl, rfl, rfl, rfl⟩

/-- One list more around it. -/
theorem dp_step {w w2 : World} {G g k : Nat} {sv : Value} (hv : VsB (G ≤ ·) w (k + 1) (dp k) sv) (hc : Cel w2 g 0 (dp k) sv) (hg : G ≤ g) (hk : Kept (G ≤ ·) w w2) : VsB (G ≤ ·) w2 (k + 2) (dp (k + 1)) (.slice (some ⟨g, 0, none⟩) 1 1) := by
  refine ⟨lsT_wf _, some ⟨g, 0, none⟩, 1, rfl, Nat.le_refl _, by unfold maxLen; omega, fun _ => ⟨g, 0, rfl, hg, fun j hj => ?_⟩⟩
  match j, hj with
  | 0, _ => exact ⟨sv, hc, VsB.move hk (fun _ h => h) _ _ _ hv⟩

/-- string(make([]byte, 65536)). -/
theorem zeroB' : (Tryd.prog.info? 5).map (fun i => (i.zero.map (fun z => z.cells), i.size, i.bytes)) = some (some #[.int .u8 0], 1, 1) := by kernel_rfl
theorem make_bytes : ∃ C : Array Value, (∀ i, i < 65536 → C[i]? = some (.int .u8 0)) ∧ ∀ w : World, (Instr.makeSlice 27 (.int .i64 65536) (.int .i64 65536)).run Tryd.prog w = .ok (.slice (some ⟨w.heap.size, 0, none⟩) 65536 65536) (w.alloc (.cells C 5)) := by
  have h := zeroB'
  cases hi : Tryd.prog.info? 5 with
  | none => rw [hi] at h; cases h
  | some i =>
    rw [hi] at h
    simp at h
    obtain ⟨⟨z, h1, h1'⟩, h2, h3⟩ := h
    refine ⟨madeCells #[.int .u8 0] 65536, fun i hi => ?_, fun w => ?_⟩
    · simp [madeCells, hi, Nat.mod_one]
    · have := run_make (P := Tryd.prog) w 27 5 i z Tryd.underlying27 hi h1 .i64 .i64 65536 65536 (by omega) (by omega) (by rw [h3]; omega) (by omega)
      rw [h1', h2] at this
      exact this

theorem str_size (xs : List Int) : (strOfNums xs).size = xs.length := by
  simp [strOfNums, ByteArray.size]

theorem conv_bytes : ∃ s : ByteArray, s.size = 65536 ∧ ∀ (C : Array Value) (w : World), (∀ i, i < 65536 → C[i]? = some (.int .u8 0)) → (convert 27 9 (.slice (some ⟨w.heap.size, 0, none⟩) 65536 65536)).run Tryd.prog (w.alloc (.cells C 5)) = .ok (.string s) (w.alloc (.cells C 5)) := by
  refine ⟨strOfNums (List.replicate 65536 0), by rw [str_size, List.length_replicate], fun C w hC => ?_⟩
  refine run_convert_bytes_arg _ 27 5 Tryd.underlying27 Tryd.underlying5 w.heap.size 0 65536 65536 (List.replicate 65536 0) List.length_replicate (fun i hi => ?_) _ Tryd.underlying9
  unfold World.cell?
  rw [heap_alloc_new]
  simp only [Nat.zero_add, Option.isSome_none, Bool.false_eq_true, if_false]
  rw [hC i hi]
  rw [List.getD_eq_getElem?_getD, List.getElem?_replicate, if_pos hi]
  rfl
end Go.Proofs.YtppbaflacccilaaDoor
