/- Values that lie in blocks of a kind; what is written elsewhere does not touch them. -/
import Derived.Test.YtciibcfmlhbnkaaGreatDoorFits
import Derived.Laws.OwnMore
namespace Go.Proofs.YtciibcfmlhbnkaaGreatDoor
open Go.RowKit

/-- A slice of values in a block of the kind P. -/
def LvB (P : Nat → Prop) (w : World) (R : Tr → Value → Prop) (ts : List Tr) (sv : Value) : Prop :=
  ∃ (a0 : Option Addr) (cap : Nat), sv = .slice a0 ts.length cap ∧ ts.length ≤ cap ∧ cap ≤ maxLen ∧
    (0 < ts.length → ∃ b o, a0 = some ⟨b, o, none⟩ ∧ P b ∧ ∀ j (h : j < ts.length), ∃ sv', Cel w b (o + j * 5) ts[j] sv' ∧ R ts[j] sv')

def VsB (P : Nat → Prop) (w : World) : Nat → Tr → Value → Prop
  | 0, _, _ => False
  | n + 1, t, sv => t.wf ∧ LvB P w (VsB P w n) t.l sv

/-- Cells of blocks of the kind P are as they were. -/
def Kept (P : Nat → Prop) (w w' : World) : Prop := ∀ b, P b → b < w.heap.size → ∀ o, w'.cell? ⟨b, o, none⟩ = w.cell? ⟨b, o, none⟩

theorem Kept.below {P : Nat → Prop} {w w' : World} (h : Below w.heap.size w w') : Kept P w w' := fun b _ hb o => h.cell (p := ⟨b, o, none⟩) hb

theorem Cel.at {w w' : World} {b o : Nat} {t : Tr} {sv : Value} (h : Cel w b o t sv) (hb : ∀ o, w'.cell? ⟨b, o, none⟩ = w.cell? ⟨b, o, none⟩) : Cel w' b o t sv := by
  unfold Cel at *
  rw [hb, hb, hb, hb, hb]
  exact h

theorem LvB.move {P Q : Nat → Prop} {w w' : World} {R R' : Tr → Value → Prop} {ts : List Tr} {sv : Value} (hk : Kept P w w') (hpq : ∀ b, P b → Q b) (hr : ∀ t v, R t v → R' t v) (h : LvB P w R ts sv) : LvB Q w' R' ts sv := by
  obtain ⟨a0, cap, h1, h2, h3, h4⟩ := h
  refine ⟨a0, cap, h1, h2, h3, fun h0 => ?_⟩
  obtain ⟨b, o, e, hp, h5⟩ := h4 h0
  refine ⟨b, o, e, hpq b hp, fun j hj => ?_⟩
  obtain ⟨sv', h6, h7⟩ := h5 j hj
  exact ⟨sv', h6.at (hk b hp (cell_lt h6.1)), hr _ _ h7⟩

theorem VsB.move {P Q : Nat → Prop} {w w' : World} (hk : Kept P w w') (hpq : ∀ b, P b → Q b) : ∀ (n : Nat) (t : Tr) (sv : Value), VsB P w n t sv → VsB Q w' n t sv
  | 0, _, _, h => h
  | n + 1, _, _, h => ⟨h.1, LvB.move hk hpq (fun t v => VsB.move hk hpq n t v) h.2⟩

theorem LvB.lv {P : Nat → Prop} {w : World} {R R' : Tr → Value → Prop} {ts : List Tr} {sv : Value} (hr : ∀ t v, R t v → R' t v) (h : LvB P w R ts sv) : Lv w R' ts sv := by
  obtain ⟨a0, cap, h1, h2, h3, h4⟩ := h
  refine ⟨a0, cap, h1, h2, h3, fun h0 => ?_⟩
  obtain ⟨b, o, e, -, h5⟩ := h4 h0
  refine ⟨b, o, e, fun j hj => ?_⟩
  obtain ⟨sv', h6, h7⟩ := h5 j hj
  exact ⟨sv', h6, hr _ _ h7⟩

theorem VsB.vs {P : Nat → Prop} {w : World} : ∀ (n : Nat) (t : Tr) (sv : Value), VsB P w n t sv → Vs w n t sv
  | 0, _, _, h => h
  | n + 1, _, _, h => ⟨h.1, LvB.lv (fun t v => VsB.vs n t v) h.2⟩

theorem LvB.form {P : Nat → Prop} {w : World} {R : Tr → Value → Prop} {ts : List Tr} {sv : Value} (h : LvB P w R ts sv) : ∃ a c, sv = .slice a ts.length c ∧ ts.length ≤ c ∧ c ≤ 9223372036854775807 := by
  obtain ⟨a, c, h1, h2, h3, _⟩ := h
  exact ⟨a, c, h1, h2, h3⟩

theorem Lv.form {w : World} {R : Tr → Value → Prop} {ts : List Tr} {sv : Value} (h : Lv w R ts sv) : ∃ a c, sv = .slice a ts.length c ∧ ts.length ≤ c ∧ c ≤ 9223372036854775807 := by
  obtain ⟨a, c, h1, h2, h3, _⟩ := h
  exact ⟨a, c, h1, h2, h3⟩

/-- The zero value. -/
def zeroT : Tr := ⟨0, false, 0, ⟨#[]⟩, []⟩

theorem zeroV' : (Tryz.prog.info? 28).map (fun i => (i.zero.map (fun z => z.cells), i.size, i.bytes)) = some (some #[.int .i64 0, .bool false, .int .i64 0, .string ⟨#[]⟩, .slice none 0 0], 5, 64) := by kernel_rfl
theorem zeroV : ∃ i z, Tryz.prog.info? 28 = some i ∧ i.zero = some z ∧ z.cells = #[.int .i64 0, .bool false, .int .i64 0, .string ⟨#[]⟩, .slice none 0 0] ∧ i.size = 5 ∧ i.bytes = 64 := by
  have h := zeroV'
  cases hi : Tryz.prog.info? 28 with
  | none => rw [hi] at h; cases h
  | some i =>
    rw [hi] at h
    simp at h
    obtain ⟨⟨z, h1, h1'⟩, h2, h3⟩ := h
    exact ⟨i, z, rfl, h1, h1', h2, h3⟩

/-- make([]api.Value, n). -/
theorem make_vals (w : World) (n : Nat) (hn : n ≤ 1000000) :
    (Instr.makeSlice 22 (.int .i64 (n : Int)) (.int .i64 (n : Int))).run Tryz.prog w = .ok (.slice (some ⟨w.heap.size, 0, none⟩) n n) (w.alloc (.cells (madeCells #[.int .i64 0, .bool false, .int .i64 0, .string ⟨#[]⟩, .slice none 0 0] (n * 5)) 28)) := by
  obtain ⟨i, z, h1, h2, h3, h4, h5⟩ := zeroV
  have := run_make (P := Tryz.prog) w 22 28 i z Tryz.underlying22 h1 h2 .i64 .i64 n n (by omega) (by omega) (by rw [h5]; omega) (by omega)
  rw [h3, h4] at this
  simpa using this

theorem made_at (n j r : Nat) (h : j < n) (hr : r < 5) : (madeCells #[.int .i64 0, .bool false, .int .i64 0, .string ⟨#[]⟩, .slice none 0 0] (n * 5))[j * 5 + r]? = (#[.int .i64 0, .bool false, .int .i64 0, .string ⟨#[]⟩, .slice none 0 0] : Array Value)[r]? := by
  have h1 : j * 5 + r < n * 5 := by omega
  have h2 : (j * 5 + r) % 5 = r := by omega
  match r, hr with
  | 0, _ => have h1' : j < n := h
            have h3 : j * 5 < n * 5 := by omega
            simp [madeCells, h3]
  | 1, _ => simp [madeCells, h1, h2]
  | 2, _ => simp [madeCells, h1, h2]
  | 3, _ => simp [madeCells, h1, h2]
  | 4, _ => simp [madeCells, h1, h2]

theorem made_cel (w : World) (n j : Nat) (h : j < n) : Cel (w.alloc (.cells (madeCells #[.int .i64 0, .bool false, .int .i64 0, .string ⟨#[]⟩, .slice none 0 0] (n * 5)) 28)) w.heap.size (j * 5) zeroT (.slice none 0 0) := by
  have e : ∀ r, r < 5 → (w.alloc (.cells (madeCells #[.int .i64 0, .bool false, .int .i64 0, .string ⟨#[]⟩, .slice none 0 0] (n * 5)) 28)).cell? ⟨w.heap.size, j * 5 + r, none⟩ = (#[.int .i64 0, .bool false, .int .i64 0, .string ⟨#[]⟩, .slice none 0 0] : Array Value)[r]? := by
    intro r hr
    rw [← made_at n j r h hr]
    unfold World.cell?
    rw [heap_alloc_new]
    simp
  refine ⟨by simpa [zeroT] using e 0 (by omega), by simpa [zeroT] using e 1 (by omega), by simpa [zeroT] using e 2 (by omega), by simpa [zeroT] using e 3 (by omega), by simpa [zeroT] using e 4 (by omega)⟩

/-- Five cells, written. -/
def put5 (w : World) (b o : Nat) (t : Tr) (sv : Value) : World :=
  ((((w.setCell ⟨b, o, none⟩ (.int .i64 t.k)).setCell ⟨b, o + 1, none⟩ (.bool t.b)).setCell ⟨b, o + 2, none⟩ (.int .i64 t.i)).setCell ⟨b, o + 3, none⟩ (.string t.s)).setCell ⟨b, o + 4, none⟩ sv

theorem cell_other (w : World) (b o : Nat) (v : Value) (b' o' : Nat) (h : b' ≠ b ∨ o' ≠ o) : (w.setCell ⟨b, o, none⟩ v).cell? ⟨b', o', none⟩ = w.cell? ⟨b', o', none⟩ := by
  refine World.cell?_setCell_other _ _ _ _ (fun e => ?_)
  simp at e
  omega

theorem put5_other (w : World) (b o : Nat) (t : Tr) (sv : Value) (b' o' : Nat) (h : b' ≠ b ∨ o' < o ∨ o + 5 ≤ o') : (put5 w b o t sv).cell? ⟨b', o', none⟩ = w.cell? ⟨b', o', none⟩ := by
  unfold put5
  rw [cell_other _ _ _ _ _ _ (by omega), cell_other _ _ _ _ _ _ (by omega), cell_other _ _ _ _ _ _ (by omega), cell_other _ _ _ _ _ _ (by omega), cell_other _ _ _ _ _ _ (by omega)]

theorem cell_same {w : World} {b o : Nat} {v v' : Value} (h : w.cell? ⟨b, o, none⟩ = some v') : (w.setCell ⟨b, o, none⟩ v).cell? ⟨b, o, none⟩ = some v := by
  exact World.cell?_setCell_same w ⟨b, o, none⟩ v h

theorem put5_cel {w : World} {b o : Nat} {t0 : Tr} {s0 : Value} (h : Cel w b o t0 s0) (t : Tr) (sv : Value) : Cel (put5 w b o t sv) b o t sv := by
  obtain ⟨h0, h1, h2, h3, h4⟩ := h
  unfold put5
  refine ⟨?_, ?_, ?_, ?_, ?_⟩
  · rw [cell_other _ _ _ _ _ _ (by omega), cell_other _ _ _ _ _ _ (by omega), cell_other _ _ _ _ _ _ (by omega), cell_other _ _ _ _ _ _ (by omega)]
    exact cell_same h0
  · rw [cell_other _ _ _ _ _ _ (by omega), cell_other _ _ _ _ _ _ (by omega), cell_other _ _ _ _ _ _ (by omega)]
    exact cell_same ((cell_other _ _ _ _ _ _ (by omega)).trans h1)
  · rw [cell_other _ _ _ _ _ _ (by omega), cell_other _ _ _ _ _ _ (by omega)]
    exact cell_same ((cell_other _ _ _ _ _ _ (by omega)).trans ((cell_other _ _ _ _ _ _ (by omega)).trans h2))
  · rw [cell_other _ _ _ _ _ _ (by omega)]
    exact cell_same ((cell_other _ _ _ _ _ _ (by omega)).trans ((cell_other _ _ _ _ _ _ (by omega)).trans ((cell_other _ _ _ _ _ _ (by omega)).trans h3)))
  · exact cell_same ((cell_other _ _ _ _ _ _ (by omega)).trans ((cell_other _ _ _ _ _ _ (by omega)).trans ((cell_other _ _ _ _ _ _ (by omega)).trans ((cell_other _ _ _ _ _ _ (by omega)).trans h4))))

theorem put5_size (w : World) (b o : Nat) (t : Tr) (sv : Value) : (put5 w b o t sv).heap.size = w.heap.size := by simp [put5]
theorem put5_frozen (w : World) (b o : Nat) (t : Tr) (sv : Value) (a : Addr) : (put5 w b o t sv).frozen? a = w.frozen? a := by simp [put5]

theorem put5_below {B b : Nat} {a w : World} (h : Below B a w) (hB : B ≤ b) (o : Nat) (t : Tr) (sv : Value) : Below B a (put5 w b o t sv) :=
  ((((h.setCell (p := ⟨b, o, none⟩) hB _).setCell (p := ⟨b, o + 1, none⟩) hB _).setCell (p := ⟨b, o + 2, none⟩) hB _).setCell (p := ⟨b, o + 3, none⟩) hB _).setCell (p := ⟨b, o + 4, none⟩) hB _

theorem below_put {a w : World} (h : Below a.heap.size a w) {b o : Nat} (hb : a.heap.size ≤ b) (v : Value) : Below a.heap.size a (w.setCell ⟨b, o, none⟩ v) := h.setCell (p := ⟨b, o, none⟩) hb v

theorem VsB.lift {P Q : Nat → Prop} {w1 w2 : World} {n : Nat} {t : Tr} {sv : Value} (hwf : t.wf) (h : LvB P w1 (VsB P w1 n) t.l sv) (hk : Kept P w1 w2) (hpq : ∀ b, P b → Q b) : VsB Q w2 (n + 1) t sv :=
  ⟨hwf, LvB.move hk hpq (fun t v => VsB.move hk hpq n t v) h⟩

/-- What fits has short lists, at every depth. -/
theorem fit_short {r : Nat} {t : Tr} (h : fit r t = true) : t.l.length ≤ 4096 ∧ ∃ r', ∀ c ∈ t.l, fit r' c = true := by
  have hf : flat t = true → t.l.length ≤ 4096 ∧ ∃ r', ∀ c ∈ t.l, fit r' c = true := by
    intro hf
    have h0 : t.l = [] := by
      unfold flat at hf
      split at hf
      · simp at hf; exact hf.2
      · split at hf
        · simp at hf; exact hf.2
        · split at hf
          · simp at hf; exact hf.2
          · split at hf
            · simp at hf; exact hf.2
            · split at hf
              · simp at hf; exact hf.2
              · cases hf
    rw [h0]; simp
  cases r with
  | zero => exact hf h
  | succ r =>
    rw [fit] at h
    split at h
    · simp at h
      exact ⟨h.1.1.1.1, r, fun c hc => h.1.1.1.2 c hc⟩
    · exact hf h
end Go.Proofs.YtciibcfmlhbnkaaGreatDoor
