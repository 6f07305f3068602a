/- The maps of operations. -/
import Derived.Test.YthhflcdmicpcdaaDoorOrder
import Derived.Maps.Own
namespace Go.Proofs.YthhflcdmicpcdaaDoor
open Go.RowKit Go.Maps

theorem heap_new (w : World) (o : Obj) : (w.alloc o).heap[w.heap.size]? = some o := by
  show (w.heap.push o)[w.heap.size]? = _
  simp

theorem find_at (w : World) (k : Int) (es : List MapEntry) (r : Option (Nat × Value)) (h : Instr.findNow (.int .i64) (.int .i64 k) es 0 = some r) :
    (Instr.findKey 3 (.int .i64 k) es).run Tryd.prog w = .ok r w := by
  simp [Instr.findKey, run_underlying Tryd.underlying3, h, Result.andThen]

theorem check_at (w : World) (b : Bool) (k : Int) (hw : (Lit.int .i64 k).wf = true) : (Instr.checkKey b 10000 3 (.int .i64 k)).run Tryd.prog w = .ok () w :=
  (int_keyed Tryd.underlying3).check w b (keyOf_int_mk Tryd.underlying3 hw)

theorem set_new {α : Type} (a : Array α) (x y : α) : (a.push x).setIfInBounds a.size y = a.push y := by
  apply Array.ext
  · simp
  · intro i h1 h2
    simp only [Array.size_setIfInBounds, Array.size_push] at h1
    by_cases h : i = a.size
    · subst h; simp
    · have : i < a.size := by omega
      rw [Array.getElem_setIfInBounds_ne (by simp; omega) (Ne.symm h)]; simp [Array.getElem_push, this]

theorem run_put (t e : TypeId) (ht : Tryd.prog.underlying t = some (.map 3 e)) (w : World) (es : Array MapEntry) (clock : Nat) (k : Int) (hw : (Lit.int .i64 k).wf = true) (v : Value) (h : Instr.findNow (.int .i64) (.int .i64 k) es.toList 0 = some none) :
    (Instr.mapUpdate t (.map (some w.heap.size)) (.int .i64 k) v).run Tryd.prog (w.alloc (.map es clock)) =
      .ok () (w.alloc (.map (es.push { key := .int .i64 k, val := v, born := clock }) (clock + 1))) := by
  have hb := heap_new w (.map es clock)
  simp [Instr.mapUpdate, run_underlying ht, MapKept.run_getObj_map hb, check_at _ _ _ hw, find_at _ _ _ _ h, MapKept.run_setObj_map _ hb, Result.andThen]
  exact congrArg (fun hh => ({ heap := hh, tape := w.tape, drawn := w.drawn, os := w.os, output := w.output } : World)) (set_new w.heap _ _)

theorem run_look (t e : TypeId) (ht : Tryd.prog.underlying t = some (.map 3 e)) (w : World) (r : Nat) (es : Array MapEntry) (clock : Nat) (hb : w.heap[r]? = some (.map es clock)) (k : Int) (hw : (Lit.int .i64 k).wf = true) (i : Nat) (v : Value) (h : Instr.findNow (.int .i64) (.int .i64 k) es.toList 0 = some (some (i, v))) :
    (Instr.lookup t (.map (some r)) (.int .i64 k) true).run Tryd.prog w = .ok (.tuple #[v, .bool true]) w := by
  simp [Instr.lookup, run_underlying ht, MapKept.run_getObj_map hb, check_at _ _ _ hw, find_at _ _ _ _ h, Result.andThen]

theorem run_lookno (t e : TypeId) (ht : Tryd.prog.underlying t = some (.map 3 e)) (w : World) (z : Value) (hz : (zeroValue e).run Tryd.prog w = .ok z w) (r : Nat) (es : Array MapEntry) (clock : Nat) (hb : w.heap[r]? = some (.map es clock)) (k : Int) (hw : (Lit.int .i64 k).wf = true) (h : Instr.findNow (.int .i64) (.int .i64 k) es.toList 0 = some none) :
    (Instr.lookup t (.map (some r)) (.int .i64 k) true).run Tryd.prog w = .ok (.tuple #[z, .bool false]) w := by
  simp [Instr.lookup, run_underlying ht, MapKept.run_getObj_map hb, check_at _ _ _ hw, find_at _ _ _ _ h, hz, Result.andThen]

theorem zero_onTwo (w : World) : (zeroValue 63).run Tryd.prog w = .ok .nilFunc w := by kernel_rfl
theorem zero_onOne (w : World) : (zeroValue 58).run Tryd.prog w = .ok .nilFunc w := by kernel_rfl
theorem und_two : Tryd.prog.underlying 65 = some (.map 3 63) := by kernel_rfl
theorem und_one : Tryd.prog.underlying 60 = some (.map 3 58) := by kernel_rfl

abbrev fnV (f : Nat) : Value := .func (.func f) #[] #[]
def oneEs : Array MapEntry := #[⟨.int .i64 6, fnV 58, 0⟩, ⟨.int .i64 7, fnV 59, 1⟩, ⟨.int .i64 21, fnV 60, 2⟩]
def compEs : Array MapEntry := #[⟨.int .i64 10, fnV 61, 0⟩, ⟨.int .i64 11, fnV 63, 1⟩, ⟨.int .i64 12, fnV 64, 2⟩, ⟨.int .i64 13, fnV 66, 3⟩, ⟨.int .i64 14, fnV 67, 4⟩, ⟨.int .i64 15, fnV 68, 5⟩]
def reckEs : Array MapEntry := #[⟨.int .i64 16, fnV 69, 0⟩, ⟨.int .i64 17, fnV 70, 1⟩, ⟨.int .i64 18, fnV 73, 2⟩, ⟨.int .i64 19, fnV 75, 3⟩, ⟨.int .i64 20, fnV 77, 4⟩, ⟨.int .i64 22, fnV 79, 5⟩]

set_option maxHeartbeats 400000 in
theorem comparing_any (w : World) :
    Calls Tryd.prog 36 #[] w fun e w' => e = .returned (.map (some w.heap.size)) ∧ w' = w.alloc (.map compEs 6) := by
  have h0 := run_makeMap (P := Tryd.prog) 65 w
  have p0 : (Instr.mapUpdate 65 (.map (some w.heap.size)) (.int .i64 10) (.func (.func 61) #[] #[])).run Tryd.prog (w.alloc (.map #[] 0)) = .ok () (w.alloc (.map #[⟨.int .i64 10, .func (.func 61) #[] #[], 0⟩] 1)) := run_put _ _ und_two w #[] 0 10 (by decide) _ rfl
  have p1 : (Instr.mapUpdate 65 (.map (some w.heap.size)) (.int .i64 11) (.func (.func 63) #[] #[])).run Tryd.prog (w.alloc (.map #[⟨.int .i64 10, .func (.func 61) #[] #[], 0⟩] 1)) = .ok () (w.alloc (.map #[⟨.int .i64 10, .func (.func 61) #[] #[], 0⟩, ⟨.int .i64 11, .func (.func 63) #[] #[], 1⟩] 2)) := run_put _ _ und_two w #[⟨.int .i64 10, .func (.func 61) #[] #[], 0⟩] 1 11 (by decide) _ rfl
  have p2 : (Instr.mapUpdate 65 (.map (some w.heap.size)) (.int .i64 12) (.func (.func 64) #[] #[])).run Tryd.prog (w.alloc (.map #[⟨.int .i64 10, .func (.func 61) #[] #[], 0⟩, ⟨.int .i64 11, .func (.func 63) #[] #[], 1⟩] 2)) = .ok () (w.alloc (.map #[⟨.int .i64 10, .func (.func 61) #[] #[], 0⟩, ⟨.int .i64 11, .func (.func 63) #[] #[], 1⟩, ⟨.int .i64 12, .func (.func 64) #[] #[], 2⟩] 3)) := run_put _ _ und_two w #[⟨.int .i64 10, .func (.func 61) #[] #[], 0⟩, ⟨.int .i64 11, .func (.func 63) #[] #[], 1⟩] 2 12 (by decide) _ rfl
  have p3 : (Instr.mapUpdate 65 (.map (some w.heap.size)) (.int .i64 13) (.func (.func 66) #[] #[])).run Tryd.prog (w.alloc (.map #[⟨.int .i64 10, .func (.func 61) #[] #[], 0⟩, ⟨.int .i64 11, .func (.func 63) #[] #[], 1⟩, ⟨.int .i64 12, .func (.func 64) #[] #[], 2⟩] 3)) = .ok () (w.alloc (.map #[⟨.int .i64 10, .func (.func 61) #[] #[], 0⟩, ⟨.int .i64 11, .func (.func 63) #[] #[], 1⟩, ⟨.int .i64 12, .func (.func 64) #[] #[], 2⟩, ⟨.int .i64 13, .func (.func 66) #[] #[], 3⟩] 4)) := run_put _ _ und_two w #[⟨.int .i64 10, .func (.func 61) #[] #[], 0⟩, ⟨.int .i64 11, .func (.func 63) #[] #[], 1⟩, ⟨.int .i64 12, .func (.func 64) #[] #[], 2⟩] 3 13 (by decide) _ rfl
  have p4 : (Instr.mapUpdate 65 (.map (some w.heap.size)) (.int .i64 14) (.func (.func 67) #[] #[])).run Tryd.prog (w.alloc (.map #[⟨.int .i64 10, .func (.func 61) #[] #[], 0⟩, ⟨.int .i64 11, .func (.func 63) #[] #[], 1⟩, ⟨.int .i64 12, .func (.func 64) #[] #[], 2⟩, ⟨.int .i64 13, .func (.func 66) #[] #[], 3⟩] 4)) = .ok () (w.alloc (.map #[⟨.int .i64 10, .func (.func 61) #[] #[], 0⟩, ⟨.int .i64 11, .func (.func 63) #[] #[], 1⟩, ⟨.int .i64 12, .func (.func 64) #[] #[], 2⟩, ⟨.int .i64 13, .func (.func 66) #[] #[], 3⟩, ⟨.int .i64 14, .func (.func 67) #[] #[], 4⟩] 5)) := run_put _ _ und_two w #[⟨.int .i64 10, .func (.func 61) #[] #[], 0⟩, ⟨.int .i64 11, .func (.func 63) #[] #[], 1⟩, ⟨.int .i64 12, .func (.func 64) #[] #[], 2⟩, ⟨.int .i64 13, .func (.func 66) #[] #[], 3⟩] 4 14 (by decide) _ rfl
  have p5 : (Instr.mapUpdate 65 (.map (some w.heap.size)) (.int .i64 15) (.func (.func 68) #[] #[])).run Tryd.prog (w.alloc (.map #[⟨.int .i64 10, .func (.func 61) #[] #[], 0⟩, ⟨.int .i64 11, .func (.func 63) #[] #[], 1⟩, ⟨.int .i64 12, .func (.func 64) #[] #[], 2⟩, ⟨.int .i64 13, .func (.func 66) #[] #[], 3⟩, ⟨.int .i64 14, .func (.func 67) #[] #[], 4⟩] 5)) = .ok () (w.alloc (.map #[⟨.int .i64 10, .func (.func 61) #[] #[], 0⟩, ⟨.int .i64 11, .func (.func 63) #[] #[], 1⟩, ⟨.int .i64 12, .func (.func 64) #[] #[], 2⟩, ⟨.int .i64 13, .func (.func 66) #[] #[], 3⟩, ⟨.int .i64 14, .func (.func 67) #[] #[], 4⟩, ⟨.int .i64 15, .func (.func 68) #[] #[], 5⟩] 6)) := run_put _ _ und_two w #[⟨.int .i64 10, .func (.func 61) #[] #[], 0⟩, ⟨.int .i64 11, .func (.func 63) #[] #[], 1⟩, ⟨.int .i64 12, .func (.func 64) #[] #[], 2⟩, ⟨.int .i64 13, .func (.func 66) #[] #[], 3⟩, ⟨.int .i64 14, .func (.func 67) #[] #[], 4⟩] 5 15 (by decide) _ rfl
  go_enter Tryd.func36, Tryd.ntmps36
  go_wp2
  go_ret
  exact ⟨rfl, rfl⟩

set_option maxHeartbeats 400000 in
theorem reckoning_any (w : World) :
    Calls Tryd.prog 37 #[] w fun e w' => e = .returned (.map (some w.heap.size)) ∧ w' = w.alloc (.map reckEs 6) := by
  have h0 := run_makeMap (P := Tryd.prog) 65 w
  have p0 : (Instr.mapUpdate 65 (.map (some w.heap.size)) (.int .i64 16) (.func (.func 69) #[] #[])).run Tryd.prog (w.alloc (.map #[] 0)) = .ok () (w.alloc (.map #[⟨.int .i64 16, .func (.func 69) #[] #[], 0⟩] 1)) := run_put _ _ und_two w #[] 0 16 (by decide) _ rfl
  have p1 : (Instr.mapUpdate 65 (.map (some w.heap.size)) (.int .i64 17) (.func (.func 70) #[] #[])).run Tryd.prog (w.alloc (.map #[⟨.int .i64 16, .func (.func 69) #[] #[], 0⟩] 1)) = .ok () (w.alloc (.map #[⟨.int .i64 16, .func (.func 69) #[] #[], 0⟩, ⟨.int .i64 17, .func (.func 70) #[] #[], 1⟩] 2)) := run_put _ _ und_two w #[⟨.int .i64 16, .func (.func 69) #[] #[], 0⟩] 1 17 (by decide) _ rfl
  have p2 : (Instr.mapUpdate 65 (.map (some w.heap.size)) (.int .i64 18) (.func (.func 73) #[] #[])).run Tryd.prog (w.alloc (.map #[⟨.int .i64 16, .func (.func 69) #[] #[], 0⟩, ⟨.int .i64 17, .func (.func 70) #[] #[], 1⟩] 2)) = .ok () (w.alloc (.map #[⟨.int .i64 16, .func (.func 69) #[] #[], 0⟩, ⟨.int .i64 17, .func (.func 70) #[] #[], 1⟩, ⟨.int .i64 18, .func (.func 73) #[] #[], 2⟩] 3)) := run_put _ _ und_two w #[⟨.int .i64 16, .func (.func 69) #[] #[], 0⟩, ⟨.int .i64 17, .func (.func 70) #[] #[], 1⟩] 2 18 (by decide) _ rfl
  have p3 : (Instr.mapUpdate 65 (.map (some w.heap.size)) (.int .i64 19) (.func (.func 75) #[] #[])).run Tryd.prog (w.alloc (.map #[⟨.int .i64 16, .func (.func 69) #[] #[], 0⟩, ⟨.int .i64 17, .func (.func 70) #[] #[], 1⟩, ⟨.int .i64 18, .func (.func 73) #[] #[], 2⟩] 3)) = .ok () (w.alloc (.map #[⟨.int .i64 16, .func (.func 69) #[] #[], 0⟩, ⟨.int .i64 17, .func (.func 70) #[] #[], 1⟩, ⟨.int .i64 18, .func (.func 73) #[] #[], 2⟩, ⟨.int .i64 19, .func (.func 75) #[] #[], 3⟩] 4)) := run_put _ _ und_two w #[⟨.int .i64 16, .func (.func 69) #[] #[], 0⟩, ⟨.int .i64 17, .func (.func 70) #[] #[], 1⟩, ⟨.int .i64 18, .func (.func 73) #[] #[], 2⟩] 3 19 (by decide) _ rfl
  have p4 : (Instr.mapUpdate 65 (.map (some w.heap.size)) (.int .i64 20) (.func (.func 77) #[] #[])).run Tryd.prog (w.alloc (.map #[⟨.int .i64 16, .func (.func 69) #[] #[], 0⟩, ⟨.int .i64 17, .func (.func 70) #[] #[], 1⟩, ⟨.int .i64 18, .func (.func 73) #[] #[], 2⟩, ⟨.int .i64 19, .func (.func 75) #[] #[], 3⟩] 4)) = .ok () (w.alloc (.map #[⟨.int .i64 16, .func (.func 69) #[] #[], 0⟩, ⟨.int .i64 17, .func (.func 70) #[] #[], 1⟩, ⟨.int .i64 18, .func (.func 73) #[] #[], 2⟩, ⟨.int .i64 19, .func (.func 75) #[] #[], 3⟩, ⟨.int .i64 20, .func (.func 77) #[] #[], 4⟩] 5)) := run_put _ _ und_two w #[⟨.int .i64 16, .func (.func 69) #[] #[], 0⟩, ⟨.int .i64 17, .func (.func 70) #[] #[], 1⟩, ⟨.int .i64 18, .func (.func 73) #[] #[], 2⟩, ⟨.int .i64 19, .func (.func 75) #[] #[], 3⟩] 4 20 (by decide) _ rfl
  have p5 : (Instr.mapUpdate 65 (.map (some w.heap.size)) (.int .i64 22) (.func (.func 79) #[] #[])).run Tryd.prog (w.alloc (.map #[⟨.int .i64 16, .func (.func 69) #[] #[], 0⟩, ⟨.int .i64 17, .func (.func 70) #[] #[], 1⟩, ⟨.int .i64 18, .func (.func 73) #[] #[], 2⟩, ⟨.int .i64 19, .func (.func 75) #[] #[], 3⟩, ⟨.int .i64 20, .func (.func 77) #[] #[], 4⟩] 5)) = .ok () (w.alloc (.map #[⟨.int .i64 16, .func (.func 69) #[] #[], 0⟩, ⟨.int .i64 17, .func (.func 70) #[] #[], 1⟩, ⟨.int .i64 18, .func (.func 73) #[] #[], 2⟩, ⟨.int .i64 19, .func (.func 75) #[] #[], 3⟩, ⟨.int .i64 20, .func (.func 77) #[] #[], 4⟩, ⟨.int .i64 22, .func (.func 79) #[] #[], 5⟩] 6)) := run_put _ _ und_two w #[⟨.int .i64 16, .func (.func 69) #[] #[], 0⟩, ⟨.int .i64 17, .func (.func 70) #[] #[], 1⟩, ⟨.int .i64 18, .func (.func 73) #[] #[], 2⟩, ⟨.int .i64 19, .func (.func 75) #[] #[], 3⟩, ⟨.int .i64 20, .func (.func 77) #[] #[], 4⟩] 5 22 (by decide) _ rfl
  go_enter Tryd.func37, Tryd.ntmps37
  go_wp2
  go_ret
  exact ⟨rfl, rfl⟩

set_option maxHeartbeats 400000 in
theorem ofOne_any (w : World) :
    Calls Tryd.prog 35 #[] w fun e w' => e = .returned (.map (some w.heap.size)) ∧ w' = w.alloc (.map oneEs 3) := by
  have h0 := run_makeMap (P := Tryd.prog) 60 w
  have p0 : (Instr.mapUpdate 60 (.map (some w.heap.size)) (.int .i64 6) (.func (.func 58) #[] #[])).run Tryd.prog (w.alloc (.map #[] 0)) = .ok () (w.alloc (.map #[⟨.int .i64 6, .func (.func 58) #[] #[], 0⟩] 1)) := run_put _ _ und_one w #[] 0 6 (by decide) _ rfl
  have p1 : (Instr.mapUpdate 60 (.map (some w.heap.size)) (.int .i64 7) (.func (.func 59) #[] #[])).run Tryd.prog (w.alloc (.map #[⟨.int .i64 6, .func (.func 58) #[] #[], 0⟩] 1)) = .ok () (w.alloc (.map #[⟨.int .i64 6, .func (.func 58) #[] #[], 0⟩, ⟨.int .i64 7, .func (.func 59) #[] #[], 1⟩] 2)) := run_put _ _ und_one w #[⟨.int .i64 6, .func (.func 58) #[] #[], 0⟩] 1 7 (by decide) _ rfl
  have p2 : (Instr.mapUpdate 60 (.map (some w.heap.size)) (.int .i64 21) (.func (.func 60) #[] #[])).run Tryd.prog (w.alloc (.map #[⟨.int .i64 6, .func (.func 58) #[] #[], 0⟩, ⟨.int .i64 7, .func (.func 59) #[] #[], 1⟩] 2)) = .ok () (w.alloc (.map #[⟨.int .i64 6, .func (.func 58) #[] #[], 0⟩, ⟨.int .i64 7, .func (.func 59) #[] #[], 1⟩, ⟨.int .i64 21, .func (.func 60) #[] #[], 2⟩] 3)) := run_put _ _ und_one w #[⟨.int .i64 6, .func (.func 58) #[] #[], 0⟩, ⟨.int .i64 7, .func (.func 59) #[] #[], 1⟩] 2 21 (by decide) _ rfl
  go_enter Tryd.func35, Tryd.ntmps35
  go_wp2
  go_ret
  exact ⟨rfl, rfl⟩

end Go.Proofs.YthhflcdmicpcdaaDoor
