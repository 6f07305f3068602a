/- The maps of operations. -/
import Derived.Test.YtciibcfmlhbnkaaGreatDoorOrder
import Derived.Maps.Own
namespace Go.Proofs.YtciibcfmlhbnkaaGreatDoor
open Go.RowKit Go.Maps

theorem heap_new (w : World) (o : Obj) : (w.alloc o).heap[w.heap.size]? = some o := by
  show (w.heap.push o)[w.heap.size]? = _
  simp

theorem find_at (w : World) (k : Int) (es : List MapEntry) (r : Option (Nat × Value)) (h : Instr.findNow (.int .i64) (.int .i64 k) es 0 = some r) :
    (Instr.findKey 3 (.int .i64 k) es).run Tryz.prog w = .ok r w := by
  simp [Instr.findKey, run_underlying Tryz.underlying3, h, Result.andThen]

theorem check_at (w : World) (b : Bool) (k : Int) (hw : (Lit.int .i64 k).wf = true) : (Instr.checkKey b 10000 3 (.int .i64 k)).run Tryz.prog w = .ok () w :=
  (int_keyed Tryz.underlying3).check w b (keyOf_int_mk Tryz.underlying3 hw)

theorem set_new {α : Type} (a : Array α) (x y : α) : (a.push x).setIfInBounds a.size y = a.push y := by
  apply Array.ext
  · simp
  · intro i h1 h2
    simp only [Array.size_setIfInBounds, Array.size_push] at h1
    by_cases h : i = a.size
    · subst h; simp
    · have : i < a.size := by omega
      rw [Array.getElem_setIfInBounds_ne (by simp; omega) (Ne.symm h)]; simp [Array.getElem_push, this]

theorem run_put (t e : TypeId) (ht : Tryz.prog.underlying t = some (.map 3 e)) (w : World) (es : Array MapEntry) (clock : Nat) (k : Int) (hw : (Lit.int .i64 k).wf = true) (v : Value) (h : Instr.findNow (.int .i64) (.int .i64 k) es.toList 0 = some none) :
    (Instr.mapUpdate t (.map (some w.heap.size)) (.int .i64 k) v).run Tryz.prog (w.alloc (.map es clock)) =
      .ok () (w.alloc (.map (es.push { key := .int .i64 k, val := v, born := clock }) (clock + 1))) := by
  have hb := heap_new w (.map es clock)
  simp [Instr.mapUpdate, run_underlying ht, MapKept.run_getObj_map hb, check_at _ _ _ hw, find_at _ _ _ _ h, MapKept.run_setObj_map _ hb, Result.andThen]
  exact congrArg (fun hh => ({ heap := hh, tape := w.tape, drawn := w.drawn, os := w.os, output := w.output } : World)) (set_new w.heap _ _)

theorem run_look (t e : TypeId) (ht : Tryz.prog.underlying t = some (.map 3 e)) (w : World) (r : Nat) (es : Array MapEntry) (clock : Nat) (hb : w.heap[r]? = some (.map es clock)) (k : Int) (hw : (Lit.int .i64 k).wf = true) (i : Nat) (v : Value) (h : Instr.findNow (.int .i64) (.int .i64 k) es.toList 0 = some (some (i, v))) :
    (Instr.lookup t (.map (some r)) (.int .i64 k) true).run Tryz.prog w = .ok (.tuple #[v, .bool true]) w := by
  simp [Instr.lookup, run_underlying ht, MapKept.run_getObj_map hb, check_at _ _ _ hw, find_at _ _ _ _ h, Result.andThen]

theorem run_lookno (t e : TypeId) (ht : Tryz.prog.underlying t = some (.map 3 e)) (w : World) (z : Value) (hz : (zeroValue e).run Tryz.prog w = .ok z w) (r : Nat) (es : Array MapEntry) (clock : Nat) (hb : w.heap[r]? = some (.map es clock)) (k : Int) (hw : (Lit.int .i64 k).wf = true) (h : Instr.findNow (.int .i64) (.int .i64 k) es.toList 0 = some none) :
    (Instr.lookup t (.map (some r)) (.int .i64 k) true).run Tryz.prog w = .ok (.tuple #[z, .bool false]) w := by
  simp [Instr.lookup, run_underlying ht, MapKept.run_getObj_map hb, check_at _ _ _ hw, find_at _ _ _ _ h, hz, Result.andThen]

theorem zero_onTwo (w : World) : (zeroValue 79).run Tryz.prog w = .ok .nilFunc w := by kernel_rfl
theorem zero_onOne (w : World) : (zeroValue 74).run Tryz.prog w = .ok .nilFunc w := by kernel_rfl
theorem und_two : Tryz.prog.underlying 81 = some (.map 3 79) := by kernel_rfl
theorem und_one : Tryz.prog.underlying 76 = some (.map 3 74) := by kernel_rfl

abbrev fnV (f : Nat) : Value := .func (.func f) #[] #[]
def oneEs : Array MapEntry := #[⟨.int .i64 6, fnV 79, 0⟩, ⟨.int .i64 7, fnV 80, 1⟩, ⟨.int .i64 21, fnV 81, 2⟩]
def compEs : Array MapEntry := #[⟨.int .i64 10, fnV 82, 0⟩, ⟨.int .i64 11, fnV 84, 1⟩, ⟨.int .i64 12, fnV 85, 2⟩, ⟨.int .i64 13, fnV 87, 3⟩, ⟨.int .i64 14, fnV 88, 4⟩, ⟨.int .i64 15, fnV 89, 5⟩]
def reckEs : Array MapEntry := #[⟨.int .i64 16, fnV 90, 0⟩, ⟨.int .i64 17, fnV 91, 1⟩, ⟨.int .i64 18, fnV 94, 2⟩, ⟨.int .i64 19, fnV 96, 3⟩, ⟨.int .i64 20, fnV 98, 4⟩, ⟨.int .i64 22, fnV 100, 5⟩]

set_option maxHeartbeats 400000 in
theorem comparing_any (w : World) :
    Calls Tryz.prog 49 #[] w fun e w' => e = .returned (.map (some w.heap.size)) ∧ w' = w.alloc (.map compEs 6) := by
  have h0 := run_makeMap (P := Tryz.prog) 81 w
  have p0 : (Instr.mapUpdate 81 (.map (some w.heap.size)) (.int .i64 10) (.func (.func 82) #[] #[])).run Tryz.prog (w.alloc (.map #[] 0)) = .ok () (w.alloc (.map #[⟨.int .i64 10, .func (.func 82) #[] #[], 0⟩] 1)) := run_put _ _ und_two w #[] 0 10 (by decide) _ rfl
  have p1 : (Instr.mapUpdate 81 (.map (some w.heap.size)) (.int .i64 11) (.func (.func 84) #[] #[])).run Tryz.prog (w.alloc (.map #[⟨.int .i64 10, .func (.func 82) #[] #[], 0⟩] 1)) = .ok () (w.alloc (.map #[⟨.int .i64 10, .func (.func 82) #[] #[], 0⟩, ⟨.int .i64 11, .func (.func 84) #[] #[], 1⟩] 2)) := run_put _ _ und_two w #[⟨.int .i64 10, .func (.func 82) #[] #[], 0⟩] 1 11 (by decide) _ rfl
  have p2 : (Instr.mapUpdate 81 (.map (some w.heap.size)) (.int .i64 12) (.func (.func 85) #[] #[])).run Tryz.prog (w.alloc (.map #[⟨.int .i64 10, .func (.func 82) #[] #[], 0⟩, ⟨.int .i64 11, .func (.func 84) #[] #[], 1⟩] 2)) = .ok () (w.alloc (.map #[⟨.int .i64 10, .func (.func 82) #[] #[], 0⟩, ⟨.int .i64 11, .func (.func 84) #[] #[], 1⟩, ⟨.int .i64 12, .func (.func 85) #[] #[], 2⟩] 3)) := run_put _ _ und_two w #[⟨.int .i64 10, .func (.func 82) #[] #[], 0⟩, ⟨.int .i64 11, .func (.func 84) #[] #[], 1⟩] 2 12 (by decide) _ rfl
  have p3 : (Instr.mapUpdate 81 (.map (some w.heap.size)) (.int .i64 13) (.func (.func 87) #[] #[])).run Tryz.prog (w.alloc (.map #[⟨.int .i64 10, .func (.func 82) #[] #[], 0⟩, ⟨.int .i64 11, .func (.func 84) #[] #[], 1⟩, ⟨.int .i64 12, .func (.func 85) #[] #[], 2⟩] 3)) = .ok () (w.alloc (.map #[⟨.int .i64 10, .func (.func 82) #[] #[], 0⟩, ⟨.int .i64 11, .func (.func 84) #[] #[], 1⟩, ⟨.int .i64 12, .func (.func 85) #[] #[], 2⟩, ⟨.int .i64 13, .func (.func 87) #[] #[], 3⟩] 4)) := run_put _ _ und_two w #[⟨.int .i64 10, .func (.func 82) #[] #[], 0⟩, ⟨.int .i64 11, .func (.func 84) #[] #[], 1⟩, ⟨.int .i64 12, .func (.func 85) #[] #[], 2⟩] 3 13 (by decide) _ rfl
  have p4 : (Instr.mapUpdate 81 (.map (some w.heap.size)) (.int .i64 14) (.func (.func 88) #[] #[])).run Tryz.prog (w.alloc (.map #[⟨.int .i64 10, .func (.func 82) #[] #[], 0⟩, ⟨.int .i64 11, .func (.func 84) #[] #[], 1⟩, ⟨.int .i64 12, .func (.func 85) #[] #[], 2⟩, ⟨.int .i64 13, .func (.func 87) #[] #[], 3⟩] 4)) = .ok () (w.alloc (.map #[⟨.int .i64 10, .func (.func 82) #[] #[], 0⟩, ⟨.int .i64 11, .func (.func 84) #[] #[], 1⟩, ⟨.int .i64 12, .func (.func 85) #[] #[], 2⟩, ⟨.int .i64 13, .func (.func 87) #[] #[], 3⟩, ⟨.int .i64 14, .func (.func 88) #[] #[], 4⟩] 5)) := run_put _ _ und_two w #[⟨.int .i64 10, .func (.func 82) #[] #[], 0⟩, ⟨.int .i64 11, .func (.func 84) #[] #[], 1⟩, ⟨.int .i64 12, .func (.func 85) #[] #[], 2⟩, ⟨.int .i64 13, .func (.func 87) #[] #[], 3⟩] 4 14 (by decide) _ rfl
  have p5 : (Instr.mapUpdate 81 (.map (some w.heap.size)) (.int .i64 15) (.func (.func 89) #[] #[])).run Tryz.prog (w.alloc (.map #[⟨.int .i64 10, .func (.func 82) #[] #[], 0⟩, ⟨.int .i64 11, .func (.func 84) #[] #[], 1⟩, ⟨.int .i64 12, .func (.func 85) #[] #[], 2⟩, ⟨.int .i64 13, .func (.func 87) #[] #[], 3⟩, ⟨.int .i64 14, .func (.func 88) #[] #[], 4⟩] 5)) = .ok () (w.alloc (.map #[⟨.int .i64 10, .func (.func 82) #[] #[], 0⟩, ⟨.int .i64 11, .func (.func 84) #[] #[], 1⟩, ⟨.int .i64 12, .func (.func 85) #[] #[], 2⟩, ⟨.int .i64 13, .func (.func 87) #[] #[], 3⟩, ⟨.int .i64 14, .func (.func 88) #[] #[], 4⟩, ⟨.int .i64 15, .func (.func 89) #[] #[], 5⟩] 6)) := run_put _ _ und_two w #[⟨.int .i64 10, .func (.func 82) #[] #[], 0⟩, ⟨.int .i64 11, .func (.func 84) #[] #[], 1⟩, ⟨.int .i64 12, .func (.func 85) #[] #[], 2⟩, ⟨.int .i64 13, .func (.func 87) #[] #[], 3⟩, ⟨.int .i64 14, .func (.func 88) #[] #[], 4⟩] 5 15 (by decide) _ rfl
  go_enter Tryz.func49, Tryz.ntmps49
  go_wp2
  go_ret
  exact ⟨rfl, rfl⟩

set_option maxHeartbeats 400000 in
theorem reckoning_any (w : World) :
    Calls Tryz.prog 50 #[] w fun e w' => e = .returned (.map (some w.heap.size)) ∧ w' = w.alloc (.map reckEs 6) := by
  have h0 := run_makeMap (P := Tryz.prog) 81 w
  have p0 : (Instr.mapUpdate 81 (.map (some w.heap.size)) (.int .i64 16) (.func (.func 90) #[] #[])).run Tryz.prog (w.alloc (.map #[] 0)) = .ok () (w.alloc (.map #[⟨.int .i64 16, .func (.func 90) #[] #[], 0⟩] 1)) := run_put _ _ und_two w #[] 0 16 (by decide) _ rfl
  have p1 : (Instr.mapUpdate 81 (.map (some w.heap.size)) (.int .i64 17) (.func (.func 91) #[] #[])).run Tryz.prog (w.alloc (.map #[⟨.int .i64 16, .func (.func 90) #[] #[], 0⟩] 1)) = .ok () (w.alloc (.map #[⟨.int .i64 16, .func (.func 90) #[] #[], 0⟩, ⟨.int .i64 17, .func (.func 91) #[] #[], 1⟩] 2)) := run_put _ _ und_two w #[⟨.int .i64 16, .func (.func 90) #[] #[], 0⟩] 1 17 (by decide) _ rfl
  have p2 : (Instr.mapUpdate 81 (.map (some w.heap.size)) (.int .i64 18) (.func (.func 94) #[] #[])).run Tryz.prog (w.alloc (.map #[⟨.int .i64 16, .func (.func 90) #[] #[], 0⟩, ⟨.int .i64 17, .func (.func 91) #[] #[], 1⟩] 2)) = .ok () (w.alloc (.map #[⟨.int .i64 16, .func (.func 90) #[] #[], 0⟩, ⟨.int .i64 17, .func (.func 91) #[] #[], 1⟩, ⟨.int .i64 18, .func (.func 94) #[] #[], 2⟩] 3)) := run_put _ _ und_two w #[⟨.int .i64 16, .func (.func 90) #[] #[], 0⟩, ⟨.int .i64 17, .func (.func 91) #[] #[], 1⟩] 2 18 (by decide) _ rfl
  have p3 : (Instr.mapUpdate 81 (.map (some w.heap.size)) (.int .i64 19) (.func (.func 96) #[] #[])).run Tryz.prog (w.alloc (.map #[⟨.int .i64 16, .func (.func 90) #[] #[], 0⟩, ⟨.int .i64 17, .func (.func 91) #[] #[], 1⟩, ⟨.int .i64 18, .func (.func 94) #[] #[], 2⟩] 3)) = .ok () (w.alloc (.map #[⟨.int .i64 16, .func (.func 90) #[] #[], 0⟩, ⟨.int .i64 17, .func (.func 91) #[] #[], 1⟩, ⟨.int .i64 18, .func (.func 94) #[] #[], 2⟩, ⟨.int .i64 19, .func (.func 96) #[] #[], 3⟩] 4)) := run_put _ _ und_two w #[⟨.int .i64 16, .func (.func 90) #[] #[], 0⟩, ⟨.int .i64 17, .func (.func 91) #[] #[], 1⟩, ⟨.int .i64 18, .func (.func 94) #[] #[], 2⟩] 3 19 (by decide) _ rfl
  have p4 : (Instr.mapUpdate 81 (.map (some w.heap.size)) (.int .i64 20) (.func (.func 98) #[] #[])).run Tryz.prog (w.alloc (.map #[⟨.int .i64 16, .func (.func 90) #[] #[], 0⟩, ⟨.int .i64 17, .func (.func 91) #[] #[], 1⟩, ⟨.int .i64 18, .func (.func 94) #[] #[], 2⟩, ⟨.int .i64 19, .func (.func 96) #[] #[], 3⟩] 4)) = .ok () (w.alloc (.map #[⟨.int .i64 16, .func (.func 90) #[] #[], 0⟩, ⟨.int .i64 17, .func (.func 91) #[] #[], 1⟩, ⟨.int .i64 18, .func (.func 94) #[] #[], 2⟩, ⟨.int .i64 19, .func (.func 96) #[] #[], 3⟩, ⟨.int .i64 20, .func (.func 98) #[] #[], 4⟩] 5)) := run_put _ _ und_two w #[⟨.int .i64 16, .func (.func 90) #[] #[], 0⟩, ⟨.int .i64 17, .func (.func 91) #[] #[], 1⟩, ⟨.int .i64 18, .func (.func 94) #[] #[], 2⟩, ⟨.int .i64 19, .func (.func 96) #[] #[], 3⟩] 4 20 (by decide) _ rfl
  have p5 : (Instr.mapUpdate 81 (.map (some w.heap.size)) (.int .i64 22) (.func (.func 100) #[] #[])).run Tryz.prog (w.alloc (.map #[⟨.int .i64 16, .func (.func 90) #[] #[], 0⟩, ⟨.int .i64 17, .func (.func 91) #[] #[], 1⟩, ⟨.int .i64 18, .func (.func 94) #[] #[], 2⟩, ⟨.int .i64 19, .func (.func 96) #[] #[], 3⟩, ⟨.int .i64 20, .func (.func 98) #[] #[], 4⟩] 5)) = .ok () (w.alloc (.map #[⟨.int .i64 16, .func (.func 90) #[] #[], 0⟩, ⟨.int .i64 17, .func (.func 91) #[] #[], 1⟩, ⟨.int .i64 18, .func (.func 94) #[] #[], 2⟩, ⟨.int .i64 19, .func (.func 96) #[] #[], 3⟩, ⟨.int .i64 20, .func (.func 98) #[] #[], 4⟩, ⟨.int .i64 22, .func (.func 100) #[] #[], 5⟩] 6)) := run_put _ _ und_two w #[⟨.int .i64 16, .func (.func 90) #[] #[], 0⟩, ⟨.int .i64 17, .func (.func 91) #[] #[], 1⟩, ⟨.int .i64 18, .func (.func 94) #[] #[], 2⟩, ⟨.int .i64 19, .func (.func 96) #[] #[], 3⟩, ⟨.int .i64 20, .func (.func 98) #[] #[], 4⟩] 5 22 (by decide) _ rfl
  go_enter Tryz.func50, Tryz.ntmps50
  go_wp2
  go_ret
  exact ⟨rfl, rfl⟩

set_option maxHeartbeats 400000 in
theorem ofOne_any (w : World) :
    Calls Tryz.prog 48 #[] w fun e w' => e = .returned (.map (some w.heap.size)) ∧ w' = w.alloc (.map oneEs 3) := by
  have h0 := run_makeMap (P := Tryz.prog) 76 w
  have p0 : (Instr.mapUpdate 76 (.map (some w.heap.size)) (.int .i64 6) (.func (.func 79) #[] #[])).run Tryz.prog (w.alloc (.map #[] 0)) = .ok () (w.alloc (.map #[⟨.int .i64 6, .func (.func 79) #[] #[], 0⟩] 1)) := run_put _ _ und_one w #[] 0 6 (by decide) _ rfl
  have p1 : (Instr.mapUpdate 76 (.map (some w.heap.size)) (.int .i64 7) (.func (.func 80) #[] #[])).run Tryz.prog (w.alloc (.map #[⟨.int .i64 6, .func (.func 79) #[] #[], 0⟩] 1)) = .ok () (w.alloc (.map #[⟨.int .i64 6, .func (.func 79) #[] #[], 0⟩, ⟨.int .i64 7, .func (.func 80) #[] #[], 1⟩] 2)) := run_put _ _ und_one w #[⟨.int .i64 6, .func (.func 79) #[] #[], 0⟩] 1 7 (by decide) _ rfl
  have p2 : (Instr.mapUpdate 76 (.map (some w.heap.size)) (.int .i64 21) (.func (.func 81) #[] #[])).run Tryz.prog (w.alloc (.map #[⟨.int .i64 6, .func (.func 79) #[] #[], 0⟩, ⟨.int .i64 7, .func (.func 80) #[] #[], 1⟩] 2)) = .ok () (w.alloc (.map #[⟨.int .i64 6, .func (.func 79) #[] #[], 0⟩, ⟨.int .i64 7, .func (.func 80) #[] #[], 1⟩, ⟨.int .i64 21, .func (.func 81) #[] #[], 2⟩] 3)) := run_put _ _ und_one w #[⟨.int .i64 6, .func (.func 79) #[] #[], 0⟩, ⟨.int .i64 7, .func (.func 80) #[] #[], 1⟩] 2 21 (by decide) _ rfl
  go_enter Tryz.func48, Tryz.ntmps48
  go_wp2
  go_ret
  exact ⟨rfl, rfl⟩

end Go.Proofs.YtciibcfmlhbnkaaGreatDoor
