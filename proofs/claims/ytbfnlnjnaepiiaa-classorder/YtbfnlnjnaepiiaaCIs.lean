/- Is: what it tells. -/
import Derived.RangeFuncFrom
import Derived.RangeFuncLeaves
import Derived.RangeFuncCalls
import Derived.Shelf.Abstract
import Derived.WalkKit
import Derived.OwnWalkIn
import Derived.TacticsInMore
import Derived.LoopNIn
import Derived.LoopIn
import Derived.Test.YtbfnlnjnaepiiaaCUp
namespace Go.Proofs.Ytbfnlnjnaepiiaa
open Go.RowKit Go.Shelf Go.Maps

attribute [local go_sem] Oper.semAt_some

/-- How many are still to come. -/
def upLen (T : List Cl) : Value → Nat
  | .string x => (upT T x).length
  | _ => 0

set_option maxRecDepth 100000 in
set_option maxHeartbeats 2000000 in
theorem up1_in {P : Nat → Prop} (n : Nat) (hn : 1 ≤ n) (l Bx Bt g : Nat) (T : List Cl) (hw : WfT T) (x : ByteArray) (w : World) (J Jx : List ByteArray → World → Prop)
    (hJ : ∀ s A B, J s A → A.grownBy B none → J s B)
    (hY : ∀ pre z W, J pre W → pre.length < (upT T x).length → YieldAt Fence.wide (n - 1) Try.prog l #[.string z] W fun e W' =>
      (e = .returned (.bool true) ∧ J (pre ++ [z]) W' ∧ Below w.heap.size W W') ∨ (e = .returned (.bool false) ∧ Jx (pre ++ [z]) W'))
    (hx : w.cell? ⟨Bx, 0, none⟩ = some (.string x)) (ht : w.cell? ⟨Bt, 0, none⟩ = some (.pointer (some ⟨g, 0, none⟩))) (hT : Tab P w g T) (W : World) (hW : Below w.heap.size w W) (h0 : J [] W) :
    CallsIn Fence.wide n Try.prog 49 #[.func (.yield l) #[] #[], .pointer (some ⟨Bx, 0, none⟩), .pointer (some ⟨Bt, 0, none⟩)] W fun e W' => (∃ v, e = .returned v) ∧
      ((∃ ys, ys = upT T x ∧ J ys W') ∨ (∃ pre, pre <+: upT T x ∧ Jx pre W')) := by
  have HT := Hid.intro hT
  have hxW := (hW.cell (p := ⟨Bx, 0, none⟩) (cell_lt hx)).trans hx
  refine callsIn_of_wp Try.func49 rfl trivial ?_ rfl
  simp only [Try.ntmps49, List.size_toArray, List.length_cons, List.length_nil, Nat.reduceAdd, Nat.reduceSub, Array.replicate_succ, Array.replicate_zero, List.push_toArray, List.append_toArray, List.nil_append, List.cons_append]
  gi_wp2
  gi_loopw [4] (fun v wr => ∃ (pre : List ByteArray) (at_ : ByteArray), v = .string at_ ∧ upT T x = pre ++ upT T at_ ∧ Hid (Below w.heap.size w wr) ∧ J pre wr) (fun v wr => upLen T v)
  case atStart => exact ⟨[], x, rfl, rfl, hW, h0⟩
  case round =>
    obtain ⟨pre, y, rfl, hx, HB, hJs⟩ := hrel
    have hTr := HT.out.below HB.out
    have HC := Hid.intro (has_ex hTr y)
    have ht1 := (HB.out.cell (p := ⟨Bt, 0, none⟩) (cell_lt ht)).trans ht
    rw [hasT_find] at HC
    cases hf : findT T y with
    | none =>
      rw [hf] at HC
      have hu := upT_no hf
      gi_wp2_with (refine ⟨trivial, ?_⟩; gi_at_call 24; refine (callsIn_wide.2 HC.out).mono ?_; rintro e w1 ⟨rfl, v1, v2, rfl⟩)
      refine ⟨fun _ h => (by cases h), ?_⟩
      gi_wp2
      go_end0
      exact ⟨⟨_, rfl⟩, .inl ⟨pre, by rw [hx, hu, List.append_nil], hJ _ _ _ hJs (World.grownBy_alloc _ _ none)⟩⟩
    | some c =>
      rw [hf] at HC
      have hu := upT_yes hw hf
      have hlen : pre.length < (upT T x).length := by rw [hx, hu]; simp
      gi_wp2_with (refine ⟨trivial, ?_⟩; gi_at_call 24; refine (callsIn_wide.2 HC.out).mono ?_; rintro e w1 ⟨rfl, v1, v2, rfl⟩; obtain ⟨fn, tmps, assign, body, hy, hR⟩ := hY pre y (wr.alloc (.cells #[v1, v2] 88)) (hJ _ _ _ hJs (World.grownBy_alloc _ _ none)) hlen)
      refine hR.mono ?_
      rintro e W3 (⟨rfl, hJ3, hk3⟩ | ⟨rfl, hJx3⟩)
      · have HB3 := Hid.intro ((HB.out.alloc HB.out.size _).trans hk3)
        obtain ⟨r, es, clock, osv, h1, h2, h3, h4, -⟩ := HT.out.below HB3.out
        have ht3 := (HB3.out.cell (p := ⟨Bt, 0, none⟩) (cell_lt ht)).trans ht
        rcases h4.find y 0 with ⟨f1, -⟩ | ⟨c', i, sv, f1, -, fv, f2⟩
        · rw [hf] at f1; cases f1
        · obtain rfl : c = c' := by rw [hf] at f1; cases f1; rfl
          have L := look_yes W3 r es clock h3 y i _ f2 false
          simp only [Bool.false_eq_true, if_false] at L
          obtain ⟨a, m, rfl, -, -⟩ := fv.form
          have F0 := field_super W3 c.s a c.f.length m
          gi_wp2
          go_roundw
          case rel => exact ⟨pre ++ [y], c.s, rfl, by rw [hx, hu]; simp, HB3, hJ3⟩
          case measure => simp [upLen, hu]
      · gi_wp2
        go_end0
        exact ⟨⟨_, rfl⟩, .inr ⟨pre ++ [y], ⟨upT T c.s, by rw [hx, hu]; simp⟩, hJx3⟩⟩

set_option maxHeartbeats 1000000 in
theorem up_in (n : Nat) (g : Nat) (x : ByteArray) (w : World) :
    CallsIn Fence.wide n Try.prog 38 #[.pointer (some ⟨g, 0, none⟩), .string x] w fun e w' => e = .returned (.func (.func 49) #[] #[.pointer (some ⟨w.heap.size + 1, 0, none⟩), .pointer (some ⟨w.heap.size, 0, none⟩)]) ∧ w' = (w.alloc (.cells #[.pointer (some ⟨g, 0, none⟩)] 29)).alloc (.cells #[.string x] 9) := by
  refine callsIn_of_wp Try.func38 rfl trivial ?_ rfl
  simp only [Try.ntmps38, List.size_toArray, List.length_cons, List.length_nil, Nat.reduceAdd, Nat.reduceSub, Array.replicate_succ, Array.replicate_zero, List.push_toArray, List.append_toArray, List.nil_append, List.cons_append]
  gi_wp2
  go_ret
  exact ⟨rfl, rfl⟩

theorem up_stops {P : Nat → Prop} (n : Nat) (hn : 1 ≤ n) (Bx Bt g : Nat) (T : List Cl) (hw : WfT T) (x : ByteArray) (w : World)
    (hx : w.cell? ⟨Bx, 0, none⟩ = some (.string x)) (ht : w.cell? ⟨Bt, 0, none⟩ = some (.pointer (some ⟨g, 0, none⟩))) (hT : Tab P w g T) :
    SeqStopsK Fence.wide n Try.prog 49 #[.pointer (some ⟨Bx, 0, none⟩), .pointer (some ⟨Bt, 0, none⟩)] (fun z : ByteArray => #[Value.string z]) (Below w.heap.size) (fun ys => ys = upT T x) (fun pre => pre <+: upT T x) (upT T x).length w := fun l J Jx W hW hJ _ hY h0 =>
  up1_in n hn l Bx Bt g T hw x w J Jx (fun s A B hs hg => hJ s A B none hs hg (fun r e => by cases e)) hY hx ht hT W hW h0

theorem cell_of_box_l {W : World} {B : Nat} {v : Value} {t : TypeId} (h : W.heap[B]? = some (.cells #[v] t (0, 0))) : W.cell? ⟨B, 0, none⟩ = some v ∧ W.frozen? ⟨B, 0, none⟩ = false := by
  constructor <;> simp [World.cell?, World.frozen?, h]
theorem cell_new_l (W : World) (v : Value) (t : TypeId) : (W.alloc (.cells #[v] t)).cell? ⟨W.heap.size, 0, none⟩ = some v ∧ (W.alloc (.cells #[v] t)).frozen? ⟨W.heap.size, 0, none⟩ = false :=
  cell_of_box_l (World.alloc_heap_new W _)
theorem cell_alloc_l {W : World} {a : Addr} {v : Value} (o : Obj) (h : W.cell? a = some v) : (W.alloc o).cell? a = some v := cell_kept h (World.grownBy_alloc W o none) (fun r e => by cases e)
theorem frozen_alloc_l {W : World} {a : Addr} {v : Value} (o : Obj) (h : W.cell? a = some v) (hf : W.frozen? a = false) : (W.alloc o).frozen? a = false := (frozen_kept h (World.grownBy_alloc W o none) (fun r e => by cases e)).trans hf

set_option maxRecDepth 100000 in
set_option maxHeartbeats 2000000 in
theorem is_in {P : Nat → Prop} (n : Nat) (hn : 3 ≤ n) (g : Nat) (T : List Cl) (hw : WfT T) (x y : ByteArray) (w : World) (hT : Tab P w g T) :
    CallsIn Fence.wide n Try.prog 14 #[.pointer (some ⟨g, 0, none⟩), .string x, .string y] w fun e W' => e = .returned (.bool (isT T x y)) ∧ Below w.heap.size w W' := by
  have h1 : 1 ≤ n := by omega
  refine callsIn_of_wp_marks Try.func14 rfl trivial ?_ rfl
  simp only [Try.ntmps14, List.size_toArray, List.length_cons, List.length_nil, Nat.reduceAdd, Nat.reduceSub, Array.replicate_succ, Array.replicate_zero, List.push_toArray, List.append_toArray, List.nil_append, List.cons_append]
  gi_wp2_with (refine ⟨trivial, ?_⟩; gi_at_call 38; refine (up_in (n - 1) g x _).mono ?_; rintro e w' ⟨rfl, rfl⟩)
  have c0 := cell_new_l w (.string y) 9
  have c1 := cell_new_l (w.alloc (.cells #[.string y] 9)) (.bool false) 4
  have c2 := cell_new_l ((w.alloc (.cells #[.string y] 9)).alloc (.cells #[.bool false] 4)) (.pointer (some ⟨g, 0, none⟩)) 29
  have c3 := cell_new_l (((w.alloc (.cells #[.string y] 9)).alloc (.cells #[.bool false] 4)).alloc (.cells #[.pointer (some ⟨g, 0, none⟩)] 29)) (.string x) 9
  simp only [World.size_alloc] at c1 c2 c3
  have hB0 : Below w.heap.size w ((((w.alloc (.cells #[.string y] 9)).alloc (.cells #[.bool false] 4)).alloc (.cells #[.pointer (some ⟨g, 0, none⟩)] 29)).alloc (.cells #[.string x] 9)) := below_al (below_al (below_al (below_al (Below.refl _ _) _) _) _) _
  refine wpIn_rangeFunc_ownF rfl h1 (gf := 49) (lb := #[.pointer (some ⟨w.heap.size + 1 + 1 + 1, 0, none⟩), .pointer (some ⟨w.heap.size + 1 + 1, 0, none⟩)]) rfl trivial (enters_of Try.func49 (by kernel_rfl) rfl)
    (up_stops (n - 1) (by omega) (w.heap.size + 1 + 1 + 1) (w.heap.size + 1 + 1) g T hw x _ c3.1 (cell_alloc_l _ c2.1) (hT.below hB0)) belowK_t (belowK_b (Nat.le_refl _)) (Below.refl _ _) (fun _ => rfl)
    (fun pre W => ((∀ z ∈ pre, eqS z y = false) ∧ W.cell? ⟨w.heap.size, 0, none⟩ = some (.string y) ∧ W.cell? ⟨w.heap.size + 1, 0, none⟩ = some (.bool false) ∧ W.frozen? ⟨w.heap.size + 1, 0, none⟩ = false) ∧ Below w.heap.size w W)
    (fun c pre W => (c = .ret ∧ (∃ z ∈ pre, eqS z y = true) ∧ W.cell? ⟨w.heap.size + 1, 0, none⟩ = some (.bool true)) ∧ Below w.heap.size w W)
    (OwnFrom.and (Own.from (fun s A B row hs hg hr => ⟨hs.1, cell_kept hs.2.1 hg hr, cell_kept hs.2.2.1 hg hr, (frozen_kept hs.2.2.1 hg hr).trans hs.2.2.2⟩) _) (ownFrom_below (Nat.le_refl _) (by simp; omega)))
    (fun c => OwnFrom.and (Own.from (fun s A B row hs hg hr => ⟨hs.1, hs.2.1, cell_kept hs.2.2 hg hr⟩) _) (ownFrom_below (Nat.le_refl _) (by simp; omega)))
    ⟨⟨by simp, cell_alloc_l _ (cell_alloc_l _ (cell_alloc_l _ c0.1)), cell_alloc_l _ (cell_alloc_l _ c1.1), frozen_alloc_l _ (cell_alloc_l _ c1.1) (frozen_alloc_l _ c1.1 c1.2)⟩, hB0⟩
    (fun z => { tmps := #[.pointer (some ⟨g, 0, none⟩), .string x, .string y, undef, undef, .pointer (some ⟨w.heap.size, 0, none⟩), .pointer (some ⟨w.heap.size + 1, 0, none⟩), .string z, .pointer (some ⟨g, 0, none⟩), .string x, .func (.func 49) #[] #[.pointer (some ⟨w.heap.size + 1 + 1 + 1, 0, none⟩), .pointer (some ⟨w.heap.size + 1 + 1, 0, none⟩)], .string z, undef, undef, undef], defers := [] }) ?assign ?body ?done ?stop
  case assign =>
    intro l x W K hK
    gi_wp2
    exact hK
  case body =>
    rintro l pre z W ⟨⟨hp, hcw, hcr, hfr⟩, hB⟩ _
    gi_wp2
    · rename_i hx
      exact ⟨KeepsOthers.setCell _ _ _, ⟨rfl, ⟨z, List.mem_append.2 (.inr (by simp)), hx⟩, World.cell?_setCell_same' _ _ _ (by rw [hcr]; rfl)⟩, hB.setCell (p := ⟨w.heap.size + 1, 0, none⟩) (by simp) _⟩
    · rename_i hx
      exact ⟨KeepsOthers.refl _, Below.refl _ _, ⟨fun z' hz => (List.mem_append.1 hz).elim (hp z') (fun e => by simp at e; subst e; exact hx), hcw, hcr, hfr⟩, hB⟩
  case done =>
    rintro D ys W hD rfl ⟨⟨hne, _, hcr, hfr⟩, hB⟩ hK
    gi_wp2
    have hK' := (KeepsOthers.setCell W ⟨w.heap.size + 1, 0, none⟩ (.bool false)).same D _ hK rfl
    refine ⟨by simp, .inl ⟨_, _, rfl, run_takeDeferred hK', ?_⟩⟩
    have hc5 := cell_kept (World.cell?_setCell_same' W ⟨w.heap.size + 1, 0, none⟩ (.bool false) (by rw [hcr]; rfl)) (grownBy_putObj' _ D (.deferred none)) (fun r e => by cases e; exact ⟨_, hK', rfl⟩)
    have hi : isT T x y = false := by unfold isT; rw [List.any_eq_false]; intro z hz; rw [hne z hz]; simp
    refine ⟨.bool false, ?_, by rw [hi], (hB.setCell (p := ⟨w.heap.size + 1, 0, none⟩) (by simp) _).trans (belowK_b (w := w) (Nat.le_refl _) _ D _ _ (by simp at hD; omega) hK' rfl rfl)⟩
    simp [results, Try.f14, go_sem, hc5]
  case stop =>
    rintro D c pre W hD hpre ⟨⟨rfl, hin, hcr⟩, hB⟩ hK
    gi_wp2
    refine ⟨by simp, .inl ⟨_, _, rfl, run_takeDeferred hK, ?_⟩⟩
    have hc5 := cell_kept hcr (grownBy_putObj' _ D (.deferred none)) (fun r e => by cases e; exact ⟨_, hK, rfl⟩)
    have hi : isT T x y = true := by unfold isT; rw [List.any_eq_true]; obtain ⟨z, hz, h⟩ := hin; exact ⟨z, hpre.subset hz, h⟩
    refine ⟨.bool true, ?_, by rw [hi], hB.trans (belowK_b (w := w) (Nat.le_refl _) W D _ _ (by simp at hD; omega) hK rfl rfl)⟩
    simp [results, Try.f14, go_sem, hc5]

theorem is_any {P : Nat → Prop} {w : World} {g : Nat} {T : List Cl} (hT : Tab P w g T) (hw : WfT T) (x y : ByteArray) :
    Calls Try.prog 14 #[.pointer (some ⟨g, 0, none⟩), .string x, .string y] w fun e w' => e = .returned (.bool (isT T x y)) ∧ Below w.heap.size w w' :=
  callsIn_wide.1 (is_in 3 (Nat.le_refl _) g T hw x y w hT)
end Go.Proofs.Ytbfnlnjnaepiiaa
