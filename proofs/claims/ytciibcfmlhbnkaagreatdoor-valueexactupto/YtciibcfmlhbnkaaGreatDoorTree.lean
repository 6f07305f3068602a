/- Values as trees, and where they lie in memory. -/
import Derived.Test.YtciibcfmlhbnkaaGreatDoorSmall
namespace Go.RowKit
theorem Below.via {a b c : World} (h : Below b.heap.size b c) (k : Below a.heap.size a b) : Below a.heap.size a c := k.trans (h.mono k.size)
theorem Below.size1 {w w' : World} {o : Obj} {B : Nat} (h : Below B (w.alloc o) w') : w.heap.size + 1 ≤ w'.heap.size := by
  have := h.size
  simpa using this
end Go.RowKit
namespace Go.Proofs.YtciibcfmlhbnkaaGreatDoor
open Go.RowKit

structure Tr where
  k : Int
  b : Bool
  i : Int
  s : ByteArray
  l : List Tr

def Tr.wf (t : Tr) : Prop := -9223372036854775808 ≤ t.k ∧ t.k ≤ 9223372036854775807 ∧ -9223372036854775808 ≤ t.i ∧ t.i ≤ 9223372036854775807 ∧ t.s.size ≤ maxLen

/-- The five cells of a value whose list is 'sv'. -/
def Cel (w : World) (b o : Nat) (t : Tr) (sv : Value) : Prop :=
  w.cell? ⟨b, o, none⟩ = some (.int .i64 t.k) ∧ w.cell? ⟨b, o + 1, none⟩ = some (.bool t.b) ∧ w.cell? ⟨b, o + 2, none⟩ = some (.int .i64 t.i) ∧ w.cell? ⟨b, o + 3, none⟩ = some (.string t.s) ∧ w.cell? ⟨b, o + 4, none⟩ = some sv

def vv (t : Tr) (sv : Value) : Value := .agg #[.int .i64 t.k, .bool t.b, .int .i64 t.i, .string t.s, sv]

/-- A slice of values. -/
def Lv (w : World) (R : Tr → Value → Prop) (ts : List Tr) (sv : Value) : Prop :=
  ∃ (a0 : Option Addr) (cap : Nat), sv = .slice a0 ts.length cap ∧ ts.length ≤ cap ∧ cap ≤ maxLen ∧
    (0 < ts.length → ∃ b o, a0 = some ⟨b, o, none⟩ ∧ ∀ j (h : j < ts.length), ∃ sv', Cel w b (o + j * 5) ts[j] sv' ∧ R ts[j] sv')

def Vs (w : World) : Nat → Tr → Value → Prop
  | 0, _, _ => False
  | n + 1, t, sv => t.wf ∧ Lv w (Vs w n) t.l sv

theorem cell_lt {w : World} {b o : Nat} {v : Value} (h : w.cell? ⟨b, o, none⟩ = some v) : b < w.heap.size := by
  unfold World.cell? at h
  by_cases hh : b < w.heap.size
  · exact hh
  · simp [Array.getElem?_eq_none (Nat.le_of_not_lt hh)] at h

theorem bcell {W w1 : World} (hb : Below W.heap.size W w1) {N : Nat} (hN : W.heap.size = N) : (∀ b o, b < N → w1.cell? ⟨b, o, none⟩ = W.cell? ⟨b, o, none⟩) ∧ (∀ b o, b < N → w1.frozen? ⟨b, o, none⟩ = W.frozen? ⟨b, o, none⟩) := by
  subst hN
  exact ⟨fun b o h => hb.cell (p := ⟨b, o, none⟩) h, fun b o h => hb.frozen (p := ⟨b, o, none⟩) h⟩

theorem below_set5 {B b : Nat} {a w : World} (h : Below B a w) (hB : B ≤ b) (v0 v1 v2 v3 v4 : Value) :
    Below B a (((((w.setCell ⟨b, 0, none⟩ v0).setCell ⟨b, 1, none⟩ v1).setCell ⟨b, 2, none⟩ v2).setCell ⟨b, 3, none⟩ v3).setCell ⟨b, 4, none⟩ v4) :=
  ((((h.setCell (p := ⟨b, 0, none⟩) hB v0).setCell (p := ⟨b, 1, none⟩) hB v1).setCell (p := ⟨b, 2, none⟩) hB v2).setCell (p := ⟨b, 3, none⟩) hB v3).setCell (p := ⟨b, 4, none⟩) hB v4

theorem below_al {a w : World} (h : Below a.heap.size a w) (o : Obj) : Below a.heap.size a (w.alloc o) := h.alloc h.size o

theorem Cel.below {w w' : World} {b o : Nat} {t : Tr} {sv : Value} (h : Cel w b o t sv) (hb : Below w.heap.size w w') : Cel w' b o t sv := by
  have hlt : b < w.heap.size := cell_lt h.1
  unfold Cel at *
  rw [hb.cell (p := ⟨b, o, none⟩) hlt, hb.cell (p := ⟨b, o + 1, none⟩) hlt, hb.cell (p := ⟨b, o + 2, none⟩) hlt, hb.cell (p := ⟨b, o + 3, none⟩) hlt, hb.cell (p := ⟨b, o + 4, none⟩) hlt]
  exact h

theorem Lv.mono {w w' : World} {R R' : Tr → Value → Prop} {ts : List Tr} {sv : Value} (h : Lv w R ts sv) (hb : Below w.heap.size w w') (hr : ∀ t v, R t v → R' t v) : Lv w' R' ts sv := by
  obtain ⟨a0, cap, h1, h2, h3, h4⟩ := h
  refine ⟨a0, cap, h1, h2, h3, fun h0 => ?_⟩
  obtain ⟨b, o, e, h5⟩ := h4 h0
  refine ⟨b, o, e, fun j hj => ?_⟩
  obtain ⟨sv', h6, h7⟩ := h5 j hj
  exact ⟨sv', h6.below hb, hr _ _ h7⟩

theorem Vs.below {w w' : World} (hb : Below w.heap.size w w') : ∀ (n : Nat) (t : Tr) (sv : Value), Vs w n t sv → Vs w' n t sv
  | 0, _, _, h => h
  | n + 1, _, _, h => ⟨h.1, h.2.mono hb (fun t v => Vs.below hb n t v)⟩

theorem Vs.form {w : World} : ∀ {n : Nat} {t : Tr} {sv : Value}, Vs w n t sv → ∃ a c, sv = .slice a t.l.length c ∧ t.l.length ≤ c ∧ c ≤ 9223372036854775807
  | 0, _, _, h => h.elim
  | _ + 1, _, _, h => by
    obtain ⟨a, c, h1, h2, h3, _⟩ := h.2
    exact ⟨a, c, h1, h2, h3⟩

theorem Vs.wf {w : World} : ∀ {n : Nat} {t : Tr} {sv : Value}, Vs w n t sv → t.wf
  | 0, _, _, h => h.elim
  | _ + 1, _, _, h => h.1

def ordL (f : Tr → Tr → Int) : List Tr → List Tr → Int
  | [], [] => 0
  | [], _ :: _ => -1
  | _ :: _, [] => 1
  | x :: xs, y :: ys => if f x y = 0 then ordL f xs ys else f x y

def ord : Nat → Tr → Tr → Int
  | 0, _, _ => 0
  | n + 1, a, b =>
    if a.k = b.k then
      if a.k = 0 then 0
      else if a.k = 1 then cmpI (bitI a.b) (bitI b.b)
      else if a.k = 2 then cmpI a.i b.i
      else if a.k = 5 then cmpI a.i b.i
      else if a.k = 4 then ordL (ord n) a.l b.l
      else cmpS a.s b.s
    else cmpI a.k b.k
end Go.Proofs.YtciibcfmlhbnkaaGreatDoor
