import Derived.Test.YtoeodjobggodcaaGreatDoorRows
import Derived.WalkKit
import Derived.WalkLawsBesides
import Derived.OwnWalk
import Derived.Maps.AppendAt
import Derived.WalkSpells
import Derived.WalkMore
import Derived.Scope
import Derived.Deep.DeepCutAuto
import Derived.Lib.Bytealg
import Derived.Lib.UnsafeStr
import Derived.Lib.Strings
import Derived.Lib.Walk
import Derived.Lib.BufferWrite
import Derived.Laws.MakeOwn
import Derived.Deep.AppendLies
import Derived.Laws.OwnMore
import Derived.Laws.IdiomStrings
/- What is read or made: cells, and slices of cells, wherever they lie. -/
namespace Go.Proofs.YtoeodjobggodcaaGreatDoor
section
open Go.RowKit
inductive Dt where
 | lit (v : Value)
 | sl (m : Nat) (ds : List Dt)
mutual
def rep (P : Nat → Prop) (w : World) : Dt → Value → Prop
 | .lit x, v => v = x ∧ x.oneCell' = true
 | .sl m ds, v => ∃ a0 cap vs, v = .slice a0 m cap ∧ m ≤ cap ∧ cap ≤ maxLen ∧ reps P w ds vs ∧ (m = 0 → ds = []) ∧
   (0 < m → ∃ b o, a0 = some ⟨b, o, none⟩ ∧ P b ∧ b < w.heap.size ∧ ∀ j u, vs[j]? = some u → w.cell? ⟨b, o + j, none⟩ = some u)
def reps (P : Nat → Prop) (w : World) : List Dt → List Value → Prop
 | [], vs => vs = []
 | d :: ds, vs => ∃ v vs', vs = v :: vs' ∧ rep P w d v ∧ reps P w ds vs'
end
def Kp (P : Nat → Prop) (w w' : World) : Prop := w.heap.size ≤ w'.heap.size ∧ ∀ b, P b → b < w.heap.size → ∀ o, w'.cell? ⟨b, o, none⟩ = w.cell? ⟨b, o, none⟩
mutual
theorem rep.move {P Q : Nat → Prop} {w w' : World} (hk : Kp P w w') (hpq : ∀ b, b < w.heap.size → P b → Q b) : ∀ (d : Dt) (v : Value), rep P w d v → rep Q w' d v
 | .lit x, v, h => by simp only [rep] at *; exact h
 | .sl m ds, v, h => by
  simp only [rep] at *
  obtain ⟨a0, cap, vs, h1, h2, h3, h4, h5, h6⟩ := h
  refine ⟨a0, cap, vs, h1, h2, h3, reps.move hk hpq ds vs h4, h5, fun h0 => ?_⟩
  obtain ⟨b, o, e, hp, hlt, hc⟩ := h6 h0
  exact ⟨b, o, e, hpq b hlt hp, Nat.lt_of_lt_of_le hlt hk.1, fun j u hj => (hk.2 b hp hlt _).trans (hc j u hj)⟩
theorem reps.move {P Q : Nat → Prop} {w w' : World} (hk : Kp P w w') (hpq : ∀ b, b < w.heap.size → P b → Q b) : ∀ (ds : List Dt) (vs : List Value), reps P w ds vs → reps Q w' ds vs
 | [], vs, h => by simp only [reps] at *; exact h
 | d :: ds, vs, h => by
  simp only [reps] at *
  obtain ⟨v, vs', h1, h2, h3⟩ := h
  exact ⟨v, vs', h1, rep.move hk hpq d v h2, reps.move hk hpq ds vs' h3⟩
end
theorem reps.length {P : Nat → Prop} {w : World} : ∀ {ds : List Dt} {vs : List Value}, reps P w ds vs → vs.length = ds.length
 | [], vs, h => by simp only [reps] at h; subst h; rfl
 | d :: ds, vs, h => by
  simp only [reps] at h
  obtain ⟨v, vs', rfl, h2, h3⟩ := h
  simp [reps.length h3]
theorem rep.one {P : Nat → Prop} {w : World} : ∀ {d : Dt} {v : Value}, rep P w d v → v.oneCell' = true
 | .lit x, v, h => by simp only [rep] at h; obtain ⟨rfl, h⟩ := h; exact h
 | .sl m ds, v, h => by
  simp only [rep] at h
  obtain ⟨a0, cap, vs, rfl, -⟩ := h
  rfl
theorem reps.ones {P : Nat → Prop} {w : World} : ∀ {ds : List Dt} {vs : List Value}, reps P w ds vs → ∀ u ∈ vs, u.oneCell' = true
 | [], vs, h => by simp only [reps] at h; subst h; simp
 | d :: ds, vs, h => by
  simp only [reps] at h
  obtain ⟨v, vs', rfl, h2, h3⟩ := h
  intro u hu
  rcases List.mem_cons.1 hu with rfl | hu
  ·exact rep.one h2
  ·exact reps.ones h3 u hu
theorem reps.nil {P : Nat → Prop} {w : World} : reps P w [] [] := by simp [reps]
theorem reps.cons {P : Nat → Prop} {w : World} {d : Dt} {ds : List Dt} {v : Value} {vs : List Value} (h : rep P w d v) (k : reps P w ds vs) : reps P w (d :: ds) (v :: vs) := by
 simp only [reps]; exact ⟨v, vs, rfl, h, k⟩
theorem reps.append {P : Nat → Prop} {w : World} : ∀ {ds es : List Dt} {vs us : List Value}, reps P w ds vs → reps P w es us → reps P w (ds ++ es) (vs ++ us)
 | [], es, vs, us, h, k => by simp only [reps] at h; subst h; exact k
 | d :: ds, es, vs, us, h, k => by
  simp only [reps] at h
  obtain ⟨v, vs', rfl, h2, h3⟩ := h
  exact reps.cons h2 (reps.append h3 k)
theorem reps.split {P : Nat → Prop} {w : World} : ∀ {ds es : List Dt} {vs : List Value}, reps P w (ds ++ es) vs → ∃ us ts, vs = us ++ ts ∧ reps P w ds us ∧ reps P w es ts
 | [], es, vs, h => ⟨[], vs, rfl, reps.nil, h⟩
 | d :: ds, es, vs, h => by
  rw [List.cons_append] at h
  simp only [reps] at h
  obtain ⟨v, vs', rfl, h2, h3⟩ := h
  obtain ⟨us, ts, rfl, h4, h5⟩ := reps.split h3
  exact ⟨v :: us, ts, rfl, reps.cons h2 h4, h5⟩
theorem reps.uncons {P : Nat → Prop} {w : World} {d : Dt} {ds : List Dt} {vs : List Value} (h : reps P w (d :: ds) vs) : ∃ v vs', vs = v :: vs' ∧ rep P w d v ∧ reps P w ds vs' := by
 simpa only [reps] using h
theorem rep.lit_iff {P : Nat → Prop} {w : World} {x v : Value} : rep P w (.lit x) v ↔ v = x ∧ x.oneCell' = true := by simp only [rep]
theorem rep.lit {P : Nat → Prop} {w : World} {x : Value} (h : x.oneCell' = true) : rep P w (.lit x) x := rep.lit_iff.2 ⟨rfl, h⟩
theorem rep.none {P : Nat → Prop} {w : World} : rep P w (.sl 0 []) (.slice none 0 0) := by
 simp only [rep]
 exact ⟨.none, 0, [], rfl, Nat.le_refl _, Nat.zero_le _, by simp only [reps], by simp, fun h => absurd h (Nat.lt_irrefl 0)⟩
theorem addr_add (b o j : Nat) : (⟨b, o, none⟩ : Addr).add j = ⟨b, o + j, none⟩ := by
 unfold Addr.add
 split
 ·next hz =>
  have hz' : j = 0 := by simpa using hz
  rw [hz', Nat.add_zero]
 ·simp
theorem rep.own {P : Nat → Prop} {w : World} {base : Nat} {e : TypeId} {size m : Nat} {v : Value} {ds : List Dt} {vs : List Value} (h : w.ownsRow base e size v m vs) (hr : reps P w ds vs) (hp : ∀ g, v.ownBlock = some g → P g) : rep P w (.sl m ds) v := by
 simp only [rep]
 rcases h.2 with ⟨hv, h0⟩ | ⟨g, cap, cur, hv, hb, hg, h1, h2, -⟩
 ·subst hv h0
  refine ⟨.none, 0, vs, rfl, Nat.le_refl _, Nat.zero_le _, hr, fun _ => ?_, fun h => absurd h (Nat.lt_irrefl 0)⟩
  have := h.1
  rw [reps.length hr] at this
  exact List.eq_nil_of_length_eq_zero (by simpa using this)
 ·subst hv
  refine ⟨_, cap, vs, rfl, h1, h2, hr, fun h0 => ?_, fun _ => ⟨g, 0, rfl, hp g rfl, (Array.getElem?_eq_some_iff.1 hg).1, fun j u hj => ?_⟩⟩
  ·have := h.1
   rw [reps.length hr, h0] at this
   exact List.eq_nil_of_length_eq_zero (by simpa using this)
  ·have := h.cells (g := g) rfl j u hj
   rw [addr_add] at this
   exact this
theorem Kp.below {P : Nat → Prop} {w w' : World} (h : Below w.heap.size w w') : Kp P w w' := ⟨h.size, fun b _ hb o => h.cell (p := ⟨b, o, none⟩) hb⟩
theorem Kp.refl {P : Nat → Prop} {w : World} : Kp P w w := ⟨Nat.le_refl _, fun _ _ _ _ => rfl⟩
theorem Kp.trans {P : Nat → Prop} {a b c : World} (h : Kp P a b) (k : Kp P b c) : Kp P a c := ⟨Nat.le_trans h.1 k.1, fun g hp hg o => (k.2 g hp (Nat.lt_of_lt_of_le hg h.1) o).trans (h.2 g hp hg o)⟩
theorem Kp.mono {P Q : Nat → Prop} {w w' : World} (h : Kp P w w') (hq : ∀ b, b < w.heap.size → Q b → P b) : Kp Q w w' := ⟨h.1, fun b hb hlt o => h.2 b (hq b hlt hb) hlt o⟩
theorem Kp.alloc {P : Nat → Prop} (w : World) (o : Obj) : Kp P w (w.alloc o) := Kp.below ((Below.refl _ _).alloc (Nat.le_refl _) o)
theorem Kp.drew {P : Nat → Prop} (w : World) : Kp P w w.drew := ⟨Nat.le_refl _, fun _ _ _ _ => rfl⟩
theorem Kp.set {P : Nat → Prop} (w : World) (p : Addr) (v : Value) (h : ¬ P p.block) : Kp P w (w.setCell p v) := by
 refine ⟨by simp, fun b hb hlt o => World.cell?_setCell_other _ _ _ _ (fun e => h ?_)⟩
 have : b = p.block := by rw [e]
 rw [← this]; exact hb
theorem Kp.grown {P : Nat → Prop} {w w' : World} {row : Option Nat} (hg : w.grownBy w' row) (h : ∀ k, row = some k → ¬ P k) : Kp P w w' :=
 ⟨hg.size, fun b hb hlt o => World.cell?_of_block (a := ⟨b, o, none⟩) (hg.block b hlt (fun e => h b e.symm hb))⟩
structure Bt (B : Nat) (w w' : World) : Prop where
 os : w'.os = w.os
 tape : w'.tape = w.tape
 output : w'.output = w.output
 size : w.heap.size ≤ w'.heap.size
 block : ∀ k, k < w.heap.size → k ≠ B → w'.heap[k]? = w.heap[k]?
theorem Bt.refl (B : Nat) (w : World) : Bt B w w := ⟨rfl, rfl, rfl, Nat.le_refl _, fun _ _ _ => rfl⟩
theorem Bt.trans {B : Nat} {a b c : World} (h : Bt B a b) (k : Bt B b c) : Bt B a c :=
 ⟨k.os.trans h.os, k.tape.trans h.tape, k.output.trans h.output, Nat.le_trans h.size k.size, fun i hi hB => (k.block i (Nat.lt_of_lt_of_le hi h.size) hB).trans (h.block i hi hB)⟩
theorem Bt.below {B : Nat} {w w' : World} (h : Below w.heap.size w w') : Bt B w w' := ⟨h.os, h.tape, h.output, h.size, fun k hk _ => h.block k hk⟩
theorem Bt.cell {B : Nat} {w w' : World} (h : Bt B w w') {p : Addr} (hp : p.block < w.heap.size) (hB : p.block ≠ B) : w'.cell? p = w.cell? p := World.cell?_of_block (h.block p.block hp hB)
theorem Bt.frozen {B : Nat} {w w' : World} (h : Bt B w w') {p : Addr} (hp : p.block < w.heap.size) (hB : p.block ≠ B) : w'.frozen? p = w.frozen? p := World.frozen?_of_block (h.block p.block hp hB)
theorem Bt.alloc {B : Nat} {a w : World} (h : Bt B a w) (o : Obj) : Bt B a (w.alloc o) := h.trans (Bt.below ((Below.refl _ _).alloc (Nat.le_refl _) o))
theorem Bt.drew {B : Nat} {a w : World} (h : Bt B a w) : Bt B a w.drew := ⟨h.os, h.tape, h.output, h.size, h.block⟩
theorem Bt.set {B : Nat} {a w : World} (h : Bt B a w) {p : Addr} (hp : p.block = B ∨ a.heap.size ≤ p.block) (v : Value) : Bt B a (w.setCell p v) :=
 ⟨h.os, h.tape, h.output, by simpa using h.size, fun k hk hB => (Below.heap_setCell w p v k (by rcases hp with e | e; (rw [e]; exact hB); omega)).trans (h.block k hk hB)⟩
theorem Bt.put {B : Nat} {a w : World} (h : Bt B a w) (i : Nat) (v : Value) : Bt B a (w.setCell ⟨B, i, none⟩ v) := h.set (p := ⟨B, i, none⟩) (.inl rfl) v
theorem Bt.own {B b : Nat} {a w : World} (h : Bt B a w) (hb : a.heap.size ≤ b) (i : Nat) (v : Value) : Bt B a (w.setCell ⟨b, i, none⟩ v) := h.set (p := ⟨b, i, none⟩) (.inr hb) v
theorem Bt.grown {B : Nat} {a w w' : World} {row : Option Nat} (h : Bt B a w) (hg : w.grownBy w' row) (hr : ∀ k, row = some k → a.heap.size ≤ k) : Bt B a w' :=
 ⟨hg.os.trans h.os, hg.tape.trans h.tape, hg.output.trans h.output, Nat.le_trans h.size hg.size, fun k hk hB => (hg.block k (Nat.lt_of_lt_of_le hk h.size) (fun e => by have := hr k e.symm; omega)).trans (h.block k hk hB)⟩
theorem Bt.kp {B : Nat} {P : Nat → Prop} {w w' : World} (h : Bt B w w') (hp : ¬ P B) : Kp P w w' :=
 ⟨h.size, fun b hb hlt o => h.cell (p := ⟨b, o, none⟩) hlt (fun e => hp (by rw [← (show b = B from e)]; exact hb))⟩
theorem Bt.fresh {B : Nat} {w w' : World} (h : Bt B w w') {n : Nat} (hn : n ≤ B) (hs : n ≤ w.heap.size) : Below n w w' := ⟨h.os, h.tape, h.output, h.size, fun k hk => h.block k (by omega) (by omega)⟩
end
end Go.Proofs.YtoeodjobggodcaaGreatDoor
/- Rule files as data; how they lie in cells. -/
namespace Go.Proofs.YtoeodjobggodcaaGreatDoor
section
open Go.RowKit
structure Vt where
 k : Int := 0
 b : Bool := false
 i : Int := 0
 s : ByteArray := ⟨#[]⟩
 l : List Vt := []
structure Ex where
 op : Int := 0
 t : ByteArray := ⟨#[]⟩
 v : Vt := {}
 a : List Ex := []
structure Bi where
 v : ByteArray
 f : ByteArray
structure Ar where
 v : ByteArray := ⟨#[]⟩
 e : Ex := {}
structure As where
 f : ByteArray
 e : Ex
structure Cd where
 k : Int := 0
 v : ByteArray := ⟨#[]⟩
 c : ByteArray := ⟨#[]⟩
 binds : List Bi := []
 tests : List Ex := []
 conds : List Cd := []
 thn : List Cd := []
 alts : List (List Cd) := []
 e : Ex := {}
 fn : ByteArray := ⟨#[]⟩
 name : ByteArray := ⟨#[]⟩
 args : List Ar := []
structure Ac where
 k : Int := 0
 c : ByteArray := ⟨#[]⟩
 set : List As := []
 e : Ex := {}
 t : ByteArray := ⟨#[]⟩
structure Ru where
 name : ByteArray := ⟨#[]⟩
 sal : Int := 0
 group : ByteArray := ⟨#[]⟩
 flow : ByteArray := ⟨#[]⟩
 nl : Bool := false
 lock : Bool := false
 whn : List Cd := []
 thn : List Ac := []
structure Qu where
 name : ByteArray := ⟨#[]⟩
 params : List ByteArray := []
 whn : List Cd := []
structure Fd where
 n : ByteArray := ⟨#[]⟩
 t : Int := 0
 c : ByteArray := ⟨#[]⟩
structure Ca where
 n : ByteArray := ⟨#[]⟩
 s : ByteArray := ⟨#[]⟩
 f : List Fd := []
structure Bs where
 c : List Ca := []
 r : List Ru := []
 q : List Qu := []
abbrev dI (i : Int) : Dt := .lit (.int .i64 i)
abbrev dS (s : ByteArray) : Dt := .lit (.string s)
abbrev dB (b : Bool) : Dt := .lit (.bool b)
mutual
def Vt.cs : Vt → List Dt
 | ⟨k, b, i, s, l⟩ => [dI k, dB b, dI i, dS s, .sl l.length (Vt.css l)]
def Vt.css : List Vt → List Dt
 | [] => []
 | x :: l => Vt.cs x ++ Vt.css l
end
mutual
def Ex.cs : Ex → List Dt
 | ⟨op, t, v, a⟩ => dI op :: dS t :: (v.cs ++ [.sl a.length (Ex.css a)])
def Ex.css : List Ex → List Dt
 | [] => []
 | x :: l => Ex.cs x ++ Ex.css l
end
def Bi.cs (x : Bi) : List Dt := [dS x.v, dS x.f]
def Ar.cs (x : Ar) : List Dt := dS x.v :: x.e.cs
def As.cs (x : As) : List Dt := dS x.f :: x.e.cs
mutual
def Cd.cs : Cd → List Dt
 | ⟨k, v, c, binds, tests, conds, thn, alts, e, fn, name, args⟩ =>
  dI k :: dS v :: dS c :: .sl binds.length (binds.flatMap Bi.cs) :: .sl tests.length (Ex.css tests) :: .sl conds.length (Cd.css conds) :: .sl thn.length (Cd.css thn) :: .sl alts.length (Cd.csss alts) ::
   (e.cs ++ [dS fn, dS name, .sl args.length (args.flatMap Ar.cs)])
def Cd.css : List Cd → List Dt
 | [] => []
 | x :: l => Cd.cs x ++ Cd.css l
def Cd.csss : List (List Cd) → List Dt
 | [] => []
 | x :: l => .sl x.length (Cd.css x) :: Cd.csss l
end
def Ac.cs (x : Ac) : List Dt := dI x.k :: dS x.c :: .sl x.set.length (x.set.flatMap As.cs) :: (x.e.cs ++ [dS x.t])
def Ru.cs (x : Ru) : List Dt := [dS x.name, dI x.sal, dS x.group, dS x.flow, dB x.nl, dB x.lock, .sl x.whn.length (Cd.css x.whn), .sl x.thn.length (x.thn.flatMap Ac.cs)]
def Qu.cs (x : Qu) : List Dt := [dS x.name, .sl x.params.length (x.params.map dS), .sl x.whn.length (Cd.css x.whn)]
def Fd.cs (x : Fd) : List Dt := [dS x.n, dI x.t, dS x.c]
def Ca.cs (x : Ca) : List Dt := [dS x.n, dS x.s, .sl x.f.length (x.f.flatMap Fd.cs)]
def Bs.cs (x : Bs) : List Dt := [.sl x.c.length (x.c.flatMap Ca.cs), .sl x.r.length (x.r.flatMap Ru.cs), .sl x.q.length (x.q.flatMap Qu.cs)]
theorem Vt.css_eq : ∀ l : List Vt, Vt.css l = l.flatMap Vt.cs
 | [] => by simp [Vt.css]
 | x :: l => by rw [Vt.css, Vt.css_eq l, List.flatMap_cons]
theorem Ex.css_eq : ∀ l : List Ex, Ex.css l = l.flatMap Ex.cs
 | [] => by simp [Ex.css]
 | x :: l => by rw [Ex.css, Ex.css_eq l, List.flatMap_cons]
theorem Cd.css_eq : ∀ l : List Cd, Cd.css l = l.flatMap Cd.cs
 | [] => by simp [Cd.css]
 | x :: l => by rw [Cd.css, Cd.css_eq l, List.flatMap_cons]
theorem Cd.csss_eq : ∀ l : List (List Cd), Cd.csss l = l.map (fun x => .sl x.length (Cd.css x))
 | [] => by simp [Cd.csss]
 | x :: l => by rw [Cd.csss, Cd.csss_eq l, List.map_cons]
theorem Vt.cs_len (x : Vt) : x.cs.length = 5 := by cases x; simp [Vt.cs]
theorem Ex.cs_len (x : Ex) : x.cs.length = 8 := by cases x; simp [Ex.cs, Vt.cs_len]
theorem Ar.cs_len (x : Ar) : x.cs.length = 9 := by simp [Ar.cs, Ex.cs_len]
theorem As.cs_len (x : As) : x.cs.length = 9 := by simp [As.cs, Ex.cs_len]
theorem Cd.cs_len (x : Cd) : x.cs.length = 19 := by cases x; simp [Cd.cs, Ex.cs_len]
theorem Ac.cs_len (x : Ac) : x.cs.length = 12 := by simp [Ac.cs, Ex.cs_len]
theorem flat_len {α : Type} (f : α → List Dt) (n : Nat) (h : ∀ x, (f x).length = n) : ∀ l : List α, (l.flatMap f).length = l.length * n
 | [] => by simp
 | x :: l => by rw [List.flatMap_cons, List.length_append, flat_len f n h l, h, List.length_cons, Nat.succ_mul, Nat.add_comm]
end
end Go.Proofs.YtoeodjobggodcaaGreatDoor
/- A scope with several labels: what holds at each, and a measure that every pass from one lowers. -/
namespace Go.Proofs.YtoeodjobggodcaaGreatDoor
section
open Go.RowKit
def jmp (J : Nat → Act → World → Prop) (Q : Exit → Act → World → Prop) : Exit → Act → World → Prop
 | .goto l, a, w => J l a w
 | e, a, w => Q e a w
section
variable {P : Program} {a : Act} {w : World} {Q : Exit → Act → World → Prop}
@[go_sem] theorem jmp_normal (J : Nat → Act → World → Prop) : jmp J Q .normal a w = Q .normal a w := rfl
@[go_sem] theorem jmp_exit (J : Nat → Act → World → Prop) (id : Nat) : jmp J Q (.exit id) a w = Q (.exit id) a w := rfl
@[go_sem] theorem jmp_ret (J : Nat → Act → World → Prop) : jmp J Q .ret a w = Q .ret a w := rfl
@[go_sem] theorem jmp_panic (J : Nat → Act → World → Prop) (ch : List PanicEntry) : jmp J Q (.panic ch) a w = Q (.panic ch) a w := rfl
@[go_sem] theorem jmp_goto (J : Nat → Act → World → Prop) (l : Nat) : jmp J Q (.goto l) a w = J l a w := rfl
theorem wp_scope_labels {c : Code} (J : Nat → Act → World → Prop) (μ : Nat → Act → World → Nat)
  (pass : ∀ l a w, J l a w → ∃ rest, findLabel c l = some (.seq .skip rest) ∧ rest.wp P (jmp (fun l' a' w' => J l' a' w' ∧ μ l' a' w' < μ l a w) Q) a w)
  (first : Hid (∀ l rest a w, findLabel c l = some (.seq .skip rest) → J l a w → rest.wp P (jmp J Q) a w) → c.wp P (jmp J Q) a w) : (Code.scope c).wp P Q a w := by
 have first := first (fun l rest a w hf hJ => by
  obtain ⟨r, hr, hp⟩ := pass l a w hJ
  rw [hf] at hr
  cases hr
  refine wp_mono hp ?_
  intro e a' w' h
  cases e with
  | goto l' => exact h.1
  | normal => exact h
  | exit id => exact h
  | ret => exact h
  | panic ch => exact h
  | outgrown => exact h)
 intro b k cs
 have hg : ∀ l rest, findLabel c l = some rest → gotoIn l (.inScope c :: k) = some (.code rest :: .inScope c :: k) := fun l rest hf => by simp [gotoIn, hf]
 have key : ∀ n l a w rest, μ l a w = n → J l a w → findLabel c l = some rest → ∃ e a' w', Q e a' w' ∧ Arrives P (lone (b.at a (.code rest :: .inScope c :: k)) cs w) b k cs e a' w' := by
  intro n
  induction n using Nat.strongRecOn with
  | _ n ih =>
   intro l a w rest hn hJ hf
   obtain ⟨r, hr, hp⟩ := pass l a w hJ
   rw [hf] at hr
   cases hr
   have hp : (Code.seq .skip r).wp P _ a w := wp_seq (wp_skip hp)
   obtain ⟨e, a₁, w₁, hq, harr⟩ := hp b (.inScope c :: k) cs
   cases e with
   | normal => exact ⟨.normal, a₁, w₁, hq, Steps.trans harr (.one step_inScope)⟩
   | exit id => exact ⟨.exit id, a₁, w₁, hq, fun k' hk => harr k' (by simp [exitTo, hk])⟩
   | goto l' =>
    obtain ⟨hJ', hlt⟩ := hq
    obtain ⟨r', hr', -⟩ := pass l' a₁ w₁ hJ'
    obtain ⟨e₂, a₂, w₂, hq₂, harr₂⟩ := ih _ (by omega) l' a₁ w₁ (.seq .skip r') rfl hJ' hr'
    exact ⟨e₂, a₂, w₂, hq₂, .of_steps (harr _ (hg _ _ hr')) harr₂⟩
   | ret => exact ⟨_, a₁, w₁, hq, harr⟩
   | panic ch => exact ⟨_, a₁, w₁, hq, harr⟩
   | outgrown => exact ⟨_, a₁, w₁, hq, harr⟩
 obtain ⟨e, a₁, w₁, hq, harr⟩ := first b (.inScope c :: k) cs
 cases e with
 | normal => exact ⟨.normal, a₁, w₁, hq, .head step_scope (Steps.trans harr (.one step_inScope))⟩
 | exit id => exact ⟨.exit id, a₁, w₁, hq, fun k' hk => .head step_scope (harr k' (by simp [exitTo, hk]))⟩
 | goto l' =>
  obtain ⟨r', hr', -⟩ := pass l' a₁ w₁ hq
  obtain ⟨e₂, a₂, w₂, hq₂, harr₂⟩ := key _ l' a₁ w₁ (.seq .skip r') rfl hq hr'
  exact ⟨e₂, a₂, w₂, hq₂, .of_steps (.head step_scope (harr _ (hg _ _ hr'))) harr₂⟩
 | ret => exact ⟨_, a₁, w₁, hq, .of_steps (.one step_scope) harr⟩
 | panic ch => exact ⟨_, a₁, w₁, hq, .of_steps (.one step_scope) harr⟩
 | outgrown => exact ⟨_, a₁, w₁, hq, .of_steps (.one step_scope) harr⟩
theorem wp_first_label {J : Nat → Act → World → Prop} {l : Nat} {c rest : Code} (hf : findLabel c l = some (.seq .skip rest)) (hJ : J l a w)
  (h : Hid (∀ l rest a w, findLabel c l = some (.seq .skip rest) → J l a w → rest.wp P (jmp J Q) a w)) : ((Code.label l).seq rest).wp P (jmp J Q) a w :=
 wp_seq (wp_label (h.out l rest a w hf hJ))
end
end
end Go.Proofs.YtoeodjobggodcaaGreatDoor
/- Lexemes: the model; what the small functions of lex tell. -/
namespace Go.RowKit
theorem Below.via {a b c : World} (h : Below b.heap.size b c) (k : Below a.heap.size a b) : Below a.heap.size a c := k.trans (h.mono k.size)
theorem Hid.intro {p : Prop} (h : p) : Hid p := h
end Go.RowKit
namespace Go.Proofs.YtoeodjobggodcaaGreatDoor
section
open Go.RowKit
def letB (c : Int) : Bool := decide (97 ≤ c ∧ c ≤ 122) || decide (65 ≤ c ∧ c ≤ 90)
def digB (c : Int) : Bool := decide (48 ≤ c ∧ c ≤ 57)
def blB (c : Int) : Bool := c == 32 || c == 9 || c == 13 || c == 10
def chB (c : Int) : Bool := letB c || digB c || c == 95
def isLet (c : UInt8) : Bool := letB (c.toNat : Int)
def isDig (c : UInt8) : Bool := digB (c.toNat : Int)
def isBl (c : UInt8) : Bool := blB (c.toNat : Int)
def isCh (c : UInt8) : Bool := chB (c.toNat : Int)
def tl (s : ByteArray) (k : Nat) : List UInt8 := s.data.toList.drop k
theorem tl_len (s : ByteArray) (k : Nat) : (tl s k).length = s.size - k := by
 unfold tl; rw [List.length_drop, Array.length_toList]; rfl
theorem tl_cons {s : ByteArray} {k : Nat} (h : k < s.size) : tl s k = s[k] :: tl s (k + 1) := by
 unfold tl
 have h' : k < s.data.toList.length := by rw [Array.length_toList]; exact h
 rw [List.drop_eq_getElem_cons h']
 rfl
theorem tl_end {s : ByteArray} {k : Nat} (h : s.size ≤ k) : tl s k = [] := by
 apply List.eq_nil_of_length_eq_zero; rw [tl_len]; omega
theorem tl_drop (s : ByteArray) (k n : Nat) : (tl s k).drop n = tl s (k + n) := by
 unfold tl; rw [List.drop_drop]
set_option maxRecDepth 100000 in
set_option maxHeartbeats 400000 in
theorem letter_any (c : Int) (w : World) :
  Calls Tryz.prog 95 #[.int .u8 c] w fun e w' => e = .returned (.bool (letB c)) ∧ w' = w := by
 unfold letB
 go_enter Tryz.func95, Tryz.ntmps95
 go_wp2
 all_goals go_ret
 all_goals refine ⟨?_, rfl⟩
 all_goals simp_all
 all_goals omega
set_option maxRecDepth 100000 in
set_option maxHeartbeats 400000 in
theorem digit_any (c : Int) (w : World) :
  Calls Tryz.prog 98 #[.int .u8 c] w fun e w' => e = .returned (.bool (digB c)) ∧ w' = w := by
 unfold digB
 go_enter Tryz.func98, Tryz.ntmps98
 go_wp2
 all_goals go_ret
 all_goals refine ⟨?_, rfl⟩
 all_goals simp_all
 all_goals omega
set_option maxRecDepth 100000 in
set_option maxHeartbeats 400000 in
theorem blank_any (c : Int) (w : World) :
  Calls Tryz.prog 93 #[.int .u8 c] w fun e w' => e = .returned (.bool (blB c)) ∧ w' = w := by
 unfold blB
 go_enter Tryz.func93, Tryz.ntmps93
 go_wp2
 all_goals go_ret
 all_goals refine ⟨?_, rfl⟩
 all_goals simp_all
set_option maxRecDepth 100000 in
set_option maxHeartbeats 400000 in
theorem rletter_any (c : Int) (w : World) :
  Calls Tryz.prog 119 #[.int .u8 c] w fun e w' => e = .returned (.bool (letB c)) ∧ w' = w := by
 unfold letB
 go_enter Tryz.func119, Tryz.ntmps119
 go_wp2
 all_goals go_ret
 all_goals refine ⟨?_, rfl⟩
 all_goals simp_all
 all_goals omega
set_option maxRecDepth 100000 in
set_option maxHeartbeats 400000 in
theorem rdigit_any (c : Int) (w : World) :
  Calls Tryz.prog 121 #[.int .u8 c] w fun e w' => e = .returned (.bool (digB c)) ∧ w' = w := by
 unfold digB
 go_enter Tryz.func121, Tryz.ntmps121
 go_wp2
 all_goals go_ret
 all_goals refine ⟨?_, rfl⟩
 all_goals simp_all
 all_goals omega
def escB (c : Int) : Option Int := if c = 34 ∨ c = 92 then some c else if c = 110 then some 10 else if c = 116 then some 9 else none
set_option maxRecDepth 100000 in
set_option maxHeartbeats 400000 in
theorem escaped_any (c : Int) (w : World) :
  Calls Tryz.prog 144 #[.int .u8 c] w fun e w' => e = .returned (match escB c with | some d => .tuple #[.int .u8 d, .bool true] | none => .tuple #[.int .u8 0, .bool false]) ∧ w' = w := by
 by_cases h34 : c = 34
 ·subst c
  rw [show escB 34 = some 34 from rfl]
  go_enter Tryz.func144, Tryz.ntmps144
  go_wp2
  refine bodyPost_ret (v := .tuple #[.int .u8 34, .bool true]) (by simp [results, Tryz.results144, go_sem]) rfl ⟨rfl, rfl⟩
 by_cases h92 : c = 92
 ·subst c
  rw [show escB 92 = some 92 from rfl]
  go_enter Tryz.func144, Tryz.ntmps144
  go_wp2
  refine bodyPost_ret (v := .tuple #[.int .u8 92, .bool true]) (by simp [results, Tryz.results144, go_sem]) rfl ⟨rfl, rfl⟩
 by_cases h110 : c = 110
 ·subst c
  rw [show escB 110 = some 10 from rfl]
  go_enter Tryz.func144, Tryz.ntmps144
  go_wp2
  refine bodyPost_ret (v := .tuple #[.int .u8 10, .bool true]) (by simp [results, Tryz.results144, go_sem]) rfl ⟨rfl, rfl⟩
 by_cases h116 : c = 116
 ·subst c
  rw [show escB 116 = some 9 from rfl]
  go_enter Tryz.func144, Tryz.ntmps144
  go_wp2
  refine bodyPost_ret (v := .tuple #[.int .u8 9, .bool true]) (by simp [results, Tryz.results144, go_sem]) rfl ⟨rfl, rfl⟩
 have e : escB c = none := by simp [escB, *]
 rw [e]
 go_enter Tryz.func144, Tryz.ntmps144
 go_wp2
 refine bodyPost_ret (v := .tuple #[.int .u8 0, .bool false]) (by simp [results, Tryz.results144, go_sem]) rfl ⟨rfl, rfl⟩
def twos : List (List UInt8) := [[61, 61], [33, 61], [60, 61], [62, 61], [38, 38], [124, 124]]
def twoB (s : ByteArray) : Bool := twos.any (fun k => s.toList == k)
set_option maxRecDepth 100000 in
set_option maxHeartbeats 400000 in
theorem two_any (s : ByteArray) (w : World) :
  Calls Tryz.prog 145 #[.string s] w fun e w' => e = .returned (.bool (twoB s)) ∧ w' = w := by
 unfold twoB twos
 simp only [List.any_cons, List.any_nil]
 go_enter Tryz.func145, Tryz.ntmps145
 go_wp2
 all_goals go_ret
 all_goals refine ⟨?_, rfl⟩
 all_goals (first | (exfalso; simp_all; done) | simp [*])
def lxv (k : Int) (t : ByteArray) (a e : Int) : Value := .agg #[.int .i64 k, .string t, .int .i64 a, .int .i64 e]
theorem four_new (w : World) (x0 x1 x2 x3 : Value) (t : TypeId) : let W := w.alloc (.cells #[x0, x1, x2, x3] t)
  W.cell? ⟨w.heap.size, 0, none⟩ = some x0 ∧ W.cell? ⟨w.heap.size, 1, none⟩ = some x1 ∧ W.cell? ⟨w.heap.size, 2, none⟩ = some x2 ∧ W.cell? ⟨w.heap.size, 3, none⟩ = some x3 := by
 intro W
 have h : W.heap[w.heap.size]? = some (.cells #[x0, x1, x2, x3] t) := heap_alloc_new w _
 unfold World.cell?
 simp only [h]
 exact ⟨rfl, rfl, rfl, rfl⟩
theorem below_al {a w : World} (h : Below a.heap.size a w) (o : Obj) : Below a.heap.size a (w.alloc o) := h.alloc h.size o
set_option maxRecDepth 100000 in
set_option maxHeartbeats 400000 in
theorem barred_any (a : Int) (w : World) :
  Calls Tryz.prog 143 #[.int .i64 a] w fun e w' => e = .returned (.tuple #[lxv 0 ⟨#[]⟩ a 0, .bool false]) ∧ Below w.heap.size w w' := by
 go_enter Tryz.func143, Tryz.ntmps143
 go_wp2
 refine bodyPost_ret (v := .tuple #[lxv 0 ⟨#[]⟩ a 0, .bool false]) ?_ rfl ⟨rfl, ?_⟩
 ·obtain ⟨g0, g1, g2, g3⟩ := four_new w (.int .i64 0) (.string ⟨#[]⟩) (.int .i64 a) (.int .i64 0) 47
  simp [results, Tryz.results143, go_sem, g0, g1, g2, g3, lxv]
 ·exact (Below.refl _ _).alloc (Nat.le_refl _) _
end
end Go.Proofs.YtoeodjobggodcaaGreatDoor
/- Where a word, digits end. -/
namespace Go.Proofs.YtoeodjobggodcaaGreatDoor
section
open Go.RowKit
def run (p : UInt8 → Bool) (s : ByteArray) (k : Nat) : Nat := ((tl s k).takeWhile p).length
theorem run_yes {p : UInt8 → Bool} {s : ByteArray} {k : Nat} (h : k < s.size) (hp : p s[k] = true) : run p s k = run p s (k + 1) + 1 := by
 unfold run; rw [tl_cons h, List.takeWhile_cons_of_pos hp]; rfl
theorem run_no {p : UInt8 → Bool} {s : ByteArray} {k : Nat} (h : k < s.size) (hp : p s[k] = false) : run p s k = 0 := by
 unfold run; rw [tl_cons h, List.takeWhile_cons_of_neg (by simp [hp])]; rfl
theorem run_end {p : UInt8 → Bool} {s : ByteArray} {k : Nat} (h : s.size ≤ k) : run p s k = 0 := by
 unfold run; rw [tl_end h]; rfl
theorem run_le (p : UInt8 → Bool) (s : ByteArray) (k : Nat) (h : k ≤ s.size) : k + run p s k ≤ s.size := by
 unfold run
 have h1 := tl_len s k
 have h2 := (List.takeWhile_sublist (l := tl s k) p).length_le
 omega
set_option maxRecDepth 100000 in
set_option maxHeartbeats 2000000 in
theorem behindWord_any (s : ByteArray) (k : Nat) (hk : k ≤ s.size) (hs : s.size ≤ 1000000) (w : World) :
  Calls Tryz.prog 97 #[.string s, .int .i64 (k : Int)] w fun e w' => e = .returned (.int .i64 ((k + run isCh s k : Nat) : Int)) ∧ w' = w := by
 go_enter Tryz.func97, Tryz.ntmps97
 go_wp2
 refine wp_scope_labels (fun l a' w' => l = 0 ∧ w' = w ∧ ∃ (m : Nat) (u5 u6 u7 u8 u9 u10 u11 u12 u13 u14 u15 u16 u17 u18 u19 u20 u21 u22 u23 u24 u25 u26 u27 u28 u29 : Value), a' = { tmps := #[.string s, .int .i64 (m : Int), undef, undef, .int .i64 0, u5, u6, u7, u8, u9, u10, u11, u12, u13, u14, u15, u16, u17, u18, u19, u20, u21, u22, u23, u24, u25, u26, u27, u28, u29], defers := [] } ∧ m ≤ s.size ∧ m + run isCh s m = k + run isCh s k) (fun _ a' _ => s.size - (intOf (a'.tmps.getD 1 undef)).toNat) ?pass ?first
 case first => exact wp_first_label rfl ⟨rfl, rfl, k, _, _, _, _, _, _, _, _, _, _, _, _, _, _, _, _, _, _, _, _, _, _, _, _, _, rfl, hk, rfl⟩
 case pass =>
  rintro l a' w' ⟨rfl, rfl, m, u5, u6, u7, u8, u9, u10, u11, u12, u13, u14, u15, u16, u17, u18, u19, u20, u21, u22, u23, u24, u25, u26, u27, u28, u29, rfl, hm, he⟩
  refine ⟨_, rfl, ?_⟩
  by_cases hlt : (m : Int) < (s.size : Int)
  ·have hlt' : m < s.size := by omega
   have HL := letter_any (s[m].toNat : Int) w'
   have HD := digit_any (s[m].toNat : Int) w'
   have hch : isCh s[m] = (letB (s[m].toNat : Int) || digB (s[m].toNat : Int) || (s[m].toNat : Int) == 95) := rfl
   have hy : isCh s[m] = true → m + 1 + run isCh s (m + 1) = k + run isCh s k := fun h => by rw [← he, run_yes hlt' h]; omega
   have hn : isCh s[m] = false → k + run isCh s k = m := fun h => by rw [← he, run_no hlt' h]; omega
   cases c1 : letB (s[m].toNat : Int) with
   | true =>
    rw [c1] at HL hch
    have hq := hy (by rw [hch]; rfl)
    clear hy hn hch
    go_wp2_with (go_at_call 95; refine HL.mono ?_; rintro e w1 ⟨rfl, hw1⟩; subst w1)
    go_step3
    exact ⟨⟨rfl, rfl, m + 1, _, _, _, _, _, _, _, _, _, _, _, _, _, _, _, _, _, _, _, _, _, _, _, _, _, rfl, hlt', hq⟩, by simp [intOf]; omega⟩
   | false =>
    rw [c1] at HL hch
    cases c2 : digB (s[m].toNat : Int) with
    | true =>
     rw [c2] at HD hch
     have hq := hy (by rw [hch]; rfl)
     clear hy hn hch
     go_wp2_with (first | (go_at_call 95; refine HL.mono ?_; rintro e w1 ⟨rfl, hw1⟩; subst w1) | (go_at_call 98; refine HD.mono ?_; rintro e w1 ⟨rfl, hw1⟩; subst w1))
     go_step3
     exact ⟨⟨rfl, rfl, m + 1, _, _, _, _, _, _, _, _, _, _, _, _, _, _, _, _, _, _, _, _, _, _, _, _, _, rfl, hlt', hq⟩, by simp [intOf]; omega⟩
    | false =>
     rw [c2] at HD hch
     by_cases c3 : (s[m].toNat : Int) = 95
     ·have hq := hy (by rw [hch]; simp [c3])
      clear hy hn hch c1 c2
      rw [c3] at HL HD
      go_wp2_with (first | (go_at_call 95; refine HL.mono ?_; rintro e w1 ⟨rfl, hw1⟩; subst w1) | (go_at_call 98; refine HD.mono ?_; rintro e w1 ⟨rfl, hw1⟩; subst w1))
      go_step3
      exact ⟨⟨rfl, rfl, m + 1, _, _, _, _, _, _, _, _, _, _, _, _, _, _, _, _, _, _, _, _, _, _, _, _, _, rfl, hlt', hq⟩, by simp [intOf]; omega⟩
     ·have hq := hn (by rw [hch]; simp [c3])
      clear hy hn hch c1 c2
      go_wp2_with (first | (go_at_call 95; refine HL.mono ?_; rintro e w1 ⟨rfl, hw1⟩; subst w1) | (go_at_call 98; refine HD.mono ?_; rintro e w1 ⟨rfl, hw1⟩; subst w1))
      go_ret
      exact ⟨by rw [hq]; rfl, rfl⟩
  ·have hq : k + run isCh s k = m := by rw [← he, run_end (by omega)]; omega
   go_wp2
   go_ret
   exact ⟨by rw [hq]; rfl, rfl⟩
set_option maxRecDepth 100000 in
set_option maxHeartbeats 2000000 in
theorem behindDigits_any (s : ByteArray) (k : Nat) (hk : k ≤ s.size) (hs : s.size ≤ 1000000) (w : World) :
  Calls Tryz.prog 99 #[.string s, .int .i64 (k : Int)] w fun e w' => e = .returned (.int .i64 ((k + run isDig s k : Nat) : Int)) ∧ w' = w := by
 go_enter Tryz.func99, Tryz.ntmps99
 go_wp2
 refine wp_scope_labels (fun l a' w' => l = 0 ∧ w' = w ∧ ∃ (m : Nat) (u5 u6 u7 u8 u9 u10 u11 u12 u13 u14 u15 u16 u17 : Value), a' = { tmps := #[.string s, .int .i64 (m : Int), undef, undef, .int .i64 0, u5, u6, u7, u8, u9, u10, u11, u12, u13, u14, u15, u16, u17], defers := [] } ∧ m ≤ s.size ∧ m + run isDig s m = k + run isDig s k) (fun _ a' _ => s.size - (intOf (a'.tmps.getD 1 undef)).toNat) ?pass ?first
 case first => exact wp_first_label rfl ⟨rfl, rfl, k, _, _, _, _, _, _, _, _, _, _, _, _, _, rfl, hk, rfl⟩
 case pass =>
  rintro l a' w' ⟨rfl, rfl, m, u5, u6, u7, u8, u9, u10, u11, u12, u13, u14, u15, u16, u17, rfl, hm, he⟩
  refine ⟨_, rfl, ?_⟩
  by_cases hlt : (m : Int) < (s.size : Int)
  ·have hlt' : m < s.size := by omega
   have HD := digit_any (s[m].toNat : Int) w'
   have hy : isDig s[m] = true → m + 1 + run isDig s (m + 1) = k + run isDig s k := fun h => by rw [← he, run_yes hlt' h]; omega
   have hn : isDig s[m] = false → k + run isDig s k = m := fun h => by rw [← he, run_no hlt' h]; omega
   cases c2 : digB (s[m].toNat : Int) with
   | true =>
    rw [c2] at HD
    have hq := hy c2
    clear hy hn
    go_wp2_with (go_at_call 98; refine HD.mono ?_; rintro e w1 ⟨rfl, hw1⟩; subst w1)
    go_step3
    exact ⟨⟨rfl, rfl, m + 1, _, _, _, _, _, _, _, _, _, _, _, _, _, rfl, hlt', hq⟩, by simp [intOf]; omega⟩
   | false =>
    rw [c2] at HD
    have hq := hn c2
    clear hy hn
    go_wp2_with (go_at_call 98; refine HD.mono ?_; rintro e w1 ⟨rfl, hw1⟩; subst w1)
    go_ret
    exact ⟨by rw [hq]; rfl, rfl⟩
  ·have hq : k + run isDig s k = m := by rw [← he, run_end (by omega)]; omega
   go_wp2
   go_ret
   exact ⟨by rw [hq]; rfl, rfl⟩
end
end Go.Proofs.YtoeodjobggodcaaGreatDoor
/- HasPrefix, Clone, IndexByte; where blanks and remarks end. -/
namespace Go.Proofs.YtoeodjobggodcaaGreatDoor
section
open Go.RowKit
def pre2 : List UInt8 → Bool
 | a :: b :: _ => a == 47 && b == 47
 | _ => false
set_option maxRecDepth 100000 in
set_option maxHeartbeats 1000000 in
theorem hasPrefix0 (s : ByteArray) (w : World) :
  Calls Tryz.prog 141 #[.string s, .string ⟨#[47, 47]⟩] w fun e w' => e = .returned (.bool (pre2 s.data.toList)) ∧ w' = w := by
 by_cases h : (2 : Int) ≤ (s.size : Int)
 ·go_enter Tryz.func141, Tryz.ntmps141
  go_wp2
  go_ret
  refine ⟨?_, rfl⟩
  have e : ((s.extract 0 2).toList == [47, 47]) = pre2 s.data.toList := by
   rw [Lib.extract_toList]
   have hl : 2 ≤ s.data.toList.length := by rw [← Lib.size_eq]; omega
   match hm : s.data.toList with
   | [] => rw [hm] at hl; simp at hl
   | [_] => rw [hm] at hl; simp at hl
   | a :: b :: r => simp [pre2]
  rw [← e]; rfl
 ·go_enter Tryz.func141, Tryz.ntmps141
  go_wp2
  go_ret
  refine ⟨?_, rfl⟩
  have hl : s.data.toList.length < 2 := by rw [← Lib.size_eq]; omega
  match hm : s.data.toList with
  | [] => rfl
  | [_] => rfl
  | a :: b :: r => rw [hm] at hl; simp at hl; omega
theorem info_u8 : (Tryz.prog.info? 5).map (fun i => (i.zero, i.size, i.bytes)) = some (some (.int .u8 0), 1, 1) := by kernel_rfl
set_option maxRecDepth 100000 in
set_option maxHeartbeats 4000000 in
set_option maxRecDepth 100000 in
theorem clone0 (s : ByteArray) (w : World) (hlim : s.size ≤ 1000000) :
  Calls Tryz.prog 166 #[.string s] w fun e w' => e = .returned (.string s) ∧ Below w.heap.size w w' := by
 by_cases h0 : s.size = 0
 ·have hs : s = ⟨#[]⟩ := by
   apply ByteArray.ext
   exact Array.eq_empty_of_size_eq_zero h0
  subst hs
  go_enter Tryz.func166, Tryz.ntmps166
  go_wp2
  go_ret
  exact ⟨rfl, Below.refl _ _⟩
 ·obtain ⟨i0, hi, hz0, hz1, hz2⟩ := info_parts info_u8
  have hinfo : (Tryz.prog.info? 5).map (·.size) = some 1 := by rw [hi]; simp [hz1]
  have hco : Tryz.prog.cellsOf 5 = 1 := by simp [Program.cellsOf, hi, hz1]
  obtain ⟨M, hM⟩ : ∃ M, M = madeCells (Value.int .u8 0).cells (((s.size : Nat) : Int).toNat * i0.size) := ⟨_, rfl⟩
  have hMs : M.size = s.size := by rw [hM, size_madeCells, hz1]; simp
  have hmk : ∀ W : World, (Instr.makeSlice 158 (.int .i64 (s.size : Int)) (.int .i64 (s.size : Int))).run Tryz.prog W = .ok (.slice (some ⟨W.heap.size, 0, none⟩) s.size s.size) (W.alloc (.cells M 5)) := fun W => by
   have h := run_make (P := Tryz.prog) W 158 5 i0 (.int .u8 0) Tryz.underlying158 hi hz0 .i64 .i64 (s.size : Int) (s.size : Int) (by omega) (by omega) (by rw [hz2]; omega) (by omega)
   rw [← hM] at h
   simpa using h
  clear hM
  have hcp := Lib.run_copy_row_string (P := Tryz.prog) (w.alloc (.cells M 5)) 158 9 3 5 w.heap.size 0 s.size s.size s M 5 Tryz.underlying158 hinfo (heap_alloc_new w _) (Nat.le_refl _) (by omega)
  obtain ⟨Y, hY⟩ : ∃ Y, Y = (M.toList.take 0 ++ Lib.byteCells s.data.toList ++ M.toList.drop (0 + s.size)).toArray := ⟨_, rfl⟩
  rw [← hY] at hcp
  have hYl : Y.toList = Lib.byteCells s.data.toList := by
   rw [hY, List.toList_toArray, List.take_zero, List.nil_append, List.drop_of_length_le (by rw [Array.length_toList]; omega), List.append_nil]
  have hYs : Y.size = s.size := by rw [← Array.length_toList, hYl, Lib.byteCells_length, ← Lib.size_eq]
  have hgY : ((w.alloc (.cells M 5)).setRow w.heap.size Y).heap[w.heap.size]? = some (.cells Y 5 (0, 0)) := setRow_heap _ _ M _ 5 (0, 0) (heap_alloc_new w _)
  have hne : s.data.toList ≠ [] := fun e => h0 (by rw [Lib.size_eq, e]; rfl)
  have hUS := Lib.run_unsafeString_row (P := Tryz.prog) ((w.alloc (.cells M 5)).setRow w.heap.size Y) 175 3 9 5 Tryz.underlying175 hco w.heap.size Y.size (by unfold World.shape?; rw [hgY]) s.data.toList hne (by rw [← Lib.size_eq]; omega) (by rw [← Lib.size_eq]; omega)
   (fun j x hx => Lib.cells_of_row hgY Y.size j _ (by rw [List.take_of_length_le (by rw [Array.length_toList]; exact Nat.le_refl _), hYl]; simp [Lib.byteCells, hx]))
  rw [← Lib.size_eq] at hUS
  clear hY
  go_enter Tryz.func166, Tryz.ntmps166
  go_wp2
  go_ret
  have hb1 : Below w.heap.size w (w.alloc (.cells M 5)) := (Below.refl _ w).alloc (Nat.le_refl _) _
  have hb2 : Below w.heap.size (w.alloc (.cells M 5)) ((w.alloc (.cells M 5)).setRow w.heap.size Y) := ⟨rfl, rfl, rfl, by simp, fun k hk => setRow_other _ _ _ _ (by omega)⟩
  exact ⟨rfl, Lib.below_freeze (hb1.trans hb2) (p := ⟨w.heap.size, 0, none⟩) (Nat.le_refl _) _⟩
theorem clone_any (s : ByteArray) (w : World) (hlim : s.size ≤ 1000000) :
  Calls Tryz.prog 142 #[.string s] w fun e w' => e = .returned (.string s) ∧ Below w.heap.size w w' := by
 have HC := clone0 s w hlim
 go_enter Tryz.func142, Tryz.ntmps142
 go_wp2_with (go_at_call 166; refine HC.mono ?_; rintro e w1 ⟨rfl, hw1⟩)
 go_ret
 exact ⟨rfl, hw1⟩
set_option maxRecDepth 100000 in
set_option maxHeartbeats 1000000 in
theorem index0 (s : ByteArray) (c : Int) (w : World) :
  Calls Tryz.prog 167 #[.string s, .int .u8 c] w fun e w' => e = .returned (.int .i64 (Lib.indexByte s.data.toList c.toNat.toUInt8)) ∧ w' = w := by
 have hx := Lib.run_indexByteString (P := Tryz.prog) s c w
 go_enter Tryz.func167, Tryz.ntmps167
 go_wp2
 rw [run_callFunc_extern Tryz.func176 (by kernel_rfl) (by kernel_rfl) (by kernel_rfl) (e := Extern.BytealgIndexByte.indexByte) (by kernel_rfl), hx]
 go_wp2
 go_ret
 exact ⟨rfl, rfl⟩
theorem hasPrefix_any (s : ByteArray) (w : World) :
  Calls Tryz.prog 94 #[.string s, .string ⟨#[47, 47]⟩] w fun e w' => e = .returned (.bool (pre2 s.data.toList)) ∧ w' = w := by
 have HC := hasPrefix0 s w
 go_enter Tryz.func94, Tryz.ntmps94
 go_wp2_with (go_at_call 141; refine HC.mono ?_; rintro e w1 ⟨rfl, hw1⟩)
 go_ret
 exact ⟨rfl, rfl⟩
theorem index_any (s : ByteArray) (c : Int) (w : World) :
  Calls Tryz.prog 146 #[.string s, .int .u8 c] w fun e w' => e = .returned (.int .i64 (Lib.indexByte s.data.toList c.toNat.toUInt8)) ∧ w' = w := by
 have HC := index0 s c w
 go_enter Tryz.func146, Tryz.ntmps146
 go_wp2_with (go_at_call 167; refine HC.mono ?_; rintro e w1 ⟨rfl, hw1⟩)
 go_ret
 exact ⟨rfl, rfl⟩
end
end Go.Proofs.YtoeodjobggodcaaGreatDoor
/- Where blanks and remarks end. -/
namespace Go.Proofs.YtoeodjobggodcaaGreatDoor
section
open Go.RowKit
def blk : Bool → List UInt8 → Nat
 | _, [] => 0
 | true, c :: r => if c = 10 then blk false r + 1 else blk true r + 1
 | false, c :: r => if isBl c then blk false r + 1 else if pre2 (c :: r) then blk true r + 1 else 0
theorem blk_le (b : Bool) (l : List UInt8) : blk b l ≤ l.length := by
 induction l generalizing b with
 | nil => cases b <;> exact Nat.le_refl _
 | cons c r ih =>
  have h1 := ih true
  have h2 := ih false
  cases b <;> simp only [blk, List.length_cons]
  ·split
   ·omega
   ·split <;> omega
  ·split <;> omega
def blkAt (b : Bool) (s : ByteArray) (m : Nat) : Nat := m + blk b (tl s m)
theorem blkAt_end (b : Bool) {s : ByteArray} {m : Nat} (h : s.size ≤ m) : blkAt b s m = m := by
 unfold blkAt; rw [tl_end h]; cases b <;> rfl
theorem blkAt_rem {s : ByteArray} {m : Nat} (h : m < s.size) (hc : ¬ (s[m].toNat : Int) = 10) : blkAt true s m = blkAt true s (m + 1) := by
 have h1 : ¬ s[m] = 10 := fun e => hc (by rw [e]; rfl)
 unfold blkAt; rw [tl_cons h, blk, if_neg h1]; omega
theorem blkAt_lf {s : ByteArray} {m : Nat} (h : m < s.size) (hc : (s[m].toNat : Int) = 10) : blkAt true s m = blkAt false s m := by
 have h0 : s[m].toNat = 10 := by omega
 have h1 : s[m] = 10 := UInt8.toNat_inj.1 h0
 have h2 : isBl s[m] = true := by rw [h1]; rfl
 unfold blkAt; rw [tl_cons h, blk, if_pos h1, blk, if_pos h2]
theorem blkAt_bl {s : ByteArray} {m : Nat} (h : m < s.size) (hc : isBl s[m] = true) : blkAt false s m = blkAt false s (m + 1) := by
 unfold blkAt; rw [tl_cons h, blk, if_pos hc]; omega
theorem blkAt_slash {s : ByteArray} {m : Nat} (hc : pre2 (tl s m) = true) : blkAt false s m = blkAt true s m := by
 by_cases h : m < s.size
 ·unfold blkAt
  rw [tl_cons h] at hc ⊢
  have h1 : s[m] = 47 := by
   cases ht : tl s (m + 1) with
   | nil => rw [ht] at hc; cases hc
   | cons d r => rw [ht] at hc; simp [pre2] at hc; exact hc.1
  have h2 : isBl s[m] = false := by rw [h1]; rfl
  have h3 : ¬ s[m] = 10 := by rw [h1]; decide
  rw [blk, blk, if_neg h3, if_neg (by rw [h2]; decide), if_pos hc]
 ·rw [blkAt_end _ (by omega), blkAt_end _ (by omega)]
theorem blkAt_no {s : ByteArray} {m : Nat} (hb : m < s.size → isBl s[m]! = false) (hc : pre2 (tl s m) = false) : blkAt false s m = m := by
 by_cases h : m < s.size
 ·have h1 := hb h
  rw [getElem!_pos s m h] at h1
  unfold blkAt
  rw [tl_cons h] at hc ⊢
  rw [blk, if_neg (by rw [h1]; decide), if_neg (by rw [hc]; decide)]
  rfl
 ·exact blkAt_end _ (by omega)
theorem tl_extract (s : ByteArray) (m : Nat) : (s.extract m s.size).data.toList = tl s m := by
 rw [Lib.extract_data]
 unfold tl
 rw [List.take_of_length_le]
 rw [List.length_drop, ← Lib.size_eq]
 exact Nat.le_refl _
set_option maxRecDepth 100000 in
set_option maxHeartbeats 2000000 in
theorem behindBlanks_any (s : ByteArray) (k : Nat) (hk : k ≤ s.size) (hs : s.size ≤ 1000000) (w : World) :
  Calls Tryz.prog 53 #[.string s, .int .i64 (k : Int)] w fun e w' => e = .returned (.int .i64 (blkAt false s k : Int)) ∧ w' = w := by
 go_enter Tryz.func53, Tryz.ntmps53
 go_wp2
 refine wp_scope_labels (fun l a' w' => w' = w ∧ ∃ (m : Nat) (u5 u6 u7 u8 u9 u10 u11 u12 u13 u14 u15 u16 u17 u18 u19 u20 u21 u22 u23 u24 u25 u26 u27 u28 u29 u30 u31 u32 u33 : Value), a' = { tmps := #[.string s, .int .i64 (m : Int), undef, undef, .int .i64 0, u5, u6, u7, u8, u9, u10, u11, u12, u13, u14, u15, u16, u17, u18, u19, u20, u21, u22, u23, u24, u25, u26, u27, u28, u29, u30, u31, u32, u33], defers := [] } ∧ m ≤ s.size ∧ ((l = 0 ∧ blkAt false s m = blkAt false s k) ∨ (l = 1 ∧ blkAt true s m = blkAt false s k))) (fun l a' _ => 2 * (s.size - (intOf (a'.tmps.getD 1 undef)).toNat) + (if l = 0 then 0 else 1)) ?pass ?first
 case first => exact wp_first_label rfl ⟨rfl, k, _, _, _, _, _, _, _, _, _, _, _, _, _, _, _, _, _, _, _, _, _, _, _, _, _, _, _, _, _, rfl, hk, .inl ⟨rfl, rfl⟩⟩
 case pass =>
  rintro l a' w' ⟨rfl, m, u5, u6, u7, u8, u9, u10, u11, u12, u13, u14, u15, u16, u17, u18, u19, u20, u21, u22, u23, u24, u25, u26, u27, u28, u29, u30, u31, u32, u33, rfl, hm, (⟨rfl, he⟩ | ⟨rfl, he⟩)⟩
  ·refine ⟨_, rfl, ?_⟩
   have HP := Hid.intro (hasPrefix_any (s.extract m s.size) w')
   rw [tl_extract] at HP
   cases hb : (if h : m < s.size then isBl s[m] else false) with
   | true =>
    have hlt : m < s.size := by by_cases h : m < s.size; exact h; rw [dif_neg h] at hb; cases hb
    rw [dif_pos hlt] at hb
    have hlt' : (m : Int) < (s.size : Int) := by omega
    have hq := (blkAt_bl hlt hb).symm.trans he
    have HB := blank_any (s[m].toNat : Int) w'
    rw [show blB (s[m].toNat : Int) = true from hb] at HB
    go_wp2_with (go_at_call 93; refine HB.mono ?_; rintro e w1 ⟨rfl, hw1⟩; subst w1)
    go_step3
    exact ⟨⟨rfl, m + 1, _, _, _, _, _, _, _, _, _, _, _, _, _, _, _, _, _, _, _, _, _, _, _, _, _, _, _, _, _, rfl, hlt, .inl ⟨rfl, hq⟩⟩, by simp [intOf]; omega⟩
   | false =>
    cases hc : pre2 (tl s m) with
    | false =>
     have hq : blkAt false s k = m := by
      rw [← he]
      refine blkAt_no (fun h => ?_) hc
      rw [dif_pos h] at hb
      rw [getElem!_pos s m h]
      exact hb
     rw [hc] at HP
     by_cases hlt : m < s.size
     ·rw [dif_pos hlt] at hb
      have hlt' : (m : Int) < (s.size : Int) := by omega
      have HB := blank_any (s[m].toNat : Int) w'
      rw [show blB (s[m].toNat : Int) = false from hb] at HB
      go_wp2_with (first | (go_at_call 93; refine HB.mono ?_; rintro e w1 ⟨rfl, hw1⟩; subst w1) | (go_at_call 94; refine HP.out.mono ?_; rintro e w1 ⟨rfl, hw1⟩; subst w1))
      go_ret
      exact ⟨by rw [hq]; rfl, rfl⟩
     ·have hlt' : ¬ (m : Int) < (s.size : Int) := by omega
      go_wp2_with (go_at_call 94; refine HP.out.mono ?_; rintro e w1 ⟨rfl, hw1⟩; subst w1)
      go_ret
      exact ⟨by rw [hq]; rfl, rfl⟩
    | true =>
     have hlt : m < s.size := by
      by_cases h : m < s.size
      ·exact h
      ·rw [tl_end (by omega)] at hc; cases hc
     have h47 : (s[m].toNat : Int) = 47 := by
      rw [tl_cons hlt] at hc
      cases ht : tl s (m + 1) with
      | nil => rw [ht] at hc; cases hc
      | cons d r => rw [ht] at hc; simp [pre2] at hc; rw [hc.1]; rfl
     have hq := (blkAt_rem hlt (by rw [h47]; decide)).symm.trans ((blkAt_slash hc).symm.trans he)
     rw [hc] at HP
     rw [dif_pos hlt] at hb
     have hlt' : (m : Int) < (s.size : Int) := by omega
     have hx : ((m : Int) == (s.size : Int)) = false := beq_false_of_ne (by omega)
     have HB := blank_any (s[m].toNat : Int) w'
     rw [show blB (s[m].toNat : Int) = false from hb] at HB
     have hc' : ((s[m].toNat : Int) == 10) = false := beq_false_of_ne (by rw [h47]; decide)
     clear h47
     go_wp2_with (first | (go_at_call 93; refine HB.mono ?_; rintro e w1 ⟨rfl, hw1⟩; subst w1) | (go_at_call 94; refine HP.out.mono ?_; rintro e w1 ⟨rfl, hw1⟩; subst w1))
     go_step3
     go_wp2
     go_step3
     exact ⟨⟨rfl, m + 1, _, _, _, _, _, _, _, _, _, _, _, _, _, _, _, _, _, _, _, _, _, _, _, _, _, _, _, _, _, rfl, hlt, .inr ⟨rfl, hq⟩⟩, by simp [intOf]; omega⟩
  ·refine ⟨_, rfl, ?_⟩
   by_cases hlt : m < s.size
   ·by_cases hc : (s[m].toNat : Int) = 10
    ·have hq := (blkAt_lf hlt hc).symm.trans he
     have hx : ((m : Int) == (s.size : Int)) = false := beq_false_of_ne (by omega)
     go_wp2
     go_step3
     exact ⟨⟨rfl, m, _, _, _, _, _, _, _, _, _, _, _, _, _, _, _, _, _, _, _, _, _, _, _, _, _, _, _, _, _, rfl, hm, .inl ⟨rfl, hq⟩⟩, by simp [intOf]⟩
    ·have hq := (blkAt_rem hlt hc).symm.trans he
     have hx : ((m : Int) == (s.size : Int)) = false := beq_false_of_ne (by omega)
     have hc' : ((s[m].toNat : Int) == 10) = false := beq_false_of_ne hc
     go_wp2
     go_step3
     exact ⟨⟨rfl, m + 1, _, _, _, _, _, _, _, _, _, _, _, _, _, _, _, _, _, _, _, _, _, _, _, _, _, _, _, _, _, rfl, hlt, .inr ⟨rfl, hq⟩⟩, by simp [intOf]; omega⟩
   ·obtain rfl : m = s.size := by omega
    have hq : blkAt false s k = s.size := by rw [← he, blkAt_end _ (Nat.le_refl _)]
    go_wp2
    go_ret
    exact ⟨by rw [hq]; rfl, rfl⟩
end
end Go.Proofs.YtoeodjobggodcaaGreatDoor
/- cut, variable, mark: what they tell. -/
namespace Go.Proofs.YtoeodjobggodcaaGreatDoor
section
open Go.RowKit
def F4 (w : World) (b : Nat) (x0 x1 x2 x3 : Value) : Prop :=
 (w.cell? ⟨b, 0, none⟩ = some x0 ∧ w.cell? ⟨b, 1, none⟩ = some x1 ∧ w.cell? ⟨b, 2, none⟩ = some x2 ∧ w.cell? ⟨b, 3, none⟩ = some x3) ∧
 (w.frozen? ⟨b, 0, none⟩ = false ∧ w.frozen? ⟨b, 1, none⟩ = false ∧ w.frozen? ⟨b, 2, none⟩ = false ∧ w.frozen? ⟨b, 3, none⟩ = false)
theorem F4.new (w : World) (x0 x1 x2 x3 : Value) (t : TypeId) : F4 (w.alloc (.cells #[x0, x1, x2, x3] t)) w.heap.size x0 x1 x2 x3 := by
 have h : (w.alloc (.cells #[x0, x1, x2, x3] t)).heap[w.heap.size]? = some (.cells #[x0, x1, x2, x3] t) := heap_alloc_new w _
 refine ⟨four_new w x0 x1 x2 x3 t, ?_, ?_, ?_, ?_⟩ <;> (unfold World.frozen?; rw [h]; rfl)
theorem F4.below {w w1 : World} {n b : Nat} {x0 x1 x2 x3 : Value} (h : F4 w b x0 x1 x2 x3) (hb : b < n) (hw : Below n w w1) : F4 w1 b x0 x1 x2 x3 := by
 obtain ⟨⟨a0, a1, a2, a3⟩, f0, f1, f2, f3⟩ := h
 refine ⟨⟨?_, ?_, ?_, ?_⟩, ?_, ?_, ?_, ?_⟩
 ·rw [hw.cell (p := ⟨b, 0, none⟩) hb]; exact a0
 ·rw [hw.cell (p := ⟨b, 1, none⟩) hb]; exact a1
 ·rw [hw.cell (p := ⟨b, 2, none⟩) hb]; exact a2
 ·rw [hw.cell (p := ⟨b, 3, none⟩) hb]; exact a3
 ·rw [hw.frozen (p := ⟨b, 0, none⟩) hb]; exact f0
 ·rw [hw.frozen (p := ⟨b, 1, none⟩) hb]; exact f1
 ·rw [hw.frozen (p := ⟨b, 2, none⟩) hb]; exact f2
 ·rw [hw.frozen (p := ⟨b, 3, none⟩) hb]; exact f3
theorem F4.call {w w1 : World} {x0 x1 x2 x3 : Value} {t : TypeId} (hw : Below (w.alloc (.cells #[x0, x1, x2, x3] t)).heap.size (w.alloc (.cells #[x0, x1, x2, x3] t)) w1) : F4 w1 w.heap.size x0 x1 x2 x3 :=
 (F4.new w x0 x1 x2 x3 t).below (by simp) hw
theorem F4.put {w : World} {b : Nat} {x0 x1 x2 x3 : Value} (h : F4 w b x0 x1 x2 x3) (v0 v1 v2 v3 : Value) :
  F4 ((((w.setCell ⟨b, 0, none⟩ v0).setCell ⟨b, 1, none⟩ v1).setCell ⟨b, 2, none⟩ v2).setCell ⟨b, 3, none⟩ v3) b v0 v1 v2 v3 := by
 obtain ⟨⟨h0, h1, h2, h3⟩, f0, f1, f2, f3⟩ := h
 have o (W : World) (v : Value) (i j : Nat) (hij : i ≠ j) : (W.setCell ⟨b, i, none⟩ v).cell? ⟨b, j, none⟩ = W.cell? ⟨b, j, none⟩ := World.cell?_setCell_other W _ _ v (by intro e; injection e with e1 e2; exact hij e2)
 refine ⟨⟨?_, ?_, ?_, ?_⟩, by simpa using f0, by simpa using f1, by simpa using f2, by simpa using f3⟩
 ·rw [o _ _ 3 0 (by omega), o _ _ 2 0 (by omega), o _ _ 1 0 (by omega)]
  exact World.cell?_setCell_same _ _ _ h0
 ·rw [o _ _ 3 1 (by omega), o _ _ 2 1 (by omega)]
  exact World.cell?_setCell_same _ _ _ ((o _ _ 0 1 (by omega)).trans h1)
 ·rw [o _ _ 3 2 (by omega)]
  exact World.cell?_setCell_same _ _ _ ((o _ _ 1 2 (by omega)).trans ((o _ _ 0 2 (by omega)).trans h2))
 ·exact World.cell?_setCell_same _ _ _ ((o _ _ 2 3 (by omega)).trans ((o _ _ 1 3 (by omega)).trans ((o _ _ 0 3 (by omega)).trans h3)))
theorem below_set4 {a w : World} (h : Below a.heap.size a w) {b : Nat} (hb : a.heap.size ≤ b) (v0 v1 v2 v3 : Value) :
  Below a.heap.size a ((((w.setCell ⟨b, 0, none⟩ v0).setCell ⟨b, 1, none⟩ v1).setCell ⟨b, 2, none⟩ v2).setCell ⟨b, 3, none⟩ v3) :=
 (((h.setCell (p := ⟨b, 0, none⟩) hb _).setCell (p := ⟨b, 1, none⟩) hb _).setCell (p := ⟨b, 2, none⟩) hb _).setCell (p := ⟨b, 3, none⟩) hb _
theorem below_of {w w1 : World} {o : Obj} (h : Below (w.alloc o).heap.size (w.alloc o) w1) : Below w.heap.size w w1 := h.via (below_al (Below.refl _ _) _)
set_option maxRecDepth 100000 in
set_option maxHeartbeats 2000000 in
theorem cut_any (kd : Int) (s : ByteArray) (at_ : Int) (f e : Nat) (hf : f ≤ e) (he : e ≤ s.size) (hs : s.size ≤ 1000000) (w : World) :
  Calls Tryz.prog 96 #[.int .i64 kd, .string s, .int .i64 at_, .int .i64 (f : Int), .int .i64 (e : Int)] w fun x w' => x = .returned (lxv kd (s.extract f e) at_ (e : Int)) ∧ Below w.heap.size w w' := by
 have HC := fun w => Hid.intro (clone_any (s.extract f e) w (by rw [Lib.size_eq, Lib.extract_data, List.length_take, List.length_drop, ← Lib.size_eq]; omega))
 go_enter Tryz.func96, Tryz.ntmps96
 go_wp2_with (go_at_call 142; refine (HC _).out.mono ?_; rintro e w1 ⟨rfl, hw1⟩; have HF := Hid.intro (F4.call hw1); have HB := Hid.intro (below_of hw1); obtain ⟨⟨z0, z1, z2, z3⟩, y0, y1, y2, y3⟩ := HF.out; clear hw1)
 refine bodyPost_ret (v := lxv kd (s.extract f e) at_ e) ?_ rfl ⟨rfl, below_set4 HB.out (Nat.le_refl _) _ _ _ _⟩
 obtain ⟨⟨g0, g1, g2, g3⟩, -⟩ := HF.out.put (.int .i64 kd) (.string (s.extract f e)) (.int .i64 at_) (.int .i64 e)
 simp [results, Tryz.results96, go_sem, g0, g1, g2, g3, lxv]
structure Lx where
 k : Int
 t : ByteArray
 a : Nat
 e : Nat
def Lx.v (x : Lx) : Value := lxv x.k x.t x.a x.e
def bs (l : List UInt8) : ByteArray := ⟨l.toArray⟩
theorem bs_extract (s : ByteArray) (a b : Nat) : s.extract a b = bs ((tl s a).take (b - a)) := Lib.extract_eq s a b
theorem bs_run (p : UInt8 → Bool) (s : ByteArray) (k : Nat) : s.extract k (k + run p s k) = bs ((tl s k).takeWhile p) := by
 rw [bs_extract]
 congr 1
 rw [Nat.add_sub_cancel_left]
 unfold run
 exact (List.prefix_iff_eq_take.1 (List.takeWhile_prefix p)).symm
def told (r : Option Lx) (a : Nat) : Value := match r with
 | some x => .tuple #[x.v, .bool true]
 | none => .tuple #[lxv 0 ⟨#[]⟩ a 0, .bool false]
def varL (a : Nat) (l : List UInt8) : Option Lx := match l with
 | c :: _ => if isLet c then some ⟨1, bs (l.takeWhile isCh), a, a + 1 + (l.takeWhile isCh).length⟩ else none
 | [] => none
set_option maxRecDepth 100000 in
set_option maxHeartbeats 2000000 in
theorem variable_any (s : ByteArray) (a : Nat) (ha : a < s.size) (hs : s.size ≤ 1000000) (w : World) :
  Calls Tryz.prog 100 #[.string s, .int .i64 (a : Int)] w fun x w' => x = .returned (told (varL a (tl s (a + 1))) a) ∧ Below w.heap.size w w' := by
 have HBr := fun w => Hid.intro (barred_any (a : Int) w)
 by_cases hlt : a + 1 < s.size
 ·have hx : ((a : Int) + 1 == (s.size : Int)) = false := beq_false_of_ne (by omega)
  have hi : (a : Int) + 1 < (s.size : Int) := by omega
  have hi0 : (0 : Int) ≤ (a : Int) + 1 := by omega
  have HL := fun w => letter_any (s[a + 1].toNat : Int) w
  cases hl : letB (s[a + 1].toNat : Int) with
  | true =>
   rw [hl] at HL
   have HW := fun w => Hid.intro (behindWord_any s (a + 1) (by omega) hs w)
   have HC := fun w => Hid.intro (cut_any 1 s a (a + 1) (a + 1 + run isCh s (a + 1)) (by omega) (run_le isCh s (a + 1) (by omega)) hs w)
   have hm : told (varL a (tl s (a + 1))) a = .tuple #[lxv 1 (s.extract (a + 1) (a + 1 + run isCh s (a + 1))) a ((a + 1 + run isCh s (a + 1) : Nat) : Int), .bool true] := by
    rw [bs_run]
    have : varL a (tl s (a + 1)) = some ⟨1, bs ((tl s (a + 1)).takeWhile isCh), a, a + 1 + ((tl s (a + 1)).takeWhile isCh).length⟩ := by
     unfold varL
     rw [tl_cons hlt]
     simp only [isLet, hl, if_true]
    rw [this]; rfl
   rw [hm]
   clear hm
   have hcast : ((a + 1 : Nat) : Int) = (a : Int) + 1 := rfl
   simp only [hcast] at HW HC
   generalize a + 1 + run isCh s (a + 1) = E at HW HC ⊢
   generalize s.extract (a + 1) E = T at HC ⊢
   simp only [lxv] at HC
   go_enter Tryz.func100, Tryz.ntmps100
   go_wp2_with (first | (go_at_call 95; refine (HL _).mono ?_; rintro e w1 ⟨rfl, hw1⟩; subst w1) | (go_at_call 97; refine (HW _).out.mono ?_; rintro e w1 ⟨rfl, hw1⟩; subst w1) | (go_at_call 96; refine (HC _).out.mono ?_; rintro e w1 ⟨rfl, hw1⟩; have HF := Hid.intro (F4.call hw1); have HB := Hid.intro (below_of hw1); obtain ⟨⟨z0, z1, z2, z3⟩, y0, y1, y2, y3⟩ := HF.out; clear hw1))
   refine bodyPost_ret (v := .tuple #[lxv 1 T (a : Int) (E : Int), .bool true]) ?_ rfl ⟨rfl, below_set4 HB.out (Nat.le_refl _) _ _ _ _⟩
   obtain ⟨⟨g0, g1, g2, g3⟩, -⟩ := HF.out.put (.int .i64 1) (.string T) (.int .i64 (a : Int)) (.int .i64 (E : Int))
   simp [results, Tryz.results100, go_sem, g0, g1, g2, g3, lxv]
  | false =>
   rw [hl] at HL
   have hm : varL a (tl s (a + 1)) = none := by
    unfold varL
    rw [tl_cons hlt]
    simp only [isLet, hl]
    rfl
   rw [hm]
   clear hm
   simp only [lxv] at HBr
   go_enter Tryz.func100, Tryz.ntmps100
   go_wp2_with (first | (go_at_call 95; refine (HL _).mono ?_; rintro e w1 ⟨rfl, hw1⟩; subst w1) | (go_at_call 143; refine (HBr _).out.mono ?_; rintro e w1 ⟨rfl, hw1⟩; have HF := Hid.intro (F4.call hw1); have HB := Hid.intro (below_of hw1); obtain ⟨⟨z0, z1, z2, z3⟩, y0, y1, y2, y3⟩ := HF.out; clear hw1))
   refine bodyPost_ret (v := .tuple #[lxv 0 ⟨#[]⟩ (a : Int) 0, .bool false]) ?_ rfl ⟨rfl, below_set4 HB.out (Nat.le_refl _) _ _ _ _⟩
   obtain ⟨⟨g0, g1, g2, g3⟩, -⟩ := HF.out.put (.int .i64 0) (.string ⟨#[]⟩) (.int .i64 (a : Int)) (.int .i64 0)
   simp [results, Tryz.results100, go_sem, g0, g1, g2, g3, lxv]
 ·have hx : ((a : Int) + 1 == (s.size : Int)) = true := beq_iff_eq.2 (by omega)
  have hm : varL a (tl s (a + 1)) = none := by
   unfold varL
   rw [tl_end (by omega)]
  rw [hm]
  clear hm
  simp only [lxv] at HBr
  go_enter Tryz.func100, Tryz.ntmps100
  go_wp2_with (go_at_call 143; refine (HBr _).out.mono ?_; rintro e w1 ⟨rfl, hw1⟩; have HF := Hid.intro (F4.call hw1); have HB := Hid.intro (below_of hw1); obtain ⟨⟨z0, z1, z2, z3⟩, y0, y1, y2, y3⟩ := HF.out; clear hw1)
  refine bodyPost_ret (v := .tuple #[lxv 0 ⟨#[]⟩ (a : Int) 0, .bool false]) ?_ rfl ⟨rfl, below_set4 HB.out (Nat.le_refl _) _ _ _ _⟩
  obtain ⟨⟨g0, g1, g2, g3⟩, -⟩ := HF.out.put (.int .i64 0) (.string ⟨#[]⟩) (.int .i64 (a : Int)) (.int .i64 0)
  simp [results, Tryz.results100, go_sem, g0, g1, g2, g3, lxv]
end
end Go.Proofs.YtoeodjobggodcaaGreatDoor
/- mark: what it tells. -/
namespace Go.Proofs.YtoeodjobggodcaaGreatDoor
section
open Go.RowKit
def m1 : List UInt8 := [40, 41, 91, 93, 123, 125, 44, 46, 58, 59, 63, 60, 62, 61, 43, 45, 42, 47, 37, 33]
def markB (c : UInt8) : Bool := !decide (Lib.indexByte m1 c < 0)
def twoL (l : List UInt8) : Bool := decide (2 ≤ l.length) && twoB (bs (l.take 2))
def markL (a : Nat) (l : List UInt8) : Option Lx := match l with
 | c :: r => if twoL (c :: r) then some ⟨4, bs ((c :: r).take 2), a, a + 2⟩ else if markB c then some ⟨4, bs [c], a, a + 1⟩ else none
 | [] => none
set_option maxRecDepth 100000 in
set_option maxHeartbeats 4000000 in
theorem mark_any (s : ByteArray) (a : Nat) (ha : a < s.size) (hs : s.size ≤ 1000000) (w : World) :
  Calls Tryz.prog 102 #[.string s, .int .i64 (a : Int)] w fun x w' => x = .returned (told (markL a (tl s a)) a) ∧ Below w.heap.size w w' := by
 have HBr := fun w => Hid.intro (barred_any (a : Int) w)
 have hi : (a : Int) < (s.size : Int) := by omega
 have hidx : Lib.indexByte (⟨#[40, 41, 91, 93, 123, 125, 44, 46, 58, 59, 63, 60, 62, 61, 43, 45, 42, 47, 37, 33]⟩ : ByteArray).data.toList (s[a].toNat : Int).toNat.toUInt8 = Lib.indexByte m1 s[a] := by
  have : (s[a].toNat : Int).toNat.toUInt8 = s[a] := by simp
  rw [this]; rfl
 by_cases hlt : a + 1 < s.size
 ·have hx : (a : Int) + 1 < (s.size : Int) := by omega
  have hl2 : 2 ≤ (tl s a).length := by rw [tl_len]; omega
  have he2 : s.extract a (a + 2) = bs ((tl s a).take 2) := by rw [bs_extract, Nat.add_sub_cancel_left]
  have htw : twoL (tl s a) = twoB (s.extract a (a + 2)) := by rw [he2]; simp [twoL, hl2]
  have HT := fun w => two_any (s.extract a (a + 2)) w
  cases h2 : twoB (s.extract a (a + 2)) with
  | true =>
   rw [h2] at HT htw
   have hm : markL a (tl s a) = some ⟨4, s.extract a (a + 2), a, a + 2⟩ := by
    rw [he2]
    rw [tl_cons ha] at htw ⊢
    unfold markL
    simp only [htw, if_true]
   have HC := fun w => Hid.intro (cut_any 4 s a a (a + 2) (by omega) (by omega) hs w)
   rw [hm]
   simp only [told, Lx.v]
   have hcast : ((a + 2 : Nat) : Int) = (a : Int) + 2 := rfl
   simp only [hcast] at HC ⊢
   clear hm htw h2 he2 hidx
   generalize hT : s.extract a (a + 2) = T at HC HT ⊢
   simp only [lxv] at HC
   go_enter Tryz.func102, Tryz.ntmps102
   go_wp2_with (first | (rw [hT]; go_at_call 145; refine (HT _).mono ?_; rintro e w1 ⟨rfl, hw1⟩; subst w1) | (go_at_call 96; refine (HC _).out.mono ?_; rintro e w1 ⟨rfl, hw1⟩; have HF := Hid.intro (F4.call hw1); have HB := Hid.intro (below_of hw1); obtain ⟨⟨z0, z1, z2, z3⟩, y0, y1, y2, y3⟩ := HF.out; clear hw1))
   refine bodyPost_ret (v := .tuple #[lxv 4 T (a : Int) ((a : Int) + 2), .bool true]) ?_ rfl ⟨rfl, below_set4 HB.out (Nat.le_refl _) _ _ _ _⟩
   obtain ⟨⟨g0, g1, g2, g3⟩, -⟩ := HF.out.put (.int .i64 4) (.string T) (.int .i64 (a : Int)) (.int .i64 ((a : Int) + 2))
   simp [results, Tryz.results102, go_sem, g0, g1, g2, g3, lxv]
  | false =>
   rw [h2] at HT htw
   have hmL : markL a (tl s a) = if markB s[a] then some ⟨4, bs [s[a]], a, a + 1⟩ else none := by
    rw [tl_cons ha] at htw ⊢
    simp only [markL, htw]
    rfl
   clear htw h2 he2 hl2
   have HI := fun w => index_any ⟨#[40, 41, 91, 93, 123, 125, 44, 46, 58, 59, 63, 60, 62, 61, 43, 45, 42, 47, 37, 33]⟩ (s[a].toNat : Int) w
   rw [hidx] at HI
   cases h1 : markB s[a] with
   | true =>
    have hm : markL a (tl s a) = some ⟨4, bs [s[a]], a, a + 1⟩ := by rw [hmL, h1]; rfl
    have HC := fun w => Hid.intro (cut_any 4 s a a (a + 1) (by omega) (by omega) hs w)
    have hex : s.extract a (a + 1) = bs [s[a]] := by
     rw [bs_extract, tl_cons ha, Nat.add_sub_cancel_left]; rfl
    rw [hm]
    have hge : ¬ Lib.indexByte m1 s[a] < 0 := by simpa [markB] using h1
    generalize Lib.indexByte m1 s[a] = ix at HI hge
    rw [hex] at HC
    simp only [told, Lx.v]
    have hcast : ((a + 1 : Nat) : Int) = (a : Int) + 1 := rfl
    simp only [hcast] at HC ⊢
    generalize bs [s[a]] = T at HC ⊢
    clear hm hmL h1 hidx hex
    simp only [lxv] at HC
    go_enter Tryz.func102, Tryz.ntmps102
    go_wp2_with (first | (go_at_call 145; refine (HT _).mono ?_; rintro e w1 ⟨rfl, hw1⟩; subst w1) | (go_at_call 146; refine (HI _).mono ?_; rintro e w1 ⟨rfl, hw1⟩; subst w1) | (go_at_call 96; refine (HC _).out.mono ?_; rintro e w1 ⟨rfl, hw1⟩; have HF := Hid.intro (F4.call hw1); have HB := Hid.intro (below_of hw1); obtain ⟨⟨z0, z1, z2, z3⟩, y0, y1, y2, y3⟩ := HF.out; clear hw1))
    refine bodyPost_ret (v := .tuple #[lxv 4 T (a : Int) ((a : Int) + 1), .bool true]) ?_ rfl ⟨rfl, below_set4 HB.out (Nat.le_refl _) _ _ _ _⟩
    obtain ⟨⟨g0, g1, g2, g3⟩, -⟩ := HF.out.put (.int .i64 4) (.string T) (.int .i64 (a : Int)) (.int .i64 ((a : Int) + 1))
    simp [results, Tryz.results102, go_sem, g0, g1, g2, g3, lxv]
   | false =>
    have hm : markL a (tl s a) = none := by rw [hmL, h1]; rfl
    rw [hm]
    have hge : Lib.indexByte m1 s[a] < 0 := by simpa [markB] using h1
    generalize Lib.indexByte m1 s[a] = ix at HI hge
    clear hm hmL h1 hidx
    simp only [lxv] at HBr
    go_enter Tryz.func102, Tryz.ntmps102
    go_wp2_with (first | (go_at_call 145; refine (HT _).mono ?_; rintro e w1 ⟨rfl, hw1⟩; subst w1) | (go_at_call 146; refine (HI _).mono ?_; rintro e w1 ⟨rfl, hw1⟩; subst w1) | (go_at_call 143; refine (HBr _).out.mono ?_; rintro e w1 ⟨rfl, hw1⟩; have HF := Hid.intro (F4.call hw1); have HB := Hid.intro (below_of hw1); obtain ⟨⟨z0, z1, z2, z3⟩, y0, y1, y2, y3⟩ := HF.out; clear hw1))
    refine bodyPost_ret (v := .tuple #[lxv 0 ⟨#[]⟩ (a : Int) 0, .bool false]) ?_ rfl ⟨rfl, below_set4 HB.out (Nat.le_refl _) _ _ _ _⟩
    obtain ⟨⟨g0, g1, g2, g3⟩, -⟩ := HF.out.put (.int .i64 0) (.string ⟨#[]⟩) (.int .i64 (a : Int)) (.int .i64 0)
    simp [results, Tryz.results102, go_sem, g0, g1, g2, g3, lxv]
 ·have hx : ¬ (a : Int) + 1 < (s.size : Int) := by omega
  have hmL : markL a (tl s a) = if markB s[a] then some ⟨4, bs [s[a]], a, a + 1⟩ else none := by
   have htw : twoL (tl s a) = false := by
    unfold twoL
    have : ¬ 2 ≤ (tl s a).length := by rw [tl_len]; omega
    simp [this]
   rw [tl_cons ha] at htw ⊢
   simp only [markL, htw]
   rfl
  have HI := fun w => index_any ⟨#[40, 41, 91, 93, 123, 125, 44, 46, 58, 59, 63, 60, 62, 61, 43, 45, 42, 47, 37, 33]⟩ (s[a].toNat : Int) w
  rw [hidx] at HI
  cases h1 : markB s[a] with
  | true =>
   have hm : markL a (tl s a) = some ⟨4, bs [s[a]], a, a + 1⟩ := by rw [hmL, h1]; rfl
   have HC := fun w => Hid.intro (cut_any 4 s a a (a + 1) (by omega) (by omega) hs w)
   have hex : s.extract a (a + 1) = bs [s[a]] := by
    rw [bs_extract, tl_cons ha, Nat.add_sub_cancel_left]; rfl
   rw [hm]
   have hge : ¬ Lib.indexByte m1 s[a] < 0 := by simpa [markB] using h1
   generalize Lib.indexByte m1 s[a] = ix at HI hge
   rw [hex] at HC
   simp only [told, Lx.v]
   have hcast : ((a + 1 : Nat) : Int) = (a : Int) + 1 := rfl
   simp only [hcast] at HC ⊢
   generalize bs [s[a]] = T at HC ⊢
   clear hm hmL h1 hidx hex
   simp only [lxv] at HC
   go_enter Tryz.func102, Tryz.ntmps102
   go_wp2_with (first | (go_at_call 146; refine (HI _).mono ?_; rintro e w1 ⟨rfl, hw1⟩; subst w1) | (go_at_call 96; refine (HC _).out.mono ?_; rintro e w1 ⟨rfl, hw1⟩; have HF := Hid.intro (F4.call hw1); have HB := Hid.intro (below_of hw1); obtain ⟨⟨z0, z1, z2, z3⟩, y0, y1, y2, y3⟩ := HF.out; clear hw1))
   refine bodyPost_ret (v := .tuple #[lxv 4 T (a : Int) ((a : Int) + 1), .bool true]) ?_ rfl ⟨rfl, below_set4 HB.out (Nat.le_refl _) _ _ _ _⟩
   obtain ⟨⟨g0, g1, g2, g3⟩, -⟩ := HF.out.put (.int .i64 4) (.string T) (.int .i64 (a : Int)) (.int .i64 ((a : Int) + 1))
   simp [results, Tryz.results102, go_sem, g0, g1, g2, g3, lxv]
  | false =>
   have hm : markL a (tl s a) = none := by rw [hmL, h1]; rfl
   rw [hm]
   have hge : Lib.indexByte m1 s[a] < 0 := by simpa [markB] using h1
   generalize Lib.indexByte m1 s[a] = ix at HI hge
   clear hm hmL h1 hidx
   simp only [lxv] at HBr
   go_enter Tryz.func102, Tryz.ntmps102
   go_wp2_with (first | (go_at_call 146; refine (HI _).mono ?_; rintro e w1 ⟨rfl, hw1⟩; subst w1) | (go_at_call 143; refine (HBr _).out.mono ?_; rintro e w1 ⟨rfl, hw1⟩; have HF := Hid.intro (F4.call hw1); have HB := Hid.intro (below_of hw1); obtain ⟨⟨z0, z1, z2, z3⟩, y0, y1, y2, y3⟩ := HF.out; clear hw1))
   refine bodyPost_ret (v := .tuple #[lxv 0 ⟨#[]⟩ (a : Int) 0, .bool false]) ?_ rfl ⟨rfl, below_set4 HB.out (Nat.le_refl _) _ _ _ _⟩
   obtain ⟨⟨g0, g1, g2, g3⟩, -⟩ := HF.out.put (.int .i64 0) (.string ⟨#[]⟩) (.int .i64 (a : Int)) (.int .i64 0)
   simp [results, Tryz.results102, go_sem, g0, g1, g2, g3, lxv]
end
end Go.Proofs.YtoeodjobggodcaaGreatDoor
/- quoted: what it tells. -/
namespace Go.Proofs.YtoeodjobggodcaaGreatDoor
section
open Go.RowKit
def escU (c : UInt8) : Option UInt8 := (escB (c.toNat : Int)).map (fun x => x.toNat.toUInt8)
def quo : List UInt8 → Option (List UInt8 × Nat)
 | [] => none
 | [c] => if c = 34 then some ([], 1) else none
 | c :: d :: r => if c = 34 then some ([], 1) else if c < 32 then none else
   if c = 92 then (match escU d with
    | none => none
    | some x => (quo r).map (fun p => (x :: p.1, p.2 + 2)))
   else (quo (d :: r)).map (fun p => (c :: p.1, p.2 + 1))
theorem quo_end {s : ByteArray} {m : Nat} (h : s.size ≤ m) : quo (tl s m) = none := by rw [tl_end h]; rfl
theorem quo_q {s : ByteArray} {m : Nat} (h : m < s.size) (hc : s[m] = 34) : quo (tl s m) = some ([], 1) := by
 rw [tl_cons h, hc]
 cases tl s (m + 1) <;> rfl
theorem quo_low {s : ByteArray} {m : Nat} (h : m < s.size) (hc : s[m] < 32) : quo (tl s m) = none := by
 have h1 : ¬ s[m] = 34 := fun e => by rw [e] at hc; exact absurd hc (by decide)
 rw [tl_cons h]
 cases tl s (m + 1) with
 | nil => rw [quo, if_neg h1]
 | cons d r => rw [quo, if_neg h1, if_pos hc]
theorem quo_plain {s : ByteArray} {m : Nat} (h : m < s.size) (h1 : ¬ s[m] = 34) (h2 : ¬ s[m] < 32) (h3 : ¬ s[m] = 92) : quo (tl s m) = (quo (tl s (m + 1))).map (fun p => (s[m] :: p.1, p.2 + 1)) := by
 rw [tl_cons h]
 cases ht : tl s (m + 1) with
 | nil => show quo [s[m]] = none; rw [quo, if_neg h1]
 | cons d r => rw [quo, if_neg h1, if_neg h2, if_neg h3]
theorem quo_esc {s : ByteArray} {m : Nat} (h : m < s.size) (h3 : s[m] = 92) (h' : m + 1 < s.size) : quo (tl s m) = (match escU s[m + 1] with
    | none => none
    | some x => (quo (tl s (m + 2))).map (fun p => (x :: p.1, p.2 + 2))) := by
 rw [tl_cons h, tl_cons h', h3]
 rfl
theorem quo_esc0 {s : ByteArray} {m : Nat} (h : m < s.size) (h3 : s[m] = 92) (h' : s.size ≤ m + 1) : quo (tl s m) = none := by
 rw [tl_cons h, tl_end h', h3]
 rfl
def bv (l : List UInt8) : List Value := l.map (fun c => Value.int .u8 (c.toNat : Int))
theorem conv_own {w : World} {base : Nat} {v : Value} {d : List UInt8} (h : w.ownsRow base 5 1 v d.length (bv d)) :
  (convert 158 9 v).run Tryz.prog w = .ok (.string (bs d)) w := by
 obtain ⟨h1, h | ⟨g, cap, cur, rfl, h2, h3, h4, h5, h6, h7⟩⟩ := h
 ·obtain ⟨rfl, h0⟩ := h
  have hd : d = [] := List.eq_nil_of_length_eq_zero h0
  subst hd
  exact run_convert_bytes_nil (w := w) 158 5 Tryz.underlying158 Tryz.underlying5 0 0 _ Tryz.underlying9
 ·refine run_convert_bytes_back w 158 9 5 ⟨g, 0, none⟩ cap d Tryz.underlying158 Tryz.underlying5 Tryz.underlying9 ?_
  intro j hj
  have e : (⟨g, 0, none⟩ : Addr).add j = ⟨g, j, none⟩ := by simp [Addr.add]; intro h; exact h.symm
  rw [e]
  unfold World.cell?
  simp only [h3]
  have hc : (cur.toList.take (d.length * 1))[j]? = (bv d)[j]? := by rw [h7]
  rw [List.getElem?_take_of_lt (by omega), Array.getElem?_toList] at hc
  rw [hc]
  simp [bv, List.getElem?_eq_getElem hj]
theorem news_u8 (w : World) (c : Int) : (∀ j u, [Value.int .u8 c][j]? = some u → (w.alloc (.cells #[.int .u8 c] 5)).cell? ((⟨w.heap.size, 0, none⟩ : Addr).add j) = some u) ∧ (∀ u ∈ [Value.int .u8 c], u.oneCell' = true) :=
 ⟨World.news_of_block (cs := #[.int .u8 c]) (t := 5) (fr := (0, 0)) (heap_alloc_new w _), by intro u hu; simp at hu; subst hu; rfl⟩
theorem own_step {w w1 w2 : World} {B : Nat} {v : Value} {e : TypeId} {size n : Nat} {xs : List Value} (hb : Below w.heap.size w w1) (hg : w1.grownBy w2 v.ownBlock) (ho : w1.ownsRow B e size v n xs) (hB : w.heap.size ≤ B) : Below w.heap.size w w2 :=
 hb.grown hg hb.size (fun j e => Nat.le_trans hB (ho.lt j e).1)
theorem F4.of {w w1 : World} {x0 x1 x2 x3 : Value} {t : TypeId} (h : Below (w.alloc (.cells #[x0, x1, x2, x3] t)).heap.size (w.alloc (.cells #[x0, x1, x2, x3] t)) w1) : F4 w1 w.heap.size x0 x1 x2 x3 := F4.call h
theorem blk_lt {w w1 : World} {o : Obj} (h : Below (w.alloc o).heap.size (w.alloc o) w1) : w.heap.size < w1.heap.size := by
 have := h.size; simp at this; omega
end
end Go.Proofs.YtoeodjobggodcaaGreatDoor
/- quoted: what it tells. -/
namespace Go.Proofs.YtoeodjobggodcaaGreatDoor
section
open Go.RowKit
def quoL (a : Nat) (l : List UInt8) : Option Lx := (quo l).map fun p => ⟨3, bs p.1, a, a + 1 + p.2⟩
structure U76 where
 k : Nat
 u8 : Value
 u9 : Value
 u10 : Value
 u11 : Value
 u12 : Value
 u13 : Value
 u14 : Value
 u15 : Value
 u16 : Value
 u17 : Value
 u18 : Value
 u19 : Value
 u20 : Value
 u21 : Value
 u22 : Value
 u23 : Value
 u24 : Value
 u25 : Value
 u26 : Value
 u27 : Value
 u28 : Value
 u29 : Value
 u30 : Value
 u31 : Value
 u32 : Value
 u33 : Value
 u34 : Value
 u35 : Value
 u36 : Value
 u37 : Value
 u38 : Value
 u39 : Value
 u40 : Value
 u41 : Value
 u42 : Value
 u43 : Value
 u44 : Value
 u45 : Value
 u46 : Value
 u47 : Value
 u48 : Value
 u49 : Value
 u50 : Value
 u51 : Value
 u52 : Value
 u53 : Value
 u54 : Value
 u55 : Value
 u56 : Value
 u57 : Value
 u58 : Value
 u59 : Value
 u60 : Value
 u61 : Value
 u62 : Value
 u63 : Value
 u64 : Value
 u65 : Value
 u66 : Value
 u67 : Value
 u68 : Value
 u69 : Value
 u70 : Value
 u71 : Value
 u72 : Value
 u73 : Value
 u74 : Value
 u75 : Value
set_option maxRecDepth 100000 in
set_option maxHeartbeats 8000000 in
theorem quoted_any (s : ByteArray) (a : Nat) (ha : a < s.size) (hs : s.size ≤ 1000000) (w : World) :
  Calls Tryz.prog 101 #[.string s, .int .i64 (a : Int)] w fun x w' => x = .returned (told (quoL a (tl s (a + 1))) a) ∧ Below w.heap.size w w' := by
 have HBr := fun w => Hid.intro (barred_any (a : Int) w)
 simp only [lxv] at HBr
 obtain ⟨i0, hi, hz0, hz1, hz2⟩ := info_parts info_u8
 have hcast : ((a + 1 : Nat) : Int) = (a : Int) + 1 := rfl
 go_enter Tryz.func101, Tryz.ntmps101
 go_wp2
 refine wp_scope_labels (fun l a' w' => ∃ (m : Nat) (d : List UInt8) (v : Value) (U : U76), a' = { tmps := #[.string s, .int .i64 (a : Int), undef, undef, .pointer (some ⟨w.heap.size, 0, none⟩), .bool false, v, .int .i64 (m : Int), U.u8, U.u9, U.u10, U.u11, U.u12, U.u13, U.u14, U.u15, U.u16, U.u17, U.u18, U.u19, U.u20, U.u21, U.u22, U.u23, U.u24, U.u25, U.u26, U.u27, U.u28, U.u29, U.u30, U.u31, U.u32, U.u33, U.u34, U.u35, U.u36, U.u37, U.u38, U.u39, U.u40, U.u41, U.u42, U.u43, U.u44, U.u45, U.u46, U.u47, U.u48, U.u49, U.u50, U.u51, U.u52, U.u53, U.u54, U.u55, U.u56, U.u57, U.u58, U.u59, U.u60, U.u61, U.u62, U.u63, U.u64, U.u65, U.u66, U.u67, U.u68, U.u69, U.u70, U.u71, U.u72, U.u73, U.u74, U.u75], defers := [] } ∧ Hid (Below (w.alloc (.cells #[.int .i64 0, .string ⟨#[]⟩, .int .i64 0, .int .i64 0] 47)).heap.size (w.alloc (.cells #[.int .i64 0, .string ⟨#[]⟩, .int .i64 0, .int .i64 0] 47)) w') ∧ Hid (w'.ownsRow (w.heap.size + 1) 5 1 v d.length (bv d)) ∧ m ≤ s.size ∧ a + 1 ≤ m ∧ d.length ≤ m ∧ Hid (quo (tl s (a + 1)) = (quo (tl s m)).map (fun p => (d ++ p.1, m - (a + 1) + p.2))) ∧ (l = 0 ∨ (l = 1 ∧ ∃ h : m < s.size, s[m] = 92)))
  (fun l a' _ => 2 * (s.size - (intOf (a'.tmps.getD 7 undef)).toNat) + (if l = 0 then 1 else 0)) ?pass ?first
 case first =>
  intro hL
  go_wp2
  rename_i hK
  refine wp_label (hK _ _ (hL.out 0 _ _ _ rfl ⟨a + 1, [], .slice none 0 0, ⟨0, _, _, _, _, _, _, _, _, _, _, _, _, _, _, _, _, _, _, _, _, _, _, _, _, _, _, _, _, _, _, _, _, _, _, _, _, _, _, _, _, _, _, _, _, _, _, _, _, _, _, _, _, _, _, _, _, _, _, _, _, _, _, _, _, _, _, _, _⟩, rfl, Below.refl _ _, World.ownsRow_nil _ _ _ _, ha, Nat.le_refl _, Nat.zero_le _, ?_, .inl rfl⟩))
  rw [Hid]
  cases quo (tl s (a + 1)) <;> simp
 case pass =>
  rintro l a' w' ⟨m, d, v, U, rfl, HB0, O, hm, ham, hdm, he, (rfl | ⟨rfl, hlt, h92⟩)⟩
  ·refine ⟨_, rfl, ?_⟩
   by_cases hlt : m < s.size
   ·have hlt' : (m : Int) < (s.size : Int) := by omega
    have hx : ((m : Int) == (s.size : Int)) = false := beq_false_of_ne (by omega)
    by_cases hlow : (s[m].toNat : Int) < 32
    ·have hres : quoL a (tl s (a + 1)) = none := by
      have : s[m] < 32 := by rw [UInt8.lt_iff_toNat_lt]; exact (by omega : s[m].toNat < 32)
      rw [quoL, he.out, quo_low hlt this]; rfl
     go_wp2_with (go_at_call 143; refine (HBr _).out.mono ?_; rintro e w1 ⟨rfl, hw1⟩; have HF := Hid.intro ((F4.of HB0.out).below (blk_lt HB0.out) hw1); have HB := Hid.intro (below_of (hw1.via HB0.out)); obtain ⟨⟨z0, z1, z2, z3⟩, y0, y1, y2, y3⟩ := HF.out; clear hw1)
     refine bodyPost_ret (v := .tuple #[lxv 0 ⟨#[]⟩ (a : Int) 0, .bool false]) ?_ rfl ⟨by rw [hres]; rfl, below_set4 HB.out (Nat.le_refl _) _ _ _ _⟩
     obtain ⟨⟨g0, g1, g2, g3⟩, -⟩ := HF.out.put (.int .i64 0) (.string ⟨#[]⟩) (.int .i64 (a : Int)) (.int .i64 0)
     simp [results, Tryz.results101, go_sem, g0, g1, g2, g3, lxv]
    ·by_cases h34 : (s[m].toNat : Int) = 34
     ·have h34' : s[m] = 34 := UInt8.toNat_inj.1 (by omega : s[m].toNat = 34)
      have hres : quoL a (tl s (a + 1)) = some ⟨3, bs d, a, m + 1⟩ := by
       rw [quoL, he.out, quo_q hlt h34']
       simp only [Option.map_some, List.append_nil]
       congr 2
       omega
      have hcv := conv_own O.out
      have HF := Hid.intro (F4.of HB0.out)
      have HB := Hid.intro (below_of HB0.out)
      obtain ⟨⟨z0, z1, z2, z3⟩, y0, y1, y2, y3⟩ := HF.out
      go_wp2
      refine bodyPost_ret (v := .tuple #[lxv 3 (bs d) (a : Int) ((m : Int) + 1), .bool true]) ?_ rfl ⟨by rw [hres]; rfl, below_set4 HB.out (Nat.le_refl _) _ _ _ _⟩
      obtain ⟨⟨g0, g1, g2, g3⟩, -⟩ := HF.out.put (.int .i64 3) (.string (bs d)) (.int .i64 (a : Int)) (.int .i64 ((m : Int) + 1))
      simp [results, Tryz.results101, go_sem, g0, g1, g2, g3, lxv]
     ·by_cases h92 : (s[m].toNat : Int) = 92
      ·have h92' : s[m] = 92 := UInt8.toNat_inj.1 (by omega : s[m].toNat = 92)
       have h34b : ((s[m].toNat : Int) == 34) = false := beq_false_of_ne h34
       have h92b : ((s[m].toNat : Int) == 92) = true := beq_iff_eq.2 h92
       clear h92 h34
       go_wp2
       go_step3
       exact ⟨⟨m, d, v, ⟨0, _, _, _, _, _, _, _, _, _, _, _, _, _, _, _, _, _, _, _, _, _, _, _, _, _, _, _, _, _, _, _, _, _, _, _, _, _, _, _, _, _, _, _, _, _, _, _, _, _, _, _, _, _, _, _, _, _, _, _, _, _, _, _, _, _, _, _, _⟩, rfl, HB0, O, hm, ham, hdm, he, .inr ⟨rfl, hlt, h92'⟩⟩, by simp [intOf]⟩
      ·have h34b : ((s[m].toNat : Int) == 34) = false := beq_false_of_ne h34
       have h92b : ((s[m].toNat : Int) == 92) = false := beq_false_of_ne h92
       have hbw : w.heap.size + 1 ≤ (w'.alloc (.cells #[.int .u8 (s[m].toNat : Int)] 5)).heap.size := by have := blk_lt HB0.out; simp; omega
       have he' : Hid (quo (tl s (a + 1)) = (quo (tl s (m + 1))).map (fun p => ((d ++ [s[m]]) ++ p.1, m + 1 - (a + 1) + p.2))) := by
        rw [Hid, he.out, quo_plain hlt (fun e => h34 (by rw [e]; rfl)) (fun e => hlow (by rw [UInt8.lt_iff_toNat_lt] at e; exact (by have : s[m].toNat < 32 := e; omega))) (fun e => h92 (by rw [e]; rfl))]
        cases quo (tl s (m + 1)) with
        | none => rfl
        | some p => simp; omega
       clear h92 h34
       go_wp2_with (at_builtin; refine wpList_append_lies _ rfl _ _ _ rfl (w.heap.size + 1) 5 i0 (.int .u8 0) 1 1 Tryz.underlying158 hi hz0 hz1 hz2 rfl (by omega) _ _ _ rfl (O.out.alloc _) ⟨w'.heap.size, 0, none⟩ 1 1 [.int .u8 (s[m].toNat : Int)] rfl rfl (news_u8 w' (s[m].toNat : Int)).1 (news_u8 w' (s[m].toNat : Int)).2 (by omega) (by unfold maxLen; omega) (by omega) hbw (w'.heap.size + 1) (by simp) ?_)
       intro g4 cap4 w4 O4 gr4 at4 lt4
       have HB4 := Hid.intro (own_step (below_al HB0.out _) gr4 (O.out.alloc (.cells #[.int .u8 (s[m].toNat : Int)] 5)) (by simp))
       have O4' : Hid (w4.ownsRow (w.heap.size + 1) 5 1 (.slice (some ⟨g4, 0, none⟩) (d.length + 1) cap4) (d ++ [s[m]]).length (bv (d ++ [s[m]]))) := by
        rw [List.length_append, bv, List.map_append]
        exact O4
       clear gr4 O4 at4
       go_wp2
       go_step3
       exact ⟨⟨m + 1, d ++ [s[m]], _, ⟨0, _, _, _, _, _, _, _, _, _, _, _, _, _, _, _, _, _, _, _, _, _, _, _, _, _, _, _, _, _, _, _, _, _, _, _, _, _, _, _, _, _, _, _, _, _, _, _, _, _, _, _, _, _, _, _, _, _, _, _, _, _, _, _, _, _, _, _, _⟩, rfl, HB4, O4', hlt, by omega, by simp; omega, he', .inl rfl⟩, by simp [intOf]; omega⟩
   ·have hx : ((m : Int) == (s.size : Int)) = true := beq_iff_eq.2 (by omega)
    have hres : quoL a (tl s (a + 1)) = none := by rw [quoL, he.out, quo_end (by omega)]; rfl
    go_wp2_with (go_at_call 143; refine (HBr _).out.mono ?_; rintro e w1 ⟨rfl, hw1⟩; have HF := Hid.intro ((F4.of HB0.out).below (blk_lt HB0.out) hw1); have HB := Hid.intro (below_of (hw1.via HB0.out)); obtain ⟨⟨z0, z1, z2, z3⟩, y0, y1, y2, y3⟩ := HF.out; clear hw1)
    refine bodyPost_ret (v := .tuple #[lxv 0 ⟨#[]⟩ (a : Int) 0, .bool false]) ?_ rfl ⟨by rw [hres]; rfl, below_set4 HB.out (Nat.le_refl _) _ _ _ _⟩
    obtain ⟨⟨g0, g1, g2, g3⟩, -⟩ := HF.out.put (.int .i64 0) (.string ⟨#[]⟩) (.int .i64 (a : Int)) (.int .i64 0)
    simp [results, Tryz.results101, go_sem, g0, g1, g2, g3, lxv]
  ·refine ⟨_, rfl, ?_⟩
   by_cases hlt1 : m + 1 < s.size
   ·have hlt1' : (m : Int) + 1 < (s.size : Int) := by omega
    have hx : ((m : Int) + 1 == (s.size : Int)) = false := beq_false_of_ne (by omega)
    have hge : (0 : Int) ≤ (m : Int) + 1 := by omega
    have HE := escaped_any (s[m + 1].toNat : Int) w'
    have hq := quo_esc hlt h92 hlt1
    have hee := he.out
    rw [hq] at hee
    cases hes : escB (s[m + 1].toNat : Int) with
    | none =>
     rw [hes] at HE
     have hu : escU s[m + 1] = none := by rw [escU, hes]; rfl
     have hres : quoL a (tl s (a + 1)) = none := by rw [quoL, hee, hu]; rfl
     clear hee hq
     go_wp2_with (first | (go_at_call 144; refine HE.mono ?_; rintro e w1 ⟨rfl, hw1⟩; subst w1) | (go_at_call 143; refine (HBr _).out.mono ?_; rintro e w1 ⟨rfl, hw1⟩; have HF := Hid.intro ((F4.of HB0.out).below (blk_lt HB0.out) hw1); have HB := Hid.intro (below_of (hw1.via HB0.out)); obtain ⟨⟨z0, z1, z2, z3⟩, y0, y1, y2, y3⟩ := HF.out; clear hw1))
     refine bodyPost_ret (v := .tuple #[lxv 0 ⟨#[]⟩ (a : Int) 0, .bool false]) ?_ rfl ⟨by rw [hres]; rfl, below_set4 HB.out (Nat.le_refl _) _ _ _ _⟩
     obtain ⟨⟨g0, g1, g2, g3⟩, -⟩ := HF.out.put (.int .i64 0) (.string ⟨#[]⟩) (.int .i64 (a : Int)) (.int .i64 0)
     simp [results, Tryz.results101, go_sem, g0, g1, g2, g3, lxv]
    | some x =>
     rw [hes] at HE
     obtain ⟨y, hy, hu⟩ : ∃ y : UInt8, x = (y.toNat : Int) ∧ escU s[m + 1] = some y := by
      have hx2 : x = 34 ∨ x = 92 ∨ x = 10 ∨ x = 9 := by
       unfold escB at hes
       split at hes
       ·rename_i h; cases hes; rcases h with h | h <;> simp [h]
       ·split at hes
        ·cases hes; simp
        ·split at hes
         ·cases hes; simp
         ·cases hes
      refine ⟨x.toNat.toUInt8, ?_, by rw [escU, hes]; rfl⟩
      rcases hx2 with rfl | rfl | rfl | rfl <;> rfl
     subst hy
     rw [hu] at hee
     have he' : Hid (quo (tl s (a + 1)) = (quo (tl s (m + 2))).map (fun p => ((d ++ [y]) ++ p.1, m + 2 - (a + 1) + p.2))) := by
      rw [Hid, hee]
      cases quo (tl s (m + 2)) with
      | none => rfl
      | some p => simp; omega
     have hbw : w.heap.size + 1 ≤ (w'.alloc (.cells #[.int .u8 (y.toNat : Int)] 5)).heap.size := by have := blk_lt HB0.out; simp; omega
     clear hee hq hu hes
     go_wp2_with (first | (go_at_call 144; refine HE.mono ?_; rintro e w1 ⟨rfl, hw1⟩; subst w1) | (at_builtin; refine wpList_append_lies _ rfl _ _ _ rfl (w.heap.size + 1) 5 i0 (.int .u8 0) 1 1 Tryz.underlying158 hi hz0 hz1 hz2 rfl (by omega) _ _ _ rfl (O.out.alloc _) ⟨w'.heap.size, 0, none⟩ 1 1 [.int .u8 (y.toNat : Int)] rfl rfl (news_u8 w' (y.toNat : Int)).1 (news_u8 w' (y.toNat : Int)).2 (by omega) (by unfold maxLen; omega) (by omega) hbw (w'.heap.size + 1) (by simp) ?_))
     intro g4 cap4 w4 O4 gr4 at4 lt4
     have HB4 := Hid.intro (own_step (below_al HB0.out _) gr4 (O.out.alloc (.cells #[.int .u8 (y.toNat : Int)] 5)) (by simp))
     have O4' : Hid (w4.ownsRow (w.heap.size + 1) 5 1 (.slice (some ⟨g4, 0, none⟩) (d.length + 1) cap4) (d ++ [y]).length (bv (d ++ [y]))) := by
      rw [List.length_append, bv, List.map_append]
      exact O4
     clear gr4 O4 at4
     go_wp2
     go_step3
     rw [show (m : Int) + 2 = ((m + 2 : Nat) : Int) from rfl]
     exact ⟨⟨m + 2, d ++ [y], _, ⟨0, _, _, _, _, _, _, _, _, _, _, _, _, _, _, _, _, _, _, _, _, _, _, _, _, _, _, _, _, _, _, _, _, _, _, _, _, _, _, _, _, _, _, _, _, _, _, _, _, _, _, _, _, _, _, _, _, _, _, _, _, _, _, _, _, _, _, _, _⟩, rfl, HB4, O4', hlt1, by omega, by simp; omega, he', .inl rfl⟩, by simp [intOf]; omega⟩
   ·have hx : ((m : Int) + 1 == (s.size : Int)) = true := beq_iff_eq.2 (by omega)
    have hres : quoL a (tl s (a + 1)) = none := by rw [quoL, he.out, quo_esc0 hlt h92 (by omega)]; rfl
    go_wp2_with (go_at_call 143; refine (HBr _).out.mono ?_; rintro e w1 ⟨rfl, hw1⟩; have HF := Hid.intro ((F4.of HB0.out).below (blk_lt HB0.out) hw1); have HB := Hid.intro (below_of (hw1.via HB0.out)); obtain ⟨⟨z0, z1, z2, z3⟩, y0, y1, y2, y3⟩ := HF.out; clear hw1)
    refine bodyPost_ret (v := .tuple #[lxv 0 ⟨#[]⟩ (a : Int) 0, .bool false]) ?_ rfl ⟨by rw [hres]; rfl, below_set4 HB.out (Nat.le_refl _) _ _ _ _⟩
    obtain ⟨⟨g0, g1, g2, g3⟩, -⟩ := HF.out.put (.int .i64 0) (.string ⟨#[]⟩) (.int .i64 (a : Int)) (.int .i64 0)
    simp [results, Tryz.results101, go_sem, g0, g1, g2, g3, lxv]
end
end Go.Proofs.YtoeodjobggodcaaGreatDoor
