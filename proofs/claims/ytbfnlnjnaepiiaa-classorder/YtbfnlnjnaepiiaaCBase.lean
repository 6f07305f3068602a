/- Classes, fields and tables: what they are, and where they lie in memory. -/
import Derived.Test.YtbfnlnjnaepiiaaCName2
import Derived.Maps.Own
import Derived.Laws.OwnMore
namespace Go.RowKit
theorem Below.via {a b c : World} (h : Below b.heap.size b c) (k : Below a.heap.size a b) : Below a.heap.size a c := k.trans (h.mono k.size)
theorem Hid.intro {p : Prop} (h : p) : Hid p := h
end Go.RowKit
namespace Go.Proofs.Ytbfnlnjnaepiiaa
open Go.RowKit Go.Maps

structure Fl where
  n : ByteArray
  t : Int
  c : ByteArray

structure Cl where
  n : ByteArray
  s : ByteArray
  f : List Fl

def eqS (x y : ByteArray) : Bool := x.toList == y.toList
theorem eqS_iff {x y : ByteArray} : eqS x y = true ↔ x = y := by
  unfold eqS
  rw [ByteArray.toList_eq, ByteArray.toList_eq]
  constructor
  · intro h
    have h := Array.toList_inj.1 (eq_of_beq h)
    cases x; cases y; simp at h; subst h; rfl
  · rintro rfl; simp
theorem eqS_no {x y : ByteArray} : eqS x y = false ↔ x ≠ y := by
  rw [← Bool.not_eq_true, eqS_iff]
theorem eqS_self (x : ByteArray) : eqS x x = true := eqS_iff.2 rfl
theorem eqS_comm (x y : ByteArray) : eqS x y = eqS y x := by
  cases h : eqS x y with
  | true => rw [eqS_iff] at h; subst h; rw [eqS_self]
  | false => rw [eqS_no] at h; exact (eqS_no.2 (Ne.symm h)).symm

def hasT (T : List Cl) (x : ByteArray) : Bool := T.any (fun c => eqS x c.n)
def findT : List Cl → ByteArray → Option Cl
  | [], _ => none
  | c :: T, x => if eqS x c.n then some c else findT T x
def fieldsT (T : List Cl) (x : ByteArray) : List Fl := match findT T x with
  | some c => c.f
  | none => []
def superT (T : List Cl) (x : ByteArray) : ByteArray := match findT T x with
  | some c => c.s
  | none => ⟨#[]⟩

theorem hasT_find (T : List Cl) (x : ByteArray) : hasT T x = (findT T x).isSome := by
  induction T with
  | nil => rfl
  | cons c T ih =>
    unfold hasT at *
    rw [List.any_cons, findT]
    cases eqS x c.n <;> simp [ih]

/-- The three cells of a field. -/
def FCel (w : World) (b o : Nat) (f : Fl) : Prop :=
  w.cell? ⟨b, o, none⟩ = some (.string f.n) ∧ w.cell? ⟨b, o + 1, none⟩ = some (.int .i64 f.t) ∧ w.cell? ⟨b, o + 2, none⟩ = some (.string f.c)

/-- A slice of fields, in a block of the kind P. -/
def Fv (P : Nat → Prop) (w : World) (fs : List Fl) (sv : Value) : Prop :=
  ∃ (a0 : Option Addr) (cap : Nat), sv = .slice a0 fs.length cap ∧ fs.length ≤ cap ∧ cap ≤ maxLen ∧
    (0 < fs.length → ∃ b o, a0 = some ⟨b, o, none⟩ ∧ P b ∧ ∀ j (h : j < fs.length), FCel w b (o + j * 3) fs[j])

/-- A slice of texts. -/
def Sv (P : Nat → Prop) (w : World) (xs : List ByteArray) (sv : Value) : Prop :=
  ∃ (a0 : Option Addr) (cap : Nat), sv = .slice a0 xs.length cap ∧ xs.length ≤ cap ∧ cap ≤ maxLen ∧
    (0 < xs.length → ∃ b o, a0 = some ⟨b, o, none⟩ ∧ P b ∧ ∀ j (h : j < xs.length), w.cell? ⟨b, o + j, none⟩ = some (.string xs[j]))

/-- The three cells of a class. -/
def CCel (w : World) (b o : Nat) (c : Cl) (sv : Value) : Prop :=
  w.cell? ⟨b, o, none⟩ = some (.string c.n) ∧ w.cell? ⟨b, o + 1, none⟩ = some (.string c.s) ∧ w.cell? ⟨b, o + 2, none⟩ = some sv

/-- A slice of classes. -/
def Cv (P : Nat → Prop) (w : World) (cs : List Cl) (sv : Value) : Prop :=
  ∃ (a0 : Option Addr) (cap : Nat), sv = .slice a0 cs.length cap ∧ cs.length ≤ cap ∧ cap ≤ maxLen ∧
    (0 < cs.length → ∃ b o, a0 = some ⟨b, o, none⟩ ∧ P b ∧ ∀ j (h : j < cs.length), ∃ sv', CCel w b (o + j * 3) cs[j] sv' ∧ Fv P w cs[j].f sv')

theorem cell_lt {w : World} {b o : Nat} {v : Value} (h : w.cell? ⟨b, o, none⟩ = some v) : b < w.heap.size := by
  unfold World.cell? at h
  by_cases hh : b < w.heap.size
  · exact hh
  · simp [Array.getElem?_eq_none (Nat.le_of_not_lt hh)] at h

theorem bcell {W w1 : World} (hb : Below W.heap.size W w1) {N : Nat} (hN : W.heap.size = N) : (∀ b o, b < N → w1.cell? ⟨b, o, none⟩ = W.cell? ⟨b, o, none⟩) ∧ (∀ b o, b < N → w1.frozen? ⟨b, o, none⟩ = W.frozen? ⟨b, o, none⟩) := by
  subst hN
  exact ⟨fun b o h => hb.cell (p := ⟨b, o, none⟩) h, fun b o h => hb.frozen (p := ⟨b, o, none⟩) h⟩

theorem below_al {a w : World} (h : Below a.heap.size a w) (o : Obj) : Below a.heap.size a (w.alloc o) := h.alloc h.size o
theorem below_put {a w : World} (h : Below a.heap.size a w) {b o : Nat} (hb : a.heap.size ≤ b) (v : Value) : Below a.heap.size a (w.setCell ⟨b, o, none⟩ v) := h.setCell (p := ⟨b, o, none⟩) hb v

/-- Cells of blocks of the kind P are as they were. -/
def Kept (P : Nat → Prop) (w w' : World) : Prop := ∀ b, P b → b < w.heap.size → ∀ o, w'.cell? ⟨b, o, none⟩ = w.cell? ⟨b, o, none⟩
theorem Kept.below {P : Nat → Prop} {w w' : World} (h : Below w.heap.size w w') : Kept P w w' := fun b _ hb o => h.cell (p := ⟨b, o, none⟩) hb

theorem FCel.at {w w' : World} {b o : Nat} {f : Fl} (h : FCel w b o f) (hb : ∀ o, w'.cell? ⟨b, o, none⟩ = w.cell? ⟨b, o, none⟩) : FCel w' b o f := by
  unfold FCel at *
  rw [hb, hb, hb]
  exact h

theorem Fv.move {P Q : Nat → Prop} {w w' : World} {fs : List Fl} {sv : Value} (h : Fv P w fs sv) (hk : Kept P w w') (hpq : ∀ b, P b → Q b) : Fv Q w' fs sv := by
  obtain ⟨a0, cap, h1, h2, h3, h4⟩ := h
  refine ⟨a0, cap, h1, h2, h3, fun h0 => ?_⟩
  obtain ⟨b, o, e, hp, h5⟩ := h4 h0
  exact ⟨b, o, e, hpq b hp, fun j hj => (h5 j hj).at (hk b hp (cell_lt (h5 j hj).1))⟩

theorem Fv.below {P : Nat → Prop} {w w' : World} {fs : List Fl} {sv : Value} (h : Fv P w fs sv) (hb : Below w.heap.size w w') : Fv P w' fs sv := h.move (Kept.below hb) (fun _ h => h)

theorem Fv.form {P : Nat → Prop} {w : World} {fs : List Fl} {sv : Value} (h : Fv P w fs sv) : ∃ a c, sv = .slice a fs.length c ∧ fs.length ≤ c ∧ c ≤ 9223372036854775807 := by
  obtain ⟨a, c, h1, h2, h3, _⟩ := h
  exact ⟨a, c, h1, h2, h3⟩

theorem Sv.move {P Q : Nat → Prop} {w w' : World} {xs : List ByteArray} {sv : Value} (h : Sv P w xs sv) (hk : Kept P w w') (hpq : ∀ b, P b → Q b) : Sv Q w' xs sv := by
  obtain ⟨a0, cap, h1, h2, h3, h4⟩ := h
  refine ⟨a0, cap, h1, h2, h3, fun h0 => ?_⟩
  obtain ⟨b, o, e, hp, h5⟩ := h4 h0
  exact ⟨b, o, e, hpq b hp, fun j hj => (hk b hp (cell_lt (h5 j hj)) _).trans (h5 j hj)⟩
theorem Sv.below {P : Nat → Prop} {w w' : World} {xs : List ByteArray} {sv : Value} (h : Sv P w xs sv) (hb : Below w.heap.size w w') : Sv P w' xs sv := h.move (Kept.below hb) (fun _ h => h)
theorem Sv.form {P : Nat → Prop} {w : World} {xs : List ByteArray} {sv : Value} (h : Sv P w xs sv) : ∃ a c, sv = .slice a xs.length c ∧ xs.length ≤ c ∧ c ≤ 9223372036854775807 := by
  obtain ⟨a, c, h1, h2, h3, _⟩ := h
  exact ⟨a, c, h1, h2, h3⟩

theorem Cv.move {P Q : Nat → Prop} {w w' : World} {cs : List Cl} {sv : Value} (h : Cv P w cs sv) (hk : Kept P w w') (hpq : ∀ b, P b → Q b) : Cv Q w' cs sv := by
  obtain ⟨a0, cap, h1, h2, h3, h4⟩ := h
  refine ⟨a0, cap, h1, h2, h3, fun h0 => ?_⟩
  obtain ⟨b, o, e, hp, h5⟩ := h4 h0
  refine ⟨b, o, e, hpq b hp, fun j hj => ?_⟩
  obtain ⟨sv', ⟨c0, c1, c2⟩, hf⟩ := h5 j hj
  have hk' := hk b hp (cell_lt c0)
  exact ⟨sv', ⟨(hk' _).trans c0, (hk' _).trans c1, (hk' _).trans c2⟩, hf.move hk hpq⟩
theorem Cv.below {P : Nat → Prop} {w w' : World} {cs : List Cl} {sv : Value} (h : Cv P w cs sv) (hb : Below w.heap.size w w') : Cv P w' cs sv := h.move (Kept.below hb) (fun _ h => h)
theorem Cv.form {P : Nat → Prop} {w : World} {cs : List Cl} {sv : Value} (h : Cv P w cs sv) : ∃ a c, sv = .slice a cs.length c ∧ cs.length ≤ c ∧ c ≤ 9223372036854775807 := by
  obtain ⟨a, c, h1, h2, h3, _⟩ := h
  exact ⟨a, c, h1, h2, h3⟩

/-- An entry of a table's map. -/
def EnAt (P : Nat → Prop) (w : World) (c : Cl) (e : MapEntry) : Prop := e.key = .string c.n ∧ ∃ sv, e.val = .agg #[.string c.s, sv] ∧ Fv P w c.f sv
def Ens (R : Cl → MapEntry → Prop) : List Cl → List MapEntry → Prop
  | [], [] => True
  | c :: T, e :: es => R c e ∧ Ens R T es
  | _, _ => False

theorem Ens.mono {R R' : Cl → MapEntry → Prop} (h : ∀ c e, R c e → R' c e) : ∀ {T : List Cl} {es : List MapEntry}, Ens R T es → Ens R' T es
  | [], [], _ => trivial
  | _ :: _, _ :: _, hh => ⟨h _ _ hh.1, Ens.mono h hh.2⟩
  | [], _ :: _, hh => hh.elim
  | _ :: _, [], hh => hh.elim

theorem Ens.snoc {R : Cl → MapEntry → Prop} {c : Cl} {e : MapEntry} (hr : R c e) : ∀ {T : List Cl} {es : List MapEntry}, Ens R T es → Ens R (T ++ [c]) (es ++ [e])
  | [], [], _ => ⟨hr, trivial⟩
  | _ :: _, _ :: _, hh => ⟨hh.1, Ens.snoc hr hh.2⟩
  | [], _ :: _, hh => hh.elim
  | _ :: _, [], hh => hh.elim

theorem Ens.length {R : Cl → MapEntry → Prop} : ∀ {T : List Cl} {es : List MapEntry}, Ens R T es → es.length = T.length
  | [], [], _ => rfl
  | _ :: _, _ :: _, hh => by simp [Ens.length hh.2]
  | [], _ :: _, hh => hh.elim
  | _ :: _, [], hh => hh.elim

theorem same_now (x y : ByteArray) : Instr.sameNow .string (.string x) (.string y) = some (eqS x y) := by
  have h : (x == y) = eqS x y := by
    cases x; cases y
    simp [eqS, ByteArray.toList_eq]
    rfl
  simp [Instr.sameNow, h]

/-- A key is found, or not. -/
theorem Ens.find {P : Nat → Prop} {w : World} (x : ByteArray) : ∀ {T : List Cl} {es : List MapEntry} (k : Nat), Ens (EnAt P w) T es →
    (findT T x = none ∧ Instr.findNow .string (.string x) es k = some none) ∨ (∃ c i sv, findT T x = some c ∧ c ∈ T ∧ Fv P w c.f sv ∧ Instr.findNow .string (.string x) es k = some (some (i, .agg #[.string c.s, sv])))
  | [], [], _, _ => .inl ⟨rfl, rfl⟩
  | c :: T, e :: es, k, hh => by
    obtain ⟨⟨hk, sv, hv, hf⟩, ht⟩ := hh
    cases he : eqS x c.n with
    | true =>
      refine .inr ⟨c, k, sv, by simp [findT, he], by simp, hf, ?_⟩
      rw [Instr.findNow, hk, same_now, he, hv]
    | false =>
      rcases Ens.find x (k + 1) ht with ⟨h1, h2⟩ | ⟨c', i, sv', h1, h2, h3, h4⟩
      · refine .inl ⟨by simp [findT, he, h1], ?_⟩
        rw [Instr.findNow, hk, same_now, he]
        exact h2
      · refine .inr ⟨c', i, sv', by simp [findT, he, h1], by simp [h2], h3, ?_⟩
        rw [Instr.findNow, hk, same_now, he]
        exact h4
  | [], _ :: _, _, hh => hh.elim
  | _ :: _, [], _, hh => hh.elim

theorem check_str (w : World) (b : Bool) (x : ByteArray) : (Instr.checkKey b 10000 9 (.string x)).run Try.prog w = .ok () w := by
  unfold Instr.checkKey
  simp [run_underlying Try.underlying9, Result.andThen]

theorem und_map : Try.prog.underlying 70 = some (.map 9 88) := by kernel_rfl
theorem zero_entry (w : World) : (zeroValue 88).run Try.prog w = .ok (.agg #[.string ⟨#[]⟩, .slice none 0 0]) w := by kernel_rfl

theorem look_yes (w : World) (r : Nat) (es : Array MapEntry) (clock : Nat) (hb : w.heap[r]? = some (.map es clock)) (x : ByteArray) (i : Nat) (v : Value) (h : Instr.findNow .string (.string x) es.toList 0 = some (some (i, v))) (ok : Bool) :
    (Instr.lookup 70 (.map (some r)) (.string x) ok).run Try.prog w = .ok (if ok then .tuple #[v, .bool true] else v) w := by
  cases ok <;> simp [Instr.lookup, run_underlying und_map, MapKept.run_getObj_map hb, check_str, Instr.findKey, run_underlying Try.underlying9, h, Result.andThen]

theorem look_no (w : World) (r : Nat) (es : Array MapEntry) (clock : Nat) (hb : w.heap[r]? = some (.map es clock)) (x : ByteArray) (h : Instr.findNow .string (.string x) es.toList 0 = some none) (ok : Bool) :
    (Instr.lookup 70 (.map (some r)) (.string x) ok).run Try.prog w = .ok (if ok then .tuple #[.agg #[.string ⟨#[]⟩, .slice none 0 0], .bool false] else .agg #[.string ⟨#[]⟩, .slice none 0 0]) w := by
  cases ok <;> simp [Instr.lookup, run_underlying und_map, MapKept.run_getObj_map hb, check_str, Instr.findKey, run_underlying Try.underlying9, h, Result.andThen]
end Go.Proofs.Ytbfnlnjnaepiiaa
