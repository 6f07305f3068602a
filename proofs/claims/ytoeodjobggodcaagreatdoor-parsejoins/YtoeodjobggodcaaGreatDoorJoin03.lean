import Derived.Test.YtoeodjobggodcaaGreatDoorJoin02
import Derived.Deep.RegionHeld3
/- inParentheses. -/
namespace Go.Proofs.YtoeodjobggodcaaGreatDoor
section
open Go.RowKit
def TC (K B o : Nat) (f : FuncId) (m : List Lx → Rs Te) : Prop :=
 ∀ r w, PAt K w B r o → Calls Tryz.prog f #[.pointer (some ⟨B, 0, none⟩)] w (Post K B o (r.length - 1) w (m r) fun w' t v => TeV (fun b => w.heap.size ≤ b) w' t v)
theorem TeV.move {P Q : Nat → Prop} {w w' : World} {t : Te} {v : Value} (h : TeV P w t v) (hk : Kp P w w') (hpq : ∀ b, b < w.heap.size → P b → Q b) : TeV Q w' t v := by
 obtain ⟨p6, n6, c6, p7, n7, c7, rfl, h6, h7, h8⟩ := h
 exact ⟨p6, n6, c6, p7, n7, c7, rfl, rep.move hk hpq _ _ h6, rep.move hk hpq _ _ h7, h8⟩
def TBox (B E : Nat) (w : World) (t : Te) : Prop := B < E ∧ ∃ cells, w.heap[E]? = some (.cells cells 103 (0, 0)) ∧ cells.size = 9 ∧ TeV (fun b => E < b) w t (.agg cells)
theorem TBox.bt {B E : Nat} {w w' : World} {t : Te} (h : TBox B E w t) (k : Bt B w w') : TBox B E w' t := by
 obtain ⟨hB, cells, h1, h2, h3⟩ := h
 exact ⟨hB, cells, row_bt k (by omega) h1, h2, h3.move (k.kp (by omega)) (fun _ _ h => h)⟩
def teZ : Value := .agg #[.int .i64 0, .string ⟨#[]⟩, .int .i64 0, .bool false, .int .i64 0, .string ⟨#[]⟩, .slice none 0 0, .slice none 0 0, .int .i64 0]
theorem TBox.new {B : Nat} {w : World} (hB : B < w.heap.size) : TBox B w.heap.size (w.alloc (.cells #[.int .i64 0, .string ⟨#[]⟩, .int .i64 0, .bool false, .int .i64 0, .string ⟨#[]⟩, .slice none 0 0, .slice none 0 0, .int .i64 0] 103)) ⟨{}, 0⟩ :=
 ⟨hB, _, heap_alloc_new w _, rfl, none, 0, 0, none, 0, 0, rfl, rep.none, rep.none, by simp⟩
theorem TBox.put {B E : Nat} {w : World} {t : Te} {cells cells' : Array Value} (hB : B < E) (h1 : w.heap[E]? = some (.cells cells 103 (0, 0))) (h2 : cells'.size = 9) (h3 : TeV (fun b => E < b) w t (.agg cells')) : TBox B E (w.setRow E cells') t :=
 ⟨hB, cells', setRow_heap _ _ _ _ _ _ h1, h2, h3.move ⟨by simp, fun b hb _ o => World.cell?_of_block (a := ⟨b, o, none⟩) (setRow_other _ _ _ _ (by simp only; omega))⟩ (fun _ _ h => h)⟩
def PJ (B c1 E : Nat) (t : Te) (w : World) (P : Nat → Prop) : Prop := Bx B c1 (.pointer (some ⟨B, 0, none⟩)) w ∧ TBox B E w t ∧ c1 ≠ E ∧ ∀ b, P b → b ≠ E
theorem PJ.stb (B c1 E : Nat) (t : Te) : Stb B (PJ B c1 E t) := by
 rintro w w' P P' ⟨h1, h2, h0, h3⟩ hb hp
 refine ⟨h1.bt hb, h2.bt hb, h0, fun b h => ?_⟩
 rcases hp b h with h | h
 ·exact h3 b h
 ·obtain ⟨-, cells, h4, -⟩ := h2
  have := (Array.getElem?_eq_some_iff.1 h4).1
  omega
theorem Fr.row {P : Nat → Prop} {a w : World} {g : Nat} (h : Fr P a w) (hg : ∀ b, P b → b ≠ g) (cs : Array Value) : Fr P a (w.setRow g cs) :=
 ⟨h.os, h.tape, h.output, by simpa using h.size, fun k hk => (setRow_other w g k cs (hg k hk)).trans (h.block k hk)⟩
theorem Fr.set {P : Nat → Prop} {a w : World} {g i : Nat} (h : Fr P a w) (hg : ∀ b, P b → b ≠ g) (v : Value) : Fr P a (w.setCell ⟨g, i, none⟩ v) :=
 ⟨h.os, h.tape, h.output, by simpa using h.size, fun k hk => (Below.heap_setCell w _ v k (hg k hk)).trans (h.block k hk)⟩
theorem Fr.alloc {P : Nat → Prop} {a w : World} (h : Fr P a w) (hp : ∀ b, P b → b < w.heap.size) (o : Obj) : Fr P a (w.alloc o) :=
 ⟨h.os, h.tape, h.output, by have := h.size; simp; omega, fun k hk => (heap_alloc_old w o (hp k hk)).trans (h.block k hk)⟩
theorem Fr.grown {P : Nat → Prop} {a w w' : World} {row : Option Nat} (h : Fr P a w) (hp : ∀ b, P b → b < w.heap.size ∧ some b ≠ row) (hg : w.grownBy w' row) : Fr P a w' :=
 ⟨hg.os.trans h.os, hg.tape.trans h.tape, hg.output.trans h.output, Nat.le_trans h.size hg.size, fun k hk => (hg.block k (hp k hk).1 (hp k hk).2).trans (h.block k hk)⟩
theorem PAt.row {K : Nat} {w : World} {B : Nat} {r : List Lx} {o : Nat} (h : PAt K w B r o) {g : Nat} (hg : K ≤ g) (cs : Array Value) : PAt K (w.setRow g cs) B r o :=
 h.other (by simp) (fun b hb => setRow_other w g b cs (by omega))
theorem Bx.row {B b g : Nat} {v : Value} {w : World} (h : Bx B b v w) (hg : b ≠ g) (cs : Array Value) : Bx B b v (w.setRow g cs) :=
 ⟨h.1, by simpa using h.2.1, (World.cell?_of_block (a := ⟨b, 0, none⟩) (setRow_other w g b cs hg)).trans h.2.2.1, (World.frozen?_of_block (a := ⟨b, 0, none⟩) (setRow_other w g b cs hg)).trans h.2.2.2⟩
theorem Bt.fra {B : Nat} {w W W' : World} (h : Bt B w W) (k : Fr (fun b => b < w.heap.size ∧ b ≠ B) W W') : Bt B w W' :=
 ⟨k.os.trans h.os, k.tape.trans h.tape, k.output.trans h.output, Nat.le_trans h.size k.size, fun b hb hB => (k.block b ⟨hb, hB⟩).trans (h.block b hb hB)⟩
theorem run_par1 (caps : Array Value) (w : World) : (callFunc 152 caps).run Tryz.prog w = .ok (.enter 152 caps) w := by simp [go_sem]
set_option maxRecDepth 100000 in
set_option maxHeartbeats 2000000 in
theorem par1_clo {K B o : Nat} {m : List Lx → Rs Te} (hT : TC K B o 49 m) (c1 E : Nat) (hE : K ≤ E) :
  Clo K B o (fun _ _ => True) (PJ B c1 E) 152 #[.pointer (some ⟨c1, 0, none⟩), .pointer (some ⟨E, 0, none⟩)] (fun _ r => m r) := by
 refine ⟨run_par1 _, ?_⟩
 rintro P s r w hP - ⟨h1, ⟨hB, cells, hc, hs, ht⟩, h0, h3⟩ h
 show Calls _ _ _ _ (CPost K B o r.length P w _ _ (m r))
 have d1 := h1.2.2.1
 have HT := Hid.intro (hT r w h)
 cases hm : m r with
 | bad q =>
  rw [hm] at HT
  clear hm
  go_enter Tryz.func152, Tryz.ntmps152
  go_wp2_with fail
  refine HT.out.mono ?_
  rintro e w1 ⟨hb, rfl⟩
  exact ⟨rfl, hb.fr hP, rfl⟩
 | ok t r1 =>
  rw [hm] at HT
  clear hm
  go_enter Tryz.func152, Tryz.ntmps152
  go_wp2_with fail
  refine HT.out.mono ?_
  rintro e w1 ⟨hb, hl, hp, v, rfl, p6, n6, c6, p7, n7, c7, rfl, t6, t7, t8⟩
  have HR := Hid.intro (row_bt hb (by omega) hc)
  have hEw : E < w.heap.size := (Array.getElem?_eq_some_iff.1 hc).1
  go_wp2_with (with_reducible refine (id (?_ : wpList _ _ _ (Oper.mk _ (Op.store _ _ _) _ _ _ _ :: _) _ _)); refine wpList_store_row rfl _ _ _ rfl _ _ rfl rfl _ _ HR.out infoTree hs rfl (by simp [Value.oneCell']) ?_)
  go_end0
  exact ⟨(hb.fr hP).row h3 _, rfl, trivial, ⟨(h1.bt hb).row h0 _, TBox.put hB HR.out rfl ⟨p6, n6, c6, p7, n7, c7, rfl, rep.move Kp.refl (fun b _ h => by omega) _ _ t6, rep.move Kp.refl (fun b _ h => by omega) _ _ t7, t8⟩, h0, h3⟩, hp.row hE _, by omega⟩
set_option maxRecDepth 100000 in
set_option maxHeartbeats 2000000 in
theorem par_any {K B o : Nat} {m : List Lx → Rs Te} (hT : TC K B (o + 1) 49 m) {r : List Lx} {w : World} (h : PAt K w B r o) :
  Calls Tryz.prog 112 #[.pointer (some ⟨B, 0, none⟩)] w (Post K B o (r.length - 1) w (withinM ⟨#[40]⟩ ⟨#[41]⟩ o m r) fun w' t v => TeV (fun b => w.heap.size ≤ b) w' t v) := by
 have hmf : ∀ (fn : Fn) (first cap : Array Value) (w : World), (Instr.makeFunc fn first cap).run Tryz.prog w = .ok (.func fn first cap) w := fun _ _ _ _ => rfl
 have hsz := h.size
 have hb0 : Bt B w ((w.alloc (.cells #[.pointer (some ⟨B, 0, none⟩)] 55)).alloc (.cells #[.int .i64 0, .string ⟨#[]⟩, .int .i64 0, .bool false, .int .i64 0, .string ⟨#[]⟩, .slice none 0 0, .slice none 0 0, .int .i64 0] 103)) := ((Bt.refl B w).alloc _).alloc _
 have hj : PJ B w.heap.size (w.heap.size + 1) ⟨{}, 0⟩ ((w.alloc (.cells #[.pointer (some ⟨B, 0, none⟩)] 55)).alloc (.cells #[.int .i64 0, .string ⟨#[]⟩, .int .i64 0, .bool false, .int .i64 0, .string ⟨#[]⟩, .slice none 0 0, .slice none 0 0, .int .i64 0] 103)) (fun b => b < w.heap.size ∧ b ≠ B) :=
  ⟨(Bx.new w _ _ (by omega)).bt ((Bt.refl B _).alloc _), by
   have := TBox.new (B := B) (w := w.alloc (.cells #[.pointer (some ⟨B, 0, none⟩)] 55)) (by simp; omega)
   rw [World.size_alloc] at this
   exact this, by omega, fun b hb => by omega⟩
 have HW := Hid.intro (within_any (fun _ _ _ => trivial) (PJ.stb B w.heap.size (w.heap.size + 1)) (par1_clo hT w.heap.size (w.heap.size + 1) (by omega)) (P := fun b => b < w.heap.size ∧ b ≠ B) (s := ⟨{}, 0⟩) (r := r) (fun b hb => ⟨by simp; omega, hb.2⟩) trivial hj (h.via (below_al (below_al (Below.refl _ _) _) _)) ⟨#[40]⟩ ⟨#[41]⟩)
 clear hj
 show Calls _ _ _ _ (Post K B o (r.length - 1) w (withinM _ _ o (fun r => m r) r) _)
 cases hm : withinM ⟨#[40]⟩ ⟨#[41]⟩ o (fun r => m r) r with
 | bad q =>
  rw [hm] at HW
  clear hm
  go_enter Tryz.func112, Tryz.ntmps112
  go_wp2_with fail
  refine HW.out.mono ?_
  rintro e w1 ⟨hf, rfl⟩
  exact ⟨rfl, hb0.fra hf, rfl⟩
 | ok t r1 =>
  rw [hm] at HW
  clear hm
  go_enter Tryz.func112, Tryz.ntmps112
  go_wp2_with fail
  refine HW.out.mono ?_
  rintro e w1 ⟨hf, rfl, -, ⟨-, ⟨hB, cells, hc, hs, ht⟩, -, -⟩, hp, hl⟩
  have HR := Hid.intro hc
  obtain ⟨p6, n6, c6, p7, n7, c7, he, t6, t7, t8⟩ := ht
  obtain rfl := Value.agg.inj he
  clear he
  go_wp2_with (first | (with_reducible refine (id (?_ : wpList _ _ _ (Oper.mk _ (Op.load _ _) _ _ _ _ :: _) _ _)); refine wpList_load_cells rfl _ _ rfl _ rfl _ _ _ HR.out Tryz.underlying103 infoTree rfl ?_) | (with_reducible refine (id (?_ : wpList _ _ _ (Oper.mk _ (Op.store _ _ _) _ _ _ _ :: _) _ _)); refine wpList_store_row rfl _ _ _ rfl _ _ rfl rfl _ _ HR.out infoTree rfl rfl (by simp [Value.oneCell']) ?_))
  refine ret_cells rfl rfl (setRow_heap _ _ _ _ _ _ HR.out) Tryz.underlying103 infoTree rfl rfl (Post.ok ((hb0.fra hf).row (by omega) _) hl (hp.row (by omega) _) ?_)
  have hk : Kp (fun b => w.heap.size + 1 < b) w1 (w1.setRow (w.heap.size + 1) #[.int .i64 t.e.op, .string t.e.t, .int .i64 t.e.v.k, .bool t.e.v.b, .int .i64 t.e.v.i, .string t.e.v.s, .slice p6 n6 c6, .slice p7 n7 c7, .int .i64 (t.d : Int)]) :=
   ⟨by simp, fun b hb _ o => World.cell?_of_block (a := ⟨b, o, none⟩) (setRow_other _ _ _ _ (by simp only; omega))⟩
  exact ⟨p6, n6, c6, p7, n7, c7, rfl, rep.move hk (fun b _ h => by omega) _ _ t6, rep.move hk (fun b _ h => by omega) _ _ t7, t8⟩
end
end Go.Proofs.YtoeodjobggodcaaGreatDoor
/- Drawn regions by hand. -/
namespace Go.Proofs.YtoeodjobggodcaaGreatDoor
section
open Go.RowKit
theorem take_q {P : Program} {md : Region.Mode} {ops : Array Oper} {Q : Exit → Act → World → Prop} {S : World → Prop} (i d : Nat) (v : Value) {fuel : Nat} {listed : Array Bool} {tmps : Array Value} {df : List Deferred} {w : World}
  (hi : ∃ oi, ops[i]? = some oi ∧ oi.dst = some d ∧ YieldsIf P ops S oi v ⟨tmps, df⟩) (hs : Region.noSelect ops = true) (hf : Region.free md ops listed i = true) (hr : (Region.ready md ops listed).contains i = true)
  (hQ : ∀ c (a : Act) w, Q (.panic c) (a.put (some d) v) w → Q (.panic c) a w) (hS : S w)
  (h : wpAnyH P md ops Q S fuel (listed.setIfInBounds i true) ⟨tmps.setIfInBounds d v, df⟩ w) : wpAnyH P md ops Q S (fuel + 1) listed ⟨tmps, df⟩ w := by
 obtain ⟨oi, h1, h2, h3⟩ := hi
 refine wpAnyH_take h1 hs hf hr (by rw [h2]; exact hQ) h3 hS ?_
 rw [h2]
 exact h
theorem wp_load_cells {o : Oper} {a : Act} {w : World} {K : Act → World → Prop} {Q : Exit → Act → World → Prop} (ty : TypeId) (x : Operand) (ho : o.op = .load ty x)
  (g : Nat) (hx : a.eval x = .pointer (some ⟨g, 0, .none⟩)) (t : TypeId) (cs : Array Value) (fr : Nat × Nat) (hg : w.heap[g]? = some (.cells cs t fr)) {fs : Array Field} (hu : Tryz.prog.underlying ty = some (.struct fs)) {n : Nat} (hi : (Tryz.prog.info? ty).map (·.size) = some n) (hn : cs.size = n)
  (h : K (a.put o.dst (.agg cs)) w) : o.wp Tryz.prog a w K Q :=
 wp_load_row ty x ho g hx t cs fr _ hg hu rfl (by rw [hi, hn]) h
theorem wp_store_cells {o : Oper} {a : Act} {w : World} {K : Act → World → Prop} {Q : Exit → Act → World → Prop} (ty : TypeId) (x y : Operand) (ho : o.op = .store ty x y)
  (g : Nat) (cells : Array Value) (hx : a.eval x = .pointer (some ⟨g, 0, .none⟩)) (hy : a.eval y = .agg cells) (t : TypeId) (old : Array Value) (hg : w.heap[g]? = some (.cells old t (0, 0))) {n : Nat} (hi : (Tryz.prog.info? ty).map (·.size) = some n)
  (hold : old.size = n) (hn : cells.size = n) (h1 : cells.all (·.oneCell') = true) (h : K (a.put o.dst undef) (w.setRow g cells)) : o.wp Tryz.prog a w K Q :=
 wp_store_row ty x y ho g cells hx hy t old hg (by rw [hi, hn]) (by rw [hold, hn]) h1 h
theorem tp {P : Program} {md : Region.Mode} {ops : Array Oper} {Q : Exit → Act → World → Prop} {S : World → Prop} (i d : Nat) (v : Value) {fuel : Nat} {listed : Array Bool} {tmps : Array Value} {df : List Deferred} {w : World}
  (hi : ∃ oi, ops[i]? = some oi ∧ oi.dst = some d ∧ YieldsIf P ops S oi v ⟨tmps, df⟩) (hS : S w) (h : wpAnyH P md ops Q S fuel (listed.setIfInBounds i true) ⟨tmps.setIfInBounds d v, df⟩ w)
  (hs : Region.noSelect ops = true := by kernel_rfl) (hf : Region.free md ops listed i = true := by kernel_rfl) (hr : (Region.ready md ops listed).contains i = true := by kernel_rfl)
  (hQ : ∀ c (a : Act) w, Q (.panic c) (a.put (some d) v) w → Q (.panic c) a w := by exact fun _ _ _ h => h) : wpAnyH P md ops Q S (fuel + 1) listed ⟨tmps, df⟩ w := take_q i d v hi hs hf hr hQ hS h
theorem tq {P : Program} {md : Region.Mode} {ops : Array Oper} {Q : Exit → Act → World → Prop} {S : World → Prop} (i d : Nat) (v : Value) {fuel : Nat} {listed : Array Bool} {tmps : Array Value} {df : List Deferred} {w : World}
  (hS : S w) (h : wpAnyH P md ops Q S fuel (listed.setIfInBounds i true) ⟨tmps.setIfInBounds d v, df⟩ w) (hi : ∃ oi, ops[i]? = some oi ∧ oi.dst = some d ∧ YieldsIf P ops S oi v ⟨tmps, df⟩ := by exact ⟨_, rfl, rfl, Or.inl ⟨by rfl, fun w hSw => by go_simp⟩⟩)
  (hs : Region.noSelect ops = true := by kernel_rfl) (hf : Region.free md ops listed i = true := by kernel_rfl) (hr : (Region.ready md ops listed).contains i = true := by kernel_rfl)
  (hQ : ∀ c (a : Act) w, Q (.panic c) (a.put (some d) v) w → Q (.panic c) a w := by exact fun _ _ _ h => h) : wpAnyH P md ops Q S (fuel + 1) listed ⟨tmps, df⟩ w := take_q i d v hi hs hf hr hQ hS h
theorem on1 {P : Program} {md : Region.Mode} {ops : Array Oper} {Q : Exit → Act → World → Prop} {S : World → Prop} (i : Nat) {fuel : Nat} {listed : Array Bool} {a : Act} {w : World} {o : Oper} (ho : ops[i]? = some o)
  (h : ∀ K' : Act → World → Prop, Shut (∀ a w, S w → (S w → wpAnyH P md ops Q S fuel (listed.setIfInBounds i true) a w) → K' a w) → if Region.wanted o (yielded ops a.tmps) = true then Oper.wp P o a w K' Q else K' (a.put o.dst undef) w)
  (hr : Region.ready md ops listed = [i] := by kernel_rfl) : wpAnyH P md ops Q S (fuel + 1) listed a w := wpAnyH_ready hr (by simp) (AllReadyH.cons ho h AllReadyH.nil)
theorem on2 {P : Program} {md : Region.Mode} {ops : Array Oper} {Q : Exit → Act → World → Prop} {S : World → Prop} (i j : Nat) {fuel : Nat} {listed : Array Bool} {a : Act} {w : World} {o : Oper} (ho : ops[i]? = some o)
  (h : ∀ K' : Act → World → Prop, Shut (∀ a w, S w → (S w → wpAnyH P md ops Q S fuel (listed.setIfInBounds i true) a w) → K' a w) → if Region.wanted o (yielded ops a.tmps) = true then Oper.wp P o a w K' Q else K' (a.put o.dst undef) w)
  {o' : Oper} (ho' : ops[j]? = some o')
  (h' : ∀ K' : Act → World → Prop, Shut (∀ a w, S w → (S w → wpAnyH P md ops Q S fuel (listed.setIfInBounds j true) a w) → K' a w) → if Region.wanted o' (yielded ops a.tmps) = true then Oper.wp P o' a w K' Q else K' (a.put o'.dst undef) w)
  (hr : Region.ready md ops listed = [i, j] := by kernel_rfl) : wpAnyH P md ops Q S (fuel + 1) listed a w := wpAnyH_ready hr (by simp) (AllReadyH.cons ho h (AllReadyH.cons ho' h' AllReadyH.nil))
theorem n3 : (∀ (l : List Value) (i : Nat) (v : Value), l.toArray.setIfInBounds i v = (l.set i v).toArray) ∧ (∀ (l : List Bool) (i : Nat) (v : Bool), l.toArray.setIfInBounds i v = (l.set i v).toArray) ∧
  (∀ (a : Value) (l : List Value) (i : Nat) (v : Value), (a :: l).set (i + 1) v = a :: l.set i v) ∧ (∀ (a : Bool) (l : List Bool) (i : Nat) (v : Bool), (a :: l).set (i + 1) v = a :: l.set i v) ∧
  (∀ (a : Value) (l : List Value) (v : Value), (a :: l).set 0 v = v :: l) ∧ (∀ (a : Bool) (l : List Bool) (v : Bool), (a :: l).set 0 v = v :: l) :=
 ⟨fun _ _ _ => by simp, fun _ _ _ => by simp, fun _ _ _ _ => rfl, fun _ _ _ _ => rfl, fun _ _ _ => rfl, fun _ _ _ => rfl⟩
end
end Go.Proofs.YtoeodjobggodcaaGreatDoor
/- post. -/
namespace Go.Proofs.YtoeodjobggodcaaGreatDoor
section
open Go.RowKit
def TB (n B E : Nat) (w : World) (t : Te) : Prop := B < n ∧ n ≤ E ∧ ∃ cells, w.heap[E]? = some (.cells cells 103 (0, 0)) ∧ cells.size = 9 ∧ TeV (fun b => n ≤ b ∧ b ≠ E) w t (.agg cells)
theorem TB.bt {n B E : Nat} {w w' : World} {t : Te} (h : TB n B E w t) (k : Bt B w w') : TB n B E w' t := by
 obtain ⟨hB, hE, cells, h1, h2, h3⟩ := h
 exact ⟨hB, hE, cells, row_bt k (by omega) h1, h2, h3.move (k.kp (by omega)) (fun _ _ h => h)⟩
theorem TB.open {n B E : Nat} {w : World} {t : Te} (h : TB n B E w t) : ∃ p6 n6 c6 p7 n7 c7, w.heap[E]? = some (.cells #[.int .i64 t.e.op, .string t.e.t, .int .i64 t.e.v.k, .bool t.e.v.b, .int .i64 t.e.v.i, .string t.e.v.s, .slice p6 n6 c6, .slice p7 n7 c7, .int .i64 (t.d : Int)] 103 (0, 0)) ∧
  TeV (fun b => n ≤ b ∧ b ≠ E) w t (.agg #[.int .i64 t.e.op, .string t.e.t, .int .i64 t.e.v.k, .bool t.e.v.b, .int .i64 t.e.v.i, .string t.e.v.s, .slice p6 n6 c6, .slice p7 n7 c7, .int .i64 (t.d : Int)]) := by
 obtain ⟨hB, hE, cells, h1, h2, p6, n6, c6, p7, n7, c7, he, h6, h7, h8⟩ := h
 obtain rfl := Value.agg.inj he
 exact ⟨p6, n6, c6, p7, n7, c7, h1, p6, n6, c6, p7, n7, c7, rfl, h6, h7, h8⟩
theorem TB.put {n B E : Nat} {w : World} {t : Te} {cells cells' : Array Value} (hB : B < n) (hE : n ≤ E) (h1 : w.heap[E]? = some (.cells cells 103 (0, 0))) (h2 : cells'.size = 9) (h3 : TeV (fun b => n ≤ b ∧ b ≠ E) w t (.agg cells')) : TB n B E (w.setRow E cells') t :=
 ⟨hB, hE, cells', setRow_heap _ _ _ _ _ _ h1, h2, h3.move ⟨by simp, fun b hb _ o => World.cell?_of_block (a := ⟨b, o, none⟩) (setRow_other _ _ _ _ (by simp only; omega))⟩ (fun _ _ h => h)⟩
theorem TB.new {n B : Nat} {w : World} {t : Te} {cells : Array Value} (hB : B < n) (hn : n ≤ w.heap.size) (h2 : cells.size = 9) (h : TeV (fun b => n ≤ b) w t (.agg cells)) : TB n B w.heap.size (w.alloc (.cells cells 103)) t :=
 ⟨hB, hn, cells, heap_alloc_new w _, h2, h.move (Kp.alloc _ _) (fun b hb h => ⟨h, by omega⟩)⟩
theorem one_tree {P : Nat → Prop} {w : World} {t : Te} {g : Nat} {p6 : Option Addr} {n6 c6 : Nat} {p7 : Option Addr} {n7 c7 : Nat} {ty : TypeId}
  (hg : w.heap[g]? = some (.cells #[.int .i64 t.e.op, .string t.e.t, .int .i64 t.e.v.k, .bool t.e.v.b, .int .i64 t.e.v.i, .string t.e.v.s, .slice p6 n6 c6, .slice p7 n7 c7, .int .i64 (t.d : Int)] ty (0, 0)))
  (h : TeV P w t (.agg #[.int .i64 t.e.op, .string t.e.t, .int .i64 t.e.v.k, .bool t.e.v.b, .int .i64 t.e.v.i, .string t.e.v.s, .slice p6 n6 c6, .slice p7 n7 c7, .int .i64 (t.d : Int)])) :
  rep (fun b => P b ∨ b = g) w (.sl [t].length ([t].flatMap Te.cs)) (.slice (some ⟨g, 0, none⟩) 1 1) := by
 obtain ⟨q6, m6, d6, q7, m7, d7, he, h6, h7, h8⟩ := h
 simp only [Value.agg.injEq, Array.mk.injEq, List.cons.injEq, true_and, and_true] at he
 obtain ⟨e6, e7⟩ := he
 rw [← e6] at h6
 rw [← e7] at h7
 have hr : reps P w t.cs [.int .i64 t.e.op, .string t.e.t, .int .i64 t.e.v.k, .bool t.e.v.b, .int .i64 t.e.v.i, .string t.e.v.s, .slice p6 n6 c6, .slice p7 n7 c7, .int .i64 (t.d : Int)] := by
  have := reps.append (ex_reps h6 h7) (reps.cons (P := P) (w := w) (d := dI t.d) (rep.lit rfl) reps.nil)
  exact this
 simp only [rep]
 refine ⟨_, 1, _, rfl, Nat.le_refl _, by unfold maxLen; omega, reps.move Kp.refl (fun _ _ h => .inl h) _ _ (by simpa using hr), by simp, fun _ => ⟨g, 0, rfl, .inr rfl, (Array.getElem?_eq_some_iff.1 hg).1, fun j u hj => ?_⟩⟩
 rw [Nat.zero_add, (heap_cell hg j).1, ← hj]
 simp
set_option maxRecDepth 100000 in
set_option maxHeartbeats 4000000 in
theorem post_any {K B o : Nat} {m : List Lx → Rs Te} (hA : TC K B o 174 m) : TC K B o 163 (fun r => (m r).bd fun t r => postL r.length t r) := by
 intro r w h
 have hsz := h.size
 have HA := Hid.intro (hA r _ (h.via (below_al (Below.refl _ _) (.cells #[.int .i64 0, .string ⟨#[]⟩, .int .i64 0, .bool false, .int .i64 0, .string ⟨#[]⟩, .slice none 0 0, .slice none 0 0, .int .i64 0] 103))))
 show Calls _ _ _ _ (Post K B o (r.length - 1) w ((m r).bd fun t r => postL r.length t r) _)
 cases hm : m r with
 | bad q =>
  rw [hm] at HA
  clear hm
  go_enter Tryz.func163, Tryz.ntmps163
  go_wp2_with fail
  refine HA.out.mono ?_
  rintro e w1 ⟨hb, rfl⟩
  exact ⟨rfl, ((Bt.refl B w).alloc _).trans hb, rfl⟩
 | ok t1 r1 =>
  rw [hm] at HA
  clear hm
  simp only [bd_ok]
  go_enter Tryz.func163, Tryz.ntmps163
  go_wp2_with fail
  refine HA.out.mono ?_
  rintro e w1 ⟨hb, hl, hp, v, rfl, hv⟩
  obtain ⟨p6, n6, c6, p7, n7, c7, rfl, h6, h7, h8⟩ := hv
  have hT0 := Hid.intro (TB.new (n := w.heap.size + 1) (B := B) (w := w1) (t := t1) (cells := #[.int .i64 t1.e.op, .string t1.e.t, .int .i64 t1.e.v.k, .bool t1.e.v.b, .int .i64 t1.e.v.i, .string t1.e.v.s, .slice p6 n6 c6, .slice p7 n7 c7, .int .i64 (t1.d : Int)]) (by omega) (by have := hb.size; simpa using this) rfl (TeV.move ⟨p6, n6, c6, p7, n7, c7, rfl, h6, h7, h8⟩ Kp.refl (fun b _ h => by simpa using h)))
  clear h6 h7
  have hR0 := row_bt hb (by omega) (heap_alloc_new w _)
  have hs1 : w.heap.size < w1.heap.size := (Array.getElem?_eq_some_iff.1 hR0).1
  have hB0 := Hid.intro ((((Bt.refl B w).alloc _).trans hb).alloc (.cells #[.int .i64 t1.e.op, .string t1.e.t, .int .i64 t1.e.v.k, .bool t1.e.v.b, .int .i64 t1.e.v.i, .string t1.e.v.s, .slice p6 n6 c6, .slice p7 n7 c7, .int .i64 (t1.d : Int)] 103))
  have HIs := fun r w (h : PAt K w B r o) => Hid.intro (is_any h ⟨#[46]⟩)
  have HNx := fun x r w (h : PAt K w B (x :: r) o) hx => Hid.intro (next_any h hx)
  have HNm := fun r w (h : PAt K w B r o) => Hid.intro (pname_any h)
  have hmo : Tryz.prog.follows .mixedOrders = true := by kernel_rfl
  go_wp2_with fail
  go_loopw [4] (fun _ w' => ∃ t r' f, Hid (TB (w.heap.size + 1) B w1.heap.size w' t) ∧ Hid (PAt K w' B r' o) ∧ r'.length ≤ r.length - 1 ∧ r'.length ≤ f ∧ Hid (Bt B w w') ∧ Hid (w'.heap[w.heap.size]? = some (.cells #[.int .i64 0, .string ⟨#[]⟩, .int .i64 0, .bool false, .int .i64 0, .string ⟨#[]⟩, .slice none 0 0, .slice none 0 0, .int .i64 0] 103 (0, 0))) ∧ Hid (postL f t r' = postL r1.length t1 r1)) (fun _ w' => rlen B w')
  case atStart => exact ⟨t1, r1, r1.length, hT0, hp.via (below_al (Below.refl _ _) _), hl, Nat.le_refl _, hB0, (heap_alloc_old _ _ hs1).trans hR0, rfl⟩
  case round =>
   obtain ⟨t, r', f, HT, HP, hl', hlf, HB, HR, HE⟩ := hrel
   obtain ⟨x, r0, rfl, -⟩ := gd_cons HP.out.gd
   obtain ⟨f, rfl⟩ : ∃ f', f = f' + 1 := ⟨f - 1, by simp at hlf; omega⟩
   have hIs := HIs (x :: r0) wr HP.out
   cases hs : isM ⟨#[46]⟩ (x :: r0) with
   | false =>
    rw [hs] at hIs
    have HE : Hid (Rs.ok t (x :: r0) = postL r1.length t1 r1) := by
     have := HE.out
     rw [postL, if_neg (by simp [hs])] at this
     exact this
    clear hs
    go_wp2_with fail
    refine hIs.out.mono ?_
    rintro e w2 ⟨rfl, hb2⟩
    have HR2 := Hid.intro (row_bt (B := B) (Bt.below hb2) (by omega) HR.out)
    obtain ⟨q6, m6, d6, q7, m7, d7, ho, hv2⟩ := (HT.out.bt (Bt.below hb2)).open
    have HO := Hid.intro ho
    go_wp2_with (first | (with_reducible refine (id (?_ : wpList _ _ _ (Oper.mk _ (Op.load _ _) _ _ _ _ :: _) _ _)); refine wpList_load_cells rfl _ _ rfl _ rfl _ _ _ HO.out Tryz.underlying103 infoTree rfl ?_) | (with_reducible refine (id (?_ : wpList _ _ _ (Oper.mk _ (Op.store _ _ _) _ _ _ _ :: _) _ _)); refine wpList_store_row rfl _ _ _ rfl _ _ rfl rfl _ _ HR2.out infoTree rfl rfl (by simp [Value.oneCell']) ?_))
    refine ret_cells rfl rfl (setRow_heap _ _ _ _ _ _ HR2.out) Tryz.underlying103 infoTree rfl rfl ?_
    rw [← HE.out]
    refine Post.ok ((HB.out.trans (Bt.below hb2)).row (Nat.le_refl _) _) hl' ((HP.out.via hb2).row hsz.1 _) ?_
    exact hv2.move ⟨by simp, fun b hb _ o => World.cell?_of_block (a := ⟨b, o, none⟩) (setRow_other _ _ _ _ (by simp only; omega))⟩ (fun b _ h => by omega)
   | true =>
    rw [hs] at hIs
    have hx : x.k ≠ -1 := by intro e; simp [isM, spl, e] at hs
    have HE : Hid ((nameM r0).bd (fun s r' => (nodeM x.a { op := 4, t := s } [t] r').bd (postL f)) = postL r1.length t1 r1) := by
     have := HE.out
     rw [postL, if_pos hs] at this
     exact this
    clear hs
    go_wp2_with fail
    refine hIs.out.mono ?_
    rintro e w2 ⟨rfl, hb2⟩
    have hfa := fld_a x.k x.a x.e x.t
    go_wp2_with fail
    refine (HNx x r0 w2 (HP.out.via hb2) hx).out.mono ?_
    rintro e w3 ⟨rfl, hb3, hp3⟩
    go_wp2_with fail
    -- region
    have hT3d : Hid (TB (w.heap.size + 1) B w1.heap.size w3.drew t) := (HT.out.bt ((Bt.below hb2).trans hb3)).bt (Bt.refl B w3).drew
    have hR3d : w3.drew.heap[w.heap.size]? = _ := (row_bt ((Bt.below hb2).trans hb3) (by omega) HR.out)
    have hsz3 : w.heap.size < w3.heap.size := (Array.getElem?_eq_some_iff.1 hR3d).1
    have hd30 : t.d ≤ 30 := by obtain ⟨-, -, _, -, -, _, _, _, _, _, _, -, -, -, h⟩ := HT.out; exact h
    have hw1s : w.heap.size < w1.heap.size := hs1
    have hE3 : w1.heap.size < w3.heap.size := (Array.getElem?_eq_some_iff.1 hT3d.out.open.choose_spec.choose_spec.choose_spec.choose_spec.choose_spec.choose_spec.1).1
    have hdr : w3.drew.heap.size = w3.heap.size := rfl
    cases hnm : nameM r0 with
    | bad q =>
     rw [hnm] at HE
     rw [bd_bad] at HE
     refine wp_region_held_drew (S := fun _ => True) hmo trivial (fun _ => ?_)
     refine take_q 0 12 (.int .i64 (x.a : Int)) ⟨_, rfl, rfl, Or.inl ⟨by rfl, fun w hSw => by go_simp⟩⟩ (by kernel_rfl) (by kernel_rfl) (by kernel_rfl) (fun _ _ _ h => h) trivial ?_
     simp only [n3]
     refine take_q 1 13 (.pointer (some ⟨B, 0, none⟩)) ⟨_, rfl, rfl, Or.inl ⟨by rfl, fun w hSw => by go_simp⟩⟩ (by kernel_rfl) (by kernel_rfl) (by kernel_rfl) (fun _ _ _ h => h) trivial ?_
     simp only [n3]
     refine on2 2 4 rfl (fun K hK => ?_) rfl (fun K hK => ?_)
     ·go_simp
      refine (HNm r0 w3.drew (hp3.via (Below.refl _ _).drew)).out.mono ?_
      rw [hnm]
      rintro e w4 ⟨hb4, rfl⟩
      refine ⟨rfl, (((HB.out.trans (Bt.below hb2)).trans hb3).drew.trans hb4), ?_⟩
      rw [← HE.out]
     ·obtain ⟨q6, m6, d6, q7, m7, d7, ho3, hv3⟩ := hT3d.out.open
      have HO3 := Hid.intro ho3
      rw [if_pos (by rfl)]
      refine wp_load_cells _ _ rfl _ rfl _ _ _ HO3.out Tryz.underlying103 infoTree rfl ?_
      refine hK.out _ _ trivial (fun _ => ?_)
      clear hK K
      (try simp only [Act.put, List.setIfInBounds_toArray])
      refine on2 2 5 rfl (fun K hK => ?_) rfl (fun K hK => ?_)
      ·go_simp
       refine (HNm r0 w3.drew (hp3.via (Below.refl _ _).drew)).out.mono ?_
       rw [hnm]
       rintro e w4 ⟨hb4, rfl⟩
       refine ⟨rfl, (((HB.out.trans (Bt.below hb2)).trans hb3).drew.trans hb4), ?_⟩
       rw [← HE.out]
      ·go_simp
       go_wp2_with fail
       refine hK.out _ _ trivial (fun _ => ?_)
       clear hK K
       (try simp only [Act.put, n3])
       refine on1 2 rfl (fun K hK => ?_)
       go_simp
       refine (HNm r0 (w3.drew.alloc (.cells #[.int .i64 t.e.op, .string t.e.t, .int .i64 t.e.v.k, .bool t.e.v.b, .int .i64 t.e.v.i, .string t.e.v.s, .slice q6 m6 d6, .slice q7 m7 d7, .int .i64 (t.d : Int)] 103)) ((hp3.via (Below.refl _ _).drew).via (below_al (Below.refl _ _) _))).out.mono ?_
       rw [hnm]
       rintro e w4 ⟨hb4, rfl⟩
       refine ⟨rfl, ((((HB.out.trans (Bt.below hb2)).trans hb3).drew.alloc _).trans hb4), ?_⟩
       rw [← HE.out]
    | ok s r2 =>
     rw [hnm, bd_ok] at HE
     by_cases h30 : 30 < deepM [t]
     ·have hnd : nodeM x.a { op := 4, t := s } [t] r2 = .bad x.a := if_pos h30
      rw [hnd, bd_bad] at HE
      refine wp_region_held_drew (S := fun _ => True) hmo trivial (fun _ => ?_)
      refine take_q 0 12 (.int .i64 (x.a : Int)) ⟨_, rfl, rfl, Or.inl ⟨by rfl, fun w hSw => by go_simp⟩⟩ (by kernel_rfl) (by kernel_rfl) (by kernel_rfl) (fun _ _ _ h => h) trivial ?_
      simp only [n3]
      refine take_q 1 13 (.pointer (some ⟨B, 0, none⟩)) ⟨_, rfl, rfl, Or.inl ⟨by rfl, fun w hSw => by go_simp⟩⟩ (by kernel_rfl) (by kernel_rfl) (by kernel_rfl) (fun _ _ _ h => h) trivial ?_
      simp only [n3]
      refine on2 2 4 rfl (fun K hK => ?_) rfl (fun K hK => ?_)
      ·go_simp
       refine (HNm r0 w3.drew (hp3.via (Below.refl _ _).drew)).out.mono ?_
       rw [hnm]
       rintro e w4 ⟨hb4, hl4, hp4, v4, rfl, rfl⟩
       go_wp2_with fail
       refine hK.out _ _ trivial (fun _ => ?_)
       clear hK K
       (try simp only [Act.put, n3])
       refine take_q 3 15 (.agg #[.int .i64 4, .string s, .int .i64 0, .bool false, .int .i64 0, .string ⟨#[]⟩, .slice none 0 0, .slice none 0 0]) ⟨_, rfl, rfl, Or.inl ⟨by rfl, fun w hSw => by go_simp⟩⟩ (by kernel_rfl) (by kernel_rfl) (by kernel_rfl) (fun _ _ _ h => h) trivial ?_
       simp only [n3]
       have HT4 := Hid.intro (hT3d.out.bt hb4)
       have hR4 := row_bt hb4 (by omega) hR3d
       obtain ⟨q6, m6, d6, q7, m7, d7, ho4, hv4⟩ := HT4.out.open
       have HO4 := Hid.intro ho4
       refine on1 4 rfl (fun K hK => ?_)
       rw [if_pos (by rfl)]
       refine wp_load_cells _ _ rfl _ rfl _ _ _ HO4.out Tryz.underlying103 infoTree rfl ?_
       refine hK.out _ _ trivial (fun _ => ?_)
       clear hK K
       (try simp only [Act.put, List.setIfInBounds_toArray])
       refine on1 5 rfl (fun K hK => ?_)
       go_simp
       go_wp2_with fail
       refine hK.out _ _ trivial (fun _ => ?_)
       clear hK K
       (try simp only [Act.put, n3])
       have hT5 := Hid.intro (HT4.out.bt ((Bt.refl B w4).alloc (.cells #[.int .i64 t.e.op, .string t.e.t, .int .i64 t.e.v.k, .bool t.e.v.b, .int .i64 t.e.v.i, .string t.e.v.s, .slice q6 m6 d6, .slice q7 m7 d7, .int .i64 (t.d : Int)] 103)))
       have hsz4 : w3.heap.size ≤ w4.heap.size := hb4.size
       have hE4 : w1.heap.size < w4.heap.size := (Array.getElem?_eq_some_iff.1 ho4).1
       have hv5 := hv4.move (Kp.alloc w4 (.cells #[.int .i64 t.e.op, .string t.e.t, .int .i64 t.e.v.k, .bool t.e.v.b, .int .i64 t.e.v.i, .string t.e.v.s, .slice q6 m6 d6, .slice q7 m7 d7, .int .i64 (t.d : Int)] 103)) (fun _ _ h => h)
       refine on1 6 rfl (fun K hK => ?_)
       have hsW : w3.heap.size ≤ (w4.alloc (.cells #[.int .i64 t.e.op, .string t.e.t, .int .i64 t.e.v.k, .bool t.e.v.b, .int .i64 t.e.v.i, .string t.e.v.s, .slice q6 m6 d6, .slice q7 m7 d7, .int .i64 (t.d : Int)] 103)).heap.size := by have := hb4.size; simp at this ⊢; omega
       go_simp
       refine (node_any x.a 4 s [t] (one_tree (heap_alloc_new w4 _) hv5) (by simpa using hd30) (by simp)).mono ?_
       rintro e w6 ⟨hb6, he6⟩
       rw [if_pos h30] at he6
       subst he6
       refine ⟨rfl, ((((HB.out.trans (Bt.below hb2)).trans hb3).drew.trans hb4).alloc _).trans (Bt.below hb6), ?_⟩
       rw [← HE.out]
      ·obtain ⟨q6, m6, d6, q7, m7, d7, ho3, hv3⟩ := hT3d.out.open
       have HO3 := Hid.intro ho3
       rw [if_pos (by rfl)]
       refine wp_load_cells _ _ rfl _ rfl _ _ _ HO3.out Tryz.underlying103 infoTree rfl ?_
       refine hK.out _ _ trivial (fun _ => ?_)
       clear hK K
       (try simp only [Act.put, List.setIfInBounds_toArray])
       refine on2 2 5 rfl (fun K hK => ?_) rfl (fun K hK => ?_)
       ·go_simp
        refine (HNm r0 w3.drew (hp3.via (Below.refl _ _).drew)).out.mono ?_
        rw [hnm]
        rintro e w4 ⟨hb4, hl4, hp4, v4, rfl, rfl⟩
        go_wp2_with fail
        refine hK.out _ _ trivial (fun _ => ?_)
        clear hK K
        (try simp only [Act.put, n3])
        refine take_q 3 15 (.agg #[.int .i64 4, .string s, .int .i64 0, .bool false, .int .i64 0, .string ⟨#[]⟩, .slice none 0 0, .slice none 0 0]) ⟨_, rfl, rfl, Or.inl ⟨by rfl, fun w hSw => by go_simp⟩⟩ (by kernel_rfl) (by kernel_rfl) (by kernel_rfl) (fun _ _ _ h => h) trivial ?_
        simp only [n3]
        have HT4 := Hid.intro (hT3d.out.bt hb4)
        have hR4 := row_bt hb4 (by omega) hR3d
        refine on1 5 rfl (fun K hK => ?_)
        go_simp
        go_wp2_with fail
        refine hK.out _ _ trivial (fun _ => ?_)
        clear hK K
        (try simp only [Act.put, n3])
        have hT5 := Hid.intro (HT4.out.bt ((Bt.refl B w4).alloc (.cells #[.int .i64 t.e.op, .string t.e.t, .int .i64 t.e.v.k, .bool t.e.v.b, .int .i64 t.e.v.i, .string t.e.v.s, .slice q6 m6 d6, .slice q7 m7 d7, .int .i64 (t.d : Int)] 103)))
        have hE4 : w1.heap.size < w4.heap.size := Nat.lt_of_lt_of_le hE3 hb4.size
        have hv5 := (hv3.move (hb4.kp (by omega)) (fun _ _ h => h)).move (Kp.alloc w4 (.cells #[.int .i64 t.e.op, .string t.e.t, .int .i64 t.e.v.k, .bool t.e.v.b, .int .i64 t.e.v.i, .string t.e.v.s, .slice q6 m6 d6, .slice q7 m7 d7, .int .i64 (t.d : Int)] 103)) (fun _ _ h => h)
        refine on1 6 rfl (fun K hK => ?_)
        have hsW : w3.heap.size ≤ (w4.alloc (.cells #[.int .i64 t.e.op, .string t.e.t, .int .i64 t.e.v.k, .bool t.e.v.b, .int .i64 t.e.v.i, .string t.e.v.s, .slice q6 m6 d6, .slice q7 m7 d7, .int .i64 (t.d : Int)] 103)).heap.size := by have := hb4.size; simp at this ⊢; omega
        go_simp
        refine (node_any x.a 4 s [t] (one_tree (heap_alloc_new w4 _) hv5) (by simpa using hd30) (by simp)).mono ?_
        rintro e w6 ⟨hb6, he6⟩
        rw [if_pos h30] at he6
        subst he6
        refine ⟨rfl, ((((HB.out.trans (Bt.below hb2)).trans hb3).drew.trans hb4).alloc _).trans (Bt.below hb6), ?_⟩
        rw [← HE.out]
       ·go_simp
        go_wp2_with fail
        refine hK.out _ _ trivial (fun _ => ?_)
        clear hK K
        (try simp only [Act.put, n3])
        refine on1 2 rfl (fun K hK => ?_)
        go_simp
        refine (HNm r0 (w3.drew.alloc (.cells #[.int .i64 t.e.op, .string t.e.t, .int .i64 t.e.v.k, .bool t.e.v.b, .int .i64 t.e.v.i, .string t.e.v.s, .slice q6 m6 d6, .slice q7 m7 d7, .int .i64 (t.d : Int)] 103)) ((hp3.via (Below.refl _ _).drew).via (below_al (Below.refl _ _) _))).out.mono ?_
        rw [hnm]
        rintro e w4 ⟨hb4, hl4, hp4, v4, rfl, rfl⟩
        go_wp2_with fail
        refine hK.out _ _ trivial (fun _ => ?_)
        clear hK K
        (try simp only [Act.put, n3])
        refine take_q 3 15 (.agg #[.int .i64 4, .string s, .int .i64 0, .bool false, .int .i64 0, .string ⟨#[]⟩, .slice none 0 0, .slice none 0 0]) ⟨_, rfl, rfl, Or.inl ⟨by rfl, fun w hSw => by go_simp⟩⟩ (by kernel_rfl) (by kernel_rfl) (by kernel_rfl) (fun _ _ _ h => h) trivial ?_
        simp only [n3]
        have HT4 := Hid.intro ((hT3d.out.bt ((Bt.refl B w3.drew).alloc (.cells #[.int .i64 t.e.op, .string t.e.t, .int .i64 t.e.v.k, .bool t.e.v.b, .int .i64 t.e.v.i, .string t.e.v.s, .slice q6 m6 d6, .slice q7 m7 d7, .int .i64 (t.d : Int)] 103))).bt hb4)
        have hR4 := row_bt hb4 (by omega) ((heap_alloc_old w3.drew (.cells #[.int .i64 t.e.op, .string t.e.t, .int .i64 t.e.v.k, .bool t.e.v.b, .int .i64 t.e.v.i, .string t.e.v.s, .slice q6 m6 d6, .slice q7 m7 d7, .int .i64 (t.d : Int)] 103) (Nat.lt_trans (by omega) hE3)).trans hR3d)
        have hg4 := row_bt hb4 (by have := (HT.out).2.1; omega) (heap_alloc_new w3.drew (.cells #[.int .i64 t.e.op, .string t.e.t, .int .i64 t.e.v.k, .bool t.e.v.b, .int .i64 t.e.v.i, .string t.e.v.s, .slice q6 m6 d6, .slice q7 m7 d7, .int .i64 (t.d : Int)] 103))
        have hE4 : w1.heap.size < w4.heap.size := Nat.lt_of_lt_of_le hE3 (by have := hb4.size; rw [World.size_alloc] at this; omega)
        have hv5 := (hv3.move (Kp.alloc w3.drew (.cells #[.int .i64 t.e.op, .string t.e.t, .int .i64 t.e.v.k, .bool t.e.v.b, .int .i64 t.e.v.i, .string t.e.v.s, .slice q6 m6 d6, .slice q7 m7 d7, .int .i64 (t.d : Int)] 103)) (fun _ _ h => h)).move (hb4.kp (by omega)) (fun _ _ h => h)
        refine on1 6 rfl (fun K hK => ?_)
        have hsW : w3.heap.size ≤ w4.heap.size := by have := hb4.size; simp at this ⊢; omega
        go_simp
        refine (node_any x.a 4 s [t] (one_tree hg4 hv5) (by simpa using hd30) (by simp)).mono ?_
        rintro e w6 ⟨hb6, he6⟩
        rw [if_pos h30] at he6
        subst he6
        refine ⟨rfl, ((((HB.out.trans (Bt.below hb2)).trans hb3).drew.alloc _).trans hb4).trans (Bt.below hb6), ?_⟩
        rw [← HE.out]
     ·have hnd : nodeM x.a { op := 4, t := s } [t] r2 = .ok ⟨{ op := 4, t := s, a := [t].map Te.e }, deepM [t]⟩ r2 := if_neg h30
      rw [hnd, bd_ok] at HE
      refine wp_region_held_drew (S := fun _ => True) hmo trivial (fun _ => ?_)
      refine take_q 0 12 (.int .i64 (x.a : Int)) ⟨_, rfl, rfl, Or.inl ⟨by rfl, fun w hSw => by go_simp⟩⟩ (by kernel_rfl) (by kernel_rfl) (by kernel_rfl) (fun _ _ _ h => h) trivial ?_
      simp only [n3]
      refine take_q 1 13 (.pointer (some ⟨B, 0, none⟩)) ⟨_, rfl, rfl, Or.inl ⟨by rfl, fun w hSw => by go_simp⟩⟩ (by kernel_rfl) (by kernel_rfl) (by kernel_rfl) (fun _ _ _ h => h) trivial ?_
      simp only [n3]
      refine on2 2 4 rfl (fun K hK => ?_) rfl (fun K hK => ?_)
      ·go_simp
       refine (HNm r0 w3.drew (hp3.via (Below.refl _ _).drew)).out.mono ?_
       rw [hnm]
       rintro e w4 ⟨hb4, hl4, hp4, v4, rfl, rfl⟩
       go_wp2_with fail
       refine hK.out _ _ trivial (fun _ => ?_)
       clear hK K
       (try simp only [Act.put, n3])
       refine take_q 3 15 (.agg #[.int .i64 4, .string s, .int .i64 0, .bool false, .int .i64 0, .string ⟨#[]⟩, .slice none 0 0, .slice none 0 0]) ⟨_, rfl, rfl, Or.inl ⟨by rfl, fun w hSw => by go_simp⟩⟩ (by kernel_rfl) (by kernel_rfl) (by kernel_rfl) (fun _ _ _ h => h) trivial ?_
       simp only [n3]
       have HT4 := Hid.intro (hT3d.out.bt hb4)
       have hR4 := row_bt hb4 (by omega) hR3d
       obtain ⟨q6, m6, d6, q7, m7, d7, ho4, hv4⟩ := HT4.out.open
       have HO4 := Hid.intro ho4
       refine on1 4 rfl (fun K hK => ?_)
       rw [if_pos (by rfl)]
       refine wp_load_cells _ _ rfl _ rfl _ _ _ HO4.out Tryz.underlying103 infoTree rfl ?_
       refine hK.out _ _ trivial (fun _ => ?_)
       clear hK K
       (try simp only [Act.put, List.setIfInBounds_toArray])
       refine on1 5 rfl (fun K hK => ?_)
       go_simp
       go_wp2_with fail
       refine hK.out _ _ trivial (fun _ => ?_)
       clear hK K
       (try simp only [Act.put, n3])
       have hT5 := Hid.intro (HT4.out.bt ((Bt.refl B w4).alloc (.cells #[.int .i64 t.e.op, .string t.e.t, .int .i64 t.e.v.k, .bool t.e.v.b, .int .i64 t.e.v.i, .string t.e.v.s, .slice q6 m6 d6, .slice q7 m7 d7, .int .i64 (t.d : Int)] 103)))
       have hsz4 : w3.heap.size ≤ w4.heap.size := hb4.size
       have hE4 : w1.heap.size < w4.heap.size := (Array.getElem?_eq_some_iff.1 ho4).1
       have hv5 := hv4.move (Kp.alloc w4 (.cells #[.int .i64 t.e.op, .string t.e.t, .int .i64 t.e.v.k, .bool t.e.v.b, .int .i64 t.e.v.i, .string t.e.v.s, .slice q6 m6 d6, .slice q7 m7 d7, .int .i64 (t.d : Int)] 103)) (fun _ _ h => h)
       refine on1 6 rfl (fun K hK => ?_)
       have hsW : w3.heap.size ≤ (w4.alloc (.cells #[.int .i64 t.e.op, .string t.e.t, .int .i64 t.e.v.k, .bool t.e.v.b, .int .i64 t.e.v.i, .string t.e.v.s, .slice q6 m6 d6, .slice q7 m7 d7, .int .i64 (t.d : Int)] 103)).heap.size := by have := hb4.size; simp at this ⊢; omega
       go_simp
       refine (node_any x.a 4 s [t] (one_tree (heap_alloc_new w4 _) hv5) (by simpa using hd30) (by simp)).mono ?_
       rintro e w6 ⟨hb6, he6⟩
       rw [if_neg h30] at he6
       obtain ⟨v6, rfl, hv6⟩ := he6
       obtain ⟨y6, k6, e6, y7, k7, e7, rfl, z6, z7, z8⟩ := hv6
       go_wp2_with fail
       refine hK.out _ _ trivial (fun _ => ?_)
       clear hK K
       (try simp only [Act.put, n3])
       refine on1 7 rfl (fun K hK => ?_)
       have HO6 := Hid.intro (row_call hb6 (by have := hT5.out.2.1; have := (Array.getElem?_eq_some_iff.1 (hT5.out).open.choose_spec.choose_spec.choose_spec.choose_spec.choose_spec.choose_spec.1).1; omega) (hT5.out).open.choose_spec.choose_spec.choose_spec.choose_spec.choose_spec.choose_spec.1)
       rw [if_pos (by rfl)]
       refine wp_store_cells _ _ _ rfl _ _ rfl rfl _ _ HO6.out infoTree rfl rfl (by simp [Value.oneCell']) ?_
       refine hK.out _ _ trivial (fun _ => ?_)
       clear hK K
       (try simp only [Act.put, List.setIfInBounds_toArray])
       refine wpAnyH_done (by kernel_rfl) ?_ _
       have hT6 : Hid (TB (w.heap.size + 1) B w1.heap.size (w6.setRow w1.heap.size #[.int .i64 4, .string s, .int .i64 0, .bool false, .int .i64 0, .string ⟨#[]⟩, .slice y6 k6 e6, .slice y7 k7 e7, .int .i64 (deepM [t] : Int)]) ⟨{ op := 4, t := s, a := [t].map Te.e }, deepM [t]⟩) := TB.put (by omega) (by omega) HO6.out rfl ⟨y6, k6, e6, y7, k7, e7, rfl, rep.move Kp.refl (fun b _ h => by rcases h with (h | h) | h <;> omega) _ _ z6, rep.move Kp.refl (fun b _ h => by rcases h with (h | h) | h <;> omega) _ _ z7, z8⟩
       have hB6 : Hid (Bt B w (w6.setRow w1.heap.size #[.int .i64 4, .string s, .int .i64 0, .bool false, .int .i64 0, .string ⟨#[]⟩, .slice y6 k6 e6, .slice y7 k7 e7, .int .i64 (deepM [t] : Int)])) := (((((HB.out.trans (Bt.below hb2)).trans hb3).drew.trans hb4).alloc _).trans (Bt.below hb6)).row (by omega) _
       have hP6 : Hid (PAt K (w6.setRow w1.heap.size #[.int .i64 4, .string s, .int .i64 0, .bool false, .int .i64 0, .string ⟨#[]⟩, .slice y6 k6 e6, .slice y7 k7 e7, .int .i64 (deepM [t] : Int)]) B r2 o) := ((hp4.via (below_al (Below.refl _ _) _)).via hb6).row (by omega) _
       have hR6 : Hid ((w6.setRow w1.heap.size #[.int .i64 4, .string s, .int .i64 0, .bool false, .int .i64 0, .string ⟨#[]⟩, .slice y6 k6 e6, .slice y7 k7 e7, .int .i64 (deepM [t] : Int)]).heap[w.heap.size]? = _) := (setRow_other _ _ _ _ (by omega)).trans (row_call hb6 (by omega) ((heap_alloc_old _ _ (by omega)).trans hR4))
       have hrl := HP.out.rlen
       have hrl6 := hP6.out.rlen
       simp only [List.length_cons] at hrl hlf hl'
       go_wp2_with fail
       go_roundw
       case rel => exact ⟨_, r2, f, hT6, hP6, by omega, by omega, hB6, hR6, HE⟩
       case measure => rw [hrl, hrl6]; omega
      ·obtain ⟨q6, m6, d6, q7, m7, d7, ho3, hv3⟩ := hT3d.out.open
       have HO3 := Hid.intro ho3
       rw [if_pos (by rfl)]
       refine wp_load_cells _ _ rfl _ rfl _ _ _ HO3.out Tryz.underlying103 infoTree rfl ?_
       refine hK.out _ _ trivial (fun _ => ?_)
       clear hK K
       (try simp only [Act.put, List.setIfInBounds_toArray])
       refine on2 2 5 rfl (fun K hK => ?_) rfl (fun K hK => ?_)
       ·go_simp
        refine (HNm r0 w3.drew (hp3.via (Below.refl _ _).drew)).out.mono ?_
        rw [hnm]
        rintro e w4 ⟨hb4, hl4, hp4, v4, rfl, rfl⟩
        go_wp2_with fail
        refine hK.out _ _ trivial (fun _ => ?_)
        clear hK K
        (try simp only [Act.put, n3])
        refine take_q 3 15 (.agg #[.int .i64 4, .string s, .int .i64 0, .bool false, .int .i64 0, .string ⟨#[]⟩, .slice none 0 0, .slice none 0 0]) ⟨_, rfl, rfl, Or.inl ⟨by rfl, fun w hSw => by go_simp⟩⟩ (by kernel_rfl) (by kernel_rfl) (by kernel_rfl) (fun _ _ _ h => h) trivial ?_
        simp only [n3]
        have HT4 := Hid.intro (hT3d.out.bt hb4)
        have hR4 := row_bt hb4 (by omega) hR3d
        refine on1 5 rfl (fun K hK => ?_)
        go_simp
        go_wp2_with fail
        refine hK.out _ _ trivial (fun _ => ?_)
        clear hK K
        (try simp only [Act.put, n3])
        have hT5 := Hid.intro (HT4.out.bt ((Bt.refl B w4).alloc (.cells #[.int .i64 t.e.op, .string t.e.t, .int .i64 t.e.v.k, .bool t.e.v.b, .int .i64 t.e.v.i, .string t.e.v.s, .slice q6 m6 d6, .slice q7 m7 d7, .int .i64 (t.d : Int)] 103)))
        have hE4 : w1.heap.size < w4.heap.size := Nat.lt_of_lt_of_le hE3 hb4.size
        have hv5 := (hv3.move (hb4.kp (by omega)) (fun _ _ h => h)).move (Kp.alloc w4 (.cells #[.int .i64 t.e.op, .string t.e.t, .int .i64 t.e.v.k, .bool t.e.v.b, .int .i64 t.e.v.i, .string t.e.v.s, .slice q6 m6 d6, .slice q7 m7 d7, .int .i64 (t.d : Int)] 103)) (fun _ _ h => h)
        refine on1 6 rfl (fun K hK => ?_)
        have hsW : w3.heap.size ≤ (w4.alloc (.cells #[.int .i64 t.e.op, .string t.e.t, .int .i64 t.e.v.k, .bool t.e.v.b, .int .i64 t.e.v.i, .string t.e.v.s, .slice q6 m6 d6, .slice q7 m7 d7, .int .i64 (t.d : Int)] 103)).heap.size := by have := hb4.size; simp at this ⊢; omega
        go_simp
        refine (node_any x.a 4 s [t] (one_tree (heap_alloc_new w4 _) hv5) (by simpa using hd30) (by simp)).mono ?_
        rintro e w6 ⟨hb6, he6⟩
        rw [if_neg h30] at he6
        obtain ⟨v6, rfl, hv6⟩ := he6
        obtain ⟨y6, k6, e6, y7, k7, e7, rfl, z6, z7, z8⟩ := hv6
        go_wp2_with fail
        refine hK.out _ _ trivial (fun _ => ?_)
        clear hK K
        (try simp only [Act.put, n3])
        refine on1 7 rfl (fun K hK => ?_)
        have HO6 := Hid.intro (row_call hb6 (by have := hT5.out.2.1; have := (Array.getElem?_eq_some_iff.1 (hT5.out).open.choose_spec.choose_spec.choose_spec.choose_spec.choose_spec.choose_spec.1).1; omega) (hT5.out).open.choose_spec.choose_spec.choose_spec.choose_spec.choose_spec.choose_spec.1)
        rw [if_pos (by rfl)]
        refine wp_store_cells _ _ _ rfl _ _ rfl rfl _ _ HO6.out infoTree rfl rfl (by simp [Value.oneCell']) ?_
        refine hK.out _ _ trivial (fun _ => ?_)
        clear hK K
        (try simp only [Act.put, List.setIfInBounds_toArray])
        refine wpAnyH_done (by kernel_rfl) ?_ _
        have hT6 : Hid (TB (w.heap.size + 1) B w1.heap.size (w6.setRow w1.heap.size #[.int .i64 4, .string s, .int .i64 0, .bool false, .int .i64 0, .string ⟨#[]⟩, .slice y6 k6 e6, .slice y7 k7 e7, .int .i64 (deepM [t] : Int)]) ⟨{ op := 4, t := s, a := [t].map Te.e }, deepM [t]⟩) := TB.put (by omega) (by omega) HO6.out rfl ⟨y6, k6, e6, y7, k7, e7, rfl, rep.move Kp.refl (fun b _ h => by rcases h with (h | h) | h <;> omega) _ _ z6, rep.move Kp.refl (fun b _ h => by rcases h with (h | h) | h <;> omega) _ _ z7, z8⟩
        have hB6 : Hid (Bt B w (w6.setRow w1.heap.size #[.int .i64 4, .string s, .int .i64 0, .bool false, .int .i64 0, .string ⟨#[]⟩, .slice y6 k6 e6, .slice y7 k7 e7, .int .i64 (deepM [t] : Int)])) := (((((HB.out.trans (Bt.below hb2)).trans hb3).drew.trans hb4).alloc _).trans (Bt.below hb6)).row (by omega) _
        have hP6 : Hid (PAt K (w6.setRow w1.heap.size #[.int .i64 4, .string s, .int .i64 0, .bool false, .int .i64 0, .string ⟨#[]⟩, .slice y6 k6 e6, .slice y7 k7 e7, .int .i64 (deepM [t] : Int)]) B r2 o) := ((hp4.via (below_al (Below.refl _ _) _)).via hb6).row (by omega) _
        have hR6 : Hid ((w6.setRow w1.heap.size #[.int .i64 4, .string s, .int .i64 0, .bool false, .int .i64 0, .string ⟨#[]⟩, .slice y6 k6 e6, .slice y7 k7 e7, .int .i64 (deepM [t] : Int)]).heap[w.heap.size]? = _) := (setRow_other _ _ _ _ (by omega)).trans (row_call hb6 (by omega) ((heap_alloc_old _ _ (by omega)).trans hR4))
        have hrl := HP.out.rlen
        have hrl6 := hP6.out.rlen
        simp only [List.length_cons] at hrl hlf hl'
        go_wp2_with fail
        go_roundw
        case rel => exact ⟨_, r2, f, hT6, hP6, by omega, by omega, hB6, hR6, HE⟩
        case measure => rw [hrl, hrl6]; omega
       ·go_simp
        go_wp2_with fail
        refine hK.out _ _ trivial (fun _ => ?_)
        clear hK K
        (try simp only [Act.put, n3])
        refine on1 2 rfl (fun K hK => ?_)
        go_simp
        refine (HNm r0 (w3.drew.alloc (.cells #[.int .i64 t.e.op, .string t.e.t, .int .i64 t.e.v.k, .bool t.e.v.b, .int .i64 t.e.v.i, .string t.e.v.s, .slice q6 m6 d6, .slice q7 m7 d7, .int .i64 (t.d : Int)] 103)) ((hp3.via (Below.refl _ _).drew).via (below_al (Below.refl _ _) _))).out.mono ?_
        rw [hnm]
        rintro e w4 ⟨hb4, hl4, hp4, v4, rfl, rfl⟩
        go_wp2_with fail
        refine hK.out _ _ trivial (fun _ => ?_)
        clear hK K
        (try simp only [Act.put, n3])
        refine take_q 3 15 (.agg #[.int .i64 4, .string s, .int .i64 0, .bool false, .int .i64 0, .string ⟨#[]⟩, .slice none 0 0, .slice none 0 0]) ⟨_, rfl, rfl, Or.inl ⟨by rfl, fun w hSw => by go_simp⟩⟩ (by kernel_rfl) (by kernel_rfl) (by kernel_rfl) (fun _ _ _ h => h) trivial ?_
        simp only [n3]
        have HT4 := Hid.intro ((hT3d.out.bt ((Bt.refl B w3.drew).alloc (.cells #[.int .i64 t.e.op, .string t.e.t, .int .i64 t.e.v.k, .bool t.e.v.b, .int .i64 t.e.v.i, .string t.e.v.s, .slice q6 m6 d6, .slice q7 m7 d7, .int .i64 (t.d : Int)] 103))).bt hb4)
        have hR4 := row_bt hb4 (by omega) ((heap_alloc_old w3.drew (.cells #[.int .i64 t.e.op, .string t.e.t, .int .i64 t.e.v.k, .bool t.e.v.b, .int .i64 t.e.v.i, .string t.e.v.s, .slice q6 m6 d6, .slice q7 m7 d7, .int .i64 (t.d : Int)] 103) (Nat.lt_trans (by omega) hE3)).trans hR3d)
        have hg4 := row_bt hb4 (by have := (HT.out).2.1; omega) (heap_alloc_new w3.drew (.cells #[.int .i64 t.e.op, .string t.e.t, .int .i64 t.e.v.k, .bool t.e.v.b, .int .i64 t.e.v.i, .string t.e.v.s, .slice q6 m6 d6, .slice q7 m7 d7, .int .i64 (t.d : Int)] 103))
        have hE4 : w1.heap.size < w4.heap.size := Nat.lt_of_lt_of_le hE3 (by have := hb4.size; rw [World.size_alloc] at this; omega)
        have hv5 := (hv3.move (Kp.alloc w3.drew (.cells #[.int .i64 t.e.op, .string t.e.t, .int .i64 t.e.v.k, .bool t.e.v.b, .int .i64 t.e.v.i, .string t.e.v.s, .slice q6 m6 d6, .slice q7 m7 d7, .int .i64 (t.d : Int)] 103)) (fun _ _ h => h)).move (hb4.kp (by omega)) (fun _ _ h => h)
        refine on1 6 rfl (fun K hK => ?_)
        have hsW : w3.heap.size ≤ w4.heap.size := by have := hb4.size; simp at this ⊢; omega
        go_simp
        refine (node_any x.a 4 s [t] (one_tree hg4 hv5) (by simpa using hd30) (by simp)).mono ?_
        rintro e w6 ⟨hb6, he6⟩
        rw [if_neg h30] at he6
        obtain ⟨v6, rfl, hv6⟩ := he6
        obtain ⟨y6, k6, e6, y7, k7, e7, rfl, z6, z7, z8⟩ := hv6
        go_wp2_with fail
        refine hK.out _ _ trivial (fun _ => ?_)
        clear hK K
        (try simp only [Act.put, n3])
        refine on1 7 rfl (fun K hK => ?_)
        have HO6 := Hid.intro (row_call hb6 (by have := HT4.out.2.1; have := (Array.getElem?_eq_some_iff.1 (HT4.out).open.choose_spec.choose_spec.choose_spec.choose_spec.choose_spec.choose_spec.1).1; omega) (HT4.out).open.choose_spec.choose_spec.choose_spec.choose_spec.choose_spec.choose_spec.1)
        rw [if_pos (by rfl)]
        refine wp_store_cells _ _ _ rfl _ _ rfl rfl _ _ HO6.out infoTree rfl rfl (by simp [Value.oneCell']) ?_
        refine hK.out _ _ trivial (fun _ => ?_)
        clear hK K
        (try simp only [Act.put, List.setIfInBounds_toArray])
        refine wpAnyH_done (by kernel_rfl) ?_ _
        have hT6 : Hid (TB (w.heap.size + 1) B w1.heap.size (w6.setRow w1.heap.size #[.int .i64 4, .string s, .int .i64 0, .bool false, .int .i64 0, .string ⟨#[]⟩, .slice y6 k6 e6, .slice y7 k7 e7, .int .i64 (deepM [t] : Int)]) ⟨{ op := 4, t := s, a := [t].map Te.e }, deepM [t]⟩) := TB.put (by omega) (by omega) HO6.out rfl ⟨y6, k6, e6, y7, k7, e7, rfl, rep.move Kp.refl (fun b _ h => by rcases h with (h | h) | h <;> omega) _ _ z6, rep.move Kp.refl (fun b _ h => by rcases h with (h | h) | h <;> omega) _ _ z7, z8⟩
        have hB6 : Hid (Bt B w (w6.setRow w1.heap.size #[.int .i64 4, .string s, .int .i64 0, .bool false, .int .i64 0, .string ⟨#[]⟩, .slice y6 k6 e6, .slice y7 k7 e7, .int .i64 (deepM [t] : Int)])) := (((((HB.out.trans (Bt.below hb2)).trans hb3).drew.alloc _).trans hb4).trans (Bt.below hb6)).row (by omega) _
        have hP6 : Hid (PAt K (w6.setRow w1.heap.size #[.int .i64 4, .string s, .int .i64 0, .bool false, .int .i64 0, .string ⟨#[]⟩, .slice y6 k6 e6, .slice y7 k7 e7, .int .i64 (deepM [t] : Int)]) B r2 o) := ((hp4).via hb6).row (by omega) _
        have hR6 : Hid ((w6.setRow w1.heap.size #[.int .i64 4, .string s, .int .i64 0, .bool false, .int .i64 0, .string ⟨#[]⟩, .slice y6 k6 e6, .slice y7 k7 e7, .int .i64 (deepM [t] : Int)]).heap[w.heap.size]? = _) := (setRow_other _ _ _ _ (by omega)).trans (row_call hb6 (by omega) (hR4))
        have hrl := HP.out.rlen
        have hrl6 := hP6.out.rlen
        simp only [List.length_cons] at hrl hlf hl'
        go_wp2_with fail
        go_roundw
        case rel => exact ⟨_, r2, f, hT6, hP6, by omega, by omega, hB6, hR6, HE⟩
        case measure => rw [hrl, hrl6]; omega
end
end Go.Proofs.YtoeodjobggodcaaGreatDoor
/- signed, sign. -/
namespace Go.Proofs.YtoeodjobggodcaaGreatDoor
section
open Go.RowKit
theorem TeV.res {n g : Nat} {w : World} {t : Te} {v : Value} (h : TeV (fun b => n ≤ b) w t v) (hn : g < n) (cs : Array Value) : TeV (fun b => g ≤ b) (w.setRow g cs) t v :=
 h.move ⟨by simp, fun b hb _ o => World.cell?_of_block (a := ⟨b, o, none⟩) (setRow_other _ _ _ _ (by simp only; omega))⟩ (fun b _ h => by omega)
def z9 : Obj := .cells #[.int .i64 0, .string ⟨#[]⟩, .int .i64 0, .bool false, .int .i64 0, .string ⟨#[]⟩, .slice none 0 0, .slice none 0 0, .int .i64 0] 103
set_option maxRecDepth 100000 in
set_option maxHeartbeats 4000000 in
theorem signed_any {K B o : Nat} {m : List Lx → Rs Te} (hS : TC K B (o + 1) 136 m) {r : List Lx} {w : World} (h : PAt K w B r o) (s : ByteArray) (op : Int) :
  Calls Tryz.prog 162 #[.pointer (some ⟨B, 0, none⟩), .string s, .int .i64 op] w (Post K B o (r.length - 1) w ((pushM s o r).bd fun a r => (m r).bd fun t r => nodeM a { op := op } [t] r) fun w' t v => TeV (fun b => w.heap.size ≤ b) w' t v) := by
 have hsz := h.size
 have HPu := Hid.intro (push_any (h.via (below_al (Below.refl _ _) z9)) s)
 have hb0 : Bt B w (w.alloc z9) := (Bt.refl B w).alloc _
 have hR0 : (w.alloc z9).heap[w.heap.size]? = some z9 := heap_alloc_new w _
 unfold z9 at HPu hb0 hR0
 cases h1 : pushM s o r with
 | bad q =>
  rw [h1] at HPu
  rw [bd_bad]
  clear h1
  go_enter Tryz.func162, Tryz.ntmps162
  go_wp2_with fail
  refine HPu.out.mono ?_
  rintro e w1 ⟨hb, rfl⟩
  exact ⟨rfl, hb0.trans hb, rfl⟩
 | ok a r1 =>
  rw [h1] at HPu
  rw [bd_ok]
  clear h1
  have HS := fun w h => Hid.intro (hS r1 w h)
  cases h2 : m r1 with
  | bad q =>
   rw [h2] at HS
   rw [bd_bad]
   clear h2
   go_enter Tryz.func162, Tryz.ntmps162
   go_wp2_with fail
   refine HPu.out.mono ?_
   rintro e w1 ⟨hb, hl, hp, v, rfl, rfl⟩
   go_wp2_with fail
   refine (HS w1 hp).out.mono ?_
   rintro e w2 ⟨hb2, rfl⟩
   exact ⟨rfl, (hb0.trans hb).trans hb2, rfl⟩
  | ok t r2 =>
   rw [h2] at HS
   rw [bd_ok]
   clear h2
   have HO := fun w h => Hid.intro (pop_any (K := K) (B := B) (o := o) (r := r2) (w := w) h)
   go_enter Tryz.func162, Tryz.ntmps162
   go_wp2_with fail
   refine HPu.out.mono ?_
   rintro e w1 ⟨hb, hl, hp, v, rfl, rfl⟩
   have hR1 := row_bt hb (by omega) hR0
   go_wp2_with fail
   refine (HS w1 hp).out.mono ?_
   rintro e w2 ⟨hb2, hl2, hp2, v2, rfl, p6, n6, c6, p7, n7, c7, rfl, h6, h7, h8⟩
   have hR2 := row_bt hb2 (by omega) hR1
   have hRlt : w.heap.size < w2.heap.size := (Array.getElem?_eq_some_iff.1 hR2).1
   go_wp2_with fail
   refine (HO _ (hp2.via (below_al (Below.refl _ _) _))).out.mono ?_
   rintro e w3 ⟨rfl, hb3, hp3⟩
   have hR3 := row_bt hb3 (by omega) ((heap_alloc_old _ _ hRlt).trans hR2)
   have HO3 := Hid.intro (row_bt hb3 (by omega) (heap_alloc_new w2 _))
   have hv2 : TeV (fun b => w1.heap.size ≤ b) w2 t _ := ⟨p6, n6, c6, p7, n7, c7, rfl, h6, h7, h8⟩
   have hv3 := (hv2.move (Kp.alloc _ (.cells #[.int .i64 t.e.op, .string t.e.t, .int .i64 t.e.v.k, .bool t.e.v.b, .int .i64 t.e.v.i, .string t.e.v.s, .slice p6 n6 c6, .slice p7 n7 c7, .int .i64 (t.d : Int)] 103)) (fun _ _ h => h)).move (hb3.kp (by have := hb.size; simp at this; omega)) (fun _ _ h => h)
   have hs1 : w.heap.size < w1.heap.size := (Array.getElem?_eq_some_iff.1 hR1).1
   have hs3 : w2.heap.size < w3.heap.size := (Array.getElem?_eq_some_iff.1 HO3.out).1
   go_wp2_with (with_reducible refine (id (?_ : wpList _ _ _ (Oper.mk _ (Op.load _ _) _ _ _ _ :: _) _ _)); refine wpList_load_cells rfl _ _ rfl _ rfl _ _ _ HO3.out Tryz.underlying103 infoTree rfl ?_)
   refine (node_any a op ⟨#[]⟩ [t] (one_tree (heap_alloc_new w3 _) (hv3.move (Kp.alloc w3 (.cells #[.int .i64 t.e.op, .string t.e.t, .int .i64 t.e.v.k, .bool t.e.v.b, .int .i64 t.e.v.i, .string t.e.v.s, .slice p6 n6 c6, .slice p7 n7 c7, .int .i64 (t.d : Int)] 103)) (fun _ _ h => h))) (by simpa using h8) (by simp)).mono ?_
   rintro e w4 ⟨hb4, he4⟩
   have hbt : Bt B w w4 := (((((hb0.trans hb).trans hb2).alloc _).trans hb3).alloc _).trans (Bt.below hb4)
   by_cases h30 : 30 < deepM [t]
   ·rw [if_pos h30] at he4
    subst he4
    refine ⟨rfl, hbt, ?_⟩
    rw [show nodeM a { op := op } [t] r2 = .bad a from if_pos h30]
   ·rw [if_neg h30] at he4
    obtain ⟨v6, rfl, y6, k6, e6, y7, k7, e7, rfl, z6, z7, z8⟩ := he4
    have HR4 := Hid.intro (row_call hb4 (by simp; omega) ((heap_alloc_old _ _ (Nat.lt_trans hRlt hs3)).trans hR3))
    go_wp2_with (with_reducible refine (id (?_ : wpList _ _ _ (Oper.mk _ (Op.store _ _ _) _ _ _ _ :: _) _ _)); refine wpList_store_row rfl _ _ _ rfl _ _ rfl rfl _ _ HR4.out infoTree rfl rfl (by simp [Value.oneCell']) ?_)
    refine ret_cells rfl rfl (setRow_heap _ _ _ _ _ _ HR4.out) Tryz.underlying103 infoTree rfl rfl ?_
    rw [show nodeM a { op := op } [t] r2 = .ok ⟨{ op := op, a := [t].map Te.e }, deepM [t]⟩ r2 from if_neg h30]
    refine Post.ok (hbt.row (Nat.le_refl _) _) (by omega) (((hp3.via (below_al (Below.refl _ _) _)).via hb4).row hsz.1 _) ?_
    have hk : ∀ cs, Kp (fun b => w.heap.size < b) w4 (w4.setRow w.heap.size cs) := fun cs => ⟨by simp, fun b hb _ o => World.cell?_of_block (a := ⟨b, o, none⟩) (setRow_other _ _ _ _ (by simp only; omega))⟩
    have hal : (w3.alloc (.cells #[.int .i64 t.e.op, .string t.e.t, .int .i64 t.e.v.k, .bool t.e.v.b, .int .i64 t.e.v.i, .string t.e.v.s, .slice p6 n6 c6, .slice p7 n7 c7, .int .i64 (t.d : Int)] 103)).heap.size = w3.heap.size + 1 := by simp
    have hv4 : TeV (fun b => w.heap.size < b) w4 ⟨{ op := op, a := [t].map Te.e }, deepM [t]⟩ _ := ⟨y6, k6, e6, y7, k7, e7, rfl, rep.move Kp.refl (fun b _ h => by rcases h with (h | h) | h <;> omega) _ _ z6, rep.move Kp.refl (fun b _ h => by rcases h with (h | h) | h <;> omega) _ _ z7, z8⟩
    exact hv4.move (hk _) (fun b _ h => by omega)
end
end Go.Proofs.YtoeodjobggodcaaGreatDoor
/- size, has, values, atom. -/
namespace Go.Proofs.YtoeodjobggodcaaGreatDoor
section
open Go.RowKit
set_option maxRecDepth 100000 in
set_option maxHeartbeats 4000000 in
theorem size_any {K B o : Nat} {T : Ps Te} (hT : TC K B (o + 1) 49 (T (o + 1))) {x : Lx} {r : List Lx} {w : World} (h : PAt K w B (x :: r) o) (hx : x.k ≠ -1) :
  Calls Tryz.prog 183 #[.pointer (some ⟨B, 0, none⟩)] w (Post K B o r.length w (sizeM T o (x :: r)) fun w' t v => TeV (fun b => w.heap.size ≤ b) w' t v) := by
 have hsz := h.size
 have HN := Hid.intro (next_any (h.via (below_al (Below.refl _ _) z9)) hx)
 have hb0 : Bt B w (w.alloc z9) := (Bt.refl B w).alloc _
 have hR0 : (w.alloc z9).heap[w.heap.size]? = some z9 := heap_alloc_new w _
 unfold z9 at HN hb0 hR0
 have hfa := fld_a x.k x.a x.e x.t
 have HP := fun w h => Hid.intro (par_any (r := r) (w := w) hT h)
 unfold sizeM parenM
 simp only [List.tail_cons, hA]
 cases h1 : withinM ⟨#[40]⟩ ⟨#[41]⟩ o (T (o + 1)) r with
 | bad q =>
  rw [h1] at HP
  rw [bd_bad]
  clear h1
  go_enter Tryz.func183, Tryz.ntmps183
  go_wp2_with fail
  refine HN.out.mono ?_
  rintro e w1 ⟨rfl, hb, hp⟩
  go_wp2_with fail
  refine (HP _ hp).out.mono ?_
  rintro e w2 ⟨hb2, rfl⟩
  exact ⟨rfl, (hb0.trans hb).trans hb2, rfl⟩
 | ok t r2 =>
  rw [h1] at HP
  rw [bd_ok]
  clear h1
  go_enter Tryz.func183, Tryz.ntmps183
  go_wp2_with fail
  refine HN.out.mono ?_
  rintro e w1 ⟨rfl, hb, hp⟩
  have hR1 := row_bt hb (by omega) hR0
  go_wp2_with fail
  refine (HP _ hp).out.mono ?_
  rintro e w2 ⟨hb2, hl2, hp2, v2, rfl, p6, n6, c6, p7, n7, c7, rfl, h6, h7, h8⟩
  have hR2 := row_bt hb2 (by omega) hR1
  have hRlt : w.heap.size < w2.heap.size := (Array.getElem?_eq_some_iff.1 hR2).1
  have hs1 : w.heap.size < w1.heap.size := (Array.getElem?_eq_some_iff.1 hR1).1
  have hv2 : TeV (fun b => w1.heap.size ≤ b) w2 t _ := ⟨p6, n6, c6, p7, n7, c7, rfl, h6, h7, h8⟩
  go_wp2_with fail
  refine (node_any x.a 21 ⟨#[]⟩ [t] (one_tree (heap_alloc_new w2 _) (hv2.move (Kp.alloc w2 (.cells #[.int .i64 t.e.op, .string t.e.t, .int .i64 t.e.v.k, .bool t.e.v.b, .int .i64 t.e.v.i, .string t.e.v.s, .slice p6 n6 c6, .slice p7 n7 c7, .int .i64 (t.d : Int)] 103)) (fun _ _ h => h))) (by simpa using h8) (by simp)).mono ?_
  rintro e w4 ⟨hb4, he4⟩
  have hbt : Bt B w w4 := ((((hb0.trans hb).trans hb2).alloc _).trans (Bt.below hb4))
  by_cases h30 : 30 < deepM [t]
  ·rw [if_pos h30] at he4
   subst he4
   refine ⟨rfl, hbt, ?_⟩
   rw [show nodeM x.a { op := 21 } [t] r2 = .bad x.a from if_pos h30]
  ·rw [if_neg h30] at he4
   obtain ⟨v6, rfl, y6, k6, e6, y7, k7, e7, rfl, z6, z7, z8⟩ := he4
   have HR4 := Hid.intro (row_call hb4 (by simp; omega) ((heap_alloc_old _ _ hRlt).trans hR2))
   go_wp2_with (with_reducible refine (id (?_ : wpList _ _ _ (Oper.mk _ (Op.store _ _ _) _ _ _ _ :: _) _ _)); refine wpList_store_row rfl _ _ _ rfl _ _ rfl rfl _ _ HR4.out infoTree rfl rfl (by simp [Value.oneCell']) ?_)
   refine ret_cells rfl rfl (setRow_heap _ _ _ _ _ _ HR4.out) Tryz.underlying103 infoTree rfl rfl ?_
   rw [show nodeM x.a { op := 21 } [t] r2 = .ok ⟨{ op := 21, a := [t].map Te.e }, deepM [t]⟩ r2 from if_neg h30]
   refine Post.ok (hbt.row (Nat.le_refl _) _) (by omega) (((hp2.via (below_al (Below.refl _ _) _)).via hb4).row hsz.1 _) ?_
   have hal : (w2.alloc (.cells #[.int .i64 t.e.op, .string t.e.t, .int .i64 t.e.v.k, .bool t.e.v.b, .int .i64 t.e.v.i, .string t.e.v.s, .slice p6 n6 c6, .slice p7 n7 c7, .int .i64 (t.d : Int)] 103)).heap.size = w2.heap.size + 1 := by simp
   have hv4 : TeV (fun b => w.heap.size + 1 ≤ b) w4 ⟨{ op := 21, a := [t].map Te.e }, deepM [t]⟩ _ := ⟨y6, k6, e6, y7, k7, e7, rfl, rep.move Kp.refl (fun b _ h => by rcases h with (h | h) | h <;> omega) _ _ z6, rep.move Kp.refl (fun b _ h => by rcases h with (h | h) | h <;> omega) _ _ z7, z8⟩
   exact hv4.res (by omega) _
end
end Go.Proofs.YtoeodjobggodcaaGreatDoor
/- has. -/
namespace Go.Proofs.YtoeodjobggodcaaGreatDoor
section
open Go.RowKit
def TBx (n B E : Nat) (w : World) (t : Te) : Prop := B < E ∧ E < n ∧ ∃ cells, w.heap[E]? = some (.cells cells 103 (0, 0)) ∧ cells.size = 9 ∧ TeV (fun b => n ≤ b) w t (.agg cells)
theorem TBx.bt {n B E : Nat} {w w' : World} {t : Te} (h : TBx n B E w t) (k : Bt B w w') : TBx n B E w' t := by
 obtain ⟨hB, hE, cells, h1, h2, h3⟩ := h
 exact ⟨hB, hE, cells, row_bt k (by omega) h1, h2, h3.move (k.kp (by omega)) (fun _ _ h => h)⟩
theorem TBx.open {n B E : Nat} {w : World} {t : Te} (h : TBx n B E w t) : ∃ p6 n6 c6 p7 n7 c7, w.heap[E]? = some (.cells #[.int .i64 t.e.op, .string t.e.t, .int .i64 t.e.v.k, .bool t.e.v.b, .int .i64 t.e.v.i, .string t.e.v.s, .slice p6 n6 c6, .slice p7 n7 c7, .int .i64 (t.d : Int)] 103 (0, 0)) ∧
  rep (fun b => n ≤ b) w (.sl t.e.v.l.length (Vt.css t.e.v.l)) (.slice p6 n6 c6) ∧ rep (fun b => n ≤ b) w (.sl t.e.a.length (Ex.css t.e.a)) (.slice p7 n7 c7) ∧ t.d ≤ 30 := by
 obtain ⟨hB, hE, cells, h1, h2, p6, n6, c6, p7, n7, c7, he, h6, h7, h8⟩ := h
 obtain rfl := Value.agg.inj he
 exact ⟨p6, n6, c6, p7, n7, c7, h1, h6, h7, h8⟩
theorem TBx.put {n B E : Nat} {w : World} {t : Te} {cells cells' : Array Value} (hB : B < E) (hE : E < n) (h1 : w.heap[E]? = some (.cells cells 103 (0, 0))) (h2 : cells'.size = 9) (h3 : TeV (fun b => n ≤ b) w t (.agg cells')) : TBx n B E (w.setRow E cells') t :=
 ⟨hB, hE, cells', setRow_heap _ _ _ _ _ _ h1, h2, h3.move ⟨by simp, fun b hb _ o => World.cell?_of_block (a := ⟨b, o, none⟩) (setRow_other _ _ _ _ (by simp only; omega))⟩ (fun _ _ h => h)⟩
theorem TBx.row {n B E : Nat} {w : World} {t : Te} (h : TBx n B E w t) {g : Nat} (hg : g ≠ E) (hn : g < n) (cs : Array Value) : TBx n B E (w.setRow g cs) t := by
 obtain ⟨hB, hE, cells, h1, h2, h3⟩ := h
 exact ⟨hB, hE, cells, (setRow_other _ _ _ _ (Ne.symm hg)).trans h1, h2, h3.move ⟨by simp, fun b hb _ o => World.cell?_of_block (a := ⟨b, o, none⟩) (setRow_other _ _ _ _ (by simp only; omega))⟩ (fun _ _ h => h)⟩
theorem TBx.zero {n B : Nat} {w : World} (hB : B < w.heap.size) (hn : w.heap.size < n) : TBx n B w.heap.size (w.alloc (.cells #[.int .i64 0, .string ⟨#[]⟩, .int .i64 0, .bool false, .int .i64 0, .string ⟨#[]⟩, .slice none 0 0, .slice none 0 0, .int .i64 0] 103)) ⟨{}, 0⟩ :=
 ⟨hB, hn, _, heap_alloc_new w _, rfl, none, 0, 0, none, 0, 0, rfl, rep.none, rep.none, by simp⟩
theorem two_trees {P : Nat → Prop} {w : World} {t u : Te} {g : Nat} {p6 : Option Addr} {n6 c6 : Nat} {p7 : Option Addr} {n7 c7 : Nat} {q6 : Option Addr} {m6 d6 : Nat} {q7 : Option Addr} {m7 d7 : Nat} {ty : TypeId}
  (hg : w.heap[g]? = some (.cells #[.int .i64 t.e.op, .string t.e.t, .int .i64 t.e.v.k, .bool t.e.v.b, .int .i64 t.e.v.i, .string t.e.v.s, .slice p6 n6 c6, .slice p7 n7 c7, .int .i64 (t.d : Int), .int .i64 u.e.op, .string u.e.t, .int .i64 u.e.v.k, .bool u.e.v.b, .int .i64 u.e.v.i, .string u.e.v.s, .slice q6 m6 d6, .slice q7 m7 d7, .int .i64 (u.d : Int)] ty (0, 0)))
  (h6 : rep P w (.sl t.e.v.l.length (Vt.css t.e.v.l)) (.slice p6 n6 c6)) (h7 : rep P w (.sl t.e.a.length (Ex.css t.e.a)) (.slice p7 n7 c7)) (k6 : rep P w (.sl u.e.v.l.length (Vt.css u.e.v.l)) (.slice q6 m6 d6)) (k7 : rep P w (.sl u.e.a.length (Ex.css u.e.a)) (.slice q7 m7 d7)) :
  rep (fun b => P b ∨ b = g) w (.sl [t, u].length ([t, u].flatMap Te.cs)) (.slice (some ⟨g, 0, none⟩) 2 2) := by
 have hr : reps P w (t.cs ++ u.cs) [.int .i64 t.e.op, .string t.e.t, .int .i64 t.e.v.k, .bool t.e.v.b, .int .i64 t.e.v.i, .string t.e.v.s, .slice p6 n6 c6, .slice p7 n7 c7, .int .i64 (t.d : Int), .int .i64 u.e.op, .string u.e.t, .int .i64 u.e.v.k, .bool u.e.v.b, .int .i64 u.e.v.i, .string u.e.v.s, .slice q6 m6 d6, .slice q7 m7 d7, .int .i64 (u.d : Int)] :=
  reps.append (reps.append (ex_reps h6 h7) (reps.cons (P := P) (w := w) (d := dI t.d) (rep.lit rfl) reps.nil)) (reps.append (ex_reps k6 k7) (reps.cons (P := P) (w := w) (d := dI u.d) (rep.lit rfl) reps.nil))
 simp only [rep]
 refine ⟨_, 2, _, rfl, Nat.le_refl _, by unfold maxLen; omega, reps.move Kp.refl (fun _ _ h => .inl h) _ _ (by simpa using hr), by simp, fun _ => ⟨g, 0, rfl, .inr rfl, (Array.getElem?_eq_some_iff.1 hg).1, fun j u hj => ?_⟩⟩
 rw [Nat.zero_add, (heap_cell hg j).1, ← hj]
 simp
def HJ (n B c1 E1 E2 : Nat) (s : Te × Te) (w : World) (P : Nat → Prop) : Prop :=
 Bx B c1 (.pointer (some ⟨B, 0, none⟩)) w ∧ TBx n B E1 w s.1 ∧ TBx n B E2 w s.2 ∧ c1 ≠ E1 ∧ c1 ≠ E2 ∧ E1 ≠ E2 ∧ n ≤ w.heap.size ∧ ∀ b, P b → b ≠ E1 ∧ b ≠ E2
theorem HJ.stb (n B c1 E1 E2 : Nat) (s : Te × Te) : Stb B (HJ n B c1 E1 E2 s) := by
 rintro w w' P P' ⟨h1, h2, h3, h4, h5, h6, h7, h8⟩ hb hp
 refine ⟨h1.bt hb, h2.bt hb, h3.bt hb, h4, h5, h6, Nat.le_trans h7 hb.size, fun b h => ?_⟩
 rcases hp b h with h | h
 ·exact h8 b h
 ·have := h2.2.1
  have := h3.2.1
  omega
theorem run_has1 (caps : Array Value) (w : World) : (callFunc 192 caps).run Tryz.prog w = .ok (.enter 192 caps) w := by simp [go_sem]
set_option maxRecDepth 100000 in
set_option maxHeartbeats 2000000 in
theorem has1_clo {K B o : Nat} {m : List Lx → Rs Te} (hT : TC K B o 49 m) (n c1 E1 E2 : Nat) (hE1 : K ≤ E1) (hE2 : K ≤ E2) :
  Clo K B o (fun _ _ => True) (HJ n B c1 E1 E2) 192 #[.pointer (some ⟨c1, 0, none⟩), .pointer (some ⟨E1, 0, none⟩), .pointer (some ⟨E2, 0, none⟩)] (fun _ r => (m r).bd fun l r => (takeM ⟨#[44]⟩ r).bd fun _ r => (m r).bd fun v r => .ok (l, v) r) := by
 refine ⟨run_has1 _, ?_⟩
 rintro P s r w hP - ⟨h1, h2, h3, h4, h5, h6, h7, h8⟩ h
 show Calls _ _ _ _ (CPost K B o r.length P w _ _ ((m r).bd fun l r => (takeM ⟨#[44]⟩ r).bd fun _ r => (m r).bd fun v r => .ok (l, v) r))
 have d1 := h1.2.2.1
 have HT := Hid.intro (hT r w h)
 have HT2 := fun r w h => Hid.intro (hT r w h)
 have HTk := fun r w h => Hid.intro (take_any (K := K) (B := B) (o := o) (r := r) (w := w) h ⟨#[44]⟩)
 cases hm : m r with
 | bad q =>
  rw [hm] at HT
  rw [bd_bad]
  clear hm
  go_enter Tryz.func192, Tryz.ntmps192
  go_wp2_with fail
  refine HT.out.mono ?_
  rintro e w1 ⟨hb, rfl⟩
  exact ⟨rfl, hb.fr hP, rfl⟩
 | ok t r1 =>
  rw [hm] at HT
  rw [bd_ok]
  clear hm
  obtain ⟨p6, n6, c6, p7, n7, c7, ho, -⟩ := h2.open
  have HTk := HTk r1
  have hE1w : E1 < w.heap.size := (Array.getElem?_eq_some_iff.1 ho).1
  have key : ∀ w1 v, Bt B w w1 → PAt K w1 B r1 o → TeV (fun b => w.heap.size ≤ b) w1 t v → ∃ cells, v = .agg cells ∧ cells.size = 9 ∧ cells.all (·.oneCell') = true ∧ w1.heap[E1]? = some (.cells #[.int .i64 s.1.e.op, .string s.1.e.t, .int .i64 s.1.e.v.k, .bool s.1.e.v.b, .int .i64 s.1.e.v.i, .string s.1.e.v.s, .slice p6 n6 c6, .slice p7 n7 c7, .int .i64 (s.1.d : Int)] 103 (0, 0)) ∧ Fr P w (w1.setRow E1 cells) ∧ HJ n B c1 E1 E2 (t, s.2) (w1.setRow E1 cells) P ∧ PAt K (w1.setRow E1 cells) B r1 o := by
   rintro w1 v hb hp ⟨y6, k6, e6, y7, k7, e7, rfl, z6, z7, z8⟩
   have hB1 := h2.1
   have hh := row_bt hb (by omega) ho
   refine ⟨_, rfl, rfl, by simp [Value.oneCell'], hh, (hb.fr hP).row (fun b hb => (h8 b hb).1) _, ⟨(h1.bt hb).row h4 _, TBx.put hB1 h2.2.1 hh rfl ⟨y6, k6, e6, y7, k7, e7, rfl, rep.move Kp.refl (fun b _ h => by omega) _ _ z6, rep.move Kp.refl (fun b _ h => by omega) _ _ z7, z8⟩, (h3.bt hb).row h6 h2.2.1 _, h4, h5, h6, by have := hb.size; simp; omega, h8⟩, hp.row hE1 _⟩
  cases hk : takeM ⟨#[44]⟩ r1 with
  | bad q =>
   rw [hk] at HTk
   rw [bd_bad]
   clear hk
   go_enter Tryz.func192, Tryz.ntmps192
   go_wp2_with fail
   refine HT.out.mono ?_
   rintro e w1 ⟨hb, hl, hp, v, rfl, hv⟩
   obtain ⟨cells, rfl, hc1, hc2, hc3, hf2, hj2, hp2⟩ := key w1 v hb hp hv
   have HR := Hid.intro hc3
   have d2 := hj2.1.2.2.1
   go_wp2_with (with_reducible refine (id (?_ : wpList _ _ _ (Oper.mk _ (Op.store _ _ _) _ _ _ _ :: _) _ _)); refine wpList_store_row rfl _ _ _ rfl _ _ rfl rfl _ _ HR.out infoTree rfl hc1 hc2 ?_)
   refine (HTk _ hp2).out.mono ?_
   rintro e w3 ⟨hb3, rfl⟩
   exact ⟨rfl, hf2.trans (hb3.fr (hP.up hf2.size)), rfl⟩
  | ok u r2 =>
   rw [hk] at HTk
   rw [bd_ok]
   clear hk
   have HT2 := HT2 r2
   cases hm2 : m r2 with
   | bad q =>
    rw [hm2] at HT2
    rw [bd_bad]
    clear hm2
    go_enter Tryz.func192, Tryz.ntmps192
    go_wp2_with fail
    refine HT.out.mono ?_
    rintro e w1 ⟨hb, hl, hp, v, rfl, hv⟩
    obtain ⟨cells, rfl, hc1, hc2, hc3, hf2, hj2, hp2⟩ := key w1 v hb hp hv
    have HR := Hid.intro hc3
    have d2 := hj2.1.2.2.1
    go_wp2_with (with_reducible refine (id (?_ : wpList _ _ _ (Oper.mk _ (Op.store _ _ _) _ _ _ _ :: _) _ _)); refine wpList_store_row rfl _ _ _ rfl _ _ rfl rfl _ _ HR.out infoTree rfl hc1 hc2 ?_)
    refine (HTk _ hp2).out.mono ?_
    rintro e w3 ⟨hb3, hl3, hp3, v3, rfl, rfl⟩
    have d3 := (hj2.1.bt hb3).2.2.1
    go_wp2_with fail
    refine (HT2 _ hp3).out.mono ?_
    rintro e w4 ⟨hb4, rfl⟩
    exact ⟨rfl, hf2.trans ((hb3.trans hb4).fr (hP.up hf2.size)), rfl⟩
   | ok v r3 =>
    rw [hm2] at HT2
    rw [bd_ok]
    clear hm2
    go_enter Tryz.func192, Tryz.ntmps192
    go_wp2_with fail
    refine HT.out.mono ?_
    rintro e w1 ⟨hb, hl, hp, v1, rfl, hv⟩
    obtain ⟨cells, rfl, hc1, hc2, hc3, hf2, hj2, hp2⟩ := key w1 v1 hb hp hv
    have HR := Hid.intro hc3
    have d2 := hj2.1.2.2.1
    go_wp2_with (with_reducible refine (id (?_ : wpList _ _ _ (Oper.mk _ (Op.store _ _ _) _ _ _ _ :: _) _ _)); refine wpList_store_row rfl _ _ _ rfl _ _ rfl rfl _ _ HR.out infoTree rfl hc1 hc2 ?_)
    refine (HTk _ hp2).out.mono ?_
    rintro e w3 ⟨hb3, hl3, hp3, v3, rfl, rfl⟩
    have d3 := (hj2.1.bt hb3).2.2.1
    go_wp2_with fail
    refine (HT2 _ hp3).out.mono ?_
    rintro e w4 ⟨hb4, hl4, hp4, v4, rfl, y6, k6, e6, y7, k7, e7, rfl, z6, z7, z8⟩
    obtain ⟨j1, j2, j3, -, -, -, j7, j8⟩ := HJ.stb n B c1 E1 E2 _ _ _ _ P hj2 (hb3.trans hb4) (fun _ h => .inl h)
    obtain ⟨x6, a6, b6, x7, a7, b7, ho2, -⟩ := j3.open
    have HR2 := Hid.intro ho2
    have hj37 : n ≤ w3.heap.size := Nat.le_trans hj2.2.2.2.2.2.2.1 hb3.size
    go_wp2_with (with_reducible refine (id (?_ : wpList _ _ _ (Oper.mk _ (Op.store _ _ _) _ _ _ _ :: _) _ _)); refine wpList_store_row rfl _ _ _ rfl _ _ rfl rfl _ _ HR2.out infoTree rfl rfl (by simp [Value.oneCell']) ?_)
    go_end0
    refine ⟨(hf2.trans ((hb3.trans hb4).fr (hP.up hf2.size))).row (fun b hb => (h8 b hb).2) _, rfl, trivial, ⟨j1.row h5 _, j2.row (Ne.symm h6) h3.2.1 _, TBx.put h3.1 h3.2.1 HR2.out rfl ⟨y6, k6, e6, y7, k7, e7, rfl, rep.move Kp.refl (fun b _ h => by omega) _ _ z6, rep.move Kp.refl (fun b _ h => by omega) _ _ z7, z8⟩, h4, h5, h6, by simpa using j7, j8⟩, hp4.row hE2 _, by omega⟩
end
end Go.Proofs.YtoeodjobggodcaaGreatDoor
/- has, as a whole. -/
namespace Go.Proofs.YtoeodjobggodcaaGreatDoor
section
open Go.RowKit
set_option maxRecDepth 100000 in
set_option maxHeartbeats 4000000 in
theorem has_any {K B o : Nat} {T : Ps Te} (hT : TC K B (o + 1) 49 (T (o + 1))) {x : Lx} {r : List Lx} {w : World} (h : PAt K w B (x :: r) o) (hx : x.k ≠ -1) :
  Calls Tryz.prog 184 #[.pointer (some ⟨B, 0, none⟩)] w (Post K B o r.length w (hasM T o (x :: r)) fun w' t v => TeV (fun b => w.heap.size ≤ b) w' t v) := by
 have hmf : ∀ (fn : Fn) (first cap : Array Value) (w : World), (Instr.makeFunc fn first cap).run Tryz.prog w = .ok (.func fn first cap) w := fun _ _ _ _ => rfl
 have hsz := h.size
 have hb0 : Bt B w ((w.alloc (.cells #[.pointer (some ⟨B, 0, none⟩)] 55)).alloc z9) := ((Bt.refl B w).alloc _).alloc _
 have HN := Hid.intro (next_any (h.via (below_al (below_al (Below.refl _ _) (.cells #[.pointer (some ⟨B, 0, none⟩)] 55)) z9)) hx)
 have hX0 : Bx B w.heap.size (.pointer (some ⟨B, 0, none⟩)) ((w.alloc (.cells #[.pointer (some ⟨B, 0, none⟩)] 55)).alloc z9) := (Bx.new w _ _ (by omega)).bt ((Bt.refl B _).alloc _)
 have hR0 : ((w.alloc (.cells #[.pointer (some ⟨B, 0, none⟩)] 55)).alloc z9).heap[w.heap.size + 1]? = some z9 := heap_alloc2_new w _ _
 unfold z9 at HN hb0 hR0 hX0
 have hfa := fld_a x.k x.a x.e x.t
 unfold hasM
 simp only [List.tail_cons, hA]
 have HW := fun w1 (hb : Bt B w w1) (hX : Bx B w.heap.size (.pointer (some ⟨B, 0, none⟩)) w1) (hp : PAt K w1 B r o) (hs : w.heap.size + 1 < w1.heap.size) =>
  Hid.intro (within_any (fun _ _ _ => trivial) (HJ.stb (w1.heap.size + 2) B w.heap.size w1.heap.size (w1.heap.size + 1)) (has1_clo hT (w1.heap.size + 2) w.heap.size w1.heap.size (w1.heap.size + 1) (by omega) (by omega)) (P := fun b => b < w1.heap.size ∧ b ≠ B) (s := (⟨{}, 0⟩, ⟨{}, 0⟩)) (r := r)
   (w := (w1.alloc (.cells #[.int .i64 0, .string ⟨#[]⟩, .int .i64 0, .bool false, .int .i64 0, .string ⟨#[]⟩, .slice none 0 0, .slice none 0 0, .int .i64 0] 103)).alloc (.cells #[.int .i64 0, .string ⟨#[]⟩, .int .i64 0, .bool false, .int .i64 0, .string ⟨#[]⟩, .slice none 0 0, .slice none 0 0, .int .i64 0] 103)) (fun b hb => ⟨by simp; omega, hb.2⟩) trivial
   ⟨hX.bt (((Bt.refl B w1).alloc _).alloc _), (TBx.zero (B := B) (w := w1) (n := w1.heap.size + 2) (by omega) (by omega)).bt ((Bt.refl B _).alloc _), by
    have := TBx.zero (B := B) (w := w1.alloc (.cells #[.int .i64 0, .string ⟨#[]⟩, .int .i64 0, .bool false, .int .i64 0, .string ⟨#[]⟩, .slice none 0 0, .slice none 0 0, .int .i64 0] 103)) (n := w1.heap.size + 2) (by simp; omega) (by simp)
    rw [World.size_alloc] at this
    exact this, by omega, by omega, by omega, by simp, fun b hb => by omega⟩ (hp.via (below_al (below_al (Below.refl _ _) _) _)) ⟨#[40]⟩ ⟨#[41]⟩)
 cases h1 : withinM ⟨#[40]⟩ ⟨#[41]⟩ o (fun r => (T (o + 1) r).bd fun l r => (takeM ⟨#[44]⟩ r).bd fun _ r => (T (o + 1) r).bd fun v r => .ok (l, v) r) r with
 | bad q =>
  rw [h1] at HW
  rw [bd_bad]
  clear h1
  go_enter Tryz.func184, Tryz.ntmps184
  go_wp2_with fail
  refine HN.out.mono ?_
  rintro e w1 ⟨rfl, hb, hp⟩
  have hX1 := hX0.bt hb
  have hR1 := row_bt hb (by omega) hR0
  have hs1 : w.heap.size + 1 < w1.heap.size := (Array.getElem?_eq_some_iff.1 hR1).1
  have hc1 := hX1.2.2.1
  have hc1s := hX1.2.1
  go_wp2_with fail
  refine (HW w1 (hb0.trans hb) hX1 hp hs1).out.mono ?_
  rintro e w2 ⟨hf2, rfl⟩
  exact ⟨rfl, ((hb0.trans hb).trans (((Bt.refl B w1).alloc _).alloc _ |>.fra hf2)), rfl⟩
 | ok s r2 =>
  obtain ⟨l, v⟩ := s
  rw [h1] at HW
  rw [bd_ok]
  clear h1
  go_enter Tryz.func184, Tryz.ntmps184
  go_wp2_with fail
  refine HN.out.mono ?_
  rintro e w1 ⟨rfl, hb, hp⟩
  have hX1 := hX0.bt hb
  have hR1 := row_bt hb (by omega) hR0
  have hs1 : w.heap.size + 1 < w1.heap.size := (Array.getElem?_eq_some_iff.1 hR1).1
  have hc1 := hX1.2.2.1
  have hc1s := hX1.2.1
  go_wp2_with fail
  refine (HW w1 (hb0.trans hb) hX1 hp hs1).out.mono ?_
  rintro e w2 ⟨hf2, rfl, -, ⟨j1, j2, j3, j4, j5, j6, j7, j8⟩, hp2, hl2⟩
  have hbt2 := (hb0.trans hb).trans (((Bt.refl B w1).alloc _).alloc _ |>.fra hf2)
  have hR2 := row_bt (((Bt.refl B w1).alloc _).alloc _ |>.fra hf2) (by omega) hR1
  have hRlt : w.heap.size + 1 < w2.heap.size := (Array.getElem?_eq_some_iff.1 hR2).1
  obtain ⟨p6, n6, c6, p7, n7, c7, o1, h6, h7, h8⟩ := j2.open
  obtain ⟨q6, m6, d6, q7, m7, d7, o2, k6, k7, k8⟩ := j3.open
  have HO1 := Hid.intro o1
  have HO2 := Hid.intro o2
  go_wp2_with (first | (with_reducible refine (id (?_ : wpList _ _ _ (Oper.mk _ (Op.load _ _) _ _ _ _ :: _) _ _)); refine wpList_load_cells rfl _ _ rfl _ rfl _ _ _ HO1.out Tryz.underlying103 infoTree rfl ?_) | (with_reducible refine (id (?_ : wpList _ _ _ (Oper.mk _ (Op.load _ _) _ _ _ _ :: _) _ _)); refine wpList_load_cells rfl _ _ rfl _ rfl _ _ _ HO2.out Tryz.underlying103 infoTree rfl ?_))
  have hk : ∀ ob, Kp (fun b => w1.heap.size + 2 ≤ b) w2 (w2.alloc ob) := fun ob => Kp.alloc _ _
  refine (node_any x.a 22 ⟨#[]⟩ [l, v] (two_trees (heap_alloc_new w2 _) (rep.move (hk _) (fun _ _ h => h) _ _ h6) (rep.move (hk _) (fun _ _ h => h) _ _ h7) (rep.move (hk _) (fun _ _ h => h) _ _ k6) (rep.move (hk _) (fun _ _ h => h) _ _ k7)) (by simp; exact ⟨h8, k8⟩) (by simp)).mono ?_
  rintro e w4 ⟨hb4, he4⟩
  have hbt : Bt B w w4 := (hbt2.alloc _).trans (Bt.below hb4)
  by_cases h30 : 30 < deepM [l, v]
  ·rw [if_pos h30] at he4
   subst he4
   refine ⟨rfl, hbt, ?_⟩
   rw [show nodeM x.a { op := 22 } [(l, v).1, (l, v).2] r2 = .bad x.a from if_pos h30]
  ·rw [if_neg h30] at he4
   obtain ⟨v6, rfl, y6, a6, e6, y7, a7, e7, rfl, z6, z7, z8⟩ := he4
   have HR4 := Hid.intro (row_call hb4 (by simp; omega) ((heap_alloc_old _ _ hRlt).trans hR2))
   go_wp2_with (with_reducible refine (id (?_ : wpList _ _ _ (Oper.mk _ (Op.store _ _ _) _ _ _ _ :: _) _ _)); refine wpList_store_row rfl _ _ _ rfl _ _ rfl rfl _ _ HR4.out infoTree rfl rfl (by simp [Value.oneCell']) ?_)
   refine ret_cells rfl rfl (setRow_heap _ _ _ _ _ _ HR4.out) Tryz.underlying103 infoTree rfl rfl ?_
   rw [show nodeM x.a { op := 22 } [(l, v).1, (l, v).2] r2 = .ok ⟨{ op := 22, a := [l, v].map Te.e }, deepM [l, v]⟩ r2 from if_neg h30]
   refine Post.ok (hbt.row (by omega) _) (by omega) (((hp2.via (below_al (Below.refl _ _) _)).via hb4).row (by omega) _) ?_
   have hs2 : w1.heap.size + 2 ≤ w2.heap.size := j7
   have hv4 : TeV (fun b => w.heap.size + 2 ≤ b) w4 ⟨{ op := 22, a := [l, v].map Te.e }, deepM [l, v]⟩ _ := ⟨y6, a6, e6, y7, a7, e7, rfl, rep.move Kp.refl (fun b _ h => by rcases h with (h | h) | h <;> simp only [World.size_alloc] at * <;> omega) _ _ z6, rep.move Kp.refl (fun b _ h => by rcases h with (h | h) | h <;> simp only [World.size_alloc] at * <;> omega) _ _ z7, z8⟩
   exact (hv4.res (g := w.heap.size + 1) (by omega) _).move Kp.refl (fun b _ h => by omega)
end
end Go.Proofs.YtoeodjobggodcaaGreatDoor
