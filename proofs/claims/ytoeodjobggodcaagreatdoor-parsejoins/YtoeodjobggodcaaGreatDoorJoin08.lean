import Derived.Test.YtoeodjobggodcaaGreatDoorJoin07
/- insertion. -/
namespace Go.Proofs.YtoeodjobggodcaaGreatDoor
section
open Go.RowKit
def AcV (P : Nat → Prop) (w : World) (a : Ac) (v : Value) : Prop :=
 ∃ x2 p6 n6 c6 p7 n7 c7, v = .agg #[.int .i64 a.k, .string a.c, x2, .int .i64 a.e.op, .string a.e.t, .int .i64 a.e.v.k, .bool a.e.v.b, .int .i64 a.e.v.i, .string a.e.v.s, .slice p6 n6 c6, .slice p7 n7 c7, .string a.t] ∧
  rep P w (.sl a.set.length (a.set.flatMap As.cs)) x2 ∧ rep P w (.sl a.e.v.l.length (Vt.css a.e.v.l)) (.slice p6 n6 c6) ∧ rep P w (.sl a.e.a.length (Ex.css a.e.a)) (.slice p7 n7 c7)
theorem infoAct : (Tryz.prog.info? 99).map (·.size) = some 12 := by kernel_rfl
def inA (k : Int) (s : ByteArray) : Value → Array Value := fun u => #[.int .i64 k, .string s, u, .int .i64 0, .string ⟨#[]⟩, .int .i64 0, .bool false, .int .i64 0, .string ⟨#[]⟩, .slice none 0 0, .slice none 0 0, .string ⟨#[]⟩]
theorem inA_set (k : Int) (s : ByteArray) (u u' : Value) : (inA k s u).setIfInBounds 2 u' = inA k s u' := by simp [inA]
theorem inA_at (k : Int) (s : ByteArray) (u : Value) : (inA k s u)[2]? = some u := by simp [inA]
set_option maxRecDepth 100000 in
set_option maxHeartbeats 4000000 in
theorem insertion_any {K B : Nat} {r : List Lx} {w : World} (h : PAt K w B r 0) (k : Int) :
  Calls Tryz.prog 160 #[.pointer (some ⟨B, 0, none⟩), .int .i64 k] w (Post K B 0 (r.length - 1) w (insM k r) fun w' c v => AcV (fun b => w.heap.size ≤ b) w' c v) := by
 have hmf : ∀ (fn : Fn) (first cap : Array Value) (w : World), (Instr.makeFunc fn first cap).run Tryz.prog w = .ok (.func fn first cap) w := fun _ _ _ _ => rfl
 have hsz := h.size
 have hlen := h.len
 have b0 : Below w.heap.size w ((w.alloc (.cells #[.pointer (some ⟨B, 0, none⟩)] 55)).alloc (.cells #[.int .i64 0, .string ⟨#[]⟩, .slice none 0 0, .int .i64 0, .string ⟨#[]⟩, .int .i64 0, .bool false, .int .i64 0, .string ⟨#[]⟩, .slice none 0 0, .slice none 0 0, .string ⟨#[]⟩] 99)) := below_al (below_al (Below.refl _ _) _) _
 have hX0 : Bx B w.heap.size (.pointer (some ⟨B, 0, none⟩)) ((w.alloc (.cells #[.pointer (some ⟨B, 0, none⟩)] 55)).alloc (.cells #[.int .i64 0, .string ⟨#[]⟩, .slice none 0 0, .int .i64 0, .string ⟨#[]⟩, .int .i64 0, .bool false, .int .i64 0, .string ⟨#[]⟩, .slice none 0 0, .slice none 0 0, .string ⟨#[]⟩] 99)) := (Bx.new w _ _ (by omega)).bt ((Bt.refl B _).alloc _)
 have hR0 : ((w.alloc (.cells #[.pointer (some ⟨B, 0, none⟩)] 55)).alloc (.cells #[.int .i64 0, .string ⟨#[]⟩, .slice none 0 0, .int .i64 0, .string ⟨#[]⟩, .int .i64 0, .bool false, .int .i64 0, .string ⟨#[]⟩, .slice none 0 0, .slice none 0 0, .string ⟨#[]⟩] 99)).heap[w.heap.size + 1]? = some (.cells #[.int .i64 0, .string ⟨#[]⟩, .slice none 0 0, .int .i64 0, .string ⟨#[]⟩, .int .i64 0, .bool false, .int .i64 0, .string ⟨#[]⟩, .slice none 0 0, .slice none 0 0, .string ⟨#[]⟩] 99) := heap_alloc2_new w _ _
 have HN := Hid.intro (pname_any (h.via b0))
 unfold insM
 change Calls _ _ _ _ (Post K B 0 (r.length - 1) w ((nameM r).bd fun c r => (listM ⟨#[123]⟩ ⟨#[125]⟩ 0 (fun l r => (assignM (0 + 1) r).bd fun t r => .ok (l ++ [t]) r) [] r).bd fun l r => .ok ({ k := k, c := c, set := l } : Ac) r) _)
 cases h1 : nameM r with
 | bad q =>
  rw [h1] at HN
  rw [bd_bad]
  clear h1
  go_enter Tryz.func160, Tryz.ntmps160
  go_wp2_with fail
  refine HN.out.mono ?_
  rintro e v1 ⟨ht1, rfl⟩
  exact ⟨rfl, (Bt.below b0).trans ht1, rfl⟩
 | ok s r1 =>
  rw [h1] at HN
  rw [bd_ok]
  clear h1
  have hstep : ∀ v1 : World, Bt B ((w.alloc (.cells #[.pointer (some ⟨B, 0, none⟩)] 55)).alloc (.cells #[.int .i64 0, .string ⟨#[]⟩, .slice none 0 0, .int .i64 0, .string ⟨#[]⟩, .int .i64 0, .bool false, .int .i64 0, .string ⟨#[]⟩, .slice none 0 0, .slice none 0 0, .string ⟨#[]⟩] 99)) v1 → PAt K v1 B r1 0 → r1.length ≤ r.length - 1 → ∃ W0, Hid ((v1.alloc (.cells #[.int .i64 0, .string ⟨#[]⟩, .slice none 0 0, .int .i64 0, .string ⟨#[]⟩, .int .i64 0, .bool false, .int .i64 0, .string ⟨#[]⟩, .slice none 0 0, .slice none 0 0, .string ⟨#[]⟩] 99)).heap[v1.heap.size]? = some (.cells #[.int .i64 0, .string ⟨#[]⟩, .slice none 0 0, .int .i64 0, .string ⟨#[]⟩, .int .i64 0, .bool false, .int .i64 0, .string ⟨#[]⟩, .slice none 0 0, .slice none 0 0, .string ⟨#[]⟩] 99)) ∧ (v1.alloc (.cells #[.int .i64 0, .string ⟨#[]⟩, .slice none 0 0, .int .i64 0, .string ⟨#[]⟩, .int .i64 0, .bool false, .int .i64 0, .string ⟨#[]⟩, .slice none 0 0, .slice none 0 0, .string ⟨#[]⟩] 99)).setRow v1.heap.size #[.int .i64 k, .string s, .slice none 0 0, .int .i64 0, .string ⟨#[]⟩, .int .i64 0, .bool false, .int .i64 0, .string ⟨#[]⟩, .slice none 0 0, .slice none 0 0, .string ⟨#[]⟩] = W0 ∧ Hid (Bt B w W0) ∧ W0.cell? ⟨w.heap.size, 0, none⟩ = some (.pointer (some ⟨B, 0, none⟩)) ∧ w.heap.size < W0.heap.size ∧ w.heap.size + 1 < v1.heap.size ∧
    Hid (W0.heap[w.heap.size + 1]? = some (.cells #[.int .i64 0, .string ⟨#[]⟩, .slice none 0 0, .int .i64 0, .string ⟨#[]⟩, .int .i64 0, .bool false, .int .i64 0, .string ⟨#[]⟩, .slice none 0 0, .slice none 0 0, .string ⟨#[]⟩] 99)) ∧ Hid (Calls Tryz.prog 68 #[.pointer (some ⟨B, 0, none⟩), .string ⟨#[123]⟩, .string ⟨#[125]⟩, .func (.func 170) #[] #[.pointer (some ⟨v1.heap.size, 0, none⟩), .pointer (some ⟨w.heap.size, 0, none⟩)]] W0 (CPost K B 0 (r1.length - 1) (fun b => (b < w.heap.size ∧ b ≠ B) ∨ b = w.heap.size + 1) W0 QG (QJ (v1.heap.size + 1) B w.heap.size v1.heap.size 99 (inA k s) 101 As.cs) (listM ⟨#[123]⟩ ⟨#[125]⟩ 0 (fun l r => (assignM (0 + 1) r).bd fun t r => .ok (l ++ [t]) r) [] r1))) := by
   intro v1 ht1 hp1 hl1
   have hA : (v1.alloc (.cells #[.int .i64 0, .string ⟨#[]⟩, .slice none 0 0, .int .i64 0, .string ⟨#[]⟩, .int .i64 0, .bool false, .int .i64 0, .string ⟨#[]⟩, .slice none 0 0, .slice none 0 0, .string ⟨#[]⟩] 99)).heap[v1.heap.size]? = some (.cells #[.int .i64 0, .string ⟨#[]⟩, .slice none 0 0, .int .i64 0, .string ⟨#[]⟩, .int .i64 0, .bool false, .int .i64 0, .string ⟨#[]⟩, .slice none 0 0, .slice none 0 0, .string ⟨#[]⟩] 99) := heap_alloc_new _ _
   have hR1 := row_bt ht1 (by omega) hR0
   have hlt1 : w.heap.size + 1 < v1.heap.size := (Array.getElem?_eq_some_iff.1 hR1).1
   have hbW : Bt B ((w.alloc (.cells #[.pointer (some ⟨B, 0, none⟩)] 55)).alloc (.cells #[.int .i64 0, .string ⟨#[]⟩, .slice none 0 0, .int .i64 0, .string ⟨#[]⟩, .int .i64 0, .bool false, .int .i64 0, .string ⟨#[]⟩, .slice none 0 0, .slice none 0 0, .string ⟨#[]⟩] 99)) ((v1.alloc (.cells #[.int .i64 0, .string ⟨#[]⟩, .slice none 0 0, .int .i64 0, .string ⟨#[]⟩, .int .i64 0, .bool false, .int .i64 0, .string ⟨#[]⟩, .slice none 0 0, .slice none 0 0, .string ⟨#[]⟩] 99)).setRow v1.heap.size #[.int .i64 k, .string s, .slice none 0 0, .int .i64 0, .string ⟨#[]⟩, .int .i64 0, .bool false, .int .i64 0, .string ⟨#[]⟩, .slice none 0 0, .slice none 0 0, .string ⟨#[]⟩]) := (ht1.alloc _).row (by simp; omega) _
   have hXW := hX0.bt hbW
   refine ⟨_, hA, rfl, (Bt.below b0).trans hbW, hXW.2.2.1, hXW.2.1, hlt1, row_bt hbW (by omega) hR0, ?_⟩
   refine list_any QG.tail (QJ.stb (v1.heap.size + 1) B w.heap.size v1.heap.size 99 (inA k s) 101 As.cs) (ins1_clo (v1.heap.size + 1) w.heap.size v1.heap.size (inA k s) (inA_set k s) (inA_at k s) (by omega)) (P := fun b => (b < w.heap.size ∧ b ≠ B) ∨ b = w.heap.size + 1) (s := []) (r := r1) (fun b hb => ⟨by simp; omega, by omega⟩) (by unfold QG; simp; omega) ⟨hXW, by omega, by omega, ?_⟩ ((hp1.via (below_al (Below.refl _ _) _)).row (by omega) _) ⟨#[123]⟩ ⟨#[125]⟩
   exact ⟨by omega, by omega, by simp, none, 0, [], setRow_heap _ _ _ _ _ _ hA, World.ownsRow_nil _ _ _ _, reps.nil, fun b hb => ⟨by omega, by simp [Value.ownBlock]⟩⟩
  cases hm : listM ⟨#[123]⟩ ⟨#[125]⟩ 0 (fun l r => (assignM (0 + 1) r).bd fun t r => .ok (l ++ [t]) r) [] r1 with
  | bad q =>
   rw [hm] at hstep
   rw [bd_bad]
   clear hm
   go_enter Tryz.func160, Tryz.ntmps160
   go_wp2_with fail
   refine HN.out.mono ?_
   rintro e v1 ⟨ht1, hl1, hp1, x, rfl, rfl⟩
   obtain ⟨W0, HA, hW0, HB, hc1, hc2, hlt1, HR, HW⟩ := hstep v1 ht1 hp1 hl1
   go_wp2_with (with_reducible refine (id (?_ : wpList _ _ _ (Oper.mk _ (Op.store _ _ _) _ _ _ _ :: _) _ _)); refine wpList_store_row rfl _ _ _ rfl _ _ rfl rfl _ _ HA.out infoAct rfl rfl (by simp [Value.oneCell']) ?_)
   refine HW.out.mono ?_
   rintro e w1 ⟨hf, rfl⟩
   exact ⟨rfl, HB.out.fra (hf.mono fun b hb => .inl hb), rfl⟩
  | ok l r2 =>
   rw [hm] at hstep
   rw [bd_ok]
   clear hm
   go_enter Tryz.func160, Tryz.ntmps160
   go_wp2_with fail
   refine HN.out.mono ?_
   rintro e v1 ⟨ht1, hl1, hp1, x, rfl, rfl⟩
   obtain ⟨W0, HA, hW0, HB, hc1, hc2, hlt1, HR, HW⟩ := hstep v1 ht1 hp1 hl1
   go_wp2_with (with_reducible refine (id (?_ : wpList _ _ _ (Oper.mk _ (Op.store _ _ _) _ _ _ _ :: _) _ _)); refine wpList_store_row rfl _ _ _ rfl _ _ rfl rfl _ _ HA.out infoAct rfl rfl (by simp [Value.oneCell']) ?_)
   refine HW.out.mono ?_
   rintro e w1 ⟨hf, rfl, hg, ⟨j1, j2, j3, k1, k2, k3, p, c, vs, k4, k5, k6, k7⟩, hp, hl⟩
   have HC1 := Hid.intro k4
   have HR1 := Hid.intro ((hf.block _ (.inr rfl)).trans HR.out)
   have hrep : rep (fun b => v1.heap.size < b) w1 (.sl l.length (l.flatMap As.cs)) (.slice p l.length c) := rep.own k5 (reps.move Kp.refl (fun b _ h => by omega) _ _ k6) (fun g hg => by have := (k5.lt g hg).1; omega)
   unfold inA at HC1
   go_wp2_with (first | (with_reducible refine (id (?_ : wpList _ _ _ (Oper.mk _ (Op.load _ _) _ _ _ _ :: _) _ _)); refine wpList_load_cells rfl _ _ rfl _ rfl _ _ _ HC1.out Tryz.underlying99 infoAct rfl ?_) | (with_reducible refine (id (?_ : wpList _ _ _ (Oper.mk _ (Op.store _ _ _) _ _ _ _ :: _) _ _)); refine wpList_store_row rfl _ _ _ rfl _ _ rfl rfl _ _ HR1.out infoAct rfl rfl (by simp [Value.oneCell']) ?_))
   refine ret_cells rfl rfl (setRow_heap _ _ _ _ _ _ HR1.out) Tryz.underlying99 infoAct rfl rfl (Post.ok ((HB.out.fra (hf.mono fun b hb => .inl hb)).row (by omega) _) (by omega) (hp.row (by omega) _) ?_)
   refine ⟨.slice p l.length c, none, 0, 0, none, 0, 0, rfl, ?_, rep.none, rep.none⟩
   exact rep.move ⟨by simp, fun b hb _ o => World.cell?_of_block (a := ⟨b, o, none⟩) (setRow_other _ _ _ _ (by simp only; omega))⟩ (fun b _ h => by omega) _ _ hrep
end
end Go.Proofs.YtoeodjobggodcaaGreatDoor
/- update. -/
namespace Go.Proofs.YtoeodjobggodcaaGreatDoor
section
open Go.RowKit
theorem run_u1 (caps : Array Value) (w : World) : (callFunc 172 caps).run Tryz.prog w = .ok (.enter 172 caps) w := by simp [go_sem]
set_option maxRecDepth 100000 in
set_option maxHeartbeats 4000000 in
theorem u1_clo {K B o : Nat} (n c1 C : Nat) (A : Value → Array Value) (hA : ∀ u u', (A u).setIfInBounds 2 u' = A u') (hAj : ∀ u, (A u)[2]? = some u) (hCK : K ≤ C) :
  Clo K B o QG (QJ n B c1 C 99 A 101 As.cs) 172 #[.pointer (some ⟨c1, 0, none⟩), .pointer (some ⟨C, 0, none⟩)] (fun l r => commasM (fun l r => (assignM o r).bd fun t r => .ok (l ++ [t]) r) l r) := by
 have hmf : ∀ (fn : Fn) (first cap : Array Value) (w : World), (Instr.makeFunc fn first cap).run Tryz.prog w = .ok (.func fn first cap) w := fun _ _ _ _ => rfl
 refine ⟨run_u1 _, ?_⟩
 rintro P l r w hP hg ⟨h1, h2, h3, h5⟩ h
 have d1 := h1.2.2.1
 have HC := Hid.intro (commas_any QG.tail (QJ.stb n B c1 C 99 A 101 As.cs) (upd1_clo n c1 C A hA hAj hCK) hP hg ⟨h1, h2, h3, h5⟩ h)
 show Calls _ _ _ _ (CPost K B o r.length P w _ _ (commasM (fun l r => (assignM o r).bd fun t r => .ok (l ++ [t]) r) l r))
 clear h5
 cases hm : commasM (fun l r => (assignM o r).bd fun t r => .ok (l ++ [t]) r) l r with
 | bad q =>
  rw [hm] at HC
  clear hm
  go_enter Tryz.func172, Tryz.ntmps172
  go_wp2_with fail
  refine HC.out.mono ?_
  rintro e w1 ⟨hf, rfl⟩
  exact ⟨rfl, hf, rfl⟩
 | ok l2 r2 =>
  rw [hm] at HC
  clear hm
  go_enter Tryz.func172, Tryz.ntmps172
  go_wp2_with fail
  refine HC.out.mono ?_
  rintro e w1 ⟨hf, rfl, hrest⟩
  go_wp2_with fail
  go_end0
  exact ⟨hf, rfl, hrest⟩
def upA (x0 : Int) (x1 : ByteArray) (x2 : Int) (x3 : Bool) (x4 : Int) (x5 : ByteArray) (v6 v7 : Value) : Value → Array Value := fun u => #[.int .i64 3, .string ⟨#[]⟩, u, .int .i64 x0, .string x1, .int .i64 x2, .bool x3, .int .i64 x4, .string x5, v6, v7, .string ⟨#[]⟩]
theorem upA_set {x0 : Int} {x1 : ByteArray} {x2 : Int} {x3 : Bool} {x4 : Int} {x5 : ByteArray} {v6 v7 : Value} (u u' : Value) : (upA x0 x1 x2 x3 x4 x5 v6 v7 u).setIfInBounds 2 u' = upA x0 x1 x2 x3 x4 x5 v6 v7 u' := by simp [upA]
theorem upA_at {x0 : Int} {x1 : ByteArray} {x2 : Int} {x3 : Bool} {x4 : Int} {x5 : ByteArray} {v6 v7 : Value} (u : Value) : (upA x0 x1 x2 x3 x4 x5 v6 v7 u)[2]? = some u := by simp [upA]
set_option maxRecDepth 100000 in
set_option maxHeartbeats 4000000 in
theorem update_any {K B : Nat} {r : List Lx} {w : World} (h : PAt K w B r 0) :
  Calls Tryz.prog 161 #[.pointer (some ⟨B, 0, none⟩)] w (Post K B 0 (r.length - 1) w (updM r) fun w' c v => AcV (fun b => w.heap.size ≤ b) w' c v) := by
 have hmf : ∀ (fn : Fn) (first cap : Array Value) (w : World), (Instr.makeFunc fn first cap).run Tryz.prog w = .ok (.func fn first cap) w := fun _ _ _ _ => rfl
 have hsz := h.size
 have hlen := h.len
 have b0 : Below w.heap.size w ((w.alloc (.cells #[.pointer (some ⟨B, 0, none⟩)] 55)).alloc (.cells #[.int .i64 0, .string ⟨#[]⟩, .slice none 0 0, .int .i64 0, .string ⟨#[]⟩, .int .i64 0, .bool false, .int .i64 0, .string ⟨#[]⟩, .slice none 0 0, .slice none 0 0, .string ⟨#[]⟩] 99)) := below_al (below_al (Below.refl _ _) _) _
 have hX0 : Bx B w.heap.size (.pointer (some ⟨B, 0, none⟩)) ((w.alloc (.cells #[.pointer (some ⟨B, 0, none⟩)] 55)).alloc (.cells #[.int .i64 0, .string ⟨#[]⟩, .slice none 0 0, .int .i64 0, .string ⟨#[]⟩, .int .i64 0, .bool false, .int .i64 0, .string ⟨#[]⟩, .slice none 0 0, .slice none 0 0, .string ⟨#[]⟩] 99)) := (Bx.new w _ _ (by omega)).bt ((Bt.refl B _).alloc _)
 have hR0 : ((w.alloc (.cells #[.pointer (some ⟨B, 0, none⟩)] 55)).alloc (.cells #[.int .i64 0, .string ⟨#[]⟩, .slice none 0 0, .int .i64 0, .string ⟨#[]⟩, .int .i64 0, .bool false, .int .i64 0, .string ⟨#[]⟩, .slice none 0 0, .slice none 0 0, .string ⟨#[]⟩] 99)).heap[w.heap.size + 1]? = some (.cells #[.int .i64 0, .string ⟨#[]⟩, .slice none 0 0, .int .i64 0, .string ⟨#[]⟩, .int .i64 0, .bool false, .int .i64 0, .string ⟨#[]⟩, .slice none 0 0, .slice none 0 0, .string ⟨#[]⟩] 99) := heap_alloc2_new w _ _
 have HN := Hid.intro (expr_any (h.via b0))
 unfold updM
 change Calls _ _ _ _ (Post K B 0 (r.length - 1) w ((exprM 0 r).bd fun t r => (withinM ⟨#[123]⟩ ⟨#[125]⟩ 0 (commasM (fun l r => (assignM (0 + 1) r).bd fun t r => .ok (l ++ [t]) r) []) r).bd fun l r => .ok ({ k := 3, e := t.e, set := l } : Ac) r) _)
 cases h1 : exprM 0 r with
 | bad q =>
  rw [h1] at HN
  rw [bd_bad]
  clear h1
  go_enter Tryz.func161, Tryz.ntmps161
  go_wp2_with fail
  refine HN.out.mono ?_
  rintro e v1 ⟨ht1, rfl⟩
  exact ⟨rfl, (Bt.below b0).trans ht1, rfl⟩
 | ok t r1 =>
  rw [h1] at HN
  rw [bd_ok]
  clear h1
  have hstep : ∀ (v1 : World) (p6 : Option Addr) (n6 c6 : Nat) (p7 : Option Addr) (n7 c7 : Nat), Bt B ((w.alloc (.cells #[.pointer (some ⟨B, 0, none⟩)] 55)).alloc (.cells #[.int .i64 0, .string ⟨#[]⟩, .slice none 0 0, .int .i64 0, .string ⟨#[]⟩, .int .i64 0, .bool false, .int .i64 0, .string ⟨#[]⟩, .slice none 0 0, .slice none 0 0, .string ⟨#[]⟩] 99)) v1 → PAt K v1 B r1 0 → r1.length ≤ r.length - 1 → ∃ W0, Hid ((v1.alloc (.cells #[.int .i64 0, .string ⟨#[]⟩, .slice none 0 0, .int .i64 0, .string ⟨#[]⟩, .int .i64 0, .bool false, .int .i64 0, .string ⟨#[]⟩, .slice none 0 0, .slice none 0 0, .string ⟨#[]⟩] 99)).heap[v1.heap.size]? = some (.cells #[.int .i64 0, .string ⟨#[]⟩, .slice none 0 0, .int .i64 0, .string ⟨#[]⟩, .int .i64 0, .bool false, .int .i64 0, .string ⟨#[]⟩, .slice none 0 0, .slice none 0 0, .string ⟨#[]⟩] 99)) ∧ (v1.alloc (.cells #[.int .i64 0, .string ⟨#[]⟩, .slice none 0 0, .int .i64 0, .string ⟨#[]⟩, .int .i64 0, .bool false, .int .i64 0, .string ⟨#[]⟩, .slice none 0 0, .slice none 0 0, .string ⟨#[]⟩] 99)).setRow v1.heap.size #[.int .i64 3, .string ⟨#[]⟩, .slice none 0 0, .int .i64 t.e.op, .string t.e.t, .int .i64 t.e.v.k, .bool t.e.v.b, .int .i64 t.e.v.i, .string t.e.v.s, .slice p6 n6 c6, .slice p7 n7 c7, .string ⟨#[]⟩] = W0 ∧ Hid (Bt B w W0) ∧ Hid (Below v1.heap.size v1 W0) ∧ W0.cell? ⟨w.heap.size, 0, none⟩ = some (.pointer (some ⟨B, 0, none⟩)) ∧ w.heap.size < W0.heap.size ∧ w.heap.size + 1 < v1.heap.size ∧
    Hid (W0.heap[w.heap.size + 1]? = some (.cells #[.int .i64 0, .string ⟨#[]⟩, .slice none 0 0, .int .i64 0, .string ⟨#[]⟩, .int .i64 0, .bool false, .int .i64 0, .string ⟨#[]⟩, .slice none 0 0, .slice none 0 0, .string ⟨#[]⟩] 99)) ∧ Hid (Calls Tryz.prog 60 #[.pointer (some ⟨B, 0, none⟩), .string ⟨#[123]⟩, .string ⟨#[125]⟩, .func (.func 172) #[] #[.pointer (some ⟨w.heap.size, 0, none⟩), .pointer (some ⟨v1.heap.size, 0, none⟩)]] W0 (CPost K B 0 (r1.length - 1) (fun b => b < v1.heap.size ∧ b ≠ B) W0 QG (QJ (v1.heap.size + 1) B w.heap.size v1.heap.size 99 (upA t.e.op t.e.t t.e.v.k t.e.v.b t.e.v.i t.e.v.s (.slice p6 n6 c6) (.slice p7 n7 c7)) 101 As.cs) (withinM ⟨#[123]⟩ ⟨#[125]⟩ 0 (commasM (fun l r => (assignM (0 + 1) r).bd fun t r => .ok (l ++ [t]) r) []) r1))) := by
   intro v1 p6 n6 c6 p7 n7 c7 ht1 hp1 hl1
   have hA : (v1.alloc (.cells #[.int .i64 0, .string ⟨#[]⟩, .slice none 0 0, .int .i64 0, .string ⟨#[]⟩, .int .i64 0, .bool false, .int .i64 0, .string ⟨#[]⟩, .slice none 0 0, .slice none 0 0, .string ⟨#[]⟩] 99)).heap[v1.heap.size]? = some (.cells #[.int .i64 0, .string ⟨#[]⟩, .slice none 0 0, .int .i64 0, .string ⟨#[]⟩, .int .i64 0, .bool false, .int .i64 0, .string ⟨#[]⟩, .slice none 0 0, .slice none 0 0, .string ⟨#[]⟩] 99) := heap_alloc_new _ _
   have hR1 := row_bt ht1 (by omega) hR0
   have hlt1 : w.heap.size + 1 < v1.heap.size := (Array.getElem?_eq_some_iff.1 hR1).1
   have hbW : Bt B ((w.alloc (.cells #[.pointer (some ⟨B, 0, none⟩)] 55)).alloc (.cells #[.int .i64 0, .string ⟨#[]⟩, .slice none 0 0, .int .i64 0, .string ⟨#[]⟩, .int .i64 0, .bool false, .int .i64 0, .string ⟨#[]⟩, .slice none 0 0, .slice none 0 0, .string ⟨#[]⟩] 99)) ((v1.alloc (.cells #[.int .i64 0, .string ⟨#[]⟩, .slice none 0 0, .int .i64 0, .string ⟨#[]⟩, .int .i64 0, .bool false, .int .i64 0, .string ⟨#[]⟩, .slice none 0 0, .slice none 0 0, .string ⟨#[]⟩] 99)).setRow v1.heap.size #[.int .i64 3, .string ⟨#[]⟩, .slice none 0 0, .int .i64 t.e.op, .string t.e.t, .int .i64 t.e.v.k, .bool t.e.v.b, .int .i64 t.e.v.i, .string t.e.v.s, .slice p6 n6 c6, .slice p7 n7 c7, .string ⟨#[]⟩]) := (ht1.alloc _).row (by simp; omega) _
   have hXW := hX0.bt hbW
   refine ⟨_, hA, rfl, (Bt.below b0).trans hbW, below_row (below_al (Below.refl _ _) _) (Nat.le_refl _) _, hXW.2.2.1, hXW.2.1, hlt1, row_bt hbW (by omega) hR0, ?_⟩
   refine within_any QG.tail (QJ.stb (v1.heap.size + 1) B w.heap.size v1.heap.size 99 (upA t.e.op t.e.t t.e.v.k t.e.v.b t.e.v.i t.e.v.s (.slice p6 n6 c6) (.slice p7 n7 c7)) 101 As.cs) (u1_clo (v1.heap.size + 1) w.heap.size v1.heap.size _ upA_set upA_at (by omega)) (P := fun b => b < v1.heap.size ∧ b ≠ B) (s := []) (r := r1) (fun b hb => ⟨by simp; omega, by omega⟩) (by unfold QG; simp; omega) ⟨hXW, by omega, by omega, ?_⟩ ((hp1.via (below_al (Below.refl _ _) _)).row (by omega) _) ⟨#[123]⟩ ⟨#[125]⟩
   exact ⟨by omega, by omega, by simp, none, 0, [], setRow_heap _ _ _ _ _ _ hA, World.ownsRow_nil _ _ _ _, reps.nil, fun b hb => ⟨by omega, by simp [Value.ownBlock]⟩⟩
  cases hm : withinM ⟨#[123]⟩ ⟨#[125]⟩ 0 (commasM (fun l r => (assignM (0 + 1) r).bd fun t r => .ok (l ++ [t]) r) []) r1 with
  | bad q =>
   rw [hm] at hstep
   rw [bd_bad]
   clear hm
   go_enter Tryz.func161, Tryz.ntmps161
   go_wp2_with fail
   refine HN.out.mono ?_
   rintro e v1 ⟨ht1, hl1, hp1, x, rfl, p6, n6, c6, p7, n7, c7, rfl, h6, h7⟩
   obtain ⟨W0, HA, hW0, HB, HBw, hc1, hc2, hlt1, HR, HW⟩ := hstep v1 p6 n6 c6 p7 n7 c7 ht1 hp1 hl1
   go_wp2_with (with_reducible refine (id (?_ : wpList _ _ _ (Oper.mk _ (Op.store _ _ _) _ _ _ _ :: _) _ _)); refine wpList_store_row rfl _ _ _ rfl _ _ rfl rfl _ _ HA.out infoAct rfl rfl (by simp [Value.oneCell']) ?_)
   refine HW.out.mono ?_
   rintro e w1 ⟨hf, rfl⟩
   exact ⟨rfl, HB.out.fra (hf.mono fun b hb => ⟨by omega, hb.2⟩), rfl⟩
  | ok l r2 =>
   rw [hm] at hstep
   rw [bd_ok]
   clear hm
   go_enter Tryz.func161, Tryz.ntmps161
   go_wp2_with fail
   refine HN.out.mono ?_
   rintro e v1 ⟨ht1, hl1, hp1, x, rfl, p6, n6, c6, p7, n7, c7, rfl, h6, h7⟩
   obtain ⟨W0, HA, hW0, HB, HBw, hc1, hc2, hlt1, HR, HW⟩ := hstep v1 p6 n6 c6 p7 n7 c7 ht1 hp1 hl1
   go_wp2_with (with_reducible refine (id (?_ : wpList _ _ _ (Oper.mk _ (Op.store _ _ _) _ _ _ _ :: _) _ _)); refine wpList_store_row rfl _ _ _ rfl _ _ rfl rfl _ _ HA.out infoAct rfl rfl (by simp [Value.oneCell']) ?_)
   refine HW.out.mono ?_
   rintro e w1 ⟨hf, rfl, hg, ⟨j1, j2, j3, k1, k2, k3, p, c, vs, k4, k5, k6, k7⟩, hp, hl⟩
   have HC1 := Hid.intro k4
   have hq6 : ∀ b, b < v1.heap.size → ((w.alloc (.cells #[.pointer (some ⟨B, 0, none⟩)] 55)).alloc (.cells #[.int .i64 0, .string ⟨#[]⟩, .slice none 0 0, .int .i64 0, .string ⟨#[]⟩, .int .i64 0, .bool false, .int .i64 0, .string ⟨#[]⟩, .slice none 0 0, .slice none 0 0, .string ⟨#[]⟩] 99)).heap.size ≤ b → (w.heap.size + 1 < b ∧ b < v1.heap.size) := fun b hb h => by simp at h; omega
   have hkp : Kp (fun b => w.heap.size + 1 < b ∧ b < v1.heap.size) v1 w1 := ⟨Nat.le_trans HBw.out.size hf.size, fun b hb hlt o => (World.cell?_of_block (a := ⟨b, o, none⟩) (hf.block b ⟨hb.2, by omega⟩)).trans (HBw.out.cell (p := ⟨b, o, none⟩) hlt)⟩
   have h6' := rep.move hkp (fun _ _ h => h) _ _ (rep.move Kp.refl hq6 _ _ h6)
   have h7' := rep.move hkp (fun _ _ h => h) _ _ (rep.move Kp.refl hq6 _ _ h7)
   have HR1 := Hid.intro ((hf.block (w.heap.size + 1) ⟨hlt1, by omega⟩).trans HR.out)
   have hrep : rep (fun b => w.heap.size + 1 < b) w1 (.sl l.length (l.flatMap As.cs)) (.slice p l.length c) := rep.own k5 (reps.move Kp.refl (fun b _ h => by omega) _ _ k6) (fun g hg => by have := (k5.lt g hg).1; omega)
   unfold upA at HC1
   go_wp2_with (first | (with_reducible refine (id (?_ : wpList _ _ _ (Oper.mk _ (Op.load _ _) _ _ _ _ :: _) _ _)); refine wpList_load_cells rfl _ _ rfl _ rfl _ _ _ HC1.out Tryz.underlying99 infoAct rfl ?_) | (with_reducible refine (id (?_ : wpList _ _ _ (Oper.mk _ (Op.store _ _ _) _ _ _ _ :: _) _ _)); refine wpList_store_row rfl _ _ _ rfl _ _ rfl rfl _ _ HR1.out infoAct rfl rfl (by simp [Value.oneCell']) ?_))
   refine ret_cells rfl rfl (setRow_heap _ _ _ _ _ _ HR1.out) Tryz.underlying99 infoAct rfl rfl (Post.ok ((HB.out.fra (hf.mono fun b hb => ⟨by omega, hb.2⟩)).row (by omega) _) (by omega) (hp.row (by omega) _) ?_)
   refine ⟨.slice p l.length c, p6, n6, c6, p7, n7, c7, rfl, ?_, ?_, ?_⟩
   ·exact rep.move (kp_row w1 _) (fun b _ h => by omega) _ _ hrep
   ·exact rep.move (kp_row w1 _) (fun b _ h => by omega) _ _ (rep.move Kp.refl (fun b _ h => h.1) _ _ h6')
   ·exact rep.move (kp_row w1 _) (fun b _ h => by omega) _ _ (rep.move Kp.refl (fun b _ h => h.1) _ _ h7')
end
end Go.Proofs.YtoeodjobggodcaaGreatDoor
/- deed, action. -/
namespace Go.Proofs.YtoeodjobggodcaaGreatDoor
section
open Go.RowKit
theorem AcV.move {P Q : Nat → Prop} {w w' : World} {a : Ac} {v : Value} (h : AcV P w a v) (hk : Kp P w w') (hpq : ∀ b, b < w.heap.size → P b → Q b) : AcV Q w' a v := by
 obtain ⟨x2, p6, n6, c6, p7, n7, c7, rfl, h2, h6, h7⟩ := h
 exact ⟨x2, p6, n6, c6, p7, n7, c7, rfl, rep.move hk hpq _ _ h2, rep.move hk hpq _ _ h6, rep.move hk hpq _ _ h7⟩
theorem AcV.ones {P : Nat → Prop} {w : World} {a : Ac} {cells : Array Value} (h : AcV P w a (.agg cells)) : cells.size = 12 ∧ cells.all (·.oneCell') = true := by
 obtain ⟨x2, p6, n6, c6, p7, n7, c7, he, h2, h6, h7⟩ := h
 obtain rfl := Value.agg.inj he
 have hr : reps P w ([dI a.k, dS a.c, .sl a.set.length (a.set.flatMap As.cs)] ++ (a.e.cs ++ [dS a.t])) [.int .i64 a.k, .string a.c, x2, .int .i64 a.e.op, .string a.e.t, .int .i64 a.e.v.k, .bool a.e.v.b, .int .i64 a.e.v.i, .string a.e.v.s, .slice p6 n6 c6, .slice p7 n7 c7, .string a.t] :=
  reps.cons (rep.lit rfl) (reps.cons (rep.lit rfl) (reps.cons h2 (reps.append (ex_reps h6 h7) (reps.cons (rep.lit rfl) reps.nil))))
 refine ⟨rfl, ?_⟩
 rw [Array.all_eq_true_iff_forall_mem]
 intro u hu
 exact hr.ones u (by simpa using hu)
theorem AcV.form {P : Nat → Prop} {w : World} {a : Ac} {v : Value} (h : AcV P w a v) : ∃ cells, v = .agg cells := by
 obtain ⟨x2, p6, n6, c6, p7, n7, c7, rfl, -⟩ := h
 exact ⟨_, rfl⟩
theorem AcV.res {n g : Nat} {w : World} {a : Ac} {v : Value} (h : AcV (fun b => n ≤ b) w a v) (hn : g < n) (cs : Array Value) : AcV (fun b => g ≤ b) (w.setRow g cs) a v :=
 h.move ⟨by simp, fun b hb _ o => World.cell?_of_block (a := ⟨b, o, none⟩) (setRow_other _ _ _ _ (by simp only; omega))⟩ (fun b _ h => by omega)
def zAc : Obj := .cells #[.int .i64 0, .string ⟨#[]⟩, .slice none 0 0, .int .i64 0, .string ⟨#[]⟩, .int .i64 0, .bool false, .int .i64 0, .string ⟨#[]⟩, .slice none 0 0, .slice none 0 0, .string ⟨#[]⟩] 99
set_option maxRecDepth 100000 in
set_option maxHeartbeats 2000000 in
theorem deed_0 {K B : Nat} {r : List Lx} {w : World} (h : PAt K w B r 0)  (h0 : isM ⟨#[105, 110, 115, 101, 114, 116]⟩ r = true) :
  Calls Tryz.prog 116 #[.pointer (some ⟨B, 0, none⟩)] w (Post K B 0 (r.length - 1) w (insM 1 r.tail) fun w' a v => AcV (fun b => w.heap.size ≤ b) w' a v) := by
 have C0 := fun w (h : PAt K w B r 0) => Hid.intro (skip_yes h h0)
 have hsz := h.size
 have hR0 : (w.alloc zAc).heap[w.heap.size]? = some zAc := heap_alloc_new w _
 have b0 : Below w.heap.size w (w.alloc zAc) := below_al (Below.refl _ _) _
 unfold zAc at hR0 b0
 clear h0
 have HN := fun w (h : PAt K w B r.tail 0) => Hid.intro (insertion_any h 1)
 cases hm : insM 1 r.tail with
 | bad q =>
  rw [hm] at HN
  clear hm
  go_enter Tryz.func116, Tryz.ntmps116
  go_wp2_with fail
  refine (C0 _ (h.via b0)).out.mono ?_
  rintro e v0 ⟨rfl, ht0, hp0⟩
  go_wp2_with fail
  refine (HN _ (hp0)).out.mono ?_
  rintro e v1 ⟨ht1, rfl⟩
  exact ⟨rfl, ((Bt.below (B := B) b0).trans ht0).trans ht1, rfl⟩
 | ok x r1 =>
  rw [hm] at HN
  clear hm
  go_enter Tryz.func116, Tryz.ntmps116
  go_wp2_with fail
  refine (C0 _ (h.via b0)).out.mono ?_
  rintro e v0 ⟨rfl, ht0, hp0⟩
  go_wp2_with fail
  refine (HN _ (hp0)).out.mono ?_
  rintro e v1 ⟨ht1, hl1, hp1, v, rfl, hv⟩
  have HR := Hid.intro (row_bt (((Bt.refl B _).trans ht0).trans ht1) (by omega) hR0)
  have hn1 : w.heap.size < _ := (Array.getElem?_eq_some_iff.1 (row_bt ((Bt.refl B _).trans ht0) (by omega) hR0)).1
  obtain ⟨cells, rfl⟩ := hv.form
  go_wp2_with (with_reducible refine (id (?_ : wpList _ _ _ (Oper.mk _ (Op.store _ _ _) _ _ _ _ :: _) _ _)); refine wpList_store_row rfl _ _ _ rfl _ _ rfl rfl _ _ HR.out infoAct rfl hv.ones.1 hv.ones.2 ?_)
  refine ret_cells rfl rfl (setRow_heap _ _ _ _ _ _ HR.out) Tryz.underlying99 infoAct hv.ones.1 rfl (Post.ok ((((Bt.below (B := B) b0).trans ht0).trans ht1).row (Nat.le_refl _) _) (by first | omega | (simp at hl1 ⊢; omega)) (hp1.row hsz.1 _) ?_)
  exact hv.res hn1 _
set_option maxRecDepth 100000 in
set_option maxHeartbeats 2000000 in
theorem deed_1 {K B : Nat} {r : List Lx} {w : World} (h : PAt K w B r 0) (h0 : isM ⟨#[105, 110, 115, 101, 114, 116]⟩ r = false) (h1 : isM ⟨#[108, 111, 103, 105, 99, 97, 108]⟩ r = true) :
  Calls Tryz.prog 116 #[.pointer (some ⟨B, 0, none⟩)] w (Post K B 0 (r.length - 1) w (insM 2 r.tail) fun w' a v => AcV (fun b => w.heap.size ≤ b) w' a v) := by
 have C0 := fun w (h : PAt K w B r 0) => Hid.intro (skip_no h h0)
 have C1 := fun w (h : PAt K w B r 0) => Hid.intro (skip_yes h h1)
 have hsz := h.size
 have hR0 : (w.alloc zAc).heap[w.heap.size]? = some zAc := heap_alloc_new w _
 have b0 : Below w.heap.size w (w.alloc zAc) := below_al (Below.refl _ _) _
 unfold zAc at hR0 b0
 clear h0 h1
 have HN := fun w (h : PAt K w B r.tail 0) => Hid.intro (insertion_any h 2)
 cases hm : insM 2 r.tail with
 | bad q =>
  rw [hm] at HN
  clear hm
  go_enter Tryz.func116, Tryz.ntmps116
  go_wp2_with fail
  refine (C0 _ (h.via b0)).out.mono ?_
  rintro e w1 ⟨rfl, hw1⟩
  have b1 := hw1.via b0
  go_wp2_with fail
  refine (C1 _ (h.via b1)).out.mono ?_
  rintro e v0 ⟨rfl, ht0, hp0⟩
  go_wp2_with fail
  refine (HN _ (hp0)).out.mono ?_
  rintro e v1 ⟨ht1, rfl⟩
  exact ⟨rfl, ((Bt.below (B := B) b1).trans ht0).trans ht1, rfl⟩
 | ok x r1 =>
  rw [hm] at HN
  clear hm
  go_enter Tryz.func116, Tryz.ntmps116
  go_wp2_with fail
  refine (C0 _ (h.via b0)).out.mono ?_
  rintro e w1 ⟨rfl, hw1⟩
  have b1 := hw1.via b0
  go_wp2_with fail
  refine (C1 _ (h.via b1)).out.mono ?_
  rintro e v0 ⟨rfl, ht0, hp0⟩
  go_wp2_with fail
  refine (HN _ (hp0)).out.mono ?_
  rintro e v1 ⟨ht1, hl1, hp1, v, rfl, hv⟩
  have HR := Hid.intro (row_bt ((((Bt.refl B _).trans (Bt.below hw1)).trans ht0).trans ht1) (by omega) hR0)
  have hn1 : w.heap.size < _ := (Array.getElem?_eq_some_iff.1 (row_bt (((Bt.refl B _).trans (Bt.below hw1)).trans ht0) (by omega) hR0)).1
  obtain ⟨cells, rfl⟩ := hv.form
  go_wp2_with (with_reducible refine (id (?_ : wpList _ _ _ (Oper.mk _ (Op.store _ _ _) _ _ _ _ :: _) _ _)); refine wpList_store_row rfl _ _ _ rfl _ _ rfl rfl _ _ HR.out infoAct rfl hv.ones.1 hv.ones.2 ?_)
  refine ret_cells rfl rfl (setRow_heap _ _ _ _ _ _ HR.out) Tryz.underlying99 infoAct hv.ones.1 rfl (Post.ok ((((Bt.below (B := B) b1).trans ht0).trans ht1).row (Nat.le_refl _) _) (by first | omega | (simp at hl1 ⊢; omega)) (hp1.row hsz.1 _) ?_)
  exact hv.res hn1 _
set_option maxRecDepth 100000 in
set_option maxHeartbeats 2000000 in
theorem deed_2 {K B : Nat} {r : List Lx} {w : World} (h : PAt K w B r 0) (h0 : isM ⟨#[105, 110, 115, 101, 114, 116]⟩ r = false) (h1 : isM ⟨#[108, 111, 103, 105, 99, 97, 108]⟩ r = false) (h2 : isM ⟨#[117, 112, 100, 97, 116, 101]⟩ r = true) :
  Calls Tryz.prog 116 #[.pointer (some ⟨B, 0, none⟩)] w (Post K B 0 (r.length - 1) w (updM r.tail) fun w' a v => AcV (fun b => w.heap.size ≤ b) w' a v) := by
 have C0 := fun w (h : PAt K w B r 0) => Hid.intro (skip_no h h0)
 have C1 := fun w (h : PAt K w B r 0) => Hid.intro (skip_no h h1)
 have C2 := fun w (h : PAt K w B r 0) => Hid.intro (skip_yes h h2)
 have hsz := h.size
 have hR0 : (w.alloc zAc).heap[w.heap.size]? = some zAc := heap_alloc_new w _
 have b0 : Below w.heap.size w (w.alloc zAc) := below_al (Below.refl _ _) _
 unfold zAc at hR0 b0
 clear h0 h1 h2
 have HN := fun w (h : PAt K w B r.tail 0) => Hid.intro (update_any h)
 cases hm : updM r.tail with
 | bad q =>
  rw [hm] at HN
  clear hm
  go_enter Tryz.func116, Tryz.ntmps116
  go_wp2_with fail
  refine (C0 _ (h.via b0)).out.mono ?_
  rintro e w1 ⟨rfl, hw1⟩
  have b1 := hw1.via b0
  go_wp2_with fail
  refine (C1 _ (h.via b1)).out.mono ?_
  rintro e w2 ⟨rfl, hw2⟩
  have b2 := hw2.via b1
  go_wp2_with fail
  refine (C2 _ (h.via b2)).out.mono ?_
  rintro e v0 ⟨rfl, ht0, hp0⟩
  go_wp2_with fail
  refine (HN _ (hp0)).out.mono ?_
  rintro e v1 ⟨ht1, rfl⟩
  exact ⟨rfl, ((Bt.below (B := B) b2).trans ht0).trans ht1, rfl⟩
 | ok x r1 =>
  rw [hm] at HN
  clear hm
  go_enter Tryz.func116, Tryz.ntmps116
  go_wp2_with fail
  refine (C0 _ (h.via b0)).out.mono ?_
  rintro e w1 ⟨rfl, hw1⟩
  have b1 := hw1.via b0
  go_wp2_with fail
  refine (C1 _ (h.via b1)).out.mono ?_
  rintro e w2 ⟨rfl, hw2⟩
  have b2 := hw2.via b1
  go_wp2_with fail
  refine (C2 _ (h.via b2)).out.mono ?_
  rintro e v0 ⟨rfl, ht0, hp0⟩
  go_wp2_with fail
  refine (HN _ (hp0)).out.mono ?_
  rintro e v1 ⟨ht1, hl1, hp1, v, rfl, hv⟩
  have HR := Hid.intro (row_bt (((((Bt.refl B _).trans (Bt.below hw1)).trans (Bt.below hw2)).trans ht0).trans ht1) (by omega) hR0)
  have hn1 : w.heap.size < _ := (Array.getElem?_eq_some_iff.1 (row_bt ((((Bt.refl B _).trans (Bt.below hw1)).trans (Bt.below hw2)).trans ht0) (by omega) hR0)).1
  obtain ⟨cells, rfl⟩ := hv.form
  go_wp2_with (with_reducible refine (id (?_ : wpList _ _ _ (Oper.mk _ (Op.store _ _ _) _ _ _ _ :: _) _ _)); refine wpList_store_row rfl _ _ _ rfl _ _ rfl rfl _ _ HR.out infoAct rfl hv.ones.1 hv.ones.2 ?_)
  refine ret_cells rfl rfl (setRow_heap _ _ _ _ _ _ HR.out) Tryz.underlying99 infoAct hv.ones.1 rfl (Post.ok ((((Bt.below (B := B) b2).trans ht0).trans ht1).row (Nat.le_refl _) _) (by first | omega | (simp at hl1 ⊢; omega)) (hp1.row hsz.1 _) ?_)
  exact hv.res hn1 _
set_option maxRecDepth 100000 in
set_option maxHeartbeats 2000000 in
theorem deed_3 {K B : Nat} {r : List Lx} {w : World} (h : PAt K w B r 0) (h0 : isM ⟨#[105, 110, 115, 101, 114, 116]⟩ r = false) (h1 : isM ⟨#[108, 111, 103, 105, 99, 97, 108]⟩ r = false) (h2 : isM ⟨#[117, 112, 100, 97, 116, 101]⟩ r = false) (h3 : isM ⟨#[100, 101, 108, 101, 116, 101]⟩ r = true) :
  Calls Tryz.prog 116 #[.pointer (some ⟨B, 0, none⟩)] w (Post K B 0 (r.length - 1) w ((exprM 0 r.tail).bd fun t r => .ok ({ k := 4, e := t.e } : Ac) r) fun w' a v => AcV (fun b => w.heap.size ≤ b) w' a v) := by
 have C0 := fun w (h : PAt K w B r 0) => Hid.intro (skip_no h h0)
 have C1 := fun w (h : PAt K w B r 0) => Hid.intro (skip_no h h1)
 have C2 := fun w (h : PAt K w B r 0) => Hid.intro (skip_no h h2)
 have C3 := fun w (h : PAt K w B r 0) => Hid.intro (skip_yes h h3)
 have hsz := h.size
 have hR0 : (w.alloc zAc).heap[w.heap.size]? = some zAc := heap_alloc_new w _
 have b0 : Below w.heap.size w (w.alloc zAc) := below_al (Below.refl _ _) _
 unfold zAc at hR0 b0
 clear h0 h1 h2 h3
 have HN := fun w (h : PAt K w B r.tail 0) => Hid.intro (expr_any h)
 cases hm : exprM 0 r.tail with
 | bad q =>
  rw [hm] at HN
  rw [bd_bad]
  clear hm
  go_enter Tryz.func116, Tryz.ntmps116
  go_wp2_with fail
  refine (C0 _ (h.via b0)).out.mono ?_
  rintro e w1 ⟨rfl, hw1⟩
  have b1 := hw1.via b0
  go_wp2_with fail
  refine (C1 _ (h.via b1)).out.mono ?_
  rintro e w2 ⟨rfl, hw2⟩
  have b2 := hw2.via b1
  go_wp2_with fail
  refine (C2 _ (h.via b2)).out.mono ?_
  rintro e w3 ⟨rfl, hw3⟩
  have b3 := hw3.via b2
  go_wp2_with fail
  refine (C3 _ (h.via b3)).out.mono ?_
  rintro e v0 ⟨rfl, ht0, hp0⟩
  go_wp2_with fail
  refine (HN _ (hp0)).out.mono ?_
  rintro e v1 ⟨ht1, rfl⟩
  exact ⟨rfl, ((Bt.below (B := B) b3).trans ht0).trans ht1, rfl⟩
 | ok x r1 =>
  rw [hm] at HN
  rw [bd_ok]
  clear hm
  go_enter Tryz.func116, Tryz.ntmps116
  go_wp2_with fail
  refine (C0 _ (h.via b0)).out.mono ?_
  rintro e w1 ⟨rfl, hw1⟩
  have b1 := hw1.via b0
  go_wp2_with fail
  refine (C1 _ (h.via b1)).out.mono ?_
  rintro e w2 ⟨rfl, hw2⟩
  have b2 := hw2.via b1
  go_wp2_with fail
  refine (C2 _ (h.via b2)).out.mono ?_
  rintro e w3 ⟨rfl, hw3⟩
  have b3 := hw3.via b2
  go_wp2_with fail
  refine (C3 _ (h.via b3)).out.mono ?_
  rintro e v0 ⟨rfl, ht0, hp0⟩
  go_wp2_with fail
  refine (HN _ (hp0)).out.mono ?_
  rintro e v1 ⟨ht1, hl1, hp1, v, rfl, p6, n6, c6, p7, n7, c7, rfl, z6, z7⟩
  have HR := Hid.intro (row_bt ((((((Bt.refl B _).trans (Bt.below hw1)).trans (Bt.below hw2)).trans (Bt.below hw3)).trans ht0).trans ht1) (by omega) hR0)
  have hn1 : w.heap.size < _ := (Array.getElem?_eq_some_iff.1 (row_bt (((((Bt.refl B _).trans (Bt.below hw1)).trans (Bt.below hw2)).trans (Bt.below hw3)).trans ht0) (by omega) hR0)).1
  go_wp2_with (with_reducible refine (id (?_ : wpList _ _ _ (Oper.mk _ (Op.store _ _ _) _ _ _ _ :: _) _ _)); refine wpList_store_row rfl _ _ _ rfl _ _ rfl rfl _ _ HR.out infoAct rfl rfl (by simp [Value.oneCell']) ?_)
  refine ret_cells rfl rfl (setRow_heap _ _ _ _ _ _ HR.out) Tryz.underlying99 infoAct rfl rfl (Post.ok ((((Bt.below (B := B) b3).trans ht0).trans ht1).row (Nat.le_refl _) _) (by first | omega | (simp at hl1 ⊢; omega)) (hp1.row hsz.1 _) ?_)
  exact AcV.res ⟨.slice none 0 0, p6, n6, c6, p7, n7, c7, rfl, rep.none, z6, z7⟩ hn1 _
set_option maxRecDepth 100000 in
set_option maxHeartbeats 2000000 in
theorem deed_4 {K B : Nat} {r : List Lx} {w : World} (h : PAt K w B r 0) (h0 : isM ⟨#[105, 110, 115, 101, 114, 116]⟩ r = false) (h1 : isM ⟨#[108, 111, 103, 105, 99, 97, 108]⟩ r = false) (h2 : isM ⟨#[117, 112, 100, 97, 116, 101]⟩ r = false) (h3 : isM ⟨#[100, 101, 108, 101, 116, 101]⟩ r = false) (h4 : isM ⟨#[102, 111, 99, 117, 115]⟩ r = true) :
  Calls Tryz.prog 116 #[.pointer (some ⟨B, 0, none⟩)] w (Post K B 0 (r.length - 1) w ((textM r.tail).bd fun s r => .ok ({ k := 5, t := s } : Ac) r) fun w' a v => AcV (fun b => w.heap.size ≤ b) w' a v) := by
 have C0 := fun w (h : PAt K w B r 0) => Hid.intro (skip_no h h0)
 have C1 := fun w (h : PAt K w B r 0) => Hid.intro (skip_no h h1)
 have C2 := fun w (h : PAt K w B r 0) => Hid.intro (skip_no h h2)
 have C3 := fun w (h : PAt K w B r 0) => Hid.intro (skip_no h h3)
 have C4 := fun w (h : PAt K w B r 0) => Hid.intro (skip_yes h h4)
 have hsz := h.size
 have hR0 : (w.alloc zAc).heap[w.heap.size]? = some zAc := heap_alloc_new w _
 have b0 : Below w.heap.size w (w.alloc zAc) := below_al (Below.refl _ _) _
 unfold zAc at hR0 b0
 clear h0 h1 h2 h3 h4
 have HN := fun w (h : PAt K w B r.tail 0) => Hid.intro (ptext_any h)
 cases hm : textM r.tail with
 | bad q =>
  rw [hm] at HN
  rw [bd_bad]
  clear hm
  go_enter Tryz.func116, Tryz.ntmps116
  go_wp2_with fail
  refine (C0 _ (h.via b0)).out.mono ?_
  rintro e w1 ⟨rfl, hw1⟩
  have b1 := hw1.via b0
  go_wp2_with fail
  refine (C1 _ (h.via b1)).out.mono ?_
  rintro e w2 ⟨rfl, hw2⟩
  have b2 := hw2.via b1
  go_wp2_with fail
  refine (C2 _ (h.via b2)).out.mono ?_
  rintro e w3 ⟨rfl, hw3⟩
  have b3 := hw3.via b2
  go_wp2_with fail
  refine (C3 _ (h.via b3)).out.mono ?_
  rintro e w4 ⟨rfl, hw4⟩
  have b4 := hw4.via b3
  go_wp2_with fail
  refine (C4 _ (h.via b4)).out.mono ?_
  rintro e v0 ⟨rfl, ht0, hp0⟩
  go_wp2_with fail
  refine (HN _ (hp0)).out.mono ?_
  rintro e v1 ⟨ht1, rfl⟩
  exact ⟨rfl, ((Bt.below (B := B) b4).trans ht0).trans ht1, rfl⟩
 | ok x r1 =>
  rw [hm] at HN
  rw [bd_ok]
  clear hm
  go_enter Tryz.func116, Tryz.ntmps116
  go_wp2_with fail
  refine (C0 _ (h.via b0)).out.mono ?_
  rintro e w1 ⟨rfl, hw1⟩
  have b1 := hw1.via b0
  go_wp2_with fail
  refine (C1 _ (h.via b1)).out.mono ?_
  rintro e w2 ⟨rfl, hw2⟩
  have b2 := hw2.via b1
  go_wp2_with fail
  refine (C2 _ (h.via b2)).out.mono ?_
  rintro e w3 ⟨rfl, hw3⟩
  have b3 := hw3.via b2
  go_wp2_with fail
  refine (C3 _ (h.via b3)).out.mono ?_
  rintro e w4 ⟨rfl, hw4⟩
  have b4 := hw4.via b3
  go_wp2_with fail
  refine (C4 _ (h.via b4)).out.mono ?_
  rintro e v0 ⟨rfl, ht0, hp0⟩
  go_wp2_with fail
  refine (HN _ (hp0)).out.mono ?_
  rintro e v1 ⟨ht1, hl1, hp1, v, rfl, rfl⟩
  have HR := Hid.intro (row_bt (((((((Bt.refl B _).trans (Bt.below hw1)).trans (Bt.below hw2)).trans (Bt.below hw3)).trans (Bt.below hw4)).trans ht0).trans ht1) (by omega) hR0)
  have hn1 : w.heap.size < _ := (Array.getElem?_eq_some_iff.1 (row_bt ((((((Bt.refl B _).trans (Bt.below hw1)).trans (Bt.below hw2)).trans (Bt.below hw3)).trans (Bt.below hw4)).trans ht0) (by omega) hR0)).1
  go_wp2_with (with_reducible refine (id (?_ : wpList _ _ _ (Oper.mk _ (Op.store _ _ _) _ _ _ _ :: _) _ _)); refine wpList_store_row rfl _ _ _ rfl _ _ rfl rfl _ _ HR.out infoAct rfl rfl (by simp [Value.oneCell']) ?_)
  refine ret_cells rfl rfl (setRow_heap _ _ _ _ _ _ HR.out) Tryz.underlying99 infoAct rfl rfl (Post.ok ((((Bt.below (B := B) b4).trans ht0).trans ht1).row (Nat.le_refl _) _) (by first | omega | (simp at hl1 ⊢; omega)) (hp1.row hsz.1 _) ?_)
  exact ⟨.slice none 0 0, none, 0, 0, none, 0, 0, rfl, rep.none, rep.none, rep.none⟩
set_option maxRecDepth 100000 in
set_option maxHeartbeats 2000000 in
theorem deed_5 {K B : Nat} {r : List Lx} {w : World} (h : PAt K w B r 0) (h0 : isM ⟨#[105, 110, 115, 101, 114, 116]⟩ r = false) (h1 : isM ⟨#[108, 111, 103, 105, 99, 97, 108]⟩ r = false) (h2 : isM ⟨#[117, 112, 100, 97, 116, 101]⟩ r = false) (h3 : isM ⟨#[100, 101, 108, 101, 116, 101]⟩ r = false) (h4 : isM ⟨#[102, 111, 99, 117, 115]⟩ r = false) (h5 : isM ⟨#[112, 114, 105, 110, 116]⟩ r = true) :
  Calls Tryz.prog 116 #[.pointer (some ⟨B, 0, none⟩)] w (Post K B 0 (r.length - 1) w ((exprM 0 r.tail).bd fun t r => .ok ({ k := 6, e := t.e } : Ac) r) fun w' a v => AcV (fun b => w.heap.size ≤ b) w' a v) := by
 have C0 := fun w (h : PAt K w B r 0) => Hid.intro (skip_no h h0)
 have C1 := fun w (h : PAt K w B r 0) => Hid.intro (skip_no h h1)
 have C2 := fun w (h : PAt K w B r 0) => Hid.intro (skip_no h h2)
 have C3 := fun w (h : PAt K w B r 0) => Hid.intro (skip_no h h3)
 have C4 := fun w (h : PAt K w B r 0) => Hid.intro (skip_no h h4)
 have C5 := fun w (h : PAt K w B r 0) => Hid.intro (skip_yes h h5)
 have hsz := h.size
 have hR0 : (w.alloc zAc).heap[w.heap.size]? = some zAc := heap_alloc_new w _
 have b0 : Below w.heap.size w (w.alloc zAc) := below_al (Below.refl _ _) _
 unfold zAc at hR0 b0
 clear h0 h1 h2 h3 h4 h5
 have HN := fun w (h : PAt K w B r.tail 0) => Hid.intro (expr_any h)
 cases hm : exprM 0 r.tail with
 | bad q =>
  rw [hm] at HN
  rw [bd_bad]
  clear hm
  go_enter Tryz.func116, Tryz.ntmps116
  go_wp2_with fail
  refine (C0 _ (h.via b0)).out.mono ?_
  rintro e w1 ⟨rfl, hw1⟩
  have b1 := hw1.via b0
  go_wp2_with fail
  refine (C1 _ (h.via b1)).out.mono ?_
  rintro e w2 ⟨rfl, hw2⟩
  have b2 := hw2.via b1
  go_wp2_with fail
  refine (C2 _ (h.via b2)).out.mono ?_
  rintro e w3 ⟨rfl, hw3⟩
  have b3 := hw3.via b2
  go_wp2_with fail
  refine (C3 _ (h.via b3)).out.mono ?_
  rintro e w4 ⟨rfl, hw4⟩
  have b4 := hw4.via b3
  go_wp2_with fail
  refine (C4 _ (h.via b4)).out.mono ?_
  rintro e w5 ⟨rfl, hw5⟩
  have b5 := hw5.via b4
  go_wp2_with fail
  refine (C5 _ (h.via b5)).out.mono ?_
  rintro e v0 ⟨rfl, ht0, hp0⟩
  go_wp2_with fail
  refine (HN _ (hp0)).out.mono ?_
  rintro e v1 ⟨ht1, rfl⟩
  exact ⟨rfl, ((Bt.below (B := B) b5).trans ht0).trans ht1, rfl⟩
 | ok x r1 =>
  rw [hm] at HN
  rw [bd_ok]
  clear hm
  go_enter Tryz.func116, Tryz.ntmps116
  go_wp2_with fail
  refine (C0 _ (h.via b0)).out.mono ?_
  rintro e w1 ⟨rfl, hw1⟩
  have b1 := hw1.via b0
  go_wp2_with fail
  refine (C1 _ (h.via b1)).out.mono ?_
  rintro e w2 ⟨rfl, hw2⟩
  have b2 := hw2.via b1
  go_wp2_with fail
  refine (C2 _ (h.via b2)).out.mono ?_
  rintro e w3 ⟨rfl, hw3⟩
  have b3 := hw3.via b2
  go_wp2_with fail
  refine (C3 _ (h.via b3)).out.mono ?_
  rintro e w4 ⟨rfl, hw4⟩
  have b4 := hw4.via b3
  go_wp2_with fail
  refine (C4 _ (h.via b4)).out.mono ?_
  rintro e w5 ⟨rfl, hw5⟩
  have b5 := hw5.via b4
  go_wp2_with fail
  refine (C5 _ (h.via b5)).out.mono ?_
  rintro e v0 ⟨rfl, ht0, hp0⟩
  go_wp2_with fail
  refine (HN _ (hp0)).out.mono ?_
  rintro e v1 ⟨ht1, hl1, hp1, v, rfl, p6, n6, c6, p7, n7, c7, rfl, z6, z7⟩
  have HR := Hid.intro (row_bt ((((((((Bt.refl B _).trans (Bt.below hw1)).trans (Bt.below hw2)).trans (Bt.below hw3)).trans (Bt.below hw4)).trans (Bt.below hw5)).trans ht0).trans ht1) (by omega) hR0)
  have hn1 : w.heap.size < _ := (Array.getElem?_eq_some_iff.1 (row_bt (((((((Bt.refl B _).trans (Bt.below hw1)).trans (Bt.below hw2)).trans (Bt.below hw3)).trans (Bt.below hw4)).trans (Bt.below hw5)).trans ht0) (by omega) hR0)).1
  go_wp2_with (with_reducible refine (id (?_ : wpList _ _ _ (Oper.mk _ (Op.store _ _ _) _ _ _ _ :: _) _ _)); refine wpList_store_row rfl _ _ _ rfl _ _ rfl rfl _ _ HR.out infoAct rfl rfl (by simp [Value.oneCell']) ?_)
  refine ret_cells rfl rfl (setRow_heap _ _ _ _ _ _ HR.out) Tryz.underlying99 infoAct rfl rfl (Post.ok ((((Bt.below (B := B) b5).trans ht0).trans ht1).row (Nat.le_refl _) _) (by first | omega | (simp at hl1 ⊢; omega)) (hp1.row hsz.1 _) ?_)
  exact AcV.res ⟨.slice none 0 0, p6, n6, c6, p7, n7, c7, rfl, rep.none, z6, z7⟩ hn1 _
set_option maxRecDepth 100000 in
set_option maxHeartbeats 2000000 in
theorem deed_6 {K B : Nat} {r : List Lx} {w : World} (h : PAt K w B r 0) (h0 : isM ⟨#[105, 110, 115, 101, 114, 116]⟩ r = false) (h1 : isM ⟨#[108, 111, 103, 105, 99, 97, 108]⟩ r = false) (h2 : isM ⟨#[117, 112, 100, 97, 116, 101]⟩ r = false) (h3 : isM ⟨#[100, 101, 108, 101, 116, 101]⟩ r = false) (h4 : isM ⟨#[102, 111, 99, 117, 115]⟩ r = false) (h5 : isM ⟨#[112, 114, 105, 110, 116]⟩ r = false) :
  Calls Tryz.prog 116 #[.pointer (some ⟨B, 0, none⟩)] w (Post K B 0 (r.length - 1) w ((takeM ⟨#[104, 97, 108, 116]⟩ r).bd fun _ r => .ok ({ k := 7 } : Ac) r) fun w' a v => AcV (fun b => w.heap.size ≤ b) w' a v) := by
 have C0 := fun w (h : PAt K w B r 0) => Hid.intro (skip_no h h0)
 have C1 := fun w (h : PAt K w B r 0) => Hid.intro (skip_no h h1)
 have C2 := fun w (h : PAt K w B r 0) => Hid.intro (skip_no h h2)
 have C3 := fun w (h : PAt K w B r 0) => Hid.intro (skip_no h h3)
 have C4 := fun w (h : PAt K w B r 0) => Hid.intro (skip_no h h4)
 have C5 := fun w (h : PAt K w B r 0) => Hid.intro (skip_no h h5)
 have hsz := h.size
 have hR0 : (w.alloc zAc).heap[w.heap.size]? = some zAc := heap_alloc_new w _
 have b0 : Below w.heap.size w (w.alloc zAc) := below_al (Below.refl _ _) _
 unfold zAc at hR0 b0
 clear h0 h1 h2 h3 h4 h5
 have HN := fun w (h : PAt K w B r 0) => Hid.intro (take_any h ⟨#[104, 97, 108, 116]⟩)
 cases hm : takeM ⟨#[104, 97, 108, 116]⟩ r with
 | bad q =>
  rw [hm] at HN
  rw [bd_bad]
  clear hm
  go_enter Tryz.func116, Tryz.ntmps116
  go_wp2_with fail
  refine (C0 _ (h.via b0)).out.mono ?_
  rintro e w1 ⟨rfl, hw1⟩
  have b1 := hw1.via b0
  go_wp2_with fail
  refine (C1 _ (h.via b1)).out.mono ?_
  rintro e w2 ⟨rfl, hw2⟩
  have b2 := hw2.via b1
  go_wp2_with fail
  refine (C2 _ (h.via b2)).out.mono ?_
  rintro e w3 ⟨rfl, hw3⟩
  have b3 := hw3.via b2
  go_wp2_with fail
  refine (C3 _ (h.via b3)).out.mono ?_
  rintro e w4 ⟨rfl, hw4⟩
  have b4 := hw4.via b3
  go_wp2_with fail
  refine (C4 _ (h.via b4)).out.mono ?_
  rintro e w5 ⟨rfl, hw5⟩
  have b5 := hw5.via b4
  go_wp2_with fail
  refine (C5 _ (h.via b5)).out.mono ?_
  rintro e w6 ⟨rfl, hw6⟩
  have b6 := hw6.via b5
  go_wp2_with fail
  refine (HN _ (h.via b6)).out.mono ?_
  rintro e v1 ⟨ht1, rfl⟩
  exact ⟨rfl, (Bt.below (B := B) b6).trans ht1, rfl⟩
 | ok x r1 =>
  rw [hm] at HN
  rw [bd_ok]
  clear hm
  go_enter Tryz.func116, Tryz.ntmps116
  go_wp2_with fail
  refine (C0 _ (h.via b0)).out.mono ?_
  rintro e w1 ⟨rfl, hw1⟩
  have b1 := hw1.via b0
  go_wp2_with fail
  refine (C1 _ (h.via b1)).out.mono ?_
  rintro e w2 ⟨rfl, hw2⟩
  have b2 := hw2.via b1
  go_wp2_with fail
  refine (C2 _ (h.via b2)).out.mono ?_
  rintro e w3 ⟨rfl, hw3⟩
  have b3 := hw3.via b2
  go_wp2_with fail
  refine (C3 _ (h.via b3)).out.mono ?_
  rintro e w4 ⟨rfl, hw4⟩
  have b4 := hw4.via b3
  go_wp2_with fail
  refine (C4 _ (h.via b4)).out.mono ?_
  rintro e w5 ⟨rfl, hw5⟩
  have b5 := hw5.via b4
  go_wp2_with fail
  refine (C5 _ (h.via b5)).out.mono ?_
  rintro e w6 ⟨rfl, hw6⟩
  have b6 := hw6.via b5
  go_wp2_with fail
  refine (HN _ (h.via b6)).out.mono ?_
  rintro e v1 ⟨ht1, hl1, hp1, v, rfl, rfl⟩
  have HR := Hid.intro (row_bt ((((((((Bt.refl B _).trans (Bt.below hw1)).trans (Bt.below hw2)).trans (Bt.below hw3)).trans (Bt.below hw4)).trans (Bt.below hw5)).trans (Bt.below hw6)).trans ht1) (by omega) hR0)
  have hn1 : w.heap.size < _ := (Array.getElem?_eq_some_iff.1 (row_bt (((((((Bt.refl B _).trans (Bt.below hw1)).trans (Bt.below hw2)).trans (Bt.below hw3)).trans (Bt.below hw4)).trans (Bt.below hw5)).trans (Bt.below hw6)) (by omega) hR0)).1
  go_wp2_with (with_reducible refine (id (?_ : wpList _ _ _ (Oper.mk _ (Op.store _ _ _) _ _ _ _ :: _) _ _)); refine wpList_store_row rfl _ _ _ rfl _ _ rfl rfl _ _ HR.out infoAct rfl rfl (by simp [Value.oneCell']) ?_)
  refine ret_cells rfl rfl (setRow_heap _ _ _ _ _ _ HR.out) Tryz.underlying99 infoAct rfl rfl (Post.ok (((Bt.below (B := B) b6).trans ht1).row (Nat.le_refl _) _) (by first | omega | (simp at hl1 ⊢; omega)) (hp1.row hsz.1 _) ?_)
  exact ⟨.slice none 0 0, none, 0, 0, none, 0, 0, rfl, rep.none, rep.none, rep.none⟩
theorem deed_any {K B : Nat} {r : List Lx} {w : World} (h : PAt K w B r 0) :
  Calls Tryz.prog 116 #[.pointer (some ⟨B, 0, none⟩)] w (Post K B 0 (r.length - 1) w (deedM r) fun w' a v => AcV (fun b => w.heap.size ≤ b) w' a v) := by
 unfold deedM
 cases h0 : isM ⟨#[105, 110, 115, 101, 114, 116]⟩ r with
 | true => rw [if_pos rfl]; exact deed_0 h h0
 | false =>
  rw [if_neg (by simp)]
  cases h1 : isM ⟨#[108, 111, 103, 105, 99, 97, 108]⟩ r with
  | true => rw [if_pos rfl]; exact deed_1 h h0 h1
  | false =>
   rw [if_neg (by simp)]
   cases h2 : isM ⟨#[117, 112, 100, 97, 116, 101]⟩ r with
   | true => rw [if_pos rfl]; exact deed_2 h h0 h1 h2
   | false =>
    rw [if_neg (by simp)]
    cases h3 : isM ⟨#[100, 101, 108, 101, 116, 101]⟩ r with
    | true => rw [if_pos rfl]; exact deed_3 h h0 h1 h2 h3
    | false =>
     rw [if_neg (by simp)]
     cases h4 : isM ⟨#[102, 111, 99, 117, 115]⟩ r with
     | true => rw [if_pos rfl]; exact deed_4 h h0 h1 h2 h3 h4
     | false =>
      rw [if_neg (by simp)]
      cases h5 : isM ⟨#[112, 114, 105, 110, 116]⟩ r with
      | true => rw [if_pos rfl]; exact deed_5 h h0 h1 h2 h3 h4 h5
      | false =>
       rw [if_neg (by simp)]
       exact deed_6 h h0 h1 h2 h3 h4 h5
set_option maxRecDepth 100000 in
set_option maxHeartbeats 2000000 in
theorem action_any {K B : Nat} {r : List Lx} {w : World} (h : PAt K w B r 0) :
  Calls Tryz.prog 67 #[.pointer (some ⟨B, 0, none⟩)] w (Post K B 0 (r.length - 1) w (actionM r) fun w' a v => AcV (fun b => w.heap.size ≤ b) w' a v) := by
 have hsz := h.size
 have hR0 : (w.alloc zAc).heap[w.heap.size]? = some zAc := heap_alloc_new w _
 have b0 : Below w.heap.size w (w.alloc zAc) := below_al (Below.refl _ _) _
 unfold zAc at hR0 b0
 have HD := Hid.intro (deed_any (h.via b0))
 unfold actionM
 cases h1 : deedM r with
 | bad q =>
  rw [h1] at HD
  rw [bd_bad]
  clear h1
  go_enter Tryz.func67, Tryz.ntmps67
  go_wp2_with fail
  refine HD.out.mono ?_
  rintro e v1 ⟨ht1, rfl⟩
  exact ⟨rfl, (Bt.below b0).trans ht1, rfl⟩
 | ok a r1 =>
  rw [h1] at HD
  rw [bd_ok]
  clear h1
  have HT := fun w (h : PAt K w B r1 0) => Hid.intro (take_any h ⟨#[59]⟩)
  cases h2 : takeM ⟨#[59]⟩ r1 with
  | bad q =>
   rw [h2] at HT
   rw [bd_bad]
   clear h2
   go_enter Tryz.func67, Tryz.ntmps67
   go_wp2_with fail
   refine HD.out.mono ?_
   rintro e v1 ⟨ht1, hl1, hp1, v, rfl, hv⟩
   obtain ⟨cells, rfl⟩ := hv.form
   have HA := Hid.intro (heap_alloc_new v1 zAc)
   unfold zAc at HA
   have HP := fun cs => Hid.intro ((hp1.via (below_al (Below.refl _ _) (.cells #[.int .i64 0, .string ⟨#[]⟩, .slice none 0 0, .int .i64 0, .string ⟨#[]⟩, .int .i64 0, .bool false, .int .i64 0, .string ⟨#[]⟩, .slice none 0 0, .slice none 0 0, .string ⟨#[]⟩] 99))).row (g := v1.heap.size) (by have := hp1.size; omega) cs)
   have HB := fun cs => Hid.intro ((((Bt.below (B := B) b0).trans ht1).alloc (.cells #[.int .i64 0, .string ⟨#[]⟩, .slice none 0 0, .int .i64 0, .string ⟨#[]⟩, .int .i64 0, .bool false, .int .i64 0, .string ⟨#[]⟩, .slice none 0 0, .slice none 0 0, .string ⟨#[]⟩] 99)).row (g := v1.heap.size) (by have := ht1.size; simp at this; omega) cs)
   go_wp2_with (with_reducible refine (id (?_ : wpList _ _ _ (Oper.mk _ (Op.store _ _ _) _ _ _ _ :: _) _ _)); refine wpList_store_row rfl _ _ _ rfl _ _ rfl rfl _ _ HA.out infoAct rfl hv.ones.1 hv.ones.2 ?_)
   refine (HT _ (HP _).out).out.mono ?_
   rintro e v2 ⟨ht2, rfl⟩
   exact ⟨rfl, (HB _).out.trans ht2, rfl⟩
  | ok u r2 =>
   rw [h2] at HT
   rw [bd_ok]
   clear h2
   go_enter Tryz.func67, Tryz.ntmps67
   go_wp2_with fail
   refine HD.out.mono ?_
   rintro e v1 ⟨ht1, hl1, hp1, v, rfl, hv⟩
   obtain ⟨cells, rfl⟩ := hv.form
   have HA := Hid.intro (heap_alloc_new v1 zAc)
   have hR1 := row_bt ht1 (by omega) hR0
   have hlt1 : w.heap.size < v1.heap.size := (Array.getElem?_eq_some_iff.1 hR1).1
   have hR2 := Hid.intro ((setRow_other (v1.alloc zAc) v1.heap.size w.heap.size cells (by omega)).trans ((heap_alloc_old v1 zAc hlt1).trans hR1))
   have hA2 := Hid.intro (setRow_heap (v1.alloc zAc) v1.heap.size _ cells _ _ HA.out)
   unfold zAc at HA hR2 hA2
   have HP := fun cs => Hid.intro ((hp1.via (below_al (Below.refl _ _) (.cells #[.int .i64 0, .string ⟨#[]⟩, .slice none 0 0, .int .i64 0, .string ⟨#[]⟩, .int .i64 0, .bool false, .int .i64 0, .string ⟨#[]⟩, .slice none 0 0, .slice none 0 0, .string ⟨#[]⟩] 99))).row (g := v1.heap.size) (by have := hp1.size; omega) cs)
   have HB := fun cs => Hid.intro ((((Bt.below (B := B) b0).trans ht1).alloc (.cells #[.int .i64 0, .string ⟨#[]⟩, .slice none 0 0, .int .i64 0, .string ⟨#[]⟩, .int .i64 0, .bool false, .int .i64 0, .string ⟨#[]⟩, .slice none 0 0, .slice none 0 0, .string ⟨#[]⟩] 99)).row (g := v1.heap.size) (by have := ht1.size; simp at this; omega) cs)
   go_wp2_with (with_reducible refine (id (?_ : wpList _ _ _ (Oper.mk _ (Op.store _ _ _) _ _ _ _ :: _) _ _)); refine wpList_store_row rfl _ _ _ rfl _ _ rfl rfl _ _ HA.out infoAct rfl hv.ones.1 hv.ones.2 ?_)
   refine (HT _ (HP _).out).out.mono ?_
   rintro e v2 ⟨ht2, hl2, hp2, v', rfl, rfl⟩
   have HR := Hid.intro (row_bt ht2 (by omega) hR2.out)
   have HX := Hid.intro (row_bt ht2 (by omega) hA2.out)
   have hv2 : AcV (fun b => w.heap.size < b) v2 a (.agg cells) := ((((hv.move (Q := fun b => w.heap.size < b ∧ b < v1.heap.size) Kp.refl (fun b hb h => by simp at h; omega)).move (Kp.alloc v1 (.cells #[.int .i64 0, .string ⟨#[]⟩, .slice none 0 0, .int .i64 0, .string ⟨#[]⟩, .int .i64 0, .bool false, .int .i64 0, .string ⟨#[]⟩, .slice none 0 0, .slice none 0 0, .string ⟨#[]⟩] 99)) (fun _ _ h => h)).move (w' := (v1.alloc (.cells #[.int .i64 0, .string ⟨#[]⟩, .slice none 0 0, .int .i64 0, .string ⟨#[]⟩, .int .i64 0, .bool false, .int .i64 0, .string ⟨#[]⟩, .slice none 0 0, .slice none 0 0, .string ⟨#[]⟩] 99)).setRow v1.heap.size cells) ⟨by simp, fun b hb _ o => World.cell?_of_block (a := ⟨b, o, none⟩) (setRow_other _ _ _ _ (by simp only; omega))⟩ (fun _ _ h => h)).move (ht2.kp (by omega)) (fun _ _ h => h)).move Kp.refl (fun b _ h => h.1)
   go_wp2_with (first | (with_reducible refine (id (?_ : wpList _ _ _ (Oper.mk _ (Op.load _ _) _ _ _ _ :: _) _ _)); refine wpList_load_cells rfl _ _ rfl _ rfl _ _ _ HX.out Tryz.underlying99 infoAct hv.ones.1 ?_) | (with_reducible refine (id (?_ : wpList _ _ _ (Oper.mk _ (Op.store _ _ _) _ _ _ _ :: _) _ _)); refine wpList_store_row rfl _ _ _ rfl _ _ rfl rfl _ _ HR.out infoAct rfl hv.ones.1 hv.ones.2 ?_))
   refine ret_cells rfl rfl (setRow_heap _ _ _ _ _ _ HR.out) Tryz.underlying99 infoAct hv.ones.1 rfl (Post.ok (((HB _).out.trans ht2).row (Nat.le_refl _) _) (by omega) (hp2.row hsz.1 _) ?_)
   exact hv2.move (kp_row v2 _) (fun b _ h => by omega)
end
end Go.Proofs.YtoeodjobggodcaaGreatDoor
/- field. -/
namespace Go.Proofs.YtoeodjobggodcaaGreatDoor
section
open Go.RowKit
theorem infoField : (Tryz.prog.info? 90).map (·.size) = some 3 := by kernel_rfl
set_option maxRecDepth 100000 in
set_option maxHeartbeats 4000000 in
theorem field_any {K B o : Nat} {r : List Lx} {w : World} (h : PAt K w B r o) :
  Calls Tryz.prog 62 #[.pointer (some ⟨B, 0, none⟩)] w (Post K B o (r.length - 1) w (fieldM r) fun _ x v => v = .agg #[.string x.n, .int .i64 x.t, .string x.c]) := by
 have hsz := h.size
 have hR0 : (w.alloc (.cells #[.string ⟨#[]⟩, .int .i64 0, .string ⟨#[]⟩] 90)).heap[w.heap.size]? = some _ := heap_alloc_new w _
 have b0 : Below w.heap.size w (w.alloc (.cells #[.string ⟨#[]⟩, .int .i64 0, .string ⟨#[]⟩] 90)) := below_al (Below.refl _ _) _
 have HV := Hid.intro (pname_any (h.via b0))
 unfold fieldM
 cases h1 : nameM r with
 | bad q =>
  rw [h1] at HV
  rw [bd_bad]
  clear h1
  go_enter Tryz.func62, Tryz.ntmps62
  go_wp2_with fail
  refine HV.out.mono ?_
  rintro e v1 ⟨ht1, rfl⟩
  exact ⟨rfl, (Bt.below b0).trans ht1, rfl⟩
 | ok s r1 =>
  rw [h1] at HV
  rw [bd_ok]
  clear h1
  have HT := fun w (h : PAt K w B r1 o) => Hid.intro (take_any h ⟨#[58]⟩)
  cases h2 : takeM ⟨#[58]⟩ r1 with
  | bad q =>
   rw [h2] at HT
   rw [bd_bad]
   clear h2
   go_enter Tryz.func62, Tryz.ntmps62
   go_wp2_with fail
   refine HV.out.mono ?_
   rintro e v1 ⟨ht1, hl1, hp1, v, rfl, rfl⟩
   go_wp2_with fail
   refine (HT _ (hp1.via (below_al (Below.refl _ _) _))).out.mono ?_
   rintro e v2 ⟨ht2, rfl⟩
   exact ⟨rfl, (((Bt.below b0).trans ht1).alloc _).trans ht2, rfl⟩
  | ok u r2 =>
   rw [h2] at HT
   rw [bd_ok]
   clear h2
   cases k0 : isM ⟨#[105, 110, 116]⟩ r2 with
   | true =>
    rw [if_pos rfl]
    have C0 := fun w (h : PAt K w B r2 o) => Hid.intro (skip_yes h k0)
    clear k0
    go_enter Tryz.func62, Tryz.ntmps62
    go_wp2_with fail
    refine HV.out.mono ?_
    rintro e v1 ⟨ht1, hl1, hp1, v, rfl, rfl⟩
    go_wp2_with fail
    refine (HT _ (hp1.via (below_al (Below.refl _ _) _))).out.mono ?_
    rintro e v2 ⟨ht2, hl2, hp2, v', rfl, rfl⟩
    go_wp2_with fail
    refine (C0 _ (hp2)).out.mono ?_
    rintro e v3 ⟨rfl, ht3, hp3⟩
    have HB := (ht2).trans ht3
    have hR1 := row_bt ht1 (by omega) hR0
    have hRlt : w.heap.size < v1.heap.size := (Array.getElem?_eq_some_iff.1 hR1).1
    have hX3 := row_bt HB (by omega) (heap_alloc_new v1 (.cells #[.string s, .int .i64 0, .string ⟨#[]⟩] 90))
    have hR3 := row_bt HB (by omega) ((heap_alloc_old _ _ hRlt).trans hR1)
    have x0 : v3.cell? ⟨v1.heap.size, 0, none⟩ = some (.string s) := (heap_cell hX3 0).1
    have x1 : v3.cell? ⟨v1.heap.size, 1, none⟩ = some (.int .i64 0) := (heap_cell hX3 1).1
    have x2 : v3.cell? ⟨v1.heap.size, 2, none⟩ = some (.string ⟨#[]⟩) := (heap_cell hX3 2).1
    have y1 : v3.frozen? ⟨v1.heap.size, 1, none⟩ = false := (heap_cell hX3 1).2
    have y2 : v3.frozen? ⟨v1.heap.size, 2, none⟩ = false := (heap_cell hX3 2).2
    have hXs : v1.heap.size < v3.heap.size := (Array.getElem?_eq_some_iff.1 hX3).1
    have HR := Hid.intro ((Below.heap_setCell v3 ⟨v1.heap.size, 1, none⟩ (.int .i64 2) w.heap.size (by simp only; omega)).trans hR3)
    go_wp2_with (with_reducible refine (id (?_ : wpList _ _ _ (Oper.mk _ (Op.store _ _ _) _ _ _ _ :: _) _ _)); refine wpList_store_row rfl _ _ _ rfl _ _ rfl rfl _ _ HR.out infoField rfl rfl (by simp [Value.oneCell']) ?_)
    refine ret_cells rfl rfl (setRow_heap _ _ _ _ _ _ HR.out) Tryz.underlying90 infoField rfl rfl (Post.ok ((((((Bt.below b0).trans ht1).alloc _).trans HB).own (by omega) _ _).row (Nat.le_refl _) _) (by first | omega | (simp at hl2 ⊢; omega) | (simp at hl4; omega)) ((hp3.set (by omega) _ _).row hsz.1 _) rfl)
   | false =>
    rw [if_neg (by simp)]
    have C0 := fun w (h : PAt K w B r2 o) => Hid.intro (skip_no h k0)
    cases k1 : isM ⟨#[98, 111, 111, 108]⟩ r2 with
    | true =>
     rw [if_pos rfl]
     have C1 := fun w (h : PAt K w B r2 o) => Hid.intro (skip_yes h k1)
     clear k0 k1
     go_enter Tryz.func62, Tryz.ntmps62
     go_wp2_with fail
     refine HV.out.mono ?_
     rintro e v1 ⟨ht1, hl1, hp1, v, rfl, rfl⟩
     go_wp2_with fail
     refine (HT _ (hp1.via (below_al (Below.refl _ _) _))).out.mono ?_
     rintro e v2 ⟨ht2, hl2, hp2, v', rfl, rfl⟩
     go_wp2_with fail
     refine (C0 _ (hp2)).out.mono ?_
     rintro e u1 ⟨rfl, d1⟩
     have c1 := d1
     go_wp2_with fail
     refine (C1 _ (hp2.via c1)).out.mono ?_
     rintro e v3 ⟨rfl, ht3, hp3⟩
     have HB := (ht2.trans (Bt.below c1)).trans ht3
     have hR1 := row_bt ht1 (by omega) hR0
     have hRlt : w.heap.size < v1.heap.size := (Array.getElem?_eq_some_iff.1 hR1).1
     have hX3 := row_bt HB (by omega) (heap_alloc_new v1 (.cells #[.string s, .int .i64 0, .string ⟨#[]⟩] 90))
     have hR3 := row_bt HB (by omega) ((heap_alloc_old _ _ hRlt).trans hR1)
     have x0 : v3.cell? ⟨v1.heap.size, 0, none⟩ = some (.string s) := (heap_cell hX3 0).1
     have x1 : v3.cell? ⟨v1.heap.size, 1, none⟩ = some (.int .i64 0) := (heap_cell hX3 1).1
     have x2 : v3.cell? ⟨v1.heap.size, 2, none⟩ = some (.string ⟨#[]⟩) := (heap_cell hX3 2).1
     have y1 : v3.frozen? ⟨v1.heap.size, 1, none⟩ = false := (heap_cell hX3 1).2
     have y2 : v3.frozen? ⟨v1.heap.size, 2, none⟩ = false := (heap_cell hX3 2).2
     have hXs : v1.heap.size < v3.heap.size := (Array.getElem?_eq_some_iff.1 hX3).1
     have HR := Hid.intro ((Below.heap_setCell v3 ⟨v1.heap.size, 1, none⟩ (.int .i64 1) w.heap.size (by simp only; omega)).trans hR3)
     go_wp2_with (with_reducible refine (id (?_ : wpList _ _ _ (Oper.mk _ (Op.store _ _ _) _ _ _ _ :: _) _ _)); refine wpList_store_row rfl _ _ _ rfl _ _ rfl rfl _ _ HR.out infoField rfl rfl (by simp [Value.oneCell']) ?_)
     refine ret_cells rfl rfl (setRow_heap _ _ _ _ _ _ HR.out) Tryz.underlying90 infoField rfl rfl (Post.ok ((((((Bt.below b0).trans ht1).alloc _).trans HB).own (by omega) _ _).row (Nat.le_refl _) _) (by first | omega | (simp at hl2 ⊢; omega) | (simp at hl4; omega)) ((hp3.set (by omega) _ _).row hsz.1 _) rfl)
    | false =>
     rw [if_neg (by simp)]
     have C1 := fun w (h : PAt K w B r2 o) => Hid.intro (skip_no h k1)
     cases k2 : isM ⟨#[116, 101, 120, 116]⟩ r2 with
     | true =>
      rw [if_pos rfl]
      have C2 := fun w (h : PAt K w B r2 o) => Hid.intro (skip_yes h k2)
      clear k0 k1 k2
      go_enter Tryz.func62, Tryz.ntmps62
      go_wp2_with fail
      refine HV.out.mono ?_
      rintro e v1 ⟨ht1, hl1, hp1, v, rfl, rfl⟩
      go_wp2_with fail
      refine (HT _ (hp1.via (below_al (Below.refl _ _) _))).out.mono ?_
      rintro e v2 ⟨ht2, hl2, hp2, v', rfl, rfl⟩
      go_wp2_with fail
      refine (C0 _ (hp2)).out.mono ?_
      rintro e u1 ⟨rfl, d1⟩
      have c1 := d1
      go_wp2_with fail
      refine (C1 _ (hp2.via c1)).out.mono ?_
      rintro e u2 ⟨rfl, d2⟩
      have c2 := d2.via c1
      go_wp2_with fail
      refine (C2 _ (hp2.via c2)).out.mono ?_
      rintro e v3 ⟨rfl, ht3, hp3⟩
      have HB := (ht2.trans (Bt.below c2)).trans ht3
      have hR1 := row_bt ht1 (by omega) hR0
      have hRlt : w.heap.size < v1.heap.size := (Array.getElem?_eq_some_iff.1 hR1).1
      have hX3 := row_bt HB (by omega) (heap_alloc_new v1 (.cells #[.string s, .int .i64 0, .string ⟨#[]⟩] 90))
      have hR3 := row_bt HB (by omega) ((heap_alloc_old _ _ hRlt).trans hR1)
      have x0 : v3.cell? ⟨v1.heap.size, 0, none⟩ = some (.string s) := (heap_cell hX3 0).1
      have x1 : v3.cell? ⟨v1.heap.size, 1, none⟩ = some (.int .i64 0) := (heap_cell hX3 1).1
      have x2 : v3.cell? ⟨v1.heap.size, 2, none⟩ = some (.string ⟨#[]⟩) := (heap_cell hX3 2).1
      have y1 : v3.frozen? ⟨v1.heap.size, 1, none⟩ = false := (heap_cell hX3 1).2
      have y2 : v3.frozen? ⟨v1.heap.size, 2, none⟩ = false := (heap_cell hX3 2).2
      have hXs : v1.heap.size < v3.heap.size := (Array.getElem?_eq_some_iff.1 hX3).1
      have HR := Hid.intro ((Below.heap_setCell v3 ⟨v1.heap.size, 1, none⟩ (.int .i64 3) w.heap.size (by simp only; omega)).trans hR3)
      go_wp2_with (with_reducible refine (id (?_ : wpList _ _ _ (Oper.mk _ (Op.store _ _ _) _ _ _ _ :: _) _ _)); refine wpList_store_row rfl _ _ _ rfl _ _ rfl rfl _ _ HR.out infoField rfl rfl (by simp [Value.oneCell']) ?_)
      refine ret_cells rfl rfl (setRow_heap _ _ _ _ _ _ HR.out) Tryz.underlying90 infoField rfl rfl (Post.ok ((((((Bt.below b0).trans ht1).alloc _).trans HB).own (by omega) _ _).row (Nat.le_refl _) _) (by first | omega | (simp at hl2 ⊢; omega) | (simp at hl4; omega)) ((hp3.set (by omega) _ _).row hsz.1 _) rfl)
     | false =>
      rw [if_neg (by simp)]
      have C2 := fun w (h : PAt K w B r2 o) => Hid.intro (skip_no h k2)
      cases k3 : isM ⟨#[108, 105, 115, 116]⟩ r2 with
      | true =>
       rw [if_pos rfl]
       have C3 := fun w (h : PAt K w B r2 o) => Hid.intro (skip_yes h k3)
       clear k0 k1 k2 k3
       go_enter Tryz.func62, Tryz.ntmps62
       go_wp2_with fail
       refine HV.out.mono ?_
       rintro e v1 ⟨ht1, hl1, hp1, v, rfl, rfl⟩
       go_wp2_with fail
       refine (HT _ (hp1.via (below_al (Below.refl _ _) _))).out.mono ?_
       rintro e v2 ⟨ht2, hl2, hp2, v', rfl, rfl⟩
       go_wp2_with fail
       refine (C0 _ (hp2)).out.mono ?_
       rintro e u1 ⟨rfl, d1⟩
       have c1 := d1
       go_wp2_with fail
       refine (C1 _ (hp2.via c1)).out.mono ?_
       rintro e u2 ⟨rfl, d2⟩
       have c2 := d2.via c1
       go_wp2_with fail
       refine (C2 _ (hp2.via c2)).out.mono ?_
       rintro e u3 ⟨rfl, d3⟩
       have c3 := d3.via c2
       go_wp2_with fail
       refine (C3 _ (hp2.via c3)).out.mono ?_
       rintro e v3 ⟨rfl, ht3, hp3⟩
       have HB := (ht2.trans (Bt.below c3)).trans ht3
       have hR1 := row_bt ht1 (by omega) hR0
       have hRlt : w.heap.size < v1.heap.size := (Array.getElem?_eq_some_iff.1 hR1).1
       have hX3 := row_bt HB (by omega) (heap_alloc_new v1 (.cells #[.string s, .int .i64 0, .string ⟨#[]⟩] 90))
       have hR3 := row_bt HB (by omega) ((heap_alloc_old _ _ hRlt).trans hR1)
       have x0 : v3.cell? ⟨v1.heap.size, 0, none⟩ = some (.string s) := (heap_cell hX3 0).1
       have x1 : v3.cell? ⟨v1.heap.size, 1, none⟩ = some (.int .i64 0) := (heap_cell hX3 1).1
       have x2 : v3.cell? ⟨v1.heap.size, 2, none⟩ = some (.string ⟨#[]⟩) := (heap_cell hX3 2).1
       have y1 : v3.frozen? ⟨v1.heap.size, 1, none⟩ = false := (heap_cell hX3 1).2
       have y2 : v3.frozen? ⟨v1.heap.size, 2, none⟩ = false := (heap_cell hX3 2).2
       have hXs : v1.heap.size < v3.heap.size := (Array.getElem?_eq_some_iff.1 hX3).1
       have HR := Hid.intro ((Below.heap_setCell v3 ⟨v1.heap.size, 1, none⟩ (.int .i64 4) w.heap.size (by simp only; omega)).trans hR3)
       go_wp2_with (with_reducible refine (id (?_ : wpList _ _ _ (Oper.mk _ (Op.store _ _ _) _ _ _ _ :: _) _ _)); refine wpList_store_row rfl _ _ _ rfl _ _ rfl rfl _ _ HR.out infoField rfl rfl (by simp [Value.oneCell']) ?_)
       refine ret_cells rfl rfl (setRow_heap _ _ _ _ _ _ HR.out) Tryz.underlying90 infoField rfl rfl (Post.ok ((((((Bt.below b0).trans ht1).alloc _).trans HB).own (by omega) _ _).row (Nat.le_refl _) _) (by first | omega | (simp at hl2 ⊢; omega) | (simp at hl4; omega)) ((hp3.set (by omega) _ _).row hsz.1 _) rfl)
      | false =>
       rw [if_neg (by simp)]
       have C3 := fun w (h : PAt K w B r2 o) => Hid.intro (skip_no h k3)
       cases k4 : isM ⟨#[97, 110, 121]⟩ r2 with
       | true =>
        rw [if_pos rfl]
        have C4 := fun w (h : PAt K w B r2 o) => Hid.intro (skip_yes h k4)
        clear k0 k1 k2 k3 k4
        go_enter Tryz.func62, Tryz.ntmps62
        go_wp2_with fail
        refine HV.out.mono ?_
        rintro e v1 ⟨ht1, hl1, hp1, v, rfl, rfl⟩
        go_wp2_with fail
        refine (HT _ (hp1.via (below_al (Below.refl _ _) _))).out.mono ?_
        rintro e v2 ⟨ht2, hl2, hp2, v', rfl, rfl⟩
        go_wp2_with fail
        refine (C0 _ (hp2)).out.mono ?_
        rintro e u1 ⟨rfl, d1⟩
        have c1 := d1
        go_wp2_with fail
        refine (C1 _ (hp2.via c1)).out.mono ?_
        rintro e u2 ⟨rfl, d2⟩
        have c2 := d2.via c1
        go_wp2_with fail
        refine (C2 _ (hp2.via c2)).out.mono ?_
        rintro e u3 ⟨rfl, d3⟩
        have c3 := d3.via c2
        go_wp2_with fail
        refine (C3 _ (hp2.via c3)).out.mono ?_
        rintro e u4 ⟨rfl, d4⟩
        have c4 := d4.via c3
        go_wp2_with fail
        refine (C4 _ (hp2.via c4)).out.mono ?_
        rintro e v3 ⟨rfl, ht3, hp3⟩
        have HB := (ht2.trans (Bt.below c4)).trans ht3
        have hR1 := row_bt ht1 (by omega) hR0
        have hRlt : w.heap.size < v1.heap.size := (Array.getElem?_eq_some_iff.1 hR1).1
        have hX3 := row_bt HB (by omega) (heap_alloc_new v1 (.cells #[.string s, .int .i64 0, .string ⟨#[]⟩] 90))
        have hR3 := row_bt HB (by omega) ((heap_alloc_old _ _ hRlt).trans hR1)
        have x0 : v3.cell? ⟨v1.heap.size, 0, none⟩ = some (.string s) := (heap_cell hX3 0).1
        have x1 : v3.cell? ⟨v1.heap.size, 1, none⟩ = some (.int .i64 0) := (heap_cell hX3 1).1
        have x2 : v3.cell? ⟨v1.heap.size, 2, none⟩ = some (.string ⟨#[]⟩) := (heap_cell hX3 2).1
        have y1 : v3.frozen? ⟨v1.heap.size, 1, none⟩ = false := (heap_cell hX3 1).2
        have y2 : v3.frozen? ⟨v1.heap.size, 2, none⟩ = false := (heap_cell hX3 2).2
        have hXs : v1.heap.size < v3.heap.size := (Array.getElem?_eq_some_iff.1 hX3).1
        have HR := Hid.intro ((Below.heap_setCell v3 ⟨v1.heap.size, 1, none⟩ (.int .i64 0) w.heap.size (by simp only; omega)).trans hR3)
        go_wp2_with (with_reducible refine (id (?_ : wpList _ _ _ (Oper.mk _ (Op.store _ _ _) _ _ _ _ :: _) _ _)); refine wpList_store_row rfl _ _ _ rfl _ _ rfl rfl _ _ HR.out infoField rfl rfl (by simp [Value.oneCell']) ?_)
        refine ret_cells rfl rfl (setRow_heap _ _ _ _ _ _ HR.out) Tryz.underlying90 infoField rfl rfl (Post.ok ((((((Bt.below b0).trans ht1).alloc _).trans HB).own (by omega) _ _).row (Nat.le_refl _) _) (by first | omega | (simp at hl2 ⊢; omega) | (simp at hl4; omega)) ((hp3.set (by omega) _ _).row hsz.1 _) rfl)
       | false =>
        rw [if_neg (by simp)]
        have C4 := fun w (h : PAt K w B r2 o) => Hid.intro (skip_no h k4)
        cases k5 : isM ⟨#[114, 101, 102]⟩ r2 with
        | true =>
         rw [if_pos rfl]
         have C5 := fun w (h : PAt K w B r2 o) => Hid.intro (skip_yes h k5)
         clear k0 k1 k2 k3 k4 k5
         have HN := fun w (h : PAt K w B r2.tail o) => Hid.intro (pname_any h)
         cases h3 : nameM r2.tail with
         | bad q =>
          rw [h3] at HN
          rw [bd_bad]
          clear h3
          go_enter Tryz.func62, Tryz.ntmps62
          go_wp2_with fail
          refine HV.out.mono ?_
          rintro e v1 ⟨ht1, hl1, hp1, v, rfl, rfl⟩
          go_wp2_with fail
          refine (HT _ (hp1.via (below_al (Below.refl _ _) _))).out.mono ?_
          rintro e v2 ⟨ht2, hl2, hp2, v', rfl, rfl⟩
          go_wp2_with fail
          refine (C0 _ (hp2)).out.mono ?_
          rintro e u1 ⟨rfl, d1⟩
          have c1 := d1
          go_wp2_with fail
          refine (C1 _ (hp2.via c1)).out.mono ?_
          rintro e u2 ⟨rfl, d2⟩
          have c2 := d2.via c1
          go_wp2_with fail
          refine (C2 _ (hp2.via c2)).out.mono ?_
          rintro e u3 ⟨rfl, d3⟩
          have c3 := d3.via c2
          go_wp2_with fail
          refine (C3 _ (hp2.via c3)).out.mono ?_
          rintro e u4 ⟨rfl, d4⟩
          have c4 := d4.via c3
          go_wp2_with fail
          refine (C4 _ (hp2.via c4)).out.mono ?_
          rintro e u5 ⟨rfl, d5⟩
          have c5 := d5.via c4
          go_wp2_with fail
          refine (C5 _ (hp2.via c5)).out.mono ?_
          rintro e v3 ⟨rfl, ht3, hp3⟩
          go_wp2_with fail
          refine (HN _ hp3).out.mono ?_
          rintro e v4 ⟨ht4, rfl⟩
          exact ⟨rfl, ((((Bt.below b0).trans ht1).alloc _).trans ((ht2.trans (Bt.below c5)).trans ht3)).trans ht4, rfl⟩
         | ok f r3 =>
          rw [h3] at HN
          rw [bd_ok]
          clear h3
          go_enter Tryz.func62, Tryz.ntmps62
          go_wp2_with fail
          refine HV.out.mono ?_
          rintro e v1 ⟨ht1, hl1, hp1, v, rfl, rfl⟩
          go_wp2_with fail
          refine (HT _ (hp1.via (below_al (Below.refl _ _) _))).out.mono ?_
          rintro e v2 ⟨ht2, hl2, hp2, v', rfl, rfl⟩
          go_wp2_with fail
          refine (C0 _ (hp2)).out.mono ?_
          rintro e u1 ⟨rfl, d1⟩
          have c1 := d1
          go_wp2_with fail
          refine (C1 _ (hp2.via c1)).out.mono ?_
          rintro e u2 ⟨rfl, d2⟩
          have c2 := d2.via c1
          go_wp2_with fail
          refine (C2 _ (hp2.via c2)).out.mono ?_
          rintro e u3 ⟨rfl, d3⟩
          have c3 := d3.via c2
          go_wp2_with fail
          refine (C3 _ (hp2.via c3)).out.mono ?_
          rintro e u4 ⟨rfl, d4⟩
          have c4 := d4.via c3
          go_wp2_with fail
          refine (C4 _ (hp2.via c4)).out.mono ?_
          rintro e u5 ⟨rfl, d5⟩
          have c5 := d5.via c4
          go_wp2_with fail
          refine (C5 _ (hp2.via c5)).out.mono ?_
          rintro e v3 ⟨rfl, ht3, hp3⟩
          go_wp2_with fail
          refine (HN _ hp3).out.mono ?_
          rintro e v4 ⟨ht4, hl4, hp4, v'', rfl, rfl⟩
          have HB := ((ht2.trans (Bt.below c5)).trans ht3).trans ht4
          have hR1 := row_bt ht1 (by omega) hR0
          have hRlt : w.heap.size < v1.heap.size := (Array.getElem?_eq_some_iff.1 hR1).1
          have hX3 := row_bt HB (by omega) (heap_alloc_new v1 (.cells #[.string s, .int .i64 0, .string ⟨#[]⟩] 90))
          have hR3 := row_bt HB (by omega) ((heap_alloc_old _ _ hRlt).trans hR1)
          have x0 : v4.cell? ⟨v1.heap.size, 0, none⟩ = some (.string s) := (heap_cell hX3 0).1
          have x1 : v4.cell? ⟨v1.heap.size, 1, none⟩ = some (.int .i64 0) := (heap_cell hX3 1).1
          have x2 : v4.cell? ⟨v1.heap.size, 2, none⟩ = some (.string ⟨#[]⟩) := (heap_cell hX3 2).1
          have y1 : v4.frozen? ⟨v1.heap.size, 1, none⟩ = false := (heap_cell hX3 1).2
          have y2 : v4.frozen? ⟨v1.heap.size, 2, none⟩ = false := (heap_cell hX3 2).2
          have hXs : v1.heap.size < v4.heap.size := (Array.getElem?_eq_some_iff.1 hX3).1
          have HR := Hid.intro ((Below.heap_setCell (v4.setCell ⟨v1.heap.size, 1, none⟩ (.int .i64 5)) ⟨v1.heap.size, 2, none⟩ (.string f) w.heap.size (by simp only; omega)).trans ((Below.heap_setCell v4 ⟨v1.heap.size, 1, none⟩ (.int .i64 5) w.heap.size (by simp only; omega)).trans hR3))
          go_wp2_with (with_reducible refine (id (?_ : wpList _ _ _ (Oper.mk _ (Op.store _ _ _) _ _ _ _ :: _) _ _)); refine wpList_store_row rfl _ _ _ rfl _ _ rfl rfl _ _ HR.out infoField rfl rfl (by simp [Value.oneCell']) ?_)
          refine ret_cells rfl rfl (setRow_heap _ _ _ _ _ _ HR.out) Tryz.underlying90 infoField rfl rfl (Post.ok (((((((Bt.below b0).trans ht1).alloc _).trans HB).own (by omega) _ _).own (by omega) _ _).row (Nat.le_refl _) _) (by first | omega | (simp at hl2 ⊢; omega) | (simp at hl4; omega)) (((hp4.set (by omega) _ _).set (by omega) _ _).row hsz.1 _) rfl)
        | false =>
         rw [if_neg (by simp)]
         have C5 := fun w (h : PAt K w B r2 o) => Hid.intro (skip_no h k5)
         have HB := fun w (h : PAt K w B r2 o) => Hid.intro (bar_any h)
         clear k0 k1 k2 k3 k4 k5
         go_enter Tryz.func62, Tryz.ntmps62
         go_wp2_with fail
         refine HV.out.mono ?_
         rintro e v1 ⟨ht1, hl1, hp1, v, rfl, rfl⟩
         go_wp2_with fail
         refine (HT _ (hp1.via (below_al (Below.refl _ _) _))).out.mono ?_
         rintro e v2 ⟨ht2, hl2, hp2, v', rfl, rfl⟩
         go_wp2_with fail
         refine (C0 _ (hp2)).out.mono ?_
         rintro e u1 ⟨rfl, d1⟩
         have c1 := d1
         go_wp2_with fail
         refine (C1 _ (hp2.via c1)).out.mono ?_
         rintro e u2 ⟨rfl, d2⟩
         have c2 := d2.via c1
         go_wp2_with fail
         refine (C2 _ (hp2.via c2)).out.mono ?_
         rintro e u3 ⟨rfl, d3⟩
         have c3 := d3.via c2
         go_wp2_with fail
         refine (C3 _ (hp2.via c3)).out.mono ?_
         rintro e u4 ⟨rfl, d4⟩
         have c4 := d4.via c3
         go_wp2_with fail
         refine (C4 _ (hp2.via c4)).out.mono ?_
         rintro e u5 ⟨rfl, d5⟩
         have c5 := d5.via c4
         go_wp2_with fail
         refine (C5 _ (hp2.via c5)).out.mono ?_
         rintro e u6 ⟨rfl, d6⟩
         have c6 := d6.via c5
         go_wp2_with fail
         refine (HB _ (hp2.via c6)).out.mono ?_
         rintro e v3 ⟨rfl, rfl⟩
         exact ⟨rfl, (((Bt.below b0).trans ht1).alloc _).trans (ht2.trans (Bt.below c6)), rfl⟩
end
end Go.Proofs.YtoeodjobggodcaaGreatDoor
/- salience. -/
namespace Go.Proofs.YtoeodjobggodcaaGreatDoor
section
open Go.RowKit
theorem numM_le {most : Nat} {r r' : List Lx} {n : Nat} (h : numM most r = .ok n r') : n ≤ most := by
 cases r with
 | nil => simp [numM] at h
 | cons x r =>
  unfold numM at h
  dsimp only at h
  split at h
  ·injection h with e1 e2
   omega
  ·injection h
set_option maxRecDepth 100000 in
set_option maxHeartbeats 2000000 in
theorem sal_any {K B o : Nat} {r : List Lx} {w : World} (h : PAt K w B r o) :
  Calls Tryz.prog 107 #[.pointer (some ⟨B, 0, none⟩)] w (Post K B o (r.length - 1) w (salM r) fun _ i v => v = .int .i64 i ∧ -2147483648 ≤ i ∧ i ≤ 2147483648) := by
 have H0 := Hid.intro h
 unfold salM
 cases h0 : isM ⟨#[45]⟩ r with
 | true =>
  have C0 := fun w (h : PAt K w B r o) => Hid.intro (skip_yes h h0)
  have HN := fun w (h : PAt K w B r.tail o) => Hid.intro (number_any h 2147483648 (by omega))
  rw [if_pos rfl]
  cases h1 : numM 2147483648 r.tail with
  | bad q =>
   rw [h1] at HN
   rw [bd_bad]
   clear h0 h1 h
   go_enter Tryz.func107, Tryz.ntmps107
   go_wp2_with fail
   refine (C0 _ H0.out).out.mono ?_
   rintro e v0 ⟨rfl, ht0, hp0⟩
   go_wp2_with fail
   refine (HN _ hp0).out.mono ?_
   rintro e v1 ⟨ht1, rfl⟩
   exact ⟨rfl, ht0.trans ht1, rfl⟩
  | ok n r1 =>
   have hn := numM_le h1
   have hw : IntKind.i64.wrap (-(n : Int)) = -(n : Int) := by
    rw [IntKind.wrap_i64]
    omega
   rw [h1] at HN
   rw [bd_ok]
   clear h0 h1 h
   go_enter Tryz.func107, Tryz.ntmps107
   go_wp2_with fail
   refine (C0 _ H0.out).out.mono ?_
   rintro e v0 ⟨rfl, ht0, hp0⟩
   go_wp2_with fail
   refine (HN _ hp0).out.mono ?_
   rintro e v1 ⟨ht1, hl1, hp1, v, rfl, rfl⟩
   go_wp2_with fail
   go_ret
   exact Post.ok (ht0.trans ht1) (by simp at hl1 ⊢; omega) hp1 ⟨rfl, by omega, by omega⟩
 | false =>
  have C0 := fun w (h : PAt K w B r o) => Hid.intro (skip_no h h0)
  have HN := fun w (h : PAt K w B r o) => Hid.intro (number_any h 2147483648 (by omega))
  rw [if_neg (by simp)]
  cases h1 : numM 2147483648 r with
  | bad q =>
   rw [h1] at HN
   rw [bd_bad]
   clear h0 h1 h
   go_enter Tryz.func107, Tryz.ntmps107
   go_wp2_with fail
   refine (C0 _ H0.out).out.mono ?_
   rintro e v0 ⟨rfl, ht0⟩
   go_wp2_with fail
   refine (HN _ (H0.out.via ht0)).out.mono ?_
   rintro e v1 ⟨ht1, rfl⟩
   exact ⟨rfl, (Bt.below ht0).trans ht1, rfl⟩
  | ok n r1 =>
   have hn := numM_le h1
   rw [h1] at HN
   rw [bd_ok]
   clear h0 h1 h
   go_enter Tryz.func107, Tryz.ntmps107
   go_wp2_with fail
   refine (C0 _ H0.out).out.mono ?_
   rintro e v0 ⟨rfl, ht0⟩
   go_wp2_with fail
   refine (HN _ (H0.out.via ht0)).out.mono ?_
   rintro e v1 ⟨ht1, hl1, hp1, v, rfl, rfl⟩
   go_wp2_with fail
   go_ret
   exact Post.ok ((Bt.below ht0).trans ht1) hl1 hp1 ⟨rfl, by omega, by omega⟩
end
end Go.Proofs.YtoeodjobggodcaaGreatDoor
