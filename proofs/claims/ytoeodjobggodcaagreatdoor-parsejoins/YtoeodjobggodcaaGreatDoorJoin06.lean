import Derived.Test.YtoeodjobggodcaaGreatDoorJoin05
/- tree, expr. -/
namespace Go.Proofs.YtoeodjobggodcaaGreatDoor
section
open Go.RowKit
theorem level_all {K B o : Nat} {S : Ps Te} (hS : TC K B o 136 (S o)) : ∀ k, k ≤ 5 → LC K B o ((5 - k : Nat) : Int) (levelM S o k)
 | 0, _ => level_five hS
 | k + 1, hk => by
  have ih := level_all hS k (by omega)
  have e : ((5 - k : Nat) : Int) = ((4 - k : Nat) : Int) + 1 := by omega
  rw [e] at ih
  have := level_succ (n := 4 - k) (by omega) ih
  have e2 : 5 - (k + 1) = 4 - k := by omega
  rw [e2]
  exact this
set_option maxRecDepth 100000 in
set_option maxHeartbeats 4000000 in
theorem tree_fuel {K B : Nat} : ∀ (f o : Nat), 31 ≤ f + o → TC K B o 49 (treeM f o)
 | 0, o, hf => fun r w h => by have := h.most; omega
 | f + 1, o, hf => fun r w h => by
  have hL : LC K B o 0 (levelM (signM (atomM (treeM f)) 32) o 5) := level_all (S := signM (atomM (treeM f)) 32) (sign_fuel 32 o (by omega) (fun o' ho => tree_fuel f o' (by omega))) 5 (Nat.le_refl _)
  have hsz := h.size
  have hR0 : (w.alloc z9).heap[w.heap.size]? = some z9 := heap_alloc_new w _
  have b0 : Below w.heap.size w (w.alloc z9) := below_al (Below.refl _ _) _
  unfold z9 at hR0 b0
  have HN := fun w h => Hid.intro (hL r w h)
  show Calls _ _ _ _ (Post K B o (r.length - 1) w (levelM (signM (atomM (treeM f)) 32) o 5 r) _)
  generalize levelM (signM (atomM (treeM f)) 32) o 5 = m at HN ⊢
  cases hm : m r with
  | bad q =>
   rw [hm] at HN
   clear hm
   go_enter Tryz.func49, Tryz.ntmps49
   go_wp2_with fail
   refine (HN _ (h.via b0)).out.mono ?_
   rintro e v1 ⟨ht1, rfl⟩
   exact ⟨rfl, (Bt.below b0).trans ht1, rfl⟩
  | ok t r1 =>
   rw [hm] at HN
   clear hm
   go_enter Tryz.func49, Tryz.ntmps49
   go_wp2_with fail
   refine (HN _ (h.via b0)).out.mono ?_
   rintro e v1 ⟨ht1, hl1, hp1, v, rfl, p6, n6, c6, p7, n7, c7, rfl, z6, z7, z8⟩
   have hbt := (Bt.below (B := B) b0).trans ht1
   have hv1 : TeV _ v1 t _ := ⟨p6, n6, c6, p7, n7, c7, rfl, z6, z7, z8⟩
   have HR := Hid.intro (row_bt ht1 (by omega) hR0)
   go_wp2_with (with_reducible refine (id (?_ : wpList _ _ _ (Oper.mk _ (Op.store _ _ _) _ _ _ _ :: _) _ _)); refine wpList_store_row rfl _ _ _ rfl _ _ rfl rfl _ _ HR.out infoTree rfl rfl (by simp [Value.oneCell']) ?_)
   refine ret_cells rfl rfl (setRow_heap _ _ _ _ _ _ HR.out) Tryz.underlying103 infoTree rfl rfl (Post.ok ((hbt).row (Nat.le_refl _) _) hl1 ((hp1).row hsz.1 _) ?_)
   exact hv1.res (by simp) _
theorem tree_any (K B o : Nat) : TC K B o 49 (exprM o) := fun r w h => tree_fuel (31 - o) o (by omega) r w h
theorem fld_expr (x0 : Int) (x1 : ByteArray) (x2 : Int) (x3 : Bool) (x4 : Int) (x5 : ByteArray) (p6 : Option Addr) (n6 c6 : Nat) (p7 : Option Addr) (n7 c7 : Nat) (x8 : Int) (w : World) : (Instr.field 103 (.agg #[.int .i64 x0, .string x1, .int .i64 x2, .bool x3, .int .i64 x4, .string x5, .slice p6 n6 c6, .slice p7 n7 c7, .int .i64 x8]) 0).run Tryz.prog w = .ok (.agg #[.int .i64 x0, .string x1, .int .i64 x2, .bool x3, .int .i64 x4, .string x5, .slice p6 n6 c6, .slice p7 n7 c7]) w := by kernel_rfl
theorem ExV.move {P Q : Nat → Prop} {w w' : World} {t : Ex} {v : Value} (h : ExV P w t v) (hk : Kp P w w') (hpq : ∀ b, b < w.heap.size → P b → Q b) : ExV Q w' t v := by
 obtain ⟨p6, n6, c6, p7, n7, c7, rfl, h6, h7⟩ := h
 exact ⟨p6, n6, c6, p7, n7, c7, rfl, rep.move hk hpq _ _ h6, rep.move hk hpq _ _ h7⟩
def z8 : Obj := .cells #[.int .i64 0, .string ⟨#[]⟩, .int .i64 0, .bool false, .int .i64 0, .string ⟨#[]⟩, .slice none 0 0, .slice none 0 0] 39
set_option maxRecDepth 100000 in
set_option maxHeartbeats 4000000 in
theorem expr_any {K B o : Nat} {r : List Lx} {w : World} (h : PAt K w B r o) :
  Calls Tryz.prog 26 #[.pointer (some ⟨B, 0, none⟩)] w (Post K B o (r.length - 1) w (exprM o r) fun w' t v => ExV (fun b => w.heap.size ≤ b) w' t.e v) := by
 have hsz := h.size
 have hR0 : (w.alloc z8).heap[w.heap.size]? = some z8 := heap_alloc_new w _
 have b0 : Below w.heap.size w (w.alloc z8) := below_al (Below.refl _ _) _
 unfold z8 at hR0 b0
 have HN := fun w h => Hid.intro (tree_any K B o r w h)
 cases hm : exprM o r with
 | bad q =>
  rw [hm] at HN
  clear hm
  go_enter Tryz.func26, Tryz.ntmps26
  go_wp2_with fail
  refine (HN _ (h.via b0)).out.mono ?_
  rintro e v1 ⟨ht1, rfl⟩
  exact ⟨rfl, (Bt.below b0).trans ht1, rfl⟩
 | ok t r1 =>
  rw [hm] at HN
  clear hm
  go_enter Tryz.func26, Tryz.ntmps26
  go_wp2_with fail
  refine (HN _ (h.via b0)).out.mono ?_
  rintro e v1 ⟨ht1, hl1, hp1, v, rfl, p6, n6, c6, p7, n7, c7, rfl, z6, z7, z8⟩
  have hbt := (Bt.below (B := B) b0).trans ht1
  have HR := Hid.intro (row_bt ht1 (by omega) hR0)
  have hfe := fld_expr t.e.op t.e.t t.e.v.k t.e.v.b t.e.v.i t.e.v.s p6 n6 c6 p7 n7 c7 t.d
  go_wp2_with (with_reducible refine (id (?_ : wpList _ _ _ (Oper.mk _ (Op.store _ _ _) _ _ _ _ :: _) _ _)); refine wpList_store_row rfl _ _ _ rfl _ _ rfl rfl _ _ HR.out infoExpr rfl rfl (by simp [Value.oneCell']) ?_)
  refine ret_cells rfl rfl (setRow_heap _ _ _ _ _ _ HR.out) Tryz.underlying39 infoExpr rfl rfl (Post.ok ((hbt).row (Nat.le_refl _) _) hl1 ((hp1).row hsz.1 _) ?_)
  have hk : ∀ cs, Kp (fun b => w.heap.size < b) v1 (v1.setRow w.heap.size cs) := fun cs => ⟨by simp, fun b hb _ o => World.cell?_of_block (a := ⟨b, o, none⟩) (setRow_other _ _ _ _ (by simp only; omega))⟩
  exact ⟨p6, n6, c6, p7, n7, c7, rfl, rep.move (hk _) (fun b _ h => by omega) _ _ (rep.move Kp.refl (fun b _ h => by simp at h; omega) _ _ z6), rep.move (hk _) (fun b _ h => by omega) _ _ (rep.move Kp.refl (fun b _ h => by simp at h; omega) _ _ z7)⟩
end
end Go.Proofs.YtoeodjobggodcaaGreatDoor
/- bind, arg, assign, function. -/
namespace Go.Proofs.YtoeodjobggodcaaGreatDoor
section
open Go.RowKit
theorem run_store_part (w : World) (g o : Nat) (t ty : TypeId) (cur cells new : Array Value) (hg : w.heap[g]? = some (.cells cur t (0, 0))) {n : Nat} (hi : (Tryz.prog.info? ty).map (·.size) = some n) (hn : cells.size = n) (hfit : o + n ≤ cur.size)
  (h1 : cells.all (·.oneCell') = true) (hnew : (cur.toList.take o ++ cells.toList ++ cur.toList.drop (o + n)).toArray = new) : (storeVar ty ⟨g, o, none⟩ (.agg cells)).run Tryz.prog w = .ok () (w.setRow g new) := by
 have := run_storeCells_at Tryz.prog g o t cells.toList 0 cur w hg (by simp; omega) (fun v hv => (Array.all_eq_true_iff_forall_mem.1 h1) v (by simpa using hv))
 simp only [Nat.add_zero, Array.length_toList, hn, hnew] at this
 cases hq : Tryz.prog.info? ty with
 | none => simp [hq] at hi
 | some i =>
  have hs : cells.size = i.size := by simp [hq] at hi; omega
  simp [storeVar, sizeOf, typeInfo, hq, Value.cells, hs, this]
theorem wpList_store_part {ops : Array Oper} {rest : List Oper} {o : Oper} {a : Act} {w : World} {Q : Exit → Act → World → Prop} (hgd : o.guard = .none) (ty : TypeId) (x y : Operand) (ho : o.op = .store ty x y)
  (g off : Nat) (cells : Array Value) (hx : a.eval x = .pointer (some ⟨g, off, .none⟩)) (hy : a.eval y = .agg cells) (t : TypeId) (cur new : Array Value) (hg : w.heap[g]? = some (.cells cur t (0, 0))) {n : Nat} (hi : (Tryz.prog.info? ty).map (·.size) = some n)
  (hn : cells.size = n) (hfit : off + n ≤ cur.size) (h1 : cells.all (·.oneCell') = true) (hnew : (cur.toList.take off ++ cells.toList ++ cur.toList.drop (off + n)).toArray = new) (h : wpList Tryz.prog ops Q rest (a.put o.dst undef) (w.setRow g new)) : wpList Tryz.prog ops Q (o :: rest) a w := by
 refine wpList_plain hgd fun _ hK => ?_
 unfold Oper.wp execOp
 simp only [ho, hx, hy, Instr.storeAt, Instr.sureAddr, Sem.run_bind, Sem.run_pure, Result.andThen_ok, run_store_part w g off t ty cur cells new hg hi hn hfit h1 hnew]
 exact hK _ _ h
theorem infoBind : (Tryz.prog.info? 128).map (·.size) = some 2 := by kernel_rfl
theorem infoArg : (Tryz.prog.info? 130).map (·.size) = some 9 := by kernel_rfl
theorem infoAssign : (Tryz.prog.info? 101).map (·.size) = some 9 := by kernel_rfl
def SxV (P : Nat → Prop) (w : World) (s : ByteArray) (e : Ex) (v : Value) : Prop :=
 ∃ p6 n6 c6 p7 n7 c7, v = .agg #[.string s, .int .i64 e.op, .string e.t, .int .i64 e.v.k, .bool e.v.b, .int .i64 e.v.i, .string e.v.s, .slice p6 n6 c6, .slice p7 n7 c7] ∧
  rep P w (.sl e.v.l.length (Vt.css e.v.l)) (.slice p6 n6 c6) ∧ rep P w (.sl e.a.length (Ex.css e.a)) (.slice p7 n7 c7)
theorem kp_row {g : Nat} (w : World) (cs : Array Value) : Kp (fun b => g < b) w (w.setRow g cs) := ⟨by simp, fun b hb _ o => World.cell?_of_block (a := ⟨b, o, none⟩) (setRow_other _ _ _ _ (by simp only; omega))⟩
theorem reps_up {P : Nat → Prop} {m g : Nat} {w : World} {d : Dt} {v : Value} (h : rep P w d v) (hp : ∀ b, P b → m ≤ b) (hm : g < m) (cs : Array Value) : rep (fun b => g ≤ b) (w.setRow g cs) d v :=
 rep.move (kp_row w cs) (fun b _ h => by omega) _ _ (rep.move Kp.refl (fun b _ h => by have := hp b h; omega) _ _ h)
set_option maxRecDepth 100000 in
set_option maxHeartbeats 4000000 in
theorem bind_any {K B o : Nat} {r : List Lx} {w : World} (h : PAt K w B r o) :
  Calls Tryz.prog 159 #[.pointer (some ⟨B, 0, none⟩)] w (Post K B o (r.length - 1) w (bindM r) fun _ b v => v = .agg #[.string b.v, .string b.f]) := by
 have hsz := h.size
 have hR0 : (w.alloc (.cells #[.string ⟨#[]⟩, .string ⟨#[]⟩] 128)).heap[w.heap.size]? = some _ := heap_alloc_new w _
 have b0 : Below w.heap.size w (w.alloc (.cells #[.string ⟨#[]⟩, .string ⟨#[]⟩] 128)) := below_al (Below.refl _ _) _
 have HV := Hid.intro (pvar_any (h.via b0))
 unfold bindM
 cases h1 : varM r with
 | bad q =>
  rw [h1] at HV
  rw [bd_bad]
  clear h1
  go_enter Tryz.func159, Tryz.ntmps159
  go_wp2_with fail
  refine HV.out.mono ?_
  rintro e v1 ⟨ht1, rfl⟩
  exact ⟨rfl, (Bt.below b0).trans ht1, rfl⟩
 | ok s r1 =>
  rw [h1] at HV
  rw [bd_ok]
  clear h1
  have HT := fun w (h : PAt K w B r1 o) => Hid.intro (take_any h ⟨#[58]⟩)
  cases h2 : takeM ⟨#[58]⟩ r1 with
  | bad q =>
   rw [h2] at HT
   rw [bd_bad]
   clear h2
   go_enter Tryz.func159, Tryz.ntmps159
   go_wp2_with fail
   refine HV.out.mono ?_
   rintro e v1 ⟨ht1, hl1, hp1, v, rfl, rfl⟩
   go_wp2_with fail
   refine (HT _ (hp1.via (below_al (Below.refl _ _) _))).out.mono ?_
   rintro e v2 ⟨ht2, rfl⟩
   exact ⟨rfl, (((Bt.below b0).trans ht1).alloc _).trans ht2, rfl⟩
  | ok u r2 =>
   rw [h2] at HT
   rw [bd_ok]
   clear h2
   have HN := fun w (h : PAt K w B r2 o) => Hid.intro (pname_any h)
   cases h3 : nameM r2 with
   | bad q =>
    rw [h3] at HN
    rw [bd_bad]
    clear h3
    go_enter Tryz.func159, Tryz.ntmps159
    go_wp2_with fail
    refine HV.out.mono ?_
    rintro e v1 ⟨ht1, hl1, hp1, v, rfl, rfl⟩
    go_wp2_with fail
    refine (HT _ (hp1.via (below_al (Below.refl _ _) _))).out.mono ?_
    rintro e v2 ⟨ht2, hl2, hp2, v', rfl, rfl⟩
    go_wp2_with fail
    refine (HN _ hp2).out.mono ?_
    rintro e v3 ⟨ht3, rfl⟩
    exact ⟨rfl, ((((Bt.below b0).trans ht1).alloc _).trans ht2).trans ht3, rfl⟩
   | ok f r3 =>
    rw [h3] at HN
    rw [bd_ok]
    clear h3
    go_enter Tryz.func159, Tryz.ntmps159
    go_wp2_with fail
    refine HV.out.mono ?_
    rintro e v1 ⟨ht1, hl1, hp1, v, rfl, rfl⟩
    go_wp2_with fail
    refine (HT _ (hp1.via (below_al (Below.refl _ _) _))).out.mono ?_
    rintro e v2 ⟨ht2, hl2, hp2, v', rfl, rfl⟩
    go_wp2_with fail
    refine (HN _ hp2).out.mono ?_
    rintro e v3 ⟨ht3, hl3, hp3, v'', rfl, rfl⟩
    have hR1 := row_bt ht1 (by omega) hR0
    have hRlt : w.heap.size < v1.heap.size := (Array.getElem?_eq_some_iff.1 hR1).1
    have hX3 := row_bt (ht2.trans ht3) (by omega) (heap_alloc_new v1 (.cells #[.string s, .string ⟨#[]⟩] 128))
    have hR3 := row_bt (ht2.trans ht3) (by omega) ((heap_alloc_old _ _ hRlt).trans hR1)
    have x0 : v3.cell? ⟨v1.heap.size, 0, none⟩ = some (.string s) := (heap_cell hX3 0).1
    have x1 : v3.cell? ⟨v1.heap.size, 1, none⟩ = some (.string ⟨#[]⟩) := (heap_cell hX3 1).1
    have y1 : v3.frozen? ⟨v1.heap.size, 1, none⟩ = false := (heap_cell hX3 1).2
    have hXs : v1.heap.size < v3.heap.size := (Array.getElem?_eq_some_iff.1 hX3).1
    have HR := Hid.intro ((Below.heap_setCell v3 ⟨v1.heap.size, 1, none⟩ (.string f) w.heap.size (by simp only; omega)).trans hR3)
    go_wp2_with (with_reducible refine (id (?_ : wpList _ _ _ (Oper.mk _ (Op.store _ _ _) _ _ _ _ :: _) _ _)); refine wpList_store_row rfl _ _ _ rfl _ _ rfl rfl _ _ HR.out infoBind rfl rfl (by simp [Value.oneCell']) ?_)
    refine ret_cells rfl rfl (setRow_heap _ _ _ _ _ _ HR.out) Tryz.underlying128 infoBind rfl rfl (Post.ok ((((((((Bt.below b0).trans ht1).alloc _).trans ht2).trans ht3).own (by omega) _ _)).row (Nat.le_refl _) _) (by omega) ((hp3.set (by omega) _ _).row hsz.1 _) rfl)
end
end Go.Proofs.YtoeodjobggodcaaGreatDoor
/- arg, assign, function. -/
namespace Go.Proofs.YtoeodjobggodcaaGreatDoor
section
open Go.RowKit
set_option maxRecDepth 100000 in
set_option maxHeartbeats 4000000 in
theorem assign_any {K B o : Nat} {r : List Lx} {w : World} (h : PAt K w B r o) :
  Calls Tryz.prog 171 #[.pointer (some ⟨B, 0, none⟩)] w (Post K B o (r.length - 1) w (assignM o r) fun w' x v => SxV (fun b => w.heap.size ≤ b) w' x.f x.e v) := by
 have hsz := h.size
 have hR0 : (w.alloc (.cells #[.string ⟨#[]⟩, .int .i64 0, .string ⟨#[]⟩, .int .i64 0, .bool false, .int .i64 0, .string ⟨#[]⟩, .slice none 0 0, .slice none 0 0] 101)).heap[w.heap.size]? = some _ := heap_alloc_new w _
 have b0 : Below w.heap.size w (w.alloc (.cells #[.string ⟨#[]⟩, .int .i64 0, .string ⟨#[]⟩, .int .i64 0, .bool false, .int .i64 0, .string ⟨#[]⟩, .slice none 0 0, .slice none 0 0] 101)) := below_al (Below.refl _ _) _
 unfold assignM
 have H0 := fun w (h : PAt K w B r o) => Hid.intro (pname_any h)
 cases hm0 : nameM r with
 | bad q =>
  rw [hm0] at H0
  rw [bd_bad]
  clear hm0
  go_enter Tryz.func171, Tryz.ntmps171
  go_wp2_with fail
  refine (H0 _ (h.via b0)).out.mono ?_
  rintro e v1 ⟨ht1, rfl⟩
  exact ⟨rfl, (Bt.below (B := B) b0).trans ht1, rfl⟩
 | ok s r1 =>
  rw [hm0] at H0
  rw [bd_ok]
  clear hm0
  have H1 := fun w (h : PAt K w B r1 o) => Hid.intro (take_any h ⟨#[61]⟩)
  cases hm1 : takeM ⟨#[61]⟩ r1 with
  | bad q =>
   rw [hm1] at H1
   rw [bd_bad]
   clear hm1
   go_enter Tryz.func171, Tryz.ntmps171
   go_wp2_with fail
   refine (H0 _ (h.via b0)).out.mono ?_
   rintro e v1 ⟨ht1, hl1, hp1, x, rfl, rfl⟩
   go_wp2_with fail
   refine (H1 _ ((hp1).via (below_al (Below.refl _ _) _))).out.mono ?_
   rintro e v2 ⟨ht2, rfl⟩
   exact ⟨rfl, (((Bt.below (B := B) b0).trans ht1).alloc (.cells #[.string s, .int .i64 0, .string ⟨#[]⟩, .int .i64 0, .bool false, .int .i64 0, .string ⟨#[]⟩, .slice none 0 0, .slice none 0 0] 101)).trans ht2, rfl⟩
  | ok u r2 =>
   rw [hm1] at H1
   rw [bd_ok]
   clear hm1
   have H2 := fun w (h : PAt K w B r2 o) => Hid.intro (expr_any h)
   cases hm2 : exprM o r2 with
   | bad q =>
    rw [hm2] at H2
    rw [bd_bad]
    clear hm2
    go_enter Tryz.func171, Tryz.ntmps171
    go_wp2_with fail
    refine (H0 _ (h.via b0)).out.mono ?_
    rintro e v1 ⟨ht1, hl1, hp1, x, rfl, rfl⟩
    go_wp2_with fail
    refine (H1 _ ((hp1).via (below_al (Below.refl _ _) _))).out.mono ?_
    rintro e v2 ⟨ht2, hl2, hp2, x, rfl, rfl⟩
    go_wp2_with fail
    refine (H2 _ (hp2)).out.mono ?_
    rintro e v3 ⟨ht3, rfl⟩
    exact ⟨rfl, ((((Bt.below (B := B) b0).trans ht1).alloc (.cells #[.string s, .int .i64 0, .string ⟨#[]⟩, .int .i64 0, .bool false, .int .i64 0, .string ⟨#[]⟩, .slice none 0 0, .slice none 0 0] 101)).trans ht2).trans ht3, rfl⟩
   | ok t r3 =>
    rw [hm2] at H2
    rw [bd_ok]
    clear hm2
    go_enter Tryz.func171, Tryz.ntmps171
    go_wp2_with fail
    refine (H0 _ (h.via b0)).out.mono ?_
    rintro e v1 ⟨ht1, hl1, hp1, x, rfl, rfl⟩
    go_wp2_with fail
    refine (H1 _ ((hp1).via (below_al (Below.refl _ _) _))).out.mono ?_
    rintro e v2 ⟨ht2, hl2, hp2, x, rfl, rfl⟩
    go_wp2_with fail
    refine (H2 _ (hp2)).out.mono ?_
    rintro e v3 ⟨ht3, hl3, hp3, x, rfl, p6, n6, c6, p7, n7, c7, rfl, h6, h7⟩
    skip
    have hR1 := row_bt ht1 (by omega) hR0
    have hRlt : w.heap.size < v1.heap.size := (Array.getElem?_eq_some_iff.1 hR1).1
    have hX3 := Hid.intro (row_bt (ht2.trans ht3) (by omega) (heap_alloc_new v1 (.cells #[.string s, .int .i64 0, .string ⟨#[]⟩, .int .i64 0, .bool false, .int .i64 0, .string ⟨#[]⟩, .slice none 0 0, .slice none 0 0] 101)))
    have hR3 := row_bt (ht2.trans ht3) (by omega) ((heap_alloc_old _ _ hRlt).trans hR1)
    have hs2 : v1.heap.size < v2.heap.size := by have := ht2.size; simp at this; omega
    have HX4 := Hid.intro (setRow_heap v3 v1.heap.size _ #[.string s, .int .i64 t.e.op, .string t.e.t, .int .i64 t.e.v.k, .bool t.e.v.b, .int .i64 t.e.v.i, .string t.e.v.s, .slice p6 n6 c6, .slice p7 n7 c7] _ _ hX3.out)
    have HR := Hid.intro ((setRow_other v3 v1.heap.size w.heap.size #[.string s, .int .i64 t.e.op, .string t.e.t, .int .i64 t.e.v.k, .bool t.e.v.b, .int .i64 t.e.v.i, .string t.e.v.s, .slice p6 n6 c6, .slice p7 n7 c7] (by omega)).trans hR3)
    go_wp2_with (first | (with_reducible refine (id (?_ : wpList _ _ _ (Oper.mk _ (Op.store _ _ _) _ _ _ _ :: _) _ _)); refine wpList_store_part rfl _ _ _ rfl v1.heap.size 1 _ rfl rfl _ _ #[.string s, .int .i64 t.e.op, .string t.e.t, .int .i64 t.e.v.k, .bool t.e.v.b, .int .i64 t.e.v.i, .string t.e.v.s, .slice p6 n6 c6, .slice p7 n7 c7] hX3.out infoExpr rfl (by simp) (by simp [Value.oneCell']) (by simp) ?_) | (with_reducible refine (id (?_ : wpList _ _ _ (Oper.mk _ (Op.load _ _) _ _ _ _ :: _) _ _)); refine wpList_load_cells rfl _ _ rfl _ rfl _ _ _ HX4.out Tryz.underlying101 infoAssign rfl ?_) | (with_reducible refine (id (?_ : wpList _ _ _ (Oper.mk _ (Op.store _ _ _) _ _ _ _ :: _) _ _)); refine wpList_store_row rfl _ _ _ rfl _ _ rfl rfl _ _ HR.out infoAssign rfl rfl (by simp [Value.oneCell']) ?_))
    refine ret_cells rfl rfl (setRow_heap _ _ _ _ _ _ HR.out) Tryz.underlying101 infoAssign rfl rfl (Post.ok (((((((Bt.below (B := B) b0).trans ht1).alloc (.cells #[.string s, .int .i64 0, .string ⟨#[]⟩, .int .i64 0, .bool false, .int .i64 0, .string ⟨#[]⟩, .slice none 0 0, .slice none 0 0] 101)).trans ht2).trans ht3).row (by omega) _).row (Nat.le_refl _) _) (by omega) (((hp3).row (by omega) _).row hsz.1 _) ?_)
    have hk := (kp_row (g := v1.heap.size) v3 #[.string s, .int .i64 t.e.op, .string t.e.t, .int .i64 t.e.v.k, .bool t.e.v.b, .int .i64 t.e.v.i, .string t.e.v.s, .slice p6 n6 c6, .slice p7 n7 c7])
    exact ⟨p6, n6, c6, p7, n7, c7, rfl, reps_up (rep.move (P := fun b => v2.heap.size ≤ b) (hk.mono (fun b _ h => by have := hs2; omega)) (fun b _ h => h) _ _ h6) (fun b h => h) (by omega) _, reps_up (rep.move (P := fun b => v2.heap.size ≤ b) (hk.mono (fun b _ h => by have := hs2; omega)) (fun b _ h => h) _ _ h7) (fun b h => h) (by omega) _⟩
set_option maxRecDepth 100000 in
set_option maxHeartbeats 4000000 in
theorem arg_any {K B o : Nat} {r : List Lx} {w : World} (h : PAt K w B r o) :
  Calls Tryz.prog 156 #[.pointer (some ⟨B, 0, none⟩)] w (Post K B o (r.length - 1) w (argM o r) fun w' x v => SxV (fun b => w.heap.size ≤ b) w' x.v x.e v) := by
 have hsz := h.size
 have hR0 : (w.alloc (.cells #[.string ⟨#[]⟩, .int .i64 0, .string ⟨#[]⟩, .int .i64 0, .bool false, .int .i64 0, .string ⟨#[]⟩, .slice none 0 0, .slice none 0 0] 130)).heap[w.heap.size]? = some _ := heap_alloc_new w _
 have b0 : Below w.heap.size w (w.alloc (.cells #[.string ⟨#[]⟩, .int .i64 0, .string ⟨#[]⟩, .int .i64 0, .bool false, .int .i64 0, .string ⟨#[]⟩, .slice none 0 0, .slice none 0 0] 130)) := below_al (Below.refl _ _) _
 have HI := Hid.intro (isVarWith_any (h.via b0) ⟨#[63]⟩)
 have hne : 0 < r.length := by obtain ⟨x, r', rfl, -⟩ := gd_cons h.gd; simp
 unfold argM
 cases hv : isVW ⟨#[63]⟩ r with
 | true =>
  rw [hv] at HI
  rw [if_pos rfl]
  clear hv
  have H0 := fun w (h : PAt K w B r o) => Hid.intro (pvar_any h)
  cases hm0 : varM r with
  | bad q =>
   rw [hm0] at H0
   rw [bd_bad]
   clear hm0
   go_enter Tryz.func156, Tryz.ntmps156
   go_wp2_with fail
   refine HI.out.mono ?_
   rintro e v0 ⟨rfl, hb0⟩
   have hq0 := hb0.via b0
   go_wp2_with fail
   refine (H0 _ (h.via hq0)).out.mono ?_
   rintro e v1 ⟨ht1, rfl⟩
   exact ⟨rfl, (Bt.below (B := B) hq0).trans ht1, rfl⟩
  | ok s r1 =>
   rw [hm0] at H0
   rw [bd_ok]
   clear hm0
   have H1 := fun w (h : PAt K w B r1 o) => Hid.intro (take_any h ⟨#[63]⟩)
   cases hm1 : takeM ⟨#[63]⟩ r1 with
   | bad q =>
    rw [hm1] at H1
    rw [bd_bad]
    clear hm1
    go_enter Tryz.func156, Tryz.ntmps156
    go_wp2_with fail
    refine HI.out.mono ?_
    rintro e v0 ⟨rfl, hb0⟩
    have hq0 := hb0.via b0
    go_wp2_with fail
    refine (H0 _ (h.via hq0)).out.mono ?_
    rintro e v1 ⟨ht1, hl1, hp1, x, rfl, rfl⟩
    go_wp2_with fail
    refine (H1 _ ((hp1).via (below_al (Below.refl _ _) _))).out.mono ?_
    rintro e v2 ⟨ht2, rfl⟩
    exact ⟨rfl, (((Bt.below (B := B) hq0).trans ht1).alloc (.cells #[.string s, .int .i64 0, .string ⟨#[]⟩, .int .i64 0, .bool false, .int .i64 0, .string ⟨#[]⟩, .slice none 0 0, .slice none 0 0] 130)).trans ht2, rfl⟩
   | ok u r2 =>
    rw [hm1] at H1
    rw [bd_ok]
    clear hm1
    go_enter Tryz.func156, Tryz.ntmps156
    go_wp2_with fail
    refine HI.out.mono ?_
    rintro e v0 ⟨rfl, hb0⟩
    have hq0 := hb0.via b0
    go_wp2_with fail
    refine (H0 _ (h.via hq0)).out.mono ?_
    rintro e v1 ⟨ht1, hl1, hp1, x, rfl, rfl⟩
    go_wp2_with fail
    refine (H1 _ ((hp1).via (below_al (Below.refl _ _) _))).out.mono ?_
    rintro e v2 ⟨ht2, hl2, hp2, x, rfl, rfl⟩
    skip
    have hR1 := row_bt ((Bt.below (B := B) hb0).trans ht1) (by omega) hR0
    have hRlt : w.heap.size < v1.heap.size := (Array.getElem?_eq_some_iff.1 hR1).1
    have hX2 := Hid.intro (row_bt ht2 (by omega) (heap_alloc_new v1 (.cells #[.string s, .int .i64 0, .string ⟨#[]⟩, .int .i64 0, .bool false, .int .i64 0, .string ⟨#[]⟩, .slice none 0 0, .slice none 0 0] 130)))
    have HR := Hid.intro (row_bt ht2 (by omega) ((heap_alloc_old _ _ hRlt).trans hR1))
    go_wp2_with (first | (with_reducible refine (id (?_ : wpList _ _ _ (Oper.mk _ (Op.load _ _) _ _ _ _ :: _) _ _)); refine wpList_load_cells rfl _ _ rfl _ rfl _ _ _ hX2.out Tryz.underlying130 infoArg rfl ?_) | (with_reducible refine (id (?_ : wpList _ _ _ (Oper.mk _ (Op.store _ _ _) _ _ _ _ :: _) _ _)); refine wpList_store_row rfl _ _ _ rfl _ _ rfl rfl _ _ HR.out infoArg rfl rfl (by simp [Value.oneCell']) ?_))
    refine ret_cells rfl rfl (setRow_heap _ _ _ _ _ _ HR.out) Tryz.underlying130 infoArg rfl rfl (Post.ok (((((Bt.below (B := B) hq0).trans ht1).alloc (.cells #[.string s, .int .i64 0, .string ⟨#[]⟩, .int .i64 0, .bool false, .int .i64 0, .string ⟨#[]⟩, .slice none 0 0, .slice none 0 0] 130)).trans ht2).row (Nat.le_refl _) _) (by omega) ((hp2).row hsz.1 _) ?_)
    exact ⟨none, 0, 0, none, 0, 0, rfl, rep.none, rep.none⟩
 | false =>
  rw [hv] at HI
  rw [if_neg (by simp)]
  clear hv
  have H0 := fun w (h : PAt K w B r o) => Hid.intro (expr_any h)
  cases hm0 : exprM o r with
  | bad q =>
   rw [hm0] at H0
   rw [bd_bad]
   clear hm0
   go_enter Tryz.func156, Tryz.ntmps156
   go_wp2_with fail
   refine HI.out.mono ?_
   rintro e v0 ⟨rfl, hb0⟩
   have hq0 := hb0.via b0
   go_wp2_with fail
   refine (H0 _ (h.via hq0)).out.mono ?_
   rintro e v1 ⟨ht1, rfl⟩
   exact ⟨rfl, (Bt.below (B := B) hq0).trans ht1, rfl⟩
  | ok t r1 =>
   rw [hm0] at H0
   rw [bd_ok]
   clear hm0
   go_enter Tryz.func156, Tryz.ntmps156
   go_wp2_with fail
   refine HI.out.mono ?_
   rintro e v0 ⟨rfl, hb0⟩
   have hq0 := hb0.via b0
   go_wp2_with fail
   refine (H0 _ (h.via hq0)).out.mono ?_
   rintro e v1 ⟨ht1, hl1, hp1, x, rfl, p6, n6, c6, p7, n7, c7, rfl, h6, h7⟩
   skip
   have HR := Hid.intro (row_bt ((Bt.below (B := B) hb0).trans ht1) (by omega) hR0)
   have hs0 : w.heap.size < v0.heap.size := by have := hb0.size; simp at this; omega
   go_wp2_with (with_reducible refine (id (?_ : wpList _ _ _ (Oper.mk _ (Op.store _ _ _) _ _ _ _ :: _) _ _)); refine wpList_store_row rfl _ _ _ rfl _ _ rfl rfl _ _ HR.out infoArg rfl rfl (by simp [Value.oneCell']) ?_)
   refine ret_cells rfl rfl (setRow_heap _ _ _ _ _ _ HR.out) Tryz.underlying130 infoArg rfl rfl (Post.ok (((Bt.below (B := B) hq0).trans ht1).row (Nat.le_refl _) _) (by omega) ((hp1).row hsz.1 _) ?_)
   exact ⟨p6, n6, c6, p7, n7, c7, rfl, reps_up h6 (fun b h => h) (by omega) _, reps_up h7 (fun b h => h) (by omega) _⟩
set_option maxRecDepth 100000 in
set_option maxHeartbeats 4000000 in
theorem function_any {K B o : Nat} {r : List Lx} {w : World} (h : PAt K w B r o) :
  Calls Tryz.prog 154 #[.pointer (some ⟨B, 0, none⟩)] w (Post K B o (r.length - 1) w (fnM r) fun _ s v => v = .string s) := by
 have HI := Hid.intro (is_any h ⟨#[108, 105, 115, 116]⟩)
 unfold fnM
 cases hv : isM ⟨#[108, 105, 115, 116]⟩ r with
 | true =>
  obtain ⟨x, r', rfl, -⟩ := gd_cons h.gd
  have HN := fun w (h : PAt K w B (x :: r') o) => Hid.intro (next_any h (isM_k hv))
  have hft := fld_t x.k x.a x.e x.t
  rw [hv] at HI
  rw [if_pos rfl]
  clear hv
  go_enter Tryz.func154, Tryz.ntmps154
  go_wp2_with fail
  refine HI.out.mono ?_
  rintro e v1 ⟨rfl, hb1⟩
  go_wp2_with fail
  refine (HN _ (h.via hb1)).out.mono ?_
  rintro e v2 ⟨rfl, hb2, hp2⟩
  go_wp2_with fail
  go_ret
  exact Post.ok ((Bt.below hb1).trans hb2) (by simp) hp2 rfl
 | false =>
  rw [hv] at HI
  rw [if_neg (by simp)]
  clear hv
  have HN := fun w (h : PAt K w B r o) => Hid.intro (pname_any h)
  cases hm : nameM r with
  | bad q =>
   rw [hm] at HN
   clear hm
   go_enter Tryz.func154, Tryz.ntmps154
   go_wp2_with fail
   refine HI.out.mono ?_
   rintro e v1 ⟨rfl, hb1⟩
   go_wp2_with fail
   refine (HN _ (h.via hb1)).out.mono ?_
   rintro e v2 ⟨hb2, rfl⟩
   exact ⟨rfl, (Bt.below hb1).trans hb2, rfl⟩
  | ok s r1 =>
   rw [hm] at HN
   clear hm
   go_enter Tryz.func154, Tryz.ntmps154
   go_wp2_with fail
   refine HI.out.mono ?_
   rintro e v1 ⟨rfl, hb1⟩
   go_wp2_with fail
   refine (HN _ (h.via hb1)).out.mono ?_
   rintro e v2 ⟨hb2, hl2, hp2, v, rfl, rfl⟩
   go_wp2_with fail
   go_ret
   exact Post.ok ((Bt.below hb1).trans hb2) hl2 hp2 rfl
end
end Go.Proofs.YtoeodjobggodcaaGreatDoor
/- conds. -/
namespace Go.Proofs.YtoeodjobggodcaaGreatDoor
section
open Go.RowKit
set_option maxRecDepth 100000 in
set_option maxHeartbeats 2000000 in
theorem findex_any {K B o : Nat} {r : List Lx} {w : World} (h : PAt K w B r o) (ends : List ByteArray) (g cap : Nat) (hc : ∀ k (hk : k < ends.length), w.cell? ⟨g, k, none⟩ = some (.string ends[k])) (hg : g < w.heap.size) (hl : ends.length ≤ 100) :
  Calls Tryz.prog 179 #[.slice (some ⟨g, 0, none⟩) ends.length cap, .func (.func 57) #[.pointer (some ⟨B, 0, none⟩)] #[]] w fun e w' => Below w.heap.size w w' ∧ ∃ i : Int, e = .returned (.int .i64 i) ∧ Hid (decide (i ≥ 0) = ends.any (fun s => isM s r)) := by
 have HC := Hid.intro hc
 have HP := Hid.intro h
 clear hc h
 go_enter Tryz.func179, Tryz.ntmps179
 go_wp2_with fail
 go_loopw [8] (fun i w' => ∃ k : Nat, k ≤ ends.length ∧ i = .int .i64 (k : Int) ∧ Hid (Below w.heap.size w w') ∧ Hid (∀ j (hj : j < k) (hj' : j < ends.length), isM ends[j] r = false)) (fun i _ => ends.length - (intOf i).toNat)
 case atStart => exact ⟨0, Nat.zero_le _, rfl, Below.refl _ _, fun j hj => by omega⟩
 case round =>
  obtain ⟨k, hk, rfl, HB, HF⟩ := hrel
  by_cases hlt : k < ends.length
  ·have hcell := (HB.out.cell (p := ⟨g, k, none⟩) hg).trans (HC.out k hlt)
   have hgr : g < wr.heap.size := Nat.lt_of_lt_of_le hg HB.out.size
   have HI := Hid.intro (is_any (HP.out.via HB.out) ends[k])
   cases hm : isM ends[k] r with
   | true =>
    rw [hm] at HI
    have hany : ends.any (fun s => isM s r) = true := List.any_eq_true.2 ⟨ends[k], List.getElem_mem hlt, hm⟩
    have HA := Hid.intro hany
    clear hm hany
    go_wp2_with (go_at_call 57; refine HI.out.mono ?_; rintro e w1 ⟨rfl, hb1⟩)
    go_ret
    exact ⟨HB.out.trans (hb1.mono HB.out.size), _, rfl, by rw [HA.out]; exact decide_eq_true (by simp)⟩
   | false =>
    rw [hm] at HI
    have HM := Hid.intro hm
    clear hm
    go_wp2_with (go_at_call 57; refine HI.out.mono ?_; rintro e w1 ⟨rfl, hb1⟩)
    go_roundw
    case rel => exact ⟨k + 1, by omega, by go_num, HB.out.trans (hb1.mono HB.out.size), fun j hj hj' => by
     by_cases e : j = k
     ·subst e; exact HM.out
     ·exact HF.out j (by omega) hj'⟩
    case measure => simp [intOf]; omega
  ·obtain rfl : k = ends.length := by omega
   go_wp2_with fail
   go_ret
   refine ⟨HB.out, _, rfl, ?_⟩
   have : ends.any (fun s => isM s r) = false := by
    rw [List.any_eq_false]
    intro s hs
    obtain ⟨j, hj, rfl⟩ := List.mem_iff_getElem.1 hs
    simp [HF.out j hj hj]
   rw [this]
   rfl
set_option maxRecDepth 100000 in
set_option maxHeartbeats 2000000 in
theorem contains_any {K B o : Nat} {r : List Lx} {w : World} (h : PAt K w B r o) (ends : List ByteArray) (g cap : Nat) (hc : ∀ k (hk : k < ends.length), w.cell? ⟨g, k, none⟩ = some (.string ends[k])) (hg : g < w.heap.size) (hl : ends.length ≤ 100) :
  Calls Tryz.prog 169 #[.slice (some ⟨g, 0, none⟩) ends.length cap, .func (.func 57) #[.pointer (some ⟨B, 0, none⟩)] #[]] w fun e w' => Below w.heap.size w w' ∧ e = .returned (.bool (ends.any (fun s => isM s r))) := by
 have HI := Hid.intro (findex_any h ends g cap hc hg hl)
 clear hc
 go_enter Tryz.func169, Tryz.ntmps169
 go_wp2_with (go_at_call 179; refine HI.out.mono ?_; rintro e w1 ⟨hb1, i, rfl, HD⟩)
 go_ret
 refine ⟨hb1, ?_⟩
 rw [← HD.out]
 rfl
def CdV (P : Nat → Prop) (w : World) (c : Cd) (v : Value) : Prop :=
 ∃ x3 x4 x5 x6 x7 x14 x15 x18, v = .agg #[.int .i64 c.k, .string c.v, .string c.c, x3, x4, x5, x6, x7, .int .i64 c.e.op, .string c.e.t, .int .i64 c.e.v.k, .bool c.e.v.b, .int .i64 c.e.v.i, .string c.e.v.s, x14, x15, .string c.fn, .string c.name, x18] ∧
  (rep P w (.sl c.binds.length (c.binds.flatMap Bi.cs)) x3 ∧ rep P w (.sl c.tests.length (Ex.css c.tests)) x4 ∧ rep P w (.sl c.conds.length (Cd.css c.conds)) x5 ∧ rep P w (.sl c.thn.length (Cd.css c.thn)) x6 ∧ rep P w (.sl c.alts.length (Cd.csss c.alts)) x7) ∧
  rep P w (.sl c.e.v.l.length (Vt.css c.e.v.l)) x14 ∧ rep P w (.sl c.e.a.length (Ex.css c.e.a)) x15 ∧ rep P w (.sl c.args.length (c.args.flatMap Ar.cs)) x18
theorem CdV.move {P Q : Nat → Prop} {w w' : World} {c : Cd} {v : Value} (h : CdV P w c v) (hk : Kp P w w') (hpq : ∀ b, b < w.heap.size → P b → Q b) : CdV Q w' c v := by
 obtain ⟨x3, x4, x5, x6, x7, x14, x15, x18, rfl, ⟨h3, h4, h5, h6, h7⟩, h14, h15, h18⟩ := h
 exact ⟨x3, x4, x5, x6, x7, x14, x15, x18, rfl, ⟨rep.move hk hpq _ _ h3, rep.move hk hpq _ _ h4, rep.move hk hpq _ _ h5, rep.move hk hpq _ _ h6, rep.move hk hpq _ _ h7⟩, rep.move hk hpq _ _ h14, rep.move hk hpq _ _ h15, rep.move hk hpq _ _ h18⟩
theorem Cd.cs_eq (c : Cd) : c.cs = [dI c.k, dS c.v, dS c.c, .sl c.binds.length (c.binds.flatMap Bi.cs), .sl c.tests.length (Ex.css c.tests), .sl c.conds.length (Cd.css c.conds), .sl c.thn.length (Cd.css c.thn), .sl c.alts.length (Cd.csss c.alts), dI c.e.op, dS c.e.t, dI c.e.v.k, dB c.e.v.b, dI c.e.v.i, dS c.e.v.s, .sl c.e.v.l.length (Vt.css c.e.v.l), .sl c.e.a.length (Ex.css c.e.a), dS c.fn, dS c.name, .sl c.args.length (c.args.flatMap Ar.cs)] := by
 obtain ⟨k, v, c, binds, tests, conds, thn, alts, e, fn, name, args⟩ := c
 simp [Cd.cs, Ex.cs_eq]
theorem CdV.reps {P : Nat → Prop} {w : World} {c : Cd} {cells : Array Value} (h : CdV P w c (.agg cells)) : Go.Proofs.YtoeodjobggodcaaGreatDoor.reps P w c.cs cells.toList ∧ cells.size = 19 ∧ cells.all (·.oneCell') = true := by
 obtain ⟨x3, x4, x5, x6, x7, x14, x15, x18, he, ⟨h3, h4, h5, h6, h7⟩, h14, h15, h18⟩ := h
 obtain rfl := Value.agg.inj he
 have hr : Go.Proofs.YtoeodjobggodcaaGreatDoor.reps P w c.cs [.int .i64 c.k, .string c.v, .string c.c, x3, x4, x5, x6, x7, .int .i64 c.e.op, .string c.e.t, .int .i64 c.e.v.k, .bool c.e.v.b, .int .i64 c.e.v.i, .string c.e.v.s, x14, x15, .string c.fn, .string c.name, x18] := by
  rw [Cd.cs_eq]
  exact reps.cons (rep.lit rfl) (reps.cons (rep.lit rfl) (reps.cons (rep.lit rfl) (reps.cons h3 (reps.cons h4 (reps.cons h5 (reps.cons h6 (reps.cons h7 (reps.cons (rep.lit rfl) (reps.cons (rep.lit rfl) (reps.cons (rep.lit rfl) (reps.cons (rep.lit rfl) (reps.cons (rep.lit rfl) (reps.cons (rep.lit rfl) (reps.cons h14 (reps.cons h15 (reps.cons (rep.lit rfl) (reps.cons (rep.lit rfl) (reps.cons h18 reps.nil))))))))))))))))))
 refine ⟨hr, rfl, ?_⟩
 rw [Array.all_eq_true_iff_forall_mem]
 intro u hu
 exact hr.ones u (by simpa using hu)
def RowS (n : Nat) (el : TypeId) (sz m : Nat) (ds : List Dt) (w : World) (sv : Value) : Prop :=
 n ≤ w.heap.size ∧ ∃ vs, w.ownsRow n el sz sv m vs ∧ reps (fun b => n ≤ b ∧ some b ≠ sv.ownBlock) w ds vs
theorem RowS.bt {n B : Nat} {el : TypeId} {sz m : Nat} {ds : List Dt} {w w' : World} {sv : Value} (h : RowS n el sz m ds w sv) (hb : Bt B w w') (hB : B < n) : RowS n el sz m ds w' sv := by
 obtain ⟨h3, vs, h5, h6⟩ := h
 have h5' : w'.ownsRow n el sz sv m vs := by
  refine ⟨h5.1, ?_⟩
  rcases h5.2 with hn | ⟨g, cap, cur, rfl, hb1, hgg, rest⟩
  ·exact .inl hn
  ·exact .inr ⟨g, cap, cur, rfl, hb1, row_bt hb (by omega) hgg, rest⟩
 exact ⟨Nat.le_trans h3 hb.size, vs, h5', reps.move (hb.kp (by omega)) (fun _ _ h => h) _ _ h6⟩
theorem RowS.push {n : Nat} {el : TypeId} {sz m : Nat} {ds es : List Dt} {W w1 : World} {sv sv' : Value} {vs us : List Value} (h3 : n ≤ W.heap.size) (_h5 : W.ownsRow n el sz sv m vs) (h6 : reps (fun b => n ≤ b ∧ some b ≠ sv.ownBlock) W ds vs) (h8 : reps (fun b => n ≤ b ∧ some b ≠ sv.ownBlock) W es us)
  (ho : w1.ownsRow n el sz sv' (m + 1) (vs ++ us)) (hg : W.grownBy w1 sv.ownBlock) (hat : sv'.ownBlock = sv.ownBlock ∨ sv'.ownBlock = some W.heap.size) : RowS n el sz (m + 1) (ds ++ es) w1 sv' := by
 have hk : Kp (fun b => n ≤ b ∧ some b ≠ sv.ownBlock) W w1 := Kp.grown hg (fun k hk h => h.2 hk.symm)
 have hq : ∀ b, b < W.heap.size → (n ≤ b ∧ some b ≠ sv.ownBlock) → (n ≤ b ∧ some b ≠ sv'.ownBlock) := fun b hb h => by
  refine ⟨h.1, fun he => ?_⟩
  rcases hat with e | e
  ·exact h.2 (he.trans e)
  ·rw [e] at he
   cases he
   omega
 exact ⟨Nat.le_trans h3 hg.size, vs ++ us, ho, reps.append (reps.move hk hq _ _ h6) (reps.move hk hq _ _ h8)⟩
theorem RowS.rep {n : Nat} {el : TypeId} {sz m : Nat} {ds : List Dt} {w : World} {sv : Value} (h : RowS n el sz m ds w sv) : rep (fun b => n ≤ b) w (.sl m ds) sv := by
 obtain ⟨-, vs, h5, h6⟩ := h
 exact rep.own h5 (reps.move Kp.refl (fun _ _ h => h.1) _ _ h6) (fun g hg => (h5.lt g hg).1)
def CC (K B o : Nat) (m : List Lx → Rs Cd) : Prop :=
 ∀ r w, PAt K w B r o → Calls Tryz.prog 66 #[.pointer (some ⟨B, 0, none⟩)] w (Post K B o (r.length - 1) w (m r) fun w' c v => CdV (fun b => w.heap.size ≤ b) w' c v)
theorem infoCond : (Tryz.prog.info? 96).map (·.size) = some 19 := by kernel_rfl
theorem infoCond' : (Tryz.prog.info? 96).map (fun i => (i.zero, i.size, i.bytes)) = some (some (.agg #[.int .i64 0, .string ⟨#[]⟩, .string ⟨#[]⟩, .slice none 0 0, .slice none 0 0, .slice none 0 0, .slice none 0 0, .slice none 0 0, .int .i64 0, .string ⟨#[]⟩, .int .i64 0, .bool false, .int .i64 0, .string ⟨#[]⟩, .slice none 0 0, .slice none 0 0, .string ⟨#[]⟩, .string ⟨#[]⟩, .slice none 0 0]), 19, 328) := by kernel_rfl
theorem Cd.css_snoc (l : List Cd) (c : Cd) : Cd.css (l ++ [c]) = Cd.css l ++ c.cs := by simp [Cd.css_eq]
end
end Go.Proofs.YtoeodjobggodcaaGreatDoor
/- conds, as a whole. -/
namespace Go.Proofs.YtoeodjobggodcaaGreatDoor
section
open Go.RowKit
set_option maxRecDepth 100000 in
set_option maxHeartbeats 4000000 in
theorem conds_any {K B o : Nat} {m : List Lx → Rs Cd} (hC : CC K B o m) (ends : List ByteArray) (hel : ends.length ≤ 100) {r : List Lx} {w : World} (h : PAt K w B r o) (g cap : Nat) (hc : ∀ k (hk : k < ends.length), w.cell? ⟨g, k, none⟩ = some (.string ends[k])) (hg : g < w.heap.size) (hgB : g ≠ B) :
  Calls Tryz.prog 149 #[.pointer (some ⟨B, 0, none⟩), .slice (some ⟨g, 0, none⟩) ends.length cap] w (Post K B o (r.length - 1) w (condsM m ends r) fun w' l v => ∃ p c, v = .slice p l.length c ∧ rep (fun b => w.heap.size ≤ b) w' (.sl l.length (Cd.css l)) (.slice p l.length c)) := by
 have hmf : ∀ (fn : Fn) (first cap : Array Value) (w : World), (Instr.makeFunc fn first cap).run Tryz.prog w = .ok (.func fn first cap) w := fun _ _ _ _ => rfl
 have hsz := h.size
 have hlen := h.len
 have H0 := Hid.intro (hC r w h)
 have HC := fun r w h => Hid.intro (hC r w h)
 have HCon := fun r w h hc hg => Hid.intro (contains_any (K := K) (B := B) (o := o) (r := r) (w := w) h ends g cap hc hg hel)
 have HE0 := Hid.intro hc
 clear hc
 obtain ⟨i0, hi, hz0, hz1, hz2⟩ := info_parts infoCond'
 unfold condsM
 cases h1 : m r with
 | bad q =>
  rw [h1] at H0
  rw [bd_bad]
  clear h1
  go_enter Tryz.func149, Tryz.ntmps149
  go_wp2_with fail
  refine H0.out.mono ?_
  rintro e w1 ⟨hb, rfl⟩
  exact ⟨rfl, hb, rfl⟩
 | ok c r1 =>
  rw [h1] at H0
  rw [bd_ok]
  clear h1
  go_enter Tryz.func149, Tryz.ntmps149
  go_wp2_with fail
  refine H0.out.mono ?_
  rintro e w1 ⟨hb, hl, hp, v, rfl, hv⟩
  have hv' := hv
  obtain ⟨x3, x4, x5, x6, x7, x14, x15, x18, rfl, -⟩ := hv
  have hrow : Hid (RowS w.heap.size 96 19 1 (Cd.css [c]) (w1.alloc (.cells #[.int .i64 c.k, .string c.v, .string c.c, x3, x4, x5, x6, x7, .int .i64 c.e.op, .string c.e.t, .int .i64 c.e.v.k, .bool c.e.v.b, .int .i64 c.e.v.i, .string c.e.v.s, x14, x15, .string c.fn, .string c.name, x18] 96)) (.slice (some ⟨w1.heap.size, 0, none⟩) 1 1)) := by
   refine ⟨by have := hb.size; simp; omega, [.int .i64 c.k, .string c.v, .string c.c, x3, x4, x5, x6, x7, .int .i64 c.e.op, .string c.e.t, .int .i64 c.e.v.k, .bool c.e.v.b, .int .i64 c.e.v.i, .string c.e.v.s, x14, x15, .string c.fn, .string c.name, x18], ⟨rfl, .inr ⟨w1.heap.size, 1, _, rfl, hb.size, heap_alloc_new w1 _, Nat.le_refl _, by unfold maxLen; omega, rfl, rfl⟩⟩, ?_⟩
   have := (hv'.move (Kp.alloc w1 (.cells #[.int .i64 c.k, .string c.v, .string c.c, x3, x4, x5, x6, x7, .int .i64 c.e.op, .string c.e.t, .int .i64 c.e.v.k, .bool c.e.v.b, .int .i64 c.e.v.i, .string c.e.v.s, x14, x15, .string c.fn, .string c.name, x18] 96)) (fun _ _ h => h)).reps.1
   simp only [Cd.css, List.append_nil]
   exact reps.move (Kp.refl) (fun b _ h => h) _ _ (reps.move (P := fun b => w.heap.size ≤ b ∧ b < w1.heap.size) Kp.refl (fun b _ h => ⟨h.1, by simp [Value.ownBlock]; omega⟩) _ _ (by
    have h2 := (hv'.move (Q := fun b => w.heap.size ≤ b ∧ b < w1.heap.size) Kp.refl (fun b hb h => ⟨h, hb⟩)).move (Kp.alloc w1 (.cells #[.int .i64 c.k, .string c.v, .string c.c, x3, x4, x5, x6, x7, .int .i64 c.e.op, .string c.e.t, .int .i64 c.e.v.k, .bool c.e.v.b, .int .i64 c.e.v.i, .string c.e.v.s, x14, x15, .string c.fn, .string c.name, x18] 96)) (fun _ _ h => h)
    exact h2.reps.1))
  have HB1 := Hid.intro (hb.alloc (.cells #[.int .i64 c.k, .string c.v, .string c.c, x3, x4, x5, x6, x7, .int .i64 c.e.op, .string c.e.t, .int .i64 c.e.v.k, .bool c.e.v.b, .int .i64 c.e.v.i, .string c.e.v.s, x14, x15, .string c.fn, .string c.name, x18] 96))
  have HP1 := Hid.intro (hp.via (below_al (Below.refl _ _) (.cells #[.int .i64 c.k, .string c.v, .string c.c, x3, x4, x5, x6, x7, .int .i64 c.e.op, .string c.e.t, .int .i64 c.e.v.k, .bool c.e.v.b, .int .i64 c.e.v.i, .string c.e.v.s, x14, x15, .string c.fn, .string c.name, x18] 96)))
  clear hv'
  go_wp2_with fail
  go_loopw [5] (fun a5 w' => ∃ ps cs l r' f, a5 = .slice ps l.length cs ∧ Hid (RowS w.heap.size 96 19 l.length (Cd.css l) w' (.slice ps l.length cs)) ∧ Hid (PAt K w' B r' o) ∧ l.length + r'.length ≤ 10000 ∧ r'.length ≤ r.length - 1 ∧ r'.length ≤ f ∧ Hid (Bt B w w') ∧ Hid (condsL m ends f l r' = condsL m ends r1.length [c] r1)) (fun _ w' => rlen B w')
  case atStart => exact ⟨_, _, [c], r1, r1.length, rfl, hrow, HP1, by simp; omega, hl, Nat.le_refl _, HB1, rfl⟩
  case round =>
   clear hrow HP1 HB1
   obtain ⟨ps, cs, l, r', f, rfl, HR, HP, hll, hl', hlf, HB, HE⟩ := hrel
   obtain ⟨x, r0, rfl, -⟩ := gd_cons HP.out.gd
   obtain ⟨f, rfl⟩ : ∃ f', f = f' + 1 := ⟨f - 1, by simp at hlf; omega⟩
   have hCon := HCon (x :: r0) wr HP.out (fun k hk => (HB.out.cell (p := ⟨g, k, none⟩) hg hgB).trans (HE0.out k hk)) (Nat.lt_of_lt_of_le hg HB.out.size)
   cases hs : ends.any (fun s => isM s (x :: r0)) with
   | true =>
    rw [hs] at hCon
    have HE : Hid (Rs.ok l (x :: r0) = condsL m ends r1.length [c] r1) := by
     have := HE.out
     rw [condsL, if_pos hs] at this
     exact this
    clear hs
    go_wp2_with (go_at_call 169; refine hCon.out.mono ?_; rintro e w2 ⟨hb2, rfl⟩)
    go_ret
    rw [← HE.out]
    refine Post.ok (HB.out.trans (Bt.below hb2)) hl' (HP.out.via hb2) ⟨ps, cs, rfl, (HR.out.bt (Bt.below (B := B) hb2) (by omega)).rep⟩
   | false =>
    rw [hs] at hCon
    have HE : Hid ((m (x :: r0)).bd (fun c r => condsL m ends f (l ++ [c]) r) = condsL m ends r1.length [c] r1) := by
     have := HE.out
     rw [condsL, if_neg (by simp [hs])] at this
     exact this
    clear hs
    have hrl := HP.out.rlen
    have HC := HC (x :: r0)
    cases hm : m (x :: r0) with
    | bad q =>
     rw [hm] at HC HE
     clear hm
     go_wp2_with (go_at_call 169; refine hCon.out.mono ?_; rintro e w2 ⟨hb2, rfl⟩)
     refine (HC _ (HP.out.via hb2)).out.mono ?_
     rintro e w3 ⟨hb3, rfl⟩
     refine ⟨rfl, (HB.out.trans (Bt.below hb2)).trans hb3, ?_⟩
     rw [← HE.out]
     rfl
    | ok c' r2 =>
     rw [hm, bd_ok] at HE
     rw [hm] at HC
     clear hm
     go_wp2_with (go_at_call 169; refine hCon.out.mono ?_; rintro e w2 ⟨hb2, rfl⟩)
     refine (HC _ (HP.out.via hb2)).out.mono ?_
     rintro e w3 ⟨hb3, hl3, hp3, v3, rfl, hv3⟩
     have hv3' := hv3
     obtain ⟨y3, y4, y5, y6, y7, y14, y15, y18, rfl, -⟩ := hv3
     have hR3 := (HR.out.bt (Bt.below (B := B) hb2) (by omega)).bt hb3 (by omega)
     obtain ⟨hn3, vs3, ho3, hr3⟩ := hR3
     have HO3 := Hid.intro ho3
     have hs2 : w.heap.size ≤ w2.heap.size := Nat.le_trans HB.out.size hb2.size
     have hone := hv3'.reps.2.2
     have HOne : Hid (∀ u ∈ [.int .i64 c'.k, .string c'.v, .string c'.c, y3, y4, y5, y6, y7, .int .i64 c'.e.op, .string c'.e.t, .int .i64 c'.e.v.k, .bool c'.e.v.b, .int .i64 c'.e.v.i, .string c'.e.v.s, y14, y15, .string c'.fn, .string c'.name, y18], u.oneCell' = true) := by
      intro u hu
      rw [Array.all_eq_true_iff_forall_mem] at hone
      exact hone u (by simpa using hu)
     clear hone
     simp only [List.length_cons] at hl3 hrl hll hlf hl'
     go_wp2_with (at_builtin; refine wpList_append_own_at _ rfl _ _ 48 rfl w.heap.size 96 i0 _ 19 328 Tryz.underlying48 hi hz0 hz1 hz2 rfl (by decide) _ _ _ rfl (HO3.out.alloc _) ⟨w3.heap.size, 0, none⟩ 1 1 [.int .i64 c'.k, .string c'.v, .string c'.c, y3, y4, y5, y6, y7, .int .i64 c'.e.op, .string c'.e.t, .int .i64 c'.e.v.k, .bool c'.e.v.b, .int .i64 c'.e.v.i, .string c'.e.v.s, y14, y15, .string c'.fn, .string c'.name, y18] rfl rfl (fun j u hj => by rw [addr_add, Nat.zero_add, (heap_cell (heap_alloc_new w3 _) j).1, ← hj]; simp) HOne.out (by unfold maxLen; omega) (by omega) (by simp; omega) ?_; intro v' w4 hown' hgrow _ hat; obtain ⟨g', cap', rfl⟩ := ownsRow_succ hown')
     have hal : (w3.alloc (.cells #[.int .i64 c'.k, .string c'.v, .string c'.c, y3, y4, y5, y6, y7, .int .i64 c'.e.op, .string c'.e.t, .int .i64 c'.e.v.k, .bool c'.e.v.b, .int .i64 c'.e.v.i, .string c'.e.v.s, y14, y15, .string c'.fn, .string c'.name, y18] 96)).heap.size = w3.heap.size + 1 := by simp
     have hq : ∀ b, b < w3.heap.size → w2.heap.size ≤ b → (w.heap.size ≤ b ∧ some b ≠ Value.ownBlock (.slice ps l.length cs)) := fun b hb h => ⟨by omega, fun he => by
      have := (HR.out.2.choose_spec.1.lt b he.symm).2
      have := hb2.size
      omega⟩
     have hes : reps (fun b => w.heap.size ≤ b ∧ some b ≠ Value.ownBlock (.slice ps l.length cs)) (w3.alloc (.cells #[.int .i64 c'.k, .string c'.v, .string c'.c, y3, y4, y5, y6, y7, .int .i64 c'.e.op, .string c'.e.t, .int .i64 c'.e.v.k, .bool c'.e.v.b, .int .i64 c'.e.v.i, .string c'.e.v.s, y14, y15, .string c'.fn, .string c'.name, y18] 96)) c'.cs [.int .i64 c'.k, .string c'.v, .string c'.c, y3, y4, y5, y6, y7, .int .i64 c'.e.op, .string c'.e.t, .int .i64 c'.e.v.k, .bool c'.e.v.b, .int .i64 c'.e.v.i, .string c'.e.v.s, y14, y15, .string c'.fn, .string c'.name, y18] := ((hv3'.move Kp.refl hq).move (Kp.alloc w3 (.cells #[.int .i64 c'.k, .string c'.v, .string c'.c, y3, y4, y5, y6, y7, .int .i64 c'.e.op, .string c'.e.t, .int .i64 c'.e.v.k, .bool c'.e.v.b, .int .i64 c'.e.v.i, .string c'.e.v.s, y14, y15, .string c'.fn, .string c'.name, y18] 96)) (fun _ _ h => h)).reps.1
     have hR4 := RowS.push (by omega) (ho3.alloc _) (reps.move (Kp.alloc w3 _) (fun _ _ h => h) _ _ hr3) hes hown' hgrow hat
     have hB4 : Bt B w w4 := (((HB.out.trans (Bt.below hb2)).trans hb3).alloc _).grown hgrow (fun k hk => (ho3.lt k hk).1)
     have hp4 : PAt K w4 B r2 o := (hp3.via (below_al (Below.refl _ _) _)).grown hgrow (fun k hk => by have := (ho3.lt k hk).1; omega)
     have hrl4 := hp4.rlen
     have hll4 : (l ++ [c']).length = l.length + 1 := by simp
     have HR4 : Hid (RowS w.heap.size 96 19 (l ++ [c']).length (Cd.css (l ++ [c'])) w4 (.slice (some ⟨g', 0, none⟩) (l ++ [c']).length cap')) := by
      show RowS _ _ _ _ _ _ _
      rw [Cd.css_snoc, hll4]
      exact hR4
     clear hR4 hes hq
     go_roundw
     case rel => exact ⟨_, _, l ++ [c'], r2, f, by rw [hll4], HR4, hp4, by simp; omega, by omega, by omega, hB4, HE⟩
     case measure => omega
end
end Go.Proofs.YtoeodjobggodcaaGreatDoor
/- block. -/
namespace Go.Proofs.YtoeodjobggodcaaGreatDoor
section
open Go.RowKit
def SBx (B E : Nat) (sl : TypeId) (m : Nat) (ds : List Dt) (w : World) : Prop := B < E ∧ ∃ p c, w.heap[E]? = some (.cells #[.slice p m c] sl (0, 0)) ∧ rep (fun b => E < b) w (.sl m ds) (.slice p m c)
theorem SBx.bt {B E : Nat} {sl : TypeId} {m : Nat} {ds : List Dt} {w w' : World} (h : SBx B E sl m ds w) (k : Bt B w w') : SBx B E sl m ds w' := by
 obtain ⟨hB, p, c, h1, h2⟩ := h
 exact ⟨hB, p, c, row_bt k (by omega) h1, rep.move (k.kp (by omega)) (fun _ _ h => h) _ _ h2⟩
theorem SBx.put {B E : Nat} {sl : TypeId} {m : Nat} {ds : List Dt} {w : World} {v0 : Value} {p : Option Addr} {c : Nat} (hB : B < E) (h1 : w.heap[E]? = some (.cells #[v0] sl (0, 0))) (h : rep (fun b => E < b) w (.sl m ds) (.slice p m c)) : SBx B E sl m ds (w.setCell ⟨E, 0, none⟩ (.slice p m c)) :=
 ⟨hB, p, c, heap_put h1 _, rep.move (Kp.set _ _ _ (by simp)) (fun _ _ h => h) _ _ h⟩
def BJ (B c1 E : Nat) (l : List Cd) (w : World) (P : Nat → Prop) : Prop := Bx B c1 (.pointer (some ⟨B, 0, none⟩)) w ∧ SBx B E 48 l.length (Cd.css l) w ∧ c1 ≠ E ∧ ∀ b, P b → b ≠ E
theorem BJ.stb (B c1 E : Nat) (l : List Cd) : Stb B (BJ B c1 E l) := by
 rintro w w' P P' ⟨h1, h2, h3, h4⟩ hb hp
 refine ⟨h1.bt hb, h2.bt hb, h3, fun b h => ?_⟩
 rcases hp b h with h | h
 ·exact h4 b h
 ·obtain ⟨-, _, _, h5, -⟩ := h2
  have := (Array.getElem?_eq_some_iff.1 h5).1
  omega
theorem run_blk1 (caps : Array Value) (w : World) : (callFunc 148 caps).run Tryz.prog w = .ok (.enter 148 caps) w := by simp [go_sem]
theorem str_cell (w : World) (s : ByteArray) (t : TypeId) : ∀ k (hk : k < [s].length), (w.alloc (.cells #[.string s] t)).cell? ⟨w.heap.size, k, none⟩ = some (.string [s][k]) := by
 intro k hk
 have : k = 0 := by simp at hk; omega
 subst this
 exact (heap_cell (heap_alloc_new w _) 0).1
set_option maxRecDepth 100000 in
set_option maxHeartbeats 2000000 in
theorem blk1_clo {K B o : Nat} {m : List Lx → Rs Cd} (hC : CC K B o m) (c1 E : Nat) (hE : K ≤ E) :
  Clo K B o (fun _ _ => True) (BJ B c1 E) 148 #[.pointer (some ⟨c1, 0, none⟩), .pointer (some ⟨E, 0, none⟩)] (fun _ r => condsM m [⟨#[41]⟩] r) := by
 refine ⟨run_blk1 _, ?_⟩
 rintro P s r w hP - ⟨h1, h2, h3, h4⟩ h
 show Calls _ _ _ _ (CPost K B o r.length P w _ _ (condsM m [⟨#[41]⟩] r))
 have d1 := h1.2.2.1
 have hsz := h.size
 have HN := Hid.intro (conds_any hC [⟨#[41]⟩] (by simp) (h.via (below_al (Below.refl _ _) (.cells #[.string ⟨#[41]⟩] 9))) w.heap.size 1 (str_cell w ⟨#[41]⟩ 9) (by simp) (by omega))
 cases hm : condsM m [⟨#[41]⟩] r with
 | bad q =>
  rw [hm] at HN
  clear hm
  go_enter Tryz.func148, Tryz.ntmps148
  go_wp2_with fail
  refine HN.out.mono ?_
  rintro e w1 ⟨hb, rfl⟩
  exact ⟨rfl, (((Bt.refl B w).alloc _).trans hb).fr hP, rfl⟩
 | ok l r1 =>
  rw [hm] at HN
  clear hm
  go_enter Tryz.func148, Tryz.ntmps148
  go_wp2_with fail
  refine HN.out.mono ?_
  rintro e w1 ⟨hb, hl, hp, v, rfl, p, c, rfl, hr⟩
  have hbt := ((Bt.refl B w).alloc (.cells #[.string ⟨#[41]⟩] 9)).trans hb
  obtain ⟨hB, p0, c0, k1, k2⟩ := h2
  have hEw : E < w.heap.size := (Array.getElem?_eq_some_iff.1 k1).1
  have k3 := row_bt hbt (by omega) k1
  have e1 : w1.cell? ⟨E, 0, none⟩ = some _ := (heap_cell k3 0).1
  have f1 : w1.frozen? ⟨E, 0, none⟩ = false := (heap_cell k3 0).2
  go_wp2_with fail
  go_end0
  exact ⟨(hbt.fr hP).set h4 _, rfl, trivial, ⟨(h1.bt hbt).set h3, SBx.put hB k3 (rep.move Kp.refl (fun b _ h => by simp at h; omega) _ _ hr), h3, h4⟩, hp.set hE _ _, by omega⟩
set_option maxRecDepth 100000 in
set_option maxHeartbeats 2000000 in
theorem block_any {K B o : Nat} {m : List Lx → Rs Cd} (hC : CC K B (o + 1) m) {r : List Lx} {w : World} (h : PAt K w B r o) :
  Calls Tryz.prog 109 #[.pointer (some ⟨B, 0, none⟩)] w (Post K B o (r.length - 1) w (withinM ⟨#[40]⟩ ⟨#[41]⟩ o (condsM m [⟨#[41]⟩]) r) fun w' l v => ∃ p c, v = .slice p l.length c ∧ rep (fun b => w.heap.size ≤ b) w' (.sl l.length (Cd.css l)) (.slice p l.length c)) := by
 have hmf : ∀ (fn : Fn) (first cap : Array Value) (w : World), (Instr.makeFunc fn first cap).run Tryz.prog w = .ok (.func fn first cap) w := fun _ _ _ _ => rfl
 have hsz := h.size
 have hb0 : Bt B w ((w.alloc (.cells #[.pointer (some ⟨B, 0, none⟩)] 55)).alloc (.cells #[.slice none 0 0] 48)) := ((Bt.refl B w).alloc _).alloc _
 have hj : BJ B w.heap.size (w.heap.size + 1) [] ((w.alloc (.cells #[.pointer (some ⟨B, 0, none⟩)] 55)).alloc (.cells #[.slice none 0 0] 48)) (fun b => b < w.heap.size ∧ b ≠ B) :=
  ⟨(Bx.new w _ _ (by omega)).bt ((Bt.refl B _).alloc _), ⟨by omega, none, 0, heap_alloc2_new w _ _, by simpa [Cd.css] using rep.none⟩, by omega, fun b hb => by omega⟩
 have HW := Hid.intro (within_any (fun _ _ _ => trivial) (BJ.stb B w.heap.size (w.heap.size + 1)) (blk1_clo hC w.heap.size (w.heap.size + 1) (by omega)) (P := fun b => b < w.heap.size ∧ b ≠ B) (s := []) (r := r) (fun b hb => ⟨by simp; omega, hb.2⟩) trivial hj (h.via (below_al (below_al (Below.refl _ _) _) _)) ⟨#[40]⟩ ⟨#[41]⟩)
 clear hj
 show Calls _ _ _ _ (Post K B o (r.length - 1) w (withinM _ _ o (fun r => condsM m [⟨#[41]⟩] r) r) _)
 cases hm : withinM ⟨#[40]⟩ ⟨#[41]⟩ o (fun r => condsM m [⟨#[41]⟩] r) r with
 | bad q =>
  rw [hm] at HW
  clear hm
  go_enter Tryz.func109, Tryz.ntmps109
  go_wp2_with fail
  refine HW.out.mono ?_
  rintro e w1 ⟨hf, rfl⟩
  exact ⟨rfl, hb0.fra hf, rfl⟩
 | ok l r1 =>
  rw [hm] at HW
  clear hm
  go_enter Tryz.func109, Tryz.ntmps109
  go_wp2_with fail
  refine HW.out.mono ?_
  rintro e w1 ⟨hf, rfl, -, ⟨-, ⟨hB, p, c, hc, hr⟩, -, -⟩, hp, hl⟩
  have e1 : w1.cell? ⟨w.heap.size + 1, 0, none⟩ = some _ := (heap_cell hc 0).1
  have f1 : w1.frozen? ⟨w.heap.size + 1, 0, none⟩ = false := (heap_cell hc 0).2
  have hEw : w.heap.size + 1 < w1.heap.size := (Array.getElem?_eq_some_iff.1 hc).1
  go_wp2_with fail
  have e2 : (w1.setCell ⟨w.heap.size + 1, 0, none⟩ (.slice p l.length c)).cell? ⟨w.heap.size + 1, 0, none⟩ = some (.slice p l.length c) := World.cell?_setCell_same _ _ _ e1
  refine bodyPost_ret (v := .slice p l.length c) ?_ rfl (Post.ok ((hb0.fra hf).own (by omega) _ _) hl (hp.set (by omega) _ _) ⟨p, c, rfl, ?_⟩)
  ·simp [results, Tryz.results109, go_sem, e2]
  ·exact rep.move (Kp.set _ _ _ (by simp)) (fun b _ h => by omega) _ _ hr
end
end Go.Proofs.YtoeodjobggodcaaGreatDoor
/- forall. -/
namespace Go.Proofs.YtoeodjobggodcaaGreatDoor
section
open Go.RowKit
def CdBx (B C : Nat) (w : World) (c : Cd) : Prop := B < C ∧ ∃ cells, w.heap[C]? = some (.cells cells 96 (0, 0)) ∧ CdV (fun b => C < b) w c (.agg cells)
theorem CdBx.bt {B C : Nat} {w w' : World} {c : Cd} (h : CdBx B C w c) (k : Bt B w w') : CdBx B C w' c := by
 obtain ⟨hB, cells, h1, h2⟩ := h
 exact ⟨hB, cells, row_bt k (by omega) h1, h2.move (k.kp (by omega)) (fun _ _ h => h)⟩
theorem CdBx.cell {B C : Nat} {w : World} {c : Cd} (h : CdBx B C w c) : ∃ cells, w.heap[C]? = some (.cells cells 96 (0, 0)) ∧ cells.size = 19 ∧ C < w.heap.size := by
 obtain ⟨hB, cells, h1, h2⟩ := h
 exact ⟨cells, h1, h2.reps.2.1, (Array.getElem?_eq_some_iff.1 h1).1⟩
theorem cell_some {w : World} {C : Nat} {cells : Array Value} {t : TypeId} (h : w.heap[C]? = some (.cells cells t (0, 0))) {j : Nat} (hj : j < cells.size) : (∃ u, w.cell? ⟨C, j, none⟩ = some u) ∧ w.frozen? ⟨C, j, none⟩ = false :=
 ⟨⟨cells[j], by rw [(heap_cell h j).1]; exact Array.getElem?_eq_getElem hj⟩, (heap_cell h j).2⟩
theorem CdBx.putConds {B C : Nat} {w : World} {c : Cd} (h : CdBx B C w c) {l : List Cd} {p : Option Addr} {q : Nat} (hr : rep (fun b => C < b) w (.sl l.length (Cd.css l)) (.slice p l.length q)) : CdBx B C (w.setCell ⟨C, 5, none⟩ (.slice p l.length q)) { c with conds := l } := by
 obtain ⟨hB, cells, hh, x3, x4, x5, x6, x7, x14, x15, x18, he, ⟨h3, h4, h5, h6, h7⟩, h14, h15, h18⟩ := h
 obtain rfl := Value.agg.inj he
 exact ⟨hB, _, heap_put hh _, x3, x4, .slice p l.length q, x6, x7, x14, x15, x18, rfl, ⟨rep.move (Kp.set _ _ _ (by simp)) (fun _ _ h => h) _ _ h3, rep.move (Kp.set _ _ _ (by simp)) (fun _ _ h => h) _ _ h4, rep.move (Kp.set _ _ _ (by simp)) (fun _ _ h => h) _ _ hr, rep.move (Kp.set _ _ _ (by simp)) (fun _ _ h => h) _ _ h6, rep.move (Kp.set _ _ _ (by simp)) (fun _ _ h => h) _ _ h7⟩, rep.move (Kp.set _ _ _ (by simp)) (fun _ _ h => h) _ _ h14, rep.move (Kp.set _ _ _ (by simp)) (fun _ _ h => h) _ _ h15, rep.move (Kp.set _ _ _ (by simp)) (fun _ _ h => h) _ _ h18⟩
theorem CdBx.putThn {B C : Nat} {w : World} {c : Cd} (h : CdBx B C w c) {l : List Cd} {p : Option Addr} {q : Nat} (hr : rep (fun b => C < b) w (.sl l.length (Cd.css l)) (.slice p l.length q)) : CdBx B C (w.setCell ⟨C, 6, none⟩ (.slice p l.length q)) { c with thn := l } := by
 obtain ⟨hB, cells, hh, x3, x4, x5, x6, x7, x14, x15, x18, he, ⟨h3, h4, h5, h6, h7⟩, h14, h15, h18⟩ := h
 obtain rfl := Value.agg.inj he
 exact ⟨hB, _, heap_put hh _, x3, x4, x5, .slice p l.length q, x7, x14, x15, x18, rfl, ⟨rep.move (Kp.set _ _ _ (by simp)) (fun _ _ h => h) _ _ h3, rep.move (Kp.set _ _ _ (by simp)) (fun _ _ h => h) _ _ h4, rep.move (Kp.set _ _ _ (by simp)) (fun _ _ h => h) _ _ h5, rep.move (Kp.set _ _ _ (by simp)) (fun _ _ h => h) _ _ hr, rep.move (Kp.set _ _ _ (by simp)) (fun _ _ h => h) _ _ h7⟩, rep.move (Kp.set _ _ _ (by simp)) (fun _ _ h => h) _ _ h14, rep.move (Kp.set _ _ _ (by simp)) (fun _ _ h => h) _ _ h15, rep.move (Kp.set _ _ _ (by simp)) (fun _ _ h => h) _ _ h18⟩
theorem CdBx.putV {B C : Nat} {w : World} {c : Cd} (h : CdBx B C w c) (s : ByteArray) : CdBx B C (w.setCell ⟨C, 1, none⟩ (.string s)) { c with v := s } := by
 obtain ⟨hB, cells, hh, x3, x4, x5, x6, x7, x14, x15, x18, he, ⟨h3, h4, h5, h6, h7⟩, h14, h15, h18⟩ := h
 obtain rfl := Value.agg.inj he
 exact ⟨hB, _, heap_put hh _, x3, x4, x5, x6, x7, x14, x15, x18, rfl, ⟨rep.move (Kp.set _ _ _ (by simp)) (fun _ _ h => h) _ _ h3, rep.move (Kp.set _ _ _ (by simp)) (fun _ _ h => h) _ _ h4, rep.move (Kp.set _ _ _ (by simp)) (fun _ _ h => h) _ _ h5, rep.move (Kp.set _ _ _ (by simp)) (fun _ _ h => h) _ _ h6, rep.move (Kp.set _ _ _ (by simp)) (fun _ _ h => h) _ _ h7⟩, rep.move (Kp.set _ _ _ (by simp)) (fun _ _ h => h) _ _ h14, rep.move (Kp.set _ _ _ (by simp)) (fun _ _ h => h) _ _ h15, rep.move (Kp.set _ _ _ (by simp)) (fun _ _ h => h) _ _ h18⟩
theorem CdBx.putFn {B C : Nat} {w : World} {c : Cd} (h : CdBx B C w c) (s : ByteArray) : CdBx B C (w.setCell ⟨C, 16, none⟩ (.string s)) { c with fn := s } := by
 obtain ⟨hB, cells, hh, x3, x4, x5, x6, x7, x14, x15, x18, he, ⟨h3, h4, h5, h6, h7⟩, h14, h15, h18⟩ := h
 obtain rfl := Value.agg.inj he
 exact ⟨hB, _, heap_put hh _, x3, x4, x5, x6, x7, x14, x15, x18, rfl, ⟨rep.move (Kp.set _ _ _ (by simp)) (fun _ _ h => h) _ _ h3, rep.move (Kp.set _ _ _ (by simp)) (fun _ _ h => h) _ _ h4, rep.move (Kp.set _ _ _ (by simp)) (fun _ _ h => h) _ _ h5, rep.move (Kp.set _ _ _ (by simp)) (fun _ _ h => h) _ _ h6, rep.move (Kp.set _ _ _ (by simp)) (fun _ _ h => h) _ _ h7⟩, rep.move (Kp.set _ _ _ (by simp)) (fun _ _ h => h) _ _ h14, rep.move (Kp.set _ _ _ (by simp)) (fun _ _ h => h) _ _ h15, rep.move (Kp.set _ _ _ (by simp)) (fun _ _ h => h) _ _ h18⟩
structure CK (P : Nat → Prop) (w0 : World) (K B o c1 C : Nat) (c : Cd) (W : World) (r : List Lx) : Prop where
 fr : Fr P w0 W
 bx : Bx B c1 (.pointer (some ⟨B, 0, none⟩)) W
 cb : CdBx B C W c
 at_ : PAt K W B r o
theorem CK.bt {P : Nat → Prop} {w0 : World} {K B o c1 C : Nat} {c : Cd} {W W' : World} {r r' : List Lx} (h : CK P w0 K B o c1 C c W r) (hb : Bt B W W') (hP : Kn B P w0) (hp : PAt K W' B r' o) : CK P w0 K B o c1 C c W' r' :=
 ⟨h.fr.trans (hb.fr (hP.up h.fr.size)), h.bx.bt hb, h.cb.bt hb, hp⟩
theorem CK.put {P : Nat → Prop} {w0 : World} {K B o c1 C : Nat} {c c' : Cd} {W : World} {r : List Lx} (h : CK P w0 K B o c1 C c W r) {i : Nat} {v : Value} (hc : c1 ≠ C) (hp : ∀ b, P b → b ≠ C) (hC : K ≤ C) (hcb : CdBx B C (W.setCell ⟨C, i, none⟩ v) c') : CK P w0 K B o c1 C c' (W.setCell ⟨C, i, none⟩ v) r :=
 ⟨h.fr.set hp _, h.bx.set hc, hcb, h.at_.set hC _ _⟩
def CJ (B c1 C : Nat) (c : Cd) (w : World) (P : Nat → Prop) : Prop := Bx B c1 (.pointer (some ⟨B, 0, none⟩)) w ∧ CdBx B C w c ∧ c1 ≠ C ∧ ∀ b, P b → b ≠ C
theorem CJ.stb (B c1 C : Nat) (c : Cd) : Stb B (CJ B c1 C c) := by
 rintro w w' P P' ⟨h1, h2, h3, h4⟩ hb hp
 refine ⟨h1.bt hb, h2.bt hb, h3, fun b h => ?_⟩
 rcases hp b h with h | h
 ·exact h4 b h
 ·obtain ⟨_, _, _, h5⟩ := h2.cell
  omega
theorem run_fa1 (caps : Array Value) (w : World) : (callFunc 150 caps).run Tryz.prog w = .ok (.enter 150 caps) w := by simp [go_sem]
set_option maxRecDepth 100000 in
set_option maxHeartbeats 4000000 in
theorem fa1_clo {K B o : Nat} {m : List Lx → Rs Cd} (hC : CC K B o m) (c1 C : Nat) (hCK : K ≤ C) :
  Clo K B o (fun _ _ => True) (CJ B c1 C) 150 #[.pointer (some ⟨c1, 0, none⟩), .pointer (some ⟨C, 0, none⟩)] (fun c r => (condsM m [⟨#[59]⟩] r).bd fun l r => (takeM ⟨#[59]⟩ r).bd fun _ r => (condsM m [⟨#[41]⟩] r).bd fun t r => .ok { c with conds := l, thn := t } r) := by
 refine ⟨run_fa1 _, ?_⟩
 rintro P c r w hP - ⟨h1, h2, h3, h4⟩ h
 show Calls _ _ _ _ (CPost K B o r.length P w _ _ ((condsM m [⟨#[59]⟩] r).bd fun l r => (takeM ⟨#[59]⟩ r).bd fun _ r => (condsM m [⟨#[41]⟩] r).bd fun t r => .ok { c with conds := l, thn := t } r))
 have d1 := h1.2.2.1
 have hsz := h.size
 have hk0 : CK P w K B o c1 C c w r := ⟨Fr.refl _ _, h1, h2, h⟩
 have ha0 : ∀ s : ByteArray, ∀ W : World, Bt B W (W.alloc (.cells #[.string s] 9)) := fun s W => (Bt.refl B W).alloc _
 have HN := fun r W (h : PAt K W B r o) => Hid.intro (conds_any hC [⟨#[59]⟩] (by simp) (h.via (below_al (Below.refl _ _) (.cells #[.string ⟨#[59]⟩] 9))) W.heap.size 1 (str_cell W ⟨#[59]⟩ 9) (by simp) (by have := h.size; omega))
 have HN2 := fun r W (h : PAt K W B r o) => Hid.intro (conds_any hC [⟨#[41]⟩] (by simp) (h.via (below_al (Below.refl _ _) (.cells #[.string ⟨#[41]⟩] 9))) W.heap.size 1 (str_cell W ⟨#[41]⟩ 9) (by simp) (by have := h.size; omega))
 have HT := fun r W (h : PAt K W B r o) => Hid.intro (take_any h ⟨#[59]⟩)
 have HN := HN r
 cases hm : condsM m [⟨#[59]⟩] r with
 | bad q =>
  rw [hm] at HN
  rw [bd_bad]
  clear hm
  go_enter Tryz.func150, Tryz.ntmps150
  go_wp2_with fail
  refine (HN w h).out.mono ?_
  rintro e w1 ⟨hb, rfl⟩
  exact ⟨rfl, ((ha0 _ _).trans hb).fr hP, rfl⟩
 | ok l r1 =>
  rw [hm] at HN
  rw [bd_ok]
  clear hm
  have HT := HT r1
  have step1 : ∀ w1 p q, Bt B (w.alloc (.cells #[.string ⟨#[59]⟩] 9)) w1 → PAt K w1 B r1 o → rep (fun b => (w.alloc (.cells #[.string ⟨#[59]⟩] 9)).heap.size ≤ b) w1 (.sl l.length (Cd.css l)) (.slice p l.length q) →
    (∃ u, w1.cell? ⟨C, 5, none⟩ = some u) ∧ w1.frozen? ⟨C, 5, none⟩ = false ∧ CK P w K B o c1 C { c with conds := l } (w1.setCell ⟨C, 5, none⟩ (.slice p l.length q)) r1 := by
   intro w1 p q hb hp hr
   have hk1 := hk0.bt ((ha0 _ _).trans hb) hP hp
   obtain ⟨cells, k1, k2, k3⟩ := hk1.cb.cell
   obtain ⟨_, _, _, k4⟩ := h2.cell
   exact ⟨(cell_some k1 (by omega)).1, (cell_some k1 (by omega)).2, hk1.put h3 h4 hCK (hk1.cb.putConds (rep.move Kp.refl (fun b _ h => by simp at h; omega) _ _ hr))⟩
  cases hm2 : takeM ⟨#[59]⟩ r1 with
  | bad q =>
   rw [hm2] at HT
   rw [bd_bad]
   clear hm2
   go_enter Tryz.func150, Tryz.ntmps150
   go_wp2_with fail
   refine (HN w h).out.mono ?_
   rintro e w1 ⟨hb, hl, hp, v, rfl, p, q1, rfl, hr⟩
   obtain ⟨⟨u5, e5⟩, f5, hk2⟩ := step1 w1 p q1 hb hp hr
   have d2 := hk2.bx.2.2.1
   go_wp2_with fail
   refine (HT _ hk2.at_).out.mono ?_
   rintro e w2 ⟨hb2, rfl⟩
   exact ⟨rfl, hk2.fr.trans (hb2.fr (hP.up hk2.fr.size)), rfl⟩
  | ok u r2 =>
   rw [hm2] at HT
   rw [bd_ok]
   clear hm2
   have HN2 := HN2 r2
   cases hm3 : condsM m [⟨#[41]⟩] r2 with
   | bad q =>
    rw [hm3] at HN2
    rw [bd_bad]
    clear hm3
    go_enter Tryz.func150, Tryz.ntmps150
    go_wp2_with fail
    refine (HN w h).out.mono ?_
    rintro e w1 ⟨hb, hl, hp, v, rfl, p, q1, rfl, hr⟩
    obtain ⟨⟨u5, e5⟩, f5, hk2⟩ := step1 w1 p q1 hb hp hr
    have d2 := hk2.bx.2.2.1
    go_wp2_with fail
    refine (HT _ hk2.at_).out.mono ?_
    rintro e w2 ⟨hb2, hl2, hp2, v2, rfl, rfl⟩
    have hk3 := hk2.bt hb2 hP hp2
    have d3 := hk3.bx.2.2.1
    go_wp2_with fail
    refine (HN2 _ hp2).out.mono ?_
    rintro e w3 ⟨hb3, rfl⟩
    exact ⟨rfl, hk3.fr.trans (((ha0 _ _).trans hb3).fr (hP.up hk3.fr.size)), rfl⟩
   | ok t r3 =>
    rw [hm3] at HN2
    rw [bd_ok]
    clear hm3
    go_enter Tryz.func150, Tryz.ntmps150
    go_wp2_with fail
    refine (HN w h).out.mono ?_
    rintro e w1 ⟨hb, hl, hp, v, rfl, p, q1, rfl, hr⟩
    obtain ⟨⟨u5, e5⟩, f5, hk2⟩ := step1 w1 p q1 hb hp hr
    have d2 := hk2.bx.2.2.1
    go_wp2_with fail
    refine (HT _ hk2.at_).out.mono ?_
    rintro e w2 ⟨hb2, hl2, hp2, v2, rfl, rfl⟩
    have hk3 := hk2.bt hb2 hP hp2
    have d3 := hk3.bx.2.2.1
    go_wp2_with fail
    refine (HN2 _ hp2).out.mono ?_
    rintro e w3 ⟨hb3, hl3, hp3, v3, rfl, p3, q3, rfl, hr3⟩
    have hk4 := hk3.bt ((ha0 _ _).trans hb3) hP hp3
    obtain ⟨cells, k1, k2, k3⟩ := hk4.cb.cell
    obtain ⟨_, _, _, k5⟩ := hk3.cb.cell
    obtain ⟨u6, e6⟩ := (cell_some (j := 6) k1 (by omega)).1
    have f6 := (cell_some (j := 6) k1 (by omega)).2
    have hk5 := hk4.put h3 h4 hCK (hk4.cb.putThn (rep.move Kp.refl (fun b _ h => by simp at h; omega) _ _ hr3))
    go_wp2_with fail
    go_end0
    exact ⟨hk5.fr, rfl, trivial, ⟨hk5.bx, hk5.cb, h3, h4⟩, hk5.at_, by omega⟩
set_option maxRecDepth 100000 in
set_option maxHeartbeats 4000000 in
theorem forall_any {K B o : Nat} {C : Ps Cd} (hC : CC K B (o + 1) (C (o + 1))) {r : List Lx} {w : World} (h : PAt K w B r o) :
  Calls Tryz.prog 110 #[.pointer (some ⟨B, 0, none⟩)] w (Post K B o (r.length - 1) w (forallM C o r) fun w' c v => CdV (fun b => w.heap.size ≤ b) w' c v) := by
 have hmf : ∀ (fn : Fn) (first cap : Array Value) (w : World), (Instr.makeFunc fn first cap).run Tryz.prog w = .ok (.func fn first cap) w := fun _ _ _ _ => rfl
 have hsz := h.size
 have hA : (((w.alloc (.cells #[.pointer (some ⟨B, 0, none⟩)] 55)).alloc (.cells #[.int .i64 0, .string ⟨#[]⟩, .string ⟨#[]⟩, .slice none 0 0, .slice none 0 0, .slice none 0 0, .slice none 0 0, .slice none 0 0, .int .i64 0, .string ⟨#[]⟩, .int .i64 0, .bool false, .int .i64 0, .string ⟨#[]⟩, .slice none 0 0, .slice none 0 0, .string ⟨#[]⟩, .string ⟨#[]⟩, .slice none 0 0] 96)).alloc (.cells #[.int .i64 0, .string ⟨#[]⟩, .string ⟨#[]⟩, .slice none 0 0, .slice none 0 0, .slice none 0 0, .slice none 0 0, .slice none 0 0, .int .i64 0, .string ⟨#[]⟩, .int .i64 0, .bool false, .int .i64 0, .string ⟨#[]⟩, .slice none 0 0, .slice none 0 0, .string ⟨#[]⟩, .string ⟨#[]⟩, .slice none 0 0] 96)).heap[w.heap.size + 1 + 1]? = some (.cells #[.int .i64 0, .string ⟨#[]⟩, .string ⟨#[]⟩, .slice none 0 0, .slice none 0 0, .slice none 0 0, .slice none 0 0, .slice none 0 0, .int .i64 0, .string ⟨#[]⟩, .int .i64 0, .bool false, .int .i64 0, .string ⟨#[]⟩, .slice none 0 0, .slice none 0 0, .string ⟨#[]⟩, .string ⟨#[]⟩, .slice none 0 0] 96) := by
  have := heap_alloc_new ((w.alloc (.cells #[.pointer (some ⟨B, 0, none⟩)] 55)).alloc (.cells #[.int .i64 0, .string ⟨#[]⟩, .string ⟨#[]⟩, .slice none 0 0, .slice none 0 0, .slice none 0 0, .slice none 0 0, .slice none 0 0, .int .i64 0, .string ⟨#[]⟩, .int .i64 0, .bool false, .int .i64 0, .string ⟨#[]⟩, .slice none 0 0, .slice none 0 0, .string ⟨#[]⟩, .string ⟨#[]⟩, .slice none 0 0] 96)) (.cells #[.int .i64 0, .string ⟨#[]⟩, .string ⟨#[]⟩, .slice none 0 0, .slice none 0 0, .slice none 0 0, .slice none 0 0, .slice none 0 0, .int .i64 0, .string ⟨#[]⟩, .int .i64 0, .bool false, .int .i64 0, .string ⟨#[]⟩, .slice none 0 0, .slice none 0 0, .string ⟨#[]⟩, .string ⟨#[]⟩, .slice none 0 0] 96)
  rw [World.size_alloc, World.size_alloc] at this
  exact this
 have HA := Hid.intro hA
 clear hA
 generalize hW0 : (((w.alloc (.cells #[.pointer (some ⟨B, 0, none⟩)] 55)).alloc (.cells #[.int .i64 0, .string ⟨#[]⟩, .string ⟨#[]⟩, .slice none 0 0, .slice none 0 0, .slice none 0 0, .slice none 0 0, .slice none 0 0, .int .i64 0, .string ⟨#[]⟩, .int .i64 0, .bool false, .int .i64 0, .string ⟨#[]⟩, .slice none 0 0, .slice none 0 0, .string ⟨#[]⟩, .string ⟨#[]⟩, .slice none 0 0] 96)).alloc (.cells #[.int .i64 0, .string ⟨#[]⟩, .string ⟨#[]⟩, .slice none 0 0, .slice none 0 0, .slice none 0 0, .slice none 0 0, .slice none 0 0, .int .i64 0, .string ⟨#[]⟩, .int .i64 0, .bool false, .int .i64 0, .string ⟨#[]⟩, .slice none 0 0, .slice none 0 0, .string ⟨#[]⟩, .string ⟨#[]⟩, .slice none 0 0] 96)).setRow (w.heap.size + 1 + 1) #[.int .i64 4, .string ⟨#[]⟩, .string ⟨#[]⟩, .slice none 0 0, .slice none 0 0, .slice none 0 0, .slice none 0 0, .slice none 0 0, .int .i64 0, .string ⟨#[]⟩, .int .i64 0, .bool false, .int .i64 0, .string ⟨#[]⟩, .slice none 0 0, .slice none 0 0, .string ⟨#[]⟩, .string ⟨#[]⟩, .slice none 0 0] = W0
 have hW0s : W0.heap.size = w.heap.size + 3 := by rw [← hW0]; simp
 have hb0 : Bt B w W0 := by rw [← hW0]; exact ((((Bt.refl B w).alloc _).alloc _).alloc _).row (by omega) _
 have hX0 : Bx B w.heap.size (.pointer (some ⟨B, 0, none⟩)) W0 := by rw [← hW0]; exact (((Bx.new w _ _ (by omega)).bt ((Bt.refl B _).alloc _)).bt ((Bt.refl B _).alloc _)).row (by omega) _
 have hR0 : W0.heap[w.heap.size + 1]? = some (.cells #[.int .i64 0, .string ⟨#[]⟩, .string ⟨#[]⟩, .slice none 0 0, .slice none 0 0, .slice none 0 0, .slice none 0 0, .slice none 0 0, .int .i64 0, .string ⟨#[]⟩, .int .i64 0, .bool false, .int .i64 0, .string ⟨#[]⟩, .slice none 0 0, .slice none 0 0, .string ⟨#[]⟩, .string ⟨#[]⟩, .slice none 0 0] 96) := by rw [← hW0]; exact (setRow_other _ _ _ _ (by omega)).trans ((heap_alloc_old _ _ (by simp)).trans (heap_alloc2_new w _ _))
 have hC0 : CdBx B (w.heap.size + 2) W0 { k := 4 } := by
  refine ⟨by omega, _, ?_, .slice none 0 0, .slice none 0 0, .slice none 0 0, .slice none 0 0, .slice none 0 0, .slice none 0 0, .slice none 0 0, .slice none 0 0, rfl, ⟨rep.none, rep.none, ?_, ?_, ?_⟩, ?_, ?_, rep.none⟩
  ·rw [← hW0]
   exact setRow_heap _ _ _ _ _ _ HA.out
  ·simpa [Cd.css] using rep.none
  ·simpa [Cd.css] using rep.none
  ·simpa [Cd.csss] using rep.none
  ·simpa [Vt.css] using rep.none
  ·simpa [Ex.css] using rep.none
 have hp0 : PAt K W0 B r o := by rw [← hW0]; exact (h.via (below_al (below_al (below_al (Below.refl _ _) _) _) _)).row (by omega) _
 have HW := Hid.intro (within_any (fun _ _ _ => trivial) (CJ.stb B w.heap.size (w.heap.size + 2)) (fa1_clo hC w.heap.size (w.heap.size + 2) (by omega)) (P := fun b => (b < w.heap.size ∧ b ≠ B) ∨ b = w.heap.size + 1) (s := { k := 4 }) (r := r) (w := W0) (fun b hb => ⟨by rw [hW0s]; omega, by omega⟩) trivial ⟨hX0, hC0, by omega, fun b hb => by omega⟩ hp0 ⟨#[40]⟩ ⟨#[41]⟩)
 have d0 := hX0.2.2.1
 unfold forallM
 have hmod : withinM ⟨#[40]⟩ ⟨#[41]⟩ o (fun r => (condsM (C (o + 1)) [⟨#[59]⟩] r).bd fun l r => (takeM ⟨#[59]⟩ r).bd fun _ r => (condsM (C (o + 1)) [⟨#[41]⟩] r).bd fun t r => .ok ({ ({ k := 4 } : Cd) with conds := l, thn := t }) r) r = withinM ⟨#[40]⟩ ⟨#[41]⟩ o (fun r => (condsM (C (o + 1)) [⟨#[59]⟩] r).bd fun l r => (takeM ⟨#[59]⟩ r).bd fun _ r => (condsM (C (o + 1)) [⟨#[41]⟩] r).bd fun t r => .ok { k := 4, conds := l, thn := t } r) r := rfl
 cases hm : withinM ⟨#[40]⟩ ⟨#[41]⟩ o (fun r => (condsM (C (o + 1)) [⟨#[59]⟩] r).bd fun l r => (takeM ⟨#[59]⟩ r).bd fun _ r => (condsM (C (o + 1)) [⟨#[41]⟩] r).bd fun t r => .ok ({ k := 4, conds := l, thn := t } : Cd) r) r with
 | bad q =>
  rw [hmod, hm] at HW
  clear hm hmod
  go_enter Tryz.func110, Tryz.ntmps110
  go_wp2_with (with_reducible refine (id (?_ : wpList _ _ _ (Oper.mk _ (Op.store _ _ _) _ _ _ _ :: _) _ _)); refine wpList_store_row rfl _ _ _ rfl _ _ rfl rfl _ _ HA.out infoCond rfl rfl (by simp [Value.oneCell']) ?_)
  refine HW.out.mono ?_
  rintro e w1 ⟨hf, rfl⟩
  exact ⟨rfl, hb0.fra (hf.mono fun b hb => .inl hb), rfl⟩
 | ok c r1 =>
  rw [hmod, hm] at HW
  clear hm hmod
  go_enter Tryz.func110, Tryz.ntmps110
  go_wp2_with (with_reducible refine (id (?_ : wpList _ _ _ (Oper.mk _ (Op.store _ _ _) _ _ _ _ :: _) _ _)); refine wpList_store_row rfl _ _ _ rfl _ _ rfl rfl _ _ HA.out infoCond rfl rfl (by simp [Value.oneCell']) ?_)
  refine HW.out.mono ?_
  rintro e w1 ⟨hf, rfl, -, ⟨-, ⟨hB, cells, hc, hv⟩, -, -⟩, hp, hl⟩
  have HC1 := Hid.intro hc
  have HR1 := Hid.intro ((hf.block _ (.inr rfl)).trans hR0)
  have hr := hv.reps
  have hz : (#[.int .i64 0, .string ⟨#[]⟩, .string ⟨#[]⟩, .slice none 0 0, .slice none 0 0, .slice none 0 0, .slice none 0 0, .slice none 0 0, .int .i64 0, .string ⟨#[]⟩, .int .i64 0, .bool false, .int .i64 0, .string ⟨#[]⟩, .slice none 0 0, .slice none 0 0, .string ⟨#[]⟩, .string ⟨#[]⟩, .slice none 0 0] : Array Value).size = 19 := rfl
  go_wp2_with (first | (with_reducible refine (id (?_ : wpList _ _ _ (Oper.mk _ (Op.load _ _) _ _ _ _ :: _) _ _)); refine wpList_load_cells rfl _ _ rfl _ rfl _ _ _ HC1.out Tryz.underlying96 infoCond hr.2.1 ?_) | (with_reducible refine (id (?_ : wpList _ _ _ (Oper.mk _ (Op.store _ _ _) _ _ _ _ :: _) _ _)); refine wpList_store_row rfl _ _ _ rfl _ _ rfl rfl _ _ HR1.out infoCond rfl hr.2.1 hr.2.2 ?_))
  refine ret_cells rfl rfl (setRow_heap _ _ _ _ _ _ HR1.out) Tryz.underlying96 infoCond hr.2.1 rfl (Post.ok ((hb0.fra (hf.mono fun b hb => .inl hb)).row (by omega) _) hl (hp.row (by omega) _) ?_)
  exact hv.move ⟨by simp, fun b hb _ o => World.cell?_of_block (a := ⟨b, o, none⟩) (setRow_other _ _ _ _ (by simp only; omega))⟩ (fun b _ h => by omega)
end
end Go.Proofs.YtoeodjobggodcaaGreatDoor
