import Derived.Test.YtoeodjobggodcaaGreatDoorJoin03
import Derived.Test.YtoeodjobggodcaaGreatDoorJoin02
import Derived.Test.YtoeodjobggodcaaGreatDoorJoin01
import Derived.Shelf.Strconv.ParseIntPublic10
import Derived.Test.YtoeodjobggodcaaGreatDoorProg
import Derived.Lib.ParseIntB
import Derived.Lib.SmallJoins
/- values: its closure. -/
namespace Go.Proofs.YtoeodjobggodcaaGreatDoor
section
open Go.RowKit
theorem wp_append_own {o : Oper} {a : Act} {w : World} {K : Act → World → Prop} {Q : Exit → Act → World → Prop} (s x : Operand) (t : TypeId)
  (ho : o.op = .call { callee := .builtin .append, args := #[s, x], argTypes := #[t, t] })
  (base : Nat) (e : TypeId) (i : TypeInfo) (z : Value) (size bytes : Nat) (ht : Tryz.prog.underlying t = some (.slice e)) (hi : Tryz.prog.info? e = some i) (hz : i.zero = some z)
  (hsize : i.size = size) (hby : i.bytes = bytes) (hzs : z.cells.size = size) (hsz : 0 < size)
  (v : Value) (n : Nat) (xs : List Value) (hs : a.eval s = v) (hown : w.ownsRow base e size v n xs)
  (ad : Addr) (m c : Nat) (news : List Value) (hx : a.eval x = .slice (some ad) m c) (hl : news.length = m * size) (hnews : ∀ j u, news[j]? = some u → w.cell? (ad.add j) = some u) (h1 : ∀ u ∈ news, u.oneCell' = true)
  (h63 : n + m ≤ maxLen) (hbytes : (n + m) * bytes ≤ 140737488355328) (hbase : base ≤ w.heap.size)
  (h : ∀ v' w', w'.ownsRow base e size v' (n + m) (xs ++ news) → w.grownBy w' v.ownBlock → (v'.ownBlock = v.ownBlock ∨ v'.ownBlock = some w.heap.size) → K (a.put o.dst v') w') :
  o.wp Tryz.prog a w K Q := by
 obtain ⟨v', w', hr, h2, h3, h4, h5⟩ := run_append_own_at (P := Tryz.prog) w base t o.type e i z size bytes ht hi hz hsize hby hzs hsz v n xs hown ad m c news hl hnews h1 h63 hbytes hbase
 unfold Oper.wp execOp
 simp only [ho, resolve, invoke, builtin, Sem.run_bind, Sem.run_pure, Result.andThen_ok, List.map_toArray, List.map_cons, List.map_nil, hs, hx, hr]
 exact h v' w' h2 h3 h5
def RowV (n B E : Nat) (sl el : TypeId) (sz m : Nat) (ds : List Dt) (w : World) (P : Nat → Prop) : Prop :=
 B < E ∧ E < n ∧ n ≤ w.heap.size ∧ ∃ sv vs, w.heap[E]? = some (.cells #[sv] sl (0, 0)) ∧ w.ownsRow n el sz sv m vs ∧ reps (fun b => n ≤ b ∧ some b ≠ sv.ownBlock) w ds vs ∧ ∀ b, P b → b ≠ E ∧ some b ≠ sv.ownBlock
theorem RowV.stb {n B E : Nat} {sl el : TypeId} {sz m : Nat} {ds : List Dt} : Stb B (RowV n B E sl el sz m ds) := by
 rintro w w' P P' ⟨h1, h2, h3, sv, vs, h4, h5, h6, h7⟩ hb hp
 have hne : ∀ k, sv.ownBlock = some k → k ≠ B := fun k hk => by have := (h5.lt k hk).1; omega
 have h5' : w'.ownsRow n el sz sv m vs := by
  refine ⟨h5.1, ?_⟩
  rcases h5.2 with hn | ⟨g, cap, cur, rfl, hb1, hgg, rest⟩
  ·exact .inl hn
  ·exact .inr ⟨g, cap, cur, rfl, hb1, row_bt hb (hne g rfl) hgg, rest⟩
 refine ⟨h1, h2, Nat.le_trans h3 hb.size, sv, vs, row_bt hb (by omega) h4, h5', reps.move (hb.kp (by omega)) (fun _ _ h => h) _ _ h6, fun b h => ?_⟩
 rcases hp b h with h | h
 ·exact h7 b h
 ·refine ⟨by omega, fun he => ?_⟩
  have := (h5.lt b he.symm).2
  omega
theorem RowV.push {n B E : Nat} {sl el : TypeId} {sz m : Nat} {ds es : List Dt} {W w1 : World} {P : Nat → Prop} {sv sv' : Value} {vs us : List Value} (h1 : B < E) (h2 : E < n) (h3 : n ≤ W.heap.size) (h4 : W.heap[E]? = some (.cells #[sv] sl (0, 0))) (h5 : W.ownsRow n el sz sv m vs)
  (h6 : reps (fun b => n ≤ b ∧ some b ≠ sv.ownBlock) W ds vs) (h7 : ∀ b, P b → b ≠ E ∧ some b ≠ sv.ownBlock) (hP : Kn B P W) (h8 : reps (fun b => n ≤ b ∧ some b ≠ sv.ownBlock) W es us)
  (ho : w1.ownsRow n el sz sv' (m + 1) (vs ++ us)) (hg : W.grownBy w1 sv.ownBlock) (hat : sv'.ownBlock = sv.ownBlock ∨ sv'.ownBlock = some W.heap.size) :
  RowV n B E sl el sz (m + 1) (ds ++ es) (w1.setCell ⟨E, 0, none⟩ sv') P ∧ Fr P W (w1.setCell ⟨E, 0, none⟩ sv') ∧ w1.heap[E]? = some (.cells #[sv] sl (0, 0)) := by
 have hEw : E < W.heap.size := by omega
 have hE1 : w1.heap[E]? = some (.cells #[sv] sl (0, 0)) := (hg.block E hEw (own_below h5 (.inl h2))).trans h4
 have hk : Kp (fun b => n ≤ b ∧ some b ≠ sv.ownBlock) W (w1.setCell ⟨E, 0, none⟩ sv') := by
  refine Kp.trans (Kp.grown hg (fun k hk => ?_)) (Kp.set _ _ _ (by simp only; omega))
  intro h
  exact h.2 hk.symm
 have hq : ∀ b, b < W.heap.size → (n ≤ b ∧ some b ≠ sv.ownBlock) → (n ≤ b ∧ some b ≠ sv'.ownBlock) := fun b hb h => by
  refine ⟨h.1, fun he => ?_⟩
  rcases hat with e | e
  ·exact h.2 (he.trans e)
  ·rw [e] at he
   cases he
   omega
 refine ⟨⟨h1, h2, by have := hg.size; simp; omega, sv', vs ++ us, heap_put hE1 sv', ownsRow_setCell_below ho h2 _, reps.append (reps.move hk hq _ _ h6) (reps.move hk hq _ _ h8), fun b hb => ⟨(h7 b hb).1, fun he => ?_⟩⟩, ?_, hE1⟩
 ·rcases hat with e | e
  ·exact (h7 b hb).2 (he.trans e)
  ·rw [e] at he
   cases he
   have := (hP _ hb).1
   omega
 ·exact ((Fr.refl P W).grown (fun b hb => ⟨(hP b hb).1, (h7 b hb).2⟩) hg).set (fun b hb => (h7 b hb).1) _
theorem infoTree' : (Tryz.prog.info? 103).map (fun i => (i.zero, i.size, i.bytes)) = some (some (.agg #[.int .i64 0, .string ⟨#[]⟩, .int .i64 0, .bool false, .int .i64 0, .string ⟨#[]⟩, .slice none 0 0, .slice none 0 0, .int .i64 0]), 9, 120) := by kernel_rfl
theorem te_reps {P : Nat → Prop} {w : World} {t : Te} {p6 p7 : Option Addr} {n6 n7 c6 c7 : Nat} (h6 : rep P w (.sl t.e.v.l.length (Vt.css t.e.v.l)) (.slice p6 n6 c6)) (h7 : rep P w (.sl t.e.a.length (Ex.css t.e.a)) (.slice p7 n7 c7)) :
  reps P w t.cs [.int .i64 t.e.op, .string t.e.t, .int .i64 t.e.v.k, .bool t.e.v.b, .int .i64 t.e.v.i, .string t.e.v.s, .slice p6 n6 c6, .slice p7 n7 c7, .int .i64 (t.d : Int)] :=
 reps.append (ex_reps h6 h7) (reps.cons (P := P) (w := w) (d := dI t.d) (rep.lit rfl) reps.nil)
def VJ (n B c1 E : Nat) (l : List Te) (w : World) (P : Nat → Prop) : Prop := Bx B c1 (.pointer (some ⟨B, 0, none⟩)) w ∧ c1 < n ∧ c1 ≠ E ∧ (∀ t ∈ l, t.d ≤ 30) ∧ RowV n B E 166 103 9 l.length (l.flatMap Te.cs) w P
theorem VJ.stb (n B c1 E : Nat) (l : List Te) : Stb B (VJ n B c1 E l) := fun w w' P P' h hb hp => ⟨h.1.bt hb, h.2.1, h.2.2.1, h.2.2.2.1, RowV.stb w w' P P' h.2.2.2.2 hb hp⟩
def VG (l : List Te) (r : List Lx) : Prop := l.length + r.length ≤ 10000
theorem VG.tail (l : List Te) (r : List Lx) (h : VG l r) : VG l r.tail := by unfold VG at *; simp; omega
theorem run_val1 (caps : Array Value) (w : World) : (callFunc 191 caps).run Tryz.prog w = .ok (.enter 191 caps) w := by simp [go_sem]
theorem Bx.set {B b g : Nat} {v u : Value} {i : Nat} {w : World} (h : Bx B b v w) (hg : b ≠ g) : Bx B b v (w.setCell ⟨g, i, none⟩ u) :=
 ⟨h.1, by simpa using h.2.1, (World.cell?_of_block (a := ⟨b, 0, none⟩) (Below.heap_setCell w _ u b hg)).trans h.2.2.1, (World.frozen?_of_block (a := ⟨b, 0, none⟩) (Below.heap_setCell w _ u b hg)).trans h.2.2.2⟩
theorem Bx.grown {B b : Nat} {v : Value} {w w' : World} {row : Option Nat} (h : Bx B b v w) (hg : w.grownBy w' row) (hb : some b ≠ row) : Bx B b v w' :=
 ⟨h.1, Nat.lt_of_lt_of_le h.2.1 hg.size, (World.cell?_of_block (a := ⟨b, 0, none⟩) (hg.block b h.2.1 hb)).trans h.2.2.1, (World.frozen?_of_block (a := ⟨b, 0, none⟩) (hg.block b h.2.1 hb)).trans h.2.2.2⟩
theorem PAt.grown {K : Nat} {w w' : World} {B : Nat} {r : List Lx} {o : Nat} (h : PAt K w B r o) {row : Option Nat} (hg : w.grownBy w' row) (hr : ∀ k, row = some k → K ≤ k) : PAt K w' B r o :=
 h.other hg.size (fun b hb => hg.block b (by have := h.size.1; omega) (fun e => by have := hr b e.symm; omega))
theorem PAt.set {K : Nat} {w : World} {B : Nat} {r : List Lx} {o : Nat} (h : PAt K w B r o) {g : Nat} (hg : K ≤ g) (i : Nat) (v : Value) : PAt K (w.setCell ⟨g, i, none⟩ v) B r o :=
 h.other (by simp) (fun b hb => Below.heap_setCell w _ v b (by simp only; omega))
set_option maxRecDepth 100000 in
set_option maxHeartbeats 4000000 in
theorem val1_clo {K B o : Nat} {m : List Lx → Rs Te} (hT : TC K B o 49 m) (n c1 E : Nat) (hE : K ≤ E) :
  Clo K B o VG (VJ n B c1 E) 191 #[.pointer (some ⟨E, 0, none⟩), .pointer (some ⟨c1, 0, none⟩)] (fun l r => (m r).bd fun t r => .ok (l ++ [t]) r) := by
 refine ⟨run_val1 _, ?_⟩
 rintro P l r w hP hg ⟨h1, h2, h3, h4, h5⟩ h
 show Calls _ _ _ _ (CPost K B o r.length P w _ _ ((m r).bd fun t r => .ok (l ++ [t]) r))
 have HT := fun w h => Hid.intro (hT r w h)
 have hmo : Tryz.prog.follows .mixedOrders = true := by kernel_rfl
 obtain ⟨x, r0, hr0, -⟩ := gd_cons h.gd
 have hrl : 0 < r.length := by rw [hr0]; simp
 obtain ⟨i0, hi, hz0, hz1, hz2⟩ := info_parts infoTree'
 have d1 := h1.2.2.1
 have HX := Hid.intro h1
 have HV := Hid.intro h5
 obtain ⟨hBE, hEn, hnw, sv, vs, he, hown, hrep, hpa⟩ := h5
 unfold VG at hg
 have hln : l.length ≤ 10000 := by omega
 have hsv : ∃ p c, sv = .slice p l.length c := own_form hown
 have e0 : w.cell? ⟨E, 0, none⟩ = some sv := (heap_cell he 0).1
 have hEw : E < w.heap.size := by omega
 have hmo' := hmo
 clear hr0
 cases hm : m r with
 | bad q =>
  rw [hm] at HT
  rw [bd_bad]
  clear hm
  go_enter Tryz.func191, Tryz.ntmps191
  go_wp2_with fail
  refine wp_region_held_drew (S := fun w' => w'.cell? ⟨c1, 0, none⟩ = some (.pointer (some ⟨B, 0, none⟩))) hmo d1 (fun hS => ?_)
  refine tq 1 3 (.pointer (some ⟨B, 0, none⟩)) hS ?_
  simp only [n3]
  refine on2 0 2 rfl (fun K' hK => ?_) rfl (fun K' hK => ?_)
  ·go_simp
   refine hK.out _ _ (hS) (fun hS => ?_)
   clear hK K'
   (try simp only [Act.put, n3])
   refine on1 2 rfl (fun K' hK => ?_)
   go_simp
   refine (HT w.drew (h.via (Below.refl _ _).drew)).out.mono ?_
   rintro e w4 ⟨hb4, rfl⟩
   exact ⟨rfl, ((Bt.refl B w).drew.trans hb4).fr hP, rfl⟩
  ·go_simp
   refine (HT w.drew (h.via (Below.refl _ _).drew)).out.mono ?_
   rintro e w4 ⟨hb4, rfl⟩
   exact ⟨rfl, ((Bt.refl B w).drew.trans hb4).fr hP, rfl⟩
 | ok t r1 =>
  rw [hm] at HT
  rw [bd_ok]
  clear hm
  go_enter Tryz.func191, Tryz.ntmps191
  go_wp2_with fail
  refine wp_region_held_drew (S := fun w' => w'.cell? ⟨c1, 0, none⟩ = some (.pointer (some ⟨B, 0, none⟩))) hmo d1 (fun hS => ?_)
  refine tq 1 3 (.pointer (some ⟨B, 0, none⟩)) hS ?_
  simp only [n3]
  refine on2 0 2 rfl (fun K' hK => ?_) rfl (fun K' hK => ?_)
  ·go_simp
   refine hK.out _ _ (hS) (fun hS => ?_)
   clear hK K'
   (try simp only [Act.put, n3])
   refine on1 2 rfl (fun K' hK => ?_)
   go_simp
   refine (HT w.drew (h.via (Below.refl _ _).drew)).out.mono ?_
   rintro e w4 ⟨hb4, hl4, hp4, v4, rfl, p6, n6, c6, p7, n7, c7, rfl, z6, z7, z8⟩
   have hbt4 : Bt B w w4 := (Bt.refl B w).drew.trans hb4
   have hx4 := HX.out.bt hbt4
   have hV4 := RowV.stb _ _ _ P HV.out hbt4 (fun _ h => .inl h)
   obtain ⟨-, -, hnw4, sv4, vs4, he4, hown4, hrep4, hpa4⟩ := hV4
   obtain rfl : sv4 = sv := by have := (row_bt hbt4 (by omega) he).symm.trans he4; simpa using this.symm
   have hc4 := hx4.2.2.1
   have hs4 : w.heap.size ≤ w4.heap.size := hb4.size
   go_wp2_with fail
   refine hK.out _ _ (hc4) (fun hS => ?_)
   clear hK K'
   (try simp only [Act.put, n3])
   refine on1 3 rfl (fun K' hK => ?_)
   go_simp
   go_wp2_with fail
   refine hK.out _ _ (((hx4.bt ((Bt.refl B w4).alloc _)).2.2.1)) (fun hS => ?_)
   clear hK K'
   (try simp only [Act.put, n3])
   -- append
   have hal : w4.heap.size < (w4.alloc (.cells #[.int .i64 t.e.op, .string t.e.t, .int .i64 t.e.v.k, .bool t.e.v.b, .int .i64 t.e.v.i, .string t.e.v.s, .slice p6 n6 c6, .slice p7 n7 c7, .int .i64 (t.d : Int)] 103)).heap.size := by simp
   refine on1 4 rfl (fun K' hK => ?_)
   rw [if_pos (by rfl)]
   obtain ⟨ps, cs, rfl⟩ := hsv
   refine wp_append_own _ _ 166 rfl n 103 i0 _ 9 120 Tryz.underlying166 hi hz0 hz1 hz2 rfl (by decide) _ _ _ rfl (hown4.alloc _) ⟨w4.heap.size, 0, none⟩ 1 1 [.int .i64 t.e.op, .string t.e.t, .int .i64 t.e.v.k, .bool t.e.v.b, .int .i64 t.e.v.i, .string t.e.v.s, .slice p6 n6 c6, .slice p7 n7 c7, .int .i64 (t.d : Int)] rfl rfl (fun j u hj => by rw [addr_add, Nat.zero_add, (heap_cell (heap_alloc_new w4 _) j).1, ← hj]; simp) (by simp [Value.oneCell']) (by unfold maxLen; omega) (by omega) (by simp; omega) (fun sv' w5 hown5 hgr5 hat5 => ?_)
   have hq : ∀ b, b < w4.heap.size → w.heap.size ≤ b → (n ≤ b ∧ some b ≠ Value.ownBlock (.slice ps l.length cs)) := fun b hb h => ⟨by omega, fun he => by have := (hown.lt b he.symm).2; omega⟩
   have htr := te_reps (rep.move (Kp.alloc w4 (.cells #[.int .i64 t.e.op, .string t.e.t, .int .i64 t.e.v.k, .bool t.e.v.b, .int .i64 t.e.v.i, .string t.e.v.s, .slice p6 n6 c6, .slice p7 n7 c7, .int .i64 (t.d : Int)] 103)) (fun b hb h => hq b hb h) _ _ z6) (rep.move (Kp.alloc w4 (.cells #[.int .i64 t.e.op, .string t.e.t, .int .i64 t.e.v.k, .bool t.e.v.b, .int .i64 t.e.v.i, .string t.e.v.s, .slice p6 n6 c6, .slice p7 n7 c7, .int .i64 (t.d : Int)] 103)) (fun b hb h => hq b hb h) _ _ z7)
   obtain ⟨hV5, hF5, hE5⟩ := RowV.push hBE hEn (by simp; omega) ((heap_alloc_old w4 _ (by omega)).trans he4) (hown4.alloc _) (reps.move (Kp.alloc w4 _) (fun _ _ h => h) _ _ hrep4) hpa4 ((hP.up hs4).up (by simp)) htr hown5 hgr5 hat5
   have hx5 := (hx4.bt ((Bt.refl B w4).alloc _)).grown hgr5 (own_below hown4 (.inl h2))
   obtain ⟨g5, k5, rfl⟩ := ownsRow_succ hown5
   have e5 : w5.cell? ⟨E, 0, none⟩ = some _ := (heap_cell hE5 0).1
   have f5 : w5.frozen? ⟨E, 0, none⟩ = false := (heap_cell hE5 0).2
   refine hK.out _ _ (hx5.2.2.1) (fun hS => ?_)
   clear hK K'
   (try simp only [Act.put, List.setIfInBounds_toArray])
   refine on1 5 rfl (fun K' hK => ?_)
   go_simp
   go_wp2_with fail
   refine hK.out _ _ ((hx5.set h3).2.2.1) (fun hS => ?_)
   clear hK K'
   (try simp only [Act.put, n3])
   refine wpAnyH_done (by kernel_rfl) ?_ _
   go_wp2_with fail
   go_end0
   refine ⟨(((hbt4.fr hP).alloc (hP.up hs4 · · |>.1) _).trans hF5), rfl, by unfold VG; simp; omega, ⟨hx5.set h3, h2, h3, fun t ht => ?_, by simpa [List.flatMap_append] using hV5⟩, ((hp4.via (below_al (Below.refl _ _) _)).grown hgr5 (fun k hk => by have := (hown4.lt k hk).1; omega)).set hE _ _, by omega⟩
   rcases List.mem_append.1 ht with h | h
   ·exact h4 t h
   ·simp at h; subst h; exact z8
  ·go_simp
   refine (HT w.drew (h.via (Below.refl _ _).drew)).out.mono ?_
   rintro e w4 ⟨hb4, hl4, hp4, v4, rfl, p6, n6, c6, p7, n7, c7, rfl, z6, z7, z8⟩
   have hbt4 : Bt B w w4 := (Bt.refl B w).drew.trans hb4
   have hx4 := HX.out.bt hbt4
   have hV4 := RowV.stb _ _ _ P HV.out hbt4 (fun _ h => .inl h)
   obtain ⟨-, -, hnw4, sv4, vs4, he4, hown4, hrep4, hpa4⟩ := hV4
   obtain rfl : sv4 = sv := by have := (row_bt hbt4 (by omega) he).symm.trans he4; simpa using this.symm
   have hc4 := hx4.2.2.1
   have hs4 : w.heap.size ≤ w4.heap.size := hb4.size
   go_wp2_with fail
   refine hK.out _ _ (hc4) (fun hS => ?_)
   clear hK K'
   (try simp only [Act.put, n3])
   refine on2 0 3 rfl (fun K' hK => ?_) rfl (fun K' hK => ?_)
   ·have e04 : w4.cell? ⟨E, 0, none⟩ = some sv4 := (heap_cell he4 0).1
    go_simp
    refine hK.out _ _ (hS) (fun hS => ?_)
    clear hK K'
    (try simp only [Act.put, n3])
    refine on1 3 rfl (fun K' hK => ?_)
    go_simp
    go_wp2_with fail
    refine hK.out _ _ (((hx4.bt ((Bt.refl B w4).alloc _)).2.2.1)) (fun hS => ?_)
    clear hK K'
    (try simp only [Act.put, n3])
    -- append
    have hal : w4.heap.size < (w4.alloc (.cells #[.int .i64 t.e.op, .string t.e.t, .int .i64 t.e.v.k, .bool t.e.v.b, .int .i64 t.e.v.i, .string t.e.v.s, .slice p6 n6 c6, .slice p7 n7 c7, .int .i64 (t.d : Int)] 103)).heap.size := by simp
    refine on1 4 rfl (fun K' hK => ?_)
    rw [if_pos (by rfl)]
    obtain ⟨ps, cs, rfl⟩ := hsv
    refine wp_append_own _ _ 166 rfl n 103 i0 _ 9 120 Tryz.underlying166 hi hz0 hz1 hz2 rfl (by decide) _ _ _ rfl (hown4.alloc _) ⟨w4.heap.size, 0, none⟩ 1 1 [.int .i64 t.e.op, .string t.e.t, .int .i64 t.e.v.k, .bool t.e.v.b, .int .i64 t.e.v.i, .string t.e.v.s, .slice p6 n6 c6, .slice p7 n7 c7, .int .i64 (t.d : Int)] rfl rfl (fun j u hj => by rw [addr_add, Nat.zero_add, (heap_cell (heap_alloc_new w4 _) j).1, ← hj]; simp) (by simp [Value.oneCell']) (by unfold maxLen; omega) (by omega) (by simp; omega) (fun sv' w5 hown5 hgr5 hat5 => ?_)
    have hq : ∀ b, b < w4.heap.size → w.heap.size ≤ b → (n ≤ b ∧ some b ≠ Value.ownBlock (.slice ps l.length cs)) := fun b hb h => ⟨by omega, fun he => by have := (hown.lt b he.symm).2; omega⟩
    have htr := te_reps (rep.move (Kp.alloc w4 (.cells #[.int .i64 t.e.op, .string t.e.t, .int .i64 t.e.v.k, .bool t.e.v.b, .int .i64 t.e.v.i, .string t.e.v.s, .slice p6 n6 c6, .slice p7 n7 c7, .int .i64 (t.d : Int)] 103)) (fun b hb h => hq b hb h) _ _ z6) (rep.move (Kp.alloc w4 (.cells #[.int .i64 t.e.op, .string t.e.t, .int .i64 t.e.v.k, .bool t.e.v.b, .int .i64 t.e.v.i, .string t.e.v.s, .slice p6 n6 c6, .slice p7 n7 c7, .int .i64 (t.d : Int)] 103)) (fun b hb h => hq b hb h) _ _ z7)
    obtain ⟨hV5, hF5, hE5⟩ := RowV.push hBE hEn (by simp; omega) ((heap_alloc_old w4 _ (by omega)).trans he4) (hown4.alloc _) (reps.move (Kp.alloc w4 _) (fun _ _ h => h) _ _ hrep4) hpa4 ((hP.up hs4).up (by simp)) htr hown5 hgr5 hat5
    have hx5 := (hx4.bt ((Bt.refl B w4).alloc _)).grown hgr5 (own_below hown4 (.inl h2))
    obtain ⟨g5, k5, rfl⟩ := ownsRow_succ hown5
    have e5 : w5.cell? ⟨E, 0, none⟩ = some _ := (heap_cell hE5 0).1
    have f5 : w5.frozen? ⟨E, 0, none⟩ = false := (heap_cell hE5 0).2
    refine hK.out _ _ (hx5.2.2.1) (fun hS => ?_)
    clear hK K'
    (try simp only [Act.put, List.setIfInBounds_toArray])
    refine on1 5 rfl (fun K' hK => ?_)
    go_simp
    go_wp2_with fail
    refine hK.out _ _ ((hx5.set h3).2.2.1) (fun hS => ?_)
    clear hK K'
    (try simp only [Act.put, n3])
    refine wpAnyH_done (by kernel_rfl) ?_ _
    go_wp2_with fail
    go_end0
    refine ⟨(((hbt4.fr hP).alloc (hP.up hs4 · · |>.1) _).trans hF5), rfl, by unfold VG; simp; omega, ⟨hx5.set h3, h2, h3, fun t ht => ?_, by simpa [List.flatMap_append] using hV5⟩, ((hp4.via (below_al (Below.refl _ _) _)).grown hgr5 (fun k hk => by have := (hown4.lt k hk).1; omega)).set hE _ _, by omega⟩
    rcases List.mem_append.1 ht with h | h
    ·exact h4 t h
    ·simp at h; subst h; exact z8
   ·go_simp
    go_wp2_with fail
    refine hK.out _ _ (((hx4.bt ((Bt.refl B w4).alloc _)).2.2.1)) (fun hS => ?_)
    clear hK K'
    (try simp only [Act.put, n3])
    refine on1 0 rfl (fun K' hK => ?_)
    have e04 : w4.cell? ⟨E, 0, none⟩ = some sv4 := (heap_cell he4 0).1
    have hEw4 : E < w4.heap.size := by omega
    go_simp
    refine hK.out _ _ (((hx4.bt ((Bt.refl B w4).alloc _)).2.2.1)) (fun hS => ?_)
    clear hK K'
    (try simp only [Act.put, n3])
    -- append
    have hal : w4.heap.size < (w4.alloc (.cells #[.int .i64 t.e.op, .string t.e.t, .int .i64 t.e.v.k, .bool t.e.v.b, .int .i64 t.e.v.i, .string t.e.v.s, .slice p6 n6 c6, .slice p7 n7 c7, .int .i64 (t.d : Int)] 103)).heap.size := by simp
    refine on1 4 rfl (fun K' hK => ?_)
    rw [if_pos (by rfl)]
    obtain ⟨ps, cs, rfl⟩ := hsv
    refine wp_append_own _ _ 166 rfl n 103 i0 _ 9 120 Tryz.underlying166 hi hz0 hz1 hz2 rfl (by decide) _ _ _ rfl (hown4.alloc _) ⟨w4.heap.size, 0, none⟩ 1 1 [.int .i64 t.e.op, .string t.e.t, .int .i64 t.e.v.k, .bool t.e.v.b, .int .i64 t.e.v.i, .string t.e.v.s, .slice p6 n6 c6, .slice p7 n7 c7, .int .i64 (t.d : Int)] rfl rfl (fun j u hj => by rw [addr_add, Nat.zero_add, (heap_cell (heap_alloc_new w4 _) j).1, ← hj]; simp) (by simp [Value.oneCell']) (by unfold maxLen; omega) (by omega) (by simp; omega) (fun sv' w5 hown5 hgr5 hat5 => ?_)
    have hq : ∀ b, b < w4.heap.size → w.heap.size ≤ b → (n ≤ b ∧ some b ≠ Value.ownBlock (.slice ps l.length cs)) := fun b hb h => ⟨by omega, fun he => by have := (hown.lt b he.symm).2; omega⟩
    have htr := te_reps (rep.move (Kp.alloc w4 (.cells #[.int .i64 t.e.op, .string t.e.t, .int .i64 t.e.v.k, .bool t.e.v.b, .int .i64 t.e.v.i, .string t.e.v.s, .slice p6 n6 c6, .slice p7 n7 c7, .int .i64 (t.d : Int)] 103)) (fun b hb h => hq b hb h) _ _ z6) (rep.move (Kp.alloc w4 (.cells #[.int .i64 t.e.op, .string t.e.t, .int .i64 t.e.v.k, .bool t.e.v.b, .int .i64 t.e.v.i, .string t.e.v.s, .slice p6 n6 c6, .slice p7 n7 c7, .int .i64 (t.d : Int)] 103)) (fun b hb h => hq b hb h) _ _ z7)
    obtain ⟨hV5, hF5, hE5⟩ := RowV.push hBE hEn (by simp; omega) ((heap_alloc_old w4 _ (by omega)).trans he4) (hown4.alloc _) (reps.move (Kp.alloc w4 _) (fun _ _ h => h) _ _ hrep4) hpa4 ((hP.up hs4).up (by simp)) htr hown5 hgr5 hat5
    have hx5 := (hx4.bt ((Bt.refl B w4).alloc _)).grown hgr5 (own_below hown4 (.inl h2))
    obtain ⟨g5, k5, rfl⟩ := ownsRow_succ hown5
    have e5 : w5.cell? ⟨E, 0, none⟩ = some _ := (heap_cell hE5 0).1
    have f5 : w5.frozen? ⟨E, 0, none⟩ = false := (heap_cell hE5 0).2
    refine hK.out _ _ (hx5.2.2.1) (fun hS => ?_)
    clear hK K'
    (try simp only [Act.put, List.setIfInBounds_toArray])
    refine on1 5 rfl (fun K' hK => ?_)
    go_simp
    go_wp2_with fail
    refine hK.out _ _ ((hx5.set h3).2.2.1) (fun hS => ?_)
    clear hK K'
    (try simp only [Act.put, n3])
    refine wpAnyH_done (by kernel_rfl) ?_ _
    go_wp2_with fail
    go_end0
    refine ⟨(((hbt4.fr hP).alloc (hP.up hs4 · · |>.1) _).trans hF5), rfl, by unfold VG; simp; omega, ⟨hx5.set h3, h2, h3, fun t ht => ?_, by simpa [List.flatMap_append] using hV5⟩, ((hp4.via (below_al (Below.refl _ _) _)).grown hgr5 (fun k hk => by have := (hown4.lt k hk).1; omega)).set hE _ _, by omega⟩
    rcases List.mem_append.1 ht with h | h
    ·exact h4 t h
    ·simp at h; subst h; exact z8
end
end Go.Proofs.YtoeodjobggodcaaGreatDoor
/- newParser. -/
namespace Go.Proofs.YtoeodjobggodcaaGreatDoor
section
open Go.RowKit
theorem beq_dat (t s : ByteArray) : (t == s) = true ↔ t.data = s.data := by
 obtain ⟨t⟩ := t
 obtain ⟨s⟩ := s
 show ByteArray.beq ⟨t⟩ ⟨s⟩ = true ↔ t = s
 unfold ByteArray.beq
 simp
def entL : List (ByteArray × Int) → Nat → List MapEntry
 | [], _ => []
 | (s, v) :: l, i => ⟨.string s, .int .i64 v, i⟩ :: entL l (i + 1)
theorem find_ent (t : ByteArray) : ∀ (l : List (ByteArray × Int)) (k i : Nat), match findO t l with
  | some v => ∃ j, Instr.findNow .string (.string t) (entL l k) i = some (some (j, .int .i64 v))
  | none => Instr.findNow .string (.string t) (entL l k) i = some none
 | [], _, _ => rfl
 | (s, v) :: l, k, i => by
  have h := find_ent t l (k + 1) (i + 1)
  have hs : Instr.sameNow .string (.string t) (.string s) = some (t.toList == s.toList) := by
   simp only [Instr.sameNow, Option.some.injEq]
   rw [ByteArray.toList_eq, ByteArray.toList_eq, Bool.eq_iff_iff, beq_dat]
   simp
  rw [findO]
  cases hb : (t.toList == s.toList) with
  | true =>
   simp only [if_true]
   exact ⟨i, by simp [entL, Instr.findNow, hs, hb]⟩
  | false =>
   simp only [Bool.false_eq_true, if_false]
   simp only [entL, Instr.findNow, hs, hb]
   exact h
theorem lx_own {base n g cap : Nat} {w : World} : ∀ (xs ps : List Lx), w.ownsRow base 47 4 (.slice (some ⟨g, 0, none⟩) n cap) n ((ps ++ xs).flatMap celL) → LxAt w g (ps.length * 4) xs
 | [], _, _ => trivial
 | x :: xs, ps, h => by
  have hlen : n * 4 = (ps ++ x :: xs).length * 4 := by rw [← celL_len, h.1]
  have hc : ∀ j u, (celL x)[j]? = some u → w.cell? ⟨g, ps.length * 4 + j, none⟩ = some u := fun j u hj => by
   have hj4 : j < 4 := by have := (List.getElem?_eq_some_iff.1 hj).1; simpa [celL] using this
   have hl : (ps ++ x :: xs).length = ps.length + 1 + xs.length := by simp; omega
   rw [h.cellAt _ (by rw [hlen, hl]; omega), List.flatMap_append, List.flatMap_cons, List.getElem?_append_right (by rw [celL_len]; omega), celL_len, Nat.add_sub_cancel_left, List.getElem?_append_left (by simpa [celL] using hj4)]
   exact hj
  refine ⟨⟨hc 0 _ rfl, hc 1 _ rfl, hc 2 _ rfl, hc 3 _ rfl⟩, ?_⟩
  have := lx_own xs (ps ++ [x]) (by simpa using h)
  have e : (ps ++ [x]).length * 4 = ps.length * 4 + 4 := by simp; omega
  rw [e] at this
  exact this
theorem mp_is {w : World} {m ck : Nat} (k : Nat) (h : w.heap[m]? = some (.map (entL (opsL.getD k []) 0).toArray ck)) : MpIs w m (opsL.getD k []) :=
 ⟨_, ck, h, fun t => by
  have := find_ent t (opsL.getD k []) 0 0
  cases h : findO t (opsL.getD k []) with
  | none => rw [h] at this; exact this
  | some v => rw [h] at this; exact this⟩
theorem push6 (a : Array Obj) (x0 x1 x2 x3 x4 x5 : Obj) : ∀ k (hk : k < 6), ((((((a.push x0).push x1).push x2).push x3).push x4).push x5)[a.size + k]? = some ([x0, x1, x2, x3, x4, x5][k]) := by
 intro k hk
 simp only [Array.getElem?_push, Array.size_push]
 match k, hk with
 | 0, _ => rw [if_neg (by omega), if_neg (by omega), if_neg (by omega), if_neg (by omega), if_neg (by omega), if_pos (by omega)]; rfl
 | 1, _ => rw [if_neg (by omega), if_neg (by omega), if_neg (by omega), if_neg (by omega), if_pos (by omega)]; rfl
 | 2, _ => rw [if_neg (by omega), if_neg (by omega), if_neg (by omega), if_pos (by omega)]; rfl
 | 3, _ => rw [if_neg (by omega), if_neg (by omega), if_pos (by omega)]; rfl
 | 4, _ => rw [if_neg (by omega), if_pos (by omega)]; rfl
 | 5, _ => rw [if_pos (by omega)]; rfl
theorem lev_at {W w : World} {K B : Nat} (hb : Below (W.heap.size + 6) (lvW W) w) (hK : W.heap.size + 6 ≤ K) (hB : W.heap.size + 6 ≤ B) (hE : ErrAt K w B) : LevAt K w B (.slice (some ⟨W.heap.size + 1 + 1 + 1 + 1 + 1, 0, none⟩) 5 5) := by
 refine ⟨_, rfl, by omega, by omega, fun i hi => ?_, hE⟩
 have hat : ∀ k o, k < 6 → (lvW W).heap[W.heap.size + k]? = some o → w.heap[W.heap.size + k]? = some o := fun k o hk ho => (hb.block _ (by omega)).trans ho
 have hmap : ∀ k, k < 5 → w.heap[W.heap.size + k]? = some (.map (entL (opsL.getD k []) 0).toArray (opsL.getD k []).length) := by
  intro k hk
  refine hat k _ (by omega) ?_
  match k, hk with
  | 0, _ => exact push6 W.heap _ _ _ _ _ _ 0 (by omega)
  | 1, _ => exact push6 W.heap _ _ _ _ _ _ 1 (by omega)
  | 2, _ => exact push6 W.heap _ _ _ _ _ _ 2 (by omega)
  | 3, _ => exact push6 W.heap _ _ _ _ _ _ 3 (by omega)
  | 4, _ => exact push6 W.heap _ _ _ _ _ _ 4 (by omega)
 have hsl : w.heap[W.heap.size + 5]? = some (.cells #[.map (some W.heap.size), .map (some (W.heap.size + 1)), .map (some (W.heap.size + 2)), .map (some (W.heap.size + 3)), .map (some (W.heap.size + 4))] 137 (0, 0)) := by
  refine hat 5 _ (by omega) ?_
  exact push6 W.heap _ _ _ _ _ _ 5 (by omega)
 refine ⟨W.heap.size + i, ?_, by omega, by omega, mp_is i (hmap i hi)⟩
 have hc := (heap_cell hsl i).1
 rw [show W.heap.size + 1 + 1 + 1 + 1 + 1 = W.heap.size + 5 by omega, hc]
 match i, hi with
 | 0, _ => rfl
 | 1, _ => rfl
 | 2, _ => rfl
 | 3, _ => rfl
 | 4, _ => rfl
theorem lvW_size (W : World) : (lvW W).heap.size = W.heap.size + 6 := by simp [lvW]
theorem lvW_below (W : World) : Below W.heap.size W (lvW W) := below_al (below_al (below_al (below_al (below_al (below_al (Below.refl _ _) _) _) _) _) _) _
set_option maxRecDepth 100000 in
set_option maxHeartbeats 2000000 in
theorem new_any' {base : Nat} {w : World} {v : Value} {xs : List Lx} (hv : w.ownsRow base 47 4 v xs.length (xs.flatMap celL)) (hb : base ≤ w.heap.size) (hn : xs.length ≤ 4096) (len : Nat) :
  Calls Tryz.prog 32 #[v, .int .i64 (len : Int)] w fun e w' => ∃ w5 g5 k5, w5.ownsRow base 47 4 (.slice (some ⟨g5, 0, none⟩) (xs.length + 1) k5) (xs.length + 1) (xs.flatMap celL ++ celL ⟨-1, ⟨#[]⟩, len, len⟩) ∧ Below base w w5 ∧ w' = (lvW w5).alloc (.cells #[.slice (some ⟨g5, 0, none⟩) (xs.length + 1) k5, .int .i64 0, .slice (some ⟨w5.heap.size + 1 + 1 + 1 + 1 + 1, 0, none⟩) 5 5] 113) ∧ e = .returned (.pointer (some ⟨(lvW w5).heap.size, 0, none⟩)) := by
 obtain ⟨i0, hi, hz0, hz1, hz2⟩ := info_parts infoL
 go_enter Tryz.func32, Tryz.ntmps32
 go_wp2_with (first | (at_builtin; refine wpList_append_own_at _ rfl _ _ 43 rfl base 47 i0 _ 4 40 Tryz.underlying43 hi hz0 hz1 hz2 rfl (by decide) _ _ _ rfl (hv.alloc _) ⟨w.heap.size, 0, none⟩ 1 1 (celL ⟨-1, ⟨#[]⟩, len, len⟩) rfl rfl (fun j u hj => by rw [addr_add, Nat.zero_add, (heap_cell (heap_alloc_new w _) j).1, ← hj]; simp [celL]) (by simp [celL, Value.oneCell']) (by unfold maxLen; omega) (by omega) (by simp; omega) ?_; intro v' w5 hown hgr _ hat; obtain ⟨g5, k5, rfl⟩ := ownsRow_succ hown) | (go_at_call 55; refine (levels_any _).mono ?_; rintro e w6 ⟨rfl, hw6⟩; subst w6))
 go_ret
 have hgr : World.grownBy _ w5 v.ownBlock := hgr
 refine ⟨w5, g5, k5, hown, ⟨hgr.os, hgr.tape, hgr.output, Nat.le_trans (by simp) hgr.size, fun k hk => ?_⟩, rfl, rfl⟩
 exact (hgr.block k (by simp; omega) (fun e => by have := (hv.lt k e.symm).1; omega)).trans (heap_alloc_old _ _ (by omega))
theorem new_any {base : Nat} {w : World} {v : Value} {xs : List Lx} (hv : w.ownsRow base 47 4 v xs.length (xs.flatMap celL)) (hb : base ≤ w.heap.size) (hn : xs.length ≤ 4096) (len : Nat) (hgd : Gd (xs ++ [⟨-1, ⟨#[]⟩, len, len⟩]))
  (hE : 2 < base) (hev : ∃ ev, w.cell? ⟨2, 0, none⟩ = some ev ∧ (ev = .nilIface ∨ ∃ te pe, ev = .iface te pe)) :
  Calls Tryz.prog 32 #[v, .int .i64 (len : Int)] w fun e w' => ∃ B, e = .returned (.pointer (some ⟨B, 0, none⟩)) ∧ base ≤ B ∧ PAt (B + 1) w' B (xs ++ [⟨-1, ⟨#[]⟩, len, len⟩]) 0 ∧ Below base w w' := by
 refine (new_any' hv hb hn len).mono ?_
 rintro e w' ⟨w5, g5, k5, hown, hb5, rfl, rfl⟩
 have hs := lvW_size w5
 have hs5 := hb5.size
 have hbw : Below base w ((lvW w5).alloc (.cells #[.slice (some ⟨g5, 0, none⟩) (xs.length + 1) k5, .int .i64 0, .slice (some ⟨w5.heap.size + 1 + 1 + 1 + 1 + 1, 0, none⟩) 5 5] 113)) :=
  (hb5.trans ((lvW_below w5).mono (by omega))).alloc (by rw [hs]; omega) _
 have hB := heap_alloc_new (lvW w5) (.cells #[.slice (some ⟨g5, 0, none⟩) (xs.length + 1) k5, .int .i64 0, .slice (some ⟨w5.heap.size + 1 + 1 + 1 + 1 + 1, 0, none⟩) 5 5] 113)
 have hg := hown.lt g5 rfl
 have hcap : xs.length + 1 ≤ k5 ∧ k5 ≤ maxLen := by
  rcases hown.2 with ⟨h', _⟩ | ⟨g', cap', cur, h', _, _, h1, h2, _⟩
  ·cases h'
  ·cases h'; exact ⟨h1, h2⟩
 have hl1 : (xs ++ [(⟨-1, ⟨#[]⟩, len, len⟩ : Lx)]).length = xs.length + 1 := by simp
 refine ⟨_, rfl, by omega, ⟨g5, 0, k5, .slice (some ⟨w5.heap.size + 1 + 1 + 1 + 1 + 1, 0, none⟩) 5 5, ⟨?_, (heap_cell hB 1).1, (heap_cell hB 2).1⟩, ⟨(heap_cell hB 0).2, (heap_cell hB 1).2⟩, by rw [hl1]; exact hcap.1, hcap.2, by omega, by omega, by omega, by simp, ⟨by omega, by rw [hl1]; omega⟩, ?_, ?_, hgd⟩, hbw⟩
 ·rw [hl1]; exact (heap_cell hB 0).1
 ·refine LxAt.same (w := w5) (fun o => ?_) _ _ (lx_own (xs ++ [⟨-1, ⟨#[]⟩, len, len⟩]) [] (n := xs.length + 1) (base := base) (cap := k5) (by rw [List.nil_append, List.flatMap_append]; simpa using hown))
  refine World.cell?_of_block ?_
  exact (heap_alloc_old _ _ (by show g5 < _; omega)).trans ((lvW_below w5).block _ hg.2)
 ·refine lev_at (W := w5) ((Below.refl _ _).alloc (by omega) _) (by omega) (by omega) ⟨by omega, by omega, ?_⟩
  obtain ⟨ev, h1, h2⟩ := hev
  exact ⟨ev, (hbw.cell (p := ⟨_, 0, none⟩) hE).trans h1, h2⟩
end
end Go.Proofs.YtoeodjobggodcaaGreatDoor
/- values. -/
namespace Go.Proofs.YtoeodjobggodcaaGreatDoor
section
open Go.RowKit
set_option maxRecDepth 100000 in
set_option maxHeartbeats 4000000 in
theorem values_any {K B o : Nat} {T : Ps Te} (hT : TC K B (o + 1) 49 (T (o + 1))) {r : List Lx} {w : World} (h : PAt K w B r o) :
  Calls Tryz.prog 182 #[.pointer (some ⟨B, 0, none⟩)] w (Post K B o (r.length - 1) w (valuesM T o r) fun w' t v => TeV (fun b => w.heap.size ≤ b) w' t v) := by
 have hmf : ∀ (fn : Fn) (first cap : Array Value) (w : World), (Instr.makeFunc fn first cap).run Tryz.prog w = .ok (.func fn first cap) w := fun _ _ _ _ => rfl
 have hsz := h.size
 have hlen := h.len
 obtain ⟨x, r', rfl, -⟩ := gd_cons h.gd
 have H0 := Hid.intro h
 obtain ⟨g, off, cap, lv, ⟨c0, -, -⟩, -, q1, q2, -, q4, q5, q6, -, ⟨⟨g0, g1, g2, g3⟩, -⟩, -, -⟩ := h
 rw [List.length_cons] at c0 q1
 have hB : B < w.heap.size := by omega
 have hgw : g < w.heap.size := by omega
 have hb0 : Bt B w (((w.alloc (.cells #[.pointer (some ⟨B, 0, none⟩)] 55)).alloc z9).alloc (.cells #[.slice none 0 0] 166)) := (((Bt.refl B w).alloc _).alloc _).alloc _
 have hX0 : Bx B w.heap.size (.pointer (some ⟨B, 0, none⟩)) (((w.alloc (.cells #[.pointer (some ⟨B, 0, none⟩)] 55)).alloc z9).alloc (.cells #[.slice none 0 0] 166)) := ((Bx.new w _ _ (by omega)).bt ((Bt.refl B _).alloc _)).bt ((Bt.refl B _).alloc _)
 have hR0 : (((w.alloc (.cells #[.pointer (some ⟨B, 0, none⟩)] 55)).alloc z9).alloc (.cells #[.slice none 0 0] 166)).heap[w.heap.size + 1]? = some z9 := (heap_alloc_old _ _ (by simp)).trans (heap_alloc2_new w _ _)
 have hE0 : (((w.alloc (.cells #[.pointer (some ⟨B, 0, none⟩)] 55)).alloc z9).alloc (.cells #[.slice none 0 0] 166)).heap[w.heap.size + 2]? = some (.cells #[.slice none 0 0] 166) := by
  have := heap_alloc_new ((w.alloc (.cells #[.pointer (some ⟨B, 0, none⟩)] 55)).alloc z9) (.cells #[.slice none 0 0] 166)
  rw [World.size_alloc, World.size_alloc] at this
  exact this
 have hal : (((w.alloc (.cells #[.pointer (some ⟨B, 0, none⟩)] 55)).alloc z9).alloc (.cells #[.slice none 0 0] 166)).heap.size = w.heap.size + 3 := by simp
 have hRow : RowV (w.heap.size + 3) B (w.heap.size + 2) 166 103 9 ([] : List Te).length (([] : List Te).flatMap Te.cs) (((w.alloc (.cells #[.pointer (some ⟨B, 0, none⟩)] 55)).alloc z9).alloc (.cells #[.slice none 0 0] 166)) (fun b => (b < w.heap.size ∧ b ≠ B) ∨ b = w.heap.size + 1) :=
  ⟨by omega, by omega, by rw [hal]; omega, _, [], hE0, World.ownsRow_nil _ _ _ _, reps.nil, fun b hb => ⟨by omega, by simp [Value.ownBlock]⟩⟩
 have HL := Hid.intro (list_any VG.tail (VJ.stb (w.heap.size + 3) B w.heap.size (w.heap.size + 2)) (val1_clo hT (w.heap.size + 3) w.heap.size (w.heap.size + 2) (by omega)) (P := fun b => (b < w.heap.size ∧ b ≠ B) ∨ b = w.heap.size + 1) (s := []) (r := x :: r')
  (w := ((w.alloc (.cells #[.pointer (some ⟨B, 0, none⟩)] 55)).alloc z9).alloc (.cells #[.slice none 0 0] 166)) (fun b hb => ⟨by rw [hal]; omega, by omega⟩) (by unfold VG; simp at hlen ⊢; omega)
  ⟨hX0, by omega, by omega, fun t ht => by simp at ht, hRow⟩
  (H0.out.via (below_al (below_al (below_al (Below.refl _ _) _) _) _)) ⟨#[91]⟩ ⟨#[93]⟩)
 unfold valuesM
 show Calls _ _ _ _ (Post K B o ((x :: r').length - 1) w ((listM ⟨#[91]⟩ ⟨#[93]⟩ o (fun l r => (T (o + 1) r).bd fun t r => .ok (l ++ [t]) r) [] (x :: r')).bd fun l r' => nodeM x.a { op := 5 } l r') _)
 unfold z9 at HL hR0 hb0 hX0 hE0 hal
 cases h1 : listM ⟨#[91]⟩ ⟨#[93]⟩ o (fun l r => (T (o + 1) r).bd fun t r => .ok (l ++ [t]) r) [] (x :: r') with
 | bad q =>
  rw [h1] at HL
  rw [bd_bad]
  clear h1
  go_enter Tryz.func182, Tryz.ntmps182
  go_wp2_with fail
  refine HL.out.mono ?_
  rintro e w2 ⟨hf2, rfl⟩
  exact ⟨rfl, hb0.fra (hf2.mono fun b hb => .inl hb), rfl⟩
 | ok l r2 =>
  rw [h1] at HL
  rw [bd_ok]
  clear h1
  go_enter Tryz.func182, Tryz.ntmps182
  go_wp2_with fail
  refine HL.out.mono ?_
  rintro e w2 ⟨hf2, rfl, hg2, ⟨j1, j2, j3, j4, k1, k2, k3, sv, vs, k4, k5, k6, k7⟩, hp2, hl2⟩
  have hbt2 := hb0.fra (hf2.mono fun b hb => .inl hb)
  have hR2 : w2.heap[w.heap.size + 1]? = _ := (hf2.block _ (.inr rfl)).trans hR0
  have hRlt : w.heap.size + 1 < w2.heap.size := (Array.getElem?_eq_some_iff.1 hR2).1
  have e2 : w2.cell? ⟨w.heap.size + 2, 0, none⟩ = some sv := (heap_cell k4 0).1
  have hE2 : w.heap.size + 2 < w2.heap.size := (Array.getElem?_eq_some_iff.1 k4).1
  go_wp2_with fail
  unfold VG at hg2
  have hrs : rep (fun b => w.heap.size + 2 < b) w2 (.sl l.length (l.flatMap Te.cs)) sv := rep.own k5 (reps.move Kp.refl (fun b _ h => by omega) _ _ k6) (fun g hg => by have := (k5.lt g hg).1; omega)
  refine (node_any x.a 5 ⟨#[]⟩ l hrs j4 (by omega)).mono ?_
  rintro e w4 ⟨hb4, he4⟩
  have hbt : Bt B w w4 := hbt2.trans (Bt.below hb4)
  by_cases h30 : 30 < deepM l
  ·rw [if_pos h30] at he4
   subst he4
   refine ⟨rfl, hbt, ?_⟩
   rw [show nodeM x.a { op := 5 } l r2 = .bad x.a from if_pos h30]
  ·rw [if_neg h30] at he4
   obtain ⟨v6, rfl, y6, a6, e6, y7, a7, e7, rfl, z6, z7, z8⟩ := he4
   have HR4 := Hid.intro (row_call hb4 hRlt hR2)
   go_wp2_with (with_reducible refine (id (?_ : wpList _ _ _ (Oper.mk _ (Op.store _ _ _) _ _ _ _ :: _) _ _)); refine wpList_store_row rfl _ _ _ rfl _ _ rfl rfl _ _ HR4.out infoTree rfl rfl (by simp [Value.oneCell']) ?_)
   refine ret_cells rfl rfl (setRow_heap _ _ _ _ _ _ HR4.out) Tryz.underlying103 infoTree rfl rfl ?_
   rw [show nodeM x.a { op := 5 } l r2 = .ok ⟨{ op := 5, a := l.map Te.e }, deepM l⟩ r2 from if_neg h30]
   refine Post.ok (hbt.row (by omega) _) (by simpa using hl2) ((hp2.via hb4).row (by omega) _) ?_
   have hv4 : TeV (fun b => w.heap.size + 2 ≤ b) w4 ⟨{ op := 5, a := l.map Te.e }, deepM l⟩ _ := ⟨y6, a6, e6, y7, a7, e7, rfl, rep.move Kp.refl (fun b _ h => by omega) _ _ z6, rep.move Kp.refl (fun b _ h => by omega) _ _ z7, z8⟩
   exact (hv4.res (g := w.heap.size + 1) (by omega) _).move Kp.refl (fun b _ h => by omega)
end
end Go.Proofs.YtoeodjobggodcaaGreatDoor
section
/- strconv.ParseInt's contract, laid at this program (the shelf's own plain text). -/
namespace Go.Proofs
open Go.Shelf
def Tryz.laysPI_ren : Go.Shelf.Ren := ⟨fun | 174 => 168 | 247 => 177 | 245 => 178 | 287 => 186 | 279 => 187 | 280 => 188 | 281 => 189 | 282 => 190 | 321 => 194 | 322 => 195 | 316 => 166 | 171 => 197 | 205 => 196 | 243 => 199 | 246 => 201 | 283 => 202 | 284 => 203 | 285 => 204 | 286 => 205 | 129 => 207 | 317 => 206 | 318 => 208 | 319 => 209 | 320 => 210 | 337 => 211 | 338 => 212 | n => n, fun | 9 => 9 | 3 => 3 | 2 => 2 | 75 => 170 | 85 => 171 | 4 => 4 | 167 => 180 | 5 => 5 | 53 => 181 | 175 => 182 | 46 => 184 | 168 => 185 | 37 => 158 | 0 => 0 | 210 => 190 | 21 => 21 | 127 => 175 | 145 => 195 | 143 => 193 | 171 => 198 | 173 => 201 | 212 => 205 | 51 => 206 | 20 => 20 | 213 => 207 | 232 => 210 | 233 => 211 | 80 => 116 | n => n, fun | 15 => 1 | 16 => 2 | 17 => 3 | 18 => 4 | 19 => 5 | n => n⟩
theorem Tryz.laysPI : Go.Proofs.LaysC.n174 Tryz.prog Tryz.laysPI_ren := {
 mixed := by kernel_rfl
 f129 := Tryz.func207.trans (congrArg some (by kernel_rfl))
 f171 := Tryz.func197.trans (congrArg some (by kernel_rfl))
 f174 := Tryz.func168.trans (congrArg some (by kernel_rfl))
 f205 := Tryz.func196.trans (congrArg some (by kernel_rfl))
 f243 := Tryz.func199.trans (congrArg some (by kernel_rfl))
 f245 := Tryz.func178.trans (congrArg some (by kernel_rfl))
 f246 := Tryz.func201.trans (congrArg some (by kernel_rfl))
 f247 := Tryz.func177.trans (congrArg some (by kernel_rfl))
 f279 := Tryz.func187.trans (congrArg some (by kernel_rfl))
 f280 := Tryz.func188.trans (congrArg some (by kernel_rfl))
 f281 := Tryz.func189.trans (congrArg some (by kernel_rfl))
 f282 := Tryz.func190.trans (congrArg some (by kernel_rfl))
 f283 := Tryz.func202.trans (congrArg some (by kernel_rfl))
 f284 := Tryz.func203.trans (congrArg some (by kernel_rfl))
 f285 := Tryz.func204.trans (congrArg some (by kernel_rfl))
 f286 := Tryz.func205.trans (congrArg some (by kernel_rfl))
 f287 := Tryz.func186.trans (congrArg some (by kernel_rfl))
 f316 := Tryz.func166.trans (congrArg some (by kernel_rfl))
 f317 := Tryz.func206.trans (congrArg some (by kernel_rfl))
 f318 := Tryz.func208.trans (congrArg some (by kernel_rfl))
 f319 := Tryz.func209.trans (congrArg some (by kernel_rfl))
 f320 := Tryz.func210.trans (congrArg some (by kernel_rfl))
 f321 := Tryz.func194.trans (congrArg some (by kernel_rfl))
 f322 := Tryz.func195.trans (congrArg some (by kernel_rfl))
 f337 := Tryz.func211.trans (congrArg some (by kernel_rfl))
 f338 := Tryz.func212.trans (congrArg some (by kernel_rfl))
 t0 := Tryz.underlying0
 a0 := Tryz.isAgg0
 z0 := Tryz.sizeOf0
 v0 := Tryz.zeroValue0
 t2 := Tryz.underlying2
 a2 := Tryz.isAgg2
 z2 := Tryz.sizeOf2
 v2 := Tryz.zeroValue2
 t3 := Tryz.underlying3
 a3 := Tryz.isAgg3
 z3 := Tryz.sizeOf3
 v3 := Tryz.zeroValue3
 t4 := Tryz.underlying4
 a4 := Tryz.isAgg4
 z4 := Tryz.sizeOf4
 v4 := Tryz.zeroValue4
 t5 := Tryz.underlying5
 a5 := Tryz.isAgg5
 z5 := Tryz.sizeOf5
 v5 := Tryz.zeroValue5
 t9 := Tryz.underlying9
 a9 := Tryz.isAgg9
 z9 := Tryz.sizeOf9
 v9 := Tryz.zeroValue9
 t20 := Tryz.underlying20
 a20 := Tryz.isAgg20
 z20 := Tryz.sizeOf20
 v20 := Tryz.zeroValue20
 t21 := Tryz.underlying21
 a21 := Tryz.isAgg21
 z21 := Tryz.sizeOf21
 v21 := Tryz.zeroValue21
 t37 := Tryz.underlying158
 a37 := Tryz.isAgg158
 z37 := Tryz.sizeOf158
 v37 := Tryz.zeroValue158
 t46 := Tryz.underlying184
 a46 := Tryz.isAgg184
 z46 := Tryz.sizeOf184
 v46 := Tryz.zeroValue184
 t51 := Tryz.underlying206
 a51 := Tryz.isAgg206
 z51 := Tryz.sizeOf206
 v51 := Tryz.zeroValue206
 t53 := Tryz.underlying181
 a53 := Tryz.isAgg181
 z53 := Tryz.sizeOf181
 v53 := Tryz.zeroValue181
 t75 := Tryz.underlying170
 a75 := Tryz.isAgg170
 z75 := Tryz.sizeOf170
 v75 := Tryz.zeroValue170
 t85 := Tryz.underlying171
 a85 := Tryz.isAgg171
 z85 := Tryz.sizeOf171
 v85 := Tryz.zeroValue171
 t127 := Tryz.underlying175
 a127 := Tryz.isAgg175
 z127 := Tryz.sizeOf175
 v127 := Tryz.zeroValue175
 t143 := Tryz.underlying193
 a143 := Tryz.isAgg193
 z143 := Tryz.sizeOf193
 v143 := Tryz.zeroValue193
 t145 := Tryz.underlying195
 a145 := Tryz.isAgg195
 z145 := Tryz.sizeOf195
 v145 := Tryz.zeroValue195
 t167 := Tryz.underlying180
 a167 := Tryz.isAgg180
 z167 := Tryz.sizeOf180
 v167 := Tryz.zeroValue180
 t168 := Tryz.underlying185
 a168 := Tryz.isAgg185
 z168 := Tryz.sizeOf185
 v168 := Tryz.zeroValue185
 t171 := Tryz.underlying198
 a171 := Tryz.isAgg198
 z171 := Tryz.sizeOf198
 v171 := Tryz.zeroValue198
 t173 := Tryz.underlying201
 a173 := Tryz.isAgg201
 z173 := Tryz.sizeOf201
 v173 := Tryz.zeroValue201
 t175 := Tryz.underlying182
 a175 := Tryz.isAgg182
 z175 := Tryz.sizeOf182
 v175 := Tryz.zeroValue182
 t210 := Tryz.underlying190
 a210 := Tryz.isAgg190
 z210 := Tryz.sizeOf190
 v210 := Tryz.zeroValue190
 t212 := Tryz.underlying205
 a212 := Tryz.isAgg205
 z212 := Tryz.sizeOf205
 v212 := Tryz.zeroValue205
 t213 := Tryz.underlying207
 a213 := Tryz.isAgg207
 z213 := Tryz.sizeOf207
 t232 := Tryz.underlying210
 a232 := Tryz.isAgg210
 z232 := Tryz.sizeOf210
 v232 := Tryz.zeroValue210
 t233 := Tryz.underlying211
 a233 := Tryz.isAgg211
 z233 := Tryz.sizeOf211
 v233 := Tryz.zeroValue211
 g15 := by kernel_rfl
 g16 := by kernel_rfl
 g17 := by kernel_rfl
 g18 := by kernel_rfl
 g19 := by kernel_rfl
 t80 := Tryz.underlying116
 a80 := Tryz.isAgg116
 z80 := Tryz.sizeOf116
 v80 := Tryz.zeroValue116
 i0 := by kernel_rfl
 i2 := by kernel_rfl
 i3 := by kernel_rfl
 i4 := by kernel_rfl
 i5 := by kernel_rfl
 i9 := by kernel_rfl
 i20 := by kernel_rfl
 i21 := by kernel_rfl
 i37 := by kernel_rfl
 i46 := by kernel_rfl
 i51 := by kernel_rfl
 i53 := by kernel_rfl
 i75 := by kernel_rfl
 i80 := by kernel_rfl
 i85 := by kernel_rfl
 i127 := by kernel_rfl
 i143 := by kernel_rfl
 i145 := by kernel_rfl
 i167 := by kernel_rfl
 i168 := by kernel_rfl
 i171 := by kernel_rfl
 i173 := by kernel_rfl
 i175 := by kernel_rfl
 i210 := by kernel_rfl
 i212 := by kernel_rfl
 i232 := by kernel_rfl
 i233 := by kernel_rfl
 m15 := by kernel_rfl
 m16 := by kernel_rfl
 m17 := by kernel_rfl
 m18 := by kernel_rfl
 m19 := by kernel_rfl
 c0 := by kernel_rfl
 c2 := by kernel_rfl
 c3 := by kernel_rfl
 c4 := by kernel_rfl
 c5 := by kernel_rfl
 c9 := by kernel_rfl
 c20 := by kernel_rfl
 c21 := by kernel_rfl
 c37 := by kernel_rfl
 c46 := by kernel_rfl
 c51 := by kernel_rfl
 c53 := by kernel_rfl
 c75 := by kernel_rfl
 c80 := by kernel_rfl
 c85 := by kernel_rfl
 c127 := by kernel_rfl
 c143 := by kernel_rfl
 c145 := by kernel_rfl
 c167 := by kernel_rfl
 c168 := by kernel_rfl
 c171 := by kernel_rfl
 c173 := by kernel_rfl
 c175 := by kernel_rfl
 c210 := by kernel_rfl
 c212 := by kernel_rfl
 c213 := by kernel_rfl
 c232 := by kernel_rfl
 c233 := by kernel_rfl }
end Go.Proofs
end
/- What digits say; what ParseInt makes of them. -/
namespace Go.Proofs.YtoeodjobggodcaaGreatDoor
section
open Go.RowKit
theorem digV_le : ∀ (l : List UInt8) (n : Nat), n ≤ digV l n
 | [], n => Nat.le_refl _
 | c :: l, n => Nat.le_trans (by omega) (digV_le l (n * 10 + (c.toNat - 48)))
theorem parseM_digs : ∀ (l : List UInt8) (n : Nat), (∀ c ∈ l, 48 ≤ c.toNat ∧ c.toNat ≤ 57) → n ≤ 18446744073709551615 → Lib.parseUintM 18446744073709551615 n l = if digV l n ≤ 18446744073709551615 then .ok (digV l n) else .range
 | [], n, _, hn => by rw [Lib.parseUintM, digV, if_pos hn]
 | c :: l, n, h, hn => by
  have hc := h c (List.mem_cons_self ..)
  have hl := digV_le l (n * 10 + (c.toNat - 48))
  rw [Lib.parseUintM, if_pos hc, digV]
  by_cases h1 : 1844674407370955162 ≤ n
  ·rw [if_pos h1, if_neg (by omega)]
  ·rw [if_neg h1]
   by_cases h2 : 18446744073709551615 < n * 10 + (c.toNat - 48)
   ·rw [if_pos h2, if_neg (by omega)]
   ·rw [if_neg h2]
    exact parseM_digs l _ (fun c hc => h c (List.mem_cons_of_mem _ hc)) (by omega)
theorem parseInt_digs (l : List UInt8) (h0 : l ≠ []) (h : ∀ c ∈ l, isDig c = true) : Lib.parseIntB 64 l = if digV l 0 ≤ 9223372036854775807 then .ok ((digV l 0 : Nat) : Int) else .range := by
 have h : ∀ c ∈ l, 48 ≤ c.toNat ∧ c.toNat ≤ 57 := fun c hc => by
  have := h c hc
  unfold isDig digB at this
  have := of_decide_eq_true this
  omega
 cases l with
 | nil => exact absurd rfl h0
 | cons c r =>
  have hc := h c (List.mem_cons_self ..)
  have e1 : (2 : Nat) ^ (64 - 1) = 9223372036854775808 := by decide
  have e2 : (2 : Nat) ^ 64 - 1 = 18446744073709551615 := by decide
  have n43 : ¬ (c.toNat = 43 ∨ c.toNat = 45) := by omega
  have n45 : ¬ c.toNat = 45 := by omega
  have e3 : Lib.parseUintB 64 (c :: r) = if digV (c :: r) 0 ≤ 18446744073709551615 then .ok (digV (c :: r) 0) else .range := by
   unfold Lib.parseUintB
   rw [if_neg h0, e2, parseM_digs _ _ h (by omega)]
  simp only [Lib.parseIntB, n43, if_false, e1, e3]
  generalize digV (c :: r) 0 = m
  by_cases h1 : m ≤ 18446744073709551615
  ·by_cases h2 : m ≤ 9223372036854775807
   ·simp only [if_pos h1, if_pos h2, n45]
    have : ¬ 9223372036854775808 ≤ m := by omega
    simp [this]
   ·simp only [if_pos h1, if_neg h2, n45]
    have : 9223372036854775808 ≤ m := by omega
    simp [this]
  ·have h2 : ¬ m ≤ 9223372036854775807 := by omega
   simp only [if_neg h1, if_neg h2]
end
end Go.Proofs.YtoeodjobggodcaaGreatDoor
/- number. -/
namespace Go.Proofs.YtoeodjobggodcaaGreatDoor
section
open Go.RowKit
theorem pint_ok (s : ByteArray) (hs : s.size ≤ 1000000) (v : Int) (h : Lib.parseIntB 64 s.data.toList = .ok v) (w : World) :
  Calls Tryz.prog 168 #[.string s, .int .i64 10, .int .i64 64] w fun e w' => e = .returned (.tuple #[.int .i64 v, .nilIface]) ∧ Below w.heap.size w w' := by
 refine Calls.mono (Any.strconv_ParseInt_10_at64_ok Tryz.laysPI s (by omega) v h w) ?_
 rintro e w' ⟨rfl, rfl | ⟨t, rfl⟩⟩
 ·exact ⟨rfl, Below.refl _ _⟩
 ·exact ⟨rfl, Joins.below_bytesWorld _ _ _ _ (Nat.le_refl _)⟩
theorem pint_range (s : ByteArray) (hs : s.size ≤ 1000000) (h : Lib.parseIntB 64 s.data.toList = .range) (w : World) (ev : Value) (hv : w.cell? ⟨2, 0, none⟩ = some ev) (hev : ev = .nilIface ∨ ∃ te pe, ev = .iface te pe) :
  Calls Tryz.prog 168 #[.string s, .int .i64 10, .int .i64 64] w fun e w' => (∃ n v, e = .returned (.tuple #[.int .i64 v, .iface 185 (.pointer (some ⟨n, 0, none⟩))])) ∧ Below w.heap.size w w' := by
 refine Calls.mono (Any.strconv_ParseInt_10_at64_range Tryz.laysPI s (by omega) h ev w hv hev) ?_
 rintro e w' ⟨n, rfl, -, -, hb⟩
 exact ⟨⟨n, _, rfl⟩, hb⟩
theorem PAt.err {K : Nat} {w : World} {B : Nat} {r : List Lx} {o : Nat} (h : PAt K w B r o) : ∃ ev, w.cell? ⟨2, 0, none⟩ = some ev ∧ (ev = .nilIface ∨ ∃ te pe, ev = .iface te pe) := by
 obtain ⟨g, off, cap, lv, -, -, -, -, -, -, -, -, -, -, ⟨l, -, -, -, -, -, -, h⟩, -⟩ := h
 exact h
set_option maxRecDepth 100000 in
set_option maxHeartbeats 2000000 in
theorem number_any {K B o : Nat} {r : List Lx} {w : World} (h : PAt K w B r o) (most : Nat) (_hmost : most ≤ 9223372036854775807) :
  Calls Tryz.prog 147 #[.pointer (some ⟨B, 0, none⟩), .int .i64 (most : Int)] w (Post K B o (r.length - 1) w (numM most r) fun _ n v => v = .int .i64 (n : Int)) := by
 obtain ⟨x, r', rfl, -⟩ := gd_cons h.gd
 have H0 := Hid.intro h
 have HB := fun w h => Hid.intro (bar_any (K := K) (B := B) (o := o) (r := x :: r') (w := w) h)
 simp only [hA] at HB
 by_cases hk : x.k = 2
 ·have HK := fun w h => Hid.intro (kind_yes (K := K) (B := B) (o := o) (x := x) (r := r') (w := w) h)
  rw [hk] at HK
  obtain ⟨hne, hsz, hdig⟩ := gd_dig h.gd hk
  have hpi := parseInt_digs _ hne hdig
  have hft := fld_t 2 x.a x.e x.t
  by_cases hbig : digV x.t.data.toList 0 ≤ 9223372036854775807
  ·rw [if_pos hbig] at hpi
   have HP := fun w => Hid.intro (pint_ok x.t hsz _ hpi w)
   have hm0 : numM most (x :: r') = if digV x.t.data.toList 0 ≤ most then .ok (digV x.t.data.toList 0) r' else .bad x.a := by simp [numM, hk, hbig]
   rw [hm0]
   generalize digV x.t.data.toList 0 = m at *
   by_cases hlt : m ≤ most
   ·rw [if_pos hlt]
    have hlt' : ¬ ((most : Int) < (m : Int)) := by omega
    have HN := fun w h => Hid.intro (next_any (K := K) (B := B) (o := o) (x := x) (r := r') (w := w) h (by omega))
    clear hk hbig hm0 h hne hdig hpi hlt
    go_enter Tryz.func147, Tryz.ntmps147
    go_wp2_with (first | (go_at_call 56; refine (HK _ H0.out).out.mono ?_; rintro e w1 ⟨rfl, hw1⟩) | (go_at_call 168; refine (HP _).out.mono ?_; rintro e w2 ⟨rfl, hw2⟩) | (go_at_call 58; refine (HN _ ((H0.out.via hw1).via hw2)).out.mono ?_; rintro e w3 ⟨rfl, hb3, hp3⟩))
    go_ret
    exact Post.ok (((Bt.below hw1).trans (Bt.below hw2)).trans hb3) (by simp) hp3 rfl
   ·rw [if_neg hlt]
    have hlt' : (most : Int) < (m : Int) := by omega
    clear hk hbig hm0 h hne hdig hpi hlt
    go_enter Tryz.func147, Tryz.ntmps147
    go_wp2_with (first | (go_at_call 56; refine (HK _ H0.out).out.mono ?_; rintro e w1 ⟨rfl, hw1⟩) | (go_at_call 168; refine (HP _).out.mono ?_; rintro e w2 ⟨rfl, hw2⟩) | (go_at_call 39; refine (HB _ ((H0.out.via hw1).via hw2)).out.mono ?_; rintro e w3 ⟨rfl, hw3⟩; subst w3))
    exact ⟨rfl, Post.bad ((Bt.below hw1).trans (Bt.below hw2))⟩
  ·rw [if_neg hbig] at hpi
   have hm : numM most (x :: r') = .bad x.a := by simp [numM, hbig]
   rw [hm]
   obtain ⟨ev, hv, hev⟩ := h.err
   have HP := fun w (h : PAt K w B (x :: r') o) => h.err.elim fun ev he => Hid.intro (pint_range x.t hsz hpi w ev he.1 he.2)
   clear hk hbig hm h hne hdig hpi hv hev
   go_enter Tryz.func147, Tryz.ntmps147
   go_wp2_with (first | (go_at_call 56; refine (HK _ H0.out).out.mono ?_; rintro e w1 ⟨rfl, hw1⟩) | (go_at_call 168; refine (HP _ (H0.out.via hw1)).out.mono ?_; rintro e w2 ⟨⟨n, v, rfl⟩, hw2⟩) | (go_at_call 39; refine (HB _ ((H0.out.via hw1).via hw2)).out.mono ?_; rintro e w3 ⟨rfl, hw3⟩; subst w3))
   exact ⟨rfl, Post.bad ((Bt.below hw1).trans (Bt.below hw2))⟩
 ·have hm : numM most (x :: r') = .bad x.a := by simp [numM, hk]
  rw [hm]
  have HK := fun w h => Hid.intro (kind_no (K := K) (B := B) (o := o) (x := x) (r := r') (w := w) h hk)
  clear hk hm h
  go_enter Tryz.func147, Tryz.ntmps147
  go_wp2_with (first | (go_at_call 56; refine (HK _ H0.out).out.mono ?_; rintro e w1 ⟨rfl, hw1⟩))
  exact ⟨rfl, Post.bad (Bt.below hw1)⟩
end
end Go.Proofs.YtoeodjobggodcaaGreatDoor
