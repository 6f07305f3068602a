/- proctorref1's reader: value, a list. -/
import Derived.Test.YtciibcfmlhbnkaaGreatDoorRDec4
import Derived.Maps.AppendAt
import Derived.Deep.AppendLies
import Derived.Deep.RegionHeld3
namespace Go.Proofs.YtciibcfmlhbnkaaGreatDoor
open Go.RowKit

theorem np_x {Q : Exit → Act → World → Prop} {a : Act} {w : World} (h : Q .normal a w) : NoPanic Q .normal a w := h
theorem wp_append_at {P : Program} {w : World} {o : Oper} {a : Act} {K : Act → World → Prop} {Q : Exit → Act → World → Prop} (s x : Operand) (t : TypeId)
    (ho : o.op = .call { callee := .builtin .append, args := #[s, x], argTypes := #[t, t] })
    (base : Nat) (e : TypeId) (i : TypeInfo) (z : Value) (size bytes : Nat) (ht : P.underlying t = some (.slice e)) (hi : P.info? e = some i) (hz : i.zero = some z)
    (hsize : i.size = size) (hby : i.bytes = bytes) (hzs : z.cells.size = size) (hsz : 0 < size)
    (v : Value) (n : Nat) (xs : List Value) (hs : a.eval s = v) (hown : w.ownsRow base e size v n xs)
    (ad : Addr) (m c : Nat) (news : List Value) (hx : a.eval x = .slice (some ad) m c) (hl : news.length = m * size) (hnews : ∀ j u, news[j]? = some u → w.cell? (ad.add j) = some u) (h1 : ∀ u ∈ news, u.oneCell' = true)
    (h63 : n + m ≤ maxLen) (hbytes : (n + m) * bytes ≤ 140737488355328) (hbase : base ≤ w.heap.size)
    (h : ∀ v' w', w'.ownsRow base e size v' (n + m) (xs ++ news) → w.grownBy w' v.ownBlock → (v'.ownBlock = v.ownBlock ∨ v'.ownBlock = some w.heap.size) → K (a.put o.dst v') w') : o.wp P a w K Q := by
  obtain ⟨v', w', hr, h2, h3, h4, h5⟩ := run_append_own_at (P := P) w base t o.type e i z size bytes ht hi hz hsize hby hzs hsz v n xs hown ad m c news hl hnews h1 h63 hbytes hbase
  unfold Oper.wp execOp
  simp only [ho, resolve, invoke, builtin, Sem.run_bind, Sem.run_pure, Result.andThen_ok, List.map_toArray, List.map_cons, List.map_nil, hs, hx, hr]
  exact h v' w' h2 h3 h5

def putL (a : Act) (l : List (Nat × Value)) : Act := l.foldl (fun a x => a.put (some x.1) x.2) a
theorem share {P : Program} {md : Region.Mode} {ops : Array Oper} {Q : Exit → Act → World → Prop} {S : World → Prop} {fuel : Nat} {listed : Array Bool} {a : Act} {w : World} (F : Nat → World → List Value → Prop) (fu : Nat) (li : Array Bool) (sl : Nat → List Value → List (Nat × Value))
    (ht : ∀ z W us, F z W us → wpAnyH P md ops Q S fu li (putL a (sl z us)) W)
    (hh : (∀ z W us, F z W us → wpAnyH P md ops Q S fu li (putL a (sl z us)) W) → wpAnyH P md ops Q S fuel listed a w) : wpAnyH P md ops Q S fuel listed a w := hh ht

theorem VsB.lt {P : Nat → Prop} {w : World} : ∀ (n : Nat) (t : Tr) (sv : Value), VsB P w n t sv → VsB (fun b => P b ∧ b < w.heap.size) w n t sv
  | 0, _, _, h => h
  | n + 1, _, _, h => by
    refine ⟨h.1, ?_⟩
    obtain ⟨a0, cap, h1, h2, h3, h4⟩ := h.2
    refine ⟨a0, cap, h1, h2, h3, fun h0 => ?_⟩
    obtain ⟨b, o, e, hp, h5⟩ := h4 h0
    obtain ⟨s0, c0, -⟩ := h5 0 h0
    refine ⟨b, o, e, ⟨hp, cell_lt c0.1⟩, fun j hj => ?_⟩
    obtain ⟨sv', h6, h7⟩ := h5 j hj
    exact ⟨sv', h6, VsB.lt n _ _ h7⟩
/-- A row of values that is one's own, wherever it lies. -/
theorem own_lvb2 {P : Nat → Prop} {w : World} {base n k : Nat} {u : Value} {xs : List (Tr × Value)} (h : w.ownsRow base 28 5 u k (xs.flatMap cl5)) (hk : xs.length = k)
    (hx : ∀ x ∈ xs, VsB P w n x.1 x.2) (hg : ∀ g, base ≤ g → P g) : LvB P w (VsB P w n) (xs.map Prod.fst) u := by
  by_cases h0 : 0 < k
  · obtain ⟨g, cap, rfl, hb, -⟩ := h.form h0
    obtain ⟨h1, h2 | ⟨g', cap', cur, e, h3, h4, h5, h6, h7, h8⟩⟩ := h
    · omega
    · cases e
      have H : w.ownsRow base 28 5 (.slice (some ⟨g, 0, none⟩) k cap) k (xs.flatMap cl5) := ⟨h1, .inr ⟨g, cap, cur, rfl, h3, h4, h5, h6, h7, h8⟩⟩
      refine ⟨some ⟨g, 0, none⟩, cap, by rw [List.length_map, hk], by rw [List.length_map]; omega, h6, fun _ => ⟨g, 0, rfl, hg g h3, fun j hj => ?_⟩⟩
      rw [List.length_map] at hj
      have at5 : ∀ r u, r < 5 → (cl5 xs[j])[r]? = some u → w.cell? ⟨g, 0 + j * 5 + r, none⟩ = some u := by
        intro r u hr hu
        rw [Nat.zero_add, H.cellAt _ (by omega), cl5_at xs j r hr hj]
        exact hu
      refine ⟨xs[j].2, ?_, ?_⟩
      · rw [List.getElem_map]
        refine ⟨?_, ?_, ?_, ?_, ?_⟩
        · simpa using at5 0 _ (by omega) rfl
        · simpa using at5 1 _ (by omega) rfl
        · simpa using at5 2 _ (by omega) rfl
        · simpa using at5 3 _ (by omega) rfl
        · simpa using at5 4 _ (by omega) rfl
      · rw [List.getElem_map]
        exact hx _ (List.getElem_mem hj)
  · obtain rfl : k = 0 := by omega
    have hn : xs = [] := List.eq_nil_of_length_eq_zero hk
    subst hn
    obtain ⟨-, ⟨rfl, -⟩ | ⟨g', cap', cur, rfl, h3, h4, h5, h6, h7, h8⟩⟩ := h
    · exact ⟨none, 0, rfl, Nat.le_refl _, Nat.zero_le _, fun h => absurd h (Nat.lt_irrefl 0)⟩
    · exact ⟨_, cap', rfl, h5, h6, fun h => absurd h (Nat.lt_irrefl 0)⟩

def RValAt (q : Nat) : Prop := ∀ (D : Nat), q + D = 31 → ∀ (w : World) (R G off cap : Nat) (l : List UInt8), Rd w R G off cap l → l.length ≤ 1000000000 →
    Calls Tryz.prog 70 #[.pointer (some ⟨R, 0, none⟩), .int .i64 (D : Int)] w fun e w' => Tu R w w' ∧ ValP w R G (q + 1) e w' (rdec q l)

/-- Where the loop stands: N is the block of what is told, V that of v. -/
structure St (w : World) (R V : Nat) (wr : World) (k : Nat) (xs : List (Tr × Value)) (u : Value) : Prop where
  tu : Tu R w wr
  lt : V < wr.heap.size
  own : wr.ownsRow (V + 1) 28 5 u k (xs.flatMap cl5)
  v0 : wr.cell? ⟨V, 0, none⟩ = some (.int .i64 4)
  v1 : wr.cell? ⟨V, 1, none⟩ = some (.bool false)
  v2 : wr.cell? ⟨V, 2, none⟩ = some (.int .i64 0)
  v3 : wr.cell? ⟨V, 3, none⟩ = some (.string ⟨#[]⟩)
  v4 : wr.cell? ⟨V, 4, none⟩ = some u
  vf : wr.frozen? ⟨V, 4, none⟩ = false
  rc : ∀ j, wr.cell? ⟨w.heap.size, j, none⟩ = (w.alloc (.cells #[.int .i64 0, .bool false, .int .i64 0, .string ⟨#[]⟩, .slice none 0 0] 28)).cell? ⟨w.heap.size, j, none⟩
  rf : ∀ j, wr.frozen? ⟨w.heap.size, j, none⟩ = (w.alloc (.cells #[.int .i64 0, .bool false, .int .i64 0, .string ⟨#[]⟩, .slice none 0 0] 28)).frozen? ⟨w.heap.size, j, none⟩
/-- What the loop has read. -/
structure GotR (D : List UInt8 → Option (Tr × List UInt8)) (n V R G m : Nat) (l : List UInt8) (k : Nat) (wr : World) (xs : List (Tr × Value)) (u : Value) (off cap : Nat) (r : List UInt8) : Prop where
  rd : Rd wr R G off cap r
  short : r.length ≤ 1000000000
  eq : decL D m l = (decL D (m - k) r).map fun y => (xs.map Prod.fst ++ y.1, y.2)
  vs : ∀ x ∈ xs, VsB (fun b => V + 1 ≤ b ∧ some b ≠ u.ownBlock) wr n x.1 x.2
/-- Behind a call, and behind an alloc. -/
theorem St.via {w : World} {R V : Nat} {wr w' : World} {k : Nat} {xs : List (Tr × Value)} {u : Value} (h : St w R V wr k xs u) (hR : R < w.heap.size) (hV : w.heap.size < V) (t : Tu R wr w') : St w R V w' k xs u :=
  ⟨h.tu.trans t, Nat.lt_of_lt_of_le h.lt t.size, h.own.kept (row := some R) ⟨t.os, t.tape, t.output, t.size, fun b hb hr => t.block b hb (fun e => hr (by rw [e]))⟩ (by
      cases hb : u.ownBlock with
      | none => exact .inl rfl
      | some g => refine .inr (fun e => ?_); cases e; have := (h.own.lt _ hb).1; omega),
    (t.cell h.lt (by omega)).trans h.v0, (t.cell h.lt (by omega)).trans h.v1, (t.cell h.lt (by omega)).trans h.v2, (t.cell h.lt (by omega)).trans h.v3, (t.cell h.lt (by omega)).trans h.v4, (t.froz h.lt (by omega)).trans h.vf,
    fun j => (t.cell (Nat.lt_trans hV h.lt) (by omega)).trans (h.rc j), fun j => (t.froz (Nat.lt_trans hV h.lt) (by omega)).trans (h.rf j)⟩
/-- Behind the append and the store. -/
theorem St.put {w : World} {R V : Nat} {wr w' : World} {k k' : Nat} {xs ys : List (Tr × Value)} {u u' : Value} (h : St w R V wr k xs u) (hV : w.heap.size < V) (hg : wr.grownBy w' u.ownBlock) (ho : w'.ownsRow (V + 1) 28 5 u' k' (ys.flatMap cl5)) : St w R V (w'.setCell ⟨V, 4, none⟩ u') k' ys u' := by
  have hne : ∀ b, b ≤ V → some b ≠ u.ownBlock := fun b hb e => by have := (h.own.lt b e.symm).1; omega
  have hlt := h.lt
  have hb : ∀ b, b ≤ V → w'.heap[b]? = wr.heap[b]? := fun b hbv => hg.block b (by omega) (hne b hbv)
  have hc : ∀ b j, b ≤ V → w'.cell? ⟨b, j, none⟩ = wr.cell? ⟨b, j, none⟩ := fun b j hbv => World.cell?_of_block (a := ⟨b, j, none⟩) (hb b hbv)
  have hf : ∀ b j, b ≤ V → w'.frozen? ⟨b, j, none⟩ = wr.frozen? ⟨b, j, none⟩ := fun b j hbv => World.frozen?_of_block (a := ⟨b, j, none⟩) (hb b hbv)
  have htu : Tu R w w' := ⟨hg.os.trans h.tu.os, hg.tape.trans h.tu.tape, hg.output.trans h.tu.output, Nat.le_trans h.tu.size hg.size, fun b hbw hr => (hb b (by omega)).trans (h.tu.block b hbw hr)⟩
  refine ⟨htu.put (by simp only; omega) _, by have := hg.size; simp; omega, ?_, ?_, ?_, ?_, ?_, ?_, ?_, ?_, ?_⟩
  · refine ho.kept (row := some V) ⟨rfl, rfl, rfl, by simp, fun b _ hr => Below.heap_setCell _ _ _ b (fun e => hr (by rw [e]))⟩ ?_
    cases hb' : u'.ownBlock with
    | none => exact .inl rfl
    | some g => refine .inr (fun e => ?_); cases e; have := (ho.lt _ hb').1; omega
  · rw [cell_other _ _ _ _ _ _ (.inr (by decide)), hc V _ (Nat.le_refl _)]; exact h.v0
  · rw [cell_other _ _ _ _ _ _ (.inr (by decide)), hc V _ (Nat.le_refl _)]; exact h.v1
  · rw [cell_other _ _ _ _ _ _ (.inr (by decide)), hc V _ (Nat.le_refl _)]; exact h.v2
  · rw [cell_other _ _ _ _ _ _ (.inr (by decide)), hc V _ (Nat.le_refl _)]; exact h.v3
  · exact cell_same ((hc V 4 (Nat.le_refl _)).trans h.v4)
  · simpa using (hf V 4 (Nat.le_refl _)).trans h.vf
  · intro j; rw [cell_other _ _ _ _ _ _ (.inl (by omega)), hc _ _ (by omega)]; exact h.rc j
  · intro j
    have := (hf w.heap.size j (by omega)).trans (h.rf j)
    simpa using this
theorem Rd.grown2 {w w' : World} {R G off cap : Nat} {l : List UInt8} {row : Option Nat} (h : Rd w R G off cap l) (hg : w.grownBy w' row) (h1 : some R ≠ row) (h2 : some G ≠ row) : Rd w' R G off cap l := by
  have hR := hg.block R h.lt h1
  have hG := hg.block G h.ltG h2
  exact ⟨(World.cell?_of_block (a := ⟨R, 0, none⟩) hR).trans h.c0, (World.cell?_of_block (a := ⟨R, 1, none⟩) hR).trans h.c1, (World.frozen?_of_block (a := ⟨R, 0, none⟩) hR).trans h.f0, (World.frozen?_of_block (a := ⟨R, 1, none⟩) hR).trans h.f1, h.le, h.most,
    Nat.lt_of_lt_of_le h.lt hg.size, Nat.lt_of_lt_of_le h.ltG hg.size, h.ne, fun j hj => (World.cell?_of_block (a := ⟨G, off + j, none⟩) hG).trans (h.by_ j hj)⟩
theorem Bd.grown2 {w w' : World} {R : Nat} {row : Option Nat} (h : Bd w R) (hg : w.grownBy w' row) (h1 : some R ≠ row) : Bd w' R := by
  have hR := hg.block R h.lt h1
  obtain ⟨p, m, c, h0⟩ := h.c0
  exact ⟨⟨p, m, c, (World.cell?_of_block (a := ⟨R, 0, none⟩) hR).trans h0⟩, (World.cell?_of_block (a := ⟨R, 1, none⟩) hR).trans h.c1, (World.frozen?_of_block (a := ⟨R, 0, none⟩) hR).trans h.f0, (World.frozen?_of_block (a := ⟨R, 1, none⟩) hR).trans h.f1, Nat.lt_of_lt_of_le h.lt hg.size⟩
theorem St.form {w : World} {R V : Nat} {wr : World} {k : Nat} {xs : List (Tr × Value)} {u : Value} (h : St w R V wr k xs u) : ∃ p c, u = .slice p k c := by
  obtain ⟨-, ⟨rfl, rfl⟩ | ⟨g, cap, cur, rfl, -⟩⟩ := h.own
  · exact ⟨_, _, rfl⟩
  · exact ⟨_, _, rfl⟩
theorem own_form {w : World} {B k : Nat} {u : Value} {xs : List Value} (h : w.ownsRow B 28 5 u k xs) : ∃ p c, u = .slice p k c := by
  obtain ⟨-, ⟨rfl, rfl⟩ | ⟨g, cap, cur, rfl, -⟩⟩ := h
  · exact ⟨_, _, rfl⟩
  · exact ⟨_, _, rfl⟩
theorem ValP.form {w : World} {R G n : Nat} {e : Ending} {w' : World} {x : Option (Tr × List UInt8)} (h : ValP w R G n e w' x) : ∃ (k : Int) (b : Bool) (i : Int) (s : ByteArray) (p : Option Addr) (m c : Nat), e = .returned (.agg #[.int .i64 k, .bool b, .int .i64 i, .string s, .slice p m c]) := by
  cases x with
  | none => exact h.1
  | some x =>
    obtain ⟨sv, rfl, hv, -⟩ := h
    obtain ⟨xa, xc, rfl, -, -⟩ := hv.vs.form
    exact ⟨_, _, _, _, _, _, _, rfl⟩
/-- What stands behind one more. -/
theorem got_more {D : List UInt8 → Option (Tr × List UInt8)} {n V R G m : Nat} {l : List UInt8} {k : Nat} {wd w4 w5 : World} {xs : List (Tr × Value)} {u u' : Value} {off cap : Nat} {r : List UInt8} {o : Obj} {cs : List Value}
    (HG : GotR D n V R G m l k wd xs u off cap r) (hk : k < m) (hR : R < V) (hG : G < V) (hV : V < wd.heap.size) (ho : wd.ownsRow (V + 1) 28 5 u k cs) (t4 : Tu R wd w4) (hg : (w4.alloc o).grownBy w5 u.ownBlock) (hat : u'.ownBlock = u.ownBlock ∨ u'.ownBlock = some (w4.alloc o).heap.size)
    (hD : ∀ l t r, D l = some (t, r) → r.length ≤ l.length)
    {t : Tr} {sv : Value} {r' : List UInt8} (hd : D r = some (t, r')) (hv : VsB (wd.heap.size ≤ ·) w4 n t sv) {off' cap' : Nat} (hr : Rd w4 R G off' cap' r') :
    GotR D n V R G m l (k + 1) (w5.setCell ⟨V, 4, none⟩ u') (xs ++ [(t, sv)]) u' off' cap' r' := by
  have hown : ∀ b, some b = u.ownBlock → V + 1 ≤ b ∧ b < wd.heap.size := fun b e => ho.lt b e.symm
  have hs4 := t4.size
  have hs5 : (w4.alloc o).heap.size = w4.heap.size + 1 := by simp
  have hq : ∀ b, b < w4.heap.size → some b ≠ u.ownBlock → some b ≠ u'.ownBlock := fun b hb hn => by
    rcases hat with h | h
    · rw [h]; exact hn
    · rw [h, hs5]; intro e; cases e; omega
  have hkeep : ∀ b, b < w4.heap.size → b ≠ V → some b ≠ u.ownBlock → ∀ j, (w5.setCell ⟨V, 4, none⟩ u').cell? ⟨b, j, none⟩ = w4.cell? ⟨b, j, none⟩ := fun b hb hn ho j => by
    rw [cell_other _ _ _ _ _ _ (.inl hn), World.cell?_of_block (a := ⟨b, j, none⟩) (hg.block b (by omega) ho)]
    exact World.cell?_of_block (a := ⟨b, j, none⟩) (heap_alloc_old w4 o hb)
  have hl := Nat.le_trans (hD _ _ _ hd) HG.short
  refine ⟨?_, hl, by rw [decL_some HG.eq hk hd]; simp, fun x hx => ?_⟩
  · exact ((hr.al o).grown2 hg (fun e => by have := (hown _ e).1; omega) (fun e => by have := (hown _ e).1; omega)).put (by omega) (by omega) _
  · rcases List.mem_append.1 hx with hx | hx
    · refine VsB.move (P := fun b => (V + 1 ≤ b ∧ some b ≠ u.ownBlock) ∧ b < wd.heap.size) ?_ ?_ _ _ _ (VsB.lt _ _ _ (HG.vs x hx))
      · intro b hb hlt j
        rw [hkeep b (by omega) (by have := hb.1.1; omega) hb.1.2 j]
        exact t4.cell hb.2 (by have := hb.1.1; omega)
      · intro b hb
        exact ⟨hb.1.1, hq b (by have := hb.2; omega) hb.1.2⟩
    · obtain rfl : x = (t, sv) := by simpa using hx
      refine VsB.move (P := fun b => wd.heap.size ≤ b ∧ b < w4.heap.size) ?_ ?_ _ _ _ (VsB.lt _ _ _ hv)
      · intro b hb hlt j
        exact hkeep b hb.2 (by have := hb.1; omega) (fun e => by have := (hown _ e).2; have := hb.1; omega) j
      · intro b hb
        exact ⟨by have := hb.1; omega, hq b hb.2 (fun e => by have := (hown _ e).2; have := hb.1; omega)⟩
theorem bad_more {V R k : Nat} {wd w4 w5 : World} {u u' : Value} {o : Obj} {cs : List Value} (hR : R < V) (ho : wd.ownsRow (V + 1) 28 5 u k cs) (hg : (w4.alloc o).grownBy w5 u.ownBlock) (h : Bd w4 R) : Bd (w5.setCell ⟨V, 4, none⟩ u') R :=
  ((h.al o).grown2 hg (fun e => by have := (ho.lt _ e.symm).1; omega)).put (by omega) _
theorem rdec_le (room : Nat) (l : List UInt8) (t : Tr) (r : List UInt8) (h : rdec room l = some (t, r)) : r.length ≤ l.length := Nat.le_of_lt (rdec_lt room l t r h)
end Go.Proofs.YtciibcfmlhbnkaaGreatDoor
