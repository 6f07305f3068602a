/- add: a class taken into a table. -/
import Derived.Test.YtbfnlnjnaepiiaaCConc
import Derived.Test.YtbfnlnjnaepiiaaCUp
import Derived.Maps.RangeRun
import Derived.Deep.RegionWith
import Derived.Deep.RegionHeld3
import Derived.Deep.RegionLaw
import Derived.BigQuiet
import Derived.Deep.QuietTactic
namespace Go.Proofs.Ytbfnlnjnaepiiaa
open Go.RowKit Go.Maps Go.ChangeMaps

/-- The fields that come, held against those before them. -/
def okFs : List Fl → List Fl → Bool
  | _, [] => true
  | pre, f :: fs => nameB f.n && decide (placeI pre f.n < 0) && okFs (pre ++ [f]) fs
def supB (T : List Cl) (s : ByteArray) : Bool := eqS s ⟨#[]⟩ || hasT T s
def addB (T : List Cl) (c : Cl) : Bool := nameB c.n && !hasT T c.n && supB T c.s && decide ((fieldsT T c.s).length + c.f.length ≤ 62) && okFs (fieldsT T c.s) c.f
def full (T : List Cl) (c : Cl) : Cl := ⟨c.n, c.s, fieldsT T c.s ++ c.f⟩

/-- The blocks of fields of a table under way. -/
def Own (base : Nat) (osv : Value) (g r : Nat) (b : Nat) : Prop := base ≤ b ∧ osv.ownBlock ≠ some b ∧ b ≠ g ∧ b ≠ r
/-- The table T under way, at the block g. -/
def TabB (base : Nat) (w : World) (g : Nat) (T : List Cl) : Prop :=
  ∃ r es osv, base ≤ g ∧ base ≤ r ∧ w.heap[g]? = some (.cells #[osv, .map (some r)] 72 (0, 0)) ∧ w.heap[r]? = some (.map es T.length) ∧ es.toList.map (·.born) = List.range T.length ∧
    Ens (EnAt (Own base osv g r) w) T es.toList ∧ w.ownsRow base 9 1 osv T.length (T.map (fun c => .string c.n)) ∧ (∀ c ∈ T, c.f.length ≤ 62)

theorem own_sv {P : Nat → Prop} {w : World} {base : Nat} {v : Value} {n : Nat} {xs : List ByteArray} (h : w.ownsRow base 9 1 v n (xs.map Value.string)) (hP : ∀ b, base ≤ b → P b) : Sv P w xs v := by
  have hn : xs.length = n := by have := h.1; simpa using this
  subst hn
  rcases h.2 with ⟨hv, h0⟩ | ⟨g, cap, cur, hv, hb, -, h1, h2, -⟩
  · refine ⟨none, 0, by simp [hv, h0], by simp [h0], by unfold maxLen; omega, fun hp => by omega⟩
  · refine ⟨some ⟨g, 0, none⟩, cap, by simp [hv], by simpa using h1, h2, fun _ => ⟨g, 0, rfl, hP g hb, fun j hj => ?_⟩⟩
    have := h.cells (g := g) (by rw [hv]; rfl) j (.string xs[j]) (by simp [hj])
    rw [addr_add] at this
    exact this

theorem TabB.tab {base : Nat} {w : World} {g : Nat} {T : List Cl} (h : TabB base w g T) : Tab (base ≤ ·) w g T := by
  obtain ⟨r, es, osv, h1, h2, h3, h4, -, h5, h6, -⟩ := h
  refine ⟨r, es, _, osv, by simp [World.cell?, h3], by simp [World.cell?, h3], h4, h5.mono ?_, own_sv (by rw [List.map_map]; exact h6) (fun _ h => h)⟩
  rintro c e ⟨k1, sv, k2, k3⟩
  exact ⟨k1, sv, k2, k3.move (fun _ _ _ _ => rfl) (fun b hb => hb.1)⟩

theorem own_below {w w' : World} {base n : Nat} {v : Value} {e : TypeId} {size : Nat} {xs : List Value} (h7 : w.ownsRow base e size v n xs) (hb : Below w.heap.size w w') : w'.ownsRow base e size v n xs := by
  refine ⟨h7.1, ?_⟩
  rcases h7.2 with hn | ⟨q, cap, cur, hv, hq, hc, rest⟩
  · exact .inl hn
  · exact .inr ⟨q, cap, cur, hv, hq, (hb.block q (lt_of_heap hc)).trans hc, rest⟩

theorem TabB.below {base : Nat} {w w' : World} {g : Nat} {T : List Cl} (h : TabB base w g T) (hb : Below w.heap.size w w') : TabB base w' g T := by
  obtain ⟨r, es, osv, h1, h2, h3, h4, h5, h6, h7, h8⟩ := h
  exact ⟨r, es, osv, h1, h2, (hb.block g (lt_of_heap h3)).trans h3, (hb.block r (lt_of_heap h4)).trans h4, h5, h6.mono (EnAt.below hb), own_below h7 hb, h8⟩

theorem TabB.base {base : Nat} {w : World} {g : Nat} {T : List Cl} (h : TabB base w g T) : base ≤ w.heap.size := by
  obtain ⟨r, es, osv, h1, h2, h3, -⟩ := h
  have := lt_of_heap h3
  omega

theorem below_drewN {B n : Nat} {a w : World} (h : Below B a w) : Below B a (w.drewN n) := ⟨h.os, h.tape, h.output, h.size, h.block⟩
theorem below_block {B r : Nat} {a w : World} (h : Below B a w) (hr : B ≤ r) (o : Obj) : Below B a (setBlock w r o) := by
  refine ⟨h.os, h.tape, h.output, by simpa [setBlock] using h.size, fun k hk => ?_⟩
  rw [← h.block k hk]
  simp only [setBlock]
  rw [Array.getElem?_setIfInBounds_ne (by omega)]

theorem run_put (w : World) (r : Nat) (es : Array MapEntry) (clock : Nat) (hb : w.heap[r]? = some (.map es clock)) (x : ByteArray) (v : Value) (h : Instr.findNow .string (.string x) es.toList 0 = some none) :
    (Instr.mapUpdate 70 (.map (some r)) (.string x) v).run Try.prog w = .ok () (setBlock w r (.map (es.push { key := .string x, val := v, born := clock }) (clock + 1))) := by
  simp [Instr.mapUpdate, run_underlying und_map, MapKept.run_getObj_map hb, check_str, Instr.findKey, run_underlying Try.underlying9, h, MapKept.run_setObj_map _ hb, Result.andThen, setBlock]

theorem zeroS' : (Try.prog.info? 9).map (fun i => (i.zero.map (fun z => z.cells.size), i.size, i.bytes)) = some (some 1, 1, 16) := by kernel_rfl
theorem zeroS : ∃ i z, Try.prog.info? 9 = some i ∧ i.zero = some z ∧ z.cells.size = 1 ∧ i.size = 1 ∧ i.bytes = 16 := by
  have h := zeroS'
  cases hi : Try.prog.info? 9 with
  | none => rw [hi] at h; cases h
  | some i =>
    rw [hi] at h
    simp at h
    obtain ⟨⟨z, h1, h1'⟩, h2, h3⟩ := h
    exact ⟨i, z, rfl, h1, h1', h2, h3⟩

/-- A class more: the table's blocks behind it. -/
theorem TabB.push {base : Nat} {wr W : World} {g r : Nat} {es : Array MapEntry} {osv osv' : Value} {T : List Cl} (d : Cl) (fsv : Value)
    (g1 : base ≤ g) (g2 : base ≤ r) (g5 : es.toList.map (·.born) = List.range T.length) (g6 : Ens (EnAt (Own base osv g r) wr) T es.toList) (g8 : ∀ c ∈ T, c.f.length ≤ 62)
    (hg : W.heap[g]? = some (.cells #[osv', .map (some r)] 72 (0, 0))) (hr : W.heap[r]? = some (.map (es.push ⟨.string d.n, .agg #[.string d.s, fsv], T.length⟩) (T.length + 1)))
    (ho : W.ownsRow base 9 1 osv' (T.length + 1) (T.map (fun c => .string c.n) ++ [.string d.n]))
    (hk : ∀ b, b < wr.heap.size → osv.ownBlock ≠ some b → b ≠ g → b ≠ r → W.heap[b]? = wr.heap[b]?)
    (hob : osv'.ownBlock = osv.ownBlock ∨ ∃ q, osv'.ownBlock = some q ∧ wr.heap.size ≤ q) (hd : d.f.length ≤ 62) (hf : Fv (Own base osv g r) wr d.f fsv) : TabB base W g (T ++ [d]) := by
  have hF : ∀ fs sv, Fv (Own base osv g r) wr fs sv → Fv (Own base osv' g r) W fs sv := by
    rintro fs sv ⟨a0, cap, h1, h2, h3, h4⟩
    refine ⟨a0, cap, h1, h2, h3, fun h0 => ?_⟩
    obtain ⟨b, o, e, ⟨p1, p2, p3, p4⟩, h5⟩ := h4 h0
    have hlt := cell_lt (h5 0 h0).1
    refine ⟨b, o, e, ⟨p1, ?_, p3, p4⟩, fun j hj => (h5 j hj).at (fun o => World.cell?_of_block (hk b hlt p2 p3 p4))⟩
    rcases hob with h | ⟨q, h, hq⟩
    · rw [h]; exact p2
    · rw [h]; intro e; cases e; omega
  refine ⟨r, _, osv', g1, g2, hg, by simpa using hr, ?_, ?_, by simpa using ho, ?_⟩
  · rw [Array.toList_push, List.map_append, g5, List.length_append, List.length_singleton, List.range_succ]; rfl
  · rw [Array.toList_push]
    exact Ens.snoc ⟨rfl, fsv, rfl, hF _ _ hf⟩ (g6.mono (fun c e ⟨k1, sv, k2, k3⟩ => ⟨k1, sv, k2, hF _ _ k3⟩))
  · intro c hc
    rcases List.mem_append.1 hc with h | h
    · exact g8 c h
    · simp at h; subst h; exact hd

theorem heap_set2 {w : World} {b : Nat} {u v : Value} {t : TypeId} (h : w.heap[b]? = some (.cells #[u, v] t (0, 0))) (x : Value) : (w.setCell ⟨b, 0, none⟩ x).heap[b]? = some (.cells #[x, v] t (0, 0)) := by
  have hl := lt_of_heap h
  simp only [World.setCell]
  rw [Array.getElem?_modify]
  simp [h]

/-- Behind 't.order = append(t.order, name)'. -/
theorem app_facts {base : Nat} {wr w4 : World} {g r g4 cap4 n : Nat} {es : Array MapEntry} {osv : Value} {nm : ByteArray} {xs : List Value} (hbase : base ≤ wr.heap.size)
    (h3 : wr.heap[g]? = some (.cells #[osv, .map (some r)] 72 (0, 0))) (h4 : wr.heap[r]? = some (.map es n)) (hog : osv.ownBlock ≠ some g) (hor : osv.ownBlock ≠ some r) (hgr : g ≠ r) (hbg : base ≤ g) (hbo : ∀ k, osv.ownBlock = some k → base ≤ k)
    (O4 : w4.ownsRow base 9 1 (.slice (some ⟨g4, 0, none⟩) (n + 1) cap4) (n + 1) xs) (gr4 : (wr.alloc (.cells #[.string nm] 9)).drew.grownBy w4 osv.ownBlock) :
    (w4.setCell ⟨g, 0, none⟩ (.slice (some ⟨g4, 0, none⟩) (n + 1) cap4)).heap[g]? = some (.cells #[.slice (some ⟨g4, 0, none⟩) (n + 1) cap4, .map (some r)] 72 (0, 0)) ∧
    (w4.setCell ⟨g, 0, none⟩ (.slice (some ⟨g4, 0, none⟩) (n + 1) cap4)).heap[r]? = some (.map es n) ∧
    (w4.setCell ⟨g, 0, none⟩ (.slice (some ⟨g4, 0, none⟩) (n + 1) cap4)).ownsRow base 9 1 (.slice (some ⟨g4, 0, none⟩) (n + 1) cap4) (n + 1) xs ∧
    (∀ b, b < wr.heap.size → osv.ownBlock ≠ some b → b ≠ g → (w4.setCell ⟨g, 0, none⟩ (.slice (some ⟨g4, 0, none⟩) (n + 1) cap4)).heap[b]? = wr.heap[b]?) ∧
    Below base wr (w4.setCell ⟨g, 0, none⟩ (.slice (some ⟨g4, 0, none⟩) (n + 1) cap4)) := by
  have hsz : (wr.alloc (.cells #[.string nm] 9)).drew.heap.size = wr.heap.size + 1 := by show (wr.alloc (.cells #[.string nm] 9)).heap.size = _; simp
  have hold : ∀ b, b < wr.heap.size → osv.ownBlock ≠ some b → w4.heap[b]? = wr.heap[b]? := fun b hb hne => (gr4.block b (by rw [hsz]; omega) (Ne.symm hne)).trans (Below.heap_alloc wr _ b hb)
  have lg := lt_of_heap h3
  have lr := lt_of_heap h4
  have k3 := (hold g lg hog).trans h3
  have k4 := (hold r lr hor).trans h4
  have hother : ∀ b, b ≠ g → (w4.setCell ⟨g, 0, none⟩ (.slice (some ⟨g4, 0, none⟩) (n + 1) cap4)).heap[b]? = w4.heap[b]? := fun b hb => Below.heap_setCell w4 ⟨g, 0, none⟩ _ b hb
  refine ⟨heap_set2 k3 _, (hother r (Ne.symm hgr)).trans k4, ?_, fun b hb h1 h2 => (hother b h2).trans (hold b hb h1), ?_⟩
  · refine ⟨O4.1, ?_⟩
    rcases O4.2 with hn | ⟨q, cap, cur, hv, hq, hc, rest⟩
    · exact .inl hn
    · refine .inr ⟨q, cap, cur, hv, hq, ?_, rest⟩
      rw [hother q (by rintro rfl; rw [k3] at hc; cases hc)]
      exact hc
  · have h1 : Below base wr (wr.alloc (.cells #[.string nm] 9)).drew := ((Below.refl base wr).alloc hbase _).drew
    exact (h1.grown gr4 (by rw [hsz]; omega) hbo).setCell (p := ⟨g, 0, none⟩) hbg _

theorem put_facts {W : World} {r : Nat} {o : Obj} (h : W.heap[r]? = some o) (o' : Obj) : (setBlock W.drew r o').heap[r]? = some o' ∧ ∀ b, b ≠ r → (setBlock W.drew r o').heap[b]? = W.heap[b]? := by
  have := MapKept.heap_set (w := W) (o' := o') h
  exact ⟨this.1, this.2⟩
theorem put_own {W : World} {r : Nat} {es : Array MapEntry} {clock : Nat} (h : W.heap[r]? = some (.map es clock)) (o' : Obj) {base n : Nat} {v : Value} {e : TypeId} {size : Nat} {xs : List Value} (O : W.ownsRow base e size v n xs) : (setBlock W.drew r o').ownsRow base e size v n xs := by
  refine ⟨O.1, ?_⟩
  rcases O.2 with hn | ⟨q, cap, cur, hv, hq, hc, rest⟩
  · exact .inl hn
  · refine .inr ⟨q, cap, cur, hv, hq, ?_, rest⟩
    rw [(put_facts h o').2 q (by rintro rfl; rw [h] at hc; cases hc)]
    exact hc

theorem Fv.take {P : Nat → Prop} {w : World} {fs : List Fl} {a : Option Addr} {n cap k : Nat} (h : Fv P w fs (.slice a n cap)) (hk : k ≤ fs.length) : Fv P w (fs.take k) (.slice a k cap) := by
  obtain ⟨a0, cap', h1, h2, h3, h4⟩ := h
  cases h1
  have hl : (fs.take k).length = k := by rw [List.length_take]; omega
  refine ⟨a, cap, by rw [hl], by omega, h3, fun h0 => ?_⟩
  obtain ⟨b, o, e, hp, h5⟩ := h4 (by omega)
  refine ⟨b, o, e, hp, fun j hj => ?_⟩
  rw [List.getElem_take]
  exact h5 j (by omega)

theorem eqS_empty (x : ByteArray) : eqS x ⟨#[]⟩ = (x.toList == []) := by
  unfold eqS
  rw [ByteArray.toList_eq ⟨#[]⟩]

theorem okFs_drop (inh fs : List Fl) (k : Nat) (h : k < fs.length) : okFs (inh ++ fs.take k) (fs.drop k) = (nameB fs[k].n && decide (placeI (inh ++ fs.take k) fs[k].n < 0) && okFs (inh ++ fs.take (k + 1)) (fs.drop (k + 1))) := by
  rw [List.drop_eq_getElem_cons h, okFs, List.append_assoc, ← List.take_succ_eq_append_getElem h]

set_option maxRecDepth 100000 in
set_option maxHeartbeats 4000000 in
theorem add_any {P : Nat → Prop} {base : Nat} {w : World} {g : Nat} {T : List Cl} (hT : TabB base w g T) (c : Cl) (sv : Value) (hf : Fv P w c.f sv) (hl : c.f.length ≤ 1000000) (hlT : T.length ≤ 1000000) :
    Calls Try.prog 30 #[.pointer (some ⟨g, 0, none⟩), .agg #[.string c.n, .string c.s, sv]] w fun e w' => e = .returned (.bool (addB T c)) ∧ Below base w w' ∧ (addB T c = true → TabB base w' g (T ++ [full T c])) := by
  have HT := Hid.intro hT
  have HF := Hid.intro hf
  have HH := Hid.intro (fun w' (hb : Below w.heap.size w w') x => has_any (hT.tab.below hb) x)
  obtain ⟨r, es, osv, g1, g2, g3, g4, g5, g6, g7, g8⟩ := hT
  have lg := lt_of_heap g3
  have lr := lt_of_heap g4
  have hgr : g ≠ r := by rintro rfl; rw [g3] at g4; cases g4
  have hog : osv.ownBlock ≠ some g := by
    rcases g7.2 with ⟨h, -⟩ | ⟨q, cap, cur, h, -, hq, -⟩
    · rw [h]; simp [Value.ownBlock]
    · rw [h]; simp only [Value.ownBlock]; intro e; cases e; rw [g3] at hq; cases hq
  have hor : osv.ownBlock ≠ some r := by
    rcases g7.2 with ⟨h, -⟩ | ⟨q, cap, cur, h, -, hq, -⟩
    · rw [h]; simp [Value.ownBlock]
    · rw [h]; simp only [Value.ownBlock]; intro e; cases e; rw [g4] at hq; cases hq
  have G3 := Hid.intro g3
  have G4 := Hid.intro g4
  have G5 := Hid.intro g5
  have G6 := Hid.intro g6
  have G7 := Hid.intro g7
  have G8 := Hid.intro g8
  have LG := Hid.intro lg
  have LR := Hid.intro lr
  clear g3 g4 g5 g6 g7 g8 lg lr
  obtain ⟨a0, cap, rfl, hc1, hc2⟩ := hf.form
  clear hf
  obtain ⟨B, hB⟩ : ∃ B, addB T c = B := ⟨_, rfl⟩
  rw [hB]
  unfold addB at hB
  cases hn : nameB c.n with
  | false =>
    have HN := name_any c.n
    rw [hn] at HN hB
    have hB' : B = false := by rw [← hB]; rfl
    subst hB'
    go_enter Try.func30, Try.ntmps30
    go_wp2_with fail
    refine (HN _).mono ?_
    rintro e w1 ⟨rfl, hw1⟩; subst w1
    go_wp2
    go_ret
    exact ⟨rfl, (below_al (Below.refl _ _) _).mono HT.out.base, by simp⟩
  | true =>
    have HN := name_any c.n
    rw [hn] at HN hB
    cases hh : hasT T c.n with
    | true =>
      rw [hh] at hB
      have hB' : B = false := by rw [← hB]; rfl
      subst hB'
      go_enter Try.func30, Try.ntmps30
      go_wp2_with fail
      refine (HN _).mono ?_
      rintro e w1 ⟨rfl, hw1⟩; subst w1
      go_wp2_with fail
      refine (HH.out _ (below_al (Below.refl _ _) _) c.n).mono ?_
      rintro e w1 ⟨rfl, hb1⟩
      rw [hh]
      have HB1 := Hid.intro (hb1.via (below_al (Below.refl _ _) _))
      clear hb1
      go_wp2
      go_ret
      exact ⟨rfl, HB1.out.mono HT.out.base, by simp⟩
    | false =>
      rw [hh] at hB
      simp only [Bool.not_false, Bool.true_and] at hB
      have hfind : Hid (Instr.findNow .string (.string c.n) es.toList 0 = some none) := by
        rcases G6.out.find c.n 0 with ⟨f1, f2⟩ | ⟨d, i, sv, f1, fm, fv, f2⟩
        · exact f2
        · rw [hasT_find, f1] at hh; cases hh
      go_enter Try.func30, Try.ntmps30
      go_wp2_with fail
      refine (HN _).mono ?_
      rintro e w1 ⟨rfl, hw1⟩; subst w1
      go_wp2_with fail
      refine (HH.out _ (below_al (Below.refl _ _) _) c.n).mono ?_
      rintro e w1 ⟨rfl, hb1⟩
      rw [hh]
      have HB1 := Hid.intro (hb1.via (below_al (Below.refl _ _) _))
      have k0 : w1.cell? ⟨w.heap.size, 0, none⟩ = some (.string c.n) := (hb1.cell (p := ⟨w.heap.size, 0, none⟩) (by simp)).trans (by simp)
      have k1 : w1.cell? ⟨w.heap.size, 1, none⟩ = some (.string c.s) := (hb1.cell (p := ⟨w.heap.size, 1, none⟩) (by simp)).trans (by simp)
      have k2 : w1.cell? ⟨w.heap.size, 2, none⟩ = some (.slice a0 c.f.length cap) := (hb1.cell (p := ⟨w.heap.size, 2, none⟩) (by simp)).trans (by simp)
      clear HN hb1
      cases h0 : (c.s.toList == []) with
      | true =>
        have hsup : supB T c.s = true := by unfold supB; rw [eqS_empty, h0]; rfl
        rw [hsup] at hB
        simp only [Bool.true_and] at hB
        go_wp2
        have q0 : w1.cell? ⟨g, 0, none⟩ = some osv := by rw [HB1.out.cell (p := ⟨g, 0, none⟩) LG.out]; simp [World.cell?, G3.out]
        have q1 : w1.cell? ⟨g, 1, none⟩ = some (.map (some r)) := by rw [HB1.out.cell (p := ⟨g, 1, none⟩) LG.out]; simp [World.cell?, G3.out]
        have r4 : w1.heap[r]? = some (.map es T.length) := (HB1.out.block r LR.out).trans G4.out
        have hlook : ∃ inh a1 n1, fieldsT T c.s = inh ∧ inh.length ≤ 62 ∧ Hid (Fv (Own base osv g r) w1 inh (.slice a1 inh.length n1)) ∧ inh.length ≤ n1 ∧ n1 ≤ 9223372036854775807 ∧ ∃ s1, (Instr.lookup 70 (.map (some r)) (.string c.s) false).run Try.prog w1 = .ok (.agg #[.string s1, .slice a1 inh.length n1]) w1 ∧ (Instr.lookup 70 (.map (some r)) (.string c.s) false).run Try.prog w1.drew = .ok (.agg #[.string s1, .slice a1 inh.length n1]) w1.drew := by
          unfold fieldsT
          rcases G6.out.find c.s 0 with ⟨f1, f2⟩ | ⟨d, i, sv, f1, fm, fv, f2⟩
          · rw [f1]
            have l1 := look_no w1 r es _ r4 c.s f2 false
            have l2 := look_no w1.drew r es _ r4 c.s f2 false
            exact ⟨[], none, 0, rfl, by simp, ⟨none, 0, rfl, by simp, by unfold maxLen; omega, fun h => by simp at h⟩, by simp, by omega, _, by simpa using l1, by simpa using l2⟩
          · rw [f1]
            have l1 := look_yes w1 r es _ r4 c.s i _ f2 false
            have l2 := look_yes w1.drew r es _ r4 c.s i _ f2 false
            have fv' := Hid.intro (fv.below HB1.out)
            obtain ⟨a1, n1, rfl, m1, m2⟩ := fv.form
            exact ⟨d.f, a1, n1, rfl, G8.out d fm, fv', m1, m2, _, by simpa using l1, by simpa using l2⟩
        obtain ⟨inh, a1, n1, hinh, hi62, HI, hi1, hi2, s1, L1, L2⟩ := hlook
        have F1 := field_fields w1 s1 a1 inh.length n1
        have F2 := field_fields w1.drew s1 a1 inh.length n1
        go_region
        have HBW : Hid (Below w.heap.size w w1.drew) := HB1.out.drew
        have kW0 : w1.drew.cell? ⟨w.heap.size, 0, none⟩ = some (.string c.n) := k0
        have kW1 : w1.drew.cell? ⟨w.heap.size, 1, none⟩ = some (.string c.s) := k1
        have kW2 : w1.drew.cell? ⟨w.heap.size, 2, none⟩ = some (.slice a0 c.f.length cap) := k2
        have HIW : Hid (Fv (Own base osv g r) w1.drew inh (.slice a1 inh.length n1)) := HI
        clear L1 L2 F1 F2 HI HB1 k0 k1 k2 q0 q1 r4
        generalize w1.drew = W at *
        have s1 : ((inh.length : Int) + (c.f.length : Int)) ≤ 2000000 := by omega
        by_cases hsum : (62 : Int) < ((inh.length + c.f.length : Nat) : Int)
        · go_wp2
          go_ret
          have hB' : B = false := by
            have : ¬ (inh.length + c.f.length ≤ 62) := by omega
            rw [← hB, hinh]; simp [this]
          subst hB'
          exact ⟨rfl, HBW.out.mono HT.out.base, by simp⟩
        · have hs62 : inh.length + c.f.length ≤ 62 := by omega
          go_wp2_with fail
          refine (concat_two inh c.f _ _ _ _ (by simp) (by simp) (HIW.out.below (below_al (Below.refl _ _) _)) (HF.out.below (below_al HBW.out _)) (by omega)).mono ?_
          rintro e w2 ⟨fsv, rfl, HFS, hb2⟩
          have HB2 := Hid.intro (hb2.via (below_al HBW.out _))
          have HB2W := Hid.intro (hb2.via (below_al (Below.refl _ _) _))
          have hlW : w.heap.size < W.heap.size := cell_lt kW0
          have j0 : w2.cell? ⟨w.heap.size, 0, none⟩ = some (.string c.n) := (HB2W.out.cell (p := ⟨w.heap.size, 0, none⟩) hlW).trans kW0
          have j1 : w2.cell? ⟨w.heap.size, 1, none⟩ = some (.string c.s) := (HB2W.out.cell (p := ⟨w.heap.size, 1, none⟩) hlW).trans kW1
          have j2 : w2.cell? ⟨w.heap.size, 2, none⟩ = some (.slice a0 c.f.length cap) := (HB2W.out.cell (p := ⟨w.heap.size, 2, none⟩) hlW).trans kW2
          have HFSW : Hid (Fv (W.heap.size ≤ ·) w2 (inh ++ c.f) fsv) := HFS.out.move (fun _ _ _ _ => rfl) (fun b hb => by simp at hb; omega)
          clear hb2 HFS kW0 kW1 kW2 HIW
          obtain ⟨fa, fcap, rfl, fc1, fc2⟩ := HFSW.out.form
          simp only [List.length_append] at fc1
          rw [List.length_append] at HFSW
          go_wp2_with fail
          go_loopw [54] (fun i wr => Hid (Below w2.heap.size w2 wr) ∧ ∃ k : Nat, k ≤ c.f.length ∧ i = .int .i64 (k : Int) ∧ Hid (okFs inh c.f = okFs (inh ++ c.f.take k) (c.f.drop k))) (fun i _ => c.f.length - (intOf i).toNat)
          case atStart => exact ⟨Below.refl _ _, 0, by omega, rfl, by simp [Hid]⟩
          case round =>
            obtain ⟨HBR, k, hk, rfl, HOK⟩ := hrel
            have HBw : Hid (Below w.heap.size w wr) := HBR.out.via HB2.out
            by_cases hlt : (k : Int) < (c.f.length : Int)
            · have hlt' : k < c.f.length := by omega
              obtain ⟨b, o, rfl, d0, d1, d2⟩ : ∃ b o, a0 = some ⟨b, o, none⟩ ∧ wr.cell? ⟨b, o + k * 3, none⟩ = some (.string c.f[k].n) ∧ wr.cell? ⟨b, o + k * 3 + 1, none⟩ = some (.int .i64 c.f[k].t) ∧ wr.cell? ⟨b, o + k * 3 + 2, none⟩ = some (.string c.f[k].c) := by
                obtain ⟨x0, xc, hx, -, -, hx4⟩ := HF.out
                cases hx
                obtain ⟨b, o, e, -, h5⟩ := hx4 (by omega)
                obtain ⟨c0, c1, c2⟩ := h5 k hlt'
                have l0 := cell_lt c0
                exact ⟨b, o, e, (HBw.out.cell (p := ⟨b, o + k * 3, none⟩) l0).trans c0, (HBw.out.cell (p := ⟨b, o + k * 3 + 1, none⟩) l0).trans c1, (HBw.out.cell (p := ⟨b, o + k * 3 + 2, none⟩) l0).trans c2⟩
              have hd := okFs_drop inh c.f k hlt'
              rw [← HOK.out] at hd
              have HD := Hid.intro hd
              clear hd
              have HNf := name_any c.f[k].n
              have HPl := Hid.intro (fun w' (hb : Below wr.heap.size wr w') => place_any (inh ++ c.f.take k) (.slice fa (inh.length + k) fcap) c.f[k].n w' (by
                have h1 := (HFSW.out.below ((hb.via HBR.out))).take (k := inh.length + k) (by simp; omega)
                rw [List.take_length_add_append] at h1
                exact h1))
              have HT2 : Hid (∀ w', Below (wr.heap.size + 1) (wr.alloc (.cells #[.string c.f[k].n, .int .i64 c.f[k].t, .string c.f[k].c] 37)) w' → w'.cell? ⟨wr.heap.size, 0, none⟩ = some (.string c.f[k].n)) := fun w' hb => (hb.cell (p := ⟨wr.heap.size, 0, none⟩) (by simp)).trans (by simp)
              cases hnf : nameB c.f[k].n with
              | false =>
                rw [hnf] at HNf HD
                go_wp2
                go_quiet ((go_at_call 44; refine Calls.quiet_of_same (HNf _)))
                go_wp2
                go_ret
                have hB' : B = false := by
                  rw [← hB, hinh, HD.out]; simp
                subst hB'
                exact ⟨rfl, (below_drewN (below_al HBw.out _)).mono HT.out.base, by simp⟩
              | true =>
                rw [hnf] at HNf HD
                have HPl2 := Hid.intro (HPl.out _ (below_al (Below.refl _ _) (.cells #[.string c.f[k].n, .int .i64 c.f[k].t, .string c.f[k].c] 37)).drew)
                generalize hq : placeI (inh ++ c.f.take k) c.f[k].n = q at *
                have b1 : (0 : Int) ≤ (inh.length : Int) + (k : Int) := by omega
                have b2 : (inh.length : Int) + (k : Int) ≤ (fcap : Int) := by omega
                have b3 : (inh.length : Int) + (k : Int) ≤ ((inh.length + c.f.length : Nat) : Int) := by omega
                have b4 : IntKind.i64.wrap ((inh.length : Int) + (k : Int)) = (inh.length : Int) + (k : Int) := by simp [IntKind.wrap, IntKind.bits, IntKind.signed]; omega
                by_cases hq0 : q < 0
                · rw [show decide (q < 0) = true from decide_eq_true hq0] at HD
                  simp only [Bool.true_and] at HD
                  go_wp2
                  go_region_held3 (fun w' => w'.cell? ⟨wr.heap.size, 0, none⟩ = some (.string c.f[k].n)) ((first | exact HT2.out _ (Below.refl _ _) | exact HT2.out _ (Below.refl _ _).drew | exact HT2.out _ D.out)) ((first | (go_at_call 44; refine (HNf _).mono ?_; rintro e w3 ⟨rfl, hw3⟩; subst w3) | (go_at_call 46; refine HPl2.out.mono ?_; rintro e w3 ⟨rfl, hb3⟩; have D := Hid.intro (Below.trans (Below.refl (wr.heap.size + 1) (wr.alloc (.cells #[.string c.f[k].n, .int .i64 c.f[k].t, .string c.f[k].c] 37))).drew (hb3.mono (by simp))); clear hb3)))
                  have HD' : Hid (Below (wr.heap.size + 1) (wr.alloc (.cells #[.string c.f[k].n, .int .i64 c.f[k].t, .string c.f[k].c] 37)) w3) := D
                  go_wp2
                  go_roundw
                  case rel => exact ⟨((HD'.out.mono (by simp)).via (below_al (Below.refl _ _) _)).via HBR.out, k + 1, by omega, by go_num, HD.out⟩
                  case measure => simp [intOf]; omega
                · rw [show decide (q < 0) = false from decide_eq_false hq0] at HD
                  simp only [Bool.true_and, Bool.false_and] at HD
                  go_wp2
                  go_region_held3 (fun w' => w'.cell? ⟨wr.heap.size, 0, none⟩ = some (.string c.f[k].n)) ((first | exact HT2.out _ (Below.refl _ _) | exact HT2.out _ (Below.refl _ _).drew | exact HT2.out _ D.out)) ((first | (go_at_call 44; refine (HNf _).mono ?_; rintro e w3 ⟨rfl, hw3⟩; subst w3) | (go_at_call 46; refine HPl2.out.mono ?_; rintro e w3 ⟨rfl, hb3⟩; have D := Hid.intro (Below.trans (Below.refl (wr.heap.size + 1) (wr.alloc (.cells #[.string c.f[k].n, .int .i64 c.f[k].t, .string c.f[k].c] 37))).drew (hb3.mono (by simp))); clear hb3)))
                  have HD' : Hid (Below (wr.heap.size + 1) (wr.alloc (.cells #[.string c.f[k].n, .int .i64 c.f[k].t, .string c.f[k].c] 37)) w3) := D
                  go_wp2
                  go_ret
                  have hB' : B = false := by
                    rw [← hB, hinh, HD.out]; simp
                  subst hB'
                  exact ⟨rfl, (((HD'.out.mono (by simp)).via (below_al (Below.refl _ _) _)).via HBw.out).mono HT.out.base, by simp⟩
            · have hk2 : k = c.f.length := by omega
              subst hk2
              have hB' : B = true := by
                have h62 : decide (inh.length + c.f.length ≤ 62) = true := by simp; omega
                rw [← hB, hinh, HOK.out, List.drop_length, h62]; rfl
              subst hB'
              clear hlt HOK
              have q0 : wr.cell? ⟨g, 0, none⟩ = some osv := by rw [HBw.out.cell (p := ⟨g, 0, none⟩) LG.out]; simp [World.cell?, G3.out]
              have qf : wr.frozen? ⟨g, 0, none⟩ = false := by rw [HBw.out.frozen (p := ⟨g, 0, none⟩) LG.out]; simp [World.frozen?, G3.out]
              have x0 : wr.cell? ⟨w.heap.size, 0, none⟩ = some (.string c.n) := (HBR.out.cell (p := ⟨w.heap.size, 0, none⟩) (cell_lt j0)).trans j0
              have x1 : wr.cell? ⟨w.heap.size, 1, none⟩ = some (.string c.s) := (HBR.out.cell (p := ⟨w.heap.size, 1, none⟩) (cell_lt j0)).trans j1
              have O := Hid.intro (own_below G7.out HBw.out)
              obtain ⟨i0, z0, hi, hz, hz1, hz2, hz3⟩ := zeroS
              have h63 : T.length + 1 ≤ maxLen := by unfold maxLen; omega
              have hone : ∀ u ∈ [Value.string c.n], u.oneCell' = true := by intro u hu; simp at hu; subst hu; rfl
              have hbw : base ≤ (wr.alloc (.cells #[.string c.n] 9)).drew.heap.size := by
                have := HBw.out.size
                have := LG.out
                show base ≤ (wr.alloc (.cells #[.string c.n] 9)).heap.size
                simp; omega
              have hlg : g < wr.heap.size := cell_lt q0
              have hnews : ∀ j u, [Value.string c.n][j]? = some u → (wr.alloc (.cells #[.string c.n] 9)).drew.cell? ((⟨wr.heap.size, 0, none⟩ : Addr).add j) = some u := World.news_of_block (w := (wr.alloc (.cells #[.string c.n] 9)).drew) (cs := #[.string c.n]) (t := 9) (fr := (0, 0)) (heap_alloc_new wr _)
              have hsz : (wr.alloc (.cells #[.string c.n] 9)).drew.heap.size = wr.heap.size + 1 := by show (wr.alloc (.cells #[.string c.n] 9)).heap.size = _; simp
              have HY : Hid (∀ w4, (wr.alloc (.cells #[.string c.n] 9)).drew.grownBy w4 osv.ownBlock → w4.cell? ⟨g, 0, none⟩ = some osv ∧ w4.frozen? ⟨g, 0, none⟩ = false) := fun w4 h => ⟨(h.cell_far ⟨g, 0, none⟩ (by rw [hsz]; show g < _; omega) (Ne.symm hog)).trans (by simp; rw [Below.cell (below_al (Below.refl _ _) _) (p := ⟨g, 0, none⟩) hlg]; exact q0), (h.frozen_far ⟨g, 0, none⟩ (by rw [hsz]; show g < _; omega) (Ne.symm hog)).trans (by simp; rw [Below.frozen (below_al (Below.refl _ _) _) (p := ⟨g, 0, none⟩) hlg]; exact qf)⟩
              have hbytes : (T.length + 1) * 16 ≤ 140737488355328 := by omega
              go_wp2
              go_region_law ((refine step_append_lies _ (by rfl) _ _ _ (by rfl) base 9 i0 z0 1 16 Try.underlying23 hi hz hz2 hz3 hz1 (by omega) osv T.length (T.map (fun c => .string c.n)) (by rfl) ((O.out.alloc (.cells #[.string c.n] 9)).drew) ⟨wr.heap.size, 0, none⟩ 1 1 [.string c.n] (by rfl) (by rfl) hnews hone (by omega) h63 hbytes hbw (wr.heap.size + 1) hsz ?_; intro g4 cap4 w4 O4 gr4 at4 lt4; obtain ⟨y0, yf⟩ := HY.out w4 gr4))
              all_goals (
                obtain ⟨a3, a4, a5, a6, a7⟩ := app_facts (by omega) ((HBw.out.block g LG.out).trans G3.out) ((HBw.out.block r LR.out).trans G4.out) hog hor hgr g1 (fun k hk => (O.out.lt k hk).1) O4 gr4
                have hat : ∃ q, some q = some g4 ∧ (osv.ownBlock = some g4 ∨ wr.heap.size ≤ q) := ⟨g4, rfl, at4.imp id (fun h => by omega)⟩
                clear gr4 O4 y0 yf HY hnews hsz
                generalize w4.setCell ⟨g, 0, none⟩ (.slice (some ⟨g4, 0, none⟩) (T.length + 1) cap4) = W5 at *
                have e1 : W5.cell? ⟨g, 1, none⟩ = some (.map (some r)) := by simp [World.cell?, a3]
                have hlw : w.heap.size < wr.heap.size := cell_lt x0
                have hnow : osv.ownBlock ≠ some w.heap.size := by
                  intro e
                  have := (G7.out.lt _ e).2
                  omega
                have hwg : w.heap.size ≠ g := by have := LG.out; omega
                have e2 : W5.cell? ⟨w.heap.size, 0, none⟩ = some (.string c.n) := (World.cell?_of_block (a6 _ hlw hnow hwg)).trans x0
                have e3 : W5.cell? ⟨w.heap.size, 1, none⟩ = some (.string c.s) := (World.cell?_of_block (a6 _ hlw hnow hwg)).trans x1
                have U := run_put W5.drew r es T.length a4 c.n (.agg #[.string c.s, .slice fa (inh.length + c.f.length) fcap]) hfind.out
                go_wp2
                go_region
                go_wp2
                go_ret
                refine ⟨rfl, below_block ((HBw.out.mono HT.out.base).trans a7).drew g2 _, ?_⟩
                have p1 := put_facts a4 (.map (es.push ⟨.string c.n, .agg #[.string c.s, .slice fa (inh.length + c.f.length) fcap], T.length⟩) (T.length + 1))
                refine TabB.push (wr := wr) (full T c) (.slice fa (inh.length + c.f.length) fcap) g1 g2 G5.out (G6.out.mono (EnAt.below HBw.out)) G8.out ((p1.2 g hgr).trans a3) p1.1 (put_own a4 _ a5) (fun b h1 h2 h3 h4 => (p1.2 b h4).trans (a6 b h1 h2 h3)) ?_ ?_ ?_
                · rcases at4 with h | h
                  · exact .inl h.symm
                  · exact .inr ⟨g4, rfl, by omega⟩
                · unfold full
                  rw [hinh]
                  simp only [List.length_append]
                  exact hs62
                · unfold full
                  rw [hinh]
                  refine (HFSW.out.below HBR.out).move (fun _ _ _ _ => rfl) (fun b hb => ?_)
                  have l1 := LG.out
                  have l2 := LR.out
                  have hb' : W.heap.size ≤ b := hb
                  refine ⟨by omega, fun e => ?_, by omega, by omega⟩
                  have := (G7.out.lt _ e).2
                  omega)
      | false =>
        have hsup : supB T c.s = hasT T c.s := by unfold supB; rw [eqS_empty, h0]; rfl
        rw [hsup] at hB
        go_wp2_with fail
        refine (HH.out _ HB1.out c.s).mono ?_
        rintro e v1 ⟨rfl, hv1⟩
        have k0' : v1.cell? ⟨w.heap.size, 0, none⟩ = some (.string c.n) := (hv1.cell (p := ⟨w.heap.size, 0, none⟩) (cell_lt k0)).trans k0
        have k1' : v1.cell? ⟨w.heap.size, 1, none⟩ = some (.string c.s) := (hv1.cell (p := ⟨w.heap.size, 1, none⟩) (cell_lt k0)).trans k1
        have k2' : v1.cell? ⟨w.heap.size, 2, none⟩ = some (.slice a0 c.f.length cap) := (hv1.cell (p := ⟨w.heap.size, 2, none⟩) (cell_lt k0)).trans k2
        have HB1' := Hid.intro (hv1.via HB1.out)
        clear k0 k1 k2 HB1 hv1
        have k0 := k0'
        have k1 := k1'
        have k2 := k2'
        have HB1 := HB1'
        clear k0' k1' k2' HB1'
        cases hs : hasT T c.s with
        | false =>
          rw [hs] at hB
          have hB' : B = false := by rw [← hB]; rfl
          subst hB'
          go_wp2
          go_ret
          exact ⟨rfl, HB1.out.mono HT.out.base, by simp⟩
        | true =>
        rw [hs] at hB
        simp only [Bool.true_and] at hB
        go_wp2
        have q0 : v1.cell? ⟨g, 0, none⟩ = some osv := by rw [HB1.out.cell (p := ⟨g, 0, none⟩) LG.out]; simp [World.cell?, G3.out]
        have q1 : v1.cell? ⟨g, 1, none⟩ = some (.map (some r)) := by rw [HB1.out.cell (p := ⟨g, 1, none⟩) LG.out]; simp [World.cell?, G3.out]
        have r4 : v1.heap[r]? = some (.map es T.length) := (HB1.out.block r LR.out).trans G4.out
        have hlook : ∃ inh a1 n1, fieldsT T c.s = inh ∧ inh.length ≤ 62 ∧ Hid (Fv (Own base osv g r) v1 inh (.slice a1 inh.length n1)) ∧ inh.length ≤ n1 ∧ n1 ≤ 9223372036854775807 ∧ ∃ s1, (Instr.lookup 70 (.map (some r)) (.string c.s) false).run Try.prog v1 = .ok (.agg #[.string s1, .slice a1 inh.length n1]) v1 ∧ (Instr.lookup 70 (.map (some r)) (.string c.s) false).run Try.prog v1.drew = .ok (.agg #[.string s1, .slice a1 inh.length n1]) v1.drew := by
          unfold fieldsT
          rcases G6.out.find c.s 0 with ⟨f1, f2⟩ | ⟨d, i, sv, f1, fm, fv, f2⟩
          · rw [f1]
            have l1 := look_no v1 r es _ r4 c.s f2 false
            have l2 := look_no v1.drew r es _ r4 c.s f2 false
            exact ⟨[], none, 0, rfl, by simp, ⟨none, 0, rfl, by simp, by unfold maxLen; omega, fun h => by simp at h⟩, by simp, by omega, _, by simpa using l1, by simpa using l2⟩
          · rw [f1]
            have l1 := look_yes v1 r es _ r4 c.s i _ f2 false
            have l2 := look_yes v1.drew r es _ r4 c.s i _ f2 false
            have fv' := Hid.intro (fv.below HB1.out)
            obtain ⟨a1, n1, rfl, m1, m2⟩ := fv.form
            exact ⟨d.f, a1, n1, rfl, G8.out d fm, fv', m1, m2, _, by simpa using l1, by simpa using l2⟩
        obtain ⟨inh, a1, n1, hinh, hi62, HI, hi1, hi2, s1, L1, L2⟩ := hlook
        have F1 := field_fields v1 s1 a1 inh.length n1
        have F2 := field_fields v1.drew s1 a1 inh.length n1
        go_region
        have HBW : Hid (Below w.heap.size w v1.drew) := HB1.out.drew
        have kW0 : v1.drew.cell? ⟨w.heap.size, 0, none⟩ = some (.string c.n) := k0
        have kW1 : v1.drew.cell? ⟨w.heap.size, 1, none⟩ = some (.string c.s) := k1
        have kW2 : v1.drew.cell? ⟨w.heap.size, 2, none⟩ = some (.slice a0 c.f.length cap) := k2
        have HIW : Hid (Fv (Own base osv g r) v1.drew inh (.slice a1 inh.length n1)) := HI
        clear L1 L2 F1 F2 HI HB1 k0 k1 k2 q0 q1 r4
        generalize v1.drew = W at *
        have s1 : ((inh.length : Int) + (c.f.length : Int)) ≤ 2000000 := by omega
        by_cases hsum : (62 : Int) < ((inh.length + c.f.length : Nat) : Int)
        · go_wp2
          go_ret
          have hB' : B = false := by
            have : ¬ (inh.length + c.f.length ≤ 62) := by omega
            rw [← hB, hinh]; simp [this]
          subst hB'
          exact ⟨rfl, HBW.out.mono HT.out.base, by simp⟩
        · have hs62 : inh.length + c.f.length ≤ 62 := by omega
          go_wp2_with fail
          refine (concat_two inh c.f _ _ _ _ (by simp) (by simp) (HIW.out.below (below_al (Below.refl _ _) _)) (HF.out.below (below_al HBW.out _)) (by omega)).mono ?_
          rintro e w2 ⟨fsv, rfl, HFS, hb2⟩
          have HB2 := Hid.intro (hb2.via (below_al HBW.out _))
          have HB2W := Hid.intro (hb2.via (below_al (Below.refl _ _) _))
          have hlW : w.heap.size < W.heap.size := cell_lt kW0
          have j0 : w2.cell? ⟨w.heap.size, 0, none⟩ = some (.string c.n) := (HB2W.out.cell (p := ⟨w.heap.size, 0, none⟩) hlW).trans kW0
          have j1 : w2.cell? ⟨w.heap.size, 1, none⟩ = some (.string c.s) := (HB2W.out.cell (p := ⟨w.heap.size, 1, none⟩) hlW).trans kW1
          have j2 : w2.cell? ⟨w.heap.size, 2, none⟩ = some (.slice a0 c.f.length cap) := (HB2W.out.cell (p := ⟨w.heap.size, 2, none⟩) hlW).trans kW2
          have HFSW : Hid (Fv (W.heap.size ≤ ·) w2 (inh ++ c.f) fsv) := HFS.out.move (fun _ _ _ _ => rfl) (fun b hb => by simp at hb; omega)
          clear hb2 HFS kW0 kW1 kW2 HIW
          obtain ⟨fa, fcap, rfl, fc1, fc2⟩ := HFSW.out.form
          simp only [List.length_append] at fc1
          rw [List.length_append] at HFSW
          go_wp2_with fail
          go_loopw [54] (fun i wr => Hid (Below w2.heap.size w2 wr) ∧ ∃ k : Nat, k ≤ c.f.length ∧ i = .int .i64 (k : Int) ∧ Hid (okFs inh c.f = okFs (inh ++ c.f.take k) (c.f.drop k))) (fun i _ => c.f.length - (intOf i).toNat)
          case atStart => exact ⟨Below.refl _ _, 0, by omega, rfl, by simp [Hid]⟩
          case round =>
            obtain ⟨HBR, k, hk, rfl, HOK⟩ := hrel
            have HBw : Hid (Below w.heap.size w wr) := HBR.out.via HB2.out
            by_cases hlt : (k : Int) < (c.f.length : Int)
            · have hlt' : k < c.f.length := by omega
              obtain ⟨b, o, rfl, d0, d1, d2⟩ : ∃ b o, a0 = some ⟨b, o, none⟩ ∧ wr.cell? ⟨b, o + k * 3, none⟩ = some (.string c.f[k].n) ∧ wr.cell? ⟨b, o + k * 3 + 1, none⟩ = some (.int .i64 c.f[k].t) ∧ wr.cell? ⟨b, o + k * 3 + 2, none⟩ = some (.string c.f[k].c) := by
                obtain ⟨x0, xc, hx, -, -, hx4⟩ := HF.out
                cases hx
                obtain ⟨b, o, e, -, h5⟩ := hx4 (by omega)
                obtain ⟨c0, c1, c2⟩ := h5 k hlt'
                have l0 := cell_lt c0
                exact ⟨b, o, e, (HBw.out.cell (p := ⟨b, o + k * 3, none⟩) l0).trans c0, (HBw.out.cell (p := ⟨b, o + k * 3 + 1, none⟩) l0).trans c1, (HBw.out.cell (p := ⟨b, o + k * 3 + 2, none⟩) l0).trans c2⟩
              have hd := okFs_drop inh c.f k hlt'
              rw [← HOK.out] at hd
              have HD := Hid.intro hd
              clear hd
              have HNf := name_any c.f[k].n
              have HPl := Hid.intro (fun w' (hb : Below wr.heap.size wr w') => place_any (inh ++ c.f.take k) (.slice fa (inh.length + k) fcap) c.f[k].n w' (by
                have h1 := (HFSW.out.below ((hb.via HBR.out))).take (k := inh.length + k) (by simp; omega)
                rw [List.take_length_add_append] at h1
                exact h1))
              have HT2 : Hid (∀ w', Below (wr.heap.size + 1) (wr.alloc (.cells #[.string c.f[k].n, .int .i64 c.f[k].t, .string c.f[k].c] 37)) w' → w'.cell? ⟨wr.heap.size, 0, none⟩ = some (.string c.f[k].n)) := fun w' hb => (hb.cell (p := ⟨wr.heap.size, 0, none⟩) (by simp)).trans (by simp)
              cases hnf : nameB c.f[k].n with
              | false =>
                rw [hnf] at HNf HD
                go_wp2
                go_quiet ((go_at_call 44; refine Calls.quiet_of_same (HNf _)))
                go_wp2
                go_ret
                have hB' : B = false := by
                  rw [← hB, hinh, HD.out]; simp
                subst hB'
                exact ⟨rfl, (below_drewN (below_al HBw.out _)).mono HT.out.base, by simp⟩
              | true =>
                rw [hnf] at HNf HD
                have HPl2 := Hid.intro (HPl.out _ (below_al (Below.refl _ _) (.cells #[.string c.f[k].n, .int .i64 c.f[k].t, .string c.f[k].c] 37)).drew)
                generalize hq : placeI (inh ++ c.f.take k) c.f[k].n = q at *
                have b1 : (0 : Int) ≤ (inh.length : Int) + (k : Int) := by omega
                have b2 : (inh.length : Int) + (k : Int) ≤ (fcap : Int) := by omega
                have b3 : (inh.length : Int) + (k : Int) ≤ ((inh.length + c.f.length : Nat) : Int) := by omega
                have b4 : IntKind.i64.wrap ((inh.length : Int) + (k : Int)) = (inh.length : Int) + (k : Int) := by simp [IntKind.wrap, IntKind.bits, IntKind.signed]; omega
                by_cases hq0 : q < 0
                · rw [show decide (q < 0) = true from decide_eq_true hq0] at HD
                  simp only [Bool.true_and] at HD
                  go_wp2
                  go_region_held3 (fun w' => w'.cell? ⟨wr.heap.size, 0, none⟩ = some (.string c.f[k].n)) ((first | exact HT2.out _ (Below.refl _ _) | exact HT2.out _ (Below.refl _ _).drew | exact HT2.out _ D.out)) ((first | (go_at_call 44; refine (HNf _).mono ?_; rintro e w3 ⟨rfl, hw3⟩; subst w3) | (go_at_call 46; refine HPl2.out.mono ?_; rintro e w3 ⟨rfl, hb3⟩; have D := Hid.intro (Below.trans (Below.refl (wr.heap.size + 1) (wr.alloc (.cells #[.string c.f[k].n, .int .i64 c.f[k].t, .string c.f[k].c] 37))).drew (hb3.mono (by simp))); clear hb3)))
                  have HD' : Hid (Below (wr.heap.size + 1) (wr.alloc (.cells #[.string c.f[k].n, .int .i64 c.f[k].t, .string c.f[k].c] 37)) w3) := D
                  go_wp2
                  go_roundw
                  case rel => exact ⟨((HD'.out.mono (by simp)).via (below_al (Below.refl _ _) _)).via HBR.out, k + 1, by omega, by go_num, HD.out⟩
                  case measure => simp [intOf]; omega
                · rw [show decide (q < 0) = false from decide_eq_false hq0] at HD
                  simp only [Bool.true_and, Bool.false_and] at HD
                  go_wp2
                  go_region_held3 (fun w' => w'.cell? ⟨wr.heap.size, 0, none⟩ = some (.string c.f[k].n)) ((first | exact HT2.out _ (Below.refl _ _) | exact HT2.out _ (Below.refl _ _).drew | exact HT2.out _ D.out)) ((first | (go_at_call 44; refine (HNf _).mono ?_; rintro e w3 ⟨rfl, hw3⟩; subst w3) | (go_at_call 46; refine HPl2.out.mono ?_; rintro e w3 ⟨rfl, hb3⟩; have D := Hid.intro (Below.trans (Below.refl (wr.heap.size + 1) (wr.alloc (.cells #[.string c.f[k].n, .int .i64 c.f[k].t, .string c.f[k].c] 37))).drew (hb3.mono (by simp))); clear hb3)))
                  have HD' : Hid (Below (wr.heap.size + 1) (wr.alloc (.cells #[.string c.f[k].n, .int .i64 c.f[k].t, .string c.f[k].c] 37)) w3) := D
                  go_wp2
                  go_ret
                  have hB' : B = false := by
                    rw [← hB, hinh, HD.out]; simp
                  subst hB'
                  exact ⟨rfl, (((HD'.out.mono (by simp)).via (below_al (Below.refl _ _) _)).via HBw.out).mono HT.out.base, by simp⟩
            · have hk2 : k = c.f.length := by omega
              subst hk2
              have hB' : B = true := by
                have h62 : decide (inh.length + c.f.length ≤ 62) = true := by simp; omega
                rw [← hB, hinh, HOK.out, List.drop_length, h62]; rfl
              subst hB'
              clear hlt HOK
              have q0 : wr.cell? ⟨g, 0, none⟩ = some osv := by rw [HBw.out.cell (p := ⟨g, 0, none⟩) LG.out]; simp [World.cell?, G3.out]
              have qf : wr.frozen? ⟨g, 0, none⟩ = false := by rw [HBw.out.frozen (p := ⟨g, 0, none⟩) LG.out]; simp [World.frozen?, G3.out]
              have x0 : wr.cell? ⟨w.heap.size, 0, none⟩ = some (.string c.n) := (HBR.out.cell (p := ⟨w.heap.size, 0, none⟩) (cell_lt j0)).trans j0
              have x1 : wr.cell? ⟨w.heap.size, 1, none⟩ = some (.string c.s) := (HBR.out.cell (p := ⟨w.heap.size, 1, none⟩) (cell_lt j0)).trans j1
              have O := Hid.intro (own_below G7.out HBw.out)
              obtain ⟨i0, z0, hi, hz, hz1, hz2, hz3⟩ := zeroS
              have h63 : T.length + 1 ≤ maxLen := by unfold maxLen; omega
              have hone : ∀ u ∈ [Value.string c.n], u.oneCell' = true := by intro u hu; simp at hu; subst hu; rfl
              have hbw : base ≤ (wr.alloc (.cells #[.string c.n] 9)).drew.heap.size := by
                have := HBw.out.size
                have := LG.out
                show base ≤ (wr.alloc (.cells #[.string c.n] 9)).heap.size
                simp; omega
              have hlg : g < wr.heap.size := cell_lt q0
              have hnews : ∀ j u, [Value.string c.n][j]? = some u → (wr.alloc (.cells #[.string c.n] 9)).drew.cell? ((⟨wr.heap.size, 0, none⟩ : Addr).add j) = some u := World.news_of_block (w := (wr.alloc (.cells #[.string c.n] 9)).drew) (cs := #[.string c.n]) (t := 9) (fr := (0, 0)) (heap_alloc_new wr _)
              have hsz : (wr.alloc (.cells #[.string c.n] 9)).drew.heap.size = wr.heap.size + 1 := by show (wr.alloc (.cells #[.string c.n] 9)).heap.size = _; simp
              have HY : Hid (∀ w4, (wr.alloc (.cells #[.string c.n] 9)).drew.grownBy w4 osv.ownBlock → w4.cell? ⟨g, 0, none⟩ = some osv ∧ w4.frozen? ⟨g, 0, none⟩ = false) := fun w4 h => ⟨(h.cell_far ⟨g, 0, none⟩ (by rw [hsz]; show g < _; omega) (Ne.symm hog)).trans (by simp; rw [Below.cell (below_al (Below.refl _ _) _) (p := ⟨g, 0, none⟩) hlg]; exact q0), (h.frozen_far ⟨g, 0, none⟩ (by rw [hsz]; show g < _; omega) (Ne.symm hog)).trans (by simp; rw [Below.frozen (below_al (Below.refl _ _) _) (p := ⟨g, 0, none⟩) hlg]; exact qf)⟩
              have hbytes : (T.length + 1) * 16 ≤ 140737488355328 := by omega
              go_wp2
              go_region_law ((refine step_append_lies _ (by rfl) _ _ _ (by rfl) base 9 i0 z0 1 16 Try.underlying23 hi hz hz2 hz3 hz1 (by omega) osv T.length (T.map (fun c => .string c.n)) (by rfl) ((O.out.alloc (.cells #[.string c.n] 9)).drew) ⟨wr.heap.size, 0, none⟩ 1 1 [.string c.n] (by rfl) (by rfl) hnews hone (by omega) h63 hbytes hbw (wr.heap.size + 1) hsz ?_; intro g4 cap4 w4 O4 gr4 at4 lt4; obtain ⟨y0, yf⟩ := HY.out w4 gr4))
              all_goals (
                obtain ⟨a3, a4, a5, a6, a7⟩ := app_facts (by omega) ((HBw.out.block g LG.out).trans G3.out) ((HBw.out.block r LR.out).trans G4.out) hog hor hgr g1 (fun k hk => (O.out.lt k hk).1) O4 gr4
                have hat : ∃ q, some q = some g4 ∧ (osv.ownBlock = some g4 ∨ wr.heap.size ≤ q) := ⟨g4, rfl, at4.imp id (fun h => by omega)⟩
                clear gr4 O4 y0 yf HY hnews hsz
                generalize w4.setCell ⟨g, 0, none⟩ (.slice (some ⟨g4, 0, none⟩) (T.length + 1) cap4) = W5 at *
                have e1 : W5.cell? ⟨g, 1, none⟩ = some (.map (some r)) := by simp [World.cell?, a3]
                have hlw : w.heap.size < wr.heap.size := cell_lt x0
                have hnow : osv.ownBlock ≠ some w.heap.size := by
                  intro e
                  have := (G7.out.lt _ e).2
                  omega
                have hwg : w.heap.size ≠ g := by have := LG.out; omega
                have e2 : W5.cell? ⟨w.heap.size, 0, none⟩ = some (.string c.n) := (World.cell?_of_block (a6 _ hlw hnow hwg)).trans x0
                have e3 : W5.cell? ⟨w.heap.size, 1, none⟩ = some (.string c.s) := (World.cell?_of_block (a6 _ hlw hnow hwg)).trans x1
                have U := run_put W5.drew r es T.length a4 c.n (.agg #[.string c.s, .slice fa (inh.length + c.f.length) fcap]) hfind.out
                go_wp2
                go_region
                go_wp2
                go_ret
                refine ⟨rfl, below_block ((HBw.out.mono HT.out.base).trans a7).drew g2 _, ?_⟩
                have p1 := put_facts a4 (.map (es.push ⟨.string c.n, .agg #[.string c.s, .slice fa (inh.length + c.f.length) fcap], T.length⟩) (T.length + 1))
                refine TabB.push (wr := wr) (full T c) (.slice fa (inh.length + c.f.length) fcap) g1 g2 G5.out (G6.out.mono (EnAt.below HBw.out)) G8.out ((p1.2 g hgr).trans a3) p1.1 (put_own a4 _ a5) (fun b h1 h2 h3 h4 => (p1.2 b h4).trans (a6 b h1 h2 h3)) ?_ ?_ ?_
                · rcases at4 with h | h
                  · exact .inl h.symm
                  · exact .inr ⟨g4, rfl, by omega⟩
                · unfold full
                  rw [hinh]
                  simp only [List.length_append]
                  exact hs62
                · unfold full
                  rw [hinh]
                  refine (HFSW.out.below HBR.out).move (fun _ _ _ _ => rfl) (fun b hb => ?_)
                  have l1 := LG.out
                  have l2 := LR.out
                  have hb' : W.heap.size ≤ b := hb
                  refine ⟨by omega, fun e => ?_, by omega, by omega⟩
                  have := (G7.out.lt _ e).2
                  omega)
end Go.Proofs.Ytbfnlnjnaepiiaa
