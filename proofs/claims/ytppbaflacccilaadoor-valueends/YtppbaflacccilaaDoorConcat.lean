/- slices.Concat of two lists of values: one behind the other. -/
import Derived.Test.YtppbaflacccilaaDoorFresh
import Derived.Lib.AppendZeros
import Derived.Deep.AppendLies
import Derived.Laws.AppendOwnNone
namespace Go.Proofs.YtppbaflacccilaaDoor
open Go.RowKit

/-- A value's five cells. -/
def celP (p : Tr × Value) : List Value := [.int .i64 p.1.k, .bool p.1.b, .int .i64 p.1.i, .string p.1.s, p.2]

theorem celP_len (ps : List (Tr × Value)) : (ps.flatMap celP).length = ps.length * 5 := by
  induction ps with
  | nil => rfl
  | cons p ps ih => rw [List.flatMap_cons, List.length_append, ih, List.length_cons]; simp [celP]; omega

theorem celP_at : ∀ (ps : List (Tr × Value)) (j r : Nat) (_ : r < 5) (h : j < ps.length), (ps.flatMap celP)[j * 5 + r]? = (celP ps[j])[r]?
  | [], j, r, _, h => absurd h (by simp)
  | x :: ns, 0, r, hr, h => by
    rw [List.flatMap_cons, List.getElem?_append_left (by simp [celP]; omega)]
    simp
  | x :: ns, j + 1, r, hr, h => by
    rw [List.flatMap_cons, List.getElem?_append_right (by simp [celP]; omega)]
    have e : (j + 1) * 5 + r - (celP x).length = j * 5 + r := by simp [celP]; omega
    rw [e, celP_at ns j r hr (by simpa using h)]
    simp

theorem addr_add (b o j : Nat) : (⟨b, o, none⟩ : Addr).add j = ⟨b, o + j, none⟩ := by
  unfold Addr.add
  split
  · next hz => have hz' : j = 0 := by simpa using hz
               rw [hz', Nat.add_zero]
  · simp

/-- A list of values as pairs of trees and their lists' slices. -/
theorem Lv.pairs {w : World} {R : Tr → Value → Prop} {ts : List Tr} {sv : Value} (h : Lv w R ts sv) : ∃ (a0 : Option Addr) (cap : Nat) (ps : List (Tr × Value)), ps.map (·.1) = ts ∧ (∀ p ∈ ps, R p.1 p.2) ∧ sv = .slice a0 ps.length cap ∧ ps.length ≤ cap ∧ cap ≤ maxLen ∧
    (0 < ps.length → ∃ b o, a0 = some ⟨b, o, none⟩ ∧ ∀ j u, (ps.flatMap celP)[j]? = some u → w.cell? ((⟨b, o, none⟩ : Addr).add j) = some u) := by
  obtain ⟨a0, cap, h1, h2, h3, h4⟩ := h
  have key : ∃ ps : List (Tr × Value), ps.map (·.1) = ts ∧ ∀ i (h : i < ps.length) b o, (∃ hh : 0 < ts.length, a0 = some ⟨b, o, none⟩) → Cel w b (o + i * 5) ps[i].1 ps[i].2 ∧ R ps[i].1 ps[i].2 := by
    by_cases h0 : 0 < ts.length
    · obtain ⟨b, o, e, h5⟩ := h4 h0
      have h6 : ∀ j : Fin ts.length, ∃ sv', Cel w b (o + j * 5) ts[j] sv' ∧ R ts[j] sv' := fun j => h5 j j.2
      refine ⟨List.ofFn (fun j : Fin ts.length => (ts[j], (h6 j).choose)), ?_, ?_⟩
      · apply List.ext_getElem
        · simp
        · intro i hi1 hi2; simp
      · intro i hi b' o' ⟨_, e'⟩
        rw [e] at e'
        simp only [Option.some.injEq, Addr.mk.injEq, and_true] at e'
        obtain ⟨rfl, rfl⟩ := e'
        have hi' : i < ts.length := by simpa using hi
        have := (h6 ⟨i, hi'⟩).choose_spec
        simpa using this
    · refine ⟨[], ?_, fun i h => by simp at h⟩
      have : ts = [] := List.length_eq_zero_iff.1 (by omega)
      rw [this]; rfl
  obtain ⟨ps, hp1, hp2⟩ := key
  have hlen : ps.length = ts.length := by rw [← hp1, List.length_map]
  refine ⟨a0, cap, ps, hp1, ?_, by rw [hlen]; exact h1, by omega, h3, ?_⟩
  · intro p hp
    obtain ⟨i, hi, rfl⟩ := List.getElem_of_mem hp
    obtain ⟨b, o, e, _⟩ := h4 (by omega)
    exact (hp2 i hi b o ⟨by omega, e⟩).2
  · intro h0
    obtain ⟨b, o, e, _⟩ := h4 (by omega)
    refine ⟨b, o, e, fun j u hj => ?_⟩
    have hjl : j < ps.length * 5 := by
      rw [← celP_len]
      rcases Nat.lt_or_ge j (ps.flatMap celP).length with h | h
      · exact h
      · rw [List.getElem?_eq_none h] at hj; cases hj
    have hq : j / 5 < ps.length := by omega
    have hr : j % 5 < 5 := by omega
    have ej : j = j / 5 * 5 + j % 5 := by omega
    have hc := (hp2 (j / 5) hq b o ⟨by omega, e⟩).1
    rw [ej, celP_at ps _ _ hr hq] at hj
    rw [addr_add, ej]
    generalize j / 5 = q at *
    generalize j % 5 = r at *
    obtain ⟨c0, c1, c2, c3, c4⟩ := hc
    match r, hr with
    | 0, _ => simp [celP] at hj; subst hj; simpa using c0
    | 1, _ => simp [celP] at hj; subst hj; rw [← c1]; congr 1
    | 2, _ => simp [celP] at hj; subst hj; rw [← c2]; congr 1
    | 3, _ => simp [celP] at hj; subst hj; rw [← c3]; congr 1
    | 4, _ => simp [celP] at hj; subst hj; rw [← c4]; congr 1

/-- What is owned as a row of values is a list of them. -/
theorem own_lv {w : World} {base : Nat} {v : Value} {n : Nat} (R : Tr → Value → Prop) (ps : List (Tr × Value)) (hR : ∀ p ∈ ps, R p.1 p.2) (h : w.ownsRow base 32 5 v n (ps.flatMap celP)) : LvB (base ≤ ·) w R (ps.map (·.1)) v := by
  have hn : ps.length = n := by have := h.1; rw [celP_len] at this; omega
  subst hn
  rcases h.2 with ⟨hv, h0⟩ | ⟨g, cap, cur, hv, hb, -, h1, h2, -⟩
  · refine ⟨none, 0, by simp [hv, h0], by simp [h0], by unfold maxLen; omega, fun hp => by simp at hp; omega⟩
  · refine ⟨some ⟨g, 0, none⟩, cap, by simp [hv], by simpa using h1, h2, fun _ => ⟨g, 0, rfl, hb, fun j hj => ?_⟩⟩
    have hj' : j < ps.length := by simpa using hj
    have hc := h.cells (g := g) (by rw [hv]; rfl)
    have at5 : ∀ r u, r < 5 → (celP ps[j])[r]? = some u → w.cell? ⟨g, 0 + j * 5 + r, none⟩ = some u := by
      intro r u hr hu
      have := hc (j * 5 + r) u (by rw [celP_at ps j r hr hj']; exact hu)
      rw [addr_add] at this
      rw [← this]; congr 2; omega
    refine ⟨ps[j].2, ⟨?_, ?_, ?_, ?_, ?_⟩, ?_⟩
    · simpa using at5 0 _ (by omega) rfl
    · simpa using at5 1 _ (by omega) rfl
    · simpa using at5 2 _ (by omega) rfl
    · simpa using at5 3 _ (by omega) rfl
    · simpa using at5 4 _ (by omega) rfl
    · simpa using hR ps[j] (List.getElem_mem hj')

theorem append_none (w : World) (base : Nat) (t ty e : TypeId) (i : TypeInfo) (size cap0 : Nat) (ht : Tryd.prog.underlying t = some (.slice e)) (hi : Tryd.prog.info? e = some i)
    (v : Value) (n : Nat) (xs : List Value) (hown : w.ownsRow base e size v n xs) :
    (Builtin.append_ #[t, t] ty #[v, .slice none 0 cap0]).run Tryd.prog w = .ok v w := by
  rcases hown.2 with ⟨rfl, rfl⟩ | ⟨g, cap, cur, rfl, _, _, hnc, _⟩
  · simp [Builtin.append_, run_underlying ht, sizeOf, typeInfo, hi, Builtin.lenOf, Builtin.firstCells]
  · simp [Builtin.append_, run_underlying ht, sizeOf, typeInfo, hi, Builtin.lenOf, Builtin.firstCells, hnc, storeCells]

/-- append of a list of values to a row that is owned, whatever the list. -/
theorem append_vals {w : World} {base : Nat} {v : Value} {n : Nat} {xs : List Value} (ty : TypeId) (hown : w.ownsRow base 32 5 v n xs) (ps : List (Tr × Value)) (a0 : Option Addr) (cap : Nat)
    (hone : ∀ p ∈ ps, ∃ a l c, p.2 = .slice a l c)
    (hcells : 0 < ps.length → ∃ b o, a0 = some ⟨b, o, none⟩ ∧ ∀ j u, (ps.flatMap celP)[j]? = some u → w.cell? ((⟨b, o, none⟩ : Addr).add j) = some u) (hsum : n + ps.length ≤ 1000000) (hbase : base ≤ w.heap.size) :
    ∃ v' w', (Builtin.append_ #[22, 22] ty #[v, .slice a0 ps.length cap]).run Tryd.prog w = .ok v' w' ∧ w'.ownsRow base 32 5 v' (n + ps.length) (xs ++ ps.flatMap celP) ∧ w.grownBy w' v.ownBlock := by
  obtain ⟨i, z, h1, h2, h3, h4, h5⟩ := zeroV
  cases a0 with
  | none =>
    have hp : ps = [] := by
      by_cases h0 : 0 < ps.length
      · obtain ⟨b, o, e, _⟩ := hcells h0
        cases e
      · exact List.length_eq_zero_iff.1 (by omega)
    subst hp
    refine ⟨v, w, append_none w base _ _ _ i 5 cap Tryd.underlying22 h1 v n xs hown, ?_, ⟨rfl, rfl, rfl, Nat.le_refl _, fun _ _ _ => rfl⟩⟩
    simpa using hown
  | some a =>
    have hcell : ∀ j u, (ps.flatMap celP)[j]? = some u → w.cell? (a.add j) = some u := by
      intro j u hj
      by_cases h0 : 0 < ps.length
      · obtain ⟨b, o, e, hh⟩ := hcells h0
        cases e
        exact hh j u hj
      · have : ps = [] := List.length_eq_zero_iff.1 (by omega)
        subst this
        simp at hj
    obtain ⟨v', w', r1, r2, r3, -⟩ := run_append_own (P := Tryd.prog) w base _ ty _ i z 5 64 Tryd.underlying22 h1 h2 h4 h5 (by rw [h3]; rfl) (by omega) v n xs hown a ps.length cap (ps.flatMap celP) (celP_len ps) hcell (by
        intro u hu
        rw [List.mem_flatMap] at hu
        obtain ⟨p, hp, hu⟩ := hu
        obtain ⟨a, l, c, e⟩ := hone p hp
        simp [celP, e] at hu
        rcases hu with rfl | rfl | rfl | rfl | rfl <;> rfl) (by unfold maxLen; omega) (by omega) hbase
    exact ⟨v', w', r1, r2, r3⟩

set_option maxRecDepth 100000 in
set_option maxHeartbeats 1000000 in
/-- slices.Grow of nil. -/
theorem grow_nil (n : Nat) (hn : n ≤ 100000) (w : World) :
    Calls Tryd.prog 108 #[.slice none 0 0, .int .i64 n] w fun e w' => ∃ v, e = .returned v ∧ Hid (w'.ownsRow w.heap.size 32 5 v 0 []) ∧ Below w.heap.size w w' := by
  obtain ⟨i, z, h1, h2, h3, h4, h5⟩ := zeroV
  by_cases h0 : n = 0
  · subst h0
    go_enter Tryd.func108, Tryd.ntmps108
    go_wp2
    go_ret
    exact ⟨_, rfl, World.ownsRow_nil _ _ _ _, Below.refl _ _⟩
  · have hr := fun ty => Lib.run_append_nil_zeros (P := Tryd.prog) w 22 3 ty 32 i z .i64 .i64 Tryd.underlying22 Tryd.underlying3 h1 h2 n (by omega) (by omega) (by omega) (by rw [h5]; omega)
    have hge := grownCap_ge w n 0 32
    have hmx := grownCap_le_maxLen w n 0 32 (by unfold maxLen; omega)
    unfold maxLen at hmx
    have HR : Hid (∀ ty, ∃ cs, cs.size = grownCap w n 0 32 * 5 ∧ (Builtin.append_ #[22, 3] ty #[.slice none 0 0, .int .i64 n]).run Tryd.prog w = .ok (.slice (some ⟨w.heap.size, 0, none⟩) n (grownCap w n 0 32)) (w.drew.alloc (.cells cs 32))) := by
      intro ty
      refine ⟨_, ?_, hr ty⟩
      rw [Array.size_append, size_zeroCells, size_zeroCells, h3]
      simp
      omega
    generalize grownCap w n 0 32 = cap at *
    clear hr
    obtain ⟨cs, hcs, hrun⟩ := HR.out 22
    have g1 : ¬ ((n : Int) < 0) := by omega
    have g2 : (n : Int) > 0 := by omega
    go_enter Tryd.func108, Tryd.ntmps108
    go_wp2_with (at_builtin; refine Lib.wpList_append_run _ rfl _ _ _ _ rfl _ _ rfl rfl _ _ hrun ?_)
    go_ret
    exact ⟨_, rfl, World.ownsRow_made w.drew cs cap (Nat.le_refl _) hmx hcs, below_al (Below.refl _ _).drew _⟩
theorem own_step {w w1 w2 : World} {B : Nat} {v : Value} {e : TypeId} {size n : Nat} {xs : List Value} (hb : Below w.heap.size w w1) (hg : w1.grownBy w2 v.ownBlock) (ho : w1.ownsRow B e size v n xs) (hB : w.heap.size ≤ B) : Below w.heap.size w w2 :=
  hb.grown hg hb.size (fun j e => Nat.le_trans hB (ho.lt j e).1)

set_option maxRecDepth 100000 in
set_option maxHeartbeats 2000000 in
theorem concat_two (n : Nat) (us vs : List Tr) (sa sb : Value) (g : Nat) (w : World) (c0 : w.cell? ⟨g, 0, none⟩ = some sa) (c1 : w.cell? ⟨g, 1, none⟩ = some sb) (ha : Lv w (Vs w n) us sa) (hb : Lv w (Vs w n) vs sb) (hl : us.length + vs.length ≤ 4096) :
    Calls Tryd.prog 100 #[.slice (some ⟨g, 0, none⟩) 2 2] w fun e w' => ∃ v, e = .returned v ∧ Hid (LvB (w.heap.size ≤ ·) w' (Vs w' n) (us ++ vs) v) ∧ Below w.heap.size w w' := by
  obtain ⟨a0, ca, ps, rfl, hpR, rfl, la, ma, pa⟩ := ha.pairs
  obtain ⟨b0, cb, qs, rfl, hqR, rfl, lb, mb, pb⟩ := hb.pairs
  rw [List.length_map, List.length_map] at hl
  unfold maxLen at ma mb
  have hp1 : Hid (∀ p ∈ ps, ∃ a l c, p.2 = .slice a l c) := fun p hp => by
    obtain ⟨a, c, h, _⟩ := (hpR p hp).form
    exact ⟨a, _, c, h⟩
  have hq1 : Hid (∀ p ∈ qs, ∃ a l c, p.2 = .slice a l c) := fun p hp => by
    obtain ⟨a, c, h, _⟩ := (hqR p hp).form
    exact ⟨a, _, c, h⟩
  have PA := Hid.intro pa
  have PB := Hid.intro pb
  have RA := Hid.intro hpR
  have RB := Hid.intro hqR
  clear pa pb hpR hqR ha hb
  have hlg : g < w.heap.size := cell_lt c0
  have s1 : wrap64 ((0 : Int) + (ps.length : Int)) = (ps.length : Int) := by unfold wrap64; omega
  have s2 : wrap64 ((ps.length : Int) + (qs.length : Int)) = ((ps.length + qs.length : Nat) : Int) := by unfold wrap64; omega
  have n1 : ¬ ((ps.length : Int) < 0) := by omega
  have n2 : ¬ (((ps.length + qs.length : Nat) : Int) < 0) := by omega
  go_enter Tryd.func100, Tryd.ntmps100
  go_wp2
  go_loopw [3, 11] (fun sz i w' => w' = w ∧ ((i = .int .i64 0 ∧ sz = .int .i64 0) ∨ (i = .int .i64 1 ∧ sz = .int .i64 (ps.length : Int)) ∨ (i = .int .i64 2 ∧ sz = .int .i64 ((ps.length + qs.length : Nat) : Int)))) (fun _ i _ => 2 - (intOf i).toNat)
  case atStart => exact ⟨rfl, .inl ⟨rfl, rfl⟩⟩
  case round =>
    obtain ⟨hw, hrel⟩ := hrel
    subst wr
    obtain ⟨rfl, rfl⟩ | ⟨rfl, rfl⟩ | ⟨rfl, rfl⟩ := hrel
    · go_wp2
      go_roundw
      case rel => exact ⟨trivial, .inr (.inl ⟨by go_num, rfl⟩)⟩
      case measure => simp [intOf]
    · go_wp2
      go_roundw
      case rel => exact ⟨trivial, .inr (.inr ⟨by go_num, rfl⟩)⟩
      case measure => simp [intOf]
    · go_wp2_with fail
      refine (grow_nil (ps.length + qs.length) (by omega) _).mono ?_
      rintro e w1 ⟨v1, rfl, O1, hb1⟩
      have HB1 := Hid.intro hb1
      clear hb1
      go_wp2
      go_loopw [6, 27] (fun v i w' => Hid (Below w.heap.size w w') ∧ ((i = .int .i64 0 ∧ Hid (w'.ownsRow w.heap.size 32 5 v 0 [])) ∨ (i = .int .i64 1 ∧ Hid (w'.ownsRow w.heap.size 32 5 v ps.length (ps.flatMap celP))) ∨ (i = .int .i64 2 ∧ Hid (w'.ownsRow w.heap.size 32 5 v (ps.length + qs.length) (ps.flatMap celP ++ qs.flatMap celP))))) (fun _ i _ => 2 - (intOf i).toNat)
      case atStart => exact ⟨HB1, .inl ⟨rfl, O1⟩⟩
      case round =>
        obtain ⟨HW, hrel⟩ := hrel
        have d0 := (HW.out.cell (p := ⟨g, 0, none⟩) hlg).trans c0
        have d1 := (HW.out.cell (p := ⟨g, 1, none⟩) hlg).trans c1
        have hlr : g < wr.heap.size := cell_lt d0
        obtain ⟨rfl, O⟩ | ⟨rfl, O⟩ | ⟨rfl, O⟩ := hrel
        · obtain ⟨v', w2, hrun, o2, gr⟩ := append_vals 22 O.out ps a0 ca hp1.out (fun h0 => by
            obtain ⟨b, o, e, hh⟩ := PA.out h0
            refine ⟨b, o, e, fun j u hj => ?_⟩
            have := hh j u hj
            rw [addr_add] at this ⊢
            rw [HW.out.cell (p := ⟨b, o + j, none⟩) (cell_lt this)]; exact this) (by omega) HW.out.size
          have HW2 := Hid.intro (own_step HW.out gr O.out (Nat.le_refl _))
          have O2 := Hid.intro o2
          clear gr o2 O HW
          simp only [Nat.zero_add, List.nil_append] at O2
          go_wp2_with (at_builtin; refine Lib.wpList_append_run _ rfl _ _ _ _ rfl _ _ rfl rfl _ _ hrun ?_)
          go_roundw
          case rel => exact ⟨HW2, .inr (.inl ⟨by go_num, O2⟩)⟩
          case measure => simp [intOf]
        · obtain ⟨v', w2, hrun, o2, gr⟩ := append_vals 22 O.out qs b0 cb hq1.out (fun h0 => by
            obtain ⟨b, o, e, hh⟩ := PB.out h0
            refine ⟨b, o, e, fun j u hj => ?_⟩
            have := hh j u hj
            rw [addr_add] at this ⊢
            rw [HW.out.cell (p := ⟨b, o + j, none⟩) (cell_lt this)]; exact this) (by omega) HW.out.size
          have HW2 := Hid.intro (own_step HW.out gr O.out (Nat.le_refl _))
          have O2 := Hid.intro o2
          clear gr o2 O HW
          go_wp2_with (at_builtin; refine Lib.wpList_append_run _ rfl _ _ _ _ rfl _ _ rfl rfl _ _ hrun ?_)
          go_roundw
          case rel => exact ⟨HW2, .inr (.inr ⟨by go_num, O2⟩)⟩
          case measure => simp [intOf]
        · go_wp2
          go_ret
          refine ⟨_, rfl, ?_, HW.out⟩
          have := own_lv (Vs wr n) (ps ++ qs) (fun p hp => by
            rcases List.mem_append.1 hp with h | h
            · exact Vs.below HW.out _ _ _ (RA.out p h)
            · exact Vs.below HW.out _ _ _ (RB.out p h)) (by rw [List.flatMap_append]; exact O.out)
          rw [List.map_append] at this
          exact this
end Go.Proofs.YtppbaflacccilaaDoor
