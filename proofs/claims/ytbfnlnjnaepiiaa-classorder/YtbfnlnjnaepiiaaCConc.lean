/- Rows of fields: append, slices.Grow, slices.Concat of two. -/
import Derived.Test.YtbfnlnjnaepiiaaCTab
import Derived.Lib.AppendZeros
import Derived.Deep.AppendLies
import Derived.Laws.AppendOwnNone
import Derived.Maps.AppendAt
namespace Go.Proofs.Ytbfnlnjnaepiiaa
open Go.RowKit

/-- A field's three cells. -/
def celF (f : Fl) : List Value := [.string f.n, .int .i64 f.t, .string f.c]

theorem celF_len (fs : List Fl) : (fs.flatMap celF).length = fs.length * 3 := by
  induction fs with
  | nil => rfl
  | cons p ps ih => rw [List.flatMap_cons, List.length_append, ih, List.length_cons]; simp [celF]; omega

theorem celF_at : ∀ (fs : List Fl) (j r : Nat) (_ : r < 3) (h : j < fs.length), (fs.flatMap celF)[j * 3 + r]? = (celF fs[j])[r]?
  | [], j, r, _, h => absurd h (by simp)
  | x :: ns, 0, r, hr, h => by
    rw [List.flatMap_cons, List.getElem?_append_left (by simp [celF]; omega)]
    simp
  | x :: ns, j + 1, r, hr, h => by
    rw [List.flatMap_cons, List.getElem?_append_right (by simp [celF]; omega)]
    have e : (j + 1) * 3 + r - (celF x).length = j * 3 + r := by simp [celF]; omega
    rw [e, celF_at ns j r hr (by simpa using h)]
    simp

theorem addr_add (b o j : Nat) : (⟨b, o, none⟩ : Addr).add j = ⟨b, o + j, none⟩ := by
  unfold Addr.add
  split
  · next hz => have hz' : j = 0 := by simpa using hz
               rw [hz', Nat.add_zero]
  · simp

/-- A slice's cells, as one row. -/
def RowAt (w : World) (xs : List Value) (a0 : Option Addr) : Prop := 0 < xs.length → ∃ b o, a0 = some ⟨b, o, none⟩ ∧ ∀ j u, xs[j]? = some u → w.cell? ((⟨b, o, none⟩ : Addr).add j) = some u

theorem RowAt.below {w w' : World} {xs : List Value} {a0 : Option Addr} (h : RowAt w xs a0) (hb : Below w.heap.size w w') : RowAt w' xs a0 := by
  intro h0
  obtain ⟨b, o, e, hh⟩ := h h0
  refine ⟨b, o, e, fun j u hj => ?_⟩
  have := hh j u hj
  rw [addr_add] at this ⊢
  rw [hb.cell (p := ⟨b, o + j, none⟩) (cell_lt this)]; exact this

theorem Fv.row {P : Nat → Prop} {w : World} {fs : List Fl} {sv : Value} (h : Fv P w fs sv) : ∃ (a0 : Option Addr) (cap : Nat), sv = .slice a0 fs.length cap ∧ fs.length ≤ cap ∧ cap ≤ 9223372036854775807 ∧ RowAt w (fs.flatMap celF) a0 := by
  obtain ⟨a0, cap, h1, h2, h3, h4⟩ := h
  refine ⟨a0, cap, h1, h2, h3, fun h0 => ?_⟩
  rw [celF_len] at h0
  obtain ⟨b, o, e, -, h5⟩ := h4 (by omega)
  refine ⟨b, o, e, fun j u hj => ?_⟩
  have hjl : j < fs.length * 3 := by
    rw [← celF_len]
    rcases Nat.lt_or_ge j (fs.flatMap celF).length with h | h
    · exact h
    · rw [List.getElem?_eq_none h] at hj; cases hj
  have hq : j / 3 < fs.length := by omega
  have hr : j % 3 < 3 := by omega
  have ej : j = j / 3 * 3 + j % 3 := by omega
  have hc := h5 (j / 3) hq
  rw [ej, celF_at fs _ _ hr hq] at hj
  rw [addr_add, ej]
  generalize j / 3 = q at *
  generalize j % 3 = r at *
  obtain ⟨c0, c1, c2⟩ := hc
  match r, hr with
  | 0, _ => simp [celF] at hj; subst hj; simpa using c0
  | 1, _ => simp [celF] at hj; subst hj; rw [← c1]; congr 1
  | 2, _ => simp [celF] at hj; subst hj; rw [← c2]; congr 1

theorem own_fv {w : World} {base : Nat} {v : Value} {n : Nat} (fs : List Fl) (h : w.ownsRow base 37 3 v n (fs.flatMap celF)) : Fv (base ≤ ·) w fs v := by
  have hn : fs.length = n := by have := h.1; rw [celF_len] at this; omega
  subst hn
  rcases h.2 with ⟨hv, h0⟩ | ⟨g, cap, cur, hv, hb, -, h1, h2, -⟩
  · refine ⟨none, 0, by simp [hv, h0], by simp [h0], by unfold maxLen; omega, fun hp => by omega⟩
  · refine ⟨some ⟨g, 0, none⟩, cap, by simp [hv], by simpa using h1, h2, fun _ => ⟨g, 0, rfl, hb, fun j hj => ?_⟩⟩
    have hc := h.cells (g := g) (by rw [hv]; rfl)
    have at3 : ∀ r u, r < 3 → (celF fs[j])[r]? = some u → w.cell? ⟨g, 0 + j * 3 + r, none⟩ = some u := by
      intro r u hr hu
      have := hc (j * 3 + r) u (by rw [celF_at fs j r hr hj]; exact hu)
      rw [addr_add] at this
      rw [← this]; congr 2; omega
    refine ⟨?_, ?_, ?_⟩
    · simpa using at3 0 _ (by omega) rfl
    · simpa using at3 1 _ (by omega) rfl
    · simpa using at3 2 _ (by omega) rfl

theorem zeroF' : (Try.prog.info? 37).map (fun i => (i.zero.map (fun z => z.cells), i.size, i.bytes)) = some (some #[.string ⟨#[]⟩, .int .i64 0, .string ⟨#[]⟩], 3, 40) := by kernel_rfl
theorem zeroF : ∃ i z, Try.prog.info? 37 = some i ∧ i.zero = some z ∧ z.cells = #[.string ⟨#[]⟩, .int .i64 0, .string ⟨#[]⟩] ∧ i.size = 3 ∧ i.bytes = 40 := by
  have h := zeroF'
  cases hi : Try.prog.info? 37 with
  | none => rw [hi] at h; cases h
  | some i =>
    rw [hi] at h
    simp at h
    obtain ⟨⟨z, h1, h1'⟩, h2, h3⟩ := h
    exact ⟨i, z, rfl, h1, h1', h2, h3⟩

theorem append_none (w : World) (base : Nat) (t ty e : TypeId) (i : TypeInfo) (size cap0 : Nat) (ht : Try.prog.underlying t = some (.slice e)) (hi : Try.prog.info? e = some i)
    (v : Value) (n : Nat) (xs : List Value) (hown : w.ownsRow base e size v n xs) :
    (Builtin.append_ #[t, t] ty #[v, .slice none 0 cap0]).run Try.prog w = .ok v w := by
  rcases hown.2 with ⟨rfl, rfl⟩ | ⟨g, cap, cur, rfl, _, _, hnc, _⟩
  · simp [Builtin.append_, run_underlying ht, sizeOf, typeInfo, hi, Builtin.lenOf, Builtin.firstCells]
  · simp [Builtin.append_, run_underlying ht, sizeOf, typeInfo, hi, Builtin.lenOf, Builtin.firstCells, hnc, storeCells]

/-- append of a slice of fields to a row that is owned. -/
theorem append_flds {w : World} {base : Nat} {v : Value} {n : Nat} {xs : List Value} (ty : TypeId) (hown : w.ownsRow base 37 3 v n xs) (fs : List Fl) (a0 : Option Addr) (cap : Nat)
    (hcells : RowAt w (fs.flatMap celF) a0) (hsum : n + fs.length ≤ 1000000) (hbase : base ≤ w.heap.size) :
    ∃ v' w', (Builtin.append_ #[33, 33] ty #[v, .slice a0 fs.length cap]).run Try.prog w = .ok v' w' ∧ w'.ownsRow base 37 3 v' (n + fs.length) (xs ++ fs.flatMap celF) ∧ w.grownBy w' v.ownBlock := by
  obtain ⟨i, z, h1, h2, h3, h4, h5⟩ := zeroF
  cases a0 with
  | none =>
    have hp : fs = [] := by
      by_cases h0 : 0 < fs.length
      · obtain ⟨b, o, e, _⟩ := hcells (by rw [celF_len]; omega)
        cases e
      · exact List.length_eq_zero_iff.1 (by omega)
    subst hp
    refine ⟨v, w, append_none w base _ _ _ i 3 cap Try.underlying33 h1 v n xs hown, ?_, ⟨rfl, rfl, rfl, Nat.le_refl _, fun _ _ _ => rfl⟩⟩
    simpa using hown
  | some a =>
    have hcell : ∀ j u, (fs.flatMap celF)[j]? = some u → w.cell? (a.add j) = some u := by
      intro j u hj
      by_cases h0 : 0 < fs.length
      · obtain ⟨b, o, e, hh⟩ := hcells (by rw [celF_len]; omega)
        cases e
        exact hh j u hj
      · have : fs = [] := List.length_eq_zero_iff.1 (by omega)
        subst this
        simp at hj
    obtain ⟨v', w', r1, r2, r3, -⟩ := run_append_own (P := Try.prog) w base _ ty _ i z 3 40 Try.underlying33 h1 h2 h4 h5 (by rw [h3]; rfl) (by omega) v n xs hown a fs.length cap (fs.flatMap celF) (celF_len fs) hcell (by
        intro u hu
        rw [List.mem_flatMap] at hu
        obtain ⟨p, hp, hu⟩ := hu
        simp [celF] at hu
        rcases hu with rfl | rfl | rfl <;> rfl) (by unfold maxLen; omega) (by omega) hbase
    exact ⟨v', w', r1, r2, r3⟩

set_option maxRecDepth 100000 in
set_option maxHeartbeats 1000000 in
/-- slices.Grow of nil. -/
theorem grow_nil (n : Nat) (hn : n ≤ 100000) (w : World) :
    Calls Try.prog 56 #[.slice none 0 0, .int .i64 n] w fun e w' => ∃ v, e = .returned v ∧ Hid (w'.ownsRow w.heap.size 37 3 v 0 []) ∧ Below w.heap.size w w' := by
  obtain ⟨i, z, h1, h2, h3, h4, h5⟩ := zeroF
  by_cases h0 : n = 0
  · subst h0
    go_enter Try.func56, Try.ntmps56
    go_wp2
    go_ret
    exact ⟨_, rfl, World.ownsRow_nil _ _ _ _, Below.refl _ _⟩
  · have hr := fun ty => Lib.run_append_nil_zeros (P := Try.prog) w 33 3 ty 37 i z .i64 .i64 Try.underlying33 Try.underlying3 h1 h2 n (by omega) (by omega) (by omega) (by rw [h5]; omega)
    have hge := grownCap_ge w n 0 37
    have hmx := grownCap_le_maxLen w n 0 37 (by unfold maxLen; omega)
    unfold maxLen at hmx
    have HR : Hid (∀ ty, ∃ cs, cs.size = grownCap w n 0 37 * 3 ∧ (Builtin.append_ #[33, 3] ty #[.slice none 0 0, .int .i64 n]).run Try.prog w = .ok (.slice (some ⟨w.heap.size, 0, none⟩) n (grownCap w n 0 37)) (w.drew.alloc (.cells cs 37))) := by
      intro ty
      refine ⟨_, ?_, hr ty⟩
      rw [Array.size_append, size_zeroCells, size_zeroCells, h3]
      simp
      omega
    generalize grownCap w n 0 37 = cap at *
    clear hr
    obtain ⟨cs, hcs, hrun⟩ := HR.out 33
    have g1 : ¬ ((n : Int) < 0) := by omega
    have g2 : (n : Int) > 0 := by omega
    go_enter Try.func56, Try.ntmps56
    go_wp2_with (at_builtin; refine Lib.wpList_append_run _ rfl _ _ _ _ rfl _ _ rfl rfl _ _ hrun ?_)
    go_ret
    exact ⟨_, rfl, World.ownsRow_made w.drew cs cap (Nat.le_refl _) hmx hcs, below_al (Below.refl _ _).drew _⟩

theorem own_step {w w1 w2 : World} {B : Nat} {v : Value} {e : TypeId} {size n : Nat} {xs : List Value} (hb : Below w.heap.size w w1) (hg : w1.grownBy w2 v.ownBlock) (ho : w1.ownsRow B e size v n xs) (hB : w.heap.size ≤ B) : Below w.heap.size w w2 :=
  hb.grown hg hb.size (fun j e => Nat.le_trans hB (ho.lt j e).1)

set_option maxRecDepth 100000 in
set_option maxHeartbeats 2000000 in
theorem concat_two {P Q : Nat → Prop} (us vs : List Fl) (sa sb : Value) (g : Nat) (w : World) (c0 : w.cell? ⟨g, 0, none⟩ = some sa) (c1 : w.cell? ⟨g, 1, none⟩ = some sb) (ha : Fv P w us sa) (hb : Fv Q w vs sb) (hl : us.length + vs.length ≤ 4096) :
    Calls Try.prog 45 #[.slice (some ⟨g, 0, none⟩) 2 2] w fun e w' => ∃ v, e = .returned v ∧ Hid (Fv (w.heap.size ≤ ·) w' (us ++ vs) v) ∧ Below w.heap.size w w' := by
  obtain ⟨a0, ca, rfl, la, ma, pa⟩ := ha.row
  obtain ⟨b0, cb, rfl, lb, mb, pb⟩ := hb.row
  have PA := Hid.intro pa
  have PB := Hid.intro pb
  clear pa pb ha hb
  have hlg : g < w.heap.size := cell_lt c0
  have s1 : wrap64 ((0 : Int) + (us.length : Int)) = (us.length : Int) := by unfold wrap64; omega
  have s2 : wrap64 ((us.length : Int) + (vs.length : Int)) = ((us.length + vs.length : Nat) : Int) := by unfold wrap64; omega
  have n1 : ¬ ((us.length : Int) < 0) := by omega
  have n2 : ¬ (((us.length + vs.length : Nat) : Int) < 0) := by omega
  go_enter Try.func45, Try.ntmps45
  go_wp2
  go_loopw [3, 11] (fun sz i w' => w' = w ∧ ((i = .int .i64 0 ∧ sz = .int .i64 0) ∨ (i = .int .i64 1 ∧ sz = .int .i64 (us.length : Int)) ∨ (i = .int .i64 2 ∧ sz = .int .i64 ((us.length + vs.length : Nat) : Int)))) (fun _ i _ => 2 - (intOf i).toNat)
  case atStart => exact ⟨rfl, .inl ⟨rfl, rfl⟩⟩
  case round =>
    obtain ⟨hw, hrel⟩ := hrel
    subst wr
    obtain ⟨rfl, rfl⟩ | ⟨rfl, rfl⟩ | ⟨rfl, rfl⟩ := hrel
    · go_wp2
      go_roundw
      case rel => exact ⟨trivial, .inr (.inl ⟨by go_num, rfl⟩)⟩
      case measure => simp [intOf]
    · go_wp2
      go_roundw
      case rel => exact ⟨trivial, .inr (.inr ⟨by go_num, rfl⟩)⟩
      case measure => simp [intOf]
    · go_wp2_with fail
      refine (grow_nil (us.length + vs.length) (by omega) _).mono ?_
      rintro e w1 ⟨v1, rfl, O1, hb1⟩
      have HB1 := Hid.intro hb1
      clear hb1
      go_wp2
      go_loopw [6, 27] (fun v i w' => Hid (Below w.heap.size w w') ∧ ((i = .int .i64 0 ∧ Hid (w'.ownsRow w.heap.size 37 3 v 0 [])) ∨ (i = .int .i64 1 ∧ Hid (w'.ownsRow w.heap.size 37 3 v us.length (us.flatMap celF))) ∨ (i = .int .i64 2 ∧ Hid (w'.ownsRow w.heap.size 37 3 v (us.length + vs.length) (us.flatMap celF ++ vs.flatMap celF))))) (fun _ i _ => 2 - (intOf i).toNat)
      case atStart => exact ⟨HB1, .inl ⟨rfl, O1⟩⟩
      case round =>
        obtain ⟨HW, hrel⟩ := hrel
        have d0 := (HW.out.cell (p := ⟨g, 0, none⟩) hlg).trans c0
        have d1 := (HW.out.cell (p := ⟨g, 1, none⟩) hlg).trans c1
        have hlr : g < wr.heap.size := cell_lt d0
        obtain ⟨rfl, O⟩ | ⟨rfl, O⟩ | ⟨rfl, O⟩ := hrel
        · obtain ⟨v', w2, hrun, o2, gr⟩ := append_flds 33 O.out us a0 ca (PA.out.below HW.out) (by omega) HW.out.size
          have HW2 := Hid.intro (own_step HW.out gr O.out (Nat.le_refl _))
          have O2 := Hid.intro o2
          clear gr o2 O HW
          simp only [Nat.zero_add, List.nil_append] at O2
          go_wp2_with (at_builtin; refine Lib.wpList_append_run _ rfl _ _ _ _ rfl _ _ rfl rfl _ _ hrun ?_)
          go_roundw
          case rel => exact ⟨HW2, .inr (.inl ⟨by go_num, O2⟩)⟩
          case measure => simp [intOf]
        · obtain ⟨v', w2, hrun, o2, gr⟩ := append_flds 33 O.out vs b0 cb (PB.out.below HW.out) (by omega) HW.out.size
          have HW2 := Hid.intro (own_step HW.out gr O.out (Nat.le_refl _))
          have O2 := Hid.intro o2
          clear gr o2 O HW
          go_wp2_with (at_builtin; refine Lib.wpList_append_run _ rfl _ _ _ _ rfl _ _ rfl rfl _ _ hrun ?_)
          go_roundw
          case rel => exact ⟨HW2, .inr (.inr ⟨by go_num, O2⟩)⟩
          case measure => simp [intOf]
        · go_wp2
          go_ret
          refine ⟨_, rfl, ?_, HW.out⟩
          exact own_fv (us ++ vs) (by rw [List.flatMap_append]; exact O.out)
end Go.Proofs.Ytbfnlnjnaepiiaa
