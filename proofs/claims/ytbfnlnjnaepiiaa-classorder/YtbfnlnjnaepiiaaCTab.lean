/- A table in memory; Has, place, Index: what they tell. -/
import Derived.Test.YtbfnlnjnaepiiaaCBase
namespace Go.Proofs.Ytbfnlnjnaepiiaa
open Go.RowKit Go.Maps

/-- The table T at the block g. -/
def Tab (P : Nat → Prop) (w : World) (g : Nat) (T : List Cl) : Prop :=
  ∃ r es clock osv, w.cell? ⟨g, 0, none⟩ = some osv ∧ w.cell? ⟨g, 1, none⟩ = some (.map (some r)) ∧ w.heap[r]? = some (.map es clock) ∧ Ens (EnAt P w) T es.toList ∧ Sv P w (T.map (·.n)) osv

theorem lt_of_heap {w : World} {r : Nat} {o : Obj} (h : w.heap[r]? = some o) : r < w.heap.size := (Array.getElem?_eq_some_iff.1 h).1

theorem EnAt.below {P : Nat → Prop} {w w' : World} (hb : Below w.heap.size w w') (c : Cl) (e : MapEntry) (h : EnAt P w c e) : EnAt P w' c e := by
  obtain ⟨h1, sv, h2, h3⟩ := h
  exact ⟨h1, sv, h2, h3.below hb⟩

theorem Tab.below {P : Nat → Prop} {w w' : World} {g : Nat} {T : List Cl} (h : Tab P w g T) (hb : Below w.heap.size w w') : Tab P w' g T := by
  obtain ⟨r, es, clock, osv, h1, h2, h3, h4, h5⟩ := h
  exact ⟨r, es, clock, osv, (hb.cell (p := ⟨g, 0, none⟩) (cell_lt h1)).trans h1, (hb.cell (p := ⟨g, 1, none⟩) (cell_lt h2)).trans h2, (hb.block r (lt_of_heap h3)).trans h3, h4.mono (EnAt.below hb), h5.below hb⟩

set_option maxRecDepth 10000 in
set_option maxHeartbeats 1000000 in
theorem has_ex {P : Nat → Prop} {w : World} {g : Nat} {T : List Cl} (h : Tab P w g T) (x : ByteArray) :
    Calls Try.prog 24 #[.pointer (some ⟨g, 0, none⟩), .string x] w fun e w' => e = .returned (.bool (hasT T x)) ∧ ∃ v1 v2, w' = w.alloc (.cells #[v1, v2] 88) := by
  obtain ⟨r, es, clock, osv, h1, h2, h3, h4, -⟩ := h
  rw [hasT_find]
  rcases h4.find x 0 with ⟨f1, f2⟩ | ⟨c, i, sv, f1, -, fv, f2⟩
  · have L := look_no w r es clock h3 x f2 true
    rw [f1]
    simp only [if_true] at L
    go_enter Try.func24, Try.ntmps24
    go_wp2
    go_ret
    exact ⟨rfl, _, _, rfl⟩
  · have L := look_yes w r es clock h3 x i _ f2 true
    rw [f1]
    simp only [if_true] at L
    obtain ⟨a, n, rfl, -, -⟩ := fv.form
    go_enter Try.func24, Try.ntmps24
    go_wp2
    go_ret
    exact ⟨rfl, _, _, rfl⟩

theorem has_any {P : Nat → Prop} {w : World} {g : Nat} {T : List Cl} (h : Tab P w g T) (x : ByteArray) :
    Calls Try.prog 24 #[.pointer (some ⟨g, 0, none⟩), .string x] w fun e w' => e = .returned (.bool (hasT T x)) ∧ Below w.heap.size w w' := by
  refine (has_ex h x).mono ?_
  rintro e w' ⟨rfl, v1, v2, rfl⟩
  exact ⟨rfl, below_al (Below.refl _ _) _⟩

/-- The place of a field's name. -/
def placeN (x : ByteArray) : List Fl → Nat → Int
  | [], _ => -1
  | f :: fs, k => if eqS f.n x then (k : Int) else placeN x fs (k + 1)
def placeI (fs : List Fl) (x : ByteArray) : Int := placeN x fs 0

theorem placeN_drop (x : ByteArray) (fs : List Fl) (k : Nat) (h : k < fs.length) : placeN x (fs.drop k) k = if eqS fs[k].n x then (k : Int) else placeN x (fs.drop (k + 1)) (k + 1) := by
  rw [List.drop_eq_getElem_cons h, placeN]

set_option maxRecDepth 10000 in
set_option maxHeartbeats 1000000 in
theorem place1_any (f : Fl) (g : Nat) (x : ByteArray) (w : World) (hg : w.cell? ⟨g, 0, none⟩ = some (.string x)) :
    Calls Try.prog 58 #[.agg #[.string f.n, .int .i64 f.t, .string f.c], .pointer (some ⟨g, 0, none⟩)] w fun e w' => e = .returned (.bool (eqS f.n x)) ∧ Below w.heap.size w w' := by
  unfold eqS
  have hlt := cell_lt hg
  go_enter Try.func58, Try.ntmps58
  go_wp2
  go_ret
  exact ⟨rfl, below_al (Below.refl _ _) _⟩

set_option maxRecDepth 10000 in
set_option maxHeartbeats 2000000 in
theorem indexFunc_any {P : Nat → Prop} (fs : List Fl) (sv : Value) (g : Nat) (x : ByteArray) (w : World) (hg : w.cell? ⟨g, 0, none⟩ = some (.string x)) (hf : Fv P w fs sv) :
    Calls Try.prog 57 #[sv, .func (.func 58) #[] #[.pointer (some ⟨g, 0, none⟩)]] w fun e w' => e = .returned (.int .i64 (placeI fs x)) ∧ Below w.heap.size w w' := by
  have HF := Hid.intro hf
  obtain ⟨a0, cap, rfl, hc1, hc2, hc3⟩ := hf
  have HC := Hid.intro hc3
  clear hc3
  unfold maxLen at hc2
  go_enter Try.func57, Try.ntmps57
  go_wp2
  go_loopw [8] (fun i w' => Hid (Below w.heap.size w w') ∧ ∃ k : Nat, k ≤ fs.length ∧ i = .int .i64 (k : Int) ∧ Hid (placeI fs x = placeN x (fs.drop k) k)) (fun i _ => fs.length - (intOf i).toNat)
  case atStart => exact ⟨Below.refl _ _, 0, by omega, rfl, rfl⟩
  case round =>
    obtain ⟨HB, k, hk, rfl, HP⟩ := hrel
    by_cases hlt : (k : Int) < (fs.length : Int)
    · have hlt' : k < fs.length := by omega
      obtain ⟨b, o, rfl, -, hcell⟩ := HC.out (by omega)
      obtain ⟨c0, c1, c2⟩ := hcell k hlt'
      have l0 := cell_lt c0
      clear hcell
      have d0 := (HB.out.cell (p := ⟨b, o + k * 3, none⟩) l0).trans c0
      have d1 := (HB.out.cell (p := ⟨b, o + k * 3 + 1, none⟩) l0).trans c1
      have d2 := (HB.out.cell (p := ⟨b, o + k * 3 + 2, none⟩) l0).trans c2
      clear c0 c1 c2
      have HP1 := Hid.intro (place1_any fs[k] g x wr ((HB.out.cell (p := ⟨g, 0, none⟩) (cell_lt hg)).trans hg))
      have HD := Hid.intro (placeN_drop x fs k hlt')
      cases hq : eqS fs[k].n x with
      | true =>
        rw [hq] at HP1 HD
        go_wp2_with fail
        refine HP1.out.mono ?_
        rintro e w1 ⟨rfl, hb1⟩
        have HB1 := Hid.intro (hb1.via HB.out)
        clear hb1 HP1
        go_wp2
        go_ret
        refine ⟨?_, HB1.out⟩
        rw [HP.out, HD.out]
        rfl
      | false =>
        rw [hq] at HP1 HD
        go_wp2_with fail
        refine HP1.out.mono ?_
        rintro e w1 ⟨rfl, hb1⟩
        have HB1 := Hid.intro (hb1.via HB.out)
        clear hb1 HP1
        go_wp2
        go_roundw
        case rel => exact ⟨HB1, k + 1, by omega, by go_num, HP.out.trans HD.out⟩
        case measure => simp [intOf]; omega
    · have hk2 : k = fs.length := by omega
      subst hk2
      go_wp2
      go_ret
      refine ⟨?_, HB.out⟩
      rw [HP.out, List.drop_length]
      rfl

set_option maxRecDepth 10000 in
set_option maxHeartbeats 1000000 in
theorem place_any {P : Nat → Prop} (fs : List Fl) (sv : Value) (x : ByteArray) (w : World) (hf : Fv P w fs sv) :
    Calls Try.prog 46 #[sv, .string x] w fun e w' => e = .returned (.int .i64 (placeI fs x)) ∧ Below w.heap.size w w' := by
  have HI := Hid.intro (fun w' (hb : Below w.heap.size w w') g hg => indexFunc_any fs sv g x w' hg (hf.below hb))
  obtain ⟨a, n, rfl, -, -⟩ := hf.form
  go_enter Try.func46, Try.ntmps46
  go_wp2_with fail
  refine (HI.out _ (below_al (Below.refl _ _) _) _ (by simp)).mono ?_
  rintro e w1 ⟨rfl, hb1⟩
  have HB1 := Hid.intro (hb1.via (below_al (Below.refl _ _) _))
  clear hb1 HI
  go_wp2
  go_ret
  exact ⟨rfl, HB1.out⟩

/-- What Index tells. -/
def idxI (T : List Cl) (x y : ByteArray) : Int := if placeI (fieldsT T x) y < 0 then 0 else placeI (fieldsT T x) y
def idxE (T : List Cl) (x y : ByteArray) : Int := if hasT T x then (if placeI (fieldsT T x) y < 0 then 11 else 0) else 10

set_option maxRecDepth 10000 in
set_option maxHeartbeats 1000000 in
theorem index_any {P : Nat → Prop} {w : World} {g : Nat} {T : List Cl} (h : Tab P w g T) (x y : ByteArray) :
    Calls Try.prog 36 #[.pointer (some ⟨g, 0, none⟩), .string x, .string y] w fun e w' => e = .returned (.tuple #[.int .i64 (idxI T x y), .int .i64 (idxE T x y)]) ∧ Below w.heap.size w w' := by
  obtain ⟨r, es, clock, osv, h1, h2, h3, h4, -⟩ := h
  unfold idxI idxE fieldsT
  rw [hasT_find]
  rcases h4.find x 0 with ⟨f1, f2⟩ | ⟨c, i, sv, f1, -, fv, f2⟩
  · have L := look_no w r es clock h3 x f2 true
    rw [f1]
    simp only [if_true] at L
    show Calls _ _ _ w fun e w' => e = .returned (.tuple #[.int .i64 0, .int .i64 10]) ∧ _
    go_enter Try.func36, Try.ntmps36
    go_wp2
    refine bodyPost_ret (v := .tuple #[.int .i64 0, .int .i64 10]) (by simp [results, Try.results36, go_sem]) rfl ⟨rfl, below_al (Below.refl _ _) _⟩
  · have L := look_yes w r es clock h3 x i _ f2 true
    rw [f1]
    simp only [if_true] at L
    have HP := Hid.intro (fun w' (hb : Below w.heap.size w w') => place_any c.f sv y w' (fv.below hb))
    obtain ⟨a, n, rfl, -, -⟩ := fv.form
    generalize placeI c.f y = q at *
    by_cases hq : q < 0
    · go_enter Try.func36, Try.ntmps36
      go_wp2_with fail
      refine (HP.out _ (below_al (Below.refl _ _) _)).mono ?_
      rintro e w1 ⟨rfl, hb1⟩
      have HB1 := Hid.intro (hb1.via (below_al (Below.refl _ _) _))
      clear hb1 HP
      go_wp2
      refine bodyPost_ret (v := .tuple #[.int .i64 0, .int .i64 11]) (by simp [results, Try.results36, go_sem]) rfl ⟨by simp, HB1.out⟩
    · go_enter Try.func36, Try.ntmps36
      go_wp2_with fail
      refine (HP.out _ (below_al (Below.refl _ _) _)).mono ?_
      rintro e w1 ⟨rfl, hb1⟩
      have HB1 := Hid.intro (hb1.via (below_al (Below.refl _ _) _))
      clear hb1 HP
      go_wp2
      refine bodyPost_ret (v := .tuple #[.int .i64 q, .int .i64 0]) (by simp [results, Try.results36, go_sem]) rfl ⟨by simp, HB1.out⟩
end Go.Proofs.Ytbfnlnjnaepiiaa
