/- Fields: what it tells. -/
import Derived.Test.YtbfnlnjnaepiiaaCSubs
import Derived.Lib.SliceRun
namespace Go.Proofs.Ytbfnlnjnaepiiaa
open Go.RowKit Go.Maps

set_option maxRecDepth 100000 in
set_option maxHeartbeats 4000000 in
theorem clone_any {P : Nat → Prop} {w : World} (fs : List Fl) (sv : Value) (hf : Fv P w fs sv) (hl : fs.length ≤ 1000000) :
    Calls Try.prog 43 #[sv] w fun e w' => Below w.heap.size w w' ∧ ∃ v, e = .returned v ∧ Hid (Fv (w.heap.size ≤ ·) w' fs v) := by
  obtain ⟨a0, cap, rfl, hc1, hc2, hrow⟩ := hf.row
  have q22 : ∀ (w : World) (a : Option Addr) (n c n' c' : Nat), (binOp .eql 33 (.slice a n c) (.slice none n' c')).run Try.prog w = .ok (.bool a.isNone) w := fun w a n c n' c' => Lib.run_eql_slice_nil w _ _ a n c n' c' Try.underlying33
  cases a0 with
  | none =>
    have hfs : fs = [] := by
      by_cases h0 : 0 < fs.length
      · obtain ⟨b, o, e, _⟩ := hrow (by rw [celF_len]; omega)
        cases e
      · exact List.length_eq_zero_iff.1 (by omega)
    subst hfs
    go_enter Try.func43, Try.ntmps43
    go_wp2
    go_ret
    exact ⟨Below.refl _ _, _, rfl, ⟨none, 0, rfl, by simp, by unfold maxLen; omega, fun h => by simp at h⟩⟩
  | some a =>
    obtain ⟨i, z, h1, h2, h3, h4, h5⟩ := zeroF
    go_enter Try.func43, Try.ntmps43
    have hmade : (w.alloc (.cells #[] 37)).ownsRow w.heap.size 37 3 (.slice (some ⟨w.heap.size, 0, none⟩) 0 0) 0 [] := World.ownsRow_made w #[] 0 (Nat.le_refl _) (Nat.zero_le _) rfl
    obtain ⟨v', w', hrun, o2, gr⟩ := append_flds 33 hmade fs (some a) cap (hrow.below (below_al (Below.refl _ _) (.cells #[] 37))) (by omega) (by simp)
    have HB : Hid (Below w.heap.size w w') := own_step (below_al (Below.refl _ _) _) gr hmade (Nat.le_refl _)
    have HO : Hid (Fv (w.heap.size ≤ ·) w' fs v') := own_fv fs (by simpa using o2)
    clear gr o2
    go_wp2_with (at_builtin; refine Lib.wpList_append_run _ rfl _ _ _ _ rfl _ _ rfl rfl _ _ hrun ?_)
    go_ret
    exact ⟨HB.out, _, rfl, HO⟩

theorem find_none {T : List Cl} {x : ByteArray} (h : hasT T x = false) : findT T x = none := by
  rw [hasT_find] at h
  cases hf : findT T x with
  | none => rfl
  | some c => rw [hf] at h; cases h

set_option maxRecDepth 100000 in
set_option maxHeartbeats 4000000 in
theorem fields_any {base : Nat} {w : World} {g : Nat} {T : List Cl} (hT : TabB base w g T) (x : ByteArray) :
    Calls Try.prog 21 #[.pointer (some ⟨g, 0, none⟩), .string x] w fun e w' => Below w.heap.size w w' ∧ ((hasT T x = false ∧ e = .returned (.tuple #[.slice none 0 0, .int .i64 10])) ∨
      (hasT T x = true ∧ ∃ v, e = .returned (.tuple #[v, .int .i64 0]) ∧ Hid (Fv (w.heap.size ≤ ·) w' (fieldsT T x) v))) := by
  obtain ⟨r, es, osv, -, -, g3, g4, -, g6, -, g8⟩ := hT
  have h2 : w.cell? ⟨g, 1, none⟩ = some (.map (some r)) := by simp [World.cell?, g3]
  clear g3
  unfold fieldsT
  rw [hasT_find]
  rcases g6.find x 0 with ⟨f1, f2⟩ | ⟨c, i, sv, f1, fm, fv, f2⟩
  · have L := look_no w r es _ g4 x f2 true
    rw [f1]
    simp only [if_true] at L
    go_enter Try.func21, Try.ntmps21
    go_wp2
    refine bodyPost_ret (v := .tuple #[.slice none 0 0, .int .i64 10]) (by simp [results, Try.results21, go_sem]) rfl ⟨below_al (Below.refl _ _) _, .inl ⟨rfl, rfl⟩⟩
  · have L := look_yes w r es _ g4 x i _ f2 true
    rw [f1]
    simp only [if_true] at L
    have HC := Hid.intro (fun w' (hb : Below w.heap.size w w') => clone_any c.f sv (fv.below hb) (by have := g8 c fm; omega))
    obtain ⟨a, n, rfl, -, -⟩ := fv.form
    go_enter Try.func21, Try.ntmps21
    go_wp2_with fail
    refine (HC.out _ (below_al (Below.refl _ _) _)).mono ?_
    rintro e w1 ⟨hb1, v, rfl, HF⟩
    have HB1 := Hid.intro (hb1.via (below_al (Below.refl _ _) _))
    clear hb1 HC
    go_wp2
    refine bodyPost_ret (v := .tuple #[v, .int .i64 0]) (by simp [results, Try.results21, go_sem]) rfl ⟨HB1.out, .inr ⟨rfl, v, rfl, HF.out.move (fun _ _ _ _ => rfl) (fun b hb => by simp at hb; omega)⟩⟩
end Go.Proofs.Ytbfnlnjnaepiiaa
