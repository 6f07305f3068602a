/- New: a table of classes, or the refusal. -/
import Derived.Test.YtbfnlnjnaepiiaaCTyped
namespace Go.Proofs.Ytbfnlnjnaepiiaa
open Go.RowKit Go.Maps Go.ChangeMaps

def addsT : List Cl → List Cl → Option (List Cl)
  | T, [] => some T
  | T, c :: l => if addB T c then addsT (T ++ [full T c]) l else none
def newT (l : List Cl) : Option (List Cl) := if 64 < l.length then none else match addsT [] l with
  | none => none
  | some T => if typedB T then some T else none

theorem name_pos {x : ByteArray} (h : nameB x = true) : x ≠ ⟨#[]⟩ := by
  rintro rfl
  simp [nameB] at h

theorem hasT_mem {T : List Cl} {x : ByteArray} : hasT T x = true ↔ ∃ c ∈ T, c.n = x := by
  unfold hasT
  rw [List.any_eq_true]
  constructor
  · rintro ⟨c, h1, h2⟩; exact ⟨c, h1, (eqS_iff.1 h2).symm⟩
  · rintro ⟨c, h1, h2⟩; exact ⟨c, h1, eqS_iff.2 h2.symm⟩

theorem WfT.push {T : List Cl} {c : Cl} (h : WfT T) (ha : addB T c = true) : WfT (T ++ [full T c]) := by
  unfold addB at ha
  simp only [Bool.and_eq_true, Bool.not_eq_true'] at ha
  obtain ⟨⟨⟨⟨h1, h2⟩, h3⟩, h4⟩, h5⟩ := ha
  unfold WfT
  rw [List.reverse_append, List.reverse_singleton, List.singleton_append]
  refine ⟨h, ?_, name_pos h1, ?_⟩
  · intro e he hn
    have : hasT T c.n = true := hasT_mem.2 ⟨e, by simpa using he, hn⟩
    rw [h2] at this; cases this
  · unfold supB at h3
    rcases Bool.or_eq_true_iff.1 h3 with h | h
    · exact .inl (eqS_iff.1 h)
    · obtain ⟨e, he, hn⟩ := hasT_mem.1 h
      exact .inr ⟨e, by simpa using he, hn⟩

theorem make_hint (w : World) (n : Int) : (Instr.makeMap 70 (some (.int .i64 n))).run Try.prog w = .ok (.map (some w.heap.size)) (w.alloc (.map #[] 0)) := by
  simp [Instr.makeMap, run_underlying und_map, Result.andThen, asInt, asIntOf]

theorem addsT_drop {T l : List Cl} {k : Nat} (h : k < l.length) : addsT T (l.drop k) = if addB T l[k] then addsT (T ++ [full T l[k]]) (l.drop (k + 1)) else none := by
  rw [List.drop_eq_getElem_cons h, addsT]

set_option maxRecDepth 100000 in
set_option maxHeartbeats 4000000 in
theorem new_any {P : Nat → Prop} {w : World} (l : List Cl) (sv : Value) (hl : Cv P w l sv) (hs : ∀ c ∈ l, c.f.length ≤ 1000000) :
    Calls Try.prog 11 #[sv] w fun e w' => Below w.heap.size w w' ∧ ((newT l = none ∧ e = .returned (.tuple #[.pointer none, .int .i64 10])) ∨ ∃ T g, newT l = some T ∧ WfT T ∧ e = .returned (.tuple #[.pointer (some ⟨g, 0, none⟩), .int .i64 0]) ∧ TabB w.heap.size w' g T) := by
  have HL := Hid.intro hl
  obtain ⟨a0, cap, rfl, hc1, hc2⟩ := hl.form
  by_cases h64 : (64 : Int) < (l.length : Int)
  · have hn : newT l = none := by unfold newT; rw [if_pos (by omega)]
    go_enter Try.func11, Try.ntmps11
    go_wp2
    refine bodyPost_ret (v := .tuple #[.pointer none, .int .i64 10]) (by simp [results, Try.results11, go_sem]) rfl ⟨Below.refl _ _, .inl ⟨hn, rfl⟩⟩
  · have hnew : newT l = match addsT [] l with | none => none | some T => if typedB T then some T else none := by unfold newT; rw [if_neg (by omega)]
    go_enter Try.func11, Try.ntmps11
    have hm := make_hint w l.length
    go_wp2_with fail
    have hB0 : Below w.heap.size w ((w.alloc (.map #[] 0)).alloc (.cells #[.slice none 0 0, .map (some w.heap.size)] 72)) := below_al (below_al (Below.refl _ _) _) _
    have hT0 : TabB w.heap.size ((w.alloc (.map #[] 0)).alloc (.cells #[.slice none 0 0, .map (some w.heap.size)] 72)) (w.heap.size + 1) [] := by
      refine ⟨w.heap.size, #[], .slice none 0 0, by omega, Nat.le_refl _, ?_, ?_, rfl, trivial, World.ownsRow_nil _ _ _ _, by simp⟩
      · have := heap_alloc_new (w.alloc (.map #[] 0)) (.cells #[.slice none 0 0, .map (some w.heap.size)] 72)
        simpa using this
      · rw [Below.heap_alloc _ _ _ (by simp)]
        exact heap_alloc_new _ _
    have HB0 := Hid.intro hB0
    have HT0 := Hid.intro hT0
    have HW0 : Hid (WfT []) := trivial
    clear hB0 hT0
    generalize (w.alloc (.map #[] 0)).alloc (.cells #[.slice none 0 0, .map (some w.heap.size)] 72) = W0 at *
    generalize hgg : w.heap.size + 1 = g at *
    go_loopw [17] (fun i wr => Hid (Below w.heap.size w wr) ∧ ∃ (k : Nat) (T : List Cl), k ≤ l.length ∧ i = .int .i64 (k : Int) ∧ T.length = k ∧ Hid (TabB w.heap.size wr g T) ∧ Hid (WfT T) ∧ Hid (addsT [] l = addsT T (l.drop k))) (fun i _ => l.length - (intOf i).toNat)
    case atStart => exact ⟨HB0, 0, [], by omega, rfl, rfl, HT0, HW0, rfl⟩
    case round =>
      obtain ⟨HBR, k, T, hk, rfl, hTk, HT, HW, HA⟩ := hrel
      by_cases hlt : (k : Int) < (l.length : Int)
      · have hlt' : k < l.length := by omega
        obtain ⟨b, o, rfl, sv', d0, d1, d2, hfv⟩ : ∃ b o, a0 = some ⟨b, o, none⟩ ∧ ∃ sv', wr.cell? ⟨b, o + k * 3, none⟩ = some (.string l[k].n) ∧ wr.cell? ⟨b, o + k * 3 + 1, none⟩ = some (.string l[k].s) ∧ wr.cell? ⟨b, o + k * 3 + 2, none⟩ = some sv' ∧ Fv P w l[k].f sv' := by
          obtain ⟨x0, xc, hx, -, -, hx4⟩ := HL.out
          cases hx
          obtain ⟨b, o, e, -, h5⟩ := hx4 (by omega)
          obtain ⟨sv', ⟨c0, c1, c2⟩, hf⟩ := h5 k hlt'
          have l0 := cell_lt c0
          exact ⟨b, o, e, sv', (HBR.out.cell (p := ⟨b, o + k * 3, none⟩) l0).trans c0, (HBR.out.cell (p := ⟨b, o + k * 3 + 1, none⟩) l0).trans c1, (HBR.out.cell (p := ⟨b, o + k * 3 + 2, none⟩) l0).trans c2, hf⟩
        have HAdd := Hid.intro (fun w' (hb : Below wr.heap.size wr w') => add_any (HT.out.below hb) l[k] sv' (hfv.below (hb.via HBR.out)) (hs _ (List.getElem_mem hlt')) (by omega))
        have hd := addsT_drop (T := T) hlt'
        rw [← HA.out] at hd
        have HD := Hid.intro hd
        clear hd
        obtain ⟨xa, xc, rfl, -, -⟩ := hfv.form
        cases hadd : addB T l[k] with
        | true =>
          have HW2 := Hid.intro (HW.out.push hadd)
          rw [hadd] at HAdd HD
          go_wp2_with fail
          refine (HAdd.out _ (below_al (Below.refl _ _) _)).mono ?_
          rintro e w2 ⟨rfl, hb2, ht2⟩
          have HB2 : Hid (Below w.heap.size w w2) := (below_al HBR.out _).trans hb2
          have HT2 := Hid.intro (ht2 trivial)
          clear hb2 ht2 HAdd
          go_wp2
          go_roundw
          case rel => exact ⟨HB2, k + 1, T ++ [full T l[k]], by omega, by go_num, by simp [hTk], HT2, HW2, HD⟩
          case measure => simp [intOf]; omega
        | false =>
          rw [hadd] at HAdd HD
          have hn : newT l = none := by rw [hnew, HD.out]; rfl
          go_wp2_with fail
          refine (HAdd.out _ (below_al (Below.refl _ _) _)).mono ?_
          rintro e w2 ⟨rfl, hb2, -⟩
          have HB2 : Hid (Below w.heap.size w w2) := (below_al HBR.out _).trans hb2
          clear hb2 HAdd
          go_wp2
          refine bodyPost_ret (v := .tuple #[.pointer none, .int .i64 10]) (by simp [results, Try.results11, go_sem]) rfl ⟨HB2.out, .inl ⟨hn, rfl⟩⟩
      · have hk2 : k = l.length := by omega
        have hd : addsT [] l = some T := by rw [HA.out, hk2, List.drop_length, addsT]
        rw [hd] at hnew
        have HTy := Hid.intro (typed_any HT.out)
        cases hty : typedB T with
        | true =>
          rw [hty] at HTy
          simp only [hty, if_true] at hnew
          go_wp2_with fail
          refine HTy.out.mono ?_
          rintro e w2 ⟨rfl, hb2⟩
          have HB2 : Hid (Below w.heap.size w w2) := hb2.via HBR.out
          have HT2 := Hid.intro (HT.out.below hb2)
          clear hb2 HTy
          go_wp2
          refine bodyPost_ret (v := .tuple #[.pointer (some ⟨g, 0, none⟩), .int .i64 0]) (by simp [results, Try.results11, go_sem]) rfl ⟨HB2.out, .inr ⟨T, g, hnew, HW.out, rfl, HT2.out⟩⟩
        | false =>
          rw [hty] at HTy
          simp only [hty, Bool.false_eq_true, if_false] at hnew
          go_wp2_with fail
          refine HTy.out.mono ?_
          rintro e w2 ⟨rfl, hb2⟩
          have HB2 : Hid (Below w.heap.size w w2) := hb2.via HBR.out
          clear hb2 HTy
          go_wp2
          refine bodyPost_ret (v := .tuple #[.pointer none, .int .i64 10]) (by simp [results, Try.results11, go_sem]) rfl ⟨HB2.out, .inl ⟨hnew, rfl⟩⟩
end Go.Proofs.Ytbfnlnjnaepiiaa
