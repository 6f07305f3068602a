/- proctorlaw1.ValueCodes tells true of every list of values and every list of rows of bytes: the bytes of values, and the values of bytes, are those of the document's own answer, or both are refused; the argument reads as it did. Conditions: the argument's bulk is at most 1048576 (the statement's second form); the listed tables are tied to the program's text. -/
import Derived.Test.YtciibcfmlhbnkaaGreatDoorLawCod
import Derived.Test.YtciibcfmlhbnkaaGreatDoorVRead2
import Derived.Test.YtciibcfmlhbnkaaGreatDoorCards
import Derived.Test.YtciibcfmlhbnkaaGreatDoorTie
import Derived.ProofKit
import Derived.OpenShut
import Derived.Carry
import Derived.Lib.SmallJoins
import Derived.Deep.DeepHandedRow
namespace Go.Proofs.YtciibcfmlhbnkaaGreatDoor.vCodes
open Go.ChangeShapes Go.WideShapes Go.ChangeAt Go.RowKit Go.Proofs.YtciibcfmlhbnkaaGreatDoor

theorem own : ownKnob Tryz.prog.godebug = none := by kernel_rfl
theorem cells24 : Tryz.prog.cellsOf 49 = 2 := by kernel_rfl

theorem cellsZ : Tryz.prog.cellsOf 47 = 1 := by kernel_rfl
theorem laidOut : laidOutB Tryz.prog = true := by kernel_rfl
theorem readable : Tryz.prog.readableRec 49 = true := by kernel_rfl

theorem inTypes : 49 < Tryz.prog.types.size := of_decide_eq_true (by kernel_rfl)

theorem two {α : Type} {cs : List α} (h : cs.length = 2) : ∃ c d, cs = [c, d] := by
  match cs, h with
  | [c, d], _ => exact ⟨c, d, rfl⟩

set_option maxRecDepth 100000 in
theorem contract (H : Type) (enc : TypeId × Value → H) (W : World) (base : Nat) (args : Array Value) (ds gs : List (DataW H)) (before : List MemPlace)
    (hval : ∀ (j : Nat) t v, Tryz.f6.params[j]? = some t → args[j]? = some v → Value.okWide Tryz.prog W .any base t v)
    (hW : DataW.Whole enc Tryz.prog Tryz.f6.params.toList Rows.valueCodesSpec.vars false W args.toList ds gs before) (hk : Rows.uptoSmall H (ds ++ gs) = true) :
    Calls Tryz.prog 6 args W fun e W' => ∃ v, e = .returned v ∧ Rows.valueCodesSpec.post enc Tryz.prog Tryz.f6 false true false false W args v W' := by
  have hW' := hW
  obtain ⟨p, q, hA0, hV, rfl, hfz, hnd⟩ := hW
  have hA : DataW.TrodAll enc Tryz.prog W 0 (fun _ => true) true Tryz.f6.params.toList args.toList ds p := hA0
  rw [Tryz.params6] at hA hval
  obtain ⟨v0, vs0, d0, ds0, p0, q0, hargs, rfl, rfl, h0, r0⟩ := trodAll_cons hA
  obtain ⟨rfl, rfl, rfl⟩ := trodAll_nil r0
  obtain rfl : args = #[v0] := by cases args; simp_all
  obtain ⟨rfl, rfl⟩ := trodVars_none hV
  simp only [List.append_nil] at hW'
  have hok : Value.okWide Tryz.prog W .any base 49 v0 := hval 0 49 v0 rfl rfl
  obtain ⟨cs, rfl, hcs⟩ := okWide_struct Tryz.underlying49 hok
  rw [cells24] at hcs
  have h0' := h0
  obtain ⟨fuel, hf⟩ := h0
  obtain ⟨xs, n, -, hd0, -, hxl, hy⟩ := DataW.trod_struct Tryz.underlying49 hf
  obtain ⟨c, d, hc⟩ := two (cs := cs.toList) (by simpa using hcs)
  have hc' : cs = #[c, d] := by cases cs; simp at hc; simp [hc]
  subst hc'
  obtain ⟨x0, x1, rfl⟩ := two (cs := xs) hxl
  have y0 : DataW.trod enc Tryz.prog W 0 (fun _ => true) true n 22 (((Value.agg #[c, d]).cells.toList.drop 0).take (Tryz.prog.cellsOf 22)) = some x0 := hy 0 _ rfl
  have y1 : DataW.trod enc Tryz.prog W 0 (fun _ => true) true n 47 (((Value.agg #[c, d]).cells.toList.drop 1).take (Tryz.prog.cellsOf 47)) = some x1 := hy 1 _ rfl
  rw [cellsL] at y0
  rw [cellsZ] at y1
  obtain ⟨ts, sv, e0, hl, -, hq⟩ := read_vals_b n _ _ y0
  obtain ⟨ls, lv, e1, hl2⟩ := read_byl n _ _ y1
  simp [Value.cells] at e0 e1
  subst e0 e1
  have hz : ∀ t ∈ ts, fit 30 t = true → (Go.Proofs.YtciibcfmlhbnkaaGreatDoor.enc n t).length ≤ 500000000 := fun t ht _ => by
    have h1 := hq t ht n
    have h2 : Rows.uptoBulk d0 ≤ 1048576 := by
      have := of_decide_eq_true hk
      simp only [List.append_nil, Rows.uptoBulkAll] at this
      omega
    have h3 : d0 = DataW.agg [x0.1, x1.1] := congrArg Prod.fst hd0
    rw [h3] at h2
    simp only [Rows.uptoBulk, Rows.uptoBulkAll] at h2
    omega
  refine (valueCodes_walk n ts _ ls _ W hl hl2 hz).mono fun e W' ⟨he, hb⟩ => ?_
  subst he
  have hlt : ∀ x ∈ p0, x.block < W.heap.size := fun x hx => hW'.lt x (by simpa using hx)
  exact ⟨_, rfl, _, _, _, [], p0 ++ [], [], hW', trodAll_cons_mk (shut_bool Tryz.underlying4 _) trodAll_mk0, trodAll_cons_mk (hb.trod laidOut readable inTypes h0' hlt) trodAll_mk0, rfl, hb.frame _, fun h => by cases h⟩

/-- The tables, holding what their initialisers lay. -/
def put (cs : Array Value) : Obj → Obj
  | .cells _ t frozen => .cells cs t frozen
  | o => o
def lay (w : World) : World :=
  { w with heap := ((w.heap.modify 0 (put #[.int .u64 1, .int .u64 10, .int .u64 100, .int .u64 1000, .int .u64 10000, .int .u64 100000, .int .u64 1000000, .int .u64 10000000, .int .u64 100000000, .int .u64 1000000000, .int .u64 10000000000, .int .u64 100000000000, .int .u64 1000000000000, .int .u64 10000000000000, .int .u64 100000000000000, .int .u64 1000000000000000, .int .u64 10000000000000000, .int .u64 100000000000000000, .int .u64 1000000000000000000, .int .u64 10000000000000000000])).modify 1 (put #[.int .u8 0, .int .u8 1, .int .u8 28, .int .u8 2, .int .u8 29, .int .u8 14, .int .u8 24, .int .u8 3, .int .u8 30, .int .u8 22, .int .u8 20, .int .u8 15, .int .u8 25, .int .u8 17, .int .u8 4, .int .u8 8, .int .u8 31, .int .u8 27, .int .u8 13, .int .u8 23, .int .u8 21, .int .u8 19, .int .u8 16, .int .u8 7, .int .u8 26, .int .u8 12, .int .u8 18, .int .u8 6, .int .u8 11, .int .u8 5, .int .u8 10, .int .u8 9])).modify 2 (put #[.int .u8 0, .int .u8 1, .int .u8 56, .int .u8 2, .int .u8 57, .int .u8 49, .int .u8 28, .int .u8 3, .int .u8 61, .int .u8 58, .int .u8 42, .int .u8 50, .int .u8 38, .int .u8 29, .int .u8 17, .int .u8 4, .int .u8 62, .int .u8 47, .int .u8 59, .int .u8 36, .int .u8 45, .int .u8 43, .int .u8 51, .int .u8 22, .int .u8 53, .int .u8 39, .int .u8 33, .int .u8 30, .int .u8 24, .int .u8 18, .int .u8 12, .int .u8 5, .int .u8 63, .int .u8 55, .int .u8 48, .int .u8 27, .int .u8 60, .int .u8 41, .int .u8 37, .int .u8 16, .int .u8 46, .int .u8 35, .int .u8 44, .int .u8 21, .int .u8 52, .int .u8 32, .int .u8 23, .int .u8 11, .int .u8 54, .int .u8 26, .int .u8 40, .int .u8 15, .int .u8 34, .int .u8 20, .int .u8 31, .int .u8 10, .int .u8 25, .int .u8 14, .int .u8 19, .int .u8 9, .int .u8 13, .int .u8 8, .int .u8 7, .int .u8 6]) }
theorem laid_met (os : Os) : laidMet Tryz.prog Rows.valueCodesRow.laid ((lay (World.holding Tryz.prog os ⟨#[], #[], []⟩)).forCall (fun _ _ => 0) ⟨#[], #[.agg #[.slice none 0 0, .slice none 0 0]], []⟩).memory :=
  laidMet_of_run' 8 (by kernel_rfl) (by kernel_rfl)
theorem reads (os : Os) {H : Type} (enc : TypeId × Value → H) : ∃ places, DataW.whole enc Tryz.prog ((lay (World.holding Tryz.prog os ⟨#[], #[], []⟩)).forCall (fun _ _ => 0) ⟨#[], #[.agg #[.slice none 0 0, .slice none 0 0]], []⟩).memory Tryz.f6.params.toList Rows.valueCodesSpec.vars false #[Value.agg #[.slice none 0 0, .slice none 0 0]].toList 8 = some ([.agg [.nil, .nil]], [], places) :=
  ⟨[], by kernel_rfl⟩

set_option maxRecDepth 100000 in
theorem liftedUpto (os : Os) (started : os.Started) (H : Type) (enc : TypeId × Value → H) (F : Stop.Interp) :
    ReturnsInHanded {} Tryz.checked os 6 .any ((Rows.OpenSpec.upto Rows.valueCodesSpec).preRow enc Tryz.prog Tryz.f6 Rows.valueCodesUptoRow.domain false Rows.valueCodesUptoRow.laid) (((Rows.OpenSpec.upto Rows.valueCodesSpec).at F).post enc Tryz.prog Tryz.f6 false true false false) := by
  obtain ⟨places, hx⟩ := reads os enc
  refine returnsInHanded_of_row (C := Tryz.checked) (s := Rows.OpenSpec.upto Rows.valueCodesSpec) own started (by kernel_rfl) Tryz.func6
    (witness_row_at (enc := enc) (C := Tryz.checked) false (lay (World.holding Tryz.prog os ⟨#[], #[], []⟩)) #[.agg #[.slice none 0 0, .slice none 0 0]] rfl (by kernel_rfl) (by kernel_rfl) (by kernel_rfl)
      (OpenSpec.preRow_of_cond 8 hx (by kernel_rfl) (fun k hk => by cases hk; kernel_rfl) (by kernel_rfl) (laid_met os))) ?_
  intro W base args ds gs before hval hW _ hcond _ _ _ _
  exact contract H enc W base args ds gs before hval hW (hcond _ rfl)

theorem saidUpto : Rows.ValueCodesUptoSaid :=
  OpenClaim.holds_of_cond 6 Tryz.f6 rfl rfl rfl rfl rfl rfl rfl ⟨rfl, rfl, rfl, rfl, rfl⟩ rfl rfl rfl rfl rfl (by kernel_rfl) Tryz.func6 (by kernel_rfl)
    (of_decide_eq_true (by kernel_rfl)) (by unfold Func.isWrapper; first | (rw [if_pos (by decide +kernel)]; kernel_rfl) | (rw [if_neg (by decide +kernel)]; exact ⟨rfl, rfl⟩))
    (fun os started H enc _ F => by rw [OpenClaim.pre_eq_preRow]; exact liftedUpto os started H enc F)

theorem plain (f : FuncId) (fn : Func) (hf : Tryz.pinned.checked.prog.funcNamed "proctor/proctorlaw1.ValueCodes" = some f) (hfn : Tryz.pinned.checked.prog.funcs[f]? = some fn) :
    false = Tryz.pinned.checked.prog.looks [] ∧ ∀ (j : Nat) t, fn.params[j]? = some t → Tryz.pinned.checked.prog.wantsStandIn t = false := by
  obtain rfl : f = 6 := Option.some.inj ((show Tryz.prog.funcNamed "proctor/proctorlaw1.ValueCodes" = some 6 by kernel_rfl).symm.trans hf) |>.symm
  obtain rfl : fn = Tryz.f6 := (Option.some.inj (Tryz.func6.symm.trans hfn)).symm
  refine ⟨by kernel_rfl, fun j t ht => ?_⟩
  rw [Tryz.params6] at ht
  obtain rfl : t = 49 := by simpa using Array.mem_of_getElem? ht
  exact (show Tryz.prog.wantsStandIn 49 = false by kernel_rfl)
end Go.Proofs.YtciibcfmlhbnkaaGreatDoor.vCodes

namespace Go.Proofs.YtciibcfmlhbnkaaGreatDoor
theorem valueCodes_upto : Rows.ValueCodesUptoCardSaid :=
  Claim7.holds_tied_plain_at .later [] _ _ _ _ vCodes.saidUpto (fun _ h => by cases h) (by kernel_rfl) (fun _ h => by cases h) valueCodesUpto_row_tie rfl ⟨rfl, rfl⟩ (by kernel_rfl) rfl vCodes.plain (by kernel_rfl)
end Go.Proofs.YtciibcfmlhbnkaaGreatDoor
#print axioms Go.Proofs.YtciibcfmlhbnkaaGreatDoor.valueCodes_upto
