import Derived.Test.YtoeodjobggodcaaGreatDoorJoin15
import Derived.Test.YtoeodjobggodcaaGreatDoorCards
import Derived.Test.YtoeodjobggodcaaGreatDoorTie
import Derived.ProofKit
import Derived.OpenShut
import Derived.Carry
import Derived.Lib.SmallJoins
import Derived.Deep.DeepHandedRow
import Derived.Deep.DeepWitnessRowRef
import Derived.Stop.LaidErr
import Derived.Test.YtoeodjobggodcaaGreatDoorJoin02
import Derived.Deep.MidRow
import Derived.Deep.RegionWith
import Derived.Test.YtoeodjobggodcaaGreatDoorJoin06
import Derived.BigQuiet
import Derived.Deep.RegionHeld3
/- Parse: what it tells. -/
namespace Go.Proofs.YtoeodjobggodcaaGreatDoor
section
open Go.RowKit
def ParP (n : Nat) (w' : World) (x : Ending) : Told Bs → Prop
 | .long => x = .returned (.tuple #[.agg #[.slice none 0 0, .slice none 0 0, .slice none 0 0], .int .i64 0, .int .i64 21])
 | .bad q => x = .returned (.tuple #[.agg #[.slice none 0 0, .slice none 0 0, .slice none 0 0], .int .i64 (q : Int), .int .i64 20])
 | .ok b => ∃ v, x = .returned (.tuple #[v, .int .i64 0, .int .i64 0]) ∧ BsV (fun k => n ≤ k) w' b v
theorem readB_any (s : ByteArray) (w : World) (hE : 2 < w.heap.size) (hev : ∃ ev, w.cell? ⟨2, 0, none⟩ = some ev ∧ (ev = .nilIface ∨ ∃ te pe, ev = .iface te pe)) :
  Calls Tryz.prog 18 #[.string s, .func (.func 19) #[] #[]] w fun x w' => Below w.heap.size w w' ∧ ParP w.heap.size w' x (parseM s) := by
 unfold parseM readM
 by_cases hl : 65536 < s.size
 ·rw [if_pos hl]
  exact readB_lex _ w 0 21 (by decide) fun w => Hid.intro (lex_long hl w)
 ·rw [if_neg hl]
  have hs : s.size ≤ 65536 := by omega
  cases hF : lexF s with
  | some a => exact readB_lex _ w a 20 (by decide) fun w => Hid.intro (lex_bad hs hF w)
  | none =>
   obtain ⟨h1, h2⟩ := lexR_good hs hF
   refine (readB_go w hs hF h1 h2 hE hev).mono ?_
   rintro x w' ⟨hb, hr⟩
   refine ⟨hb, ?_⟩
   cases hm : (fileL (lexR s).length {} (lexR s)).bd endM with
   | bad q => rw [hm] at hr; dsimp only; exact hr
   | ok b r => rw [hm] at hr; dsimp only; exact hr
set_option maxRecDepth 100000 in
set_option maxHeartbeats 4000000 in
theorem parse_any (s : ByteArray) (w : World) (hE : 2 < w.heap.size) (hev : ∃ ev, w.cell? ⟨2, 0, none⟩ = some ev ∧ (ev = .nilIface ∨ ∃ te pe, ev = .iface te pe)) :
  Calls Tryz.prog 10 #[.string s] w fun x w' => Below w.heap.size w w' ∧ ParP w.heap.size w' x (parseM s) := by
 have hR0 : (w.alloc (.cells #[.slice none 0 0, .slice none 0 0, .slice none 0 0] 27)).heap[w.heap.size]? = some (.cells #[.slice none 0 0, .slice none 0 0, .slice none 0 0] 27) := heap_alloc_new w _
 have b0 : Below w.heap.size w (w.alloc (.cells #[.slice none 0 0, .slice none 0 0, .slice none 0 0] 27)) := below_al (Below.refl _ _) _
 have HR := Hid.intro (readB_any s (w.alloc (.cells #[.slice none 0 0, .slice none 0 0, .slice none 0 0] 27)) (by simp; omega) (by obtain ⟨ev, h1, h2⟩ := hev; exact ⟨ev, (b0.cell (p := ⟨_, 0, none⟩) hE).trans h1, h2⟩))
 clear hev
 have fin : ∀ (x : Ending) (w1 : World) (cells : Array Value) (a e : Int), Below (w.alloc (.cells #[.slice none 0 0, .slice none 0 0, .slice none 0 0] 27)).heap.size (w.alloc (.cells #[.slice none 0 0, .slice none 0 0, .slice none 0 0] 27)) w1 → cells.size = 3 →
   Hid (w1.heap[w.heap.size]? = some (.cells #[.slice none 0 0, .slice none 0 0, .slice none 0 0] 27)) ∧ Hid (Below w.heap.size w (w1.setRow w.heap.size cells)) := fun x w1 cells a e hb hc =>
  ⟨row_call hb (by simp) hR0, below_row (b0.trans (hb.mono (by simp))) (Nat.le_refl _) _⟩
 have hgo : ∀ (x : Ending) (w1 : World) (cells : Array Value) (a e : Int) (R : Ending → World → Prop), Below (w.alloc (.cells #[.slice none 0 0, .slice none 0 0, .slice none 0 0] 27)).heap.size (w.alloc (.cells #[.slice none 0 0, .slice none 0 0, .slice none 0 0] 27)) w1 → cells.size = 3 → R (.returned (.tuple #[.agg cells, .int .i64 a, .int .i64 e])) (w1.setRow w.heap.size cells) →
   bodyPost Tryz.prog Tryz.f10 R .ret ⟨#[.string s, undef, .pointer (some ⟨w.heap.size, 0, none⟩), .int .i64 a, .int .i64 e, .string s, .tuple #[.agg cells, .int .i64 a, .int .i64 e], .agg cells, .int .i64 a, .int .i64 e], []⟩ (w1.setRow w.heap.size cells) := by
  intro x w1 cells a e R hb hc hR
  have hr0 : w1.heap[w.heap.size]? = some (.cells #[.slice none 0 0, .slice none 0 0, .slice none 0 0] 27) := row_call hb (by simp) hR0
  have hrow := setRow_heap _ _ _ cells _ _ hr0
  refine bodyPost_ret (v := .tuple #[.agg cells, .int .i64 a, .int .i64 e]) ?_ rfl hR
  have hl := run_loadVar_mid (P := Tryz.prog) (w1.setRow w.heap.size cells) w.heap.size 0 27 cells.toList _ (fun j v hv => by rw [Nat.zero_add, (heap_cell hrow j).1]; simpa using hv) Tryz.underlying27 rfl (by rw [Array.length_toList, hc]; kernel_rfl)
  simp [results, Tryz.results10, asAddr, Result.andThen, hl]
 clear hE
 cases hm : parseM s with
 | long =>
  rw [hm] at HR
  go_enter Tryz.func10, Tryz.ntmps10
  go_wp2_with fail
  refine HR.out.mono ?_
  rintro x w1 ⟨hb, rfl⟩
  obtain ⟨h1, h2⟩ := fin (.returned undef) w1 #[.slice none 0 0, .slice none 0 0, .slice none 0 0] 0 0 hb rfl
  go_wp2_with (with_reducible refine (id (?_ : wpList _ _ _ (Oper.mk _ (Op.store _ _ _) _ _ _ _ :: _) _ _)); refine wpList_store_row rfl _ _ _ rfl _ _ rfl rfl _ _ h1.out infoBase rfl rfl (by simp [Value.oneCell']) ?_)
  exact hgo (.returned undef) w1 _ _ _ _ hb rfl ⟨h2.out, rfl⟩
 | bad q =>
  rw [hm] at HR
  go_enter Tryz.func10, Tryz.ntmps10
  go_wp2_with fail
  refine HR.out.mono ?_
  rintro x w1 ⟨hb, rfl⟩
  obtain ⟨h1, h2⟩ := fin (.returned undef) w1 #[.slice none 0 0, .slice none 0 0, .slice none 0 0] 0 0 hb rfl
  go_wp2_with (with_reducible refine (id (?_ : wpList _ _ _ (Oper.mk _ (Op.store _ _ _) _ _ _ _ :: _) _ _)); refine wpList_store_row rfl _ _ _ rfl _ _ rfl rfl _ _ h1.out infoBase rfl rfl (by simp [Value.oneCell']) ?_)
  exact hgo (.returned undef) w1 _ _ _ _ hb rfl ⟨h2.out, rfl⟩
 | ok b =>
  rw [hm] at HR
  go_enter Tryz.func10, Tryz.ntmps10
  go_wp2_with fail
  refine HR.out.mono ?_
  rintro x w1 ⟨hb, v, rfl, hv⟩
  have hv' := hv
  obtain ⟨xa, xb, xc, rfl, q1, q2, q3⟩ := hv
  have hone : (#[xa, xb, xc] : Array Value).all (·.oneCell') = true := by simp [rep.one q1, rep.one q2, rep.one q3]
  obtain ⟨h1, h2⟩ := fin (.returned undef) w1 #[xa, xb, xc] 0 0 hb rfl
  go_wp2_with (with_reducible refine (id (?_ : wpList _ _ _ (Oper.mk _ (Op.store _ _ _) _ _ _ _ :: _) _ _)); refine wpList_store_row rfl _ _ _ rfl _ _ rfl rfl _ _ h1.out infoBase rfl rfl hone ?_)
  refine hgo (.returned undef) w1 _ _ _ _ hb rfl ⟨h2.out, _, rfl, BsV.move hv' ⟨by simp, fun k hk _ o => World.cell?_of_block (a := ⟨k, o, none⟩) (setRow_other _ _ _ _ ?_)⟩ ?_⟩
  ·simp only; simp at hk; omega
  ·intro k _ hk; simp at hk; omega
end
end Go.Proofs.YtoeodjobggodcaaGreatDoor
/- What the laws' own wakes tells. -/
namespace Go.Proofs.YtoeodjobggodcaaGreatDoor
section
open Go.RowKit
def ErrW (w : World) : Prop := 2 < w.heap.size ∧ ∃ ev, w.cell? ⟨2, 0, none⟩ = some ev ∧ (ev = .nilIface ∨ ∃ te pe, ev = .iface te pe)
theorem ErrW.below {w w' : World} (h : ErrW w) (hb : Below w.heap.size w w') : ErrW w' := by
 obtain ⟨h1, ev, h2, h3⟩ := h
 exact ⟨Nat.lt_of_lt_of_le h1 hb.size, ev, (hb.cell (p := ⟨_, 0, none⟩) h1).trans h2, h3⟩
def wk1 : Told Bs → Bool
 | .ok b => match b.r with
  | [u] => decide (u.sal = -2) && decide (u.whn.length = 2)
  | _ => false
 | _ => false
def wk2 : Told Bs → Bool
 | .bad q => q == 4
 | _ => false
abbrev wT1 : ByteArray := ⟨#[114, 117, 108, 101, 32, 34, 114, 34, 32, 115, 97, 108, 105, 101, 110, 99, 101, 32, 45, 50, 32, 119, 104, 101, 110, 32, 36, 112, 32, 58, 32, 80, 40, 120, 32, 62, 32, 49, 44, 32, 36, 121, 32, 58, 32, 121, 41, 32, 110, 111, 116, 32, 40, 81, 40, 122, 32, 61, 61, 32, 36, 121, 41, 41, 32, 116, 104, 101, 110, 32, 105, 110, 115, 101, 114, 116, 32, 82, 32, 123, 32, 97, 32, 61, 32, 36, 121, 32, 43, 32, 49, 32, 125, 59, 32, 101, 110, 100]⟩
abbrev wT2 : ByteArray := ⟨#[114, 117, 108, 101]⟩
theorem wk1_ok : wk1 (parseM wT1) = true := by kernel_rfl
theorem wk2_ok : wk2 (parseM wT2) = true := by kernel_rfl
theorem wk1_ex : ∃ b u, parseM wT1 = .ok b ∧ b.r = [u] ∧ u.sal = -2 ∧ u.whn.length = 2 := by
 have h := wk1_ok
 cases hm : parseM wT1 with
 | ok b =>
  rw [hm] at h
  unfold wk1 at h
  simp only at h
  split at h
  ·rename_i u hu
   simp at h
   exact ⟨b, u, rfl, hu, h.1, h.2⟩
  ·cases h
 | bad q => rw [hm] at h; cases h
 | long => rw [hm] at h; cases h
theorem wk2_ex : parseM wT2 = .bad 4 := by
 have h := wk2_ok
 cases hm : parseM wT2 with
 | ok b => rw [hm] at h; cases h
 | bad q => rw [hm] at h; unfold wk2 at h; rw [eq_of_beq h]
 | long => rw [hm] at h; cases h
set_option maxRecDepth 100000 in
set_option maxHeartbeats 4000000 in
theorem wakes_any {w : World} (hw : ErrW w) : Calls Tryz.prog 13 #[] w fun e w' => e = .returned (.bool true) ∧ Below w.heap.size w w' := by
 obtain ⟨b, u, hm1, hr, hs, hn⟩ := wk1_ex
 have H1 := Hid.intro (parse_any wT1 w hw.1 hw.2)
 have H2 := fun w' (h : ErrW w') => Hid.intro (parse_any wT2 w' h.1 h.2)
 rw [hm1] at H1
 simp only [wk2_ex] at H2
 clear hm1
 go_enter Tryz.func13, Tryz.ntmps13
 go_wp2_with fail
 refine H1.out.mono ?_
 rintro e w1 ⟨hb1, v, rfl, x, y, z, rfl, hx, hy, hz⟩
 rw [hr] at hy
 obtain ⟨px, cx, rfl, -⟩ := sl_form hx
 obtain ⟨pz, cz, rfl, -⟩ := sl_form hz
 simp only [rep, List.length_singleton] at hy
 obtain ⟨py, cy, vs, rfl, -, -, hvs, -, hcs⟩ := hy
 obtain ⟨g, o, rfl, hgP, hgs, hcell⟩ := hcs (by omega)
 simp only [List.flatMap_cons, List.flatMap_nil, List.append_nil, Ru.cs] at hvs
 obtain ⟨v0, _, rfl, -, hvs⟩ := hvs.uncons
 obtain ⟨v1, _, rfl, h1, hvs⟩ := hvs.uncons
 obtain ⟨v2, _, rfl, -, hvs⟩ := hvs.uncons
 obtain ⟨v3, _, rfl, -, hvs⟩ := hvs.uncons
 obtain ⟨v4, _, rfl, -, hvs⟩ := hvs.uncons
 obtain ⟨v5, _, rfl, -, hvs⟩ := hvs.uncons
 obtain ⟨v6, _, rfl, h6, hvs⟩ := hvs.uncons
 obtain ⟨rfl, -⟩ := rep.lit_iff.1 h1
 obtain ⟨p6, c6, rfl, -⟩ := sl_form h6
 have k1 := hcell 1 _ rfl
 have k6 := hcell 6 _ rfl
 rw [hs] at k1
 rw [hn] at k6
 have hb1' : Below w.heap.size w (w1.alloc (.cells #[.slice px b.c.length cx, .slice (some ⟨g, o, none⟩) 1 cy, .slice pz b.q.length cz] 27)) := hb1.alloc hb1.size _
 have hR1 := heap_alloc_new w1 (.cells #[.slice px b.c.length cx, .slice (some ⟨g, o, none⟩) 1 cy, .slice pz b.q.length cz] 27)
 go_wp2_with fail
 refine (H2 _ (hw.below hb1')).out.mono ?_
 rintro e w2 ⟨hb2, rfl⟩
 have hR2 := row_call hb2 (by simp) hR1
 have d1 : w2.cell? ⟨w1.heap.size, 1, none⟩ = some (.slice (some ⟨g, o, none⟩) 1 cy) := (heap_cell hR2 1).1
 have d2 : w2.cell? ⟨g, o + 1, none⟩ = some (.int .i64 (-2)) := by
  rw [hb2.cell (p := ⟨g, o + 1, none⟩) (by simp; omega)]
  exact (World.cell?_of_block (a := ⟨g, o + 1, none⟩) (heap_alloc_old _ _ hgs)).trans k1
 have d3 : w2.cell? ⟨g, o + 6, none⟩ = some (.slice p6 2 c6) := by
  rw [hb2.cell (p := ⟨g, o + 6, none⟩) (by simp; omega)]
  exact (World.cell?_of_block (a := ⟨g, o + 6, none⟩) (heap_alloc_old _ _ hgs)).trans k6
 have hl2 : w1.heap.size < w2.heap.size := (Array.getElem?_eq_some_iff.1 hR2).1
 have hg2 : g < w2.heap.size := by omega
 go_wp2_with fail
 go_ret
 exact ⟨rfl, (hb1'.trans (hb2.mono hb1'.size)).alloc (by have := hb1'.size; have := hb2.size; omega) _⟩
end
end Go.Proofs.YtoeodjobggodcaaGreatDoor
section
/- What the Parse laws' rows list, in a world; what it gives. -/
namespace Go.Proofs.YtoeodjobggodcaaGreatDoor.pLaid
open Go.ChangeShapes Go.WideShapes Go.ChangeAt Go.RowKit Go.Proofs.YtoeodjobggodcaaGreatDoor
theorem own : ownKnob Tryz.prog.godebug = none := by kernel_rfl
def put (cs : Array Value) : Obj → Obj
 | .cells _ t frozen => .cells cs t frozen
 | o => o
def lay (w : World) : World :=
 { w with heap := ((((((w.heap.modify 3 (put #[.int .u64 1, .int .u64 10, .int .u64 100, .int .u64 1000, .int .u64 10000, .int .u64 100000, .int .u64 1000000, .int .u64 10000000, .int .u64 100000000, .int .u64 1000000000, .int .u64 10000000000, .int .u64 100000000000, .int .u64 1000000000000, .int .u64 10000000000000, .int .u64 100000000000000, .int .u64 1000000000000000, .int .u64 10000000000000000, .int .u64 100000000000000000, .int .u64 1000000000000000000, .int .u64 10000000000000000000])).modify 4 (put #[.int .u8 0, .int .u8 1, .int .u8 28, .int .u8 2, .int .u8 29, .int .u8 14, .int .u8 24, .int .u8 3, .int .u8 30, .int .u8 22, .int .u8 20, .int .u8 15, .int .u8 25, .int .u8 17, .int .u8 4, .int .u8 8, .int .u8 31, .int .u8 27, .int .u8 13, .int .u8 23, .int .u8 21, .int .u8 19, .int .u8 16, .int .u8 7, .int .u8 26, .int .u8 12, .int .u8 18, .int .u8 6, .int .u8 11, .int .u8 5, .int .u8 10, .int .u8 9])).modify 5 (put #[.int .u8 0, .int .u8 1, .int .u8 56, .int .u8 2, .int .u8 57, .int .u8 49, .int .u8 28, .int .u8 3, .int .u8 61, .int .u8 58, .int .u8 42, .int .u8 50, .int .u8 38, .int .u8 29, .int .u8 17, .int .u8 4, .int .u8 62, .int .u8 47, .int .u8 59, .int .u8 36, .int .u8 45, .int .u8 43, .int .u8 51, .int .u8 22, .int .u8 53, .int .u8 39, .int .u8 33, .int .u8 30, .int .u8 24, .int .u8 18, .int .u8 12, .int .u8 5, .int .u8 63, .int .u8 55, .int .u8 48, .int .u8 27, .int .u8 60, .int .u8 41, .int .u8 37, .int .u8 16, .int .u8 46, .int .u8 35, .int .u8 44, .int .u8 21, .int .u8 52, .int .u8 32, .int .u8 23, .int .u8 11, .int .u8 54, .int .u8 26, .int .u8 40, .int .u8 15, .int .u8 34, .int .u8 20, .int .u8 31, .int .u8 10, .int .u8 25, .int .u8 14, .int .u8 19, .int .u8 9, .int .u8 13, .int .u8 8, .int .u8 7, .int .u8 6])).modify 1 (put #[.iface 193 (.pointer (some ⟨w.heap.size, 0, none⟩))])).modify 2 (put #[.iface 193 (.pointer (some ⟨w.heap.size + 1, 0, none⟩))])).push (.cells #[.string ⟨#[105, 110, 118, 97, 108, 105, 100, 32, 115, 121, 110, 116, 97, 120]⟩] 195)).push (.cells #[.string ⟨#[118, 97, 108, 117, 101, 32, 111, 117, 116, 32, 111, 102, 32, 114, 97, 110, 103, 101]⟩] 195) }
theorem laid_met (os : Os) : laidMet Tryz.prog Rows.parseLimitsRow.laid ((lay (World.holding Tryz.prog os ⟨#[], #[], []⟩)).forCall (fun _ _ => 0) ⟨#[], #[], []⟩).memory :=
 laidMet_of_run' 8 (by kernel_rfl) (by kernel_rfl)
theorem row_err : ∀ u, Tryz.prog.typeName? 3 u = some "*errors.errorString" → u = 193 := fun u hu =>
 typeName_ptr_named (nm := "errors.errorString") (by kernel_rfl) (by kernel_rfl) (by decide) u hu
theorem errW {W : World} (h : laidMetH Tryz.prog Rows.parseLimitsRow.laid W) : ErrW W := by
 rw [MakeChecks.laidMetH_plain _ _ _ (by kernel_rfl)] at h
 have hg : Tryz.prog.globalNamed "strconv.ErrRange" = some 2 := by kernel_rfl
 obtain ⟨a, s, hv, -, -, -⟩ := laid_sentinel h.tail.tail.tail hg (by kernel_rfl) Tryz.underlying170 row_err Tryz.underlying193 Tryz.underlying195 rfl rfl Tryz.underlying9 (by kernel_rfl) (by kernel_rfl)
 have hc : W.cell? ⟨2, 0, none⟩ = some (.iface 193 (.pointer (some a))) := by simpa using World.var?_cell hg hv 0
 refine ⟨?_, _, hc, .inr ⟨_, _, rfl⟩⟩
 cases hh : W.heap[2]? with
 | none => unfold World.cell? at hc; rw [show (⟨2, 0, none⟩ : Addr).block = 2 from rfl] at hc; simp [hh] at hc
 | some o => exact (Array.getElem?_eq_some_iff.1 hh).1
end Go.Proofs.YtoeodjobggodcaaGreatDoor.pLaid
end
/- What the laws' own equality tells of data that are the same: values. -/
namespace Go.Proofs.YtoeodjobggodcaaGreatDoor
section
open Go.RowKit
theorem reps.elem {P : Nat → Prop} {w : World} {α : Type} (f : α → List Dt) (n : Nat) (hn : ∀ x, (f x).length = n) : ∀ (l : List α) (vs : List Value), reps P w (l.flatMap f) vs → ∀ (k : Nat) (hk : k < l.length),
  ∃ us, reps P w (f l[k]) us ∧ ∀ j u, us[j]? = some u → vs[k * n + j]? = some u
 | [], _, _, k, hk => absurd hk (Nat.not_lt_zero _)
 | x :: l, vs, h, k, hk => by
  rw [List.flatMap_cons] at h
  obtain ⟨us, ts, rfl, h1, h2⟩ := reps.split h
  have hl := reps.length h1
  rw [hn] at hl
  cases k with
  | zero =>
   refine ⟨us, h1, fun j u hj => ?_⟩
   have := (List.getElem?_eq_some_iff.1 hj).1
   rw [Nat.zero_mul, Nat.zero_add, List.getElem?_append_left this]; exact hj
  | succ k =>
   obtain ⟨vs', h3, h4⟩ := reps.elem f n hn l ts h2 k (by simpa using hk)
   refine ⟨vs', h3, fun j u hj => ?_⟩
   rw [List.getElem?_append_right (by rw [hl, Nat.succ_mul]; omega)]
   have e : (k + 1) * n + j - us.length = k * n + j := by rw [hl, Nat.succ_mul]; omega
   rw [e]; exact h4 j u hj
theorem sl_elem {P : Nat → Prop} {w : World} {α : Type} (f : α → List Dt) (n : Nat) (hn : ∀ x, (f x).length = n) {l : List α} {p : Option Addr} {m c : Nat} (h : rep P w (.sl l.length (l.flatMap f)) (.slice p m c)) {k : Nat} (hk : k < l.length) :
  ∃ b o us, p = some ⟨b, o, none⟩ ∧ b < w.heap.size ∧ P b ∧ reps P w (f l[k]) us ∧ w.rangeAt b (o + k * n) us := by
 simp only [rep] at h
 obtain ⟨a0, cap, vs, e, -, -, h4, -, h6⟩ := h
 simp only [Value.slice.injEq] at e
 obtain ⟨rfl, -, -⟩ := e
 obtain ⟨b, o, rfl, hp, hb, hc⟩ := h6 (by omega)
 obtain ⟨us, h7, h8⟩ := reps.elem f n hn l vs h4 k hk
 exact ⟨b, o, us, rfl, hb, hp, h7, fun j u hj => by rw [Nat.add_assoc]; exact hc _ u (h8 j u hj)⟩
theorem rep.via {P : Nat → Prop} {w w' : World} {d : Dt} {v : Value} (h : rep P w d v) (hb : Below w.heap.size w w') : rep P w' d v := rep.move (Kp.below hb) (fun _ _ h => h) d v h
theorem reps.via {P : Nat → Prop} {w w' : World} {d : List Dt} {v : List Value} (h : reps P w d v) (hb : Below w.heap.size w w') : reps P w' d v := reps.move (Kp.below hb) (fun _ _ h => h) d v h
def VtV (P : Nat → Prop) (w : World) (x : Vt) (v : Value) : Prop :=
 ∃ p n c, v = .agg #[.int .i64 x.k, .bool x.b, .int .i64 x.i, .string x.s, .slice p n c] ∧ rep P w (.sl x.l.length (Vt.css x.l)) (.slice p n c)
theorem VtV.via {P : Nat → Prop} {w w' : World} {x : Vt} {v : Value} (h : VtV P w x v) (hb : Below w.heap.size w w') : VtV P w' x v := by
 obtain ⟨p, n, c, e, h⟩ := h
 exact ⟨p, n, c, e, h.via hb⟩
theorem vt_cells {P : Nat → Prop} {w : World} {x : Vt} {vs : List Value} (h : reps P w x.cs vs) : ∃ p c, vs = [.int .i64 x.k, .bool x.b, .int .i64 x.i, .string x.s, .slice p x.l.length c] ∧ rep P w (.sl x.l.length (Vt.css x.l)) (.slice p x.l.length c) := by
 obtain ⟨k, b, i, s, l⟩ := x
 simp only [Vt.cs] at h
 obtain ⟨v0, _, rfl, h0, h⟩ := h.uncons
 obtain ⟨v1, _, rfl, h1, h⟩ := h.uncons
 obtain ⟨v2, _, rfl, h2, h⟩ := h.uncons
 obtain ⟨v3, _, rfl, h3, h⟩ := h.uncons
 obtain ⟨v4, _, rfl, h4, h⟩ := h.uncons
 simp only [reps] at h
 subst h
 obtain ⟨rfl, -⟩ := rep.lit_iff.1 h0
 obtain ⟨rfl, -⟩ := rep.lit_iff.1 h1
 obtain ⟨rfl, -⟩ := rep.lit_iff.1 h2
 obtain ⟨rfl, -⟩ := rep.lit_iff.1 h3
 obtain ⟨p, c, rfl, -⟩ := sl_form h4
 exact ⟨p, c, rfl, h4⟩
abbrev Alike (f : Nat) (va vb : Value) (w : World) : Prop := Calls Tryz.prog f #[va, vb] w fun e w' => e = .returned (.bool true) ∧ Below w.heap.size w w'
set_option maxRecDepth 100000 in
set_option maxHeartbeats 4000000 in
theorem eqVals_of (l : List Vt) (ih : ∀ x ∈ l, ∀ (P Q : Nat → Prop) (w : World) (va vb : Value), VtV P w x va → VtV Q w x vb → Alike 28 va vb w)
  {P Q : Nat → Prop} {w : World} {sa sb : Value} (ha : rep P w (.sl l.length (Vt.css l)) sa) (hb : rep Q w (.sl l.length (Vt.css l)) sb) : Alike 51 sa sb w := by
 have HA := Hid.intro ha
 have HB := Hid.intro hb
 rw [Vt.css_eq] at HA HB
 obtain ⟨pa, ca, rfl, a1, a2⟩ := sl_form ha
 obtain ⟨pb, cb, rfl, b1, b2⟩ := sl_form hb
 clear ha hb
 have hm : l.length ≤ 9223372036854775807 := Nat.le_trans a1 (Nat.le_trans a2 (by decide))
 go_enter Tryz.func51, Tryz.ntmps51
 go_wp2_with fail
 go_loopw [5] (fun i wr => Hid (Below w.heap.size w wr) ∧ ∃ k : Nat, k ≤ l.length ∧ i = .int .i64 (k : Int)) (fun i _ => l.length - (intOf i).toNat)
 case atStart => exact ⟨Below.refl _ _, 0, by omega, rfl⟩
 case round =>
  obtain ⟨HW, k, hk, rfl⟩ := hrel
  by_cases hlt : (k : Int) < (l.length : Int)
  ·have hlt' : k < l.length := by omega
   obtain ⟨ab, ao, us, rfl, -, -, r1, r2⟩ := sl_elem Vt.cs 5 Vt.cs_len (HA.out.via HW.out) hlt'
   obtain ⟨bb, bo, us', rfl, -, -, s1, s2⟩ := sl_elem Vt.cs 5 Vt.cs_len (HB.out.via HW.out) hlt'
   obtain ⟨p, c, rfl, r3⟩ := vt_cells r1
   obtain ⟨p', c', rfl, s3⟩ := vt_cells s1
   have HC := fun w' (h : Below wr.heap.size wr w') => Hid.intro (ih l[k] (List.getElem_mem _) P Q w' _ _ (VtV.via ⟨p, _, c, rfl, r3⟩ h) (VtV.via ⟨p', _, c', rfl, s3⟩ h))
   have x0 := r2 0 _ rfl
   have x1 := r2 1 _ rfl
   have x2 := r2 2 _ rfl
   have x3 := r2 3 _ rfl
   have x4 := r2 4 _ rfl
   have y0 := s2 0 _ rfl
   have y1 := s2 1 _ rfl
   have y2 := s2 2 _ rfl
   have y3 := s2 3 _ rfl
   have y4 := s2 4 _ rfl
   rw [Nat.add_zero] at x0 y0
   clear r1 r2 s1 s2 r3 s3
   go_wp2
   go_region_with ((go_at_call 28; refine (HC _ (Below.refl _ _).drew).out.mono ?_; rintro e w2 ⟨rfl, hb2⟩))
   all_goals go_wp2
   all_goals go_roundw
   all_goals first
    | exact ⟨HW.out.trans ((Below.drew (Below.refl _ _)).trans hb2 |>.mono HW.out.size), k + 1, by omega, by go_num⟩
    | (simp [intOf]; omega)
  ·go_wp2
   go_ret
   exact ⟨rfl, HW.out⟩
theorem Vt.lt_of_mem {x y : Vt} (h : y ∈ x.l) : SizeOf.sizeOf y < SizeOf.sizeOf x := by
 obtain ⟨k, b, i, s, l⟩ := x
 have := List.sizeOf_lt_of_mem h
 simp at *
 omega
set_option maxRecDepth 100000 in
set_option maxHeartbeats 4000000 in
theorem same_n : ∀ (n : Nat) (x : Vt), SizeOf.sizeOf x < n → ∀ (P Q : Nat → Prop) (w : World) (va vb : Value), VtV P w x va → VtV Q w x vb → Alike 28 va vb w
 | 0, x, h => absurd h (Nat.not_lt_zero _)
 | n + 1, x, h => by
  intro P Q w va vb ha hb
  obtain ⟨p, m, c, rfl, ha⟩ := ha
  obtain ⟨p', m', c', rfl, hb⟩ := hb
  have HV := fun w' (hw : Below w.heap.size w w') => Hid.intro (eqVals_of x.l (fun y hy => same_n n y (by have := Vt.lt_of_mem hy; omega)) (ha.via hw) (hb.via hw))
  clear ha hb
  have b0 : Below w.heap.size w ((w.alloc (.cells #[.int .i64 x.k, .bool x.b, .int .i64 x.i, .string x.s, .slice p m c] 36)).alloc (.cells #[.int .i64 x.k, .bool x.b, .int .i64 x.i, .string x.s, .slice p' m' c'] 36)) := below_al (below_al (Below.refl _ _) _) _
  go_enter Tryz.func28, Tryz.ntmps28
  go_wp2_with fail
  refine (HV _ b0).out.mono ?_
  rintro e w1 ⟨rfl, hb1⟩
  go_wp2_with fail
  go_ret
  exact ⟨rfl, b0.trans (hb1.mono b0.size)⟩
theorem same_any {x : Vt} {P Q : Nat → Prop} {w : World} {va vb : Value} (ha : VtV P w x va) (hb : VtV Q w x vb) : Alike 28 va vb w := same_n _ x (Nat.lt_succ_self _) P Q w va vb ha hb
theorem eqVals_any {l : List Vt} {P Q : Nat → Prop} {w : World} {sa sb : Value} (ha : rep P w (.sl l.length (Vt.css l)) sa) (hb : rep Q w (.sl l.length (Vt.css l)) sb) : Alike 51 sa sb w :=
 eqVals_of l (fun _ _ _ _ _ _ _ => same_any) ha hb
end
end Go.Proofs.YtoeodjobggodcaaGreatDoor
/- What the laws' own equality tells of data that are the same: expressions. -/
namespace Go.Proofs.YtoeodjobggodcaaGreatDoor
section
open Go.RowKit
theorem ExV.via {P : Nat → Prop} {w w' : World} {x : Ex} {v : Value} (h : ExV P w x v) (hb : Below w.heap.size w w') : ExV P w' x v := by
 obtain ⟨p, n, c, q, m, d, e, h, k⟩ := h
 exact ⟨p, n, c, q, m, d, e, h.via hb, k.via hb⟩
theorem ex_cells {P : Nat → Prop} {w : World} {x : Ex} {vs : List Value} (h : reps P w x.cs vs) : ∃ p6 c6 p7 c7, vs = [.int .i64 x.op, .string x.t, .int .i64 x.v.k, .bool x.v.b, .int .i64 x.v.i, .string x.v.s, .slice p6 x.v.l.length c6, .slice p7 x.a.length c7] ∧
  rep P w (.sl x.v.l.length (Vt.css x.v.l)) (.slice p6 x.v.l.length c6) ∧ rep P w (.sl x.a.length (Ex.css x.a)) (.slice p7 x.a.length c7) := by
 rw [Ex.cs_eq] at h
 obtain ⟨v0, _, rfl, h0, h⟩ := h.uncons
 obtain ⟨v1, _, rfl, h1, h⟩ := h.uncons
 obtain ⟨v2, _, rfl, h2, h⟩ := h.uncons
 obtain ⟨v3, _, rfl, h3, h⟩ := h.uncons
 obtain ⟨v4, _, rfl, h4, h⟩ := h.uncons
 obtain ⟨v5, _, rfl, h5, h⟩ := h.uncons
 obtain ⟨v6, _, rfl, h6, h⟩ := h.uncons
 obtain ⟨v7, _, rfl, h7, h⟩ := h.uncons
 simp only [reps] at h
 subst h
 obtain ⟨rfl, -⟩ := rep.lit_iff.1 h0
 obtain ⟨rfl, -⟩ := rep.lit_iff.1 h1
 obtain ⟨rfl, -⟩ := rep.lit_iff.1 h2
 obtain ⟨rfl, -⟩ := rep.lit_iff.1 h3
 obtain ⟨rfl, -⟩ := rep.lit_iff.1 h4
 obtain ⟨rfl, -⟩ := rep.lit_iff.1 h5
 obtain ⟨p6, c6, rfl, -⟩ := sl_form h6
 obtain ⟨p7, c7, rfl, -⟩ := sl_form h7
 exact ⟨p6, c6, p7, c7, rfl, h6, h7⟩
set_option maxRecDepth 100000 in
set_option maxHeartbeats 4000000 in
theorem eqExprs_of (l : List Ex) (ih : ∀ x ∈ l, ∀ (P Q : Nat → Prop) (w : World) (va vb : Value), ExV P w x va → ExV Q w x vb → Alike 16 va vb w)
  {P Q : Nat → Prop} {w : World} {sa sb : Value} (ha : rep P w (.sl l.length (Ex.css l)) sa) (hb : rep Q w (.sl l.length (Ex.css l)) sb) : Alike 29 sa sb w := by
 have HA := Hid.intro ha
 have HB := Hid.intro hb
 rw [Ex.css_eq] at HA HB
 obtain ⟨pa, ca, rfl, a1, a2⟩ := sl_form ha
 obtain ⟨pb, cb, rfl, b1, b2⟩ := sl_form hb
 clear ha hb
 have hm : l.length ≤ 9223372036854775807 := Nat.le_trans a1 (Nat.le_trans a2 (by decide))
 go_enter Tryz.func29, Tryz.ntmps29
 go_wp2_with fail
 go_loopw [5] (fun i wr => Hid (Below w.heap.size w wr) ∧ ∃ k : Nat, k ≤ l.length ∧ i = .int .i64 (k : Int)) (fun i _ => l.length - (intOf i).toNat)
 case atStart => exact ⟨Below.refl _ _, 0, by omega, rfl⟩
 case round =>
  obtain ⟨HW, k, hk, rfl⟩ := hrel
  by_cases hlt : (k : Int) < (l.length : Int)
  ·have hlt' : k < l.length := by omega
   obtain ⟨ab, ao, us, rfl, -, -, r1, r2⟩ := sl_elem Ex.cs 8 Ex.cs_len (HA.out.via HW.out) hlt'
   obtain ⟨bb, bo, us', rfl, -, -, s1, s2⟩ := sl_elem Ex.cs 8 Ex.cs_len (HB.out.via HW.out) hlt'
   obtain ⟨p, c, q, d, rfl, r3, r4⟩ := ex_cells r1
   obtain ⟨p', c', q', d', rfl, s3, s4⟩ := ex_cells s1
   have HC := fun w' (h : Below wr.heap.size wr w') => Hid.intro (ih l[k] (List.getElem_mem _) P Q w' _ _ (ExV.via ⟨p, _, c, q, _, d, rfl, r3, r4⟩ h) (ExV.via ⟨p', _, c', q', _, d', rfl, s3, s4⟩ h))
   have x0 := r2 0 _ rfl
   have x1 := r2 1 _ rfl
   have x2 := r2 2 _ rfl
   have x3 := r2 3 _ rfl
   have x4 := r2 4 _ rfl
   have x5 := r2 5 _ rfl
   have x6 := r2 6 _ rfl
   have x7 := r2 7 _ rfl
   have y0 := s2 0 _ rfl
   have y1 := s2 1 _ rfl
   have y2 := s2 2 _ rfl
   have y3 := s2 3 _ rfl
   have y4 := s2 4 _ rfl
   have y5 := s2 5 _ rfl
   have y6 := s2 6 _ rfl
   have y7 := s2 7 _ rfl
   rw [Nat.add_zero] at x0 y0
   clear r1 r2 s1 s2 r3 s3 r4 s4
   go_wp2
   go_region_with ((go_at_call 16; refine (HC _ (Below.refl _ _).drew).out.mono ?_; rintro e w2 ⟨rfl, hb2⟩))
   all_goals go_wp2
   all_goals go_roundw
   all_goals first
    | exact ⟨HW.out.trans ((Below.drew (Below.refl _ _)).trans hb2 |>.mono HW.out.size), k + 1, by omega, by go_num⟩
    | (simp [intOf]; omega)
  ·go_wp2
   go_ret
   exact ⟨rfl, HW.out⟩
theorem Ex.lt_of_mem {x y : Ex} (h : y ∈ x.a) : SizeOf.sizeOf y < SizeOf.sizeOf x := by
 obtain ⟨op, t, v, a⟩ := x
 have := List.sizeOf_lt_of_mem h
 simp at *
 omega
set_option maxRecDepth 100000 in
set_option maxHeartbeats 4000000 in
theorem eqExpr_n : ∀ (n : Nat) (x : Ex), SizeOf.sizeOf x < n → ∀ (P Q : Nat → Prop) (w : World) (va vb : Value), ExV P w x va → ExV Q w x vb → Alike 16 va vb w
 | 0, x, h => absurd h (Nat.not_lt_zero _)
 | n + 1, x, h => by
  intro P Q w va vb ha hb
  obtain ⟨p6, n6, c6, p7, n7, c7, rfl, ha, ha'⟩ := ha
  obtain ⟨p6', n6', c6', p7', n7', c7', rfl, hb, hb'⟩ := hb
  have HS := fun w' (hw : Below w.heap.size w w') => Hid.intro (same_any (x := x.v) ⟨p6, n6, c6, rfl, ha.via hw⟩ ⟨p6', n6', c6', rfl, hb.via hw⟩)
  have HV := fun w' (hw : Below w.heap.size w w') => Hid.intro (eqExprs_of x.a (fun y hy => eqExpr_n n y (by have := Ex.lt_of_mem hy; omega)) (ha'.via hw) (hb'.via hw))
  clear ha hb ha' hb'
  have b0 : Below w.heap.size w ((w.alloc (.cells #[.int .i64 x.op, .string x.t, .int .i64 x.v.k, .bool x.v.b, .int .i64 x.v.i, .string x.v.s, .slice p6 n6 c6, .slice p7 n7 c7] 39)).alloc (.cells #[.int .i64 x.op, .string x.t, .int .i64 x.v.k, .bool x.v.b, .int .i64 x.v.i, .string x.v.s, .slice p6' n6' c6', .slice p7' n7' c7'] 39)) := below_al (below_al (Below.refl _ _) _) _
  go_enter Tryz.func16, Tryz.ntmps16
  go_wp2_with fail
  refine (HS _ b0).out.mono ?_
  rintro e w1 ⟨rfl, hb1⟩
  have hA : w1.cell? ⟨w.heap.size, 7, none⟩ = some (.slice p7 n7 c7) := (hb1.cell (p := ⟨w.heap.size, 7, none⟩) (by simp; omega)).trans (by simp [go_sem])
  have hB : w1.cell? ⟨w.heap.size + 1, 7, none⟩ = some (.slice p7' n7' c7') := (hb1.cell (p := ⟨w.heap.size + 1, 7, none⟩) (by simp)).trans (by simp [go_sem])
  have b1 := b0.trans (hb1.mono b0.size)
  go_wp2_with fail
  refine (HV _ b1).out.mono ?_
  rintro e w2 ⟨rfl, hb2⟩
  go_wp2_with fail
  go_ret
  exact ⟨rfl, b1.trans (hb2.mono b1.size)⟩
theorem eqExpr_any {x : Ex} {P Q : Nat → Prop} {w : World} {va vb : Value} (ha : ExV P w x va) (hb : ExV Q w x vb) : Alike 16 va vb w := eqExpr_n _ x (Nat.lt_succ_self _) P Q w va vb ha hb
theorem eqExprs_any {l : List Ex} {P Q : Nat → Prop} {w : World} {sa sb : Value} (ha : rep P w (.sl l.length (Ex.css l)) sa) (hb : rep Q w (.sl l.length (Ex.css l)) sb) : Alike 29 sa sb w :=
 eqExprs_of l (fun _ _ _ _ _ _ _ => eqExpr_any) ha hb
end
end Go.Proofs.YtoeodjobggodcaaGreatDoor
/- What the laws' own equality tells of data that are the same: conditions. -/
namespace Go.Proofs.YtoeodjobggodcaaGreatDoor
section
open Go.RowKit
theorem np_nrm {Q : Exit → Act → World → Prop} {a : Act} {w : World} (h : Q .normal a w) : NoPanic Q .normal a w := h
theorem below_drewN {a w : World} (h : Below a.heap.size a w) (n : Nat) : Below a.heap.size a (w.drewN n) := ⟨h.os, h.tape, h.output, h.size, h.block⟩
def CdW (P : Nat → Prop) (w : World) (c : Cd) (v : Value) : Prop :=
 ∃ p3 q3 p4 q4 p5 q5 p6 q6 p7 q7 p14 q14 p15 q15 p18 q18, v = .agg #[.int .i64 c.k, .string c.v, .string c.c, .slice p3 c.binds.length q3, .slice p4 c.tests.length q4, .slice p5 c.conds.length q5, .slice p6 c.thn.length q6, .slice p7 c.alts.length q7, .int .i64 c.e.op, .string c.e.t, .int .i64 c.e.v.k, .bool c.e.v.b, .int .i64 c.e.v.i, .string c.e.v.s, .slice p14 c.e.v.l.length q14, .slice p15 c.e.a.length q15, .string c.fn, .string c.name, .slice p18 c.args.length q18] ∧ rep P w (.sl c.binds.length (c.binds.flatMap Bi.cs)) (.slice p3 c.binds.length q3) ∧ rep P w (.sl c.tests.length (Ex.css c.tests)) (.slice p4 c.tests.length q4) ∧ rep P w (.sl c.conds.length (Cd.css c.conds)) (.slice p5 c.conds.length q5) ∧ rep P w (.sl c.thn.length (Cd.css c.thn)) (.slice p6 c.thn.length q6) ∧ rep P w (.sl c.alts.length (Cd.csss c.alts)) (.slice p7 c.alts.length q7) ∧ rep P w (.sl c.e.v.l.length (Vt.css c.e.v.l)) (.slice p14 c.e.v.l.length q14) ∧ rep P w (.sl c.e.a.length (Ex.css c.e.a)) (.slice p15 c.e.a.length q15) ∧ rep P w (.sl c.args.length (c.args.flatMap Ar.cs)) (.slice p18 c.args.length q18)
theorem CdW.via {P : Nat → Prop} {w w' : World} {c : Cd} {v : Value} (h : CdW P w c v) (hb : Below w.heap.size w w') : CdW P w' c v := by
 obtain ⟨p3, q3, p4, q4, p5, q5, p6, q6, p7, q7, p14, q14, p15, q15, p18, q18, e, h3, h4, h5, h6, h7, h14, h15, h18⟩ := h
 exact ⟨p3, q3, p4, q4, p5, q5, p6, q6, p7, q7, p14, q14, p15, q15, p18, q18, e, h3.via hb, h4.via hb, h5.via hb, h6.via hb, h7.via hb, h14.via hb, h15.via hb, h18.via hb⟩
theorem cd_cells {P : Nat → Prop} {w : World} {c : Cd} {vs : List Value} (h : reps P w c.cs vs) : CdW P w c (.agg vs.toArray) := by
 rw [Cd.cs_eq] at h
 obtain ⟨v0, _, rfl, h0, h⟩ := h.uncons
 obtain ⟨v1, _, rfl, h1, h⟩ := h.uncons
 obtain ⟨v2, _, rfl, h2, h⟩ := h.uncons
 obtain ⟨v3, _, rfl, h3, h⟩ := h.uncons
 obtain ⟨v4, _, rfl, h4, h⟩ := h.uncons
 obtain ⟨v5, _, rfl, h5, h⟩ := h.uncons
 obtain ⟨v6, _, rfl, h6, h⟩ := h.uncons
 obtain ⟨v7, _, rfl, h7, h⟩ := h.uncons
 obtain ⟨v8, _, rfl, h8, h⟩ := h.uncons
 obtain ⟨v9, _, rfl, h9, h⟩ := h.uncons
 obtain ⟨v10, _, rfl, h10, h⟩ := h.uncons
 obtain ⟨v11, _, rfl, h11, h⟩ := h.uncons
 obtain ⟨v12, _, rfl, h12, h⟩ := h.uncons
 obtain ⟨v13, _, rfl, h13, h⟩ := h.uncons
 obtain ⟨v14, _, rfl, h14, h⟩ := h.uncons
 obtain ⟨v15, _, rfl, h15, h⟩ := h.uncons
 obtain ⟨v16, _, rfl, h16, h⟩ := h.uncons
 obtain ⟨v17, _, rfl, h17, h⟩ := h.uncons
 obtain ⟨v18, _, rfl, h18, h⟩ := h.uncons
 simp only [reps] at h
 subst h
 obtain ⟨rfl, -⟩ := rep.lit_iff.1 h0
 obtain ⟨rfl, -⟩ := rep.lit_iff.1 h1
 obtain ⟨rfl, -⟩ := rep.lit_iff.1 h2
 obtain ⟨p3, q3, rfl, -⟩ := sl_form h3
 obtain ⟨p4, q4, rfl, -⟩ := sl_form h4
 obtain ⟨p5, q5, rfl, -⟩ := sl_form h5
 obtain ⟨p6, q6, rfl, -⟩ := sl_form h6
 obtain ⟨p7, q7, rfl, -⟩ := sl_form h7
 obtain ⟨rfl, -⟩ := rep.lit_iff.1 h8
 obtain ⟨rfl, -⟩ := rep.lit_iff.1 h9
 obtain ⟨rfl, -⟩ := rep.lit_iff.1 h10
 obtain ⟨rfl, -⟩ := rep.lit_iff.1 h11
 obtain ⟨rfl, -⟩ := rep.lit_iff.1 h12
 obtain ⟨rfl, -⟩ := rep.lit_iff.1 h13
 obtain ⟨p14, q14, rfl, -⟩ := sl_form h14
 obtain ⟨p15, q15, rfl, -⟩ := sl_form h15
 obtain ⟨rfl, -⟩ := rep.lit_iff.1 h16
 obtain ⟨rfl, -⟩ := rep.lit_iff.1 h17
 obtain ⟨p18, q18, rfl, -⟩ := sl_form h18
 exact ⟨p3, q3, p4, q4, p5, q5, p6, q6, p7, q7, p14, q14, p15, q15, p18, q18, rfl, h3, h4, h5, h6, h7, h14, h15, h18⟩
set_option maxRecDepth 100000 in
set_option maxHeartbeats 4000000 in
theorem eqConds_of (l : List Cd) (ih : ∀ x ∈ l, ∀ (P Q : Nat → Prop) (w : World) (va vb : Value), CdW P w x va → CdW Q w x vb → Alike 47 va vb w)
  {P Q : Nat → Prop} {w : World} {sa sb : Value} (ha : rep P w (.sl l.length (Cd.css l)) sa) (hb : rep Q w (.sl l.length (Cd.css l)) sb) : Alike 22 sa sb w := by
 have HA := Hid.intro ha
 have HB := Hid.intro hb
 rw [Cd.css_eq] at HA HB
 obtain ⟨pa, ca, rfl, a1, a2⟩ := sl_form ha
 obtain ⟨pb, cb, rfl, b1, b2⟩ := sl_form hb
 clear ha hb
 have hmo : Tryz.prog.follows .mixedOrders = true := by kernel_rfl
 have hm : l.length ≤ 9223372036854775807 := Nat.le_trans a1 (Nat.le_trans a2 (by decide))
 go_enter Tryz.func22, Tryz.ntmps22
 go_wp2_with fail
 go_loopw [5] (fun i wr => Hid (Below w.heap.size w wr) ∧ ∃ k : Nat, k ≤ l.length ∧ i = .int .i64 (k : Int)) (fun i _ => l.length - (intOf i).toNat)
 case atStart => exact ⟨Below.refl _ _, 0, by omega, rfl⟩
 case round =>
  obtain ⟨HW, k, hk, rfl⟩ := hrel
  by_cases hlt : (k : Int) < (l.length : Int)
  ·have hlt' : k < l.length := by omega
   obtain ⟨ab, ao, us, rfl, hab, -, r1, r2⟩ := sl_elem Cd.cs 19 Cd.cs_len (HA.out.via HW.out) hlt'
   obtain ⟨bb, bo, us', rfl, hbb, -, s1, s2⟩ := sl_elem Cd.cs 19 Cd.cs_len (HB.out.via HW.out) hlt'
   have r3 := cd_cells r1
   have s3 := cd_cells s1
   have n1 := reps.length r1
   have n2 := reps.length s1
   rw [Cd.cs_len] at n1 n2
   have HC := fun w' (h : Below wr.heap.size wr w') => Hid.intro (ih l[k] (List.getElem_mem _) P Q w' _ _ (r3.via h) (s3.via h))
   have La := fun (w' : World) (h : Below wr.heap.size wr w') => (fun j u hj => (h.cell (p := ⟨ab, ao + k * 19 + j, none⟩) hab).trans (r2 j u hj) : w'.rangeAt ab (ao + k * 19) us)
   have Lb := fun (w' : World) (h : Below wr.heap.size wr w') => (fun j u hj => (h.cell (p := ⟨bb, bo + k * 19 + j, none⟩) hbb).trans (s2 j u hj) : w'.rangeAt bb (bo + k * 19) us')
   clear r1 s1 r3 s3
   go_wp2_with fail
   refine wp_region_noPanic ?_
   refine wp_region_held_drew (S := fun w' => Below wr.heap.size wr w') hmo (Below.refl _ _).drew (fun hS => ?_)
   refine tq 0 17 (.slice (some ⟨ab, ao, none⟩) l.length ca) hS ?_
   simp only [n3]
   refine tq 1 18 (.int .i64 (k : Int)) hS ?_
   simp only [n3]
   refine tq 2 19 (.pointer (some ⟨ab, ao + k * 19, none⟩)) hS ?_
   simp only [n3]
   refine tp 3 20 (.agg us.toArray) ⟨_, rfl, rfl, yieldsIf_load_mid (by rfl) _ _ rfl ab (ao + k * 19) rfl us _ (fun w' h => La w' h) Tryz.underlying96 rfl (by rw [n1]; exact infoCond)⟩ hS ?_
   simp only [n3]
   refine tq 4 21 (.slice (some ⟨bb, bo, none⟩) l.length cb) hS ?_
   simp only [n3]
   refine tq 5 22 (.int .i64 (k : Int)) hS ?_
   simp only [n3]
   refine tq 6 23 (.pointer (some ⟨bb, bo + k * 19, none⟩)) hS ?_
   simp only [n3]
   refine tp 7 24 (.agg us'.toArray) ⟨_, rfl, rfl, yieldsIf_load_mid (by rfl) _ _ rfl bb (bo + k * 19) rfl us' _ (fun w' h => Lb w' h) Tryz.underlying96 rfl (by rw [n2]; exact infoCond)⟩ hS ?_
   simp only [n3]
   generalize World.drew _ = w3 at hS ⊢
   refine on1 8 rfl (fun K' hK => ?_)
   go_simp
   refine (HC _ hS).out.mono ?_
   rintro e w4 ⟨rfl, hb4⟩
   have D := hS.trans (hb4.mono hS.size)
   refine hK.out _ _ D (fun hS => ?_)
   clear hK K'
   (try simp only [Act.put, n3])
   refine tq 9 26 (.bool false) hS ?_
   simp only [n3]
   refine wpAnyH_done (by kernel_rfl) ?_ _
   refine np_nrm ?_
   go_wp2
   go_roundw
   case rel => exact ⟨HW.out.trans (D.mono HW.out.size), k + 1, by omega, by go_num⟩
   case measure => simp [intOf]; omega
  ·go_wp2
   go_ret
   exact ⟨rfl, HW.out⟩
def altC (x : List Cd) : List Dt := [.sl x.length (Cd.css x)]
theorem altC_len (x : List Cd) : (altC x).length = 1 := rfl
theorem alts_eq (l : List (List Cd)) : Cd.csss l = l.flatMap altC := by
 rw [Cd.csss_eq]
 induction l with
 | nil => rfl
 | cons x l ih => rw [List.map_cons, List.flatMap_cons, ih]; rfl
set_option maxRecDepth 100000 in
set_option maxHeartbeats 4000000 in
theorem eqAlts_of (l : List (List Cd)) (ih : ∀ x ∈ l, ∀ (P Q : Nat → Prop) (w : World) (va vb : Value), rep P w (.sl x.length (Cd.css x)) va → rep Q w (.sl x.length (Cd.css x)) vb → Alike 22 va vb w)
  {P Q : Nat → Prop} {w : World} {sa sb : Value} (ha : rep P w (.sl l.length (Cd.csss l)) sa) (hb : rep Q w (.sl l.length (Cd.csss l)) sb) : Alike 89 sa sb w := by
 have HA := Hid.intro ha
 have HB := Hid.intro hb
 rw [alts_eq] at HA HB
 obtain ⟨pa, ca, rfl, a1, a2⟩ := sl_form ha
 obtain ⟨pb, cb, rfl, b1, b2⟩ := sl_form hb
 clear ha hb
 have hm : l.length ≤ 9223372036854775807 := Nat.le_trans a1 (Nat.le_trans a2 (by decide))
 go_enter Tryz.func89, Tryz.ntmps89
 go_wp2_with fail
 go_loopw [5] (fun i wr => Hid (Below w.heap.size w wr) ∧ ∃ k : Nat, k ≤ l.length ∧ i = .int .i64 (k : Int)) (fun i _ => l.length - (intOf i).toNat)
 case atStart => exact ⟨Below.refl _ _, 0, by omega, rfl⟩
 case round =>
  obtain ⟨HW, k, hk, rfl⟩ := hrel
  by_cases hlt : (k : Int) < (l.length : Int)
  ·have hlt' : k < l.length := by omega
   obtain ⟨ab, ao, us, rfl, -, -, r1, r2⟩ := sl_elem altC 1 altC_len (HA.out.via HW.out) hlt'
   obtain ⟨bb, bo, us', rfl, -, -, s1, s2⟩ := sl_elem altC 1 altC_len (HB.out.via HW.out) hlt'
   unfold altC at r1 s1
   obtain ⟨v0, _, rfl, r3, -⟩ := r1.uncons
   obtain ⟨v0', _, rfl, s3, -⟩ := s1.uncons
   have HC := fun w' (h : Below wr.heap.size wr w') => Hid.intro (ih l[k] (List.getElem_mem _) P Q w' _ _ (r3.via h) (s3.via h))
   obtain ⟨p, c, rfl, -⟩ := sl_form r3
   obtain ⟨p', c', rfl, -⟩ := sl_form s3
   have x0 := r2 0 _ rfl
   have y0 := s2 0 _ rfl
   rw [Nat.add_zero] at x0 y0
   clear r1 r2 s1 s2 r3 s3
   rw [Nat.mul_one] at x0 y0
   go_wp2
   go_region_with ((go_at_call 22; refine (HC _ (Below.refl _ _).drew).out.mono ?_; rintro e w2 ⟨rfl, hb2⟩))
   all_goals go_wp2
   all_goals go_roundw
   all_goals first
    | exact ⟨HW.out.trans ((Below.drew (Below.refl _ _)).trans hb2 |>.mono HW.out.size), k + 1, by omega, by go_num⟩
    | (simp [intOf]; omega)
  ·go_wp2
   go_ret
   exact ⟨rfl, HW.out⟩
theorem Cd.conds_lt {x y : Cd} (h : y ∈ x.conds) : SizeOf.sizeOf y < SizeOf.sizeOf x := by
 obtain ⟨k, v, c, binds, tests, conds, thn, alts, e, fn, name, args⟩ := x
 have := List.sizeOf_lt_of_mem h
 simp at *
 omega
theorem Cd.thn_lt {x y : Cd} (h : y ∈ x.thn) : SizeOf.sizeOf y < SizeOf.sizeOf x := by
 obtain ⟨k, v, c, binds, tests, conds, thn, alts, e, fn, name, args⟩ := x
 have := List.sizeOf_lt_of_mem h
 simp at *
 omega
theorem Cd.alts_lt {x y : Cd} {l : List Cd} (hl : l ∈ x.alts) (h : y ∈ l) : SizeOf.sizeOf y < SizeOf.sizeOf x := by
 obtain ⟨k, v, c, binds, tests, conds, thn, alts, e, fn, name, args⟩ := x
 have := List.sizeOf_lt_of_mem h
 have := List.sizeOf_lt_of_mem hl
 simp at *
 omega
set_option maxRecDepth 100000 in
set_option maxHeartbeats 8000000 in
theorem eqCond_n : ∀ (n : Nat) (c : Cd), SizeOf.sizeOf c < n → ∀ (P Q : Nat → Prop) (w : World) (va vb : Value), CdW P w c va → CdW Q w c vb → Alike 47 va vb w
 | 0, x, h => absurd h (Nat.not_lt_zero _)
 | n + 1, c, h => by
  intro P Q w va vb ha hb
  obtain ⟨p3, q3, p4, q4, p5, q5, p6, q6, p7, q7, p14, q14, p15, q15, p18, q18, rfl, h3, h4, h5, h6, h7, h14, h15, h18⟩ := ha
  obtain ⟨p3', q3', p4', q4', p5', q5', p6', q6', p7', q7', p14', q14', p15', q15', p18', q18', rfl, h3', h4', h5', h6', h7', h14', h15', h18'⟩ := hb
  have HT := fun w' (hw : Below w.heap.size w w') => Hid.intro (eqExprs_any (l := c.tests) (h4.via hw) (h4'.via hw))
  have HC := fun w' (hw : Below w.heap.size w w') => Hid.intro (eqConds_of c.conds (fun y hy => eqCond_n n y (by have := Cd.conds_lt hy; omega)) (h5.via hw) (h5'.via hw))
  have HN := fun w' (hw : Below w.heap.size w w') => Hid.intro (eqConds_of c.thn (fun y hy => eqCond_n n y (by have := Cd.thn_lt hy; omega)) (h6.via hw) (h6'.via hw))
  have HL := fun w' (hw : Below w.heap.size w w') => Hid.intro (eqAlts_of c.alts (fun l hl P Q w va vb => eqConds_of l (fun y hy => eqCond_n n y (by have := Cd.alts_lt hl hy; omega))) (h7.via hw) (h7'.via hw))
  have HX := fun w' (hw : Below w.heap.size w w') => Hid.intro (eqExpr_any (x := c.e) ⟨p14, _, q14, p15, _, q15, rfl, h14.via hw, h15.via hw⟩ ⟨p14', _, q14', p15', _, q15', rfl, h14'.via hw, h15'.via hw⟩)
  have HB3 := Hid.intro h3
  have HB3' := Hid.intro h3'
  have HB18 := Hid.intro h18
  have HB18' := Hid.intro h18'
  obtain ⟨_, _, e3, l3, m3⟩ := sl_form h3
  obtain ⟨_, _, e18, l18, m18⟩ := sl_form h18
  have hm3 : c.binds.length ≤ 9223372036854775807 := Nat.le_trans l3 (Nat.le_trans m3 (by decide))
  have hm18 : c.args.length ≤ 9223372036854775807 := Nat.le_trans l18 (Nat.le_trans m18 (by decide))
  clear h3 h4 h5 h6 h7 h14 h15 h18 h3' h4' h5' h6' h7' h14' h15' h18' e3 l3 m3 e18 l18 m18
  have b0 : Below w.heap.size w ((w.alloc (.cells #[.int .i64 c.k, .string c.v, .string c.c, .slice p3 c.binds.length q3, .slice p4 c.tests.length q4, .slice p5 c.conds.length q5, .slice p6 c.thn.length q6, .slice p7 c.alts.length q7, .int .i64 c.e.op, .string c.e.t, .int .i64 c.e.v.k, .bool c.e.v.b, .int .i64 c.e.v.i, .string c.e.v.s, .slice p14 c.e.v.l.length q14, .slice p15 c.e.a.length q15, .string c.fn, .string c.name, .slice p18 c.args.length q18] 96)).alloc (.cells #[.int .i64 c.k, .string c.v, .string c.c, .slice p3' c.binds.length q3', .slice p4' c.tests.length q4', .slice p5' c.conds.length q5', .slice p6' c.thn.length q6', .slice p7' c.alts.length q7', .int .i64 c.e.op, .string c.e.t, .int .i64 c.e.v.k, .bool c.e.v.b, .int .i64 c.e.v.i, .string c.e.v.s, .slice p14' c.e.v.l.length q14', .slice p15' c.e.a.length q15', .string c.fn, .string c.name, .slice p18' c.args.length q18'] 96)) := below_al (below_al (Below.refl _ _) _) _
  have hz : ((w.alloc (.cells #[.int .i64 c.k, .string c.v, .string c.c, .slice p3 c.binds.length q3, .slice p4 c.tests.length q4, .slice p5 c.conds.length q5, .slice p6 c.thn.length q6, .slice p7 c.alts.length q7, .int .i64 c.e.op, .string c.e.t, .int .i64 c.e.v.k, .bool c.e.v.b, .int .i64 c.e.v.i, .string c.e.v.s, .slice p14 c.e.v.l.length q14, .slice p15 c.e.a.length q15, .string c.fn, .string c.name, .slice p18 c.args.length q18] 96)).alloc (.cells #[.int .i64 c.k, .string c.v, .string c.c, .slice p3' c.binds.length q3', .slice p4' c.tests.length q4', .slice p5' c.conds.length q5', .slice p6' c.thn.length q6', .slice p7' c.alts.length q7', .int .i64 c.e.op, .string c.e.t, .int .i64 c.e.v.k, .bool c.e.v.b, .int .i64 c.e.v.i, .string c.e.v.s, .slice p14' c.e.v.l.length q14', .slice p15' c.e.a.length q15', .string c.fn, .string c.name, .slice p18' c.args.length q18'] 96)).heap.size = w.heap.size + 2 := by simp
  have XA : ((w.alloc (.cells #[.int .i64 c.k, .string c.v, .string c.c, .slice p3 c.binds.length q3, .slice p4 c.tests.length q4, .slice p5 c.conds.length q5, .slice p6 c.thn.length q6, .slice p7 c.alts.length q7, .int .i64 c.e.op, .string c.e.t, .int .i64 c.e.v.k, .bool c.e.v.b, .int .i64 c.e.v.i, .string c.e.v.s, .slice p14 c.e.v.l.length q14, .slice p15 c.e.a.length q15, .string c.fn, .string c.name, .slice p18 c.args.length q18] 96)).alloc (.cells #[.int .i64 c.k, .string c.v, .string c.c, .slice p3' c.binds.length q3', .slice p4' c.tests.length q4', .slice p5' c.conds.length q5', .slice p6' c.thn.length q6', .slice p7' c.alts.length q7', .int .i64 c.e.op, .string c.e.t, .int .i64 c.e.v.k, .bool c.e.v.b, .int .i64 c.e.v.i, .string c.e.v.s, .slice p14' c.e.v.l.length q14', .slice p15' c.e.a.length q15', .string c.fn, .string c.name, .slice p18' c.args.length q18'] 96)).heap[w.heap.size]? = some (.cells #[.int .i64 c.k, .string c.v, .string c.c, .slice p3 c.binds.length q3, .slice p4 c.tests.length q4, .slice p5 c.conds.length q5, .slice p6 c.thn.length q6, .slice p7 c.alts.length q7, .int .i64 c.e.op, .string c.e.t, .int .i64 c.e.v.k, .bool c.e.v.b, .int .i64 c.e.v.i, .string c.e.v.s, .slice p14 c.e.v.l.length q14, .slice p15 c.e.a.length q15, .string c.fn, .string c.name, .slice p18 c.args.length q18] 96) := (heap_alloc_old _ _ (by simp)).trans (heap_alloc_new w _)
  have XB : ((w.alloc (.cells #[.int .i64 c.k, .string c.v, .string c.c, .slice p3 c.binds.length q3, .slice p4 c.tests.length q4, .slice p5 c.conds.length q5, .slice p6 c.thn.length q6, .slice p7 c.alts.length q7, .int .i64 c.e.op, .string c.e.t, .int .i64 c.e.v.k, .bool c.e.v.b, .int .i64 c.e.v.i, .string c.e.v.s, .slice p14 c.e.v.l.length q14, .slice p15 c.e.a.length q15, .string c.fn, .string c.name, .slice p18 c.args.length q18] 96)).alloc (.cells #[.int .i64 c.k, .string c.v, .string c.c, .slice p3' c.binds.length q3', .slice p4' c.tests.length q4', .slice p5' c.conds.length q5', .slice p6' c.thn.length q6', .slice p7' c.alts.length q7', .int .i64 c.e.op, .string c.e.t, .int .i64 c.e.v.k, .bool c.e.v.b, .int .i64 c.e.v.i, .string c.e.v.s, .slice p14' c.e.v.l.length q14', .slice p15' c.e.a.length q15', .string c.fn, .string c.name, .slice p18' c.args.length q18'] 96)).heap[w.heap.size + 1]? = some (.cells #[.int .i64 c.k, .string c.v, .string c.c, .slice p3' c.binds.length q3', .slice p4' c.tests.length q4', .slice p5' c.conds.length q5', .slice p6' c.thn.length q6', .slice p7' c.alts.length q7', .int .i64 c.e.op, .string c.e.t, .int .i64 c.e.v.k, .bool c.e.v.b, .int .i64 c.e.v.i, .string c.e.v.s, .slice p14' c.e.v.l.length q14', .slice p15' c.e.a.length q15', .string c.fn, .string c.name, .slice p18' c.args.length q18'] 96) := by
   have := heap_alloc_new (w.alloc (.cells #[.int .i64 c.k, .string c.v, .string c.c, .slice p3 c.binds.length q3, .slice p4 c.tests.length q4, .slice p5 c.conds.length q5, .slice p6 c.thn.length q6, .slice p7 c.alts.length q7, .int .i64 c.e.op, .string c.e.t, .int .i64 c.e.v.k, .bool c.e.v.b, .int .i64 c.e.v.i, .string c.e.v.s, .slice p14 c.e.v.l.length q14, .slice p15 c.e.a.length q15, .string c.fn, .string c.name, .slice p18 c.args.length q18] 96)) (.cells #[.int .i64 c.k, .string c.v, .string c.c, .slice p3' c.binds.length q3', .slice p4' c.tests.length q4', .slice p5' c.conds.length q5', .slice p6' c.thn.length q6', .slice p7' c.alts.length q7', .int .i64 c.e.op, .string c.e.t, .int .i64 c.e.v.k, .bool c.e.v.b, .int .i64 c.e.v.i, .string c.e.v.s, .slice p14' c.e.v.l.length q14', .slice p15' c.e.a.length q15', .string c.fn, .string c.name, .slice p18' c.args.length q18'] 96)
   simpa using this
  have FA := fun w' (hw : Below ((w.alloc (.cells #[.int .i64 c.k, .string c.v, .string c.c, .slice p3 c.binds.length q3, .slice p4 c.tests.length q4, .slice p5 c.conds.length q5, .slice p6 c.thn.length q6, .slice p7 c.alts.length q7, .int .i64 c.e.op, .string c.e.t, .int .i64 c.e.v.k, .bool c.e.v.b, .int .i64 c.e.v.i, .string c.e.v.s, .slice p14 c.e.v.l.length q14, .slice p15 c.e.a.length q15, .string c.fn, .string c.name, .slice p18 c.args.length q18] 96)).alloc (.cells #[.int .i64 c.k, .string c.v, .string c.c, .slice p3' c.binds.length q3', .slice p4' c.tests.length q4', .slice p5' c.conds.length q5', .slice p6' c.thn.length q6', .slice p7' c.alts.length q7', .int .i64 c.e.op, .string c.e.t, .int .i64 c.e.v.k, .bool c.e.v.b, .int .i64 c.e.v.i, .string c.e.v.s, .slice p14' c.e.v.l.length q14', .slice p15' c.e.a.length q15', .string c.fn, .string c.name, .slice p18' c.args.length q18'] 96)).heap.size ((w.alloc (.cells #[.int .i64 c.k, .string c.v, .string c.c, .slice p3 c.binds.length q3, .slice p4 c.tests.length q4, .slice p5 c.conds.length q5, .slice p6 c.thn.length q6, .slice p7 c.alts.length q7, .int .i64 c.e.op, .string c.e.t, .int .i64 c.e.v.k, .bool c.e.v.b, .int .i64 c.e.v.i, .string c.e.v.s, .slice p14 c.e.v.l.length q14, .slice p15 c.e.a.length q15, .string c.fn, .string c.name, .slice p18 c.args.length q18] 96)).alloc (.cells #[.int .i64 c.k, .string c.v, .string c.c, .slice p3' c.binds.length q3', .slice p4' c.tests.length q4', .slice p5' c.conds.length q5', .slice p6' c.thn.length q6', .slice p7' c.alts.length q7', .int .i64 c.e.op, .string c.e.t, .int .i64 c.e.v.k, .bool c.e.v.b, .int .i64 c.e.v.i, .string c.e.v.s, .slice p14' c.e.v.l.length q14', .slice p15' c.e.a.length q15', .string c.fn, .string c.name, .slice p18' c.args.length q18'] 96)) w') j => (hw.cell (p := ⟨w.heap.size, j, none⟩) (by rw [hz]; show w.heap.size < _; omega)).trans (heap_cell XA j).1
  have FB := fun w' (hw : Below ((w.alloc (.cells #[.int .i64 c.k, .string c.v, .string c.c, .slice p3 c.binds.length q3, .slice p4 c.tests.length q4, .slice p5 c.conds.length q5, .slice p6 c.thn.length q6, .slice p7 c.alts.length q7, .int .i64 c.e.op, .string c.e.t, .int .i64 c.e.v.k, .bool c.e.v.b, .int .i64 c.e.v.i, .string c.e.v.s, .slice p14 c.e.v.l.length q14, .slice p15 c.e.a.length q15, .string c.fn, .string c.name, .slice p18 c.args.length q18] 96)).alloc (.cells #[.int .i64 c.k, .string c.v, .string c.c, .slice p3' c.binds.length q3', .slice p4' c.tests.length q4', .slice p5' c.conds.length q5', .slice p6' c.thn.length q6', .slice p7' c.alts.length q7', .int .i64 c.e.op, .string c.e.t, .int .i64 c.e.v.k, .bool c.e.v.b, .int .i64 c.e.v.i, .string c.e.v.s, .slice p14' c.e.v.l.length q14', .slice p15' c.e.a.length q15', .string c.fn, .string c.name, .slice p18' c.args.length q18'] 96)).heap.size ((w.alloc (.cells #[.int .i64 c.k, .string c.v, .string c.c, .slice p3 c.binds.length q3, .slice p4 c.tests.length q4, .slice p5 c.conds.length q5, .slice p6 c.thn.length q6, .slice p7 c.alts.length q7, .int .i64 c.e.op, .string c.e.t, .int .i64 c.e.v.k, .bool c.e.v.b, .int .i64 c.e.v.i, .string c.e.v.s, .slice p14 c.e.v.l.length q14, .slice p15 c.e.a.length q15, .string c.fn, .string c.name, .slice p18 c.args.length q18] 96)).alloc (.cells #[.int .i64 c.k, .string c.v, .string c.c, .slice p3' c.binds.length q3', .slice p4' c.tests.length q4', .slice p5' c.conds.length q5', .slice p6' c.thn.length q6', .slice p7' c.alts.length q7', .int .i64 c.e.op, .string c.e.t, .int .i64 c.e.v.k, .bool c.e.v.b, .int .i64 c.e.v.i, .string c.e.v.s, .slice p14' c.e.v.l.length q14', .slice p15' c.e.a.length q15', .string c.fn, .string c.name, .slice p18' c.args.length q18'] 96)) w') j => (hw.cell (p := ⟨w.heap.size + 1, j, none⟩) (by rw [hz]; show w.heap.size + 1 < _; omega)).trans (heap_cell XB j).1
  clear XA XB
  go_enter Tryz.func47, Tryz.ntmps47
  have hmo : Tryz.prog.follows .mixedOrders = true := by kernel_rfl
  have BB0 := Hid.intro (Below.refl ((w.alloc (.cells #[.int .i64 c.k, .string c.v, .string c.c, .slice p3 c.binds.length q3, .slice p4 c.tests.length q4, .slice p5 c.conds.length q5, .slice p6 c.thn.length q6, .slice p7 c.alts.length q7, .int .i64 c.e.op, .string c.e.t, .int .i64 c.e.v.k, .bool c.e.v.b, .int .i64 c.e.v.i, .string c.e.v.s, .slice p14 c.e.v.l.length q14, .slice p15 c.e.a.length q15, .string c.fn, .string c.name, .slice p18 c.args.length q18] 96)).alloc (.cells #[.int .i64 c.k, .string c.v, .string c.c, .slice p3' c.binds.length q3', .slice p4' c.tests.length q4', .slice p5' c.conds.length q5', .slice p6' c.thn.length q6', .slice p7' c.alts.length q7', .int .i64 c.e.op, .string c.e.t, .int .i64 c.e.v.k, .bool c.e.v.b, .int .i64 c.e.v.i, .string c.e.v.s, .slice p14' c.e.v.l.length q14', .slice p15' c.e.a.length q15', .string c.fn, .string c.name, .slice p18' c.args.length q18'] 96)).heap.size ((w.alloc (.cells #[.int .i64 c.k, .string c.v, .string c.c, .slice p3 c.binds.length q3, .slice p4 c.tests.length q4, .slice p5 c.conds.length q5, .slice p6 c.thn.length q6, .slice p7 c.alts.length q7, .int .i64 c.e.op, .string c.e.t, .int .i64 c.e.v.k, .bool c.e.v.b, .int .i64 c.e.v.i, .string c.e.v.s, .slice p14 c.e.v.l.length q14, .slice p15 c.e.a.length q15, .string c.fn, .string c.name, .slice p18 c.args.length q18] 96)).alloc (.cells #[.int .i64 c.k, .string c.v, .string c.c, .slice p3' c.binds.length q3', .slice p4' c.tests.length q4', .slice p5' c.conds.length q5', .slice p6' c.thn.length q6', .slice p7' c.alts.length q7', .int .i64 c.e.op, .string c.e.t, .int .i64 c.e.v.k, .bool c.e.v.b, .int .i64 c.e.v.i, .string c.e.v.s, .slice p14' c.e.v.l.length q14', .slice p15' c.e.a.length q15', .string c.fn, .string c.name, .slice p18' c.args.length q18'] 96)))
  have a0 : ((w.alloc (.cells #[.int .i64 c.k, .string c.v, .string c.c, .slice p3 c.binds.length q3, .slice p4 c.tests.length q4, .slice p5 c.conds.length q5, .slice p6 c.thn.length q6, .slice p7 c.alts.length q7, .int .i64 c.e.op, .string c.e.t, .int .i64 c.e.v.k, .bool c.e.v.b, .int .i64 c.e.v.i, .string c.e.v.s, .slice p14 c.e.v.l.length q14, .slice p15 c.e.a.length q15, .string c.fn, .string c.name, .slice p18 c.args.length q18] 96)).alloc (.cells #[.int .i64 c.k, .string c.v, .string c.c, .slice p3' c.binds.length q3', .slice p4' c.tests.length q4', .slice p5' c.conds.length q5', .slice p6' c.thn.length q6', .slice p7' c.alts.length q7', .int .i64 c.e.op, .string c.e.t, .int .i64 c.e.v.k, .bool c.e.v.b, .int .i64 c.e.v.i, .string c.e.v.s, .slice p14' c.e.v.l.length q14', .slice p15' c.e.a.length q15', .string c.fn, .string c.name, .slice p18' c.args.length q18'] 96)).cell? ⟨w.heap.size, 0, none⟩ = some (Value.int .i64 c.k) := FA _ BB0.out 0
  have b0 : ((w.alloc (.cells #[.int .i64 c.k, .string c.v, .string c.c, .slice p3 c.binds.length q3, .slice p4 c.tests.length q4, .slice p5 c.conds.length q5, .slice p6 c.thn.length q6, .slice p7 c.alts.length q7, .int .i64 c.e.op, .string c.e.t, .int .i64 c.e.v.k, .bool c.e.v.b, .int .i64 c.e.v.i, .string c.e.v.s, .slice p14 c.e.v.l.length q14, .slice p15 c.e.a.length q15, .string c.fn, .string c.name, .slice p18 c.args.length q18] 96)).alloc (.cells #[.int .i64 c.k, .string c.v, .string c.c, .slice p3' c.binds.length q3', .slice p4' c.tests.length q4', .slice p5' c.conds.length q5', .slice p6' c.thn.length q6', .slice p7' c.alts.length q7', .int .i64 c.e.op, .string c.e.t, .int .i64 c.e.v.k, .bool c.e.v.b, .int .i64 c.e.v.i, .string c.e.v.s, .slice p14' c.e.v.l.length q14', .slice p15' c.e.a.length q15', .string c.fn, .string c.name, .slice p18' c.args.length q18'] 96)).cell? ⟨w.heap.size + 1, 0, none⟩ = some (Value.int .i64 c.k) := FB _ BB0.out 0
  have a1 : ((w.alloc (.cells #[.int .i64 c.k, .string c.v, .string c.c, .slice p3 c.binds.length q3, .slice p4 c.tests.length q4, .slice p5 c.conds.length q5, .slice p6 c.thn.length q6, .slice p7 c.alts.length q7, .int .i64 c.e.op, .string c.e.t, .int .i64 c.e.v.k, .bool c.e.v.b, .int .i64 c.e.v.i, .string c.e.v.s, .slice p14 c.e.v.l.length q14, .slice p15 c.e.a.length q15, .string c.fn, .string c.name, .slice p18 c.args.length q18] 96)).alloc (.cells #[.int .i64 c.k, .string c.v, .string c.c, .slice p3' c.binds.length q3', .slice p4' c.tests.length q4', .slice p5' c.conds.length q5', .slice p6' c.thn.length q6', .slice p7' c.alts.length q7', .int .i64 c.e.op, .string c.e.t, .int .i64 c.e.v.k, .bool c.e.v.b, .int .i64 c.e.v.i, .string c.e.v.s, .slice p14' c.e.v.l.length q14', .slice p15' c.e.a.length q15', .string c.fn, .string c.name, .slice p18' c.args.length q18'] 96)).cell? ⟨w.heap.size, 1, none⟩ = some (Value.string c.v) := FA _ BB0.out 1
  have b1 : ((w.alloc (.cells #[.int .i64 c.k, .string c.v, .string c.c, .slice p3 c.binds.length q3, .slice p4 c.tests.length q4, .slice p5 c.conds.length q5, .slice p6 c.thn.length q6, .slice p7 c.alts.length q7, .int .i64 c.e.op, .string c.e.t, .int .i64 c.e.v.k, .bool c.e.v.b, .int .i64 c.e.v.i, .string c.e.v.s, .slice p14 c.e.v.l.length q14, .slice p15 c.e.a.length q15, .string c.fn, .string c.name, .slice p18 c.args.length q18] 96)).alloc (.cells #[.int .i64 c.k, .string c.v, .string c.c, .slice p3' c.binds.length q3', .slice p4' c.tests.length q4', .slice p5' c.conds.length q5', .slice p6' c.thn.length q6', .slice p7' c.alts.length q7', .int .i64 c.e.op, .string c.e.t, .int .i64 c.e.v.k, .bool c.e.v.b, .int .i64 c.e.v.i, .string c.e.v.s, .slice p14' c.e.v.l.length q14', .slice p15' c.e.a.length q15', .string c.fn, .string c.name, .slice p18' c.args.length q18'] 96)).cell? ⟨w.heap.size + 1, 1, none⟩ = some (Value.string c.v) := FB _ BB0.out 1
  have a2 : ((w.alloc (.cells #[.int .i64 c.k, .string c.v, .string c.c, .slice p3 c.binds.length q3, .slice p4 c.tests.length q4, .slice p5 c.conds.length q5, .slice p6 c.thn.length q6, .slice p7 c.alts.length q7, .int .i64 c.e.op, .string c.e.t, .int .i64 c.e.v.k, .bool c.e.v.b, .int .i64 c.e.v.i, .string c.e.v.s, .slice p14 c.e.v.l.length q14, .slice p15 c.e.a.length q15, .string c.fn, .string c.name, .slice p18 c.args.length q18] 96)).alloc (.cells #[.int .i64 c.k, .string c.v, .string c.c, .slice p3' c.binds.length q3', .slice p4' c.tests.length q4', .slice p5' c.conds.length q5', .slice p6' c.thn.length q6', .slice p7' c.alts.length q7', .int .i64 c.e.op, .string c.e.t, .int .i64 c.e.v.k, .bool c.e.v.b, .int .i64 c.e.v.i, .string c.e.v.s, .slice p14' c.e.v.l.length q14', .slice p15' c.e.a.length q15', .string c.fn, .string c.name, .slice p18' c.args.length q18'] 96)).cell? ⟨w.heap.size, 2, none⟩ = some (Value.string c.c) := FA _ BB0.out 2
  have b2 : ((w.alloc (.cells #[.int .i64 c.k, .string c.v, .string c.c, .slice p3 c.binds.length q3, .slice p4 c.tests.length q4, .slice p5 c.conds.length q5, .slice p6 c.thn.length q6, .slice p7 c.alts.length q7, .int .i64 c.e.op, .string c.e.t, .int .i64 c.e.v.k, .bool c.e.v.b, .int .i64 c.e.v.i, .string c.e.v.s, .slice p14 c.e.v.l.length q14, .slice p15 c.e.a.length q15, .string c.fn, .string c.name, .slice p18 c.args.length q18] 96)).alloc (.cells #[.int .i64 c.k, .string c.v, .string c.c, .slice p3' c.binds.length q3', .slice p4' c.tests.length q4', .slice p5' c.conds.length q5', .slice p6' c.thn.length q6', .slice p7' c.alts.length q7', .int .i64 c.e.op, .string c.e.t, .int .i64 c.e.v.k, .bool c.e.v.b, .int .i64 c.e.v.i, .string c.e.v.s, .slice p14' c.e.v.l.length q14', .slice p15' c.e.a.length q15', .string c.fn, .string c.name, .slice p18' c.args.length q18'] 96)).cell? ⟨w.heap.size + 1, 2, none⟩ = some (Value.string c.c) := FB _ BB0.out 2
  have a3 : ((w.alloc (.cells #[.int .i64 c.k, .string c.v, .string c.c, .slice p3 c.binds.length q3, .slice p4 c.tests.length q4, .slice p5 c.conds.length q5, .slice p6 c.thn.length q6, .slice p7 c.alts.length q7, .int .i64 c.e.op, .string c.e.t, .int .i64 c.e.v.k, .bool c.e.v.b, .int .i64 c.e.v.i, .string c.e.v.s, .slice p14 c.e.v.l.length q14, .slice p15 c.e.a.length q15, .string c.fn, .string c.name, .slice p18 c.args.length q18] 96)).alloc (.cells #[.int .i64 c.k, .string c.v, .string c.c, .slice p3' c.binds.length q3', .slice p4' c.tests.length q4', .slice p5' c.conds.length q5', .slice p6' c.thn.length q6', .slice p7' c.alts.length q7', .int .i64 c.e.op, .string c.e.t, .int .i64 c.e.v.k, .bool c.e.v.b, .int .i64 c.e.v.i, .string c.e.v.s, .slice p14' c.e.v.l.length q14', .slice p15' c.e.a.length q15', .string c.fn, .string c.name, .slice p18' c.args.length q18'] 96)).cell? ⟨w.heap.size, 3, none⟩ = some (Value.slice p3 c.binds.length q3) := FA _ BB0.out 3
  have b3 : ((w.alloc (.cells #[.int .i64 c.k, .string c.v, .string c.c, .slice p3 c.binds.length q3, .slice p4 c.tests.length q4, .slice p5 c.conds.length q5, .slice p6 c.thn.length q6, .slice p7 c.alts.length q7, .int .i64 c.e.op, .string c.e.t, .int .i64 c.e.v.k, .bool c.e.v.b, .int .i64 c.e.v.i, .string c.e.v.s, .slice p14 c.e.v.l.length q14, .slice p15 c.e.a.length q15, .string c.fn, .string c.name, .slice p18 c.args.length q18] 96)).alloc (.cells #[.int .i64 c.k, .string c.v, .string c.c, .slice p3' c.binds.length q3', .slice p4' c.tests.length q4', .slice p5' c.conds.length q5', .slice p6' c.thn.length q6', .slice p7' c.alts.length q7', .int .i64 c.e.op, .string c.e.t, .int .i64 c.e.v.k, .bool c.e.v.b, .int .i64 c.e.v.i, .string c.e.v.s, .slice p14' c.e.v.l.length q14', .slice p15' c.e.a.length q15', .string c.fn, .string c.name, .slice p18' c.args.length q18'] 96)).cell? ⟨w.heap.size + 1, 3, none⟩ = some (Value.slice p3' c.binds.length q3') := FB _ BB0.out 3
  have a16 : ((w.alloc (.cells #[.int .i64 c.k, .string c.v, .string c.c, .slice p3 c.binds.length q3, .slice p4 c.tests.length q4, .slice p5 c.conds.length q5, .slice p6 c.thn.length q6, .slice p7 c.alts.length q7, .int .i64 c.e.op, .string c.e.t, .int .i64 c.e.v.k, .bool c.e.v.b, .int .i64 c.e.v.i, .string c.e.v.s, .slice p14 c.e.v.l.length q14, .slice p15 c.e.a.length q15, .string c.fn, .string c.name, .slice p18 c.args.length q18] 96)).alloc (.cells #[.int .i64 c.k, .string c.v, .string c.c, .slice p3' c.binds.length q3', .slice p4' c.tests.length q4', .slice p5' c.conds.length q5', .slice p6' c.thn.length q6', .slice p7' c.alts.length q7', .int .i64 c.e.op, .string c.e.t, .int .i64 c.e.v.k, .bool c.e.v.b, .int .i64 c.e.v.i, .string c.e.v.s, .slice p14' c.e.v.l.length q14', .slice p15' c.e.a.length q15', .string c.fn, .string c.name, .slice p18' c.args.length q18'] 96)).cell? ⟨w.heap.size, 16, none⟩ = some (Value.string c.fn) := FA _ BB0.out 16
  have b16 : ((w.alloc (.cells #[.int .i64 c.k, .string c.v, .string c.c, .slice p3 c.binds.length q3, .slice p4 c.tests.length q4, .slice p5 c.conds.length q5, .slice p6 c.thn.length q6, .slice p7 c.alts.length q7, .int .i64 c.e.op, .string c.e.t, .int .i64 c.e.v.k, .bool c.e.v.b, .int .i64 c.e.v.i, .string c.e.v.s, .slice p14 c.e.v.l.length q14, .slice p15 c.e.a.length q15, .string c.fn, .string c.name, .slice p18 c.args.length q18] 96)).alloc (.cells #[.int .i64 c.k, .string c.v, .string c.c, .slice p3' c.binds.length q3', .slice p4' c.tests.length q4', .slice p5' c.conds.length q5', .slice p6' c.thn.length q6', .slice p7' c.alts.length q7', .int .i64 c.e.op, .string c.e.t, .int .i64 c.e.v.k, .bool c.e.v.b, .int .i64 c.e.v.i, .string c.e.v.s, .slice p14' c.e.v.l.length q14', .slice p15' c.e.a.length q15', .string c.fn, .string c.name, .slice p18' c.args.length q18'] 96)).cell? ⟨w.heap.size + 1, 16, none⟩ = some (Value.string c.fn) := FB _ BB0.out 16
  have a17 : ((w.alloc (.cells #[.int .i64 c.k, .string c.v, .string c.c, .slice p3 c.binds.length q3, .slice p4 c.tests.length q4, .slice p5 c.conds.length q5, .slice p6 c.thn.length q6, .slice p7 c.alts.length q7, .int .i64 c.e.op, .string c.e.t, .int .i64 c.e.v.k, .bool c.e.v.b, .int .i64 c.e.v.i, .string c.e.v.s, .slice p14 c.e.v.l.length q14, .slice p15 c.e.a.length q15, .string c.fn, .string c.name, .slice p18 c.args.length q18] 96)).alloc (.cells #[.int .i64 c.k, .string c.v, .string c.c, .slice p3' c.binds.length q3', .slice p4' c.tests.length q4', .slice p5' c.conds.length q5', .slice p6' c.thn.length q6', .slice p7' c.alts.length q7', .int .i64 c.e.op, .string c.e.t, .int .i64 c.e.v.k, .bool c.e.v.b, .int .i64 c.e.v.i, .string c.e.v.s, .slice p14' c.e.v.l.length q14', .slice p15' c.e.a.length q15', .string c.fn, .string c.name, .slice p18' c.args.length q18'] 96)).cell? ⟨w.heap.size, 17, none⟩ = some (Value.string c.name) := FA _ BB0.out 17
  have b17 : ((w.alloc (.cells #[.int .i64 c.k, .string c.v, .string c.c, .slice p3 c.binds.length q3, .slice p4 c.tests.length q4, .slice p5 c.conds.length q5, .slice p6 c.thn.length q6, .slice p7 c.alts.length q7, .int .i64 c.e.op, .string c.e.t, .int .i64 c.e.v.k, .bool c.e.v.b, .int .i64 c.e.v.i, .string c.e.v.s, .slice p14 c.e.v.l.length q14, .slice p15 c.e.a.length q15, .string c.fn, .string c.name, .slice p18 c.args.length q18] 96)).alloc (.cells #[.int .i64 c.k, .string c.v, .string c.c, .slice p3' c.binds.length q3', .slice p4' c.tests.length q4', .slice p5' c.conds.length q5', .slice p6' c.thn.length q6', .slice p7' c.alts.length q7', .int .i64 c.e.op, .string c.e.t, .int .i64 c.e.v.k, .bool c.e.v.b, .int .i64 c.e.v.i, .string c.e.v.s, .slice p14' c.e.v.l.length q14', .slice p15' c.e.a.length q15', .string c.fn, .string c.name, .slice p18' c.args.length q18'] 96)).cell? ⟨w.heap.size + 1, 17, none⟩ = some (Value.string c.name) := FB _ BB0.out 17
  have a18 : ((w.alloc (.cells #[.int .i64 c.k, .string c.v, .string c.c, .slice p3 c.binds.length q3, .slice p4 c.tests.length q4, .slice p5 c.conds.length q5, .slice p6 c.thn.length q6, .slice p7 c.alts.length q7, .int .i64 c.e.op, .string c.e.t, .int .i64 c.e.v.k, .bool c.e.v.b, .int .i64 c.e.v.i, .string c.e.v.s, .slice p14 c.e.v.l.length q14, .slice p15 c.e.a.length q15, .string c.fn, .string c.name, .slice p18 c.args.length q18] 96)).alloc (.cells #[.int .i64 c.k, .string c.v, .string c.c, .slice p3' c.binds.length q3', .slice p4' c.tests.length q4', .slice p5' c.conds.length q5', .slice p6' c.thn.length q6', .slice p7' c.alts.length q7', .int .i64 c.e.op, .string c.e.t, .int .i64 c.e.v.k, .bool c.e.v.b, .int .i64 c.e.v.i, .string c.e.v.s, .slice p14' c.e.v.l.length q14', .slice p15' c.e.a.length q15', .string c.fn, .string c.name, .slice p18' c.args.length q18'] 96)).cell? ⟨w.heap.size, 18, none⟩ = some (Value.slice p18 c.args.length q18) := FA _ BB0.out 18
  have b18 : ((w.alloc (.cells #[.int .i64 c.k, .string c.v, .string c.c, .slice p3 c.binds.length q3, .slice p4 c.tests.length q4, .slice p5 c.conds.length q5, .slice p6 c.thn.length q6, .slice p7 c.alts.length q7, .int .i64 c.e.op, .string c.e.t, .int .i64 c.e.v.k, .bool c.e.v.b, .int .i64 c.e.v.i, .string c.e.v.s, .slice p14 c.e.v.l.length q14, .slice p15 c.e.a.length q15, .string c.fn, .string c.name, .slice p18 c.args.length q18] 96)).alloc (.cells #[.int .i64 c.k, .string c.v, .string c.c, .slice p3' c.binds.length q3', .slice p4' c.tests.length q4', .slice p5' c.conds.length q5', .slice p6' c.thn.length q6', .slice p7' c.alts.length q7', .int .i64 c.e.op, .string c.e.t, .int .i64 c.e.v.k, .bool c.e.v.b, .int .i64 c.e.v.i, .string c.e.v.s, .slice p14' c.e.v.l.length q14', .slice p15' c.e.a.length q15', .string c.fn, .string c.name, .slice p18' c.args.length q18'] 96)).cell? ⟨w.heap.size + 1, 18, none⟩ = some (Value.slice p18' c.args.length q18') := FB _ BB0.out 18
  go_wp2_with fail
  clear a0 b0 a1 b1 a2 b2 a3 b3 a16 b16 a17 b17 a18 b18
  go_loopw [5] (fun i wr => Hid (Below ((w.alloc (.cells #[.int .i64 c.k, .string c.v, .string c.c, .slice p3 c.binds.length q3, .slice p4 c.tests.length q4, .slice p5 c.conds.length q5, .slice p6 c.thn.length q6, .slice p7 c.alts.length q7, .int .i64 c.e.op, .string c.e.t, .int .i64 c.e.v.k, .bool c.e.v.b, .int .i64 c.e.v.i, .string c.e.v.s, .slice p14 c.e.v.l.length q14, .slice p15 c.e.a.length q15, .string c.fn, .string c.name, .slice p18 c.args.length q18] 96)).alloc (.cells #[.int .i64 c.k, .string c.v, .string c.c, .slice p3' c.binds.length q3', .slice p4' c.tests.length q4', .slice p5' c.conds.length q5', .slice p6' c.thn.length q6', .slice p7' c.alts.length q7', .int .i64 c.e.op, .string c.e.t, .int .i64 c.e.v.k, .bool c.e.v.b, .int .i64 c.e.v.i, .string c.e.v.s, .slice p14' c.e.v.l.length q14', .slice p15' c.e.a.length q15', .string c.fn, .string c.name, .slice p18' c.args.length q18'] 96)).heap.size ((w.alloc (.cells #[.int .i64 c.k, .string c.v, .string c.c, .slice p3 c.binds.length q3, .slice p4 c.tests.length q4, .slice p5 c.conds.length q5, .slice p6 c.thn.length q6, .slice p7 c.alts.length q7, .int .i64 c.e.op, .string c.e.t, .int .i64 c.e.v.k, .bool c.e.v.b, .int .i64 c.e.v.i, .string c.e.v.s, .slice p14 c.e.v.l.length q14, .slice p15 c.e.a.length q15, .string c.fn, .string c.name, .slice p18 c.args.length q18] 96)).alloc (.cells #[.int .i64 c.k, .string c.v, .string c.c, .slice p3' c.binds.length q3', .slice p4' c.tests.length q4', .slice p5' c.conds.length q5', .slice p6' c.thn.length q6', .slice p7' c.alts.length q7', .int .i64 c.e.op, .string c.e.t, .int .i64 c.e.v.k, .bool c.e.v.b, .int .i64 c.e.v.i, .string c.e.v.s, .slice p14' c.e.v.l.length q14', .slice p15' c.e.a.length q15', .string c.fn, .string c.name, .slice p18' c.args.length q18'] 96)) wr) ∧ ∃ k : Nat, k ≤ c.binds.length ∧ i = .int .i64 (k : Int)) (fun i _ => c.binds.length - (intOf i).toNat)
  case atStart => exact ⟨BB0, 0, by omega, rfl⟩
  case round =>
   obtain ⟨HW, k, hk, rfl⟩ := hrel
   have a3 : wr.cell? ⟨w.heap.size, 3, none⟩ = some (Value.slice p3 c.binds.length q3) := FA _ HW.out 3
   have b3 : wr.cell? ⟨w.heap.size + 1, 3, none⟩ = some (Value.slice p3' c.binds.length q3') := FB _ HW.out 3
   by_cases hlt : (k : Int) < (c.binds.length : Int)
   ·have hlt' : k < c.binds.length := by omega
    obtain ⟨ab, ao, us, rfl, -, -, r1, r2⟩ := sl_elem Bi.cs 2 (fun _ => rfl) (HB3.out.via (b0.trans (HW.out.mono b0.size))) hlt'
    obtain ⟨bb, bo, us', rfl, -, -, s1, s2⟩ := sl_elem Bi.cs 2 (fun _ => rfl) (HB3'.out.via (b0.trans (HW.out.mono b0.size))) hlt'
    unfold Bi.cs at r1 s1
    obtain ⟨v0, _, rfl, z0, r1⟩ := r1.uncons
    obtain ⟨v1, _, rfl, z1, r1⟩ := r1.uncons
    obtain ⟨v0', _, rfl, t0, s1⟩ := s1.uncons
    obtain ⟨v1', _, rfl, t1, s1⟩ := s1.uncons
    obtain ⟨rfl, -⟩ := rep.lit_iff.1 z0
    obtain ⟨rfl, -⟩ := rep.lit_iff.1 z1
    obtain ⟨rfl, -⟩ := rep.lit_iff.1 t0
    obtain ⟨rfl, -⟩ := rep.lit_iff.1 t1
    have x0 := r2 0 _ rfl
    have x1 := r2 1 _ rfl
    have y0 := s2 0 _ rfl
    have y1 := s2 1 _ rfl
    rw [Nat.add_zero] at x0 y0
    clear r1 r2 s1 s2 z0 z1 t0 t1
    go_wp2
    go_quiet (fail)
    go_wp2
    go_roundw
    case rel => exact ⟨Hid.intro (below_drewN HW.out _), k + 1, by omega, by go_num⟩
    case measure => simp [intOf]; omega
   ·have hke : k = c.binds.length := by omega
    clear hke
    go_wp2_with fail
    clear a3 b3
    go_loopw [6] (fun i wq => Hid (Below ((w.alloc (.cells #[.int .i64 c.k, .string c.v, .string c.c, .slice p3 c.binds.length q3, .slice p4 c.tests.length q4, .slice p5 c.conds.length q5, .slice p6 c.thn.length q6, .slice p7 c.alts.length q7, .int .i64 c.e.op, .string c.e.t, .int .i64 c.e.v.k, .bool c.e.v.b, .int .i64 c.e.v.i, .string c.e.v.s, .slice p14 c.e.v.l.length q14, .slice p15 c.e.a.length q15, .string c.fn, .string c.name, .slice p18 c.args.length q18] 96)).alloc (.cells #[.int .i64 c.k, .string c.v, .string c.c, .slice p3' c.binds.length q3', .slice p4' c.tests.length q4', .slice p5' c.conds.length q5', .slice p6' c.thn.length q6', .slice p7' c.alts.length q7', .int .i64 c.e.op, .string c.e.t, .int .i64 c.e.v.k, .bool c.e.v.b, .int .i64 c.e.v.i, .string c.e.v.s, .slice p14' c.e.v.l.length q14', .slice p15' c.e.a.length q15', .string c.fn, .string c.name, .slice p18' c.args.length q18'] 96)).heap.size ((w.alloc (.cells #[.int .i64 c.k, .string c.v, .string c.c, .slice p3 c.binds.length q3, .slice p4 c.tests.length q4, .slice p5 c.conds.length q5, .slice p6 c.thn.length q6, .slice p7 c.alts.length q7, .int .i64 c.e.op, .string c.e.t, .int .i64 c.e.v.k, .bool c.e.v.b, .int .i64 c.e.v.i, .string c.e.v.s, .slice p14 c.e.v.l.length q14, .slice p15 c.e.a.length q15, .string c.fn, .string c.name, .slice p18 c.args.length q18] 96)).alloc (.cells #[.int .i64 c.k, .string c.v, .string c.c, .slice p3' c.binds.length q3', .slice p4' c.tests.length q4', .slice p5' c.conds.length q5', .slice p6' c.thn.length q6', .slice p7' c.alts.length q7', .int .i64 c.e.op, .string c.e.t, .int .i64 c.e.v.k, .bool c.e.v.b, .int .i64 c.e.v.i, .string c.e.v.s, .slice p14' c.e.v.l.length q14', .slice p15' c.e.a.length q15', .string c.fn, .string c.name, .slice p18' c.args.length q18'] 96)) wq) ∧ ∃ k : Nat, k ≤ c.args.length ∧ i = .int .i64 (k : Int)) (fun i _ => c.args.length - (intOf i).toNat)
    case atStart => exact ⟨HW, 0, by omega, rfl⟩
    case round =>
     clear HW
     obtain ⟨HW, k, hk', rfl⟩ := hrel
     have a18 : wr.cell? ⟨w.heap.size, 18, none⟩ = some (Value.slice p18 c.args.length q18) := FA _ HW.out 18
     have b18 : wr.cell? ⟨w.heap.size + 1, 18, none⟩ = some (Value.slice p18' c.args.length q18') := FB _ HW.out 18
     by_cases hlt : (k : Int) < (c.args.length : Int)
     ·have hlt' : k < c.args.length := by omega
      obtain ⟨ab, ao, us, rfl, hab, -, r1, r2⟩ := sl_elem Ar.cs 9 Ar.cs_len (HB18.out.via (b0.trans (HW.out.mono b0.size))) hlt'
      obtain ⟨bb, bo, us', rfl, hbb, -, s1, s2⟩ := sl_elem Ar.cs 9 Ar.cs_len (HB18'.out.via (b0.trans (HW.out.mono b0.size))) hlt'
      unfold Ar.cs at r1 s1
      obtain ⟨v0, _, rfl, z0, r5⟩ := r1.uncons
      obtain ⟨v0', _, rfl, t0, s5⟩ := s1.uncons
      obtain ⟨rfl, -⟩ := rep.lit_iff.1 z0
      obtain ⟨rfl, -⟩ := rep.lit_iff.1 t0
      obtain ⟨e6, f6, e7, f7, rfl, u6, u7⟩ := ex_cells r5
      obtain ⟨e6', f6', e7', f7', rfl, v6, v7⟩ := ex_cells s5
      have HQ := fun w' (h : Below wr.heap.size wr w') => Hid.intro (eqExpr_any (x := c.args[k].e) ⟨e6, _, f6, e7, _, f7, rfl, u6.via h, u7.via h⟩ ⟨e6', _, f6', e7', _, f7', rfl, v6.via h, v7.via h⟩)
      have x0 := r2 0 _ rfl
      have y0 := s2 0 _ rfl
      rw [Nat.add_zero] at x0 y0
      have CA := fun w' (h : Below wr.heap.size wr w') => (h.cell (p := ⟨w.heap.size, 18, none⟩) (by show w.heap.size < _; have := HW.out.size; rw [hz] at this; omega)).trans a18
      have CB := fun w' (h : Below wr.heap.size wr w') => (h.cell (p := ⟨w.heap.size + 1, 18, none⟩) (by show w.heap.size + 1 < _; have := HW.out.size; rw [hz] at this; omega)).trans b18
      have XA0 := fun w' (h : Below wr.heap.size wr w') => (h.cell (p := ⟨ab, ao + k * 9, none⟩) hab).trans x0
      have XB0 := fun w' (h : Below wr.heap.size wr w') => (h.cell (p := ⟨bb, bo + k * 9, none⟩) hbb).trans y0
      have XAE := fun (w' : World) (h : Below wr.heap.size wr w') => (fun j u hj => (h.cell (p := ⟨ab, ao + k * 9 + 1 + j, none⟩) hab).trans (by rw [Nat.add_assoc (ao + k * 9), Nat.add_comm 1 j]; exact r2 (j + 1) u hj) : w'.rangeAt ab (ao + k * 9 + 1) [.int .i64 c.args[k].e.op, .string c.args[k].e.t, .int .i64 c.args[k].e.v.k, .bool c.args[k].e.v.b, .int .i64 c.args[k].e.v.i, .string c.args[k].e.v.s, .slice e6 c.args[k].e.v.l.length f6, .slice e7 c.args[k].e.a.length f7])
      have XBE := fun (w' : World) (h : Below wr.heap.size wr w') => (fun j u hj => (h.cell (p := ⟨bb, bo + k * 9 + 1 + j, none⟩) hbb).trans (by rw [Nat.add_assoc (bo + k * 9), Nat.add_comm 1 j]; exact s2 (j + 1) u hj) : w'.rangeAt bb (bo + k * 9 + 1) [.int .i64 c.args[k].e.op, .string c.args[k].e.t, .int .i64 c.args[k].e.v.k, .bool c.args[k].e.v.b, .int .i64 c.args[k].e.v.i, .string c.args[k].e.v.s, .slice e6' c.args[k].e.v.l.length f6', .slice e7' c.args[k].e.a.length f7'])
      clear r1 s1 r5 s5 z0 t0 u6 u7 v6 v7 FA FB
      go_wp2_with fail
      refine wp_region_noPanic ?_
      refine wp_region_held_drew (S := fun w' => Below wr.heap.size wr w') hmo (Below.refl _ _).drew (fun hS => ?_)
      refine tq 0 83 (.pointer (some ⟨w.heap.size, 18, none⟩)) hS ?_
      simp only [n3]
      refine tp 1 84 (.slice (some ⟨ab, ao, none⟩) c.args.length q18) ⟨_, rfl, rfl, Or.inl ⟨by rfl, fun w hSw => by have hc := CA w hSw; go_simp⟩⟩ hS ?_
      simp only [n3]
      refine tq 2 85 (.int .i64 (k : Int)) hS ?_
      simp only [n3]
      refine tq 3 86 (.pointer (some ⟨ab, ao + k * 9, none⟩)) hS ?_
      simp only [n3]
      refine tq 4 87 (.pointer (some ⟨ab, ao + k * 9, none⟩)) hS ?_
      simp only [n3]
      refine tp 5 88 (.string c.args[k].v) ⟨_, rfl, rfl, Or.inl ⟨by rfl, fun w hSw => by have hc := XA0 w hSw; go_simp⟩⟩ hS ?_
      simp only [n3]
      refine tq 6 89 (.pointer (some ⟨w.heap.size + 1, 18, none⟩)) hS ?_
      simp only [n3]
      refine tp 7 90 (.slice (some ⟨bb, bo, none⟩) c.args.length q18') ⟨_, rfl, rfl, Or.inl ⟨by rfl, fun w hSw => by have hc := CB w hSw; go_simp⟩⟩ hS ?_
      simp only [n3]
      refine tq 8 91 (.int .i64 (k : Int)) hS ?_
      simp only [n3]
      refine tq 9 92 (.pointer (some ⟨bb, bo + k * 9, none⟩)) hS ?_
      simp only [n3]
      refine tq 10 93 (.pointer (some ⟨bb, bo + k * 9, none⟩)) hS ?_
      simp only [n3]
      refine tp 11 94 (.string c.args[k].v) ⟨_, rfl, rfl, Or.inl ⟨by rfl, fun w hSw => by have hc := XB0 w hSw; go_simp⟩⟩ hS ?_
      simp only [n3]
      refine tq 12 95 (.bool false) hS ?_
      simp only [n3]
      refine tq 13 96 (.bool false) hS ?_
      simp only [n3]
      refine tq 14 97 (.pointer (some ⟨w.heap.size, 18, none⟩)) hS ?_
      simp only [n3]
      refine tp 15 98 (.slice (some ⟨ab, ao, none⟩) c.args.length q18) ⟨_, rfl, rfl, Or.inl ⟨by rfl, fun w hSw => by have hc := CA w hSw; go_simp⟩⟩ hS ?_
      simp only [n3]
      refine tq 16 99 (.int .i64 (k : Int)) hS ?_
      simp only [n3]
      refine tq 17 100 (.pointer (some ⟨ab, ao + k * 9, none⟩)) hS ?_
      simp only [n3]
      refine tq 18 101 (.pointer (some ⟨ab, ao + k * 9 + 1, none⟩)) hS ?_
      simp only [n3]
      refine tp 19 102 (.agg #[.int .i64 c.args[k].e.op, .string c.args[k].e.t, .int .i64 c.args[k].e.v.k, .bool c.args[k].e.v.b, .int .i64 c.args[k].e.v.i, .string c.args[k].e.v.s, .slice e6 c.args[k].e.v.l.length f6, .slice e7 c.args[k].e.a.length f7]) ⟨_, rfl, rfl, yieldsIf_load_mid (by rfl) _ _ rfl ab (ao + k * 9 + 1) rfl [.int .i64 c.args[k].e.op, .string c.args[k].e.t, .int .i64 c.args[k].e.v.k, .bool c.args[k].e.v.b, .int .i64 c.args[k].e.v.i, .string c.args[k].e.v.s, .slice e6 c.args[k].e.v.l.length f6, .slice e7 c.args[k].e.a.length f7] _ (fun w' h => XAE w' h) Tryz.underlying39 rfl (by exact infoExpr)⟩ hS ?_
      simp only [n3]
      refine tq 20 103 (.pointer (some ⟨w.heap.size + 1, 18, none⟩)) hS ?_
      simp only [n3]
      refine tp 21 104 (.slice (some ⟨bb, bo, none⟩) c.args.length q18') ⟨_, rfl, rfl, Or.inl ⟨by rfl, fun w hSw => by have hc := CB w hSw; go_simp⟩⟩ hS ?_
      simp only [n3]
      refine tq 22 105 (.int .i64 (k : Int)) hS ?_
      simp only [n3]
      refine tq 23 106 (.pointer (some ⟨bb, bo + k * 9, none⟩)) hS ?_
      simp only [n3]
      refine tq 24 107 (.pointer (some ⟨bb, bo + k * 9 + 1, none⟩)) hS ?_
      simp only [n3]
      refine tp 25 108 (.agg #[.int .i64 c.args[k].e.op, .string c.args[k].e.t, .int .i64 c.args[k].e.v.k, .bool c.args[k].e.v.b, .int .i64 c.args[k].e.v.i, .string c.args[k].e.v.s, .slice e6' c.args[k].e.v.l.length f6', .slice e7' c.args[k].e.a.length f7']) ⟨_, rfl, rfl, yieldsIf_load_mid (by rfl) _ _ rfl bb (bo + k * 9 + 1) rfl [.int .i64 c.args[k].e.op, .string c.args[k].e.t, .int .i64 c.args[k].e.v.k, .bool c.args[k].e.v.b, .int .i64 c.args[k].e.v.i, .string c.args[k].e.v.s, .slice e6' c.args[k].e.v.l.length f6', .slice e7' c.args[k].e.a.length f7'] _ (fun w' h => XBE w' h) Tryz.underlying39 rfl (by exact infoExpr)⟩ hS ?_
      simp only [n3]
      generalize World.drew _ = w3 at hS ⊢
      refine on1 26 rfl (fun K' hK => ?_)
      go_simp
      refine (HQ _ hS).out.mono ?_
      rintro e w4 ⟨rfl, hb4⟩
      have D := hS.trans (hb4.mono hS.size)
      refine hK.out _ _ D (fun hS => ?_)
      clear hK K'
      (try simp only [Act.put, n3])
      refine tq 27 110 (.bool false) hS ?_
      simp only [n3]
      refine tq 28 111 (.bool false) hS ?_
      simp only [n3]
      refine wpAnyH_done (by kernel_rfl) ?_ _
      refine np_nrm ?_
      go_wp2
      go_roundw
      case rel => exact ⟨Hid.intro (HW.out.trans (D.mono HW.out.size)), k + 1, by omega, by go_num⟩
      case measure => simp [intOf]; omega
     ·have hke : k = c.args.length := by omega
      clear hke
      have a4 : wr.cell? ⟨w.heap.size, 4, none⟩ = some (Value.slice p4 c.tests.length q4) := FA _ HW.out 4
      have b4 : wr.cell? ⟨w.heap.size + 1, 4, none⟩ = some (Value.slice p4' c.tests.length q4') := FB _ HW.out 4
      go_wp2_with fail
      refine (HT _ (b0.trans (HW.out.mono b0.size))).out.mono ?_
      rintro e w4 ⟨rfl, hb4⟩
      have H4 := HW.out.trans (hb4.mono HW.out.size)
      clear a4 b4
      have a5 : w4.cell? ⟨w.heap.size, 5, none⟩ = some (Value.slice p5 c.conds.length q5) := FA _ H4 5
      have b5 : w4.cell? ⟨w.heap.size + 1, 5, none⟩ = some (Value.slice p5' c.conds.length q5') := FB _ H4 5
      go_wp2_with fail
      refine (HC _ (b0.trans (H4.mono b0.size))).out.mono ?_
      rintro e w5 ⟨rfl, hb5⟩
      have H5 := H4.trans (hb5.mono H4.size)
      clear a5 b5
      have a6 : w5.cell? ⟨w.heap.size, 6, none⟩ = some (Value.slice p6 c.thn.length q6) := FA _ H5 6
      have b6 : w5.cell? ⟨w.heap.size + 1, 6, none⟩ = some (Value.slice p6' c.thn.length q6') := FB _ H5 6
      go_wp2_with fail
      refine (HN _ (b0.trans (H5.mono b0.size))).out.mono ?_
      rintro e w6 ⟨rfl, hb6⟩
      have H6 := H5.trans (hb6.mono H5.size)
      clear a6 b6
      have a7 : w6.cell? ⟨w.heap.size, 7, none⟩ = some (Value.slice p7 c.alts.length q7) := FA _ H6 7
      have b7 : w6.cell? ⟨w.heap.size + 1, 7, none⟩ = some (Value.slice p7' c.alts.length q7') := FB _ H6 7
      go_wp2_with fail
      refine (HL _ (b0.trans (H6.mono b0.size))).out.mono ?_
      rintro e w7 ⟨rfl, hb7⟩
      have H7 := H6.trans (hb7.mono H6.size)
      clear a7 b7
      have a8 : w7.cell? ⟨w.heap.size, 8, none⟩ = some (Value.int .i64 c.e.op) := FA _ H7 8
      have b8 : w7.cell? ⟨w.heap.size + 1, 8, none⟩ = some (Value.int .i64 c.e.op) := FB _ H7 8
      have a9 : w7.cell? ⟨w.heap.size, 9, none⟩ = some (Value.string c.e.t) := FA _ H7 9
      have b9 : w7.cell? ⟨w.heap.size + 1, 9, none⟩ = some (Value.string c.e.t) := FB _ H7 9
      have a10 : w7.cell? ⟨w.heap.size, 10, none⟩ = some (Value.int .i64 c.e.v.k) := FA _ H7 10
      have b10 : w7.cell? ⟨w.heap.size + 1, 10, none⟩ = some (Value.int .i64 c.e.v.k) := FB _ H7 10
      have a11 : w7.cell? ⟨w.heap.size, 11, none⟩ = some (Value.bool c.e.v.b) := FA _ H7 11
      have b11 : w7.cell? ⟨w.heap.size + 1, 11, none⟩ = some (Value.bool c.e.v.b) := FB _ H7 11
      have a12 : w7.cell? ⟨w.heap.size, 12, none⟩ = some (Value.int .i64 c.e.v.i) := FA _ H7 12
      have b12 : w7.cell? ⟨w.heap.size + 1, 12, none⟩ = some (Value.int .i64 c.e.v.i) := FB _ H7 12
      have a13 : w7.cell? ⟨w.heap.size, 13, none⟩ = some (Value.string c.e.v.s) := FA _ H7 13
      have b13 : w7.cell? ⟨w.heap.size + 1, 13, none⟩ = some (Value.string c.e.v.s) := FB _ H7 13
      have a14 : w7.cell? ⟨w.heap.size, 14, none⟩ = some (Value.slice p14 c.e.v.l.length q14) := FA _ H7 14
      have b14 : w7.cell? ⟨w.heap.size + 1, 14, none⟩ = some (Value.slice p14' c.e.v.l.length q14') := FB _ H7 14
      have a15 : w7.cell? ⟨w.heap.size, 15, none⟩ = some (Value.slice p15 c.e.a.length q15) := FA _ H7 15
      have b15 : w7.cell? ⟨w.heap.size + 1, 15, none⟩ = some (Value.slice p15' c.e.a.length q15') := FB _ H7 15
      go_wp2_with fail
      refine (HX _ (b0.trans (H7.mono b0.size))).out.mono ?_
      rintro e w8 ⟨rfl, hb8⟩
      have H8 := H7.trans (hb8.mono H7.size)
      clear a8 b8 a9 b9 a10 b10 a11 b11 a12 b12 a13 b13 a14 b14 a15 b15
      go_wp2_with fail
      go_ret
      exact ⟨rfl, b0.trans (H8.mono b0.size)⟩
theorem eqCond_any {c : Cd} {P Q : Nat → Prop} {w : World} {va vb : Value} (ha : CdW P w c va) (hb : CdW Q w c vb) : Alike 47 va vb w := eqCond_n _ c (Nat.lt_succ_self _) P Q w va vb ha hb
theorem eqConds_any {l : List Cd} {P Q : Nat → Prop} {w : World} {sa sb : Value} (ha : rep P w (.sl l.length (Cd.css l)) sa) (hb : rep Q w (.sl l.length (Cd.css l)) sb) : Alike 22 sa sb w :=
 eqConds_of l (fun _ _ _ _ _ _ _ => eqCond_any) ha hb
end
end Go.Proofs.YtoeodjobggodcaaGreatDoor
/- What the laws' own equality tells of data that are the same: texts, fields. -/
namespace Go.Proofs.YtoeodjobggodcaaGreatDoor
section
open Go.RowKit
theorem below_dN {a w : World} (h : Below a.heap.size a w) (n : Nat) : Below a.heap.size a (w.drewN n) := ⟨h.os, h.tape, h.output, h.size, h.block⟩
def txC (x : ByteArray) : List Dt := [dS x]
theorem txC_len (x : ByteArray) : (txC x).length = 1 := rfl
theorem tx_eq (l : List ByteArray) : l.map dS = l.flatMap txC := by
 induction l with
 | nil => rfl
 | cons x l ih => rw [List.map_cons, List.flatMap_cons, ih]; rfl
theorem Fd.cs_len (x : Fd) : x.cs.length = 3 := rfl
set_option maxRecDepth 100000 in
set_option maxHeartbeats 4000000 in
theorem eqTexts_any {l : List ByteArray} {P Q : Nat → Prop} {w : World} {sa sb : Value} (ha : rep P w (.sl l.length (l.map dS)) sa) (hb : rep Q w (.sl l.length (l.map dS)) sb) : Alike 24 sa sb w := by
 have HA := Hid.intro ha
 have HB := Hid.intro hb
 rw [tx_eq] at HA HB
 obtain ⟨pa, ca, rfl, a1, a2⟩ := sl_form ha
 obtain ⟨pb, cb, rfl, b1, b2⟩ := sl_form hb
 clear ha hb
 have hm : l.length ≤ 9223372036854775807 := Nat.le_trans a1 (Nat.le_trans a2 (by decide))
 go_enter Tryz.func24, Tryz.ntmps24
 go_wp2_with fail
 go_loopw [5] (fun i wr => Hid (Below w.heap.size w wr) ∧ ∃ k : Nat, k ≤ l.length ∧ i = .int .i64 (k : Int)) (fun i _ => l.length - (intOf i).toNat)
 case atStart => exact ⟨Below.refl _ _, 0, by omega, rfl⟩
 case round =>
  obtain ⟨HW, k, hk, rfl⟩ := hrel
  by_cases hlt : (k : Int) < (l.length : Int)
  ·have hlt' : k < l.length := by omega
   obtain ⟨ab, ao, us, rfl, -, -, r1, r2⟩ := sl_elem txC 1 txC_len (HA.out.via HW.out) hlt'
   obtain ⟨bb, bo, us', rfl, -, -, s1, s2⟩ := sl_elem txC 1 txC_len (HB.out.via HW.out) hlt'
   unfold txC at r1 s1
   obtain ⟨v0, _, rfl, z0, g0⟩ := r1.uncons
   obtain ⟨v0', _, rfl, t0, j0⟩ := s1.uncons
   obtain ⟨rfl, -⟩ := rep.lit_iff.1 z0
   obtain ⟨rfl, -⟩ := rep.lit_iff.1 t0
   have x0 := r2 0 _ rfl
   have y0 := s2 0 _ rfl
   rw [Nat.mul_one, Nat.add_zero] at x0 y0
   clear r1 r2 s1 s2 z0 t0 g0 j0
   go_wp2
   go_quiet (fail)
   go_wp2
   go_roundw
   case rel => exact ⟨Hid.intro (below_dN HW.out _), k + 1, by omega, by go_num⟩
   case measure => simp [intOf]; omega
  ·go_wp2
   go_ret
   exact ⟨rfl, HW.out⟩
set_option maxRecDepth 100000 in
set_option maxHeartbeats 4000000 in
theorem eqFields_any {l : List Fd} {P Q : Nat → Prop} {w : World} {sa sb : Value} (ha : rep P w (.sl l.length (l.flatMap Fd.cs)) sa) (hb : rep Q w (.sl l.length (l.flatMap Fd.cs)) sb) : Alike 21 sa sb w := by
 have HA := Hid.intro ha
 have HB := Hid.intro hb
 obtain ⟨pa, ca, rfl, a1, a2⟩ := sl_form ha
 obtain ⟨pb, cb, rfl, b1, b2⟩ := sl_form hb
 clear ha hb
 have hm : l.length ≤ 9223372036854775807 := Nat.le_trans a1 (Nat.le_trans a2 (by decide))
 go_enter Tryz.func21, Tryz.ntmps21
 go_wp2_with fail
 go_loopw [5] (fun i wr => Hid (Below w.heap.size w wr) ∧ ∃ k : Nat, k ≤ l.length ∧ i = .int .i64 (k : Int)) (fun i _ => l.length - (intOf i).toNat)
 case atStart => exact ⟨Below.refl _ _, 0, by omega, rfl⟩
 case round =>
  obtain ⟨HW, k, hk, rfl⟩ := hrel
  by_cases hlt : (k : Int) < (l.length : Int)
  ·have hlt' : k < l.length := by omega
   obtain ⟨ab, ao, us, rfl, -, -, r1, r2⟩ := sl_elem Fd.cs 3 Fd.cs_len (HA.out.via HW.out) hlt'
   obtain ⟨bb, bo, us', rfl, -, -, s1, s2⟩ := sl_elem Fd.cs 3 Fd.cs_len (HB.out.via HW.out) hlt'
   unfold Fd.cs at r1 s1
   obtain ⟨v0, _, rfl, z0, g0⟩ := r1.uncons
   obtain ⟨v0', _, rfl, t0, j0⟩ := s1.uncons
   obtain ⟨rfl, -⟩ := rep.lit_iff.1 z0
   obtain ⟨rfl, -⟩ := rep.lit_iff.1 t0
   obtain ⟨v1, _, rfl, z1, g1⟩ := g0.uncons
   obtain ⟨v1', _, rfl, t1, j1⟩ := j0.uncons
   obtain ⟨rfl, -⟩ := rep.lit_iff.1 z1
   obtain ⟨rfl, -⟩ := rep.lit_iff.1 t1
   obtain ⟨v2, _, rfl, z2, g2⟩ := g1.uncons
   obtain ⟨v2', _, rfl, t2, j2⟩ := j1.uncons
   obtain ⟨rfl, -⟩ := rep.lit_iff.1 z2
   obtain ⟨rfl, -⟩ := rep.lit_iff.1 t2
   have x0 := r2 0 _ rfl
   have y0 := s2 0 _ rfl
   have x1 := r2 1 _ rfl
   have y1 := s2 1 _ rfl
   have x2 := r2 2 _ rfl
   have y2 := s2 2 _ rfl
   rw [Nat.add_zero] at x0 y0
   clear r1 r2 s1 s2 z0 t0 g0 j0 z1 t1 g1 j1 z2 t2 g2 j2
   go_wp2
   go_quiet (fail)
   go_wp2
   go_roundw
   case rel => exact ⟨Hid.intro (below_dN HW.out _), k + 1, by omega, by go_num⟩
   case measure => simp [intOf]; omega
  ·go_wp2
   go_ret
   exact ⟨rfl, HW.out⟩
end
end Go.Proofs.YtoeodjobggodcaaGreatDoor
