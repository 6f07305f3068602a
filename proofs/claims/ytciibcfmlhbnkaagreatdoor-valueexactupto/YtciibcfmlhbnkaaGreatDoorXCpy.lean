/- proctorref0.CopyVals, CopyValue: the same values, in memory of their own. -/
import Derived.Test.YtciibcfmlhbnkaaGreatDoorXOwn
import Derived.Test.YtciibcfmlhbnkaaGreatDoorOrdSame
namespace Go.Proofs.YtciibcfmlhbnkaaGreatDoor
open Go.RowKit

/-- No list in it is too long. -/
def sm : Nat → Tr → Prop
  | 0, _ => True
  | n + 1, t => t.l.length ≤ 1000000000 ∧ ∀ c ∈ t.l, sm n c
def CVal (n : Nat) : Prop := ∀ (t : Tr) (sv : Value) (w : World), Vs w n t sv → sm n t → Calls Tryz.prog 10 #[vv t sv] w fun e w' => Below w.heap.size w w' ∧ ∃ s2, e = .returned (vv t s2) ∧ VsB (w.heap.size ≤ ·) w' n t s2
theorem grown_blX {B : Nat} {a w w' : World} {ow : Option Nat} (h : Below B a w) (hg : w.grownBy w' ow) (how : ∀ g, ow = some g → B ≤ g) (hB : B ≤ w.heap.size) : Below B a w' :=
  ⟨hg.os.trans h.os, hg.tape.trans h.tape, hg.output.trans h.output, Nat.le_trans h.size hg.size, fun k hk => (hg.block k (Nat.lt_of_lt_of_le hk hB) (fun e => by have := how k e.symm; omega)).trans (h.block k hk)⟩

set_option maxRecDepth 20000 in
set_option maxHeartbeats 4000000 in
theorem copyVals_any (n : Nat) (ih : CVal n) (ts : List Tr) (sv : Value) (w : World) (h : Lv w (Vs w n) ts sv) (hlen : ts.length ≤ 1000000000) (hsm : ∀ t ∈ ts, sm n t) :
    Calls Tryz.prog 20 #[sv] w fun e w' => Below w.heap.size w w' ∧ ∃ s2, e = .returned s2 ∧ LvB (w.heap.size ≤ ·) w' (VsB (w.heap.size ≤ ·) w' n) ts s2 := by
  obtain ⟨i5, z5, hi5, hz5, hz5c, hs5, hb5⟩ := zeroV
  have hI := Hid.intro (And.intro hi5 (And.intro hz5 (And.intro hz5c (And.intro hs5 hb5))))
  obtain ⟨a0, ca, rfl, la, ma, ea⟩ := h
  unfold maxLen at ma
  have HE := Hid.intro ea
  have HSM := Hid.intro hsm
  clear ea hsm hi5 hz5 hz5c hs5 hb5
  go_enter Tryz.func20, Tryz.ntmps20
  go_wp2_with fail
  go_loopw [3, 4] (fun u i wr => ∃ (k : Nat) (xs : List (Tr × Value)), i = .int .i64 (k : Int) ∧ k ≤ ts.length ∧ Hid (wr.ownsRow w.heap.size 28 5 u k (xs.flatMap cl5X)) ∧ Hid (xs.map Prod.fst = ts.take k) ∧ Hid (∀ x ∈ xs, VsB (fun b => w.heap.size ≤ b ∧ some b ≠ u.ownBlock) wr n x.1 x.2) ∧ Hid (Below w.heap.size w wr)) (fun _ i _ => ts.length - (intOf i).toNat)
  case atStart => exact ⟨0, [], rfl, Nat.zero_le _, Hid.intro (World.ownsRow_nil _ _ _ _), Hid.intro (by simp), Hid.intro (fun x hx => by simp at hx), Hid.intro (Below.refl _ _)⟩
  case round =>
    obtain ⟨k, xs, rfl, hk, hO, hm, hX, hb⟩ := hrel
    by_cases hlt : (k : Int) < (ts.length : Int)
    · have hlt' : k < ts.length := by omega
      obtain ⟨b1, o1, rfl, e1⟩ := HE.out (by omega)
      obtain ⟨s1, c1, v1⟩ := e1 k hlt'
      obtain ⟨x1, n1, rfl, -, -⟩ := v1.form
      obtain ⟨p1, p2, p3, p4, p5⟩ := c1.below hb.out
      have hlb : b1 < wr.heap.size := cell_lt p1
      have HC := Hid.intro (ih ts[k] _ wr (Vs.below hb.out _ _ _ v1) (HSM.out _ (List.getElem_mem hlt')))
      have hmk : Hid (∀ s2 : Value, (xs ++ [(ts[k], s2)]).map Prod.fst = ts.take (k + 1)) := Hid.intro (fun s2 => by
        rw [List.map_append, hm.out, List.take_succ_eq_append_getElem hlt']; rfl)
      have hsz := hb.out.size
      clear c1 v1 e1 HE
      generalize ts[k] = t at *
      obtain ⟨tk, tb, ti, tz, tl⟩ := t
      unfold vv at HC
      have ib : (0 : Int) ≤ (k : Int) := by omega
      go_wp2_with fail
      refine HC.out.mono ?_
      rintro e w3 ⟨hb3, s2, rfl, hv3⟩
      obtain ⟨xa, xc, rfl, -, -⟩ := hv3.vs.form
      have hO3 := Hid.intro (hO.out.kept (row := none) (w' := w3) ⟨hb3.os, hb3.tape, hb3.output, hb3.size, fun k hk _ => hb3.block k hk⟩ (by cases u3.ownBlock <;> simp))
      have hB3 := Hid.intro (hb.out.trans (hb3.mono hb.out.size))
      have hX3 : Hid (∀ x ∈ xs, VsB (fun b => (w.heap.size ≤ b ∧ some b ≠ u3.ownBlock) ∧ b < wr.heap.size) w3 n x.1 x.2) := Hid.intro (fun x hx => VsB.move (Kept.below hb3) (fun _ h => h) _ _ _ (VsB.ltX _ _ _ (hX.out x hx)))
      have hV3 := Hid.intro (VsB.ltX _ _ _ hv3)
      have hown : ∀ g, u3.ownBlock = some g → g < wr.heap.size := fun g hg => (hO.out.lt g hg).2
      have hs3 := hb3.size
      clear hb3 hv3 HC hb hO hX
      go_wp2_with (at_builtin; refine wpList_append_own_at _ rfl _ _ 22 rfl w.heap.size 28 i5 z5 5 64 Tryz.underlying22 hI.out.1 hI.out.2.1 hI.out.2.2.2.1 hI.out.2.2.2.2 (by rw [hI.out.2.2.1]; rfl) (by decide) _ _ _ rfl (hO3.out.alloc _) ⟨w3.heap.size, 0, none⟩ 1 1 [.int .i64 tk, .bool tb, .int .i64 ti, .string tz, .slice xa tl.length xc] rfl rfl (World.news_of_block (cs := #[.int .i64 tk, .bool tb, .int .i64 ti, .string tz, .slice xa tl.length xc]) (t := 28) (fr := (0, 0)) (heap_alloc_new w3 _)) (by simp [Value.oneCell']) (by unfold maxLen; omega) (by omega) (by have := hB3.out.size; simp; omega) ?_)
      intro v4 w4 O4 gr4 _ hat4
      have hO4 : Hid (w4.ownsRow w.heap.size 28 5 v4 (k + 1) ((xs ++ [((⟨tk, tb, ti, tz, tl⟩ : Tr), Value.slice xa tl.length xc)]).flatMap cl5X)) := Hid.intro (by rw [List.flatMap_append]; simpa [cl5X] using O4)
      have hB4 : Hid (Below w.heap.size w w4) := Hid.intro (grown_blX (hB3.out.trans ((Below.refl _ _).alloc hB3.out.size _)) gr4 (fun g hg => (hO3.out.lt g hg).1) (by have := hB3.out.size; simp; omega))
      have hq : ∀ b, b < w3.heap.size → some b ≠ u3.ownBlock → some b ≠ v4.ownBlock := fun b hb hn => by
        rcases hat4 with h | h
        · rw [h]; exact hn
        · rw [h]; intro e; simp at e; omega
      have hkeep : ∀ b, b < w3.heap.size → some b ≠ u3.ownBlock → ∀ j, w4.cell? ⟨b, j, none⟩ = w3.cell? ⟨b, j, none⟩ := fun b hb hn j => by
        rw [World.cell?_of_block (a := ⟨b, j, none⟩) (gr4.block b (by simp; omega) hn)]
        exact World.cell?_of_block (a := ⟨b, j, none⟩) (heap_alloc_old w3 _ hb)
      have hX4 : Hid (∀ x ∈ xs ++ [((⟨tk, tb, ti, tz, tl⟩ : Tr), Value.slice xa tl.length xc)], VsB (fun b => w.heap.size ≤ b ∧ some b ≠ v4.ownBlock) w4 n x.1 x.2) := Hid.intro (fun x hx => by
        rcases List.mem_append.1 hx with hx | hx
        · refine VsB.move ?_ ?_ _ _ _ (hX3.out x hx)
          · intro b hb _ j; exact hkeep b (by have := hb.2; omega) hb.1.2 j
          · intro b hb; exact ⟨hb.1.1, hq b (by have := hb.2; omega) hb.1.2⟩
        · obtain rfl : x = _ := by simpa using hx
          refine VsB.move ?_ ?_ _ _ _ hV3.out
          · intro b hb _ j; exact hkeep b hb.2 (fun e => by have := hown b e.symm; have := hb.1; omega) j
          · intro b hb; exact ⟨by have := hb.1; omega, hq b hb.2 (fun e => by have := hown b e.symm; have := hb.1; omega)⟩)
      clear O4 gr4 hat4 hq hkeep hO3 hB3 hX3 hV3 hown p1 p2 p3 p4 p5
      go_wp2_with fail
      go_roundw
      case rel => exact ⟨k + 1, _, by go_num, hlt', hO4, Hid.intro (hmk.out _), hX4, hB4⟩
      case measure => simp [intOf]; omega
    · obtain rfl : k = ts.length := by omega
      have hB := Hid.intro hb.out
      go_wp2_with fail
      go_ret
      have hm' := hm.out
      rw [List.take_length] at hm'
      have hxl : xs.length = ts.length := by rw [← hm', List.length_map]
      have := own_lvbX (P := (w.heap.size ≤ ·)) (n := n) hO.out hxl (fun x hx => VsB.move (fun _ _ _ _ => rfl) (fun b hb => hb.1) _ _ _ (hX.out x hx)) (fun g hg => hg)
      rw [hm'] at this
      exact ⟨hB.out, _, rfl, this⟩
set_option maxRecDepth 20000 in
set_option maxHeartbeats 2000000 in
theorem copy_step (n : Nat) (HV : ∀ (ts : List Tr) (sv : Value) (w : World), Lv w (Vs w n) ts sv → ts.length ≤ 1000000000 → (∀ t ∈ ts, sm n t) → Calls Tryz.prog 20 #[sv] w fun e w' => Below w.heap.size w w' ∧ ∃ s2, e = .returned s2 ∧ LvB (w.heap.size ≤ ·) w' (VsB (w.heap.size ≤ ·) w' n) ts s2) : CVal (n + 1) := by
  intro t sv w hV hs
  have hwf := hV.1
  have HC := Hid.intro (fun w' (hb : Below w.heap.size w w') => HV t.l sv w' (hV.2.mono hb (fun t v => Vs.below hb n t v)) hs.1 hs.2)
  obtain ⟨a1, c1, rfl, hac, hcm⟩ := hV.form
  obtain ⟨k, b, i, s, l⟩ := t
  unfold vv
  dsimp only at HC hwf
  have HW := Hid.intro hwf
  clear hV hs hwf hac hcm
  go_enter Tryz.func10, Tryz.ntmps10
  go_wp2_with fail
  refine (HC.out _ (below_al (below_al (Below.refl _ _) _) _)).mono ?_
  rintro e w1 ⟨hb1, s2, rfl, hl⟩
  have g0 := fun j => hb1.cell (p := ⟨w.heap.size, j, none⟩) (by simp; omega)
  have g1 := fun j => hb1.cell (p := ⟨w.heap.size + 1, j, none⟩) (by simp)
  have z0 := fun j => hb1.frozen (p := ⟨w.heap.size, j, none⟩) (by simp; omega)
  have z1 := fun j => hb1.frozen (p := ⟨w.heap.size + 1, j, none⟩) (by simp)
  have hs1 : w.heap.size + 1 < w1.heap.size := by have := hb1.size; simp at this; omega
  have hs0 : w.heap.size < w1.heap.size := by omega
  obtain ⟨xa, xc, rfl, -, -⟩ := hl.form
  have HL := Hid.intro hl
  have HB := Hid.intro (hb1.via (below_al (below_al (Below.refl _ _) _) _))
  clear hb1 hl
  go_wp2_with fail
  refine bodyPost_ret (v := .agg #[.int .i64 k, .bool b, .int .i64 i, .string s, .slice xa l.length xc]) (by simp [results, Tryz.results10, go_sem, g1]) rfl ⟨?_, .slice xa l.length xc, rfl, HW.out, ?_⟩
  · (repeat (first | with_reducible exact HB.out | with_reducible refine below_al ?_ _ | with_reducible refine below_put ?_ (by omega) _))
  · refine LvB.move (P := (w.heap.size + 2 ≤ ·)) ?_ (fun b hb => by omega) (fun t v hv => VsB.move (P := (w.heap.size + 2 ≤ ·)) ?_ (fun b hb => by omega) _ _ _ hv) (by simpa using HL.out)
    · (repeat (first | with_reducible exact kept_refl _ _ | with_reducible refine kept_put ?_ (by show ¬ _ ≤ _; omega) _))
    · (repeat (first | with_reducible exact kept_refl _ _ | with_reducible refine kept_put ?_ (by show ¬ _ ≤ _; omega) _))
theorem copy_any : ∀ n, CVal n
  | 0 => fun _ _ _ h => h.elim
  | n + 1 => copy_step n (copyVals_any n (copy_any n))
end Go.Proofs.YtciibcfmlhbnkaaGreatDoor
