/- value.clone, value.cloneList: what they tell is the same tree, in new blocks. -/
import Derived.Test.YtppbaflacccilaaDoorFresh
import Derived.Deep.RegionWith
namespace Go.Proofs.YtppbaflacccilaaDoor
open Go.RowKit

def CloneAt (n : Nat) : Prop := ∀ (r : Nat) (t : Tr) (sv : Value) (w : World), fit r t = true → Vs w n t sv →
    Calls Tryd.prog 84 #[vv t sv] w fun e w' => ∃ sv', e = .returned (vv t sv') ∧ Hid (VsB (w.heap.size ≤ ·) w' n t sv') ∧ Below w.heap.size w w'

/-- What the loop of cloneList has done. -/
structure Cloned (n : Nat) (w : World) (ts : List Tr) (k : Nat) (w' : World) : Prop where
  below : Below w.heap.size w w'
  size : w.heap.size < w'.heap.size
  frozen : ∀ o, w'.frozen? ⟨w.heap.size, o, none⟩ = false
  done : ∀ j (h : j < ts.length), j < k → ∃ sv', Cel w' w.heap.size (j * 5) ts[j] sv' ∧ VsB (w.heap.size + 1 ≤ ·) w' n ts[j] sv'
  left : ∀ j, k ≤ j → j < ts.length → Cel w' w.heap.size (j * 5) zeroT (.slice none 0 0)

theorem Cel.atO {w w' : World} {b o : Nat} {t : Tr} {sv : Value} (h : Cel w b o t sv) (hb : ∀ r, r < 5 → w'.cell? ⟨b, o + r, none⟩ = w.cell? ⟨b, o + r, none⟩) : Cel w' b o t sv := by
  have h0 := hb 0 (by omega)
  simp only [Nat.add_zero] at h0
  unfold Cel at *
  rw [h0, hb 1 (by omega), hb 2 (by omega), hb 3 (by omega), hb 4 (by omega)]
  exact h

theorem Cloned.step {n : Nat} {w : World} {ts : List Tr} {k : Nat} {wr w1 : World} {sv1 : Value} (C : Cloned n w ts k wr) (hk : k < ts.length) (hb : Below wr.heap.size wr w1) (hv : VsB (wr.heap.size ≤ ·) w1 n ts[k] sv1) :
    Cloned n w ts (k + 1) (put5 w1 w.heap.size (k * 5) ts[k] sv1) := by
  have hs := C.size
  have kp : Kept (w.heap.size + 1 ≤ ·) wr (put5 w1 w.heap.size (k * 5) ts[k] sv1) := by
    intro b hb1 hb2 o
    rw [put5_other _ _ _ _ _ _ _ (.inl (by omega))]
    exact hb.cell (p := ⟨b, o, none⟩) hb2
  refine ⟨put5_below (hb.via C.below) (Nat.le_refl _) _ _ _, ?_, ?_, ?_, ?_⟩
  · rw [put5_size]; exact Nat.lt_of_lt_of_le hs hb.size
  · intro o; rw [put5_frozen, hb.frozen (p := ⟨w.heap.size, o, none⟩) hs]; exact C.frozen o
  · intro j hj hjk
    by_cases hje : j = k
    · subst hje
      refine ⟨sv1, put5_cel ((C.left j (Nat.le_refl _) hj).below hb) _ _, VsB.move (P := (wr.heap.size ≤ ·)) ?_ (fun b hb1 => by omega) _ _ _ hv⟩
      intro b hb1 _ o
      exact put5_other _ _ _ _ _ _ _ (.inl (by omega))
    · obtain ⟨sv', c, v⟩ := C.done j hj (by omega)
      refine ⟨sv', (c.below hb).atO (fun r hr => put5_other _ _ _ _ _ _ _ (.inr (.inl (by omega)))), VsB.move kp (fun _ h => h) _ _ _ v⟩
  · intro j h1 h2
    exact ((C.left j (by omega) h2).below hb).atO (fun r hr => put5_other _ _ _ _ _ _ _ (.inr (.inr (by omega))))

set_option maxHeartbeats 1000000 in
theorem cloneList_any (n : Nat) (ih : CloneAt n) (r : Nat) (ts : List Tr) (sv : Value) (w : World) (hlen : ts.length ≤ 4096) (hfit : ∀ t ∈ ts, fit r t = true) (hl : Lv w (Vs w n) ts sv) :
    Calls Tryd.prog 87 #[sv] w fun e w' => ∃ sv', e = .returned sv' ∧ Hid (LvB (w.heap.size ≤ ·) w' (VsB (w.heap.size ≤ ·) w' n) ts sv') ∧ Below w.heap.size w w' := by
  obtain ⟨a0, ca, rfl, la, ma, ea⟩ := hl
  unfold maxLen at ma
  have ea' := Hid.intro ea
  clear ea
  by_cases h0 : ts.length = 0
  · have hts : Hid (ts = []) := List.length_eq_zero_iff.1 h0
    go_enter Tryd.func87, Tryd.ntmps87
    go_wp2
    go_ret
    refine ⟨_, rfl, ?_, Below.refl _ _⟩
    rw [hts.out]
    exact ⟨none, 0, rfl, Nat.le_refl _, Nat.zero_le _, fun h => absurd h (Nat.lt_irrefl 0)⟩
  · have hm := make_vals w ts.length (by omega)
    have C0 : Cloned n w ts 0 (w.alloc (.cells (madeCells #[.int .i64 0, .bool false, .int .i64 0, .string ⟨#[]⟩, .slice none 0 0] (ts.length * 5)) 32)) :=
      ⟨below_al (Below.refl _ _) _, by simp, fun o => by unfold World.frozen?; rw [heap_alloc_new]; simp, fun j _ h => absurd h (Nat.not_lt_zero _), fun j _ h => made_cel w ts.length j h⟩
    have HC := Hid.intro C0
    clear C0
    generalize (w.alloc (.cells (madeCells #[.int .i64 0, .bool false, .int .i64 0, .string ⟨#[]⟩, .slice none 0 0] (ts.length * 5)) 32)) = W0 at *
    have h0' : ((ts.length : Int) == 0) = false := beq_false_of_ne (by omega)
    go_enter Tryd.func87, Tryd.ntmps87
    go_wp2
    go_loopw [14] (fun i w' => ∃ k : Nat, k ≤ ts.length ∧ i = .int .i64 k ∧ Hid (Cloned n w ts k w')) (fun i _ => ts.length - (intOf i).toNat)
    case atStart => exact ⟨0, by omega, rfl, HC⟩
    case round =>
      obtain ⟨k, hk1, rfl, HK⟩ := hrel
      by_cases hlt : k < ts.length
      · obtain ⟨b1, o1, rfl, e1⟩ := ea'.out (by omega)
        obtain ⟨s1, c1, v1⟩ := e1 k hlt
        clear e1 ea'
        have hft := hfit ts[k] (List.getElem_mem hlt)
        obtain ⟨a1, n1, rfl, -, -⟩ := v1.form
        have v1' := Hid.intro (Vs.below HK.out.below _ _ _ v1)
        obtain ⟨p1, p2, p3, p4, p5⟩ := c1.below HK.out.below
        obtain ⟨z1, z2, z3, z4, z5⟩ := HK.out.left k (Nat.le_refl _) hlt
        have hfz := HK.out.frozen
        have hl1 : b1 < wr.heap.size := cell_lt p1
        have hl2 : w.heap.size < wr.heap.size := HK.out.size
        have ib : (0 : Int) ≤ (k : Int) := by omega
        have ix : (k : Int) < (ts.length : Int) := by omega
        simp only [zeroT] at z1 z2 z3 z4 z5
        have HI := Hid.intro (fun w' hb => ih r ts[k] _ w' hft (Vs.below (w' := w') hb _ _ _ v1'.out))
        clear v1 v1' c1 hft
        go_wp2_with fail
        refine (HI.out _ (below_al (Below.refl _ _) _)).mono ?_
        rintro e w1 ⟨sv1, rfl, V1, hb1⟩
        have hb2 := hb1.via (below_al (Below.refl _ wr) _)
        obtain ⟨a2, n2, rfl, -, -⟩ := (VsB.vs _ _ _ V1.out).form
        have hc := fun o => hb2.cell (p := ⟨w.heap.size, o, none⟩) hl2
        have hf : ∀ o, w1.frozen? ⟨w.heap.size, o, none⟩ = false := fun o => (hb2.frozen (p := ⟨w.heap.size, o, none⟩) hl2).trans (hfz o)
        rw [← hc] at z1 z2 z3 z4 z5
        have HS := Hid.intro (HK.out.step hlt hb2 (VsB.move (P := ((wr.alloc (.cells #[.int .i64 ts[k].k, .bool ts[k].b, .int .i64 ts[k].i, .string ts[k].s, .slice a1 ts[k].l.length n1] 32)).heap.size ≤ ·)) (fun _ _ _ _ => rfl) (fun b hb => by simp at hb; omega) _ _ _ V1.out))
        have hl3 : w.heap.size < w1.heap.size := Nat.lt_of_lt_of_le hl2 hb2.size
        clear hc hb1 hb2 V1 hfz HK HI p1 p2 p3 p4 p5
        unfold vv
        go_wp2
        go_roundw
        case rel => exact ⟨k + 1, by omega, by go_num, HS⟩
        case measure => simp [intOf]; omega
      · go_wp2
        go_ret
        refine ⟨_, rfl, ?_, HK.out.below⟩
        refine ⟨some ⟨w.heap.size, 0, none⟩, ts.length, rfl, Nat.le_refl _, by unfold maxLen; omega, fun _ => ⟨w.heap.size, 0, rfl, Nat.le_refl _, fun j hj => ?_⟩⟩
        obtain ⟨sv', c, v⟩ := HK.out.done j hj (by omega)
        exact ⟨sv', by rw [Nat.zero_add]; exact c, VsB.move (fun _ _ _ _ => rfl) (fun b hb => by omega) _ _ _ v⟩

set_option maxHeartbeats 1000000 in
theorem clone_any : ∀ n, CloneAt n := by
  intro n
  induction n with
  | zero => intro r t sv w _ h; exact h.elim
  | succ n ih =>
    intro r t sv w hf ht
    obtain ⟨hlen, r', hfit⟩ := fit_short hf
    have hwf := ht.wf
    obtain ⟨a1, n1, rfl, hn1, hn2⟩ := ht.form
    have HI := Hid.intro (fun w' hb => cloneList_any n ih r' t.l _ w' hlen hfit (ht.2.mono (w' := w') hb (fun t v => Vs.below hb n t v)))
    clear ht hf ih hfit
    obtain ⟨k, b, i, s, l⟩ := t
    unfold vv
    go_enter Tryd.func84, Tryd.ntmps84
    go_wp2_with fail
    refine (HI.out _ (below2 _ _ _)).mono ?_
    rintro e w1 ⟨sv1, rfl, V1, hb1⟩
    obtain ⟨a2, n2, rfl, -, -⟩ := V1.out.form
    obtain ⟨hc, hfz⟩ := bcell hb1 (N := w.heap.size + 2) (by simp)
    have hsz : w.heap.size + 2 ≤ w1.heap.size := by have := hb1.size; simpa using this
    have HB := Hid.intro (hb1.via (below2 _ _ _))
    clear hb1 HI
    go_wp2
    refine bodyPost_ret (v := vv ⟨k, b, i, s, l⟩ (.slice a2 l.length n2)) (by simp [results, Tryd.results84, go_sem, hc, vv]) rfl ⟨_, rfl, VsB.lift hwf V1.out ?kk (fun b hb => by simp at hb; omega), ?bb⟩
    case kk =>
      intro b hb _ o
      simp at hb
      repeat rw [cell_other _ _ _ _ _ _ (.inl (by omega))]
    case bb => exact below_set5 (below_put HB.out (Nat.le_refl _) _) (Nat.le_succ _) _ _ _ _ _

end Go.Proofs.YtppbaflacccilaaDoor
