/- The walk over a text's lexemes. -/
import Derived.WalkKit
import Derived.OwnWalkIn
import Derived.TacticsInMore
import Derived.LoopNIn
import Derived.LoopIn
import Derived.Test.YtlheiiapolhpeaaLTell
namespace Go.Proofs.Ytlheiiapolhpeaa
open Go.RowKit Go.Shelf

attribute [local go_sem] Oper.semAt_some

theorem below_none {w w' : World} (h : Below w.heap.size w w') : w.grownBy w' none := ⟨h.os, h.tape, h.output, h.size, fun k hk _ => h.block k hk⟩

set_option maxRecDepth 100000 in
set_option maxHeartbeats 4000000 in
theorem walk_in (n : Nat) (hn : 1 ≤ n) (l B Bt : Nat) (s : ByteArray) (hs : s.size ≤ 1000000) (w : World) (J Jx : List (Lx × Bool) → World → Prop)
    (hJ : ∀ s A B, J s A → A.grownBy B none → J s B)
    (hY : ∀ pre z W, J pre W → pre.length < (tells 0 (tl s 0)).length → YieldAt Fence.wide (n - 1) Try.prog l #[z.1.v, .bool z.2] W fun e W' =>
      (e = .returned (.bool true) ∧ J (pre ++ [z]) W' ∧ KpB B W W') ∨ (e = .returned (.bool false) ∧ Jx (pre ++ [z]) W'))
    (hB : B < w.heap.size) (hBt : Bt ≠ B) (ht : w.cell? ⟨Bt, 0, none⟩ = some (.string s)) (hr : rowB B w = none) (W : World) (hW : Below w.heap.size w W) (h0 : J [] W) :
    CallsIn Fence.wide n Try.prog 19 #[.func (.yield l) #[] #[], .pointer (some ⟨Bt, 0, none⟩)] W fun e W' => (∃ v, e = .returned v) ∧
      ((∃ ys, ys = tells 0 (tl s 0) ∧ J ys W') ∨ (∃ pre, pre <+: tells 0 (tl s 0) ∧ Jx pre W')) := by
  refine callsIn_of_wp Try.func19 rfl trivial ?_ rfl
  simp only [Try.ntmps19, List.size_toArray, List.length_cons, List.length_nil, Nat.reduceAdd, Nat.reduceSub, Array.replicate_succ, Array.replicate_zero, List.push_toArray, List.append_toArray, List.nil_append, List.cons_append]
  generalize hT : tells 0 (tl s 0) = T at *
  refine wpIn_wide.2 ?_
  go_wp2
  refine wp_scope_labels (fun l' a' w' => l' = 0 ∧ ∃ (m : Nat) (pre : List (Lx × Bool)) (u4 u5 u6 u7 u8 u9 u10 u11 u12 u13 u14 u15 u16 u17 u18 u19 u20 u21 u22 u23 u24 u25 u26 u27 u28 u29 : Value), a' = { tmps := #[.func (.yield l) #[] #[], .pointer (some ⟨Bt, 0, none⟩), undef, .int .i64 (m : Int), u4, u5, u6, u7, u8, u9, u10, u11, u12, u13, u14, u15, u16, u17, u18, u19, u20, u21, u22, u23, u24, u25, u26, u27, u28, u29], defers := [] } ∧ m ≤ s.size ∧ T = pre ++ tells m (tl s m) ∧ KpB B w w' ∧ J pre w') (fun _ a' _ => s.size - (intOf (a'.tmps.getD 3 undef)).toNat) ?pass ?first
  case first =>
    intro hL
    go_wp2
    rename_i hK
    refine wp_label (hK _ _ (hL.out 0 _ _ _ rfl ⟨rfl, 0, [], _, _, _, _, _, _, _, _, _, _, _, _, _, _, _, _, _, _, _, _, _, _, _, _, _, _, rfl, Nat.zero_le _, by rw [← hT]; rfl, KpB.below hB hW, h0⟩))
  case pass =>
    rintro l' a' w' ⟨rfl, m, pre, u4, u5, u6, u7, u8, u9, u10, u11, u12, u13, u14, u15, u16, u17, u18, u19, u20, u21, u22, u23, u24, u25, u26, u27, u28, u29, rfl, hm, hx, hKp, hJs⟩
    refine ⟨_, rfl, ?_⟩
    refine (wpIn_wide (n := n)).1 ?_
    have hb0 : blkAt false s m ≤ s.size := by
      have := blk_le false (tl s m); rw [tl_len] at this; unfold blkAt; omega
    have hbm : m ≤ blkAt false s m := by unfold blkAt; omega
    have HB := fun w => Hid.intro (behindBlanks_any s m hm hs w)
    have htw := hKp.cell ht hBt (by rw [hr]; exact fun e => by cases e)
    have hBw : B < w'.heap.size := Nat.lt_of_lt_of_le hB hKp.size
    have hok := hKp.ok (fun r e => by rw [hr] at e; cases e)
    generalize hq : blkAt false s m = q at *
    by_cases hlt : q < s.size
    · have hne : ((q : Int) == (s.size : Int)) = false := by simp; omega
      have HX := fun w => Hid.intro (lexemeAt_any s q hlt hs w)
      cases ho : oneL q (tl s q) with
      | none =>
        have ht2 := hx.trans (congrArg (pre ++ ·) (tells_at_no (by rw [hq]; exact hlt) (by rw [hq]; exact ho)))
        rw [hq] at ht2
        rw [ho] at HX
        simp only [told, lxv] at HX
        have hlen : pre.length < T.length := by rw [ht2]; simp
        gi_wp2_with (first | (refine ⟨trivial, ?_⟩; gi_at_call 20; refine (callsIn_wide.2 (HB _).out).mono ?_; rintro e w1 ⟨rfl, hw1⟩; subst w1) | (refine ⟨trivial, ?_⟩; gi_at_call 21; refine (callsIn_wide.2 (HX _).out).mono ?_; rintro e w1 ⟨rfl, hw1⟩; have HF := Hid.intro (F4.new w1 (.int .i64 0) (.string ⟨#[]⟩) (.int .i64 (q : Int)) (.int .i64 0) 31); obtain ⟨⟨g0, g1, g2, g3⟩, y0, y1, y2, y3⟩ := HF.out; have HB1 := Hid.intro (below_al hw1 (.cells #[.int .i64 0, .string ⟨#[]⟩, .int .i64 (q : Int), .int .i64 0] 31)); have hsz := hw1.size; clear hw1; obtain ⟨fn, tmps, assign, body, hy, hR⟩ := hY pre (⟨0, ⟨#[]⟩, q, 0⟩, false) _ (hJ _ _ _ hJs (below_none HB1.out)) hlen; simp only [Lx.v, lxv, show ((0 : Nat) : Int) = 0 from rfl] at hy))
        refine hR.mono ?_
        rintro e W3 (⟨rfl, hJ3, hk3⟩ | ⟨rfl, hJx3⟩)
        · gi_wp2
          refine bodyPost_ret (results_none rfl _ _ _) rfl ?_
          exact ⟨⟨_, rfl⟩, .inl ⟨_, ht2.symm, hJ3⟩⟩
        · gi_wp2
          refine bodyPost_ret (results_none rfl _ _ _) rfl ?_
          exact ⟨⟨_, rfl⟩, .inr ⟨_, ⟨[], by rw [List.append_nil]; exact ht2.symm⟩, hJx3⟩⟩
      | some x =>
        have ht2 := hx.trans (congrArg (pre ++ ·) (tells_at_yes (by rw [hq]; exact hlt) (by rw [hq]; exact ho)))
        obtain ⟨hp1, hp2, hp3⟩ := oneL_pos ho
        rw [tl_len] at hp3
        have hp4 : x.e ≤ s.size := by omega
        have hlen : pre.length < T.length := by rw [ht2]; simp
        rw [ho] at HX
        obtain ⟨kk, tt, aa, ee⟩ := x
        simp only [told, lxv, Lx.v] at HX ht2 hp1 hp2 hp3 hp4
        subst aa
        gi_wp2_with (first | (refine ⟨trivial, ?_⟩; gi_at_call 20; refine (callsIn_wide.2 (HB _).out).mono ?_; rintro e w1 ⟨rfl, hw1⟩; subst w1) | (refine ⟨trivial, ?_⟩; gi_at_call 21; refine (callsIn_wide.2 (HX _).out).mono ?_; rintro e w1 ⟨rfl, hw1⟩; have HF := Hid.intro (F4.new w1 (.int .i64 kk) (.string tt) (.int .i64 (q : Int)) (.int .i64 (ee : Int)) 31); obtain ⟨⟨g0, g1, g2, g3⟩, y0, y1, y2, y3⟩ := HF.out; have HB1 := Hid.intro (below_al hw1 (.cells #[.int .i64 kk, .string tt, .int .i64 (q : Int), .int .i64 (ee : Int)] 31)); have hsz := hw1.size; clear hw1; obtain ⟨fn, tmps, assign, body, hy, hR⟩ := hY pre (⟨kk, tt, q, ee⟩, true) _ (hJ _ _ _ hJs (below_none HB1.out)) hlen; simp only [Lx.v, lxv] at hy))
        refine hR.mono ?_
        rintro e W3 (⟨rfl, hJ3, hk3⟩ | ⟨rfl, hJx3⟩)
        · have hkw := KpB.below hBw HB1.out
          have hrw : rowB B (w1.alloc (.cells #[.int .i64 kk, .string tt, .int .i64 (q : Int), .int .i64 (ee : Int)] 31)) = rowB B w' := by
            unfold rowB; rw [HB1.out.cell (p := ⟨B, 0, none⟩) hBw]
          have hc3 := hk3.cell (p := ⟨w1.heap.size, 3, none⟩) g3 (by simp only; omega) (fun e => by
            have := hok _ (hrw ▸ e); simp only at this; omega)
          gi_wp2
          refine wpIn_goto ?_
          refine ⟨⟨rfl, ee, pre ++ [(⟨kk, tt, q, ee⟩, true)], _, _, _, _, _, _, _, _, _, _, _, _, _, _, _, _, _, _, _, _, _, _, _, _, _, _, rfl, hp4, by rw [ht2]; simp, hKp.trans (hkw.trans hk3), hJ3⟩, ?_⟩
          show s.size - ((ee : Int)).toNat < s.size - ((m : Int)).toNat
          omega
        · gi_wp2
          refine bodyPost_ret (results_none rfl _ _ _) rfl ?_
          exact ⟨⟨_, rfl⟩, .inr ⟨_, ⟨tells ee (tl s ee), by rw [ht2]; simp⟩, hJx3⟩⟩
    · have hqe : q = s.size := by omega
      have he : ((q : Int) == (s.size : Int)) = true := by simp [hqe]
      have ht2 := tells_at_end (s := s) (k := m) (by rw [hq]; exact hqe)
      rw [ht2, List.append_nil] at hx
      gi_wp2_with (first | (refine ⟨trivial, ?_⟩; gi_at_call 20; refine (callsIn_wide.2 (HB _).out).mono ?_; rintro e w1 ⟨rfl, hw1⟩; subst w1))
      refine bodyPost_ret (results_none rfl _ _ _) rfl ?_
      exact ⟨⟨_, rfl⟩, .inl ⟨pre, hx.symm, hJs⟩⟩

set_option maxHeartbeats 1000000 in
theorem lexemes_in (n : Nat) (s : ByteArray) (w : World) :
    CallsIn Fence.wide n Try.prog 16 #[.string s] w fun e w' => e = .returned (.func (.func 19) #[] #[.pointer (some ⟨w.heap.size, 0, none⟩)]) ∧ w' = w.alloc (.cells #[.string s] 9) := by
  refine callsIn_of_wp Try.func16 rfl trivial ?_ rfl
  simp only [Try.ntmps16, List.size_toArray, List.length_cons, List.length_nil, Nat.reduceAdd, Nat.reduceSub, Array.replicate_succ, Array.replicate_zero, List.push_toArray, List.append_toArray, List.nil_append, List.cons_append]
  gi_wp2
  go_ret
  exact ⟨rfl, rfl⟩

theorem walk_stops (n : Nat) (hn : 1 ≤ n) (B Bt : Nat) (s : ByteArray) (hs : s.size ≤ 1000000) (w : World)
    (hB : B < w.heap.size) (hBt : Bt ≠ B) (ht : w.cell? ⟨Bt, 0, none⟩ = some (.string s)) (hr : rowB B w = none) :
    SeqStopsK Fence.wide n Try.prog 19 #[.pointer (some ⟨Bt, 0, none⟩)] (fun z : Lx × Bool => #[z.1.v, .bool z.2]) (KpB B) (fun ys => ys = tells 0 (tl s 0)) (fun pre => pre <+: tells 0 (tl s 0)) (tells 0 (tl s 0)).length w := fun l J Jx W hW hJ _ hY h0 =>
  walk_in n hn l B Bt s hs w J Jx (fun s A B hs hg => hJ s A B none hs hg (fun r e => by cases e)) hY hB hBt ht hr W hW h0
end Go.Proofs.Ytlheiiapolhpeaa
