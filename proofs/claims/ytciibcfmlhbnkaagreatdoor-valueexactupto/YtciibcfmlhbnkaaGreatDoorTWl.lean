/- value.writeList; value.write of any value; value.Text. -/
import Derived.Test.YtciibcfmlhbnkaaGreatDoorTWr
namespace Go.Proofs.YtciibcfmlhbnkaaGreatDoor
open Go.RowKit

theorem sepB_app (a b : List (List UInt8)) (h : a ≠ []) : sepB (a ++ b) = sepB a ++ b.flatMap fun y => 44 :: 32 :: y := by
  cases a with
  | nil => exact absurd rfl h
  | cons x xs => simp [sepB, List.flatMap_append]
theorem sepB_take (l : List (List UInt8)) (k : Nat) : (sepB (l.take k)).length ≤ (sepB l).length := by
  by_cases h : l.take k = []
  · rw [h]; simp [sepB]
  · conv => rhs; rw [← List.take_append_drop k l]
    rw [sepB_app _ _ h, List.length_append]; omega
def TxtAt (n : Nat) : Prop := ∀ (r : Nat) (t : Tr) (sv : Value) (w0 w : World) (v : Value) (d : List UInt8), fit r t = true → Vs w0 n t sv → Tb w0 → OutP w0 w v d → d.length + (txt n t).length ≤ 800000000 →
    Calls Tryz.prog 35 #[v, vv t sv] w fun e w' => EncP w0 w' (d ++ txt n t) e
theorem OutP.cell {w0 w : World} {v : Value} {d : List UInt8} (h : OutP w0 w v d) {p : Addr} (hp : p.block < w0.heap.size) : w.cell? p = w0.cell? p := h.blw.cell hp

set_option maxRecDepth 20000 in
set_option maxHeartbeats 4000000 in
theorem writeList_any (n r : Nat) (ih : TxtAt n) (ts : List Tr) (sl : Value) (w0 w : World) (v : Value) (d0 : List UInt8) (hfit : ∀ t ∈ ts, fit r t = true) (hl : Lv w0 (Vs w0 n) ts sl) (hT : Tb w0) (h : OutP w0 w v d0) (hx : d0.length + (sepB (ts.map (txt n))).length + 2 ≤ 800000000) :
    Calls Tryz.prog 74 #[v, sl] w fun e w' => EncP w0 w' (d0 ++ 91 :: (sepB (ts.map (txt n)) ++ [93])) e := by
  have HI := Hid.intro info5
  have O := Hid.intro h
  obtain ⟨a0, ca, rfl, la, ma, ea⟩ := hl
  unfold maxLen at ma
  have HE := Hid.intro ea
  have HX := Hid.intro hx
  have HF := Hid.intro hfit
  have hd0 : d0.length ≤ 800000000 := by omega
  clear h ea hx hfit
  go_enter Tryz.func74, Tryz.ntmps74
  go_wp2_with (at_builtin; refine wpList_append_own_at _ rfl _ _ 50 rfl w0.heap.size 5 HI.out.choose (.int .u8 0) 1 1 Tryz.underlying50 HI.out.choose_spec.1 HI.out.choose_spec.2.1 HI.out.choose_spec.2.2.1 HI.out.choose_spec.2.2.2 rfl (by decide) _ _ _ rfl (O.out.own.alloc _) ⟨w.heap.size, 0, none⟩ 1 1 [.int .u8 91] rfl rfl (World.news_of_block (cs := #[.int .u8 91]) (t := 5) (fr := (0, 0)) (heap_alloc_new w _)) (by simp [Value.oneCell']) (by unfold maxLen; omega) (by omega) (by have := O.out.size; simp; omega) ?_)
  intro v4 w4 O4 gr4 _ _
  have O1 := Hid.intro (O.out.app (cs := [91]) (below_al (Below.refl _ _) _) gr4 O4 rfl rfl)
  clear O4 gr4
  go_wp2_with fail
  go_loopw [0, 12] (fun u i wr => ∃ k : Nat, i = .int .i64 (k : Int) ∧ k ≤ ts.length ∧ Hid (OutP w0 wr u (d0 ++ 91 :: sepB ((ts.take k).map (txt n))))) (fun _ i _ => ts.length - (intOf i).toNat)
  case atStart => exact ⟨0, rfl, Nat.zero_le _, O1⟩
  case round =>
    obtain ⟨k, rfl, hk, O⟩ := hrel
    by_cases hlt : (k : Int) < (ts.length : Int)
    · have hlt' : k < ts.length := by omega
      obtain ⟨b1, o1, rfl, e1⟩ := HE.out (by omega)
      obtain ⟨s1, c1, t1⟩ := e1 k hlt'
      obtain ⟨x1, m1, rfl, -, -⟩ := t1.form
      have hb1 : b1 < w0.heap.size := cell_lt c1.1
      have hl1 : b1 < wr.heap.size := Nat.lt_of_lt_of_le hb1 O.out.size
      obtain ⟨p1, p2, p3, p4, p5⟩ := c1.below O.out.blw
      have htk := List.take_succ_eq_append_getElem hlt'
      have hsn : sepB ((ts.take (k + 1)).map (txt n)) = if k = 0 then txt n ts[k] else sepB ((ts.take k).map (txt n)) ++ (44 :: 32 :: txt n ts[k]) := by
        rw [htk, List.map_append, List.map_cons, List.map_nil, sepB_snoc]
        by_cases h0 : k = 0
        · subst h0; simp
        · rw [if_neg h0, if_neg (fun e => by have := congrArg List.length e; rw [List.length_map, List.length_take, List.length_nil] at this; omega)]
      have hle : (sepB ((ts.take (k + 1)).map (txt n))).length ≤ (sepB (ts.map (txt n))).length := by
        rw [List.map_take]; exact sepB_take _ _
      have HC := Hid.intro (fun (w' : World) (u : Value) (d : List UInt8) (hO : OutP w0 w' u d) (hz : d.length + (txt n ts[k]).length ≤ 800000000) => ih r ts[k] _ w0 w' u d (HF.out _ (List.getElem_mem hlt')) t1 hT hO hz)
      have HXX := HX.out
      clear c1 t1 e1 HE htk
      have ib : (0 : Int) ≤ (k : Int) := by omega
      by_cases h0 : k = 0
      · subst h0
        simp only [Nat.zero_mul, Nat.add_zero] at p1 p2 p3 p4 p5
        rw [if_pos rfl] at hsn
        rw [hsn] at hle
        have hS := Hid.intro hsn
        generalize txt n ts[0] = y at hle hS HC
        generalize ts[0] = t at *
        obtain ⟨tk, tb, ti, tz, tl⟩ := t
        unfold vv at HC
        have HY : Hid (d0.length + 1 + y.length ≤ 800000000) := Hid.intro (by omega)
        clear hsn HXX hle
        go_wp2_with fail
        refine (HC.out _ _ _ (O.out.via (below_al (Below.refl _ _) _)) (by have := HY.out; simpa [sepB] using this)).mono ?_
        rintro e w4 ⟨v4, rfl, h1, h2⟩
        have O1 : Hid (OutP w0 w4 v4 (d0 ++ 91 :: sepB ((ts.take (0 + 1)).map (txt n)))) := Hid.intro ⟨by rw [hS.out]; simpa [sepB] using h1, h2⟩
        clear h1 h2
        go_wp2_with fail
        go_roundw
        case rel => exact ⟨0 + 1, by go_num, hlt', O1⟩
        case measure => simp [intOf]; omega
      · rw [if_neg h0] at hsn
        rw [hsn] at hle
        have hS := Hid.intro hsn
        generalize sepB ((ts.take k).map (txt n)) = q at hle hS O
        generalize txt n ts[k] = y at hle hS HC
        generalize ts[k] = t at *
        obtain ⟨tk, tb, ti, tz, tl⟩ := t
        unfold vv at HC
        rw [List.length_append] at hle
        simp only [List.length_cons] at hle
        have hpos : (0 : Int) < (k : Int) := by omega
        have HY : Hid (d0.length + 1 + q.length + 2 + y.length ≤ 800000000) := Hid.intro (by omega)
        have hq : (d0 ++ 91 :: q).length ≤ 800000000 := by rw [List.length_append, List.length_cons]; omega
        have hqe : (d0 ++ 91 :: q).length = d0.length + 1 + q.length := by rw [List.length_append, List.length_cons]; omega
        have HQE := Hid.intro hqe
        clear hsn HXX hle hqe
        have hql : Hid (d0 ++ 91 :: (q ++ (44 :: 32 :: y)) = (d0 ++ 91 :: q) ++ [44, 32] ++ y) := Hid.intro (by simp)
        generalize d0 ++ 91 :: q = d at O hq HQE hql
        have O9 := Hid.intro (O.out.via (below_al (Below.refl _ _) (.cells #[.int .i64 tk, .bool tb, .int .i64 ti, .string tz, .slice x1 tl.length m1] 28)))
        go_wp2_with (at_builtin; refine Lib.wpList_append_own_string _ rfl _ _ 50 9 rfl w0.heap.size 5 HI.out.choose Tryz.underlying50 Tryz.underlying9 HI.out.choose_spec.1 HI.out.choose_spec.2.1 HI.out.choose_spec.2.2.1 HI.out.choose_spec.2.2.2 _ _ _ rfl O9.out.own ⟨#[44, 32]⟩ rfl (by show _ + 2 ≤ _; unfold maxLen; omega) (by show _ + 2 ≤ _; omega) O9.out.size ?_)
        intro v4 w4 O4 gr4 _
        have O1 := Hid.intro (O9.out.app (cs := [44, 32]) (Below.refl _ _) gr4 O4 rfl rfl)
        have hno : some wr.heap.size ≠ u0.ownBlock := fun e => by have := (O.out.own.lt _ e.symm).2; omega
        have g4 := fun j => World.cell?_of_block (a := ⟨wr.heap.size, j, none⟩) (gr4.block wr.heap.size (by simp) hno)
        have hs4 : wr.heap.size < w4.heap.size := by have := gr4.size; simp at this; omega
        clear O4 gr4
        go_wp2_with fail
        refine (HC.out _ _ _ O1.out (by have := HY.out; have h1 := HQE.out; rw [List.length_append, h1]; simp only [List.length_cons, List.length_nil]; omega)).mono ?_
        rintro e w5 ⟨v5, rfl, h1, h2⟩
        have O2 : Hid (OutP w0 w5 v5 (d0 ++ 91 :: sepB ((ts.take (k + 1)).map (txt n)))) := Hid.intro ⟨by rw [hS.out, hql.out]; exact h1, h2⟩
        clear h1 h2
        go_wp2_with fail
        go_roundw
        case rel => exact ⟨k + 1, by go_num, hlt', O2⟩
        case measure => simp [intOf]; omega
    · obtain rfl : k = ts.length := by omega
      rw [List.take_length] at O
      have hq : (d0 ++ 91 :: sepB (ts.map (txt n))).length ≤ 800000000 := by have := HX.out; rw [List.length_append, List.length_cons]; omega
      have hql : Hid (d0 ++ 91 :: (sepB (ts.map (txt n)) ++ [93]) = (d0 ++ 91 :: sepB (ts.map (txt n))) ++ [93]) := Hid.intro (by simp)
      generalize d0 ++ 91 :: sepB (ts.map (txt n)) = d at O hq hql
      go_wp2_with (at_builtin; refine wpList_append_own_at _ rfl _ _ 50 rfl w0.heap.size 5 HI.out.choose (.int .u8 0) 1 1 Tryz.underlying50 HI.out.choose_spec.1 HI.out.choose_spec.2.1 HI.out.choose_spec.2.2.1 HI.out.choose_spec.2.2.2 rfl (by decide) _ _ _ rfl (O.out.own.alloc _) ⟨wr.heap.size, 0, none⟩ 1 1 [.int .u8 93] rfl rfl (World.news_of_block (cs := #[.int .u8 93]) (t := 5) (fr := (0, 0)) (heap_alloc_new wr _)) (by simp [Value.oneCell']) (by unfold maxLen; omega) (by omega) (by have := O.out.size; simp; omega) ?_)
      intro v4 w4 O4 gr4 _ _
      have O1 := Hid.intro (O.out.app (cs := [93]) (below_al (Below.refl _ _) _) gr4 O4 rfl rfl)
      clear O4 gr4
      have O2 := O1.out
      rw [← hql.out] at O2
      go_wp2_with fail
      go_ret
      exact ⟨v4, rfl, O2.own, O2.blw⟩
set_option maxRecDepth 20000 in
set_option maxHeartbeats 2000000 in
theorem wr_4 (b : Bool) (i : Int) (s : ByteArray) (sl : Value) {w0 w : World} {v : Value} {ys : List UInt8} (HC : Calls Tryz.prog 74 #[v, sl] (w.alloc (.cells #[.int .i64 4, .bool b, .int .i64 i, .string s, sl] 28)) fun e w' => EncP w0 w' ys e) :
    Calls Tryz.prog 35 #[v, .agg #[.int .i64 4, .bool b, .int .i64 i, .string s, sl]] w fun e w' => EncP w0 w' ys e := by
  have HC := Hid.intro HC
  go_enter Tryz.func35, Tryz.ntmps35
  go_wp2_with fail
  refine HC.out.mono ?_
  rintro e w1 ⟨v1, rfl, h1, h2⟩
  go_wp2_with fail
  go_ret
  exact ⟨v1, rfl, h1, h2⟩
theorem txt_at : ∀ n, TxtAt n
  | 0 => fun _ _ _ _ _ _ _ _ h => h.elim
  | n + 1 => by
    intro r t sv w0 w v d hf hV hT h hx
    obtain ⟨a1, c1, rfl, -, -⟩ := hV.form
    have hk := fit_kind hf
    have hwf := hV.1
    obtain ⟨k, b, i, s, l⟩ := t
    simp only at hk
    unfold vv
    have hd : d.length ≤ 800000000 := by omega
    rcases hk with rfl | rfl | rfl | rfl | rfl | rfl
    · exact wr_0 b i s _ _ _ h hd
    · exact wr_1 b i s _ _ _ h hd
    · exact wr_2 b i s _ _ _ hwf.2.2.1 hwf.2.2.2.1 h hT hd
    · have hs : s.size ≤ 65536 := by
        rw [fit_flat r _ (by simp)] at hf
        simp [flat] at hf
        omega
      exact wr_3 b i s _ _ _ hs h hd
    · obtain ⟨r', rfl, -, hfit, -⟩ := fit_list hf rfl
      have e : txt (n + 1) ⟨4, b, i, s, l⟩ = 91 :: (sepB (l.map (txt n)) ++ [93]) := by simp [txt]
      rw [e] at hx ⊢
      rw [List.length_cons, List.length_append, List.length_singleton] at hx
      exact wr_4 b i s _ (writeList_any n r' (txt_at n) l _ w0 _ v d hfit hV.2 hT (h.via (below_al (Below.refl _ _) _)) (by omega))
    · exact wr_5 b i s _ _ _ hwf.2.2.1 hwf.2.2.2.1 h hT hd
end Go.Proofs.YtciibcfmlhbnkaaGreatDoor
