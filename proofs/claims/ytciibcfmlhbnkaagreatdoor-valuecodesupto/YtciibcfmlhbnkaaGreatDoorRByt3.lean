/- The reference's bytes of a text; of any value. -/
import Derived.Test.YtciibcfmlhbnkaaGreatDoorRByt2
import Derived.Lib.AppendStr
namespace Go.Proofs.YtciibcfmlhbnkaaGreatDoor
open Go.RowKit

theorem np_w {Q : Exit → Act → World → Prop} {a : Act} {w : World} (h : Q .normal a w) : NoPanic Q .normal a w := h
theorem wp_append_str {w : World} {o : Oper} {a : Act} {K : Act → World → Prop} {Q : Exit → Act → World → Prop} (sl x : Operand) (t u : TypeId)
    (ho : o.op = .call { callee := .builtin .append, args := #[sl, x], argTypes := #[t, u] })
    (base : Nat) (e : TypeId) (i : TypeInfo) (ht : Tryz.prog.underlying t = some (.slice e)) (hu : Tryz.prog.underlying u = some .string) (hi : Tryz.prog.info? e = some i) (hz : i.zero = some (.int .u8 0))
    (hsize : i.size = 1) (hby : i.bytes = 1)
    (v : Value) (n : Nat) (xs : List Value) (hs : a.eval sl = v) (hown : w.ownsRow base e 1 v n xs) (s : ByteArray) (hx : a.eval x = .string s)
    (h63 : n + s.size ≤ maxLen) (hbytes : n + s.size ≤ 140737488355328) (hbase : base ≤ w.heap.size)
    (h : ∀ v' w', w'.ownsRow base e 1 v' (n + s.size) (xs ++ Lib.strCells s) → w.grownBy w' v.ownBlock → K (a.put o.dst v') w') : o.wp Tryz.prog a w K Q := by
  obtain ⟨v', w', hr, h2, h3, h4⟩ := Lib.run_append_own_string (P := Tryz.prog) w base t u o.type e i ht hu hi hz hsize hby v n xs hown s h63 hbytes hbase
  unfold Oper.wp execOp
  simp only [ho, resolve, invoke, builtin, Sem.run_bind, Sem.run_pure, Result.andThen_ok, List.map_toArray, List.map_cons, List.map_nil, hs, hx, hr]
  exact h v' w' h2 h3

set_option maxRecDepth 20000 in
set_option maxHeartbeats 2000000 in
theorem bytes_3 (b : Bool) (i : Int) (s : ByteArray) (p : Option Addr) (n c : Nat) (hs : s.size ≤ 65536) (w : World) :
    Calls Tryz.prog 68 #[.agg #[.int .i64 3, .bool b, .int .i64 i, .string s, .slice p n c]] w fun e w' => RBytP w w' (3 :: (word8 s.size 4 ++ s.data.toList)) e := by
  obtain ⟨i0, hi, hz0, hz1, hz2⟩ := info5
  have hmo : Tryz.prog.follows .mixedOrders = true := by kernel_rfl
  have HO := Hid.intro (own_new1 (w.alloc (.cells #[.int .i64 3, .bool b, .int .i64 i, .string s, .slice p n c] 28)) (w.heap.size + 1) 3 (w.heap.size + 1) (by simp) (by omega))
  have HB : Hid (Below (w.heap.size + 1) (w.alloc (.cells #[.int .i64 3, .bool b, .int .i64 i, .string s, .slice p n c] 28)) ((w.alloc (.cells #[.int .i64 3, .bool b, .int .i64 i, .string s, .slice p n c] 28)).alloc (.cells #[.int .u8 3] 5))) := Hid.intro ((Below.refl _ _).alloc (by simp) _)
  have HF := Hid.intro (fun w' => four_any s.size w' (by omega))
  have hl4 : (bv (ii (word8 (s.size : Int) 4))).length = 4 * 1 := by simp [bv, ii, word_len]
  have h14 : ∀ u ∈ bv (ii (word8 (s.size : Int) 4)), u.oneCell' = true := fun u hu => by
    obtain ⟨c, -, rfl⟩ := List.mem_map.1 hu
    rfl
  have HC := fun (w' : World) (h : Below (w.heap.size + 1) (w.alloc (.cells #[.int .i64 3, .bool b, .int .i64 i, .string s, .slice p n c] 28)) w') => h.cell (p := ⟨w.heap.size, 3, none⟩) (Nat.lt_succ_self _)
  simp [go_sem] at HC
  go_enter Tryz.func68, Tryz.ntmps68
  go_wp2_with fail
  refine wp_region_noPanic ?_
  refine wp_region_held_drew (S := fun w' => Below (w.heap.size + 1) (w.alloc (.cells #[.int .i64 3, .bool b, .int .i64 i, .string s, .slice p n c] 28)) w') hmo HB.out.drew (fun hS => ?_)
  refine take_q 0 40 (.slice (some ⟨w.heap.size + 1, 0, none⟩) 1 1) ⟨_, rfl, rfl, Or.inl ⟨by rfl, fun w hSw => by go_simp⟩⟩ (by kernel_rfl) (by kernel_rfl) (by kernel_rfl) (fun _ _ _ h => h) hS ?_
  simp only [List.setIfInBounds_toArray, List.set_cons_succ, List.set_cons_zero]
  refine take_q 1 41 (.pointer (some ⟨w.heap.size, 3, none⟩)) ⟨_, rfl, rfl, Or.inl ⟨by rfl, fun w hSw => by go_simp⟩⟩ (by kernel_rfl) (by kernel_rfl) (by kernel_rfl) (fun _ _ _ h => h) hS ?_
  simp only [List.setIfInBounds_toArray, List.set_cons_succ, List.set_cons_zero]
  refine take_q 2 42 (.string s) ⟨_, rfl, rfl, Or.inl ⟨by rfl, fun w hSw => by have hc := HC w hSw; go_simp⟩⟩ (by kernel_rfl) (by kernel_rfl) (by kernel_rfl) (fun _ _ _ h => h) hS ?_
  simp only [List.setIfInBounds_toArray, List.set_cons_succ, List.set_cons_zero]
  refine take_q 3 43 (.int .i64 (s.size : Int)) ⟨_, rfl, rfl, Or.inl ⟨by rfl, fun w hSw => by go_simp⟩⟩ (by kernel_rfl) (by kernel_rfl) (by kernel_rfl) (fun _ _ _ h => h) hS ?_
  simp only [List.setIfInBounds_toArray, List.set_cons_succ, List.set_cons_zero]
  refine take_q 6 46 (.pointer (some ⟨w.heap.size, 3, none⟩)) ⟨_, rfl, rfl, Or.inl ⟨by rfl, fun w hSw => by go_simp⟩⟩ (by kernel_rfl) (by kernel_rfl) (by kernel_rfl) (fun _ _ _ h => h) hS ?_
  simp only [List.setIfInBounds_toArray, List.set_cons_succ, List.set_cons_zero]
  refine take_q 7 47 (.string s) ⟨_, rfl, rfl, Or.inl ⟨by rfl, fun w hSw => by have hc := HC w hSw; go_simp⟩⟩ (by kernel_rfl) (by kernel_rfl) (by kernel_rfl) (fun _ _ _ h => h) hS ?_
  simp only [List.setIfInBounds_toArray, List.set_cons_succ, List.set_cons_zero]
  have ho1 := HO.out.drew
  have hs1 : w.heap.size + 1 + 1 = (World.drew ((w.alloc (.cells #[.int .i64 3, .bool b, .int .i64 i, .string s, .slice p n c] 28)).alloc (.cells #[.int .u8 3] 5))).heap.size := by simp [World.drew]
  generalize World.drew _ = w1 at hS ho1 hs1 ⊢
  refine wpAnyH_ready (rs := [4]) (by kernel_rfl) (by simp) ?_
  refine AllReadyH.cons rfl (fun K' hK => ?_) AllReadyH.nil
  go_simp
  refine (HF.out _).mono ?_
  rintro e w2 ⟨rfl, hb2, hc2⟩
  have D2 := hS.trans (hb2.mono hS.size1)
  refine hK.out _ _ D2 (fun hS => ?_)
  clear hK K'
  (try simp only [Act.put, List.getElem_toArray, List.getElem_cons_succ, List.getElem_cons_zero, List.setIfInBounds_toArray, List.set_cons_succ, List.set_cons_zero])
  have ho2 := own_below ho1 hb2
  rw [← hs1] at hc2 ⊢
  refine wpAnyH_ready (rs := [5]) (by kernel_rfl) (by simp) ?_
  refine AllReadyH.cons rfl (fun K' hK => ?_) AllReadyH.nil
  rw [if_pos (by rfl)]
  refine wp_append_own (w := w2) _ _ 50 rfl (w.heap.size + 1) 5 i0 (.int .u8 0) 1 1 Tryz.underlying50 hi hz0 hz1 hz2 rfl (by decide) _ _ _ rfl ho2 ⟨w.heap.size + 1 + 1, 0, none⟩ 4 4 (bv (ii (word8 (s.size : Int) 4))) rfl hl4 hc2 h14 (by unfold maxLen; omega) (by omega) hS.size1 (fun v3 w3 ho3 hg3 _ => ?_)
  have D3 := grown_belowB hS hg3 (fun g hg => (ho2.lt g hg).1) hS.size1
  refine hK.out _ _ D3 (fun hS => ?_)
  clear hK K'
  (try simp only [Act.put, List.getElem_toArray, List.getElem_cons_succ, List.getElem_cons_zero, List.setIfInBounds_toArray, List.set_cons_succ, List.set_cons_zero])
  refine wpAnyH_ready (rs := [8]) (by kernel_rfl) (by simp) ?_
  refine AllReadyH.cons rfl (fun K' hK => ?_) AllReadyH.nil
  rw [if_pos (by rfl)]
  refine wp_append_str (w := w3) _ _ 50 9 rfl (w.heap.size + 1) 5 i0 Tryz.underlying50 Tryz.underlying9 hi hz0 hz1 hz2 v3 (1 + 4) _ rfl ho3 s rfl (by unfold maxLen; omega) (by omega) hS.size1 (fun v4 w4 ho4 hg4 => ?_)
  have D4 := grown_belowB hS hg4 (fun g hg => (ho3.lt g hg).1) hS.size1
  refine hK.out _ _ D4 (fun hS => ?_)
  clear hK K'
  (try simp only [Act.put, List.getElem_toArray, List.getElem_cons_succ, List.getElem_cons_zero, List.setIfInBounds_toArray, List.set_cons_succ, List.set_cons_zero])
  refine take_q 9 2 v4 ⟨_, rfl, rfl, Or.inl ⟨by rfl, fun w hSw => by go_simp⟩⟩ (by kernel_rfl) (by kernel_rfl) (by kernel_rfl) (fun _ _ _ h => h) hS ?_
  simp only [List.setIfInBounds_toArray, List.set_cons_succ, List.set_cons_zero]
  refine wpAnyH_done (by kernel_rfl) ?_ _
  refine np_w ?_
  have hz : s.data.toList.length = s.size := Array.length_toList
  have e4 : [Value.int .u8 3] ++ bv (ii (word8 (s.size : Int) 4)) ++ Lib.strCells s = bv (ii (3 :: (word8 (s.size : Int) 4 ++ s.data.toList))) := by
    rw [bv_str]
    simp [bv, ii]
  have l4 : 1 + 4 + s.size = (3 :: (word8 (s.size : Int) 4 ++ s.data.toList)).length := by
    rw [List.length_cons, List.length_append, word_len, hz]; omega
  rw [e4, l4] at ho4
  have HO4 := Hid.intro ho4
  have HD4 := Hid.intro D4
  clear ho4 D4 e4 l4 ho3 ho2 D3 D2 hg3 hg4 hS
  go_wp2
  go_ret
  exact ⟨v4, rfl, own_base HO4.out (Nat.le_succ _), below_bm HD4.out⟩

theorem bytes_at : ∀ n, RBytAt n
  | 0 => fun _ _ _ _ _ h => h.elim
  | n + 1 => by
    intro r t sv w hf hV hx
    obtain ⟨a1, c1, rfl, -, -⟩ := hV.form
    have hk := fit_kind hf
    obtain ⟨k, b, i, s, l⟩ := t
    simp only at hk
    unfold vv
    rcases hk with rfl | rfl | rfl | rfl | rfl | rfl
    · simpa [enc] using bytes_0 b i s a1 l.length c1 w
    · simpa [enc] using bytes_1 b i s a1 l.length c1 w
    · simpa [enc] using bytes_n 2 (Or.inl rfl) b i s a1 l.length c1 w
    · have hs : s.size ≤ 65536 := by
        rw [fit_flat r _ (by simp)] at hf
        simp [flat] at hf
        omega
      simpa [enc] using bytes_3 b i s a1 l.length c1 hs w
    · obtain ⟨r', rfl, hlen, hfit, -⟩ := fit_list hf rfl
      have h := bytes_4 n r' (bytes_at n) b i s l _ w hlen hfit hV.2 (by
        rw [enc] at hx
        simp only [show ¬ (4 : Int) = 1 from by decide, show ¬ ((4 : Int) = 2 ∨ (4 : Int) = 5) from by decide, show ¬ (4 : Int) = 3 from by decide, if_false, if_true, List.length_cons, List.length_append, word_len] at hx
        omega)
      simpa [enc] using h
    · simpa [enc] using bytes_n 5 (Or.inr rfl) b i s a1 l.length c1 w
set_option maxHeartbeats 1000000 in
/-- proctorref1.Encode. -/
theorem REncode_yes (n : Nat) (t : Tr) (sv : Value) (w : World) (hV : Vs w n t sv) (hf : fit 30 t = true) (hx : (enc n t).length ≤ 1000000000) :
    Calls Tryz.prog 29 #[vv t sv] w fun e w' => Below w.heap.size w w' ∧ ∃ v', e = .returned (.tuple #[v', .int .i64 0]) ∧ w'.ownsRow w.heap.size 5 1 v' (enc n t).length (bv (ii (enc n t))) := by
  obtain ⟨a1, n1, rfl, -, -⟩ := hV.form
  have HC := Hid.intro (fun w' hb => rcheck_any n t _ w' (Vs.below (w' := w') hb _ _ _ hV))
  have HE2 := Hid.intro (fun w' (hb : Below w.heap.size w w') => bytes_at n 30 t _ w' hf (Vs.below (w' := w') hb _ _ _ hV) hx)
  rw [hf] at HC
  clear hV hx hf
  obtain ⟨k, b, i, s, l⟩ := t
  unfold vv at *
  go_enter Tryz.func29, Tryz.ntmps29
  go_wp2_with fail
  refine (HC.out _ ((Below.refl _ _).alloc (Nat.le_refl _) _)).mono ?_
  rintro e w1 ⟨rfl, hb1⟩
  obtain ⟨hc, hf⟩ := bcell hb1 (N := w.heap.size + 1) (by simp)
  have HB := Hid.intro (hb1.via ((Below.refl _ _).alloc (Nat.le_refl _) _))
  clear hb1
  go_wp2_with fail
  refine (HE2.out w1 HB.out).mono ?_
  rintro e w2 ⟨v2, rfl, ho2, hb2⟩
  have HO2 := Hid.intro (own_base ho2 HB.out.size)
  have HB2 := Hid.intro (hb2.via HB.out)
  clear ho2 hb2
  go_wp2
  go_ret2
  exact ⟨HB2.out, v2, rfl, HO2.out⟩
set_option maxHeartbeats 1000000 in
theorem REncode_no (n : Nat) (t : Tr) (sv : Value) (w : World) (hV : Vs w n t sv) (hf : fit 30 t = false) :
    Calls Tryz.prog 29 #[vv t sv] w fun e w' => Below w.heap.size w w' ∧ e = .returned (.tuple #[.slice none 0 0, .int .i64 1]) := by
  obtain ⟨a1, n1, rfl, -, -⟩ := hV.form
  have HC := Hid.intro (fun w' hb => rcheck_any n t _ w' (Vs.below (w' := w') hb _ _ _ hV))
  rw [hf] at HC
  clear hV hf
  obtain ⟨k, b, i, s, l⟩ := t
  unfold vv at *
  go_enter Tryz.func29, Tryz.ntmps29
  go_wp2_with fail
  refine (HC.out _ ((Below.refl _ _).alloc (Nat.le_refl _) _)).mono ?_
  rintro e w1 ⟨rfl, hb1⟩
  have HB := Hid.intro (hb1.via ((Below.refl _ _).alloc (Nat.le_refl _) _))
  clear hb1
  go_wp2
  go_ret2
  exact ⟨HB.out, rfl⟩
end Go.Proofs.YtciibcfmlhbnkaaGreatDoor
