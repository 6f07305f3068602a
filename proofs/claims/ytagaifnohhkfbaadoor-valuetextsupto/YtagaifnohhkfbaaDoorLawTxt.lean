/- proctorlaw1.ValueTexts: it tells true. -/
import Derived.Test.YtagaifnohhkfbaaDoorTTex
import Derived.Test.YtagaifnohhkfbaaDoorTInj
import Derived.Test.YtagaifnohhkfbaaDoorRSame
import Derived.Test.YtagaifnohhkfbaaDoorWakes
import Derived.Test.YtagaifnohhkfbaaDoorSize
import Derived.Test.YtagaifnohhkfbaaDoorRDec0
namespace Go.Proofs.YtagaifnohhkfbaaDoor
open Go.RowKit

theorem below_by {w w' : World} {o : Obj} (h : Below (w.heap.size + 1) (w.alloc o) w') : Below w.heap.size w w' :=
  ((Below.refl _ _).alloc (Nat.le_refl _) o).trans (h.mono (Nat.le_succ _))
theorem Tb.on {w w' : World} (h : Tb w) (hb : Below w.heap.size w w') : Tb w' := Lib.tabBelow_of_tabIs (h w' hb)
/-- The texts of the first values, put together so far. -/
def sK (n : Nat) (ts : List Tr) (k : Nat) : List UInt8 := 91 :: sepB ((ts.take k).map (tB n))
def sS (n : Nat) (ts : List Tr) (k : Nat) : ByteArray := ⟨(sK n ts k).toArray⟩
def fK (ts : List Tr) (k : Nat) : Bool := decide (ts.length ≤ 4096) && (ts.take k).all (fit 30)
theorem sameL_eqT {n : Nat} : ∀ (xs ys : List Tr), (∀ x y, x ∈ xs → y ∈ ys → same n x y = true → x = y) → sameL (same n) xs ys = true → xs = ys
  | [], [], _, _ => rfl
  | [], _ :: _, _, h => by cases h
  | _ :: _, [], _, h => by cases h
  | x :: xs, y :: ys, hi, h => by
    rw [sameL, Bool.and_eq_true] at h
    rw [hi x y (by simp) (by simp) h.1, sameL_eqT xs ys (fun a b ha hb => hi a b (by simp [ha]) (by simp [hb])) h.2]
theorem same_eqT : ∀ (n : Nat) (a b : Tr), same n a b = true → a = b
  | 0, _, _, h => by cases h
  | n + 1, ⟨k, b, i, s, l⟩, ⟨k', b', i', s', l'⟩, h => by
    rw [same] at h
    simp only [Bool.and_eq_true, beq_iff_eq] at h
    obtain ⟨⟨⟨⟨rfl, rfl⟩, rfl⟩, h4⟩, h5⟩ := h
    have e : s = s' := by
      rw [ByteArray.toList_eq, ByteArray.toList_eq] at h4
      cases s; cases s'
      congr 1
      exact Array.toList_inj.1 h4
    have e2 : l = l' := sameL_eqT l l' (fun x y _ _ h => same_eqT n x y h) h5
    subst e; subst e2; rfl
theorem tS_no {n : Nat} {t : Tr} (h : fit 30 t = false) : tS n t = ⟨#[]⟩ := by
  unfold tS tB
  rw [h]; rfl
theorem tS_yes {n : Nat} {t : Tr} (hd : dep n t) (h : fit 30 t = true) : ((tS n t).toList == []) = false := by
  cases n with
  | zero => exact hd.elim
  | succ n =>
    obtain ⟨c, l, e, -, -⟩ := txt_cons n 30 t h
    unfold tS tB
    rw [if_pos h, e, ByteArray.toList_eq]
    simp
theorem tS_eq {n : Nat} {t t' : Tr} (hd : dep n t) (hd' : dep n t') (h : fit 30 t = true) : ((tS n t).toList == (tS n t').toList) = same n t t' := by
  rw [Bool.eq_iff_iff, beq_iff_eq]
  constructor
  · intro e
    have e2 : tB n t = tB n t' := by
      have h1 : (tS n t).toList = tB n t := by rw [ByteArray.toList_eq]; simp [tS]
      have h2 : (tS n t').toList = tB n t' := by rw [ByteArray.toList_eq]; simp [tS]
      rw [← h1, ← h2, e]
    cases hf : fit 30 t' with
    | true =>
      unfold tB at e2
      rw [if_pos h, if_pos hf] at e2
      rw [txt_inj hd hd' h hf e2]
      exact same_refl n t' hd'
    | false =>
      exfalso
      cases n with
      | zero => exact hd
      | succ n =>
        obtain ⟨c, l, e3, -, -⟩ := txt_cons n 30 t h
        unfold tB at e2
        rw [if_pos h, hf, e3] at e2
        cases e2
  · intro e
    rw [same_eqT n t t' e]
/-- A value of the argument, wherever the walk stands. -/
structure ElX (w wr : World) (b o k n : Nat) (t : Tr) (x : Option Addr) (c : Nat) (bx : Value) : Prop where
  box : wr.cell? ⟨w.heap.size, 0, none⟩ = some bx
  cel : Cel wr b (o + k * 5) t (.slice x t.l.length c)
  vs : Vs wr n t (.slice x t.l.length c)
theorem app_ba (a b : List UInt8) : (⟨(a ++ b).toArray⟩ : ByteArray) = ⟨a.toArray⟩ ++ ⟨b.toArray⟩ := by
  apply ByteArray.ext
  simp [ByteArray.data_append]
theorem sum_part {n : Nat} {t : Tr} : ∀ {ts : List Tr}, t ∈ ts → (txt n t).length + 2 ≤ (ts.map fun t => (txt n t).length + 2).sum
  | [], h => by cases h
  | x :: xs, h => by
    rw [List.map_cons, List.sum_cons]
    rcases List.mem_cons.1 h with rfl | h
    · omega
    · have := sum_part (n := n) h
      omega
theorem tB_le (n : Nat) (t : Tr) : (tB n t).length ≤ (txt n t).length := by unfold tB; split <;> simp
theorem sepB_sum (n : Nat) : ∀ ts : List Tr, (sepB (ts.map (tB n))).length ≤ (ts.map fun t => (txt n t).length + 2).sum
  | [] => by simp [sepB]
  | x :: xs => by
    have h : ∀ l : List Tr, ((l.map (tB n)).flatMap fun y => 44 :: 32 :: y).length ≤ (l.map fun t => (txt n t).length + 2).sum := fun l => by
      induction l with
      | nil => exact Nat.le_refl _
      | cons a l ih => have := tB_le n a; simp only [List.map_cons, List.flatMap_cons, List.length_append, List.length_cons, List.sum_cons] at ih ⊢; omega
    have h1 := h xs
    have h2 := tB_le n x
    rw [List.map_cons, sepB, List.length_append, List.map_cons, List.sum_cons]
    omega
theorem take_sum (n : Nat) : ∀ (ts : List Tr) (k : Nat), ((ts.take k).map fun t => (txt n t).length + 2).sum ≤ (ts.map fun t => (txt n t).length + 2).sum
  | ts, 0 => by simp
  | [], k + 1 => by simp
  | x :: xs, k + 1 => by
    have := take_sum n xs k
    simp only [List.take_succ_cons, List.map_cons, List.sum_cons]
    omega
theorem sS_le (n : Nat) (ts : List Tr) (k : Nat) (hz : (ts.map fun t => (txt n t).length + 2).sum ≤ 700000000) : (sS n ts k).size ≤ 700000001 := by
  show (sK n ts k).toArray.size ≤ _
  rw [List.size_toArray, sK, List.length_cons]
  have h1 := sepB_sum n (ts.take k)
  have h2 := take_sum n ts k
  omega

theorem tB_map {n : Nat} {ts : List Tr} (h : ∀ t ∈ ts, fit 30 t = true) : ts.map (tB n) = ts.map (txt n) := List.map_congr_left fun t ht => by unfold tB; rw [if_pos (h t ht)]
theorem lst_txt (n : Nat) (ts : List Tr) : txt (n + 1) ⟨4, false, 0, ⟨#[]⟩, ts⟩ = 91 :: (sepB (ts.map (txt n)) ++ [93]) := by simp [txt]
theorem lst_eq (n : Nat) (ts : List Tr) : fit 30 ⟨4, false, 0, ⟨#[]⟩, ts⟩ = true → fK ts ts.length = true → tS (n + 1) ⟨4, false, 0, ⟨#[]⟩, ts⟩ = sS n ts ts.length ++ ⟨#[93]⟩ := by
  intro hf hk
  have hall : ∀ t ∈ ts, fit 30 t = true := by
    unfold fK at hk
    rw [List.take_length, Bool.and_eq_true, List.all_eq_true] at hk
    exact hk.2
  unfold tS tB sS sK
  rw [if_pos hf, lst_txt, List.take_length, tB_map hall]
  exact app_ba (91 :: sepB (ts.map (txt n))) [93]
theorem fit_up : ∀ (r : Nat) (t : Tr), fit r t = true → fit (r + 1) t = true
  | 0, t, h => by
    have h4 : ¬ t.k = 4 := fun h4 => by rw [fit] at h; simp [flat, h4] at h
    rw [fit_flat _ t h4] at h ⊢
    exact h
  | r + 1, t, h => by
    by_cases h4 : t.k = 4
    · rw [fit, if_pos h4] at h ⊢
      simp only [Bool.and_eq_true, List.all_eq_true] at h ⊢
      exact ⟨⟨⟨⟨h.1.1.1.1, fun c hc => fit_up r c (h.1.1.1.2 c hc)⟩, h.1.1.2⟩, h.1.2⟩, h.2⟩
    · rw [fit_flat _ t h4] at h ⊢
      exact h
theorem lst_len (n : Nat) (ts : List Tr) (hf : fit 30 ⟨4, false, 0, ⟨#[]⟩, ts⟩ = true) (hz : (ts.map fun t => (txt n t).length + 2).sum ≤ 700000000) : (txt (n + 1) ⟨4, false, 0, ⟨#[]⟩, ts⟩).length ≤ 700000002 := by
  obtain ⟨r, hr, -, hfit, -⟩ := fit_list hf rfl
  obtain rfl : r = 29 := by omega
  have h1 := sepB_sum n ts
  rw [tB_map (fun t ht => fit_up 29 t (hfit t ht))] at h1
  change (sepB (ts.map (txt n))).length ≤ _ at h1
  rw [lst_txt, List.length_cons, List.length_append, List.length_singleton]
  omega

set_option maxRecDepth 20000 in
set_option maxHeartbeats 4000000 in
theorem valueTexts_walk (n : Nat) (ts : List Tr) (sv : Value) (w : World) (h : Lv w (Vs w n) ts sv) (hT : Tb w) (hz : (ts.map fun t => (txt n t).length + 2).sum ≤ 700000000) :
    Calls Tryd.prog 3 #[.agg #[sv]] w fun e w' => e = .returned (.bool true) ∧ Below w.heap.size w w' := by
  have HL := Hid.intro (fun w' hb => light_any n ts sv w' (h.mono hb (fun t v => Vs.below hb n t v)))
  have HV := Hid.intro h
  have hmo : Tryd.prog.follows .mixedOrders = true := by kernel_rfl
  obtain ⟨a0, cap, rfl, h2, h3, h4⟩ := h
  unfold maxLen at h3
  have HE := Hid.intro h4
  have HZ := Hid.intro hz
  clear h4 hz
  go_enter Tryd.func3, Tryd.ntmps3
  go_wp2_with fail
  refine (HL.out _ ((Below.refl _ _).alloc (Nat.le_refl _) _)).mono ?_
  rintro e w1 ⟨⟨bl, rfl⟩, hb1⟩
  have HB1 := Hid.intro (hb1.mono (B' := w.heap.size + 1) (by simp))
  clear hb1
  cases bl
  · go_wp2_with fail
    refine (wakes_any _).mono ?_
    rintro e w2 ⟨rfl, hb2⟩
    go_wp2_with fail
    go_ret
    exact ⟨rfl, hb2.via (below_by HB1.out)⟩
  · have hbox := HB1.out.cell (p := ⟨w.heap.size, 0, none⟩) (Nat.lt_succ_self _)
    simp at hbox
    have hlw : w.heap.size < w1.heap.size := HB1.out.size1
    go_wp2_with fail
    go_loopw [3, 4, 5] (fun u f i wr => ∃ k : Nat, i = .int .i64 (k : Int) ∧ k ≤ ts.length ∧ u = .string (sS n ts k) ∧ f = .bool (fK ts k) ∧ Hid (Below (w.heap.size + 1) (w.alloc (.cells #[.slice a0 ts.length cap] 24)) wr)) (fun _ _ i _ => ts.length - (intOf i).toNat)
    case atStart => exact ⟨0, rfl, Nat.zero_le _, by simp [sS, sK, sepB], congrArg Value.bool (by rw [fK, List.take_zero, List.all_nil, Bool.and_true]; exact decide_eq_decide.2 (by omega)), HB1⟩
    case round =>
      obtain ⟨k, rfl, hk, rfl, rfl, hbw⟩ := hrel
      have hbox := hbw.out.cell (p := ⟨w.heap.size, 0, none⟩) (Nat.lt_succ_self _)
      simp at hbox
      have hlw : w.heap.size < wr.heap.size := hbw.out.size1
      by_cases hlt : k < ts.length
      · obtain ⟨b, o, rfl, e1⟩ := HE.out (by omega)
        have hlt' : (k : Int) < (ts.length : Int) := by omega
        have VA : Hid (∀ q (hq : q < ts.length), ∃ x c, ∀ wx, Below (w.heap.size + 1) (w.alloc (.cells #[.slice (some ⟨b, o, none⟩) ts.length cap] 24)) wx → ElX w wx b o q n ts[q] x c (.slice (some ⟨b, o, none⟩) ts.length cap)) := Hid.intro (fun q hq => by
          obtain ⟨s1, c1, v1⟩ := e1 q hq
          obtain ⟨x1, n1, rfl, -, -⟩ := v1.form
          refine ⟨x1, n1, fun wx hb => ⟨?_, c1.below (below_by hb), Vs.below (below_by hb) _ _ _ v1⟩⟩
          have := hb.cell (p := ⟨w.heap.size, 0, none⟩) (Nat.lt_succ_self _)
          simpa using this)
        have HTB : Hid (∀ wx, Below (w.heap.size + 1) (w.alloc (.cells #[.slice (some ⟨b, o, none⟩) ts.length cap] 24)) wx → Tb wx) := Hid.intro (fun wx hb => hT.on (below_by hb))
        have HDP : Hid (∀ q (hq : q < ts.length), dep n ts[q]) := Hid.intro (fun q hq => by
          obtain ⟨s1, c1, v1⟩ := e1 q hq
          exact Vs.dep v1)
        have hdep := HDP.out k hlt
        have hsz := sum_part (n := n) (List.getElem_mem hlt)
        have HZZ := HZ.out
        have HZQ : Hid (∀ q (hq : q < ts.length), (txt n ts[q]).length ≤ 800000000) := Hid.intro (fun q hq => by
          have := sum_part (n := n) (List.getElem_mem hq)
          omega)
        obtain ⟨x1, n1, vk⟩ := VA.out k hlt
        have VK := Hid.intro vk
        have HWo := Hid.intro hbw.out
        obtain ⟨p1, p2, p3, p4, p5⟩ := (vk wr hbw.out).cel
        have hlb : b < wr.heap.size := cell_lt p1
        have HT1 := Hid.intro (fun wx hb => Text_any n ts[k] _ wx (vk wx hb).vs (HTB.out wx hb) (fun _ => HZQ.out k hlt))
        have HC1 := Hid.intro (fun wx hb => check_any n ts[k] _ wx (vk wx hb).vs)
        have hsk : sK n ts (k + 1) = (if k = 0 then sK n ts k else sK n ts k ++ [44, 32]) ++ tB n ts[k] := by
          unfold sK
          rw [List.take_succ_eq_append_getElem hlt, List.map_append, List.map_cons, List.map_nil, sepB_snoc]
          by_cases h0 : k = 0
          · subst h0; simp [sepB]
          · rw [if_neg h0, if_neg (fun e => by have := congrArg List.length e; rw [List.length_map, List.length_take, List.length_nil] at this; omega)]
            simp
        have hfk : fK ts (k + 1) = (fK ts k && fit 30 ts[k]) := by
          unfold fK
          rw [List.take_succ_eq_append_getElem hlt, List.all_append]
          simp [Bool.and_assoc]
        have HSK : Hid (sS n ts (k + 1) = (if k = 0 then sS n ts k else sS n ts k ++ ⟨#[44, 32]⟩) ++ tS n ts[k]) := Hid.intro (by
          unfold sS tS
          rw [hsk]
          split
          · exact app_ba _ _
          · rw [app_ba, app_ba])
        have hss := sS_le n ts k HZZ
        have htt : (tS n ts[k]).size ≤ 700000000 := by
          have : (tB n ts[k]).length ≤ (txt n ts[k]).length := by unfold tB; split <;> simp
          show (tB n ts[k]).toArray.size ≤ _
          rw [List.size_toArray]; omega
        have HFK := Hid.intro hfk
        have ik0 : (0 : Int) ≤ (k : Int) := by omega
        clear e1 hsz hsk hfk HZZ vk
        generalize sS n ts k = S0 at HSK hss
        generalize fK ts k = f0 at HFK
        cases hf : fit 30 ts[k] with
        | true =>
          have hne := tS_yes hdep hf
          rw [hf] at HC1 HFK
          have HEQ : Hid (∀ q (hq : q < ts.length), dep n ts[q] → ((tS n ts[k]).toList == (tS n ts[q]).toList) = same n ts[k] ts[q]) := Hid.intro (fun q hq hd => tS_eq hdep hd hf)
          generalize tS n ts[k] = Tk at HT1 hne HSK HEQ htt
          generalize ts[k] = t1 at *
          cases f0 <;> by_cases h0 : k = 0
          · subst h0
            simp only [Nat.zero_mul, Nat.add_zero] at p1 p2 p3 p4 p5
            go_wp2_with fail
            refine (HT1.out wr HWo.out).mono ?_
            rintro e w2 ⟨rfl, hb2⟩
            have HW2 : Hid (Below (w.heap.size + 1) (w.alloc (.cells #[.slice (some ⟨b, o, none⟩) ts.length cap] 24)) w2) := Hid.intro (HWo.out.trans (hb2.mono HWo.out.size1))
            have hbox2 := (VK.out w2 HW2.out).box
            obtain ⟨p1, p2, p3, p4, p5⟩ := (VK.out w2 HW2.out).cel
            simp only [Nat.zero_mul, Nat.add_zero] at p1 p2 p3 p4 p5
            have hlw2 : w.heap.size < w2.heap.size := Nat.lt_of_lt_of_le hlw hb2.size
            have hlb2 : b < w2.heap.size := Nat.lt_of_lt_of_le hlb hb2.size
            go_wp2_with fail
            refine (HC1.out w2 HW2.out).mono ?_
            rintro e w3 ⟨rfl, hb3⟩
            have HW3 : Hid (Below (w.heap.size + 1) (w.alloc (.cells #[.slice (some ⟨b, o, none⟩) ts.length cap] 24)) w3) := Hid.intro (HW2.out.trans (hb3.mono HW2.out.size1))
            clear hb2 hb3 p1 p2 p3 p4 p5 hbox hbox2 hbw
            go_wp2_with fail
            go_loopw [7] (fun i w' => ∃ q : Nat, q ≤ 0 ∧ q ≤ 10 ∧ i = .int .i64 q ∧ Hid (Below (w.heap.size + 1) (w.alloc (.cells #[.slice (some ⟨b, o, none⟩) ts.length cap] 24)) w')) (fun i _ => 10 - (intOf i).toNat)
            case atStart => exact ⟨0, Nat.zero_le _, Nat.zero_le _, rfl, HW3⟩
            case round =>
              obtain ⟨q, hq, hq10, rfl, hbq⟩ := hrel
              obtain rfl : q = 0 := by omega
              have HW4 := Hid.intro hbq.out
              go_wp2_with fail
              go_roundw
              case rel => exact ⟨0 + 1, by go_num, hlt, by rw [HSK.out]; simp, by rw [HFK.out]; simp, HW4⟩
              case measure => simp [intOf]; omega
          · have hk0 : decide (0 < k) = true := decide_eq_true (by omega)
            have hk1 : decide ((0 : Int) < (k : Int)) = true := decide_eq_true (by omega)
            go_wp2_with fail
            refine (HT1.out wr HWo.out).mono ?_
            rintro e w2 ⟨rfl, hb2⟩
            have HW2 : Hid (Below (w.heap.size + 1) (w.alloc (.cells #[.slice (some ⟨b, o, none⟩) ts.length cap] 24)) w2) := Hid.intro (HWo.out.trans (hb2.mono HWo.out.size1))
            have hbox2 := (VK.out w2 HW2.out).box
            obtain ⟨p1, p2, p3, p4, p5⟩ := (VK.out w2 HW2.out).cel
            have hlw2 : w.heap.size < w2.heap.size := Nat.lt_of_lt_of_le hlw hb2.size
            have hlb2 : b < w2.heap.size := Nat.lt_of_lt_of_le hlb hb2.size
            go_wp2_with fail
            refine (HC1.out w2 HW2.out).mono ?_
            rintro e w3 ⟨rfl, hb3⟩
            have HW3 : Hid (Below (w.heap.size + 1) (w.alloc (.cells #[.slice (some ⟨b, o, none⟩) ts.length cap] 24)) w3) := Hid.intro (HW2.out.trans (hb3.mono HW2.out.size1))
            clear hb2 hb3 p1 p2 p3 p4 p5 hbox hbox2 hbw
            go_wp2_with fail
            go_loopw [7] (fun i w' => ∃ q : Nat, q ≤ k ∧ q ≤ 10 ∧ i = .int .i64 q ∧ Hid (Below (w.heap.size + 1) (w.alloc (.cells #[.slice (some ⟨b, o, none⟩) ts.length cap] 24)) w')) (fun i _ => 10 - (intOf i).toNat)
            case atStart => exact ⟨0, Nat.zero_le _, Nat.zero_le _, rfl, HW3⟩
            case round =>
              obtain ⟨q, hq, hq10, rfl, hbq⟩ := hrel
              by_cases hlq : q < k
              · by_cases hlq2 : q < 10
                · obtain ⟨x2, n2, vq⟩ := VA.out q (by omega)
                  have VQ := Hid.intro (fun wx (hb : Below wr.heap.size wr wx) => vq wx (hbq.out.trans (hb.mono hbq.out.size1)))
                  have VK2 := Hid.intro (fun wx (hb : Below wr.heap.size wr wx) => VK.out wx (hbq.out.trans (hb.mono hbq.out.size1)))
                  have HQ := Hid.intro (fun wx (hb : Below wr.heap.size wr wx) => Text_any n (ts[q]'(by omega)) _ wx (VQ.out wx hb).vs (HTB.out wx (hbq.out.trans (hb.mono hbq.out.size1))) (fun _ => HZQ.out q (by omega)))
                  have HSA := Hid.intro (fun wx (hb : Below wr.heap.size wr wx) => rsame_any n t1 (ts[q]'(by omega)) _ _ wx (VK2.out wx hb).vs (VQ.out wx hb).vs)
                  have HEE := Hid.intro (HEQ.out q (by omega) (HDP.out q (by omega)))
                  clear vq
                  generalize tS n (ts[q]'(by omega)) = Tq at HQ HEE
                  generalize same n t1 (ts[q]'(by omega)) = y at HSA HEE
                  generalize ts[q]'(by omega) = t2 at HQ HSA VQ
                  have iq0 : (0 : Int) ≤ (q : Int) := by omega
                  have iq1 : (q : Int) < (k : Int) := by omega
                  have iq2 : (q : Int) < 10 := by omega
                  have iq3 : (q : Int) < (ts.length : Int) := by omega
                  have ik3 : (k : Int) < (ts.length : Int) := by omega
                  go_wp2_with fail
                  refine wp_region_noPanic ?_
                  refine wp_region_held_drew (S := fun w' => Below wr.heap.size wr w') hmo (Below.refl _ _).drew (fun hS => ?_)
                  refine take_x 0 60 (.string Tk) ⟨_, rfl, rfl, Or.inl ⟨by rfl, fun wx hSw => by go_simp⟩⟩ (by kernel_rfl) (by kernel_rfl) (by kernel_rfl) (fun _ _ _ h => h) hS ?_
                  simp only [List.setIfInBounds_toArray, List.set_cons_succ, List.set_cons_zero]
                  refine take_x 1 61 (.bool true) ⟨_, rfl, rfl, Or.inl ⟨by rfl, fun wx hSw => by go_simp⟩⟩ (by kernel_rfl) (by kernel_rfl) (by kernel_rfl) (fun _ _ _ h => h) hS ?_
                  simp only [List.setIfInBounds_toArray, List.set_cons_succ, List.set_cons_zero]
                  refine take_x 2 62 (.bool true) ⟨_, rfl, rfl, Or.inl ⟨by rfl, fun wx hSw => by go_simp⟩⟩ (by kernel_rfl) (by kernel_rfl) (by kernel_rfl) (fun _ _ _ h => h) hS ?_
                  simp only [List.setIfInBounds_toArray, List.set_cons_succ, List.set_cons_zero]
                  refine take_x 3 63 (.string Tk) ⟨_, rfl, rfl, Or.inl ⟨by rfl, fun wx hSw => by go_simp⟩⟩ (by kernel_rfl) (by kernel_rfl) (by kernel_rfl) (fun _ _ _ h => h) hS ?_
                  simp only [List.setIfInBounds_toArray, List.set_cons_succ, List.set_cons_zero]
                  refine take_x 4 64 (.pointer (some ⟨w.heap.size, 0, none⟩)) ⟨_, rfl, rfl, Or.inl ⟨by rfl, fun wx hSw => by go_simp⟩⟩ (by kernel_rfl) (by kernel_rfl) (by kernel_rfl) (fun _ _ _ h => h) hS ?_
                  simp only [List.setIfInBounds_toArray, List.set_cons_succ, List.set_cons_zero]
                  refine take_x 5 65 (.slice (some ⟨b, o, none⟩) ts.length cap) ⟨_, rfl, rfl, Or.inl ⟨by rfl, fun wx hSw => by have hc := (VQ.out wx hSw).box; go_simp⟩⟩ (by kernel_rfl) (by kernel_rfl) (by kernel_rfl) (fun _ _ _ h => h) hS ?_
                  simp only [List.setIfInBounds_toArray, List.set_cons_succ, List.set_cons_zero]
                  refine take_x 6 66 (.int .i64 (q : Int)) ⟨_, rfl, rfl, Or.inl ⟨by rfl, fun wx hSw => by go_simp⟩⟩ (by kernel_rfl) (by kernel_rfl) (by kernel_rfl) (fun _ _ _ h => h) hS ?_
                  simp only [List.setIfInBounds_toArray, List.set_cons_succ, List.set_cons_zero]
                  refine take_x 7 67 (.pointer (some ⟨b, o + q * 5, none⟩)) ⟨_, rfl, rfl, Or.inl ⟨by rfl, fun wx hSw => by go_simp⟩⟩ (by kernel_rfl) (by kernel_rfl) (by kernel_rfl) (fun _ _ _ h => h) hS ?_
                  simp only [List.setIfInBounds_toArray, List.set_cons_succ, List.set_cons_zero]
                  refine take_x 8 68 (.agg #[.int .i64 t2.k, .bool t2.b, .int .i64 t2.i, .string t2.s, .slice x2 t2.l.length n2]) ⟨_, rfl, rfl, Or.inl ⟨by rfl, fun wx hSw => by obtain ⟨r1, r2, r3, r4, r5⟩ := (VQ.out wx hSw).cel; go_simp⟩⟩ (by kernel_rfl) (by kernel_rfl) (by kernel_rfl) (fun _ _ _ h => h) hS ?_
                  simp only [List.setIfInBounds_toArray, List.set_cons_succ, List.set_cons_zero]
                  refine take_x 11 71 (.pointer (some ⟨w.heap.size, 0, none⟩)) ⟨_, rfl, rfl, Or.inl ⟨by rfl, fun wx hSw => by go_simp⟩⟩ (by kernel_rfl) (by kernel_rfl) (by kernel_rfl) (fun _ _ _ h => h) hS ?_
                  simp only [List.setIfInBounds_toArray, List.set_cons_succ, List.set_cons_zero]
                  refine take_x 12 72 (.slice (some ⟨b, o, none⟩) ts.length cap) ⟨_, rfl, rfl, Or.inl ⟨by rfl, fun wx hSw => by have hc := (VK2.out wx hSw).box; go_simp⟩⟩ (by kernel_rfl) (by kernel_rfl) (by kernel_rfl) (fun _ _ _ h => h) hS ?_
                  simp only [List.setIfInBounds_toArray, List.set_cons_succ, List.set_cons_zero]
                  refine take_x 13 73 (.int .i64 (k : Int)) ⟨_, rfl, rfl, Or.inl ⟨by rfl, fun wx hSw => by go_simp⟩⟩ (by kernel_rfl) (by kernel_rfl) (by kernel_rfl) (fun _ _ _ h => h) hS ?_
                  simp only [List.setIfInBounds_toArray, List.set_cons_succ, List.set_cons_zero]
                  refine take_x 14 74 (.pointer (some ⟨b, o + k * 5, none⟩)) ⟨_, rfl, rfl, Or.inl ⟨by rfl, fun wx hSw => by go_simp⟩⟩ (by kernel_rfl) (by kernel_rfl) (by kernel_rfl) (fun _ _ _ h => h) hS ?_
                  simp only [List.setIfInBounds_toArray, List.set_cons_succ, List.set_cons_zero]
                  refine take_x 15 75 (.agg #[.int .i64 t1.k, .bool t1.b, .int .i64 t1.i, .string t1.s, .slice x1 t1.l.length n1]) ⟨_, rfl, rfl, Or.inl ⟨by rfl, fun wx hSw => by obtain ⟨r1, r2, r3, r4, r5⟩ := (VK2.out wx hSw).cel; go_simp⟩⟩ (by kernel_rfl) (by kernel_rfl) (by kernel_rfl) (fun _ _ _ h => h) hS ?_
                  simp only [List.setIfInBounds_toArray, List.set_cons_succ, List.set_cons_zero]
                  refine take_x 16 76 (.pointer (some ⟨w.heap.size, 0, none⟩)) ⟨_, rfl, rfl, Or.inl ⟨by rfl, fun wx hSw => by go_simp⟩⟩ (by kernel_rfl) (by kernel_rfl) (by kernel_rfl) (fun _ _ _ h => h) hS ?_
                  simp only [List.setIfInBounds_toArray, List.set_cons_succ, List.set_cons_zero]
                  refine take_x 17 77 (.slice (some ⟨b, o, none⟩) ts.length cap) ⟨_, rfl, rfl, Or.inl ⟨by rfl, fun wx hSw => by have hc := (VQ.out wx hSw).box; go_simp⟩⟩ (by kernel_rfl) (by kernel_rfl) (by kernel_rfl) (fun _ _ _ h => h) hS ?_
                  simp only [List.setIfInBounds_toArray, List.set_cons_succ, List.set_cons_zero]
                  refine take_x 18 78 (.int .i64 (q : Int)) ⟨_, rfl, rfl, Or.inl ⟨by rfl, fun wx hSw => by go_simp⟩⟩ (by kernel_rfl) (by kernel_rfl) (by kernel_rfl) (fun _ _ _ h => h) hS ?_
                  simp only [List.setIfInBounds_toArray, List.set_cons_succ, List.set_cons_zero]
                  refine take_x 19 79 (.pointer (some ⟨b, o + q * 5, none⟩)) ⟨_, rfl, rfl, Or.inl ⟨by rfl, fun wx hSw => by go_simp⟩⟩ (by kernel_rfl) (by kernel_rfl) (by kernel_rfl) (fun _ _ _ h => h) hS ?_
                  simp only [List.setIfInBounds_toArray, List.set_cons_succ, List.set_cons_zero]
                  refine take_x 20 80 (.agg #[.int .i64 t2.k, .bool t2.b, .int .i64 t2.i, .string t2.s, .slice x2 t2.l.length n2]) ⟨_, rfl, rfl, Or.inl ⟨by rfl, fun wx hSw => by obtain ⟨r1, r2, r3, r4, r5⟩ := (VQ.out wx hSw).cel; go_simp⟩⟩ (by kernel_rfl) (by kernel_rfl) (by kernel_rfl) (fun _ _ _ h => h) hS ?_
                  simp only [List.setIfInBounds_toArray, List.set_cons_succ, List.set_cons_zero]
                  refine wpAnyH_ready (rs := [9]) (by kernel_rfl) (by simp) ?_
                  refine AllReadyH.cons rfl (fun K' hK => ?_) AllReadyH.nil
                  go_simp
                  refine (HQ.out _ hS).mono ?_
                  rintro e w21 ⟨rfl, hc21⟩
                  have D21 := hS.trans (hc21.mono hS.size)
                  refine hK.out _ _ D21 (fun hS => ?_)
                  clear hK K'
                  (try simp only [Act.put, List.setIfInBounds_toArray, List.set_cons_succ, List.set_cons_zero])
                  refine take_x 10 70 (.bool y) ⟨_, rfl, rfl, Or.inl ⟨by rfl, fun wx hSw => by have he := HEE.out; go_simp⟩⟩ (by kernel_rfl) (by kernel_rfl) (by kernel_rfl) (fun _ _ _ h => h) hS ?_
                  simp only [List.setIfInBounds_toArray, List.set_cons_succ, List.set_cons_zero]
                  refine wpAnyH_ready (rs := [21]) (by kernel_rfl) (by simp) ?_
                  refine AllReadyH.cons rfl (fun K' hK => ?_) AllReadyH.nil
                  go_simp
                  refine (HSA.out _ hS).mono ?_
                  rintro e w22 ⟨rfl, hc22⟩
                  have D22 := hS.trans (hc22.mono hS.size)
                  refine hK.out _ _ D22 (fun hS => ?_)
                  clear hK K'
                  (try simp only [Act.put, List.setIfInBounds_toArray, List.set_cons_succ, List.set_cons_zero])
                  refine take_x 22 82 (.bool false) ⟨_, rfl, rfl, Or.inl ⟨by rfl, fun wx hSw => by go_simp⟩⟩ (by kernel_rfl) (by kernel_rfl) (by kernel_rfl) (fun _ _ _ h => h) hS ?_
                  simp only [List.setIfInBounds_toArray, List.set_cons_succ, List.set_cons_zero]
                  refine take_x 23 83 (.bool false) ⟨_, rfl, rfl, Or.inl ⟨by rfl, fun wx hSw => by go_simp⟩⟩ (by kernel_rfl) (by kernel_rfl) (by kernel_rfl) (fun _ _ _ h => h) hS ?_
                  simp only [List.setIfInBounds_toArray, List.set_cons_succ, List.set_cons_zero]
                  refine wpAnyH_done (by kernel_rfl) ?_ _
                  refine np_y ?_
                  go_wp2_with fail
                  go_roundw
                  case rel => exact ⟨q + 1, by omega, by omega, by go_num, Hid.intro (hbq.out.trans (D22.mono hbq.out.size1))⟩
                  case measure => simp [intOf]; omega
                · obtain rfl : q = 10 := by omega
                  have HW4 := Hid.intro hbq.out
                  go_wp2_with fail
                  go_roundw
                  case rel => exact ⟨k + 1, by go_num, hlt, by rw [HSK.out]; simp [h0], by rw [HFK.out]; simp, HW4⟩
                  case measure => simp [intOf]; omega
              · obtain rfl : q = k := by omega
                have HW4 := Hid.intro hbq.out
                go_wp2_with fail
                go_roundw
                case rel => exact ⟨q + 1, by go_num, hlt, by rw [HSK.out]; simp [h0], by rw [HFK.out]; simp, HW4⟩
                case measure => simp [intOf]; omega
          · subst h0
            simp only [Nat.zero_mul, Nat.add_zero] at p1 p2 p3 p4 p5
            go_wp2_with fail
            refine (HT1.out wr HWo.out).mono ?_
            rintro e w2 ⟨rfl, hb2⟩
            have HW2 : Hid (Below (w.heap.size + 1) (w.alloc (.cells #[.slice (some ⟨b, o, none⟩) ts.length cap] 24)) w2) := Hid.intro (HWo.out.trans (hb2.mono HWo.out.size1))
            have hbox2 := (VK.out w2 HW2.out).box
            obtain ⟨p1, p2, p3, p4, p5⟩ := (VK.out w2 HW2.out).cel
            simp only [Nat.zero_mul, Nat.add_zero] at p1 p2 p3 p4 p5
            have hlw2 : w.heap.size < w2.heap.size := Nat.lt_of_lt_of_le hlw hb2.size
            have hlb2 : b < w2.heap.size := Nat.lt_of_lt_of_le hlb hb2.size
            go_wp2_with fail
            refine (HC1.out w2 HW2.out).mono ?_
            rintro e w3 ⟨rfl, hb3⟩
            have HW3 : Hid (Below (w.heap.size + 1) (w.alloc (.cells #[.slice (some ⟨b, o, none⟩) ts.length cap] 24)) w3) := Hid.intro (HW2.out.trans (hb3.mono HW2.out.size1))
            clear hb2 hb3 p1 p2 p3 p4 p5 hbox hbox2 hbw
            go_wp2_with fail
            go_loopw [7] (fun i w' => ∃ q : Nat, q ≤ 0 ∧ q ≤ 10 ∧ i = .int .i64 q ∧ Hid (Below (w.heap.size + 1) (w.alloc (.cells #[.slice (some ⟨b, o, none⟩) ts.length cap] 24)) w')) (fun i _ => 10 - (intOf i).toNat)
            case atStart => exact ⟨0, Nat.zero_le _, Nat.zero_le _, rfl, HW3⟩
            case round =>
              obtain ⟨q, hq, hq10, rfl, hbq⟩ := hrel
              obtain rfl : q = 0 := by omega
              have HW4 := Hid.intro hbq.out
              go_wp2_with fail
              go_roundw
              case rel => exact ⟨0 + 1, by go_num, hlt, by rw [HSK.out]; simp, by rw [HFK.out]; simp, HW4⟩
              case measure => simp [intOf]; omega
          · have hk0 : decide (0 < k) = true := decide_eq_true (by omega)
            have hk1 : decide ((0 : Int) < (k : Int)) = true := decide_eq_true (by omega)
            go_wp2_with fail
            refine (HT1.out wr HWo.out).mono ?_
            rintro e w2 ⟨rfl, hb2⟩
            have HW2 : Hid (Below (w.heap.size + 1) (w.alloc (.cells #[.slice (some ⟨b, o, none⟩) ts.length cap] 24)) w2) := Hid.intro (HWo.out.trans (hb2.mono HWo.out.size1))
            have hbox2 := (VK.out w2 HW2.out).box
            obtain ⟨p1, p2, p3, p4, p5⟩ := (VK.out w2 HW2.out).cel
            have hlw2 : w.heap.size < w2.heap.size := Nat.lt_of_lt_of_le hlw hb2.size
            have hlb2 : b < w2.heap.size := Nat.lt_of_lt_of_le hlb hb2.size
            go_wp2_with fail
            refine (HC1.out w2 HW2.out).mono ?_
            rintro e w3 ⟨rfl, hb3⟩
            have HW3 : Hid (Below (w.heap.size + 1) (w.alloc (.cells #[.slice (some ⟨b, o, none⟩) ts.length cap] 24)) w3) := Hid.intro (HW2.out.trans (hb3.mono HW2.out.size1))
            clear hb2 hb3 p1 p2 p3 p4 p5 hbox hbox2 hbw
            go_wp2_with fail
            go_loopw [7] (fun i w' => ∃ q : Nat, q ≤ k ∧ q ≤ 10 ∧ i = .int .i64 q ∧ Hid (Below (w.heap.size + 1) (w.alloc (.cells #[.slice (some ⟨b, o, none⟩) ts.length cap] 24)) w')) (fun i _ => 10 - (intOf i).toNat)
            case atStart => exact ⟨0, Nat.zero_le _, Nat.zero_le _, rfl, HW3⟩
            case round =>
              obtain ⟨q, hq, hq10, rfl, hbq⟩ := hrel
              by_cases hlq : q < k
              · by_cases hlq2 : q < 10
                · obtain ⟨x2, n2, vq⟩ := VA.out q (by omega)
                  have VQ := Hid.intro (fun wx (hb : Below wr.heap.size wr wx) => vq wx (hbq.out.trans (hb.mono hbq.out.size1)))
                  have VK2 := Hid.intro (fun wx (hb : Below wr.heap.size wr wx) => VK.out wx (hbq.out.trans (hb.mono hbq.out.size1)))
                  have HQ := Hid.intro (fun wx (hb : Below wr.heap.size wr wx) => Text_any n (ts[q]'(by omega)) _ wx (VQ.out wx hb).vs (HTB.out wx (hbq.out.trans (hb.mono hbq.out.size1))) (fun _ => HZQ.out q (by omega)))
                  have HSA := Hid.intro (fun wx (hb : Below wr.heap.size wr wx) => rsame_any n t1 (ts[q]'(by omega)) _ _ wx (VK2.out wx hb).vs (VQ.out wx hb).vs)
                  have HEE := Hid.intro (HEQ.out q (by omega) (HDP.out q (by omega)))
                  clear vq
                  generalize tS n (ts[q]'(by omega)) = Tq at HQ HEE
                  generalize same n t1 (ts[q]'(by omega)) = y at HSA HEE
                  generalize ts[q]'(by omega) = t2 at HQ HSA VQ
                  have iq0 : (0 : Int) ≤ (q : Int) := by omega
                  have iq1 : (q : Int) < (k : Int) := by omega
                  have iq2 : (q : Int) < 10 := by omega
                  have iq3 : (q : Int) < (ts.length : Int) := by omega
                  have ik3 : (k : Int) < (ts.length : Int) := by omega
                  go_wp2_with fail
                  refine wp_region_noPanic ?_
                  refine wp_region_held_drew (S := fun w' => Below wr.heap.size wr w') hmo (Below.refl _ _).drew (fun hS => ?_)
                  refine take_x 0 60 (.string Tk) ⟨_, rfl, rfl, Or.inl ⟨by rfl, fun wx hSw => by go_simp⟩⟩ (by kernel_rfl) (by kernel_rfl) (by kernel_rfl) (fun _ _ _ h => h) hS ?_
                  simp only [List.setIfInBounds_toArray, List.set_cons_succ, List.set_cons_zero]
                  refine take_x 1 61 (.bool true) ⟨_, rfl, rfl, Or.inl ⟨by rfl, fun wx hSw => by go_simp⟩⟩ (by kernel_rfl) (by kernel_rfl) (by kernel_rfl) (fun _ _ _ h => h) hS ?_
                  simp only [List.setIfInBounds_toArray, List.set_cons_succ, List.set_cons_zero]
                  refine take_x 2 62 (.bool true) ⟨_, rfl, rfl, Or.inl ⟨by rfl, fun wx hSw => by go_simp⟩⟩ (by kernel_rfl) (by kernel_rfl) (by kernel_rfl) (fun _ _ _ h => h) hS ?_
                  simp only [List.setIfInBounds_toArray, List.set_cons_succ, List.set_cons_zero]
                  refine take_x 3 63 (.string Tk) ⟨_, rfl, rfl, Or.inl ⟨by rfl, fun wx hSw => by go_simp⟩⟩ (by kernel_rfl) (by kernel_rfl) (by kernel_rfl) (fun _ _ _ h => h) hS ?_
                  simp only [List.setIfInBounds_toArray, List.set_cons_succ, List.set_cons_zero]
                  refine take_x 4 64 (.pointer (some ⟨w.heap.size, 0, none⟩)) ⟨_, rfl, rfl, Or.inl ⟨by rfl, fun wx hSw => by go_simp⟩⟩ (by kernel_rfl) (by kernel_rfl) (by kernel_rfl) (fun _ _ _ h => h) hS ?_
                  simp only [List.setIfInBounds_toArray, List.set_cons_succ, List.set_cons_zero]
                  refine take_x 5 65 (.slice (some ⟨b, o, none⟩) ts.length cap) ⟨_, rfl, rfl, Or.inl ⟨by rfl, fun wx hSw => by have hc := (VQ.out wx hSw).box; go_simp⟩⟩ (by kernel_rfl) (by kernel_rfl) (by kernel_rfl) (fun _ _ _ h => h) hS ?_
                  simp only [List.setIfInBounds_toArray, List.set_cons_succ, List.set_cons_zero]
                  refine take_x 6 66 (.int .i64 (q : Int)) ⟨_, rfl, rfl, Or.inl ⟨by rfl, fun wx hSw => by go_simp⟩⟩ (by kernel_rfl) (by kernel_rfl) (by kernel_rfl) (fun _ _ _ h => h) hS ?_
                  simp only [List.setIfInBounds_toArray, List.set_cons_succ, List.set_cons_zero]
                  refine take_x 7 67 (.pointer (some ⟨b, o + q * 5, none⟩)) ⟨_, rfl, rfl, Or.inl ⟨by rfl, fun wx hSw => by go_simp⟩⟩ (by kernel_rfl) (by kernel_rfl) (by kernel_rfl) (fun _ _ _ h => h) hS ?_
                  simp only [List.setIfInBounds_toArray, List.set_cons_succ, List.set_cons_zero]
                  refine take_x 8 68 (.agg #[.int .i64 t2.k, .bool t2.b, .int .i64 t2.i, .string t2.s, .slice x2 t2.l.length n2]) ⟨_, rfl, rfl, Or.inl ⟨by rfl, fun wx hSw => by obtain ⟨r1, r2, r3, r4, r5⟩ := (VQ.out wx hSw).cel; go_simp⟩⟩ (by kernel_rfl) (by kernel_rfl) (by kernel_rfl) (fun _ _ _ h => h) hS ?_
                  simp only [List.setIfInBounds_toArray, List.set_cons_succ, List.set_cons_zero]
                  refine take_x 11 71 (.pointer (some ⟨w.heap.size, 0, none⟩)) ⟨_, rfl, rfl, Or.inl ⟨by rfl, fun wx hSw => by go_simp⟩⟩ (by kernel_rfl) (by kernel_rfl) (by kernel_rfl) (fun _ _ _ h => h) hS ?_
                  simp only [List.setIfInBounds_toArray, List.set_cons_succ, List.set_cons_zero]
                  refine take_x 12 72 (.slice (some ⟨b, o, none⟩) ts.length cap) ⟨_, rfl, rfl, Or.inl ⟨by rfl, fun wx hSw => by have hc := (VK2.out wx hSw).box; go_simp⟩⟩ (by kernel_rfl) (by kernel_rfl) (by kernel_rfl) (fun _ _ _ h => h) hS ?_
                  simp only [List.setIfInBounds_toArray, List.set_cons_succ, List.set_cons_zero]
                  refine take_x 13 73 (.int .i64 (k : Int)) ⟨_, rfl, rfl, Or.inl ⟨by rfl, fun wx hSw => by go_simp⟩⟩ (by kernel_rfl) (by kernel_rfl) (by kernel_rfl) (fun _ _ _ h => h) hS ?_
                  simp only [List.setIfInBounds_toArray, List.set_cons_succ, List.set_cons_zero]
                  refine take_x 14 74 (.pointer (some ⟨b, o + k * 5, none⟩)) ⟨_, rfl, rfl, Or.inl ⟨by rfl, fun wx hSw => by go_simp⟩⟩ (by kernel_rfl) (by kernel_rfl) (by kernel_rfl) (fun _ _ _ h => h) hS ?_
                  simp only [List.setIfInBounds_toArray, List.set_cons_succ, List.set_cons_zero]
                  refine take_x 15 75 (.agg #[.int .i64 t1.k, .bool t1.b, .int .i64 t1.i, .string t1.s, .slice x1 t1.l.length n1]) ⟨_, rfl, rfl, Or.inl ⟨by rfl, fun wx hSw => by obtain ⟨r1, r2, r3, r4, r5⟩ := (VK2.out wx hSw).cel; go_simp⟩⟩ (by kernel_rfl) (by kernel_rfl) (by kernel_rfl) (fun _ _ _ h => h) hS ?_
                  simp only [List.setIfInBounds_toArray, List.set_cons_succ, List.set_cons_zero]
                  refine take_x 16 76 (.pointer (some ⟨w.heap.size, 0, none⟩)) ⟨_, rfl, rfl, Or.inl ⟨by rfl, fun wx hSw => by go_simp⟩⟩ (by kernel_rfl) (by kernel_rfl) (by kernel_rfl) (fun _ _ _ h => h) hS ?_
                  simp only [List.setIfInBounds_toArray, List.set_cons_succ, List.set_cons_zero]
                  refine take_x 17 77 (.slice (some ⟨b, o, none⟩) ts.length cap) ⟨_, rfl, rfl, Or.inl ⟨by rfl, fun wx hSw => by have hc := (VQ.out wx hSw).box; go_simp⟩⟩ (by kernel_rfl) (by kernel_rfl) (by kernel_rfl) (fun _ _ _ h => h) hS ?_
                  simp only [List.setIfInBounds_toArray, List.set_cons_succ, List.set_cons_zero]
                  refine take_x 18 78 (.int .i64 (q : Int)) ⟨_, rfl, rfl, Or.inl ⟨by rfl, fun wx hSw => by go_simp⟩⟩ (by kernel_rfl) (by kernel_rfl) (by kernel_rfl) (fun _ _ _ h => h) hS ?_
                  simp only [List.setIfInBounds_toArray, List.set_cons_succ, List.set_cons_zero]
                  refine take_x 19 79 (.pointer (some ⟨b, o + q * 5, none⟩)) ⟨_, rfl, rfl, Or.inl ⟨by rfl, fun wx hSw => by go_simp⟩⟩ (by kernel_rfl) (by kernel_rfl) (by kernel_rfl) (fun _ _ _ h => h) hS ?_
                  simp only [List.setIfInBounds_toArray, List.set_cons_succ, List.set_cons_zero]
                  refine take_x 20 80 (.agg #[.int .i64 t2.k, .bool t2.b, .int .i64 t2.i, .string t2.s, .slice x2 t2.l.length n2]) ⟨_, rfl, rfl, Or.inl ⟨by rfl, fun wx hSw => by obtain ⟨r1, r2, r3, r4, r5⟩ := (VQ.out wx hSw).cel; go_simp⟩⟩ (by kernel_rfl) (by kernel_rfl) (by kernel_rfl) (fun _ _ _ h => h) hS ?_
                  simp only [List.setIfInBounds_toArray, List.set_cons_succ, List.set_cons_zero]
                  refine wpAnyH_ready (rs := [9]) (by kernel_rfl) (by simp) ?_
                  refine AllReadyH.cons rfl (fun K' hK => ?_) AllReadyH.nil
                  go_simp
                  refine (HQ.out _ hS).mono ?_
                  rintro e w21 ⟨rfl, hc21⟩
                  have D21 := hS.trans (hc21.mono hS.size)
                  refine hK.out _ _ D21 (fun hS => ?_)
                  clear hK K'
                  (try simp only [Act.put, List.setIfInBounds_toArray, List.set_cons_succ, List.set_cons_zero])
                  refine take_x 10 70 (.bool y) ⟨_, rfl, rfl, Or.inl ⟨by rfl, fun wx hSw => by have he := HEE.out; go_simp⟩⟩ (by kernel_rfl) (by kernel_rfl) (by kernel_rfl) (fun _ _ _ h => h) hS ?_
                  simp only [List.setIfInBounds_toArray, List.set_cons_succ, List.set_cons_zero]
                  refine wpAnyH_ready (rs := [21]) (by kernel_rfl) (by simp) ?_
                  refine AllReadyH.cons rfl (fun K' hK => ?_) AllReadyH.nil
                  go_simp
                  refine (HSA.out _ hS).mono ?_
                  rintro e w22 ⟨rfl, hc22⟩
                  have D22 := hS.trans (hc22.mono hS.size)
                  refine hK.out _ _ D22 (fun hS => ?_)
                  clear hK K'
                  (try simp only [Act.put, List.setIfInBounds_toArray, List.set_cons_succ, List.set_cons_zero])
                  refine take_x 22 82 (.bool false) ⟨_, rfl, rfl, Or.inl ⟨by rfl, fun wx hSw => by go_simp⟩⟩ (by kernel_rfl) (by kernel_rfl) (by kernel_rfl) (fun _ _ _ h => h) hS ?_
                  simp only [List.setIfInBounds_toArray, List.set_cons_succ, List.set_cons_zero]
                  refine take_x 23 83 (.bool false) ⟨_, rfl, rfl, Or.inl ⟨by rfl, fun wx hSw => by go_simp⟩⟩ (by kernel_rfl) (by kernel_rfl) (by kernel_rfl) (fun _ _ _ h => h) hS ?_
                  simp only [List.setIfInBounds_toArray, List.set_cons_succ, List.set_cons_zero]
                  refine wpAnyH_done (by kernel_rfl) ?_ _
                  refine np_y ?_
                  go_wp2_with fail
                  go_roundw
                  case rel => exact ⟨q + 1, by omega, by omega, by go_num, Hid.intro (hbq.out.trans (D22.mono hbq.out.size1))⟩
                  case measure => simp [intOf]; omega
                · obtain rfl : q = 10 := by omega
                  have HW4 := Hid.intro hbq.out
                  go_wp2_with fail
                  go_roundw
                  case rel => exact ⟨k + 1, by go_num, hlt, by rw [HSK.out]; simp [h0], by rw [HFK.out]; simp, HW4⟩
                  case measure => simp [intOf]; omega
              · obtain rfl : q = k := by omega
                have HW4 := Hid.intro hbq.out
                go_wp2_with fail
                go_roundw
                case rel => exact ⟨q + 1, by go_num, hlt, by rw [HSK.out]; simp [h0], by rw [HFK.out]; simp, HW4⟩
                case measure => simp [intOf]; omega
        | false =>
          have hno := tS_no (n := n) hf
          rw [hf] at HC1 HFK
          simp only [hno] at HT1 HSK
          clear htt
          generalize ts[k] = t1 at *
          cases f0 <;> by_cases h0 : k = 0
          · subst h0
            simp only [Nat.zero_mul, Nat.add_zero] at p1 p2 p3 p4 p5
            go_wp2_with fail
            refine (HT1.out wr HWo.out).mono ?_
            rintro e w2 ⟨rfl, hb2⟩
            have HW2 : Hid (Below (w.heap.size + 1) (w.alloc (.cells #[.slice (some ⟨b, o, none⟩) ts.length cap] 24)) w2) := Hid.intro (HWo.out.trans (hb2.mono HWo.out.size1))
            have hbox2 := (VK.out w2 HW2.out).box
            obtain ⟨p1, p2, p3, p4, p5⟩ := (VK.out w2 HW2.out).cel
            simp only [Nat.zero_mul, Nat.add_zero] at p1 p2 p3 p4 p5
            have hlw2 : w.heap.size < w2.heap.size := Nat.lt_of_lt_of_le hlw hb2.size
            have hlb2 : b < w2.heap.size := Nat.lt_of_lt_of_le hlb hb2.size
            go_wp2_with fail
            refine (HC1.out w2 HW2.out).mono ?_
            rintro e w3 ⟨rfl, hb3⟩
            have HW3 : Hid (Below (w.heap.size + 1) (w.alloc (.cells #[.slice (some ⟨b, o, none⟩) ts.length cap] 24)) w3) := Hid.intro (HW2.out.trans (hb3.mono HW2.out.size1))
            clear hb2 hb3 p1 p2 p3 p4 p5 hbox hbox2 hbw
            go_wp2_with fail
            go_loopw [7] (fun i w' => ∃ q : Nat, q ≤ 0 ∧ q ≤ 10 ∧ i = .int .i64 q ∧ Hid (Below (w.heap.size + 1) (w.alloc (.cells #[.slice (some ⟨b, o, none⟩) ts.length cap] 24)) w')) (fun i _ => 10 - (intOf i).toNat)
            case atStart => exact ⟨0, Nat.zero_le _, Nat.zero_le _, rfl, HW3⟩
            case round =>
              obtain ⟨q, hq, hq10, rfl, hbq⟩ := hrel
              obtain rfl : q = 0 := by omega
              have HW4 := Hid.intro hbq.out
              go_wp2_with fail
              go_roundw
              case rel => exact ⟨0 + 1, by go_num, hlt, by rw [HSK.out]; simp, by rw [HFK.out]; simp, HW4⟩
              case measure => simp [intOf]; omega
          · have hk0 : decide (0 < k) = true := decide_eq_true (by omega)
            have hk1 : decide ((0 : Int) < (k : Int)) = true := decide_eq_true (by omega)
            go_wp2_with fail
            refine (HT1.out wr HWo.out).mono ?_
            rintro e w2 ⟨rfl, hb2⟩
            have HW2 : Hid (Below (w.heap.size + 1) (w.alloc (.cells #[.slice (some ⟨b, o, none⟩) ts.length cap] 24)) w2) := Hid.intro (HWo.out.trans (hb2.mono HWo.out.size1))
            have hbox2 := (VK.out w2 HW2.out).box
            obtain ⟨p1, p2, p3, p4, p5⟩ := (VK.out w2 HW2.out).cel
            have hlw2 : w.heap.size < w2.heap.size := Nat.lt_of_lt_of_le hlw hb2.size
            have hlb2 : b < w2.heap.size := Nat.lt_of_lt_of_le hlb hb2.size
            go_wp2_with fail
            refine (HC1.out w2 HW2.out).mono ?_
            rintro e w3 ⟨rfl, hb3⟩
            have HW3 : Hid (Below (w.heap.size + 1) (w.alloc (.cells #[.slice (some ⟨b, o, none⟩) ts.length cap] 24)) w3) := Hid.intro (HW2.out.trans (hb3.mono HW2.out.size1))
            clear hb2 hb3 p1 p2 p3 p4 p5 hbox hbox2 hbw
            go_wp2_with fail
            go_loopw [7] (fun i w' => ∃ q : Nat, q ≤ k ∧ q ≤ 10 ∧ i = .int .i64 q ∧ Hid (Below (w.heap.size + 1) (w.alloc (.cells #[.slice (some ⟨b, o, none⟩) ts.length cap] 24)) w')) (fun i _ => 10 - (intOf i).toNat)
            case atStart => exact ⟨0, Nat.zero_le _, Nat.zero_le _, rfl, HW3⟩
            case round =>
              obtain ⟨q, hq, hq10, rfl, hbq⟩ := hrel
              by_cases hlq : q < k
              · by_cases hlq2 : q < 10
                · have iq0 : (0 : Int) ≤ (q : Int) := by omega
                  have iq1 : (q : Int) < (k : Int) := by omega
                  have iq2 : (q : Int) < 10 := by omega
                  go_wp2_with fail
                  refine wp_region_noPanic ?_
                  refine wp_region_held_drew (S := fun w' => Below wr.heap.size wr w') hmo (Below.refl _ _).drew (fun hS => ?_)
                  refine take_x 0 60 (.string ⟨#[]⟩) ⟨_, rfl, rfl, Or.inl ⟨by rfl, fun wx hSw => by go_simp⟩⟩ (by kernel_rfl) (by kernel_rfl) (by kernel_rfl) (fun _ _ _ h => h) hS ?_
                  simp only [List.setIfInBounds_toArray, List.set_cons_succ, List.set_cons_zero]
                  refine take_x 1 61 (.bool false) ⟨_, rfl, rfl, Or.inl ⟨by rfl, fun wx hSw => by go_simp⟩⟩ (by kernel_rfl) (by kernel_rfl) (by kernel_rfl) (fun _ _ _ h => h) hS ?_
                  simp only [List.setIfInBounds_toArray, List.set_cons_succ, List.set_cons_zero]
                  refine take_x 2 62 (.bool false) ⟨_, rfl, rfl, Or.inl ⟨by rfl, fun wx hSw => by go_simp⟩⟩ (by kernel_rfl) (by kernel_rfl) (by kernel_rfl) (fun _ _ _ h => h) hS ?_
                  simp only [List.setIfInBounds_toArray, List.set_cons_succ, List.set_cons_zero]
                  refine take_x 3 63 undef ⟨_, rfl, rfl, Or.inr ⟨by rfl, rfl⟩⟩ (by kernel_rfl) (by kernel_rfl) (by kernel_rfl) (fun _ _ _ h => h) hS ?_
                  simp only [List.setIfInBounds_toArray, List.set_cons_succ, List.set_cons_zero]
                  refine take_x 4 64 undef ⟨_, rfl, rfl, Or.inr ⟨by rfl, rfl⟩⟩ (by kernel_rfl) (by kernel_rfl) (by kernel_rfl) (fun _ _ _ h => h) hS ?_
                  simp only [List.setIfInBounds_toArray, List.set_cons_succ, List.set_cons_zero]
                  refine take_x 5 65 undef ⟨_, rfl, rfl, Or.inr ⟨by rfl, rfl⟩⟩ (by kernel_rfl) (by kernel_rfl) (by kernel_rfl) (fun _ _ _ h => h) hS ?_
                  simp only [List.setIfInBounds_toArray, List.set_cons_succ, List.set_cons_zero]
                  refine take_x 6 66 undef ⟨_, rfl, rfl, Or.inr ⟨by rfl, rfl⟩⟩ (by kernel_rfl) (by kernel_rfl) (by kernel_rfl) (fun _ _ _ h => h) hS ?_
                  simp only [List.setIfInBounds_toArray, List.set_cons_succ, List.set_cons_zero]
                  refine take_x 7 67 undef ⟨_, rfl, rfl, Or.inr ⟨by rfl, rfl⟩⟩ (by kernel_rfl) (by kernel_rfl) (by kernel_rfl) (fun _ _ _ h => h) hS ?_
                  simp only [List.setIfInBounds_toArray, List.set_cons_succ, List.set_cons_zero]
                  refine take_x 8 68 undef ⟨_, rfl, rfl, Or.inr ⟨by rfl, rfl⟩⟩ (by kernel_rfl) (by kernel_rfl) (by kernel_rfl) (fun _ _ _ h => h) hS ?_
                  simp only [List.setIfInBounds_toArray, List.set_cons_succ, List.set_cons_zero]
                  refine take_x 9 69 undef ⟨_, rfl, rfl, Or.inr ⟨by rfl, rfl⟩⟩ (by kernel_rfl) (by kernel_rfl) (by kernel_rfl) (fun _ _ _ h => h) hS ?_
                  simp only [List.setIfInBounds_toArray, List.set_cons_succ, List.set_cons_zero]
                  refine take_x 10 70 undef ⟨_, rfl, rfl, Or.inr ⟨by rfl, rfl⟩⟩ (by kernel_rfl) (by kernel_rfl) (by kernel_rfl) (fun _ _ _ h => h) hS ?_
                  simp only [List.setIfInBounds_toArray, List.set_cons_succ, List.set_cons_zero]
                  refine take_x 11 71 undef ⟨_, rfl, rfl, Or.inr ⟨by rfl, rfl⟩⟩ (by kernel_rfl) (by kernel_rfl) (by kernel_rfl) (fun _ _ _ h => h) hS ?_
                  simp only [List.setIfInBounds_toArray, List.set_cons_succ, List.set_cons_zero]
                  refine take_x 12 72 undef ⟨_, rfl, rfl, Or.inr ⟨by rfl, rfl⟩⟩ (by kernel_rfl) (by kernel_rfl) (by kernel_rfl) (fun _ _ _ h => h) hS ?_
                  simp only [List.setIfInBounds_toArray, List.set_cons_succ, List.set_cons_zero]
                  refine take_x 13 73 undef ⟨_, rfl, rfl, Or.inr ⟨by rfl, rfl⟩⟩ (by kernel_rfl) (by kernel_rfl) (by kernel_rfl) (fun _ _ _ h => h) hS ?_
                  simp only [List.setIfInBounds_toArray, List.set_cons_succ, List.set_cons_zero]
                  refine take_x 14 74 undef ⟨_, rfl, rfl, Or.inr ⟨by rfl, rfl⟩⟩ (by kernel_rfl) (by kernel_rfl) (by kernel_rfl) (fun _ _ _ h => h) hS ?_
                  simp only [List.setIfInBounds_toArray, List.set_cons_succ, List.set_cons_zero]
                  refine take_x 15 75 undef ⟨_, rfl, rfl, Or.inr ⟨by rfl, rfl⟩⟩ (by kernel_rfl) (by kernel_rfl) (by kernel_rfl) (fun _ _ _ h => h) hS ?_
                  simp only [List.setIfInBounds_toArray, List.set_cons_succ, List.set_cons_zero]
                  refine take_x 16 76 undef ⟨_, rfl, rfl, Or.inr ⟨by rfl, rfl⟩⟩ (by kernel_rfl) (by kernel_rfl) (by kernel_rfl) (fun _ _ _ h => h) hS ?_
                  simp only [List.setIfInBounds_toArray, List.set_cons_succ, List.set_cons_zero]
                  refine take_x 17 77 undef ⟨_, rfl, rfl, Or.inr ⟨by rfl, rfl⟩⟩ (by kernel_rfl) (by kernel_rfl) (by kernel_rfl) (fun _ _ _ h => h) hS ?_
                  simp only [List.setIfInBounds_toArray, List.set_cons_succ, List.set_cons_zero]
                  refine take_x 18 78 undef ⟨_, rfl, rfl, Or.inr ⟨by rfl, rfl⟩⟩ (by kernel_rfl) (by kernel_rfl) (by kernel_rfl) (fun _ _ _ h => h) hS ?_
                  simp only [List.setIfInBounds_toArray, List.set_cons_succ, List.set_cons_zero]
                  refine take_x 19 79 undef ⟨_, rfl, rfl, Or.inr ⟨by rfl, rfl⟩⟩ (by kernel_rfl) (by kernel_rfl) (by kernel_rfl) (fun _ _ _ h => h) hS ?_
                  simp only [List.setIfInBounds_toArray, List.set_cons_succ, List.set_cons_zero]
                  refine take_x 20 80 undef ⟨_, rfl, rfl, Or.inr ⟨by rfl, rfl⟩⟩ (by kernel_rfl) (by kernel_rfl) (by kernel_rfl) (fun _ _ _ h => h) hS ?_
                  simp only [List.setIfInBounds_toArray, List.set_cons_succ, List.set_cons_zero]
                  refine take_x 21 81 undef ⟨_, rfl, rfl, Or.inr ⟨by rfl, rfl⟩⟩ (by kernel_rfl) (by kernel_rfl) (by kernel_rfl) (fun _ _ _ h => h) hS ?_
                  simp only [List.setIfInBounds_toArray, List.set_cons_succ, List.set_cons_zero]
                  refine take_x 22 82 undef ⟨_, rfl, rfl, Or.inr ⟨by rfl, rfl⟩⟩ (by kernel_rfl) (by kernel_rfl) (by kernel_rfl) (fun _ _ _ h => h) hS ?_
                  simp only [List.setIfInBounds_toArray, List.set_cons_succ, List.set_cons_zero]
                  refine take_x 23 83 (.bool false) ⟨_, rfl, rfl, Or.inl ⟨by rfl, fun wx hSw => by go_simp⟩⟩ (by kernel_rfl) (by kernel_rfl) (by kernel_rfl) (fun _ _ _ h => h) hS ?_
                  simp only [List.setIfInBounds_toArray, List.set_cons_succ, List.set_cons_zero]
                  refine wpAnyH_done (by kernel_rfl) ?_ _
                  refine np_y ?_
                  go_wp2_with fail
                  go_roundw
                  case rel => exact ⟨q + 1, by omega, by omega, by go_num, Hid.intro (hbq.out.trans (Below.mono (Below.refl wr.heap.size wr).drew hbq.out.size1))⟩
                  case measure => simp [intOf]; omega
                · obtain rfl : q = 10 := by omega
                  have HW4 := Hid.intro hbq.out
                  go_wp2_with fail
                  go_roundw
                  case rel => exact ⟨k + 1, by go_num, hlt, by rw [HSK.out]; simp [h0], by rw [HFK.out]; simp, HW4⟩
                  case measure => simp [intOf]; omega
              · obtain rfl : q = k := by omega
                have HW4 := Hid.intro hbq.out
                go_wp2_with fail
                go_roundw
                case rel => exact ⟨q + 1, by go_num, hlt, by rw [HSK.out]; simp [h0], by rw [HFK.out]; simp, HW4⟩
                case measure => simp [intOf]; omega
          · subst h0
            simp only [Nat.zero_mul, Nat.add_zero] at p1 p2 p3 p4 p5
            go_wp2_with fail
            refine (HT1.out wr HWo.out).mono ?_
            rintro e w2 ⟨rfl, hb2⟩
            have HW2 : Hid (Below (w.heap.size + 1) (w.alloc (.cells #[.slice (some ⟨b, o, none⟩) ts.length cap] 24)) w2) := Hid.intro (HWo.out.trans (hb2.mono HWo.out.size1))
            have hbox2 := (VK.out w2 HW2.out).box
            obtain ⟨p1, p2, p3, p4, p5⟩ := (VK.out w2 HW2.out).cel
            simp only [Nat.zero_mul, Nat.add_zero] at p1 p2 p3 p4 p5
            have hlw2 : w.heap.size < w2.heap.size := Nat.lt_of_lt_of_le hlw hb2.size
            have hlb2 : b < w2.heap.size := Nat.lt_of_lt_of_le hlb hb2.size
            go_wp2_with fail
            refine (HC1.out w2 HW2.out).mono ?_
            rintro e w3 ⟨rfl, hb3⟩
            have HW3 : Hid (Below (w.heap.size + 1) (w.alloc (.cells #[.slice (some ⟨b, o, none⟩) ts.length cap] 24)) w3) := Hid.intro (HW2.out.trans (hb3.mono HW2.out.size1))
            clear hb2 hb3 p1 p2 p3 p4 p5 hbox hbox2 hbw
            go_wp2_with fail
            go_loopw [7] (fun i w' => ∃ q : Nat, q ≤ 0 ∧ q ≤ 10 ∧ i = .int .i64 q ∧ Hid (Below (w.heap.size + 1) (w.alloc (.cells #[.slice (some ⟨b, o, none⟩) ts.length cap] 24)) w')) (fun i _ => 10 - (intOf i).toNat)
            case atStart => exact ⟨0, Nat.zero_le _, Nat.zero_le _, rfl, HW3⟩
            case round =>
              obtain ⟨q, hq, hq10, rfl, hbq⟩ := hrel
              obtain rfl : q = 0 := by omega
              have HW4 := Hid.intro hbq.out
              go_wp2_with fail
              go_roundw
              case rel => exact ⟨0 + 1, by go_num, hlt, by rw [HSK.out]; simp, by rw [HFK.out]; simp, HW4⟩
              case measure => simp [intOf]; omega
          · have hk0 : decide (0 < k) = true := decide_eq_true (by omega)
            have hk1 : decide ((0 : Int) < (k : Int)) = true := decide_eq_true (by omega)
            go_wp2_with fail
            refine (HT1.out wr HWo.out).mono ?_
            rintro e w2 ⟨rfl, hb2⟩
            have HW2 : Hid (Below (w.heap.size + 1) (w.alloc (.cells #[.slice (some ⟨b, o, none⟩) ts.length cap] 24)) w2) := Hid.intro (HWo.out.trans (hb2.mono HWo.out.size1))
            have hbox2 := (VK.out w2 HW2.out).box
            obtain ⟨p1, p2, p3, p4, p5⟩ := (VK.out w2 HW2.out).cel
            have hlw2 : w.heap.size < w2.heap.size := Nat.lt_of_lt_of_le hlw hb2.size
            have hlb2 : b < w2.heap.size := Nat.lt_of_lt_of_le hlb hb2.size
            go_wp2_with fail
            refine (HC1.out w2 HW2.out).mono ?_
            rintro e w3 ⟨rfl, hb3⟩
            have HW3 : Hid (Below (w.heap.size + 1) (w.alloc (.cells #[.slice (some ⟨b, o, none⟩) ts.length cap] 24)) w3) := Hid.intro (HW2.out.trans (hb3.mono HW2.out.size1))
            clear hb2 hb3 p1 p2 p3 p4 p5 hbox hbox2 hbw
            go_wp2_with fail
            go_loopw [7] (fun i w' => ∃ q : Nat, q ≤ k ∧ q ≤ 10 ∧ i = .int .i64 q ∧ Hid (Below (w.heap.size + 1) (w.alloc (.cells #[.slice (some ⟨b, o, none⟩) ts.length cap] 24)) w')) (fun i _ => 10 - (intOf i).toNat)
            case atStart => exact ⟨0, Nat.zero_le _, Nat.zero_le _, rfl, HW3⟩
            case round =>
              obtain ⟨q, hq, hq10, rfl, hbq⟩ := hrel
              by_cases hlq : q < k
              · by_cases hlq2 : q < 10
                · have iq0 : (0 : Int) ≤ (q : Int) := by omega
                  have iq1 : (q : Int) < (k : Int) := by omega
                  have iq2 : (q : Int) < 10 := by omega
                  go_wp2_with fail
                  refine wp_region_noPanic ?_
                  refine wp_region_held_drew (S := fun w' => Below wr.heap.size wr w') hmo (Below.refl _ _).drew (fun hS => ?_)
                  refine take_x 0 60 (.string ⟨#[]⟩) ⟨_, rfl, rfl, Or.inl ⟨by rfl, fun wx hSw => by go_simp⟩⟩ (by kernel_rfl) (by kernel_rfl) (by kernel_rfl) (fun _ _ _ h => h) hS ?_
                  simp only [List.setIfInBounds_toArray, List.set_cons_succ, List.set_cons_zero]
                  refine take_x 1 61 (.bool false) ⟨_, rfl, rfl, Or.inl ⟨by rfl, fun wx hSw => by go_simp⟩⟩ (by kernel_rfl) (by kernel_rfl) (by kernel_rfl) (fun _ _ _ h => h) hS ?_
                  simp only [List.setIfInBounds_toArray, List.set_cons_succ, List.set_cons_zero]
                  refine take_x 2 62 (.bool false) ⟨_, rfl, rfl, Or.inl ⟨by rfl, fun wx hSw => by go_simp⟩⟩ (by kernel_rfl) (by kernel_rfl) (by kernel_rfl) (fun _ _ _ h => h) hS ?_
                  simp only [List.setIfInBounds_toArray, List.set_cons_succ, List.set_cons_zero]
                  refine take_x 3 63 undef ⟨_, rfl, rfl, Or.inr ⟨by rfl, rfl⟩⟩ (by kernel_rfl) (by kernel_rfl) (by kernel_rfl) (fun _ _ _ h => h) hS ?_
                  simp only [List.setIfInBounds_toArray, List.set_cons_succ, List.set_cons_zero]
                  refine take_x 4 64 undef ⟨_, rfl, rfl, Or.inr ⟨by rfl, rfl⟩⟩ (by kernel_rfl) (by kernel_rfl) (by kernel_rfl) (fun _ _ _ h => h) hS ?_
                  simp only [List.setIfInBounds_toArray, List.set_cons_succ, List.set_cons_zero]
                  refine take_x 5 65 undef ⟨_, rfl, rfl, Or.inr ⟨by rfl, rfl⟩⟩ (by kernel_rfl) (by kernel_rfl) (by kernel_rfl) (fun _ _ _ h => h) hS ?_
                  simp only [List.setIfInBounds_toArray, List.set_cons_succ, List.set_cons_zero]
                  refine take_x 6 66 undef ⟨_, rfl, rfl, Or.inr ⟨by rfl, rfl⟩⟩ (by kernel_rfl) (by kernel_rfl) (by kernel_rfl) (fun _ _ _ h => h) hS ?_
                  simp only [List.setIfInBounds_toArray, List.set_cons_succ, List.set_cons_zero]
                  refine take_x 7 67 undef ⟨_, rfl, rfl, Or.inr ⟨by rfl, rfl⟩⟩ (by kernel_rfl) (by kernel_rfl) (by kernel_rfl) (fun _ _ _ h => h) hS ?_
                  simp only [List.setIfInBounds_toArray, List.set_cons_succ, List.set_cons_zero]
                  refine take_x 8 68 undef ⟨_, rfl, rfl, Or.inr ⟨by rfl, rfl⟩⟩ (by kernel_rfl) (by kernel_rfl) (by kernel_rfl) (fun _ _ _ h => h) hS ?_
                  simp only [List.setIfInBounds_toArray, List.set_cons_succ, List.set_cons_zero]
                  refine take_x 9 69 undef ⟨_, rfl, rfl, Or.inr ⟨by rfl, rfl⟩⟩ (by kernel_rfl) (by kernel_rfl) (by kernel_rfl) (fun _ _ _ h => h) hS ?_
                  simp only [List.setIfInBounds_toArray, List.set_cons_succ, List.set_cons_zero]
                  refine take_x 10 70 undef ⟨_, rfl, rfl, Or.inr ⟨by rfl, rfl⟩⟩ (by kernel_rfl) (by kernel_rfl) (by kernel_rfl) (fun _ _ _ h => h) hS ?_
                  simp only [List.setIfInBounds_toArray, List.set_cons_succ, List.set_cons_zero]
                  refine take_x 11 71 undef ⟨_, rfl, rfl, Or.inr ⟨by rfl, rfl⟩⟩ (by kernel_rfl) (by kernel_rfl) (by kernel_rfl) (fun _ _ _ h => h) hS ?_
                  simp only [List.setIfInBounds_toArray, List.set_cons_succ, List.set_cons_zero]
                  refine take_x 12 72 undef ⟨_, rfl, rfl, Or.inr ⟨by rfl, rfl⟩⟩ (by kernel_rfl) (by kernel_rfl) (by kernel_rfl) (fun _ _ _ h => h) hS ?_
                  simp only [List.setIfInBounds_toArray, List.set_cons_succ, List.set_cons_zero]
                  refine take_x 13 73 undef ⟨_, rfl, rfl, Or.inr ⟨by rfl, rfl⟩⟩ (by kernel_rfl) (by kernel_rfl) (by kernel_rfl) (fun _ _ _ h => h) hS ?_
                  simp only [List.setIfInBounds_toArray, List.set_cons_succ, List.set_cons_zero]
                  refine take_x 14 74 undef ⟨_, rfl, rfl, Or.inr ⟨by rfl, rfl⟩⟩ (by kernel_rfl) (by kernel_rfl) (by kernel_rfl) (fun _ _ _ h => h) hS ?_
                  simp only [List.setIfInBounds_toArray, List.set_cons_succ, List.set_cons_zero]
                  refine take_x 15 75 undef ⟨_, rfl, rfl, Or.inr ⟨by rfl, rfl⟩⟩ (by kernel_rfl) (by kernel_rfl) (by kernel_rfl) (fun _ _ _ h => h) hS ?_
                  simp only [List.setIfInBounds_toArray, List.set_cons_succ, List.set_cons_zero]
                  refine take_x 16 76 undef ⟨_, rfl, rfl, Or.inr ⟨by rfl, rfl⟩⟩ (by kernel_rfl) (by kernel_rfl) (by kernel_rfl) (fun _ _ _ h => h) hS ?_
                  simp only [List.setIfInBounds_toArray, List.set_cons_succ, List.set_cons_zero]
                  refine take_x 17 77 undef ⟨_, rfl, rfl, Or.inr ⟨by rfl, rfl⟩⟩ (by kernel_rfl) (by kernel_rfl) (by kernel_rfl) (fun _ _ _ h => h) hS ?_
                  simp only [List.setIfInBounds_toArray, List.set_cons_succ, List.set_cons_zero]
                  refine take_x 18 78 undef ⟨_, rfl, rfl, Or.inr ⟨by rfl, rfl⟩⟩ (by kernel_rfl) (by kernel_rfl) (by kernel_rfl) (fun _ _ _ h => h) hS ?_
                  simp only [List.setIfInBounds_toArray, List.set_cons_succ, List.set_cons_zero]
                  refine take_x 19 79 undef ⟨_, rfl, rfl, Or.inr ⟨by rfl, rfl⟩⟩ (by kernel_rfl) (by kernel_rfl) (by kernel_rfl) (fun _ _ _ h => h) hS ?_
                  simp only [List.setIfInBounds_toArray, List.set_cons_succ, List.set_cons_zero]
                  refine take_x 20 80 undef ⟨_, rfl, rfl, Or.inr ⟨by rfl, rfl⟩⟩ (by kernel_rfl) (by kernel_rfl) (by kernel_rfl) (fun _ _ _ h => h) hS ?_
                  simp only [List.setIfInBounds_toArray, List.set_cons_succ, List.set_cons_zero]
                  refine take_x 21 81 undef ⟨_, rfl, rfl, Or.inr ⟨by rfl, rfl⟩⟩ (by kernel_rfl) (by kernel_rfl) (by kernel_rfl) (fun _ _ _ h => h) hS ?_
                  simp only [List.setIfInBounds_toArray, List.set_cons_succ, List.set_cons_zero]
                  refine take_x 22 82 undef ⟨_, rfl, rfl, Or.inr ⟨by rfl, rfl⟩⟩ (by kernel_rfl) (by kernel_rfl) (by kernel_rfl) (fun _ _ _ h => h) hS ?_
                  simp only [List.setIfInBounds_toArray, List.set_cons_succ, List.set_cons_zero]
                  refine take_x 23 83 (.bool false) ⟨_, rfl, rfl, Or.inl ⟨by rfl, fun wx hSw => by go_simp⟩⟩ (by kernel_rfl) (by kernel_rfl) (by kernel_rfl) (fun _ _ _ h => h) hS ?_
                  simp only [List.setIfInBounds_toArray, List.set_cons_succ, List.set_cons_zero]
                  refine wpAnyH_done (by kernel_rfl) ?_ _
                  refine np_y ?_
                  go_wp2_with fail
                  go_roundw
                  case rel => exact ⟨q + 1, by omega, by omega, by go_num, Hid.intro (hbq.out.trans (Below.mono (Below.refl wr.heap.size wr).drew hbq.out.size1))⟩
                  case measure => simp [intOf]; omega
                · obtain rfl : q = 10 := by omega
                  have HW4 := Hid.intro hbq.out
                  go_wp2_with fail
                  go_roundw
                  case rel => exact ⟨k + 1, by go_num, hlt, by rw [HSK.out]; simp [h0], by rw [HFK.out]; simp, HW4⟩
                  case measure => simp [intOf]; omega
              · obtain rfl : q = k := by omega
                have HW4 := Hid.intro hbq.out
                go_wp2_with fail
                go_roundw
                case rel => exact ⟨q + 1, by go_num, hlt, by rw [HSK.out]; simp [h0], by rw [HFK.out]; simp, HW4⟩
                case measure => simp [intOf]; omega
      · obtain rfl : k = ts.length := by omega
        have hnl : ¬ (ts.length : Int) < (ts.length : Int) := by omega
        have HW := Hid.intro hbw.out
        have hss := sS_le n ts ts.length HZ.out
        have hfe := lst_eq n ts
        have HVL : Hid (∀ wx, Below (w.heap.size + 1) (w.alloc (.cells #[.slice a0 ts.length cap] 24)) wx → Vs wx (n + 1) ⟨4, false, 0, ⟨#[]⟩, ts⟩ (.slice a0 ts.length cap)) := Hid.intro (fun wx hb => ⟨⟨show (-9223372036854775808 : Int) ≤ 4 by decide, show (4 : Int) ≤ 9223372036854775807 by decide, show (-9223372036854775808 : Int) ≤ 0 by decide, show (0 : Int) ≤ 9223372036854775807 by decide, Nat.zero_le _⟩, HV.out.mono (below_by hb) (fun t v => Vs.below (below_by hb) n t v)⟩)
        have HCl := Hid.intro (fun wx hb => check_any (n + 1) ⟨4, false, 0, ⟨#[]⟩, ts⟩ _ wx (HVL.out wx hb))
        have HTl := Hid.intro (fun wx hb => Text_any (n + 1) ⟨4, false, 0, ⟨#[]⟩, ts⟩ _ wx (HVL.out wx hb) (hT.on (below_by hb)) (fun hf => by
          have := lst_len n ts hf HZ.out
          omega))
        unfold vv at HCl HTl
        have HAL : Hid (∀ wx o, Below (w.heap.size + 1) (w.alloc (.cells #[.slice a0 ts.length cap] 24)) wx → Below (w.heap.size + 1) (w.alloc (.cells #[.slice a0 ts.length cap] 24)) (wx.alloc o)) := Hid.intro (fun wx o hb => hb.trans ((Below.refl _ _).alloc hb.size1 _))
        have HFE := Hid.intro hfe
        clear hfe
        generalize tS (n + 1) ⟨4, false, 0, ⟨#[]⟩, ts⟩ = X at HTl HFE
        generalize sS n ts ts.length = S0 at HFE hss
        generalize fit 30 ⟨4, false, 0, ⟨#[]⟩, ts⟩ = F at HCl HFE
        generalize fK ts ts.length = f0 at HFE
        cases f0 with
        | false =>
          go_wp2_with fail
          refine (wakes_any _).mono ?_
          rintro e w9 ⟨rfl, hb9⟩
          go_wp2_with fail
          go_ret
          exact ⟨rfl, hb9.via (below_by (HAL.out _ _ HW.out))⟩
        | true =>
          go_wp2_with fail
          refine (HCl.out _ (HAL.out _ _ HW.out)).mono ?_
          rintro e w2 ⟨rfl, hb2⟩
          have g2 := fun j => hb2.cell (p := ⟨wr.heap.size, j, none⟩) (by simp)
          have hs2 : wr.heap.size < w2.heap.size := by have := hb2.size; simp at this; omega
          have HW2 : Hid (Below (w.heap.size + 1) (w.alloc (.cells #[.slice a0 ts.length cap] 24)) w2) := Hid.intro ((HAL.out _ _ HW.out).trans (hb2.mono (HAL.out _ _ HW.out).size1))
          clear hb2
          cases F with
          | false =>
            go_wp2_with fail
            refine (wakes_any _).mono ?_
            rintro e w9 ⟨rfl, hb9⟩
            go_wp2_with fail
            go_ret
            exact ⟨rfl, hb9.via (below_by HW2.out)⟩
          | true =>
            go_wp2_with fail
            refine (HTl.out _ HW2.out).mono ?_
            rintro e w3 ⟨rfl, hb3⟩
            have hX := HFE.out (by simp) (by simp)
            subst hX
            have HW3 : Hid (Below (w.heap.size + 1) (w.alloc (.cells #[.slice a0 ts.length cap] 24)) w3) := Hid.intro (HW2.out.trans (hb3.mono HW2.out.size1))
            clear hb3
            go_wp2_with fail
            refine (wakes_any _).mono ?_
            rintro e w9 ⟨rfl, hb9⟩
            go_wp2_with fail
            go_ret
            exact ⟨rfl, hb9.via (below_by HW3.out)⟩
end Go.Proofs.YtagaifnohhkfbaaDoor
