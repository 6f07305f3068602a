/- proctorref1.Text: what it tells of any value. -/
import Derived.Test.YtciibcfmlhbnkaaGreatDoorXNum
import Derived.Test.YtciibcfmlhbnkaaGreatDoorXQuo
import Derived.Test.YtciibcfmlhbnkaaGreatDoorRMay
import Derived.Test.YtciibcfmlhbnkaaGreatDoorTInj
namespace Go.Proofs.YtciibcfmlhbnkaaGreatDoor
open Go.RowKit

theorem fit_upX : ∀ (r : Nat) (t : Tr), fit r t = true → fit (r + 1) t = true
  | 0, t, h => by
    have h4 : ¬ t.k = 4 := fun h4 => by rw [fit] at h; simp [flat, h4] at h
    rw [fit_flat _ t h4] at h ⊢
    exact h
  | r + 1, t, h => by
    by_cases h4 : t.k = 4
    · rw [fit, if_pos h4] at h ⊢
      simp only [Bool.and_eq_true, List.all_eq_true] at h ⊢
      exact ⟨⟨⟨⟨h.1.1.1.1, fun c hc => fit_upX r c (h.1.1.1.2 c hc)⟩, h.1.1.2⟩, h.1.2⟩, h.2⟩
    · rw [fit_flat _ t h4] at h ⊢
      exact h
theorem app_bb (a b : List UInt8) : (⟨a.toArray⟩ : ByteArray) ++ ⟨b.toArray⟩ = ⟨(a ++ b).toArray⟩ := by
  apply ByteArray.ext
  simp [ByteArray.data_append]
theorem sepB_app2 (a b : List (List UInt8)) (h : a ≠ []) : sepB (a ++ b) = sepB a ++ b.flatMap fun y => 44 :: 32 :: y := by
  cases a with
  | nil => exact absurd rfl h
  | cons x xs => simp [sepB, List.flatMap_append]
theorem sepB_take2 (l : List (List UInt8)) (k : Nat) : (sepB (l.take k)).length ≤ (sepB l).length := by
  by_cases h : l.take k = []
  · rw [h]; simp [sepB]
  · conv => rhs; rw [← List.take_append_drop k l]
    rw [sepB_app2 _ _ h, List.length_append]; omega

set_option maxRecDepth 20000 in
set_option maxHeartbeats 4000000 in
theorem rtx_0 (b : Bool) (i : Int) (s : ByteArray) (l : List Tr) (p : Option Addr) (c : Nat) (m : Nat) (w : World) (hV : Vs w m ⟨0, b, i, s, l⟩ (.slice p l.length c)) (hf : fit 30 ⟨0, b, i, s, l⟩ = true) :
    Calls Tryz.prog 14 #[.agg #[.int .i64 0, .bool b, .int .i64 i, .string s, .slice p l.length c]] w fun e w' => e = .returned (.string ⟨#[110, 117, 108, 108]⟩) ∧ Below w.heap.size w w' := by
  have HC := Hid.intro (fun w' hb => rcheck_any m _ _ w' (Vs.below (w' := w') hb _ _ _ hV))
  rw [hf] at HC
  unfold vv at HC
  clear hV hf
  go_enter Tryz.func14, Tryz.ntmps14
  go_wp2_with fail
  refine (HC.out _ ((Below.refl _ _).alloc (Nat.le_refl _) _)).mono ?_
  rintro e w1 ⟨rfl, hb1⟩
  have hx := fun j => hb1.cell (p := ⟨w.heap.size, j, none⟩) (by simp)
  have HB := Hid.intro (hb1.via ((Below.refl _ _).alloc (Nat.le_refl _) _))
  have hs1 : w.heap.size < w1.heap.size := by have := hb1.size; simp at this; omega
  clear hb1
  go_wp2_with fail
  go_ret
  exact ⟨rfl, HB.out⟩

set_option maxRecDepth 20000 in
set_option maxHeartbeats 4000000 in
theorem rtx_1 (b : Bool) (i : Int) (s : ByteArray) (l : List Tr) (p : Option Addr) (c : Nat) (m : Nat) (w : World) (hV : Vs w m ⟨1, b, i, s, l⟩ (.slice p l.length c)) (hf : fit 30 ⟨1, b, i, s, l⟩ = true) :
    Calls Tryz.prog 14 #[.agg #[.int .i64 1, .bool b, .int .i64 i, .string s, .slice p l.length c]] w fun e w' => e = .returned (.string ⟨(boolB b).toArray⟩) ∧ Below w.heap.size w w' := by
  have HC := Hid.intro (fun w' hb => rcheck_any m _ _ w' (Vs.below (w' := w') hb _ _ _ hV))
  rw [hf] at HC
  unfold vv at HC
  clear hV hf
  go_enter Tryz.func14, Tryz.ntmps14
  go_wp2_with fail
  refine (HC.out _ ((Below.refl _ _).alloc (Nat.le_refl _) _)).mono ?_
  rintro e w1 ⟨rfl, hb1⟩
  have hx := fun j => hb1.cell (p := ⟨w.heap.size, j, none⟩) (by simp)
  have HB := Hid.intro (hb1.via ((Below.refl _ _).alloc (Nat.le_refl _) _))
  have hs1 : w.heap.size < w1.heap.size := by have := hb1.size; simp at this; omega
  clear hb1
  cases b with
  | true =>
    go_wp2_with fail
    go_ret
    exact ⟨rfl, HB.out⟩
  | false =>
    go_wp2_with fail
    go_ret
    exact ⟨rfl, HB.out⟩

set_option maxRecDepth 20000 in
set_option maxHeartbeats 4000000 in
theorem rtx_2 (b : Bool) (i : Int) (s : ByteArray) (l : List Tr) (p : Option Addr) (c : Nat) (m : Nat) (h0 : -9223372036854775808 ≤ i) (h1 : i ≤ 9223372036854775807) (w : World) (hV : Vs w m ⟨2, b, i, s, l⟩ (.slice p l.length c)) (hf : fit 30 ⟨2, b, i, s, l⟩ = true) :
    Calls Tryz.prog 14 #[.agg #[.int .i64 2, .bool b, .int .i64 i, .string s, .slice p l.length c]] w fun e w' => e = .returned (.string ⟨(Lib.itoa i).toArray⟩) ∧ Below w.heap.size w w' := by
  have HC := Hid.intro (fun w' hb => rcheck_any m _ _ w' (Vs.below (w' := w') hb _ _ _ hV))
  rw [hf] at HC
  unfold vv at HC
  clear hV hf
  go_enter Tryz.func14, Tryz.ntmps14
  go_wp2_with fail
  refine (HC.out _ ((Below.refl _ _).alloc (Nat.le_refl _) _)).mono ?_
  rintro e w1 ⟨rfl, hb1⟩
  have hx := fun j => hb1.cell (p := ⟨w.heap.size, j, none⟩) (by simp)
  have HB := Hid.intro (hb1.via ((Below.refl _ _).alloc (Nat.le_refl _) _))
  have hs1 : w.heap.size < w1.heap.size := by have := hb1.size; simp at this; omega
  clear hb1
  have HN := Hid.intro (fun w' => rnumber_any i h0 h1 w')
  go_wp2_with fail
  refine (HN.out _).mono ?_
  rintro e w2 ⟨rfl, hb2⟩
  have HB2 := Hid.intro (hb2.via HB.out)
  clear hb2
  go_wp2_with fail
  go_ret
  exact ⟨rfl, HB2.out⟩

set_option maxRecDepth 20000 in
set_option maxHeartbeats 4000000 in
theorem rtx_3 (b : Bool) (i : Int) (s : ByteArray) (l : List Tr) (p : Option Addr) (c : Nat) (m : Nat) (hs : s.size ≤ 65536) (w : World) (hV : Vs w m ⟨3, b, i, s, l⟩ (.slice p l.length c)) (hf : fit 30 ⟨3, b, i, s, l⟩ = true) :
    Calls Tryz.prog 14 #[.agg #[.int .i64 3, .bool b, .int .i64 i, .string s, .slice p l.length c]] w fun e w' => e = .returned (.string ⟨(quoB s.data.toList).toArray⟩) ∧ Below w.heap.size w w' := by
  have HC := Hid.intro (fun w' hb => rcheck_any m _ _ w' (Vs.below (w' := w') hb _ _ _ hV))
  rw [hf] at HC
  unfold vv at HC
  clear hV hf
  go_enter Tryz.func14, Tryz.ntmps14
  go_wp2_with fail
  refine (HC.out _ ((Below.refl _ _).alloc (Nat.le_refl _) _)).mono ?_
  rintro e w1 ⟨rfl, hb1⟩
  have hx := fun j => hb1.cell (p := ⟨w.heap.size, j, none⟩) (by simp)
  have HB := Hid.intro (hb1.via ((Below.refl _ _).alloc (Nat.le_refl _) _))
  have hs1 : w.heap.size < w1.heap.size := by have := hb1.size; simp at this; omega
  clear hb1
  have HN := Hid.intro (fun w' => rquo_any s hs w')
  go_wp2_with fail
  refine (HN.out _).mono ?_
  rintro e w2 ⟨rfl, hb2⟩
  have HB2 := Hid.intro (hb2.via HB.out)
  clear hb2
  go_wp2_with fail
  go_ret
  exact ⟨rfl, HB2.out⟩

set_option maxRecDepth 20000 in
set_option maxHeartbeats 4000000 in
theorem rtx_5 (b : Bool) (i : Int) (s : ByteArray) (l : List Tr) (p : Option Addr) (c : Nat) (m : Nat) (h0 : -9223372036854775808 ≤ i) (h1 : i ≤ 9223372036854775807) (hi : (Lib.itoa i).length ≤ 21) (w : World) (hV : Vs w m ⟨5, b, i, s, l⟩ (.slice p l.length c)) (hf : fit 30 ⟨5, b, i, s, l⟩ = true) :
    Calls Tryz.prog 14 #[.agg #[.int .i64 5, .bool b, .int .i64 i, .string s, .slice p l.length c]] w fun e w' => e = .returned (.string ⟨(35 :: Lib.itoa i).toArray⟩) ∧ Below w.heap.size w w' := by
  have HC := Hid.intro (fun w' hb => rcheck_any m _ _ w' (Vs.below (w' := w') hb _ _ _ hV))
  rw [hf] at HC
  unfold vv at HC
  clear hV hf
  go_enter Tryz.func14, Tryz.ntmps14
  go_wp2_with fail
  refine (HC.out _ ((Below.refl _ _).alloc (Nat.le_refl _) _)).mono ?_
  rintro e w1 ⟨rfl, hb1⟩
  have hx := fun j => hb1.cell (p := ⟨w.heap.size, j, none⟩) (by simp)
  have HB := Hid.intro (hb1.via ((Below.refl _ _).alloc (Nat.le_refl _) _))
  have hs1 : w.heap.size < w1.heap.size := by have := hb1.size; simp at this; omega
  clear hb1
  have HN := Hid.intro (fun w' => rnumber_any i h0 h1 w')
  have hsz : (⟨(Lib.itoa i).toArray⟩ : ByteArray).size ≤ 21 := by show (Lib.itoa i).toArray.size ≤ 21; rw [List.size_toArray]; exact hi
  have HE : Hid ((⟨#[35]⟩ : ByteArray) ++ ⟨(Lib.itoa i).toArray⟩ = ⟨(35 :: Lib.itoa i).toArray⟩) := Hid.intro (cat_ba 35 _)
  generalize (⟨(Lib.itoa i).toArray⟩ : ByteArray) = S at HN HE hsz
  go_wp2_with fail
  refine (HN.out _).mono ?_
  rintro e w2 ⟨rfl, hb2⟩
  have HB2 := Hid.intro (hb2.via HB.out)
  clear hb2
  go_wp2_with fail
  go_ret
  exact ⟨by show Ending.returned (.string (⟨#[35]⟩ ++ S)) = _; rw [HE.out], HB2.out⟩

set_option maxRecDepth 20000 in
set_option maxHeartbeats 4000000 in
theorem rtx_no (k : Int) (b : Bool) (i : Int) (s : ByteArray) (l : List Tr) (p : Option Addr) (c : Nat) (m : Nat) (w : World) (hV : Vs w m ⟨k, b, i, s, l⟩ (.slice p l.length c)) (hf : fit 30 ⟨k, b, i, s, l⟩ = false) :
    Calls Tryz.prog 14 #[.agg #[.int .i64 k, .bool b, .int .i64 i, .string s, .slice p l.length c]] w fun e w' => e = .returned (.string ⟨#[]⟩) ∧ Below w.heap.size w w' := by
  have HC := Hid.intro (fun w' hb => rcheck_any m _ _ w' (Vs.below (w' := w') hb _ _ _ hV))
  rw [hf] at HC
  unfold vv at HC
  clear hV hf
  go_enter Tryz.func14, Tryz.ntmps14
  go_wp2_with fail
  refine (HC.out _ ((Below.refl _ _).alloc (Nat.le_refl _) _)).mono ?_
  rintro e w1 ⟨rfl, hb1⟩
  have hx := fun j => hb1.cell (p := ⟨w.heap.size, j, none⟩) (by simp)
  have HB := Hid.intro (hb1.via ((Below.refl _ _).alloc (Nat.le_refl _) _))
  have hs1 : w.heap.size < w1.heap.size := by have := hb1.size; simp at this; omega
  clear hb1
  go_wp2_with fail
  go_ret
  exact ⟨rfl, HB.out⟩

theorem fit_29 {t : Tr} {l : List Tr} {b : Bool} {i : Int} {s : ByteArray} (h : fit 30 ⟨4, b, i, s, l⟩ = true) (ht : t ∈ l) : fit 30 t = true := by
  obtain ⟨r, hr, -, hfit, -⟩ := fit_list h rfl
  obtain rfl : r = 29 := by omega
  exact fit_upX 29 t (hfit t ht)
def RTxt (n : Nat) : Prop := ∀ (t : Tr) (sv : Value) (w : World), Vs w n t sv → (fit 30 t = true → (txt n t).length ≤ 700000000) → Calls Tryz.prog 14 #[vv t sv] w fun e w' => e = .returned (.string (tS n t)) ∧ Below w.heap.size w w'
/-- A list's text so far. -/
def lS (n : Nat) (l : List Tr) (k : Nat) : ByteArray := ⟨(91 :: sepB ((l.take k).map (txt n))).toArray⟩
theorem lS_step (n : Nat) (l : List Tr) (k : Nat) (hk : k < l.length) : lS n l (k + 1) = (if k = 0 then lS n l k else lS n l k ++ ⟨#[44, 32]⟩) ++ ⟨(txt n l[k]).toArray⟩ := by
  have h : sepB ((l.take (k + 1)).map (txt n)) = if k = 0 then txt n l[k] else sepB ((l.take k).map (txt n)) ++ (44 :: 32 :: txt n l[k]) := by
    rw [List.take_succ_eq_append_getElem hk, List.map_append, List.map_cons, List.map_nil, sepB_snoc]
    by_cases h0 : k = 0
    · subst h0; simp
    · rw [if_neg h0, if_neg (fun e => by have := congrArg List.length e; rw [List.length_map, List.length_take, List.length_nil] at this; omega)]
  unfold lS
  rw [h]
  by_cases h0 : k = 0
  · subst h0
    rw [if_pos rfl, if_pos rfl, app_bb]
    simp [sepB]
  · rw [if_neg h0, if_neg h0, show (⟨#[44, 32]⟩ : ByteArray) = ⟨[44, 32].toArray⟩ from rfl, app_bb, app_bb]
    simp
theorem lS_le (n : Nat) (l : List Tr) (k : Nat) : (lS n l k).size ≤ (sepB (l.map (txt n))).length + 1 := by
  show (91 :: sepB ((l.take k).map (txt n))).toArray.size ≤ _
  rw [List.size_toArray, List.length_cons]
  have := sepB_take2 (l.map (txt n)) k
  rw [← List.map_take] at this
  omega

set_option maxRecDepth 20000 in
set_option maxHeartbeats 4000000 in
theorem rtx_4 (n : Nat) (ih : RTxt n) (b : Bool) (i : Int) (s : ByteArray) (l : List Tr) (p : Option Addr) (c : Nat) (w : World) (hV : Vs w (n + 1) ⟨4, b, i, s, l⟩ (.slice p l.length c)) (hf : fit 30 ⟨4, b, i, s, l⟩ = true) (hz : (sepB (l.map (txt n))).length + 2 ≤ 700000000) :
    Calls Tryz.prog 14 #[.agg #[.int .i64 4, .bool b, .int .i64 i, .string s, .slice p l.length c]] w fun e w' => e = .returned (.string ⟨(91 :: (sepB (l.map (txt n)) ++ [93])).toArray⟩) ∧ Below w.heap.size w w' := by
  have HC := Hid.intro (fun w' hb => rcheck_any (n + 1) _ _ w' (Vs.below (w' := w') hb _ _ _ hV))
  rw [hf] at HC
  unfold vv at HC
  have hL := hV.2
  obtain ⟨a0, ca, e0, la, ma, ea⟩ := hL
  cases e0
  unfold maxLen at ma
  have HE := Hid.intro ea
  have HF := Hid.intro (fun t (ht : t ∈ l) => fit_29 hf ht)
  have HZ := Hid.intro hz
  have HEND : Hid (lS n l l.length ++ ⟨#[93]⟩ = ⟨(91 :: (sepB (l.map (txt n)) ++ [93])).toArray⟩) := Hid.intro (by
    unfold lS
    rw [List.take_length, show (⟨#[93]⟩ : ByteArray) = ⟨[93].toArray⟩ from rfl, app_bb]; rfl)
  clear hV hf ea hz
  dsimp only at la
  go_enter Tryz.func14, Tryz.ntmps14
  go_wp2_with fail
  refine (HC.out _ ((Below.refl _ _).alloc (Nat.le_refl _) _)).mono ?_
  rintro e w1 ⟨rfl, hb1⟩
  have hx := fun j => hb1.cell (p := ⟨w.heap.size, j, none⟩) (by simp)
  have HB := Hid.intro hb1
  have hs1 : w.heap.size < w1.heap.size := by have := hb1.size; simp at this; omega
  clear hb1
  go_wp2_with fail
  go_loopw [3, 4] (fun u i' wr => ∃ k : Nat, i' = .int .i64 (k : Int) ∧ k ≤ l.length ∧ u = .string (lS n l k) ∧ Hid (Below (w.alloc (.cells #[.int .i64 4, .bool b, .int .i64 i, .string s, .slice p l.length c] 28)).heap.size (w.alloc (.cells #[.int .i64 4, .bool b, .int .i64 i, .string s, .slice p l.length c] 28)) wr)) (fun _ i' _ => l.length - (intOf i').toNat)
  case atStart => exact ⟨0, rfl, Nat.zero_le _, by simp [lS, sepB], HB⟩
  case round =>
    obtain ⟨k, rfl, hk, rfl, hbw⟩ := hrel
    have hx4 := hbw.out.cell (p := ⟨w.heap.size, 4, none⟩) (by simp)
    simp [go_sem] at hx4
    have hlw : w.heap.size < wr.heap.size := by have := hbw.out.size; simp at this; omega
    have hls := lS_le n l k
    have HZZ := HZ.out
    by_cases hlt : (k : Int) < (l.length : Int)
    · have hlt' : k < l.length := by omega
      obtain ⟨b1, o1, rfl, e1⟩ := HE.out (by omega)
      obtain ⟨s1, c1, v1⟩ := e1 k hlt'
      obtain ⟨x1, n1, rfl, -, -⟩ := v1.form
      have hbx : Below w.heap.size w wr := hbw.out.via (below_al (Below.refl _ _) _)
      obtain ⟨p1, p2, p3, p4, p5⟩ := c1.below hbx
      have hlb : b1 < wr.heap.size := cell_lt p1
      have hfk := HF.out _ (List.getElem_mem hlt')
      have htl : (txt n l[k]).length + (lS n l k).size ≤ 700000000 := by
        have h1 := lS_le n l (k + 1)
        have h2 := congrArg ByteArray.size (lS_step n l k hlt')
        have h3 : (⟨(txt n l[k]).toArray⟩ : ByteArray).size = (txt n l[k]).length := by show (txt n l[k]).toArray.size = _; rw [List.size_toArray]
        rw [ByteArray.size_append, h3] at h2
        split at h2
        · omega
        · rw [ByteArray.size_append] at h2; omega
      have HT := Hid.intro (ih l[k] _ wr (Vs.below hbx _ _ _ v1) (fun _ => by omega))
      have HST := Hid.intro (lS_step n l k hlt')
      have hts : tS n l[k] = ⟨(txt n l[k]).toArray⟩ := by unfold tS tB; rw [if_pos hfk]
      rw [hts] at HT
      have hsz : (⟨(txt n l[k]).toArray⟩ : ByteArray).size ≤ 700000000 := by show (txt n l[k]).toArray.size ≤ _; rw [List.size_toArray]; omega
      generalize (⟨(txt n l[k]).toArray⟩ : ByteArray) = X at HT HST hsz
      clear c1 v1 e1 HE htl hts hfk hbx
      generalize l[k] = t at *
      generalize lS n l k = S0 at HST hls
      obtain ⟨tk, tb, ti, tz, tl⟩ := t
      unfold vv at HT
      have ib : (0 : Int) ≤ (k : Int) := by omega
      by_cases h0 : k = 0
      · subst h0
        simp only [Nat.zero_mul, Nat.add_zero] at p1 p2 p3 p4 p5
        go_wp2_with fail
        refine HT.out.mono ?_
        rintro e w2 ⟨rfl, hb2⟩
        have HB2 := Hid.intro (hbw.out.trans (hb2.mono hbw.out.size))
        clear hb2
        go_wp2_with fail
        go_roundw
        case rel => exact ⟨0 + 1, by go_num, hlt', by rw [HST.out]; simp, HB2⟩
        case measure => simp [intOf]; omega
      · have hk0 : decide (0 < k) = true := decide_eq_true (by omega)
        have hk1 : decide ((0 : Int) < (k : Int)) = true := decide_eq_true (by omega)
        go_wp2_with fail
        refine HT.out.mono ?_
        rintro e w2 ⟨rfl, hb2⟩
        have HB2 := Hid.intro (hbw.out.trans (hb2.mono hbw.out.size))
        clear hb2
        go_wp2_with fail
        go_roundw
        case rel => exact ⟨k + 1, by go_num, hlt', by rw [HST.out, if_neg h0], HB2⟩
        case measure => simp [intOf]; omega
    · obtain rfl : k = l.length := by omega
      have hbx : Below w.heap.size w wr := hbw.out.via (below_al (Below.refl _ _) _)
      have HBX := Hid.intro hbx
      generalize lS n l l.length = S0 at HEND hls
      clear hbx
      go_wp2_with fail
      go_ret
      exact ⟨by show Ending.returned (.string (S0 ++ ⟨#[93]⟩)) = _; rw [HEND.out], HBX.out⟩
theorem rtext_any : ∀ n, RTxt n
  | 0 => fun _ _ _ h => h.elim
  | n + 1 => by
    intro t sv w hV hx
    obtain ⟨a1, c1, rfl, -, -⟩ := hV.form
    obtain ⟨k, b, i, s, l⟩ := t
    have hwf := hV.1
    unfold tS tB
    unfold vv
    cases hf : fit 30 ⟨k, b, i, s, l⟩ with
    | false => exact rtx_no k b i s l _ _ _ w hV hf
    | true =>
      have hk := fit_kind hf
      have hx := hx hf
      simp only at hk
      rw [if_pos rfl]
      rcases hk with rfl | rfl | rfl | rfl | rfl | rfl
      · exact rtx_0 b i s l _ _ _ w hV hf
      · exact rtx_1 b i s l _ _ _ w hV hf
      · exact rtx_2 b i s l _ _ _ hwf.2.2.1 hwf.2.2.2.1 w hV hf
      · have hs : s.size ≤ 65536 := by
          have hf' := hf
          rw [fit_flat 30 _ (by simp)] at hf'
          simp [flat] at hf'
          omega
        exact rtx_3 b i s l _ _ _ hs w hV hf
      · have e : txt (n + 1) ⟨4, b, i, s, l⟩ = 91 :: (sepB (l.map (txt n)) ++ [93]) := by simp [txt]
        rw [e] at hx ⊢
        rw [List.length_cons, List.length_append, List.length_singleton] at hx
        exact rtx_4 n (rtext_any n) b i s l _ _ w hV hf (by omega)
      · have hle : (Lib.itoa i).length ≤ 21 := by
          have h0 := hwf.2.2.1
          have h1 := hwf.2.2.2.1
          simp only at h0 h1
          unfold Lib.itoa
          split
          · rw [List.length_cons, Lib.decDigits_length]
            have := nd_leX 18 i.natAbs (by simp; omega)
            omega
          · rw [Lib.decDigits_length]
            have := nd_leX 18 i.toNat (by simp; omega)
            omega
        exact rtx_5 b i s l _ _ _ hwf.2.2.1 hwf.2.2.2.1 hle w hV hf
end Go.Proofs.YtciibcfmlhbnkaaGreatDoor
