/- The reference: one, Any, Lex. -/
import Derived.Test.YtlheiiapolhpeaaLRef7
namespace Go.Proofs.Ytlheiiapolhpeaa
open Go.RowKit

theorem rone_any (s : ByteArray) (a : Nat) (ha : a < s.size) (hs : s.size ≤ 1000000) (w : World) :
    Calls Try.prog 23 #[.string s, .int .i64 (a : Int)] w fun x w' => ROne (oneL a (tl s a)) a x ∧ Below w.heap.size w w' := by
  have ho : oneL a (tl s a) = if isLet s[a] then some ⟨0, bs ((tl s a).takeWhile isCh), a, a + ((tl s a).takeWhile isCh).length⟩
    else if isDig s[a] then some ⟨2, bs ((tl s a).takeWhile isDig), a, a + ((tl s a).takeWhile isDig).length⟩
    else if s[a] = 36 then varL a (tl s (a + 1))
    else if s[a] = 34 then quoL a (tl s (a + 1))
    else markL a (tl s a) := by rw [tl_cons ha]; rfl
  rw [ho]
  clear ho
  cases c1 : letB (s[a].toNat : Int) with
  | true =>
    rw [if_pos (show isLet s[a] = true from c1)]
    exact rone_let s a ha hs c1 w
  | false =>
    rw [if_neg (show ¬ isLet s[a] = true by rw [isLet, c1]; decide)]
    cases c2 : digB (s[a].toNat : Int) with
    | true =>
      rw [if_pos (show isDig s[a] = true from c2)]
      exact rone_dig s a ha hs c1 c2 w
    | false =>
      rw [if_neg (show ¬ isDig s[a] = true by rw [isDig, c2]; decide)]
      by_cases c3 : s[a] = 36
      · rw [if_pos c3]
        have c3' : (s[a].toNat : Int) = 36 := by rw [c3]; rfl
        have hno : wordE s (a + 1) = a + 1 → varL a (tl s (a + 1)) = none → Calls Try.prog 23 #[.string s, .int .i64 (a : Int)] w fun x w' => ROne (varL a (tl s (a + 1))) a x ∧ Below w.heap.size w w' := fun hv hn => by
          have hm : markL a (tl s a) = none := by
            have h2 : twoL (tl s a) = false := by
              by_cases hl : a + 1 < s.size
              · rw [tl_cons ha, tl_cons hl, c3]
                simp [twoL, twoB, twos, bs, Lib.toList_data]
              · exact twoL_end hl
            exact markL_no ha h2 (by rw [c3]; rfl)
          have := rone_dollar s a ha hs c1 c2 (by rw [c3']; rfl) (by rw [c3']; rfl) hv w
          rw [hm] at this
          rw [hn]
          exact this
        by_cases hl : a + 1 < s.size
        · cases c5 : letB (s[a + 1].toNat : Int) with
          | true =>
            have := rone_var s a ha hs c3' hl c5 w
            have hv : varL a (tl s (a + 1)) = some ⟨1, bs ((tl s (a + 1)).takeWhile isCh), a, a + 1 + ((tl s (a + 1)).takeWhile isCh).length⟩ := by
              rw [tl_cons hl]; unfold varL; simp only; rw [if_pos (show isLet s[a + 1] = true from c5)]
            rw [hv]
            exact this
          | false =>
            refine hno ?_ ?_
            · unfold wordE; rw [dif_pos hl, if_neg]; rw [isLet, c5]; decide
            · rw [tl_cons hl]; unfold varL; simp only; rw [if_neg]; rw [isLet, c5]; decide
        · refine hno ?_ ?_
          · unfold wordE; rw [dif_neg hl]
          · rw [tl_end (by omega)]; rfl
      · rw [if_neg c3]
        by_cases c4 : s[a] = 34
        · rw [if_pos c4]
          exact rone_quo s a ha hs (by rw [c4]; rfl) w
        · rw [if_neg c4]
          exact rone_mark s a ha hs c1 c2 (beq_false_of_ne (fun e => c4 (u8_eq e))) (beq_false_of_ne (fun e => c3 (u8_eq e))) w

theorem own_below {a b : World} {base : Nat} {e : TypeId} {size : Nat} {v : Value} {n : Nat} {xs : List Value} (o : a.ownsRow base e size v n xs) (h : Below a.heap.size a b) : b.ownsRow base e size v n xs :=
  o.kept (row := none) ⟨h.os, h.tape, h.output, h.size, fun k hk _ => h.block k hk⟩ (by cases v.ownBlock <;> simp)
theorem own_form {w : World} {base : Nat} {e : TypeId} {size : Nat} {v : Value} {n : Nat} {xs : List Value} (h : w.ownsRow base e size v n xs) : ∃ p c, v = .slice p n c := by
  rcases h.2 with ⟨rfl, h0⟩ | ⟨g, cap, cur, rfl, -⟩
  · exact ⟨none, 0, by rw [h0]⟩
  · exact ⟨_, _, rfl⟩

theorem infoR : (Try.prog.info? 32).map (fun i => (i.zero, i.size, i.bytes)) = some (some (.agg #[.int .i64 0, .string ⟨#[]⟩, .int .i64 0, .int .i64 0]), 4, 40) := by kernel_rfl

theorem Ls.ofR {t : TypeId} {w : World} {base : Nat} {xs : List Lx} {v : Value} (h : w.ownsRow base t 4 v xs.length (xs.flatMap celL)) : Ls w base xs v := by
  obtain ⟨-, ⟨rfl, h0⟩ | ⟨g, cap, cur, rfl, h2, h3, h4, h5, h6, h7⟩⟩ := h
  · exact ⟨none, 0, by rw [h0], fun h => by omega⟩
  · refine ⟨_, cap, rfl, fun _ => ⟨g, rfl, h2, (Array.getElem?_eq_some_iff.1 h3).1, fun k hk => ?_⟩⟩
    have key : ∀ j, j < 4 → w.cell? ⟨g, k * 4 + j, none⟩ = (celL xs[k])[j]? := fun j hj => by
      unfold World.cell?
      simp only [h3]
      rw [← celL_at xs k hk j hj, ← h7, List.getElem?_take_of_lt (by omega), Array.getElem?_toList]
      simp
    exact ⟨key 0 (by omega), key 1 (by omega), key 2 (by omega), key 3 (by omega)⟩

def ranyPost (s : ByteArray) (w : World) (e : Ending) (W' : World) : Prop := match lexF s with
    | some a => e = .returned (.tuple #[.slice none 0 0, .int .i64 (a : Int), .int .i64 20])
    | none => ∃ v, e = .returned (.tuple #[v, .int .i64 0, .int .i64 0]) ∧ Hid (Ls W' w.heap.size (lexT s) v)

theorem app_row {w wr w4 : World} {v v4 : Value} {pre : List (Lx × Bool)} {y : Lx} {o : Obj} (HB : Below w.heap.size w wr) (O : wr.ownsRow w.heap.size 32 4 v pre.length ((pre.map Prod.fst).flatMap celL))
    (gr : (wr.alloc o).grownBy w4 v.ownBlock) (O4 : w4.ownsRow w.heap.size 32 4 v4 (pre.length + 1) ((pre.map Prod.fst).flatMap celL ++ [.int .i64 y.k, .string y.t, .int .i64 (y.a : Int), .int .i64 (y.e : Int)])) :
    Below w.heap.size w w4 ∧ w4.ownsRow w.heap.size 32 4 v4 (pre ++ [(y, true)]).length (((pre ++ [(y, true)]).map Prod.fst).flatMap celL) := by
  refine ⟨own_step (below_al HB _) gr (O.alloc _) (Nat.le_refl _), ?_⟩
  rw [List.length_append, List.map_append, List.flatMap_append]
  simpa [celL] using O4

set_option maxRecDepth 100000 in
set_option maxHeartbeats 8000000 in
theorem rany_any (s : ByteArray) (hs : s.size ≤ 65536) (w : World) :
    Calls Try.prog 17 #[.string s] w fun e W' => ranyPost s w e W' ∧ Below w.heap.size w W' := by
  obtain ⟨i0, hi, hz0, hz1, hz2⟩ := info_parts infoR
  have HB0 := fun w => Hid.intro (rblank_any s 0 (by omega) (Nat.zero_le _) w)
  rw [show ((0 : Nat) : Int) = 0 from rfl] at HB0
  have HP := Hid.intro (rfl : ranyPost s w = ranyPost s w)
  generalize hR : ranyPost s w = R at HP ⊢
  clear HP
  have HR := Hid.intro hR
  clear hR
  go_enter Try.func17, Try.ntmps17
  go_wp2_with (go_at_call 22; refine (HB0 _).out.mono ?_; rintro e w1 ⟨rfl, hw1⟩; subst w1)
  go_loopw [5, 6] (fun v i wr => ∃ (k : Nat) (pre : List (Lx × Bool)), i = .int .i64 (blkAt false s k : Int) ∧ k ≤ s.size ∧ pre.length ≤ 4096 ∧ Hid (tells 0 (tl s 0) = pre ++ tells k (tl s k)) ∧ Hid (∀ z ∈ pre, z.2 = true) ∧ Hid (Below w.heap.size w wr) ∧ Hid (wr.ownsRow w.heap.size 32 4 v pre.length ((pre.map Prod.fst).flatMap celL))) (fun _ i _ => s.size - (intOf i).toNat)
  case atStart => exact ⟨0, [], rfl, Nat.zero_le _, Nat.zero_le _, rfl, (fun z hz => by cases hz), Below.refl _ _, World.ownsRow_nil _ _ _ _⟩
  case round =>
    obtain ⟨k, pre, rfl, hk, hpl, HT, HA, HB, O⟩ := hrel
    have hb0 : blkAt false s k ≤ s.size := by
      have := blk_le false (tl s k); rw [tl_len] at this; unfold blkAt; omega
    have hbm : k ≤ blkAt false s k := by unfold blkAt; omega
    have HE := Hid.intro (fun h => tells_at_end (s := s) (k := k) h)
    have HN := Hid.intro (fun h h1 => tells_at_no (s := s) (k := k) h h1)
    have HY := Hid.intro (fun x h h1 => tells_at_yes (s := s) (k := k) (x := x) h h1)
    generalize hq : blkAt false s k = q at *
    by_cases hlt : (q : Int) < (s.size : Int)
    · have hlt' : q < s.size := by omega
      have HX := fun w => Hid.intro (rone_any s q hlt' (by omega) w)
      cases ho : oneL q (tl s q) with
      | none =>
        have hT := HT.out.trans (congrArg (pre ++ ·) (HN.out hlt' ho))
        have hF : lexF s = some q := by
          rw [lexF, hT]
          exact gth_bad pre (⟨0, ⟨#[]⟩, q, 0⟩, false) [] 0 HA.out (by omega) (.inl rfl)
        have hres : ∀ W, R (.returned (.tuple #[.slice none 0 0, .int .i64 (q : Int), .int .i64 20])) W := fun W => by
          rw [← HR.out, ranyPost, hF]
        rw [ho] at HX
        simp only [ROne] at HX
        clear hT hF ho HN HY HE
        go_wp2_with fail
        refine (HX _).out.mono ?_
        rintro e w2 ⟨⟨kk, tt, ee, rfl, hee⟩, hb2⟩
        have HB2 := Hid.intro (hb2.via HB.out)
        clear hb2
        obtain ⟨⟨g0, g1, g2, g3⟩, -⟩ := F4.new w2 (.int .i64 kk) (.string tt) (.int .i64 (q : Int)) (.int .i64 ee) 32
        simp only [lxv]
        go_wp2
        refine bodyPost_ret (v := .tuple #[.slice none 0 0, .int .i64 (q : Int), .int .i64 20]) (by simp [results, Try.results17, go_sem]) rfl ⟨hres _, below_al HB2.out _⟩
      | some y =>
        have hT := HT.out.trans (congrArg (pre ++ ·) (HY.out y hlt' ho))
        obtain ⟨hp1, hp2, hp3⟩ := oneL_pos ho
        rw [tl_len] at hp3
        rw [ho] at HX
        obtain ⟨yk, yt, ya, ye⟩ := y
        simp only at hT hp1 hp2 hp3
        subst ya
        simp only [ROne, Lx.v, lxv] at HX
        have HH := Hid.intro hT
        clear hT ho HN HY HE
        have hgt : (q : Int) < (ye : Int) := by omega
        obtain ⟨pv, cv, rfl⟩ := own_form O.out
        by_cases hmost : pre.length = 4096
        · have hF : lexF s = some q := by
            rw [lexF, HH.out]
            exact gth_bad pre (⟨yk, yt, q, ye⟩, true) (tells ye (tl s ye)) 0 HA.out (by omega) (.inr (by omega))
          have hres : ∀ W, R (.returned (.tuple #[.slice none 0 0, .int .i64 (q : Int), .int .i64 20])) W := fun W => by
            rw [← HR.out, ranyPost, hF]
          have hm : ((pre.length : Int) == 4096) = true := by rw [hmost]; rfl
          clear hF
          go_wp2_with fail
          refine (HX _).out.mono ?_
          rintro e w2 ⟨rfl, hb2⟩
          have HB2 := Hid.intro (hb2.via HB.out)
          clear hb2
          obtain ⟨⟨g0, g1, g2, g3⟩, -⟩ := F4.new w2 (.int .i64 yk) (.string yt) (.int .i64 (q : Int)) (.int .i64 (ye : Int)) 32
          go_wp2
          refine bodyPost_ret (v := .tuple #[.slice none 0 0, .int .i64 (q : Int), .int .i64 20]) (by simp [results, Try.results17, go_sem]) rfl ⟨hres _, below_al HB2.out _⟩
        · have hm : ((pre.length : Int) == 4096) = false := by simp; omega
          have HB5 := fun w => Hid.intro (rblank_any s ye (by omega) (by omega) w)
          have hy1 : ye ≤ blkAt false s ye := by unfold blkAt; omega
          have hle : decide (ye ≤ q) = false := by simp; omega
          go_wp2_with fail
          refine (HX _).out.mono ?_
          rintro e w2 ⟨rfl, hb2⟩
          have HB2 := Hid.intro (hb2.via HB.out)
          have O2 := Hid.intro (own_below O.out hb2)
          clear hb2
          have HF3 := Hid.intro (F4.new w2 (.int .i64 yk) (.string yt) (.int .i64 (q : Int)) (.int .i64 (ye : Int)) 32)
          obtain ⟨⟨g0, g1, g2, g3⟩, -⟩ := HF3.out
          have HB3 := Hid.intro (below_al HB2.out (.cells #[.int .i64 yk, .string yt, .int .i64 (q : Int), .int .i64 (ye : Int)] 32))
          have O3 := Hid.intro (O2.out.alloc (.cells #[.int .i64 yk, .string yt, .int .i64 (q : Int), .int .i64 (ye : Int)] 32))
          go_upto_region 7 with fail
          generalize hW3 : w2.alloc (.cells #[.int .i64 yk, .string yt, .int .i64 (q : Int), .int .i64 (ye : Int)] 32) = W3 at *
          have HS3 : Hid (W3.heap.size = w2.heap.size + 1) := by rw [← hW3]; simp [Hid]
          clear hW3
          have hsb := HB3.out.size
          go_wp2_with (at_builtin; refine wpList_append_lies _ rfl _ _ _ rfl w.heap.size 32 i0 _ 4 40 Try.underlying27 hi hz0 hz1 hz2 rfl (by omega) _ _ _ rfl (O3.out.alloc _) ⟨W3.heap.size, 0, none⟩ 1 1 [.int .i64 yk, .string yt, .int .i64 (q : Int), .int .i64 (ye : Int)] rfl rfl (cells4_new W3 _ _ _ _ _) (by simp [Value.oneCell']) (by omega) (by unfold maxLen; omega) (by omega) (by simp; omega) (W3.heap.size + 1) (by simp) ?_)
          intro g4 cap4 w4 O4 gr4 at4 lt4
          have HO := Hid.intro (app_row (y := ⟨yk, yt, q, ye⟩) HB3.out O3.out gr4 O4)
          have c3 : w4.cell? ⟨w2.heap.size, 3, none⟩ = some (.int .i64 (ye : Int)) := by
            have hlt3 : w2.heap.size < W3.heap.size := by have := HS3.out; omega
            have hb4 : w4.heap[w2.heap.size]? = W3.heap[w2.heap.size]? :=
              (gr4.block w2.heap.size (by simp; omega) (fun e => by have := (O2.out.lt _ e.symm).2; omega)).trans (Below.heap_alloc W3 _ _ hlt3)
            rw [World.cell?_of_block (a := ⟨w2.heap.size, 3, none⟩) hb4]
            exact g3
          clear O4 gr4 at4 lt4 g0 g1 g2 g3
          go_wp2_with (go_at_call 22; refine (HB5 _).out.mono ?_; rintro e w5 ⟨rfl, hw5⟩; subst w5)
          go_roundw
          case rel =>
            refine ⟨ye, pre ++ [((⟨yk, yt, q, ye⟩ : Lx), true)], rfl, by omega, by simp; omega, ?_, ?_, HO.out.1, HO.out.2⟩
            · rw [Hid, HH.out]; simp
            · intro z hz
              rcases List.mem_append.1 hz with h | h
              · exact HA.out z h
              · simp at h; subst h; rfl
          case measure => simp [intOf]; omega
    · have hqe : q = s.size := by omega
      have hT := HT.out
      rw [HE.out hqe, List.append_nil] at hT
      have hF : lexF s = none := by rw [lexF, hT]; exact gth_ok pre 0 HA.out (by omega)
      obtain ⟨pv, cv, rfl⟩ := own_form O.out
      have hL : lexT s = pre.map Prod.fst := by rw [lexT, hT]
      have hres : R (.returned (.tuple #[.slice pv pre.length cv, .int .i64 0, .int .i64 0])) wr := by
        rw [← HR.out, ranyPost, hF]
        refine ⟨_, rfl, ?_⟩
        rw [hL]
        refine Ls.ofR (t := 32) ?_
        rw [List.length_map]
        exact O.out
      clear hT hF hL HE HN HY
      go_wp2
      refine bodyPost_ret (v := .tuple #[.slice pv pre.length cv, .int .i64 0, .int .i64 0]) (by simp [results, Try.results17, go_sem]) rfl ⟨hres, HB.out⟩

set_option maxHeartbeats 1000000 in
theorem rlex_long {s : ByteArray} (h : 65536 < s.size) (w : World) : Calls Try.prog 9 #[.string s] w fun e W' => e = .returned (.tuple #[.slice none 0 0, .int .i64 0, .int .i64 21]) ∧ Below w.heap.size w W' := by
  have hl : (65536 : Int) < (s.size : Int) := by omega
  go_enter Try.func9, Try.ntmps9
  go_wp2
  refine bodyPost_ret (v := .tuple #[.slice none 0 0, .int .i64 0, .int .i64 21]) (by simp [results, Try.results9, go_sem]) rfl ⟨rfl, Below.refl _ _⟩

set_option maxHeartbeats 1000000 in
theorem rlex_bad {s : ByteArray} (h : s.size ≤ 65536) {a : Nat} (hF : lexF s = some a) (w : World) : Calls Try.prog 9 #[.string s] w fun e W' => e = .returned (.tuple #[.slice none 0 0, .int .i64 (a : Int), .int .i64 20]) ∧ Below w.heap.size w W' := by
  have hl : ¬ (65536 : Int) < (s.size : Int) := by omega
  have HX := fun w => Hid.intro (rany_any s h w)
  simp only [ranyPost, hF] at HX
  go_enter Try.func9, Try.ntmps9
  go_wp2_with (go_at_call 17; refine (HX _).out.mono ?_; rintro e w1 ⟨rfl, hw1⟩)
  refine bodyPost_ret (v := .tuple #[.slice none 0 0, .int .i64 (a : Int), .int .i64 20]) (by simp [results, Try.results9, go_sem]) rfl ⟨rfl, hw1⟩

set_option maxHeartbeats 1000000 in
theorem rlex_ls {s : ByteArray} (h : s.size ≤ 65536) (hF : lexF s = none) (w : World) : Calls Try.prog 9 #[.string s] w fun e W' => ∃ v, e = .returned (.tuple #[v, .int .i64 0, .int .i64 0]) ∧ Hid (Ls W' w.heap.size (lexT s) v) ∧ Hid (Below w.heap.size w W') := by
  have hl : ¬ (65536 : Int) < (s.size : Int) := by omega
  have HX := fun w => Hid.intro (rany_any s h w)
  simp only [ranyPost, hF] at HX
  go_enter Try.func9, Try.ntmps9
  go_wp2_with (go_at_call 17; refine (HX _).out.mono ?_; rintro e w1 ⟨⟨v1, rfl, HV1⟩, hw1⟩)
  refine bodyPost_ret (v := .tuple #[v1, .int .i64 0, .int .i64 0]) (by simp [results, Try.results9, go_sem]) rfl ⟨_, rfl, HV1, hw1⟩
end Go.Proofs.Ytlheiiapolhpeaa
