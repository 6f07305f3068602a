import Derived.Test.YtcgaadnfocmdbaaGreatDoorJoin06

section
/- conds, as a whole. -/
namespace Go.Proofs.YtcgaadnfocmdbaaGreatDoor
open Go.RowKit

set_option maxRecDepth 100000 in
set_option maxHeartbeats 4000000 in
theorem conds_any {K B o : Nat} {m : List Lx → Rs Cd} (hC : CC K B o m) (ends : List ByteArray) (hel : ends.length ≤ 100) {r : List Lx} {w : World} (h : PAt K w B r o) (g cap : Nat) (hc : ∀ k (hk : k < ends.length), w.cell? ⟨g, k, none⟩ = some (.string ends[k])) (hg : g < w.heap.size) (hgB : g ≠ B) :
    Calls Tryz.prog 149 #[.pointer (some ⟨B, 0, none⟩), .slice (some ⟨g, 0, none⟩) ends.length cap] w (Post K B o (r.length - 1) w (condsM m ends r) fun w' l v => ∃ p c, v = .slice p l.length c ∧ rep (fun b => w.heap.size ≤ b) w' (.sl l.length (Cd.css l)) (.slice p l.length c)) := by
  have hmf : ∀ (fn : Fn) (first cap : Array Value) (w : World), (Instr.makeFunc fn first cap).run Tryz.prog w = .ok (.func fn first cap) w := fun _ _ _ _ => rfl
  have hsz := h.size
  have hlen := h.len
  have H0 := Hid.intro (hC r w h)
  have HC := fun r w h => Hid.intro (hC r w h)
  have HCon := fun r w h hc hg => Hid.intro (contains_any (K := K) (B := B) (o := o) (r := r) (w := w) h ends g cap hc hg hel)
  have HE0 := Hid.intro hc
  clear hc
  obtain ⟨i0, hi, hz0, hz1, hz2⟩ := info_parts infoCond'
  unfold condsM
  cases h1 : m r with
  | bad q =>
    rw [h1] at H0
    rw [bd_bad]
    clear h1
    go_enter Tryz.func149, Tryz.ntmps149
    go_wp2_with fail
    refine H0.out.mono ?_
    rintro e w1 ⟨hb, rfl⟩
    exact ⟨rfl, hb, rfl⟩
  | ok c r1 =>
    rw [h1] at H0
    rw [bd_ok]
    clear h1
    go_enter Tryz.func149, Tryz.ntmps149
    go_wp2_with fail
    refine H0.out.mono ?_
    rintro e w1 ⟨hb, hl, hp, v, rfl, hv⟩
    have hv' := hv
    obtain ⟨x3, x4, x5, x6, x7, x14, x15, x18, rfl, -⟩ := hv
    have hrow : Hid (RowS w.heap.size 96 19 1 (Cd.css [c]) (w1.alloc (.cells #[.int .i64 c.k, .string c.v, .string c.c, x3, x4, x5, x6, x7, .int .i64 c.e.op, .string c.e.t, .int .i64 c.e.v.k, .bool c.e.v.b, .int .i64 c.e.v.i, .string c.e.v.s, x14, x15, .string c.fn, .string c.name, x18] 96)) (.slice (some ⟨w1.heap.size, 0, none⟩) 1 1)) := by
      refine ⟨by have := hb.size; simp; omega, [.int .i64 c.k, .string c.v, .string c.c, x3, x4, x5, x6, x7, .int .i64 c.e.op, .string c.e.t, .int .i64 c.e.v.k, .bool c.e.v.b, .int .i64 c.e.v.i, .string c.e.v.s, x14, x15, .string c.fn, .string c.name, x18], ⟨rfl, .inr ⟨w1.heap.size, 1, _, rfl, hb.size, heap_alloc_new w1 _, Nat.le_refl _, by unfold maxLen; omega, rfl, rfl⟩⟩, ?_⟩
      have := (hv'.move (Kp.alloc w1 (.cells #[.int .i64 c.k, .string c.v, .string c.c, x3, x4, x5, x6, x7, .int .i64 c.e.op, .string c.e.t, .int .i64 c.e.v.k, .bool c.e.v.b, .int .i64 c.e.v.i, .string c.e.v.s, x14, x15, .string c.fn, .string c.name, x18] 96)) (fun _ _ h => h)).reps.1
      simp only [Cd.css, List.append_nil]
      exact reps.move (Kp.refl) (fun b _ h => h) _ _ (reps.move (P := fun b => w.heap.size ≤ b ∧ b < w1.heap.size) Kp.refl (fun b _ h => ⟨h.1, by simp [Value.ownBlock]; omega⟩) _ _ (by
        have h2 := (hv'.move (Q := fun b => w.heap.size ≤ b ∧ b < w1.heap.size) Kp.refl (fun b hb h => ⟨h, hb⟩)).move (Kp.alloc w1 (.cells #[.int .i64 c.k, .string c.v, .string c.c, x3, x4, x5, x6, x7, .int .i64 c.e.op, .string c.e.t, .int .i64 c.e.v.k, .bool c.e.v.b, .int .i64 c.e.v.i, .string c.e.v.s, x14, x15, .string c.fn, .string c.name, x18] 96)) (fun _ _ h => h)
        exact h2.reps.1))
    have HB1 := Hid.intro (hb.alloc (.cells #[.int .i64 c.k, .string c.v, .string c.c, x3, x4, x5, x6, x7, .int .i64 c.e.op, .string c.e.t, .int .i64 c.e.v.k, .bool c.e.v.b, .int .i64 c.e.v.i, .string c.e.v.s, x14, x15, .string c.fn, .string c.name, x18] 96))
    have HP1 := Hid.intro (hp.via (below_al (Below.refl _ _) (.cells #[.int .i64 c.k, .string c.v, .string c.c, x3, x4, x5, x6, x7, .int .i64 c.e.op, .string c.e.t, .int .i64 c.e.v.k, .bool c.e.v.b, .int .i64 c.e.v.i, .string c.e.v.s, x14, x15, .string c.fn, .string c.name, x18] 96)))
    clear hv'
    go_wp2_with fail
    go_loopw [5] (fun a5 w' => ∃ ps cs l r' f, a5 = .slice ps l.length cs ∧ Hid (RowS w.heap.size 96 19 l.length (Cd.css l) w' (.slice ps l.length cs)) ∧ Hid (PAt K w' B r' o) ∧ l.length + r'.length ≤ 10000 ∧ r'.length ≤ r.length - 1 ∧ r'.length ≤ f ∧ Hid (Bt B w w') ∧ Hid (condsL m ends f l r' = condsL m ends r1.length [c] r1)) (fun _ w' => rlen B w')
    case atStart => exact ⟨_, _, [c], r1, r1.length, rfl, hrow, HP1, by simp; omega, hl, Nat.le_refl _, HB1, rfl⟩
    case round =>
      clear hrow HP1 HB1
      obtain ⟨ps, cs, l, r', f, rfl, HR, HP, hll, hl', hlf, HB, HE⟩ := hrel
      obtain ⟨x, r0, rfl, -⟩ := gd_cons HP.out.gd
      obtain ⟨f, rfl⟩ : ∃ f', f = f' + 1 := ⟨f - 1, by simp at hlf; omega⟩
      have hCon := HCon (x :: r0) wr HP.out (fun k hk => (HB.out.cell (p := ⟨g, k, none⟩) hg hgB).trans (HE0.out k hk)) (Nat.lt_of_lt_of_le hg HB.out.size)
      cases hs : ends.any (fun s => isM s (x :: r0)) with
      | true =>
        rw [hs] at hCon
        have HE : Hid (Rs.ok l (x :: r0) = condsL m ends r1.length [c] r1) := by
          have := HE.out
          rw [condsL, if_pos hs] at this
          exact this
        clear hs
        go_wp2_with (go_at_call 169; refine hCon.out.mono ?_; rintro e w2 ⟨hb2, rfl⟩)
        go_ret
        rw [← HE.out]
        refine Post.ok (HB.out.trans (Bt.below hb2)) hl' (HP.out.via hb2) ⟨ps, cs, rfl, (HR.out.bt (Bt.below (B := B) hb2) (by omega)).rep⟩
      | false =>
        rw [hs] at hCon
        have HE : Hid ((m (x :: r0)).bd (fun c r => condsL m ends f (l ++ [c]) r) = condsL m ends r1.length [c] r1) := by
          have := HE.out
          rw [condsL, if_neg (by simp [hs])] at this
          exact this
        clear hs
        have hrl := HP.out.rlen
        have HC := HC (x :: r0)
        cases hm : m (x :: r0) with
        | bad q =>
          rw [hm] at HC HE
          clear hm
          go_wp2_with (go_at_call 169; refine hCon.out.mono ?_; rintro e w2 ⟨hb2, rfl⟩)
          refine (HC _ (HP.out.via hb2)).out.mono ?_
          rintro e w3 ⟨hb3, rfl⟩
          refine ⟨rfl, (HB.out.trans (Bt.below hb2)).trans hb3, ?_⟩
          rw [← HE.out]
          rfl
        | ok c' r2 =>
          rw [hm, bd_ok] at HE
          rw [hm] at HC
          clear hm
          go_wp2_with (go_at_call 169; refine hCon.out.mono ?_; rintro e w2 ⟨hb2, rfl⟩)
          refine (HC _ (HP.out.via hb2)).out.mono ?_
          rintro e w3 ⟨hb3, hl3, hp3, v3, rfl, hv3⟩
          have hv3' := hv3
          obtain ⟨y3, y4, y5, y6, y7, y14, y15, y18, rfl, -⟩ := hv3
          have hR3 := (HR.out.bt (Bt.below (B := B) hb2) (by omega)).bt hb3 (by omega)
          obtain ⟨hn3, vs3, ho3, hr3⟩ := hR3
          have HO3 := Hid.intro ho3
          have hs2 : w.heap.size ≤ w2.heap.size := Nat.le_trans HB.out.size hb2.size
          have hone := hv3'.reps.2.2
          have HOne : Hid (∀ u ∈ [.int .i64 c'.k, .string c'.v, .string c'.c, y3, y4, y5, y6, y7, .int .i64 c'.e.op, .string c'.e.t, .int .i64 c'.e.v.k, .bool c'.e.v.b, .int .i64 c'.e.v.i, .string c'.e.v.s, y14, y15, .string c'.fn, .string c'.name, y18], u.oneCell' = true) := by
            intro u hu
            rw [Array.all_eq_true_iff_forall_mem] at hone
            exact hone u (by simpa using hu)
          clear hone
          simp only [List.length_cons] at hl3 hrl hll hlf hl'
          go_wp2_with (at_builtin; refine wpList_append_own_at _ rfl _ _ 48 rfl w.heap.size 96 i0 _ 19 328 Tryz.underlying48 hi hz0 hz1 hz2 rfl (by decide) _ _ _ rfl (HO3.out.alloc _) ⟨w3.heap.size, 0, none⟩ 1 1 [.int .i64 c'.k, .string c'.v, .string c'.c, y3, y4, y5, y6, y7, .int .i64 c'.e.op, .string c'.e.t, .int .i64 c'.e.v.k, .bool c'.e.v.b, .int .i64 c'.e.v.i, .string c'.e.v.s, y14, y15, .string c'.fn, .string c'.name, y18] rfl rfl (fun j u hj => by rw [addr_add, Nat.zero_add, (heap_cell (heap_alloc_new w3 _) j).1, ← hj]; simp) HOne.out (by unfold maxLen; omega) (by omega) (by simp; omega) ?_; intro v' w4 hown' hgrow _ hat; obtain ⟨g', cap', rfl⟩ := ownsRow_succ hown')
          have hal : (w3.alloc (.cells #[.int .i64 c'.k, .string c'.v, .string c'.c, y3, y4, y5, y6, y7, .int .i64 c'.e.op, .string c'.e.t, .int .i64 c'.e.v.k, .bool c'.e.v.b, .int .i64 c'.e.v.i, .string c'.e.v.s, y14, y15, .string c'.fn, .string c'.name, y18] 96)).heap.size = w3.heap.size + 1 := by simp
          have hq : ∀ b, b < w3.heap.size → w2.heap.size ≤ b → (w.heap.size ≤ b ∧ some b ≠ Value.ownBlock (.slice ps l.length cs)) := fun b hb h => ⟨by omega, fun he => by
            have := (HR.out.2.choose_spec.1.lt b he.symm).2
            have := hb2.size
            omega⟩
          have hes : reps (fun b => w.heap.size ≤ b ∧ some b ≠ Value.ownBlock (.slice ps l.length cs)) (w3.alloc (.cells #[.int .i64 c'.k, .string c'.v, .string c'.c, y3, y4, y5, y6, y7, .int .i64 c'.e.op, .string c'.e.t, .int .i64 c'.e.v.k, .bool c'.e.v.b, .int .i64 c'.e.v.i, .string c'.e.v.s, y14, y15, .string c'.fn, .string c'.name, y18] 96)) c'.cs [.int .i64 c'.k, .string c'.v, .string c'.c, y3, y4, y5, y6, y7, .int .i64 c'.e.op, .string c'.e.t, .int .i64 c'.e.v.k, .bool c'.e.v.b, .int .i64 c'.e.v.i, .string c'.e.v.s, y14, y15, .string c'.fn, .string c'.name, y18] := ((hv3'.move Kp.refl hq).move (Kp.alloc w3 (.cells #[.int .i64 c'.k, .string c'.v, .string c'.c, y3, y4, y5, y6, y7, .int .i64 c'.e.op, .string c'.e.t, .int .i64 c'.e.v.k, .bool c'.e.v.b, .int .i64 c'.e.v.i, .string c'.e.v.s, y14, y15, .string c'.fn, .string c'.name, y18] 96)) (fun _ _ h => h)).reps.1
          have hR4 := RowS.push (by omega) (ho3.alloc _) (reps.move (Kp.alloc w3 _) (fun _ _ h => h) _ _ hr3) hes hown' hgrow hat
          have hB4 : Bt B w w4 := (((HB.out.trans (Bt.below hb2)).trans hb3).alloc _).grown hgrow (fun k hk => (ho3.lt k hk).1)
          have hp4 : PAt K w4 B r2 o := (hp3.via (below_al (Below.refl _ _) _)).grown hgrow (fun k hk => by have := (ho3.lt k hk).1; omega)
          have hrl4 := hp4.rlen
          have hll4 : (l ++ [c']).length = l.length + 1 := by simp
          have HR4 : Hid (RowS w.heap.size 96 19 (l ++ [c']).length (Cd.css (l ++ [c'])) w4 (.slice (some ⟨g', 0, none⟩) (l ++ [c']).length cap')) := by
            show RowS _ _ _ _ _ _ _
            rw [Cd.css_snoc, hll4]
            exact hR4
          clear hR4 hes hq
          go_roundw
          case rel => exact ⟨_, _, l ++ [c'], r2, f, by rw [hll4], HR4, hp4, by simp; omega, by omega, by omega, hB4, HE⟩
          case measure => omega
end Go.Proofs.YtcgaadnfocmdbaaGreatDoor
end

section
/- block. -/
namespace Go.Proofs.YtcgaadnfocmdbaaGreatDoor
open Go.RowKit

/-- A slice in a variable of its own. -/
def SBx (B E : Nat) (sl : TypeId) (m : Nat) (ds : List Dt) (w : World) : Prop := B < E ∧ ∃ p c, w.heap[E]? = some (.cells #[.slice p m c] sl (0, 0)) ∧ rep (fun b => E < b) w (.sl m ds) (.slice p m c)
theorem SBx.bt {B E : Nat} {sl : TypeId} {m : Nat} {ds : List Dt} {w w' : World} (h : SBx B E sl m ds w) (k : Bt B w w') : SBx B E sl m ds w' := by
  obtain ⟨hB, p, c, h1, h2⟩ := h
  exact ⟨hB, p, c, row_bt k (by omega) h1, rep.move (k.kp (by omega)) (fun _ _ h => h) _ _ h2⟩
theorem SBx.put {B E : Nat} {sl : TypeId} {m : Nat} {ds : List Dt} {w : World} {v0 : Value} {p : Option Addr} {c : Nat} (hB : B < E) (h1 : w.heap[E]? = some (.cells #[v0] sl (0, 0))) (h : rep (fun b => E < b) w (.sl m ds) (.slice p m c)) : SBx B E sl m ds (w.setCell ⟨E, 0, none⟩ (.slice p m c)) :=
  ⟨hB, p, c, heap_put h1 _, rep.move (Kp.set _ _ _ (by simp)) (fun _ _ h => h) _ _ h⟩
def BJ (B c1 E : Nat) (l : List Cd) (w : World) (P : Nat → Prop) : Prop := Bx B c1 (.pointer (some ⟨B, 0, none⟩)) w ∧ SBx B E 48 l.length (Cd.css l) w ∧ c1 ≠ E ∧ ∀ b, P b → b ≠ E
theorem BJ.stb (B c1 E : Nat) (l : List Cd) : Stb B (BJ B c1 E l) := by
  rintro w w' P P' ⟨h1, h2, h3, h4⟩ hb hp
  refine ⟨h1.bt hb, h2.bt hb, h3, fun b h => ?_⟩
  rcases hp b h with h | h
  · exact h4 b h
  · obtain ⟨-, _, _, h5, -⟩ := h2
    have := (Array.getElem?_eq_some_iff.1 h5).1
    omega
theorem run_blk1 (caps : Array Value) (w : World) : (callFunc 148 caps).run Tryz.prog w = .ok (.enter 148 caps) w := by simp [go_sem]
theorem str_cell (w : World) (s : ByteArray) (t : TypeId) : ∀ k (hk : k < [s].length), (w.alloc (.cells #[.string s] t)).cell? ⟨w.heap.size, k, none⟩ = some (.string [s][k]) := by
  intro k hk
  have : k = 0 := by simp at hk; omega
  subst this
  exact (heap_cell (heap_alloc_new w _) 0).1

set_option maxRecDepth 100000 in
set_option maxHeartbeats 2000000 in
theorem blk1_clo {K B o : Nat} {m : List Lx → Rs Cd} (hC : CC K B o m) (c1 E : Nat) (hE : K ≤ E) :
    Clo K B o (fun _ _ => True) (BJ B c1 E) 148 #[.pointer (some ⟨c1, 0, none⟩), .pointer (some ⟨E, 0, none⟩)] (fun _ r => condsM m [⟨#[41]⟩] r) := by
  refine ⟨run_blk1 _, ?_⟩
  rintro P s r w hP - ⟨h1, h2, h3, h4⟩ h
  show Calls _ _ _ _ (CPost K B o r.length P w _ _ (condsM m [⟨#[41]⟩] r))
  have d1 := h1.2.2.1
  have hsz := h.size
  have HN := Hid.intro (conds_any hC [⟨#[41]⟩] (by simp) (h.via (below_al (Below.refl _ _) (.cells #[.string ⟨#[41]⟩] 9))) w.heap.size 1 (str_cell w ⟨#[41]⟩ 9) (by simp) (by omega))
  cases hm : condsM m [⟨#[41]⟩] r with
  | bad q =>
    rw [hm] at HN
    clear hm
    go_enter Tryz.func148, Tryz.ntmps148
    go_wp2_with fail
    refine HN.out.mono ?_
    rintro e w1 ⟨hb, rfl⟩
    exact ⟨rfl, (((Bt.refl B w).alloc _).trans hb).fr hP, rfl⟩
  | ok l r1 =>
    rw [hm] at HN
    clear hm
    go_enter Tryz.func148, Tryz.ntmps148
    go_wp2_with fail
    refine HN.out.mono ?_
    rintro e w1 ⟨hb, hl, hp, v, rfl, p, c, rfl, hr⟩
    have hbt := ((Bt.refl B w).alloc (.cells #[.string ⟨#[41]⟩] 9)).trans hb
    obtain ⟨hB, p0, c0, k1, k2⟩ := h2
    have hEw : E < w.heap.size := (Array.getElem?_eq_some_iff.1 k1).1
    have k3 := row_bt hbt (by omega) k1
    have e1 : w1.cell? ⟨E, 0, none⟩ = some _ := (heap_cell k3 0).1
    have f1 : w1.frozen? ⟨E, 0, none⟩ = false := (heap_cell k3 0).2
    go_wp2_with fail
    go_end0
    exact ⟨(hbt.fr hP).set h4 _, rfl, trivial, ⟨(h1.bt hbt).set h3, SBx.put hB k3 (rep.move Kp.refl (fun b _ h => by simp at h; omega) _ _ hr), h3, h4⟩, hp.set hE _ _, by omega⟩

set_option maxRecDepth 100000 in
set_option maxHeartbeats 2000000 in
theorem block_any {K B o : Nat} {m : List Lx → Rs Cd} (hC : CC K B (o + 1) m) {r : List Lx} {w : World} (h : PAt K w B r o) :
    Calls Tryz.prog 109 #[.pointer (some ⟨B, 0, none⟩)] w (Post K B o (r.length - 1) w (withinM ⟨#[40]⟩ ⟨#[41]⟩ o (condsM m [⟨#[41]⟩]) r) fun w' l v => ∃ p c, v = .slice p l.length c ∧ rep (fun b => w.heap.size ≤ b) w' (.sl l.length (Cd.css l)) (.slice p l.length c)) := by
  have hmf : ∀ (fn : Fn) (first cap : Array Value) (w : World), (Instr.makeFunc fn first cap).run Tryz.prog w = .ok (.func fn first cap) w := fun _ _ _ _ => rfl
  have hsz := h.size
  have hb0 : Bt B w ((w.alloc (.cells #[.pointer (some ⟨B, 0, none⟩)] 55)).alloc (.cells #[.slice none 0 0] 48)) := ((Bt.refl B w).alloc _).alloc _
  have hj : BJ B w.heap.size (w.heap.size + 1) [] ((w.alloc (.cells #[.pointer (some ⟨B, 0, none⟩)] 55)).alloc (.cells #[.slice none 0 0] 48)) (fun b => b < w.heap.size ∧ b ≠ B) :=
    ⟨(Bx.new w _ _ (by omega)).bt ((Bt.refl B _).alloc _), ⟨by omega, none, 0, heap_alloc2_new w _ _, by simpa [Cd.css] using rep.none⟩, by omega, fun b hb => by omega⟩
  have HW := Hid.intro (within_any (fun _ _ _ => trivial) (BJ.stb B w.heap.size (w.heap.size + 1)) (blk1_clo hC w.heap.size (w.heap.size + 1) (by omega)) (P := fun b => b < w.heap.size ∧ b ≠ B) (s := []) (r := r) (fun b hb => ⟨by simp; omega, hb.2⟩) trivial hj (h.via (below_al (below_al (Below.refl _ _) _) _)) ⟨#[40]⟩ ⟨#[41]⟩)
  clear hj
  show Calls _ _ _ _ (Post K B o (r.length - 1) w (withinM _ _ o (fun r => condsM m [⟨#[41]⟩] r) r) _)
  cases hm : withinM ⟨#[40]⟩ ⟨#[41]⟩ o (fun r => condsM m [⟨#[41]⟩] r) r with
  | bad q =>
    rw [hm] at HW
    clear hm
    go_enter Tryz.func109, Tryz.ntmps109
    go_wp2_with fail
    refine HW.out.mono ?_
    rintro e w1 ⟨hf, rfl⟩
    exact ⟨rfl, hb0.fra hf, rfl⟩
  | ok l r1 =>
    rw [hm] at HW
    clear hm
    go_enter Tryz.func109, Tryz.ntmps109
    go_wp2_with fail
    refine HW.out.mono ?_
    rintro e w1 ⟨hf, rfl, -, ⟨-, ⟨hB, p, c, hc, hr⟩, -, -⟩, hp, hl⟩
    have e1 : w1.cell? ⟨w.heap.size + 1, 0, none⟩ = some _ := (heap_cell hc 0).1
    have f1 : w1.frozen? ⟨w.heap.size + 1, 0, none⟩ = false := (heap_cell hc 0).2
    have hEw : w.heap.size + 1 < w1.heap.size := (Array.getElem?_eq_some_iff.1 hc).1
    go_wp2_with fail
    have e2 : (w1.setCell ⟨w.heap.size + 1, 0, none⟩ (.slice p l.length c)).cell? ⟨w.heap.size + 1, 0, none⟩ = some (.slice p l.length c) := World.cell?_setCell_same _ _ _ e1
    refine bodyPost_ret (v := .slice p l.length c) ?_ rfl (Post.ok ((hb0.fra hf).own (by omega) _ _) hl (hp.set (by omega) _ _) ⟨p, c, rfl, ?_⟩)
    · simp [results, Tryz.results109, go_sem, e2]
    · exact rep.move (Kp.set _ _ _ (by simp)) (fun b _ h => by omega) _ _ hr
end Go.Proofs.YtcgaadnfocmdbaaGreatDoor
end

section
/- forall. -/
namespace Go.Proofs.YtcgaadnfocmdbaaGreatDoor
open Go.RowKit

/-- A condition in a variable of its own, its lists behind it. -/
def CdBx (B C : Nat) (w : World) (c : Cd) : Prop := B < C ∧ ∃ cells, w.heap[C]? = some (.cells cells 96 (0, 0)) ∧ CdV (fun b => C < b) w c (.agg cells)
theorem CdBx.bt {B C : Nat} {w w' : World} {c : Cd} (h : CdBx B C w c) (k : Bt B w w') : CdBx B C w' c := by
  obtain ⟨hB, cells, h1, h2⟩ := h
  exact ⟨hB, cells, row_bt k (by omega) h1, h2.move (k.kp (by omega)) (fun _ _ h => h)⟩
theorem CdBx.cell {B C : Nat} {w : World} {c : Cd} (h : CdBx B C w c) : ∃ cells, w.heap[C]? = some (.cells cells 96 (0, 0)) ∧ cells.size = 19 ∧ C < w.heap.size := by
  obtain ⟨hB, cells, h1, h2⟩ := h
  exact ⟨cells, h1, h2.reps.2.1, (Array.getElem?_eq_some_iff.1 h1).1⟩
theorem cell_some {w : World} {C : Nat} {cells : Array Value} {t : TypeId} (h : w.heap[C]? = some (.cells cells t (0, 0))) {j : Nat} (hj : j < cells.size) : (∃ u, w.cell? ⟨C, j, none⟩ = some u) ∧ w.frozen? ⟨C, j, none⟩ = false :=
  ⟨⟨cells[j], by rw [(heap_cell h j).1]; exact Array.getElem?_eq_getElem hj⟩, (heap_cell h j).2⟩
theorem CdBx.putConds {B C : Nat} {w : World} {c : Cd} (h : CdBx B C w c) {l : List Cd} {p : Option Addr} {q : Nat} (hr : rep (fun b => C < b) w (.sl l.length (Cd.css l)) (.slice p l.length q)) : CdBx B C (w.setCell ⟨C, 5, none⟩ (.slice p l.length q)) { c with conds := l } := by
  obtain ⟨hB, cells, hh, x3, x4, x5, x6, x7, x14, x15, x18, he, ⟨h3, h4, h5, h6, h7⟩, h14, h15, h18⟩ := h
  obtain rfl := Value.agg.inj he
  exact ⟨hB, _, heap_put hh _, x3, x4, .slice p l.length q, x6, x7, x14, x15, x18, rfl, ⟨rep.move (Kp.set _ _ _ (by simp)) (fun _ _ h => h) _ _ h3, rep.move (Kp.set _ _ _ (by simp)) (fun _ _ h => h) _ _ h4, rep.move (Kp.set _ _ _ (by simp)) (fun _ _ h => h) _ _ hr, rep.move (Kp.set _ _ _ (by simp)) (fun _ _ h => h) _ _ h6, rep.move (Kp.set _ _ _ (by simp)) (fun _ _ h => h) _ _ h7⟩, rep.move (Kp.set _ _ _ (by simp)) (fun _ _ h => h) _ _ h14, rep.move (Kp.set _ _ _ (by simp)) (fun _ _ h => h) _ _ h15, rep.move (Kp.set _ _ _ (by simp)) (fun _ _ h => h) _ _ h18⟩
theorem CdBx.putThn {B C : Nat} {w : World} {c : Cd} (h : CdBx B C w c) {l : List Cd} {p : Option Addr} {q : Nat} (hr : rep (fun b => C < b) w (.sl l.length (Cd.css l)) (.slice p l.length q)) : CdBx B C (w.setCell ⟨C, 6, none⟩ (.slice p l.length q)) { c with thn := l } := by
  obtain ⟨hB, cells, hh, x3, x4, x5, x6, x7, x14, x15, x18, he, ⟨h3, h4, h5, h6, h7⟩, h14, h15, h18⟩ := h
  obtain rfl := Value.agg.inj he
  exact ⟨hB, _, heap_put hh _, x3, x4, x5, .slice p l.length q, x7, x14, x15, x18, rfl, ⟨rep.move (Kp.set _ _ _ (by simp)) (fun _ _ h => h) _ _ h3, rep.move (Kp.set _ _ _ (by simp)) (fun _ _ h => h) _ _ h4, rep.move (Kp.set _ _ _ (by simp)) (fun _ _ h => h) _ _ h5, rep.move (Kp.set _ _ _ (by simp)) (fun _ _ h => h) _ _ hr, rep.move (Kp.set _ _ _ (by simp)) (fun _ _ h => h) _ _ h7⟩, rep.move (Kp.set _ _ _ (by simp)) (fun _ _ h => h) _ _ h14, rep.move (Kp.set _ _ _ (by simp)) (fun _ _ h => h) _ _ h15, rep.move (Kp.set _ _ _ (by simp)) (fun _ _ h => h) _ _ h18⟩
theorem CdBx.putV {B C : Nat} {w : World} {c : Cd} (h : CdBx B C w c) (s : ByteArray) : CdBx B C (w.setCell ⟨C, 1, none⟩ (.string s)) { c with v := s } := by
  obtain ⟨hB, cells, hh, x3, x4, x5, x6, x7, x14, x15, x18, he, ⟨h3, h4, h5, h6, h7⟩, h14, h15, h18⟩ := h
  obtain rfl := Value.agg.inj he
  exact ⟨hB, _, heap_put hh _, x3, x4, x5, x6, x7, x14, x15, x18, rfl, ⟨rep.move (Kp.set _ _ _ (by simp)) (fun _ _ h => h) _ _ h3, rep.move (Kp.set _ _ _ (by simp)) (fun _ _ h => h) _ _ h4, rep.move (Kp.set _ _ _ (by simp)) (fun _ _ h => h) _ _ h5, rep.move (Kp.set _ _ _ (by simp)) (fun _ _ h => h) _ _ h6, rep.move (Kp.set _ _ _ (by simp)) (fun _ _ h => h) _ _ h7⟩, rep.move (Kp.set _ _ _ (by simp)) (fun _ _ h => h) _ _ h14, rep.move (Kp.set _ _ _ (by simp)) (fun _ _ h => h) _ _ h15, rep.move (Kp.set _ _ _ (by simp)) (fun _ _ h => h) _ _ h18⟩
theorem CdBx.putFn {B C : Nat} {w : World} {c : Cd} (h : CdBx B C w c) (s : ByteArray) : CdBx B C (w.setCell ⟨C, 16, none⟩ (.string s)) { c with fn := s } := by
  obtain ⟨hB, cells, hh, x3, x4, x5, x6, x7, x14, x15, x18, he, ⟨h3, h4, h5, h6, h7⟩, h14, h15, h18⟩ := h
  obtain rfl := Value.agg.inj he
  exact ⟨hB, _, heap_put hh _, x3, x4, x5, x6, x7, x14, x15, x18, rfl, ⟨rep.move (Kp.set _ _ _ (by simp)) (fun _ _ h => h) _ _ h3, rep.move (Kp.set _ _ _ (by simp)) (fun _ _ h => h) _ _ h4, rep.move (Kp.set _ _ _ (by simp)) (fun _ _ h => h) _ _ h5, rep.move (Kp.set _ _ _ (by simp)) (fun _ _ h => h) _ _ h6, rep.move (Kp.set _ _ _ (by simp)) (fun _ _ h => h) _ _ h7⟩, rep.move (Kp.set _ _ _ (by simp)) (fun _ _ h => h) _ _ h14, rep.move (Kp.set _ _ _ (by simp)) (fun _ _ h => h) _ _ h15, rep.move (Kp.set _ _ _ (by simp)) (fun _ _ h => h) _ _ h18⟩
/-- What is known while a closure fills a condition. -/
structure CK (P : Nat → Prop) (w0 : World) (K B o c1 C : Nat) (c : Cd) (W : World) (r : List Lx) : Prop where
  fr : Fr P w0 W
  bx : Bx B c1 (.pointer (some ⟨B, 0, none⟩)) W
  cb : CdBx B C W c
  at_ : PAt K W B r o
theorem CK.bt {P : Nat → Prop} {w0 : World} {K B o c1 C : Nat} {c : Cd} {W W' : World} {r r' : List Lx} (h : CK P w0 K B o c1 C c W r) (hb : Bt B W W') (hP : Kn B P w0) (hp : PAt K W' B r' o) : CK P w0 K B o c1 C c W' r' :=
  ⟨h.fr.trans (hb.fr (hP.up h.fr.size)), h.bx.bt hb, h.cb.bt hb, hp⟩
theorem CK.put {P : Nat → Prop} {w0 : World} {K B o c1 C : Nat} {c c' : Cd} {W : World} {r : List Lx} (h : CK P w0 K B o c1 C c W r) {i : Nat} {v : Value} (hc : c1 ≠ C) (hp : ∀ b, P b → b ≠ C) (hC : K ≤ C) (hcb : CdBx B C (W.setCell ⟨C, i, none⟩ v) c') : CK P w0 K B o c1 C c' (W.setCell ⟨C, i, none⟩ v) r :=
  ⟨h.fr.set hp _, h.bx.set hc, hcb, h.at_.set hC _ _⟩
def CJ (B c1 C : Nat) (c : Cd) (w : World) (P : Nat → Prop) : Prop := Bx B c1 (.pointer (some ⟨B, 0, none⟩)) w ∧ CdBx B C w c ∧ c1 ≠ C ∧ ∀ b, P b → b ≠ C
theorem CJ.stb (B c1 C : Nat) (c : Cd) : Stb B (CJ B c1 C c) := by
  rintro w w' P P' ⟨h1, h2, h3, h4⟩ hb hp
  refine ⟨h1.bt hb, h2.bt hb, h3, fun b h => ?_⟩
  rcases hp b h with h | h
  · exact h4 b h
  · obtain ⟨_, _, _, h5⟩ := h2.cell
    omega
theorem run_fa1 (caps : Array Value) (w : World) : (callFunc 150 caps).run Tryz.prog w = .ok (.enter 150 caps) w := by simp [go_sem]

set_option maxRecDepth 100000 in
set_option maxHeartbeats 4000000 in
theorem fa1_clo {K B o : Nat} {m : List Lx → Rs Cd} (hC : CC K B o m) (c1 C : Nat) (hCK : K ≤ C) :
    Clo K B o (fun _ _ => True) (CJ B c1 C) 150 #[.pointer (some ⟨c1, 0, none⟩), .pointer (some ⟨C, 0, none⟩)] (fun c r => (condsM m [⟨#[59]⟩] r).bd fun l r => (takeM ⟨#[59]⟩ r).bd fun _ r => (condsM m [⟨#[41]⟩] r).bd fun t r => .ok { c with conds := l, thn := t } r) := by
  refine ⟨run_fa1 _, ?_⟩
  rintro P c r w hP - ⟨h1, h2, h3, h4⟩ h
  show Calls _ _ _ _ (CPost K B o r.length P w _ _ ((condsM m [⟨#[59]⟩] r).bd fun l r => (takeM ⟨#[59]⟩ r).bd fun _ r => (condsM m [⟨#[41]⟩] r).bd fun t r => .ok { c with conds := l, thn := t } r))
  have d1 := h1.2.2.1
  have hsz := h.size
  have hk0 : CK P w K B o c1 C c w r := ⟨Fr.refl _ _, h1, h2, h⟩
  have ha0 : ∀ s : ByteArray, ∀ W : World, Bt B W (W.alloc (.cells #[.string s] 9)) := fun s W => (Bt.refl B W).alloc _
  have HN := fun r W (h : PAt K W B r o) => Hid.intro (conds_any hC [⟨#[59]⟩] (by simp) (h.via (below_al (Below.refl _ _) (.cells #[.string ⟨#[59]⟩] 9))) W.heap.size 1 (str_cell W ⟨#[59]⟩ 9) (by simp) (by have := h.size; omega))
  have HN2 := fun r W (h : PAt K W B r o) => Hid.intro (conds_any hC [⟨#[41]⟩] (by simp) (h.via (below_al (Below.refl _ _) (.cells #[.string ⟨#[41]⟩] 9))) W.heap.size 1 (str_cell W ⟨#[41]⟩ 9) (by simp) (by have := h.size; omega))
  have HT := fun r W (h : PAt K W B r o) => Hid.intro (take_any h ⟨#[59]⟩)
  have HN := HN r
  cases hm : condsM m [⟨#[59]⟩] r with
  | bad q =>
    rw [hm] at HN
    rw [bd_bad]
    clear hm
    go_enter Tryz.func150, Tryz.ntmps150
    go_wp2_with fail
    refine (HN w h).out.mono ?_
    rintro e w1 ⟨hb, rfl⟩
    exact ⟨rfl, ((ha0 _ _).trans hb).fr hP, rfl⟩
  | ok l r1 =>
    rw [hm] at HN
    rw [bd_ok]
    clear hm
    have HT := HT r1
    have step1 : ∀ w1 p q, Bt B (w.alloc (.cells #[.string ⟨#[59]⟩] 9)) w1 → PAt K w1 B r1 o → rep (fun b => (w.alloc (.cells #[.string ⟨#[59]⟩] 9)).heap.size ≤ b) w1 (.sl l.length (Cd.css l)) (.slice p l.length q) →
        (∃ u, w1.cell? ⟨C, 5, none⟩ = some u) ∧ w1.frozen? ⟨C, 5, none⟩ = false ∧ CK P w K B o c1 C { c with conds := l } (w1.setCell ⟨C, 5, none⟩ (.slice p l.length q)) r1 := by
      intro w1 p q hb hp hr
      have hk1 := hk0.bt ((ha0 _ _).trans hb) hP hp
      obtain ⟨cells, k1, k2, k3⟩ := hk1.cb.cell
      obtain ⟨_, _, _, k4⟩ := h2.cell
      exact ⟨(cell_some k1 (by omega)).1, (cell_some k1 (by omega)).2, hk1.put h3 h4 hCK (hk1.cb.putConds (rep.move Kp.refl (fun b _ h => by simp at h; omega) _ _ hr))⟩
    cases hm2 : takeM ⟨#[59]⟩ r1 with
    | bad q =>
      rw [hm2] at HT
      rw [bd_bad]
      clear hm2
      go_enter Tryz.func150, Tryz.ntmps150
      go_wp2_with fail
      refine (HN w h).out.mono ?_
      rintro e w1 ⟨hb, hl, hp, v, rfl, p, q1, rfl, hr⟩
      obtain ⟨⟨u5, e5⟩, f5, hk2⟩ := step1 w1 p q1 hb hp hr
      have d2 := hk2.bx.2.2.1
      go_wp2_with fail
      refine (HT _ hk2.at_).out.mono ?_
      rintro e w2 ⟨hb2, rfl⟩
      exact ⟨rfl, hk2.fr.trans (hb2.fr (hP.up hk2.fr.size)), rfl⟩
    | ok u r2 =>
      rw [hm2] at HT
      rw [bd_ok]
      clear hm2
      have HN2 := HN2 r2
      cases hm3 : condsM m [⟨#[41]⟩] r2 with
      | bad q =>
        rw [hm3] at HN2
        rw [bd_bad]
        clear hm3
        go_enter Tryz.func150, Tryz.ntmps150
        go_wp2_with fail
        refine (HN w h).out.mono ?_
        rintro e w1 ⟨hb, hl, hp, v, rfl, p, q1, rfl, hr⟩
        obtain ⟨⟨u5, e5⟩, f5, hk2⟩ := step1 w1 p q1 hb hp hr
        have d2 := hk2.bx.2.2.1
        go_wp2_with fail
        refine (HT _ hk2.at_).out.mono ?_
        rintro e w2 ⟨hb2, hl2, hp2, v2, rfl, rfl⟩
        have hk3 := hk2.bt hb2 hP hp2
        have d3 := hk3.bx.2.2.1
        go_wp2_with fail
        refine (HN2 _ hp2).out.mono ?_
        rintro e w3 ⟨hb3, rfl⟩
        exact ⟨rfl, hk3.fr.trans (((ha0 _ _).trans hb3).fr (hP.up hk3.fr.size)), rfl⟩
      | ok t r3 =>
        rw [hm3] at HN2
        rw [bd_ok]
        clear hm3
        go_enter Tryz.func150, Tryz.ntmps150
        go_wp2_with fail
        refine (HN w h).out.mono ?_
        rintro e w1 ⟨hb, hl, hp, v, rfl, p, q1, rfl, hr⟩
        obtain ⟨⟨u5, e5⟩, f5, hk2⟩ := step1 w1 p q1 hb hp hr
        have d2 := hk2.bx.2.2.1
        go_wp2_with fail
        refine (HT _ hk2.at_).out.mono ?_
        rintro e w2 ⟨hb2, hl2, hp2, v2, rfl, rfl⟩
        have hk3 := hk2.bt hb2 hP hp2
        have d3 := hk3.bx.2.2.1
        go_wp2_with fail
        refine (HN2 _ hp2).out.mono ?_
        rintro e w3 ⟨hb3, hl3, hp3, v3, rfl, p3, q3, rfl, hr3⟩
        have hk4 := hk3.bt ((ha0 _ _).trans hb3) hP hp3
        obtain ⟨cells, k1, k2, k3⟩ := hk4.cb.cell
        obtain ⟨_, _, _, k5⟩ := hk3.cb.cell
        obtain ⟨u6, e6⟩ := (cell_some (j := 6) k1 (by omega)).1
        have f6 := (cell_some (j := 6) k1 (by omega)).2
        have hk5 := hk4.put h3 h4 hCK (hk4.cb.putThn (rep.move Kp.refl (fun b _ h => by simp at h; omega) _ _ hr3))
        go_wp2_with fail
        go_end0
        exact ⟨hk5.fr, rfl, trivial, ⟨hk5.bx, hk5.cb, h3, h4⟩, hk5.at_, by omega⟩

set_option maxRecDepth 100000 in
set_option maxHeartbeats 4000000 in
theorem forall_any {K B o : Nat} {C : Ps Cd} (hC : CC K B (o + 1) (C (o + 1))) {r : List Lx} {w : World} (h : PAt K w B r o) :
    Calls Tryz.prog 110 #[.pointer (some ⟨B, 0, none⟩)] w (Post K B o (r.length - 1) w (forallM C o r) fun w' c v => CdV (fun b => w.heap.size ≤ b) w' c v) := by
  have hmf : ∀ (fn : Fn) (first cap : Array Value) (w : World), (Instr.makeFunc fn first cap).run Tryz.prog w = .ok (.func fn first cap) w := fun _ _ _ _ => rfl
  have hsz := h.size
  have hA : (((w.alloc (.cells #[.pointer (some ⟨B, 0, none⟩)] 55)).alloc (.cells #[.int .i64 0, .string ⟨#[]⟩, .string ⟨#[]⟩, .slice none 0 0, .slice none 0 0, .slice none 0 0, .slice none 0 0, .slice none 0 0, .int .i64 0, .string ⟨#[]⟩, .int .i64 0, .bool false, .int .i64 0, .string ⟨#[]⟩, .slice none 0 0, .slice none 0 0, .string ⟨#[]⟩, .string ⟨#[]⟩, .slice none 0 0] 96)).alloc (.cells #[.int .i64 0, .string ⟨#[]⟩, .string ⟨#[]⟩, .slice none 0 0, .slice none 0 0, .slice none 0 0, .slice none 0 0, .slice none 0 0, .int .i64 0, .string ⟨#[]⟩, .int .i64 0, .bool false, .int .i64 0, .string ⟨#[]⟩, .slice none 0 0, .slice none 0 0, .string ⟨#[]⟩, .string ⟨#[]⟩, .slice none 0 0] 96)).heap[w.heap.size + 1 + 1]? = some (.cells #[.int .i64 0, .string ⟨#[]⟩, .string ⟨#[]⟩, .slice none 0 0, .slice none 0 0, .slice none 0 0, .slice none 0 0, .slice none 0 0, .int .i64 0, .string ⟨#[]⟩, .int .i64 0, .bool false, .int .i64 0, .string ⟨#[]⟩, .slice none 0 0, .slice none 0 0, .string ⟨#[]⟩, .string ⟨#[]⟩, .slice none 0 0] 96) := by
    have := heap_alloc_new ((w.alloc (.cells #[.pointer (some ⟨B, 0, none⟩)] 55)).alloc (.cells #[.int .i64 0, .string ⟨#[]⟩, .string ⟨#[]⟩, .slice none 0 0, .slice none 0 0, .slice none 0 0, .slice none 0 0, .slice none 0 0, .int .i64 0, .string ⟨#[]⟩, .int .i64 0, .bool false, .int .i64 0, .string ⟨#[]⟩, .slice none 0 0, .slice none 0 0, .string ⟨#[]⟩, .string ⟨#[]⟩, .slice none 0 0] 96)) (.cells #[.int .i64 0, .string ⟨#[]⟩, .string ⟨#[]⟩, .slice none 0 0, .slice none 0 0, .slice none 0 0, .slice none 0 0, .slice none 0 0, .int .i64 0, .string ⟨#[]⟩, .int .i64 0, .bool false, .int .i64 0, .string ⟨#[]⟩, .slice none 0 0, .slice none 0 0, .string ⟨#[]⟩, .string ⟨#[]⟩, .slice none 0 0] 96)
    rw [World.size_alloc, World.size_alloc] at this
    exact this
  have HA := Hid.intro hA
  clear hA
  generalize hW0 : (((w.alloc (.cells #[.pointer (some ⟨B, 0, none⟩)] 55)).alloc (.cells #[.int .i64 0, .string ⟨#[]⟩, .string ⟨#[]⟩, .slice none 0 0, .slice none 0 0, .slice none 0 0, .slice none 0 0, .slice none 0 0, .int .i64 0, .string ⟨#[]⟩, .int .i64 0, .bool false, .int .i64 0, .string ⟨#[]⟩, .slice none 0 0, .slice none 0 0, .string ⟨#[]⟩, .string ⟨#[]⟩, .slice none 0 0] 96)).alloc (.cells #[.int .i64 0, .string ⟨#[]⟩, .string ⟨#[]⟩, .slice none 0 0, .slice none 0 0, .slice none 0 0, .slice none 0 0, .slice none 0 0, .int .i64 0, .string ⟨#[]⟩, .int .i64 0, .bool false, .int .i64 0, .string ⟨#[]⟩, .slice none 0 0, .slice none 0 0, .string ⟨#[]⟩, .string ⟨#[]⟩, .slice none 0 0] 96)).setRow (w.heap.size + 1 + 1) #[.int .i64 4, .string ⟨#[]⟩, .string ⟨#[]⟩, .slice none 0 0, .slice none 0 0, .slice none 0 0, .slice none 0 0, .slice none 0 0, .int .i64 0, .string ⟨#[]⟩, .int .i64 0, .bool false, .int .i64 0, .string ⟨#[]⟩, .slice none 0 0, .slice none 0 0, .string ⟨#[]⟩, .string ⟨#[]⟩, .slice none 0 0] = W0
  have hW0s : W0.heap.size = w.heap.size + 3 := by rw [← hW0]; simp
  have hb0 : Bt B w W0 := by rw [← hW0]; exact ((((Bt.refl B w).alloc _).alloc _).alloc _).row (by omega) _
  have hX0 : Bx B w.heap.size (.pointer (some ⟨B, 0, none⟩)) W0 := by rw [← hW0]; exact (((Bx.new w _ _ (by omega)).bt ((Bt.refl B _).alloc _)).bt ((Bt.refl B _).alloc _)).row (by omega) _
  have hR0 : W0.heap[w.heap.size + 1]? = some (.cells #[.int .i64 0, .string ⟨#[]⟩, .string ⟨#[]⟩, .slice none 0 0, .slice none 0 0, .slice none 0 0, .slice none 0 0, .slice none 0 0, .int .i64 0, .string ⟨#[]⟩, .int .i64 0, .bool false, .int .i64 0, .string ⟨#[]⟩, .slice none 0 0, .slice none 0 0, .string ⟨#[]⟩, .string ⟨#[]⟩, .slice none 0 0] 96) := by rw [← hW0]; exact (setRow_other _ _ _ _ (by omega)).trans ((heap_alloc_old _ _ (by simp)).trans (heap_alloc2_new w _ _))
  have hC0 : CdBx B (w.heap.size + 2) W0 { k := 4 } := by
    refine ⟨by omega, _, ?_, .slice none 0 0, .slice none 0 0, .slice none 0 0, .slice none 0 0, .slice none 0 0, .slice none 0 0, .slice none 0 0, .slice none 0 0, rfl, ⟨rep.none, rep.none, ?_, ?_, ?_⟩, ?_, ?_, rep.none⟩
    · rw [← hW0]
      exact setRow_heap _ _ _ _ _ _ HA.out
    · simpa [Cd.css] using rep.none
    · simpa [Cd.css] using rep.none
    · simpa [Cd.csss] using rep.none
    · simpa [Vt.css] using rep.none
    · simpa [Ex.css] using rep.none
  have hp0 : PAt K W0 B r o := by rw [← hW0]; exact (h.via (below_al (below_al (below_al (Below.refl _ _) _) _) _)).row (by omega) _
  have HW := Hid.intro (within_any (fun _ _ _ => trivial) (CJ.stb B w.heap.size (w.heap.size + 2)) (fa1_clo hC w.heap.size (w.heap.size + 2) (by omega)) (P := fun b => (b < w.heap.size ∧ b ≠ B) ∨ b = w.heap.size + 1) (s := { k := 4 }) (r := r) (w := W0) (fun b hb => ⟨by rw [hW0s]; omega, by omega⟩) trivial ⟨hX0, hC0, by omega, fun b hb => by omega⟩ hp0 ⟨#[40]⟩ ⟨#[41]⟩)
  have d0 := hX0.2.2.1
  unfold forallM
  have hmod : withinM ⟨#[40]⟩ ⟨#[41]⟩ o (fun r => (condsM (C (o + 1)) [⟨#[59]⟩] r).bd fun l r => (takeM ⟨#[59]⟩ r).bd fun _ r => (condsM (C (o + 1)) [⟨#[41]⟩] r).bd fun t r => .ok ({ ({ k := 4 } : Cd) with conds := l, thn := t }) r) r = withinM ⟨#[40]⟩ ⟨#[41]⟩ o (fun r => (condsM (C (o + 1)) [⟨#[59]⟩] r).bd fun l r => (takeM ⟨#[59]⟩ r).bd fun _ r => (condsM (C (o + 1)) [⟨#[41]⟩] r).bd fun t r => .ok { k := 4, conds := l, thn := t } r) r := rfl
  cases hm : withinM ⟨#[40]⟩ ⟨#[41]⟩ o (fun r => (condsM (C (o + 1)) [⟨#[59]⟩] r).bd fun l r => (takeM ⟨#[59]⟩ r).bd fun _ r => (condsM (C (o + 1)) [⟨#[41]⟩] r).bd fun t r => .ok ({ k := 4, conds := l, thn := t } : Cd) r) r with
  | bad q =>
    rw [hmod, hm] at HW
    clear hm hmod
    go_enter Tryz.func110, Tryz.ntmps110
    go_wp2_with (with_reducible refine (id (?_ : wpList _ _ _ (Oper.mk _ (Op.store _ _ _) _ _ _ _ :: _) _ _)); refine wpList_store_row rfl _ _ _ rfl _ _ rfl rfl _ _ HA.out infoCond rfl rfl (by simp [Value.oneCell']) ?_)
    refine HW.out.mono ?_
    rintro e w1 ⟨hf, rfl⟩
    exact ⟨rfl, hb0.fra (hf.mono fun b hb => .inl hb), rfl⟩
  | ok c r1 =>
    rw [hmod, hm] at HW
    clear hm hmod
    go_enter Tryz.func110, Tryz.ntmps110
    go_wp2_with (with_reducible refine (id (?_ : wpList _ _ _ (Oper.mk _ (Op.store _ _ _) _ _ _ _ :: _) _ _)); refine wpList_store_row rfl _ _ _ rfl _ _ rfl rfl _ _ HA.out infoCond rfl rfl (by simp [Value.oneCell']) ?_)
    refine HW.out.mono ?_
    rintro e w1 ⟨hf, rfl, -, ⟨-, ⟨hB, cells, hc, hv⟩, -, -⟩, hp, hl⟩
    have HC1 := Hid.intro hc
    have HR1 := Hid.intro ((hf.block _ (.inr rfl)).trans hR0)
    have hr := hv.reps
    have hz : (#[.int .i64 0, .string ⟨#[]⟩, .string ⟨#[]⟩, .slice none 0 0, .slice none 0 0, .slice none 0 0, .slice none 0 0, .slice none 0 0, .int .i64 0, .string ⟨#[]⟩, .int .i64 0, .bool false, .int .i64 0, .string ⟨#[]⟩, .slice none 0 0, .slice none 0 0, .string ⟨#[]⟩, .string ⟨#[]⟩, .slice none 0 0] : Array Value).size = 19 := rfl
    go_wp2_with (first | (with_reducible refine (id (?_ : wpList _ _ _ (Oper.mk _ (Op.load _ _) _ _ _ _ :: _) _ _)); refine wpList_load_cells rfl _ _ rfl _ rfl _ _ _ HC1.out Tryz.underlying96 infoCond hr.2.1 ?_) | (with_reducible refine (id (?_ : wpList _ _ _ (Oper.mk _ (Op.store _ _ _) _ _ _ _ :: _) _ _)); refine wpList_store_row rfl _ _ _ rfl _ _ rfl rfl _ _ HR1.out infoCond rfl hr.2.1 hr.2.2 ?_))
    refine ret_cells rfl rfl (setRow_heap _ _ _ _ _ _ HR1.out) Tryz.underlying96 infoCond hr.2.1 rfl (Post.ok ((hb0.fra (hf.mono fun b hb => .inl hb)).row (by omega) _) hl (hp.row (by omega) _) ?_)
    exact hv.move ⟨by simp, fun b hb _ o => World.cell?_of_block (a := ⟨b, o, none⟩) (setRow_other _ _ _ _ (by simp only; omega))⟩ (fun b _ h => by omega)
end Go.Proofs.YtcgaadnfocmdbaaGreatDoor
end

section
/- acc. -/
namespace Go.Proofs.YtcgaadnfocmdbaaGreatDoor
open Go.RowKit

theorem CdBx.putE {B C : Nat} {w : World} {c : Cd} (h : CdBx B C w c) {e : Ex} {p6 : Option Addr} {n6 c6 : Nat} {p7 : Option Addr} {n7 c7 : Nat} (k6 : rep (fun b => C < b) w (.sl e.v.l.length (Vt.css e.v.l)) (.slice p6 n6 c6)) (k7 : rep (fun b => C < b) w (.sl e.a.length (Ex.css e.a)) (.slice p7 n7 c7)) :
    ∃ x3 x4 x5 x6 x7 x14 x15 x18, w.heap[C]? = some (.cells #[.int .i64 c.k, .string c.v, .string c.c, x3, x4, x5, x6, x7, .int .i64 c.e.op, .string c.e.t, .int .i64 c.e.v.k, .bool c.e.v.b, .int .i64 c.e.v.i, .string c.e.v.s, x14, x15, .string c.fn, .string c.name, x18] 96 (0, 0)) ∧ CdBx B C (w.setRow C #[.int .i64 c.k, .string c.v, .string c.c, x3, x4, x5, x6, x7, .int .i64 e.op, .string e.t, .int .i64 e.v.k, .bool e.v.b, .int .i64 e.v.i, .string e.v.s, .slice p6 n6 c6, .slice p7 n7 c7, .string c.fn, .string c.name, x18]) { c with e := e } := by
  obtain ⟨hB, cells, hh, x3, x4, x5, x6, x7, x14, x15, x18, he, ⟨h3, h4, h5, h6, h7⟩, h14, h15, h18⟩ := h
  obtain rfl := Value.agg.inj he
  have hk : ∀ cs, Kp (fun b => C < b) w (w.setRow C cs) := fun cs => kp_row w cs
  exact ⟨x3, x4, x5, x6, x7, x14, x15, x18, hh, hB, _, setRow_heap _ _ _ _ _ _ hh, x3, x4, x5, x6, x7, .slice p6 n6 c6, .slice p7 n7 c7, x18, rfl, ⟨rep.move (hk _) (fun _ _ h => h) _ _ h3, rep.move (hk _) (fun _ _ h => h) _ _ h4, rep.move (hk _) (fun _ _ h => h) _ _ h5, rep.move (hk _) (fun _ _ h => h) _ _ h6, rep.move (hk _) (fun _ _ h => h) _ _ h7⟩, rep.move (hk _) (fun _ _ h => h) _ _ k6, rep.move (hk _) (fun _ _ h => h) _ _ k7, rep.move (hk _) (fun _ _ h => h) _ _ h18⟩
theorem CK.putRow {P : Nat → Prop} {w0 : World} {K B o c1 C : Nat} {c c' : Cd} {W : World} {r : List Lx} (h : CK P w0 K B o c1 C c W r) {cs : Array Value} (hc : c1 ≠ C) (hp : ∀ b, P b → b ≠ C) (hC : K ≤ C) (hcb : CdBx B C (W.setRow C cs) c') : CK P w0 K B o c1 C c' (W.setRow C cs) r :=
  ⟨h.fr.row hp _, h.bx.row hc _, hcb, h.at_.row hC _⟩
theorem CK.cells {P : Nat → Prop} {w0 : World} {K B o c1 C : Nat} {c : Cd} {W : World} {r : List Lx} (h : CK P w0 K B o c1 C c W r) (j : Nat) (hj : j < 19) : (∃ u, W.cell? ⟨C, j, none⟩ = some u) ∧ W.frozen? ⟨C, j, none⟩ = false := by
  obtain ⟨cells, k1, k2, k3⟩ := h.cb.cell
  exact cell_some k1 (by omega)
theorem CK.lt {P : Nat → Prop} {w0 : World} {K B o c1 C : Nat} {c : Cd} {W : World} {r : List Lx} (h : CK P w0 K B o c1 C c W r) : C < W.heap.size := by
  obtain ⟨cells, k1, k2, k3⟩ := h.cb.cell
  exact k3
theorem paren_any {K B o : Nat} {r : List Lx} {w : World} (h : PAt K w B r o) : Calls Tryz.prog 112 #[.pointer (some ⟨B, 0, none⟩)] w (Post K B o (r.length - 1) w (parenM exprM o r) fun w' t v => TeV (fun b => w.heap.size ≤ b) w' t v) := par_any (tree_any K B (o + 1)) h
theorem run_acc1 (caps : Array Value) (w : World) : (callFunc 153 caps).run Tryz.prog w = .ok (.enter 153 caps) w := by simp [go_sem]

set_option maxRecDepth 100000 in
set_option maxHeartbeats 4000000 in
theorem acc1_clo {K B o : Nat} {m : List Lx → Rs Cd} (hC : CC K B o m) (c1 C : Nat) (hCK : K ≤ C) :
    Clo K B o (fun _ _ => True) (CJ B c1 C) 153 #[.pointer (some ⟨c1, 0, none⟩), .pointer (some ⟨C, 0, none⟩)] (fun c r => (varM r).bd fun v r => (takeM ⟨#[58]⟩ r).bd fun _ r => (fnM r).bd fun f r => (parenM exprM o r).bd fun t r => (takeM ⟨#[111, 118, 101, 114]⟩ r).bd fun _ r => (condsM m [⟨#[41]⟩] r).bd fun l r => .ok { c with v := v, fn := f, e := t.e, conds := l } r) := by
  refine ⟨run_acc1 _, ?_⟩
  rintro P c r w hP - ⟨h1, h2, h3, h4⟩ h
  show Calls _ _ _ _ (CPost K B o r.length P w _ _ ((varM r).bd fun v r => (takeM ⟨#[58]⟩ r).bd fun _ r => (fnM r).bd fun f r => (parenM exprM o r).bd fun t r => (takeM ⟨#[111, 118, 101, 114]⟩ r).bd fun _ r => (condsM m [⟨#[41]⟩] r).bd fun l r => .ok { c with v := v, fn := f, e := t.e, conds := l } r))
  have d1 := h1.2.2.1
  have hsz := h.size
  have hk0 : CK P w K B o c1 C c w r := ⟨Fr.refl _ _, h1, h2, h⟩
  have ha0 : ∀ s : ByteArray, ∀ W : World, Bt B W (W.alloc (.cells #[.string s] 9)) := fun s W => (Bt.refl B W).alloc _
  have H0 := fun w (h : PAt K w B r o) => Hid.intro (pvar_any h)
  cases hm0 : varM r with
  | bad q =>
    rw [hm0] at H0
    rw [bd_bad]
    clear hm0
    go_enter Tryz.func153, Tryz.ntmps153
    go_wp2_with fail
    refine (H0 _ (h)).out.mono ?_
    rintro e v1 ⟨ht1, rfl⟩
    exact ⟨rfl, (ht1.fr hP), rfl⟩
  | ok v r1 =>
    rw [hm0] at H0
    rw [bd_ok]
    clear hm0
    have H1 := fun w (h : PAt K w B r1 o) => Hid.intro (take_any h ⟨#[58]⟩)
    cases hm1 : takeM ⟨#[58]⟩ r1 with
    | bad q =>
      rw [hm1] at H1
      rw [bd_bad]
      clear hm1
      go_enter Tryz.func153, Tryz.ntmps153
      go_wp2_with fail
      refine (H0 _ (h)).out.mono ?_
      rintro e v1 ⟨ht1, hl1, hp1, x, rfl, rfl⟩
      have g0 := hk0.bt ht1 hP hp1
      obtain ⟨⟨u1, eu1⟩, fu1⟩ := g0.cells 1 (by omega)
      have g1 := g0.put h3 h4 hCK (g0.cb.putV v)
      have d2 := g1.bx.2.2.1
      go_wp2_with fail
      refine (H1 _ (g1.at_)).out.mono ?_
      rintro e v2 ⟨ht2, rfl⟩
      exact ⟨rfl, (g1.fr.trans (ht2.fr (hP.up g1.fr.size))), rfl⟩
    | ok u r2 =>
      rw [hm1] at H1
      rw [bd_ok]
      clear hm1
      have H2 := fun w (h : PAt K w B r2 o) => Hid.intro (function_any h)
      cases hm2 : fnM r2 with
      | bad q =>
        rw [hm2] at H2
        rw [bd_bad]
        clear hm2
        go_enter Tryz.func153, Tryz.ntmps153
        go_wp2_with fail
        refine (H0 _ (h)).out.mono ?_
        rintro e v1 ⟨ht1, hl1, hp1, x, rfl, rfl⟩
        have g0 := hk0.bt ht1 hP hp1
        obtain ⟨⟨u1, eu1⟩, fu1⟩ := g0.cells 1 (by omega)
        have g1 := g0.put h3 h4 hCK (g0.cb.putV v)
        have d2 := g1.bx.2.2.1
        go_wp2_with fail
        refine (H1 _ (g1.at_)).out.mono ?_
        rintro e v2 ⟨ht2, hl2, hp2, x, rfl, rfl⟩
        have g2 := g1.bt ht2 hP hp2
        have d3 := g2.bx.2.2.1
        go_wp2_with fail
        refine (H2 _ (g2.at_)).out.mono ?_
        rintro e v3 ⟨ht3, rfl⟩
        exact ⟨rfl, (g2.fr.trans (ht3.fr (hP.up g2.fr.size))), rfl⟩
      | ok f r3 =>
        rw [hm2] at H2
        rw [bd_ok]
        clear hm2
        have H3 := fun w (h : PAt K w B r3 o) => Hid.intro (paren_any h)
        cases hm3 : parenM exprM o r3 with
        | bad q =>
          rw [hm3] at H3
          rw [bd_bad]
          clear hm3
          go_enter Tryz.func153, Tryz.ntmps153
          go_wp2_with fail
          refine (H0 _ (h)).out.mono ?_
          rintro e v1 ⟨ht1, hl1, hp1, x, rfl, rfl⟩
          have g0 := hk0.bt ht1 hP hp1
          obtain ⟨⟨u1, eu1⟩, fu1⟩ := g0.cells 1 (by omega)
          have g1 := g0.put h3 h4 hCK (g0.cb.putV v)
          have d2 := g1.bx.2.2.1
          go_wp2_with fail
          refine (H1 _ (g1.at_)).out.mono ?_
          rintro e v2 ⟨ht2, hl2, hp2, x, rfl, rfl⟩
          have g2 := g1.bt ht2 hP hp2
          have d3 := g2.bx.2.2.1
          go_wp2_with fail
          refine (H2 _ (g2.at_)).out.mono ?_
          rintro e v3 ⟨ht3, hl3, hp3, x, rfl, rfl⟩
          have g3 := g2.bt ht3 hP hp3
          obtain ⟨⟨u4, eu4⟩, fu4⟩ := g3.cells 16 (by omega)
          have g4 := g3.put h3 h4 hCK (g3.cb.putFn f)
          have d4 := g4.bx.2.2.1
          go_wp2_with fail
          refine (H3 _ (g4.at_)).out.mono ?_
          rintro e v4 ⟨ht4, rfl⟩
          exact ⟨rfl, (g4.fr.trans (ht4.fr (hP.up g4.fr.size))), rfl⟩
        | ok t r4 =>
          rw [hm3] at H3
          rw [bd_ok]
          clear hm3
          have H4 := fun w (h : PAt K w B r4 o) => Hid.intro (take_any h ⟨#[111, 118, 101, 114]⟩)
          cases hm4 : takeM ⟨#[111, 118, 101, 114]⟩ r4 with
          | bad q =>
            rw [hm4] at H4
            rw [bd_bad]
            clear hm4
            go_enter Tryz.func153, Tryz.ntmps153
            go_wp2_with fail
            refine (H0 _ (h)).out.mono ?_
            rintro e v1 ⟨ht1, hl1, hp1, x, rfl, rfl⟩
            have g0 := hk0.bt ht1 hP hp1
            obtain ⟨⟨u1, eu1⟩, fu1⟩ := g0.cells 1 (by omega)
            have g1 := g0.put h3 h4 hCK (g0.cb.putV v)
            have d2 := g1.bx.2.2.1
            go_wp2_with fail
            refine (H1 _ (g1.at_)).out.mono ?_
            rintro e v2 ⟨ht2, hl2, hp2, x, rfl, rfl⟩
            have g2 := g1.bt ht2 hP hp2
            have d3 := g2.bx.2.2.1
            go_wp2_with fail
            refine (H2 _ (g2.at_)).out.mono ?_
            rintro e v3 ⟨ht3, hl3, hp3, x, rfl, rfl⟩
            have g3 := g2.bt ht3 hP hp3
            obtain ⟨⟨u4, eu4⟩, fu4⟩ := g3.cells 16 (by omega)
            have g4 := g3.put h3 h4 hCK (g3.cb.putFn f)
            have d4 := g4.bx.2.2.1
            go_wp2_with fail
            refine (H3 _ (g4.at_)).out.mono ?_
            rintro e v4 ⟨ht4, hl4, hp4, x, rfl, p6, n6, c6, p7, n7, c7, rfl, z6, z7, z8⟩
            have g5 := g4.bt ht4 hP hp4
            have hlt4 := g4.lt
            obtain ⟨x3, x4, x5, x6, x7, x14, x15, x18, hh5, hcb5⟩ := g5.cb.putE (e := t.e) (rep.move Kp.refl (fun b _ h => by omega) _ _ z6) (rep.move Kp.refl (fun b _ h => by omega) _ _ z7)
            have HH5 := Hid.intro hh5
            have g6 := g5.putRow h3 h4 hCK hcb5
            have d5 := g6.bx.2.2.1
            have hfe := fld_expr t.e.op t.e.t t.e.v.k t.e.v.b t.e.v.i t.e.v.s p6 n6 c6 p7 n7 c7 t.d
            have hh6 : (#[.int .i64 t.e.op, .string t.e.t, .int .i64 t.e.v.k, .bool t.e.v.b, .int .i64 t.e.v.i, .string t.e.v.s, .slice p6 n6 c6, .slice p7 n7 c7] : Array Value).all (·.oneCell') = true := by simp [Value.oneCell']
            go_wp2_with (with_reducible refine (id (?_ : wpList _ _ _ (Oper.mk _ (Op.store _ _ _) _ _ _ _ :: _) _ _)); refine wpList_store_part rfl 39 _ _ rfl C 8 _ rfl rfl _ _ #[.int .i64 c.k, .string v, .string c.c, x3, x4, x5, x6, x7, .int .i64 t.e.op, .string t.e.t, .int .i64 t.e.v.k, .bool t.e.v.b, .int .i64 t.e.v.i, .string t.e.v.s, .slice p6 n6 c6, .slice p7 n7 c7, .string f, .string c.name, x18] HH5.out infoExpr rfl (by simp) hh6 (by simp) ?_)
            refine (H4 _ (g6.at_)).out.mono ?_
            rintro e v5 ⟨ht5, rfl⟩
            exact ⟨rfl, (g6.fr.trans (ht5.fr (hP.up g6.fr.size))), rfl⟩
          | ok u2 r5 =>
            rw [hm4] at H4
            rw [bd_ok]
            clear hm4
            have H5 := fun w (h : PAt K w B r5 o) => Hid.intro (conds_any hC [⟨#[41]⟩] (by simp) (h.via (below_al (Below.refl _ _) (.cells #[.string ⟨#[41]⟩] 9))) w.heap.size 1 (str_cell w ⟨#[41]⟩ 9) (by simp) (by have := h.size; omega))
            cases hm5 : condsM m [⟨#[41]⟩] r5 with
            | bad q =>
              rw [hm5] at H5
              rw [bd_bad]
              clear hm5
              go_enter Tryz.func153, Tryz.ntmps153
              go_wp2_with fail
              refine (H0 _ (h)).out.mono ?_
              rintro e v1 ⟨ht1, hl1, hp1, x, rfl, rfl⟩
              have g0 := hk0.bt ht1 hP hp1
              obtain ⟨⟨u1, eu1⟩, fu1⟩ := g0.cells 1 (by omega)
              have g1 := g0.put h3 h4 hCK (g0.cb.putV v)
              have d2 := g1.bx.2.2.1
              go_wp2_with fail
              refine (H1 _ (g1.at_)).out.mono ?_
              rintro e v2 ⟨ht2, hl2, hp2, x, rfl, rfl⟩
              have g2 := g1.bt ht2 hP hp2
              have d3 := g2.bx.2.2.1
              go_wp2_with fail
              refine (H2 _ (g2.at_)).out.mono ?_
              rintro e v3 ⟨ht3, hl3, hp3, x, rfl, rfl⟩
              have g3 := g2.bt ht3 hP hp3
              obtain ⟨⟨u4, eu4⟩, fu4⟩ := g3.cells 16 (by omega)
              have g4 := g3.put h3 h4 hCK (g3.cb.putFn f)
              have d4 := g4.bx.2.2.1
              go_wp2_with fail
              refine (H3 _ (g4.at_)).out.mono ?_
              rintro e v4 ⟨ht4, hl4, hp4, x, rfl, p6, n6, c6, p7, n7, c7, rfl, z6, z7, z8⟩
              have g5 := g4.bt ht4 hP hp4
              have hlt4 := g4.lt
              obtain ⟨x3, x4, x5, x6, x7, x14, x15, x18, hh5, hcb5⟩ := g5.cb.putE (e := t.e) (rep.move Kp.refl (fun b _ h => by omega) _ _ z6) (rep.move Kp.refl (fun b _ h => by omega) _ _ z7)
              have HH5 := Hid.intro hh5
              have g6 := g5.putRow h3 h4 hCK hcb5
              have d5 := g6.bx.2.2.1
              have hfe := fld_expr t.e.op t.e.t t.e.v.k t.e.v.b t.e.v.i t.e.v.s p6 n6 c6 p7 n7 c7 t.d
              have hh6 : (#[.int .i64 t.e.op, .string t.e.t, .int .i64 t.e.v.k, .bool t.e.v.b, .int .i64 t.e.v.i, .string t.e.v.s, .slice p6 n6 c6, .slice p7 n7 c7] : Array Value).all (·.oneCell') = true := by simp [Value.oneCell']
              go_wp2_with (with_reducible refine (id (?_ : wpList _ _ _ (Oper.mk _ (Op.store _ _ _) _ _ _ _ :: _) _ _)); refine wpList_store_part rfl 39 _ _ rfl C 8 _ rfl rfl _ _ #[.int .i64 c.k, .string v, .string c.c, x3, x4, x5, x6, x7, .int .i64 t.e.op, .string t.e.t, .int .i64 t.e.v.k, .bool t.e.v.b, .int .i64 t.e.v.i, .string t.e.v.s, .slice p6 n6 c6, .slice p7 n7 c7, .string f, .string c.name, x18] HH5.out infoExpr rfl (by simp) hh6 (by simp) ?_)
              refine (H4 _ (g6.at_)).out.mono ?_
              rintro e v5 ⟨ht5, hl5, hp5, x, rfl, rfl⟩
              have g7 := g6.bt ht5 hP hp5
              have d6 := g7.bx.2.2.1
              go_wp2_with fail
              refine (H5 _ (g7.at_)).out.mono ?_
              rintro e v6 ⟨ht6, rfl⟩
              exact ⟨rfl, (g7.fr.trans (((ha0 _ _).trans ht6).fr (hP.up g7.fr.size))), rfl⟩
            | ok l r6 =>
              rw [hm5] at H5
              rw [bd_ok]
              clear hm5
              go_enter Tryz.func153, Tryz.ntmps153
              go_wp2_with fail
              refine (H0 _ (h)).out.mono ?_
              rintro e v1 ⟨ht1, hl1, hp1, x, rfl, rfl⟩
              have g0 := hk0.bt ht1 hP hp1
              obtain ⟨⟨u1, eu1⟩, fu1⟩ := g0.cells 1 (by omega)
              have g1 := g0.put h3 h4 hCK (g0.cb.putV v)
              have d2 := g1.bx.2.2.1
              go_wp2_with fail
              refine (H1 _ (g1.at_)).out.mono ?_
              rintro e v2 ⟨ht2, hl2, hp2, x, rfl, rfl⟩
              have g2 := g1.bt ht2 hP hp2
              have d3 := g2.bx.2.2.1
              go_wp2_with fail
              refine (H2 _ (g2.at_)).out.mono ?_
              rintro e v3 ⟨ht3, hl3, hp3, x, rfl, rfl⟩
              have g3 := g2.bt ht3 hP hp3
              obtain ⟨⟨u4, eu4⟩, fu4⟩ := g3.cells 16 (by omega)
              have g4 := g3.put h3 h4 hCK (g3.cb.putFn f)
              have d4 := g4.bx.2.2.1
              go_wp2_with fail
              refine (H3 _ (g4.at_)).out.mono ?_
              rintro e v4 ⟨ht4, hl4, hp4, x, rfl, p6, n6, c6, p7, n7, c7, rfl, z6, z7, z8⟩
              have g5 := g4.bt ht4 hP hp4
              have hlt4 := g4.lt
              obtain ⟨x3, x4, x5, x6, x7, x14, x15, x18, hh5, hcb5⟩ := g5.cb.putE (e := t.e) (rep.move Kp.refl (fun b _ h => by omega) _ _ z6) (rep.move Kp.refl (fun b _ h => by omega) _ _ z7)
              have HH5 := Hid.intro hh5
              have g6 := g5.putRow h3 h4 hCK hcb5
              have d5 := g6.bx.2.2.1
              have hfe := fld_expr t.e.op t.e.t t.e.v.k t.e.v.b t.e.v.i t.e.v.s p6 n6 c6 p7 n7 c7 t.d
              have hh6 : (#[.int .i64 t.e.op, .string t.e.t, .int .i64 t.e.v.k, .bool t.e.v.b, .int .i64 t.e.v.i, .string t.e.v.s, .slice p6 n6 c6, .slice p7 n7 c7] : Array Value).all (·.oneCell') = true := by simp [Value.oneCell']
              go_wp2_with (with_reducible refine (id (?_ : wpList _ _ _ (Oper.mk _ (Op.store _ _ _) _ _ _ _ :: _) _ _)); refine wpList_store_part rfl 39 _ _ rfl C 8 _ rfl rfl _ _ #[.int .i64 c.k, .string v, .string c.c, x3, x4, x5, x6, x7, .int .i64 t.e.op, .string t.e.t, .int .i64 t.e.v.k, .bool t.e.v.b, .int .i64 t.e.v.i, .string t.e.v.s, .slice p6 n6 c6, .slice p7 n7 c7, .string f, .string c.name, x18] HH5.out infoExpr rfl (by simp) hh6 (by simp) ?_)
              refine (H4 _ (g6.at_)).out.mono ?_
              rintro e v5 ⟨ht5, hl5, hp5, x, rfl, rfl⟩
              have g7 := g6.bt ht5 hP hp5
              have d6 := g7.bx.2.2.1
              go_wp2_with fail
              refine (H5 _ (g7.at_)).out.mono ?_
              rintro e v6 ⟨ht6, hl6, hp6, x, rfl, p, q, rfl, hr⟩
              have g8 := g7.bt ((ha0 _ _).trans ht6) hP hp6
              have hlt7 := g7.lt
              obtain ⟨⟨u9, eu9⟩, fu9⟩ := g8.cells 5 (by omega)
              have g9 := g8.put h3 h4 hCK (g8.cb.putConds (rep.move Kp.refl (fun b _ h => by simp at h; omega) _ _ hr))
              go_wp2_with fail
              go_end0
              exact ⟨g9.fr, rfl, trivial, ⟨g9.bx, g9.cb, h3, h4⟩, g9.at_, by omega⟩

set_option maxRecDepth 100000 in
set_option maxHeartbeats 4000000 in
theorem acc_any {K B o : Nat} {C : Ps Cd} (hC : CC K B (o + 1) (C (o + 1))) {r : List Lx} {w : World} (h : PAt K w B r o) :
    Calls Tryz.prog 113 #[.pointer (some ⟨B, 0, none⟩)] w (Post K B o (r.length - 1) w (accM C o r) fun w' c v => CdV (fun b => w.heap.size ≤ b) w' c v) := by
  have hmf : ∀ (fn : Fn) (first cap : Array Value) (w : World), (Instr.makeFunc fn first cap).run Tryz.prog w = .ok (.func fn first cap) w := fun _ _ _ _ => rfl
  have hsz := h.size
  have hA : (((w.alloc (.cells #[.pointer (some ⟨B, 0, none⟩)] 55)).alloc (.cells #[.int .i64 0, .string ⟨#[]⟩, .string ⟨#[]⟩, .slice none 0 0, .slice none 0 0, .slice none 0 0, .slice none 0 0, .slice none 0 0, .int .i64 0, .string ⟨#[]⟩, .int .i64 0, .bool false, .int .i64 0, .string ⟨#[]⟩, .slice none 0 0, .slice none 0 0, .string ⟨#[]⟩, .string ⟨#[]⟩, .slice none 0 0] 96)).alloc (.cells #[.int .i64 0, .string ⟨#[]⟩, .string ⟨#[]⟩, .slice none 0 0, .slice none 0 0, .slice none 0 0, .slice none 0 0, .slice none 0 0, .int .i64 0, .string ⟨#[]⟩, .int .i64 0, .bool false, .int .i64 0, .string ⟨#[]⟩, .slice none 0 0, .slice none 0 0, .string ⟨#[]⟩, .string ⟨#[]⟩, .slice none 0 0] 96)).heap[w.heap.size + 1 + 1]? = some (.cells #[.int .i64 0, .string ⟨#[]⟩, .string ⟨#[]⟩, .slice none 0 0, .slice none 0 0, .slice none 0 0, .slice none 0 0, .slice none 0 0, .int .i64 0, .string ⟨#[]⟩, .int .i64 0, .bool false, .int .i64 0, .string ⟨#[]⟩, .slice none 0 0, .slice none 0 0, .string ⟨#[]⟩, .string ⟨#[]⟩, .slice none 0 0] 96) := by
    have := heap_alloc_new ((w.alloc (.cells #[.pointer (some ⟨B, 0, none⟩)] 55)).alloc (.cells #[.int .i64 0, .string ⟨#[]⟩, .string ⟨#[]⟩, .slice none 0 0, .slice none 0 0, .slice none 0 0, .slice none 0 0, .slice none 0 0, .int .i64 0, .string ⟨#[]⟩, .int .i64 0, .bool false, .int .i64 0, .string ⟨#[]⟩, .slice none 0 0, .slice none 0 0, .string ⟨#[]⟩, .string ⟨#[]⟩, .slice none 0 0] 96)) (.cells #[.int .i64 0, .string ⟨#[]⟩, .string ⟨#[]⟩, .slice none 0 0, .slice none 0 0, .slice none 0 0, .slice none 0 0, .slice none 0 0, .int .i64 0, .string ⟨#[]⟩, .int .i64 0, .bool false, .int .i64 0, .string ⟨#[]⟩, .slice none 0 0, .slice none 0 0, .string ⟨#[]⟩, .string ⟨#[]⟩, .slice none 0 0] 96)
    rw [World.size_alloc, World.size_alloc] at this
    exact this
  have HA := Hid.intro hA
  clear hA
  generalize hW0 : (((w.alloc (.cells #[.pointer (some ⟨B, 0, none⟩)] 55)).alloc (.cells #[.int .i64 0, .string ⟨#[]⟩, .string ⟨#[]⟩, .slice none 0 0, .slice none 0 0, .slice none 0 0, .slice none 0 0, .slice none 0 0, .int .i64 0, .string ⟨#[]⟩, .int .i64 0, .bool false, .int .i64 0, .string ⟨#[]⟩, .slice none 0 0, .slice none 0 0, .string ⟨#[]⟩, .string ⟨#[]⟩, .slice none 0 0] 96)).alloc (.cells #[.int .i64 0, .string ⟨#[]⟩, .string ⟨#[]⟩, .slice none 0 0, .slice none 0 0, .slice none 0 0, .slice none 0 0, .slice none 0 0, .int .i64 0, .string ⟨#[]⟩, .int .i64 0, .bool false, .int .i64 0, .string ⟨#[]⟩, .slice none 0 0, .slice none 0 0, .string ⟨#[]⟩, .string ⟨#[]⟩, .slice none 0 0] 96)).setRow (w.heap.size + 1 + 1) #[.int .i64 7, .string ⟨#[]⟩, .string ⟨#[]⟩, .slice none 0 0, .slice none 0 0, .slice none 0 0, .slice none 0 0, .slice none 0 0, .int .i64 0, .string ⟨#[]⟩, .int .i64 0, .bool false, .int .i64 0, .string ⟨#[]⟩, .slice none 0 0, .slice none 0 0, .string ⟨#[]⟩, .string ⟨#[]⟩, .slice none 0 0] = W0
  have hW0s : W0.heap.size = w.heap.size + 3 := by rw [← hW0]; simp
  have hb0 : Bt B w W0 := by rw [← hW0]; exact ((((Bt.refl B w).alloc _).alloc _).alloc _).row (by omega) _
  have hX0 : Bx B w.heap.size (.pointer (some ⟨B, 0, none⟩)) W0 := by rw [← hW0]; exact (((Bx.new w _ _ (by omega)).bt ((Bt.refl B _).alloc _)).bt ((Bt.refl B _).alloc _)).row (by omega) _
  have hR0 : W0.heap[w.heap.size + 1]? = some (.cells #[.int .i64 0, .string ⟨#[]⟩, .string ⟨#[]⟩, .slice none 0 0, .slice none 0 0, .slice none 0 0, .slice none 0 0, .slice none 0 0, .int .i64 0, .string ⟨#[]⟩, .int .i64 0, .bool false, .int .i64 0, .string ⟨#[]⟩, .slice none 0 0, .slice none 0 0, .string ⟨#[]⟩, .string ⟨#[]⟩, .slice none 0 0] 96) := by rw [← hW0]; exact (setRow_other _ _ _ _ (by omega)).trans ((heap_alloc_old _ _ (by simp)).trans (heap_alloc2_new w _ _))
  have hC0 : CdBx B (w.heap.size + 2) W0 { k := 7 } := by
    refine ⟨by omega, _, ?_, .slice none 0 0, .slice none 0 0, .slice none 0 0, .slice none 0 0, .slice none 0 0, .slice none 0 0, .slice none 0 0, .slice none 0 0, rfl, ⟨rep.none, rep.none, ?_, ?_, ?_⟩, ?_, ?_, rep.none⟩
    · rw [← hW0]
      exact setRow_heap _ _ _ _ _ _ HA.out
    · simpa [Cd.css] using rep.none
    · simpa [Cd.css] using rep.none
    · simpa [Cd.csss] using rep.none
    · simpa [Vt.css] using rep.none
    · simpa [Ex.css] using rep.none
  have hp0 : PAt K W0 B r o := by rw [← hW0]; exact (h.via (below_al (below_al (below_al (Below.refl _ _) _) _) _)).row (by omega) _
  have HW := Hid.intro (within_any (fun _ _ _ => trivial) (CJ.stb B w.heap.size (w.heap.size + 2)) (acc1_clo hC w.heap.size (w.heap.size + 2) (by omega)) (P := fun b => (b < w.heap.size ∧ b ≠ B) ∨ b = w.heap.size + 1) (s := { k := 7 }) (r := r) (w := W0) (fun b hb => ⟨by rw [hW0s]; omega, by omega⟩) trivial ⟨hX0, hC0, by omega, fun b hb => by omega⟩ hp0 ⟨#[40]⟩ ⟨#[41]⟩)
  have d0 := hX0.2.2.1
  unfold accM
  have hmod : withinM ⟨#[40]⟩ ⟨#[41]⟩ o (fun r => (varM r).bd fun v r => (takeM ⟨#[58]⟩ r).bd fun _ r => (fnM r).bd fun f r => (parenM exprM (o + 1) r).bd fun t r => (takeM ⟨#[111, 118, 101, 114]⟩ r).bd fun _ r => (condsM (C (o + 1)) [⟨#[41]⟩] r).bd fun l r => .ok ({ ({ k := 7 } : Cd) with v := v, fn := f, e := t.e, conds := l }) r) r = withinM ⟨#[40]⟩ ⟨#[41]⟩ o (fun r => (varM r).bd fun v r => (takeM ⟨#[58]⟩ r).bd fun _ r => (fnM r).bd fun f r => (parenM exprM (o + 1) r).bd fun t r => (takeM ⟨#[111, 118, 101, 114]⟩ r).bd fun _ r => (condsM (C (o + 1)) [⟨#[41]⟩] r).bd fun l r => .ok { k := 7, v := v, fn := f, e := t.e, conds := l } r) r := rfl
  cases hm : withinM ⟨#[40]⟩ ⟨#[41]⟩ o (fun r => (varM r).bd fun v r => (takeM ⟨#[58]⟩ r).bd fun _ r => (fnM r).bd fun f r => (parenM exprM (o + 1) r).bd fun t r => (takeM ⟨#[111, 118, 101, 114]⟩ r).bd fun _ r => (condsM (C (o + 1)) [⟨#[41]⟩] r).bd fun l r => .ok ({ k := 7, v := v, fn := f, e := t.e, conds := l } : Cd) r) r with
  | bad q =>
    rw [hmod, hm] at HW
    clear hm hmod
    go_enter Tryz.func113, Tryz.ntmps113
    go_wp2_with (with_reducible refine (id (?_ : wpList _ _ _ (Oper.mk _ (Op.store _ _ _) _ _ _ _ :: _) _ _)); refine wpList_store_row rfl _ _ _ rfl _ _ rfl rfl _ _ HA.out infoCond rfl rfl (by simp [Value.oneCell']) ?_)
    refine HW.out.mono ?_
    rintro e w1 ⟨hf, rfl⟩
    exact ⟨rfl, hb0.fra (hf.mono fun b hb => .inl hb), rfl⟩
  | ok c r1 =>
    rw [hmod, hm] at HW
    clear hm hmod
    go_enter Tryz.func113, Tryz.ntmps113
    go_wp2_with (with_reducible refine (id (?_ : wpList _ _ _ (Oper.mk _ (Op.store _ _ _) _ _ _ _ :: _) _ _)); refine wpList_store_row rfl _ _ _ rfl _ _ rfl rfl _ _ HA.out infoCond rfl rfl (by simp [Value.oneCell']) ?_)
    refine HW.out.mono ?_
    rintro e w1 ⟨hf, rfl, -, ⟨-, ⟨hB, cells, hc, hv⟩, -, -⟩, hp, hl⟩
    have HC1 := Hid.intro hc
    have HR1 := Hid.intro ((hf.block _ (.inr rfl)).trans hR0)
    have hr := hv.reps
    have hz : (#[.int .i64 0, .string ⟨#[]⟩, .string ⟨#[]⟩, .slice none 0 0, .slice none 0 0, .slice none 0 0, .slice none 0 0, .slice none 0 0, .int .i64 0, .string ⟨#[]⟩, .int .i64 0, .bool false, .int .i64 0, .string ⟨#[]⟩, .slice none 0 0, .slice none 0 0, .string ⟨#[]⟩, .string ⟨#[]⟩, .slice none 0 0] : Array Value).size = 19 := rfl
    go_wp2_with (first | (with_reducible refine (id (?_ : wpList _ _ _ (Oper.mk _ (Op.load _ _) _ _ _ _ :: _) _ _)); refine wpList_load_cells rfl _ _ rfl _ rfl _ _ _ HC1.out Tryz.underlying96 infoCond hr.2.1 ?_) | (with_reducible refine (id (?_ : wpList _ _ _ (Oper.mk _ (Op.store _ _ _) _ _ _ _ :: _) _ _)); refine wpList_store_row rfl _ _ _ rfl _ _ rfl rfl _ _ HR1.out infoCond rfl hr.2.1 hr.2.2 ?_))
    refine ret_cells rfl rfl (setRow_heap _ _ _ _ _ _ HR1.out) Tryz.underlying96 infoCond hr.2.1 rfl (Post.ok ((hb0.fra (hf.mono fun b hb => .inl hb)).row (by omega) _) hl (hp.row (by omega) _) ?_)
    exact hv.move ⟨by simp, fun b hb _ o => World.cell?_of_block (a := ⟨b, o, none⟩) (setRow_other _ _ _ _ (by simp only; omega))⟩ (fun b _ h => by omega)
end Go.Proofs.YtcgaadnfocmdbaaGreatDoor
end

section
/- Rows that closures fill: question, insertion, update. -/
namespace Go.Proofs.YtcgaadnfocmdbaaGreatDoor
open Go.RowKit

/-- A row that is owned, in a struct's cell j; A: the struct's cells with the row among them. -/
def RowA (n B C : Nat) (T : TypeId) (A : Value → Array Value) (el : TypeId) (sz m : Nat) (ds : List Dt) (w : World) (P : Nat → Prop) : Prop :=
  B < C ∧ C < n ∧ n ≤ w.heap.size ∧ ∃ p c vs, w.heap[C]? = some (.cells (A (.slice p m c)) T (0, 0)) ∧ w.ownsRow n el sz (.slice p m c) m vs ∧ reps (fun b => n ≤ b ∧ some b ≠ (Value.slice p m c).ownBlock) w ds vs ∧ ∀ b, P b → b ≠ C ∧ some b ≠ (Value.slice p m c).ownBlock
theorem RowA.stb {n B C : Nat} {T : TypeId} {A : Value → Array Value} {el : TypeId} {sz m : Nat} {ds : List Dt} : Stb B (RowA n B C T A el sz m ds) := by
  rintro w w' P P' ⟨h1, h2, h3, p, c, vs, h4, h5, h6, h7⟩ hb hp
  have h5' : w'.ownsRow n el sz (.slice p m c) m vs := by
    refine ⟨h5.1, ?_⟩
    rcases h5.2 with hn | ⟨g, cap, cur, he, hb1, hgg, rest⟩
    · exact .inl hn
    · exact .inr ⟨g, cap, cur, he, hb1, row_bt hb (by omega) hgg, rest⟩
  refine ⟨h1, h2, Nat.le_trans h3 hb.size, p, c, vs, row_bt hb (by omega) h4, h5', reps.move (hb.kp (by omega)) (fun _ _ h => h) _ _ h6, fun b h => ?_⟩
  rcases hp b h with h | h
  · exact h7 b h
  · refine ⟨by omega, fun he => ?_⟩
    have := (h5.lt b he.symm).2
    omega
theorem RowA.push {n B C j : Nat} {T : TypeId} {A : Value → Array Value} {el : TypeId} {sz m : Nat} {ds es : List Dt} {W w1 : World} {P : Nat → Prop} {p p' : Option Addr} {c c' : Nat} {vs us : List Value} (hA : ∀ u u', (A u).setIfInBounds j u' = A u') (h1 : B < C) (h2 : C < n) (h3 : n ≤ W.heap.size) (h4 : W.heap[C]? = some (.cells (A (.slice p m c)) T (0, 0))) (h5 : W.ownsRow n el sz (.slice p m c) m vs)
    (h6 : reps (fun b => n ≤ b ∧ some b ≠ (Value.slice p m c).ownBlock) W ds vs) (h7 : ∀ b, P b → b ≠ C ∧ some b ≠ (Value.slice p m c).ownBlock) (hP : Kn B P W) (h8 : reps (fun b => n ≤ b ∧ some b ≠ (Value.slice p m c).ownBlock) W es us)
    (ho : w1.ownsRow n el sz (.slice p' (m + 1) c') (m + 1) (vs ++ us)) (hg : W.grownBy w1 (Value.slice p m c).ownBlock) (hat : (Value.slice p' (m + 1) c').ownBlock = (Value.slice p m c).ownBlock ∨ (Value.slice p' (m + 1) c').ownBlock = some W.heap.size) :
    RowA n B C T A el sz (m + 1) (ds ++ es) (w1.setCell ⟨C, j, none⟩ (.slice p' (m + 1) c')) P ∧ Fr P W (w1.setCell ⟨C, j, none⟩ (.slice p' (m + 1) c')) ∧ w1.heap[C]? = some (.cells (A (.slice p m c)) T (0, 0)) := by
  have hCw : C < W.heap.size := by omega
  have hC1 : w1.heap[C]? = some (.cells (A (.slice p m c)) T (0, 0)) := (hg.block C hCw (own_below h5 (.inl h2))).trans h4
  have hk : Kp (fun b => n ≤ b ∧ some b ≠ (Value.slice p m c).ownBlock) W (w1.setCell ⟨C, j, none⟩ (.slice p' (m + 1) c')) := by
    refine Kp.trans (Kp.grown hg (fun k hk => ?_)) (Kp.set _ _ _ (by simp only; omega))
    intro h
    exact h.2 hk.symm
  have hq : ∀ b, b < W.heap.size → (n ≤ b ∧ some b ≠ (Value.slice p m c).ownBlock) → (n ≤ b ∧ some b ≠ (Value.slice p' (m + 1) c').ownBlock) := fun b hb h => by
    refine ⟨h.1, fun he => ?_⟩
    rcases hat with e | e
    · exact h.2 (he.trans e)
    · rw [e] at he
      cases he
      omega
  refine ⟨⟨h1, h2, by have := hg.size; simp; omega, p', c', vs ++ us, ?_, ownsRow_setCell_below ho h2 _, reps.append (reps.move hk hq _ _ h6) (reps.move hk hq _ _ h8), fun b hb => ⟨(h7 b hb).1, fun he => ?_⟩⟩, ?_, hC1⟩
  · rw [heap_put hC1, hA]
  · rcases hat with e | e
    · exact (h7 b hb).2 (he.trans e)
    · rw [e] at he
      cases he
      have := (hP _ hb).1
      omega
  · exact ((Fr.refl P W).grown (fun b hb => ⟨(hP b hb).1, (h7 b hb).2⟩) hg).set (fun b hb => (h7 b hb).1) _
def QJ {α : Type} (n B c1 C : Nat) (T : TypeId) (A : Value → Array Value) (el : TypeId) (cs : α → List Dt) (l : List α) (w : World) (P : Nat → Prop) : Prop := Bx B c1 (.pointer (some ⟨B, 0, none⟩)) w ∧ c1 < n ∧ c1 ≠ C ∧ RowA n B C T A el 9 l.length (l.flatMap cs) w P
theorem QJ.stb {α : Type} (n B c1 C : Nat) (T : TypeId) (A : Value → Array Value) (el : TypeId) (cs : α → List Dt) (l : List α) : Stb B (QJ n B c1 C T A el cs l) := fun w w' P P' h hb hp => ⟨h.1.bt hb, h.2.1, h.2.2.1, RowA.stb w w' P P' h.2.2.2 hb hp⟩
def QG {α : Type} (l : List α) (r : List Lx) : Prop := l.length + r.length ≤ 10000
theorem QG.tail {α : Type} (l : List α) (r : List Lx) (h : QG l r) : QG l r.tail := by unfold QG at *; simp; omega
theorem sx_reps {P : Nat → Prop} {w : World} {s : ByteArray} {e : Ex} {p6 p7 : Option Addr} {n6 n7 c6 c7 : Nat} (h6 : rep P w (.sl e.v.l.length (Vt.css e.v.l)) (.slice p6 n6 c6)) (h7 : rep P w (.sl e.a.length (Ex.css e.a)) (.slice p7 n7 c7)) :
    reps P w (dS s :: e.cs) [.string s, .int .i64 e.op, .string e.t, .int .i64 e.v.k, .bool e.v.b, .int .i64 e.v.i, .string e.v.s, .slice p6 n6 c6, .slice p7 n7 c7] := reps.cons (rep.lit rfl) (ex_reps h6 h7)
theorem infoArg' : (Tryz.prog.info? 130).map (fun i => (i.zero, i.size, i.bytes)) = some (some (.agg #[.string ⟨#[]⟩, .int .i64 0, .string ⟨#[]⟩, .int .i64 0, .bool false, .int .i64 0, .string ⟨#[]⟩, .slice none 0 0, .slice none 0 0]), 9, 128) := by kernel_rfl
theorem infoAssign' : (Tryz.prog.info? 101).map (fun i => (i.zero, i.size, i.bytes)) = some (some (.agg #[.string ⟨#[]⟩, .int .i64 0, .string ⟨#[]⟩, .int .i64 0, .bool false, .int .i64 0, .string ⟨#[]⟩, .slice none 0 0, .slice none 0 0]), 9, 128) := by kernel_rfl
theorem run_que1 (caps : Array Value) (w : World) : (callFunc 155 caps).run Tryz.prog w = .ok (.enter 155 caps) w := by simp [go_sem]

set_option maxRecDepth 100000 in
set_option maxHeartbeats 4000000 in
theorem que1_clo {K B o : Nat} (n c1 C : Nat) (A : Value → Array Value) (hA : ∀ u u', (A u).setIfInBounds 18 u' = A u') (hAj : ∀ u, (A u)[18]? = some u) (hCK : K ≤ C) :
    Clo K B o QG (QJ n B c1 C 96 A 130 Ar.cs) 155 #[.pointer (some ⟨C, 0, none⟩), .pointer (some ⟨c1, 0, none⟩)] (fun l r => (argM o r).bd fun t r => .ok (l ++ [t]) r) := by
  refine ⟨run_que1 _, ?_⟩
  rintro P l r w hP hg ⟨h1, h2, h3, h5⟩ h
  show Calls _ _ _ _ (CPost K B o r.length P w _ _ ((argM o r).bd fun t r => .ok (l ++ [t]) r))
  have HT := fun w (h : PAt K w B r o) => Hid.intro (arg_any h)
  have hmo : Tryz.prog.follows .mixedOrders = true := by kernel_rfl
  obtain ⟨x, r0, hr0, -⟩ := gd_cons h.gd
  have hrl : 0 < r.length := by rw [hr0]; simp
  obtain ⟨i0, hi, hz0, hz1, hz2⟩ := info_parts infoArg'
  have d1 := h1.2.2.1
  have HX := Hid.intro h1
  have HV := Hid.intro h5
  obtain ⟨hBE, hEn, hnw, ps, cs, vs, he, hown, hrep, hpa⟩ := h5
  unfold QG at hg
  have hln : l.length ≤ 10000 := by omega
  have e0 : w.cell? ⟨C, 18, none⟩ = some (.slice ps l.length cs) := by rw [(heap_cell he 18).1]; exact hAj _
  have hEw : C < w.heap.size := by omega
  clear hr0
  cases hm : argM o r with
  | bad q =>
    rw [hm] at HT
    rw [bd_bad]
    clear hm
    go_enter Tryz.func155, Tryz.ntmps155
    go_wp2_with fail
    refine wp_region_held_drew (S := fun w' => w'.cell? ⟨c1, 0, none⟩ = some (.pointer (some ⟨B, 0, none⟩))) hmo d1 (fun hS => ?_)
    refine take_q 0 2 (.pointer (some ⟨C, 18, none⟩)) ⟨_, rfl, rfl, Or.inl ⟨by rfl, fun w hSw => by go_simp⟩⟩ (by kernel_rfl) (by kernel_rfl) (by kernel_rfl) (fun _ _ _ h => h) hS ?_
    simp only [List.setIfInBounds_toArray, List.set_cons_succ, List.set_cons_zero]
    refine take_q 2 4 (.pointer (some ⟨B, 0, none⟩)) ⟨_, rfl, rfl, Or.inl ⟨by rfl, fun w hSw => by go_simp⟩⟩ (by kernel_rfl) (by kernel_rfl) (by kernel_rfl) (fun _ _ _ h => h) hS ?_
    simp only [List.setIfInBounds_toArray, List.set_cons_succ, List.set_cons_zero]
    refine wpAnyH_ready (rs := [1, 3]) (by kernel_rfl) (by simp) ?_
    refine AllReadyH.cons rfl (fun K' hK => ?_) (AllReadyH.cons rfl (fun K' hK => ?_) AllReadyH.nil)
    · go_simp
      refine hK.out _ _ (hS) (fun hS => ?_)
      clear hK K'
      (try simp only [Act.put, List.setIfInBounds_toArray, List.set_cons_succ, List.set_cons_zero])
      refine wpAnyH_ready (rs := [3]) (by kernel_rfl) (by simp) ?_
      refine AllReadyH.cons rfl (fun K' hK => ?_) AllReadyH.nil
      go_simp
      refine (HT w.drew (h.via (Below.refl _ _).drew)).out.mono ?_
      rintro e w4 ⟨hb4, rfl⟩
      exact ⟨rfl, ((Bt.refl B w).drew.trans hb4).fr hP, rfl⟩
    · go_simp
      refine (HT w.drew (h.via (Below.refl _ _).drew)).out.mono ?_
      rintro e w4 ⟨hb4, rfl⟩
      exact ⟨rfl, ((Bt.refl B w).drew.trans hb4).fr hP, rfl⟩
  | ok t r1 =>
    rw [hm] at HT
    rw [bd_ok]
    clear hm
    go_enter Tryz.func155, Tryz.ntmps155
    go_wp2_with fail
    refine wp_region_held_drew (S := fun w' => w'.cell? ⟨c1, 0, none⟩ = some (.pointer (some ⟨B, 0, none⟩))) hmo d1 (fun hS => ?_)
    refine take_q 0 2 (.pointer (some ⟨C, 18, none⟩)) ⟨_, rfl, rfl, Or.inl ⟨by rfl, fun w hSw => by go_simp⟩⟩ (by kernel_rfl) (by kernel_rfl) (by kernel_rfl) (fun _ _ _ h => h) hS ?_
    simp only [List.setIfInBounds_toArray, List.set_cons_succ, List.set_cons_zero]
    refine take_q 2 4 (.pointer (some ⟨B, 0, none⟩)) ⟨_, rfl, rfl, Or.inl ⟨by rfl, fun w hSw => by go_simp⟩⟩ (by kernel_rfl) (by kernel_rfl) (by kernel_rfl) (fun _ _ _ h => h) hS ?_
    simp only [List.setIfInBounds_toArray, List.set_cons_succ, List.set_cons_zero]
    refine wpAnyH_ready (rs := [1, 3]) (by kernel_rfl) (by simp) ?_
    refine AllReadyH.cons rfl (fun K' hK => ?_) (AllReadyH.cons rfl (fun K' hK => ?_) AllReadyH.nil)
    · go_simp
      refine hK.out _ _ (hS) (fun hS => ?_)
      clear hK K'
      (try simp only [Act.put, List.setIfInBounds_toArray, List.set_cons_succ, List.set_cons_zero])
      refine wpAnyH_ready (rs := [3]) (by kernel_rfl) (by simp) ?_
      refine AllReadyH.cons rfl (fun K' hK => ?_) AllReadyH.nil
      go_simp
      refine (HT w.drew (h.via (Below.refl _ _).drew)).out.mono ?_
      rintro e w4 ⟨hb4, hl4, hp4, v4, rfl, p6, n6, c6, p7, n7, c7, rfl, z6, z7⟩
      have hbt4 : Bt B w w4 := (Bt.refl B w).drew.trans hb4
      have hx4 := HX.out.bt hbt4
      have hV4 := RowA.stb _ _ _ P HV.out hbt4 (fun _ h => .inl h)
      obtain ⟨-, -, hnw4, ps4, cs4, vs4, he4, hown4, hrep4, hpa4⟩ := hV4
      obtain ⟨rfl, rfl⟩ : ps4 = ps ∧ cs4 = cs := by have h8 := (row_bt hbt4 (by omega) he).symm.trans he4; have h9 := congrArg (fun o => match o with | some (Obj.cells a _ _) => a[18]? | _ => none) h8; simp only [hAj, Option.some.injEq, Value.slice.injEq, true_and] at h9; exact ⟨h9.1.symm, h9.2.symm⟩
      have hc4 := hx4.2.2.1
      have hs4 : w.heap.size ≤ w4.heap.size := hb4.size
      go_wp2_with fail
      refine hK.out _ _ (hc4) (fun hS => ?_)
      clear hK K'
      (try simp only [Act.put, List.setIfInBounds_toArray, List.set_cons_succ, List.set_cons_zero])
      refine wpAnyH_ready (rs := [4]) (by kernel_rfl) (by simp) ?_
      refine AllReadyH.cons rfl (fun K' hK => ?_) AllReadyH.nil
      go_simp
      go_wp2_with fail
      refine hK.out _ _ (((hx4.bt ((Bt.refl B w4).alloc _)).2.2.1)) (fun hS => ?_)
      clear hK K'
      (try simp only [Act.put, List.setIfInBounds_toArray, List.set_cons_succ, List.set_cons_zero])
      have hal : w4.heap.size < (w4.alloc (.cells #[.string t.v, .int .i64 t.e.op, .string t.e.t, .int .i64 t.e.v.k, .bool t.e.v.b, .int .i64 t.e.v.i, .string t.e.v.s, .slice p6 n6 c6, .slice p7 n7 c7] 130)).heap.size := by simp
      refine wpAnyH_ready (rs := [5]) (by kernel_rfl) (by simp) ?_
      refine AllReadyH.cons rfl (fun K' hK => ?_) AllReadyH.nil
      rw [if_pos (by rfl)]
      refine wp_append_own _ _ 94 rfl n 130 i0 _ 9 128 Tryz.underlying94 hi hz0 hz1 hz2 rfl (by decide) _ _ _ rfl (hown4.alloc _) ⟨w4.heap.size, 0, none⟩ 1 1 [.string t.v, .int .i64 t.e.op, .string t.e.t, .int .i64 t.e.v.k, .bool t.e.v.b, .int .i64 t.e.v.i, .string t.e.v.s, .slice p6 n6 c6, .slice p7 n7 c7] rfl rfl (fun j u hj => by rw [addr_add, Nat.zero_add, (heap_cell (heap_alloc_new w4 _) j).1, ← hj]; simp) (by simp [Value.oneCell']) (by unfold maxLen; omega) (by omega) (by simp; omega) (fun sv' w5 hown5 hgr5 hat5 => ?_)
      have hq : ∀ b, b < w4.heap.size → w.heap.size ≤ b → (n ≤ b ∧ some b ≠ Value.ownBlock (.slice ps4 l.length cs4)) := fun b hb h => ⟨by omega, fun he => by have := (hown.lt b he.symm).2; omega⟩
      have htr := sx_reps (s := t.v) (rep.move (Kp.alloc w4 (.cells #[.string t.v, .int .i64 t.e.op, .string t.e.t, .int .i64 t.e.v.k, .bool t.e.v.b, .int .i64 t.e.v.i, .string t.e.v.s, .slice p6 n6 c6, .slice p7 n7 c7] 130)) (fun b hb h => hq b hb h) _ _ z6) (rep.move (Kp.alloc w4 (.cells #[.string t.v, .int .i64 t.e.op, .string t.e.t, .int .i64 t.e.v.k, .bool t.e.v.b, .int .i64 t.e.v.i, .string t.e.v.s, .slice p6 n6 c6, .slice p7 n7 c7] 130)) (fun b hb h => hq b hb h) _ _ z7)
      obtain ⟨g5, k5, rfl⟩ := ownsRow_succ hown5
      obtain ⟨hV5, hF5, hE5⟩ := RowA.push (j := 18) hA hBE hEn (by simp; omega) ((heap_alloc_old w4 _ (by omega)).trans he4) (hown4.alloc _) (reps.move (Kp.alloc w4 _) (fun _ _ h => h) _ _ hrep4) hpa4 ((hP.up hs4).up (by simp)) htr hown5 hgr5 hat5
      have hx5 := (hx4.bt ((Bt.refl B w4).alloc _)).grown hgr5 (own_below hown4 (.inl h2))
      have e5 : w5.cell? ⟨C, 18, none⟩ = some (.slice ps4 l.length cs4) := by rw [(heap_cell hE5 18).1]; exact hAj _
      have f5 : w5.frozen? ⟨C, 18, none⟩ = false := (heap_cell hE5 18).2
      refine hK.out _ _ (hx5.2.2.1) (fun hS => ?_)
      clear hK K'
      (try simp only [Act.put, List.setIfInBounds_toArray])
      refine take_q 6 8 (.pointer (some ⟨C, 18, none⟩)) ⟨_, rfl, rfl, Or.inl ⟨by rfl, fun w hSw => by go_simp⟩⟩ (by kernel_rfl) (by kernel_rfl) (by kernel_rfl) (fun _ _ _ h => h) hS ?_
      simp only [List.setIfInBounds_toArray, List.set_cons_succ, List.set_cons_zero]
      refine wpAnyH_ready (rs := [7]) (by kernel_rfl) (by simp) ?_
      refine AllReadyH.cons rfl (fun K' hK => ?_) AllReadyH.nil
      go_simp
      go_wp2_with fail
      refine hK.out _ _ ((hx5.set h3).2.2.1) (fun hS => ?_)
      clear hK K'
      (try simp only [Act.put, List.setIfInBounds_toArray, List.set_cons_succ, List.set_cons_zero])
      refine wpAnyH_done (by kernel_rfl) ?_ _
      go_wp2_with fail
      go_end0
      refine ⟨(((hbt4.fr hP).alloc (hP.up hs4 · · |>.1) _).trans hF5), rfl, by unfold QG; simp; omega, ⟨hx5.set h3, h2, h3, by simpa [List.flatMap_append, Ar.cs] using hV5⟩, ((hp4.via (below_al (Below.refl _ _) _)).grown hgr5 (fun k hk => by have := (hown4.lt k hk).1; omega)).set hCK _ _, by omega⟩
    · go_simp
      refine (HT w.drew (h.via (Below.refl _ _).drew)).out.mono ?_
      rintro e w4 ⟨hb4, hl4, hp4, v4, rfl, p6, n6, c6, p7, n7, c7, rfl, z6, z7⟩
      have hbt4 : Bt B w w4 := (Bt.refl B w).drew.trans hb4
      have hx4 := HX.out.bt hbt4
      have hV4 := RowA.stb _ _ _ P HV.out hbt4 (fun _ h => .inl h)
      obtain ⟨-, -, hnw4, ps4, cs4, vs4, he4, hown4, hrep4, hpa4⟩ := hV4
      obtain ⟨rfl, rfl⟩ : ps4 = ps ∧ cs4 = cs := by have h8 := (row_bt hbt4 (by omega) he).symm.trans he4; have h9 := congrArg (fun o => match o with | some (Obj.cells a _ _) => a[18]? | _ => none) h8; simp only [hAj, Option.some.injEq, Value.slice.injEq, true_and] at h9; exact ⟨h9.1.symm, h9.2.symm⟩
      have hc4 := hx4.2.2.1
      have hs4 : w.heap.size ≤ w4.heap.size := hb4.size
      go_wp2_with fail
      refine hK.out _ _ (hc4) (fun hS => ?_)
      clear hK K'
      (try simp only [Act.put, List.setIfInBounds_toArray, List.set_cons_succ, List.set_cons_zero])
      refine wpAnyH_ready (rs := [1, 4]) (by kernel_rfl) (by simp) ?_
      refine AllReadyH.cons rfl (fun K' hK => ?_) (AllReadyH.cons rfl (fun K' hK => ?_) AllReadyH.nil)
      · have e04 : w4.cell? ⟨C, 18, none⟩ = some (.slice ps4 l.length cs4) := by rw [(heap_cell he4 18).1]; exact hAj _
        have hEw4 : C < w4.heap.size := by omega
        go_simp
        refine hK.out _ _ (hS) (fun hS => ?_)
        clear hK K'
        (try simp only [Act.put, List.setIfInBounds_toArray, List.set_cons_succ, List.set_cons_zero])
        refine wpAnyH_ready (rs := [4]) (by kernel_rfl) (by simp) ?_
        refine AllReadyH.cons rfl (fun K' hK => ?_) AllReadyH.nil
        go_simp
        go_wp2_with fail
        refine hK.out _ _ (((hx4.bt ((Bt.refl B w4).alloc _)).2.2.1)) (fun hS => ?_)
        clear hK K'
        (try simp only [Act.put, List.setIfInBounds_toArray, List.set_cons_succ, List.set_cons_zero])
        have hal : w4.heap.size < (w4.alloc (.cells #[.string t.v, .int .i64 t.e.op, .string t.e.t, .int .i64 t.e.v.k, .bool t.e.v.b, .int .i64 t.e.v.i, .string t.e.v.s, .slice p6 n6 c6, .slice p7 n7 c7] 130)).heap.size := by simp
        refine wpAnyH_ready (rs := [5]) (by kernel_rfl) (by simp) ?_
        refine AllReadyH.cons rfl (fun K' hK => ?_) AllReadyH.nil
        rw [if_pos (by rfl)]
        refine wp_append_own _ _ 94 rfl n 130 i0 _ 9 128 Tryz.underlying94 hi hz0 hz1 hz2 rfl (by decide) _ _ _ rfl (hown4.alloc _) ⟨w4.heap.size, 0, none⟩ 1 1 [.string t.v, .int .i64 t.e.op, .string t.e.t, .int .i64 t.e.v.k, .bool t.e.v.b, .int .i64 t.e.v.i, .string t.e.v.s, .slice p6 n6 c6, .slice p7 n7 c7] rfl rfl (fun j u hj => by rw [addr_add, Nat.zero_add, (heap_cell (heap_alloc_new w4 _) j).1, ← hj]; simp) (by simp [Value.oneCell']) (by unfold maxLen; omega) (by omega) (by simp; omega) (fun sv' w5 hown5 hgr5 hat5 => ?_)
        have hq : ∀ b, b < w4.heap.size → w.heap.size ≤ b → (n ≤ b ∧ some b ≠ Value.ownBlock (.slice ps4 l.length cs4)) := fun b hb h => ⟨by omega, fun he => by have := (hown.lt b he.symm).2; omega⟩
        have htr := sx_reps (s := t.v) (rep.move (Kp.alloc w4 (.cells #[.string t.v, .int .i64 t.e.op, .string t.e.t, .int .i64 t.e.v.k, .bool t.e.v.b, .int .i64 t.e.v.i, .string t.e.v.s, .slice p6 n6 c6, .slice p7 n7 c7] 130)) (fun b hb h => hq b hb h) _ _ z6) (rep.move (Kp.alloc w4 (.cells #[.string t.v, .int .i64 t.e.op, .string t.e.t, .int .i64 t.e.v.k, .bool t.e.v.b, .int .i64 t.e.v.i, .string t.e.v.s, .slice p6 n6 c6, .slice p7 n7 c7] 130)) (fun b hb h => hq b hb h) _ _ z7)
        obtain ⟨g5, k5, rfl⟩ := ownsRow_succ hown5
        obtain ⟨hV5, hF5, hE5⟩ := RowA.push (j := 18) hA hBE hEn (by simp; omega) ((heap_alloc_old w4 _ (by omega)).trans he4) (hown4.alloc _) (reps.move (Kp.alloc w4 _) (fun _ _ h => h) _ _ hrep4) hpa4 ((hP.up hs4).up (by simp)) htr hown5 hgr5 hat5
        have hx5 := (hx4.bt ((Bt.refl B w4).alloc _)).grown hgr5 (own_below hown4 (.inl h2))
        have e5 : w5.cell? ⟨C, 18, none⟩ = some (.slice ps4 l.length cs4) := by rw [(heap_cell hE5 18).1]; exact hAj _
        have f5 : w5.frozen? ⟨C, 18, none⟩ = false := (heap_cell hE5 18).2
        refine hK.out _ _ (hx5.2.2.1) (fun hS => ?_)
        clear hK K'
        (try simp only [Act.put, List.setIfInBounds_toArray])
        refine take_q 6 8 (.pointer (some ⟨C, 18, none⟩)) ⟨_, rfl, rfl, Or.inl ⟨by rfl, fun w hSw => by go_simp⟩⟩ (by kernel_rfl) (by kernel_rfl) (by kernel_rfl) (fun _ _ _ h => h) hS ?_
        simp only [List.setIfInBounds_toArray, List.set_cons_succ, List.set_cons_zero]
        refine wpAnyH_ready (rs := [7]) (by kernel_rfl) (by simp) ?_
        refine AllReadyH.cons rfl (fun K' hK => ?_) AllReadyH.nil
        go_simp
        go_wp2_with fail
        refine hK.out _ _ ((hx5.set h3).2.2.1) (fun hS => ?_)
        clear hK K'
        (try simp only [Act.put, List.setIfInBounds_toArray, List.set_cons_succ, List.set_cons_zero])
        refine wpAnyH_done (by kernel_rfl) ?_ _
        go_wp2_with fail
        go_end0
        refine ⟨(((hbt4.fr hP).alloc (hP.up hs4 · · |>.1) _).trans hF5), rfl, by unfold QG; simp; omega, ⟨hx5.set h3, h2, h3, by simpa [List.flatMap_append, Ar.cs] using hV5⟩, ((hp4.via (below_al (Below.refl _ _) _)).grown hgr5 (fun k hk => by have := (hown4.lt k hk).1; omega)).set hCK _ _, by omega⟩
      · go_simp
        go_wp2_with fail
        refine hK.out _ _ (((hx4.bt ((Bt.refl B w4).alloc _)).2.2.1)) (fun hS => ?_)
        clear hK K'
        (try simp only [Act.put, List.setIfInBounds_toArray, List.set_cons_succ, List.set_cons_zero])
        refine wpAnyH_ready (rs := [1]) (by kernel_rfl) (by simp) ?_
        refine AllReadyH.cons rfl (fun K' hK => ?_) AllReadyH.nil
        have e04 : w4.cell? ⟨C, 18, none⟩ = some (.slice ps4 l.length cs4) := by rw [(heap_cell he4 18).1]; exact hAj _
        have hEw4 : C < w4.heap.size := by omega
        go_simp
        refine hK.out _ _ (((hx4.bt ((Bt.refl B w4).alloc _)).2.2.1)) (fun hS => ?_)
        clear hK K'
        (try simp only [Act.put, List.setIfInBounds_toArray, List.set_cons_succ, List.set_cons_zero])
        have hal : w4.heap.size < (w4.alloc (.cells #[.string t.v, .int .i64 t.e.op, .string t.e.t, .int .i64 t.e.v.k, .bool t.e.v.b, .int .i64 t.e.v.i, .string t.e.v.s, .slice p6 n6 c6, .slice p7 n7 c7] 130)).heap.size := by simp
        refine wpAnyH_ready (rs := [5]) (by kernel_rfl) (by simp) ?_
        refine AllReadyH.cons rfl (fun K' hK => ?_) AllReadyH.nil
        rw [if_pos (by rfl)]
        refine wp_append_own _ _ 94 rfl n 130 i0 _ 9 128 Tryz.underlying94 hi hz0 hz1 hz2 rfl (by decide) _ _ _ rfl (hown4.alloc _) ⟨w4.heap.size, 0, none⟩ 1 1 [.string t.v, .int .i64 t.e.op, .string t.e.t, .int .i64 t.e.v.k, .bool t.e.v.b, .int .i64 t.e.v.i, .string t.e.v.s, .slice p6 n6 c6, .slice p7 n7 c7] rfl rfl (fun j u hj => by rw [addr_add, Nat.zero_add, (heap_cell (heap_alloc_new w4 _) j).1, ← hj]; simp) (by simp [Value.oneCell']) (by unfold maxLen; omega) (by omega) (by simp; omega) (fun sv' w5 hown5 hgr5 hat5 => ?_)
        have hq : ∀ b, b < w4.heap.size → w.heap.size ≤ b → (n ≤ b ∧ some b ≠ Value.ownBlock (.slice ps4 l.length cs4)) := fun b hb h => ⟨by omega, fun he => by have := (hown.lt b he.symm).2; omega⟩
        have htr := sx_reps (s := t.v) (rep.move (Kp.alloc w4 (.cells #[.string t.v, .int .i64 t.e.op, .string t.e.t, .int .i64 t.e.v.k, .bool t.e.v.b, .int .i64 t.e.v.i, .string t.e.v.s, .slice p6 n6 c6, .slice p7 n7 c7] 130)) (fun b hb h => hq b hb h) _ _ z6) (rep.move (Kp.alloc w4 (.cells #[.string t.v, .int .i64 t.e.op, .string t.e.t, .int .i64 t.e.v.k, .bool t.e.v.b, .int .i64 t.e.v.i, .string t.e.v.s, .slice p6 n6 c6, .slice p7 n7 c7] 130)) (fun b hb h => hq b hb h) _ _ z7)
        obtain ⟨g5, k5, rfl⟩ := ownsRow_succ hown5
        obtain ⟨hV5, hF5, hE5⟩ := RowA.push (j := 18) hA hBE hEn (by simp; omega) ((heap_alloc_old w4 _ (by omega)).trans he4) (hown4.alloc _) (reps.move (Kp.alloc w4 _) (fun _ _ h => h) _ _ hrep4) hpa4 ((hP.up hs4).up (by simp)) htr hown5 hgr5 hat5
        have hx5 := (hx4.bt ((Bt.refl B w4).alloc _)).grown hgr5 (own_below hown4 (.inl h2))
        have e5 : w5.cell? ⟨C, 18, none⟩ = some (.slice ps4 l.length cs4) := by rw [(heap_cell hE5 18).1]; exact hAj _
        have f5 : w5.frozen? ⟨C, 18, none⟩ = false := (heap_cell hE5 18).2
        refine hK.out _ _ (hx5.2.2.1) (fun hS => ?_)
        clear hK K'
        (try simp only [Act.put, List.setIfInBounds_toArray])
        refine take_q 6 8 (.pointer (some ⟨C, 18, none⟩)) ⟨_, rfl, rfl, Or.inl ⟨by rfl, fun w hSw => by go_simp⟩⟩ (by kernel_rfl) (by kernel_rfl) (by kernel_rfl) (fun _ _ _ h => h) hS ?_
        simp only [List.setIfInBounds_toArray, List.set_cons_succ, List.set_cons_zero]
        refine wpAnyH_ready (rs := [7]) (by kernel_rfl) (by simp) ?_
        refine AllReadyH.cons rfl (fun K' hK => ?_) AllReadyH.nil
        go_simp
        go_wp2_with fail
        refine hK.out _ _ ((hx5.set h3).2.2.1) (fun hS => ?_)
        clear hK K'
        (try simp only [Act.put, List.setIfInBounds_toArray, List.set_cons_succ, List.set_cons_zero])
        refine wpAnyH_done (by kernel_rfl) ?_ _
        go_wp2_with fail
        go_end0
        refine ⟨(((hbt4.fr hP).alloc (hP.up hs4 · · |>.1) _).trans hF5), rfl, by unfold QG; simp; omega, ⟨hx5.set h3, h2, h3, by simpa [List.flatMap_append, Ar.cs] using hV5⟩, ((hp4.via (below_al (Below.refl _ _) _)).grown hgr5 (fun k hk => by have := (hown4.lt k hk).1; omega)).set hCK _ _, by omega⟩
end Go.Proofs.YtcgaadnfocmdbaaGreatDoor
end
