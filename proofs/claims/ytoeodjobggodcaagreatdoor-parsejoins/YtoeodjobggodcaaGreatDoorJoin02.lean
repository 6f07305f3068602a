import Derived.Test.YtoeodjobggodcaaGreatDoorJoin01
import Derived.Deep.QuietTactic
import Derived.BigQuiet
/- The parser's small functions. -/
namespace Go.Proofs.YtoeodjobggodcaaGreatDoor
section
open Go.RowKit
theorem bcellN {W w1 : World} (hb : Below W.heap.size W w1) : ∀ b o, b < W.heap.size → w1.cell? ⟨b, o, none⟩ = W.cell? ⟨b, o, none⟩ := fun b o h => hb.cell (p := ⟨b, o, none⟩) h
theorem size_lt {n : Nat} {w w' : World} (h : Below w.heap.size w w') (hn : n < w.heap.size) : n < w'.heap.size := Nat.lt_of_lt_of_le hn h.size
theorem fld_t (k a e : Int) (t : ByteArray) (w : World) : (Instr.field 47 (.agg #[.int .i64 k, .string t, .int .i64 a, .int .i64 e]) 1).run Tryz.prog w = .ok (.string t) w := by kernel_rfl
theorem fld_a (k a e : Int) (t : ByteArray) (w : World) : (Instr.field 47 (.agg #[.int .i64 k, .string t, .int .i64 a, .int .i64 e]) 2).run Tryz.prog w = .ok (.int .i64 a) w := by kernel_rfl
set_option maxRecDepth 100000 in
set_option maxHeartbeats 2000000 in
theorem spells_any (x : Lx) (s : ByteArray) (w : World) :
  Calls Tryz.prog 103 #[.agg #[.int .i64 x.k, .string x.t, .int .i64 (x.a : Int), .int .i64 (x.e : Int)], .string s] w fun e w' => e = .returned (.bool (spl x s)) ∧ Below w.heap.size w w' := by
 unfold spl
 obtain ⟨k, t, a, e⟩ := x
 go_enter Tryz.func103, Tryz.ntmps103
 go_wp2
 all_goals go_ret
 all_goals refine ⟨?_, below_al (Below.refl _ _) _⟩
 all_goals simp [*]
set_option maxRecDepth 100000 in
set_option maxHeartbeats 2000000 in
theorem is_any {K B o : Nat} {r : List Lx} {w : World} (h : PAt K w B r o) (s : ByteArray) :
  Calls Tryz.prog 57 #[.pointer (some ⟨B, 0, none⟩), .string s] w fun e w' => e = .returned (.bool (isM s r)) ∧ Below w.heap.size w w' := by
 obtain ⟨x, r', rfl, -⟩ := gd_cons h.gd
 obtain ⟨g, off, cap, lv, ⟨c0, -, -⟩, -, h1, h2, -, h4, h5, h6, -, ⟨⟨g0, g1, g2, g3⟩, -⟩, -, -⟩ := h
 rw [List.length_cons] at c0 h1
 have hB : B < w.heap.size := by omega
 have hg : g < w.heap.size := by omega
 have HS := fun w => Hid.intro (spells_any x s w)
 go_enter Tryz.func57, Tryz.ntmps57
 go_wp2_with (go_at_call 103; refine (HS _).out.mono ?_; rintro e w1 ⟨rfl, hw1⟩)
 go_ret
 exact ⟨rfl, hw1⟩
set_option maxRecDepth 100000 in
set_option maxHeartbeats 2000000 in
theorem isKind_any {K B o : Nat} {r : List Lx} {w : World} (h : PAt K w B r o) (k : Int) :
  Calls Tryz.prog 34 #[.pointer (some ⟨B, 0, none⟩), .int .i64 k] w fun e w' => e = .returned (.bool (isK k r)) ∧ w' = w := by
 obtain ⟨x, r', rfl, -⟩ := gd_cons h.gd
 obtain ⟨g, off, cap, lv, ⟨c0, -, -⟩, -, h1, h2, -, h4, h5, h6, -, ⟨⟨g0, g1, g2, g3⟩, -⟩, -, -⟩ := h
 rw [List.length_cons] at c0 h1
 have hB : B < w.heap.size := by omega
 have hg : g < w.heap.size := by omega
 go_enter Tryz.func34, Tryz.ntmps34
 go_wp2
 go_ret
 exact ⟨rfl, rfl⟩
set_option maxRecDepth 100000 in
set_option maxHeartbeats 2000000 in
theorem isVarWith_any {K B o : Nat} {r : List Lx} {w : World} (h : PAt K w B r o) (s : ByteArray) :
  Calls Tryz.prog 158 #[.pointer (some ⟨B, 0, none⟩), .string s] w fun e w' => e = .returned (.bool (isVW s r)) ∧ Below w.heap.size w w' := by
 have HI := fun w (h : PAt K w B r o) => Hid.intro (isKind_any h 1)
 have H0 := Hid.intro h
 obtain ⟨x, r', rfl, hn⟩ := gd_cons h.gd
 obtain ⟨g, off, cap, lv, ⟨c0, -, -⟩, -, h1, h2, -, h4, h5, h6, -, ⟨-, h8⟩, -, -⟩ := h
 rw [List.length_cons] at c0 h1
 have hB : B < w.heap.size := by omega
 have hg : g < w.heap.size := by omega
 simp only [isK] at HI
 by_cases hk : x.k = 1
 ·obtain ⟨y, r'', rfl⟩ := List.exists_cons_of_ne_nil (hn (by omega))
  obtain ⟨⟨g0, g1, g2, g3⟩, -⟩ := h8
  rw [List.length_cons] at c0 h1
  have HS := fun w => Hid.intro (spells_any y s w)
  have hx : (x.k == 1) = true := beq_iff_eq.2 hk
  have hv : isVW s (x :: y :: r'') = spl y s := by simp [isVW, hx]
  rw [hv, ← Bool.true_and (spl y s)]
  rw [Bool.true_and]
  simp only [hx] at HI
  clear hv hn hk hx
  go_enter Tryz.func158, Tryz.ntmps158
  go_wp2_with (first | (go_at_call 34; refine (HI _ H0.out).out.mono ?_; rintro e w1 ⟨rfl, hw1⟩; subst w1) | (go_at_call 103; refine (HS _).out.mono ?_; rintro e w1 ⟨rfl, hw1⟩))
  go_ret
  exact ⟨rfl, hw1⟩
 ·have hx : (x.k == 1) = false := beq_false_of_ne hk
  have hv : isVW s (x :: r') = false := by cases r' <;> simp [isVW, hx]
  rw [hv]
  simp only [hx] at HI
  clear hv hn hk hx
  go_enter Tryz.func158, Tryz.ntmps158
  go_wp2_with (first | (go_at_call 34; refine (HI _ H0.out).out.mono ?_; rintro e w1 ⟨rfl, hw1⟩; subst w1))
  go_ret
  exact ⟨rfl, Below.refl _ _⟩
set_option maxRecDepth 100000 in
set_option maxHeartbeats 2000000 in
theorem next_any {K B o : Nat} {x : Lx} {r : List Lx} {w : World} (h : PAt K w B (x :: r) o) (hx : x.k ≠ -1) :
  Calls Tryz.prog 58 #[.pointer (some ⟨B, 0, none⟩)] w fun e w' => e = .returned (.agg #[.int .i64 x.k, .string x.t, .int .i64 (x.a : Int), .int .i64 (x.e : Int)]) ∧ Bt B w w' ∧ PAt K w' B r o := by
 have H0 := Hid.intro h
 obtain ⟨x', r', he, hn⟩ := gd_cons h.gd
 cases he
 have hr := hn hx
 obtain ⟨g, off, cap, lv, ⟨c0, -, -⟩, ⟨f0, -⟩, h1, h2, -, h4, h5, h6, -, ⟨⟨g0, g1, g2, g3⟩, -⟩, -, -⟩ := h
 rw [List.length_cons] at c0 h1
 have hB : B < w.heap.size := by omega
 have hg : g < w.heap.size := by omega
 have hl : 0 < r.length := List.length_pos_iff.2 hr
 have HP := Hid.intro (H0.out.pop hx c0)
 have HK : K ≤ w.heap.size := h6
 clear hn hr
 go_enter Tryz.func58, Tryz.ntmps58
 go_wp2
 refine bodyPost_ret (v := .agg #[.int .i64 x.k, .string x.t, .int .i64 (x.a : Int), .int .i64 (x.e : Int)]) ?_ rfl ⟨rfl, ?_, ?_⟩
 ·simp [results, Tryz.results58, go_sem]
 ·exact (((Bt.refl B w).put _ _).alloc _).alloc _
 ·exact HP.out.via (below_al (below_al (Below.refl _ _) _) _)
set_option maxRecDepth 100000 in
set_option maxHeartbeats 2000000 in
theorem barAt_any (a : Nat) (w : World) :
  Calls Tryz.prog 71 #[.int .i64 (a : Int)] w fun e w' => e = .panicked (flt a) ∧ w' = w := by
 go_enter Tryz.func71, Tryz.ntmps71
 go_wp2
 exact ⟨rfl, rfl, rfl⟩
set_option maxRecDepth 100000 in
set_option maxHeartbeats 2000000 in
theorem bar_any {K B o : Nat} {r : List Lx} {w : World} (h : PAt K w B r o) :
  Calls Tryz.prog 39 #[.pointer (some ⟨B, 0, none⟩)] w fun e w' => e = .panicked (flt (hA r)) ∧ w' = w := by
 obtain ⟨x, r', rfl, -⟩ := gd_cons h.gd
 obtain ⟨g, off, cap, lv, ⟨c0, -, -⟩, -, h1, h2, -, h4, h5, h6, -, ⟨⟨g0, g1, g2, g3⟩, -⟩, -, -⟩ := h
 rw [List.length_cons] at c0 h1
 have hB : B < w.heap.size := by omega
 have hg : g < w.heap.size := by omega
 go_enter Tryz.func39, Tryz.ntmps39
 go_wp2_with (go_at_call 71; refine (barAt_any x.a _).mono ?_; rintro e w1 ⟨rfl, hw1⟩; subst w1)
 exact ⟨rfl, rfl, rfl⟩
def kindM (k : Int) : List Lx → Rs Lx
 | [] => .bad 0
 | x :: r => if x.k = k then .ok x (x :: r) else .bad x.a
def lxC (x : Lx) : Value := .agg #[.int .i64 x.k, .string x.t, .int .i64 (x.a : Int), .int .i64 (x.e : Int)]
set_option maxRecDepth 100000 in
set_option maxHeartbeats 2000000 in
theorem kind_yes {K B o : Nat} {x : Lx} {r : List Lx} {w : World} (h : PAt K w B (x :: r) o) :
  Calls Tryz.prog 56 #[.pointer (some ⟨B, 0, none⟩), .int .i64 x.k] w fun e w' => e = .returned (.agg #[.int .i64 x.k, .string x.t, .int .i64 (x.a : Int), .int .i64 (x.e : Int)]) ∧ Below w.heap.size w w' := by
 obtain ⟨g, off, cap, lv, ⟨c0, -, -⟩, -, h1, h2, -, h4, h5, h6, -, ⟨⟨g0, g1, g2, g3⟩, -⟩, -, -⟩ := h
 rw [List.length_cons] at c0 h1
 have hB : B < w.heap.size := by omega
 have hg : g < w.heap.size := by omega
 go_enter Tryz.func56, Tryz.ntmps56
 go_wp2
 refine bodyPost_ret (v := .agg #[.int .i64 x.k, .string x.t, .int .i64 (x.a : Int), .int .i64 (x.e : Int)]) ?_ rfl ⟨rfl, below_al (Below.refl _ _) _⟩
 simp [results, Tryz.results56, go_sem]
set_option maxRecDepth 100000 in
set_option maxHeartbeats 2000000 in
theorem kind_no {K B o : Nat} {x : Lx} {r : List Lx} {w : World} (h : PAt K w B (x :: r) o) {k : Int} (hk : x.k ≠ k) :
  Calls Tryz.prog 56 #[.pointer (some ⟨B, 0, none⟩), .int .i64 k] w fun e w' => e = .panicked (flt x.a) ∧ Below w.heap.size w w' := by
 have HB := fun w (h : PAt K w B (x :: r) o) => Hid.intro (bar_any h)
 have H0 := Hid.intro h
 obtain ⟨g, off, cap, lv, ⟨c0, -, -⟩, -, h1, h2, -, h4, h5, h6, -, ⟨⟨g0, g1, g2, g3⟩, -⟩, -, -⟩ := h
 rw [List.length_cons] at c0 h1
 have hB : B < w.heap.size := by omega
 have hg : g < w.heap.size := by omega
 go_enter Tryz.func56, Tryz.ntmps56
 go_wp2_with (go_at_call 39; refine (HB _ (H0.out.via (below_al (Below.refl _ _) _))).out.mono ?_; rintro e w1 ⟨rfl, hw1⟩; subst w1)
 exact ⟨rfl, rfl, below_al (Below.refl _ _) _⟩
set_option maxRecDepth 100000 in
set_option maxHeartbeats 2000000 in
theorem skip_yes {K B o : Nat} {r : List Lx} {w : World} (h : PAt K w B r o) {s : ByteArray} (hs : isM s r = true) :
  Calls Tryz.prog 35 #[.pointer (some ⟨B, 0, none⟩), .string s] w fun e w' => e = .returned (.bool true) ∧ Bt B w w' ∧ PAt K w' B r.tail o := by
 obtain ⟨x, r', rfl, -⟩ := gd_cons h.gd
 have hx : x.k ≠ -1 := by intro e; simp [isM, spl, e] at hs
 have HI := fun w h => Hid.intro (is_any (K := K) (B := B) (o := o) (r := x :: r') (w := w) h s)
 rw [hs] at HI
 have HN := fun w h => Hid.intro (next_any (K := K) (B := B) (o := o) (x := x) (r := r') (w := w) h hx)
 have H0 := Hid.intro h
 clear hs h hx
 go_enter Tryz.func35, Tryz.ntmps35
 go_wp2_with (first | (go_at_call 57; refine (HI _ H0.out).out.mono ?_; rintro e w1 ⟨rfl, hw1⟩) | (go_at_call 58; refine (HN _ (H0.out.via hw1)).out.mono ?_; rintro e w2 ⟨rfl, hw2, hp2⟩))
 go_ret
 exact ⟨rfl, (Bt.below hw1).trans hw2, hp2⟩
set_option maxRecDepth 100000 in
set_option maxHeartbeats 2000000 in
theorem skip_no {K B o : Nat} {r : List Lx} {w : World} (h : PAt K w B r o) {s : ByteArray} (hs : isM s r = false) :
  Calls Tryz.prog 35 #[.pointer (some ⟨B, 0, none⟩), .string s] w fun e w' => e = .returned (.bool false) ∧ Below w.heap.size w w' := by
 have HI := fun w h => Hid.intro (is_any (K := K) (B := B) (o := o) (r := r) (w := w) h s)
 rw [hs] at HI
 have H0 := Hid.intro h
 clear hs h
 go_enter Tryz.func35, Tryz.ntmps35
 go_wp2_with (first | (go_at_call 57; refine (HI _ H0.out).out.mono ?_; rintro e w1 ⟨rfl, hw1⟩))
 go_ret
 exact ⟨rfl, hw1⟩
set_option maxRecDepth 100000 in
set_option maxHeartbeats 2000000 in
theorem take_any {K B o : Nat} {r : List Lx} {w : World} (h : PAt K w B r o) (s : ByteArray) :
  Calls Tryz.prog 65 #[.pointer (some ⟨B, 0, none⟩), .string s] w (Post K B o (r.length - 1) w (takeM s r) fun _ _ v => v = .tuple #[]) := by
 have H0 := Hid.intro h
 cases hs : isM s r with
 | true =>
  have hm : takeM s r = .ok () r.tail := by simp [takeM, hs]
  rw [hm]
  have HS := fun w h => Hid.intro (skip_yes (K := K) (B := B) (o := o) (r := r) (w := w) h hs)
  clear hs h hm
  go_enter Tryz.func65, Tryz.ntmps65
  go_wp2_with (first | (go_at_call 35; refine (HS _ H0.out).out.mono ?_; rintro e w1 ⟨rfl, hw1, hp1⟩))
  go_end0
  exact Post.ok hw1 (by simp) hp1 rfl
 | false =>
  have hm : takeM s r = .bad (hA r) := by simp [takeM, hs]
  rw [hm]
  have HS := fun w h => Hid.intro (skip_no (K := K) (B := B) (o := o) (r := r) (w := w) h hs)
  have HB := fun w h => Hid.intro (bar_any (K := K) (B := B) (o := o) (r := r) (w := w) h)
  clear hs h hm
  go_enter Tryz.func65, Tryz.ntmps65
  go_wp2_with (first | (go_at_call 35; refine (HS _ H0.out).out.mono ?_; rintro e w1 ⟨rfl, hw1⟩) | (go_at_call 39; refine (HB _ (H0.out.via hw1)).out.mono ?_; rintro e w2 ⟨rfl, hw2⟩; subst w2))
  exact ⟨rfl, Post.bad (Bt.below hw1)⟩
set_option maxRecDepth 100000 in
set_option maxHeartbeats 2000000 in
theorem pop_any {K B o : Nat} {r : List Lx} {w : World} (h : PAt K w B r (o + 1)) :
  Calls Tryz.prog 106 #[.pointer (some ⟨B, 0, none⟩)] w fun e w' => e = .returned (.tuple #[]) ∧ Bt B w w' ∧ PAt K w' B r o := by
 have hm := h.most
 have HP := Hid.intro (h.opened o (by omega))
 obtain ⟨g, off, cap, lv, ⟨-, c1, -⟩, ⟨-, f1⟩, -, -, -, -, h5, h6, -, -, -, -⟩ := h
 have hB : B < w.heap.size := by omega
 have hw : (((o + 1 : Nat) : Int) - 1) = (o : Int) := by omega
 go_enter Tryz.func106, Tryz.ntmps106
 go_wp2
 go_end0
 exact ⟨rfl, (Bt.refl B w).put _ _, by simpa using HP.out⟩
set_option maxRecDepth 100000 in
set_option maxHeartbeats 2000000 in
theorem push_any {K B o : Nat} {r : List Lx} {w : World} (h : PAt K w B r o) (s : ByteArray) :
  Calls Tryz.prog 105 #[.pointer (some ⟨B, 0, none⟩), .string s] w (Post K B (o + 1) (r.length - 1) w (pushM s o r) fun _ a v => v = .int .i64 (a : Int)) := by
 have H0 := Hid.intro h
 have hm30 := h.most
 have HI := fun w h => Hid.intro (is_any (K := K) (B := B) (o := o) (r := r) (w := w) h s)
 have HB := fun w h => Hid.intro (bar_any (K := K) (B := B) (o := o) (r := r) (w := w) h)
 cases hs : isM s r with
 | false =>
  have hm : pushM s o r = .bad (hA r) := by simp [pushM, hs]
  rw [hm]
  rw [hs] at HI
  clear hs h hm
  go_enter Tryz.func105, Tryz.ntmps105
  go_wp2_with (first | (go_at_call 57; refine (HI _ H0.out).out.mono ?_; rintro e w1 ⟨rfl, hw1⟩) | (go_at_call 39; refine (HB _ (H0.out.via hw1)).out.mono ?_; rintro e w2 ⟨rfl, hw2⟩; subst w2))
  exact ⟨rfl, Post.bad (Bt.below hw1)⟩
 | true =>
  rw [hs] at HI
  by_cases h30 : o = 30
  ·have hm : pushM s o r = .bad (hA r) := by simp [pushM, h30]
   rw [hm]
   have hc : ∀ w, PAt K w B r o → w.cell? ⟨B, 1, none⟩ = some (.int .i64 30) := fun w h => by
    obtain ⟨g, off, cap, lv, ⟨-, c1, -⟩, -⟩ := h
    rw [c1, h30]; rfl
   clear hs h hm h30
   go_enter Tryz.func105, Tryz.ntmps105
   go_wp2_with (first | (go_at_call 57; refine (HI _ H0.out).out.mono ?_; rintro e w1 ⟨rfl, hw1⟩; have c1 := hc _ (H0.out.via hw1)) | (go_at_call 39; refine (HB _ (H0.out.via hw1)).out.mono ?_; rintro e w2 ⟨rfl, hw2⟩; subst w2))
   exact ⟨rfl, Post.bad (Bt.below hw1)⟩
  ·obtain ⟨x, r', rfl, -⟩ := gd_cons h.gd
   have hx : x.k ≠ -1 := by intro e; simp [isM, spl, e] at hs
   have hm : pushM s o (x :: r') = .ok x.a r' := by simp [pushM, hs, h30, hA]
   rw [hm]
   have HN := fun w h => Hid.intro (next_any (K := K) (B := B) (o := o + 1) (x := x) (r := r') (w := w) h hx)
   have hc : ∀ w, PAt K w B (x :: r') o → (w.cell? ⟨B, 1, none⟩ = some (.int .i64 (o : Int)) ∧ w.frozen? ⟨B, 1, none⟩ = false ∧ B < w.heap.size) ∧ Hid (PAt K (w.setCell ⟨B, 1, none⟩ (.int .i64 ((o : Int) + 1))) B (x :: r') (o + 1)) := fun w h => by
    have h1 := h.opened (o + 1) (by omega)
    have h2 := h.size
    obtain ⟨g, off, cap, lv, ⟨-, c1, -⟩, ⟨-, f1⟩, -⟩ := h
    exact ⟨⟨c1, f1, by omega⟩, h1⟩
   have hfa := fld_a x.k x.a x.e x.t
   have hn30 : ((o : Int) == 30) = false := beq_false_of_ne (by omega)
   have hn30' : ¬ ((o : Int) = 30) := by omega
   clear hs h hm h30 hx
   go_enter Tryz.func105, Tryz.ntmps105
   go_wp2_with (first | (go_at_call 57; refine (HI _ H0.out).out.mono ?_; rintro e w1 ⟨rfl, hw1⟩; obtain ⟨⟨c1, f1, hB1⟩, HP⟩ := hc _ (H0.out.via hw1)) | (go_at_call 58; refine (HN _ HP.out).out.mono ?_; rintro e w2 ⟨rfl, hw2, hp2⟩))
   go_ret
   exact Post.ok (((Bt.below hw1).put _ _).trans hw2) (by simp) hp2 rfl
set_option maxRecDepth 100000 in
set_option maxHeartbeats 2000000 in
theorem pname_any {K B o : Nat} {r : List Lx} {w : World} (h : PAt K w B r o) :
  Calls Tryz.prog 59 #[.pointer (some ⟨B, 0, none⟩)] w (Post K B o (r.length - 1) w (nameM r) fun _ s v => v = .string s) := by
 obtain ⟨x, r', rfl, -⟩ := gd_cons h.gd
 have H0 := Hid.intro h
 have HB := fun w h => Hid.intro (bar_any (K := K) (B := B) (o := o) (r := x :: r') (w := w) h)
 simp only [hA] at HB
 by_cases hk : x.k = 0
 ·have HK := fun w h => Hid.intro (kind_yes (K := K) (B := B) (o := o) (x := x) (r := r') (w := w) h)
  rw [hk] at HK
  have HY := fun w => Hid.intro (key_any x.t w)
  cases hkey : keyB x.t with
  | true =>
   have hm : nameM (x :: r') = .bad x.a := by simp [nameM, hkey]
   rw [hm]
   rw [hkey] at HY
   clear hk hkey hm h
   go_enter Tryz.func59, Tryz.ntmps59
   go_wp2_with (first | (go_at_call 56; refine (HK _ H0.out).out.mono ?_; rintro e w1 ⟨rfl, hw1⟩) | (go_at_call 104; refine (HY _).out.mono ?_; rintro e w2 ⟨rfl, hw2⟩; subst w2) | (go_at_call 39; refine (HB _ (H0.out.via (below_al hw1 _))).out.mono ?_; rintro e w2 ⟨rfl, hw2⟩; subst w2))
   exact ⟨rfl, Post.bad (Bt.below (below_al hw1 _))⟩
  | false =>
   rw [hkey] at HY
   by_cases hs : x.t.size ≤ 64
   ·have hm : nameM (x :: r') = .ok x.t r' := by simp [nameM, hk, hkey, hs]
    rw [hm]
    have HN := fun w h => Hid.intro (next_any (K := K) (B := B) (o := o) (x := x) (r := r') (w := w) h (by omega))
    have hs' : ¬ ((64 : Int) < (x.t.size : Int)) := by omega
    have hft := fld_t x.k x.a x.e x.t
    clear hk hkey hm h
    go_enter Tryz.func59, Tryz.ntmps59
    go_wp2_with (first | (go_at_call 56; refine (HK _ H0.out).out.mono ?_; rintro e w1 ⟨rfl, hw1⟩) | (go_at_call 104; refine (HY _).out.mono ?_; rintro e w2 ⟨rfl, hw2⟩; subst w2) | (go_at_call 58; refine (HN _ (H0.out.via (below_al hw1 _))).out.mono ?_; rintro e w2 ⟨rfl, hw2, hp2⟩))
    go_ret
    exact Post.ok ((Bt.below (below_al hw1 _)).trans hw2) (by simp) hp2 rfl
   ·have hm : nameM (x :: r') = .bad x.a := by simp [nameM, hs]
    rw [hm]
    have hs' : (64 : Int) < (x.t.size : Int) := by omega
    clear hk hkey hm h hs
    go_enter Tryz.func59, Tryz.ntmps59
    go_wp2_with (first | (go_at_call 56; refine (HK _ H0.out).out.mono ?_; rintro e w1 ⟨rfl, hw1⟩) | (go_at_call 104; refine (HY _).out.mono ?_; rintro e w2 ⟨rfl, hw2⟩; subst w2) | (go_at_call 39; refine (HB _ (H0.out.via (below_al hw1 _))).out.mono ?_; rintro e w2 ⟨rfl, hw2⟩; subst w2))
    exact ⟨rfl, Post.bad (Bt.below (below_al hw1 _))⟩
 ·have hm : nameM (x :: r') = .bad x.a := by simp [nameM, hk]
  rw [hm]
  have HK := fun w h => Hid.intro (kind_no (K := K) (B := B) (o := o) (x := x) (r := r') (w := w) h hk)
  clear hk hm h
  go_enter Tryz.func59, Tryz.ntmps59
  go_wp2_with (first | (go_at_call 56; refine (HK _ H0.out).out.mono ?_; rintro e w1 ⟨rfl, hw1⟩))
  exact ⟨rfl, Post.bad (Bt.below hw1)⟩
set_option maxRecDepth 100000 in
set_option maxHeartbeats 2000000 in
theorem pvar_any {K B o : Nat} {r : List Lx} {w : World} (h : PAt K w B r o) :
  Calls Tryz.prog 70 #[.pointer (some ⟨B, 0, none⟩)] w (Post K B o (r.length - 1) w (varM r) fun _ s v => v = .string s) := by
 obtain ⟨x, r', rfl, -⟩ := gd_cons h.gd
 have H0 := Hid.intro h
 have HB := fun w h => Hid.intro (bar_any (K := K) (B := B) (o := o) (r := x :: r') (w := w) h)
 simp only [hA] at HB
 by_cases hk : x.k = 1
 ·have HK := fun w h => Hid.intro (kind_yes (K := K) (B := B) (o := o) (x := x) (r := r') (w := w) h)
  rw [hk] at HK
  by_cases hs : x.t.size ≤ 64
  ·have hm : varM (x :: r') = .ok x.t r' := by simp [varM, hk, hs]
   rw [hm]
   have HN := fun w h => Hid.intro (next_any (K := K) (B := B) (o := o) (x := x) (r := r') (w := w) h (by omega))
   have hs' : ¬ ((64 : Int) < (x.t.size : Int)) := by omega
   have hft := fld_t x.k x.a x.e x.t
   clear hk hm h
   go_enter Tryz.func70, Tryz.ntmps70
   go_wp2_with (first | (go_at_call 56; refine (HK _ H0.out).out.mono ?_; rintro e w1 ⟨rfl, hw1⟩) | (go_at_call 58; refine (HN _ (H0.out.via (below_al hw1 _))).out.mono ?_; rintro e w2 ⟨rfl, hw2, hp2⟩))
   go_ret
   exact Post.ok ((Bt.below (below_al hw1 _)).trans hw2) (by simp) hp2 rfl
  ·have hm : varM (x :: r') = .bad x.a := by simp [varM, hs]
   rw [hm]
   have hs' : (64 : Int) < (x.t.size : Int) := by omega
   clear hk hm h hs
   go_enter Tryz.func70, Tryz.ntmps70
   go_wp2_with (first | (go_at_call 56; refine (HK _ H0.out).out.mono ?_; rintro e w1 ⟨rfl, hw1⟩) | (go_at_call 39; refine (HB _ (H0.out.via (below_al hw1 _))).out.mono ?_; rintro e w2 ⟨rfl, hw2⟩; subst w2))
   exact ⟨rfl, Post.bad (Bt.below (below_al hw1 _))⟩
 ·have hm : varM (x :: r') = .bad x.a := by simp [varM, hk]
  rw [hm]
  have HK := fun w h => Hid.intro (kind_no (K := K) (B := B) (o := o) (x := x) (r := r') (w := w) h hk)
  clear hk hm h
  go_enter Tryz.func70, Tryz.ntmps70
  go_wp2_with (first | (go_at_call 56; refine (HK _ H0.out).out.mono ?_; rintro e w1 ⟨rfl, hw1⟩))
  exact ⟨rfl, Post.bad (Bt.below hw1)⟩
set_option maxRecDepth 100000 in
set_option maxHeartbeats 2000000 in
theorem ptext_any {K B o : Nat} {r : List Lx} {w : World} (h : PAt K w B r o) :
  Calls Tryz.prog 63 #[.pointer (some ⟨B, 0, none⟩)] w (Post K B o (r.length - 1) w (textM r) fun _ s v => v = .string s) := by
 obtain ⟨x, r', rfl, -⟩ := gd_cons h.gd
 have H0 := Hid.intro h
 by_cases hk : x.k = 3
 ·have HK := fun w h => Hid.intro (kind_yes (K := K) (B := B) (o := o) (x := x) (r := r') (w := w) h)
  rw [hk] at HK
  have hm : textM (x :: r') = .ok x.t r' := by simp [textM, hk]
  rw [hm]
  have HN := fun w h => Hid.intro (next_any (K := K) (B := B) (o := o) (x := x) (r := r') (w := w) h (by omega))
  have hft := fld_t x.k x.a x.e x.t
  clear hk hm h
  go_enter Tryz.func63, Tryz.ntmps63
  go_wp2_with (first | (go_at_call 56; refine (HK _ H0.out).out.mono ?_; rintro e w1 ⟨rfl, hw1⟩) | (go_at_call 58; refine (HN _ (H0.out.via hw1)).out.mono ?_; rintro e w2 ⟨rfl, hw2, hp2⟩))
  go_ret
  exact Post.ok ((Bt.below hw1).trans hw2) (by simp) hp2 rfl
 ·have hm : textM (x :: r') = .bad x.a := by simp [textM, hk]
  rw [hm]
  have HK := fun w h => Hid.intro (kind_no (K := K) (B := B) (o := o) (x := x) (r := r') (w := w) h hk)
  clear hk hm h
  go_enter Tryz.func63, Tryz.ntmps63
  go_wp2_with (first | (go_at_call 56; refine (HK _ H0.out).out.mono ?_; rintro e w1 ⟨rfl, hw1⟩))
  exact ⟨rfl, Post.bad (Bt.below hw1)⟩
end
end Go.Proofs.YtoeodjobggodcaaGreatDoor
/- within, commas, list: over what their closures do. -/
namespace Go.Proofs.YtoeodjobggodcaaGreatDoor
section
open Go.RowKit
structure Fr (P : Nat → Prop) (w w' : World) : Prop where
 os : w'.os = w.os
 tape : w'.tape = w.tape
 output : w'.output = w.output
 size : w.heap.size ≤ w'.heap.size
 block : ∀ k, P k → w'.heap[k]? = w.heap[k]?
theorem Fr.refl (P : Nat → Prop) (w : World) : Fr P w w := ⟨rfl, rfl, rfl, Nat.le_refl _, fun _ _ => rfl⟩
theorem Fr.trans {P : Nat → Prop} {a b c : World} (h : Fr P a b) (k : Fr P b c) : Fr P a c :=
 ⟨k.os.trans h.os, k.tape.trans h.tape, k.output.trans h.output, Nat.le_trans h.size k.size, fun i hi => (k.block i hi).trans (h.block i hi)⟩
theorem Fr.mono {P Q : Nat → Prop} {w w' : World} (h : Fr P w w') (hq : ∀ b, Q b → P b) : Fr Q w w' := ⟨h.os, h.tape, h.output, h.size, fun k hk => h.block k (hq k hk)⟩
def Kn (B : Nat) (P : Nat → Prop) (w : World) : Prop := ∀ b, P b → b < w.heap.size ∧ b ≠ B
theorem Kn.up {B : Nat} {P : Nat → Prop} {w w' : World} (h : Kn B P w) (hs : w.heap.size ≤ w'.heap.size) : Kn B P w' := fun b hb => ⟨Nat.lt_of_lt_of_le (h b hb).1 hs, (h b hb).2⟩
theorem Bt.fr {B : Nat} {P : Nat → Prop} {w w' : World} (h : Bt B w w') (hp : Kn B P w) : Fr P w w' := ⟨h.os, h.tape, h.output, h.size, fun k hk => h.block k (hp k hk).1 (hp k hk).2⟩
theorem Fr.bt {B : Nat} {w w' : World} (h : Fr (fun b => b < w.heap.size ∧ b ≠ B) w w') : Bt B w w' := ⟨h.os, h.tape, h.output, h.size, fun k hk hb => h.block k ⟨hk, hb⟩⟩
def Stb (B : Nat) (J : World → (Nat → Prop) → Prop) : Prop := ∀ w w' P P', J w P → Bt B w w' → (∀ b, P' b → P b ∨ w.heap.size ≤ b) → J w' P'
def CPost {σ : Type} (K B o n : Nat) (P : Nat → Prop) (w : World) (G : σ → List Lx → Prop) (J : σ → World → (Nat → Prop) → Prop) (m : Rs σ) (e : Ending) (w' : World) : Prop :=
 Fr P w w' ∧ match m with
  | .bad a => e = .panicked (flt a)
  | .ok s' r' => e = .returned (.tuple #[]) ∧ G s' r' ∧ J s' w' P ∧ PAt K w' B r' o ∧ r'.length ≤ n
def Clo {σ : Type} (K B o : Nat) (G : σ → List Lx → Prop) (J : σ → World → (Nat → Prop) → Prop) (fn : FuncId) (caps : Array Value) (m : σ → List Lx → Rs σ) : Prop :=
 (∀ w, (callFunc fn caps).run Tryz.prog w = .ok (.enter fn caps) w) ∧ ∀ P s r w, Kn B P w → G s r → J s w P → PAt K w B r o → Calls Tryz.prog fn caps w (CPost K B o r.length P w G J (m s r))
set_option maxRecDepth 100000 in
set_option maxHeartbeats 2000000 in
theorem within_any {σ : Type} {K B o : Nat} {G : σ → List Lx → Prop} {J : σ → World → (Nat → Prop) → Prop} {P : Nat → Prop} {fn : FuncId} {caps : Array Value} {m : σ → List Lx → Rs σ} (hG : ∀ s r, G s r → G s r.tail) (hJ : ∀ s, Stb B (J s)) (hc : Clo K B (o + 1) G J fn caps m)
  {s : σ} {r : List Lx} {w : World} (hP : Kn B P w) (hg : G s r) (hj : J s w P) (h : PAt K w B r o) (a z : ByteArray) :
  Calls Tryz.prog 60 #[.pointer (some ⟨B, 0, none⟩), .string a, .string z, .func (.func fn) #[] caps] w (CPost K B o (r.length - 1) P w G J (withinM a z o (m s) r)) := by
 have HP := Hid.intro (push_any h a)
 have HC := fun r w hf hg hj h => Hid.intro (hc.2 P s r w hf hg hj h)
 have hrun := hc.1
 have HT := fun r w h => Hid.intro (take_any (K := K) (B := B) (o := o + 1) (r := r) (w := w) h z)
 have HO := fun r w h => Hid.intro (pop_any (K := K) (B := B) (o := o) (r := r) (w := w) h)
 unfold withinM
 cases h1 : pushM a o r with
 | bad q =>
  rw [h1] at HP
  clear h1
  go_enter Tryz.func60, Tryz.ntmps60
  go_wp2_with fail
  refine HP.out.mono ?_
  rintro e w1 ⟨hb, rfl⟩
  exact ⟨rfl, hb.fr hP, rfl⟩
 | ok q r1 =>
  rw [h1] at HP
  obtain rfl : r1 = r.tail := by
   unfold pushM at h1
   split at h1 <;> cases h1
   rfl
  clear h1
  simp only [bd_ok]
  have HC := HC r.tail
  cases h2 : m s r.tail with
  | bad q2 =>
   rw [h2] at HC
   clear h2
   go_enter Tryz.func60, Tryz.ntmps60
   go_wp2_with fail
   refine HP.out.mono ?_
   rintro e w1 ⟨hb, hl, hp, v, rfl, rfl⟩
   go_wp2_with fail
   refine (HC w1 (hP.up hb.size) (hG _ _ hg) (hJ _ _ _ _ _ hj hb (fun _ h => .inl h)) hp).out.mono ?_
   rintro e w2 ⟨hf2, rfl⟩
   exact ⟨rfl, (hb.fr hP).trans hf2, rfl⟩
  | ok s2 r2 =>
   rw [h2] at HC
   clear h2
   simp only [bd_ok]
   have HT := HT r2
   cases h3 : takeM z r2 with
   | bad q3 =>
    rw [h3] at HT
    clear h3
    go_enter Tryz.func60, Tryz.ntmps60
    go_wp2_with fail
    refine HP.out.mono ?_
    rintro e w1 ⟨hb, hl, hp, v, rfl, rfl⟩
    go_wp2_with fail
    refine (HC w1 (hP.up hb.size) (hG _ _ hg) (hJ _ _ _ _ _ hj hb (fun _ h => .inl h)) hp).out.mono ?_
    rintro e w2 ⟨hf2, rfl, hg2, hj2, hp2, hl2⟩
    go_wp2_with fail
    refine (HT w2 hp2).out.mono ?_
    rintro e w3 ⟨hb3, rfl⟩
    exact ⟨rfl, ((hb.fr hP).trans hf2).trans (hb3.fr (hP.up (Nat.le_trans hb.size hf2.size))), rfl⟩
   | ok u r3 =>
    rw [h3] at HT
    obtain rfl : r3 = r2.tail := by
     unfold takeM at h3
     split at h3 <;> cases h3
     rfl
    clear h3
    have HO := HO r2.tail
    go_enter Tryz.func60, Tryz.ntmps60
    go_wp2_with fail
    refine HP.out.mono ?_
    rintro e w1 ⟨hb, hl, hp, v, rfl, rfl⟩
    go_wp2_with fail
    refine (HC w1 (hP.up hb.size) (hG _ _ hg) (hJ _ _ _ _ _ hj hb (fun _ h => .inl h)) hp).out.mono ?_
    rintro e w2 ⟨hf2, rfl, hg2, hj2, hp2, hl2⟩
    go_wp2_with fail
    refine (HT w2 hp2).out.mono ?_
    rintro e w3 ⟨hb3, hl3, hp3, v3, rfl, rfl⟩
    go_wp2_with fail
    refine (HO w3 hp3).out.mono ?_
    rintro e w4 ⟨rfl, hb4, hp4⟩
    go_wp2_with fail
    go_end0
    exact ⟨((hb.fr hP).trans hf2).trans ((hb3.trans hb4).fr (hP.up (Nat.le_trans hb.size hf2.size))), rfl, hG _ _ hg2, hJ _ _ _ _ _ hj2 (hb3.trans hb4) (fun _ h => .inl h), hp4, by omega⟩
set_option maxRecDepth 100000 in
set_option maxHeartbeats 2000000 in
theorem commas_any {σ : Type} {K B o : Nat} {G : σ → List Lx → Prop} {J : σ → World → (Nat → Prop) → Prop} {P : Nat → Prop} {fn : FuncId} {caps : Array Value} {m : σ → List Lx → Rs σ} (hG : ∀ s r, G s r → G s r.tail) (hJ : ∀ s, Stb B (J s)) (hc : Clo K B o G J fn caps m)
  {s : σ} {r : List Lx} {w : World} (hP : Kn B P w) (hg : G s r) (hj : J s w P) (h : PAt K w B r o) :
  Calls Tryz.prog 118 #[.pointer (some ⟨B, 0, none⟩), .func (.func fn) #[] caps] w (CPost K B o r.length P w G J (commasM m s r)) := by
 have HC := fun s r w hf hg hj h => Hid.intro (hc.2 P s r w hf hg hj h)
 have hrun := hc.1
 unfold commasM
 have HC0 := HC s r w hP hg hj h
 cases h1 : m s r with
 | bad q =>
  rw [h1] at HC0
  clear h1
  go_enter Tryz.func118, Tryz.ntmps118
  go_wp2_with fail
  refine HC0.out.mono ?_
  rintro e w1 ⟨hf1, rfl⟩
  exact ⟨rfl, hf1, rfl⟩
 | ok s1 r1 =>
  rw [h1] at HC0
  clear h1
  simp only [bd_ok]
  go_enter Tryz.func118, Tryz.ntmps118
  go_wp2_with fail
  refine HC0.out.mono ?_
  rintro e w1 ⟨hf1, rfl, hg1, hj1, hp1, hl1⟩
  have HYes := fun r w (h : PAt K w B r o) hs => Hid.intro (skip_yes (s := ⟨#[44]⟩) h hs)
  have HNo := fun r w (h : PAt K w B r o) hs => Hid.intro (skip_no (s := ⟨#[44]⟩) h hs)
  go_wp2_with fail
  go_loopw [7] (fun _ w' => ∃ s' r' f, Fr P w w' ∧ G s' r' ∧ J s' w' P ∧ PAt K w' B r' o ∧ r'.length ≤ r.length ∧ r'.length ≤ f ∧ Hid (commasL m f s' r' = commasL m r1.length s1 r1)) (fun _ w' => rlen B w')
  case atStart => exact ⟨s1, r1, r1.length, hf1, hg1, hj1, hp1, hl1, Nat.le_refl _, rfl⟩
  case round =>
   obtain ⟨s', r', f, hf', hg', hj', hp', hl', hlf, HE⟩ := hrel
   have HYes := HYes r' wr hp'
   have HNo := HNo r' wr hp'
   obtain ⟨x, r0, rfl, -⟩ := gd_cons hp'.gd
   obtain ⟨f, rfl⟩ : ∃ f', f = f' + 1 := ⟨f - 1, by simp at hlf; omega⟩
   cases hs : isM ⟨#[44]⟩ (x :: r0) with
   | false =>
    have HNo := HNo hs
    have HE : Hid (Rs.ok s' (x :: r0) = commasL m r1.length s1 r1) := by
     have := HE.out
     rw [commasL, if_neg (by simp [hs])] at this
     exact this
    clear hs HYes
    go_wp2_with fail
    refine HNo.out.mono ?_
    rintro e w2 ⟨rfl, hb2⟩
    go_wp2_with fail
    go_end0
    rw [← HE.out]
    exact ⟨hf'.trans ((Bt.below hb2).fr (hP.up hf'.size)), rfl, hg', hJ _ _ _ _ _ hj' (Bt.below hb2) (fun _ h => .inl h), hp'.via hb2, hl'⟩
   | true =>
    have HYes := HYes hs
    have HE : Hid ((m s' r0).bd (commasL m f) = commasL m r1.length s1 r1) := by
     have := HE.out
     rw [commasL, if_pos hs] at this
     exact this
    clear hs HNo
    have HC := HC s' r0
    cases hm : m s' r0 with
    | bad q =>
     rw [hm] at HC HE
     clear hm
     go_wp2_with fail
     refine HYes.out.mono ?_
     rintro e w2 ⟨rfl, hb2, hp2⟩
     go_wp2_with fail
     refine (HC _ (hP.up (Nat.le_trans hf'.size hb2.size)) (hG _ _ hg') (hJ _ _ _ _ _ hj' hb2 (fun _ h => .inl h)) hp2).out.mono ?_
     rintro e w3 ⟨hf3, rfl⟩
     refine ⟨rfl, (hf'.trans (hb2.fr (hP.up hf'.size))).trans hf3, ?_⟩
     rw [← HE.out]
     rfl
    | ok s3 r3 =>
     rw [hm, bd_ok] at HE
     rw [hm] at HC
     clear hm
     have hrl := hp'.rlen
     go_wp2_with fail
     refine HYes.out.mono ?_
     rintro e w2 ⟨rfl, hb2, hp2⟩
     go_wp2_with fail
     refine (HC _ (hP.up (Nat.le_trans hf'.size hb2.size)) (hG _ _ hg') (hJ _ _ _ _ _ hj' hb2 (fun _ h => .inl h)) hp2).out.mono ?_
     rintro e w3 ⟨hf3, rfl, hg3, hj3, hp3, hl3⟩
     have hrl3 := hp3.rlen
     simp only [List.length_cons] at hl' hlf hl3 hrl
     go_wp2_with fail
     go_roundw
     case rel => exact ⟨s3, r3, f, (hf'.trans (hb2.fr (hP.up hf'.size))).trans hf3, hg3, hj3, hp3, by omega, by omega, HE⟩
     case measure => omega
def Bx (B b : Nat) (v : Value) (w : World) : Prop := b ≠ B ∧ b < w.heap.size ∧ w.cell? ⟨b, 0, none⟩ = some v ∧ w.frozen? ⟨b, 0, none⟩ = false
theorem Bx.bt {B b : Nat} {v : Value} {w w' : World} (h : Bx B b v w) (k : Bt B w w') : Bx B b v w' :=
 ⟨h.1, Nat.lt_of_lt_of_le h.2.1 k.size, (k.cell (p := ⟨b, 0, none⟩) h.2.1 h.1).trans h.2.2.1, (k.frozen (p := ⟨b, 0, none⟩) h.2.1 h.1).trans h.2.2.2⟩
theorem Bx.fr {B b : Nat} {v : Value} {w w' : World} {P : Nat → Prop} (h : Bx B b v w) (k : Fr P w w') (hb : P b) : Bx B b v w' :=
 ⟨h.1, Nat.lt_of_lt_of_le h.2.1 k.size, (World.cell?_of_block (k.block b hb)).trans h.2.2.1, (World.frozen?_of_block (k.block b hb)).trans h.2.2.2⟩
theorem Bx.new {B : Nat} (w : World) (v : Value) (t : TypeId) (hB : B < w.heap.size) : Bx B w.heap.size v (w.alloc (.cells #[v] t)) := by
 have h := heap_alloc_new w (.cells #[v] t)
 refine ⟨by omega, by simp, ?_, ?_⟩
 ·unfold World.cell?; rw [h]; rfl
 ·unfold World.frozen?; rw [h]; rfl
def LJ {σ : Type} (B c1 c2 c3 : Nat) (z : ByteArray) (fn : FuncId) (caps : Array Value) (J : σ → World → (Nat → Prop) → Prop) (s : σ) (w : World) (P : Nat → Prop) : Prop :=
 J s w (fun b => P b ∨ b = c1 ∨ b = c2 ∨ b = c3) ∧ Bx B c1 (.pointer (some ⟨B, 0, none⟩)) w ∧ Bx B c2 (.string z) w ∧ Bx B c3 (.func (.func fn) #[] caps) w
theorem LJ.stb {σ : Type} {B c1 c2 c3 : Nat} {z : ByteArray} {fn : FuncId} {caps : Array Value} {J : σ → World → (Nat → Prop) → Prop} (hJ : ∀ s, Stb B (J s)) (s : σ) : Stb B (LJ B c1 c2 c3 z fn caps J s) := by
 rintro w w' P P' ⟨h1, h2, h3, h4⟩ hb hp
 refine ⟨hJ s _ _ _ _ h1 hb ?_, h2.bt hb, h3.bt hb, h4.bt hb⟩
 rintro b (h | h)
 ·rcases hp b h with h | h
  ·exact .inl (.inl h)
  ·exact .inr h
 ·exact .inl (.inr h)
theorem run_list1 (caps : Array Value) (w : World) : (callFunc 117 caps).run Tryz.prog w = .ok (.enter 117 caps) w := by
 simp [go_sem]
set_option maxRecDepth 100000 in
set_option maxHeartbeats 2000000 in
theorem list1_clo {σ : Type} {K B o : Nat} {G : σ → List Lx → Prop} {J : σ → World → (Nat → Prop) → Prop} {fn : FuncId} {caps : Array Value} {m : σ → List Lx → Rs σ} (hG : ∀ s r, G s r → G s r.tail) (hJ : ∀ s, Stb B (J s)) (hc : Clo K B o G J fn caps m) (c1 c2 c3 : Nat) (z : ByteArray) :
  Clo K B o G (LJ B c1 c2 c3 z fn caps J) 117 #[.pointer (some ⟨c1, 0, none⟩), .pointer (some ⟨c2, 0, none⟩), .pointer (some ⟨c3, 0, none⟩)] (fun s r => if isM z r then .ok s r else commasM m s r) := by
 refine ⟨run_list1 _, ?_⟩
 rintro P s r w hP hg ⟨hj, h1, h2, h3⟩ h
 have d1 := h1.2.2.1
 have d2 := h2.2.2.1
 have d3 := h3.2.2.1
 have HI := Hid.intro (is_any h z)
 show Calls _ _ _ _ (CPost K B o r.length P w G _ (if isM z r = true then .ok s r else commasM m s r))
 cases hz : isM z r with
 | true =>
  rw [hz] at HI
  rw [if_pos rfl]
  clear hz
  go_enter Tryz.func117, Tryz.ntmps117
  go_wp2_with fail
  refine HI.out.mono ?_
  rintro e w1 ⟨rfl, hb1⟩
  go_wp2_with fail
  go_end0
  exact ⟨(Bt.below hb1).fr hP, rfl, hg, LJ.stb hJ s _ _ _ _ ⟨hj, h1, h2, h3⟩ (Bt.below hb1) (fun _ h => .inl h), h.via hb1, Nat.le_refl _⟩
 | false =>
  rw [hz] at HI
  rw [if_neg (by simp)]
  clear hz
  have HC := fun w1 (hb1 : Below w.heap.size w w1) => Hid.intro (commas_any (P := fun b => P b ∨ b = c1 ∨ b = c2 ∨ b = c3) hG hJ hc (s := s) (r := r) (w := w1) (fun b hb => by
   have hs := hb1.size
   rcases hb with hb | rfl | rfl | rfl
   ·exact (hP.up hs) b hb
   ·exact ⟨Nat.lt_of_lt_of_le h1.2.1 hs, h1.1⟩
   ·exact ⟨Nat.lt_of_lt_of_le h2.2.1 hs, h2.1⟩
   ·exact ⟨Nat.lt_of_lt_of_le h3.2.1 hs, h3.1⟩) hg (hJ s _ _ _ _ hj (Bt.below hb1) (fun _ h => .inl h)) (h.via hb1))
  go_enter Tryz.func117, Tryz.ntmps117
  go_wp2_with fail
  refine HI.out.mono ?_
  rintro e w1 ⟨rfl, hb1⟩
  have e1 := (h1.bt (Bt.below hb1)).2.2.1
  have e2 := (h2.bt (Bt.below hb1)).2.2.1
  have e3 := (h3.bt (Bt.below hb1)).2.2.1
  go_wp2_with fail
  refine (HC w1 hb1).out.mono ?_
  rintro e w2 ⟨hf2, h4⟩
  have hf : Fr P w w2 := ((Bt.below hb1).fr hP).trans (hf2.mono fun _ h => .inl h)
  cases hm : commasM m s r with
  | bad q =>
   rw [hm] at h4
   obtain rfl := h4
   exact ⟨rfl, hf, by first | rfl | rw [hm]⟩
  | ok s2 r2 =>
   rw [hm] at h4
   obtain ⟨rfl, hg2, hj2, hp2, hl2⟩ := h4
   have HM := Hid.intro hm
   clear hm
   go_wp2_with fail
   go_end0
   refine ⟨hf, ?_⟩
   rw [HM.out]
   refine ⟨rfl, hg2, ⟨hj2, (h1.bt (Bt.below hb1)).fr hf2 (.inr (.inl rfl)), (h2.bt (Bt.below hb1)).fr hf2 (.inr (.inr (.inl rfl))), (h3.bt (Bt.below hb1)).fr hf2 (.inr (.inr (.inr rfl)))⟩, hp2, hl2⟩
set_option maxRecDepth 100000 in
set_option maxHeartbeats 2000000 in
theorem list_any {σ : Type} {K B o : Nat} {G : σ → List Lx → Prop} {J : σ → World → (Nat → Prop) → Prop} {P : Nat → Prop} {fn : FuncId} {caps : Array Value} {m : σ → List Lx → Rs σ} (hG : ∀ s r, G s r → G s r.tail) (hJ : ∀ s, Stb B (J s)) (hc : Clo K B (o + 1) G J fn caps m)
  {s : σ} {r : List Lx} {w : World} (hP : Kn B P w) (hg : G s r) (hj : J s w P) (h : PAt K w B r o) (a z : ByteArray) :
  Calls Tryz.prog 68 #[.pointer (some ⟨B, 0, none⟩), .string a, .string z, .func (.func fn) #[] caps] w (CPost K B o (r.length - 1) P w G J (listM a z o m s r)) := by
 unfold listM
 have hmf : ∀ (fn : Fn) (first cap : Array Value) (w : World), (Instr.makeFunc fn first cap).run Tryz.prog w = .ok (.func fn first cap) w := fun _ _ _ _ => rfl
 have hb0 : Bt B w (((w.alloc (Obj.cells #[Value.pointer (some ⟨B, 0, none⟩)] 55)).alloc (Obj.cells #[Value.string z] 9)).alloc (Obj.cells #[Value.func (Fn.func fn) #[] caps] 1)) := (((Bt.refl B w).alloc _).alloc _).alloc _
 have hsz := h.size
 have HW := Hid.intro (within_any hG (LJ.stb hJ) (list1_clo hG hJ hc w.heap.size (w.heap.size + 1) (w.heap.size + 1 + 1) z) (P := P) (s := s) (r := r) (hP.up hb0.size) hg
  ⟨hJ s _ _ P _ hj hb0 (by rintro b (h | h | h | h); exact .inl h; all_goals (exact .inr (by omega))),
   ((Bx.new w _ _ (by omega)).bt ((Bt.refl B _).alloc _)).bt ((Bt.refl B _).alloc _), by have := Bx.new (B := B) (w.alloc (Obj.cells #[Value.pointer (some ⟨B, 0, none⟩)] 55)) (Value.string z) 9 (by simp; omega); rw [World.size_alloc] at this; exact this.bt ((Bt.refl B _).alloc _),
   by have := Bx.new (B := B) ((w.alloc (Obj.cells #[Value.pointer (some ⟨B, 0, none⟩)] 55)).alloc (Obj.cells #[Value.string z] 9)) (Value.func (Fn.func fn) #[] caps) 1 (by simp; omega); rw [World.size_alloc, World.size_alloc] at this; exact this⟩
  (h.via (below_al (below_al (below_al (Below.refl _ _) _) _) _)) a z)
 go_enter Tryz.func68, Tryz.ntmps68
 go_wp2_with fail
 refine HW.out.mono ?_
 rintro e w2 ⟨hf2, h4⟩
 cases hm : withinM a z o (fun r => if isM z r = true then Rs.ok s r else commasM m s r) r with
 | bad q =>
  rw [hm] at h4
  obtain rfl := h4
  exact ⟨rfl, (hb0.fr hP).trans hf2, by first | rfl | rw [hm]⟩
 | ok s2 r2 =>
  rw [hm] at h4
  obtain ⟨rfl, hg2, hj2, hp2, hl2⟩ := h4
  have HM := Hid.intro hm
  clear hm
  go_wp2_with fail
  go_end0
  refine ⟨(hb0.fr hP).trans hf2, ?_⟩
  rw [HM.out]
  exact ⟨rfl, hg2, hJ s2 _ _ _ _ hj2.1 (Bt.refl _ _) (fun b hb => .inl (.inl hb)), hp2, hl2⟩
end
end Go.Proofs.YtoeodjobggodcaaGreatDoor
/- Trees: leaf, literal, node. -/
namespace Go.Proofs.YtoeodjobggodcaaGreatDoor
section
open Go.RowKit
def Te.cs (t : Te) : List Dt := t.e.cs ++ [dI t.d]
def ExV (P : Nat → Prop) (w : World) (e : Ex) (v : Value) : Prop :=
 ∃ p6 n6 c6 p7 n7 c7, v = .agg #[.int .i64 e.op, .string e.t, .int .i64 e.v.k, .bool e.v.b, .int .i64 e.v.i, .string e.v.s, .slice p6 n6 c6, .slice p7 n7 c7] ∧
  rep P w (.sl e.v.l.length (Vt.css e.v.l)) (.slice p6 n6 c6) ∧ rep P w (.sl e.a.length (Ex.css e.a)) (.slice p7 n7 c7)
def TeV (P : Nat → Prop) (w : World) (t : Te) (v : Value) : Prop :=
 ∃ p6 n6 c6 p7 n7 c7, v = .agg #[.int .i64 t.e.op, .string t.e.t, .int .i64 t.e.v.k, .bool t.e.v.b, .int .i64 t.e.v.i, .string t.e.v.s, .slice p6 n6 c6, .slice p7 n7 c7, .int .i64 (t.d : Int)] ∧
  rep P w (.sl t.e.v.l.length (Vt.css t.e.v.l)) (.slice p6 n6 c6) ∧ rep P w (.sl t.e.a.length (Ex.css t.e.a)) (.slice p7 n7 c7) ∧ t.d ≤ 30
theorem Ex.cs_eq (e : Ex) : e.cs = [dI e.op, dS e.t, dI e.v.k, dB e.v.b, dI e.v.i, dS e.v.s, .sl e.v.l.length (Vt.css e.v.l), .sl e.a.length (Ex.css e.a)] := by
 obtain ⟨op, t, ⟨k, b, i, s, l⟩, a⟩ := e
 simp [Ex.cs, Vt.cs]
theorem sl_form {P : Nat → Prop} {w : World} {m : Nat} {ds : List Dt} {v : Value} (h : rep P w (.sl m ds) v) : ∃ p c, v = .slice p m c ∧ m ≤ c ∧ c ≤ maxLen := by
 simp only [rep] at h
 obtain ⟨a0, cap, vs, h1, h2, h3, -⟩ := h
 exact ⟨a0, cap, h1, h2, h3⟩
theorem te_cells {P : Nat → Prop} {w : World} {t : Te} {vs : List Value} (h : reps P w t.cs vs) : ∃ p6 c6 p7 c7, vs = [.int .i64 t.e.op, .string t.e.t, .int .i64 t.e.v.k, .bool t.e.v.b, .int .i64 t.e.v.i, .string t.e.v.s, .slice p6 t.e.v.l.length c6, .slice p7 t.e.a.length c7, .int .i64 (t.d : Int)] ∧
  rep P w (.sl t.e.v.l.length (Vt.css t.e.v.l)) (.slice p6 t.e.v.l.length c6) ∧ rep P w (.sl t.e.a.length (Ex.css t.e.a)) (.slice p7 t.e.a.length c7) := by
 unfold Te.cs at h
 rw [Ex.cs_eq] at h
 simp only [List.cons_append, List.nil_append] at h
 obtain ⟨v0, _, rfl, h0, h⟩ := h.uncons
 obtain ⟨v1, _, rfl, h1, h⟩ := h.uncons
 obtain ⟨v2, _, rfl, h2, h⟩ := h.uncons
 obtain ⟨v3, _, rfl, h3, h⟩ := h.uncons
 obtain ⟨v4, _, rfl, h4, h⟩ := h.uncons
 obtain ⟨v5, _, rfl, h5, h⟩ := h.uncons
 obtain ⟨v6, _, rfl, h6, h⟩ := h.uncons
 obtain ⟨v7, _, rfl, h7, h⟩ := h.uncons
 obtain ⟨v8, _, rfl, h8, h⟩ := h.uncons
 simp only [reps] at h
 subst h
 obtain ⟨rfl, -⟩ := rep.lit_iff.1 h0
 obtain ⟨rfl, -⟩ := rep.lit_iff.1 h1
 obtain ⟨rfl, -⟩ := rep.lit_iff.1 h2
 obtain ⟨rfl, -⟩ := rep.lit_iff.1 h3
 obtain ⟨rfl, -⟩ := rep.lit_iff.1 h4
 obtain ⟨rfl, -⟩ := rep.lit_iff.1 h5
 obtain ⟨rfl, -⟩ := rep.lit_iff.1 h8
 obtain ⟨p6, c6, rfl, -⟩ := sl_form h6
 obtain ⟨p7, c7, rfl, -⟩ := sl_form h7
 exact ⟨p6, c6, p7, c7, rfl, h6, h7⟩
theorem wpList_store_row {ops : Array Oper} {rest : List Oper} {o : Oper} {a : Act} {w : World} {Q : Exit → Act → World → Prop} (hgd : o.guard = .none) (ty : TypeId) (x y : Operand) (ho : o.op = .store ty x y)
  (g : Nat) (cells : Array Value) (hx : a.eval x = .pointer (some ⟨g, 0, .none⟩)) (hy : a.eval y = .agg cells) (t : TypeId) (old : Array Value) (hg : w.heap[g]? = some (.cells old t (0, 0))) {n : Nat} (hi : (Tryz.prog.info? ty).map (·.size) = some n)
  (hold : old.size = n) (hn : cells.size = n) (h1 : cells.all (·.oneCell') = true) (h : wpList Tryz.prog ops Q rest (a.put o.dst undef) (w.setRow g cells)) : wpList Tryz.prog ops Q (o :: rest) a w :=
 wpList_plain hgd fun _ hK => wp_store_row ty x y ho g cells hx hy t old hg (by rw [hi, hn]) (by rw [hold, hn]) h1 (hK _ _ h)
theorem wpList_load_cells {ops : Array Oper} {rest : List Oper} {o : Oper} {a : Act} {w : World} {Q : Exit → Act → World → Prop} (hgd : o.guard = .none) (ty : TypeId) (x : Operand) (ho : o.op = .load ty x)
  (g : Nat) (hx : a.eval x = .pointer (some ⟨g, 0, .none⟩)) (t : TypeId) (cs : Array Value) (fr : Nat × Nat) (hg : w.heap[g]? = some (.cells cs t fr)) {fs : Array Field} (hu : Tryz.prog.underlying ty = some (.struct fs)) {n : Nat} (hi : (Tryz.prog.info? ty).map (·.size) = some n) (hn : cs.size = n)
  (h : wpList Tryz.prog ops Q rest (a.put o.dst (.agg cs)) w) : wpList Tryz.prog ops Q (o :: rest) a w :=
 wpList_load_row hgd ty x ho g hx t cs fr _ hg hu rfl (by rw [hi, hn]) h
theorem infoTree : (Tryz.prog.info? 103).map (·.size) = some 9 := by kernel_rfl
theorem infoExpr : (Tryz.prog.info? 39).map (·.size) = some 8 := by kernel_rfl
theorem below_row {n g : Nat} {a w : World} (h : Below n a w) (hg : n ≤ g) (cs : Array Value) : Below n a (w.setRow g cs) :=
 ⟨h.os, h.tape, h.output, by simpa using h.size, fun k hk => (setRow_other w g k cs (by omega)).trans (h.block k hk)⟩
theorem Bt.row {B g : Nat} {a w : World} (h : Bt B a w) (hg : a.heap.size ≤ g) (cs : Array Value) : Bt B a (w.setRow g cs) :=
 ⟨h.os, h.tape, h.output, by simpa using h.size, fun k hk hb => (setRow_other w g k cs (by omega)).trans (h.block k hk hb)⟩
theorem row_call {w w1 : World} {n : Nat} {o : Obj} (h : Below n w w1) {b : Nat} (hb : b < n) (h0 : w.heap[b]? = some o) : w1.heap[b]? = some o := (h.block b hb).trans h0
theorem row_bt {B : Nat} {w w1 : World} {o : Obj} (h : Bt B w w1) {b : Nat} (hB : b ≠ B) (h0 : w.heap[b]? = some o) : w1.heap[b]? = some o := (h.block b (Array.getElem?_eq_some_iff.1 h0).1 hB).trans h0
theorem ret_cells {fn : Func} {p : Tmp} {ty : TypeId} {R : Ending → World → Prop} {a : Act} {w : World} {g n : Nat} {t : TypeId} {cells : Array Value} {fr : Nat × Nat} {fs : Array Field} (hres : fn.results = #[.cell p ty]) (hp : a.tmps.getD p undef = .pointer (some ⟨g, 0, .none⟩))
  (hg : w.heap[g]? = some (.cells cells t fr)) (hu : Tryz.prog.underlying ty = some (.struct fs)) (hi : (Tryz.prog.info? ty).map (·.size) = some n) (hn : cells.size = n) (hd : a.defers = []) (hR : R (.returned (.agg cells)) w) :
  bodyPost Tryz.prog fn R .ret a w :=
 bodyPost_ret (results_cell_row hres _ _ _ _ _ _ _ hp hg hu rfl (by rw [hi, hn])) hd hR
set_option maxRecDepth 100000 in
set_option maxHeartbeats 2000000 in
theorem leaf_any (x0 : Int) (x1 : ByteArray) (x2 : Int) (x3 : Bool) (x4 : Int) (x5 : ByteArray) (p6 : Option Addr) (n6 c6 : Nat) (p7 : Option Addr) (n7 c7 : Nat) (w : World) :
  Calls Tryz.prog 181 #[.agg #[.int .i64 x0, .string x1, .int .i64 x2, .bool x3, .int .i64 x4, .string x5, .slice p6 n6 c6, .slice p7 n7 c7]] w fun e w' =>
   e = .returned (.agg #[.int .i64 x0, .string x1, .int .i64 x2, .bool x3, .int .i64 x4, .string x5, .slice p6 n6 c6, .slice p7 n7 c7, .int .i64 1]) ∧ Below w.heap.size w w' := by
 go_enter Tryz.func181, Tryz.ntmps181
 go_wp2
 refine bodyPost_ret (v := .agg #[.int .i64 x0, .string x1, .int .i64 x2, .bool x3, .int .i64 x4, .string x5, .slice p6 n6 c6, .slice p7 n7 c7, .int .i64 1]) ?_ rfl ⟨rfl, below_al (below_al (Below.refl _ _) _) _⟩
 simp [results, Tryz.results181, go_sem]
set_option maxRecDepth 100000 in
set_option maxHeartbeats 2000000 in
theorem literal_any (x2 : Int) (x3 : Bool) (x4 : Int) (x5 : ByteArray) (w : World) :
  Calls Tryz.prog 180 #[.agg #[.int .i64 x2, .bool x3, .int .i64 x4, .string x5, .slice none 0 0]] w fun e w' =>
   e = .returned (.agg #[.int .i64 1, .string ⟨#[]⟩, .int .i64 x2, .bool x3, .int .i64 x4, .string x5, .slice none 0 0, .slice none 0 0, .int .i64 1]) ∧ Below w.heap.size w w' := by
 have HL := fun w => Hid.intro (leaf_any 1 ⟨#[]⟩ x2 x3 x4 x5 none 0 0 none 0 0 w)
 go_enter Tryz.func180, Tryz.ntmps180
 go_wp2_with fail
 refine (HL _).out.mono ?_
 rintro e w1 ⟨rfl, hw1⟩
 have HR := Hid.intro (row_call hw1 (b := w.heap.size + 1) (by simp) (heap_alloc2_new w _ _))
 go_wp2_with (with_reducible refine (id (?_ : wpList _ _ _ (Oper.mk _ (Op.store _ _ _) _ _ _ _ :: _) _ _)); refine wpList_store_row rfl _ _ _ rfl _ _ rfl rfl _ _ HR.out infoTree rfl rfl (by simp [Value.oneCell']) ?_)
 refine ret_cells rfl rfl (setRow_heap _ _ _ _ _ _ HR.out) Tryz.underlying103 infoTree rfl rfl ⟨rfl, ?_⟩
 exact below_row (hw1.via (below_al (below_al (Below.refl _ _) _) _)) (by omega) _
theorem te_row {P : Nat → Prop} {w : World} : ∀ (l : List Te) (vs : List Value) (k : Nat) (hk : k < l.length), reps P w (l.flatMap Te.cs) vs → ∃ us, reps P w l[k].cs us ∧ ∀ j u, us[j]? = some u → vs[k * 9 + j]? = some u
 | [], _, _, hk, _ => absurd hk (by simp)
 | t :: l, vs, 0, _, h => by
  rw [List.flatMap_cons] at h
  obtain ⟨us, ts, rfl, h1, -⟩ := h.split
  refine ⟨us, h1, fun j u hj => ?_⟩
  rw [Nat.zero_mul, Nat.zero_add, List.getElem?_append_left (List.getElem?_eq_some_iff.1 hj).1]
  exact hj
 | t :: l, vs, k + 1, hk, h => by
  rw [List.flatMap_cons] at h
  obtain ⟨us, ts, rfl, h1, h2⟩ := h.split
  obtain ⟨us', h3, h4⟩ := te_row l ts k (by simpa using hk) h2
  refine ⟨us', h3, fun j u hj => ?_⟩
  have hl : us.length = 9 := by rw [h1.length]; simp [Te.cs, Ex.cs_len]
  rw [List.getElem?_append_right (by omega), ← h4 j u hj]
  congr 1
  omega
theorem deep_snoc (l : List Te) (t : Te) : deepM (l ++ [t]) = max (deepM l) (t.d + 1) := by simp [deepM]
theorem deep_le : ∀ (l : List Te), (∀ t ∈ l, t.d ≤ 30) → deepM l ≤ 31 := by
 intro l
 have key : ∀ (l : List Te) (m : Nat), m ≤ 31 → (∀ t ∈ l, t.d ≤ 30) → l.foldl (fun m a => max m (a.d + 1)) m ≤ 31 := by
  intro l
  induction l with
  | nil => intro m hm _; exact hm
  | cons t l ih => intro m hm h; exact ih (max m (t.d + 1)) (by have := h t (by simp); omega) (fun t ht => h t (by simp [ht]))
 exact fun h => key l 1 (by omega) h
theorem heap_put {w : World} {b i : Nat} {cs : Array Value} {t : TypeId} {fr : Nat × Nat} (h : w.heap[b]? = some (.cells cs t fr)) (v : Value) : (w.setCell ⟨b, i, none⟩ v).heap[b]? = some (.cells (cs.setIfInBounds i v) t fr) := by
 rw [setCell_eq_setRow w b i cs t fr v h]
 exact setRow_heap _ _ _ _ _ _ h
theorem own_form {w : World} {base : Nat} {e : TypeId} {size n : Nat} {v : Value} {xs : List Value} (h : w.ownsRow base e size v n xs) : ∃ p c, v = .slice p n c := by
 rcases h.2 with ⟨rfl, h0⟩ | ⟨g, cap, cur, rfl, -⟩
 ·exact ⟨none, 0, by rw [h0]⟩
 ·exact ⟨_, _, rfl⟩
theorem own_below {w : World} {base : Nat} {e : TypeId} {size n : Nat} {v : Value} {xs : List Value} (h : w.ownsRow base e size v n xs) {b : Nat} (hb : b < base ∨ w.heap.size ≤ b) : some b ≠ v.ownBlock := fun he => by
 have := h.lt b he.symm
 omega
theorem ex_reps {P : Nat → Prop} {w : World} {e : Ex} {p6 p7 : Option Addr} {n6 n7 c6 c7 : Nat} (h6 : rep P w (.sl e.v.l.length (Vt.css e.v.l)) (.slice p6 n6 c6)) (h7 : rep P w (.sl e.a.length (Ex.css e.a)) (.slice p7 n7 c7)) :
  reps P w e.cs [.int .i64 e.op, .string e.t, .int .i64 e.v.k, .bool e.v.b, .int .i64 e.v.i, .string e.v.s, .slice p6 n6 c6, .slice p7 n7 c7] := by
 rw [Ex.cs_eq]
 exact reps.cons (rep.lit rfl) (reps.cons (rep.lit rfl) (reps.cons (rep.lit rfl) (reps.cons (rep.lit rfl) (reps.cons (rep.lit rfl) (reps.cons (rep.lit rfl) (reps.cons h6 (reps.cons h7 reps.nil)))))))
theorem css_snoc (l : List Ex) (e : Ex) : Ex.css (l ++ [e]) = Ex.css l ++ e.cs := by simp [Ex.css_eq]
theorem Kp.two {P : Nat → Prop} {n : Nat} {a b c : World} (h : Below n a b) (k : Below n a c) (hp : ∀ g, P g → g < n) (hs : b.heap.size ≤ c.heap.size) : Kp P b c :=
 ⟨hs, fun g hg _ o => (k.cell (p := ⟨g, o, none⟩) (hp g hg)).trans (h.cell (p := ⟨g, o, none⟩) (hp g hg)).symm⟩
theorem infoExpr' : (Tryz.prog.info? 39).map (fun i => (i.zero, i.size, i.bytes)) = some (some (.agg #[.int .i64 0, .string ⟨#[]⟩, .int .i64 0, .bool false, .int .i64 0, .string ⟨#[]⟩, .slice none 0 0, .slice none 0 0]), 8, 112) := by kernel_rfl
theorem heap_cell {w : World} {b : Nat} {cs : Array Value} {t : TypeId} (h : w.heap[b]? = some (.cells cs t (0, 0))) (j : Nat) : w.cell? ⟨b, j, none⟩ = cs[j]? ∧ w.frozen? ⟨b, j, none⟩ = false := by
 constructor
 ·unfold World.cell?; rw [h]; rfl
 ·unfold World.frozen?; rw [h]; simp
set_option maxRecDepth 100000 in
set_option maxHeartbeats 2000000 in
theorem node_any {P : Nat → Prop} {w : World} (a : Nat) (x0 : Int) (x1 : ByteArray) (l : List Te) {sv : Value} (hs : rep P w (.sl l.length (l.flatMap Te.cs)) sv) (hd : ∀ t ∈ l, t.d ≤ 30) (hl : l.length ≤ 100000) :
  Calls Tryz.prog 138 #[.int .i64 (a : Int), .agg #[.int .i64 x0, .string x1, .int .i64 0, .bool false, .int .i64 0, .string ⟨#[]⟩, .slice none 0 0, .slice none 0 0], sv] w fun e w' => Below w.heap.size w w' ∧
   (if 30 < deepM l then e = .panicked (flt a) else ∃ v, e = .returned v ∧ TeV (fun b => P b ∨ w.heap.size ≤ b) w' ⟨{ op := x0, t := x1, a := l.map Te.e }, deepM l⟩ v) := by
 simp only [rep] at hs
 obtain ⟨a0, cap, vs, rfl, hc, hm, hr, hz, hcell⟩ := hs
 have HR := Hid.intro hr
 have HC := Hid.intro hcell
 have HD := Hid.intro hd
 clear hr hcell hz hd
 unfold maxLen at hm
 go_enter Tryz.func138, Tryz.ntmps138
 go_wp2_with fail
 go_loopw [7, 12] (fun d i w' => ∃ (k : Nat) (v : Value) (xs : List Value), k ≤ l.length ∧ i = .int .i64 (k : Int) ∧ d = .int .i64 (deepM (l.take k) : Int) ∧ Hid (Below w.heap.size w w') ∧ Hid (w'.heap[w.heap.size]? = some (.cells #[.int .i64 x0, .string x1, .int .i64 0, .bool false, .int .i64 0, .string ⟨#[]⟩, .slice none 0 0, v] 39 (0, 0))) ∧ Hid (w'.heap[w.heap.size + 1]? = some (.cells #[.int .i64 0, .string ⟨#[]⟩, .int .i64 0, .bool false, .int .i64 0, .string ⟨#[]⟩, .slice none 0 0, .slice none 0 0, .int .i64 0] 103 (0, 0))) ∧ Hid (w'.ownsRow (w.heap.size + 2) 39 8 v k xs) ∧ Hid (reps (fun b => P b ∧ b < w.heap.size) w' (Ex.css ((l.take k).map Te.e)) xs)) (fun _ i _ => l.length - (intOf i).toNat)
 case atStart =>
  refine ⟨0, .slice none 0 0, [], Nat.zero_le _, rfl, rfl, below_al (below_al (Below.refl _ _) _) _, heap_alloc2_old w _ _, heap_alloc2_new w _ _, World.ownsRow_nil _ _ _ _, ?_⟩
  simp only [List.take_zero, List.map_nil, Ex.css]
  exact reps.nil
 case round =>
  obtain ⟨k, v, xs, hk, rfl, rfl, HB, HE, HT, HO, HX⟩ := hrel
  by_cases hlt : k < l.length
  ·obtain ⟨b, o, rfl, hPb, hbw, hcl⟩ := HC.out (by omega)
   obtain ⟨us, hu1, hu2⟩ := te_row l vs k hlt HR.out
   obtain ⟨p6, c6, p7, c7, rfl, h6, h7⟩ := te_cells hu1
   have hcl' : ∀ j u, ([.int .i64 l[k].e.op, .string l[k].e.t, .int .i64 l[k].e.v.k, .bool l[k].e.v.b, .int .i64 l[k].e.v.i, .string l[k].e.v.s, .slice p6 l[k].e.v.l.length c6, .slice p7 l[k].e.a.length c7, .int .i64 (l[k].d : Int)] : List Value)[j]? = some u → wr.cell? ⟨b, o + k * 9 + j, none⟩ = some u := fun j u hj => by
    rw [Nat.add_assoc]
    exact (HB.out.cell (p := ⟨b, o + (k * 9 + j), none⟩) hbw).trans (hcl _ _ (hu2 j u hj))
   have g0 := hcl' 0 _ rfl
   have g1 := hcl' 1 _ rfl
   have g2 := hcl' 2 _ rfl
   have g3 := hcl' 3 _ rfl
   have g4 := hcl' 4 _ rfl
   have g5 := hcl' 5 _ rfl
   have g6 := hcl' 6 _ rfl
   have g7 := hcl' 7 _ rfl
   have g8 := hcl' 8 _ rfl
   have hbr : b < wr.heap.size := Nat.lt_of_lt_of_le hbw HB.out.size
   have hdk := HD.out l[k] (List.getElem_mem hlt)
   have hEs : w.heap.size + 1 < wr.heap.size := (Array.getElem?_eq_some_iff.1 HT.out).1
   have hE0 : w.heap.size < wr.heap.size := by omega
   have e7 : wr.cell? ⟨w.heap.size, 7, none⟩ = some v := (heap_cell HE.out 7).1
   have f7 : wr.frozen? ⟨w.heap.size, 7, none⟩ = false := (heap_cell HE.out 7).2
   have HCk := Hid.intro HC
   clear HC
   simp only [Nat.add_zero] at g0
   clear hcl hcl' hu2
   obtain ⟨i0, hi, hz0, hz1, hz2⟩ := info_parts infoExpr'
   obtain ⟨p0, c0, rfl⟩ := own_form HO.out
   have hnew : ∀ j u, ([.int .i64 l[k].e.op, .string l[k].e.t, .int .i64 l[k].e.v.k, .bool l[k].e.v.b, .int .i64 l[k].e.v.i, .string l[k].e.v.s, .slice p6 l[k].e.v.l.length c6, .slice p7 l[k].e.a.length c7] : List Value)[j]? = some u → ∀ W : World, W.heap.size = wr.heap.size + 1 → (W.alloc (.cells #[.int .i64 l[k].e.op, .string l[k].e.t, .int .i64 l[k].e.v.k, .bool l[k].e.v.b, .int .i64 l[k].e.v.i, .string l[k].e.v.s, .slice p6 l[k].e.v.l.length c6, .slice p7 l[k].e.a.length c7] 39)).cell? ((⟨wr.heap.size + 1, 0, none⟩ : Addr).add j) = some u := fun j u hj W hW => by
    rw [addr_add, Nat.zero_add, (heap_cell (hW ▸ heap_alloc_new W _) j).1, ← hj]
    simp
   go_wp2_with (at_builtin; refine wpList_append_own_at _ rfl _ _ 37 rfl (w.heap.size + 2) 39 i0 _ 8 112 Tryz.underlying37 hi hz0 hz1 hz2 rfl (by decide) _ _ _ rfl ((HO.out.alloc _).alloc _) ⟨wr.heap.size + 1, 0, none⟩ 1 1 [.int .i64 l[k].e.op, .string l[k].e.t, .int .i64 l[k].e.v.k, .bool l[k].e.v.b, .int .i64 l[k].e.v.i, .string l[k].e.v.s, .slice p6 l[k].e.v.l.length c6, .slice p7 l[k].e.a.length c7] rfl rfl (fun j u hj => hnew j u hj _ (by simp)) (by simp [Value.oneCell']) (by unfold maxLen; omega) (by omega) (by simp; omega) ?_; intro v' w1 hown' hgrow _ hat; obtain ⟨g', cap', rfl⟩ := ownsRow_succ hown'; have hs1 := hgrow.size; have hb1 : w1.heap[wr.heap.size]? = _ := (hgrow.block wr.heap.size (by simp; omega) (own_below HO.out (.inr (Nat.le_refl _)))).trans (heap_alloc2_old wr _ _); have HE1 : Hid (w1.heap[w.heap.size]? = _) := (hgrow.block w.heap.size (by simp; omega) (own_below HO.out (.inl (by omega)))).trans ((heap_alloc_old _ _ (by simp; omega)).trans ((heap_alloc_old _ _ hE0).trans HE.out)); have e7' : w1.cell? ⟨w.heap.size, 7, none⟩ = some _ := (heap_cell HE1.out 7).1; have f7' : w1.frozen? ⟨w.heap.size, 7, none⟩ = false := (heap_cell HE1.out 7).2; have b8' : w1.cell? ⟨wr.heap.size, 8, none⟩ = some (.int .i64 (l[k].d : Int)) := (heap_cell hb1 8).1; have hE1 : w.heap.size < w1.heap.size := (Array.getElem?_eq_some_iff.1 HE1.out).1; have hbs1 : wr.heap.size < w1.heap.size := (Array.getElem?_eq_some_iff.1 hb1).1; have hbne : wr.heap.size ≠ w.heap.size := (by omega))
   have hB2 : Hid (Below w.heap.size w (w1.setCell ⟨w.heap.size, 7, none⟩ (.slice (some ⟨g', 0, none⟩) (k + 1) cap'))) :=
    ((((HB.out.alloc HB.out.size _).alloc (by simp; omega) _).grown hgrow (by simp; omega) (fun b hb => Nat.le_trans (by omega) (HO.out.lt b hb).1))).setCell (p := ⟨w.heap.size, 7, none⟩) (Nat.le_refl _) _
   have hg'ne : g' ≠ w.heap.size := by
    have := hown'.lt g' rfl
    omega
   have hT2 : Hid ((w1.setCell ⟨w.heap.size, 7, none⟩ (.slice (some ⟨g', 0, none⟩) (k + 1) cap')).heap[w.heap.size + 1]? = _) :=
    (Below.heap_setCell _ _ _ _ (by simp)).trans ((hgrow.block _ (by simp; omega) (own_below HO.out (.inl (by omega)))).trans ((heap_alloc_old _ _ (by simp; omega)).trans ((heap_alloc_old _ _ hEs).trans HT.out)))
   have hO2 : Hid ((w1.setCell ⟨w.heap.size, 7, none⟩ (.slice (some ⟨g', 0, none⟩) (k + 1) cap')).ownsRow (w.heap.size + 2) _ 8 _ (k + 1) _) := ownsRow_setCell_below hown' (by simp) _
   have hX2 : Hid (reps (fun b => P b ∧ b < w.heap.size) (w1.setCell ⟨w.heap.size, 7, none⟩ (.slice (some ⟨g', 0, none⟩) (k + 1) cap')) (Ex.css ((l.take (k + 1)).map Te.e)) (xs ++ [.int .i64 l[k].e.op, .string l[k].e.t, .int .i64 l[k].e.v.k, .bool l[k].e.v.b, .int .i64 l[k].e.v.i, .string l[k].e.v.s, .slice p6 l[k].e.v.l.length c6, .slice p7 l[k].e.a.length c7])) := by
    have e1 : (l.take (k + 1)).map Te.e = (l.take k).map Te.e ++ [l[k].e] := by rw [List.take_succ_eq_append_getElem hlt, List.map_append]; rfl
    rw [e1, css_snoc]
    refine reps.append (reps.move (Kp.two HB.out hB2.out (fun g hg => hg.2) (by simp at hs1; simp; omega)) (fun _ _ h => h) _ _ HX.out) (ex_reps ?_ ?_)
    ·exact rep.move (Kp.below hB2.out) (fun b hb h => ⟨h, hb⟩) _ _ h6
    ·exact rep.move (Kp.below hB2.out) (fun b hb h => ⟨h, hb⟩) _ _ h7
   have hdd : ((max (deepM (l.take k) : Int) ((l[k].d : Int) + 1))) = ((deepM (l.take (k + 1)) : Nat) : Int) := by
    rw [List.take_succ_eq_append_getElem hlt, deep_snoc]; omega
   rw [hdd]
   clear hdd
   go_roundw
   case rel => exact ⟨k + 1, _, _, by omega, by go_num, rfl, hB2, heap_put HE1.out _, hT2, hO2, hX2⟩
   case measure => simp [intOf]; omega
  ·obtain rfl : k = l.length := by omega
   rw [List.take_of_length_le (Nat.le_refl _)]
   rw [List.take_of_length_le (Nat.le_refl _)] at HX
   have hdl := deep_le l HD.out
   obtain ⟨p0, c0, rfl⟩ := own_form HO.out
   have HBar := fun w => Hid.intro (barAt_any a w)
   by_cases h30 : 30 < deepM l
   ·have h30' : (30 : Int) < (deepM l : Int) := by omega
    go_wp2_with (go_at_call 71; refine (HBar _).out.mono ?_; rintro e w2 ⟨rfl, hw2⟩; subst w2)
    exact ⟨rfl, HB.out, by first | rfl | rw [if_pos h30]⟩
   ·have h30' : ¬ ((30 : Int) < (deepM l : Int)) := by omega
    go_wp2_with (first | (with_reducible refine (id (?_ : wpList _ _ _ (Oper.mk _ (Op.load _ _) _ _ _ _ :: _) _ _)); refine wpList_load_cells rfl _ _ rfl _ rfl _ _ _ HE.out Tryz.underlying39 infoExpr rfl ?_) | (with_reducible refine (id (?_ : wpList _ _ _ (Oper.mk _ (Op.store _ _ _) _ _ _ _ :: _) _ _)); refine wpList_store_row rfl _ _ _ rfl _ _ rfl rfl _ _ HT.out infoTree rfl rfl (by simp [Value.oneCell']) ?_))
    refine ret_cells rfl rfl (setRow_heap _ _ _ _ _ _ HT.out) Tryz.underlying103 infoTree rfl rfl ⟨below_row HB.out (by omega) _, ?_⟩
    try rw [if_neg h30]
    refine ⟨_, rfl, none, 0, 0, p0, l.length, c0, rfl, ?_, ?_, by simp only; omega⟩
    ·exact rep.none
    ·have hr : rep (fun b => (P b ∧ b < w.heap.size) ∨ w.heap.size + 2 ≤ b) wr (.sl l.length (Ex.css (l.map Te.e))) (.slice p0 l.length c0) :=
      rep.own HO.out (reps.move Kp.refl (fun _ _ h => .inl h) _ _ HX) (fun g hg => .inr (HO.out.lt g hg).1)
     simp only [List.length_map]
     refine rep.move ⟨by simp, fun b hb hlt o => ?_⟩ (fun b _ h => by rcases h with h | h; exact .inl h.1; exact .inr (by omega)) _ _ hr
     exact World.cell?_of_block (a := ⟨b, o, none⟩) (setRow_other _ _ _ _ (by rcases hb with h | h <;> (simp only; omega)))
end
end Go.Proofs.YtoeodjobggodcaaGreatDoor
/- operator. -/
namespace Go.Proofs.YtoeodjobggodcaaGreatDoor
section
open Go.RowKit
theorem und_mapI : Tryz.prog.underlying 137 = some (.map 9 3) := by kernel_rfl
theorem check_strI (w : World) (b : Bool) (x : ByteArray) : (Instr.checkKey b 10000 9 (.string x)).run Tryz.prog w = .ok () w := by
 unfold Instr.checkKey
 simp [run_underlying Tryz.underlying9, Result.andThen]
theorem look_some (w : World) (r : Nat) (es : Array MapEntry) (clock : Nat) (hb : w.heap[r]? = some (.map es clock)) (x : ByteArray) (i : Nat) (v : Value) (h : Instr.findNow .string (.string x) es.toList 0 = some (some (i, v))) :
  (Instr.lookup 137 (.map (some r)) (.string x) true).run Tryz.prog w = .ok (.tuple #[v, .bool true]) w := by
 simp [Instr.lookup, run_underlying und_mapI, MapKept.run_getObj_map hb, check_strI, Instr.findKey, run_underlying Tryz.underlying9, h, Result.andThen]
theorem look_none (w : World) (r : Nat) (es : Array MapEntry) (clock : Nat) (hb : w.heap[r]? = some (.map es clock)) (x : ByteArray) (h : Instr.findNow .string (.string x) es.toList 0 = some none) :
  (Instr.lookup 137 (.map (some r)) (.string x) true).run Tryz.prog w = .ok (.tuple #[.int .i64 0, .bool false]) w := by
 simp [Instr.lookup, run_underlying und_mapI, MapKept.run_getObj_map hb, check_strI, Instr.findKey, run_underlying Tryz.underlying9, h, Result.andThen]
def opT : Option Int → Value
 | some op => .tuple #[.int .i64 op, .bool true]
 | none => .tuple #[.int .i64 0, .bool false]
set_option maxRecDepth 100000 in
set_option maxHeartbeats 2000000 in
theorem operator_any {K B o : Nat} {r : List Lx} {w : World} (h : PAt K w B r o) (n : Nat) (hn : n < 5) :
  Calls Tryz.prog 137 #[.pointer (some ⟨B, 0, none⟩), .int .i64 (n : Int)] w fun e w' => e = .returned (opT (opM n r)) ∧ Below w.heap.size w w' := by
 have HK := Hid.intro (isKind_any h 4)
 obtain ⟨x, r', rfl, -⟩ := gd_cons h.gd
 cases hk : (x.k == 4) with
 | false =>
  have hm : opM n (x :: r') = none := by simp [opM, hk]
  have hi : isK 4 (x :: r') = false := hk
  rw [hm]
  rw [hi] at HK
  clear hk hm hi h
  go_enter Tryz.func137, Tryz.ntmps137
  go_wp2_with (go_at_call 34; refine HK.out.mono ?_; rintro e w1 ⟨rfl, hw1⟩; subst w1)
  go_ret2
  exact ⟨rfl, Below.refl _ _⟩
 | true =>
  have hi : isK 4 (x :: r') = true := hk
  have hm : opM n (x :: r') = findO x.t (opsL.getD n []) := by simp [opM, hk]
  rw [hm]
  rw [hi] at HK
  clear hk hm hi
  obtain ⟨g, off, cap, lv, ⟨c0, -, c2⟩, -, h1, h2, -, h4, h5, h6, -, ⟨⟨-, g1, -, -⟩, -⟩, ⟨l, rfl, hlB, hlK, hlv, -⟩, -⟩ := h
  rw [List.length_cons] at c0 h1
  obtain ⟨m, hm, hmK, -, es, ck, hmh, hmf⟩ := hlv n hn
  have hB : B < w.heap.size := by omega
  have hg : g < w.heap.size := by omega
  have hl : l < w.heap.size := by omega
  have hmh' := hmh
  have hmf := hmf x.t
  have hn5 : (n : Int) < 5 := by omega
  have hn0 : (0 : Int) ≤ (n : Int) := by omega
  cases hf : findO x.t (opsL.getD n []) with
  | none =>
   rw [hf] at hmf
   have hlk := fun W (hW : W.heap[m]? = some (.map es ck)) => look_none W m es ck hW x.t hmf
   have hlk1 := hlk w hmh
   have hlk2 := fun k => hlk (w.drewN k) hmh
   clear hlk hf hmf
   go_enter Tryz.func137, Tryz.ntmps137
   go_wp2_with (go_at_call 34; refine HK.out.mono ?_; rintro e w1 ⟨rfl, hw1⟩; subst w1)
   go_quiet (fail)
   go_wp2
   go_ret2
   exact ⟨rfl, rfl, rfl, rfl, Nat.le_refl _, fun _ _ => rfl⟩
  | some op =>
   rw [hf] at hmf
   obtain ⟨j, hj⟩ := hmf
   have hlk := fun W (hW : W.heap[m]? = some (.map es ck)) => look_some W m es ck hW x.t j _ hj
   have hlk1 := hlk w hmh
   have hlk2 := fun k => hlk (w.drewN k) hmh
   clear hlk hf hj
   go_enter Tryz.func137, Tryz.ntmps137
   go_wp2_with (go_at_call 34; refine HK.out.mono ?_; rintro e w1 ⟨rfl, hw1⟩; subst w1)
   go_quiet (fail)
   go_wp2
   go_ret2
   exact ⟨rfl, rfl, rfl, rfl, Nat.le_refl _, fun _ _ => rfl⟩
end
end Go.Proofs.YtoeodjobggodcaaGreatDoor
/- levels: the maps of operators. -/
namespace Go.Proofs.YtoeodjobggodcaaGreatDoor
section
open Go.RowKit
theorem set_newM {α : Type} (a : Array α) (x y : α) : (a.push x).setIfInBounds a.size y = a.push y := by
 apply Array.ext
 ·simp
 ·intro i h1 h2
  simp only [Array.size_setIfInBounds, Array.size_push] at h1
  by_cases h : i = a.size
  ·subst h; simp
  ·have : i < a.size := by omega
   rw [Array.getElem_setIfInBounds_ne (by simp; omega) (Ne.symm h)]; simp [Array.getElem_push, this]
theorem put_strI (w : World) (es : Array MapEntry) (clock : Nat) (x : ByteArray) (v : Value) (h : Instr.findNow .string (.string x) es.toList 0 = some none) (b : Nat) (hb : b = w.heap.size) :
  (Instr.mapUpdate 137 (.map (some b)) (.string x) v).run Tryz.prog (w.alloc (.map es clock)) = .ok () (w.alloc (.map (es.push { key := .string x, val := v, born := clock }) (clock + 1))) := by
 subst hb
 have hb : (w.alloc (.map es clock)).heap[w.heap.size]? = some (.map es clock) := heap_alloc_new w _
 simp [Instr.mapUpdate, run_underlying und_mapI, MapKept.run_getObj_map hb, check_strI, Instr.findKey, run_underlying Tryz.underlying9, h, MapKept.run_setObj_map _ hb, Result.andThen]
 exact congrArg (fun hh => ({ heap := hh, tape := w.tape, drawn := w.drawn, os := w.os, output := w.output } : World)) (set_newM w.heap _ _)
theorem make_mapI (w : World) : (Instr.makeMap 137 none).run Tryz.prog w = .ok (.map (some w.heap.size)) (w.alloc (.map #[] 0)) := by
 simp [Instr.makeMap, Result.andThen]
def lvW (w : World) : World := (((((w.alloc (.map #[⟨.string ⟨#[124, 124]⟩, .int .i64 9, 0⟩] 1)).alloc (.map #[⟨.string ⟨#[38, 38]⟩, .int .i64 8, 0⟩] 1)).alloc (.map #[⟨.string ⟨#[61, 61]⟩, .int .i64 10, 0⟩, ⟨.string ⟨#[33, 61]⟩, .int .i64 11, 1⟩, ⟨.string ⟨#[60]⟩, .int .i64 12, 2⟩, ⟨.string ⟨#[60, 61]⟩, .int .i64 13, 3⟩, ⟨.string ⟨#[62]⟩, .int .i64 14, 4⟩, ⟨.string ⟨#[62, 61]⟩, .int .i64 15, 5⟩] 6)).alloc (.map #[⟨.string ⟨#[43]⟩, .int .i64 16, 0⟩, ⟨.string ⟨#[45]⟩, .int .i64 17, 1⟩] 2)).alloc (.map #[⟨.string ⟨#[42]⟩, .int .i64 18, 0⟩, ⟨.string ⟨#[47]⟩, .int .i64 19, 1⟩, ⟨.string ⟨#[37]⟩, .int .i64 20, 2⟩] 3)).alloc (.cells #[.map (some (w.heap.size)), .map (some (w.heap.size + 1)), .map (some (w.heap.size + 1 + 1)), .map (some (w.heap.size + 1 + 1 + 1)), .map (some (w.heap.size + 1 + 1 + 1 + 1))] 137)
set_option maxRecDepth 100000 in
set_option maxHeartbeats 4000000 in
theorem levels_any (w : World) : Calls Tryz.prog 55 #[] w fun e w' => e = .returned (.slice (some ⟨w.heap.size + 1 + 1 + 1 + 1 + 1, 0, none⟩) 5 5) ∧ w' = lvW w := by
 unfold lvW
 have m0 : (Instr.makeMap 137 none).run Tryz.prog w = .ok (.map (some (w.heap.size))) (w.alloc (.map #[] 0)) := make_mapI _
 have p0_0 : (Instr.mapUpdate 137 (.map (some (w.heap.size))) (.string ⟨#[124, 124]⟩) (.int .i64 9)).run Tryz.prog (w.alloc (.map #[] 0)) = .ok () (w.alloc (.map #[⟨.string ⟨#[124, 124]⟩, .int .i64 9, 0⟩] 1)) := put_strI _ _ _ _ _ (by kernel_rfl) _ (by simp)
 have m1 : (Instr.makeMap 137 none).run Tryz.prog (w.alloc (.map #[⟨.string ⟨#[124, 124]⟩, .int .i64 9, 0⟩] 1)) = .ok (.map (some (w.heap.size + 1))) ((w.alloc (.map #[⟨.string ⟨#[124, 124]⟩, .int .i64 9, 0⟩] 1)).alloc (.map #[] 0)) := by rw [make_mapI]; simp only [World.size_alloc]
 have p1_0 : (Instr.mapUpdate 137 (.map (some (w.heap.size + 1))) (.string ⟨#[38, 38]⟩) (.int .i64 8)).run Tryz.prog ((w.alloc (.map #[⟨.string ⟨#[124, 124]⟩, .int .i64 9, 0⟩] 1)).alloc (.map #[] 0)) = .ok () ((w.alloc (.map #[⟨.string ⟨#[124, 124]⟩, .int .i64 9, 0⟩] 1)).alloc (.map #[⟨.string ⟨#[38, 38]⟩, .int .i64 8, 0⟩] 1)) := put_strI _ _ _ _ _ (by kernel_rfl) _ (by simp)
 have m2 : (Instr.makeMap 137 none).run Tryz.prog ((w.alloc (.map #[⟨.string ⟨#[124, 124]⟩, .int .i64 9, 0⟩] 1)).alloc (.map #[⟨.string ⟨#[38, 38]⟩, .int .i64 8, 0⟩] 1)) = .ok (.map (some (w.heap.size + 1 + 1))) (((w.alloc (.map #[⟨.string ⟨#[124, 124]⟩, .int .i64 9, 0⟩] 1)).alloc (.map #[⟨.string ⟨#[38, 38]⟩, .int .i64 8, 0⟩] 1)).alloc (.map #[] 0)) := by rw [make_mapI]; simp only [World.size_alloc]
 have p2_0 : (Instr.mapUpdate 137 (.map (some (w.heap.size + 1 + 1))) (.string ⟨#[61, 61]⟩) (.int .i64 10)).run Tryz.prog (((w.alloc (.map #[⟨.string ⟨#[124, 124]⟩, .int .i64 9, 0⟩] 1)).alloc (.map #[⟨.string ⟨#[38, 38]⟩, .int .i64 8, 0⟩] 1)).alloc (.map #[] 0)) = .ok () (((w.alloc (.map #[⟨.string ⟨#[124, 124]⟩, .int .i64 9, 0⟩] 1)).alloc (.map #[⟨.string ⟨#[38, 38]⟩, .int .i64 8, 0⟩] 1)).alloc (.map #[⟨.string ⟨#[61, 61]⟩, .int .i64 10, 0⟩] 1)) := put_strI _ _ _ _ _ (by kernel_rfl) _ (by simp)
 have p2_1 : (Instr.mapUpdate 137 (.map (some (w.heap.size + 1 + 1))) (.string ⟨#[33, 61]⟩) (.int .i64 11)).run Tryz.prog (((w.alloc (.map #[⟨.string ⟨#[124, 124]⟩, .int .i64 9, 0⟩] 1)).alloc (.map #[⟨.string ⟨#[38, 38]⟩, .int .i64 8, 0⟩] 1)).alloc (.map #[⟨.string ⟨#[61, 61]⟩, .int .i64 10, 0⟩] 1)) = .ok () (((w.alloc (.map #[⟨.string ⟨#[124, 124]⟩, .int .i64 9, 0⟩] 1)).alloc (.map #[⟨.string ⟨#[38, 38]⟩, .int .i64 8, 0⟩] 1)).alloc (.map #[⟨.string ⟨#[61, 61]⟩, .int .i64 10, 0⟩, ⟨.string ⟨#[33, 61]⟩, .int .i64 11, 1⟩] 2)) := put_strI _ _ _ _ _ (by kernel_rfl) _ (by simp)
 have p2_2 : (Instr.mapUpdate 137 (.map (some (w.heap.size + 1 + 1))) (.string ⟨#[60]⟩) (.int .i64 12)).run Tryz.prog (((w.alloc (.map #[⟨.string ⟨#[124, 124]⟩, .int .i64 9, 0⟩] 1)).alloc (.map #[⟨.string ⟨#[38, 38]⟩, .int .i64 8, 0⟩] 1)).alloc (.map #[⟨.string ⟨#[61, 61]⟩, .int .i64 10, 0⟩, ⟨.string ⟨#[33, 61]⟩, .int .i64 11, 1⟩] 2)) = .ok () (((w.alloc (.map #[⟨.string ⟨#[124, 124]⟩, .int .i64 9, 0⟩] 1)).alloc (.map #[⟨.string ⟨#[38, 38]⟩, .int .i64 8, 0⟩] 1)).alloc (.map #[⟨.string ⟨#[61, 61]⟩, .int .i64 10, 0⟩, ⟨.string ⟨#[33, 61]⟩, .int .i64 11, 1⟩, ⟨.string ⟨#[60]⟩, .int .i64 12, 2⟩] 3)) := put_strI _ _ _ _ _ (by kernel_rfl) _ (by simp)
 have p2_3 : (Instr.mapUpdate 137 (.map (some (w.heap.size + 1 + 1))) (.string ⟨#[60, 61]⟩) (.int .i64 13)).run Tryz.prog (((w.alloc (.map #[⟨.string ⟨#[124, 124]⟩, .int .i64 9, 0⟩] 1)).alloc (.map #[⟨.string ⟨#[38, 38]⟩, .int .i64 8, 0⟩] 1)).alloc (.map #[⟨.string ⟨#[61, 61]⟩, .int .i64 10, 0⟩, ⟨.string ⟨#[33, 61]⟩, .int .i64 11, 1⟩, ⟨.string ⟨#[60]⟩, .int .i64 12, 2⟩] 3)) = .ok () (((w.alloc (.map #[⟨.string ⟨#[124, 124]⟩, .int .i64 9, 0⟩] 1)).alloc (.map #[⟨.string ⟨#[38, 38]⟩, .int .i64 8, 0⟩] 1)).alloc (.map #[⟨.string ⟨#[61, 61]⟩, .int .i64 10, 0⟩, ⟨.string ⟨#[33, 61]⟩, .int .i64 11, 1⟩, ⟨.string ⟨#[60]⟩, .int .i64 12, 2⟩, ⟨.string ⟨#[60, 61]⟩, .int .i64 13, 3⟩] 4)) := put_strI _ _ _ _ _ (by kernel_rfl) _ (by simp)
 have p2_4 : (Instr.mapUpdate 137 (.map (some (w.heap.size + 1 + 1))) (.string ⟨#[62]⟩) (.int .i64 14)).run Tryz.prog (((w.alloc (.map #[⟨.string ⟨#[124, 124]⟩, .int .i64 9, 0⟩] 1)).alloc (.map #[⟨.string ⟨#[38, 38]⟩, .int .i64 8, 0⟩] 1)).alloc (.map #[⟨.string ⟨#[61, 61]⟩, .int .i64 10, 0⟩, ⟨.string ⟨#[33, 61]⟩, .int .i64 11, 1⟩, ⟨.string ⟨#[60]⟩, .int .i64 12, 2⟩, ⟨.string ⟨#[60, 61]⟩, .int .i64 13, 3⟩] 4)) = .ok () (((w.alloc (.map #[⟨.string ⟨#[124, 124]⟩, .int .i64 9, 0⟩] 1)).alloc (.map #[⟨.string ⟨#[38, 38]⟩, .int .i64 8, 0⟩] 1)).alloc (.map #[⟨.string ⟨#[61, 61]⟩, .int .i64 10, 0⟩, ⟨.string ⟨#[33, 61]⟩, .int .i64 11, 1⟩, ⟨.string ⟨#[60]⟩, .int .i64 12, 2⟩, ⟨.string ⟨#[60, 61]⟩, .int .i64 13, 3⟩, ⟨.string ⟨#[62]⟩, .int .i64 14, 4⟩] 5)) := put_strI _ _ _ _ _ (by kernel_rfl) _ (by simp)
 have p2_5 : (Instr.mapUpdate 137 (.map (some (w.heap.size + 1 + 1))) (.string ⟨#[62, 61]⟩) (.int .i64 15)).run Tryz.prog (((w.alloc (.map #[⟨.string ⟨#[124, 124]⟩, .int .i64 9, 0⟩] 1)).alloc (.map #[⟨.string ⟨#[38, 38]⟩, .int .i64 8, 0⟩] 1)).alloc (.map #[⟨.string ⟨#[61, 61]⟩, .int .i64 10, 0⟩, ⟨.string ⟨#[33, 61]⟩, .int .i64 11, 1⟩, ⟨.string ⟨#[60]⟩, .int .i64 12, 2⟩, ⟨.string ⟨#[60, 61]⟩, .int .i64 13, 3⟩, ⟨.string ⟨#[62]⟩, .int .i64 14, 4⟩] 5)) = .ok () (((w.alloc (.map #[⟨.string ⟨#[124, 124]⟩, .int .i64 9, 0⟩] 1)).alloc (.map #[⟨.string ⟨#[38, 38]⟩, .int .i64 8, 0⟩] 1)).alloc (.map #[⟨.string ⟨#[61, 61]⟩, .int .i64 10, 0⟩, ⟨.string ⟨#[33, 61]⟩, .int .i64 11, 1⟩, ⟨.string ⟨#[60]⟩, .int .i64 12, 2⟩, ⟨.string ⟨#[60, 61]⟩, .int .i64 13, 3⟩, ⟨.string ⟨#[62]⟩, .int .i64 14, 4⟩, ⟨.string ⟨#[62, 61]⟩, .int .i64 15, 5⟩] 6)) := put_strI _ _ _ _ _ (by kernel_rfl) _ (by simp)
 have m3 : (Instr.makeMap 137 none).run Tryz.prog (((w.alloc (.map #[⟨.string ⟨#[124, 124]⟩, .int .i64 9, 0⟩] 1)).alloc (.map #[⟨.string ⟨#[38, 38]⟩, .int .i64 8, 0⟩] 1)).alloc (.map #[⟨.string ⟨#[61, 61]⟩, .int .i64 10, 0⟩, ⟨.string ⟨#[33, 61]⟩, .int .i64 11, 1⟩, ⟨.string ⟨#[60]⟩, .int .i64 12, 2⟩, ⟨.string ⟨#[60, 61]⟩, .int .i64 13, 3⟩, ⟨.string ⟨#[62]⟩, .int .i64 14, 4⟩, ⟨.string ⟨#[62, 61]⟩, .int .i64 15, 5⟩] 6)) = .ok (.map (some (w.heap.size + 1 + 1 + 1))) ((((w.alloc (.map #[⟨.string ⟨#[124, 124]⟩, .int .i64 9, 0⟩] 1)).alloc (.map #[⟨.string ⟨#[38, 38]⟩, .int .i64 8, 0⟩] 1)).alloc (.map #[⟨.string ⟨#[61, 61]⟩, .int .i64 10, 0⟩, ⟨.string ⟨#[33, 61]⟩, .int .i64 11, 1⟩, ⟨.string ⟨#[60]⟩, .int .i64 12, 2⟩, ⟨.string ⟨#[60, 61]⟩, .int .i64 13, 3⟩, ⟨.string ⟨#[62]⟩, .int .i64 14, 4⟩, ⟨.string ⟨#[62, 61]⟩, .int .i64 15, 5⟩] 6)).alloc (.map #[] 0)) := by rw [make_mapI]; simp only [World.size_alloc]
 have p3_0 : (Instr.mapUpdate 137 (.map (some (w.heap.size + 1 + 1 + 1))) (.string ⟨#[43]⟩) (.int .i64 16)).run Tryz.prog ((((w.alloc (.map #[⟨.string ⟨#[124, 124]⟩, .int .i64 9, 0⟩] 1)).alloc (.map #[⟨.string ⟨#[38, 38]⟩, .int .i64 8, 0⟩] 1)).alloc (.map #[⟨.string ⟨#[61, 61]⟩, .int .i64 10, 0⟩, ⟨.string ⟨#[33, 61]⟩, .int .i64 11, 1⟩, ⟨.string ⟨#[60]⟩, .int .i64 12, 2⟩, ⟨.string ⟨#[60, 61]⟩, .int .i64 13, 3⟩, ⟨.string ⟨#[62]⟩, .int .i64 14, 4⟩, ⟨.string ⟨#[62, 61]⟩, .int .i64 15, 5⟩] 6)).alloc (.map #[] 0)) = .ok () ((((w.alloc (.map #[⟨.string ⟨#[124, 124]⟩, .int .i64 9, 0⟩] 1)).alloc (.map #[⟨.string ⟨#[38, 38]⟩, .int .i64 8, 0⟩] 1)).alloc (.map #[⟨.string ⟨#[61, 61]⟩, .int .i64 10, 0⟩, ⟨.string ⟨#[33, 61]⟩, .int .i64 11, 1⟩, ⟨.string ⟨#[60]⟩, .int .i64 12, 2⟩, ⟨.string ⟨#[60, 61]⟩, .int .i64 13, 3⟩, ⟨.string ⟨#[62]⟩, .int .i64 14, 4⟩, ⟨.string ⟨#[62, 61]⟩, .int .i64 15, 5⟩] 6)).alloc (.map #[⟨.string ⟨#[43]⟩, .int .i64 16, 0⟩] 1)) := put_strI _ _ _ _ _ (by kernel_rfl) _ (by simp)
 have p3_1 : (Instr.mapUpdate 137 (.map (some (w.heap.size + 1 + 1 + 1))) (.string ⟨#[45]⟩) (.int .i64 17)).run Tryz.prog ((((w.alloc (.map #[⟨.string ⟨#[124, 124]⟩, .int .i64 9, 0⟩] 1)).alloc (.map #[⟨.string ⟨#[38, 38]⟩, .int .i64 8, 0⟩] 1)).alloc (.map #[⟨.string ⟨#[61, 61]⟩, .int .i64 10, 0⟩, ⟨.string ⟨#[33, 61]⟩, .int .i64 11, 1⟩, ⟨.string ⟨#[60]⟩, .int .i64 12, 2⟩, ⟨.string ⟨#[60, 61]⟩, .int .i64 13, 3⟩, ⟨.string ⟨#[62]⟩, .int .i64 14, 4⟩, ⟨.string ⟨#[62, 61]⟩, .int .i64 15, 5⟩] 6)).alloc (.map #[⟨.string ⟨#[43]⟩, .int .i64 16, 0⟩] 1)) = .ok () ((((w.alloc (.map #[⟨.string ⟨#[124, 124]⟩, .int .i64 9, 0⟩] 1)).alloc (.map #[⟨.string ⟨#[38, 38]⟩, .int .i64 8, 0⟩] 1)).alloc (.map #[⟨.string ⟨#[61, 61]⟩, .int .i64 10, 0⟩, ⟨.string ⟨#[33, 61]⟩, .int .i64 11, 1⟩, ⟨.string ⟨#[60]⟩, .int .i64 12, 2⟩, ⟨.string ⟨#[60, 61]⟩, .int .i64 13, 3⟩, ⟨.string ⟨#[62]⟩, .int .i64 14, 4⟩, ⟨.string ⟨#[62, 61]⟩, .int .i64 15, 5⟩] 6)).alloc (.map #[⟨.string ⟨#[43]⟩, .int .i64 16, 0⟩, ⟨.string ⟨#[45]⟩, .int .i64 17, 1⟩] 2)) := put_strI _ _ _ _ _ (by kernel_rfl) _ (by simp)
 have m4 : (Instr.makeMap 137 none).run Tryz.prog ((((w.alloc (.map #[⟨.string ⟨#[124, 124]⟩, .int .i64 9, 0⟩] 1)).alloc (.map #[⟨.string ⟨#[38, 38]⟩, .int .i64 8, 0⟩] 1)).alloc (.map #[⟨.string ⟨#[61, 61]⟩, .int .i64 10, 0⟩, ⟨.string ⟨#[33, 61]⟩, .int .i64 11, 1⟩, ⟨.string ⟨#[60]⟩, .int .i64 12, 2⟩, ⟨.string ⟨#[60, 61]⟩, .int .i64 13, 3⟩, ⟨.string ⟨#[62]⟩, .int .i64 14, 4⟩, ⟨.string ⟨#[62, 61]⟩, .int .i64 15, 5⟩] 6)).alloc (.map #[⟨.string ⟨#[43]⟩, .int .i64 16, 0⟩, ⟨.string ⟨#[45]⟩, .int .i64 17, 1⟩] 2)) = .ok (.map (some (w.heap.size + 1 + 1 + 1 + 1))) (((((w.alloc (.map #[⟨.string ⟨#[124, 124]⟩, .int .i64 9, 0⟩] 1)).alloc (.map #[⟨.string ⟨#[38, 38]⟩, .int .i64 8, 0⟩] 1)).alloc (.map #[⟨.string ⟨#[61, 61]⟩, .int .i64 10, 0⟩, ⟨.string ⟨#[33, 61]⟩, .int .i64 11, 1⟩, ⟨.string ⟨#[60]⟩, .int .i64 12, 2⟩, ⟨.string ⟨#[60, 61]⟩, .int .i64 13, 3⟩, ⟨.string ⟨#[62]⟩, .int .i64 14, 4⟩, ⟨.string ⟨#[62, 61]⟩, .int .i64 15, 5⟩] 6)).alloc (.map #[⟨.string ⟨#[43]⟩, .int .i64 16, 0⟩, ⟨.string ⟨#[45]⟩, .int .i64 17, 1⟩] 2)).alloc (.map #[] 0)) := by rw [make_mapI]; simp only [World.size_alloc]
 have p4_0 : (Instr.mapUpdate 137 (.map (some (w.heap.size + 1 + 1 + 1 + 1))) (.string ⟨#[42]⟩) (.int .i64 18)).run Tryz.prog (((((w.alloc (.map #[⟨.string ⟨#[124, 124]⟩, .int .i64 9, 0⟩] 1)).alloc (.map #[⟨.string ⟨#[38, 38]⟩, .int .i64 8, 0⟩] 1)).alloc (.map #[⟨.string ⟨#[61, 61]⟩, .int .i64 10, 0⟩, ⟨.string ⟨#[33, 61]⟩, .int .i64 11, 1⟩, ⟨.string ⟨#[60]⟩, .int .i64 12, 2⟩, ⟨.string ⟨#[60, 61]⟩, .int .i64 13, 3⟩, ⟨.string ⟨#[62]⟩, .int .i64 14, 4⟩, ⟨.string ⟨#[62, 61]⟩, .int .i64 15, 5⟩] 6)).alloc (.map #[⟨.string ⟨#[43]⟩, .int .i64 16, 0⟩, ⟨.string ⟨#[45]⟩, .int .i64 17, 1⟩] 2)).alloc (.map #[] 0)) = .ok () (((((w.alloc (.map #[⟨.string ⟨#[124, 124]⟩, .int .i64 9, 0⟩] 1)).alloc (.map #[⟨.string ⟨#[38, 38]⟩, .int .i64 8, 0⟩] 1)).alloc (.map #[⟨.string ⟨#[61, 61]⟩, .int .i64 10, 0⟩, ⟨.string ⟨#[33, 61]⟩, .int .i64 11, 1⟩, ⟨.string ⟨#[60]⟩, .int .i64 12, 2⟩, ⟨.string ⟨#[60, 61]⟩, .int .i64 13, 3⟩, ⟨.string ⟨#[62]⟩, .int .i64 14, 4⟩, ⟨.string ⟨#[62, 61]⟩, .int .i64 15, 5⟩] 6)).alloc (.map #[⟨.string ⟨#[43]⟩, .int .i64 16, 0⟩, ⟨.string ⟨#[45]⟩, .int .i64 17, 1⟩] 2)).alloc (.map #[⟨.string ⟨#[42]⟩, .int .i64 18, 0⟩] 1)) := put_strI _ _ _ _ _ (by kernel_rfl) _ (by simp)
 have p4_1 : (Instr.mapUpdate 137 (.map (some (w.heap.size + 1 + 1 + 1 + 1))) (.string ⟨#[47]⟩) (.int .i64 19)).run Tryz.prog (((((w.alloc (.map #[⟨.string ⟨#[124, 124]⟩, .int .i64 9, 0⟩] 1)).alloc (.map #[⟨.string ⟨#[38, 38]⟩, .int .i64 8, 0⟩] 1)).alloc (.map #[⟨.string ⟨#[61, 61]⟩, .int .i64 10, 0⟩, ⟨.string ⟨#[33, 61]⟩, .int .i64 11, 1⟩, ⟨.string ⟨#[60]⟩, .int .i64 12, 2⟩, ⟨.string ⟨#[60, 61]⟩, .int .i64 13, 3⟩, ⟨.string ⟨#[62]⟩, .int .i64 14, 4⟩, ⟨.string ⟨#[62, 61]⟩, .int .i64 15, 5⟩] 6)).alloc (.map #[⟨.string ⟨#[43]⟩, .int .i64 16, 0⟩, ⟨.string ⟨#[45]⟩, .int .i64 17, 1⟩] 2)).alloc (.map #[⟨.string ⟨#[42]⟩, .int .i64 18, 0⟩] 1)) = .ok () (((((w.alloc (.map #[⟨.string ⟨#[124, 124]⟩, .int .i64 9, 0⟩] 1)).alloc (.map #[⟨.string ⟨#[38, 38]⟩, .int .i64 8, 0⟩] 1)).alloc (.map #[⟨.string ⟨#[61, 61]⟩, .int .i64 10, 0⟩, ⟨.string ⟨#[33, 61]⟩, .int .i64 11, 1⟩, ⟨.string ⟨#[60]⟩, .int .i64 12, 2⟩, ⟨.string ⟨#[60, 61]⟩, .int .i64 13, 3⟩, ⟨.string ⟨#[62]⟩, .int .i64 14, 4⟩, ⟨.string ⟨#[62, 61]⟩, .int .i64 15, 5⟩] 6)).alloc (.map #[⟨.string ⟨#[43]⟩, .int .i64 16, 0⟩, ⟨.string ⟨#[45]⟩, .int .i64 17, 1⟩] 2)).alloc (.map #[⟨.string ⟨#[42]⟩, .int .i64 18, 0⟩, ⟨.string ⟨#[47]⟩, .int .i64 19, 1⟩] 2)) := put_strI _ _ _ _ _ (by kernel_rfl) _ (by simp)
 have p4_2 : (Instr.mapUpdate 137 (.map (some (w.heap.size + 1 + 1 + 1 + 1))) (.string ⟨#[37]⟩) (.int .i64 20)).run Tryz.prog (((((w.alloc (.map #[⟨.string ⟨#[124, 124]⟩, .int .i64 9, 0⟩] 1)).alloc (.map #[⟨.string ⟨#[38, 38]⟩, .int .i64 8, 0⟩] 1)).alloc (.map #[⟨.string ⟨#[61, 61]⟩, .int .i64 10, 0⟩, ⟨.string ⟨#[33, 61]⟩, .int .i64 11, 1⟩, ⟨.string ⟨#[60]⟩, .int .i64 12, 2⟩, ⟨.string ⟨#[60, 61]⟩, .int .i64 13, 3⟩, ⟨.string ⟨#[62]⟩, .int .i64 14, 4⟩, ⟨.string ⟨#[62, 61]⟩, .int .i64 15, 5⟩] 6)).alloc (.map #[⟨.string ⟨#[43]⟩, .int .i64 16, 0⟩, ⟨.string ⟨#[45]⟩, .int .i64 17, 1⟩] 2)).alloc (.map #[⟨.string ⟨#[42]⟩, .int .i64 18, 0⟩, ⟨.string ⟨#[47]⟩, .int .i64 19, 1⟩] 2)) = .ok () (((((w.alloc (.map #[⟨.string ⟨#[124, 124]⟩, .int .i64 9, 0⟩] 1)).alloc (.map #[⟨.string ⟨#[38, 38]⟩, .int .i64 8, 0⟩] 1)).alloc (.map #[⟨.string ⟨#[61, 61]⟩, .int .i64 10, 0⟩, ⟨.string ⟨#[33, 61]⟩, .int .i64 11, 1⟩, ⟨.string ⟨#[60]⟩, .int .i64 12, 2⟩, ⟨.string ⟨#[60, 61]⟩, .int .i64 13, 3⟩, ⟨.string ⟨#[62]⟩, .int .i64 14, 4⟩, ⟨.string ⟨#[62, 61]⟩, .int .i64 15, 5⟩] 6)).alloc (.map #[⟨.string ⟨#[43]⟩, .int .i64 16, 0⟩, ⟨.string ⟨#[45]⟩, .int .i64 17, 1⟩] 2)).alloc (.map #[⟨.string ⟨#[42]⟩, .int .i64 18, 0⟩, ⟨.string ⟨#[47]⟩, .int .i64 19, 1⟩, ⟨.string ⟨#[37]⟩, .int .i64 20, 2⟩] 3)) := put_strI _ _ _ _ _ (by kernel_rfl) _ (by simp)
 go_enter Tryz.func55, Tryz.ntmps55
 go_wp2
 go_ret
 exact ⟨rfl, rfl⟩
end
end Go.Proofs.YtoeodjobggodcaaGreatDoor
