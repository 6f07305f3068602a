import Derived.Test.YtoeodjobggodcaaGreatDoorJoin04
/- atom. -/
namespace Go.Proofs.YtoeodjobggodcaaGreatDoor
section
open Go.RowKit
theorem lit_tev (P : Nat → Prop) (w : World) (v : Vt) (hl : v.l = []) : TeV P w ⟨{ op := 1, v := v }, 1⟩ (.agg #[.int .i64 1, .string ⟨#[]⟩, .int .i64 v.k, .bool v.b, .int .i64 v.i, .string v.s, .slice none 0 0, .slice none 0 0, .int .i64 1]) := by
 refine ⟨none, 0, 0, none, 0, 0, rfl, ?_, rep.none, by simp⟩
 rw [hl]
 simpa [Vt.css] using (rep.none (P := P) (w := w))
theorem leaf_tev (P : Nat → Prop) (w : World) (op : Int) (s : ByteArray) : TeV P w ⟨{ op := op, t := s }, 1⟩ (.agg #[.int .i64 op, .string s, .int .i64 0, .bool false, .int .i64 0, .string ⟨#[]⟩, .slice none 0 0, .slice none 0 0, .int .i64 1]) :=
 ⟨none, 0, 0, none, 0, 0, rfl, rep.none, rep.none, by simp⟩
theorem isM_k {s : ByteArray} {x : Lx} {r : List Lx} (h : isM s (x :: r) = true) : x.k ≠ -1 := by intro e; simp [isM, spl, e] at h
set_option maxRecDepth 100000 in
set_option maxHeartbeats 2000000 in
theorem atom_0 {K B o : Nat} {r : List Lx} {w : World} (h : PAt K w B r o)  (h0 : isK 2 r = true) :
  Calls Tryz.prog 174 #[.pointer (some ⟨B, 0, none⟩)] w (Post K B o (r.length - 1) w ((numM 9223372036854775807 r).bd fun n r => litM { k := 2, i := n } r) fun w' t v => TeV (fun b => w.heap.size ≤ b) w' t v) := by
 have hne : 0 < r.length := by obtain ⟨x, r', rfl, -⟩ := gd_cons h.gd; simp
 have C0 := fun w (h : PAt K w B r o) => Hid.intro (isKind_any h 2)
 rw [h0] at C0
 have hsz := h.size
 have hR0 : (w.alloc z9).heap[w.heap.size]? = some z9 := heap_alloc_new w _
 have b0 : Below w.heap.size w (w.alloc z9) := below_al (Below.refl _ _) _
 unfold z9 at hR0 b0
 have HN := fun w (h : PAt K w B r o) => Hid.intro (number_any h 9223372036854775807 (Nat.le_refl _))
 clear h0
 cases hm : numM 9223372036854775807 r with
 | bad q =>
  rw [hm] at HN
  rw [bd_bad]
  clear hm
  go_enter Tryz.func174, Tryz.ntmps174
  go_wp2_with fail
  refine (C0 _ (h.via b0)).out.mono ?_
  rintro e w1 ⟨rfl, hw1⟩
  subst w1
  go_wp2_with fail
  refine (HN _ (h.via b0)).out.mono ?_
  rintro e v1 ⟨ht1, rfl⟩
  exact ⟨rfl, (Bt.below b0).trans ht1, rfl⟩
 | ok n r1 =>
  rw [hm] at HN
  rw [bd_ok]
  clear hm
  have HL := fun w => Hid.intro (literal_any 2 false (n : Int) ⟨#[]⟩ w)
  go_enter Tryz.func174, Tryz.ntmps174
  go_wp2_with fail
  refine (C0 _ (h.via b0)).out.mono ?_
  rintro e w1 ⟨rfl, hw1⟩
  subst w1
  go_wp2_with fail
  refine (HN _ (h.via b0)).out.mono ?_
  rintro e v1 ⟨ht1, hl1, hp1, v, rfl, rfl⟩
  go_wp2_with fail
  refine (HL _).out.mono ?_
  rintro e v2 ⟨rfl, hb2⟩
  have hbt := ((Bt.below (B := B) b0).trans ht1).trans (Bt.below hb2)
  have HR := Hid.intro (row_bt ((Bt.refl B _).trans (ht1.trans (Bt.below hb2))) (by omega) hR0)
  go_wp2_with (with_reducible refine (id (?_ : wpList _ _ _ (Oper.mk _ (Op.store _ _ _) _ _ _ _ :: _) _ _)); refine wpList_store_row rfl _ _ _ rfl _ _ rfl rfl _ _ HR.out infoTree rfl rfl (by simp [Value.oneCell']) ?_)
  refine ret_cells rfl rfl (setRow_heap _ _ _ _ _ _ HR.out) Tryz.underlying103 infoTree rfl rfl (Post.ok ((hbt).row (Nat.le_refl _) _) (by omega) (((hp1.via hb2)).row hsz.1 _) ?_)
  exact (lit_tev (fun b => w.heap.size + 1 ≤ b) v2 { k := 2, i := n } rfl).res (n := w.heap.size + 1) (by omega) _
set_option maxRecDepth 100000 in
set_option maxHeartbeats 2000000 in
theorem atom_1 {K B o : Nat} {r : List Lx} {w : World} (h : PAt K w B r o) (h0 : isK 2 r = false) (h1 : isK 3 r = true) :
  Calls Tryz.prog 174 #[.pointer (some ⟨B, 0, none⟩)] w (Post K B o (r.length - 1) w ((textM r).bd fun s r => litM { k := 3, s := s } r) fun w' t v => TeV (fun b => w.heap.size ≤ b) w' t v) := by
 have hne : 0 < r.length := by obtain ⟨x, r', rfl, -⟩ := gd_cons h.gd; simp
 have C0 := fun w (h : PAt K w B r o) => Hid.intro (isKind_any h 2)
 rw [h0] at C0
 have C1 := fun w (h : PAt K w B r o) => Hid.intro (isKind_any h 3)
 rw [h1] at C1
 have hsz := h.size
 have hR0 : (w.alloc z9).heap[w.heap.size]? = some z9 := heap_alloc_new w _
 have b0 : Below w.heap.size w (w.alloc z9) := below_al (Below.refl _ _) _
 unfold z9 at hR0 b0
 have HN := fun w (h : PAt K w B r o) => Hid.intro (ptext_any h)
 clear h0 h1
 cases hm : textM r with
 | bad q =>
  rw [hm] at HN
  rw [bd_bad]
  clear hm
  go_enter Tryz.func174, Tryz.ntmps174
  go_wp2_with fail
  refine (C0 _ (h.via b0)).out.mono ?_
  rintro e w1 ⟨rfl, hw1⟩
  subst w1
  go_wp2_with fail
  refine (C1 _ (h.via b0)).out.mono ?_
  rintro e w2 ⟨rfl, hw2⟩
  subst w2
  go_wp2_with fail
  refine (HN _ (h.via b0)).out.mono ?_
  rintro e v1 ⟨ht1, rfl⟩
  exact ⟨rfl, (Bt.below b0).trans ht1, rfl⟩
 | ok s r1 =>
  rw [hm] at HN
  rw [bd_ok]
  clear hm
  have HL := fun w => Hid.intro (literal_any 3 false 0 s w)
  go_enter Tryz.func174, Tryz.ntmps174
  go_wp2_with fail
  refine (C0 _ (h.via b0)).out.mono ?_
  rintro e w1 ⟨rfl, hw1⟩
  subst w1
  go_wp2_with fail
  refine (C1 _ (h.via b0)).out.mono ?_
  rintro e w2 ⟨rfl, hw2⟩
  subst w2
  go_wp2_with fail
  refine (HN _ (h.via b0)).out.mono ?_
  rintro e v1 ⟨ht1, hl1, hp1, v, rfl, rfl⟩
  go_wp2_with fail
  refine (HL _).out.mono ?_
  rintro e v2 ⟨rfl, hb2⟩
  have hbt := ((Bt.below (B := B) b0).trans ht1).trans (Bt.below hb2)
  have HR := Hid.intro (row_bt ((Bt.refl B _).trans (ht1.trans (Bt.below hb2))) (by omega) hR0)
  go_wp2_with (with_reducible refine (id (?_ : wpList _ _ _ (Oper.mk _ (Op.store _ _ _) _ _ _ _ :: _) _ _)); refine wpList_store_row rfl _ _ _ rfl _ _ rfl rfl _ _ HR.out infoTree rfl rfl (by simp [Value.oneCell']) ?_)
  refine ret_cells rfl rfl (setRow_heap _ _ _ _ _ _ HR.out) Tryz.underlying103 infoTree rfl rfl (Post.ok ((hbt).row (Nat.le_refl _) _) (by omega) (((hp1.via hb2)).row hsz.1 _) ?_)
  exact (lit_tev (fun b => w.heap.size + 1 ≤ b) v2 { k := 3, s := s } rfl).res (n := w.heap.size + 1) (by omega) _
set_option maxRecDepth 100000 in
set_option maxHeartbeats 2000000 in
theorem atom_2 {K B o : Nat} {r : List Lx} {w : World} (h : PAt K w B r o) (h0 : isK 2 r = false) (h1 : isK 3 r = false) (h2 : isM ⟨#[116, 114, 117, 101]⟩ r = true) :
  Calls Tryz.prog 174 #[.pointer (some ⟨B, 0, none⟩)] w (Post K B o (r.length - 1) w (litM { k := 1, b := true } r.tail) fun w' t v => TeV (fun b => w.heap.size ≤ b) w' t v) := by
 have hne : 0 < r.length := by obtain ⟨x, r', rfl, -⟩ := gd_cons h.gd; simp
 have C0 := fun w (h : PAt K w B r o) => Hid.intro (isKind_any h 2)
 rw [h0] at C0
 have C1 := fun w (h : PAt K w B r o) => Hid.intro (isKind_any h 3)
 rw [h1] at C1
 have C2 := fun w (h : PAt K w B r o) => Hid.intro (skip_yes h h2)
 have hsz := h.size
 have hR0 : (w.alloc z9).heap[w.heap.size]? = some z9 := heap_alloc_new w _
 have b0 : Below w.heap.size w (w.alloc z9) := below_al (Below.refl _ _) _
 unfold z9 at hR0 b0
 have HL := fun w => Hid.intro (literal_any 1 true 0 ⟨#[]⟩ w)
 clear h0 h1 h2
 go_enter Tryz.func174, Tryz.ntmps174
 go_wp2_with fail
 refine (C0 _ (h.via b0)).out.mono ?_
 rintro e w1 ⟨rfl, hw1⟩
 subst w1
 go_wp2_with fail
 refine (C1 _ (h.via b0)).out.mono ?_
 rintro e w2 ⟨rfl, hw2⟩
 subst w2
 go_wp2_with fail
 refine (C2 _ (h.via b0)).out.mono ?_
 rintro e v1 ⟨rfl, ht1, hp1⟩
 have hbt := (Bt.below (B := B) b0).trans ht1
 go_wp2_with fail
 refine (HL _).out.mono ?_
 rintro e v2 ⟨rfl, hb2⟩
 have HR := Hid.intro (row_bt ((Bt.refl B _).trans (ht1.trans (Bt.below hb2))) (by omega) hR0)
 go_wp2_with (with_reducible refine (id (?_ : wpList _ _ _ (Oper.mk _ (Op.store _ _ _) _ _ _ _ :: _) _ _)); refine wpList_store_row rfl _ _ _ rfl _ _ rfl rfl _ _ HR.out infoTree rfl rfl (by simp [Value.oneCell']) ?_)
 refine ret_cells rfl rfl (setRow_heap _ _ _ _ _ _ HR.out) Tryz.underlying103 infoTree rfl rfl (Post.ok ((hbt.trans (Bt.below hb2)).row (Nat.le_refl _) _) (by simp) (((hp1.via hb2)).row hsz.1 _) ?_)
 exact (lit_tev (fun b => w.heap.size + 1 ≤ b) v2 { k := 1, b := true } rfl).res (n := w.heap.size + 1) (by omega) _
set_option maxRecDepth 100000 in
set_option maxHeartbeats 2000000 in
theorem atom_3 {K B o : Nat} {r : List Lx} {w : World} (h : PAt K w B r o) (h0 : isK 2 r = false) (h1 : isK 3 r = false) (h2 : isM ⟨#[116, 114, 117, 101]⟩ r = false) (h3 : isM ⟨#[102, 97, 108, 115, 101]⟩ r = true) :
  Calls Tryz.prog 174 #[.pointer (some ⟨B, 0, none⟩)] w (Post K B o (r.length - 1) w (litM { k := 1 } r.tail) fun w' t v => TeV (fun b => w.heap.size ≤ b) w' t v) := by
 have hne : 0 < r.length := by obtain ⟨x, r', rfl, -⟩ := gd_cons h.gd; simp
 have C0 := fun w (h : PAt K w B r o) => Hid.intro (isKind_any h 2)
 rw [h0] at C0
 have C1 := fun w (h : PAt K w B r o) => Hid.intro (isKind_any h 3)
 rw [h1] at C1
 have C2 := fun w (h : PAt K w B r o) => Hid.intro (skip_no h h2)
 have C3 := fun w (h : PAt K w B r o) => Hid.intro (skip_yes h h3)
 have hsz := h.size
 have hR0 : (w.alloc z9).heap[w.heap.size]? = some z9 := heap_alloc_new w _
 have b0 : Below w.heap.size w (w.alloc z9) := below_al (Below.refl _ _) _
 unfold z9 at hR0 b0
 have HL := fun w => Hid.intro (literal_any 1 false 0 ⟨#[]⟩ w)
 clear h0 h1 h2 h3
 go_enter Tryz.func174, Tryz.ntmps174
 go_wp2_with fail
 refine (C0 _ (h.via b0)).out.mono ?_
 rintro e w1 ⟨rfl, hw1⟩
 subst w1
 go_wp2_with fail
 refine (C1 _ (h.via b0)).out.mono ?_
 rintro e w2 ⟨rfl, hw2⟩
 subst w2
 go_wp2_with fail
 refine (C2 _ (h.via b0)).out.mono ?_
 rintro e w3 ⟨rfl, hw3⟩
 have b3 := hw3.via b0
 go_wp2_with fail
 refine (C3 _ (h.via b3)).out.mono ?_
 rintro e v1 ⟨rfl, ht1, hp1⟩
 have hbt := (Bt.below (B := B) b3).trans ht1
 go_wp2_with fail
 refine (HL _).out.mono ?_
 rintro e v2 ⟨rfl, hb2⟩
 have HR := Hid.intro (row_bt (((Bt.refl B _).trans (Bt.below hw3)).trans (ht1.trans (Bt.below hb2))) (by omega) hR0)
 go_wp2_with (with_reducible refine (id (?_ : wpList _ _ _ (Oper.mk _ (Op.store _ _ _) _ _ _ _ :: _) _ _)); refine wpList_store_row rfl _ _ _ rfl _ _ rfl rfl _ _ HR.out infoTree rfl rfl (by simp [Value.oneCell']) ?_)
 refine ret_cells rfl rfl (setRow_heap _ _ _ _ _ _ HR.out) Tryz.underlying103 infoTree rfl rfl (Post.ok ((hbt.trans (Bt.below hb2)).row (Nat.le_refl _) _) (by simp) (((hp1.via hb2)).row hsz.1 _) ?_)
 exact (lit_tev (fun b => w.heap.size + 1 ≤ b) v2 { k := 1 } rfl).res (n := w.heap.size + 1) (by omega) _
set_option maxRecDepth 100000 in
set_option maxHeartbeats 2000000 in
theorem atom_4 {K B o : Nat} {r : List Lx} {w : World} (h : PAt K w B r o) (h0 : isK 2 r = false) (h1 : isK 3 r = false) (h2 : isM ⟨#[116, 114, 117, 101]⟩ r = false) (h3 : isM ⟨#[102, 97, 108, 115, 101]⟩ r = false) (h4 : isM ⟨#[110, 117, 108, 108]⟩ r = true) :
  Calls Tryz.prog 174 #[.pointer (some ⟨B, 0, none⟩)] w (Post K B o (r.length - 1) w (litM {} r.tail) fun w' t v => TeV (fun b => w.heap.size ≤ b) w' t v) := by
 have hne : 0 < r.length := by obtain ⟨x, r', rfl, -⟩ := gd_cons h.gd; simp
 have C0 := fun w (h : PAt K w B r o) => Hid.intro (isKind_any h 2)
 rw [h0] at C0
 have C1 := fun w (h : PAt K w B r o) => Hid.intro (isKind_any h 3)
 rw [h1] at C1
 have C2 := fun w (h : PAt K w B r o) => Hid.intro (skip_no h h2)
 have C3 := fun w (h : PAt K w B r o) => Hid.intro (skip_no h h3)
 have C4 := fun w (h : PAt K w B r o) => Hid.intro (skip_yes h h4)
 have hsz := h.size
 have hR0 : (w.alloc z9).heap[w.heap.size]? = some z9 := heap_alloc_new w _
 have b0 : Below w.heap.size w (w.alloc z9) := below_al (Below.refl _ _) _
 unfold z9 at hR0 b0
 have HL := fun w => Hid.intro (literal_any 0 false 0 ⟨#[]⟩ w)
 clear h0 h1 h2 h3 h4
 go_enter Tryz.func174, Tryz.ntmps174
 go_wp2_with fail
 refine (C0 _ (h.via b0)).out.mono ?_
 rintro e w1 ⟨rfl, hw1⟩
 subst w1
 go_wp2_with fail
 refine (C1 _ (h.via b0)).out.mono ?_
 rintro e w2 ⟨rfl, hw2⟩
 subst w2
 go_wp2_with fail
 refine (C2 _ (h.via b0)).out.mono ?_
 rintro e w3 ⟨rfl, hw3⟩
 have b3 := hw3.via b0
 go_wp2_with fail
 refine (C3 _ (h.via b3)).out.mono ?_
 rintro e w4 ⟨rfl, hw4⟩
 have b4 := hw4.via b3
 go_wp2_with fail
 refine (C4 _ (h.via b4)).out.mono ?_
 rintro e v1 ⟨rfl, ht1, hp1⟩
 have hbt := (Bt.below (B := B) b4).trans ht1
 go_wp2_with fail
 refine (HL _).out.mono ?_
 rintro e v2 ⟨rfl, hb2⟩
 have HR := Hid.intro (row_bt ((((Bt.refl B _).trans (Bt.below hw3)).trans (Bt.below hw4)).trans (ht1.trans (Bt.below hb2))) (by omega) hR0)
 go_wp2_with (with_reducible refine (id (?_ : wpList _ _ _ (Oper.mk _ (Op.store _ _ _) _ _ _ _ :: _) _ _)); refine wpList_store_row rfl _ _ _ rfl _ _ rfl rfl _ _ HR.out infoTree rfl rfl (by simp [Value.oneCell']) ?_)
 refine ret_cells rfl rfl (setRow_heap _ _ _ _ _ _ HR.out) Tryz.underlying103 infoTree rfl rfl (Post.ok ((hbt.trans (Bt.below hb2)).row (Nat.le_refl _) _) (by simp) (((hp1.via hb2)).row hsz.1 _) ?_)
 exact (lit_tev (fun b => w.heap.size + 1 ≤ b) v2 {} rfl).res (n := w.heap.size + 1) (by omega) _
set_option maxRecDepth 100000 in
set_option maxHeartbeats 2000000 in
theorem atom_5 {K B o : Nat} {r : List Lx} {w : World} (h : PAt K w B r o) (h0 : isK 2 r = false) (h1 : isK 3 r = false) (h2 : isM ⟨#[116, 114, 117, 101]⟩ r = false) (h3 : isM ⟨#[102, 97, 108, 115, 101]⟩ r = false) (h4 : isM ⟨#[110, 117, 108, 108]⟩ r = false) (h5 : isK 1 r = true) :
  Calls Tryz.prog 174 #[.pointer (some ⟨B, 0, none⟩)] w (Post K B o (r.length - 1) w ((varM r).bd fun s r => leafM { op := 2, t := s } r) fun w' t v => TeV (fun b => w.heap.size ≤ b) w' t v) := by
 have hne : 0 < r.length := by obtain ⟨x, r', rfl, -⟩ := gd_cons h.gd; simp
 have C0 := fun w (h : PAt K w B r o) => Hid.intro (isKind_any h 2)
 rw [h0] at C0
 have C1 := fun w (h : PAt K w B r o) => Hid.intro (isKind_any h 3)
 rw [h1] at C1
 have C2 := fun w (h : PAt K w B r o) => Hid.intro (skip_no h h2)
 have C3 := fun w (h : PAt K w B r o) => Hid.intro (skip_no h h3)
 have C4 := fun w (h : PAt K w B r o) => Hid.intro (skip_no h h4)
 have C5 := fun w (h : PAt K w B r o) => Hid.intro (isKind_any h 1)
 rw [h5] at C5
 have hsz := h.size
 have hR0 : (w.alloc z9).heap[w.heap.size]? = some z9 := heap_alloc_new w _
 have b0 : Below w.heap.size w (w.alloc z9) := below_al (Below.refl _ _) _
 unfold z9 at hR0 b0
 have HN := fun w (h : PAt K w B r o) => Hid.intro (pvar_any h)
 clear h0 h1 h2 h3 h4 h5
 cases hm : varM r with
 | bad q =>
  rw [hm] at HN
  rw [bd_bad]
  clear hm
  go_enter Tryz.func174, Tryz.ntmps174
  go_wp2_with fail
  refine (C0 _ (h.via b0)).out.mono ?_
  rintro e w1 ⟨rfl, hw1⟩
  subst w1
  go_wp2_with fail
  refine (C1 _ (h.via b0)).out.mono ?_
  rintro e w2 ⟨rfl, hw2⟩
  subst w2
  go_wp2_with fail
  refine (C2 _ (h.via b0)).out.mono ?_
  rintro e w3 ⟨rfl, hw3⟩
  have b3 := hw3.via b0
  go_wp2_with fail
  refine (C3 _ (h.via b3)).out.mono ?_
  rintro e w4 ⟨rfl, hw4⟩
  have b4 := hw4.via b3
  go_wp2_with fail
  refine (C4 _ (h.via b4)).out.mono ?_
  rintro e w5 ⟨rfl, hw5⟩
  have b5 := hw5.via b4
  go_wp2_with fail
  refine (C5 _ (h.via b5)).out.mono ?_
  rintro e w6 ⟨rfl, hw6⟩
  subst w6
  go_wp2_with fail
  refine (HN _ (h.via b5)).out.mono ?_
  rintro e v1 ⟨ht1, rfl⟩
  exact ⟨rfl, (Bt.below b5).trans ht1, rfl⟩
 | ok s r1 =>
  rw [hm] at HN
  rw [bd_ok]
  clear hm
  have HL := fun w => Hid.intro (leaf_any 2 s 0 false 0 ⟨#[]⟩ none 0 0 none 0 0 w)
  go_enter Tryz.func174, Tryz.ntmps174
  go_wp2_with fail
  refine (C0 _ (h.via b0)).out.mono ?_
  rintro e w1 ⟨rfl, hw1⟩
  subst w1
  go_wp2_with fail
  refine (C1 _ (h.via b0)).out.mono ?_
  rintro e w2 ⟨rfl, hw2⟩
  subst w2
  go_wp2_with fail
  refine (C2 _ (h.via b0)).out.mono ?_
  rintro e w3 ⟨rfl, hw3⟩
  have b3 := hw3.via b0
  go_wp2_with fail
  refine (C3 _ (h.via b3)).out.mono ?_
  rintro e w4 ⟨rfl, hw4⟩
  have b4 := hw4.via b3
  go_wp2_with fail
  refine (C4 _ (h.via b4)).out.mono ?_
  rintro e w5 ⟨rfl, hw5⟩
  have b5 := hw5.via b4
  go_wp2_with fail
  refine (C5 _ (h.via b5)).out.mono ?_
  rintro e w6 ⟨rfl, hw6⟩
  subst w6
  go_wp2_with fail
  refine (HN _ (h.via b5)).out.mono ?_
  rintro e v1 ⟨ht1, hl1, hp1, v, rfl, rfl⟩
  go_wp2_with fail
  refine (HL _).out.mono ?_
  rintro e v2 ⟨rfl, hb2⟩
  have hbt := ((Bt.below (B := B) b5).trans ht1).trans (Bt.below hb2)
  have HR := Hid.intro (row_bt (((((Bt.refl B _).trans (Bt.below hw3)).trans (Bt.below hw4)).trans (Bt.below hw5)).trans (ht1.trans (Bt.below hb2))) (by omega) hR0)
  go_wp2_with (with_reducible refine (id (?_ : wpList _ _ _ (Oper.mk _ (Op.store _ _ _) _ _ _ _ :: _) _ _)); refine wpList_store_row rfl _ _ _ rfl _ _ rfl rfl _ _ HR.out infoTree rfl rfl (by simp [Value.oneCell']) ?_)
  refine ret_cells rfl rfl (setRow_heap _ _ _ _ _ _ HR.out) Tryz.underlying103 infoTree rfl rfl (Post.ok ((hbt).row (Nat.le_refl _) _) (by omega) (((hp1.via hb2)).row hsz.1 _) ?_)
  exact (leaf_tev (fun b => w.heap.size + 1 ≤ b) v2 2 s).res (n := w.heap.size + 1) (by omega) _
set_option maxRecDepth 100000 in
set_option maxHeartbeats 2000000 in
theorem atom_6 {K B o : Nat} {T : Ps Te} (hT : TC K B (o + 1) 49 (T (o + 1))) {r : List Lx} {w : World} (h : PAt K w B r o) (h0 : isK 2 r = false) (h1 : isK 3 r = false) (h2 : isM ⟨#[116, 114, 117, 101]⟩ r = false) (h3 : isM ⟨#[102, 97, 108, 115, 101]⟩ r = false) (h4 : isM ⟨#[110, 117, 108, 108]⟩ r = false) (h5 : isK 1 r = false) (h6 : isM ⟨#[40]⟩ r = true) :
  Calls Tryz.prog 174 #[.pointer (some ⟨B, 0, none⟩)] w (Post K B o (r.length - 1) w (parenM T o r) fun w' t v => TeV (fun b => w.heap.size ≤ b) w' t v) := by
 have hne : 0 < r.length := by obtain ⟨x, r', rfl, -⟩ := gd_cons h.gd; simp
 have C0 := fun w (h : PAt K w B r o) => Hid.intro (isKind_any h 2)
 rw [h0] at C0
 have C1 := fun w (h : PAt K w B r o) => Hid.intro (isKind_any h 3)
 rw [h1] at C1
 have C2 := fun w (h : PAt K w B r o) => Hid.intro (skip_no h h2)
 have C3 := fun w (h : PAt K w B r o) => Hid.intro (skip_no h h3)
 have C4 := fun w (h : PAt K w B r o) => Hid.intro (skip_no h h4)
 have C5 := fun w (h : PAt K w B r o) => Hid.intro (isKind_any h 1)
 rw [h5] at C5
 have C6 := fun w (h : PAt K w B r o) => Hid.intro (is_any h ⟨#[40]⟩)
 rw [h6] at C6
 have hsz := h.size
 have hR0 : (w.alloc z9).heap[w.heap.size]? = some z9 := heap_alloc_new w _
 have b0 : Below w.heap.size w (w.alloc z9) := below_al (Below.refl _ _) _
 unfold z9 at hR0 b0
 have HN := fun w (h : PAt K w B r o) => Hid.intro (par_any hT h)
 clear h0 h1 h2 h3 h4 h5 h6
 change ∀ w, PAt K w B r o → Hid (Calls _ _ _ _ (Post K B o (r.length - 1) w (parenM T o r) _)) at HN
 cases hm : parenM T o r with
 | bad q =>
  rw [hm] at HN
  clear hm
  go_enter Tryz.func174, Tryz.ntmps174
  go_wp2_with fail
  refine (C0 _ (h.via b0)).out.mono ?_
  rintro e w1 ⟨rfl, hw1⟩
  subst w1
  go_wp2_with fail
  refine (C1 _ (h.via b0)).out.mono ?_
  rintro e w2 ⟨rfl, hw2⟩
  subst w2
  go_wp2_with fail
  refine (C2 _ (h.via b0)).out.mono ?_
  rintro e w3 ⟨rfl, hw3⟩
  have b3 := hw3.via b0
  go_wp2_with fail
  refine (C3 _ (h.via b3)).out.mono ?_
  rintro e w4 ⟨rfl, hw4⟩
  have b4 := hw4.via b3
  go_wp2_with fail
  refine (C4 _ (h.via b4)).out.mono ?_
  rintro e w5 ⟨rfl, hw5⟩
  have b5 := hw5.via b4
  go_wp2_with fail
  refine (C5 _ (h.via b5)).out.mono ?_
  rintro e w6 ⟨rfl, hw6⟩
  subst w6
  go_wp2_with fail
  refine (C6 _ (h.via b5)).out.mono ?_
  rintro e w7 ⟨rfl, hw7⟩
  have b7 := hw7.via b5
  go_wp2_with fail
  refine (HN _ (h.via b7)).out.mono ?_
  rintro e v1 ⟨ht1, rfl⟩
  exact ⟨rfl, (Bt.below b7).trans ht1, rfl⟩
 | ok t r1 =>
  rw [hm] at HN
  clear hm
  go_enter Tryz.func174, Tryz.ntmps174
  go_wp2_with fail
  refine (C0 _ (h.via b0)).out.mono ?_
  rintro e w1 ⟨rfl, hw1⟩
  subst w1
  go_wp2_with fail
  refine (C1 _ (h.via b0)).out.mono ?_
  rintro e w2 ⟨rfl, hw2⟩
  subst w2
  go_wp2_with fail
  refine (C2 _ (h.via b0)).out.mono ?_
  rintro e w3 ⟨rfl, hw3⟩
  have b3 := hw3.via b0
  go_wp2_with fail
  refine (C3 _ (h.via b3)).out.mono ?_
  rintro e w4 ⟨rfl, hw4⟩
  have b4 := hw4.via b3
  go_wp2_with fail
  refine (C4 _ (h.via b4)).out.mono ?_
  rintro e w5 ⟨rfl, hw5⟩
  have b5 := hw5.via b4
  go_wp2_with fail
  refine (C5 _ (h.via b5)).out.mono ?_
  rintro e w6 ⟨rfl, hw6⟩
  subst w6
  go_wp2_with fail
  refine (C6 _ (h.via b5)).out.mono ?_
  rintro e w7 ⟨rfl, hw7⟩
  have b7 := hw7.via b5
  go_wp2_with fail
  refine (HN _ (h.via b7)).out.mono ?_
  rintro e v1 ⟨ht1, hl1, hp1, v, rfl, p6, n6, c6, p7, n7, c7, rfl, z6, z7, z8⟩
  have hbt := (Bt.below (B := B) b7).trans ht1
  have hv1 : TeV _ v1 t _ := ⟨p6, n6, c6, p7, n7, c7, rfl, z6, z7, z8⟩
  have HR := Hid.intro (row_bt ((((((Bt.refl B _).trans (Bt.below hw3)).trans (Bt.below hw4)).trans (Bt.below hw5)).trans (Bt.below hw7)).trans ht1) (by omega) hR0)
  have hn1 : w.heap.size < _ := (Array.getElem?_eq_some_iff.1 (row_bt (((((Bt.refl B _).trans (Bt.below hw3)).trans (Bt.below hw4)).trans (Bt.below hw5)).trans (Bt.below hw7)) (by omega) hR0)).1
  go_wp2_with (with_reducible refine (id (?_ : wpList _ _ _ (Oper.mk _ (Op.store _ _ _) _ _ _ _ :: _) _ _)); refine wpList_store_row rfl _ _ _ rfl _ _ rfl rfl _ _ HR.out infoTree rfl rfl (by simp [Value.oneCell']) ?_)
  refine ret_cells rfl rfl (setRow_heap _ _ _ _ _ _ HR.out) Tryz.underlying103 infoTree rfl rfl (Post.ok ((hbt).row (Nat.le_refl _) _) (by omega) ((hp1).row hsz.1 _) ?_)
  exact hv1.res hn1 _
set_option maxRecDepth 100000 in
set_option maxHeartbeats 2000000 in
theorem atom_7 {K B o : Nat} {T : Ps Te} (hT : TC K B (o + 1) 49 (T (o + 1))) {r : List Lx} {w : World} (h : PAt K w B r o) (h0 : isK 2 r = false) (h1 : isK 3 r = false) (h2 : isM ⟨#[116, 114, 117, 101]⟩ r = false) (h3 : isM ⟨#[102, 97, 108, 115, 101]⟩ r = false) (h4 : isM ⟨#[110, 117, 108, 108]⟩ r = false) (h5 : isK 1 r = false) (h6 : isM ⟨#[40]⟩ r = false) (h7 : isM ⟨#[91]⟩ r = true) :
  Calls Tryz.prog 174 #[.pointer (some ⟨B, 0, none⟩)] w (Post K B o (r.length - 1) w (valuesM T o r) fun w' t v => TeV (fun b => w.heap.size ≤ b) w' t v) := by
 have hne : 0 < r.length := by obtain ⟨x, r', rfl, -⟩ := gd_cons h.gd; simp
 have C0 := fun w (h : PAt K w B r o) => Hid.intro (isKind_any h 2)
 rw [h0] at C0
 have C1 := fun w (h : PAt K w B r o) => Hid.intro (isKind_any h 3)
 rw [h1] at C1
 have C2 := fun w (h : PAt K w B r o) => Hid.intro (skip_no h h2)
 have C3 := fun w (h : PAt K w B r o) => Hid.intro (skip_no h h3)
 have C4 := fun w (h : PAt K w B r o) => Hid.intro (skip_no h h4)
 have C5 := fun w (h : PAt K w B r o) => Hid.intro (isKind_any h 1)
 rw [h5] at C5
 have C6 := fun w (h : PAt K w B r o) => Hid.intro (is_any h ⟨#[40]⟩)
 rw [h6] at C6
 have C7 := fun w (h : PAt K w B r o) => Hid.intro (is_any h ⟨#[91]⟩)
 rw [h7] at C7
 have hsz := h.size
 have hR0 : (w.alloc z9).heap[w.heap.size]? = some z9 := heap_alloc_new w _
 have b0 : Below w.heap.size w (w.alloc z9) := below_al (Below.refl _ _) _
 unfold z9 at hR0 b0
 have HN := fun w (h : PAt K w B r o) => Hid.intro (values_any hT h)
 clear h0 h1 h2 h3 h4 h5 h6 h7
 cases hm : valuesM T o r with
 | bad q =>
  rw [hm] at HN
  clear hm
  go_enter Tryz.func174, Tryz.ntmps174
  go_wp2_with fail
  refine (C0 _ (h.via b0)).out.mono ?_
  rintro e w1 ⟨rfl, hw1⟩
  subst w1
  go_wp2_with fail
  refine (C1 _ (h.via b0)).out.mono ?_
  rintro e w2 ⟨rfl, hw2⟩
  subst w2
  go_wp2_with fail
  refine (C2 _ (h.via b0)).out.mono ?_
  rintro e w3 ⟨rfl, hw3⟩
  have b3 := hw3.via b0
  go_wp2_with fail
  refine (C3 _ (h.via b3)).out.mono ?_
  rintro e w4 ⟨rfl, hw4⟩
  have b4 := hw4.via b3
  go_wp2_with fail
  refine (C4 _ (h.via b4)).out.mono ?_
  rintro e w5 ⟨rfl, hw5⟩
  have b5 := hw5.via b4
  go_wp2_with fail
  refine (C5 _ (h.via b5)).out.mono ?_
  rintro e w6 ⟨rfl, hw6⟩
  subst w6
  go_wp2_with fail
  refine (C6 _ (h.via b5)).out.mono ?_
  rintro e w7 ⟨rfl, hw7⟩
  have b7 := hw7.via b5
  go_wp2_with fail
  refine (C7 _ (h.via b7)).out.mono ?_
  rintro e w8 ⟨rfl, hw8⟩
  have b8 := hw8.via b7
  go_wp2_with fail
  refine (HN _ (h.via b8)).out.mono ?_
  rintro e v1 ⟨ht1, rfl⟩
  exact ⟨rfl, (Bt.below b8).trans ht1, rfl⟩
 | ok t r1 =>
  rw [hm] at HN
  clear hm
  go_enter Tryz.func174, Tryz.ntmps174
  go_wp2_with fail
  refine (C0 _ (h.via b0)).out.mono ?_
  rintro e w1 ⟨rfl, hw1⟩
  subst w1
  go_wp2_with fail
  refine (C1 _ (h.via b0)).out.mono ?_
  rintro e w2 ⟨rfl, hw2⟩
  subst w2
  go_wp2_with fail
  refine (C2 _ (h.via b0)).out.mono ?_
  rintro e w3 ⟨rfl, hw3⟩
  have b3 := hw3.via b0
  go_wp2_with fail
  refine (C3 _ (h.via b3)).out.mono ?_
  rintro e w4 ⟨rfl, hw4⟩
  have b4 := hw4.via b3
  go_wp2_with fail
  refine (C4 _ (h.via b4)).out.mono ?_
  rintro e w5 ⟨rfl, hw5⟩
  have b5 := hw5.via b4
  go_wp2_with fail
  refine (C5 _ (h.via b5)).out.mono ?_
  rintro e w6 ⟨rfl, hw6⟩
  subst w6
  go_wp2_with fail
  refine (C6 _ (h.via b5)).out.mono ?_
  rintro e w7 ⟨rfl, hw7⟩
  have b7 := hw7.via b5
  go_wp2_with fail
  refine (C7 _ (h.via b7)).out.mono ?_
  rintro e w8 ⟨rfl, hw8⟩
  have b8 := hw8.via b7
  go_wp2_with fail
  refine (HN _ (h.via b8)).out.mono ?_
  rintro e v1 ⟨ht1, hl1, hp1, v, rfl, p6, n6, c6, p7, n7, c7, rfl, z6, z7, z8⟩
  have hbt := (Bt.below (B := B) b8).trans ht1
  have hv1 : TeV _ v1 t _ := ⟨p6, n6, c6, p7, n7, c7, rfl, z6, z7, z8⟩
  have HR := Hid.intro (row_bt (((((((Bt.refl B _).trans (Bt.below hw3)).trans (Bt.below hw4)).trans (Bt.below hw5)).trans (Bt.below hw7)).trans (Bt.below hw8)).trans ht1) (by omega) hR0)
  have hn1 : w.heap.size < _ := (Array.getElem?_eq_some_iff.1 (row_bt ((((((Bt.refl B _).trans (Bt.below hw3)).trans (Bt.below hw4)).trans (Bt.below hw5)).trans (Bt.below hw7)).trans (Bt.below hw8)) (by omega) hR0)).1
  go_wp2_with (with_reducible refine (id (?_ : wpList _ _ _ (Oper.mk _ (Op.store _ _ _) _ _ _ _ :: _) _ _)); refine wpList_store_row rfl _ _ _ rfl _ _ rfl rfl _ _ HR.out infoTree rfl rfl (by simp [Value.oneCell']) ?_)
  refine ret_cells rfl rfl (setRow_heap _ _ _ _ _ _ HR.out) Tryz.underlying103 infoTree rfl rfl (Post.ok ((hbt).row (Nat.le_refl _) _) (by omega) ((hp1).row hsz.1 _) ?_)
  exact hv1.res hn1 _
set_option maxRecDepth 100000 in
set_option maxHeartbeats 2000000 in
theorem atom_8 {K B o : Nat} {T : Ps Te} (hT : TC K B (o + 1) 49 (T (o + 1))) {r : List Lx} {w : World} (h : PAt K w B r o) (h0 : isK 2 r = false) (h1 : isK 3 r = false) (h2 : isM ⟨#[116, 114, 117, 101]⟩ r = false) (h3 : isM ⟨#[102, 97, 108, 115, 101]⟩ r = false) (h4 : isM ⟨#[110, 117, 108, 108]⟩ r = false) (h5 : isK 1 r = false) (h6 : isM ⟨#[40]⟩ r = false) (h7 : isM ⟨#[91]⟩ r = false) (h8 : isM ⟨#[115, 105, 122, 101]⟩ r = true) :
  Calls Tryz.prog 174 #[.pointer (some ⟨B, 0, none⟩)] w (Post K B o (r.length - 1) w (sizeM T o r) fun w' t v => TeV (fun b => w.heap.size ≤ b) w' t v) := by
 have hne : 0 < r.length := by obtain ⟨x, r', rfl, -⟩ := gd_cons h.gd; simp
 have C0 := fun w (h : PAt K w B r o) => Hid.intro (isKind_any h 2)
 rw [h0] at C0
 have C1 := fun w (h : PAt K w B r o) => Hid.intro (isKind_any h 3)
 rw [h1] at C1
 have C2 := fun w (h : PAt K w B r o) => Hid.intro (skip_no h h2)
 have C3 := fun w (h : PAt K w B r o) => Hid.intro (skip_no h h3)
 have C4 := fun w (h : PAt K w B r o) => Hid.intro (skip_no h h4)
 have C5 := fun w (h : PAt K w B r o) => Hid.intro (isKind_any h 1)
 rw [h5] at C5
 have C6 := fun w (h : PAt K w B r o) => Hid.intro (is_any h ⟨#[40]⟩)
 rw [h6] at C6
 have C7 := fun w (h : PAt K w B r o) => Hid.intro (is_any h ⟨#[91]⟩)
 rw [h7] at C7
 have C8 := fun w (h : PAt K w B r o) => Hid.intro (is_any h ⟨#[115, 105, 122, 101]⟩)
 rw [h8] at C8
 have hsz := h.size
 have hR0 : (w.alloc z9).heap[w.heap.size]? = some z9 := heap_alloc_new w _
 have b0 : Below w.heap.size w (w.alloc z9) := below_al (Below.refl _ _) _
 unfold z9 at hR0 b0
 obtain ⟨x, r', rfl, -⟩ := gd_cons h.gd
 have hxk := isM_k h8
 have HN := fun w (h : PAt K w B (x :: r') o) => Hid.intro (size_any hT h hxk)
 clear h0 h1 h2 h3 h4 h5 h6 h7 h8
 cases hm : sizeM T o (x :: r') with
 | bad q =>
  rw [hm] at HN
  clear hm
  go_enter Tryz.func174, Tryz.ntmps174
  go_wp2_with fail
  refine (C0 _ (h.via b0)).out.mono ?_
  rintro e w1 ⟨rfl, hw1⟩
  subst w1
  go_wp2_with fail
  refine (C1 _ (h.via b0)).out.mono ?_
  rintro e w2 ⟨rfl, hw2⟩
  subst w2
  go_wp2_with fail
  refine (C2 _ (h.via b0)).out.mono ?_
  rintro e w3 ⟨rfl, hw3⟩
  have b3 := hw3.via b0
  go_wp2_with fail
  refine (C3 _ (h.via b3)).out.mono ?_
  rintro e w4 ⟨rfl, hw4⟩
  have b4 := hw4.via b3
  go_wp2_with fail
  refine (C4 _ (h.via b4)).out.mono ?_
  rintro e w5 ⟨rfl, hw5⟩
  have b5 := hw5.via b4
  go_wp2_with fail
  refine (C5 _ (h.via b5)).out.mono ?_
  rintro e w6 ⟨rfl, hw6⟩
  subst w6
  go_wp2_with fail
  refine (C6 _ (h.via b5)).out.mono ?_
  rintro e w7 ⟨rfl, hw7⟩
  have b7 := hw7.via b5
  go_wp2_with fail
  refine (C7 _ (h.via b7)).out.mono ?_
  rintro e w8 ⟨rfl, hw8⟩
  have b8 := hw8.via b7
  go_wp2_with fail
  refine (C8 _ (h.via b8)).out.mono ?_
  rintro e w9 ⟨rfl, hw9⟩
  have b9 := hw9.via b8
  go_wp2_with fail
  refine (HN _ (h.via b9)).out.mono ?_
  rintro e v1 ⟨ht1, rfl⟩
  exact ⟨rfl, (Bt.below b9).trans ht1, rfl⟩
 | ok t r1 =>
  rw [hm] at HN
  clear hm
  go_enter Tryz.func174, Tryz.ntmps174
  go_wp2_with fail
  refine (C0 _ (h.via b0)).out.mono ?_
  rintro e w1 ⟨rfl, hw1⟩
  subst w1
  go_wp2_with fail
  refine (C1 _ (h.via b0)).out.mono ?_
  rintro e w2 ⟨rfl, hw2⟩
  subst w2
  go_wp2_with fail
  refine (C2 _ (h.via b0)).out.mono ?_
  rintro e w3 ⟨rfl, hw3⟩
  have b3 := hw3.via b0
  go_wp2_with fail
  refine (C3 _ (h.via b3)).out.mono ?_
  rintro e w4 ⟨rfl, hw4⟩
  have b4 := hw4.via b3
  go_wp2_with fail
  refine (C4 _ (h.via b4)).out.mono ?_
  rintro e w5 ⟨rfl, hw5⟩
  have b5 := hw5.via b4
  go_wp2_with fail
  refine (C5 _ (h.via b5)).out.mono ?_
  rintro e w6 ⟨rfl, hw6⟩
  subst w6
  go_wp2_with fail
  refine (C6 _ (h.via b5)).out.mono ?_
  rintro e w7 ⟨rfl, hw7⟩
  have b7 := hw7.via b5
  go_wp2_with fail
  refine (C7 _ (h.via b7)).out.mono ?_
  rintro e w8 ⟨rfl, hw8⟩
  have b8 := hw8.via b7
  go_wp2_with fail
  refine (C8 _ (h.via b8)).out.mono ?_
  rintro e w9 ⟨rfl, hw9⟩
  have b9 := hw9.via b8
  go_wp2_with fail
  refine (HN _ (h.via b9)).out.mono ?_
  rintro e v1 ⟨ht1, hl1, hp1, v, rfl, p6, n6, c6, p7, n7, c7, rfl, z6, z7, z8⟩
  have hbt := (Bt.below (B := B) b9).trans ht1
  have hv1 : TeV _ v1 t _ := ⟨p6, n6, c6, p7, n7, c7, rfl, z6, z7, z8⟩
  have HR := Hid.intro (row_bt ((((((((Bt.refl B _).trans (Bt.below hw3)).trans (Bt.below hw4)).trans (Bt.below hw5)).trans (Bt.below hw7)).trans (Bt.below hw8)).trans (Bt.below hw9)).trans ht1) (by omega) hR0)
  have hn1 : w.heap.size < _ := (Array.getElem?_eq_some_iff.1 (row_bt (((((((Bt.refl B _).trans (Bt.below hw3)).trans (Bt.below hw4)).trans (Bt.below hw5)).trans (Bt.below hw7)).trans (Bt.below hw8)).trans (Bt.below hw9)) (by omega) hR0)).1
  go_wp2_with (with_reducible refine (id (?_ : wpList _ _ _ (Oper.mk _ (Op.store _ _ _) _ _ _ _ :: _) _ _)); refine wpList_store_row rfl _ _ _ rfl _ _ rfl rfl _ _ HR.out infoTree rfl rfl (by simp [Value.oneCell']) ?_)
  refine ret_cells rfl rfl (setRow_heap _ _ _ _ _ _ HR.out) Tryz.underlying103 infoTree rfl rfl (Post.ok ((hbt).row (Nat.le_refl _) _) (by simpa using hl1) ((hp1).row hsz.1 _) ?_)
  exact hv1.res hn1 _
set_option maxRecDepth 100000 in
set_option maxHeartbeats 2000000 in
theorem atom_9 {K B o : Nat} {T : Ps Te} (hT : TC K B (o + 1) 49 (T (o + 1))) {r : List Lx} {w : World} (h : PAt K w B r o) (h0 : isK 2 r = false) (h1 : isK 3 r = false) (h2 : isM ⟨#[116, 114, 117, 101]⟩ r = false) (h3 : isM ⟨#[102, 97, 108, 115, 101]⟩ r = false) (h4 : isM ⟨#[110, 117, 108, 108]⟩ r = false) (h5 : isK 1 r = false) (h6 : isM ⟨#[40]⟩ r = false) (h7 : isM ⟨#[91]⟩ r = false) (h8 : isM ⟨#[115, 105, 122, 101]⟩ r = false) (h9 : isM ⟨#[104, 97, 115]⟩ r = true) :
  Calls Tryz.prog 174 #[.pointer (some ⟨B, 0, none⟩)] w (Post K B o (r.length - 1) w (hasM T o r) fun w' t v => TeV (fun b => w.heap.size ≤ b) w' t v) := by
 have hne : 0 < r.length := by obtain ⟨x, r', rfl, -⟩ := gd_cons h.gd; simp
 have C0 := fun w (h : PAt K w B r o) => Hid.intro (isKind_any h 2)
 rw [h0] at C0
 have C1 := fun w (h : PAt K w B r o) => Hid.intro (isKind_any h 3)
 rw [h1] at C1
 have C2 := fun w (h : PAt K w B r o) => Hid.intro (skip_no h h2)
 have C3 := fun w (h : PAt K w B r o) => Hid.intro (skip_no h h3)
 have C4 := fun w (h : PAt K w B r o) => Hid.intro (skip_no h h4)
 have C5 := fun w (h : PAt K w B r o) => Hid.intro (isKind_any h 1)
 rw [h5] at C5
 have C6 := fun w (h : PAt K w B r o) => Hid.intro (is_any h ⟨#[40]⟩)
 rw [h6] at C6
 have C7 := fun w (h : PAt K w B r o) => Hid.intro (is_any h ⟨#[91]⟩)
 rw [h7] at C7
 have C8 := fun w (h : PAt K w B r o) => Hid.intro (is_any h ⟨#[115, 105, 122, 101]⟩)
 rw [h8] at C8
 have C9 := fun w (h : PAt K w B r o) => Hid.intro (is_any h ⟨#[104, 97, 115]⟩)
 rw [h9] at C9
 have hsz := h.size
 have hR0 : (w.alloc z9).heap[w.heap.size]? = some z9 := heap_alloc_new w _
 have b0 : Below w.heap.size w (w.alloc z9) := below_al (Below.refl _ _) _
 unfold z9 at hR0 b0
 obtain ⟨x, r', rfl, -⟩ := gd_cons h.gd
 have hxk := isM_k h9
 have HN := fun w (h : PAt K w B (x :: r') o) => Hid.intro (has_any hT h hxk)
 clear h0 h1 h2 h3 h4 h5 h6 h7 h8 h9
 cases hm : hasM T o (x :: r') with
 | bad q =>
  rw [hm] at HN
  clear hm
  go_enter Tryz.func174, Tryz.ntmps174
  go_wp2_with fail
  refine (C0 _ (h.via b0)).out.mono ?_
  rintro e w1 ⟨rfl, hw1⟩
  subst w1
  go_wp2_with fail
  refine (C1 _ (h.via b0)).out.mono ?_
  rintro e w2 ⟨rfl, hw2⟩
  subst w2
  go_wp2_with fail
  refine (C2 _ (h.via b0)).out.mono ?_
  rintro e w3 ⟨rfl, hw3⟩
  have b3 := hw3.via b0
  go_wp2_with fail
  refine (C3 _ (h.via b3)).out.mono ?_
  rintro e w4 ⟨rfl, hw4⟩
  have b4 := hw4.via b3
  go_wp2_with fail
  refine (C4 _ (h.via b4)).out.mono ?_
  rintro e w5 ⟨rfl, hw5⟩
  have b5 := hw5.via b4
  go_wp2_with fail
  refine (C5 _ (h.via b5)).out.mono ?_
  rintro e w6 ⟨rfl, hw6⟩
  subst w6
  go_wp2_with fail
  refine (C6 _ (h.via b5)).out.mono ?_
  rintro e w7 ⟨rfl, hw7⟩
  have b7 := hw7.via b5
  go_wp2_with fail
  refine (C7 _ (h.via b7)).out.mono ?_
  rintro e w8 ⟨rfl, hw8⟩
  have b8 := hw8.via b7
  go_wp2_with fail
  refine (C8 _ (h.via b8)).out.mono ?_
  rintro e w9 ⟨rfl, hw9⟩
  have b9 := hw9.via b8
  go_wp2_with fail
  refine (C9 _ (h.via b9)).out.mono ?_
  rintro e w10 ⟨rfl, hw10⟩
  have b10 := hw10.via b9
  go_wp2_with fail
  refine (HN _ (h.via b10)).out.mono ?_
  rintro e v1 ⟨ht1, rfl⟩
  exact ⟨rfl, (Bt.below b10).trans ht1, rfl⟩
 | ok t r1 =>
  rw [hm] at HN
  clear hm
  go_enter Tryz.func174, Tryz.ntmps174
  go_wp2_with fail
  refine (C0 _ (h.via b0)).out.mono ?_
  rintro e w1 ⟨rfl, hw1⟩
  subst w1
  go_wp2_with fail
  refine (C1 _ (h.via b0)).out.mono ?_
  rintro e w2 ⟨rfl, hw2⟩
  subst w2
  go_wp2_with fail
  refine (C2 _ (h.via b0)).out.mono ?_
  rintro e w3 ⟨rfl, hw3⟩
  have b3 := hw3.via b0
  go_wp2_with fail
  refine (C3 _ (h.via b3)).out.mono ?_
  rintro e w4 ⟨rfl, hw4⟩
  have b4 := hw4.via b3
  go_wp2_with fail
  refine (C4 _ (h.via b4)).out.mono ?_
  rintro e w5 ⟨rfl, hw5⟩
  have b5 := hw5.via b4
  go_wp2_with fail
  refine (C5 _ (h.via b5)).out.mono ?_
  rintro e w6 ⟨rfl, hw6⟩
  subst w6
  go_wp2_with fail
  refine (C6 _ (h.via b5)).out.mono ?_
  rintro e w7 ⟨rfl, hw7⟩
  have b7 := hw7.via b5
  go_wp2_with fail
  refine (C7 _ (h.via b7)).out.mono ?_
  rintro e w8 ⟨rfl, hw8⟩
  have b8 := hw8.via b7
  go_wp2_with fail
  refine (C8 _ (h.via b8)).out.mono ?_
  rintro e w9 ⟨rfl, hw9⟩
  have b9 := hw9.via b8
  go_wp2_with fail
  refine (C9 _ (h.via b9)).out.mono ?_
  rintro e w10 ⟨rfl, hw10⟩
  have b10 := hw10.via b9
  go_wp2_with fail
  refine (HN _ (h.via b10)).out.mono ?_
  rintro e v1 ⟨ht1, hl1, hp1, v, rfl, p6, n6, c6, p7, n7, c7, rfl, z6, z7, z8⟩
  have hbt := (Bt.below (B := B) b10).trans ht1
  have hv1 : TeV _ v1 t _ := ⟨p6, n6, c6, p7, n7, c7, rfl, z6, z7, z8⟩
  have HR := Hid.intro (row_bt (((((((((Bt.refl B _).trans (Bt.below hw3)).trans (Bt.below hw4)).trans (Bt.below hw5)).trans (Bt.below hw7)).trans (Bt.below hw8)).trans (Bt.below hw9)).trans (Bt.below hw10)).trans ht1) (by omega) hR0)
  have hn1 : w.heap.size < _ := (Array.getElem?_eq_some_iff.1 (row_bt ((((((((Bt.refl B _).trans (Bt.below hw3)).trans (Bt.below hw4)).trans (Bt.below hw5)).trans (Bt.below hw7)).trans (Bt.below hw8)).trans (Bt.below hw9)).trans (Bt.below hw10)) (by omega) hR0)).1
  go_wp2_with (with_reducible refine (id (?_ : wpList _ _ _ (Oper.mk _ (Op.store _ _ _) _ _ _ _ :: _) _ _)); refine wpList_store_row rfl _ _ _ rfl _ _ rfl rfl _ _ HR.out infoTree rfl rfl (by simp [Value.oneCell']) ?_)
  refine ret_cells rfl rfl (setRow_heap _ _ _ _ _ _ HR.out) Tryz.underlying103 infoTree rfl rfl (Post.ok ((hbt).row (Nat.le_refl _) _) (by simpa using hl1) ((hp1).row hsz.1 _) ?_)
  exact hv1.res hn1 _
set_option maxRecDepth 100000 in
set_option maxHeartbeats 2000000 in
theorem atom_10 {K B o : Nat} {r : List Lx} {w : World} (h : PAt K w B r o) (h0 : isK 2 r = false) (h1 : isK 3 r = false) (h2 : isM ⟨#[116, 114, 117, 101]⟩ r = false) (h3 : isM ⟨#[102, 97, 108, 115, 101]⟩ r = false) (h4 : isM ⟨#[110, 117, 108, 108]⟩ r = false) (h5 : isK 1 r = false) (h6 : isM ⟨#[40]⟩ r = false) (h7 : isM ⟨#[91]⟩ r = false) (h8 : isM ⟨#[115, 105, 122, 101]⟩ r = false) (h9 : isM ⟨#[104, 97, 115]⟩ r = false) :
  Calls Tryz.prog 174 #[.pointer (some ⟨B, 0, none⟩)] w (Post K B o (r.length - 1) w ((nameM r).bd fun s r => leafM { op := 3, t := s } r) fun w' t v => TeV (fun b => w.heap.size ≤ b) w' t v) := by
 have hne : 0 < r.length := by obtain ⟨x, r', rfl, -⟩ := gd_cons h.gd; simp
 have C0 := fun w (h : PAt K w B r o) => Hid.intro (isKind_any h 2)
 rw [h0] at C0
 have C1 := fun w (h : PAt K w B r o) => Hid.intro (isKind_any h 3)
 rw [h1] at C1
 have C2 := fun w (h : PAt K w B r o) => Hid.intro (skip_no h h2)
 have C3 := fun w (h : PAt K w B r o) => Hid.intro (skip_no h h3)
 have C4 := fun w (h : PAt K w B r o) => Hid.intro (skip_no h h4)
 have C5 := fun w (h : PAt K w B r o) => Hid.intro (isKind_any h 1)
 rw [h5] at C5
 have C6 := fun w (h : PAt K w B r o) => Hid.intro (is_any h ⟨#[40]⟩)
 rw [h6] at C6
 have C7 := fun w (h : PAt K w B r o) => Hid.intro (is_any h ⟨#[91]⟩)
 rw [h7] at C7
 have C8 := fun w (h : PAt K w B r o) => Hid.intro (is_any h ⟨#[115, 105, 122, 101]⟩)
 rw [h8] at C8
 have C9 := fun w (h : PAt K w B r o) => Hid.intro (is_any h ⟨#[104, 97, 115]⟩)
 rw [h9] at C9
 have hsz := h.size
 have hR0 : (w.alloc z9).heap[w.heap.size]? = some z9 := heap_alloc_new w _
 have b0 : Below w.heap.size w (w.alloc z9) := below_al (Below.refl _ _) _
 unfold z9 at hR0 b0
 have HN := fun w (h : PAt K w B r o) => Hid.intro (pname_any h)
 clear h0 h1 h2 h3 h4 h5 h6 h7 h8 h9
 cases hm : nameM r with
 | bad q =>
  rw [hm] at HN
  rw [bd_bad]
  clear hm
  go_enter Tryz.func174, Tryz.ntmps174
  go_wp2_with fail
  refine (C0 _ (h.via b0)).out.mono ?_
  rintro e w1 ⟨rfl, hw1⟩
  subst w1
  go_wp2_with fail
  refine (C1 _ (h.via b0)).out.mono ?_
  rintro e w2 ⟨rfl, hw2⟩
  subst w2
  go_wp2_with fail
  refine (C2 _ (h.via b0)).out.mono ?_
  rintro e w3 ⟨rfl, hw3⟩
  have b3 := hw3.via b0
  go_wp2_with fail
  refine (C3 _ (h.via b3)).out.mono ?_
  rintro e w4 ⟨rfl, hw4⟩
  have b4 := hw4.via b3
  go_wp2_with fail
  refine (C4 _ (h.via b4)).out.mono ?_
  rintro e w5 ⟨rfl, hw5⟩
  have b5 := hw5.via b4
  go_wp2_with fail
  refine (C5 _ (h.via b5)).out.mono ?_
  rintro e w6 ⟨rfl, hw6⟩
  subst w6
  go_wp2_with fail
  refine (C6 _ (h.via b5)).out.mono ?_
  rintro e w7 ⟨rfl, hw7⟩
  have b7 := hw7.via b5
  go_wp2_with fail
  refine (C7 _ (h.via b7)).out.mono ?_
  rintro e w8 ⟨rfl, hw8⟩
  have b8 := hw8.via b7
  go_wp2_with fail
  refine (C8 _ (h.via b8)).out.mono ?_
  rintro e w9 ⟨rfl, hw9⟩
  have b9 := hw9.via b8
  go_wp2_with fail
  refine (C9 _ (h.via b9)).out.mono ?_
  rintro e w10 ⟨rfl, hw10⟩
  have b10 := hw10.via b9
  go_wp2_with fail
  refine (HN _ (h.via b10)).out.mono ?_
  rintro e v1 ⟨ht1, rfl⟩
  exact ⟨rfl, (Bt.below b10).trans ht1, rfl⟩
 | ok s r1 =>
  rw [hm] at HN
  rw [bd_ok]
  clear hm
  have HL := fun w => Hid.intro (leaf_any 3 s 0 false 0 ⟨#[]⟩ none 0 0 none 0 0 w)
  go_enter Tryz.func174, Tryz.ntmps174
  go_wp2_with fail
  refine (C0 _ (h.via b0)).out.mono ?_
  rintro e w1 ⟨rfl, hw1⟩
  subst w1
  go_wp2_with fail
  refine (C1 _ (h.via b0)).out.mono ?_
  rintro e w2 ⟨rfl, hw2⟩
  subst w2
  go_wp2_with fail
  refine (C2 _ (h.via b0)).out.mono ?_
  rintro e w3 ⟨rfl, hw3⟩
  have b3 := hw3.via b0
  go_wp2_with fail
  refine (C3 _ (h.via b3)).out.mono ?_
  rintro e w4 ⟨rfl, hw4⟩
  have b4 := hw4.via b3
  go_wp2_with fail
  refine (C4 _ (h.via b4)).out.mono ?_
  rintro e w5 ⟨rfl, hw5⟩
  have b5 := hw5.via b4
  go_wp2_with fail
  refine (C5 _ (h.via b5)).out.mono ?_
  rintro e w6 ⟨rfl, hw6⟩
  subst w6
  go_wp2_with fail
  refine (C6 _ (h.via b5)).out.mono ?_
  rintro e w7 ⟨rfl, hw7⟩
  have b7 := hw7.via b5
  go_wp2_with fail
  refine (C7 _ (h.via b7)).out.mono ?_
  rintro e w8 ⟨rfl, hw8⟩
  have b8 := hw8.via b7
  go_wp2_with fail
  refine (C8 _ (h.via b8)).out.mono ?_
  rintro e w9 ⟨rfl, hw9⟩
  have b9 := hw9.via b8
  go_wp2_with fail
  refine (C9 _ (h.via b9)).out.mono ?_
  rintro e w10 ⟨rfl, hw10⟩
  have b10 := hw10.via b9
  go_wp2_with fail
  refine (HN _ (h.via b10)).out.mono ?_
  rintro e v1 ⟨ht1, hl1, hp1, v, rfl, rfl⟩
  go_wp2_with fail
  refine (HL _).out.mono ?_
  rintro e v2 ⟨rfl, hb2⟩
  have hbt := ((Bt.below (B := B) b10).trans ht1).trans (Bt.below hb2)
  have HR := Hid.intro (row_bt (((((((((Bt.refl B _).trans (Bt.below hw3)).trans (Bt.below hw4)).trans (Bt.below hw5)).trans (Bt.below hw7)).trans (Bt.below hw8)).trans (Bt.below hw9)).trans (Bt.below hw10)).trans (ht1.trans (Bt.below hb2))) (by omega) hR0)
  go_wp2_with (with_reducible refine (id (?_ : wpList _ _ _ (Oper.mk _ (Op.store _ _ _) _ _ _ _ :: _) _ _)); refine wpList_store_row rfl _ _ _ rfl _ _ rfl rfl _ _ HR.out infoTree rfl rfl (by simp [Value.oneCell']) ?_)
  refine ret_cells rfl rfl (setRow_heap _ _ _ _ _ _ HR.out) Tryz.underlying103 infoTree rfl rfl (Post.ok ((hbt).row (Nat.le_refl _) _) (by omega) (((hp1.via hb2)).row hsz.1 _) ?_)
  exact (leaf_tev (fun b => w.heap.size + 1 ≤ b) v2 3 s).res (n := w.heap.size + 1) (by omega) _
theorem atom_any {K B o : Nat} {T : Ps Te} (hT : TC K B (o + 1) 49 (T (o + 1))) : TC K B o 174 (atomM T o) := by
 intro r w h
 unfold atomM
 cases h0 : isK 2 r with
 | true => rw [if_pos rfl]; exact atom_0 h h0
 | false =>
  rw [if_neg (by simp)]
  cases h1 : isK 3 r with
  | true => rw [if_pos rfl]; exact atom_1 h h0 h1
  | false =>
   rw [if_neg (by simp)]
   cases h2 : isM ⟨#[116, 114, 117, 101]⟩ r with
   | true => rw [if_pos rfl]; exact atom_2 h h0 h1 h2
   | false =>
    rw [if_neg (by simp)]
    cases h3 : isM ⟨#[102, 97, 108, 115, 101]⟩ r with
    | true => rw [if_pos rfl]; exact atom_3 h h0 h1 h2 h3
    | false =>
     rw [if_neg (by simp)]
     cases h4 : isM ⟨#[110, 117, 108, 108]⟩ r with
     | true => rw [if_pos rfl]; exact atom_4 h h0 h1 h2 h3 h4
     | false =>
      rw [if_neg (by simp)]
      cases h5 : isK 1 r with
      | true => rw [if_pos rfl]; exact atom_5 h h0 h1 h2 h3 h4 h5
      | false =>
       rw [if_neg (by simp)]
       cases h6 : isM ⟨#[40]⟩ r with
       | true => rw [if_pos rfl]; exact atom_6 hT h h0 h1 h2 h3 h4 h5 h6
       | false =>
        rw [if_neg (by simp)]
        cases h7 : isM ⟨#[91]⟩ r with
        | true => rw [if_pos rfl]; exact atom_7 hT h h0 h1 h2 h3 h4 h5 h6 h7
        | false =>
         rw [if_neg (by simp)]
         cases h8 : isM ⟨#[115, 105, 122, 101]⟩ r with
         | true => rw [if_pos rfl]; exact atom_8 hT h h0 h1 h2 h3 h4 h5 h6 h7 h8
         | false =>
          rw [if_neg (by simp)]
          cases h9 : isM ⟨#[104, 97, 115]⟩ r with
          | true => rw [if_pos rfl]; exact atom_9 hT h h0 h1 h2 h3 h4 h5 h6 h7 h8 h9
          | false =>
           rw [if_neg (by simp)]
           exact atom_10 h h0 h1 h2 h3 h4 h5 h6 h7 h8 h9
end
end Go.Proofs.YtoeodjobggodcaaGreatDoor
/- sign; level. -/
namespace Go.Proofs.YtoeodjobggodcaaGreatDoor
section
open Go.RowKit
def LC (K B o : Nat) (i : Int) (m : List Lx → Rs Te) : Prop :=
 ∀ r w, PAt K w B r o → Calls Tryz.prog 90 #[.pointer (some ⟨B, 0, none⟩), .int .i64 i] w (Post K B o (r.length - 1) w (m r) fun w' t v => TeV (fun b => w.heap.size ≤ b) w' t v)
theorem op_form (m : Option Int) : ∃ (i : Int) (b : Bool), opT m = .tuple #[.int .i64 i, .bool b] ∧ Hid (m = if b then some i else none) := by
 cases m with
 | none => exact ⟨0, false, rfl, rfl⟩
 | some op => exact ⟨op, true, rfl, rfl⟩
theorem PAt.lev {K : Nat} {w : World} {B : Nat} {r : List Lx} {o : Nat} (h : PAt K w B r o) : ∃ l, w.cell? ⟨B, 2, none⟩ = some (.slice (some ⟨l, 0, none⟩) 5 5) := by
 obtain ⟨g, off, cap, lv, ⟨-, -, c2⟩, -, h1, h2, h3, h4, h5, h6, h7, h8, ⟨l, rfl, -⟩, h10⟩ := h
 exact ⟨l, c2⟩
set_option maxRecDepth 100000 in
set_option maxHeartbeats 4000000 in
theorem sign_fuel {K B : Nat} {T : Ps Te} : ∀ (f o : Nat), 32 ≤ f + o → (∀ o', o < o' → TC K B o' 49 (T o')) → TC K B o 136 (signM (atomM T) f o)
 | 0, o, hf, _ => fun r w h => by have := h.most; omega
 | f + 1, o, hf, hT => fun r w h => by
  have ih := sign_fuel (K := K) (B := B) (T := T) f (o + 1) (by omega) (fun o' ho => hT o' (by omega))
  have hsz := h.size
  have hR0 : (w.alloc z9).heap[w.heap.size]? = some z9 := heap_alloc_new w _
  have b0 : Below w.heap.size w (w.alloc z9) := below_al (Below.refl _ _) _
  unfold z9 at hR0 b0
  have C1 := fun w (h : PAt K w B r o) => Hid.intro (is_any h ⟨#[45]⟩)
  have C2 := fun w (h : PAt K w B r o) => Hid.intro (is_any h ⟨#[33]⟩)
  have hne : 0 < r.length := by obtain ⟨x, r', rfl, -⟩ := gd_cons h.gd; simp
  unfold signM
  cases h1 : isM ⟨#[45]⟩ r with
  | true =>
   rw [h1] at C1
   rw [if_pos rfl]
   clear h1 C2
   have HN := fun w (h : PAt K w B r o) => Hid.intro (signed_any ih h ⟨#[45]⟩ 6)
   cases hm : (pushM ⟨#[45]⟩ o r).bd fun a r => (signM (atomM T) f (o + 1) r).bd fun t r => nodeM a { op := 6 } [t] r with
   | bad q =>
    rw [hm] at HN
    clear hm
    go_enter Tryz.func136, Tryz.ntmps136
    go_wp2_with fail
    refine (C1 _ (h.via b0)).out.mono ?_
    rintro e w1 ⟨rfl, hw1⟩
    have b1 := hw1.via b0
    go_wp2_with fail
    refine (HN _ (h.via b1)).out.mono ?_
    rintro e v1 ⟨ht1, rfl⟩
    exact ⟨rfl, (Bt.below b1).trans ht1, rfl⟩
   | ok t r1 =>
    rw [hm] at HN
    clear hm
    go_enter Tryz.func136, Tryz.ntmps136
    go_wp2_with fail
    refine (C1 _ (h.via b0)).out.mono ?_
    rintro e w1 ⟨rfl, hw1⟩
    have b1 := hw1.via b0
    go_wp2_with fail
    refine (HN _ (h.via b1)).out.mono ?_
    rintro e v1 ⟨ht1, hl1, hp1, v, rfl, p6, n6, c6, p7, n7, c7, rfl, z6, z7, z8⟩
    have hbt := (Bt.below (B := B) b1).trans ht1
    have hv1 : TeV _ v1 t _ := ⟨p6, n6, c6, p7, n7, c7, rfl, z6, z7, z8⟩
    have HR := Hid.intro (row_bt (((Bt.refl B _).trans (Bt.below hw1)).trans ht1) (by omega) hR0)
    have hn1 : w.heap.size < _ := (Array.getElem?_eq_some_iff.1 (row_bt ((Bt.refl B _).trans (Bt.below hw1)) (by omega) hR0)).1
    go_wp2_with (with_reducible refine (id (?_ : wpList _ _ _ (Oper.mk _ (Op.store _ _ _) _ _ _ _ :: _) _ _)); refine wpList_store_row rfl _ _ _ rfl _ _ rfl rfl _ _ HR.out infoTree rfl rfl (by simp [Value.oneCell']) ?_)
    refine ret_cells rfl rfl (setRow_heap _ _ _ _ _ _ HR.out) Tryz.underlying103 infoTree rfl rfl (Post.ok ((hbt).row (Nat.le_refl _) _) (by omega) ((hp1).row hsz.1 _) ?_)
    exact hv1.res hn1 _
  | false =>
   rw [h1] at C1
   rw [if_neg (by simp)]
   clear h1
   cases h2 : isM ⟨#[33]⟩ r with
   | true =>
    rw [h2] at C2
    rw [if_pos rfl]
    clear h2
    have HN := fun w (h : PAt K w B r o) => Hid.intro (signed_any ih h ⟨#[33]⟩ 7)
    cases hm : (pushM ⟨#[33]⟩ o r).bd fun a r => (signM (atomM T) f (o + 1) r).bd fun t r => nodeM a { op := 7 } [t] r with
    | bad q =>
     rw [hm] at HN
     clear hm
     go_enter Tryz.func136, Tryz.ntmps136
     go_wp2_with fail
     refine (C1 _ (h.via b0)).out.mono ?_
     rintro e w1 ⟨rfl, hw1⟩
     have b1 := hw1.via b0
     go_wp2_with fail
     refine (C2 _ (h.via b1)).out.mono ?_
     rintro e w2 ⟨rfl, hw2⟩
     have b2 := hw2.via b1
     go_wp2_with fail
     refine (HN _ (h.via b2)).out.mono ?_
     rintro e v1 ⟨ht1, rfl⟩
     exact ⟨rfl, (Bt.below b2).trans ht1, rfl⟩
    | ok t r1 =>
     rw [hm] at HN
     clear hm
     go_enter Tryz.func136, Tryz.ntmps136
     go_wp2_with fail
     refine (C1 _ (h.via b0)).out.mono ?_
     rintro e w1 ⟨rfl, hw1⟩
     have b1 := hw1.via b0
     go_wp2_with fail
     refine (C2 _ (h.via b1)).out.mono ?_
     rintro e w2 ⟨rfl, hw2⟩
     have b2 := hw2.via b1
     go_wp2_with fail
     refine (HN _ (h.via b2)).out.mono ?_
     rintro e v1 ⟨ht1, hl1, hp1, v, rfl, p6, n6, c6, p7, n7, c7, rfl, z6, z7, z8⟩
     have hbt := (Bt.below (B := B) b2).trans ht1
     have hv1 : TeV _ v1 t _ := ⟨p6, n6, c6, p7, n7, c7, rfl, z6, z7, z8⟩
     have HR := Hid.intro (row_bt ((((Bt.refl B _).trans (Bt.below hw1)).trans (Bt.below hw2)).trans ht1) (by omega) hR0)
     have hn1 : w.heap.size < _ := (Array.getElem?_eq_some_iff.1 (row_bt (((Bt.refl B _).trans (Bt.below hw1)).trans (Bt.below hw2)) (by omega) hR0)).1
     go_wp2_with (with_reducible refine (id (?_ : wpList _ _ _ (Oper.mk _ (Op.store _ _ _) _ _ _ _ :: _) _ _)); refine wpList_store_row rfl _ _ _ rfl _ _ rfl rfl _ _ HR.out infoTree rfl rfl (by simp [Value.oneCell']) ?_)
     refine ret_cells rfl rfl (setRow_heap _ _ _ _ _ _ HR.out) Tryz.underlying103 infoTree rfl rfl (Post.ok ((hbt).row (Nat.le_refl _) _) (by omega) ((hp1).row hsz.1 _) ?_)
     exact hv1.res hn1 _
   | false =>
    rw [h2] at C2
    rw [if_neg (by simp)]
    clear h2
    have HN := fun w (h : PAt K w B r o) => Hid.intro (post_any (atom_any (hT (o + 1) (by omega))) r w h)
    change ∀ w, PAt K w B r o → Hid (Calls _ _ _ _ (Post K B o (r.length - 1) w ((atomM T o r).bd fun t r => postL r.length t r) _)) at HN
    cases hm : (atomM T o r).bd fun t r => postL r.length t r with
    | bad q =>
     rw [hm] at HN
     clear hm
     go_enter Tryz.func136, Tryz.ntmps136
     go_wp2_with fail
     refine (C1 _ (h.via b0)).out.mono ?_
     rintro e w1 ⟨rfl, hw1⟩
     have b1 := hw1.via b0
     go_wp2_with fail
     refine (C2 _ (h.via b1)).out.mono ?_
     rintro e w2 ⟨rfl, hw2⟩
     have b2 := hw2.via b1
     go_wp2_with fail
     refine (HN _ (h.via b2)).out.mono ?_
     rintro e v1 ⟨ht1, rfl⟩
     exact ⟨rfl, (Bt.below b2).trans ht1, rfl⟩
    | ok t r1 =>
     rw [hm] at HN
     clear hm
     go_enter Tryz.func136, Tryz.ntmps136
     go_wp2_with fail
     refine (C1 _ (h.via b0)).out.mono ?_
     rintro e w1 ⟨rfl, hw1⟩
     have b1 := hw1.via b0
     go_wp2_with fail
     refine (C2 _ (h.via b1)).out.mono ?_
     rintro e w2 ⟨rfl, hw2⟩
     have b2 := hw2.via b1
     go_wp2_with fail
     refine (HN _ (h.via b2)).out.mono ?_
     rintro e v1 ⟨ht1, hl1, hp1, v, rfl, p6, n6, c6, p7, n7, c7, rfl, z6, z7, z8⟩
     have hbt := (Bt.below (B := B) b2).trans ht1
     have hv1 : TeV _ v1 t _ := ⟨p6, n6, c6, p7, n7, c7, rfl, z6, z7, z8⟩
     have HR := Hid.intro (row_bt ((((Bt.refl B _).trans (Bt.below hw1)).trans (Bt.below hw2)).trans ht1) (by omega) hR0)
     have hn1 : w.heap.size < _ := (Array.getElem?_eq_some_iff.1 (row_bt (((Bt.refl B _).trans (Bt.below hw1)).trans (Bt.below hw2)) (by omega) hR0)).1
     go_wp2_with (with_reducible refine (id (?_ : wpList _ _ _ (Oper.mk _ (Op.store _ _ _) _ _ _ _ :: _) _ _)); refine wpList_store_row rfl _ _ _ rfl _ _ rfl rfl _ _ HR.out infoTree rfl rfl (by simp [Value.oneCell']) ?_)
     refine ret_cells rfl rfl (setRow_heap _ _ _ _ _ _ HR.out) Tryz.underlying103 infoTree rfl rfl (Post.ok ((hbt).row (Nat.le_refl _) _) (by omega) ((hp1).row hsz.1 _) ?_)
     exact hv1.res hn1 _
set_option maxRecDepth 100000 in
set_option maxHeartbeats 4000000 in
theorem level_five {K B o : Nat} {m : List Lx → Rs Te} (hS : TC K B o 136 m) : LC K B o 5 m := by
 intro r w h
 have hsz := h.size
 obtain ⟨l, c2⟩ := h.lev
 have hB : B < w.heap.size := by omega
 have hR0 : (w.alloc z9).heap[w.heap.size]? = some z9 := heap_alloc_new w _
 have b0 : Below w.heap.size w (w.alloc z9) := below_al (Below.refl _ _) _
 unfold z9 at hR0 b0
 have HN := fun w h => Hid.intro (hS r w h)
 cases hm : m r with
 | bad q =>
  rw [hm] at HN
  clear hm
  go_enter Tryz.func90, Tryz.ntmps90
  go_wp2_with fail
  refine (HN _ (h.via b0)).out.mono ?_
  rintro e v1 ⟨ht1, rfl⟩
  exact ⟨rfl, (Bt.below b0).trans ht1, rfl⟩
 | ok t r1 =>
  rw [hm] at HN
  clear hm
  go_enter Tryz.func90, Tryz.ntmps90
  go_wp2_with fail
  refine (HN _ (h.via b0)).out.mono ?_
  rintro e v1 ⟨ht1, hl1, hp1, v, rfl, p6, n6, c6, p7, n7, c7, rfl, z6, z7, z8⟩
  have hbt := (Bt.below (B := B) b0).trans ht1
  have hv1 : TeV _ v1 t _ := ⟨p6, n6, c6, p7, n7, c7, rfl, z6, z7, z8⟩
  have HR := Hid.intro (row_bt ht1 (by omega) hR0)
  go_wp2_with (with_reducible refine (id (?_ : wpList _ _ _ (Oper.mk _ (Op.store _ _ _) _ _ _ _ :: _) _ _)); refine wpList_store_row rfl _ _ _ rfl _ _ rfl rfl _ _ HR.out infoTree rfl rfl (by simp [Value.oneCell']) ?_)
  refine ret_cells rfl rfl (setRow_heap _ _ _ _ _ _ HR.out) Tryz.underlying103 infoTree rfl rfl (Post.ok ((hbt).row (Nat.le_refl _) _) hl1 ((hp1).row hsz.1 _) ?_)
  exact hv1.res (by simp) _
set_option maxRecDepth 100000 in
set_option maxHeartbeats 8000000 in
theorem level_succ {K B o n : Nat} {N : List Lx → Rs Te} (hn : n < 5) (hN : LC K B o ((n : Int) + 1) N) : LC K B o (n : Int) (fun r => (N r).bd fun t r => levelL N n r.length t r) := by
 intro r w h
 have hsz := h.size
 obtain ⟨l, c2⟩ := h.lev
 have hB : B < w.heap.size := by omega
 have hn5 : ((n : Int) == 5) = false := beq_false_of_ne (by omega)
 have hR0 : (w.alloc z9).heap[w.heap.size]? = some z9 := heap_alloc_new w _
 have b0 : Below w.heap.size w (w.alloc z9) := below_al (Below.refl _ _) _
 unfold z9 at hR0 b0
 have hn9 : (n : Int) + 1 ≤ 9223372036854775807 := by omega
 have HA := Hid.intro (hN r _ (h.via b0))
 show Calls _ _ _ _ (Post K B o (r.length - 1) w ((N r).bd fun t r => levelL N n r.length t r) _)
 cases hm : N r with
 | bad q =>
  rw [hm] at HA
  clear hm
  go_enter Tryz.func90, Tryz.ntmps90
  go_wp2_with fail
  refine HA.out.mono ?_
  rintro e w1 ⟨hb, rfl⟩
  exact ⟨rfl, (Bt.below b0).trans hb, rfl⟩
 | ok t1 r1 =>
  rw [hm] at HA
  clear hm
  simp only [bd_ok]
  have HOp := fun r w (h : PAt K w B r o) => Hid.intro (operator_any h n hn)
  have HNx := fun x r w (h : PAt K w B (x :: r) o) hx => Hid.intro (next_any h hx)
  have HL := fun r w (h : PAt K w B r o) => Hid.intro (hN r w h)
  have hmo : Tryz.prog.follows .mixedOrders = true := by kernel_rfl
  have Hn2 : Hid (((n : Int) == 2) = decide (n = 2)) := by
   show _ = _
   by_cases h2 : n = 2
   ·subst h2; rfl
   ·rw [decide_eq_false h2]; exact beq_false_of_ne (by omega)
  go_enter Tryz.func90, Tryz.ntmps90
  go_wp2_with fail
  refine HA.out.mono ?_
  rintro e w1 ⟨hb, hl, hp, v, rfl, p6, n6, c6, p7, n7, c7, rfl, h6, h7, h8⟩
  have hT0 := TB.new (n := w.heap.size + 1) (B := B) (w := w1) (t := t1) (cells := #[.int .i64 t1.e.op, .string t1.e.t, .int .i64 t1.e.v.k, .bool t1.e.v.b, .int .i64 t1.e.v.i, .string t1.e.v.s, .slice p6 n6 c6, .slice p7 n7 c7, .int .i64 (t1.d : Int)]) (by omega) (by have := hb.size; simpa using this) rfl (TeV.move ⟨p6, n6, c6, p7, n7, c7, rfl, h6, h7, h8⟩ Kp.refl (fun b _ h => by simpa using h))
  clear h6 h7
  have hR1 := row_bt hb (by omega) hR0
  have hs1 : w.heap.size < w1.heap.size := (Array.getElem?_eq_some_iff.1 hR1).1
  go_wp2_with fail
  refine (HOp r1 _ (hp.via (below_al (Below.refl _ _) _))).out.mono ?_
  rintro e w2 ⟨rfl, hw2⟩
  have HT0 := Hid.intro (hT0.bt (Bt.below hw2))
  have HP0 := Hid.intro ((hp.via (below_al (Below.refl _ _) _)).via hw2)
  have HB0 := Hid.intro ((((Bt.below (B := B) b0).trans hb).alloc (.cells #[.int .i64 t1.e.op, .string t1.e.t, .int .i64 t1.e.v.k, .bool t1.e.v.b, .int .i64 t1.e.v.i, .string t1.e.v.s, .slice p6 n6 c6, .slice p7 n7 c7, .int .i64 (t1.d : Int)] 103)).trans (Bt.below hw2))
  have HR0 := Hid.intro (row_bt (Bt.below (B := B) hw2) (by omega) ((heap_alloc_old _ _ hs1).trans hR1))
  obtain ⟨i0, b1, hib, hio⟩ := op_form (opM n r1)
  rw [hib]
  clear hib hT0
  go_wp2_with fail
  go_loopw [6, 7] (fun a6 a7 w' => ∃ t r' f i0 b1, a6 = .int .i64 i0 ∧ a7 = .bool b1 ∧ Hid (opM n r' = if b1 then some i0 else none) ∧ Hid (TB (w.heap.size + 1) B w1.heap.size w' t) ∧ Hid (PAt K w' B r' o) ∧ r'.length ≤ r.length - 1 ∧ r'.length ≤ f ∧ Hid (Bt B w w') ∧ Hid (w'.heap[w.heap.size]? = some (.cells #[.int .i64 0, .string ⟨#[]⟩, .int .i64 0, .bool false, .int .i64 0, .string ⟨#[]⟩, .slice none 0 0, .slice none 0 0, .int .i64 0] 103 (0, 0))) ∧ Hid (levelL N n f t r' = levelL N n r1.length t1 r1)) (fun _ _ w' => rlen B w')
  case atStart => exact ⟨t1, r1, r1.length, i0, b1, rfl, rfl, hio, HT0, HP0, hl, Nat.le_refl _, HB0, HR0, rfl⟩
  case round =>
   obtain ⟨t, r', f, i1, b2, rfl, rfl, HO, HT, HP, hl', hlf, HB, HR, HE⟩ := hrel
   obtain ⟨x, r0, rfl, -⟩ := gd_cons HP.out.gd
   obtain ⟨f, rfl⟩ : ∃ f', f = f' + 1 := ⟨f - 1, by simp at hlf; omega⟩
   cases b2 with
   | false =>
    have HE : Hid (Rs.ok t (x :: r0) = levelL N n r1.length t1 r1) := by
     have := HE.out
     rw [levelL, show opM n (x :: r0) = none from HO.out] at this
     exact this
    obtain ⟨q6, m6, d6, q7, m7, d7, ho, hv2⟩ := HT.out.open
    have HO2 := Hid.intro ho
    go_wp2_with (first | (with_reducible refine (id (?_ : wpList _ _ _ (Oper.mk _ (Op.load _ _) _ _ _ _ :: _) _ _)); refine wpList_load_cells rfl _ _ rfl _ rfl _ _ _ HO2.out Tryz.underlying103 infoTree rfl ?_) | (with_reducible refine (id (?_ : wpList _ _ _ (Oper.mk _ (Op.store _ _ _) _ _ _ _ :: _) _ _)); refine wpList_store_row rfl _ _ _ rfl _ _ rfl rfl _ _ HR.out infoTree rfl rfl (by simp [Value.oneCell']) ?_))
    refine ret_cells rfl rfl (setRow_heap _ _ _ _ _ _ HR.out) Tryz.underlying103 infoTree rfl rfl ?_
    rw [← HE.out]
    refine Post.ok ((HB.out).row (Nat.le_refl _) _) hl' ((HP.out).row hsz.1 _) ?_
    exact hv2.move ⟨by simp, fun b hb _ o => World.cell?_of_block (a := ⟨b, o, none⟩) (setRow_other _ _ _ _ (by simp only; omega))⟩ (fun b _ h => by omega)
   | true =>
    generalize hop : i1 = op
    subst hop
    generalize i1 = op at *
    have hop : opM n (x :: r0) = some op := HO.out
    have hx : x.k ≠ -1 := by
     intro e
     simp [opM, e] at hop
    have HE : Hid ((N r0).bd (fun u r' => (nodeM x.a { op := op } [t, u] r').bd fun t r => if n = 2 then .ok t r else levelL N n f t r) = levelL N n r1.length t1 r1) := by
     have := HE.out
     rw [levelL, hop] at this
     exact this
    clear hop HO
    have hfa := fld_a x.k x.a x.e x.t
    go_wp2_with fail
    refine (HNx x r0 wr HP.out hx).out.mono ?_
    rintro e w3 ⟨rfl, hb3, hp3⟩
    have hT3d : Hid (TB (w.heap.size + 1) B w1.heap.size w3.drew t) := (HT.out.bt hb3).bt (Bt.refl B w3).drew
    have hR3d : w3.drew.heap[w.heap.size]? = _ := row_bt hb3 (by omega) HR.out
    have hd30 : t.d ≤ 30 := by obtain ⟨-, -, _, -, -, _, _, _, _, _, _, -, -, -, h⟩ := HT.out; exact h
    have hE3 : w1.heap.size < w3.heap.size := (Array.getElem?_eq_some_iff.1 hT3d.out.open.choose_spec.choose_spec.choose_spec.choose_spec.choose_spec.choose_spec.1).1
    have hdr : w3.drew.heap.size = w3.heap.size := rfl
    have hwr : IntKind.i64.wrap ((n : Int) + 1) = (n : Int) + 1 := by simp [IntKind.wrap, IntKind.bits, IntKind.signed]; omega
    go_wp2_with fail
    cases hnm : N r0 with
    | bad q =>
     rw [hnm, bd_bad] at HE
     refine wp_region_held_drew (S := fun _ => True) hmo trivial (fun _ => ?_)
     refine take_q 0 38 (.int .i64 (x.a : Int)) ⟨_, rfl, rfl, Or.inl ⟨by rfl, fun w hSw => by go_simp⟩⟩ (by kernel_rfl) (by kernel_rfl) (by kernel_rfl) (fun _ _ _ h => h) trivial ?_
     simp only [n3]
     refine take_q 1 39 (.int .i64 op) ⟨_, rfl, rfl, Or.inl ⟨by rfl, fun w hSw => by go_simp⟩⟩ (by kernel_rfl) (by kernel_rfl) (by kernel_rfl) (fun _ _ _ h => h) trivial ?_
     simp only [n3]
     refine take_q 2 40 (.agg #[.int .i64 op, .string ⟨#[]⟩, .int .i64 0, .bool false, .int .i64 0, .string ⟨#[]⟩, .slice none 0 0, .slice none 0 0]) ⟨_, rfl, rfl, Or.inl ⟨by rfl, fun w hSw => by go_simp⟩⟩ (by kernel_rfl) (by kernel_rfl) (by kernel_rfl) (fun _ _ _ h => h) trivial ?_
     simp only [n3]
     refine take_q 4 42 (.pointer (some ⟨B, 0, none⟩)) ⟨_, rfl, rfl, Or.inl ⟨by rfl, fun w hSw => by go_simp⟩⟩ (by kernel_rfl) (by kernel_rfl) (by kernel_rfl) (fun _ _ _ h => h) trivial ?_
     simp only [n3]
     refine take_q 5 43 (.int .i64 (n : Int)) ⟨_, rfl, rfl, Or.inl ⟨by rfl, fun w hSw => by go_simp⟩⟩ (by kernel_rfl) (by kernel_rfl) (by kernel_rfl) (fun _ _ _ h => h) trivial ?_
     simp only [n3]
     refine take_q 6 44 (.int .i64 ((n : Int) + 1)) ⟨_, rfl, rfl, Or.inl ⟨by rfl, fun w hSw => by go_simp⟩⟩ (by kernel_rfl) (by kernel_rfl) (by kernel_rfl) (fun _ _ _ h => h) trivial ?_
     simp only [n3]
     refine on2 3 7 rfl (fun K' hK => ?_) rfl (fun K' hK => ?_)
     ·obtain ⟨q6, m6, d6, q7, m7, d7, ho3, hv3⟩ := hT3d.out.open
      have HO3 := Hid.intro ho3
      rw [if_pos (by rfl)]
      refine wp_load_cells _ _ rfl _ rfl _ _ _ HO3.out Tryz.underlying103 infoTree rfl ?_
      refine hK.out _ _ trivial (fun _ => ?_)
      clear hK K'
      (try simp only [Act.put, List.setIfInBounds_toArray])
      refine on1 7 rfl (fun K' hK => ?_)
      go_simp
      refine (HL r0 w3.drew (hp3.via (Below.refl _ _).drew)).out.mono ?_
      rw [hnm]
      rintro e w4 ⟨hb4, rfl⟩
      refine ⟨rfl, ((HB.out).trans hb3).drew.trans hb4, ?_⟩
      rw [← HE.out]
     ·go_simp
      refine (HL r0 w3.drew (hp3.via (Below.refl _ _).drew)).out.mono ?_
      rw [hnm]
      rintro e w4 ⟨hb4, rfl⟩
      refine ⟨rfl, ((HB.out).trans hb3).drew.trans hb4, ?_⟩
      rw [← HE.out]
    | ok u r2 =>
     rw [hnm, bd_ok] at HE
     by_cases h30 : 30 < deepM [t, u]
     ·have hnd : nodeM x.a { op := op } [t, u] r2 = .bad x.a := if_pos h30
      rw [hnd, bd_bad] at HE
      refine wp_region_held_drew (S := fun _ => True) hmo trivial (fun _ => ?_)
      refine take_q 0 38 (.int .i64 (x.a : Int)) ⟨_, rfl, rfl, Or.inl ⟨by rfl, fun w hSw => by go_simp⟩⟩ (by kernel_rfl) (by kernel_rfl) (by kernel_rfl) (fun _ _ _ h => h) trivial ?_
      simp only [n3]
      refine take_q 1 39 (.int .i64 op) ⟨_, rfl, rfl, Or.inl ⟨by rfl, fun w hSw => by go_simp⟩⟩ (by kernel_rfl) (by kernel_rfl) (by kernel_rfl) (fun _ _ _ h => h) trivial ?_
      simp only [n3]
      refine take_q 2 40 (.agg #[.int .i64 op, .string ⟨#[]⟩, .int .i64 0, .bool false, .int .i64 0, .string ⟨#[]⟩, .slice none 0 0, .slice none 0 0]) ⟨_, rfl, rfl, Or.inl ⟨by rfl, fun w hSw => by go_simp⟩⟩ (by kernel_rfl) (by kernel_rfl) (by kernel_rfl) (fun _ _ _ h => h) trivial ?_
      simp only [n3]
      refine take_q 4 42 (.pointer (some ⟨B, 0, none⟩)) ⟨_, rfl, rfl, Or.inl ⟨by rfl, fun w hSw => by go_simp⟩⟩ (by kernel_rfl) (by kernel_rfl) (by kernel_rfl) (fun _ _ _ h => h) trivial ?_
      simp only [n3]
      refine take_q 5 43 (.int .i64 (n : Int)) ⟨_, rfl, rfl, Or.inl ⟨by rfl, fun w hSw => by go_simp⟩⟩ (by kernel_rfl) (by kernel_rfl) (by kernel_rfl) (fun _ _ _ h => h) trivial ?_
      simp only [n3]
      refine take_q 6 44 (.int .i64 ((n : Int) + 1)) ⟨_, rfl, rfl, Or.inl ⟨by rfl, fun w hSw => by go_simp⟩⟩ (by kernel_rfl) (by kernel_rfl) (by kernel_rfl) (fun _ _ _ h => h) trivial ?_
      simp only [n3]
      refine on2 3 7 rfl (fun K' hK => ?_) rfl (fun K' hK => ?_)
      ·obtain ⟨q6, m6, d6, q7, m7, d7, ho3, hv3⟩ := hT3d.out.open
       have HO3 := Hid.intro ho3
       rw [if_pos (by rfl)]
       refine wp_load_cells _ _ rfl _ rfl _ _ _ HO3.out Tryz.underlying103 infoTree rfl ?_
       refine hK.out _ _ trivial (fun _ => ?_)
       clear hK K'
       (try simp only [Act.put, List.setIfInBounds_toArray])
       refine on1 7 rfl (fun K' hK => ?_)
       go_simp
       refine (HL r0 w3.drew (hp3.via (Below.refl _ _).drew)).out.mono ?_
       rw [hnm]
       rintro e w4 ⟨hb4, hl4, hp4, v4, rfl, u6, n6', c6', u7, n7', c7', rfl, k6, k7, k8⟩
       go_wp2_with fail
       refine hK.out _ _ trivial (fun _ => ?_)
       clear hK K'
       (try simp only [Act.put, n3])
       have hE4 : w1.heap.size < w4.heap.size := Nat.lt_of_lt_of_le hE3 hb4.size
       have hR4 := row_bt hb4 (by omega) hR3d
       have hT4 := hT3d.out.bt hb4
       obtain ⟨x6, x6n, x6c, x7, x7n, x7c, hxe, g6, g7, g8⟩ := hv3.move (hb4.kp (by omega)) (fun _ _ h => h)
       simp only [Value.agg.injEq, Array.mk.injEq, List.cons.injEq, true_and, and_true] at hxe
       obtain ⟨hx6, hx7⟩ := hxe
       rw [← hx6] at g6
       rw [← hx7] at g7
       refine on1 8 rfl (fun K' hK => ?_)
       go_simp
       go_wp2_with fail
       refine hK.out _ _ trivial (fun _ => ?_)
       clear hK K'
       (try simp only [Act.put, n3])
       refine on1 9 rfl (fun K' hK => ?_)
       have hka := Kp.alloc (P := fun b => w.heap.size + 1 ≤ b ∧ b ≠ w1.heap.size) w4 (.cells #[.int .i64 t.e.op, .string t.e.t, .int .i64 t.e.v.k, .bool t.e.v.b, .int .i64 t.e.v.i, .string t.e.v.s, .slice q6 m6 d6, .slice q7 m7 d7, .int .i64 (t.d : Int), .int .i64 u.e.op, .string u.e.t, .int .i64 u.e.v.k, .bool u.e.v.b, .int .i64 u.e.v.i, .string u.e.v.s, .slice u6 n6' c6', .slice u7 n7' c7', .int .i64 (u.d : Int)] 103)
       go_simp
       refine (node_any x.a op ⟨#[]⟩ [t, u] (two_trees (heap_alloc_new w4 _) (rep.move hka (fun _ _ h => h) _ _ g6) (rep.move hka (fun _ _ h => h) _ _ g7) (rep.move (Kp.alloc (P := fun b => w3.drew.heap.size ≤ b) w4 _) (fun b _ h => by omega) _ _ k6) (rep.move (Kp.alloc (P := fun b => w3.drew.heap.size ≤ b) w4 _) (fun b _ h => by omega) _ _ k7)) (by simp; exact ⟨hd30, k8⟩) (by simp)).mono ?_
       rintro e w6 ⟨hb6, he6⟩
       have hbt6 : Bt B w w6 := ((((HB.out).trans hb3).drew.trans hb4).alloc _).trans (Bt.below hb6)
       rw [if_pos h30] at he6
       subst he6
       refine ⟨rfl, hbt6, ?_⟩
       rw [← HE.out]
      ·go_simp
       refine (HL r0 w3.drew (hp3.via (Below.refl _ _).drew)).out.mono ?_
       rw [hnm]
       rintro e w4 ⟨hb4, hl4, hp4, v4, rfl, u6, n6', c6', u7, n7', c7', rfl, k6, k7, k8⟩
       go_wp2_with fail
       refine hK.out _ _ trivial (fun _ => ?_)
       clear hK K'
       (try simp only [Act.put, n3])
       have hE4 : w1.heap.size < w4.heap.size := Nat.lt_of_lt_of_le hE3 hb4.size
       have hR4 := row_bt hb4 (by omega) hR3d
       have hT4 := hT3d.out.bt hb4
       obtain ⟨q6, m6, d6, q7, m7, d7, ho4, x6, x6n, x6c, x7, x7n, x7c, hxe, g6, g7, g8⟩ := hT4.open
       have HO4 := Hid.intro ho4
       simp only [Value.agg.injEq, Array.mk.injEq, List.cons.injEq, true_and, and_true] at hxe
       obtain ⟨hx6, hx7⟩ := hxe
       rw [← hx6] at g6
       rw [← hx7] at g7
       refine on1 3 rfl (fun K' hK => ?_)
       rw [if_pos (by rfl)]
       refine wp_load_cells _ _ rfl _ rfl _ _ _ HO4.out Tryz.underlying103 infoTree rfl ?_
       refine hK.out _ _ trivial (fun _ => ?_)
       clear hK K'
       (try simp only [Act.put, List.setIfInBounds_toArray])
       refine on1 8 rfl (fun K' hK => ?_)
       go_simp
       go_wp2_with fail
       refine hK.out _ _ trivial (fun _ => ?_)
       clear hK K'
       (try simp only [Act.put, n3])
       refine on1 9 rfl (fun K' hK => ?_)
       have hka := Kp.alloc (P := fun b => w.heap.size + 1 ≤ b ∧ b ≠ w1.heap.size) w4 (.cells #[.int .i64 t.e.op, .string t.e.t, .int .i64 t.e.v.k, .bool t.e.v.b, .int .i64 t.e.v.i, .string t.e.v.s, .slice q6 m6 d6, .slice q7 m7 d7, .int .i64 (t.d : Int), .int .i64 u.e.op, .string u.e.t, .int .i64 u.e.v.k, .bool u.e.v.b, .int .i64 u.e.v.i, .string u.e.v.s, .slice u6 n6' c6', .slice u7 n7' c7', .int .i64 (u.d : Int)] 103)
       go_simp
       refine (node_any x.a op ⟨#[]⟩ [t, u] (two_trees (heap_alloc_new w4 _) (rep.move hka (fun _ _ h => h) _ _ g6) (rep.move hka (fun _ _ h => h) _ _ g7) (rep.move (Kp.alloc (P := fun b => w3.drew.heap.size ≤ b) w4 _) (fun b _ h => by omega) _ _ k6) (rep.move (Kp.alloc (P := fun b => w3.drew.heap.size ≤ b) w4 _) (fun b _ h => by omega) _ _ k7)) (by simp; exact ⟨hd30, k8⟩) (by simp)).mono ?_
       rintro e w6 ⟨hb6, he6⟩
       have hbt6 : Bt B w w6 := ((((HB.out).trans hb3).drew.trans hb4).alloc _).trans (Bt.below hb6)
       rw [if_pos h30] at he6
       subst he6
       refine ⟨rfl, hbt6, ?_⟩
       rw [← HE.out]
     ·have hnd : nodeM x.a { op := op } [t, u] r2 = .ok ⟨{ op := op, a := [t, u].map Te.e }, deepM [t, u]⟩ r2 := if_neg h30
      rw [hnd, bd_ok] at HE
      refine wp_region_held_drew (S := fun _ => True) hmo trivial (fun _ => ?_)
      refine take_q 0 38 (.int .i64 (x.a : Int)) ⟨_, rfl, rfl, Or.inl ⟨by rfl, fun w hSw => by go_simp⟩⟩ (by kernel_rfl) (by kernel_rfl) (by kernel_rfl) (fun _ _ _ h => h) trivial ?_
      simp only [n3]
      refine take_q 1 39 (.int .i64 op) ⟨_, rfl, rfl, Or.inl ⟨by rfl, fun w hSw => by go_simp⟩⟩ (by kernel_rfl) (by kernel_rfl) (by kernel_rfl) (fun _ _ _ h => h) trivial ?_
      simp only [n3]
      refine take_q 2 40 (.agg #[.int .i64 op, .string ⟨#[]⟩, .int .i64 0, .bool false, .int .i64 0, .string ⟨#[]⟩, .slice none 0 0, .slice none 0 0]) ⟨_, rfl, rfl, Or.inl ⟨by rfl, fun w hSw => by go_simp⟩⟩ (by kernel_rfl) (by kernel_rfl) (by kernel_rfl) (fun _ _ _ h => h) trivial ?_
      simp only [n3]
      refine take_q 4 42 (.pointer (some ⟨B, 0, none⟩)) ⟨_, rfl, rfl, Or.inl ⟨by rfl, fun w hSw => by go_simp⟩⟩ (by kernel_rfl) (by kernel_rfl) (by kernel_rfl) (fun _ _ _ h => h) trivial ?_
      simp only [n3]
      refine take_q 5 43 (.int .i64 (n : Int)) ⟨_, rfl, rfl, Or.inl ⟨by rfl, fun w hSw => by go_simp⟩⟩ (by kernel_rfl) (by kernel_rfl) (by kernel_rfl) (fun _ _ _ h => h) trivial ?_
      simp only [n3]
      refine take_q 6 44 (.int .i64 ((n : Int) + 1)) ⟨_, rfl, rfl, Or.inl ⟨by rfl, fun w hSw => by go_simp⟩⟩ (by kernel_rfl) (by kernel_rfl) (by kernel_rfl) (fun _ _ _ h => h) trivial ?_
      simp only [n3]
      refine on2 3 7 rfl (fun K' hK => ?_) rfl (fun K' hK => ?_)
      ·obtain ⟨q6, m6, d6, q7, m7, d7, ho3, hv3⟩ := hT3d.out.open
       have HO3 := Hid.intro ho3
       rw [if_pos (by rfl)]
       refine wp_load_cells _ _ rfl _ rfl _ _ _ HO3.out Tryz.underlying103 infoTree rfl ?_
       refine hK.out _ _ trivial (fun _ => ?_)
       clear hK K'
       (try simp only [Act.put, List.setIfInBounds_toArray])
       refine on1 7 rfl (fun K' hK => ?_)
       go_simp
       refine (HL r0 w3.drew (hp3.via (Below.refl _ _).drew)).out.mono ?_
       rw [hnm]
       rintro e w4 ⟨hb4, hl4, hp4, v4, rfl, u6, n6', c6', u7, n7', c7', rfl, k6, k7, k8⟩
       go_wp2_with fail
       refine hK.out _ _ trivial (fun _ => ?_)
       clear hK K'
       (try simp only [Act.put, n3])
       have hE4 : w1.heap.size < w4.heap.size := Nat.lt_of_lt_of_le hE3 hb4.size
       have hR4 := row_bt hb4 (by omega) hR3d
       have hT4 := hT3d.out.bt hb4
       obtain ⟨x6, x6n, x6c, x7, x7n, x7c, hxe, g6, g7, g8⟩ := hv3.move (hb4.kp (by omega)) (fun _ _ h => h)
       simp only [Value.agg.injEq, Array.mk.injEq, List.cons.injEq, true_and, and_true] at hxe
       obtain ⟨hx6, hx7⟩ := hxe
       rw [← hx6] at g6
       rw [← hx7] at g7
       refine on1 8 rfl (fun K' hK => ?_)
       go_simp
       go_wp2_with fail
       refine hK.out _ _ trivial (fun _ => ?_)
       clear hK K'
       (try simp only [Act.put, n3])
       refine on1 9 rfl (fun K' hK => ?_)
       have hka := Kp.alloc (P := fun b => w.heap.size + 1 ≤ b ∧ b ≠ w1.heap.size) w4 (.cells #[.int .i64 t.e.op, .string t.e.t, .int .i64 t.e.v.k, .bool t.e.v.b, .int .i64 t.e.v.i, .string t.e.v.s, .slice q6 m6 d6, .slice q7 m7 d7, .int .i64 (t.d : Int), .int .i64 u.e.op, .string u.e.t, .int .i64 u.e.v.k, .bool u.e.v.b, .int .i64 u.e.v.i, .string u.e.v.s, .slice u6 n6' c6', .slice u7 n7' c7', .int .i64 (u.d : Int)] 103)
       go_simp
       refine (node_any x.a op ⟨#[]⟩ [t, u] (two_trees (heap_alloc_new w4 _) (rep.move hka (fun _ _ h => h) _ _ g6) (rep.move hka (fun _ _ h => h) _ _ g7) (rep.move (Kp.alloc (P := fun b => w3.drew.heap.size ≤ b) w4 _) (fun b _ h => by omega) _ _ k6) (rep.move (Kp.alloc (P := fun b => w3.drew.heap.size ≤ b) w4 _) (fun b _ h => by omega) _ _ k7)) (by simp; exact ⟨hd30, k8⟩) (by simp)).mono ?_
       rintro e w6 ⟨hb6, he6⟩
       have hbt6 : Bt B w w6 := ((((HB.out).trans hb3).drew.trans hb4).alloc _).trans (Bt.below hb6)
       rw [if_neg h30] at he6
       obtain ⟨v6, rfl, y6, a6, e6, y7, a7, e7, rfl, z6, z7, z8⟩ := he6
       go_wp2_with fail
       refine hK.out _ _ trivial (fun _ => ?_)
       clear hK K'
       (try simp only [Act.put, n3])
       refine on1 10 rfl (fun K' hK => ?_)
       have HO6 := Hid.intro (row_call hb6 (by simp; omega) ((heap_alloc_old w4 _ hE4).trans hT4.open.choose_spec.choose_spec.choose_spec.choose_spec.choose_spec.choose_spec.1))
       rw [if_pos (by rfl)]
       refine wp_store_cells _ _ _ rfl _ _ rfl rfl _ _ HO6.out infoTree rfl rfl (by simp [Value.oneCell']) ?_
       refine hK.out _ _ trivial (fun _ => ?_)
       clear hK K'
       (try simp only [Act.put, List.setIfInBounds_toArray])
       refine wpAnyH_done (by kernel_rfl) ?_ _
       have hsal : (w4.alloc (.cells #[.int .i64 t.e.op, .string t.e.t, .int .i64 t.e.v.k, .bool t.e.v.b, .int .i64 t.e.v.i, .string t.e.v.s, .slice q6 m6 d6, .slice q7 m7 d7, .int .i64 (t.d : Int), .int .i64 u.e.op, .string u.e.t, .int .i64 u.e.v.k, .bool u.e.v.b, .int .i64 u.e.v.i, .string u.e.v.s, .slice u6 n6' c6', .slice u7 n7' c7', .int .i64 (u.d : Int)] 103)).heap.size = w4.heap.size + 1 := by simp
       have hT6 : Hid (TB (w.heap.size + 1) B w1.heap.size (w6.setRow w1.heap.size #[.int .i64 op, .string ⟨#[]⟩, .int .i64 0, .bool false, .int .i64 0, .string ⟨#[]⟩, .slice y6 a6 e6, .slice y7 a7 e7, .int .i64 (deepM [t, u] : Int)]) ⟨{ op := op, a := [t, u].map Te.e }, deepM [t, u]⟩) := TB.put (by omega) (by omega) HO6.out rfl ⟨y6, a6, e6, y7, a7, e7, rfl, rep.move Kp.refl (fun b _ h => by rcases h with (h | h) | h <;> omega) _ _ z6, rep.move Kp.refl (fun b _ h => by rcases h with (h | h) | h <;> omega) _ _ z7, z8⟩
       have hB6 : Hid (Bt B w (w6.setRow w1.heap.size #[.int .i64 op, .string ⟨#[]⟩, .int .i64 0, .bool false, .int .i64 0, .string ⟨#[]⟩, .slice y6 a6 e6, .slice y7 a7 e7, .int .i64 (deepM [t, u] : Int)])) := hbt6.row (by omega) _
       have hP6 : Hid (PAt K (w6.setRow w1.heap.size #[.int .i64 op, .string ⟨#[]⟩, .int .i64 0, .bool false, .int .i64 0, .string ⟨#[]⟩, .slice y6 a6 e6, .slice y7 a7 e7, .int .i64 (deepM [t, u] : Int)]) B r2 o) := ((hp4.via (below_al (Below.refl _ _) _)).via hb6).row (by omega) _
       have hR6 : Hid ((w6.setRow w1.heap.size #[.int .i64 op, .string ⟨#[]⟩, .int .i64 0, .bool false, .int .i64 0, .string ⟨#[]⟩, .slice y6 a6 e6, .slice y7 a7 e7, .int .i64 (deepM [t, u] : Int)]).heap[w.heap.size]? = _) := (setRow_other _ _ _ _ (by omega)).trans (row_call hb6 (by omega) ((heap_alloc_old w4 _ (by omega)).trans hR4))
       have hrl := HP.out.rlen
       have hrl6 := hP6.out.rlen
       simp only [List.length_cons] at hrl hlf hl'
       generalize (w6.setRow w1.heap.size #[.int .i64 op, .string ⟨#[]⟩, .int .i64 0, .bool false, .int .i64 0, .string ⟨#[]⟩, .slice y6 a6 e6, .slice y7 a7 e7, .int .i64 (deepM [t, u] : Int)]) = W6 at hT6 hB6 hP6 hrl6 hR6 ⊢
       clear HO6 hb6 z6 z7 z8 k6 k7 g6 g7 hbt6
       by_cases h2 : n = 2
       ·have h2i : ((n : Int) == 2) = true := by rw [Hn2.out, decide_eq_true h2]
        rw [if_pos h2] at HE
        obtain ⟨b6, b6n, b6c, b7, b7n, b7c, ho7, hv7⟩ := hT6.out.open
        have HO7 := Hid.intro ho7
        clear h2
        go_wp2_with (first | (with_reducible refine (id (?_ : wpList _ _ _ (Oper.mk _ (Op.load _ _) _ _ _ _ :: _) _ _)); refine wpList_load_cells rfl _ _ rfl _ rfl _ _ _ HO7.out Tryz.underlying103 infoTree rfl ?_) | (with_reducible refine (id (?_ : wpList _ _ _ (Oper.mk _ (Op.store _ _ _) _ _ _ _ :: _) _ _)); refine wpList_store_row rfl _ _ _ rfl _ _ rfl rfl _ _ hR6.out infoTree rfl rfl (by simp [Value.oneCell']) ?_))
        refine ret_cells rfl rfl (setRow_heap _ _ _ _ _ _ hR6.out) Tryz.underlying103 infoTree rfl rfl ?_
        rw [← HE.out]
        refine Post.ok ((hB6.out).row (Nat.le_refl _) _) (by omega) ((hP6.out).row hsz.1 _) ?_
        exact hv7.move ⟨by simp, fun b hb _ o => World.cell?_of_block (a := ⟨b, o, none⟩) (setRow_other _ _ _ _ (by simp only; omega))⟩ (fun b _ h => by omega)
       ·have h2i : ((n : Int) == 2) = false := by rw [Hn2.out, decide_eq_false h2]
        rw [if_neg h2] at HE
        clear h2
        go_wp2_with fail
        refine (HOp r2 W6 hP6.out).out.mono ?_
        rintro e w7 ⟨rfl, hw7⟩
        have hrl7 := (hP6.out.via hw7).rlen
        obtain ⟨i2, b3, hib, hio⟩ := op_form (opM n r2)
        rw [hib]
        clear hib
        go_wp2_with fail
        go_roundw
        case rel => exact ⟨_, r2, f, i2, b3, rfl, rfl, hio, hT6.out.bt (Bt.below hw7), hP6.out.via hw7, by omega, by omega, hB6.out.trans (Bt.below hw7), row_bt (Bt.below (B := B) hw7) (by omega) hR6.out, HE⟩
        case measure => rw [hrl, hrl7]; omega
      ·go_simp
       refine (HL r0 w3.drew (hp3.via (Below.refl _ _).drew)).out.mono ?_
       rw [hnm]
       rintro e w4 ⟨hb4, hl4, hp4, v4, rfl, u6, n6', c6', u7, n7', c7', rfl, k6, k7, k8⟩
       go_wp2_with fail
       refine hK.out _ _ trivial (fun _ => ?_)
       clear hK K'
       (try simp only [Act.put, n3])
       have hE4 : w1.heap.size < w4.heap.size := Nat.lt_of_lt_of_le hE3 hb4.size
       have hR4 := row_bt hb4 (by omega) hR3d
       have hT4 := hT3d.out.bt hb4
       obtain ⟨q6, m6, d6, q7, m7, d7, ho4, x6, x6n, x6c, x7, x7n, x7c, hxe, g6, g7, g8⟩ := hT4.open
       have HO4 := Hid.intro ho4
       simp only [Value.agg.injEq, Array.mk.injEq, List.cons.injEq, true_and, and_true] at hxe
       obtain ⟨hx6, hx7⟩ := hxe
       rw [← hx6] at g6
       rw [← hx7] at g7
       refine on1 3 rfl (fun K' hK => ?_)
       rw [if_pos (by rfl)]
       refine wp_load_cells _ _ rfl _ rfl _ _ _ HO4.out Tryz.underlying103 infoTree rfl ?_
       refine hK.out _ _ trivial (fun _ => ?_)
       clear hK K'
       (try simp only [Act.put, List.setIfInBounds_toArray])
       refine on1 8 rfl (fun K' hK => ?_)
       go_simp
       go_wp2_with fail
       refine hK.out _ _ trivial (fun _ => ?_)
       clear hK K'
       (try simp only [Act.put, n3])
       refine on1 9 rfl (fun K' hK => ?_)
       have hka := Kp.alloc (P := fun b => w.heap.size + 1 ≤ b ∧ b ≠ w1.heap.size) w4 (.cells #[.int .i64 t.e.op, .string t.e.t, .int .i64 t.e.v.k, .bool t.e.v.b, .int .i64 t.e.v.i, .string t.e.v.s, .slice q6 m6 d6, .slice q7 m7 d7, .int .i64 (t.d : Int), .int .i64 u.e.op, .string u.e.t, .int .i64 u.e.v.k, .bool u.e.v.b, .int .i64 u.e.v.i, .string u.e.v.s, .slice u6 n6' c6', .slice u7 n7' c7', .int .i64 (u.d : Int)] 103)
       go_simp
       refine (node_any x.a op ⟨#[]⟩ [t, u] (two_trees (heap_alloc_new w4 _) (rep.move hka (fun _ _ h => h) _ _ g6) (rep.move hka (fun _ _ h => h) _ _ g7) (rep.move (Kp.alloc (P := fun b => w3.drew.heap.size ≤ b) w4 _) (fun b _ h => by omega) _ _ k6) (rep.move (Kp.alloc (P := fun b => w3.drew.heap.size ≤ b) w4 _) (fun b _ h => by omega) _ _ k7)) (by simp; exact ⟨hd30, k8⟩) (by simp)).mono ?_
       rintro e w6 ⟨hb6, he6⟩
       have hbt6 : Bt B w w6 := ((((HB.out).trans hb3).drew.trans hb4).alloc _).trans (Bt.below hb6)
       rw [if_neg h30] at he6
       obtain ⟨v6, rfl, y6, a6, e6, y7, a7, e7, rfl, z6, z7, z8⟩ := he6
       go_wp2_with fail
       refine hK.out _ _ trivial (fun _ => ?_)
       clear hK K'
       (try simp only [Act.put, n3])
       refine on1 10 rfl (fun K' hK => ?_)
       have HO6 := Hid.intro (row_call hb6 (by simp; omega) ((heap_alloc_old w4 _ hE4).trans hT4.open.choose_spec.choose_spec.choose_spec.choose_spec.choose_spec.choose_spec.1))
       rw [if_pos (by rfl)]
       refine wp_store_cells _ _ _ rfl _ _ rfl rfl _ _ HO6.out infoTree rfl rfl (by simp [Value.oneCell']) ?_
       refine hK.out _ _ trivial (fun _ => ?_)
       clear hK K'
       (try simp only [Act.put, List.setIfInBounds_toArray])
       refine wpAnyH_done (by kernel_rfl) ?_ _
       have hsal : (w4.alloc (.cells #[.int .i64 t.e.op, .string t.e.t, .int .i64 t.e.v.k, .bool t.e.v.b, .int .i64 t.e.v.i, .string t.e.v.s, .slice q6 m6 d6, .slice q7 m7 d7, .int .i64 (t.d : Int), .int .i64 u.e.op, .string u.e.t, .int .i64 u.e.v.k, .bool u.e.v.b, .int .i64 u.e.v.i, .string u.e.v.s, .slice u6 n6' c6', .slice u7 n7' c7', .int .i64 (u.d : Int)] 103)).heap.size = w4.heap.size + 1 := by simp
       have hT6 : Hid (TB (w.heap.size + 1) B w1.heap.size (w6.setRow w1.heap.size #[.int .i64 op, .string ⟨#[]⟩, .int .i64 0, .bool false, .int .i64 0, .string ⟨#[]⟩, .slice y6 a6 e6, .slice y7 a7 e7, .int .i64 (deepM [t, u] : Int)]) ⟨{ op := op, a := [t, u].map Te.e }, deepM [t, u]⟩) := TB.put (by omega) (by omega) HO6.out rfl ⟨y6, a6, e6, y7, a7, e7, rfl, rep.move Kp.refl (fun b _ h => by rcases h with (h | h) | h <;> omega) _ _ z6, rep.move Kp.refl (fun b _ h => by rcases h with (h | h) | h <;> omega) _ _ z7, z8⟩
       have hB6 : Hid (Bt B w (w6.setRow w1.heap.size #[.int .i64 op, .string ⟨#[]⟩, .int .i64 0, .bool false, .int .i64 0, .string ⟨#[]⟩, .slice y6 a6 e6, .slice y7 a7 e7, .int .i64 (deepM [t, u] : Int)])) := hbt6.row (by omega) _
       have hP6 : Hid (PAt K (w6.setRow w1.heap.size #[.int .i64 op, .string ⟨#[]⟩, .int .i64 0, .bool false, .int .i64 0, .string ⟨#[]⟩, .slice y6 a6 e6, .slice y7 a7 e7, .int .i64 (deepM [t, u] : Int)]) B r2 o) := ((hp4.via (below_al (Below.refl _ _) _)).via hb6).row (by omega) _
       have hR6 : Hid ((w6.setRow w1.heap.size #[.int .i64 op, .string ⟨#[]⟩, .int .i64 0, .bool false, .int .i64 0, .string ⟨#[]⟩, .slice y6 a6 e6, .slice y7 a7 e7, .int .i64 (deepM [t, u] : Int)]).heap[w.heap.size]? = _) := (setRow_other _ _ _ _ (by omega)).trans (row_call hb6 (by omega) ((heap_alloc_old w4 _ (by omega)).trans hR4))
       have hrl := HP.out.rlen
       have hrl6 := hP6.out.rlen
       simp only [List.length_cons] at hrl hlf hl'
       generalize (w6.setRow w1.heap.size #[.int .i64 op, .string ⟨#[]⟩, .int .i64 0, .bool false, .int .i64 0, .string ⟨#[]⟩, .slice y6 a6 e6, .slice y7 a7 e7, .int .i64 (deepM [t, u] : Int)]) = W6 at hT6 hB6 hP6 hrl6 hR6 ⊢
       clear HO6 hb6 z6 z7 z8 k6 k7 g6 g7 hbt6
       by_cases h2 : n = 2
       ·have h2i : ((n : Int) == 2) = true := by rw [Hn2.out, decide_eq_true h2]
        rw [if_pos h2] at HE
        obtain ⟨b6, b6n, b6c, b7, b7n, b7c, ho7, hv7⟩ := hT6.out.open
        have HO7 := Hid.intro ho7
        clear h2
        go_wp2_with (first | (with_reducible refine (id (?_ : wpList _ _ _ (Oper.mk _ (Op.load _ _) _ _ _ _ :: _) _ _)); refine wpList_load_cells rfl _ _ rfl _ rfl _ _ _ HO7.out Tryz.underlying103 infoTree rfl ?_) | (with_reducible refine (id (?_ : wpList _ _ _ (Oper.mk _ (Op.store _ _ _) _ _ _ _ :: _) _ _)); refine wpList_store_row rfl _ _ _ rfl _ _ rfl rfl _ _ hR6.out infoTree rfl rfl (by simp [Value.oneCell']) ?_))
        refine ret_cells rfl rfl (setRow_heap _ _ _ _ _ _ hR6.out) Tryz.underlying103 infoTree rfl rfl ?_
        rw [← HE.out]
        refine Post.ok ((hB6.out).row (Nat.le_refl _) _) (by omega) ((hP6.out).row hsz.1 _) ?_
        exact hv7.move ⟨by simp, fun b hb _ o => World.cell?_of_block (a := ⟨b, o, none⟩) (setRow_other _ _ _ _ (by simp only; omega))⟩ (fun b _ h => by omega)
       ·have h2i : ((n : Int) == 2) = false := by rw [Hn2.out, decide_eq_false h2]
        rw [if_neg h2] at HE
        clear h2
        go_wp2_with fail
        refine (HOp r2 W6 hP6.out).out.mono ?_
        rintro e w7 ⟨rfl, hw7⟩
        have hrl7 := (hP6.out.via hw7).rlen
        obtain ⟨i2, b3, hib, hio⟩ := op_form (opM n r2)
        rw [hib]
        clear hib
        go_wp2_with fail
        go_roundw
        case rel => exact ⟨_, r2, f, i2, b3, rfl, rfl, hio, hT6.out.bt (Bt.below hw7), hP6.out.via hw7, by omega, by omega, hB6.out.trans (Bt.below hw7), row_bt (Bt.below (B := B) hw7) (by omega) hR6.out, HE⟩
        case measure => rw [hrl, hrl7]; omega
end
end Go.Proofs.YtoeodjobggodcaaGreatDoor
