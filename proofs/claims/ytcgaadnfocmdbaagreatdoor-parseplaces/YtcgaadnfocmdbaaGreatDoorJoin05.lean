import Derived.Test.YtcgaadnfocmdbaaGreatDoorJoin04

section
/- atom. -/
namespace Go.Proofs.YtcgaadnfocmdbaaGreatDoor
open Go.RowKit

theorem lit_tev (P : Nat → Prop) (w : World) (v : Vt) (hl : v.l = []) : TeV P w ⟨{ op := 1, v := v }, 1⟩ (.agg #[.int .i64 1, .string ⟨#[]⟩, .int .i64 v.k, .bool v.b, .int .i64 v.i, .string v.s, .slice none 0 0, .slice none 0 0, .int .i64 1]) := by
  refine ⟨none, 0, 0, none, 0, 0, rfl, ?_, rep.none, by simp⟩
  rw [hl]
  simpa [Vt.css] using (rep.none (P := P) (w := w))
theorem leaf_tev (P : Nat → Prop) (w : World) (op : Int) (s : ByteArray) : TeV P w ⟨{ op := op, t := s }, 1⟩ (.agg #[.int .i64 op, .string s, .int .i64 0, .bool false, .int .i64 0, .string ⟨#[]⟩, .slice none 0 0, .slice none 0 0, .int .i64 1]) :=
  ⟨none, 0, 0, none, 0, 0, rfl, rep.none, rep.none, by simp⟩
theorem isM_k {s : ByteArray} {x : Lx} {r : List Lx} (h : isM s (x :: r) = true) : x.k ≠ -1 := by intro e; simp [isM, spl, e] at h

set_option maxRecDepth 100000 in
set_option maxHeartbeats 2000000 in
theorem atom_0 {K B o : Nat} {r : List Lx} {w : World} (h : PAt K w B r o)  (h0 : isK 2 r = true) :
    Calls Tryz.prog 174 #[.pointer (some ⟨B, 0, none⟩)] w (Post K B o (r.length - 1) w ((numM 9223372036854775807 r).bd fun n r => litM { k := 2, i := n } r) fun w' t v => TeV (fun b => w.heap.size ≤ b) w' t v) := by
  have hne : 0 < r.length := by obtain ⟨x, r', rfl, -⟩ := gd_cons h.gd; simp
  have C0 := fun w (h : PAt K w B r o) => Hid.intro (isKind_any h 2)
  rw [h0] at C0
  have hsz := h.size
  have hR0 : (w.alloc z9).heap[w.heap.size]? = some z9 := heap_alloc_new w _
  have b0 : Below w.heap.size w (w.alloc z9) := below_al (Below.refl _ _) _
  unfold z9 at hR0 b0
  have HN := fun w (h : PAt K w B r o) => Hid.intro (number_any h 9223372036854775807 (Nat.le_refl _))
  clear h0
  cases hm : numM 9223372036854775807 r with
  | bad q =>
    rw [hm] at HN
    rw [bd_bad]
    clear hm
    go_enter Tryz.func174, Tryz.ntmps174
    go_wp2_with fail
    refine (C0 _ (h.via b0)).out.mono ?_
    rintro e w1 ⟨rfl, hw1⟩
    subst w1
    go_wp2_with fail
    refine (HN _ (h.via b0)).out.mono ?_
    rintro e v1 ⟨ht1, rfl⟩
    exact ⟨rfl, (Bt.below b0).trans ht1, rfl⟩
  | ok n r1 =>
    rw [hm] at HN
    rw [bd_ok]
    clear hm
    have HL := fun w => Hid.intro (literal_any 2 false (n : Int) ⟨#[]⟩ w)
    go_enter Tryz.func174, Tryz.ntmps174
    go_wp2_with fail
    refine (C0 _ (h.via b0)).out.mono ?_
    rintro e w1 ⟨rfl, hw1⟩
    subst w1
    go_wp2_with fail
    refine (HN _ (h.via b0)).out.mono ?_
    rintro e v1 ⟨ht1, hl1, hp1, v, rfl, rfl⟩
    go_wp2_with fail
    refine (HL _).out.mono ?_
    rintro e v2 ⟨rfl, hb2⟩
    have hbt := ((Bt.below (B := B) b0).trans ht1).trans (Bt.below hb2)
    have HR := Hid.intro (row_bt ((Bt.refl B _).trans (ht1.trans (Bt.below hb2))) (by omega) hR0)
    go_wp2_with (with_reducible refine (id (?_ : wpList _ _ _ (Oper.mk _ (Op.store _ _ _) _ _ _ _ :: _) _ _)); refine wpList_store_row rfl _ _ _ rfl _ _ rfl rfl _ _ HR.out infoTree rfl rfl (by simp [Value.oneCell']) ?_)
    refine ret_cells rfl rfl (setRow_heap _ _ _ _ _ _ HR.out) Tryz.underlying103 infoTree rfl rfl (Post.ok ((hbt).row (Nat.le_refl _) _) (by omega) (((hp1.via hb2)).row hsz.1 _) ?_)
    exact (lit_tev (fun b => w.heap.size + 1 ≤ b) v2 { k := 2, i := n } rfl).res (n := w.heap.size + 1) (by omega) _
set_option maxRecDepth 100000 in
set_option maxHeartbeats 2000000 in
theorem atom_1 {K B o : Nat} {r : List Lx} {w : World} (h : PAt K w B r o) (h0 : isK 2 r = false) (h1 : isK 3 r = true) :
    Calls Tryz.prog 174 #[.pointer (some ⟨B, 0, none⟩)] w (Post K B o (r.length - 1) w ((textM r).bd fun s r => litM { k := 3, s := s } r) fun w' t v => TeV (fun b => w.heap.size ≤ b) w' t v) := by
  have hne : 0 < r.length := by obtain ⟨x, r', rfl, -⟩ := gd_cons h.gd; simp
  have C0 := fun w (h : PAt K w B r o) => Hid.intro (isKind_any h 2)
  rw [h0] at C0
  have C1 := fun w (h : PAt K w B r o) => Hid.intro (isKind_any h 3)
  rw [h1] at C1
  have hsz := h.size
  have hR0 : (w.alloc z9).heap[w.heap.size]? = some z9 := heap_alloc_new w _
  have b0 : Below w.heap.size w (w.alloc z9) := below_al (Below.refl _ _) _
  unfold z9 at hR0 b0
  have HN := fun w (h : PAt K w B r o) => Hid.intro (ptext_any h)
  clear h0 h1
  cases hm : textM r with
  | bad q =>
    rw [hm] at HN
    rw [bd_bad]
    clear hm
    go_enter Tryz.func174, Tryz.ntmps174
    go_wp2_with fail
    refine (C0 _ (h.via b0)).out.mono ?_
    rintro e w1 ⟨rfl, hw1⟩
    subst w1
    go_wp2_with fail
    refine (C1 _ (h.via b0)).out.mono ?_
    rintro e w2 ⟨rfl, hw2⟩
    subst w2
    go_wp2_with fail
    refine (HN _ (h.via b0)).out.mono ?_
    rintro e v1 ⟨ht1, rfl⟩
    exact ⟨rfl, (Bt.below b0).trans ht1, rfl⟩
  | ok s r1 =>
    rw [hm] at HN
    rw [bd_ok]
    clear hm
    have HL := fun w => Hid.intro (literal_any 3 false 0 s w)
    go_enter Tryz.func174, Tryz.ntmps174
    go_wp2_with fail
    refine (C0 _ (h.via b0)).out.mono ?_
    rintro e w1 ⟨rfl, hw1⟩
    subst w1
    go_wp2_with fail
    refine (C1 _ (h.via b0)).out.mono ?_
    rintro e w2 ⟨rfl, hw2⟩
    subst w2
    go_wp2_with fail
    refine (HN _ (h.via b0)).out.mono ?_
    rintro e v1 ⟨ht1, hl1, hp1, v, rfl, rfl⟩
    go_wp2_with fail
    refine (HL _).out.mono ?_
    rintro e v2 ⟨rfl, hb2⟩
    have hbt := ((Bt.below (B := B) b0).trans ht1).trans (Bt.below hb2)
    have HR := Hid.intro (row_bt ((Bt.refl B _).trans (ht1.trans (Bt.below hb2))) (by omega) hR0)
    go_wp2_with (with_reducible refine (id (?_ : wpList _ _ _ (Oper.mk _ (Op.store _ _ _) _ _ _ _ :: _) _ _)); refine wpList_store_row rfl _ _ _ rfl _ _ rfl rfl _ _ HR.out infoTree rfl rfl (by simp [Value.oneCell']) ?_)
    refine ret_cells rfl rfl (setRow_heap _ _ _ _ _ _ HR.out) Tryz.underlying103 infoTree rfl rfl (Post.ok ((hbt).row (Nat.le_refl _) _) (by omega) (((hp1.via hb2)).row hsz.1 _) ?_)
    exact (lit_tev (fun b => w.heap.size + 1 ≤ b) v2 { k := 3, s := s } rfl).res (n := w.heap.size + 1) (by omega) _
set_option maxRecDepth 100000 in
set_option maxHeartbeats 2000000 in
theorem atom_2 {K B o : Nat} {r : List Lx} {w : World} (h : PAt K w B r o) (h0 : isK 2 r = false) (h1 : isK 3 r = false) (h2 : isM ⟨#[116, 114, 117, 101]⟩ r = true) :
    Calls Tryz.prog 174 #[.pointer (some ⟨B, 0, none⟩)] w (Post K B o (r.length - 1) w (litM { k := 1, b := true } r.tail) fun w' t v => TeV (fun b => w.heap.size ≤ b) w' t v) := by
  have hne : 0 < r.length := by obtain ⟨x, r', rfl, -⟩ := gd_cons h.gd; simp
  have C0 := fun w (h : PAt K w B r o) => Hid.intro (isKind_any h 2)
  rw [h0] at C0
  have C1 := fun w (h : PAt K w B r o) => Hid.intro (isKind_any h 3)
  rw [h1] at C1
  have C2 := fun w (h : PAt K w B r o) => Hid.intro (skip_yes h h2)
  have hsz := h.size
  have hR0 : (w.alloc z9).heap[w.heap.size]? = some z9 := heap_alloc_new w _
  have b0 : Below w.heap.size w (w.alloc z9) := below_al (Below.refl _ _) _
  unfold z9 at hR0 b0
  have HL := fun w => Hid.intro (literal_any 1 true 0 ⟨#[]⟩ w)
  clear h0 h1 h2
  go_enter Tryz.func174, Tryz.ntmps174
  go_wp2_with fail
  refine (C0 _ (h.via b0)).out.mono ?_
  rintro e w1 ⟨rfl, hw1⟩
  subst w1
  go_wp2_with fail
  refine (C1 _ (h.via b0)).out.mono ?_
  rintro e w2 ⟨rfl, hw2⟩
  subst w2
  go_wp2_with fail
  refine (C2 _ (h.via b0)).out.mono ?_
  rintro e v1 ⟨rfl, ht1, hp1⟩
  have hbt := (Bt.below (B := B) b0).trans ht1
  go_wp2_with fail
  refine (HL _).out.mono ?_
  rintro e v2 ⟨rfl, hb2⟩
  have HR := Hid.intro (row_bt ((Bt.refl B _).trans (ht1.trans (Bt.below hb2))) (by omega) hR0)
  go_wp2_with (with_reducible refine (id (?_ : wpList _ _ _ (Oper.mk _ (Op.store _ _ _) _ _ _ _ :: _) _ _)); refine wpList_store_row rfl _ _ _ rfl _ _ rfl rfl _ _ HR.out infoTree rfl rfl (by simp [Value.oneCell']) ?_)
  refine ret_cells rfl rfl (setRow_heap _ _ _ _ _ _ HR.out) Tryz.underlying103 infoTree rfl rfl (Post.ok ((hbt.trans (Bt.below hb2)).row (Nat.le_refl _) _) (by simp) (((hp1.via hb2)).row hsz.1 _) ?_)
  exact (lit_tev (fun b => w.heap.size + 1 ≤ b) v2 { k := 1, b := true } rfl).res (n := w.heap.size + 1) (by omega) _
set_option maxRecDepth 100000 in
set_option maxHeartbeats 2000000 in
theorem atom_3 {K B o : Nat} {r : List Lx} {w : World} (h : PAt K w B r o) (h0 : isK 2 r = false) (h1 : isK 3 r = false) (h2 : isM ⟨#[116, 114, 117, 101]⟩ r = false) (h3 : isM ⟨#[102, 97, 108, 115, 101]⟩ r = true) :
    Calls Tryz.prog 174 #[.pointer (some ⟨B, 0, none⟩)] w (Post K B o (r.length - 1) w (litM { k := 1 } r.tail) fun w' t v => TeV (fun b => w.heap.size ≤ b) w' t v) := by
  have hne : 0 < r.length := by obtain ⟨x, r', rfl, -⟩ := gd_cons h.gd; simp
  have C0 := fun w (h : PAt K w B r o) => Hid.intro (isKind_any h 2)
  rw [h0] at C0
  have C1 := fun w (h : PAt K w B r o) => Hid.intro (isKind_any h 3)
  rw [h1] at C1
  have C2 := fun w (h : PAt K w B r o) => Hid.intro (skip_no h h2)
  have C3 := fun w (h : PAt K w B r o) => Hid.intro (skip_yes h h3)
  have hsz := h.size
  have hR0 : (w.alloc z9).heap[w.heap.size]? = some z9 := heap_alloc_new w _
  have b0 : Below w.heap.size w (w.alloc z9) := below_al (Below.refl _ _) _
  unfold z9 at hR0 b0
  have HL := fun w => Hid.intro (literal_any 1 false 0 ⟨#[]⟩ w)
  clear h0 h1 h2 h3
  go_enter Tryz.func174, Tryz.ntmps174
  go_wp2_with fail
  refine (C0 _ (h.via b0)).out.mono ?_
  rintro e w1 ⟨rfl, hw1⟩
  subst w1
  go_wp2_with fail
  refine (C1 _ (h.via b0)).out.mono ?_
  rintro e w2 ⟨rfl, hw2⟩
  subst w2
  go_wp2_with fail
  refine (C2 _ (h.via b0)).out.mono ?_
  rintro e w3 ⟨rfl, hw3⟩
  have b3 := hw3.via b0
  go_wp2_with fail
  refine (C3 _ (h.via b3)).out.mono ?_
  rintro e v1 ⟨rfl, ht1, hp1⟩
  have hbt := (Bt.below (B := B) b3).trans ht1
  go_wp2_with fail
  refine (HL _).out.mono ?_
  rintro e v2 ⟨rfl, hb2⟩
  have HR := Hid.intro (row_bt (((Bt.refl B _).trans (Bt.below hw3)).trans (ht1.trans (Bt.below hb2))) (by omega) hR0)
  go_wp2_with (with_reducible refine (id (?_ : wpList _ _ _ (Oper.mk _ (Op.store _ _ _) _ _ _ _ :: _) _ _)); refine wpList_store_row rfl _ _ _ rfl _ _ rfl rfl _ _ HR.out infoTree rfl rfl (by simp [Value.oneCell']) ?_)
  refine ret_cells rfl rfl (setRow_heap _ _ _ _ _ _ HR.out) Tryz.underlying103 infoTree rfl rfl (Post.ok ((hbt.trans (Bt.below hb2)).row (Nat.le_refl _) _) (by simp) (((hp1.via hb2)).row hsz.1 _) ?_)
  exact (lit_tev (fun b => w.heap.size + 1 ≤ b) v2 { k := 1 } rfl).res (n := w.heap.size + 1) (by omega) _
set_option maxRecDepth 100000 in
set_option maxHeartbeats 2000000 in
theorem atom_4 {K B o : Nat} {r : List Lx} {w : World} (h : PAt K w B r o) (h0 : isK 2 r = false) (h1 : isK 3 r = false) (h2 : isM ⟨#[116, 114, 117, 101]⟩ r = false) (h3 : isM ⟨#[102, 97, 108, 115, 101]⟩ r = false) (h4 : isM ⟨#[110, 117, 108, 108]⟩ r = true) :
    Calls Tryz.prog 174 #[.pointer (some ⟨B, 0, none⟩)] w (Post K B o (r.length - 1) w (litM {} r.tail) fun w' t v => TeV (fun b => w.heap.size ≤ b) w' t v) := by
  have hne : 0 < r.length := by obtain ⟨x, r', rfl, -⟩ := gd_cons h.gd; simp
  have C0 := fun w (h : PAt K w B r o) => Hid.intro (isKind_any h 2)
  rw [h0] at C0
  have C1 := fun w (h : PAt K w B r o) => Hid.intro (isKind_any h 3)
  rw [h1] at C1
  have C2 := fun w (h : PAt K w B r o) => Hid.intro (skip_no h h2)
  have C3 := fun w (h : PAt K w B r o) => Hid.intro (skip_no h h3)
  have C4 := fun w (h : PAt K w B r o) => Hid.intro (skip_yes h h4)
  have hsz := h.size
  have hR0 : (w.alloc z9).heap[w.heap.size]? = some z9 := heap_alloc_new w _
  have b0 : Below w.heap.size w (w.alloc z9) := below_al (Below.refl _ _) _
  unfold z9 at hR0 b0
  have HL := fun w => Hid.intro (literal_any 0 false 0 ⟨#[]⟩ w)
  clear h0 h1 h2 h3 h4
  go_enter Tryz.func174, Tryz.ntmps174
  go_wp2_with fail
  refine (C0 _ (h.via b0)).out.mono ?_
  rintro e w1 ⟨rfl, hw1⟩
  subst w1
  go_wp2_with fail
  refine (C1 _ (h.via b0)).out.mono ?_
  rintro e w2 ⟨rfl, hw2⟩
  subst w2
  go_wp2_with fail
  refine (C2 _ (h.via b0)).out.mono ?_
  rintro e w3 ⟨rfl, hw3⟩
  have b3 := hw3.via b0
  go_wp2_with fail
  refine (C3 _ (h.via b3)).out.mono ?_
  rintro e w4 ⟨rfl, hw4⟩
  have b4 := hw4.via b3
  go_wp2_with fail
  refine (C4 _ (h.via b4)).out.mono ?_
  rintro e v1 ⟨rfl, ht1, hp1⟩
  have hbt := (Bt.below (B := B) b4).trans ht1
  go_wp2_with fail
  refine (HL _).out.mono ?_
  rintro e v2 ⟨rfl, hb2⟩
  have HR := Hid.intro (row_bt ((((Bt.refl B _).trans (Bt.below hw3)).trans (Bt.below hw4)).trans (ht1.trans (Bt.below hb2))) (by omega) hR0)
  go_wp2_with (with_reducible refine (id (?_ : wpList _ _ _ (Oper.mk _ (Op.store _ _ _) _ _ _ _ :: _) _ _)); refine wpList_store_row rfl _ _ _ rfl _ _ rfl rfl _ _ HR.out infoTree rfl rfl (by simp [Value.oneCell']) ?_)
  refine ret_cells rfl rfl (setRow_heap _ _ _ _ _ _ HR.out) Tryz.underlying103 infoTree rfl rfl (Post.ok ((hbt.trans (Bt.below hb2)).row (Nat.le_refl _) _) (by simp) (((hp1.via hb2)).row hsz.1 _) ?_)
  exact (lit_tev (fun b => w.heap.size + 1 ≤ b) v2 {} rfl).res (n := w.heap.size + 1) (by omega) _
set_option maxRecDepth 100000 in
set_option maxHeartbeats 2000000 in
theorem atom_5 {K B o : Nat} {r : List Lx} {w : World} (h : PAt K w B r o) (h0 : isK 2 r = false) (h1 : isK 3 r = false) (h2 : isM ⟨#[116, 114, 117, 101]⟩ r = false) (h3 : isM ⟨#[102, 97, 108, 115, 101]⟩ r = false) (h4 : isM ⟨#[110, 117, 108, 108]⟩ r = false) (h5 : isK 1 r = true) :
    Calls Tryz.prog 174 #[.pointer (some ⟨B, 0, none⟩)] w (Post K B o (r.length - 1) w ((varM r).bd fun s r => leafM { op := 2, t := s } r) fun w' t v => TeV (fun b => w.heap.size ≤ b) w' t v) := by
  have hne : 0 < r.length := by obtain ⟨x, r', rfl, -⟩ := gd_cons h.gd; simp
  have C0 := fun w (h : PAt K w B r o) => Hid.intro (isKind_any h 2)
  rw [h0] at C0
  have C1 := fun w (h : PAt K w B r o) => Hid.intro (isKind_any h 3)
  rw [h1] at C1
  have C2 := fun w (h : PAt K w B r o) => Hid.intro (skip_no h h2)
  have C3 := fun w (h : PAt K w B r o) => Hid.intro (skip_no h h3)
  have C4 := fun w (h : PAt K w B r o) => Hid.intro (skip_no h h4)
  have C5 := fun w (h : PAt K w B r o) => Hid.intro (isKind_any h 1)
  rw [h5] at C5
  have hsz := h.size
  have hR0 : (w.alloc z9).heap[w.heap.size]? = some z9 := heap_alloc_new w _
  have b0 : Below w.heap.size w (w.alloc z9) := below_al (Below.refl _ _) _
  unfold z9 at hR0 b0
  have HN := fun w (h : PAt K w B r o) => Hid.intro (pvar_any h)
  clear h0 h1 h2 h3 h4 h5
  cases hm : varM r with
  | bad q =>
    rw [hm] at HN
    rw [bd_bad]
    clear hm
    go_enter Tryz.func174, Tryz.ntmps174
    go_wp2_with fail
    refine (C0 _ (h.via b0)).out.mono ?_
    rintro e w1 ⟨rfl, hw1⟩
    subst w1
    go_wp2_with fail
    refine (C1 _ (h.via b0)).out.mono ?_
    rintro e w2 ⟨rfl, hw2⟩
    subst w2
    go_wp2_with fail
    refine (C2 _ (h.via b0)).out.mono ?_
    rintro e w3 ⟨rfl, hw3⟩
    have b3 := hw3.via b0
    go_wp2_with fail
    refine (C3 _ (h.via b3)).out.mono ?_
    rintro e w4 ⟨rfl, hw4⟩
    have b4 := hw4.via b3
    go_wp2_with fail
    refine (C4 _ (h.via b4)).out.mono ?_
    rintro e w5 ⟨rfl, hw5⟩
    have b5 := hw5.via b4
    go_wp2_with fail
    refine (C5 _ (h.via b5)).out.mono ?_
    rintro e w6 ⟨rfl, hw6⟩
    subst w6
    go_wp2_with fail
    refine (HN _ (h.via b5)).out.mono ?_
    rintro e v1 ⟨ht1, rfl⟩
    exact ⟨rfl, (Bt.below b5).trans ht1, rfl⟩
  | ok s r1 =>
    rw [hm] at HN
    rw [bd_ok]
    clear hm
    have HL := fun w => Hid.intro (leaf_any 2 s 0 false 0 ⟨#[]⟩ none 0 0 none 0 0 w)
    go_enter Tryz.func174, Tryz.ntmps174
    go_wp2_with fail
    refine (C0 _ (h.via b0)).out.mono ?_
    rintro e w1 ⟨rfl, hw1⟩
    subst w1
    go_wp2_with fail
    refine (C1 _ (h.via b0)).out.mono ?_
    rintro e w2 ⟨rfl, hw2⟩
    subst w2
    go_wp2_with fail
    refine (C2 _ (h.via b0)).out.mono ?_
    rintro e w3 ⟨rfl, hw3⟩
    have b3 := hw3.via b0
    go_wp2_with fail
    refine (C3 _ (h.via b3)).out.mono ?_
    rintro e w4 ⟨rfl, hw4⟩
    have b4 := hw4.via b3
    go_wp2_with fail
    refine (C4 _ (h.via b4)).out.mono ?_
    rintro e w5 ⟨rfl, hw5⟩
    have b5 := hw5.via b4
    go_wp2_with fail
    refine (C5 _ (h.via b5)).out.mono ?_
    rintro e w6 ⟨rfl, hw6⟩
    subst w6
    go_wp2_with fail
    refine (HN _ (h.via b5)).out.mono ?_
    rintro e v1 ⟨ht1, hl1, hp1, v, rfl, rfl⟩
    go_wp2_with fail
    refine (HL _).out.mono ?_
    rintro e v2 ⟨rfl, hb2⟩
    have hbt := ((Bt.below (B := B) b5).trans ht1).trans (Bt.below hb2)
    have HR := Hid.intro (row_bt (((((Bt.refl B _).trans (Bt.below hw3)).trans (Bt.below hw4)).trans (Bt.below hw5)).trans (ht1.trans (Bt.below hb2))) (by omega) hR0)
    go_wp2_with (with_reducible refine (id (?_ : wpList _ _ _ (Oper.mk _ (Op.store _ _ _) _ _ _ _ :: _) _ _)); refine wpList_store_row rfl _ _ _ rfl _ _ rfl rfl _ _ HR.out infoTree rfl rfl (by simp [Value.oneCell']) ?_)
    refine ret_cells rfl rfl (setRow_heap _ _ _ _ _ _ HR.out) Tryz.underlying103 infoTree rfl rfl (Post.ok ((hbt).row (Nat.le_refl _) _) (by omega) (((hp1.via hb2)).row hsz.1 _) ?_)
    exact (leaf_tev (fun b => w.heap.size + 1 ≤ b) v2 2 s).res (n := w.heap.size + 1) (by omega) _
set_option maxRecDepth 100000 in
set_option maxHeartbeats 2000000 in
theorem atom_6 {K B o : Nat} {T : Ps Te} (hT : TC K B (o + 1) 49 (T (o + 1))) {r : List Lx} {w : World} (h : PAt K w B r o) (h0 : isK 2 r = false) (h1 : isK 3 r = false) (h2 : isM ⟨#[116, 114, 117, 101]⟩ r = false) (h3 : isM ⟨#[102, 97, 108, 115, 101]⟩ r = false) (h4 : isM ⟨#[110, 117, 108, 108]⟩ r = false) (h5 : isK 1 r = false) (h6 : isM ⟨#[40]⟩ r = true) :
    Calls Tryz.prog 174 #[.pointer (some ⟨B, 0, none⟩)] w (Post K B o (r.length - 1) w (parenM T o r) fun w' t v => TeV (fun b => w.heap.size ≤ b) w' t v) := by
  have hne : 0 < r.length := by obtain ⟨x, r', rfl, -⟩ := gd_cons h.gd; simp
  have C0 := fun w (h : PAt K w B r o) => Hid.intro (isKind_any h 2)
  rw [h0] at C0
  have C1 := fun w (h : PAt K w B r o) => Hid.intro (isKind_any h 3)
  rw [h1] at C1
  have C2 := fun w (h : PAt K w B r o) => Hid.intro (skip_no h h2)
  have C3 := fun w (h : PAt K w B r o) => Hid.intro (skip_no h h3)
  have C4 := fun w (h : PAt K w B r o) => Hid.intro (skip_no h h4)
  have C5 := fun w (h : PAt K w B r o) => Hid.intro (isKind_any h 1)
  rw [h5] at C5
  have C6 := fun w (h : PAt K w B r o) => Hid.intro (is_any h ⟨#[40]⟩)
  rw [h6] at C6
  have hsz := h.size
  have hR0 : (w.alloc z9).heap[w.heap.size]? = some z9 := heap_alloc_new w _
  have b0 : Below w.heap.size w (w.alloc z9) := below_al (Below.refl _ _) _
  unfold z9 at hR0 b0
  have HN := fun w (h : PAt K w B r o) => Hid.intro (par_any hT h)
  clear h0 h1 h2 h3 h4 h5 h6
  change ∀ w, PAt K w B r o → Hid (Calls _ _ _ _ (Post K B o (r.length - 1) w (parenM T o r) _)) at HN
  cases hm : parenM T o r with
  | bad q =>
    rw [hm] at HN
    clear hm
    go_enter Tryz.func174, Tryz.ntmps174
    go_wp2_with fail
    refine (C0 _ (h.via b0)).out.mono ?_
    rintro e w1 ⟨rfl, hw1⟩
    subst w1
    go_wp2_with fail
    refine (C1 _ (h.via b0)).out.mono ?_
    rintro e w2 ⟨rfl, hw2⟩
    subst w2
    go_wp2_with fail
    refine (C2 _ (h.via b0)).out.mono ?_
    rintro e w3 ⟨rfl, hw3⟩
    have b3 := hw3.via b0
    go_wp2_with fail
    refine (C3 _ (h.via b3)).out.mono ?_
    rintro e w4 ⟨rfl, hw4⟩
    have b4 := hw4.via b3
    go_wp2_with fail
    refine (C4 _ (h.via b4)).out.mono ?_
    rintro e w5 ⟨rfl, hw5⟩
    have b5 := hw5.via b4
    go_wp2_with fail
    refine (C5 _ (h.via b5)).out.mono ?_
    rintro e w6 ⟨rfl, hw6⟩
    subst w6
    go_wp2_with fail
    refine (C6 _ (h.via b5)).out.mono ?_
    rintro e w7 ⟨rfl, hw7⟩
    have b7 := hw7.via b5
    go_wp2_with fail
    refine (HN _ (h.via b7)).out.mono ?_
    rintro e v1 ⟨ht1, rfl⟩
    exact ⟨rfl, (Bt.below b7).trans ht1, rfl⟩
  | ok t r1 =>
    rw [hm] at HN
    clear hm
    go_enter Tryz.func174, Tryz.ntmps174
    go_wp2_with fail
    refine (C0 _ (h.via b0)).out.mono ?_
    rintro e w1 ⟨rfl, hw1⟩
    subst w1
    go_wp2_with fail
    refine (C1 _ (h.via b0)).out.mono ?_
    rintro e w2 ⟨rfl, hw2⟩
    subst w2
    go_wp2_with fail
    refine (C2 _ (h.via b0)).out.mono ?_
    rintro e w3 ⟨rfl, hw3⟩
    have b3 := hw3.via b0
    go_wp2_with fail
    refine (C3 _ (h.via b3)).out.mono ?_
    rintro e w4 ⟨rfl, hw4⟩
    have b4 := hw4.via b3
    go_wp2_with fail
    refine (C4 _ (h.via b4)).out.mono ?_
    rintro e w5 ⟨rfl, hw5⟩
    have b5 := hw5.via b4
    go_wp2_with fail
    refine (C5 _ (h.via b5)).out.mono ?_
    rintro e w6 ⟨rfl, hw6⟩
    subst w6
    go_wp2_with fail
    refine (C6 _ (h.via b5)).out.mono ?_
    rintro e w7 ⟨rfl, hw7⟩
    have b7 := hw7.via b5
    go_wp2_with fail
    refine (HN _ (h.via b7)).out.mono ?_
    rintro e v1 ⟨ht1, hl1, hp1, v, rfl, p6, n6, c6, p7, n7, c7, rfl, z6, z7, z8⟩
    have hbt := (Bt.below (B := B) b7).trans ht1
    have hv1 : TeV _ v1 t _ := ⟨p6, n6, c6, p7, n7, c7, rfl, z6, z7, z8⟩
    have HR := Hid.intro (row_bt ((((((Bt.refl B _).trans (Bt.below hw3)).trans (Bt.below hw4)).trans (Bt.below hw5)).trans (Bt.below hw7)).trans ht1) (by omega) hR0)
    have hn1 : w.heap.size < _ := (Array.getElem?_eq_some_iff.1 (row_bt (((((Bt.refl B _).trans (Bt.below hw3)).trans (Bt.below hw4)).trans (Bt.below hw5)).trans (Bt.below hw7)) (by omega) hR0)).1
    go_wp2_with (with_reducible refine (id (?_ : wpList _ _ _ (Oper.mk _ (Op.store _ _ _) _ _ _ _ :: _) _ _)); refine wpList_store_row rfl _ _ _ rfl _ _ rfl rfl _ _ HR.out infoTree rfl rfl (by simp [Value.oneCell']) ?_)
    refine ret_cells rfl rfl (setRow_heap _ _ _ _ _ _ HR.out) Tryz.underlying103 infoTree rfl rfl (Post.ok ((hbt).row (Nat.le_refl _) _) (by omega) ((hp1).row hsz.1 _) ?_)
    exact hv1.res hn1 _
set_option maxRecDepth 100000 in
set_option maxHeartbeats 2000000 in
theorem atom_7 {K B o : Nat} {T : Ps Te} (hT : TC K B (o + 1) 49 (T (o + 1))) {r : List Lx} {w : World} (h : PAt K w B r o) (h0 : isK 2 r = false) (h1 : isK 3 r = false) (h2 : isM ⟨#[116, 114, 117, 101]⟩ r = false) (h3 : isM ⟨#[102, 97, 108, 115, 101]⟩ r = false) (h4 : isM ⟨#[110, 117, 108, 108]⟩ r = false) (h5 : isK 1 r = false) (h6 : isM ⟨#[40]⟩ r = false) (h7 : isM ⟨#[91]⟩ r = true) :
    Calls Tryz.prog 174 #[.pointer (some ⟨B, 0, none⟩)] w (Post K B o (r.length - 1) w (valuesM T o r) fun w' t v => TeV (fun b => w.heap.size ≤ b) w' t v) := by
  have hne : 0 < r.length := by obtain ⟨x, r', rfl, -⟩ := gd_cons h.gd; simp
  have C0 := fun w (h : PAt K w B r o) => Hid.intro (isKind_any h 2)
  rw [h0] at C0
  have C1 := fun w (h : PAt K w B r o) => Hid.intro (isKind_any h 3)
  rw [h1] at C1
  have C2 := fun w (h : PAt K w B r o) => Hid.intro (skip_no h h2)
  have C3 := fun w (h : PAt K w B r o) => Hid.intro (skip_no h h3)
  have C4 := fun w (h : PAt K w B r o) => Hid.intro (skip_no h h4)
  have C5 := fun w (h : PAt K w B r o) => Hid.intro (isKind_any h 1)
  rw [h5] at C5
  have C6 := fun w (h : PAt K w B r o) => Hid.intro (is_any h ⟨#[40]⟩)
  rw [h6] at C6
  have C7 := fun w (h : PAt K w B r o) => Hid.intro (is_any h ⟨#[91]⟩)
  rw [h7] at C7
  have hsz := h.size
  have hR0 : (w.alloc z9).heap[w.heap.size]? = some z9 := heap_alloc_new w _
  have b0 : Below w.heap.size w (w.alloc z9) := below_al (Below.refl _ _) _
  unfold z9 at hR0 b0
  have HN := fun w (h : PAt K w B r o) => Hid.intro (values_any hT h)
  clear h0 h1 h2 h3 h4 h5 h6 h7
  cases hm : valuesM T o r with
  | bad q =>
    rw [hm] at HN
    clear hm
    go_enter Tryz.func174, Tryz.ntmps174
    go_wp2_with fail
    refine (C0 _ (h.via b0)).out.mono ?_
    rintro e w1 ⟨rfl, hw1⟩
    subst w1
    go_wp2_with fail
    refine (C1 _ (h.via b0)).out.mono ?_
    rintro e w2 ⟨rfl, hw2⟩
    subst w2
    go_wp2_with fail
    refine (C2 _ (h.via b0)).out.mono ?_
    rintro e w3 ⟨rfl, hw3⟩
    have b3 := hw3.via b0
    go_wp2_with fail
    refine (C3 _ (h.via b3)).out.mono ?_
    rintro e w4 ⟨rfl, hw4⟩
    have b4 := hw4.via b3
    go_wp2_with fail
    refine (C4 _ (h.via b4)).out.mono ?_
    rintro e w5 ⟨rfl, hw5⟩
    have b5 := hw5.via b4
    go_wp2_with fail
    refine (C5 _ (h.via b5)).out.mono ?_
    rintro e w6 ⟨rfl, hw6⟩
    subst w6
    go_wp2_with fail
    refine (C6 _ (h.via b5)).out.mono ?_
    rintro e w7 ⟨rfl, hw7⟩
    have b7 := hw7.via b5
    go_wp2_with fail
    refine (C7 _ (h.via b7)).out.mono ?_
    rintro e w8 ⟨rfl, hw8⟩
    have b8 := hw8.via b7
    go_wp2_with fail
    refine (HN _ (h.via b8)).out.mono ?_
    rintro e v1 ⟨ht1, rfl⟩
    exact ⟨rfl, (Bt.below b8).trans ht1, rfl⟩
  | ok t r1 =>
    rw [hm] at HN
    clear hm
    go_enter Tryz.func174, Tryz.ntmps174
    go_wp2_with fail
    refine (C0 _ (h.via b0)).out.mono ?_
    rintro e w1 ⟨rfl, hw1⟩
    subst w1
    go_wp2_with fail
    refine (C1 _ (h.via b0)).out.mono ?_
    rintro e w2 ⟨rfl, hw2⟩
    subst w2
    go_wp2_with fail
    refine (C2 _ (h.via b0)).out.mono ?_
    rintro e w3 ⟨rfl, hw3⟩
    have b3 := hw3.via b0
    go_wp2_with fail
    refine (C3 _ (h.via b3)).out.mono ?_
    rintro e w4 ⟨rfl, hw4⟩
    have b4 := hw4.via b3
    go_wp2_with fail
    refine (C4 _ (h.via b4)).out.mono ?_
    rintro e w5 ⟨rfl, hw5⟩
    have b5 := hw5.via b4
    go_wp2_with fail
    refine (C5 _ (h.via b5)).out.mono ?_
    rintro e w6 ⟨rfl, hw6⟩
    subst w6
    go_wp2_with fail
    refine (C6 _ (h.via b5)).out.mono ?_
    rintro e w7 ⟨rfl, hw7⟩
    have b7 := hw7.via b5
    go_wp2_with fail
    refine (C7 _ (h.via b7)).out.mono ?_
    rintro e w8 ⟨rfl, hw8⟩
    have b8 := hw8.via b7
    go_wp2_with fail
    refine (HN _ (h.via b8)).out.mono ?_
    rintro e v1 ⟨ht1, hl1, hp1, v, rfl, p6, n6, c6, p7, n7, c7, rfl, z6, z7, z8⟩
    have hbt := (Bt.below (B := B) b8).trans ht1
    have hv1 : TeV _ v1 t _ := ⟨p6, n6, c6, p7, n7, c7, rfl, z6, z7, z8⟩
    have HR := Hid.intro (row_bt (((((((Bt.refl B _).trans (Bt.below hw3)).trans (Bt.below hw4)).trans (Bt.below hw5)).trans (Bt.below hw7)).trans (Bt.below hw8)).trans ht1) (by omega) hR0)
    have hn1 : w.heap.size < _ := (Array.getElem?_eq_some_iff.1 (row_bt ((((((Bt.refl B _).trans (Bt.below hw3)).trans (Bt.below hw4)).trans (Bt.below hw5)).trans (Bt.below hw7)).trans (Bt.below hw8)) (by omega) hR0)).1
    go_wp2_with (with_reducible refine (id (?_ : wpList _ _ _ (Oper.mk _ (Op.store _ _ _) _ _ _ _ :: _) _ _)); refine wpList_store_row rfl _ _ _ rfl _ _ rfl rfl _ _ HR.out infoTree rfl rfl (by simp [Value.oneCell']) ?_)
    refine ret_cells rfl rfl (setRow_heap _ _ _ _ _ _ HR.out) Tryz.underlying103 infoTree rfl rfl (Post.ok ((hbt).row (Nat.le_refl _) _) (by omega) ((hp1).row hsz.1 _) ?_)
    exact hv1.res hn1 _
set_option maxRecDepth 100000 in
set_option maxHeartbeats 2000000 in
theorem atom_8 {K B o : Nat} {T : Ps Te} (hT : TC K B (o + 1) 49 (T (o + 1))) {r : List Lx} {w : World} (h : PAt K w B r o) (h0 : isK 2 r = false) (h1 : isK 3 r = false) (h2 : isM ⟨#[116, 114, 117, 101]⟩ r = false) (h3 : isM ⟨#[102, 97, 108, 115, 101]⟩ r = false) (h4 : isM ⟨#[110, 117, 108, 108]⟩ r = false) (h5 : isK 1 r = false) (h6 : isM ⟨#[40]⟩ r = false) (h7 : isM ⟨#[91]⟩ r = false) (h8 : isM ⟨#[115, 105, 122, 101]⟩ r = true) :
    Calls Tryz.prog 174 #[.pointer (some ⟨B, 0, none⟩)] w (Post K B o (r.length - 1) w (sizeM T o r) fun w' t v => TeV (fun b => w.heap.size ≤ b) w' t v) := by
  have hne : 0 < r.length := by obtain ⟨x, r', rfl, -⟩ := gd_cons h.gd; simp
  have C0 := fun w (h : PAt K w B r o) => Hid.intro (isKind_any h 2)
  rw [h0] at C0
  have C1 := fun w (h : PAt K w B r o) => Hid.intro (isKind_any h 3)
  rw [h1] at C1
  have C2 := fun w (h : PAt K w B r o) => Hid.intro (skip_no h h2)
  have C3 := fun w (h : PAt K w B r o) => Hid.intro (skip_no h h3)
  have C4 := fun w (h : PAt K w B r o) => Hid.intro (skip_no h h4)
  have C5 := fun w (h : PAt K w B r o) => Hid.intro (isKind_any h 1)
  rw [h5] at C5
  have C6 := fun w (h : PAt K w B r o) => Hid.intro (is_any h ⟨#[40]⟩)
  rw [h6] at C6
  have C7 := fun w (h : PAt K w B r o) => Hid.intro (is_any h ⟨#[91]⟩)
  rw [h7] at C7
  have C8 := fun w (h : PAt K w B r o) => Hid.intro (is_any h ⟨#[115, 105, 122, 101]⟩)
  rw [h8] at C8
  have hsz := h.size
  have hR0 : (w.alloc z9).heap[w.heap.size]? = some z9 := heap_alloc_new w _
  have b0 : Below w.heap.size w (w.alloc z9) := below_al (Below.refl _ _) _
  unfold z9 at hR0 b0
  obtain ⟨x, r', rfl, -⟩ := gd_cons h.gd
  have hxk := isM_k h8
  have HN := fun w (h : PAt K w B (x :: r') o) => Hid.intro (size_any hT h hxk)
  clear h0 h1 h2 h3 h4 h5 h6 h7 h8
  cases hm : sizeM T o (x :: r') with
  | bad q =>
    rw [hm] at HN
    clear hm
    go_enter Tryz.func174, Tryz.ntmps174
    go_wp2_with fail
    refine (C0 _ (h.via b0)).out.mono ?_
    rintro e w1 ⟨rfl, hw1⟩
    subst w1
    go_wp2_with fail
    refine (C1 _ (h.via b0)).out.mono ?_
    rintro e w2 ⟨rfl, hw2⟩
    subst w2
    go_wp2_with fail
    refine (C2 _ (h.via b0)).out.mono ?_
    rintro e w3 ⟨rfl, hw3⟩
    have b3 := hw3.via b0
    go_wp2_with fail
    refine (C3 _ (h.via b3)).out.mono ?_
    rintro e w4 ⟨rfl, hw4⟩
    have b4 := hw4.via b3
    go_wp2_with fail
    refine (C4 _ (h.via b4)).out.mono ?_
    rintro e w5 ⟨rfl, hw5⟩
    have b5 := hw5.via b4
    go_wp2_with fail
    refine (C5 _ (h.via b5)).out.mono ?_
    rintro e w6 ⟨rfl, hw6⟩
    subst w6
    go_wp2_with fail
    refine (C6 _ (h.via b5)).out.mono ?_
    rintro e w7 ⟨rfl, hw7⟩
    have b7 := hw7.via b5
    go_wp2_with fail
    refine (C7 _ (h.via b7)).out.mono ?_
    rintro e w8 ⟨rfl, hw8⟩
    have b8 := hw8.via b7
    go_wp2_with fail
    refine (C8 _ (h.via b8)).out.mono ?_
    rintro e w9 ⟨rfl, hw9⟩
    have b9 := hw9.via b8
    go_wp2_with fail
    refine (HN _ (h.via b9)).out.mono ?_
    rintro e v1 ⟨ht1, rfl⟩
    exact ⟨rfl, (Bt.below b9).trans ht1, rfl⟩
  | ok t r1 =>
    rw [hm] at HN
    clear hm
    go_enter Tryz.func174, Tryz.ntmps174
    go_wp2_with fail
    refine (C0 _ (h.via b0)).out.mono ?_
    rintro e w1 ⟨rfl, hw1⟩
    subst w1
    go_wp2_with fail
    refine (C1 _ (h.via b0)).out.mono ?_
    rintro e w2 ⟨rfl, hw2⟩
    subst w2
    go_wp2_with fail
    refine (C2 _ (h.via b0)).out.mono ?_
    rintro e w3 ⟨rfl, hw3⟩
    have b3 := hw3.via b0
    go_wp2_with fail
    refine (C3 _ (h.via b3)).out.mono ?_
    rintro e w4 ⟨rfl, hw4⟩
    have b4 := hw4.via b3
    go_wp2_with fail
    refine (C4 _ (h.via b4)).out.mono ?_
    rintro e w5 ⟨rfl, hw5⟩
    have b5 := hw5.via b4
    go_wp2_with fail
    refine (C5 _ (h.via b5)).out.mono ?_
    rintro e w6 ⟨rfl, hw6⟩
    subst w6
    go_wp2_with fail
    refine (C6 _ (h.via b5)).out.mono ?_
    rintro e w7 ⟨rfl, hw7⟩
    have b7 := hw7.via b5
    go_wp2_with fail
    refine (C7 _ (h.via b7)).out.mono ?_
    rintro e w8 ⟨rfl, hw8⟩
    have b8 := hw8.via b7
    go_wp2_with fail
    refine (C8 _ (h.via b8)).out.mono ?_
    rintro e w9 ⟨rfl, hw9⟩
    have b9 := hw9.via b8
    go_wp2_with fail
    refine (HN _ (h.via b9)).out.mono ?_
    rintro e v1 ⟨ht1, hl1, hp1, v, rfl, p6, n6, c6, p7, n7, c7, rfl, z6, z7, z8⟩
    have hbt := (Bt.below (B := B) b9).trans ht1
    have hv1 : TeV _ v1 t _ := ⟨p6, n6, c6, p7, n7, c7, rfl, z6, z7, z8⟩
    have HR := Hid.intro (row_bt ((((((((Bt.refl B _).trans (Bt.below hw3)).trans (Bt.below hw4)).trans (Bt.below hw5)).trans (Bt.below hw7)).trans (Bt.below hw8)).trans (Bt.below hw9)).trans ht1) (by omega) hR0)
    have hn1 : w.heap.size < _ := (Array.getElem?_eq_some_iff.1 (row_bt (((((((Bt.refl B _).trans (Bt.below hw3)).trans (Bt.below hw4)).trans (Bt.below hw5)).trans (Bt.below hw7)).trans (Bt.below hw8)).trans (Bt.below hw9)) (by omega) hR0)).1
    go_wp2_with (with_reducible refine (id (?_ : wpList _ _ _ (Oper.mk _ (Op.store _ _ _) _ _ _ _ :: _) _ _)); refine wpList_store_row rfl _ _ _ rfl _ _ rfl rfl _ _ HR.out infoTree rfl rfl (by simp [Value.oneCell']) ?_)
    refine ret_cells rfl rfl (setRow_heap _ _ _ _ _ _ HR.out) Tryz.underlying103 infoTree rfl rfl (Post.ok ((hbt).row (Nat.le_refl _) _) (by simpa using hl1) ((hp1).row hsz.1 _) ?_)
    exact hv1.res hn1 _
set_option maxRecDepth 100000 in
set_option maxHeartbeats 2000000 in
theorem atom_9 {K B o : Nat} {T : Ps Te} (hT : TC K B (o + 1) 49 (T (o + 1))) {r : List Lx} {w : World} (h : PAt K w B r o) (h0 : isK 2 r = false) (h1 : isK 3 r = false) (h2 : isM ⟨#[116, 114, 117, 101]⟩ r = false) (h3 : isM ⟨#[102, 97, 108, 115, 101]⟩ r = false) (h4 : isM ⟨#[110, 117, 108, 108]⟩ r = false) (h5 : isK 1 r = false) (h6 : isM ⟨#[40]⟩ r = false) (h7 : isM ⟨#[91]⟩ r = false) (h8 : isM ⟨#[115, 105, 122, 101]⟩ r = false) (h9 : isM ⟨#[104, 97, 115]⟩ r = true) :
    Calls Tryz.prog 174 #[.pointer (some ⟨B, 0, none⟩)] w (Post K B o (r.length - 1) w (hasM T o r) fun w' t v => TeV (fun b => w.heap.size ≤ b) w' t v) := by
  have hne : 0 < r.length := by obtain ⟨x, r', rfl, -⟩ := gd_cons h.gd; simp
  have C0 := fun w (h : PAt K w B r o) => Hid.intro (isKind_any h 2)
  rw [h0] at C0
  have C1 := fun w (h : PAt K w B r o) => Hid.intro (isKind_any h 3)
  rw [h1] at C1
  have C2 := fun w (h : PAt K w B r o) => Hid.intro (skip_no h h2)
  have C3 := fun w (h : PAt K w B r o) => Hid.intro (skip_no h h3)
  have C4 := fun w (h : PAt K w B r o) => Hid.intro (skip_no h h4)
  have C5 := fun w (h : PAt K w B r o) => Hid.intro (isKind_any h 1)
  rw [h5] at C5
  have C6 := fun w (h : PAt K w B r o) => Hid.intro (is_any h ⟨#[40]⟩)
  rw [h6] at C6
  have C7 := fun w (h : PAt K w B r o) => Hid.intro (is_any h ⟨#[91]⟩)
  rw [h7] at C7
  have C8 := fun w (h : PAt K w B r o) => Hid.intro (is_any h ⟨#[115, 105, 122, 101]⟩)
  rw [h8] at C8
  have C9 := fun w (h : PAt K w B r o) => Hid.intro (is_any h ⟨#[104, 97, 115]⟩)
  rw [h9] at C9
  have hsz := h.size
  have hR0 : (w.alloc z9).heap[w.heap.size]? = some z9 := heap_alloc_new w _
  have b0 : Below w.heap.size w (w.alloc z9) := below_al (Below.refl _ _) _
  unfold z9 at hR0 b0
  obtain ⟨x, r', rfl, -⟩ := gd_cons h.gd
  have hxk := isM_k h9
  have HN := fun w (h : PAt K w B (x :: r') o) => Hid.intro (has_any hT h hxk)
  clear h0 h1 h2 h3 h4 h5 h6 h7 h8 h9
  cases hm : hasM T o (x :: r') with
  | bad q =>
    rw [hm] at HN
    clear hm
    go_enter Tryz.func174, Tryz.ntmps174
    go_wp2_with fail
    refine (C0 _ (h.via b0)).out.mono ?_
    rintro e w1 ⟨rfl, hw1⟩
    subst w1
    go_wp2_with fail
    refine (C1 _ (h.via b0)).out.mono ?_
    rintro e w2 ⟨rfl, hw2⟩
    subst w2
    go_wp2_with fail
    refine (C2 _ (h.via b0)).out.mono ?_
    rintro e w3 ⟨rfl, hw3⟩
    have b3 := hw3.via b0
    go_wp2_with fail
    refine (C3 _ (h.via b3)).out.mono ?_
    rintro e w4 ⟨rfl, hw4⟩
    have b4 := hw4.via b3
    go_wp2_with fail
    refine (C4 _ (h.via b4)).out.mono ?_
    rintro e w5 ⟨rfl, hw5⟩
    have b5 := hw5.via b4
    go_wp2_with fail
    refine (C5 _ (h.via b5)).out.mono ?_
    rintro e w6 ⟨rfl, hw6⟩
    subst w6
    go_wp2_with fail
    refine (C6 _ (h.via b5)).out.mono ?_
    rintro e w7 ⟨rfl, hw7⟩
    have b7 := hw7.via b5
    go_wp2_with fail
    refine (C7 _ (h.via b7)).out.mono ?_
    rintro e w8 ⟨rfl, hw8⟩
    have b8 := hw8.via b7
    go_wp2_with fail
    refine (C8 _ (h.via b8)).out.mono ?_
    rintro e w9 ⟨rfl, hw9⟩
    have b9 := hw9.via b8
    go_wp2_with fail
    refine (C9 _ (h.via b9)).out.mono ?_
    rintro e w10 ⟨rfl, hw10⟩
    have b10 := hw10.via b9
    go_wp2_with fail
    refine (HN _ (h.via b10)).out.mono ?_
    rintro e v1 ⟨ht1, rfl⟩
    exact ⟨rfl, (Bt.below b10).trans ht1, rfl⟩
  | ok t r1 =>
    rw [hm] at HN
    clear hm
    go_enter Tryz.func174, Tryz.ntmps174
    go_wp2_with fail
    refine (C0 _ (h.via b0)).out.mono ?_
    rintro e w1 ⟨rfl, hw1⟩
    subst w1
    go_wp2_with fail
    refine (C1 _ (h.via b0)).out.mono ?_
    rintro e w2 ⟨rfl, hw2⟩
    subst w2
    go_wp2_with fail
    refine (C2 _ (h.via b0)).out.mono ?_
    rintro e w3 ⟨rfl, hw3⟩
    have b3 := hw3.via b0
    go_wp2_with fail
    refine (C3 _ (h.via b3)).out.mono ?_
    rintro e w4 ⟨rfl, hw4⟩
    have b4 := hw4.via b3
    go_wp2_with fail
    refine (C4 _ (h.via b4)).out.mono ?_
    rintro e w5 ⟨rfl, hw5⟩
    have b5 := hw5.via b4
    go_wp2_with fail
    refine (C5 _ (h.via b5)).out.mono ?_
    rintro e w6 ⟨rfl, hw6⟩
    subst w6
    go_wp2_with fail
    refine (C6 _ (h.via b5)).out.mono ?_
    rintro e w7 ⟨rfl, hw7⟩
    have b7 := hw7.via b5
    go_wp2_with fail
    refine (C7 _ (h.via b7)).out.mono ?_
    rintro e w8 ⟨rfl, hw8⟩
    have b8 := hw8.via b7
    go_wp2_with fail
    refine (C8 _ (h.via b8)).out.mono ?_
    rintro e w9 ⟨rfl, hw9⟩
    have b9 := hw9.via b8
    go_wp2_with fail
    refine (C9 _ (h.via b9)).out.mono ?_
    rintro e w10 ⟨rfl, hw10⟩
    have b10 := hw10.via b9
    go_wp2_with fail
    refine (HN _ (h.via b10)).out.mono ?_
    rintro e v1 ⟨ht1, hl1, hp1, v, rfl, p6, n6, c6, p7, n7, c7, rfl, z6, z7, z8⟩
    have hbt := (Bt.below (B := B) b10).trans ht1
    have hv1 : TeV _ v1 t _ := ⟨p6, n6, c6, p7, n7, c7, rfl, z6, z7, z8⟩
    have HR := Hid.intro (row_bt (((((((((Bt.refl B _).trans (Bt.below hw3)).trans (Bt.below hw4)).trans (Bt.below hw5)).trans (Bt.below hw7)).trans (Bt.below hw8)).trans (Bt.below hw9)).trans (Bt.below hw10)).trans ht1) (by omega) hR0)
    have hn1 : w.heap.size < _ := (Array.getElem?_eq_some_iff.1 (row_bt ((((((((Bt.refl B _).trans (Bt.below hw3)).trans (Bt.below hw4)).trans (Bt.below hw5)).trans (Bt.below hw7)).trans (Bt.below hw8)).trans (Bt.below hw9)).trans (Bt.below hw10)) (by omega) hR0)).1
    go_wp2_with (with_reducible refine (id (?_ : wpList _ _ _ (Oper.mk _ (Op.store _ _ _) _ _ _ _ :: _) _ _)); refine wpList_store_row rfl _ _ _ rfl _ _ rfl rfl _ _ HR.out infoTree rfl rfl (by simp [Value.oneCell']) ?_)
    refine ret_cells rfl rfl (setRow_heap _ _ _ _ _ _ HR.out) Tryz.underlying103 infoTree rfl rfl (Post.ok ((hbt).row (Nat.le_refl _) _) (by simpa using hl1) ((hp1).row hsz.1 _) ?_)
    exact hv1.res hn1 _
set_option maxRecDepth 100000 in
set_option maxHeartbeats 2000000 in
theorem atom_10 {K B o : Nat} {r : List Lx} {w : World} (h : PAt K w B r o) (h0 : isK 2 r = false) (h1 : isK 3 r = false) (h2 : isM ⟨#[116, 114, 117, 101]⟩ r = false) (h3 : isM ⟨#[102, 97, 108, 115, 101]⟩ r = false) (h4 : isM ⟨#[110, 117, 108, 108]⟩ r = false) (h5 : isK 1 r = false) (h6 : isM ⟨#[40]⟩ r = false) (h7 : isM ⟨#[91]⟩ r = false) (h8 : isM ⟨#[115, 105, 122, 101]⟩ r = false) (h9 : isM ⟨#[104, 97, 115]⟩ r = false) :
    Calls Tryz.prog 174 #[.pointer (some ⟨B, 0, none⟩)] w (Post K B o (r.length - 1) w ((nameM r).bd fun s r => leafM { op := 3, t := s } r) fun w' t v => TeV (fun b => w.heap.size ≤ b) w' t v) := by
  have hne : 0 < r.length := by obtain ⟨x, r', rfl, -⟩ := gd_cons h.gd; simp
  have C0 := fun w (h : PAt K w B r o) => Hid.intro (isKind_any h 2)
  rw [h0] at C0
  have C1 := fun w (h : PAt K w B r o) => Hid.intro (isKind_any h 3)
  rw [h1] at C1
  have C2 := fun w (h : PAt K w B r o) => Hid.intro (skip_no h h2)
  have C3 := fun w (h : PAt K w B r o) => Hid.intro (skip_no h h3)
  have C4 := fun w (h : PAt K w B r o) => Hid.intro (skip_no h h4)
  have C5 := fun w (h : PAt K w B r o) => Hid.intro (isKind_any h 1)
  rw [h5] at C5
  have C6 := fun w (h : PAt K w B r o) => Hid.intro (is_any h ⟨#[40]⟩)
  rw [h6] at C6
  have C7 := fun w (h : PAt K w B r o) => Hid.intro (is_any h ⟨#[91]⟩)
  rw [h7] at C7
  have C8 := fun w (h : PAt K w B r o) => Hid.intro (is_any h ⟨#[115, 105, 122, 101]⟩)
  rw [h8] at C8
  have C9 := fun w (h : PAt K w B r o) => Hid.intro (is_any h ⟨#[104, 97, 115]⟩)
  rw [h9] at C9
  have hsz := h.size
  have hR0 : (w.alloc z9).heap[w.heap.size]? = some z9 := heap_alloc_new w _
  have b0 : Below w.heap.size w (w.alloc z9) := below_al (Below.refl _ _) _
  unfold z9 at hR0 b0
  have HN := fun w (h : PAt K w B r o) => Hid.intro (pname_any h)
  clear h0 h1 h2 h3 h4 h5 h6 h7 h8 h9
  cases hm : nameM r with
  | bad q =>
    rw [hm] at HN
    rw [bd_bad]
    clear hm
    go_enter Tryz.func174, Tryz.ntmps174
    go_wp2_with fail
    refine (C0 _ (h.via b0)).out.mono ?_
    rintro e w1 ⟨rfl, hw1⟩
    subst w1
    go_wp2_with fail
    refine (C1 _ (h.via b0)).out.mono ?_
    rintro e w2 ⟨rfl, hw2⟩
    subst w2
    go_wp2_with fail
    refine (C2 _ (h.via b0)).out.mono ?_
    rintro e w3 ⟨rfl, hw3⟩
    have b3 := hw3.via b0
    go_wp2_with fail
    refine (C3 _ (h.via b3)).out.mono ?_
    rintro e w4 ⟨rfl, hw4⟩
    have b4 := hw4.via b3
    go_wp2_with fail
    refine (C4 _ (h.via b4)).out.mono ?_
    rintro e w5 ⟨rfl, hw5⟩
    have b5 := hw5.via b4
    go_wp2_with fail
    refine (C5 _ (h.via b5)).out.mono ?_
    rintro e w6 ⟨rfl, hw6⟩
    subst w6
    go_wp2_with fail
    refine (C6 _ (h.via b5)).out.mono ?_
    rintro e w7 ⟨rfl, hw7⟩
    have b7 := hw7.via b5
    go_wp2_with fail
    refine (C7 _ (h.via b7)).out.mono ?_
    rintro e w8 ⟨rfl, hw8⟩
    have b8 := hw8.via b7
    go_wp2_with fail
    refine (C8 _ (h.via b8)).out.mono ?_
    rintro e w9 ⟨rfl, hw9⟩
    have b9 := hw9.via b8
    go_wp2_with fail
    refine (C9 _ (h.via b9)).out.mono ?_
    rintro e w10 ⟨rfl, hw10⟩
    have b10 := hw10.via b9
    go_wp2_with fail
    refine (HN _ (h.via b10)).out.mono ?_
    rintro e v1 ⟨ht1, rfl⟩
    exact ⟨rfl, (Bt.below b10).trans ht1, rfl⟩
  | ok s r1 =>
    rw [hm] at HN
    rw [bd_ok]
    clear hm
    have HL := fun w => Hid.intro (leaf_any 3 s 0 false 0 ⟨#[]⟩ none 0 0 none 0 0 w)
    go_enter Tryz.func174, Tryz.ntmps174
    go_wp2_with fail
    refine (C0 _ (h.via b0)).out.mono ?_
    rintro e w1 ⟨rfl, hw1⟩
    subst w1
    go_wp2_with fail
    refine (C1 _ (h.via b0)).out.mono ?_
    rintro e w2 ⟨rfl, hw2⟩
    subst w2
    go_wp2_with fail
    refine (C2 _ (h.via b0)).out.mono ?_
    rintro e w3 ⟨rfl, hw3⟩
    have b3 := hw3.via b0
    go_wp2_with fail
    refine (C3 _ (h.via b3)).out.mono ?_
    rintro e w4 ⟨rfl, hw4⟩
    have b4 := hw4.via b3
    go_wp2_with fail
    refine (C4 _ (h.via b4)).out.mono ?_
    rintro e w5 ⟨rfl, hw5⟩
    have b5 := hw5.via b4
    go_wp2_with fail
    refine (C5 _ (h.via b5)).out.mono ?_
    rintro e w6 ⟨rfl, hw6⟩
    subst w6
    go_wp2_with fail
    refine (C6 _ (h.via b5)).out.mono ?_
    rintro e w7 ⟨rfl, hw7⟩
    have b7 := hw7.via b5
    go_wp2_with fail
    refine (C7 _ (h.via b7)).out.mono ?_
    rintro e w8 ⟨rfl, hw8⟩
    have b8 := hw8.via b7
    go_wp2_with fail
    refine (C8 _ (h.via b8)).out.mono ?_
    rintro e w9 ⟨rfl, hw9⟩
    have b9 := hw9.via b8
    go_wp2_with fail
    refine (C9 _ (h.via b9)).out.mono ?_
    rintro e w10 ⟨rfl, hw10⟩
    have b10 := hw10.via b9
    go_wp2_with fail
    refine (HN _ (h.via b10)).out.mono ?_
    rintro e v1 ⟨ht1, hl1, hp1, v, rfl, rfl⟩
    go_wp2_with fail
    refine (HL _).out.mono ?_
    rintro e v2 ⟨rfl, hb2⟩
    have hbt := ((Bt.below (B := B) b10).trans ht1).trans (Bt.below hb2)
    have HR := Hid.intro (row_bt (((((((((Bt.refl B _).trans (Bt.below hw3)).trans (Bt.below hw4)).trans (Bt.below hw5)).trans (Bt.below hw7)).trans (Bt.below hw8)).trans (Bt.below hw9)).trans (Bt.below hw10)).trans (ht1.trans (Bt.below hb2))) (by omega) hR0)
    go_wp2_with (with_reducible refine (id (?_ : wpList _ _ _ (Oper.mk _ (Op.store _ _ _) _ _ _ _ :: _) _ _)); refine wpList_store_row rfl _ _ _ rfl _ _ rfl rfl _ _ HR.out infoTree rfl rfl (by simp [Value.oneCell']) ?_)
    refine ret_cells rfl rfl (setRow_heap _ _ _ _ _ _ HR.out) Tryz.underlying103 infoTree rfl rfl (Post.ok ((hbt).row (Nat.le_refl _) _) (by omega) (((hp1.via hb2)).row hsz.1 _) ?_)
    exact (leaf_tev (fun b => w.heap.size + 1 ≤ b) v2 3 s).res (n := w.heap.size + 1) (by omega) _
theorem atom_any {K B o : Nat} {T : Ps Te} (hT : TC K B (o + 1) 49 (T (o + 1))) : TC K B o 174 (atomM T o) := by
  intro r w h
  unfold atomM
  cases h0 : isK 2 r with
  | true => rw [if_pos rfl]; exact atom_0 h h0
  | false =>
    rw [if_neg (by simp)]
    cases h1 : isK 3 r with
    | true => rw [if_pos rfl]; exact atom_1 h h0 h1
    | false =>
      rw [if_neg (by simp)]
      cases h2 : isM ⟨#[116, 114, 117, 101]⟩ r with
      | true => rw [if_pos rfl]; exact atom_2 h h0 h1 h2
      | false =>
        rw [if_neg (by simp)]
        cases h3 : isM ⟨#[102, 97, 108, 115, 101]⟩ r with
        | true => rw [if_pos rfl]; exact atom_3 h h0 h1 h2 h3
        | false =>
          rw [if_neg (by simp)]
          cases h4 : isM ⟨#[110, 117, 108, 108]⟩ r with
          | true => rw [if_pos rfl]; exact atom_4 h h0 h1 h2 h3 h4
          | false =>
            rw [if_neg (by simp)]
            cases h5 : isK 1 r with
            | true => rw [if_pos rfl]; exact atom_5 h h0 h1 h2 h3 h4 h5
            | false =>
              rw [if_neg (by simp)]
              cases h6 : isM ⟨#[40]⟩ r with
              | true => rw [if_pos rfl]; exact atom_6 hT h h0 h1 h2 h3 h4 h5 h6
              | false =>
                rw [if_neg (by simp)]
                cases h7 : isM ⟨#[91]⟩ r with
                | true => rw [if_pos rfl]; exact atom_7 hT h h0 h1 h2 h3 h4 h5 h6 h7
                | false =>
                  rw [if_neg (by simp)]
                  cases h8 : isM ⟨#[115, 105, 122, 101]⟩ r with
                  | true => rw [if_pos rfl]; exact atom_8 hT h h0 h1 h2 h3 h4 h5 h6 h7 h8
                  | false =>
                    rw [if_neg (by simp)]
                    cases h9 : isM ⟨#[104, 97, 115]⟩ r with
                    | true => rw [if_pos rfl]; exact atom_9 hT h h0 h1 h2 h3 h4 h5 h6 h7 h8 h9
                    | false =>
                      rw [if_neg (by simp)]
                      exact atom_10 h h0 h1 h2 h3 h4 h5 h6 h7 h8 h9
end Go.Proofs.YtcgaadnfocmdbaaGreatDoor
end
