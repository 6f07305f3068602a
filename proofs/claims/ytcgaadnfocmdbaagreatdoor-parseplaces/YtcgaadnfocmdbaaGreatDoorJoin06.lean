import Derived.Test.YtcgaadnfocmdbaaGreatDoorJoin05

section
/- sign; level. -/
namespace Go.Proofs.YtcgaadnfocmdbaaGreatDoor
open Go.RowKit

def LC (K B o : Nat) (i : Int) (m : List Lx → Rs Te) : Prop :=
  ∀ r w, PAt K w B r o → Calls Tryz.prog 90 #[.pointer (some ⟨B, 0, none⟩), .int .i64 i] w (Post K B o (r.length - 1) w (m r) fun w' t v => TeV (fun b => w.heap.size ≤ b) w' t v)
theorem op_form (m : Option Int) : ∃ (i : Int) (b : Bool), opT m = .tuple #[.int .i64 i, .bool b] ∧ Hid (m = if b then some i else none) := by
  cases m with
  | none => exact ⟨0, false, rfl, rfl⟩
  | some op => exact ⟨op, true, rfl, rfl⟩
theorem PAt.lev {K : Nat} {w : World} {B : Nat} {r : List Lx} {o : Nat} (h : PAt K w B r o) : ∃ l, w.cell? ⟨B, 2, none⟩ = some (.slice (some ⟨l, 0, none⟩) 5 5) := by
  obtain ⟨g, off, cap, lv, ⟨-, -, c2⟩, -, h1, h2, h3, h4, h5, h6, h7, h8, ⟨l, rfl, -⟩, h10⟩ := h
  exact ⟨l, c2⟩

set_option maxRecDepth 100000 in
set_option maxHeartbeats 4000000 in
theorem sign_fuel {K B : Nat} {T : Ps Te} : ∀ (f o : Nat), 32 ≤ f + o → (∀ o', o < o' → TC K B o' 49 (T o')) → TC K B o 136 (signM (atomM T) f o)
  | 0, o, hf, _ => fun r w h => by have := h.most; omega
  | f + 1, o, hf, hT => fun r w h => by
    have ih := sign_fuel (K := K) (B := B) (T := T) f (o + 1) (by omega) (fun o' ho => hT o' (by omega))
    have hsz := h.size
    have hR0 : (w.alloc z9).heap[w.heap.size]? = some z9 := heap_alloc_new w _
    have b0 : Below w.heap.size w (w.alloc z9) := below_al (Below.refl _ _) _
    unfold z9 at hR0 b0
    have C1 := fun w (h : PAt K w B r o) => Hid.intro (is_any h ⟨#[45]⟩)
    have C2 := fun w (h : PAt K w B r o) => Hid.intro (is_any h ⟨#[33]⟩)
    have hne : 0 < r.length := by obtain ⟨x, r', rfl, -⟩ := gd_cons h.gd; simp
    unfold signM
    cases h1 : isM ⟨#[45]⟩ r with
    | true =>
      rw [h1] at C1
      rw [if_pos rfl]
      clear h1 C2
      have HN := fun w (h : PAt K w B r o) => Hid.intro (signed_any ih h ⟨#[45]⟩ 6)
      cases hm : (pushM ⟨#[45]⟩ o r).bd fun a r => (signM (atomM T) f (o + 1) r).bd fun t r => nodeM a { op := 6 } [t] r with
      | bad q =>
        rw [hm] at HN
        clear hm
        go_enter Tryz.func136, Tryz.ntmps136
        go_wp2_with fail
        refine (C1 _ (h.via b0)).out.mono ?_
        rintro e w1 ⟨rfl, hw1⟩
        have b1 := hw1.via b0
        go_wp2_with fail
        refine (HN _ (h.via b1)).out.mono ?_
        rintro e v1 ⟨ht1, rfl⟩
        exact ⟨rfl, (Bt.below b1).trans ht1, rfl⟩
      | ok t r1 =>
        rw [hm] at HN
        clear hm
        go_enter Tryz.func136, Tryz.ntmps136
        go_wp2_with fail
        refine (C1 _ (h.via b0)).out.mono ?_
        rintro e w1 ⟨rfl, hw1⟩
        have b1 := hw1.via b0
        go_wp2_with fail
        refine (HN _ (h.via b1)).out.mono ?_
        rintro e v1 ⟨ht1, hl1, hp1, v, rfl, p6, n6, c6, p7, n7, c7, rfl, z6, z7, z8⟩
        have hbt := (Bt.below (B := B) b1).trans ht1
        have hv1 : TeV _ v1 t _ := ⟨p6, n6, c6, p7, n7, c7, rfl, z6, z7, z8⟩
        have HR := Hid.intro (row_bt (((Bt.refl B _).trans (Bt.below hw1)).trans ht1) (by omega) hR0)
        have hn1 : w.heap.size < _ := (Array.getElem?_eq_some_iff.1 (row_bt ((Bt.refl B _).trans (Bt.below hw1)) (by omega) hR0)).1
        go_wp2_with (with_reducible refine (id (?_ : wpList _ _ _ (Oper.mk _ (Op.store _ _ _) _ _ _ _ :: _) _ _)); refine wpList_store_row rfl _ _ _ rfl _ _ rfl rfl _ _ HR.out infoTree rfl rfl (by simp [Value.oneCell']) ?_)
        refine ret_cells rfl rfl (setRow_heap _ _ _ _ _ _ HR.out) Tryz.underlying103 infoTree rfl rfl (Post.ok ((hbt).row (Nat.le_refl _) _) (by omega) ((hp1).row hsz.1 _) ?_)
        exact hv1.res hn1 _
    | false =>
      rw [h1] at C1
      rw [if_neg (by simp)]
      clear h1
      cases h2 : isM ⟨#[33]⟩ r with
      | true =>
        rw [h2] at C2
        rw [if_pos rfl]
        clear h2
        have HN := fun w (h : PAt K w B r o) => Hid.intro (signed_any ih h ⟨#[33]⟩ 7)
        cases hm : (pushM ⟨#[33]⟩ o r).bd fun a r => (signM (atomM T) f (o + 1) r).bd fun t r => nodeM a { op := 7 } [t] r with
        | bad q =>
          rw [hm] at HN
          clear hm
          go_enter Tryz.func136, Tryz.ntmps136
          go_wp2_with fail
          refine (C1 _ (h.via b0)).out.mono ?_
          rintro e w1 ⟨rfl, hw1⟩
          have b1 := hw1.via b0
          go_wp2_with fail
          refine (C2 _ (h.via b1)).out.mono ?_
          rintro e w2 ⟨rfl, hw2⟩
          have b2 := hw2.via b1
          go_wp2_with fail
          refine (HN _ (h.via b2)).out.mono ?_
          rintro e v1 ⟨ht1, rfl⟩
          exact ⟨rfl, (Bt.below b2).trans ht1, rfl⟩
        | ok t r1 =>
          rw [hm] at HN
          clear hm
          go_enter Tryz.func136, Tryz.ntmps136
          go_wp2_with fail
          refine (C1 _ (h.via b0)).out.mono ?_
          rintro e w1 ⟨rfl, hw1⟩
          have b1 := hw1.via b0
          go_wp2_with fail
          refine (C2 _ (h.via b1)).out.mono ?_
          rintro e w2 ⟨rfl, hw2⟩
          have b2 := hw2.via b1
          go_wp2_with fail
          refine (HN _ (h.via b2)).out.mono ?_
          rintro e v1 ⟨ht1, hl1, hp1, v, rfl, p6, n6, c6, p7, n7, c7, rfl, z6, z7, z8⟩
          have hbt := (Bt.below (B := B) b2).trans ht1
          have hv1 : TeV _ v1 t _ := ⟨p6, n6, c6, p7, n7, c7, rfl, z6, z7, z8⟩
          have HR := Hid.intro (row_bt ((((Bt.refl B _).trans (Bt.below hw1)).trans (Bt.below hw2)).trans ht1) (by omega) hR0)
          have hn1 : w.heap.size < _ := (Array.getElem?_eq_some_iff.1 (row_bt (((Bt.refl B _).trans (Bt.below hw1)).trans (Bt.below hw2)) (by omega) hR0)).1
          go_wp2_with (with_reducible refine (id (?_ : wpList _ _ _ (Oper.mk _ (Op.store _ _ _) _ _ _ _ :: _) _ _)); refine wpList_store_row rfl _ _ _ rfl _ _ rfl rfl _ _ HR.out infoTree rfl rfl (by simp [Value.oneCell']) ?_)
          refine ret_cells rfl rfl (setRow_heap _ _ _ _ _ _ HR.out) Tryz.underlying103 infoTree rfl rfl (Post.ok ((hbt).row (Nat.le_refl _) _) (by omega) ((hp1).row hsz.1 _) ?_)
          exact hv1.res hn1 _
      | false =>
        rw [h2] at C2
        rw [if_neg (by simp)]
        clear h2
        have HN := fun w (h : PAt K w B r o) => Hid.intro (post_any (atom_any (hT (o + 1) (by omega))) r w h)
        change ∀ w, PAt K w B r o → Hid (Calls _ _ _ _ (Post K B o (r.length - 1) w ((atomM T o r).bd fun t r => postL r.length t r) _)) at HN
        cases hm : (atomM T o r).bd fun t r => postL r.length t r with
        | bad q =>
          rw [hm] at HN
          clear hm
          go_enter Tryz.func136, Tryz.ntmps136
          go_wp2_with fail
          refine (C1 _ (h.via b0)).out.mono ?_
          rintro e w1 ⟨rfl, hw1⟩
          have b1 := hw1.via b0
          go_wp2_with fail
          refine (C2 _ (h.via b1)).out.mono ?_
          rintro e w2 ⟨rfl, hw2⟩
          have b2 := hw2.via b1
          go_wp2_with fail
          refine (HN _ (h.via b2)).out.mono ?_
          rintro e v1 ⟨ht1, rfl⟩
          exact ⟨rfl, (Bt.below b2).trans ht1, rfl⟩
        | ok t r1 =>
          rw [hm] at HN
          clear hm
          go_enter Tryz.func136, Tryz.ntmps136
          go_wp2_with fail
          refine (C1 _ (h.via b0)).out.mono ?_
          rintro e w1 ⟨rfl, hw1⟩
          have b1 := hw1.via b0
          go_wp2_with fail
          refine (C2 _ (h.via b1)).out.mono ?_
          rintro e w2 ⟨rfl, hw2⟩
          have b2 := hw2.via b1
          go_wp2_with fail
          refine (HN _ (h.via b2)).out.mono ?_
          rintro e v1 ⟨ht1, hl1, hp1, v, rfl, p6, n6, c6, p7, n7, c7, rfl, z6, z7, z8⟩
          have hbt := (Bt.below (B := B) b2).trans ht1
          have hv1 : TeV _ v1 t _ := ⟨p6, n6, c6, p7, n7, c7, rfl, z6, z7, z8⟩
          have HR := Hid.intro (row_bt ((((Bt.refl B _).trans (Bt.below hw1)).trans (Bt.below hw2)).trans ht1) (by omega) hR0)
          have hn1 : w.heap.size < _ := (Array.getElem?_eq_some_iff.1 (row_bt (((Bt.refl B _).trans (Bt.below hw1)).trans (Bt.below hw2)) (by omega) hR0)).1
          go_wp2_with (with_reducible refine (id (?_ : wpList _ _ _ (Oper.mk _ (Op.store _ _ _) _ _ _ _ :: _) _ _)); refine wpList_store_row rfl _ _ _ rfl _ _ rfl rfl _ _ HR.out infoTree rfl rfl (by simp [Value.oneCell']) ?_)
          refine ret_cells rfl rfl (setRow_heap _ _ _ _ _ _ HR.out) Tryz.underlying103 infoTree rfl rfl (Post.ok ((hbt).row (Nat.le_refl _) _) (by omega) ((hp1).row hsz.1 _) ?_)
          exact hv1.res hn1 _

set_option maxRecDepth 100000 in
set_option maxHeartbeats 4000000 in
theorem level_five {K B o : Nat} {m : List Lx → Rs Te} (hS : TC K B o 136 m) : LC K B o 5 m := by
  intro r w h
  have hsz := h.size
  obtain ⟨l, c2⟩ := h.lev
  have hB : B < w.heap.size := by omega
  have hR0 : (w.alloc z9).heap[w.heap.size]? = some z9 := heap_alloc_new w _
  have b0 : Below w.heap.size w (w.alloc z9) := below_al (Below.refl _ _) _
  unfold z9 at hR0 b0
  have HN := fun w h => Hid.intro (hS r w h)
  cases hm : m r with
  | bad q =>
    rw [hm] at HN
    clear hm
    go_enter Tryz.func90, Tryz.ntmps90
    go_wp2_with fail
    refine (HN _ (h.via b0)).out.mono ?_
    rintro e v1 ⟨ht1, rfl⟩
    exact ⟨rfl, (Bt.below b0).trans ht1, rfl⟩
  | ok t r1 =>
    rw [hm] at HN
    clear hm
    go_enter Tryz.func90, Tryz.ntmps90
    go_wp2_with fail
    refine (HN _ (h.via b0)).out.mono ?_
    rintro e v1 ⟨ht1, hl1, hp1, v, rfl, p6, n6, c6, p7, n7, c7, rfl, z6, z7, z8⟩
    have hbt := (Bt.below (B := B) b0).trans ht1
    have hv1 : TeV _ v1 t _ := ⟨p6, n6, c6, p7, n7, c7, rfl, z6, z7, z8⟩
    have HR := Hid.intro (row_bt ht1 (by omega) hR0)
    go_wp2_with (with_reducible refine (id (?_ : wpList _ _ _ (Oper.mk _ (Op.store _ _ _) _ _ _ _ :: _) _ _)); refine wpList_store_row rfl _ _ _ rfl _ _ rfl rfl _ _ HR.out infoTree rfl rfl (by simp [Value.oneCell']) ?_)
    refine ret_cells rfl rfl (setRow_heap _ _ _ _ _ _ HR.out) Tryz.underlying103 infoTree rfl rfl (Post.ok ((hbt).row (Nat.le_refl _) _) hl1 ((hp1).row hsz.1 _) ?_)
    exact hv1.res (by simp) _

set_option maxRecDepth 100000 in
set_option maxHeartbeats 8000000 in
theorem level_succ {K B o n : Nat} {N : List Lx → Rs Te} (hn : n < 5) (hN : LC K B o ((n : Int) + 1) N) : LC K B o (n : Int) (fun r => (N r).bd fun t r => levelL N n r.length t r) := by
  intro r w h
  have hsz := h.size
  obtain ⟨l, c2⟩ := h.lev
  have hB : B < w.heap.size := by omega
  have hn5 : ((n : Int) == 5) = false := beq_false_of_ne (by omega)
  have hR0 : (w.alloc z9).heap[w.heap.size]? = some z9 := heap_alloc_new w _
  have b0 : Below w.heap.size w (w.alloc z9) := below_al (Below.refl _ _) _
  unfold z9 at hR0 b0
  have hn9 : (n : Int) + 1 ≤ 9223372036854775807 := by omega
  have HA := Hid.intro (hN r _ (h.via b0))
  show Calls _ _ _ _ (Post K B o (r.length - 1) w ((N r).bd fun t r => levelL N n r.length t r) _)
  cases hm : N r with
  | bad q =>
    rw [hm] at HA
    clear hm
    go_enter Tryz.func90, Tryz.ntmps90
    go_wp2_with fail
    refine HA.out.mono ?_
    rintro e w1 ⟨hb, rfl⟩
    exact ⟨rfl, (Bt.below b0).trans hb, rfl⟩
  | ok t1 r1 =>
    rw [hm] at HA
    clear hm
    simp only [bd_ok]
    have HOp := fun r w (h : PAt K w B r o) => Hid.intro (operator_any h n hn)
    have HNx := fun x r w (h : PAt K w B (x :: r) o) hx => Hid.intro (next_any h hx)
    have HL := fun r w (h : PAt K w B r o) => Hid.intro (hN r w h)
    have hmo : Tryz.prog.follows .mixedOrders = true := by kernel_rfl
    have Hn2 : Hid (((n : Int) == 2) = decide (n = 2)) := by
      show _ = _
      by_cases h2 : n = 2
      · subst h2; rfl
      · rw [decide_eq_false h2]; exact beq_false_of_ne (by omega)
    go_enter Tryz.func90, Tryz.ntmps90
    go_wp2_with fail
    refine HA.out.mono ?_
    rintro e w1 ⟨hb, hl, hp, v, rfl, p6, n6, c6, p7, n7, c7, rfl, h6, h7, h8⟩
    have hT0 := TB.new (n := w.heap.size + 1) (B := B) (w := w1) (t := t1) (cells := #[.int .i64 t1.e.op, .string t1.e.t, .int .i64 t1.e.v.k, .bool t1.e.v.b, .int .i64 t1.e.v.i, .string t1.e.v.s, .slice p6 n6 c6, .slice p7 n7 c7, .int .i64 (t1.d : Int)]) (by omega) (by have := hb.size; simpa using this) rfl (TeV.move ⟨p6, n6, c6, p7, n7, c7, rfl, h6, h7, h8⟩ Kp.refl (fun b _ h => by simpa using h))
    clear h6 h7
    have hR1 := row_bt hb (by omega) hR0
    have hs1 : w.heap.size < w1.heap.size := (Array.getElem?_eq_some_iff.1 hR1).1
    go_wp2_with fail
    refine (HOp r1 _ (hp.via (below_al (Below.refl _ _) _))).out.mono ?_
    rintro e w2 ⟨rfl, hw2⟩
    have HT0 := Hid.intro (hT0.bt (Bt.below hw2))
    have HP0 := Hid.intro ((hp.via (below_al (Below.refl _ _) _)).via hw2)
    have HB0 := Hid.intro ((((Bt.below (B := B) b0).trans hb).alloc (.cells #[.int .i64 t1.e.op, .string t1.e.t, .int .i64 t1.e.v.k, .bool t1.e.v.b, .int .i64 t1.e.v.i, .string t1.e.v.s, .slice p6 n6 c6, .slice p7 n7 c7, .int .i64 (t1.d : Int)] 103)).trans (Bt.below hw2))
    have HR0 := Hid.intro (row_bt (Bt.below (B := B) hw2) (by omega) ((heap_alloc_old _ _ hs1).trans hR1))
    obtain ⟨i0, b1, hib, hio⟩ := op_form (opM n r1)
    rw [hib]
    clear hib hT0
    go_wp2_with fail
    go_loopw [6, 7] (fun a6 a7 w' => ∃ t r' f i0 b1, a6 = .int .i64 i0 ∧ a7 = .bool b1 ∧ Hid (opM n r' = if b1 then some i0 else none) ∧ Hid (TB (w.heap.size + 1) B w1.heap.size w' t) ∧ Hid (PAt K w' B r' o) ∧ r'.length ≤ r.length - 1 ∧ r'.length ≤ f ∧ Hid (Bt B w w') ∧ Hid (w'.heap[w.heap.size]? = some (.cells #[.int .i64 0, .string ⟨#[]⟩, .int .i64 0, .bool false, .int .i64 0, .string ⟨#[]⟩, .slice none 0 0, .slice none 0 0, .int .i64 0] 103 (0, 0))) ∧ Hid (levelL N n f t r' = levelL N n r1.length t1 r1)) (fun _ _ w' => rlen B w')
    case atStart => exact ⟨t1, r1, r1.length, i0, b1, rfl, rfl, hio, HT0, HP0, hl, Nat.le_refl _, HB0, HR0, rfl⟩
    case round =>
      obtain ⟨t, r', f, i1, b2, rfl, rfl, HO, HT, HP, hl', hlf, HB, HR, HE⟩ := hrel
      obtain ⟨x, r0, rfl, -⟩ := gd_cons HP.out.gd
      obtain ⟨f, rfl⟩ : ∃ f', f = f' + 1 := ⟨f - 1, by simp at hlf; omega⟩
      cases b2 with
      | false =>
        have HE : Hid (Rs.ok t (x :: r0) = levelL N n r1.length t1 r1) := by
          have := HE.out
          rw [levelL, show opM n (x :: r0) = none from HO.out] at this
          exact this
        obtain ⟨q6, m6, d6, q7, m7, d7, ho, hv2⟩ := HT.out.open
        have HO2 := Hid.intro ho
        go_wp2_with (first | (with_reducible refine (id (?_ : wpList _ _ _ (Oper.mk _ (Op.load _ _) _ _ _ _ :: _) _ _)); refine wpList_load_cells rfl _ _ rfl _ rfl _ _ _ HO2.out Tryz.underlying103 infoTree rfl ?_) | (with_reducible refine (id (?_ : wpList _ _ _ (Oper.mk _ (Op.store _ _ _) _ _ _ _ :: _) _ _)); refine wpList_store_row rfl _ _ _ rfl _ _ rfl rfl _ _ HR.out infoTree rfl rfl (by simp [Value.oneCell']) ?_))
        refine ret_cells rfl rfl (setRow_heap _ _ _ _ _ _ HR.out) Tryz.underlying103 infoTree rfl rfl ?_
        rw [← HE.out]
        refine Post.ok ((HB.out).row (Nat.le_refl _) _) hl' ((HP.out).row hsz.1 _) ?_
        exact hv2.move ⟨by simp, fun b hb _ o => World.cell?_of_block (a := ⟨b, o, none⟩) (setRow_other _ _ _ _ (by simp only; omega))⟩ (fun b _ h => by omega)
      | true =>
        generalize hop : i1 = op
        subst hop
        generalize i1 = op at *
        have hop : opM n (x :: r0) = some op := HO.out
        have hx : x.k ≠ -1 := by
          intro e
          simp [opM, e] at hop
        have HE : Hid ((N r0).bd (fun u r' => (nodeM x.a { op := op } [t, u] r').bd fun t r => if n = 2 then .ok t r else levelL N n f t r) = levelL N n r1.length t1 r1) := by
          have := HE.out
          rw [levelL, hop] at this
          exact this
        clear hop HO
        have hfa := fld_a x.k x.a x.e x.t
        go_wp2_with fail
        refine (HNx x r0 wr HP.out hx).out.mono ?_
        rintro e w3 ⟨rfl, hb3, hp3⟩
        have hT3d : Hid (TB (w.heap.size + 1) B w1.heap.size w3.drew t) := (HT.out.bt hb3).bt (Bt.refl B w3).drew
        have hR3d : w3.drew.heap[w.heap.size]? = _ := row_bt hb3 (by omega) HR.out
        have hd30 : t.d ≤ 30 := by obtain ⟨-, -, _, -, -, _, _, _, _, _, _, -, -, -, h⟩ := HT.out; exact h
        have hE3 : w1.heap.size < w3.heap.size := (Array.getElem?_eq_some_iff.1 hT3d.out.open.choose_spec.choose_spec.choose_spec.choose_spec.choose_spec.choose_spec.1).1
        have hdr : w3.drew.heap.size = w3.heap.size := rfl
        have hwr : IntKind.i64.wrap ((n : Int) + 1) = (n : Int) + 1 := by simp [IntKind.wrap, IntKind.bits, IntKind.signed]; omega
        go_wp2_with fail
        cases hnm : N r0 with
        | bad q =>
          rw [hnm, bd_bad] at HE
          refine wp_region_held_drew (S := fun _ => True) hmo trivial (fun _ => ?_)
          refine take_q 0 38 (.int .i64 (x.a : Int)) ⟨_, rfl, rfl, Or.inl ⟨by rfl, fun w hSw => by go_simp⟩⟩ (by kernel_rfl) (by kernel_rfl) (by kernel_rfl) (fun _ _ _ h => h) trivial ?_
          simp only [List.setIfInBounds_toArray, List.set_cons_succ, List.set_cons_zero]
          refine take_q 1 39 (.int .i64 op) ⟨_, rfl, rfl, Or.inl ⟨by rfl, fun w hSw => by go_simp⟩⟩ (by kernel_rfl) (by kernel_rfl) (by kernel_rfl) (fun _ _ _ h => h) trivial ?_
          simp only [List.setIfInBounds_toArray, List.set_cons_succ, List.set_cons_zero]
          refine take_q 2 40 (.agg #[.int .i64 op, .string ⟨#[]⟩, .int .i64 0, .bool false, .int .i64 0, .string ⟨#[]⟩, .slice none 0 0, .slice none 0 0]) ⟨_, rfl, rfl, Or.inl ⟨by rfl, fun w hSw => by go_simp⟩⟩ (by kernel_rfl) (by kernel_rfl) (by kernel_rfl) (fun _ _ _ h => h) trivial ?_
          simp only [List.setIfInBounds_toArray, List.set_cons_succ, List.set_cons_zero]
          refine take_q 4 42 (.pointer (some ⟨B, 0, none⟩)) ⟨_, rfl, rfl, Or.inl ⟨by rfl, fun w hSw => by go_simp⟩⟩ (by kernel_rfl) (by kernel_rfl) (by kernel_rfl) (fun _ _ _ h => h) trivial ?_
          simp only [List.setIfInBounds_toArray, List.set_cons_succ, List.set_cons_zero]
          refine take_q 5 43 (.int .i64 (n : Int)) ⟨_, rfl, rfl, Or.inl ⟨by rfl, fun w hSw => by go_simp⟩⟩ (by kernel_rfl) (by kernel_rfl) (by kernel_rfl) (fun _ _ _ h => h) trivial ?_
          simp only [List.setIfInBounds_toArray, List.set_cons_succ, List.set_cons_zero]
          refine take_q 6 44 (.int .i64 ((n : Int) + 1)) ⟨_, rfl, rfl, Or.inl ⟨by rfl, fun w hSw => by go_simp⟩⟩ (by kernel_rfl) (by kernel_rfl) (by kernel_rfl) (fun _ _ _ h => h) trivial ?_
          simp only [List.setIfInBounds_toArray, List.set_cons_succ, List.set_cons_zero]
          refine wpAnyH_ready (rs := [3, 7]) (by kernel_rfl) (by simp) ?_
          refine AllReadyH.cons rfl (fun K' hK => ?_) (AllReadyH.cons rfl (fun K' hK => ?_) AllReadyH.nil)
          · obtain ⟨q6, m6, d6, q7, m7, d7, ho3, hv3⟩ := hT3d.out.open
            have HO3 := Hid.intro ho3
            rw [if_pos (by rfl)]
            refine wp_load_cells _ _ rfl _ rfl _ _ _ HO3.out Tryz.underlying103 infoTree rfl ?_
            refine hK.out _ _ trivial (fun _ => ?_)
            clear hK K'
            (try simp only [Act.put, List.setIfInBounds_toArray])
            refine wpAnyH_ready (rs := [7]) (by kernel_rfl) (by simp) ?_
            refine AllReadyH.cons rfl (fun K' hK => ?_) AllReadyH.nil
            go_simp
            refine (HL r0 w3.drew (hp3.via (Below.refl _ _).drew)).out.mono ?_
            rw [hnm]
            rintro e w4 ⟨hb4, rfl⟩
            refine ⟨rfl, ((HB.out).trans hb3).drew.trans hb4, ?_⟩
            rw [← HE.out]
          · go_simp
            refine (HL r0 w3.drew (hp3.via (Below.refl _ _).drew)).out.mono ?_
            rw [hnm]
            rintro e w4 ⟨hb4, rfl⟩
            refine ⟨rfl, ((HB.out).trans hb3).drew.trans hb4, ?_⟩
            rw [← HE.out]
        | ok u r2 =>
          rw [hnm, bd_ok] at HE
          by_cases h30 : 30 < deepM [t, u]
          · have hnd : nodeM x.a { op := op } [t, u] r2 = .bad x.a := if_pos h30
            rw [hnd, bd_bad] at HE
            refine wp_region_held_drew (S := fun _ => True) hmo trivial (fun _ => ?_)
            refine take_q 0 38 (.int .i64 (x.a : Int)) ⟨_, rfl, rfl, Or.inl ⟨by rfl, fun w hSw => by go_simp⟩⟩ (by kernel_rfl) (by kernel_rfl) (by kernel_rfl) (fun _ _ _ h => h) trivial ?_
            simp only [List.setIfInBounds_toArray, List.set_cons_succ, List.set_cons_zero]
            refine take_q 1 39 (.int .i64 op) ⟨_, rfl, rfl, Or.inl ⟨by rfl, fun w hSw => by go_simp⟩⟩ (by kernel_rfl) (by kernel_rfl) (by kernel_rfl) (fun _ _ _ h => h) trivial ?_
            simp only [List.setIfInBounds_toArray, List.set_cons_succ, List.set_cons_zero]
            refine take_q 2 40 (.agg #[.int .i64 op, .string ⟨#[]⟩, .int .i64 0, .bool false, .int .i64 0, .string ⟨#[]⟩, .slice none 0 0, .slice none 0 0]) ⟨_, rfl, rfl, Or.inl ⟨by rfl, fun w hSw => by go_simp⟩⟩ (by kernel_rfl) (by kernel_rfl) (by kernel_rfl) (fun _ _ _ h => h) trivial ?_
            simp only [List.setIfInBounds_toArray, List.set_cons_succ, List.set_cons_zero]
            refine take_q 4 42 (.pointer (some ⟨B, 0, none⟩)) ⟨_, rfl, rfl, Or.inl ⟨by rfl, fun w hSw => by go_simp⟩⟩ (by kernel_rfl) (by kernel_rfl) (by kernel_rfl) (fun _ _ _ h => h) trivial ?_
            simp only [List.setIfInBounds_toArray, List.set_cons_succ, List.set_cons_zero]
            refine take_q 5 43 (.int .i64 (n : Int)) ⟨_, rfl, rfl, Or.inl ⟨by rfl, fun w hSw => by go_simp⟩⟩ (by kernel_rfl) (by kernel_rfl) (by kernel_rfl) (fun _ _ _ h => h) trivial ?_
            simp only [List.setIfInBounds_toArray, List.set_cons_succ, List.set_cons_zero]
            refine take_q 6 44 (.int .i64 ((n : Int) + 1)) ⟨_, rfl, rfl, Or.inl ⟨by rfl, fun w hSw => by go_simp⟩⟩ (by kernel_rfl) (by kernel_rfl) (by kernel_rfl) (fun _ _ _ h => h) trivial ?_
            simp only [List.setIfInBounds_toArray, List.set_cons_succ, List.set_cons_zero]
            refine wpAnyH_ready (rs := [3, 7]) (by kernel_rfl) (by simp) ?_
            refine AllReadyH.cons rfl (fun K' hK => ?_) (AllReadyH.cons rfl (fun K' hK => ?_) AllReadyH.nil)
            · obtain ⟨q6, m6, d6, q7, m7, d7, ho3, hv3⟩ := hT3d.out.open
              have HO3 := Hid.intro ho3
              rw [if_pos (by rfl)]
              refine wp_load_cells _ _ rfl _ rfl _ _ _ HO3.out Tryz.underlying103 infoTree rfl ?_
              refine hK.out _ _ trivial (fun _ => ?_)
              clear hK K'
              (try simp only [Act.put, List.setIfInBounds_toArray])
              refine wpAnyH_ready (rs := [7]) (by kernel_rfl) (by simp) ?_
              refine AllReadyH.cons rfl (fun K' hK => ?_) AllReadyH.nil
              go_simp
              refine (HL r0 w3.drew (hp3.via (Below.refl _ _).drew)).out.mono ?_
              rw [hnm]
              rintro e w4 ⟨hb4, hl4, hp4, v4, rfl, u6, n6', c6', u7, n7', c7', rfl, k6, k7, k8⟩
              go_wp2_with fail
              refine hK.out _ _ trivial (fun _ => ?_)
              clear hK K'
              (try simp only [Act.put, List.setIfInBounds_toArray, List.set_cons_succ, List.set_cons_zero])
              have hE4 : w1.heap.size < w4.heap.size := Nat.lt_of_lt_of_le hE3 hb4.size
              have hR4 := row_bt hb4 (by omega) hR3d
              have hT4 := hT3d.out.bt hb4
              obtain ⟨x6, x6n, x6c, x7, x7n, x7c, hxe, g6, g7, g8⟩ := hv3.move (hb4.kp (by omega)) (fun _ _ h => h)
              simp only [Value.agg.injEq, Array.mk.injEq, List.cons.injEq, true_and, and_true] at hxe
              obtain ⟨hx6, hx7⟩ := hxe
              rw [← hx6] at g6
              rw [← hx7] at g7
              refine wpAnyH_ready (rs := [8]) (by kernel_rfl) (by simp) ?_
              refine AllReadyH.cons rfl (fun K' hK => ?_) AllReadyH.nil
              go_simp
              go_wp2_with fail
              refine hK.out _ _ trivial (fun _ => ?_)
              clear hK K'
              (try simp only [Act.put, List.setIfInBounds_toArray, List.set_cons_succ, List.set_cons_zero])
              refine wpAnyH_ready (rs := [9]) (by kernel_rfl) (by simp) ?_
              refine AllReadyH.cons rfl (fun K' hK => ?_) AllReadyH.nil
              have hka := Kp.alloc (P := fun b => w.heap.size + 1 ≤ b ∧ b ≠ w1.heap.size) w4 (.cells #[.int .i64 t.e.op, .string t.e.t, .int .i64 t.e.v.k, .bool t.e.v.b, .int .i64 t.e.v.i, .string t.e.v.s, .slice q6 m6 d6, .slice q7 m7 d7, .int .i64 (t.d : Int), .int .i64 u.e.op, .string u.e.t, .int .i64 u.e.v.k, .bool u.e.v.b, .int .i64 u.e.v.i, .string u.e.v.s, .slice u6 n6' c6', .slice u7 n7' c7', .int .i64 (u.d : Int)] 103)
              go_simp
              refine (node_any x.a op ⟨#[]⟩ [t, u] (two_trees (heap_alloc_new w4 _) (rep.move hka (fun _ _ h => h) _ _ g6) (rep.move hka (fun _ _ h => h) _ _ g7) (rep.move (Kp.alloc (P := fun b => w3.drew.heap.size ≤ b) w4 _) (fun b _ h => by omega) _ _ k6) (rep.move (Kp.alloc (P := fun b => w3.drew.heap.size ≤ b) w4 _) (fun b _ h => by omega) _ _ k7)) (by simp; exact ⟨hd30, k8⟩) (by simp)).mono ?_
              rintro e w6 ⟨hb6, he6⟩
              have hbt6 : Bt B w w6 := ((((HB.out).trans hb3).drew.trans hb4).alloc _).trans (Bt.below hb6)
              rw [if_pos h30] at he6
              subst he6
              refine ⟨rfl, hbt6, ?_⟩
              rw [← HE.out]
            · go_simp
              refine (HL r0 w3.drew (hp3.via (Below.refl _ _).drew)).out.mono ?_
              rw [hnm]
              rintro e w4 ⟨hb4, hl4, hp4, v4, rfl, u6, n6', c6', u7, n7', c7', rfl, k6, k7, k8⟩
              go_wp2_with fail
              refine hK.out _ _ trivial (fun _ => ?_)
              clear hK K'
              (try simp only [Act.put, List.setIfInBounds_toArray, List.set_cons_succ, List.set_cons_zero])
              have hE4 : w1.heap.size < w4.heap.size := Nat.lt_of_lt_of_le hE3 hb4.size
              have hR4 := row_bt hb4 (by omega) hR3d
              have hT4 := hT3d.out.bt hb4
              obtain ⟨q6, m6, d6, q7, m7, d7, ho4, x6, x6n, x6c, x7, x7n, x7c, hxe, g6, g7, g8⟩ := hT4.open
              have HO4 := Hid.intro ho4
              simp only [Value.agg.injEq, Array.mk.injEq, List.cons.injEq, true_and, and_true] at hxe
              obtain ⟨hx6, hx7⟩ := hxe
              rw [← hx6] at g6
              rw [← hx7] at g7
              refine wpAnyH_ready (rs := [3]) (by kernel_rfl) (by simp) ?_
              refine AllReadyH.cons rfl (fun K' hK => ?_) AllReadyH.nil
              rw [if_pos (by rfl)]
              refine wp_load_cells _ _ rfl _ rfl _ _ _ HO4.out Tryz.underlying103 infoTree rfl ?_
              refine hK.out _ _ trivial (fun _ => ?_)
              clear hK K'
              (try simp only [Act.put, List.setIfInBounds_toArray])
              refine wpAnyH_ready (rs := [8]) (by kernel_rfl) (by simp) ?_
              refine AllReadyH.cons rfl (fun K' hK => ?_) AllReadyH.nil
              go_simp
              go_wp2_with fail
              refine hK.out _ _ trivial (fun _ => ?_)
              clear hK K'
              (try simp only [Act.put, List.setIfInBounds_toArray, List.set_cons_succ, List.set_cons_zero])
              refine wpAnyH_ready (rs := [9]) (by kernel_rfl) (by simp) ?_
              refine AllReadyH.cons rfl (fun K' hK => ?_) AllReadyH.nil
              have hka := Kp.alloc (P := fun b => w.heap.size + 1 ≤ b ∧ b ≠ w1.heap.size) w4 (.cells #[.int .i64 t.e.op, .string t.e.t, .int .i64 t.e.v.k, .bool t.e.v.b, .int .i64 t.e.v.i, .string t.e.v.s, .slice q6 m6 d6, .slice q7 m7 d7, .int .i64 (t.d : Int), .int .i64 u.e.op, .string u.e.t, .int .i64 u.e.v.k, .bool u.e.v.b, .int .i64 u.e.v.i, .string u.e.v.s, .slice u6 n6' c6', .slice u7 n7' c7', .int .i64 (u.d : Int)] 103)
              go_simp
              refine (node_any x.a op ⟨#[]⟩ [t, u] (two_trees (heap_alloc_new w4 _) (rep.move hka (fun _ _ h => h) _ _ g6) (rep.move hka (fun _ _ h => h) _ _ g7) (rep.move (Kp.alloc (P := fun b => w3.drew.heap.size ≤ b) w4 _) (fun b _ h => by omega) _ _ k6) (rep.move (Kp.alloc (P := fun b => w3.drew.heap.size ≤ b) w4 _) (fun b _ h => by omega) _ _ k7)) (by simp; exact ⟨hd30, k8⟩) (by simp)).mono ?_
              rintro e w6 ⟨hb6, he6⟩
              have hbt6 : Bt B w w6 := ((((HB.out).trans hb3).drew.trans hb4).alloc _).trans (Bt.below hb6)
              rw [if_pos h30] at he6
              subst he6
              refine ⟨rfl, hbt6, ?_⟩
              rw [← HE.out]
          · have hnd : nodeM x.a { op := op } [t, u] r2 = .ok ⟨{ op := op, a := [t, u].map Te.e }, deepM [t, u]⟩ r2 := if_neg h30
            rw [hnd, bd_ok] at HE
            refine wp_region_held_drew (S := fun _ => True) hmo trivial (fun _ => ?_)
            refine take_q 0 38 (.int .i64 (x.a : Int)) ⟨_, rfl, rfl, Or.inl ⟨by rfl, fun w hSw => by go_simp⟩⟩ (by kernel_rfl) (by kernel_rfl) (by kernel_rfl) (fun _ _ _ h => h) trivial ?_
            simp only [List.setIfInBounds_toArray, List.set_cons_succ, List.set_cons_zero]
            refine take_q 1 39 (.int .i64 op) ⟨_, rfl, rfl, Or.inl ⟨by rfl, fun w hSw => by go_simp⟩⟩ (by kernel_rfl) (by kernel_rfl) (by kernel_rfl) (fun _ _ _ h => h) trivial ?_
            simp only [List.setIfInBounds_toArray, List.set_cons_succ, List.set_cons_zero]
            refine take_q 2 40 (.agg #[.int .i64 op, .string ⟨#[]⟩, .int .i64 0, .bool false, .int .i64 0, .string ⟨#[]⟩, .slice none 0 0, .slice none 0 0]) ⟨_, rfl, rfl, Or.inl ⟨by rfl, fun w hSw => by go_simp⟩⟩ (by kernel_rfl) (by kernel_rfl) (by kernel_rfl) (fun _ _ _ h => h) trivial ?_
            simp only [List.setIfInBounds_toArray, List.set_cons_succ, List.set_cons_zero]
            refine take_q 4 42 (.pointer (some ⟨B, 0, none⟩)) ⟨_, rfl, rfl, Or.inl ⟨by rfl, fun w hSw => by go_simp⟩⟩ (by kernel_rfl) (by kernel_rfl) (by kernel_rfl) (fun _ _ _ h => h) trivial ?_
            simp only [List.setIfInBounds_toArray, List.set_cons_succ, List.set_cons_zero]
            refine take_q 5 43 (.int .i64 (n : Int)) ⟨_, rfl, rfl, Or.inl ⟨by rfl, fun w hSw => by go_simp⟩⟩ (by kernel_rfl) (by kernel_rfl) (by kernel_rfl) (fun _ _ _ h => h) trivial ?_
            simp only [List.setIfInBounds_toArray, List.set_cons_succ, List.set_cons_zero]
            refine take_q 6 44 (.int .i64 ((n : Int) + 1)) ⟨_, rfl, rfl, Or.inl ⟨by rfl, fun w hSw => by go_simp⟩⟩ (by kernel_rfl) (by kernel_rfl) (by kernel_rfl) (fun _ _ _ h => h) trivial ?_
            simp only [List.setIfInBounds_toArray, List.set_cons_succ, List.set_cons_zero]
            refine wpAnyH_ready (rs := [3, 7]) (by kernel_rfl) (by simp) ?_
            refine AllReadyH.cons rfl (fun K' hK => ?_) (AllReadyH.cons rfl (fun K' hK => ?_) AllReadyH.nil)
            · obtain ⟨q6, m6, d6, q7, m7, d7, ho3, hv3⟩ := hT3d.out.open
              have HO3 := Hid.intro ho3
              rw [if_pos (by rfl)]
              refine wp_load_cells _ _ rfl _ rfl _ _ _ HO3.out Tryz.underlying103 infoTree rfl ?_
              refine hK.out _ _ trivial (fun _ => ?_)
              clear hK K'
              (try simp only [Act.put, List.setIfInBounds_toArray])
              refine wpAnyH_ready (rs := [7]) (by kernel_rfl) (by simp) ?_
              refine AllReadyH.cons rfl (fun K' hK => ?_) AllReadyH.nil
              go_simp
              refine (HL r0 w3.drew (hp3.via (Below.refl _ _).drew)).out.mono ?_
              rw [hnm]
              rintro e w4 ⟨hb4, hl4, hp4, v4, rfl, u6, n6', c6', u7, n7', c7', rfl, k6, k7, k8⟩
              go_wp2_with fail
              refine hK.out _ _ trivial (fun _ => ?_)
              clear hK K'
              (try simp only [Act.put, List.setIfInBounds_toArray, List.set_cons_succ, List.set_cons_zero])
              have hE4 : w1.heap.size < w4.heap.size := Nat.lt_of_lt_of_le hE3 hb4.size
              have hR4 := row_bt hb4 (by omega) hR3d
              have hT4 := hT3d.out.bt hb4
              obtain ⟨x6, x6n, x6c, x7, x7n, x7c, hxe, g6, g7, g8⟩ := hv3.move (hb4.kp (by omega)) (fun _ _ h => h)
              simp only [Value.agg.injEq, Array.mk.injEq, List.cons.injEq, true_and, and_true] at hxe
              obtain ⟨hx6, hx7⟩ := hxe
              rw [← hx6] at g6
              rw [← hx7] at g7
              refine wpAnyH_ready (rs := [8]) (by kernel_rfl) (by simp) ?_
              refine AllReadyH.cons rfl (fun K' hK => ?_) AllReadyH.nil
              go_simp
              go_wp2_with fail
              refine hK.out _ _ trivial (fun _ => ?_)
              clear hK K'
              (try simp only [Act.put, List.setIfInBounds_toArray, List.set_cons_succ, List.set_cons_zero])
              refine wpAnyH_ready (rs := [9]) (by kernel_rfl) (by simp) ?_
              refine AllReadyH.cons rfl (fun K' hK => ?_) AllReadyH.nil
              have hka := Kp.alloc (P := fun b => w.heap.size + 1 ≤ b ∧ b ≠ w1.heap.size) w4 (.cells #[.int .i64 t.e.op, .string t.e.t, .int .i64 t.e.v.k, .bool t.e.v.b, .int .i64 t.e.v.i, .string t.e.v.s, .slice q6 m6 d6, .slice q7 m7 d7, .int .i64 (t.d : Int), .int .i64 u.e.op, .string u.e.t, .int .i64 u.e.v.k, .bool u.e.v.b, .int .i64 u.e.v.i, .string u.e.v.s, .slice u6 n6' c6', .slice u7 n7' c7', .int .i64 (u.d : Int)] 103)
              go_simp
              refine (node_any x.a op ⟨#[]⟩ [t, u] (two_trees (heap_alloc_new w4 _) (rep.move hka (fun _ _ h => h) _ _ g6) (rep.move hka (fun _ _ h => h) _ _ g7) (rep.move (Kp.alloc (P := fun b => w3.drew.heap.size ≤ b) w4 _) (fun b _ h => by omega) _ _ k6) (rep.move (Kp.alloc (P := fun b => w3.drew.heap.size ≤ b) w4 _) (fun b _ h => by omega) _ _ k7)) (by simp; exact ⟨hd30, k8⟩) (by simp)).mono ?_
              rintro e w6 ⟨hb6, he6⟩
              have hbt6 : Bt B w w6 := ((((HB.out).trans hb3).drew.trans hb4).alloc _).trans (Bt.below hb6)
              rw [if_neg h30] at he6
              obtain ⟨v6, rfl, y6, a6, e6, y7, a7, e7, rfl, z6, z7, z8⟩ := he6
              go_wp2_with fail
              refine hK.out _ _ trivial (fun _ => ?_)
              clear hK K'
              (try simp only [Act.put, List.setIfInBounds_toArray, List.set_cons_succ, List.set_cons_zero])
              refine wpAnyH_ready (rs := [10]) (by kernel_rfl) (by simp) ?_
              refine AllReadyH.cons rfl (fun K' hK => ?_) AllReadyH.nil
              have HO6 := Hid.intro (row_call hb6 (by simp; omega) ((heap_alloc_old w4 _ hE4).trans hT4.open.choose_spec.choose_spec.choose_spec.choose_spec.choose_spec.choose_spec.1))
              rw [if_pos (by rfl)]
              refine wp_store_cells _ _ _ rfl _ _ rfl rfl _ _ HO6.out infoTree rfl rfl (by simp [Value.oneCell']) ?_
              refine hK.out _ _ trivial (fun _ => ?_)
              clear hK K'
              (try simp only [Act.put, List.setIfInBounds_toArray])
              refine wpAnyH_done (by kernel_rfl) ?_ _
              have hsal : (w4.alloc (.cells #[.int .i64 t.e.op, .string t.e.t, .int .i64 t.e.v.k, .bool t.e.v.b, .int .i64 t.e.v.i, .string t.e.v.s, .slice q6 m6 d6, .slice q7 m7 d7, .int .i64 (t.d : Int), .int .i64 u.e.op, .string u.e.t, .int .i64 u.e.v.k, .bool u.e.v.b, .int .i64 u.e.v.i, .string u.e.v.s, .slice u6 n6' c6', .slice u7 n7' c7', .int .i64 (u.d : Int)] 103)).heap.size = w4.heap.size + 1 := by simp
              have hT6 : Hid (TB (w.heap.size + 1) B w1.heap.size (w6.setRow w1.heap.size #[.int .i64 op, .string ⟨#[]⟩, .int .i64 0, .bool false, .int .i64 0, .string ⟨#[]⟩, .slice y6 a6 e6, .slice y7 a7 e7, .int .i64 (deepM [t, u] : Int)]) ⟨{ op := op, a := [t, u].map Te.e }, deepM [t, u]⟩) := TB.put (by omega) (by omega) HO6.out rfl ⟨y6, a6, e6, y7, a7, e7, rfl, rep.move Kp.refl (fun b _ h => by rcases h with (h | h) | h <;> omega) _ _ z6, rep.move Kp.refl (fun b _ h => by rcases h with (h | h) | h <;> omega) _ _ z7, z8⟩
              have hB6 : Hid (Bt B w (w6.setRow w1.heap.size #[.int .i64 op, .string ⟨#[]⟩, .int .i64 0, .bool false, .int .i64 0, .string ⟨#[]⟩, .slice y6 a6 e6, .slice y7 a7 e7, .int .i64 (deepM [t, u] : Int)])) := hbt6.row (by omega) _
              have hP6 : Hid (PAt K (w6.setRow w1.heap.size #[.int .i64 op, .string ⟨#[]⟩, .int .i64 0, .bool false, .int .i64 0, .string ⟨#[]⟩, .slice y6 a6 e6, .slice y7 a7 e7, .int .i64 (deepM [t, u] : Int)]) B r2 o) := ((hp4.via (below_al (Below.refl _ _) _)).via hb6).row (by omega) _
              have hR6 : Hid ((w6.setRow w1.heap.size #[.int .i64 op, .string ⟨#[]⟩, .int .i64 0, .bool false, .int .i64 0, .string ⟨#[]⟩, .slice y6 a6 e6, .slice y7 a7 e7, .int .i64 (deepM [t, u] : Int)]).heap[w.heap.size]? = _) := (setRow_other _ _ _ _ (by omega)).trans (row_call hb6 (by omega) ((heap_alloc_old w4 _ (by omega)).trans hR4))
              have hrl := HP.out.rlen
              have hrl6 := hP6.out.rlen
              simp only [List.length_cons] at hrl hlf hl'
              generalize (w6.setRow w1.heap.size #[.int .i64 op, .string ⟨#[]⟩, .int .i64 0, .bool false, .int .i64 0, .string ⟨#[]⟩, .slice y6 a6 e6, .slice y7 a7 e7, .int .i64 (deepM [t, u] : Int)]) = W6 at hT6 hB6 hP6 hrl6 hR6 ⊢
              clear HO6 hb6 z6 z7 z8 k6 k7 g6 g7 hbt6
              by_cases h2 : n = 2
              · have h2i : ((n : Int) == 2) = true := by rw [Hn2.out, decide_eq_true h2]
                rw [if_pos h2] at HE
                obtain ⟨b6, b6n, b6c, b7, b7n, b7c, ho7, hv7⟩ := hT6.out.open
                have HO7 := Hid.intro ho7
                clear h2
                go_wp2_with (first | (with_reducible refine (id (?_ : wpList _ _ _ (Oper.mk _ (Op.load _ _) _ _ _ _ :: _) _ _)); refine wpList_load_cells rfl _ _ rfl _ rfl _ _ _ HO7.out Tryz.underlying103 infoTree rfl ?_) | (with_reducible refine (id (?_ : wpList _ _ _ (Oper.mk _ (Op.store _ _ _) _ _ _ _ :: _) _ _)); refine wpList_store_row rfl _ _ _ rfl _ _ rfl rfl _ _ hR6.out infoTree rfl rfl (by simp [Value.oneCell']) ?_))
                refine ret_cells rfl rfl (setRow_heap _ _ _ _ _ _ hR6.out) Tryz.underlying103 infoTree rfl rfl ?_
                rw [← HE.out]
                refine Post.ok ((hB6.out).row (Nat.le_refl _) _) (by omega) ((hP6.out).row hsz.1 _) ?_
                exact hv7.move ⟨by simp, fun b hb _ o => World.cell?_of_block (a := ⟨b, o, none⟩) (setRow_other _ _ _ _ (by simp only; omega))⟩ (fun b _ h => by omega)
              · have h2i : ((n : Int) == 2) = false := by rw [Hn2.out, decide_eq_false h2]
                rw [if_neg h2] at HE
                clear h2
                go_wp2_with fail
                refine (HOp r2 W6 hP6.out).out.mono ?_
                rintro e w7 ⟨rfl, hw7⟩
                have hrl7 := (hP6.out.via hw7).rlen
                obtain ⟨i2, b3, hib, hio⟩ := op_form (opM n r2)
                rw [hib]
                clear hib
                go_wp2_with fail
                go_roundw
                case rel => exact ⟨_, r2, f, i2, b3, rfl, rfl, hio, hT6.out.bt (Bt.below hw7), hP6.out.via hw7, by omega, by omega, hB6.out.trans (Bt.below hw7), row_bt (Bt.below (B := B) hw7) (by omega) hR6.out, HE⟩
                case measure => rw [hrl, hrl7]; omega
            · go_simp
              refine (HL r0 w3.drew (hp3.via (Below.refl _ _).drew)).out.mono ?_
              rw [hnm]
              rintro e w4 ⟨hb4, hl4, hp4, v4, rfl, u6, n6', c6', u7, n7', c7', rfl, k6, k7, k8⟩
              go_wp2_with fail
              refine hK.out _ _ trivial (fun _ => ?_)
              clear hK K'
              (try simp only [Act.put, List.setIfInBounds_toArray, List.set_cons_succ, List.set_cons_zero])
              have hE4 : w1.heap.size < w4.heap.size := Nat.lt_of_lt_of_le hE3 hb4.size
              have hR4 := row_bt hb4 (by omega) hR3d
              have hT4 := hT3d.out.bt hb4
              obtain ⟨q6, m6, d6, q7, m7, d7, ho4, x6, x6n, x6c, x7, x7n, x7c, hxe, g6, g7, g8⟩ := hT4.open
              have HO4 := Hid.intro ho4
              simp only [Value.agg.injEq, Array.mk.injEq, List.cons.injEq, true_and, and_true] at hxe
              obtain ⟨hx6, hx7⟩ := hxe
              rw [← hx6] at g6
              rw [← hx7] at g7
              refine wpAnyH_ready (rs := [3]) (by kernel_rfl) (by simp) ?_
              refine AllReadyH.cons rfl (fun K' hK => ?_) AllReadyH.nil
              rw [if_pos (by rfl)]
              refine wp_load_cells _ _ rfl _ rfl _ _ _ HO4.out Tryz.underlying103 infoTree rfl ?_
              refine hK.out _ _ trivial (fun _ => ?_)
              clear hK K'
              (try simp only [Act.put, List.setIfInBounds_toArray])
              refine wpAnyH_ready (rs := [8]) (by kernel_rfl) (by simp) ?_
              refine AllReadyH.cons rfl (fun K' hK => ?_) AllReadyH.nil
              go_simp
              go_wp2_with fail
              refine hK.out _ _ trivial (fun _ => ?_)
              clear hK K'
              (try simp only [Act.put, List.setIfInBounds_toArray, List.set_cons_succ, List.set_cons_zero])
              refine wpAnyH_ready (rs := [9]) (by kernel_rfl) (by simp) ?_
              refine AllReadyH.cons rfl (fun K' hK => ?_) AllReadyH.nil
              have hka := Kp.alloc (P := fun b => w.heap.size + 1 ≤ b ∧ b ≠ w1.heap.size) w4 (.cells #[.int .i64 t.e.op, .string t.e.t, .int .i64 t.e.v.k, .bool t.e.v.b, .int .i64 t.e.v.i, .string t.e.v.s, .slice q6 m6 d6, .slice q7 m7 d7, .int .i64 (t.d : Int), .int .i64 u.e.op, .string u.e.t, .int .i64 u.e.v.k, .bool u.e.v.b, .int .i64 u.e.v.i, .string u.e.v.s, .slice u6 n6' c6', .slice u7 n7' c7', .int .i64 (u.d : Int)] 103)
              go_simp
              refine (node_any x.a op ⟨#[]⟩ [t, u] (two_trees (heap_alloc_new w4 _) (rep.move hka (fun _ _ h => h) _ _ g6) (rep.move hka (fun _ _ h => h) _ _ g7) (rep.move (Kp.alloc (P := fun b => w3.drew.heap.size ≤ b) w4 _) (fun b _ h => by omega) _ _ k6) (rep.move (Kp.alloc (P := fun b => w3.drew.heap.size ≤ b) w4 _) (fun b _ h => by omega) _ _ k7)) (by simp; exact ⟨hd30, k8⟩) (by simp)).mono ?_
              rintro e w6 ⟨hb6, he6⟩
              have hbt6 : Bt B w w6 := ((((HB.out).trans hb3).drew.trans hb4).alloc _).trans (Bt.below hb6)
              rw [if_neg h30] at he6
              obtain ⟨v6, rfl, y6, a6, e6, y7, a7, e7, rfl, z6, z7, z8⟩ := he6
              go_wp2_with fail
              refine hK.out _ _ trivial (fun _ => ?_)
              clear hK K'
              (try simp only [Act.put, List.setIfInBounds_toArray, List.set_cons_succ, List.set_cons_zero])
              refine wpAnyH_ready (rs := [10]) (by kernel_rfl) (by simp) ?_
              refine AllReadyH.cons rfl (fun K' hK => ?_) AllReadyH.nil
              have HO6 := Hid.intro (row_call hb6 (by simp; omega) ((heap_alloc_old w4 _ hE4).trans hT4.open.choose_spec.choose_spec.choose_spec.choose_spec.choose_spec.choose_spec.1))
              rw [if_pos (by rfl)]
              refine wp_store_cells _ _ _ rfl _ _ rfl rfl _ _ HO6.out infoTree rfl rfl (by simp [Value.oneCell']) ?_
              refine hK.out _ _ trivial (fun _ => ?_)
              clear hK K'
              (try simp only [Act.put, List.setIfInBounds_toArray])
              refine wpAnyH_done (by kernel_rfl) ?_ _
              have hsal : (w4.alloc (.cells #[.int .i64 t.e.op, .string t.e.t, .int .i64 t.e.v.k, .bool t.e.v.b, .int .i64 t.e.v.i, .string t.e.v.s, .slice q6 m6 d6, .slice q7 m7 d7, .int .i64 (t.d : Int), .int .i64 u.e.op, .string u.e.t, .int .i64 u.e.v.k, .bool u.e.v.b, .int .i64 u.e.v.i, .string u.e.v.s, .slice u6 n6' c6', .slice u7 n7' c7', .int .i64 (u.d : Int)] 103)).heap.size = w4.heap.size + 1 := by simp
              have hT6 : Hid (TB (w.heap.size + 1) B w1.heap.size (w6.setRow w1.heap.size #[.int .i64 op, .string ⟨#[]⟩, .int .i64 0, .bool false, .int .i64 0, .string ⟨#[]⟩, .slice y6 a6 e6, .slice y7 a7 e7, .int .i64 (deepM [t, u] : Int)]) ⟨{ op := op, a := [t, u].map Te.e }, deepM [t, u]⟩) := TB.put (by omega) (by omega) HO6.out rfl ⟨y6, a6, e6, y7, a7, e7, rfl, rep.move Kp.refl (fun b _ h => by rcases h with (h | h) | h <;> omega) _ _ z6, rep.move Kp.refl (fun b _ h => by rcases h with (h | h) | h <;> omega) _ _ z7, z8⟩
              have hB6 : Hid (Bt B w (w6.setRow w1.heap.size #[.int .i64 op, .string ⟨#[]⟩, .int .i64 0, .bool false, .int .i64 0, .string ⟨#[]⟩, .slice y6 a6 e6, .slice y7 a7 e7, .int .i64 (deepM [t, u] : Int)])) := hbt6.row (by omega) _
              have hP6 : Hid (PAt K (w6.setRow w1.heap.size #[.int .i64 op, .string ⟨#[]⟩, .int .i64 0, .bool false, .int .i64 0, .string ⟨#[]⟩, .slice y6 a6 e6, .slice y7 a7 e7, .int .i64 (deepM [t, u] : Int)]) B r2 o) := ((hp4.via (below_al (Below.refl _ _) _)).via hb6).row (by omega) _
              have hR6 : Hid ((w6.setRow w1.heap.size #[.int .i64 op, .string ⟨#[]⟩, .int .i64 0, .bool false, .int .i64 0, .string ⟨#[]⟩, .slice y6 a6 e6, .slice y7 a7 e7, .int .i64 (deepM [t, u] : Int)]).heap[w.heap.size]? = _) := (setRow_other _ _ _ _ (by omega)).trans (row_call hb6 (by omega) ((heap_alloc_old w4 _ (by omega)).trans hR4))
              have hrl := HP.out.rlen
              have hrl6 := hP6.out.rlen
              simp only [List.length_cons] at hrl hlf hl'
              generalize (w6.setRow w1.heap.size #[.int .i64 op, .string ⟨#[]⟩, .int .i64 0, .bool false, .int .i64 0, .string ⟨#[]⟩, .slice y6 a6 e6, .slice y7 a7 e7, .int .i64 (deepM [t, u] : Int)]) = W6 at hT6 hB6 hP6 hrl6 hR6 ⊢
              clear HO6 hb6 z6 z7 z8 k6 k7 g6 g7 hbt6
              by_cases h2 : n = 2
              · have h2i : ((n : Int) == 2) = true := by rw [Hn2.out, decide_eq_true h2]
                rw [if_pos h2] at HE
                obtain ⟨b6, b6n, b6c, b7, b7n, b7c, ho7, hv7⟩ := hT6.out.open
                have HO7 := Hid.intro ho7
                clear h2
                go_wp2_with (first | (with_reducible refine (id (?_ : wpList _ _ _ (Oper.mk _ (Op.load _ _) _ _ _ _ :: _) _ _)); refine wpList_load_cells rfl _ _ rfl _ rfl _ _ _ HO7.out Tryz.underlying103 infoTree rfl ?_) | (with_reducible refine (id (?_ : wpList _ _ _ (Oper.mk _ (Op.store _ _ _) _ _ _ _ :: _) _ _)); refine wpList_store_row rfl _ _ _ rfl _ _ rfl rfl _ _ hR6.out infoTree rfl rfl (by simp [Value.oneCell']) ?_))
                refine ret_cells rfl rfl (setRow_heap _ _ _ _ _ _ hR6.out) Tryz.underlying103 infoTree rfl rfl ?_
                rw [← HE.out]
                refine Post.ok ((hB6.out).row (Nat.le_refl _) _) (by omega) ((hP6.out).row hsz.1 _) ?_
                exact hv7.move ⟨by simp, fun b hb _ o => World.cell?_of_block (a := ⟨b, o, none⟩) (setRow_other _ _ _ _ (by simp only; omega))⟩ (fun b _ h => by omega)
              · have h2i : ((n : Int) == 2) = false := by rw [Hn2.out, decide_eq_false h2]
                rw [if_neg h2] at HE
                clear h2
                go_wp2_with fail
                refine (HOp r2 W6 hP6.out).out.mono ?_
                rintro e w7 ⟨rfl, hw7⟩
                have hrl7 := (hP6.out.via hw7).rlen
                obtain ⟨i2, b3, hib, hio⟩ := op_form (opM n r2)
                rw [hib]
                clear hib
                go_wp2_with fail
                go_roundw
                case rel => exact ⟨_, r2, f, i2, b3, rfl, rfl, hio, hT6.out.bt (Bt.below hw7), hP6.out.via hw7, by omega, by omega, hB6.out.trans (Bt.below hw7), row_bt (Bt.below (B := B) hw7) (by omega) hR6.out, HE⟩
                case measure => rw [hrl, hrl7]; omega
end Go.Proofs.YtcgaadnfocmdbaaGreatDoor
end

section
/- tree, expr. -/
namespace Go.Proofs.YtcgaadnfocmdbaaGreatDoor
open Go.RowKit

theorem level_all {K B o : Nat} {S : Ps Te} (hS : TC K B o 136 (S o)) : ∀ k, k ≤ 5 → LC K B o ((5 - k : Nat) : Int) (levelM S o k)
  | 0, _ => level_five hS
  | k + 1, hk => by
    have ih := level_all hS k (by omega)
    have e : ((5 - k : Nat) : Int) = ((4 - k : Nat) : Int) + 1 := by omega
    rw [e] at ih
    have := level_succ (n := 4 - k) (by omega) ih
    have e2 : 5 - (k + 1) = 4 - k := by omega
    rw [e2]
    exact this

set_option maxRecDepth 100000 in
set_option maxHeartbeats 4000000 in
theorem tree_fuel {K B : Nat} : ∀ (f o : Nat), 31 ≤ f + o → TC K B o 49 (treeM f o)
  | 0, o, hf => fun r w h => by have := h.most; omega
  | f + 1, o, hf => fun r w h => by
    have hL : LC K B o 0 (levelM (signM (atomM (treeM f)) 32) o 5) := level_all (S := signM (atomM (treeM f)) 32) (sign_fuel 32 o (by omega) (fun o' ho => tree_fuel f o' (by omega))) 5 (Nat.le_refl _)
    have hsz := h.size
    have hR0 : (w.alloc z9).heap[w.heap.size]? = some z9 := heap_alloc_new w _
    have b0 : Below w.heap.size w (w.alloc z9) := below_al (Below.refl _ _) _
    unfold z9 at hR0 b0
    have HN := fun w h => Hid.intro (hL r w h)
    show Calls _ _ _ _ (Post K B o (r.length - 1) w (levelM (signM (atomM (treeM f)) 32) o 5 r) _)
    generalize levelM (signM (atomM (treeM f)) 32) o 5 = m at HN ⊢
    cases hm : m r with
    | bad q =>
      rw [hm] at HN
      clear hm
      go_enter Tryz.func49, Tryz.ntmps49
      go_wp2_with fail
      refine (HN _ (h.via b0)).out.mono ?_
      rintro e v1 ⟨ht1, rfl⟩
      exact ⟨rfl, (Bt.below b0).trans ht1, rfl⟩
    | ok t r1 =>
      rw [hm] at HN
      clear hm
      go_enter Tryz.func49, Tryz.ntmps49
      go_wp2_with fail
      refine (HN _ (h.via b0)).out.mono ?_
      rintro e v1 ⟨ht1, hl1, hp1, v, rfl, p6, n6, c6, p7, n7, c7, rfl, z6, z7, z8⟩
      have hbt := (Bt.below (B := B) b0).trans ht1
      have hv1 : TeV _ v1 t _ := ⟨p6, n6, c6, p7, n7, c7, rfl, z6, z7, z8⟩
      have HR := Hid.intro (row_bt ht1 (by omega) hR0)
      go_wp2_with (with_reducible refine (id (?_ : wpList _ _ _ (Oper.mk _ (Op.store _ _ _) _ _ _ _ :: _) _ _)); refine wpList_store_row rfl _ _ _ rfl _ _ rfl rfl _ _ HR.out infoTree rfl rfl (by simp [Value.oneCell']) ?_)
      refine ret_cells rfl rfl (setRow_heap _ _ _ _ _ _ HR.out) Tryz.underlying103 infoTree rfl rfl (Post.ok ((hbt).row (Nat.le_refl _) _) hl1 ((hp1).row hsz.1 _) ?_)
      exact hv1.res (by simp) _
theorem tree_any (K B o : Nat) : TC K B o 49 (exprM o) := fun r w h => tree_fuel (31 - o) o (by omega) r w h

theorem fld_expr (x0 : Int) (x1 : ByteArray) (x2 : Int) (x3 : Bool) (x4 : Int) (x5 : ByteArray) (p6 : Option Addr) (n6 c6 : Nat) (p7 : Option Addr) (n7 c7 : Nat) (x8 : Int) (w : World) : (Instr.field 103 (.agg #[.int .i64 x0, .string x1, .int .i64 x2, .bool x3, .int .i64 x4, .string x5, .slice p6 n6 c6, .slice p7 n7 c7, .int .i64 x8]) 0).run Tryz.prog w = .ok (.agg #[.int .i64 x0, .string x1, .int .i64 x2, .bool x3, .int .i64 x4, .string x5, .slice p6 n6 c6, .slice p7 n7 c7]) w := by kernel_rfl
theorem ExV.move {P Q : Nat → Prop} {w w' : World} {t : Ex} {v : Value} (h : ExV P w t v) (hk : Kp P w w') (hpq : ∀ b, b < w.heap.size → P b → Q b) : ExV Q w' t v := by
  obtain ⟨p6, n6, c6, p7, n7, c7, rfl, h6, h7⟩ := h
  exact ⟨p6, n6, c6, p7, n7, c7, rfl, rep.move hk hpq _ _ h6, rep.move hk hpq _ _ h7⟩
def z8 : Obj := .cells #[.int .i64 0, .string ⟨#[]⟩, .int .i64 0, .bool false, .int .i64 0, .string ⟨#[]⟩, .slice none 0 0, .slice none 0 0] 39

set_option maxRecDepth 100000 in
set_option maxHeartbeats 4000000 in
theorem expr_any {K B o : Nat} {r : List Lx} {w : World} (h : PAt K w B r o) :
    Calls Tryz.prog 26 #[.pointer (some ⟨B, 0, none⟩)] w (Post K B o (r.length - 1) w (exprM o r) fun w' t v => ExV (fun b => w.heap.size ≤ b) w' t.e v) := by
  have hsz := h.size
  have hR0 : (w.alloc z8).heap[w.heap.size]? = some z8 := heap_alloc_new w _
  have b0 : Below w.heap.size w (w.alloc z8) := below_al (Below.refl _ _) _
  unfold z8 at hR0 b0
  have HN := fun w h => Hid.intro (tree_any K B o r w h)
  cases hm : exprM o r with
  | bad q =>
    rw [hm] at HN
    clear hm
    go_enter Tryz.func26, Tryz.ntmps26
    go_wp2_with fail
    refine (HN _ (h.via b0)).out.mono ?_
    rintro e v1 ⟨ht1, rfl⟩
    exact ⟨rfl, (Bt.below b0).trans ht1, rfl⟩
  | ok t r1 =>
    rw [hm] at HN
    clear hm
    go_enter Tryz.func26, Tryz.ntmps26
    go_wp2_with fail
    refine (HN _ (h.via b0)).out.mono ?_
    rintro e v1 ⟨ht1, hl1, hp1, v, rfl, p6, n6, c6, p7, n7, c7, rfl, z6, z7, z8⟩
    have hbt := (Bt.below (B := B) b0).trans ht1
    have HR := Hid.intro (row_bt ht1 (by omega) hR0)
    have hfe := fld_expr t.e.op t.e.t t.e.v.k t.e.v.b t.e.v.i t.e.v.s p6 n6 c6 p7 n7 c7 t.d
    go_wp2_with (with_reducible refine (id (?_ : wpList _ _ _ (Oper.mk _ (Op.store _ _ _) _ _ _ _ :: _) _ _)); refine wpList_store_row rfl _ _ _ rfl _ _ rfl rfl _ _ HR.out infoExpr rfl rfl (by simp [Value.oneCell']) ?_)
    refine ret_cells rfl rfl (setRow_heap _ _ _ _ _ _ HR.out) Tryz.underlying39 infoExpr rfl rfl (Post.ok ((hbt).row (Nat.le_refl _) _) hl1 ((hp1).row hsz.1 _) ?_)
    have hk : ∀ cs, Kp (fun b => w.heap.size < b) v1 (v1.setRow w.heap.size cs) := fun cs => ⟨by simp, fun b hb _ o => World.cell?_of_block (a := ⟨b, o, none⟩) (setRow_other _ _ _ _ (by simp only; omega))⟩
    exact ⟨p6, n6, c6, p7, n7, c7, rfl, rep.move (hk _) (fun b _ h => by omega) _ _ (rep.move Kp.refl (fun b _ h => by simp at h; omega) _ _ z6), rep.move (hk _) (fun b _ h => by omega) _ _ (rep.move Kp.refl (fun b _ h => by simp at h; omega) _ _ z7)⟩
end Go.Proofs.YtcgaadnfocmdbaaGreatDoor
end

section
/- bind, arg, assign, function. -/
namespace Go.Proofs.YtcgaadnfocmdbaaGreatDoor
open Go.RowKit

theorem run_store_part (w : World) (g o : Nat) (t ty : TypeId) (cur cells new : Array Value) (hg : w.heap[g]? = some (.cells cur t (0, 0))) {n : Nat} (hi : (Tryz.prog.info? ty).map (·.size) = some n) (hn : cells.size = n) (hfit : o + n ≤ cur.size)
    (h1 : cells.all (·.oneCell') = true) (hnew : (cur.toList.take o ++ cells.toList ++ cur.toList.drop (o + n)).toArray = new) : (storeVar ty ⟨g, o, none⟩ (.agg cells)).run Tryz.prog w = .ok () (w.setRow g new) := by
  have := run_storeCells_at Tryz.prog g o t cells.toList 0 cur w hg (by simp; omega) (fun v hv => (Array.all_eq_true_iff_forall_mem.1 h1) v (by simpa using hv))
  simp only [Nat.add_zero, Array.length_toList, hn, hnew] at this
  cases hq : Tryz.prog.info? ty with
  | none => simp [hq] at hi
  | some i =>
    have hs : cells.size = i.size := by simp [hq] at hi; omega
    simp [storeVar, sizeOf, typeInfo, hq, Value.cells, hs, this]
theorem wpList_store_part {ops : Array Oper} {rest : List Oper} {o : Oper} {a : Act} {w : World} {Q : Exit → Act → World → Prop} (hgd : o.guard = .none) (ty : TypeId) (x y : Operand) (ho : o.op = .store ty x y)
    (g off : Nat) (cells : Array Value) (hx : a.eval x = .pointer (some ⟨g, off, .none⟩)) (hy : a.eval y = .agg cells) (t : TypeId) (cur new : Array Value) (hg : w.heap[g]? = some (.cells cur t (0, 0))) {n : Nat} (hi : (Tryz.prog.info? ty).map (·.size) = some n)
    (hn : cells.size = n) (hfit : off + n ≤ cur.size) (h1 : cells.all (·.oneCell') = true) (hnew : (cur.toList.take off ++ cells.toList ++ cur.toList.drop (off + n)).toArray = new) (h : wpList Tryz.prog ops Q rest (a.put o.dst undef) (w.setRow g new)) : wpList Tryz.prog ops Q (o :: rest) a w := by
  refine wpList_plain hgd fun _ hK => ?_
  unfold Oper.wp execOp
  simp only [ho, hx, hy, Instr.storeAt, Instr.sureAddr, Sem.run_bind, Sem.run_pure, Result.andThen_ok, run_store_part w g off t ty cur cells new hg hi hn hfit h1 hnew]
  exact hK _ _ h
theorem infoBind : (Tryz.prog.info? 128).map (·.size) = some 2 := by kernel_rfl
theorem infoArg : (Tryz.prog.info? 130).map (·.size) = some 9 := by kernel_rfl
theorem infoAssign : (Tryz.prog.info? 101).map (·.size) = some 9 := by kernel_rfl
/-- A text and an expression, in nine cells. -/
def SxV (P : Nat → Prop) (w : World) (s : ByteArray) (e : Ex) (v : Value) : Prop :=
  ∃ p6 n6 c6 p7 n7 c7, v = .agg #[.string s, .int .i64 e.op, .string e.t, .int .i64 e.v.k, .bool e.v.b, .int .i64 e.v.i, .string e.v.s, .slice p6 n6 c6, .slice p7 n7 c7] ∧
    rep P w (.sl e.v.l.length (Vt.css e.v.l)) (.slice p6 n6 c6) ∧ rep P w (.sl e.a.length (Ex.css e.a)) (.slice p7 n7 c7)
theorem kp_row {g : Nat} (w : World) (cs : Array Value) : Kp (fun b => g < b) w (w.setRow g cs) := ⟨by simp, fun b hb _ o => World.cell?_of_block (a := ⟨b, o, none⟩) (setRow_other _ _ _ _ (by simp only; omega))⟩
theorem reps_up {P : Nat → Prop} {m g : Nat} {w : World} {d : Dt} {v : Value} (h : rep P w d v) (hp : ∀ b, P b → m ≤ b) (hm : g < m) (cs : Array Value) : rep (fun b => g ≤ b) (w.setRow g cs) d v :=
  rep.move (kp_row w cs) (fun b _ h => by omega) _ _ (rep.move Kp.refl (fun b _ h => by have := hp b h; omega) _ _ h)

set_option maxRecDepth 100000 in
set_option maxHeartbeats 4000000 in
theorem bind_any {K B o : Nat} {r : List Lx} {w : World} (h : PAt K w B r o) :
    Calls Tryz.prog 159 #[.pointer (some ⟨B, 0, none⟩)] w (Post K B o (r.length - 1) w (bindM r) fun _ b v => v = .agg #[.string b.v, .string b.f]) := by
  have hsz := h.size
  have hR0 : (w.alloc (.cells #[.string ⟨#[]⟩, .string ⟨#[]⟩] 128)).heap[w.heap.size]? = some _ := heap_alloc_new w _
  have b0 : Below w.heap.size w (w.alloc (.cells #[.string ⟨#[]⟩, .string ⟨#[]⟩] 128)) := below_al (Below.refl _ _) _
  have HV := Hid.intro (pvar_any (h.via b0))
  unfold bindM
  cases h1 : varM r with
  | bad q =>
    rw [h1] at HV
    rw [bd_bad]
    clear h1
    go_enter Tryz.func159, Tryz.ntmps159
    go_wp2_with fail
    refine HV.out.mono ?_
    rintro e v1 ⟨ht1, rfl⟩
    exact ⟨rfl, (Bt.below b0).trans ht1, rfl⟩
  | ok s r1 =>
    rw [h1] at HV
    rw [bd_ok]
    clear h1
    have HT := fun w (h : PAt K w B r1 o) => Hid.intro (take_any h ⟨#[58]⟩)
    cases h2 : takeM ⟨#[58]⟩ r1 with
    | bad q =>
      rw [h2] at HT
      rw [bd_bad]
      clear h2
      go_enter Tryz.func159, Tryz.ntmps159
      go_wp2_with fail
      refine HV.out.mono ?_
      rintro e v1 ⟨ht1, hl1, hp1, v, rfl, rfl⟩
      go_wp2_with fail
      refine (HT _ (hp1.via (below_al (Below.refl _ _) _))).out.mono ?_
      rintro e v2 ⟨ht2, rfl⟩
      exact ⟨rfl, (((Bt.below b0).trans ht1).alloc _).trans ht2, rfl⟩
    | ok u r2 =>
      rw [h2] at HT
      rw [bd_ok]
      clear h2
      have HN := fun w (h : PAt K w B r2 o) => Hid.intro (pname_any h)
      cases h3 : nameM r2 with
      | bad q =>
        rw [h3] at HN
        rw [bd_bad]
        clear h3
        go_enter Tryz.func159, Tryz.ntmps159
        go_wp2_with fail
        refine HV.out.mono ?_
        rintro e v1 ⟨ht1, hl1, hp1, v, rfl, rfl⟩
        go_wp2_with fail
        refine (HT _ (hp1.via (below_al (Below.refl _ _) _))).out.mono ?_
        rintro e v2 ⟨ht2, hl2, hp2, v', rfl, rfl⟩
        go_wp2_with fail
        refine (HN _ hp2).out.mono ?_
        rintro e v3 ⟨ht3, rfl⟩
        exact ⟨rfl, ((((Bt.below b0).trans ht1).alloc _).trans ht2).trans ht3, rfl⟩
      | ok f r3 =>
        rw [h3] at HN
        rw [bd_ok]
        clear h3
        go_enter Tryz.func159, Tryz.ntmps159
        go_wp2_with fail
        refine HV.out.mono ?_
        rintro e v1 ⟨ht1, hl1, hp1, v, rfl, rfl⟩
        go_wp2_with fail
        refine (HT _ (hp1.via (below_al (Below.refl _ _) _))).out.mono ?_
        rintro e v2 ⟨ht2, hl2, hp2, v', rfl, rfl⟩
        go_wp2_with fail
        refine (HN _ hp2).out.mono ?_
        rintro e v3 ⟨ht3, hl3, hp3, v'', rfl, rfl⟩
        have hR1 := row_bt ht1 (by omega) hR0
        have hRlt : w.heap.size < v1.heap.size := (Array.getElem?_eq_some_iff.1 hR1).1
        have hX3 := row_bt (ht2.trans ht3) (by omega) (heap_alloc_new v1 (.cells #[.string s, .string ⟨#[]⟩] 128))
        have hR3 := row_bt (ht2.trans ht3) (by omega) ((heap_alloc_old _ _ hRlt).trans hR1)
        have x0 : v3.cell? ⟨v1.heap.size, 0, none⟩ = some (.string s) := (heap_cell hX3 0).1
        have x1 : v3.cell? ⟨v1.heap.size, 1, none⟩ = some (.string ⟨#[]⟩) := (heap_cell hX3 1).1
        have y1 : v3.frozen? ⟨v1.heap.size, 1, none⟩ = false := (heap_cell hX3 1).2
        have hXs : v1.heap.size < v3.heap.size := (Array.getElem?_eq_some_iff.1 hX3).1
        have HR := Hid.intro ((Below.heap_setCell v3 ⟨v1.heap.size, 1, none⟩ (.string f) w.heap.size (by simp only; omega)).trans hR3)
        go_wp2_with (with_reducible refine (id (?_ : wpList _ _ _ (Oper.mk _ (Op.store _ _ _) _ _ _ _ :: _) _ _)); refine wpList_store_row rfl _ _ _ rfl _ _ rfl rfl _ _ HR.out infoBind rfl rfl (by simp [Value.oneCell']) ?_)
        refine ret_cells rfl rfl (setRow_heap _ _ _ _ _ _ HR.out) Tryz.underlying128 infoBind rfl rfl (Post.ok ((((((((Bt.below b0).trans ht1).alloc _).trans ht2).trans ht3).own (by omega) _ _)).row (Nat.le_refl _) _) (by omega) ((hp3.set (by omega) _ _).row hsz.1 _) rfl)
end Go.Proofs.YtcgaadnfocmdbaaGreatDoor
end

section
/- arg, assign, function. -/
namespace Go.Proofs.YtcgaadnfocmdbaaGreatDoor
open Go.RowKit

set_option maxRecDepth 100000 in
set_option maxHeartbeats 4000000 in
theorem assign_any {K B o : Nat} {r : List Lx} {w : World} (h : PAt K w B r o) :
    Calls Tryz.prog 171 #[.pointer (some ⟨B, 0, none⟩)] w (Post K B o (r.length - 1) w (assignM o r) fun w' x v => SxV (fun b => w.heap.size ≤ b) w' x.f x.e v) := by
  have hsz := h.size
  have hR0 : (w.alloc (.cells #[.string ⟨#[]⟩, .int .i64 0, .string ⟨#[]⟩, .int .i64 0, .bool false, .int .i64 0, .string ⟨#[]⟩, .slice none 0 0, .slice none 0 0] 101)).heap[w.heap.size]? = some _ := heap_alloc_new w _
  have b0 : Below w.heap.size w (w.alloc (.cells #[.string ⟨#[]⟩, .int .i64 0, .string ⟨#[]⟩, .int .i64 0, .bool false, .int .i64 0, .string ⟨#[]⟩, .slice none 0 0, .slice none 0 0] 101)) := below_al (Below.refl _ _) _
  unfold assignM
  have H0 := fun w (h : PAt K w B r o) => Hid.intro (pname_any h)
  cases hm0 : nameM r with
  | bad q =>
    rw [hm0] at H0
    rw [bd_bad]
    clear hm0
    go_enter Tryz.func171, Tryz.ntmps171
    go_wp2_with fail
    refine (H0 _ (h.via b0)).out.mono ?_
    rintro e v1 ⟨ht1, rfl⟩
    exact ⟨rfl, (Bt.below (B := B) b0).trans ht1, rfl⟩
  | ok s r1 =>
    rw [hm0] at H0
    rw [bd_ok]
    clear hm0
    have H1 := fun w (h : PAt K w B r1 o) => Hid.intro (take_any h ⟨#[61]⟩)
    cases hm1 : takeM ⟨#[61]⟩ r1 with
    | bad q =>
      rw [hm1] at H1
      rw [bd_bad]
      clear hm1
      go_enter Tryz.func171, Tryz.ntmps171
      go_wp2_with fail
      refine (H0 _ (h.via b0)).out.mono ?_
      rintro e v1 ⟨ht1, hl1, hp1, x, rfl, rfl⟩
      go_wp2_with fail
      refine (H1 _ ((hp1).via (below_al (Below.refl _ _) _))).out.mono ?_
      rintro e v2 ⟨ht2, rfl⟩
      exact ⟨rfl, (((Bt.below (B := B) b0).trans ht1).alloc (.cells #[.string s, .int .i64 0, .string ⟨#[]⟩, .int .i64 0, .bool false, .int .i64 0, .string ⟨#[]⟩, .slice none 0 0, .slice none 0 0] 101)).trans ht2, rfl⟩
    | ok u r2 =>
      rw [hm1] at H1
      rw [bd_ok]
      clear hm1
      have H2 := fun w (h : PAt K w B r2 o) => Hid.intro (expr_any h)
      cases hm2 : exprM o r2 with
      | bad q =>
        rw [hm2] at H2
        rw [bd_bad]
        clear hm2
        go_enter Tryz.func171, Tryz.ntmps171
        go_wp2_with fail
        refine (H0 _ (h.via b0)).out.mono ?_
        rintro e v1 ⟨ht1, hl1, hp1, x, rfl, rfl⟩
        go_wp2_with fail
        refine (H1 _ ((hp1).via (below_al (Below.refl _ _) _))).out.mono ?_
        rintro e v2 ⟨ht2, hl2, hp2, x, rfl, rfl⟩
        go_wp2_with fail
        refine (H2 _ (hp2)).out.mono ?_
        rintro e v3 ⟨ht3, rfl⟩
        exact ⟨rfl, ((((Bt.below (B := B) b0).trans ht1).alloc (.cells #[.string s, .int .i64 0, .string ⟨#[]⟩, .int .i64 0, .bool false, .int .i64 0, .string ⟨#[]⟩, .slice none 0 0, .slice none 0 0] 101)).trans ht2).trans ht3, rfl⟩
      | ok t r3 =>
        rw [hm2] at H2
        rw [bd_ok]
        clear hm2
        go_enter Tryz.func171, Tryz.ntmps171
        go_wp2_with fail
        refine (H0 _ (h.via b0)).out.mono ?_
        rintro e v1 ⟨ht1, hl1, hp1, x, rfl, rfl⟩
        go_wp2_with fail
        refine (H1 _ ((hp1).via (below_al (Below.refl _ _) _))).out.mono ?_
        rintro e v2 ⟨ht2, hl2, hp2, x, rfl, rfl⟩
        go_wp2_with fail
        refine (H2 _ (hp2)).out.mono ?_
        rintro e v3 ⟨ht3, hl3, hp3, x, rfl, p6, n6, c6, p7, n7, c7, rfl, h6, h7⟩
        skip
        have hR1 := row_bt ht1 (by omega) hR0
        have hRlt : w.heap.size < v1.heap.size := (Array.getElem?_eq_some_iff.1 hR1).1
        have hX3 := Hid.intro (row_bt (ht2.trans ht3) (by omega) (heap_alloc_new v1 (.cells #[.string s, .int .i64 0, .string ⟨#[]⟩, .int .i64 0, .bool false, .int .i64 0, .string ⟨#[]⟩, .slice none 0 0, .slice none 0 0] 101)))
        have hR3 := row_bt (ht2.trans ht3) (by omega) ((heap_alloc_old _ _ hRlt).trans hR1)
        have hs2 : v1.heap.size < v2.heap.size := by have := ht2.size; simp at this; omega
        have HX4 := Hid.intro (setRow_heap v3 v1.heap.size _ #[.string s, .int .i64 t.e.op, .string t.e.t, .int .i64 t.e.v.k, .bool t.e.v.b, .int .i64 t.e.v.i, .string t.e.v.s, .slice p6 n6 c6, .slice p7 n7 c7] _ _ hX3.out)
        have HR := Hid.intro ((setRow_other v3 v1.heap.size w.heap.size #[.string s, .int .i64 t.e.op, .string t.e.t, .int .i64 t.e.v.k, .bool t.e.v.b, .int .i64 t.e.v.i, .string t.e.v.s, .slice p6 n6 c6, .slice p7 n7 c7] (by omega)).trans hR3)
        go_wp2_with (first | (with_reducible refine (id (?_ : wpList _ _ _ (Oper.mk _ (Op.store _ _ _) _ _ _ _ :: _) _ _)); refine wpList_store_part rfl _ _ _ rfl v1.heap.size 1 _ rfl rfl _ _ #[.string s, .int .i64 t.e.op, .string t.e.t, .int .i64 t.e.v.k, .bool t.e.v.b, .int .i64 t.e.v.i, .string t.e.v.s, .slice p6 n6 c6, .slice p7 n7 c7] hX3.out infoExpr rfl (by simp) (by simp [Value.oneCell']) (by simp) ?_) | (with_reducible refine (id (?_ : wpList _ _ _ (Oper.mk _ (Op.load _ _) _ _ _ _ :: _) _ _)); refine wpList_load_cells rfl _ _ rfl _ rfl _ _ _ HX4.out Tryz.underlying101 infoAssign rfl ?_) | (with_reducible refine (id (?_ : wpList _ _ _ (Oper.mk _ (Op.store _ _ _) _ _ _ _ :: _) _ _)); refine wpList_store_row rfl _ _ _ rfl _ _ rfl rfl _ _ HR.out infoAssign rfl rfl (by simp [Value.oneCell']) ?_))
        refine ret_cells rfl rfl (setRow_heap _ _ _ _ _ _ HR.out) Tryz.underlying101 infoAssign rfl rfl (Post.ok (((((((Bt.below (B := B) b0).trans ht1).alloc (.cells #[.string s, .int .i64 0, .string ⟨#[]⟩, .int .i64 0, .bool false, .int .i64 0, .string ⟨#[]⟩, .slice none 0 0, .slice none 0 0] 101)).trans ht2).trans ht3).row (by omega) _).row (Nat.le_refl _) _) (by omega) (((hp3).row (by omega) _).row hsz.1 _) ?_)
        have hk := (kp_row (g := v1.heap.size) v3 #[.string s, .int .i64 t.e.op, .string t.e.t, .int .i64 t.e.v.k, .bool t.e.v.b, .int .i64 t.e.v.i, .string t.e.v.s, .slice p6 n6 c6, .slice p7 n7 c7])
        exact ⟨p6, n6, c6, p7, n7, c7, rfl, reps_up (rep.move (P := fun b => v2.heap.size ≤ b) (hk.mono (fun b _ h => by have := hs2; omega)) (fun b _ h => h) _ _ h6) (fun b h => h) (by omega) _, reps_up (rep.move (P := fun b => v2.heap.size ≤ b) (hk.mono (fun b _ h => by have := hs2; omega)) (fun b _ h => h) _ _ h7) (fun b h => h) (by omega) _⟩

set_option maxRecDepth 100000 in
set_option maxHeartbeats 4000000 in
theorem arg_any {K B o : Nat} {r : List Lx} {w : World} (h : PAt K w B r o) :
    Calls Tryz.prog 156 #[.pointer (some ⟨B, 0, none⟩)] w (Post K B o (r.length - 1) w (argM o r) fun w' x v => SxV (fun b => w.heap.size ≤ b) w' x.v x.e v) := by
  have hsz := h.size
  have hR0 : (w.alloc (.cells #[.string ⟨#[]⟩, .int .i64 0, .string ⟨#[]⟩, .int .i64 0, .bool false, .int .i64 0, .string ⟨#[]⟩, .slice none 0 0, .slice none 0 0] 130)).heap[w.heap.size]? = some _ := heap_alloc_new w _
  have b0 : Below w.heap.size w (w.alloc (.cells #[.string ⟨#[]⟩, .int .i64 0, .string ⟨#[]⟩, .int .i64 0, .bool false, .int .i64 0, .string ⟨#[]⟩, .slice none 0 0, .slice none 0 0] 130)) := below_al (Below.refl _ _) _
  have HI := Hid.intro (isVarWith_any (h.via b0) ⟨#[63]⟩)
  have hne : 0 < r.length := by obtain ⟨x, r', rfl, -⟩ := gd_cons h.gd; simp
  unfold argM
  cases hv : isVW ⟨#[63]⟩ r with
  | true =>
    rw [hv] at HI
    rw [if_pos rfl]
    clear hv
    have H0 := fun w (h : PAt K w B r o) => Hid.intro (pvar_any h)
    cases hm0 : varM r with
    | bad q =>
      rw [hm0] at H0
      rw [bd_bad]
      clear hm0
      go_enter Tryz.func156, Tryz.ntmps156
      go_wp2_with fail
      refine HI.out.mono ?_
      rintro e v0 ⟨rfl, hb0⟩
      have hq0 := hb0.via b0
      go_wp2_with fail
      refine (H0 _ (h.via hq0)).out.mono ?_
      rintro e v1 ⟨ht1, rfl⟩
      exact ⟨rfl, (Bt.below (B := B) hq0).trans ht1, rfl⟩
    | ok s r1 =>
      rw [hm0] at H0
      rw [bd_ok]
      clear hm0
      have H1 := fun w (h : PAt K w B r1 o) => Hid.intro (take_any h ⟨#[63]⟩)
      cases hm1 : takeM ⟨#[63]⟩ r1 with
      | bad q =>
        rw [hm1] at H1
        rw [bd_bad]
        clear hm1
        go_enter Tryz.func156, Tryz.ntmps156
        go_wp2_with fail
        refine HI.out.mono ?_
        rintro e v0 ⟨rfl, hb0⟩
        have hq0 := hb0.via b0
        go_wp2_with fail
        refine (H0 _ (h.via hq0)).out.mono ?_
        rintro e v1 ⟨ht1, hl1, hp1, x, rfl, rfl⟩
        go_wp2_with fail
        refine (H1 _ ((hp1).via (below_al (Below.refl _ _) _))).out.mono ?_
        rintro e v2 ⟨ht2, rfl⟩
        exact ⟨rfl, (((Bt.below (B := B) hq0).trans ht1).alloc (.cells #[.string s, .int .i64 0, .string ⟨#[]⟩, .int .i64 0, .bool false, .int .i64 0, .string ⟨#[]⟩, .slice none 0 0, .slice none 0 0] 130)).trans ht2, rfl⟩
      | ok u r2 =>
        rw [hm1] at H1
        rw [bd_ok]
        clear hm1
        go_enter Tryz.func156, Tryz.ntmps156
        go_wp2_with fail
        refine HI.out.mono ?_
        rintro e v0 ⟨rfl, hb0⟩
        have hq0 := hb0.via b0
        go_wp2_with fail
        refine (H0 _ (h.via hq0)).out.mono ?_
        rintro e v1 ⟨ht1, hl1, hp1, x, rfl, rfl⟩
        go_wp2_with fail
        refine (H1 _ ((hp1).via (below_al (Below.refl _ _) _))).out.mono ?_
        rintro e v2 ⟨ht2, hl2, hp2, x, rfl, rfl⟩
        skip
        have hR1 := row_bt ((Bt.below (B := B) hb0).trans ht1) (by omega) hR0
        have hRlt : w.heap.size < v1.heap.size := (Array.getElem?_eq_some_iff.1 hR1).1
        have hX2 := Hid.intro (row_bt ht2 (by omega) (heap_alloc_new v1 (.cells #[.string s, .int .i64 0, .string ⟨#[]⟩, .int .i64 0, .bool false, .int .i64 0, .string ⟨#[]⟩, .slice none 0 0, .slice none 0 0] 130)))
        have HR := Hid.intro (row_bt ht2 (by omega) ((heap_alloc_old _ _ hRlt).trans hR1))
        go_wp2_with (first | (with_reducible refine (id (?_ : wpList _ _ _ (Oper.mk _ (Op.load _ _) _ _ _ _ :: _) _ _)); refine wpList_load_cells rfl _ _ rfl _ rfl _ _ _ hX2.out Tryz.underlying130 infoArg rfl ?_) | (with_reducible refine (id (?_ : wpList _ _ _ (Oper.mk _ (Op.store _ _ _) _ _ _ _ :: _) _ _)); refine wpList_store_row rfl _ _ _ rfl _ _ rfl rfl _ _ HR.out infoArg rfl rfl (by simp [Value.oneCell']) ?_))
        refine ret_cells rfl rfl (setRow_heap _ _ _ _ _ _ HR.out) Tryz.underlying130 infoArg rfl rfl (Post.ok (((((Bt.below (B := B) hq0).trans ht1).alloc (.cells #[.string s, .int .i64 0, .string ⟨#[]⟩, .int .i64 0, .bool false, .int .i64 0, .string ⟨#[]⟩, .slice none 0 0, .slice none 0 0] 130)).trans ht2).row (Nat.le_refl _) _) (by omega) ((hp2).row hsz.1 _) ?_)
        exact ⟨none, 0, 0, none, 0, 0, rfl, rep.none, rep.none⟩
  | false =>
    rw [hv] at HI
    rw [if_neg (by simp)]
    clear hv
    have H0 := fun w (h : PAt K w B r o) => Hid.intro (expr_any h)
    cases hm0 : exprM o r with
    | bad q =>
      rw [hm0] at H0
      rw [bd_bad]
      clear hm0
      go_enter Tryz.func156, Tryz.ntmps156
      go_wp2_with fail
      refine HI.out.mono ?_
      rintro e v0 ⟨rfl, hb0⟩
      have hq0 := hb0.via b0
      go_wp2_with fail
      refine (H0 _ (h.via hq0)).out.mono ?_
      rintro e v1 ⟨ht1, rfl⟩
      exact ⟨rfl, (Bt.below (B := B) hq0).trans ht1, rfl⟩
    | ok t r1 =>
      rw [hm0] at H0
      rw [bd_ok]
      clear hm0
      go_enter Tryz.func156, Tryz.ntmps156
      go_wp2_with fail
      refine HI.out.mono ?_
      rintro e v0 ⟨rfl, hb0⟩
      have hq0 := hb0.via b0
      go_wp2_with fail
      refine (H0 _ (h.via hq0)).out.mono ?_
      rintro e v1 ⟨ht1, hl1, hp1, x, rfl, p6, n6, c6, p7, n7, c7, rfl, h6, h7⟩
      skip
      have HR := Hid.intro (row_bt ((Bt.below (B := B) hb0).trans ht1) (by omega) hR0)
      have hs0 : w.heap.size < v0.heap.size := by have := hb0.size; simp at this; omega
      go_wp2_with (with_reducible refine (id (?_ : wpList _ _ _ (Oper.mk _ (Op.store _ _ _) _ _ _ _ :: _) _ _)); refine wpList_store_row rfl _ _ _ rfl _ _ rfl rfl _ _ HR.out infoArg rfl rfl (by simp [Value.oneCell']) ?_)
      refine ret_cells rfl rfl (setRow_heap _ _ _ _ _ _ HR.out) Tryz.underlying130 infoArg rfl rfl (Post.ok (((Bt.below (B := B) hq0).trans ht1).row (Nat.le_refl _) _) (by omega) ((hp1).row hsz.1 _) ?_)
      exact ⟨p6, n6, c6, p7, n7, c7, rfl, reps_up h6 (fun b h => h) (by omega) _, reps_up h7 (fun b h => h) (by omega) _⟩

set_option maxRecDepth 100000 in
set_option maxHeartbeats 4000000 in
theorem function_any {K B o : Nat} {r : List Lx} {w : World} (h : PAt K w B r o) :
    Calls Tryz.prog 154 #[.pointer (some ⟨B, 0, none⟩)] w (Post K B o (r.length - 1) w (fnM r) fun _ s v => v = .string s) := by
  have HI := Hid.intro (is_any h ⟨#[108, 105, 115, 116]⟩)
  unfold fnM
  cases hv : isM ⟨#[108, 105, 115, 116]⟩ r with
  | true =>
    obtain ⟨x, r', rfl, -⟩ := gd_cons h.gd
    have HN := fun w (h : PAt K w B (x :: r') o) => Hid.intro (next_any h (isM_k hv))
    have hft := fld_t x.k x.a x.e x.t
    rw [hv] at HI
    rw [if_pos rfl]
    clear hv
    go_enter Tryz.func154, Tryz.ntmps154
    go_wp2_with fail
    refine HI.out.mono ?_
    rintro e v1 ⟨rfl, hb1⟩
    go_wp2_with fail
    refine (HN _ (h.via hb1)).out.mono ?_
    rintro e v2 ⟨rfl, hb2, hp2⟩
    go_wp2_with fail
    go_ret
    exact Post.ok ((Bt.below hb1).trans hb2) (by simp) hp2 rfl
  | false =>
    rw [hv] at HI
    rw [if_neg (by simp)]
    clear hv
    have HN := fun w (h : PAt K w B r o) => Hid.intro (pname_any h)
    cases hm : nameM r with
    | bad q =>
      rw [hm] at HN
      clear hm
      go_enter Tryz.func154, Tryz.ntmps154
      go_wp2_with fail
      refine HI.out.mono ?_
      rintro e v1 ⟨rfl, hb1⟩
      go_wp2_with fail
      refine (HN _ (h.via hb1)).out.mono ?_
      rintro e v2 ⟨hb2, rfl⟩
      exact ⟨rfl, (Bt.below hb1).trans hb2, rfl⟩
    | ok s r1 =>
      rw [hm] at HN
      clear hm
      go_enter Tryz.func154, Tryz.ntmps154
      go_wp2_with fail
      refine HI.out.mono ?_
      rintro e v1 ⟨rfl, hb1⟩
      go_wp2_with fail
      refine (HN _ (h.via hb1)).out.mono ?_
      rintro e v2 ⟨hb2, hl2, hp2, v, rfl, rfl⟩
      go_wp2_with fail
      go_ret
      exact Post.ok ((Bt.below hb1).trans hb2) hl2 hp2 rfl
end Go.Proofs.YtcgaadnfocmdbaaGreatDoor
end

section
/- conds. -/
namespace Go.Proofs.YtcgaadnfocmdbaaGreatDoor
open Go.RowKit

set_option maxRecDepth 100000 in
set_option maxHeartbeats 2000000 in
theorem findex_any {K B o : Nat} {r : List Lx} {w : World} (h : PAt K w B r o) (ends : List ByteArray) (g cap : Nat) (hc : ∀ k (hk : k < ends.length), w.cell? ⟨g, k, none⟩ = some (.string ends[k])) (hg : g < w.heap.size) (hl : ends.length ≤ 100) :
    Calls Tryz.prog 179 #[.slice (some ⟨g, 0, none⟩) ends.length cap, .func (.func 57) #[.pointer (some ⟨B, 0, none⟩)] #[]] w fun e w' => Below w.heap.size w w' ∧ ∃ i : Int, e = .returned (.int .i64 i) ∧ Hid (decide (i ≥ 0) = ends.any (fun s => isM s r)) := by
  have HC := Hid.intro hc
  have HP := Hid.intro h
  clear hc h
  go_enter Tryz.func179, Tryz.ntmps179
  go_wp2_with fail
  go_loopw [8] (fun i w' => ∃ k : Nat, k ≤ ends.length ∧ i = .int .i64 (k : Int) ∧ Hid (Below w.heap.size w w') ∧ Hid (∀ j (hj : j < k) (hj' : j < ends.length), isM ends[j] r = false)) (fun i _ => ends.length - (intOf i).toNat)
  case atStart => exact ⟨0, Nat.zero_le _, rfl, Below.refl _ _, fun j hj => by omega⟩
  case round =>
    obtain ⟨k, hk, rfl, HB, HF⟩ := hrel
    by_cases hlt : k < ends.length
    · have hcell := (HB.out.cell (p := ⟨g, k, none⟩) hg).trans (HC.out k hlt)
      have hgr : g < wr.heap.size := Nat.lt_of_lt_of_le hg HB.out.size
      have HI := Hid.intro (is_any (HP.out.via HB.out) ends[k])
      cases hm : isM ends[k] r with
      | true =>
        rw [hm] at HI
        have hany : ends.any (fun s => isM s r) = true := List.any_eq_true.2 ⟨ends[k], List.getElem_mem hlt, hm⟩
        have HA := Hid.intro hany
        clear hm hany
        go_wp2_with (go_at_call 57; refine HI.out.mono ?_; rintro e w1 ⟨rfl, hb1⟩)
        go_ret
        exact ⟨HB.out.trans (hb1.mono HB.out.size), _, rfl, by rw [HA.out]; exact decide_eq_true (by simp)⟩
      | false =>
        rw [hm] at HI
        have HM := Hid.intro hm
        clear hm
        go_wp2_with (go_at_call 57; refine HI.out.mono ?_; rintro e w1 ⟨rfl, hb1⟩)
        go_roundw
        case rel => exact ⟨k + 1, by omega, by go_num, HB.out.trans (hb1.mono HB.out.size), fun j hj hj' => by
          by_cases e : j = k
          · subst e; exact HM.out
          · exact HF.out j (by omega) hj'⟩
        case measure => simp [intOf]; omega
    · obtain rfl : k = ends.length := by omega
      go_wp2_with fail
      go_ret
      refine ⟨HB.out, _, rfl, ?_⟩
      have : ends.any (fun s => isM s r) = false := by
        rw [List.any_eq_false]
        intro s hs
        obtain ⟨j, hj, rfl⟩ := List.mem_iff_getElem.1 hs
        simp [HF.out j hj hj]
      rw [this]
      rfl

set_option maxRecDepth 100000 in
set_option maxHeartbeats 2000000 in
theorem contains_any {K B o : Nat} {r : List Lx} {w : World} (h : PAt K w B r o) (ends : List ByteArray) (g cap : Nat) (hc : ∀ k (hk : k < ends.length), w.cell? ⟨g, k, none⟩ = some (.string ends[k])) (hg : g < w.heap.size) (hl : ends.length ≤ 100) :
    Calls Tryz.prog 169 #[.slice (some ⟨g, 0, none⟩) ends.length cap, .func (.func 57) #[.pointer (some ⟨B, 0, none⟩)] #[]] w fun e w' => Below w.heap.size w w' ∧ e = .returned (.bool (ends.any (fun s => isM s r))) := by
  have HI := Hid.intro (findex_any h ends g cap hc hg hl)
  clear hc
  go_enter Tryz.func169, Tryz.ntmps169
  go_wp2_with (go_at_call 179; refine HI.out.mono ?_; rintro e w1 ⟨hb1, i, rfl, HD⟩)
  go_ret
  refine ⟨hb1, ?_⟩
  rw [← HD.out]
  rfl

/-- A condition's cells. -/
def CdV (P : Nat → Prop) (w : World) (c : Cd) (v : Value) : Prop :=
  ∃ x3 x4 x5 x6 x7 x14 x15 x18, v = .agg #[.int .i64 c.k, .string c.v, .string c.c, x3, x4, x5, x6, x7, .int .i64 c.e.op, .string c.e.t, .int .i64 c.e.v.k, .bool c.e.v.b, .int .i64 c.e.v.i, .string c.e.v.s, x14, x15, .string c.fn, .string c.name, x18] ∧
    (rep P w (.sl c.binds.length (c.binds.flatMap Bi.cs)) x3 ∧ rep P w (.sl c.tests.length (Ex.css c.tests)) x4 ∧ rep P w (.sl c.conds.length (Cd.css c.conds)) x5 ∧ rep P w (.sl c.thn.length (Cd.css c.thn)) x6 ∧ rep P w (.sl c.alts.length (Cd.csss c.alts)) x7) ∧
    rep P w (.sl c.e.v.l.length (Vt.css c.e.v.l)) x14 ∧ rep P w (.sl c.e.a.length (Ex.css c.e.a)) x15 ∧ rep P w (.sl c.args.length (c.args.flatMap Ar.cs)) x18
theorem CdV.move {P Q : Nat → Prop} {w w' : World} {c : Cd} {v : Value} (h : CdV P w c v) (hk : Kp P w w') (hpq : ∀ b, b < w.heap.size → P b → Q b) : CdV Q w' c v := by
  obtain ⟨x3, x4, x5, x6, x7, x14, x15, x18, rfl, ⟨h3, h4, h5, h6, h7⟩, h14, h15, h18⟩ := h
  exact ⟨x3, x4, x5, x6, x7, x14, x15, x18, rfl, ⟨rep.move hk hpq _ _ h3, rep.move hk hpq _ _ h4, rep.move hk hpq _ _ h5, rep.move hk hpq _ _ h6, rep.move hk hpq _ _ h7⟩, rep.move hk hpq _ _ h14, rep.move hk hpq _ _ h15, rep.move hk hpq _ _ h18⟩
theorem Cd.cs_eq (c : Cd) : c.cs = [dI c.k, dS c.v, dS c.c, .sl c.binds.length (c.binds.flatMap Bi.cs), .sl c.tests.length (Ex.css c.tests), .sl c.conds.length (Cd.css c.conds), .sl c.thn.length (Cd.css c.thn), .sl c.alts.length (Cd.csss c.alts), dI c.e.op, dS c.e.t, dI c.e.v.k, dB c.e.v.b, dI c.e.v.i, dS c.e.v.s, .sl c.e.v.l.length (Vt.css c.e.v.l), .sl c.e.a.length (Ex.css c.e.a), dS c.fn, dS c.name, .sl c.args.length (c.args.flatMap Ar.cs)] := by
  obtain ⟨k, v, c, binds, tests, conds, thn, alts, e, fn, name, args⟩ := c
  simp [Cd.cs, Ex.cs_eq]
theorem CdV.reps {P : Nat → Prop} {w : World} {c : Cd} {cells : Array Value} (h : CdV P w c (.agg cells)) : Go.Proofs.YtcgaadnfocmdbaaGreatDoor.reps P w c.cs cells.toList ∧ cells.size = 19 ∧ cells.all (·.oneCell') = true := by
  obtain ⟨x3, x4, x5, x6, x7, x14, x15, x18, he, ⟨h3, h4, h5, h6, h7⟩, h14, h15, h18⟩ := h
  obtain rfl := Value.agg.inj he
  have hr : Go.Proofs.YtcgaadnfocmdbaaGreatDoor.reps P w c.cs [.int .i64 c.k, .string c.v, .string c.c, x3, x4, x5, x6, x7, .int .i64 c.e.op, .string c.e.t, .int .i64 c.e.v.k, .bool c.e.v.b, .int .i64 c.e.v.i, .string c.e.v.s, x14, x15, .string c.fn, .string c.name, x18] := by
    rw [Cd.cs_eq]
    exact reps.cons (rep.lit rfl) (reps.cons (rep.lit rfl) (reps.cons (rep.lit rfl) (reps.cons h3 (reps.cons h4 (reps.cons h5 (reps.cons h6 (reps.cons h7 (reps.cons (rep.lit rfl) (reps.cons (rep.lit rfl) (reps.cons (rep.lit rfl) (reps.cons (rep.lit rfl) (reps.cons (rep.lit rfl) (reps.cons (rep.lit rfl) (reps.cons h14 (reps.cons h15 (reps.cons (rep.lit rfl) (reps.cons (rep.lit rfl) (reps.cons h18 reps.nil))))))))))))))))))
  refine ⟨hr, rfl, ?_⟩
  rw [Array.all_eq_true_iff_forall_mem]
  intro u hu
  exact hr.ones u (by simpa using hu)

/-- An owned row in a slot. -/
def RowS (n : Nat) (el : TypeId) (sz m : Nat) (ds : List Dt) (w : World) (sv : Value) : Prop :=
  n ≤ w.heap.size ∧ ∃ vs, w.ownsRow n el sz sv m vs ∧ reps (fun b => n ≤ b ∧ some b ≠ sv.ownBlock) w ds vs
theorem RowS.bt {n B : Nat} {el : TypeId} {sz m : Nat} {ds : List Dt} {w w' : World} {sv : Value} (h : RowS n el sz m ds w sv) (hb : Bt B w w') (hB : B < n) : RowS n el sz m ds w' sv := by
  obtain ⟨h3, vs, h5, h6⟩ := h
  have h5' : w'.ownsRow n el sz sv m vs := by
    refine ⟨h5.1, ?_⟩
    rcases h5.2 with hn | ⟨g, cap, cur, rfl, hb1, hgg, rest⟩
    · exact .inl hn
    · exact .inr ⟨g, cap, cur, rfl, hb1, row_bt hb (by omega) hgg, rest⟩
  exact ⟨Nat.le_trans h3 hb.size, vs, h5', reps.move (hb.kp (by omega)) (fun _ _ h => h) _ _ h6⟩
theorem RowS.push {n : Nat} {el : TypeId} {sz m : Nat} {ds es : List Dt} {W w1 : World} {sv sv' : Value} {vs us : List Value} (h3 : n ≤ W.heap.size) (_h5 : W.ownsRow n el sz sv m vs) (h6 : reps (fun b => n ≤ b ∧ some b ≠ sv.ownBlock) W ds vs) (h8 : reps (fun b => n ≤ b ∧ some b ≠ sv.ownBlock) W es us)
    (ho : w1.ownsRow n el sz sv' (m + 1) (vs ++ us)) (hg : W.grownBy w1 sv.ownBlock) (hat : sv'.ownBlock = sv.ownBlock ∨ sv'.ownBlock = some W.heap.size) : RowS n el sz (m + 1) (ds ++ es) w1 sv' := by
  have hk : Kp (fun b => n ≤ b ∧ some b ≠ sv.ownBlock) W w1 := Kp.grown hg (fun k hk h => h.2 hk.symm)
  have hq : ∀ b, b < W.heap.size → (n ≤ b ∧ some b ≠ sv.ownBlock) → (n ≤ b ∧ some b ≠ sv'.ownBlock) := fun b hb h => by
    refine ⟨h.1, fun he => ?_⟩
    rcases hat with e | e
    · exact h.2 (he.trans e)
    · rw [e] at he
      cases he
      omega
  exact ⟨Nat.le_trans h3 hg.size, vs ++ us, ho, reps.append (reps.move hk hq _ _ h6) (reps.move hk hq _ _ h8)⟩
theorem RowS.rep {n : Nat} {el : TypeId} {sz m : Nat} {ds : List Dt} {w : World} {sv : Value} (h : RowS n el sz m ds w sv) : rep (fun b => n ≤ b) w (.sl m ds) sv := by
  obtain ⟨-, vs, h5, h6⟩ := h
  exact rep.own h5 (reps.move Kp.refl (fun _ _ h => h.1) _ _ h6) (fun g hg => (h5.lt g hg).1)

def CC (K B o : Nat) (m : List Lx → Rs Cd) : Prop :=
  ∀ r w, PAt K w B r o → Calls Tryz.prog 66 #[.pointer (some ⟨B, 0, none⟩)] w (Post K B o (r.length - 1) w (m r) fun w' c v => CdV (fun b => w.heap.size ≤ b) w' c v)
theorem infoCond : (Tryz.prog.info? 96).map (·.size) = some 19 := by kernel_rfl
theorem infoCond' : (Tryz.prog.info? 96).map (fun i => (i.zero, i.size, i.bytes)) = some (some (.agg #[.int .i64 0, .string ⟨#[]⟩, .string ⟨#[]⟩, .slice none 0 0, .slice none 0 0, .slice none 0 0, .slice none 0 0, .slice none 0 0, .int .i64 0, .string ⟨#[]⟩, .int .i64 0, .bool false, .int .i64 0, .string ⟨#[]⟩, .slice none 0 0, .slice none 0 0, .string ⟨#[]⟩, .string ⟨#[]⟩, .slice none 0 0]), 19, 328) := by kernel_rfl
theorem Cd.css_snoc (l : List Cd) (c : Cd) : Cd.css (l ++ [c]) = Cd.css l ++ c.cs := by simp [Cd.css_eq]
end Go.Proofs.YtcgaadnfocmdbaaGreatDoor
end
