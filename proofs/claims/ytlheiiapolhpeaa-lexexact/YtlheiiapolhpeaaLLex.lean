/- Lex: what it tells. -/
import Derived.Maps.OwnIn
import Derived.RangeFuncBox
import Derived.Shelf.RegionOpen
import Derived.Test.YtlheiiapolhpeaaLWalk
namespace Go.Proofs.Ytlheiiapolhpeaa
open Go.RowKit Go.Shelf

attribute [local go_sem] Oper.semAt_some

/-- The cells of a lexeme. -/
def celL (x : Lx) : List Value := [.int .i64 x.k, .string x.t, .int .i64 (x.a : Int), .int .i64 (x.e : Int)]
theorem celL_len (xs : List Lx) : (xs.flatMap celL).length = xs.length * 4 := by
  induction xs with
  | nil => rfl
  | cons p ps ih => rw [List.flatMap_cons, List.length_append, ih, List.length_cons]; simp [celL]; omega

/-- Where gathering ends: the place of the first that may not be, or of the one too many. -/
def gth (k : Nat) : List (Lx × Bool) → Option Nat
  | [] => none
  | z :: r => if z.2 = false ∨ k = 4096 then some z.1.a else gth (k + 1) r
def lexF (s : ByteArray) : Option Nat := gth 0 (tells 0 (tl s 0))
def lexT (s : ByteArray) : List Lx := (tells 0 (tl s 0)).map Prod.fst
def lexPost (s : ByteArray) (w : World) (e : Ending) (W' : World) : Prop :=
  if 65536 < s.size then e = .returned (.tuple #[.slice none 0 0, .int .i64 0, .int .i64 21])
  else match lexF s with
    | some a => e = .returned (.tuple #[.slice none 0 0, .int .i64 (a : Int), .int .i64 20])
    | none => ∃ v, e = .returned (.tuple #[v, .int .i64 0, .int .i64 0]) ∧ W'.ownsRow w.heap.size 31 4 v (lexT s).length ((lexT s).flatMap celL)

theorem lexT_len (s : ByteArray) : (lexT s).length = (tells 0 (tl s 0)).length := List.length_map ..
theorem gth_ok : ∀ (T : List (Lx × Bool)) (k : Nat), (∀ z ∈ T, z.2 = true) → k + T.length ≤ 4096 → gth k T = none
  | [], _, _, _ => rfl
  | z :: r, k, h, hk => by
    simp only [List.length_cons] at hk
    rw [gth, if_neg (by rw [h z (by simp)]; simp; omega), gth_ok r (k + 1) (fun y hy => h y (by simp [hy])) (by omega)]
theorem gth_bad : ∀ (p : List (Lx × Bool)) (z : Lx × Bool) (r : List (Lx × Bool)) (k : Nat), (∀ y ∈ p, y.2 = true) → k + p.length ≤ 4096 → (z.2 = false ∨ k + p.length = 4096) → gth k (p ++ z :: r) = some z.1.a
  | [], z, r, k, _, _, hz => by rw [List.nil_append, gth, if_pos (by simpa using hz)]
  | y :: p, z, r, k, h, hk, hz => by
    simp only [List.length_cons] at hk hz
    rw [List.cons_append, gth, if_neg (by rw [h y (by simp)]; simp; omega), gth_bad p z r (k + 1) (fun y hy => h y (by simp [hy])) (by omega) (by rcases hz with hz | hz; exact .inl hz; exact .inr (by omega))]

theorem heap_own {β : Type} (B : Nat) (o : Obj) (hc : o.isCells = true) : Own (fun (_ : β) W => W.heap[B]? = some o) := by
  intro s X Y row hs hg hrow
  rw [hg.block B (Array.getElem?_eq_some_iff.1 hs).1 ?_]
  · exact hs
  · intro e
    obtain ⟨o', ho, hc'⟩ := hrow B e.symm
    rw [hs] at ho
    cases ho
    rw [hc] at hc'
    cases hc'

theorem infoL : (Try.prog.info? 31).map (fun i => (i.zero, i.size, i.bytes)) = some (some (.agg #[.int .i64 0, .string ⟨#[]⟩, .int .i64 0, .int .i64 0]), 4, 40) := by kernel_rfl

/-- What Lex's own blocks hold between two rounds. -/
def LI (b : Nat) (pre : List (Lx × Bool)) (W : World) : Prop :=
  (∃ v, Boxed W (b + 1 + 1 + 1) 23 v ∧ W.ownsRow b 31 4 v pre.length ((pre.map Prod.fst).flatMap celL) ∧ True) ∧
  Boxed W b 23 (.slice none 0 0) ∧ Boxed W (b + 1) 3 (.int .i64 0) ∧ Boxed W (b + 1 + 1) 24 (.int .i64 0) ∧ (∀ z ∈ pre, z.2 = true) ∧ pre.length ≤ 4096
theorem LI.own (b : Nat) : Own (LI b) := fun s A B row hs hg hr =>
  ⟨holdsRow_own b (b + 1 + 1 + 1) 23 31 4 (fun pre : List (Lx × Bool) => pre.length) (fun pre => (pre.map Prod.fst).flatMap celL) (fun _ _ => True) s A B row hs.1 hg hr,
   boxed_own (β := Unit) b _ (fun _ => .slice none 0 0) () A B row hs.2.1 hg hr, boxed_own (β := Unit) (b + 1) _ (fun _ => .int .i64 0) () A B row hs.2.2.1 hg hr, boxed_own (β := Unit) (b + 1 + 1) _ (fun _ => .int .i64 0) () A B row hs.2.2.2.1 hg hr, hs.2.2.2.2⟩
/-- What they hold when a round has ended it. -/
def LX (b : Nat) (c : Code) (pre : List (Lx × Bool)) (W : World) : Prop := c = .ret ∧
  Boxed W b 23 (.slice none 0 0) ∧ Boxed W (b + 1 + 1) 24 (.int .i64 20) ∧
  ∃ p z, pre = p ++ [z] ∧ (∀ y ∈ p, y.2 = true) ∧ p.length ≤ 4096 ∧ (z.2 = false ∨ p.length = 4096) ∧ Boxed W (b + 1) 3 (.int .i64 (z.1.a : Int))
theorem LX.own (b : Nat) (c : Code) : Own (LX b c) := fun s A B row hs hg hr => by
  obtain ⟨h1, h2, h3, p, z, h4, h5, h6, h7, h8⟩ := hs
  exact ⟨h1, boxed_own (β := Unit) b _ (fun _ => .slice none 0 0) () A B row h2 hg hr, boxed_own (β := Unit) (b + 1 + 1) _ (fun _ => .int .i64 20) () A B row h3 hg hr, p, z, h4, h5, h6, h7, boxed_own (β := Unit) (b + 1) _ (fun _ => .int .i64 (z.1.a : Int)) () A B row h8 hg hr⟩
theorem LI.start (s : ByteArray) (w : World) : let W := (((((w.alloc (.cells #[.slice none 0 0] 23)).alloc (.cells #[.int .i64 0] 3)).alloc (.cells #[.int .i64 0] 24)).alloc (.cells #[.slice none 0 0] 23)).alloc (.cells #[.string s] 9))
    LI w.heap.size [] W ∧ Below w.heap.size w W ∧ W.cell? ⟨w.heap.size + 1 + 1 + 1 + 1, 0, none⟩ = some (.string s) ∧ rowB (w.heap.size + 1 + 1 + 1) W = none ∧ W.heap.size = w.heap.size + 5 := by
  intro W
  have k1 : Boxed W w.heap.size _ _ := ((((Boxed.new w 23 (.slice none 0 0)).alloc _).alloc _).alloc _).alloc _
  have k2 : Boxed W (w.heap.size + 1) 3 (.int .i64 0) := by
    have := Boxed.new (w.alloc (.cells #[.slice none 0 0] 23)) 3 (.int .i64 0)
    rw [World.size_alloc] at this
    exact (((this).alloc _).alloc _).alloc _
  have k3 : Boxed W (w.heap.size + 1 + 1) 24 (.int .i64 0) := by
    have := Boxed.new ((w.alloc (.cells #[.slice none 0 0] 23)).alloc (.cells #[.int .i64 0] 3)) 24 (.int .i64 0)
    rw [World.size_alloc, World.size_alloc] at this
    exact ((this).alloc _).alloc _
  have k4 : Boxed W (w.heap.size + 1 + 1 + 1) 23 (.slice none 0 0) := by
    have := Boxed.new (((w.alloc (.cells #[.slice none 0 0] 23)).alloc (.cells #[.int .i64 0] 3)).alloc (.cells #[.int .i64 0] 24)) 23 (.slice none 0 0)
    rw [World.size_alloc, World.size_alloc, World.size_alloc] at this
    exact (this).alloc _
  have k5 : Boxed W (w.heap.size + 1 + 1 + 1 + 1) 9 (.string s) := by
    have := Boxed.new ((((w.alloc (.cells #[.slice none 0 0] 23)).alloc (.cells #[.int .i64 0] 3)).alloc (.cells #[.int .i64 0] 24)).alloc (.cells #[.slice none 0 0] 23)) 9 (.string s)
    rw [World.size_alloc, World.size_alloc, World.size_alloc, World.size_alloc] at this
    exact this
  refine ⟨⟨⟨_, k4, ⟨rfl, .inl ⟨rfl, rfl⟩⟩, trivial⟩, k1, k2, k3, (fun z hz => by cases hz), Nat.zero_le _⟩, below_al (below_al (below_al (below_al (below_al (Below.refl _ _) _) _) _) _) _, k5.cell, ?_, by simp [W]⟩
  unfold rowB
  rw [k4.cell]
  rfl

theorem KpB.app {B : Nat} {W w1 : World} {t e : TypeId} {v v' : Value} {tmp : Obj} {base size m : Nat} {ys : List Value} (hv : Boxed W B t v) (hg : (W.alloc tmp).grownBy w1 v.ownBlock) (hv2 : Boxed (w1.setCell ⟨B, 0, none⟩ v') B t v')
    (ho : w1.ownsRow base e size v' m ys) (hat : v'.ownBlock = v.ownBlock ∨ v'.ownBlock = some (W.alloc tmp).heap.size) : KpB B W (w1.setCell ⟨B, 0, none⟩ v') := by
  have hr : rowB B W = v.ownBlock := by unfold rowB; rw [hv.cell]; rfl
  have hr' : rowB B (w1.setCell ⟨B, 0, none⟩ v') = v'.ownBlock := by unfold rowB; rw [hv2.cell]; rfl
  have hs : W.heap.size ≤ w1.heap.size := by have := hg.size; simp at this; omega
  refine ⟨by simpa using hs, ?_, ?_, ?_⟩
  · intro b hb hn hrb o ho hc
    rw [Below.heap_setCell _ _ _ _ hn, hg.block b (by simp; omega) (fun h => hrb (by rw [hr]; exact h.symm)), Below.heap_alloc _ _ _ hb]
    exact ho
  · intro r h
    rw [hr'] at h
    rcases hat with k | k
    · exact .inl (by rw [hr, ← k]; exact h)
    · rw [k] at h; cases h; exact .inr (by simp)
  · intro _ r h
    rw [hr'] at h
    rcases ho.2 with ⟨rfl, _⟩ | ⟨g, cap, cur, rfl, _, hgb, _⟩
    · cases h
    · cases h
      have := (Array.getElem?_eq_some_iff.1 hgb).1
      simpa using this

theorem cells4_new (w : World) (x0 x1 x2 x3 : Value) (t : TypeId) : ∀ j u, [x0, x1, x2, x3][j]? = some u → (w.alloc (.cells #[x0, x1, x2, x3] t)).cell? ((⟨w.heap.size, 0, none⟩ : Addr).add j) = some u := by
  obtain ⟨⟨g0, g1, g2, g3⟩, -⟩ := F4.new w x0 x1 x2 x3 t
  intro j u hj
  match j, hj with
  | 0, hj => cases hj; exact g0
  | 1, hj => cases hj; exact g1
  | 2, hj => cases hj; exact g2
  | 3, hj => cases hj; exact g3
  | j + 4, hj => simp at hj

theorem four_cells {W : World} {b : Nat} {x0 x1 x2 x3 : Value} {t : TypeId} (h : W.heap[b]? = some (.cells #[x0, x1, x2, x3] t (0, 0))) : F4 W b x0 x1 x2 x3 := by
  refine ⟨⟨?_, ?_, ?_, ?_⟩, ?_, ?_, ?_, ?_⟩ <;> simp [World.cell?, World.frozen?, h]

theorem LX.of {b n : Nat} {w W : World} {pre : List (Lx × Bool)} {z : Lx × Bool} (b2 : Boxed W b 23 (.slice none 0 0)) (b3 : Boxed W (b + 1) 3 (.int .i64 0)) (b4 : Boxed W (b + 1 + 1) 24 (.int .i64 0))
    (hall : ∀ z ∈ pre, z.2 = true) (hlen : pre.length ≤ 4096) (hz : z.2 = false ∨ pre.length = 4096) (hB : Below b w W) :
    let W' := (((W.setCell ⟨b, 0, none⟩ (.slice none 0 0)).setCell ⟨b + 1, 0, none⟩ (.int .i64 (z.1.a : Int))).setCell ⟨b + 1 + 1, 0, none⟩ (.int .i64 20)).drew
    KeepsFrom n W W' ∧ LX b .ret (pre ++ [z]) W' ∧ Below b w W' := by
  intro W'
  refine ⟨((((KeepsOthers.setCell _ _ _).trans (KeepsOthers.setCell _ _ _)).trans (KeepsOthers.setCell _ _ _)).trans (KeepsOthers.drew _)).from _, ⟨rfl, ?_, ?_, pre, z, rfl, hall, hlen, hz, ?_⟩, ?_⟩
  · exact ((b2.set (.slice none 0 0)).other (by omega) _).other (by omega) _
  · exact ((b4.other (by omega) _).other (by omega) _).set _
  · exact ((b3.other (by omega) _).set _).other (by omega) _
  · exact (((hB.setCell (p := ⟨b, 0, none⟩) (Nat.le_refl _) _).setCell (p := ⟨b + 1, 0, none⟩) (Nat.le_add_right _ _) _).setCell (p := ⟨b + 1 + 1, 0, none⟩) (by simp only; omega) _).drew

set_option maxRecDepth 100000 in
set_option maxHeartbeats 4000000 in
theorem lex_in (n : Nat) (hn : 3 ≤ n) (s : ByteArray) (w : World) :
    CallsIn Fence.wide n Try.prog 8 #[.string s] w fun e W' => lexPost s w e W' ∧ Below w.heap.size w W' := by
  have h1 : 1 ≤ n := by omega
  refine callsIn_of_wp_marks Try.func8 rfl trivial ?_ rfl
  simp only [Try.ntmps8, List.size_toArray, List.length_cons, List.length_nil, Nat.reduceAdd, Nat.reduceSub, Array.replicate_succ, Array.replicate_zero, List.push_toArray, List.append_toArray, List.nil_append, List.cons_append]
  by_cases hlong : 65536 < s.size
  · have hl : (65536 : Int) < (s.size : Int) := by omega
    gi_wp2
    refine ⟨.tuple #[.slice none 0 0, .int .i64 0, .int .i64 21], ?_, by rw [lexPost, if_pos hlong], below_al (below_al (below_al (Below.refl _ _) _) _) _⟩
    have k1 : Boxed (((w.alloc (.cells #[.slice none 0 0] 23)).alloc (.cells #[.int .i64 0] 3)).alloc (.cells #[.int .i64 21] 24)) w.heap.size 23 (.slice none 0 0) := ((Boxed.new _ _ _).alloc _).alloc _
    have k2 := (Boxed.new (w.alloc (.cells #[.slice none 0 0] 23)) 3 (.int .i64 0)).alloc (.cells #[.int .i64 21] 24)
    have k3 := Boxed.new ((w.alloc (.cells #[.slice none 0 0] 23)).alloc (.cells #[.int .i64 0] 3)) 24 (.int .i64 21)
    rw [World.size_alloc] at k2
    rw [World.size_alloc, World.size_alloc] at k3
    simp [results, Try.f8, go_sem, k1.cell, k2.cell, k3.cell]
  · have hl : ¬ (65536 : Int) < (s.size : Int) := by omega
    gi_wp2_with (refine ⟨trivial, ?_⟩; gi_at_call 16; refine (lexemes_in (n - 1) s _).mono ?_; rintro e w' ⟨rfl, rfl⟩)
    obtain ⟨hI0, hB0, ht0, hr0, hs0⟩ := LI.start s w
    generalize (((((w.alloc (.cells #[.slice none 0 0] 23)).alloc (.cells #[.int .i64 0] 3)).alloc (.cells #[.int .i64 0] 24)).alloc (.cells #[.slice none 0 0] 23)).alloc (.cells #[.string s] 9)) = W0 at *
    refine wpIn_rangeFunc_ownH rfl h1 (gf := 19) (lb := #[.pointer (some ⟨w.heap.size + 1 + 1 + 1 + 1, 0, none⟩)]) rfl trivial (enters_of Try.func19 (by kernel_rfl) rfl)
      (walk_stops (n - 1) (by omega) (w.heap.size + 1 + 1 + 1) (w.heap.size + 1 + 1 + 1 + 1) s (by omega) W0 (by omega) (by omega) ht0 hr0) KpB.trans (fun W l o o' hl ho hc _ => KpB.put o' (by omega) ho hc) (Below.refl _ _) (fun _ => rfl)
      (fun pre W => LI w.heap.size pre W ∧ Below w.heap.size w W) (fun c pre W => LX w.heap.size c pre W ∧ Below w.heap.size w W)
      (OwnFrom.and ((LI.own _).from _) (ownFrom_below (Nat.le_refl _) (by omega)))
      (fun c => OwnFrom.and ((LX.own _ c).from _) (ownFrom_below (Nat.le_refl _) (by omega)))
      ⟨hI0, hB0⟩
      (fun x a' W => ∃ Bx, w.heap.size + 1 + 1 + 1 < Bx ∧ W.heap[Bx]? = some (.cells #[.int .i64 x.1.k, .string x.1.t, .int .i64 (x.1.a : Int), .int .i64 (x.1.e : Int)] 31 (0, 0)) ∧ a' = { tmps := #[.string s, undef, .pointer (some ⟨w.heap.size, 0, none⟩), .pointer (some ⟨w.heap.size + 1, 0, none⟩), .pointer (some ⟨w.heap.size + 1 + 1, 0, none⟩), .pointer (some ⟨w.heap.size + 1 + 1 + 1, 0, none⟩), .pointer (some ⟨Bx, 0, none⟩), .bool x.2, .string s, .int .i64 (s.size : Int), .bool false, .string s, .func (.func 19) #[] #[.pointer (some ⟨w.heap.size + 1 + 1 + 1 + 1, 0, none⟩)], x.1.v, .bool x.2, undef, undef, undef, undef, undef, undef, undef, undef, undef, undef, undef, undef, undef, undef], defers := [] })
      (fun x a' => Own.from (fun _ A B row hs hg hr => by obtain ⟨Bx, h1, h2, h3⟩ := hs; exact ⟨Bx, h1, heap_own (β := Unit) Bx _ rfl () A B row h2 hg hr, h3⟩) _) ?assign ?body ?done ?stop
    case assign =>
      rintro l pre ⟨⟨kk, tt, aa, ee⟩, mm⟩ W K ⟨hi, hB⟩ hK
      simp only [Lx.v, lxv]
      gi_wp2
      have hlt : w.heap.size + 1 + 1 + 1 < W.heap.size := by obtain ⟨v, hv, -⟩ := hi.1; exact hv.lt
      exact hK _ _ ((KeepsOthers.alloc _ _).from _) (KpB.alloc hlt _) ⟨LI.own _ pre W _ none hi (World.grownBy_alloc W _ none) (fun r e => by cases e), below_al hB _⟩ ⟨W.heap.size, hlt, World.alloc_heap_new W _, rfl⟩
    case body =>
      rintro l pre ⟨⟨kk, tt, aa, ee⟩, mm⟩ a' W hl ⟨r, hr⟩ ⟨⟨⟨v, hv, hrow, -⟩, b2, b3, b4, hall, hlen⟩, hB⟩ ⟨Bx, hBx, bX, rfl⟩ _
      obtain ⟨⟨z0, z1, z2, z3⟩, y0, y1, y2, y3⟩ := four_cells bX
      have c2 := b2.cell
      have c3 := b3.cell
      have c4 := b4.cell
      have c5 := hv.cell
      have f2 := b2.frozen
      have f3 := b3.frozen
      have f4 := b4.frozen
      have f5 := hv.frozen
      simp only [Lx.v, lxv]
      have hmo : Try.prog.follows .mixedOrders = true := by kernel_rfl
      cases mm with
      | false =>
        gi_wp2
        gi_region_o
        all_goals gi_wp2
        all_goals exact LX.of b2 b3 b4 hall hlen (z := (⟨kk, tt, aa, ee⟩, false)) (.inl rfl) hB
      | true =>
        obtain ⟨p0, cap0, hv0⟩ : ∃ p0 cap0, v = .slice p0 pre.length cap0 := by
          rcases hrow.2 with ⟨rfl, h0⟩ | ⟨g, cap, cur, rfl, -⟩
          · exact ⟨none, 0, by rw [h0]⟩
          · exact ⟨_, _, rfl⟩
        by_cases hmost : pre.length = 4096
        · have hm : ((pre.length : Int) == 4096) = true := by rw [hmost]; rfl
          subst hv0
          gi_wp2
          gi_region_o
          all_goals gi_wp2
          all_goals exact LX.of b2 b3 b4 hall hlen (z := (⟨kk, tt, aa, ee⟩, true)) (.inr hmost) hB
        · have hm : ((pre.length : Int) == 4096) = false := by simp; omega
          obtain ⟨i0, hi, hz0, hz1, hz2⟩ := info_parts infoL
          subst hv0
          have hle : w.heap.size ≤ w.heap.size + 1 + 1 + 1 := by omega
          gi_wp2_with (gi_at_builtin; refine wpListIn_append_own_at _ rfl _ _ 23 rfl w.heap.size 31 i0 _ 4 40 Try.underlying23 hi hz0 hz1 hz2 rfl (by decide) _ _ _ rfl (hrow.alloc _) ⟨W.heap.size, 0, none⟩ 1 1 [.int .i64 kk, .string tt, .int .i64 (aa : Int), .int .i64 (ee : Int)] rfl rfl (cells4_new _ _ _ _ _ _) (by simp [Value.oneCell']) (by unfold maxLen; omega) (by omega) (by have := hB.size; simp; omega) ?_; intro v' w1 hown' hgrow _ hat; obtain ⟨g', cap', rfl⟩ := ownsRow_succ hown'; obtain ⟨hv1, hv2, hr2, hk2, hb2⟩ := hv.appended (by decide) hrow hB.size hle hown' hgrow; have hc1 := hv1.cell; have hf1 := hv1.frozen)
          have k2 := (((b2.alloc _).kept hgrow (b2.not_row (by decide) hrow)).other (B' := w.heap.size + 1 + 1 + 1) (by omega) (.slice (some ⟨g', 0, none⟩) (pre.length + 1) cap'))
          have k3 := (((b3.alloc _).kept hgrow (b3.not_row (by decide) hrow)).other (B' := w.heap.size + 1 + 1 + 1) (by omega) (.slice (some ⟨g', 0, none⟩) (pre.length + 1) cap'))
          have k4 := (((b4.alloc _).kept hgrow (b4.not_row (by decide) hrow)).other (B' := w.heap.size + 1 + 1 + 1) (by omega) (.slice (some ⟨g', 0, none⟩) (pre.length + 1) cap'))
          refine ⟨hk2.from _, KpB.app hv hgrow hv2 hown' hat, ⟨⟨_, hv2, ?_, trivial⟩, k2, k3, k4, ?_, ?_⟩, hB.trans hb2⟩
          · simpa [celL] using hr2
          · intro z hz
            rcases List.mem_append.1 hz with h | h
            · exact hall z h
            · simp at h; subst h; rfl
          · simp; omega
    case done =>
      rintro D ys W hD rfl ⟨⟨⟨v, hv, hrow, -⟩, b2, b3, b4, hall, hlen⟩, hB⟩ hK
      have c2 := b2.cell
      have c3 := b3.cell
      have c4 := b4.cell
      have c5 := hv.cell
      have f2 := b2.frozen
      have f3 := b3.frozen
      have f4 := b4.frozen
      have hT : (lexT s).flatMap celL = ((tells 0 (tl s 0)).map Prod.fst).flatMap celL := rfl
      rw [← hT, ← lexT_len] at hrow
      clear hT
      obtain ⟨p0, cap0, hv0⟩ : ∃ p0 cap0, v = .slice p0 (lexT s).length cap0 := by
        rcases hrow.2 with ⟨rfl, h0⟩ | ⟨g, cap, cur, rfl, -⟩
        · exact ⟨none, 0, by rw [h0]⟩
        · exact ⟨_, _, rfl⟩
      subst hv0
      have hF : lexF s = none := gth_ok _ 0 hall (by omega)
      gi_wp2
      have k2 := ((b2.set (.slice p0 (lexT s).length cap0)).other (B' := w.heap.size + 1) (by omega) (.int .i64 0)).other (B' := w.heap.size + 1 + 1) (by omega) (.int .i64 0)
      have k3 := ((b3.other (B' := w.heap.size) (by omega) (.slice p0 (lexT s).length cap0)).set (.int .i64 0)).other (B' := w.heap.size + 1 + 1) (by omega) (.int .i64 0)
      have k4 := ((b4.other (B' := w.heap.size) (by omega) (.slice p0 (lexT s).length cap0)).other (B' := w.heap.size + 1) (by omega) (.int .i64 0)).set (.int .i64 0)
      have hK' := (((KeepsOthers.setCell W ⟨w.heap.size, 0, none⟩ (.slice p0 (lexT s).length cap0)).trans (KeepsOthers.setCell _ ⟨w.heap.size + 1, 0, none⟩ (.int .i64 0))).trans (KeepsOthers.setCell _ ⟨w.heap.size + 1 + 1, 0, none⟩ (.int .i64 0))).same D _ hK rfl
      have q1 := hrow.kept (grownBy_setCell' W w.heap.size (.slice p0 (lexT s).length cap0)) (.inr (b2.not_row (by decide) hrow).symm)
      have q2 := q1.kept (grownBy_setCell' _ (w.heap.size + 1) (.int .i64 0)) (.inr ((b3.other (B' := w.heap.size) (by omega) _).not_row (by decide) q1).symm)
      have q3 := q2.kept (grownBy_setCell' _ (w.heap.size + 1 + 1) (.int .i64 0)) (.inr (((b4.other (B' := w.heap.size) (by omega) _).other (B' := w.heap.size + 1) (by omega) _).not_row (by decide) q2).symm)
      have hB3 := ((hB.setCell (p := ⟨w.heap.size, 0, none⟩) (Nat.le_refl _) (.slice p0 (lexT s).length cap0)).setCell (p := ⟨w.heap.size + 1, 0, none⟩) (Nat.le_add_right _ _) (.int .i64 0)).setCell (p := ⟨w.heap.size + 1 + 1, 0, none⟩) (by simp only; omega) (.int .i64 0)
      have q4 := ownsRow_putObj q3 (.deferred none) hK' rfl
      have hB4 := hB3.trans (belowK_b (w := w) (Nat.le_refl _) _ D _ (.deferred none) (by omega) hK' rfl rfl)
      have j2 := (k2.kept (grownBy_putObj' _ D (.deferred none)) (by simp; omega)).cell
      have j3 := (k3.kept (grownBy_putObj' _ D (.deferred none)) (by simp; omega)).cell
      have j4 := (k4.kept (grownBy_putObj' _ D (.deferred none)) (by simp; omega)).cell
      refine ⟨by simp, .inl ⟨_, _, rfl, run_takeDeferred hK', ?_⟩⟩
      refine ⟨.tuple #[.slice p0 (lexT s).length cap0, .int .i64 0, .int .i64 0], ?_, ?_, hB4⟩
      · simp [results, Try.f8, go_sem, j2, j3, j4]
      · rw [lexPost, if_neg hlong, hF]
        exact ⟨_, rfl, q4⟩
    case stop =>
      rintro D c pre W hD hpre ⟨⟨rfl, b2, b4, p, z, rfl, hall, hlen, hz, b3⟩, hB⟩ hK
      gi_wp2
      have hF : lexF s = some z.1.a := by
        obtain ⟨r, hr⟩ := hpre
        unfold lexF
        rw [← hr, List.append_assoc]
        exact gth_bad p z r 0 hall (by omega) (by simpa using hz)
      have j2 := (b2.kept (grownBy_putObj' _ D (.deferred none)) (by simp; omega)).cell
      have j3 := (b3.kept (grownBy_putObj' _ D (.deferred none)) (by simp; omega)).cell
      have j4 := (b4.kept (grownBy_putObj' _ D (.deferred none)) (by simp; omega)).cell
      refine ⟨by simp, .inl ⟨_, _, rfl, run_takeDeferred hK, ?_⟩⟩
      refine ⟨.tuple #[.slice none 0 0, .int .i64 (z.1.a : Int), .int .i64 20], ?_, ?_, hB.trans (belowK_b (w := w) (Nat.le_refl _) _ D _ (.deferred none) (by omega) hK rfl rfl)⟩
      · simp [results, Try.f8, go_sem, j2, j3, j4]
      · rw [lexPost, if_neg hlong, hF]

theorem lex_any (s : ByteArray) (w : World) : Calls Try.prog 8 #[.string s] w fun e W' => lexPost s w e W' ∧ Below w.heap.size w W' :=
  callsIn_wide.1 (lex_in 3 (Nat.le_refl _) s w)
theorem lex_long {s : ByteArray} (h : 65536 < s.size) (w : World) : Calls Try.prog 8 #[.string s] w fun e W' => e = .returned (.tuple #[.slice none 0 0, .int .i64 0, .int .i64 21]) ∧ Below w.heap.size w W' :=
  (lex_any s w).mono fun e W' he => by have h1 := he.1; rw [lexPost, if_pos h] at h1; exact ⟨h1, he.2⟩
theorem lex_bad {s : ByteArray} (h : s.size ≤ 65536) {a : Nat} (hF : lexF s = some a) (w : World) : Calls Try.prog 8 #[.string s] w fun e W' => e = .returned (.tuple #[.slice none 0 0, .int .i64 (a : Int), .int .i64 20]) ∧ Below w.heap.size w W' :=
  (lex_any s w).mono fun e W' he => by have h1 := he.1; rw [lexPost, if_neg (by omega), hF] at h1; exact ⟨h1, he.2⟩
theorem lex_ok {s : ByteArray} (h : s.size ≤ 65536) (hF : lexF s = none) (w : World) : Calls Try.prog 8 #[.string s] w fun e W' => ∃ v, e = .returned (.tuple #[v, .int .i64 0, .int .i64 0]) ∧ W'.ownsRow w.heap.size 31 4 v (lexT s).length ((lexT s).flatMap celL) ∧ Below w.heap.size w W' :=
  (lex_any s w).mono fun e W' he => by
    have h1 := he.1
    rw [lexPost, if_neg (by omega), hF] at h1
    obtain ⟨v, h2, h3⟩ := h1
    exact ⟨v, h2, h3, he.2⟩
end Go.Proofs.Ytlheiiapolhpeaa
