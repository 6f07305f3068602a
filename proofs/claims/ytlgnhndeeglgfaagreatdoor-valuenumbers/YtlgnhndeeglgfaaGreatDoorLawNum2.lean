/- proctorlaw1.ValueNumbers: the law's walk. -/
import Derived.Test.YtlgnhndeeglgfaaGreatDoorNumOps
import Derived.Test.YtlgnhndeeglgfaaGreatDoorWakes
import Derived.Test.YtlgnhndeeglgfaaGreatDoorSame
import Derived.Deep.DeepCutAuto
import Derived.Deep.AppendLies
namespace Go.Proofs.YtlgnhndeeglgfaaGreatDoor
open Go.RowKit

set_option maxHeartbeats 2000000 in
theorem num_b (x : Int) (w : World) :
    Calls Tryz.prog 25 #[.int .i64 x] w fun e w' => e = .returned (.agg #[.int .i64 2, .bool false, .int .i64 x, .string ⟨#[]⟩, .slice none 0 0]) ∧ Below w.heap.size w w' := by
  go_enter Tryz.func25, Tryz.ntmps25
  go_wp2
  refine bodyPost_ret (v := .agg #[.int .i64 2, .bool false, .int .i64 x, .string ⟨#[]⟩, .slice none 0 0]) (by simp [results, Tryz.results25, go_sem]) rfl ⟨rfl, ?_⟩
  repeat (first | exact Below.refl _ _ | refine below_al ?_ _)

/-- The argument's numbers. -/
def Is (w : World) (is : List Int) (sv : Value) : Prop :=
  ∃ ad cap, sv = .slice ad is.length cap ∧ is.length ≤ cap ∧ cap ≤ maxLen ∧ (0 < is.length → ∃ b o, ad = some ⟨b, o, none⟩ ∧ ∀ j (h : j < is.length), w.cell? ⟨b, o + j, none⟩ = some (.int .i64 is[j]))

theorem infoV' : (Tryz.prog.info? 28).map (fun i => (i.zero.map (fun z => z.cells.size), i.size, i.bytes)) = some (some 5, 5, 64) := by kernel_rfl
theorem infoV : ∃ i, Tryz.prog.info? 28 = some i ∧ (∃ z, i.zero = some z ∧ z.cells.size = 5) ∧ i.size = 5 ∧ i.bytes = 64 := by
  have h := infoV'
  cases hi : Tryz.prog.info? 28 with
  | none => rw [hi] at h; cases h
  | some i =>
    rw [hi] at h
    simp at h
    obtain ⟨⟨z, h1, h1'⟩, h2, h3⟩ := h
    exact ⟨i, rfl, ⟨z, h1, h1'⟩, h2, h3⟩

theorem new_five (w : World) (x : Int) (T : TypeId) : ∀ (j : Nat) (u : Value), [Value.int .i64 2, .bool false, .int .i64 x, .string ⟨#[]⟩, .slice none 0 0][j]? = some u → (w.alloc (.cells #[.int .i64 2, .bool false, .int .i64 x, .string ⟨#[]⟩, .slice none 0 0] T)).cell? ((⟨w.heap.size, 0, none⟩ : Addr).add j) = some u := by
  intro j u hj
  match j, hj with
  | 0, hj => simp at hj; subst hj; simp [Addr.add]
  | 1, hj => simp at hj; subst hj; simp [Addr.add]
  | 2, hj => simp at hj; subst hj; simp [Addr.add]
  | 3, hj => simp at hj; subst hj; simp [Addr.add]
  | 4, hj => simp at hj; subst hj; simp [Addr.add]
  | j + 5, hj => simp at hj

def NumsAt (w : World) (sv : Value) (is : List Int) (k : Nat) (A B : Value) (w' : World) : Prop :=
  w'.ownsRow (w.heap.size + 1) 28 5 A k ((is.take k).flatMap numC) ∧
  w'.ownsRow (w.heap.size + 1) 28 5 B k ((is.take k).reverse.flatMap numC) ∧
  (∀ g, A.ownBlock = some g → B.ownBlock = some g → False) ∧
  (k = 0 → B = .slice none 0 0) ∧
  Below (w.heap.size + 1) (w.alloc (.cells #[sv] 58)) w'

theorem nums_cel {w : World} {base : Nat} {e : TypeId} {g cap n : Nat} (ns : List Int) (h : w.ownsRow base e 5 (.slice (some ⟨g, 0, none⟩) n cap) ns.length (ns.flatMap numC)) (j : Nat) (hj : j < ns.length) : Cel w g (j * 5) (numT ns[j]) (.slice none 0 0) := by
  have hc := h.cells (g := g) rfl
  have at5 : ∀ r u, r < 5 → (numC ns[j])[r]? = some u → w.cell? ⟨g, j * 5 + r, none⟩ = some u := by
    intro r u hr hu
    have := hc (j * 5 + r) u (by rw [flat_at ns j r hr hj]; exact hu)
    have ea : (⟨g, 0, none⟩ : Addr).add (j * 5 + r) = ⟨g, j * 5 + r, none⟩ := by
      unfold Addr.add
      split
      · next hz => have hz' : j * 5 + r = 0 := by simpa using hz
                   rw [hz']
      · simp
    rw [ea] at this; exact this
  exact ⟨at5 0 (.int .i64 2) (by omega) rfl, at5 1 (.bool false) (by omega) rfl, at5 2 (.int .i64 ns[j]) (by omega) rfl, at5 3 (.string ⟨#[]⟩) (by omega) rfl, at5 4 (.slice none 0 0) (by omega) rfl⟩

def resT (k i : Int) : Tr := ⟨k, false, i, ⟨#[]⟩, []⟩

theorem below_st {a w : World} (h : Below a.heap.size a w) {b o : Nat} (hb : a.heap.size ≤ b) (v : Value) : Below a.heap.size a (w.setCell ⟨b, o, none⟩ v) := h.setCell (p := ⟨b, o, none⟩) hb v

theorem own_below {a b : World} {base : Nat} {e : TypeId} {size : Nat} {v : Value} {n : Nat} {xs : List Value} (o : a.ownsRow base e size v n xs) (h : Below a.heap.size a b) : b.ownsRow base e size v n xs :=
  o.kept (row := none) ⟨h.os, h.tape, h.output, h.size, fun k hk _ => h.block k hk⟩ (by cases v.ownBlock <;> simp)

theorem own_apart {u v : Value} (h : ∀ g, u.ownBlock = some g → v.ownBlock = some g → False) : v.ownBlock = none ∨ v.ownBlock ≠ u.ownBlock := by
  cases hv : v.ownBlock with
  | none => exact .inl rfl
  | some j => exact .inr (fun e => h j e.symm hv)

set_option maxRecDepth 20000 in
set_option maxHeartbeats 40000000 in
theorem valueNumbers_walk (is : List Int) (sv : Value) (w : World) (hl : Is w is sv) (hj : ∀ x ∈ is, -9223372036854775808 ≤ x ∧ x ≤ 9223372036854775807) :
    Calls Tryz.prog 7 #[.agg #[sv]] w fun e w' => e = .returned (.bool true) ∧ Below w.heap.size w w' := by
  obtain ⟨a0, ca, rfl, la, ma, ea⟩ := hl
  unfold maxLen at ma
  go_enter Tryz.func7, Tryz.ntmps7
  go_upto_region 2 with fail
  iterate 7 (first | go_values | go_skip | go_guarded | go_step | go_upon | go_back)
  have ea' := Hid.intro ea
  clear ea
  go_cut [3, 4, 5] (fun A B i wx => ∃ k : Nat, k ≤ is.length ∧ k ≤ 12 ∧ i = .int .i64 k ∧ Hid (NumsAt w (.slice a0 is.length ca) is k A B wx))
  case first =>
    go_wp2
    go_loopw [3, 4, 5] (fun A B i w' => ∃ k : Nat, k ≤ is.length ∧ k ≤ 12 ∧ i = .int .i64 k ∧ Hid (NumsAt w (.slice a0 is.length ca) is k A B w')) (fun _ _ i _ => 12 - (intOf i).toNat)
    case atStart => exact ⟨0, by omega, by omega, rfl, World.ownsRow_nil _ _ _ _, World.ownsRow_nil _ _ _ _, fun g h => by simp [Value.ownBlock] at h, fun _ => rfl, Below.refl _ _⟩
    case round =>
      obtain ⟨k, hk1, hk2, rfl, HI⟩ := hrel
      by_cases hlt : k < is.length
      · by_cases h12 : k < 12
        · obtain ⟨O1, O2, O3, O5, O4⟩ := HI.out
          have hc0 : wr.cell? ⟨w.heap.size, 0, none⟩ = some (.slice a0 is.length ca) := by rw [O4.cell (p := ⟨w.heap.size, 0, none⟩) (by simp)]; simp [go_sem]
          have hsz : w.heap.size + 1 ≤ wr.heap.size := by have := O4.size; simpa using this
          obtain ⟨b1, o1, rfl, e1⟩ := ea'.out (by omega)
          have p0 := e1 k hlt
          have hb0 : b1 < w.heap.size := cell_lt p0
          have p1 : wr.cell? ⟨b1, o1 + k, none⟩ = some (.int .i64 is[k]) := by
            rw [O4.cell (p := ⟨b1, o1 + k, none⟩) (Nat.lt_succ_of_lt hb0), ← p0]; exact World.cell?_of_block (Below.heap_alloc _ _ _ hb0)
          have ib : (0 : Int) ≤ (k : Int) := by omega
          have ix : (k : Int) < (is.length : Int) := by omega
          have h12' : (k : Int) < 12 := by omega
          have hres : Hid (is.take (k + 1) = is.take k ++ [is[k]]) := List.take_succ_eq_append_getElem hlt
          have p0' := p0
          clear e1 ea' HI p0
          generalize is[k] = x at *
          have HI := Hid.intro infoV
          go_wp2_with fail
          refine (num_b x _).mono ?_
          rintro e y1 ⟨rfl, hb1⟩
          have P1 := Hid.intro (own_below O1 hb1)
          have P2 := Hid.intro (own_below O2 hb1)
          have hs1 : w.heap.size + 1 ≤ y1.heap.size := Nat.le_trans hsz hb1.size
          have HB := Hid.intro (O4.trans (hb1.mono hsz))
          clear O4 O1 O2 hb1
          go_wp2_with (at_builtin; refine wpList_append_lies _ rfl _ _ 22 rfl (w.heap.size + 1) 28 HI.out.choose HI.out.choose_spec.2.1.choose 5 64 Tryz.underlying22 HI.out.choose_spec.1 HI.out.choose_spec.2.1.choose_spec.1 HI.out.choose_spec.2.2.1 HI.out.choose_spec.2.2.2 HI.out.choose_spec.2.1.choose_spec.2 (by decide) _ _ _ rfl (P1.out.alloc _) ⟨y1.heap.size, 0, none⟩ 1 1 (numC x) rfl rfl (new_five _ _ _) ?c2 ?c3 ?c4 ?c5 ?c6 y1.heap.size.succ (by simp) ?_)
          case c2 => intro u hu; simp [numC] at hu; rcases hu with rfl | rfl | rfl | rfl | rfl <;> rfl
          case c3 => exact Nat.zero_lt_one
          case c4 => unfold maxLen; omega
          case c5 => omega
          case c6 => simp; omega
          intro g cap y2 own1 gr1 at1 lt1
          have P2' := Hid.intro ((P2.out.alloc _).kept gr1 (own_apart O3))
          have HB2 := Hid.intro ((HB.out.alloc hs1 _).grown gr1 (by simp; omega) (fun j e => (P1.out.lt j e).1))
          have O3' : Hid (∀ j, u4.ownBlock = some j → j ≠ g) := by
            intro j hj
            rcases at1 with e | e
            · intro hje; subst hje; exact O3 _ e hj
            · have := (P2.out.lt j hj).2; omega
          have OW := Hid.intro own1
          have hs2 : w.heap.size + 1 ≤ y2.heap.size := by have := gr1.size; simp at this; omega
          have d0 : y2.cell? ⟨w.heap.size, 0, none⟩ = some (.slice (some ⟨b1, o1, none⟩) is.length ca) := by rw [HB2.out.cell (p := ⟨w.heap.size, 0, none⟩) (by simp)]; simp [go_sem]
          have d1 : y2.cell? ⟨b1, o1 + k, none⟩ = some (.int .i64 x) := by
            rw [HB2.out.cell (p := ⟨b1, o1 + k, none⟩) (Nat.lt_succ_of_lt hb0), ← p0']; exact World.cell?_of_block (Below.heap_alloc _ _ _ hb0)
          clear own1 gr1 at1 P1 P2 HB O3 hc0 p1 hs1 hsz
          go_wp2_with fail
          refine (num_b x _).mono ?_
          rintro e y3 ⟨rfl, hb3⟩
          have Q1 := Hid.intro (own_below OW.out hb3)
          have Q2 := Hid.intro (own_below P2'.out hb3)
          have HB3 := Hid.intro (HB2.out.trans (hb3.mono hs2))
          have hs3 : w.heap.size + 1 ≤ y3.heap.size := Nat.le_trans hs2 hb3.size
          have lt3 : g < y3.heap.size := Nat.lt_of_lt_of_le lt1 hb3.size
          clear OW P2' HB2 hb3 lt1 hs2 d0 d1
          have QL : Hid ((y3.alloc (.cells #[.int .i64 2, .bool false, .int .i64 x, .string ⟨#[]⟩, .slice none 0 0] 28)).ownsRow (w.heap.size + 1) 28 5 (.slice (some ⟨y3.heap.size, 0, none⟩) 1 1) 1 (numC x)) :=
            World.ownsRow_lit (base := w.heap.size + 1) (e := 28) (size := 5) y3 #[.int .i64 2, .bool false, .int .i64 x, .string ⟨#[]⟩, .slice none 0 0] 1 hs3 (by unfold maxLen; omega) rfl
          have HBL := Hid.intro (HB3.out.alloc hs3 (.cells #[.int .i64 2, .bool false, .int .i64 x, .string ⟨#[]⟩, .slice none 0 0] 28))
          have QA := Hid.intro (Q1.out.alloc (.cells #[.int .i64 2, .bool false, .int .i64 x, .string ⟨#[]⟩, .slice none 0 0] 28))
          have QB := Hid.intro (Q2.out.alloc (.cells #[.int .i64 2, .bool false, .int .i64 x, .string ⟨#[]⟩, .slice none 0 0] 28))
          clear Q1 Q2 HB3
          by_cases hk0 : k = 0
          · subst hk0
            have hu4 : u4 = .slice none 0 0 := O5 rfl
            subst hu4
            go_wp2
            go_roundw
            case rel => 
              refine ⟨1, by omega, by omega, by go_num, Hid.intro ⟨?_, ?_, ?_, fun h => absurd h (by omega), HBL.out⟩⟩
              · rw [hres.out, List.flatMap_append]; exact QA.out
              · rw [hres.out]; exact QL.out
              · intro j h1 h2; simp [Value.ownBlock] at h1 h2; try omega
            case measure => simp [intOf]
          · obtain ⟨gb, cb, rfl, -, -⟩ := QB.out.form (by omega)
            go_wp2_with (at_builtin; refine wpList_append_lies _ rfl _ _ 22 rfl (w.heap.size + 1) 28 HI.out.choose HI.out.choose_spec.2.1.choose 5 64 Tryz.underlying22 HI.out.choose_spec.1 HI.out.choose_spec.2.1.choose_spec.1 HI.out.choose_spec.2.2.1 HI.out.choose_spec.2.2.2 HI.out.choose_spec.2.1.choose_spec.2 (by decide) _ _ _ rfl QL.out ⟨gb, 0, none⟩ k cb ((is.take k).reverse.flatMap numC) rfl QB.out.1 (QB.out.cells rfl) ?c2 ?c3 ?c4 ?c5 ?c6 (y3.heap.size + 1) (by simp) ?_)
            case c2 => intro u hu; rw [List.mem_flatMap] at hu; obtain ⟨z, -, hu⟩ := hu; simp [numC] at hu; rcases hu with rfl | rfl | rfl | rfl | rfl <;> rfl
            case c3 => omega
            case c4 => unfold maxLen; omega
            case c5 => omega
            case c6 => simp; omega
            intro g2 cap2 y4 own2 gr2 at2 lt2
            have W2 := Hid.intro own2
            have WA := Hid.intro (QA.out.kept gr2 (.inr (fun e => Nat.ne_of_lt lt3 (Option.some.inj e))))
            have WB := Hid.intro (HBL.out.grown gr2 (by simp; omega) (fun j e => by simp [Value.ownBlock] at e; omega))
            have hg2 : y3.heap.size ≤ g2 := by
              rcases at2 with e | e
              · exact Nat.le_of_eq (Option.some.inj e)
              · omega
            clear own2 gr2 at2 QA QB QL HBL HI
            go_wp2
            go_roundw
            case rel => 
              refine ⟨k + 1, by omega, by omega, by go_num, Hid.intro ⟨?_, ?_, ?_, fun h => absurd h (by omega), WB.out⟩⟩
              · rw [hres.out, List.flatMap_append]; simpa using WA.out
              · rw [hres.out, List.reverse_append, Nat.add_comm k 1]; exact W2.out
              · intro j h1 h2; simp [Value.ownBlock] at h1 h2; try omega
            case measure => simp [intOf]; omega
        · have hc0 : wr.cell? ⟨w.heap.size, 0, none⟩ = some (.slice a0 is.length ca) := by rw [HI.out.2.2.2.2.cell (p := ⟨w.heap.size, 0, none⟩) (by simp)]; simp [go_sem]
          have h12' : ¬ (k : Int) < 12 := by omega
          have hltI : (k : Int) < (is.length : Int) := by omega
          go_wp2
          go_meet
          exact ⟨k, hk1, hk2, rfl, HI⟩
      · have hc0 : wr.cell? ⟨w.heap.size, 0, none⟩ = some (.slice a0 is.length ca) := by rw [HI.out.2.2.2.2.cell (p := ⟨w.heap.size, 0, none⟩) (by simp)]; simp [go_sem]
        have hltI : ¬ (k : Int) < (is.length : Int) := by omega
        go_wp2
        go_meet
        exact ⟨k, hk1, hk2, rfl, HI⟩
  case rest =>
    obtain ⟨k, hk1, hk2, rfl, HI⟩ := hcut
    obtain ⟨O1, O2, -, -, O4⟩ := HI.out
    clear HI
    have hlen : (is.take k).length = k := by rw [List.length_take]; omega
    have hjj : ∀ x ∈ is.take k, -9223372036854775808 ≤ x ∧ x ≤ 9223372036854775807 := fun x hx => hj x (List.mem_of_mem_take hx)
    have hjr : ∀ x ∈ (is.take k).reverse, -9223372036854775808 ≤ x ∧ x ≤ 9223372036854775807 := fun x hx => hjj x (List.mem_reverse.mp hx)
    have hlr : (is.take k).reverse.length = k := by rw [List.length_reverse]; exact hlen
    have hWc : Hid (Below w.heap.size w wc) := (below_al (Below.refl _ w) _).trans (O4.mono (Nat.le_succ _))
    generalize is.take k = ns at *
    have HA := Hid.intro (fun w' (hb : Below wc.heap.size wc w') => agg_nums ns (by omega) hjj (own_below (by rw [hlen]; exact O1) hb))
    have HZ := Hid.intro (fun w' (hb : Below wc.heap.size wc w') => agg_nums ns.reverse (by omega) hjr (own_below (by rw [hlr]; exact O2) hb))
    rw [sum_rev] at HZ
    generalize sumT (ns.map numT) = z at *
    generalize narK z = rk at *
    generalize narI z = ri at *
    generalize narE z = er at *
    have OA := Hid.intro O1
    clear O1 O2 O4 hjr hlr ea'
    go_wp2_with fail
    refine (HA.out _ (Below.refl _ _)).mono ?_
    rintro e w1 ⟨rfl, hb1⟩
    have D1 := Hid.intro hb1
    clear hb1 HA
    go_wp2_with fail
    refine (HZ.out _ (below_al D1.out _)).mono ?_
    rintro e w2 ⟨rfl, hb2⟩
    have D2 := Hid.intro (hb2.via (below_al D1.out _))
    have g0 := hb2.cell (p := ⟨w1.heap.size, 0, none⟩) (by simp)
    have g1 := hb2.cell (p := ⟨w1.heap.size, 1, none⟩) (by simp)
    have g2 := hb2.cell (p := ⟨w1.heap.size, 2, none⟩) (by simp)
    have g3 := hb2.cell (p := ⟨w1.heap.size, 3, none⟩) (by simp)
    have g4 := hb2.cell (p := ⟨w1.heap.size, 4, none⟩) (by simp)
    simp only [go_sem] at g0 g1 g2 g3 g4
    have hs2 : w1.heap.size < w2.heap.size := cell_lt g0
    clear hb2 HZ D1
    go_wp2_with ((go_at_call 16; refine (same0 _ _ _).mono ?_; rintro e w3 ⟨rfl, hb3⟩; have D3 := Hid.intro (hb3.via (below_al D2.out _)); clear hb3 D2))
    go_loopw [10] (fun i w' => ∃ j : Nat, i = .int .i64 ((j : Int) + 1) ∧ (j = 0 ∨ j + 1 ≤ k) ∧ Hid (Below wc.heap.size wc w')) (fun i _ => k + 1 - (intOf i).toNat)
    case atStart => exact ⟨0, rfl, .inl rfl, D3⟩
    case round =>
      obtain ⟨j, rfl, hj1, HW⟩ := hrel
      by_cases hlt : j + 1 < k
      · obtain ⟨g, cap, rfl, -, -⟩ := OA.out.form (by omega)
        have c1 := nums_cel ns (by rw [hlen]; exact OA.out) j (by omega)
        have c2 := nums_cel ns (by rw [hlen]; exact OA.out) (j + 1) (by omega)
        obtain ⟨bx1, bx2⟩ := hjj ns[j] (List.getElem_mem _)
        obtain ⟨by1, by2⟩ := hjj ns[j + 1] (List.getElem_mem _)
        generalize ns[j] = x at *
        generalize ns[j + 1] = y at *
        obtain ⟨p1, p2, p3, p4, p5⟩ := c1.below HW.out
        obtain ⟨q1, q2, q3, q4, q5⟩ := c2.below HW.out
        clear c1 c2
        have hlb : g < wr.heap.size := cell_lt p1
        have i0 : (0 : Int) ≤ (j : Int) := by omega
        have i00 : (0 : Int) ≤ (j : Int) + 1 := by omega
        have i1 : (j : Int) < (k : Int) := by omega
        have i2 : (j : Int) + 1 < (k : Int) := by omega
        have t1' : ((j : Int) + 1).toNat = j + 1 := by omega
        have j1 : IntKind.i64.wrap (j : Int) = (j : Int) := by simp [IntKind.wrap, IntKind.bits, IntKind.signed]; omega
        have j2 : IntKind.i64.wrap ((j : Int) + 1 - 1) = (j : Int) := by simp [IntKind.wrap, IntKind.bits, IntKind.signed]; omega
        have HS : Hid (∀ w', Below wr.heap.size wr w' → (w'.cell? ⟨g, j * 5, none⟩ = some (.int .i64 2) ∧ w'.cell? ⟨g, j * 5 + 1, none⟩ = some (.bool false) ∧ w'.cell? ⟨g, j * 5 + 2, none⟩ = some (.int .i64 x) ∧ w'.cell? ⟨g, j * 5 + 3, none⟩ = some (.string ⟨#[]⟩) ∧ w'.cell? ⟨g, j * 5 + 4, none⟩ = some (.slice none 0 0) ∧ w'.cell? ⟨g, (j + 1) * 5, none⟩ = some (.int .i64 2) ∧ w'.cell? ⟨g, (j + 1) * 5 + 1, none⟩ = some (.bool false) ∧ w'.cell? ⟨g, (j + 1) * 5 + 2, none⟩ = some (.int .i64 y) ∧ w'.cell? ⟨g, (j + 1) * 5 + 3, none⟩ = some (.string ⟨#[]⟩) ∧ w'.cell? ⟨g, (j + 1) * 5 + 4, none⟩ = some (.slice none 0 0))) := by
          intro w' hb
          have c := fun o => hb.cell (p := ⟨g, o, none⟩) hlb
          rw [c, c, c, c, c, c, c, c, c, c]
          exact ⟨p1, p2, p3, p4, p5, q1, q2, q3, q4, q5⟩
        go_upto_region 14 with fail
        go_cut [11, 12] (fun va vb wx => ∃ ga gb, va = .pointer (some ⟨ga, 0, none⟩) ∧ vb = .pointer (some ⟨gb, 0, none⟩) ∧ Hid (Cel wx ga 0 (numT x) (.slice none 0 0) ∧ Cel wx gb 0 (numT y) (.slice none 0 0) ∧ Below wr.heap.size wr wx))
        case first =>
          go_region_held3 (fun w' => w'.cell? ⟨g, j * 5, none⟩ = some (.int .i64 2) ∧ w'.cell? ⟨g, j * 5 + 1, none⟩ = some (.bool false) ∧ w'.cell? ⟨g, j * 5 + 2, none⟩ = some (.int .i64 x) ∧ w'.cell? ⟨g, j * 5 + 3, none⟩ = some (.string ⟨#[]⟩) ∧ w'.cell? ⟨g, j * 5 + 4, none⟩ = some (.slice none 0 0) ∧ w'.cell? ⟨g, (j + 1) * 5, none⟩ = some (.int .i64 2) ∧ w'.cell? ⟨g, (j + 1) * 5 + 1, none⟩ = some (.bool false) ∧ w'.cell? ⟨g, (j + 1) * 5 + 2, none⟩ = some (.int .i64 y) ∧ w'.cell? ⟨g, (j + 1) * 5 + 3, none⟩ = some (.string ⟨#[]⟩) ∧ w'.cell? ⟨g, (j + 1) * 5 + 4, none⟩ = some (.slice none 0 0)) ((refine HS.out _ ?_; repeat (first | exact Below.refl _ _ | refine Below.drew ?_ | refine below_al ?_ _ | refine below_st ?_ (Nat.le_refl _) _ | refine below_st ?_ (Nat.le_succ _) _))) (fail)
          all_goals go_wp2_with fail
          all_goals go_meet
          all_goals refine ⟨_, _, rfl, rfl, by simp [Cel, go_sem, numT], by simp [Cel, go_sem, numT], ?_⟩
          all_goals repeat (first | exact Below.refl _ _ | refine Below.drew ?_ | refine below_al ?_ _ | refine below_st ?_ (Nat.le_refl _) _ | refine below_st ?_ (Nat.le_succ _) _)
        case rest =>
          obtain ⟨ga, gb, rfl, rfl, HC⟩ := hcut
          have HV := Hid.intro (HC.out.2.2.via HW.out)
          have lga : ga < wc.heap.size := cell_lt HC.out.1.1
          have lgb : gb < wc.heap.size := cell_lt HC.out.2.1.1
          obtain ⟨a1, a2, a3, a4, a5⟩ := HC.out.1
          obtain ⟨b1, b2, b3, b4, b5⟩ := HC.out.2.1
          simp only [numT] at a1 a2 a3 a4 a5 b1 b2 b3 b4 b5
          clear p1 p2 p3 p4 p5 q1 q2 q3 q4 q5 HS
          go_wp2_with fail
          refine (two_16 x y bx1 bx2 by1 by2 wc.heap.size _ (by simp [Cel, go_sem, numT]) (by simp [Cel, go_sem, numT])).mono ?_
          rintro e y1 ⟨rfl, hb1⟩
          have B1 := Hid.intro (hb1.via (below_al (Below.refl _ wc) _))
          have C1 := B1
          have HT1 : Hid (∀ w', Below y1.heap.size y1 w' → Cel w' ga 0 (numT x) (.slice none 0 0) ∧ Cel w' gb 0 (numT y) (.slice none 0 0) ∧ Cel w' wc.heap.size 0 (numT x) (.slice none 0 0) ∧ Cel w' wc.heap.size 5 (numT y) (.slice none 0 0)) := by
            intro w' hb
            have hv' := hb.via hb1
            have hv := hb.via C1.out
            exact ⟨HC.out.1.below hv, HC.out.2.1.below hv, Cel.below (by simp [Cel, go_sem, numT]) hv', Cel.below (by simp [Cel, go_sem, numT]) hv'⟩
          obtain ⟨⟨c1_0_0, c1_0_1, c1_0_2, c1_0_3, c1_0_4⟩, ⟨c1_1_0, c1_1_1, c1_1_2, c1_1_3, c1_1_4⟩, ⟨c1_2_0, c1_2_1, c1_2_2, c1_2_3, c1_2_4⟩, ⟨c1_3_0, c1_3_1, c1_3_2, c1_3_3, c1_3_4⟩⟩ := HT1.out _ (Below.refl _ _)
          simp only [numT, Nat.zero_add] at c1_0_0 c1_0_1 c1_0_2 c1_0_3 c1_0_4 c1_1_0 c1_1_1 c1_1_2 c1_1_3 c1_1_4 c1_2_0 c1_2_1 c1_2_2 c1_2_3 c1_2_4 c1_3_0 c1_3_1 c1_3_2 c1_3_3 c1_3_4
          have l1_0 := cell_lt c1_0_0
          have l1_1 := cell_lt c1_1_0
          have l1_2 := cell_lt c1_2_0
          have l1 : wc.heap.size < y1.heap.size := cell_lt c1_2_0
          clear hb1 B1 a1 a2 a3 a4 a5 b1 b2 b3 b4 b5
          have Q2 := Hid.intro (fun w' h1 h2 => two_16 y x by1 by2 bx1 bx2 (y1.heap.size + 1) w' h1 h2)
          rw [Int.add_comm y x] at Q2
          generalize hsk : narK (x + y) = sk at *
          generalize hsi : narI (x + y) = si at *
          generalize hse : narE (x + y) = se at *
          go_wp2_with fail
          refine (Q2.out _ ?h1 ?h2).mono ?_
          case h1 => simp [Cel, go_sem, numT]
          case h2 => simp [Cel, go_sem, numT]
          rintro e y2 ⟨rfl, hb2⟩
          have C2 := Hid.intro (hb2.via (below_al (below_al (Below.refl _ y1) _) _))
          have HT2 : Hid (∀ w', Below y2.heap.size y2 w' → Cel w' ga 0 (numT x) (.slice none 0 0) ∧ Cel w' gb 0 (numT y) (.slice none 0 0) ∧ Cel w' wc.heap.size 0 (numT x) (.slice none 0 0) ∧ Cel w' wc.heap.size 5 (numT y) (.slice none 0 0) ∧ Cel w' y1.heap.size 0 (resT sk si) (.slice none 0 0)) := by
            intro w' hb
            have hv' := hb.via hb2
            have hv := hb.via C2.out
            exact ⟨(HT1.out _ (Below.refl _ _)).1.below hv, (HT1.out _ (Below.refl _ _)).2.1.below hv, (HT1.out _ (Below.refl _ _)).2.2.1.below hv, (HT1.out _ (Below.refl _ _)).2.2.2.below hv, Cel.below (by simp [Cel, go_sem, resT]) hv'⟩
          obtain ⟨⟨c2_0_0, c2_0_1, c2_0_2, c2_0_3, c2_0_4⟩, ⟨c2_1_0, c2_1_1, c2_1_2, c2_1_3, c2_1_4⟩, ⟨c2_2_0, c2_2_1, c2_2_2, c2_2_3, c2_2_4⟩, ⟨c2_3_0, c2_3_1, c2_3_2, c2_3_3, c2_3_4⟩, ⟨c2_4_0, c2_4_1, c2_4_2, c2_4_3, c2_4_4⟩⟩ := HT2.out _ (Below.refl _ _)
          simp only [numT, resT, Nat.zero_add] at c2_0_0 c2_0_1 c2_0_2 c2_0_3 c2_0_4 c2_1_0 c2_1_1 c2_1_2 c2_1_3 c2_1_4 c2_2_0 c2_2_1 c2_2_2 c2_2_3 c2_2_4 c2_3_0 c2_3_1 c2_3_2 c2_3_3 c2_3_4 c2_4_0 c2_4_1 c2_4_2 c2_4_3 c2_4_4
          have l2_0 := cell_lt c2_0_0
          have l2_1 := cell_lt c2_1_0
          have l2_2 := cell_lt c2_2_0
          have l2_4 := cell_lt c2_4_0
          clear hb2 c1_0_0 c1_0_1 c1_0_2 c1_0_3 c1_0_4 c1_1_0 c1_1_1 c1_1_2 c1_1_3 c1_1_4 c1_2_0 c1_2_1 c1_2_2 c1_2_3 c1_2_4 c1_3_0 c1_3_1 c1_3_2 c1_3_3 c1_3_4 Q2
          have l2 : y1.heap.size < y2.heap.size := cell_lt c2_4_0
          have Q3 := Hid.intro (fun w' h1 h2 => two_18 x y bx1 bx2 by1 by2 wc.heap.size w' h1 h2)
          have Q4 := Hid.intro (fun g w' h1 h2 => two_18 y x by1 by2 bx1 bx2 g w' h1 h2)
          rw [Int.mul_comm y x] at Q4
          generalize narK (x * y) = mk at *
          generalize narI (x * y) = mi at *
          generalize narE (x * y) = me at *
          go_wp2_with fail
          refine (Q3.out _ ?h5 ?h6).mono ?_
          case h5 => exact (HT2.out _ (below_al (Below.refl _ _) _)).2.2.1
          case h6 => exact (HT2.out _ (below_al (Below.refl _ _) _)).2.2.2.1
          rintro e y3 ⟨rfl, hb3⟩
          have C3 := Hid.intro (hb3.via (below_al (Below.refl _ y2) _))
          have HT3 : Hid (∀ w', Below y3.heap.size y3 w' → Cel w' ga 0 (numT x) (.slice none 0 0) ∧ Cel w' gb 0 (numT y) (.slice none 0 0) ∧ Cel w' wc.heap.size 0 (numT x) (.slice none 0 0) ∧ Cel w' wc.heap.size 5 (numT y) (.slice none 0 0) ∧ Cel w' y1.heap.size 0 (resT sk si) (.slice none 0 0) ∧ Cel w' y2.heap.size 0 (resT sk si) (.slice none 0 0)) := by
            intro w' hb
            have hv' := hb.via hb3
            have hv := hb.via C3.out
            exact ⟨(HT2.out _ (Below.refl _ _)).1.below hv, (HT2.out _ (Below.refl _ _)).2.1.below hv, (HT2.out _ (Below.refl _ _)).2.2.1.below hv, (HT2.out _ (Below.refl _ _)).2.2.2.1.below hv, (HT2.out _ (Below.refl _ _)).2.2.2.2.below hv, Cel.below (by simp [Cel, go_sem, resT]) hv'⟩
          obtain ⟨⟨c3_0_0, c3_0_1, c3_0_2, c3_0_3, c3_0_4⟩, ⟨c3_1_0, c3_1_1, c3_1_2, c3_1_3, c3_1_4⟩, ⟨c3_2_0, c3_2_1, c3_2_2, c3_2_3, c3_2_4⟩, ⟨c3_3_0, c3_3_1, c3_3_2, c3_3_3, c3_3_4⟩, ⟨c3_4_0, c3_4_1, c3_4_2, c3_4_3, c3_4_4⟩, ⟨c3_5_0, c3_5_1, c3_5_2, c3_5_3, c3_5_4⟩⟩ := HT3.out _ (Below.refl _ _)
          simp only [numT, resT, Nat.zero_add] at c3_0_0 c3_0_1 c3_0_2 c3_0_3 c3_0_4 c3_1_0 c3_1_1 c3_1_2 c3_1_3 c3_1_4 c3_2_0 c3_2_1 c3_2_2 c3_2_3 c3_2_4 c3_3_0 c3_3_1 c3_3_2 c3_3_3 c3_3_4 c3_4_0 c3_4_1 c3_4_2 c3_4_3 c3_4_4 c3_5_0 c3_5_1 c3_5_2 c3_5_3 c3_5_4
          have l3_0 := cell_lt c3_0_0
          have l3_1 := cell_lt c3_1_0
          have l3_2 := cell_lt c3_2_0
          have l3_4 := cell_lt c3_4_0
          have l3_5 := cell_lt c3_5_0
          clear hb3 c2_0_0 c2_0_1 c2_0_2 c2_0_3 c2_0_4 c2_1_0 c2_1_1 c2_1_2 c2_1_3 c2_1_4 c2_2_0 c2_2_1 c2_2_2 c2_2_3 c2_2_4 c2_3_0 c2_3_1 c2_3_2 c2_3_3 c2_3_4 c2_4_0 c2_4_1 c2_4_2 c2_4_3 c2_4_4 Q3
          have l3 : y2.heap.size < y3.heap.size := cell_lt c3_5_0
          go_wp2_with fail
          refine (Q4.out (y3.heap.size + 1) _ ?h3 ?h4).mono ?_
          case h3 => simp [Cel, go_sem, numT]
          case h4 => simp [Cel, go_sem, numT]
          rintro e y4 ⟨rfl, hb4⟩
          have C4 := Hid.intro (hb4.via (below_al (below_al (Below.refl _ y3) _) _))
          have HT4 : Hid (∀ w', Below y4.heap.size y4 w' → Cel w' ga 0 (numT x) (.slice none 0 0) ∧ Cel w' gb 0 (numT y) (.slice none 0 0) ∧ Cel w' wc.heap.size 0 (numT x) (.slice none 0 0) ∧ Cel w' wc.heap.size 5 (numT y) (.slice none 0 0) ∧ Cel w' y1.heap.size 0 (resT sk si) (.slice none 0 0) ∧ Cel w' y2.heap.size 0 (resT sk si) (.slice none 0 0) ∧ Cel w' y3.heap.size 0 (resT mk mi) (.slice none 0 0)) := by
            intro w' hb
            have hv' := hb.via hb4
            have hv := hb.via C4.out
            exact ⟨(HT3.out _ (Below.refl _ _)).1.below hv, (HT3.out _ (Below.refl _ _)).2.1.below hv, (HT3.out _ (Below.refl _ _)).2.2.1.below hv, (HT3.out _ (Below.refl _ _)).2.2.2.1.below hv, (HT3.out _ (Below.refl _ _)).2.2.2.2.1.below hv, (HT3.out _ (Below.refl _ _)).2.2.2.2.2.below hv, Cel.below (by simp [Cel, go_sem, resT]) hv'⟩
          obtain ⟨⟨c4_0_0, c4_0_1, c4_0_2, c4_0_3, c4_0_4⟩, ⟨c4_1_0, c4_1_1, c4_1_2, c4_1_3, c4_1_4⟩, ⟨c4_2_0, c4_2_1, c4_2_2, c4_2_3, c4_2_4⟩, ⟨c4_3_0, c4_3_1, c4_3_2, c4_3_3, c4_3_4⟩, ⟨c4_4_0, c4_4_1, c4_4_2, c4_4_3, c4_4_4⟩, ⟨c4_5_0, c4_5_1, c4_5_2, c4_5_3, c4_5_4⟩, ⟨c4_6_0, c4_6_1, c4_6_2, c4_6_3, c4_6_4⟩⟩ := HT4.out _ (Below.refl _ _)
          simp only [numT, resT, Nat.zero_add] at c4_0_0 c4_0_1 c4_0_2 c4_0_3 c4_0_4 c4_1_0 c4_1_1 c4_1_2 c4_1_3 c4_1_4 c4_2_0 c4_2_1 c4_2_2 c4_2_3 c4_2_4 c4_3_0 c4_3_1 c4_3_2 c4_3_3 c4_3_4 c4_4_0 c4_4_1 c4_4_2 c4_4_3 c4_4_4 c4_5_0 c4_5_1 c4_5_2 c4_5_3 c4_5_4 c4_6_0 c4_6_1 c4_6_2 c4_6_3 c4_6_4
          have l4_0 := cell_lt c4_0_0
          have l4_1 := cell_lt c4_1_0
          have l4_2 := cell_lt c4_2_0
          have l4_4 := cell_lt c4_4_0
          have l4_5 := cell_lt c4_5_0
          have l4_6 := cell_lt c4_6_0
          clear hb4 c3_0_0 c3_0_1 c3_0_2 c3_0_3 c3_0_4 c3_1_0 c3_1_1 c3_1_2 c3_1_3 c3_1_4 c3_2_0 c3_2_1 c3_2_2 c3_2_3 c3_2_4 c3_3_0 c3_3_1 c3_3_2 c3_3_3 c3_3_4 c3_4_0 c3_4_1 c3_4_2 c3_4_3 c3_4_4 c3_5_0 c3_5_1 c3_5_2 c3_5_3 c3_5_4 Q4
          have l4 : y3.heap.size < y4.heap.size := cell_lt c4_6_0
          go_wp2_with fail
          refine (same0 _ _ _).mono ?_
          rintro e y5 ⟨rfl, hb5⟩
          have C5 := Hid.intro (hb5.via (below_al (Below.refl _ y4) _))
          have HT5 : Hid (∀ w', Below y5.heap.size y5 w' → Cel w' ga 0 (numT x) (.slice none 0 0) ∧ Cel w' gb 0 (numT y) (.slice none 0 0) ∧ Cel w' wc.heap.size 0 (numT x) (.slice none 0 0) ∧ Cel w' wc.heap.size 5 (numT y) (.slice none 0 0) ∧ Cel w' y1.heap.size 0 (resT sk si) (.slice none 0 0) ∧ Cel w' y3.heap.size 0 (resT mk mi) (.slice none 0 0) ∧ Cel w' y4.heap.size 0 (resT mk mi) (.slice none 0 0)) := by
            intro w' hb
            have hv' := hb.via hb5
            have hv := hb.via C5.out
            exact ⟨(HT4.out _ (Below.refl _ _)).1.below hv, (HT4.out _ (Below.refl _ _)).2.1.below hv, (HT4.out _ (Below.refl _ _)).2.2.1.below hv, (HT4.out _ (Below.refl _ _)).2.2.2.1.below hv, (HT4.out _ (Below.refl _ _)).2.2.2.2.1.below hv, (HT4.out _ (Below.refl _ _)).2.2.2.2.2.2.below hv, Cel.below (by simp [Cel, go_sem, resT]) hv'⟩
          obtain ⟨⟨c5_0_0, c5_0_1, c5_0_2, c5_0_3, c5_0_4⟩, ⟨c5_1_0, c5_1_1, c5_1_2, c5_1_3, c5_1_4⟩, ⟨c5_2_0, c5_2_1, c5_2_2, c5_2_3, c5_2_4⟩, ⟨c5_3_0, c5_3_1, c5_3_2, c5_3_3, c5_3_4⟩, ⟨c5_4_0, c5_4_1, c5_4_2, c5_4_3, c5_4_4⟩, ⟨c5_5_0, c5_5_1, c5_5_2, c5_5_3, c5_5_4⟩, ⟨c5_6_0, c5_6_1, c5_6_2, c5_6_3, c5_6_4⟩⟩ := HT5.out _ (Below.refl _ _)
          simp only [numT, resT, Nat.zero_add] at c5_0_0 c5_0_1 c5_0_2 c5_0_3 c5_0_4 c5_1_0 c5_1_1 c5_1_2 c5_1_3 c5_1_4 c5_2_0 c5_2_1 c5_2_2 c5_2_3 c5_2_4 c5_3_0 c5_3_1 c5_3_2 c5_3_3 c5_3_4 c5_4_0 c5_4_1 c5_4_2 c5_4_3 c5_4_4 c5_5_0 c5_5_1 c5_5_2 c5_5_3 c5_5_4 c5_6_0 c5_6_1 c5_6_2 c5_6_3 c5_6_4
          have l5_0 := cell_lt c5_0_0
          have l5_1 := cell_lt c5_1_0
          have l5_2 := cell_lt c5_2_0
          have l5_4 := cell_lt c5_4_0
          have l5_5 := cell_lt c5_5_0
          have l5_6 := cell_lt c5_6_0
          clear hb5 c4_0_0 c4_0_1 c4_0_2 c4_0_3 c4_0_4 c4_1_0 c4_1_1 c4_1_2 c4_1_3 c4_1_4 c4_2_0 c4_2_1 c4_2_2 c4_2_3 c4_2_4 c4_3_0 c4_3_1 c4_3_2 c4_3_3 c4_3_4 c4_4_0 c4_4_1 c4_4_2 c4_4_3 c4_4_4 c4_5_0 c4_5_1 c4_5_2 c4_5_3 c4_5_4 c4_6_0 c4_6_1 c4_6_2 c4_6_3 c4_6_4
          go_wp2_with fail
          refine (same0 _ _ _).mono ?_
          rintro e y6 ⟨rfl, hb6⟩
          have C6 := Hid.intro hb6
          have HT6 : Hid (∀ w', Below y6.heap.size y6 w' → Cel w' ga 0 (numT x) (.slice none 0 0) ∧ Cel w' gb 0 (numT y) (.slice none 0 0) ∧ Cel w' wc.heap.size 0 (numT x) (.slice none 0 0) ∧ Cel w' wc.heap.size 5 (numT y) (.slice none 0 0) ∧ Cel w' y1.heap.size 0 (resT sk si) (.slice none 0 0)) := by
            intro w' hb
            have hv := hb.via C6.out
            exact ⟨(HT5.out _ (Below.refl _ _)).1.below hv, (HT5.out _ (Below.refl _ _)).2.1.below hv, (HT5.out _ (Below.refl _ _)).2.2.1.below hv, (HT5.out _ (Below.refl _ _)).2.2.2.1.below hv, (HT5.out _ (Below.refl _ _)).2.2.2.2.1.below hv⟩
          obtain ⟨⟨c6_0_0, c6_0_1, c6_0_2, c6_0_3, c6_0_4⟩, ⟨c6_1_0, c6_1_1, c6_1_2, c6_1_3, c6_1_4⟩, ⟨c6_2_0, c6_2_1, c6_2_2, c6_2_3, c6_2_4⟩, ⟨c6_3_0, c6_3_1, c6_3_2, c6_3_3, c6_3_4⟩, ⟨c6_4_0, c6_4_1, c6_4_2, c6_4_3, c6_4_4⟩⟩ := HT6.out _ (Below.refl _ _)
          simp only [numT, resT, Nat.zero_add] at c6_0_0 c6_0_1 c6_0_2 c6_0_3 c6_0_4 c6_1_0 c6_1_1 c6_1_2 c6_1_3 c6_1_4 c6_2_0 c6_2_1 c6_2_2 c6_2_3 c6_2_4 c6_3_0 c6_3_1 c6_3_2 c6_3_3 c6_3_4 c6_4_0 c6_4_1 c6_4_2 c6_4_3 c6_4_4
          have l6_0 := cell_lt c6_0_0
          have l6_1 := cell_lt c6_1_0
          have l6_2 := cell_lt c6_2_0
          have l6_4 := cell_lt c6_4_0
          clear hb6 c5_0_0 c5_0_1 c5_0_2 c5_0_3 c5_0_4 c5_1_0 c5_1_1 c5_1_2 c5_1_3 c5_1_4 c5_2_0 c5_2_1 c5_2_2 c5_2_3 c5_2_4 c5_3_0 c5_3_1 c5_3_2 c5_3_3 c5_3_4 c5_4_0 c5_4_1 c5_4_2 c5_4_3 c5_4_4 c5_5_0 c5_5_1 c5_5_2 c5_5_3 c5_5_4 c5_6_0 c5_6_1 c5_6_2 c5_6_3 c5_6_4
          have CW : Hid (Below wr.heap.size wr y6) := C6.out.via (C5.out.via (C4.out.via (C3.out.via (C2.out.via (C1.out.via HC.out.2.2)))))
          by_cases hr : -9223372036854775808 ≤ x + y ∧ x + y ≤ 9223372036854775807
          · obtain rfl : sk = 2 := by rw [← hsk]; unfold narK; rw [if_pos hr]
            obtain rfl : si = x + y := by rw [← hsi]; unfold narI; rw [if_pos hr]
            obtain rfl : se = 0 := by rw [← hse]; unfold narE; rw [if_pos hr]
            have Q7 := Hid.intro (fun g w' h1 h2 => two_17 (x + y) y hr.1 hr.2 by1 by2 g w' h1 h2)
            rw [Int.add_sub_cancel] at Q7
            have hnk : narK x = 2 := by unfold narK; rw [if_pos ⟨bx1, bx2⟩]
            have hni : narI x = x := by unfold narI; rw [if_pos ⟨bx1, bx2⟩]
            have hne : narE x = 0 := by unfold narE; rw [if_pos ⟨bx1, bx2⟩]
            rw [hnk, hni, hne] at Q7
            go_wp2_with fail
            refine (Q7.out y6.heap.size _ ?h7 ?h8).mono ?_
            case h7 => simp [Cel, go_sem, numT]
            case h8 => simp [Cel, go_sem, numT]
            rintro e y7 ⟨rfl, hb7⟩
            have C7 := Hid.intro (hb7.via (below_al (Below.refl _ y6) _))
            obtain ⟨⟨a1, a2, a3, a4, a5⟩, -⟩ := HT6.out _ C7.out
            simp only [numT, Nat.zero_add] at a1 a2 a3 a4 a5
            have la7 := cell_lt a1
            clear hb7
            go_wp2_with fail
            refine (same0 _ _ _).mono ?_
            rintro e y7' ⟨rfl, hb7'⟩
            have BZ := Hid.intro (hb7'.via (below_al C7.out _))
            clear hb7'
            go_wp2_with fail
            refine (two_19 x y bx1 bx2 by1 by2 wc.heap.size _ ?h19a ?h19b).mono ?_
            case h19a => exact (HT6.out _ (BZ.out)).2.2.1
            case h19b => exact (HT6.out _ (BZ.out)).2.2.2.1
            rintro e y8 ⟨rfl, hb8⟩
            have C8 := Hid.intro (hb8.via BZ.out)
            have HT8 : Hid (∀ w', Below y8.heap.size y8 w' → Cel w' ga 0 (numT x) (.slice none 0 0) ∧ Cel w' gb 0 (numT y) (.slice none 0 0) ∧ Cel w' wc.heap.size 0 (numT x) (.slice none 0 0) ∧ Cel w' wc.heap.size 5 (numT y) (.slice none 0 0)) := by
              intro w' hb
              have hz := HT6.out _ (hb.via C8.out)
              exact ⟨hz.1, hz.2.1, hz.2.2.1, hz.2.2.2.1⟩
            clear hb8
            generalize hdk : divK x y = dk at *
            generalize hdi : divI x y = di at *
            generalize hde : divE x y = de at *
            go_wp2_with fail
            refine (two_20 x y bx1 bx2 by1 by2 wc.heap.size _ ?h20a ?h20b).mono ?_
            case h20a => exact (HT8.out _ (below_al (Below.refl _ _) _)).2.2.1
            case h20b => exact (HT8.out _ (below_al (Below.refl _ _) _)).2.2.2
            rintro e y9 ⟨rfl, hb9⟩
            have C9 := Hid.intro (hb9.via (below_al (Below.refl _ y8) _))
            have CZ : Hid (Below wr.heap.size wr y9) := (C9.out.via (C8.out.via CW.out))
            have ⟨⟨a1, a2, a3, a4, a5⟩, ⟨b1, b2, b3, b4, b5⟩, _, _⟩ := HT8.out _ C9.out
            simp only [numT, Nat.zero_add] at a1 a2 a3 a4 a5 b1 b2 b3 b4 b5
            have q2 : y9.cell? ⟨y8.heap.size, 2, none⟩ = some (.int .i64 di) := by rw [hb9.cell (p := ⟨y8.heap.size, 2, none⟩) (by simp)]; simp [go_sem]
            have lq := cell_lt q2
            have la9 := cell_lt a1
            have lb9 := cell_lt b1
            clear hb9
            generalize hmk : modK y = mok at *
            generalize hmi : modI x y = moi at *
            generalize hme : modE y = moe at *
            by_cases hy0 : y = 0
            · obtain rfl : de = 3 := by rw [← hde]; unfold divE; rw [if_pos hy0]
              obtain rfl : moe = 3 := by rw [← hme]; unfold modE; rw [if_pos hy0]
              subst hy0
              go_wp2
              go_roundw
              case rel => exact ⟨j + 1, by go_num, .inr (by omega), below_al CZ.out _ |>.via HW.out⟩
              case measure => simp [intOf]; omega
            · obtain rfl : moe = 0 := by rw [← hme]; unfold modE; rw [if_neg hy0]
              obtain rfl : moi = x.tmod y := by rw [← hmi]; unfold modI; rw [if_neg hy0]
              have hyb : (y == 0) = false := by simp [hy0]
              by_cases hov : x = -9223372036854775808 ∧ y = -1
              · exfalso; obtain ⟨rfl, rfl⟩ := hov; omega
              · obtain rfl : de = 0 := by rw [← hde]; unfold divE; rw [if_neg hy0, if_neg hov]
                obtain rfl : di = x.tdiv y := by rw [← hdi]; unfold divI; rw [if_neg hy0, if_neg hov]
                have hpt := Int.tdiv_mul_add_tmod x y
                have hwb : (wrap64 (wrap64 (x.tdiv y * y) + x.tmod y) != x) = false := by
                  rw [show wrap64 (wrap64 (x.tdiv y * y) + x.tmod y) = x from by
                    generalize x.tdiv y * y = p at *
                    generalize x.tmod y = t at *
                    unfold wrap64; omega]
                  simp
                go_wp2
                go_roundw
                case rel => exact ⟨j + 1, by go_num, .inr (by omega), below_al CZ.out _ |>.via HW.out⟩
                case measure => simp [intOf]; omega
          · obtain rfl : sk = 0 := by rw [← hsk]; unfold narK; rw [if_neg hr]
            obtain rfl : si = 0 := by rw [← hsi]; unfold narI; rw [if_neg hr]
            obtain rfl : se = 2 := by rw [← hse]; unfold narE; rw [if_neg hr]
            have BZ := Hid.intro (Below.refl y6.heap.size y6)
            go_wp2_with fail
            refine (two_19 x y bx1 bx2 by1 by2 wc.heap.size _ ?h19a ?h19b).mono ?_
            case h19a => exact (HT6.out _ (BZ.out)).2.2.1
            case h19b => exact (HT6.out _ (BZ.out)).2.2.2.1
            rintro e y8 ⟨rfl, hb8⟩
            have C8 := Hid.intro (hb8.via BZ.out)
            have HT8 : Hid (∀ w', Below y8.heap.size y8 w' → Cel w' ga 0 (numT x) (.slice none 0 0) ∧ Cel w' gb 0 (numT y) (.slice none 0 0) ∧ Cel w' wc.heap.size 0 (numT x) (.slice none 0 0) ∧ Cel w' wc.heap.size 5 (numT y) (.slice none 0 0)) := by
              intro w' hb
              have hz := HT6.out _ (hb.via C8.out)
              exact ⟨hz.1, hz.2.1, hz.2.2.1, hz.2.2.2.1⟩
            clear hb8
            generalize hdk : divK x y = dk at *
            generalize hdi : divI x y = di at *
            generalize hde : divE x y = de at *
            go_wp2_with fail
            refine (two_20 x y bx1 bx2 by1 by2 wc.heap.size _ ?h20a ?h20b).mono ?_
            case h20a => exact (HT8.out _ (below_al (Below.refl _ _) _)).2.2.1
            case h20b => exact (HT8.out _ (below_al (Below.refl _ _) _)).2.2.2
            rintro e y9 ⟨rfl, hb9⟩
            have C9 := Hid.intro (hb9.via (below_al (Below.refl _ y8) _))
            have CZ : Hid (Below wr.heap.size wr y9) := (C9.out.via (C8.out.via CW.out))
            have ⟨⟨a1, a2, a3, a4, a5⟩, ⟨b1, b2, b3, b4, b5⟩, _, _⟩ := HT8.out _ C9.out
            simp only [numT, Nat.zero_add] at a1 a2 a3 a4 a5 b1 b2 b3 b4 b5
            have q2 : y9.cell? ⟨y8.heap.size, 2, none⟩ = some (.int .i64 di) := by rw [hb9.cell (p := ⟨y8.heap.size, 2, none⟩) (by simp)]; simp [go_sem]
            have lq := cell_lt q2
            have la9 := cell_lt a1
            have lb9 := cell_lt b1
            clear hb9
            generalize hmk : modK y = mok at *
            generalize hmi : modI x y = moi at *
            generalize hme : modE y = moe at *
            by_cases hy0 : y = 0
            · exfalso; subst hy0; exact hr ⟨by omega, by omega⟩
            · obtain rfl : moe = 0 := by rw [← hme]; unfold modE; rw [if_neg hy0]
              obtain rfl : moi = x.tmod y := by rw [← hmi]; unfold modI; rw [if_neg hy0]
              have hyb : (y == 0) = false := by simp [hy0]
              by_cases hov : x = -9223372036854775808 ∧ y = -1
              · obtain rfl : de = 2 := by rw [← hde]; unfold divE; rw [if_neg hy0, if_pos hov]
                obtain ⟨rfl, rfl⟩ := hov
                go_wp2
                go_roundw
                case rel => exact ⟨j + 1, by go_num, .inr (by omega), below_al CZ.out _ |>.via HW.out⟩
                case measure => simp [intOf]; omega
              · obtain rfl : de = 0 := by rw [← hde]; unfold divE; rw [if_neg hy0, if_neg hov]
                obtain rfl : di = x.tdiv y := by rw [← hdi]; unfold divI; rw [if_neg hy0, if_neg hov]
                have hpt := Int.tdiv_mul_add_tmod x y
                have hwb : (wrap64 (wrap64 (x.tdiv y * y) + x.tmod y) != x) = false := by
                  rw [show wrap64 (wrap64 (x.tdiv y * y) + x.tmod y) = x from by
                    generalize x.tdiv y * y = p at *
                    generalize x.tmod y = t at *
                    unfold wrap64; omega]
                  simp
                go_wp2
                go_roundw
                case rel => exact ⟨j + 1, by go_num, .inr (by omega), below_al CZ.out _ |>.via HW.out⟩
                case measure => simp [intOf]; omega
      · have hi2 : ¬ ((j : Int) + 1 < (k : Int)) := by omega
        have hu3 : ∃ a c, u3 = .slice a k c := by
          rcases OA.out.2 with ⟨h, h0⟩ | ⟨g, cap, cur, h, -⟩
          · exact ⟨none, 0, by rw [h, h0]⟩
          · exact ⟨_, _, h⟩
        obtain ⟨a3, c3, rfl⟩ := hu3
        go_wp2_with ((go_at_call 9; refine (wakes_any _).mono ?_; rintro e w9 ⟨rfl, hb9⟩))
        go_ret
        exact ⟨rfl, hb9.via (HW.out.via hWc.out)⟩
end Go.Proofs.YtlgnhndeeglgfaaGreatDoor
