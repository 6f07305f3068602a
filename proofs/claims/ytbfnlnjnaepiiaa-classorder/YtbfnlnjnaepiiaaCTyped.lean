/- typed: whether all fields have types that may be. -/
import Derived.Test.YtbfnlnjnaepiiaaCAdd
namespace Go.Proofs.Ytbfnlnjnaepiiaa
open Go.RowKit Go.Maps Go.ChangeMaps

def typB (T : List Cl) (f : Fl) : Bool := !decide (f.t < 0) && !decide (5 < f.t) && (if f.t = 5 then hasT T f.c else eqS f.c ⟨#[]⟩)
def typedB (T : List Cl) : Bool := T.all (fun c => c.f.all (typB T))

theorem Fv.uniq {P Q : Nat → Prop} {w : World} {fs fs' : List Fl} {sv : Value} (h : Fv P w fs sv) (h' : Fv Q w fs' sv) : fs = fs' := by
  obtain ⟨a0, cap, h1, h2, h3, h4⟩ := h
  obtain ⟨a0', cap', h1', h2', h3', h4'⟩ := h'
  rw [h1] at h1'
  have hlen : fs.length = fs'.length := by simp at h1'; exact h1'.2.1
  have ha : a0 = a0' := by simp at h1'; exact h1'.1
  subst ha
  apply List.ext_getElem hlen
  intro i hi hi'
  obtain ⟨b, o, e, -, h5⟩ := h4 (by omega)
  obtain ⟨b', o', e', -, h5'⟩ := h4' (by omega)
  rw [e] at e'
  cases e'
  obtain ⟨c0, c1, c2⟩ := h5 i hi
  obtain ⟨d0, d1, d2⟩ := h5' i hi'
  rw [c0] at d0; rw [c1] at d1; rw [c2] at d2
  generalize fs[i] = x at *
  generalize fs'[i] = y at *
  cases x; cases y
  simp at d0 d1 d2
  obtain ⟨rfl, rfl, rfl⟩ := And.intro d0 (And.intro d1 d2)
  rfl

theorem Ens.mem {R : Cl → MapEntry → Prop} {e : MapEntry} : ∀ {T : List Cl} {es : List MapEntry}, Ens R T es → e ∈ es → ∃ c ∈ T, R c e
  | [], [], _, h => by simp at h
  | c :: T, e' :: es, hh, h => by
    rcases List.mem_cons.1 h with rfl | h
    · exact ⟨c, by simp, hh.1⟩
    · obtain ⟨d, h1, h2⟩ := Ens.mem hh.2 h
      exact ⟨d, List.mem_cons_of_mem _ h1, h2⟩
  | [], _ :: _, hh, _ => hh.elim
  | _ :: _, [], hh, _ => hh.elim
theorem Ens.mem' {R : Cl → MapEntry → Prop} {c : Cl} : ∀ {T : List Cl} {es : List MapEntry}, Ens R T es → c ∈ T → ∃ e ∈ es, R c e
  | [], [], _, h => by simp at h
  | c' :: T, e :: es, hh, h => by
    rcases List.mem_cons.1 h with rfl | h
    · exact ⟨e, by simp, hh.1⟩
    · obtain ⟨d, h1, h2⟩ := Ens.mem' hh.2 h
      exact ⟨d, List.mem_cons_of_mem _ h1, h2⟩
  | [], _ :: _, hh, _ => hh.elim
  | _ :: _, [], hh, _ => hh.elim

/-- A step of the loop over a map. -/
theorem wpList_next_tab (w : World) {ops : Array Oper} {rest : List Oper} {o : Oper} {a : Act} {Q : Exit → Act → World → Prop} (hg : o.guard = none) (it : Operand) (hop : o.op = Op.next it false)
    (R r n : Nat) (seen : Array Nat) (es : Array MapEntry) (hit : a.eval it = .pointer (some ⟨R, 0, none⟩)) (hR : w.heap[R]? = some (.mapIter (some r) n seen n)) (hb : w.heap[r]? = some (.map es n)) (hn : es.toList.map (·.born) = List.range n)
    (hDone : (leftOf es seen).size = 0 → wpList Try.prog ops Q rest (a.put o.dst (.tuple #[.bool false])) w)
    (hMore : ∀ (e : MapEntry) (w' : World), e ∈ (leftOf es seen).toList → Below R w w' → w'.heap.size = w.heap.size → w'.heap[R]? = some (.mapIter (some r) n (seen.push e.born) n) → w'.heap[r]? = some (.map es n) → (Instr.entry (.pointer (some ⟨R, 0, none⟩))).run Try.prog w' = .ok (.tuple #[e.key, e.val]) w' →
      wpList Try.prog ops Q rest (a.put o.dst (.tuple #[.bool true, e.key, e.val])) w') :
    wpList Try.prog ops Q (o :: rest) a w := by
  refine wpList_plain hg fun K' hK' => ?_
  unfold Oper.wp
  have hrR : r ≠ R := by rintro rfl; rw [hb] at hR; cases hR
  have hold : ∀ x ∈ es.toList, x.born < n := fun x hx => by
    have : x.born ∈ es.toList.map (·.born) := List.mem_map.2 ⟨x, hx, rfl⟩
    rw [hn] at this
    exact List.mem_range.1 this
  rcases run_next_at (P := Try.prog) w o.type R r n n seen es n hR hb hold (Nat.le_refl _) with ⟨h0, hrun⟩ | ⟨e, he, w1, hal, hrun⟩
  · simp [execOp, hop, hit, hrun, Result.andThen]
    exact hK' _ _ (hDone h0)
  · simp [execOp, hop, hit, hrun, Result.andThen]
    have hR1 : w1.heap[R]? = some (.mapIter (some r) n seen n) := by rcases hal with rfl | rfl <;> exact hR
    have hb1 : w1.heap[r]? = some (.map es n) := by rcases hal with rfl | rfl <;> exact hb
    have hset := MapKept.heap_set (w := w1) (o' := .mapIter (some r) n (seen.push e.born) n) hR1
    have hB : Below R w w1 := by
      rcases hal with rfl | rfl
      · exact Below.refl _ _
      · exact (Below.refl _ _).drew
    refine hK' _ _ (hMore e _ he (below_block hB (Nat.le_refl _) _) ?_ hset.1 ((hset.2 r hrR).trans hb1) (run_entry_at _ R r n seen es n e hset.1 ((hset.2 r hrR).trans hb1) (mem_left he).1 (by rw [hn]; exact List.nodup_range)))
    rcases hal with rfl | rfl <;> simp [setBlock]

set_option maxRecDepth 100000 in
set_option maxHeartbeats 4000000 in
theorem typed_any {base : Nat} {w : World} {g : Nat} {T : List Cl} (hT : TabB base w g T) :
    Calls Try.prog 31 #[.pointer (some ⟨g, 0, none⟩)] w fun e w' => e = .returned (.bool (typedB T)) ∧ Below w.heap.size w w' := by
  have HH := Hid.intro (fun w' (hb : Below w.heap.size w w') x => has_any (hT.tab.below hb) x)
  obtain ⟨r, es, osv, g1, g2, g3, g4, g5, g6, g7, g8⟩ := hT
  have lg := lt_of_heap g3
  have lr := lt_of_heap g4
  have q1 : w.cell? ⟨g, 1, none⟩ = some (.map (some r)) := by simp [World.cell?, g3]
  have hr := run_range_map (P := Try.prog) w 70 9 88 r es T.length und_map g4
  go_enter Try.func31, Try.ntmps31
  go_wp2_with fail
  have HB0 := Hid.intro (below_al (Below.refl w.heap.size w) (.mapIter (some r) T.length #[] T.length))
  have hI0 : (w.alloc (.mapIter (some r) T.length #[] T.length)).heap[w.heap.size]? = some (.mapIter (some r) T.length #[] T.length) := heap_alloc_new _ _
  go_loopw [2] (fun _ wr => Hid (Below w.heap.size w wr) ∧ ∃ seen, Hid (wr.heap[w.heap.size]? = some (.mapIter (some r) T.length seen T.length)) ∧ Hid (∀ c e, c ∈ T → e ∈ es.toList → EnAt (Own base osv g r) w c e → seen.contains e.born = true → c.f.all (typB T) = true))
    (fun _ wr => match wr.heap[w.heap.size]? with | some (.mapIter _ _ seen _) => (leftOf es seen).size | _ => 0)
  case atStart => exact ⟨HB0, #[], hI0, fun c e _ _ _ h => by simp at h⟩
  case round =>
    obtain ⟨HBR, seen, HI, HS⟩ := hrel
    go_wp2_with (first | (at_next; refine wpList_next_tab _ rfl _ rfl w.heap.size r T.length seen es rfl HI.out ((HBR.out.block r lr).trans g4) g5 ?_ ?_) | go_in)
    · intro h0
      have h0' : Hid ((leftOf es seen).size = 0) := Hid.intro (by rw [h0]; rfl)
      clear h0
      go_wp2
      go_ret
      refine ⟨?_, HBR.out⟩
      have : typedB T = true := by
        unfold typedB
        rw [List.all_eq_true]
        intro c hc
        obtain ⟨e, he, hr⟩ := g6.mem' hc
        exact HS.out c e hc he hr (all_seen es seen h0'.out e he)
      rw [this]
      rfl
    · intro e w1 he hb1 hs1 hi1 hm1 hen
      have he' := Array.mem_toList_iff.2 he
      obtain ⟨hem, hes⟩ := mem_left he'
      obtain ⟨c, hc, hR⟩ := g6.mem hem
      have HR := Hid.intro hR
      obtain ⟨hkey, sv, hval, hfv⟩ := hR
      rw [hkey, hval] at hen ⊢
      have HB1 := Hid.intro (HBR.out.trans hb1)
      have HF := Hid.intro hfv
      have HI1 := Hid.intro hi1
      obtain ⟨a0, cap, rfl, hc1, hc2⟩ := hfv.form
      clear hm1 hi1 hb1 hfv
      have e1 : w.heap.size < w1.heap.size := lt_of_heap HI1.out
      go_wp2_with fail
      have HB1a : Hid (Below w1.heap.size w1 (w1.alloc (.cells #[.string c.s, .slice a0 c.f.length cap] 88))) := below_al (Below.refl _ _) _
      go_loopw [19] (fun i wr => Hid (Below w1.heap.size w1 wr) ∧ ∃ k : Nat, k ≤ c.f.length ∧ i = .int .i64 (k : Int) ∧ Hid ((c.f.take k).all (typB T) = true)) (fun i _ => c.f.length - (intOf i).toNat)
      case atStart => exact ⟨HB1a, 0, by omega, rfl, by simp [Hid]⟩
      case round =>
        obtain ⟨HB2, k, hk, rfl, HA⟩ := hrel
        have HBw : Hid (Below w.heap.size w wr) := HB1.out.trans (HB2.out.mono (by omega))
        by_cases hlt : (k : Int) < (c.f.length : Int)
        · have hlt' : k < c.f.length := by omega
          obtain ⟨b, o, rfl, d0, d1, d2⟩ : ∃ b o, a0 = some ⟨b, o, none⟩ ∧ wr.cell? ⟨b, o + k * 3, none⟩ = some (.string c.f[k].n) ∧ wr.cell? ⟨b, o + k * 3 + 1, none⟩ = some (.int .i64 c.f[k].t) ∧ wr.cell? ⟨b, o + k * 3 + 2, none⟩ = some (.string c.f[k].c) := by
            obtain ⟨x0, xc, hx, -, -, hx4⟩ := HF.out
            cases hx
            obtain ⟨b, o, e, -, h5⟩ := hx4 (by omega)
            obtain ⟨c0, c1, c2⟩ := h5 k hlt'
            have l0 := cell_lt c0
            exact ⟨b, o, e, (HBw.out.cell (p := ⟨b, o + k * 3, none⟩) l0).trans c0, (HBw.out.cell (p := ⟨b, o + k * 3 + 1, none⟩) l0).trans c1, (HBw.out.cell (p := ⟨b, o + k * 3 + 2, none⟩) l0).trans c2⟩
          have hbad : typB T c.f[k] = false → Hid (typedB T = false) := by
            intro h
            refine Hid.intro ?_
            unfold typedB
            rw [List.all_eq_false]
            refine ⟨c, hc, ?_⟩
            rw [Bool.not_eq_true, List.all_eq_false]
            exact ⟨c.f[k], List.getElem_mem hlt', by rw [h]; simp⟩
          have hgood : typB T c.f[k] = true → Hid ((c.f.take (k + 1)).all (typB T) = true) := by
            intro h
            refine Hid.intro ?_
            rw [List.take_succ_eq_append_getElem hlt', List.all_append, HA.out]
            simp [h]
          unfold typB at hbad hgood
          by_cases c1 : c.f[k].t < 0
          · have hB := hbad (by simp [c1])
            go_wp2
            go_ret
            rw [hB.out]
            exact ⟨rfl, below_al HBw.out _⟩
          · by_cases c2 : 5 < c.f[k].t
            · have hB := hbad (by simp [c2])
              go_wp2
              go_ret
              rw [hB.out]
              exact ⟨rfl, below_al HBw.out _⟩
            · by_cases c3 : c.f[k].t = 5
              · cases hh : hasT T c.f[k].c with
                | true =>
                  have hG := hgood (by simp [c3, hh])
                  clear hbad hgood
                  go_wp2_with (go_at_call 24; refine (HH.out _ (below_al HBw.out _) _).mono ?_; rintro e3 w3 ⟨rfl, hb3⟩; rw [hh]; have HB3 := Hid.intro (hb3.via (below_al (Below.refl _ _) _)); have z2 : w3.cell? ⟨wr.heap.size, 2, none⟩ = some (.string c.f[k].c) := (hb3.cell (p := ⟨wr.heap.size, 2, none⟩) (by simp)).trans (by simp); have z1 : w3.cell? ⟨wr.heap.size, 1, none⟩ = some (.int .i64 5) := (hb3.cell (p := ⟨wr.heap.size, 1, none⟩) (by simp)).trans (by simp); clear hb3)
                  go_roundw
                  case rel => exact ⟨HB3.out.via HB2.out, k + 1, by omega, by go_num, hG⟩
                  case measure => simp [intOf]; omega
                | false =>
                  have hB := hbad (by simp [c3, hh])
                  clear hbad hgood
                  go_wp2_with (go_at_call 24; refine (HH.out _ (below_al HBw.out _) _).mono ?_; rintro e3 w3 ⟨rfl, hb3⟩; rw [hh]; have HB3 := Hid.intro (hb3.via (below_al (Below.refl _ _) _)); have z2 : w3.cell? ⟨wr.heap.size, 2, none⟩ = some (.string c.f[k].c) := (hb3.cell (p := ⟨wr.heap.size, 2, none⟩) (by simp)).trans (by simp); have z1 : w3.cell? ⟨wr.heap.size, 1, none⟩ = some (.int .i64 5) := (hb3.cell (p := ⟨wr.heap.size, 1, none⟩) (by simp)).trans (by simp); clear hb3)
                  go_ret
                  rw [hB.out]
                  exact ⟨rfl, HB3.out.via HBw.out⟩
              · cases h0 : (c.f[k].c.toList == []) with
                | true =>
                  have hG := hgood (by rw [eqS_empty]; simp [c1, c2, c3, h0])
                  clear hbad hgood
                  go_wp2
                  go_roundw
                  case rel => exact ⟨below_al HB2.out _, k + 1, by omega, by go_num, hG⟩
                  case measure => simp [intOf]; omega
                | false =>
                  have hB := hbad (by rw [eqS_empty]; simp [c1, c2, c3, h0])
                  clear hbad hgood
                  go_wp2
                  go_ret
                  rw [hB.out]
                  exact ⟨rfl, below_al HBw.out _⟩
        · have hk2 : k = c.f.length := by omega
          subst hk2
          have hall := HA.out
          rw [List.take_length] at hall
          go_wp2
          go_roundw
          case rel =>
            refine ⟨HBw, seen.push e.born, (HB2.out.block _ e1).trans HI1.out, Hid.intro (fun c' e' hc' he' hr' hs' => ?_)⟩
            rw [contains_push] at hs'
            rcases Bool.or_eq_true_iff.1 hs' with h | h
            · exact HS.out c' e' hc' he' hr' h
            · have hee : e' = e := by
                have hnd : (es.toList.map (·.born)).Nodup := by rw [g5]; exact List.nodup_range
                exact born_inj hnd he' hem (by simpa using h)
              subst hee
              obtain ⟨-, sv', hv', hf'⟩ := hr'
              rw [hval] at hv'
              have hv2 := (by simpa using hv' : c.s = c'.s ∧ _ = sv').2
              rw [← hv2] at hf'
              rw [hf'.uniq HF.out]
              exact hall
          case measure =>
            rw [(HB2.out.block _ e1).trans HI1.out, HI.out]
            exact left_shrinks es seen e he'
end Go.Proofs.Ytbfnlnjnaepiiaa
