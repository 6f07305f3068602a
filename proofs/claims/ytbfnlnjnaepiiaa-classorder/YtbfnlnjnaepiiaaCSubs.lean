/- Subs, Fields: what they tell. -/
import Derived.Test.YtbfnlnjnaepiiaaCMask
import Derived.Test.YtbfnlnjnaepiiaaCIs
namespace Go.Proofs.Ytbfnlnjnaepiiaa
open Go.RowKit Go.Maps

def subsT (T : List Cl) (x : ByteArray) : List ByteArray := (T.map (·.n)).filter (fun z => isT T z x)

theorem filt_take {p : ByteArray → Bool} {ns : List ByteArray} {k : Nat} (h : k < ns.length) : (ns.take (k + 1)).filter p = (ns.take k).filter p ++ (if p ns[k] then [ns[k]] else []) := by
  rw [List.take_succ_eq_append_getElem h, List.filter_append]
  cases hp : p ns[k] <;> simp [hp]

/-- append of one text to a row that is owned: what it wants. -/
theorem news_one (w : World) (s : ByteArray) : (∀ j u, [Value.string s][j]? = some u → (w.alloc (.cells #[.string s] 9)).cell? ((⟨w.heap.size, 0, none⟩ : Addr).add j) = some u) ∧ (∀ u ∈ [Value.string s], u.oneCell' = true) :=
  ⟨World.news_of_block (cs := #[.string s]) (t := 9) (fr := (0, 0)) (heap_alloc_new w _), by intro u hu; simp at hu; subst hu; rfl⟩

set_option maxRecDepth 100000 in
set_option maxHeartbeats 4000000 in
theorem subs_any {base : Nat} {w : World} {g : Nat} {T : List Cl} (hT : TabB base w g T) (hW : WfT T) (x : ByteArray) (hl : T.length ≤ 1000000) :
    Calls Try.prog 25 #[.pointer (some ⟨g, 0, none⟩), .string x] w fun e w' => Below w.heap.size w w' ∧ ((hasT T x = false ∧ e = .returned (.tuple #[.slice none 0 0, .int .i64 10])) ∨
      (hasT T x = true ∧ ∃ v, e = .returned (.tuple #[v, .int .i64 0]) ∧ Hid (w'.ownsRow w.heap.size 9 1 v (subsT T x).length ((subsT T x).map Value.string)))) := by
  have HT := Hid.intro hT.tab
  have HC := Hid.intro (has_any hT.tab x)
  cases hh : hasT T x with
  | false =>
    rw [hh] at HC
    go_enter Try.func25, Try.ntmps25
    go_wp2_with fail
    refine HC.out.mono ?_
    rintro e w1 ⟨rfl, hb1⟩
    have HB1 := Hid.intro hb1
    clear hb1
    go_wp2
    refine bodyPost_ret (v := .tuple #[.slice none 0 0, .int .i64 10]) (by simp [results, Try.results25, go_sem]) rfl ⟨HB1.out, .inl ⟨trivial, rfl⟩⟩
  | true =>
    rw [hh] at HC
    obtain ⟨r, es, clock, osv, t1, t2, t3, t4, t5⟩ := hT.tab
    have HO := Hid.intro t5
    obtain ⟨a0, cap, rfl, hc1, hc2⟩ := t5.form
    rw [List.length_map] at hc1 HO
    have l1 := cell_lt t1
    go_enter Try.func25, Try.ntmps25
    go_wp2_with fail
    refine HC.out.mono ?_
    rintro e w1 ⟨rfl, hb1⟩
    have HB1 := Hid.intro hb1
    have t1' := (hb1.cell (p := ⟨g, 0, none⟩) l1).trans t1
    clear hb1 t1 t2 t3 t4 t5
    have hsub : Hid (subsT T x = ((T.map (·.n)).take T.length).filter (fun z => isT T z x)) := by rw [Hid, subsT, List.take_of_length_le (by simp)]
    have hnl : (T.map (·.n)).length = T.length := List.length_map ..
    obtain ⟨i0, z0, hi, hz, hz1, hz2, hz3⟩ := zeroS
    generalize hns : T.map (·.n) = ns at *
    go_wp2_with fail
    go_loopw [6, 18] (fun v i wr => Hid (Below w.heap.size w wr) ∧ ∃ k : Nat, k ≤ T.length ∧ i = .int .i64 (k : Int) ∧ Hid (wr.ownsRow w.heap.size 9 1 v ((ns.take k).filter (fun z => isT T z x)).length (((ns.take k).filter (fun z => isT T z x)).map Value.string))) (fun _ i _ => T.length - (intOf i).toNat)
    case atStart => exact ⟨HB1, 0, by omega, rfl, World.ownsRow_nil _ _ _ _⟩
    case round =>
      obtain ⟨HBw, k, hk, rfl, O⟩ := hrel
      by_cases hlt : (k : Int) < (T.length : Int)
      · have hlt' : k < ns.length := by omega
        obtain ⟨b, o, rfl, d0⟩ : ∃ b o, a0 = some ⟨b, o, none⟩ ∧ wr.cell? ⟨b, o + k, none⟩ = some (.string ns[k]) := by
          obtain ⟨x0, xc, hx, -, -, hx4⟩ := HO.out
          obtain rfl : a0 = x0 := by simp at hx; exact hx.1
          obtain ⟨b, o, e, -, h5⟩ := hx4 (by omega)
          exact ⟨b, o, e, (HBw.out.cell (p := ⟨b, o + k, none⟩) (cell_lt (h5 k hlt'))).trans (h5 k hlt')⟩
        have HI := Hid.intro (is_any (HT.out.below HBw.out) hW ns[k] x)
        have hf := filt_take (p := fun z => isT T z x) hlt'
        cases his : isT T ns[k] x with
        | false =>
          rw [his] at HI
          simp only [his, Bool.false_eq_true, if_false, List.append_nil] at hf
          go_wp2_with fail
          refine HI.out.mono ?_
          rintro e w2 ⟨rfl, hb2⟩
          have HB2 := Hid.intro (hb2.via HBw.out)
          have O2 := Hid.intro (own_below O.out hb2)
          clear hb2
          rw [← hf] at O2
          go_wp2
          go_roundw
          case rel => exact ⟨HB2, k + 1, by omega, by go_num, O2⟩
          case measure => simp [intOf]; omega
        | true =>
          rw [his] at HI
          simp only [his, if_true] at hf
          have hfl : ((ns.take k).filter (fun z => isT T z x)).length ≤ T.length := by
            refine Nat.le_trans (List.length_filter_le _ _) ?_
            rw [List.length_take]; omega
          go_wp2_with fail
          refine HI.out.mono ?_
          rintro e w2 ⟨rfl, hb2⟩
          have HB2 := Hid.intro (hb2.via HBw.out)
          have O2 := Hid.intro (own_below O.out hb2)
          clear hb2 O
          obtain ⟨hn1, hn2⟩ := news_one w2 ns[k]
          have hbw : w.heap.size ≤ (w2.alloc (.cells #[.string ns[k]] 9)).heap.size := by have := HB2.out.size; simp; omega
          have h63 : ((ns.take k).filter (fun z => isT T z x)).length + 1 ≤ maxLen := by unfold maxLen; omega
          go_wp2_with (at_builtin; refine wpList_append_lies _ rfl _ _ _ rfl w.heap.size 9 i0 z0 1 16 Try.underlying23 hi hz hz2 hz3 hz1 (by omega) _ _ _ rfl (O2.out.alloc _) ⟨w2.heap.size, 0, none⟩ 1 1 [.string ns[k]] rfl rfl hn1 hn2 (by omega) h63 (by omega) hbw (w2.heap.size + 1) (by simp) ?_)
          intro g4 cap4 w4 O4 gr4 at4 lt4
          have HB4 := Hid.intro (own_step (below_al HB2.out _) gr4 (O2.out.alloc (.cells #[.string ns[k]] 9)) (Nat.le_refl _))
          have O4' : Hid (w4.ownsRow w.heap.size 9 1 (.slice (some ⟨g4, 0, none⟩) (((ns.take k).filter (fun z => isT T z x)).length + 1) cap4) ((ns.take (k + 1)).filter (fun z => isT T z x)).length (((ns.take (k + 1)).filter (fun z => isT T z x)).map Value.string)) := by
            rw [hf, List.length_append, List.map_append]
            exact O4
          clear gr4 O4 at4
          go_wp2
          go_roundw
          case rel => exact ⟨HB4, k + 1, by omega, by go_num, O4'⟩
          case measure => simp [intOf]; omega
      · have hk2 : k = T.length := by omega
        subst hk2
        rw [← hsub.out] at O
        go_wp2
        refine bodyPost_ret (v := .tuple #[u6, .int .i64 0]) (by simp [results, Try.results25, go_sem]) rfl ⟨HBw.out, u6, rfl, O⟩
end Go.Proofs.Ytbfnlnjnaepiiaa
