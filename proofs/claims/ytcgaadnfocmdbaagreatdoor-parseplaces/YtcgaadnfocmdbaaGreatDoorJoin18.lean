import Derived.Test.YtcgaadnfocmdbaaGreatDoorJoin01
import Derived.Deep.Slices
import Derived.Deep.Strs
import Derived.SizedLaws
import Derived.Test.YtcgaadnfocmdbaaGreatDoorJoin17

section
/- What is read as data is a list of texts that lies in memory. -/
namespace Go.Proofs.YtcgaadnfocmdbaaGreatDoor
open Go.RowKit Go.Deep

/-- A slice of texts. -/
def Tv (w : World) (xs : List ByteArray) (sv : Value) : Prop :=
  ∃ (a0 : Option Addr) (cap : Nat), sv = .slice a0 xs.length cap ∧ xs.length ≤ cap ∧ cap ≤ maxLen ∧
    (0 < xs.length → ∃ b o, a0 = some ⟨b, o, none⟩ ∧ ∀ j (h : j < xs.length), w.cell? ⟨b, o + j, none⟩ = some (.string xs[j]))

theorem cellsT : Tryz.prog.cellsOf 9 = 1 := by kernel_rfl

theorem spot_none {W : World} {a : Addr} {v : Value} (this : W.cell? a = some v) : a.spot = none := by
  unfold World.cell? at this
  split at this
  · split at this
    · cases this
    · cases hs : a.spot with
      | none => rfl
      | some q => rename_i hn; simp [hs] at hn
  · cases this
theorem add_at {a : Addr} (h : a.spot = none) (j : Nat) : a.add j = ⟨a.block, a.off + j, none⟩ := by
  cases a
  simp at h
  subst h
  simp [Addr.add]

section
variable {H : Type} {enc : TypeId × Value → H} {W : World} {spare : Nat → Bool}

theorem mem_all {P : Program} {e : TypeId} {m : Nat} : ∀ {ds : List (DataW H)} {d : DataW H}, d ∈ ds → m ∈ d.weights P e → m ∈ DataW.weightsAll P e ds
  | [], _, h, _ => by simp at h
  | d0 :: ds, d, h, hm => by
    rw [DataW.weightsAll, List.mem_append]
    rcases List.mem_cons.1 h with rfl | h
    · exact .inl hm
    · exact .inr (mem_all h hm)

theorem read_str (f : Nat) (cs : List Value) (x : DataW H × List MemPlace) (h : DataW.trod enc Tryz.prog W 0 spare true f 9 cs = some x) :
    ∃ s : ByteArray, cs = [.string s] ∧ ((∀ n ∈ x.1.weights Tryz.prog 9, n ≤ reachBytes) → s.size ≤ reachBytes) := by
  obtain ⟨s, e0, e1, e2⟩ := DataW.trod_string Tryz.underlying9 h
  subst e0 e1
  refine ⟨s, rfl, fun hw => ?_⟩
  have := hw s.data.toList.length (by simp [DataW.weights])
  rw [← Lib.size_eq] at this
  exact this

theorem read_strs (f : Nat) (cs : List Value) (x : DataW H × List MemPlace) (h : DataW.trod enc Tryz.prog W 0 spare true f 22 cs = some x) :
    ∃ (l : List ByteArray) (sv : Value), cs = [sv] ∧ Tv W l sv ∧ ((∀ n ∈ x.1.weights Tryz.prog 22, n ≤ reachBytes) → ∀ s ∈ l, s.size ≤ reachBytes) := by
  rcases DataW.trod_slice Tryz.underlying22 h with ⟨rfl, _⟩ | ⟨a, len, cap, elems, rest, n, rfl, rfl, rfl, hb, hl, hm, hel, he, _, _⟩
  · exact ⟨[], _, rfl, ⟨none, 0, rfl, Nat.le_refl _, Nat.zero_le _, fun h => absurd h (Nat.lt_irrefl 0)⟩, fun _ => by simp⟩
  · have key : ∀ i, i < len → ∃ p : ByteArray, W.cell? (a.add i) = some (.string p) ∧ ((∀ n ∈ (DataW.slice (elems.map (·.1)) (rest.map (·.1))).weights Tryz.prog 22, n ≤ reachBytes) → p.size ≤ reachBytes) := by
      intro i hi
      have e := he i hi
      rw [List.getElem?_eq_getElem (by omega)] at e
      obtain ⟨cs', h1, h2⟩ := Option.bind_eq_some_iff.1 e
      obtain ⟨s, rfl, hsz⟩ := read_str n _ _ h2
      obtain ⟨_, _, hc⟩ := World.cells?_some h1
      rw [cellsT] at hc
      refine ⟨s, ?_, fun hw => hsz (fun m hm => hw m ?_)⟩
      · have := hc 0 (by omega)
        rw [add_add] at this
        simpa using this
      · rw [DataW.weights, Tryz.underlying22]
        refine List.mem_cons_of_mem _ (List.mem_append.2 (.inl (mem_all (List.mem_map.2 ⟨elems[i], List.getElem_mem _, rfl⟩) hm)))
    obtain ⟨T, hT⟩ := @choose_lt ByteArray ⟨⟨#[]⟩⟩ len _ key
    refine ⟨(List.range len).map T, _, rfl, ⟨some a, cap, by simp, by simpa using hl, hm, fun h0 => ?_⟩, fun hw c hc => ?_⟩
    · simp only [List.length_map, List.length_range] at h0
      have hspot : a.spot = none := by
        have := (hT 0 h0).1
        simp [Addr.add] at this
        exact spot_none this
      refine ⟨a.block, a.off, by cases a; simp at hspot; subst hspot; rfl, fun j hj => ?_⟩
      simp only [List.length_map, List.length_range] at hj
      simp only [List.getElem_map, List.getElem_range]
      have hc := (hT j hj).1
      rw [add_at hspot] at hc
      exact hc
    · obtain ⟨i, hi, rfl⟩ := List.mem_map.1 hc
      exact (hT i (List.mem_range.1 hi)).2 hw
end

theorem Tv.form {w : World} {xs : List ByteArray} {sv : Value} (h : Tv w xs sv) : ∃ a0 cap, sv = .slice a0 xs.length cap ∧ xs.length ≤ cap ∧ cap ≤ maxLen := by
  obtain ⟨a0, cap, h1, h2, h3, -⟩ := h
  exact ⟨a0, cap, h1, h2, h3⟩
theorem Tv.cell {w : World} {xs : List ByteArray} {a0 : Option Addr} {n cap : Nat} (h : Tv w xs (.slice a0 n cap)) {j : Nat} (hj : j < xs.length) : ∃ b o, a0 = some ⟨b, o, none⟩ ∧ w.cell? ⟨b, o + j, none⟩ = some (.string xs[j]) := by
  obtain ⟨a1, cap1, h1, h2, h3, h4⟩ := h
  cases h1
  obtain ⟨b, o, e, h5⟩ := h4 (by omega)
  exact ⟨b, o, e, h5 j hj⟩
theorem Tv.below {w w' : World} {xs : List ByteArray} {sv : Value} (h : Tv w xs sv) (hb : Below w.heap.size w w') : Tv w' xs sv := by
  obtain ⟨a0, cap, h1, h2, h3, h4⟩ := h
  refine ⟨a0, cap, h1, h2, h3, fun h0 => ?_⟩
  obtain ⟨b, o, e, h5⟩ := h4 h0
  refine ⟨b, o, e, fun j hj => ?_⟩
  have h6 := h5 j hj
  have hlt : b < w.heap.size := by
    unfold World.cell? at h6
    simp only at h6
    cases ho : w.heap[b]? with
    | none => rw [ho] at h6; cases h6
    | some o' => exact (Array.getElem?_eq_some_iff.1 ho).1
  exact (hb.cell (p := ⟨b, o + j, none⟩) hlt).trans h6
end Go.Proofs.YtcgaadnfocmdbaaGreatDoor
end

section
/- proctorlaw5.ParsePlaces: the walk. -/
namespace Go.Proofs.YtcgaadnfocmdbaaGreatDoor
open Go.RowKit

theorem cell_lt {w : World} {b o : Nat} {v : Value} (h : w.cell? ⟨b, o, none⟩ = some v) : b < w.heap.size := by
  unfold World.cell? at h
  by_cases hh : b < w.heap.size
  · exact hh
  · simp [Array.getElem?_eq_none (Nat.le_of_not_lt hh)] at h
theorem short_told {s : ByteArray} (h : s.size ≤ 65536) : parseM s ≠ .long := by
  unfold parseM readM
  rw [if_neg (by omega)]
  split
  · intro e; cases e
  · split <;> (intro e; cases e)
/-- The place is met among the first n lexemes, or is the text's end. -/
def Met (a z : Nat) (X : List Lx) (n : Nat) : Prop := a = z ∨ ∃ j, j < n ∧ ∃ x, X[j]? = some x ∧ x.a = a
theorem met_all {s : ByteArray} {a : Nat} (h : ∃ x ∈ lexR s, x.a = a) : Met a s.size (lexT s) (lexT s).length := by
  obtain ⟨x, hx, rfl⟩ := h
  unfold lexR at hx
  rcases List.mem_append.1 hx with hx | hx
  · obtain ⟨j, hj, e⟩ := List.mem_iff_getElem.1 hx
    exact .inr ⟨j, hj, x, by rw [List.getElem?_eq_getElem hj, e], rfl⟩
  · simp at hx
    subst hx
    exact .inl rfl
theorem met_next {a z : Nat} {X : List Lx} {n : Nat} (hn : n < X.length) : Met a z X (n + 1) ↔ (Met a z X n ∨ X[n].a = a) := by
  constructor
  · rintro (h | ⟨j, hj, x, hx, e⟩)
    · exact .inl (.inl h)
    · by_cases hjn : j = n
      · subst hjn
        rw [List.getElem?_eq_getElem hn] at hx
        cases hx
        exact .inr e
      · exact .inl (.inr ⟨j, by omega, x, hx, e⟩)
  · rintro ((h | ⟨j, hj, x, hx, e⟩) | h)
    · exact .inl h
    · exact .inr ⟨j, by omega, x, hx, e⟩
    · exact .inr ⟨n, by omega, X[n], List.getElem?_eq_getElem hn, h⟩

set_option maxRecDepth 100000 in
set_option maxHeartbeats 8000000 in
theorem lawPl {w : World} (hw : ErrW w) (l : List ByteArray) (sv : Value) (hl : Tv w l sv) :
    Calls Tryz.prog 5 #[sv] w fun e w' => e = .returned (.bool true) ∧ Below w.heap.size w w' := by
  have HT := Hid.intro hl
  have HP := fun (s : ByteArray) w' (h : ErrW w') => Hid.intro (parse_any s w' h.1 h.2)
  have HW := fun w' (h : ErrW w') => Hid.intro (wakes_any h)
  have HQ := fun w' => Hid.intro (eqBase_none w')
  have HE0 := Hid.intro hw
  obtain ⟨a0, cap, rfl, hc1, hc2⟩ := hl.form
  have hm : l.length ≤ 9223372036854775807 := Nat.le_trans hc1 (Nat.le_trans hc2 (by decide))
  clear hl hw
  go_enter Tryz.func5, Tryz.ntmps5
  go_wp2_with fail
  go_loopw [3] (fun i wr => ∃ k : Nat, i = .int .i64 (k : Int) ∧ k ≤ l.length ∧ Hid (Below w.heap.size w wr)) (fun i _ => l.length - (intOf i).toNat)
  case atStart => exact ⟨0, rfl, Nat.zero_le _, Below.refl _ _⟩
  case round =>
    obtain ⟨k, rfl, hk, HB⟩ := hrel
    have HE := Hid.intro (HE0.out.below HB.out)
    by_cases hlt : (k : Int) < (l.length : Int)
    · by_cases h8 : (k : Int) < 6
      · have hlt' : k < l.length := by omega
        obtain ⟨b, o, rfl, hc⟩ := (HT.out.below HB.out).cell hlt'
        generalize hs : l[k] = s at hc
        by_cases hlong : (3000 : Int) < (s.size : Int)
        · go_wp2
          go_roundw
          case rel => exact ⟨k + 1, by go_num, hlt', HB⟩
          case measure => simp [intOf]; omega
        · have hsz : s.size ≤ 3000 := by omega
          have HP1 := HP s wr HE.out
          cases hM : parseM s with
          | long => exact absurd hM (short_told (by omega))
          | ok x =>
            rw [hM] at HP1
            clear HP hM
            go_wp2_with fail
            refine HP1.out.mono ?_
            rintro e v1 ⟨hb1, v, rfl, x1, x2, x3, rfl, h1, h2, h3⟩
            obtain ⟨p1, c1, rfl, -⟩ := sl_form h1
            obtain ⟨p2, c2, rfl, -⟩ := sl_form h2
            obtain ⟨p3, c3, rfl, -⟩ := sl_form h3
            go_wp2_with fail
            go_roundw
            case rel => exact ⟨k + 1, by go_num, hlt', HB.out.trans ((hb1.alloc hb1.size _).mono HB.out.size)⟩
            case measure => simp [intOf]; omega
          | bad a =>
            rw [hM] at HP1
            have hbp := bad_place (fun hF => (lexR_good (by omega) hF).1) hM
            clear HP hM
            have hcb := Hid.intro hc
            go_wp2_with fail
            refine HP1.out.mono ?_
            rintro e v1 ⟨hb1, rfl⟩
            have A1 := hb1.alloc hb1.size (.cells #[.slice none 0 0, .slice none 0 0, .slice none 0 0] 27)
            have X1 := heap_alloc_new v1 (.cells #[.slice none 0 0, .slice none 0 0, .slice none 0 0] 27)
            have hbl : b < wr.heap.size := cell_lt hc
            have g1 := (A1.cell (p := ⟨b, o + k, none⟩) hbl).trans hc
            cases hF : lexF s with
            | some q =>
              rcases hbp with e | ⟨e, -⟩
              · rw [hF] at e
                obtain rfl : q = a := by cases e; rfl
                have HL := fun w => Hid.intro (lex_bad (s := s) (by omega) hF w)
                clear hF
                go_wp2_with fail
                refine (HL _).out.mono ?_
                rintro e v2 ⟨rfl, hb2⟩
                have A2 := A1.trans (hb2.mono A1.size)
                have X2 := (hb2.block v1.heap.size (by simp)).trans X1
                have f0 : _ = some (Value.slice none 0 0) := (heap_cell X2 0).1
                have f1 : _ = some (Value.slice none 0 0) := (heap_cell X2 1).1
                have f2 : _ = some (Value.slice none 0 0) := (heap_cell X2 2).1
                clear X1 X2
                go_wp2_with fail
                refine (HQ _).out.mono ?_
                rintro e v3 ⟨rfl, hb3⟩
                have A3 := A2.trans (hb3.mono A2.size)
                go_wp2_with fail
                go_roundw
                case rel => exact ⟨k + 1, by go_num, hlt', HB.out.trans (A3.mono HB.out.size)⟩
                case measure => simp [intOf]; omega
              · rw [hF] at e; cases e
            | none =>
              rcases hbp with e | ⟨-, e⟩
              · rw [hF] at e; cases e
              · have HM := Hid.intro (met_all e)
                have HL := fun w => Hid.intro (lex_ls (s := s) (by omega) hF w)
                have hlen := (lexR_good (by omega) hF).2
                generalize lexT s = X at *
                clear hF e
                go_wp2_with fail
                refine (HL _).out.mono ?_
                rintro e v2 ⟨x, rfl, HV2, HB2⟩
                have hb2 := HB2.out
                obtain ⟨p2, cap2, rfl, hp2⟩ := HV2.out
                clear HV2 HB2
                have HP2 := Hid.intro hp2
                clear hp2
                have A2 := A1.trans (hb2.mono A1.size)
                have X2 := (hb2.block v1.heap.size (by simp)).trans X1
                have f0 : _ = some (Value.slice none 0 0) := (heap_cell X2 0).1
                have f1 : _ = some (Value.slice none 0 0) := (heap_cell X2 1).1
                have f2 : _ = some (Value.slice none 0 0) := (heap_cell X2 2).1
                clear X1 X2
                go_wp2_with fail
                refine (HQ _).out.mono ?_
                rintro e v3 ⟨rfl, hb3⟩
                have A3 := A2.trans (hb3.mono A2.size)
                have g3 := (A3.cell (p := ⟨b, o + k, none⟩) hbl).trans hc
                have HB3 := Hid.intro (HB.out.trans (A3.mono HB.out.size))
                clear g1 f0 f1 f2
                go_wp2_with fail
                go_loop [10, 11] (fun f i => ∃ (n : Nat) (ob : Bool), f = .bool ob ∧ i = .int .i64 (n : Int) ∧ n ≤ X.length ∧ Hid (ob = true ↔ Met a s.size X n)) (fun _ i => X.length - (intOf i).toNat)
                case atStart =>
                  refine ⟨0, _, rfl, rfl, Nat.zero_le _, Hid.intro ?_⟩
                  constructor
                  · intro h; left; simp at h; omega
                  · rintro (h | ⟨j, hj, -⟩)
                    · simp; omega
                    · omega
                case round =>
                  obtain ⟨n, ob, rfl, rfl, hn, HI⟩ := hrel
                  by_cases hnl : (n : Int) < (X.length : Int)
                  · have hnl' : n < X.length := by omega
                    obtain ⟨g2, rfl, -, hg2, hcl⟩ := HP2.out (by omega)
                    have hnx := met_next (a := a) (z := s.size) hnl'
                    obtain ⟨y0, y1, y2, y3⟩ := (hcl.below hb3 hg2) _ hnl'
                    cases ob with
                    | true =>
                      go_wp2_with fail
                      go_round
                      case rel => exact ⟨n + 1, true, rfl, by go_num, hnl', Hid.intro ⟨fun _ => hnx.2 (.inl (HI.out.1 rfl)), fun _ => rfl⟩⟩
                      case measure => simp [intOf]; omega
                    | false =>
                      have hno : ¬ Met a s.size X n := fun h => by have := HI.out.2 h; cases this
                      go_wp2_with fail
                      go_round
                      case rel =>
                        refine ⟨n + 1, _, rfl, by go_num, hnl', Hid.intro ?_⟩
                        rw [hnx]
                        constructor
                        · intro h; right; simp at h; omega
                        · rintro (h | h)
                          · exact absurd h hno
                          · simp; omega
                      case measure => simp [intOf]; omega
                  · obtain rfl : n = X.length := by omega
                    obtain rfl := HI.out.2 HM.out
                    go_wp2_with fail
                    go_roundw
                    case rel => exact ⟨k + 1, by go_num, hlt', HB3⟩
                    case measure => simp [intOf]; omega
      · go_wp2_with fail
        refine (HW _ HE.out).out.mono ?_
        rintro e w2 ⟨rfl, hb2⟩
        go_wp2
        go_ret
        exact ⟨rfl, HB.out.trans (hb2.mono HB.out.size)⟩
    · go_wp2_with fail
      refine (HW _ HE.out).out.mono ?_
      rintro e w2 ⟨rfl, hb2⟩
      go_wp2
      go_ret
      exact ⟨rfl, HB.out.trans (hb2.mono HB.out.size)⟩
end Go.Proofs.YtcgaadnfocmdbaaGreatDoor
end

section
/- proctorlaw5.ParsePlaces: it tells true; the listed variables are tied to the program's text. -/
namespace Go.Proofs.YtcgaadnfocmdbaaGreatDoor.pPla
open Go.ChangeShapes Go.WideShapes Go.ChangeAt Go.RowKit Go.Proofs.YtcgaadnfocmdbaaGreatDoor Go.Proofs.YtcgaadnfocmdbaaGreatDoor.pLaid

theorem laidOut : laidOutB Tryz.prog = true := by kernel_rfl
theorem readable : Tryz.prog.readableRec 22 = true := by kernel_rfl
theorem inTypes : 22 < Tryz.prog.types.size := of_decide_eq_true (by kernel_rfl)

set_option maxRecDepth 100000 in
theorem contract (H : Type) (enc : TypeId × Value → H) (W : World) (base : Nat) (args : Array Value) (ds gs : List (DataW H)) (before : List MemPlace)
    (hval : ∀ (j : Nat) t v, Tryz.f5.params[j]? = some t → args[j]? = some v → Value.okWide Tryz.prog W .any base t v)
    (hL : laidMetH Tryz.prog Rows.parsePlacesRow.laid W) (hW : DataW.Whole enc Tryz.prog Tryz.f5.params.toList Rows.parsePlacesSpec.vars false W args.toList ds gs before) :
    Calls Tryz.prog 5 args W fun e W' => ∃ v, e = .returned v ∧ Rows.parsePlacesSpec.post enc Tryz.prog Tryz.f5 false true false false W args v W' := by
  have hW' := hW
  obtain ⟨p, q, hA0, hV, rfl, hfz, hnd⟩ := hW
  have hA : DataW.TrodAll enc Tryz.prog W 0 (fun _ => true) true Tryz.f5.params.toList args.toList ds p := hA0
  rw [Tryz.params5] at hA hval
  obtain ⟨v0, vs0, d0, ds0, p0, q0, hargs, rfl, rfl, h0, r0⟩ := trodAll_cons hA
  obtain ⟨rfl, rfl, rfl⟩ := trodAll_nil r0
  obtain rfl : args = #[v0] := by cases args; simp_all
  obtain ⟨rfl, rfl⟩ := trodVars_none hV
  simp only [List.append_nil] at hW'
  obtain ⟨a0, len, cap, rfl⟩ := okWide_slice Tryz.underlying22 (hval 0 22 v0 rfl rfl)
  have h0' := h0
  obtain ⟨fuel, hf⟩ := h0
  obtain ⟨l, sv, e, hl, -⟩ := read_strs fuel _ _ hf
  simp [Value.cells] at e
  subst e
  refine (lawPl (pLaid.errW hL) l _ hl).mono fun e W' ⟨he, hb⟩ => ?_
  subst he
  have hlt : ∀ x ∈ p0, x.block < W.heap.size := fun x hx => hW'.lt x (by simpa using hx)
  exact ⟨_, rfl, _, _, _, [], p0 ++ [], [], hW', trodAll_cons_mk (shut_bool Tryz.underlying4 _) trodAll_mk0, trodAll_cons_mk (hb.trod laidOut readable inTypes h0' hlt) trodAll_mk0, rfl, hb.frame _, fun h => by cases h⟩

theorem reads (os : Os) {H : Type} (enc : TypeId × Value → H) : ∃ places, DataW.whole enc Tryz.prog ((lay (World.holding Tryz.prog os ⟨#[], #[.slice none 0 0], []⟩)).forCall (fun _ _ => 0) ⟨#[], #[.slice none 0 0], []⟩).memory Tryz.f5.params.toList Rows.parsePlacesSpec.vars false (#[.slice none 0 0] : Array Value).toList 8 = some ([.nil], [], places) :=
  ⟨[], by kernel_rfl⟩

set_option maxRecDepth 100000 in
theorem lifted (os : Os) (started : os.Started) (H : Type) (enc : TypeId × Value → H) (F : Stop.Interp) :
    ReturnsInHanded {} Tryz.checked os 5 .any ((OpenSpec.ofChange Rows.parsePlacesSpec).preRow enc Tryz.prog Tryz.f5 Rows.parsePlacesRow.domain false Rows.parsePlacesRow.laid) (((OpenSpec.ofChange Rows.parsePlacesSpec).at F).post enc Tryz.prog Tryz.f5 false true false false) := by
  obtain ⟨places, hx⟩ := reads os enc
  refine returnsInHanded_of_row (C := Tryz.checked) (s := OpenSpec.ofChange Rows.parsePlacesSpec) own started (by kernel_rfl) Tryz.func5
    (witness_row_atRef (enc := enc) (C := Tryz.checked) false (lay (World.holding Tryz.prog os ⟨#[], #[.slice none 0 0], []⟩)) #[.slice none 0 0] rfl (by kernel_rfl) (by kernel_rfl) (by kernel_rfl)
      (OpenSpec.preRow_of_cond 8 hx (by kernel_rfl) (fun k hk => by cases hk) (by kernel_rfl) (laid_met os))) ?_
  intro W base args ds gs before hval hW _ _ _ hL _ _
  exact contract H enc W base args ds gs before hval hL hW

theorem said : Rows.ParsePlacesSaid :=
  OpenClaim.holds_of_cond 5 Tryz.f5 rfl rfl rfl rfl rfl rfl rfl ⟨rfl, rfl, rfl, rfl, rfl⟩ rfl rfl rfl rfl rfl (by kernel_rfl) Tryz.func5 (by kernel_rfl)
    (of_decide_eq_true (by kernel_rfl)) (by unfold Func.isWrapper; first | (rw [if_pos (by decide +kernel)]; kernel_rfl) | (rw [if_neg (by decide +kernel)]; exact ⟨rfl, rfl⟩))
    (fun os started H enc _ F => by rw [OpenClaim.pre_eq_preRow]; exact lifted os started H enc F)
theorem plain (f : FuncId) (fn : Func) (hf : Tryz.pinned.checked.prog.funcNamed "proctor/proctorlaw5.ParsePlaces" = some f) (hfn : Tryz.pinned.checked.prog.funcs[f]? = some fn) :
    true = Tryz.pinned.checked.prog.looks [] ∧ ∀ (j : Nat) t, fn.params[j]? = some t → Tryz.pinned.checked.prog.wantsStandIn t = false := by
  obtain rfl : f = 5 := Option.some.inj ((show Tryz.prog.funcNamed "proctor/proctorlaw5.ParsePlaces" = some 5 by kernel_rfl).symm.trans hf) |>.symm
  obtain rfl : fn = Tryz.f5 := (Option.some.inj (Tryz.func5.symm.trans hfn)).symm
  refine ⟨by kernel_rfl, fun j t ht => ?_⟩
  rw [Tryz.params5] at ht
  have ht' : #[22][j]? = some t := ht
  cases j with
  | zero => obtain rfl : 22 = t := Option.some.inj ht'; (show Tryz.prog.wantsStandIn 22 = false; kernel_rfl)
  | succ j => simp at ht'
end Go.Proofs.YtcgaadnfocmdbaaGreatDoor.pPla

namespace Go.Proofs.YtcgaadnfocmdbaaGreatDoor
theorem parsePlaces_card : Rows.ParsePlacesCardSaid :=
  Claim7.holds_tied_plain_at .later [] _ _ _ _ pPla.said (fun _ h => by cases h) (by kernel_rfl) (fun _ h => by cases h) parsePlaces_row_tie rfl ⟨rfl, rfl⟩ (by kernel_rfl) rfl pPla.plain (by kernel_rfl)
end Go.Proofs.YtcgaadnfocmdbaaGreatDoor
#print axioms Go.Proofs.YtcgaadnfocmdbaaGreatDoor.parsePlaces_card
end
