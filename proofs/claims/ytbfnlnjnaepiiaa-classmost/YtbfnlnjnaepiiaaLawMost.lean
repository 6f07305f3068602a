/- ClassMost: the walk. -/
import Derived.Test.YtbfnlnjnaepiiaaCNum
import Derived.Deep.RegionLawGrows
namespace Go.Proofs.Ytbfnlnjnaepiiaa
open Go.RowKit Go.Maps

def cN (i : Nat) : Cl := ⟨⟨#[67]⟩ ++ numB i, ⟨#[]⟩, []⟩
def fN (i : Nat) : Fl := ⟨⟨#[102]⟩ ++ numB i, 0, ⟨#[]⟩⟩
def clsL : List Cl := (List.range 64).map cN
def fldL : List Fl := (List.range 62).map fN

theorem most_a : (newT clsL).isSome = true := by kernel_rfl
theorem most_b : newT (clsL ++ [⟨⟨#[68]⟩, ⟨#[]⟩, []⟩]) = none := by kernel_rfl
theorem most_c : (newT [⟨⟨#[65]⟩, ⟨#[]⟩, fldL.take 40⟩, ⟨⟨#[66]⟩, ⟨#[65]⟩, fldL.drop 40⟩]).map (fun T => (maskV T ⟨#[66]⟩ [⟨#[102, 54, 49]⟩, ⟨#[102, 48]⟩])) = some (2305843009213693953, 0) := by kernel_rfl
theorem most_d : newT [⟨⟨#[65]⟩, ⟨#[]⟩, fldL.take 40⟩, ⟨⟨#[66]⟩, ⟨#[65]⟩, fldL.drop 40 ++ [⟨⟨#[103]⟩, 0, ⟨#[]⟩⟩]⟩] = none := by kernel_rfl

theorem numB_size (k : Nat) : (numB k).size ≤ 2 := by
  unfold numB
  split
  · unfold num1; rw [ByteArray.size_append]; exact Nat.le_of_ble_eq_true rfl
  · unfold num2; rw [ByteArray.size_append, ByteArray.size_append]; exact Nat.le_of_ble_eq_true rfl

def psL (k : Nat) : List (Cl × Value) := (List.range k).map (fun i => (cN i, Value.slice none 0 0))
def fsL (k : Nat) : List Fl := (List.range k).map fN
theorem psL_succ (k : Nat) : psL (k + 1) = psL k ++ [(cN k, Value.slice none 0 0)] := by unfold psL; rw [List.range_succ, List.map_append]; rfl
theorem fsL_succ (k : Nat) : fsL (k + 1) = fsL k ++ [fN k] := by unfold fsL; rw [List.range_succ, List.map_append]; rfl

/-- append of one class that is written out. -/
theorem append_cl {w : World} {base : Nat} {v : Value} {n : Nat} {xs : List Value} (hown : w.ownsRow base 35 3 v n xs) (c : Cl) (hn : n ≤ 1000) (hbase : base ≤ w.heap.size) :
    ∃ v' w', (Builtin.append_ #[22, 22] 22 #[v, .slice (some ⟨w.heap.size, 0, none⟩) 1 1]).run Try.prog (w.alloc (.cells #[.string c.n, .string c.s, .slice none 0 0] 35)) = .ok v' w' ∧ w'.ownsRow base 35 3 v' (n + 1) (xs ++ celC (c, .slice none 0 0)) ∧ Below base w w' ∧ ∀ q, q < w.heap.size → v.ownBlock ≠ some q → w'.heap[q]? = w.heap[q]? := by
  obtain ⟨v5, w5, hrun5, o5, gr5⟩ := append_cls 22 (hown.alloc (.cells #[.string c.n, .string c.s, .slice none 0 0] 35)) [(c, .slice none 0 0)] (some ⟨w.heap.size, 0, none⟩) 1 (fun p hp => by simp at hp; subst hp; exact ⟨_, _, _, rfl⟩) (fun _ => ⟨w.heap.size, 0, rfl, World.news_of_block (cs := #[.string c.n, .string c.s, .slice none 0 0]) (t := 35) (fr := (0, 0)) (heap_alloc_new w _)⟩) (by simp; omega) (by simp; omega)
  refine ⟨v5, w5, hrun5, by simpa using o5, ((Below.refl base w).alloc hbase _).grown gr5 (by simp; omega) (fun k e => (hown.lt k e).1), fun q hq hne => ?_⟩
  exact (gr5.block q (by simp; omega) (Ne.symm hne)).trans (Below.heap_alloc w _ q hq)

theorem append_fl {w : World} {base : Nat} {v : Value} {n : Nat} {xs : List Value} (hown : w.ownsRow base 37 3 v n xs) (c : Fl) (hn : n ≤ 1000) (hbase : base ≤ w.heap.size) :
    ∃ v' w', (Builtin.append_ #[33, 33] 33 #[v, .slice (some ⟨w.heap.size, 0, none⟩) 1 1]).run Try.prog (w.alloc (.cells #[.string c.n, .int .i64 c.t, .string c.c] 37)) = .ok v' w' ∧ w'.ownsRow base 37 3 v' (n + 1) (xs ++ celF c) ∧ Below base w w' := by
  obtain ⟨v5, w5, hrun5, o5, gr5⟩ := append_flds 33 (hown.alloc (.cells #[.string c.n, .int .i64 c.t, .string c.c] 37)) [c] (some ⟨w.heap.size, 0, none⟩) 1 (fun _ => ⟨w.heap.size, 0, rfl, World.news_of_block (cs := #[.string c.n, .int .i64 c.t, .string c.c]) (t := 37) (fr := (0, 0)) (heap_alloc_new w _)⟩) (by simp; omega) (by simp; omega)
  refine ⟨v5, w5, hrun5, by simpa using o5, ?_⟩
  exact ((Below.refl base w).alloc hbase _).grown gr5 (by simp; omega) (fun k e => (hown.lt k e).1)

theorem own_keep {w w' : World} {base base' n : Nat} {v : Value} {e : TypeId} {size : Nat} {xs : List Value} (h : w.ownsRow base e size v n xs) (hb : Below base' w w') (hlt : ∀ k, v.ownBlock = some k → k < base') : w'.ownsRow base e size v n xs := by
  refine ⟨h.1, ?_⟩
  rcases h.2 with hn | ⟨q, cap, cur, hv, hq, hc, rest⟩
  · exact .inl hn
  · exact .inr ⟨q, cap, cur, hv, hq, (hb.block q (hlt q (by rw [hv]; rfl))).trans hc, rest⟩

theorem Fv.drop {P : Nat → Prop} {w : World} {fs : List Fl} {b o n cap k : Nat} (h : Fv P w fs (.slice (some ⟨b, o, none⟩) n cap)) (hk : k ≤ n) : Fv P w (fs.drop k) (.slice (some ⟨b, o + k * 3, none⟩) (n - k) (cap - k)) := by
  obtain ⟨a0, cap', h1, h2, h3, h4⟩ := h
  obtain ⟨e1, e2, e3⟩ : some ⟨b, o, none⟩ = a0 ∧ n = fs.length ∧ cap = cap' := by simpa using h1
  subst e1 e2 e3
  refine ⟨_, _, by rw [List.length_drop], by rw [List.length_drop]; omega, by omega, fun h0 => ?_⟩
  rw [List.length_drop] at h0
  obtain ⟨b', o', e, hp, h5⟩ := h4 (by omega)
  obtain ⟨rfl, rfl⟩ : b = b' ∧ o = o' := by simpa using e
  refine ⟨b, o + k * 3, rfl, hp, fun j hj => ?_⟩
  rw [List.length_drop] at hj
  rw [List.getElem_drop]
  have := h5 (k + j) (by omega)
  rw [Nat.add_mul, ← Nat.add_assoc] at this
  exact this

/-- Two classes that are written out. -/
theorem cv_two {W : World} {B : Nat} {n1 s1 n2 s2 : ByteArray} {f1 f2 : List Fl} {v1 v2 : Value} (hb : W.heap[B]? = some (.cells #[.string n1, .string s1, v1, .string n2, .string s2, v2] 35 (0, 0))) (h1 : Fv Any W f1 v1) (h2 : Fv Any W f2 v2) : Cv Any W [⟨n1, s1, f1⟩, ⟨n2, s2, f2⟩] (.slice (some ⟨B, 0, none⟩) 2 2) := by
  have two : ∀ j, j < 2 → j = 0 ∨ j = 1 := by omega
  refine ⟨some ⟨B, 0, none⟩, 2, rfl, by simp, by unfold maxLen; omega, fun _ => ⟨B, 0, rfl, trivial, fun j hj => ?_⟩⟩
  rcases two j hj with rfl | rfl
  · exact ⟨v1, ⟨by simp [World.cell?, hb], by simp [World.cell?, hb], by simp [World.cell?, hb]⟩, h1⟩
  · exact ⟨v2, ⟨by simp [World.cell?, hb], by simp [World.cell?, hb], by simp [World.cell?, hb]⟩, h2⟩

theorem fld_short (c : Cl) (n : Nat) (h : c.f.length ≤ n) (hn : n ≤ 1000000) : c.f.length ≤ 1000000 := by omega

set_option maxRecDepth 100000 in
set_option maxHeartbeats 8000000 in
theorem lawMost (w : World) :
    Calls Try.prog 7 #[] w fun e w' => e = .returned (.bool true) ∧ Below w.heap.size w w' := by
  have HWk := Hid.intro wakes_any
  go_enter Try.func7, Try.ntmps7
  go_wp2_with fail
  go_loopw [1, 2] (fun v i wr => Hid (Below w.heap.size w wr) ∧ ∃ k : Nat, k ≤ 64 ∧ i = .int .i64 (k : Int) ∧ Hid (wr.ownsRow w.heap.size 35 3 v k ((psL k).flatMap celC))) (fun _ i _ => 64 - (intOf i).toNat)
  case atStart => exact ⟨Below.refl _ _, 0, by omega, rfl, World.ownsRow_nil _ _ _ _⟩
  case round =>
    obtain ⟨HB, k, hk, rfl, O⟩ := hrel
    by_cases hlt : (k : Int) < 64
    · have HN := Hid.intro (number_any k (by omega) wr)
      go_wp2_with fail
      refine HN.out.mono ?_
      rintro e w1 ⟨rfl, hb1⟩
      have HB1 := Hid.intro (hb1.via HB.out)
      have O1 := Hid.intro (own_below O.out hb1)
      obtain ⟨v5, w5, hrun5, o5, hb5, -⟩ := append_cl O1.out (cN k) (by omega) HB1.out.size
      have HB5 : Hid (Below w.heap.size w w5) := HB1.out.trans hb5
      have O5 : Hid (w5.ownsRow w.heap.size 35 3 v5 (k + 1) ((psL (k + 1)).flatMap celC)) := by
        rw [psL_succ, List.flatMap_append]
        exact Hid.intro (by simpa using o5)
      clear hb1 hb5 o5 HN
      unfold cN at hrun5
      have hsz := numB_size k
      go_wp2_with (at_builtin; refine Lib.wpList_append_run _ rfl _ _ _ _ rfl _ _ rfl rfl _ _ hrun5 ?_)
      go_roundw
      case rel => exact ⟨HB5, k + 1, by omega, by go_num, O5⟩
      case measure => simp [intOf]; omega
    · have hk2 : k = 64 := by omega
      subst hk2
      rename World => wA
      go_wp2_with fail
      go_loopw [3, 4] (fun v i wr => Hid (Below wA.heap.size wA wr) ∧ ∃ k : Nat, k ≤ 62 ∧ i = .int .i64 (k : Int) ∧ Hid (wr.ownsRow wA.heap.size 37 3 v k ((fsL k).flatMap celF))) (fun _ i _ => 62 - (intOf i).toNat)
      case atStart => exact ⟨Below.refl _ _, 0, by omega, rfl, World.ownsRow_nil _ _ _ _⟩
      case round =>
        obtain ⟨HB2, k, hk, rfl, OF⟩ := hrel
        by_cases hlt : (k : Int) < 62
        · have HN := Hid.intro (number_any k (by omega) wr)
          go_wp2_with fail
          refine HN.out.mono ?_
          rintro e w1 ⟨rfl, hb1⟩
          have HB1 := Hid.intro (hb1.via HB2.out)
          have O1 := Hid.intro (own_below OF.out hb1)
          obtain ⟨v5, w5, hrun5, o5, hb5⟩ := append_fl O1.out (fN k) (by omega) HB1.out.size
          have HB5 : Hid (Below wA.heap.size wA w5) := HB1.out.trans hb5
          have O5 : Hid (w5.ownsRow wA.heap.size 37 3 v5 (k + 1) ((fsL (k + 1)).flatMap celF)) := by
            rw [fsL_succ, List.flatMap_append]
            exact Hid.intro (by simpa using o5)
          clear hb1 hb5 o5 HN
          unfold fN at hrun5
          have hsz := numB_size k
          go_wp2_with (at_builtin; refine Lib.wpList_append_run _ rfl _ _ _ _ rfl _ _ rfl rfl _ _ hrun5 ?_)
          go_roundw
          case rel => exact ⟨HB5, k + 1, by omega, by go_num, O5⟩
          case measure => simp [intOf]; omega
        · have hk2 : k = 62 := by omega
          subst hk2
          rename World => wB
          have OL := Hid.intro (own_below O.out HB2.out)
          obtain ⟨gl, capl, hul, hgl1, hgl2⟩ := O.out.form (by omega)
          obtain ⟨gf, capf, huf, hgf1, hgf2⟩ := OF.out.form (by omega)
          subst hul
          subst huf
          have hFl := Hid.intro (own_fv (fsL 62) OF.out)
          have hpsm : (psL 64).map (·.1) = clsL := by unfold psL clsL; rw [List.map_map]; rfl
          have hCv : Cv Any wB clsL (.slice (some ⟨gl, 0, none⟩) 64 capl) := by
            have := own_cv (w := wB) (psL 64) (fun p hp => by
              unfold psL at hp
              obtain ⟨i, -, rfl⟩ := List.mem_map.1 hp
              exact ⟨none, 0, rfl, by simp [cN], by unfold maxLen; omega, fun h => by simp [cN] at h⟩) OL.out
            rw [hpsm] at this
            exact this
          have HN1 := new_any clsL _ hCv (fun c hc => by
            unfold clsL at hc
            obtain ⟨i, -, rfl⟩ := List.mem_map.1 hc
            simp [cN])
          obtain ⟨T0, hT0⟩ := Option.isSome_iff_exists.1 most_a
          rw [hT0] at HN1
          have HN1' := Hid.intro HN1
          clear HN1 hCv hpsm
          go_wp2_with fail
          refine HN1'.out.mono ?_
          rintro e w1 ⟨hb1, ⟨h, -⟩ | ⟨T', g1, h, -, rfl, -⟩⟩
          · cases h
          · clear h
            have HB1 := Hid.intro (hb1.via HB2.out)
            have OL1 := Hid.intro (own_below OL.out hb1)
            have hFl1 := Hid.intro (hFl.out.below hb1)
            have hsize : wA.heap.size ≤ w1.heap.size := HB1.out.size
            obtain ⟨v5, w5, hrun5, o5, hb5, hfar⟩ := append_cl OL1.out (⟨⟨#[68]⟩, ⟨#[]⟩, []⟩ : Cl) (by omega) (by have := HB.out.size; omega)
            have hFl5 : Hid (Fv Any w5 (fsL 62) (.slice (some ⟨gf, 0, none⟩) 62 capf)) := by
              obtain ⟨a0, cap, h1, h2, h3, h4⟩ := hFl1.out
              obtain ⟨rfl, rfl⟩ : some ⟨gf, 0, none⟩ = a0 ∧ capf = cap := by simp at h1; exact ⟨h1.1, h1.2.2⟩
              refine Hid.intro ⟨_, _, h1, h2, h3, fun h0 => ?_⟩
              obtain ⟨b, o, e, -, h5⟩ := h4 h0
              have hbg : gf = b := by simp at e; exact e.1
              refine ⟨b, o, e, trivial, fun j hj => (h5 j hj).at (fun o => World.cell?_of_block (hfar b (cell_lt (h5 j hj).1) ?_))⟩
              simp only [Value.ownBlock]
              intro hh
              simp at hh
              omega
            have HB5 : Hid (Below w.heap.size w w5) := ((HB1.out.mono HB.out.size |> fun x => HB.out.trans x)).trans hb5
            have hcv5 : Cv Any w5 (clsL ++ [⟨⟨#[68]⟩, ⟨#[]⟩, []⟩]) v5 := by
              have := own_cv (w := w5) (psL 64 ++ [((⟨⟨#[68]⟩, ⟨#[]⟩, []⟩ : Cl), Value.slice none 0 0)]) (fun p hp => by
                rcases List.mem_append.1 hp with h | h
                · unfold psL at h
                  obtain ⟨i, -, rfl⟩ := List.mem_map.1 h
                  exact ⟨none, 0, rfl, by simp [cN], by unfold maxLen; omega, fun h => by simp [cN] at h⟩
                · simp at h; subst h; exact ⟨none, 0, rfl, by simp, by unfold maxLen; omega, fun h => by simp at h⟩) (by rw [List.flatMap_append]; simpa using o5)
              rw [List.map_append, show (psL 64).map (·.1) = clsL by unfold psL clsL; rw [List.map_map]; rfl] at this
              exact this
            have HN5 := new_any (clsL ++ [⟨⟨#[68]⟩, ⟨#[]⟩, []⟩]) v5 hcv5 (fun c hc => by
              rcases List.mem_append.1 hc with h | h
              · unfold clsL at h
                obtain ⟨i, -, rfl⟩ := List.mem_map.1 h
                simp [cN]
              · simp at h; subst h; simp)
            rw [most_b] at HN5
            have HN5' := Hid.intro HN5
            clear HN5 hcv5 hb5 hb1 o5 hfar HN1' OL OL1 hFl hFl1 O OF hT0
            go_wp2_with (at_builtin; refine Lib.wpList_append_run _ rfl _ _ _ _ rfl _ _ rfl rfl _ _ hrun5 ?_)
            refine HN5'.out.mono ?_
            rintro e w6 ⟨hb6, ⟨-, rfl⟩ | ⟨T', g1', h, -⟩⟩
            · have HB6 := Hid.intro (hb6.via HB5.out)
              have hFl6 := Hid.intro (hFl5.out.below hb6)
              clear hb6 HB5 hFl5 HN5'
              obtain ⟨_, _, hfe, hcf1, hcf2⟩ := hFl6.out.form
              have hcap : 62 ≤ capf ∧ capf ≤ 9223372036854775807 := by
                obtain ⟨e1, e2, e3⟩ := (by simpa using hfe : _ ∧ _ ∧ capf = _)
                subst e3
                have : (fsL 62).length = 62 := by unfold fsL; simp
                exact ⟨by omega, hcf2⟩
              clear hfe hcf1 hcf2
              have hc40 : (40 : Int) ≤ (capf : Int) := by omega
              have hc62 : (62 : Int) ≤ (capf : Int) := by omega
              have hn40 : ¬ (capf = 40) := by omega
              have hfl62 : fsL 62 = fldL := rfl
              rw [hfl62] at hFl6
              have HV1 := Hid.intro (fun w' (hb : Below w6.heap.size w6 w') => (hFl6.out.below hb).take (k := 40) (by unfold fldL; simp))
              have HV2 := Hid.intro (fun w' (hb : Below w6.heap.size w6 w') => (hFl6.out.below hb).drop (k := 40) (by omega))
              simp only [Nat.zero_add, Nat.reduceMul, Nat.reduceSub] at HV2
              have hBz : Below w6.heap.size w6 (w6.alloc (.cells #[.string ⟨#[65]⟩, .string ⟨#[]⟩, .slice (some ⟨gf, 0, none⟩) 40 capf, .string ⟨#[66]⟩, .string ⟨#[65]⟩, .slice (some ⟨gf, 120, none⟩) 22 (capf - 40)] 35)).drew := (below_al (Below.refl _ _) _).drew
              have HN7 := new_any _ _ (cv_two (W := (w6.alloc (.cells #[.string ⟨#[65]⟩, .string ⟨#[]⟩, .slice (some ⟨gf, 0, none⟩) 40 capf, .string ⟨#[66]⟩, .string ⟨#[65]⟩, .slice (some ⟨gf, 120, none⟩) 22 (capf - 40)] 35)).drew) (heap_alloc_new w6 _) (HV1.out _ hBz) (HV2.out _ hBz)) (fun c hc => by
                simp at hc
                rcases hc with rfl | rfl
                · simp; omega
                · unfold fldL; simp)
              obtain ⟨T7, hT7, hM7⟩ : ∃ T, newT [⟨⟨#[65]⟩, ⟨#[]⟩, fldL.take 40⟩, ⟨⟨#[66]⟩, ⟨#[65]⟩, fldL.drop 40⟩] = some T ∧ maskV T ⟨#[66]⟩ [⟨#[102, 54, 49]⟩, ⟨#[102, 48]⟩] = (2305843009213693953, 0) := by
                obtain ⟨T, h1, h2⟩ := Option.map_eq_some_iff.1 most_c
                exact ⟨T, h1, h2⟩
              rw [hT7] at HN7
              have HN7' := Hid.intro HN7
              have HBz := Hid.intro hBz
              clear HN7 hBz
              go_wp2_with fail
              go_region_held3 (fun _ => True) (trivial) ((go_at_call 11; refine HN7'.out.mono ?_; rintro e w7 ⟨hb7, ⟨h, -⟩ | ⟨T8, g7, h, hW7, rfl, hT8⟩⟩; (cases h)))
              cases h
              have HB7 : Hid (Below w6.heap.size w6 w7) := hb7.via HBz.out
              have HT7 := Hid.intro hT8
              have HW7 := Hid.intro hW7
              have HVA := Hid.intro (fun w' (hb : Below w7.heap.size w7 w') => HV1.out w' (hb.via HB7.out))
              have HVB := Hid.intro (fun w' (hb : Below w7.heap.size w7 w') => HV2.out w' (hb.via HB7.out))
              clear hb7 hT8 hW7 HN7' HBz HV1 HV2
              obtain ⟨i0, z0, hi, hz, hz1, hz2, hz3⟩ := zeroF
              have hz1' : z0.cells.size = 3 := by rw [hz1]; rfl
              have holdl : ((fldL.drop 40).flatMap celF).length = 22 * 3 := by rw [celF_len]; unfold fldL; simp
              have hW1 : Below w7.heap.size w7 (w7.alloc (.cells #[.string ⟨#[103]⟩, .int .i64 0, .string ⟨#[]⟩] 37)).drew := (below_al (Below.refl _ _) _).drew
              have holds : ∀ b, some (⟨gf, 120, none⟩ : Addr) = some b → ∀ j u, ((fldL.drop 40).flatMap celF)[j]? = some u → (w7.alloc (.cells #[.string ⟨#[103]⟩, .int .i64 0, .string ⟨#[]⟩] 37)).drew.cell? (b.add j) = some u := by
                intro b hb j u hj
                cases hb
                obtain ⟨a0, c0, hsl, -, -, hr⟩ := (HVB.out _ hW1).row
                obtain ⟨b', o', e, hh⟩ := hr (by rw [celF_len]; unfold fldL; simp)
                obtain rfl : some (⟨gf, 120, none⟩ : Addr) = a0 := by simp at hsl; exact hsl.1
                cases e
                exact hh j u hj
              have hnews : ∀ j u, (celF ⟨⟨#[103]⟩, 0, ⟨#[]⟩⟩)[j]? = some u → (w7.alloc (.cells #[.string ⟨#[103]⟩, .int .i64 0, .string ⟨#[]⟩] 37)).drew.cell? ((⟨w7.heap.size, 0, none⟩ : Addr).add j) = some u := World.news_of_block (w := (w7.alloc (.cells #[.string ⟨#[103]⟩, .int .i64 0, .string ⟨#[]⟩] 37)).drew) (cs := #[.string ⟨#[103]⟩, .int .i64 0, .string ⟨#[]⟩]) (t := 37) (fr := (0, 0)) (heap_alloc_new w7 _)
              have hone : ∀ u ∈ celF ⟨⟨#[103]⟩, 0, ⟨#[]⟩⟩, u.oneCell' = true := by intro u hu; simp [celF] at hu; rcases hu with rfl | rfl | rfl <;> rfl
              have HN9 : Hid (∀ (g8 cap8 : Nat) (w8 : World), w8.ownsRow (w7.alloc (.cells #[.string ⟨#[103]⟩, .int .i64 0, .string ⟨#[]⟩] 37)).drew.heap.size 37 3 (.slice (some ⟨g8, 0, none⟩) 23 cap8) 23 ((fldL.drop 40).flatMap celF ++ celF ⟨⟨#[103]⟩, 0, ⟨#[]⟩⟩) → Below w7.heap.size w7 w8 →
                  Calls Try.prog 11 #[.slice (some ⟨w8.heap.size, 0, none⟩) 2 2] (w8.alloc (.cells #[.string ⟨#[65]⟩, .string ⟨#[]⟩, .slice (some ⟨gf, 0, none⟩) 40 capf, .string ⟨#[66]⟩, .string ⟨#[65]⟩, .slice (some ⟨g8, 0, none⟩) 23 cap8] 35)) fun e w' => e = .returned (.tuple #[.pointer none, .int .i64 10]) ∧ Below w7.heap.size w7 w') := by
                intro g8 cap8 w8 hO hB
                have hv : Fv Any w8 (fldL.drop 40 ++ [⟨⟨#[103]⟩, 0, ⟨#[]⟩⟩]) (.slice (some ⟨g8, 0, none⟩) 23 cap8) := (own_fv (fldL.drop 40 ++ [⟨⟨#[103]⟩, 0, ⟨#[]⟩⟩]) (by rw [List.flatMap_append]; simpa using hO)).move (Q := Any) (fun _ _ _ _ => rfl) (fun b _ => (trivial : Any b))
                have hbz : Below w8.heap.size w8 (w8.alloc (.cells #[.string ⟨#[65]⟩, .string ⟨#[]⟩, .slice (some ⟨gf, 0, none⟩) 40 capf, .string ⟨#[66]⟩, .string ⟨#[65]⟩, .slice (some ⟨g8, 0, none⟩) 23 cap8] 35)) := below_al (Below.refl _ _) _
                have := new_any _ _ (cv_two (heap_alloc_new w8 _) (HVA.out _ (hbz.via hB)) (hv.below hbz)) (fun c hc => by
                  simp at hc
                  rcases hc with rfl | rfl
                  · simp; omega
                  · unfold fldL; simp)
                rw [most_d] at this
                refine this.mono ?_
                rintro e w9 ⟨hb9, ⟨-, rfl⟩ | ⟨T, g, h, -⟩⟩
                · exact ⟨rfl, (hb9.via hbz).via hB⟩
                · cases h
              have HGr : Hid (∀ w8, (w7.alloc (.cells #[.string ⟨#[103]⟩, .int .i64 0, .string ⟨#[]⟩] 37)).drew.grownBy w8 none → Below w7.heap.size w7 w8) := fun w8 gr => hW1.grown gr hW1.size (fun k e => by cases e)
              clear hW1
              go_wp2_with fail
              go_region_held3 (fun _ => True) (trivial) ((first | (go_at_call 11; refine (HN9.out g8 cap8 w8 O8.out B8.out).mono ?_; rintro e w10 ⟨rfl, hb10⟩) | (refine step_append_grows (by rfl) _ _ _ (by rfl) 37 i0 z0 3 40 Try.underlying33 hi hz hz2 hz3 hz1' (by omega) (some ⟨gf, 120, none⟩) 22 22 ((fldL.drop 40).flatMap celF) (by rfl) (fun h => by cases h) holdl holds ⟨w7.heap.size, 0, none⟩ 1 1 (celF ⟨⟨#[103]⟩, 0, ⟨#[]⟩⟩) (by rfl) (by rfl) hnews hone (by omega) (by decide) (by omega) ?_; intro v8 w8 o8 gr8; obtain ⟨g8, cap8, hv8, -, -⟩ := World.ownsRow.form o8 (by omega); subst hv8; have O8 := Hid.intro o8; have B8 := Hid.intro (HGr.out w8 gr8); clear o8 gr8)))
              have HB10 := Hid.intro hb10
              have HTa := Hid.intro (HT7.out.below hb10)
              clear hb10 HN9 HGr
              have HM := mask_any (HTa.out.below (below_al (Below.refl _ _) _)) ⟨#[66]⟩ [⟨#[102, 54, 49]⟩, ⟨#[102, 48]⟩] _ (sv_lit w10 [⟨#[102, 54, 49]⟩, ⟨#[102, 48]⟩] (by simp))
              rw [hM7] at HM
              have HM' := Hid.intro HM
              clear HM
              go_wp2_with fail
              refine HM'.out.mono ?_
              rintro e w11 ⟨rfl, hb11⟩
              have HB11 := Hid.intro ((((hb11.via (below_al (Below.refl _ _) _)).via HB10.out).via HB7.out).via HB6.out)
              clear hb11 HM'
              go_wp2_with fail
              refine (HWk.out _).mono ?_
              rintro e w12 ⟨rfl, hb12⟩
              have HB12 := Hid.intro (hb12.via HB11.out)
              clear hb12
              go_wp2
              go_ret
              exact ⟨rfl, HB12.out⟩
            · cases h
end Go.Proofs.Ytbfnlnjnaepiiaa
