/- value.Decode's reader: list. -/
import Derived.Test.YtciibcfmlhbnkaaGreatDoorVDec3
namespace Go.Proofs.YtciibcfmlhbnkaaGreatDoor
open Go.RowKit

set_option maxRecDepth 20000 in
set_option maxHeartbeats 1000000 in
theorem list_nil (w : World) (R : Nat) (r : Int) : Calls Tryz.prog 118 #[.pointer (some ⟨R, 0, none⟩), .int .i64 0, .int .i64 r] w fun e w' => e = .returned (.slice none 0 0) ∧ w' = w := by
  go_enter Tryz.func118, Tryz.ntmps118
  go_wp2
  go_ret
  exact ⟨rfl, rfl⟩

theorem own_keep {w w' : World} {base n size g k m : Nat} {e : TypeId} {xs : List Value} (h : w.ownsRow base e size (.slice (some ⟨g, 0, none⟩) k m) n xs) (hb : w'.heap[g]? = w.heap[g]?) : w'.ownsRow base e size (.slice (some ⟨g, 0, none⟩) k m) n xs := by
  refine ⟨h.1, ?_⟩
  rcases h.2 with hn | ⟨q, cap, cur, hv, hq, hc, rest⟩
  · exact .inl hn
  · cases hv
    exact .inr ⟨_, _, cur, rfl, hq, hb.trans hc, rest⟩
theorem new_row (w : World) (cs : List Value) (T : TypeId) : ∀ (j : Nat) (u : Value), cs[j]? = some u → (w.alloc (.cells cs.toArray T)).cell? ((⟨w.heap.size, 0, none⟩ : Addr).add j) = some u := by
  intro j u hj
  have e : (⟨w.heap.size, 0, none⟩ : Addr).add j = ⟨w.heap.size, j, none⟩ := by
    unfold Addr.add
    split
    · next hz =>
      have hz' : j = 0 := by simpa using hz
      rw [hz']
    · simp
  rw [e]
  unfold World.cell?
  rw [heap_alloc_new]
  simpa using hj
theorem decL_none {D : List UInt8 → Option (Tr × List UInt8)} {m k : Nat} {l r : List UInt8} {ts : List Tr} (he : decL D m l = (decL D (m - k) r).map fun y => (ts ++ y.1, y.2)) (hk : k < m) (hd : D r = none) : decL D m l = none := by
  obtain ⟨j, hj⟩ : ∃ j, m - k = j + 1 := ⟨m - k - 1, by omega⟩
  rw [he, hj, decL, hd]; rfl
theorem decL_some {D : List UInt8 → Option (Tr × List UInt8)} {m k : Nat} {l r r' : List UInt8} {ts : List Tr} {t : Tr} (he : decL D m l = (decL D (m - k) r).map fun y => (ts ++ y.1, y.2)) (hk : k < m) (hd : D r = some (t, r')) : decL D m l = (decL D (m - (k + 1)) r').map fun y => (ts ++ [t] ++ y.1, y.2) := by
  have hj : m - k = m - (k + 1) + 1 := by omega
  rw [he, hj, decL, hd, Option.map_map]
  congr 1
  funext y
  simp
/-- What the loop has read. -/
structure Got (D : List UInt8 → Option (Tr × List UInt8)) (n : Nat) (w : World) (R G m : Nat) (l : List UInt8) (k : Nat) (wr : World) (xs : List (Tr × Value)) (off cap : Nat) (r : List UInt8) : Prop where
  rd : Rd wr R G off cap r
  short : r.length ≤ 1000000000
  eq : decL D m l = (decL D (m - k) r).map fun y => (xs.map Prod.fst ++ y.1, y.2)
  vs : ∀ x ∈ xs, VsB (w.heap.size + 1 ≤ ·) wr n x.1 x.2

set_option maxRecDepth 20000 in
set_option maxHeartbeats 2000000 in
theorem list_any (room : Nat) (ih : ValAt room) (hdec : ∀ l t r, dec room l = some (t, r) → r.length ≤ l.length) (w : World) (R G off cap : Nat) (l : List UInt8) (h : Rd w R G off cap l) (m : Nat) (hm : m ≤ 4096) (hl : l.length ≤ 1000000000) :
    Calls Tryz.prog 118 #[.pointer (some ⟨R, 0, none⟩), .int .i64 (m : Int), .int .i64 (room : Int)] w fun e w' => Tu R w w' ∧ LstP w R G (room + 1) e w' (decL (dec room) m l) := by
  by_cases h0 : m = 0
  · subst h0
    refine (list_nil w R _).mono ?_
    rintro e w' ⟨rfl, rfl⟩
    exact ⟨Tu.refl _ _, _, rfl, ⟨none, 0, rfl, Nat.le_refl _, Nat.zero_le _, fun h => absurd h (Nat.lt_irrefl 0)⟩, _, _, h⟩
  obtain ⟨i5, z5, hi5, hz5, hz5c, hs5, hb5⟩ := zeroV
  have hmk : (Instr.makeSlice 22 (.int .i64 0) (.int .i64 (m : Int))).run Tryz.prog w = .ok (.slice (some ⟨w.heap.size, 0, none⟩) 0 m) (w.alloc (.cells (madeCells #[.int .i64 0, .bool false, .int .i64 0, .string ⟨#[]⟩, .slice none 0 0] (m * 5)) 28)) := by
    have := run_make (P := Tryz.prog) w 22 28 i5 z5 Tryz.underlying22 hi5 hz5 .i64 .i64 0 m (by omega) (by omega) (by rw [hb5]; omega) (by omega)
    rw [hz5c, hs5] at this
    simpa using this
  have hown0 : (w.alloc (.cells (madeCells #[.int .i64 0, .bool false, .int .i64 0, .string ⟨#[]⟩, .slice none 0 0] (m * 5)) 28)).ownsRow w.heap.size 28 5 (.slice (some ⟨w.heap.size, 0, none⟩) 0 m) 0 [] := World.ownsRow_made w _ m (Nat.le_refl _) (by unfold maxLen; omega) (size_madeCells _ _)
  have hG0 : G < w.heap.size := h.ltG
  have hR0 : R < w.heap.size := h.lt
  have H0 := Hid.intro (h.below (w' := w.alloc (.cells (madeCells #[.int .i64 0, .bool false, .int .i64 0, .string ⟨#[]⟩, .slice none 0 0] (m * 5)) 28)) (below_al (Below.refl _ _) _))
  have HT0 := Hid.intro (Tu.below (R := R) (below_al (Below.refl w.heap.size w) (.cells (madeCells #[.int .i64 0, .bool false, .int .i64 0, .string ⟨#[]⟩, .slice none 0 0] (m * 5)) 28)))
  have HO0 := Hid.intro hown0
  have hI := Hid.intro (And.intro hi5 hs5)
  have hmz : ((m : Int) == 0) = false := by simp; omega
  clear h hown0 hz5 hz5c hs5 hb5
  go_enter Tryz.func118, Tryz.ntmps118
  go_wp2_with fail
  go_loopw [7, 13] (fun u i wr => ∃ (k : Nat) (xs : List (Tr × Value)), i = .int .i64 (k : Int) ∧ k ≤ m ∧ u = .slice (some ⟨w.heap.size, 0, none⟩) k m ∧ xs.length = k ∧ Hid (Tu R w wr) ∧ w.heap.size < wr.heap.size ∧ Hid (wr.ownsRow w.heap.size 28 5 (.slice (some ⟨w.heap.size, 0, none⟩) k m) k (xs.flatMap cl5)) ∧
    ((∃ off cap r, Hid (Got (dec room) (room + 1) w R G m l k wr xs off cap r)) ∨ Hid (Bd wr R ∧ decL (dec room) m l = none))) (fun _ i _ => m - (intOf i).toNat)
  case atStart => exact ⟨0, [], rfl, Nat.zero_le _, rfl, rfl, HT0, by simp, HO0, .inl ⟨off, cap, l, Hid.intro ⟨H0.out, hl, by simp, fun x hx => by simp at hx⟩⟩⟩
  case round =>
    obtain ⟨k, xs, rfl, hk, rfl, hxl, hT, hgs, hO, hst⟩ := hrel
    by_cases hlt : (k : Int) < (m : Int)
    · rcases hst with ⟨o1, k1, r, HG⟩ | HB
      · have c1 := HG.out.rd.c1
        have HC := Hid.intro (ih wr R G o1 k1 r HG.out.rd HG.out.short)
        go_wp2_with fail
        refine HC.out.mono ?_
        rintro e w3 ⟨h3, hv⟩
        have hO3 := Hid.intro (own_keep (w' := w3) hO.out (h3.block w.heap.size hgs (by omega)))
        have hT3 := Hid.intro (hT.out.trans h3)
        have hs3 : w.heap.size < w3.heap.size := Nat.lt_of_lt_of_le hgs h3.size
        have hkept := h3.kept (g := w.heap.size + 1) (by omega)
        have hlt' : k < m := by omega
        cases hd : dec room r with
        | none =>
          rw [hd] at hv
          obtain ⟨⟨k', b', i', s', p', m', c', rfl⟩, hb⟩ := hv
          have hnone := decL_none HG.out.eq hlt' hd
          have HB3 := Hid.intro hb
          clear HC c1 hb hd h3 HG hkept ih hdec
          go_wp2_with (at_builtin; refine wpList_append_own_spare _ rfl _ _ 22 rfl w.heap.size 28 i5 5 Tryz.underlying22 hI.out.1 hI.out.2 w.heap.size k m _ rfl (hO3.out.alloc _) ⟨w3.heap.size, 0, none⟩ 1 1 [.int .i64 k', .bool b', .int .i64 i', .string s', .slice p' m' c'] rfl rfl ?c1 ?c2 ?c3 ?_)
          case c1 => exact new_row _ _ _
          case c2 => intro u hu; simp at hu; rcases hu with rfl | rfl | rfl | rfl | rfl <;> rfl
          case c3 => omega
          intro w4 hown4 hgrow4
          have hA := below_al (Below.refl w3.heap.size w3) (.cells #[.int .i64 k', .bool b', .int .i64 i', .string s', .slice p' m' c'] 28)
          have hT4 := Hid.intro (grown_tu (hT3.out.trans (Tu.below hA)) hgrow4 (Nat.le_refl _))
          have hB4 := Hid.intro ((HB3.out.below hA).grown hgrow4 (by omega))
          have hs4 : w.heap.size < w4.heap.size := by have := hgrow4.size; have := hA.size; omega
          have hO4 : Hid (w4.ownsRow w.heap.size 28 5 (.slice (some ⟨w.heap.size, 0, none⟩) (k + 1) m) (k + 1) ((xs ++ [((⟨k', b', i', s', []⟩ : Tr), Value.slice p' m' c')]).flatMap cl5)) := by
            refine Hid.intro ?_
            rw [List.flatMap_append]
            simpa [cl5] using hown4
          clear hown4 hgrow4 hA
          go_wp2_with fail
          go_roundw
          case rel => exact ⟨k + 1, xs ++ [((⟨k', b', i', s', []⟩ : Tr), Value.slice p' m' c')], by go_num, hlt', rfl, by simp [hxl], hT4, hs4, hO4, .inr (Hid.intro ⟨hB4.out, hnone⟩)⟩
          case measure => simp [intOf]; omega
        | some x =>
          obtain ⟨t, r'⟩ := x
          rw [hd] at hv
          obtain ⟨sv, rfl, hvs, off', cap', hrd⟩ := hv
          dsimp only at hvs hrd
          obtain ⟨xa, xc, rfl, -, -⟩ := hvs.vs.form
          have hsome := decL_some HG.out.eq hlt' hd
          have hrs := Nat.le_trans (hdec _ _ _ hd) HG.out.short
          have hold := fun x hx => VsB.move hkept (fun b (hb : w.heap.size + 1 ≤ b) => hb) _ _ _ (HG.out.vs x hx)
          have hnew := VsB.move (w := w3) (w' := w3) (P := (wr.heap.size ≤ ·)) (Q := (w.heap.size + 1 ≤ ·)) (fun _ _ _ _ => rfl) (fun b hb => by omega) _ _ _ hvs
          have HV := Hid.intro (And.intro hold hnew)
          have HR3 := Hid.intro hrd
          clear HC c1 hd h3 HG hkept ih hdec hold hnew hrd hvs
          obtain ⟨tk, tb, ti, tz, tl⟩ := t
          unfold vv
          go_wp2_with (at_builtin; refine wpList_append_own_spare _ rfl _ _ 22 rfl w.heap.size 28 i5 5 Tryz.underlying22 hI.out.1 hI.out.2 w.heap.size k m _ rfl (hO3.out.alloc _) ⟨w3.heap.size, 0, none⟩ 1 1 [.int .i64 tk, .bool tb, .int .i64 ti, .string tz, .slice xa tl.length xc] rfl rfl ?c1 ?c2 ?c3 ?_)
          case c1 => exact new_row _ _ _
          case c2 => intro u hu; simp at hu; rcases hu with rfl | rfl | rfl | rfl | rfl <;> rfl
          case c3 => omega
          intro w4 hown4 hgrow4
          have hA := below_al (Below.refl w3.heap.size w3) (.cells #[.int .i64 tk, .bool tb, .int .i64 ti, .string tz, .slice xa tl.length xc] 28)
          have hT4 := Hid.intro (grown_tu (hT3.out.trans (Tu.below hA)) hgrow4 (Nat.le_refl _))
          have hR4 := (HR3.out.below hA).grown hgrow4 (by omega) (by omega)
          have hs4 : w.heap.size < w4.heap.size := by have := hgrow4.size; have := hA.size; omega
          have hkA : Kept (w.heap.size + 1 ≤ ·) w3 w4 := fun b hb hlt o => by
            have h1 := hA.cell (p := ⟨b, o, none⟩) hlt
            rw [grown_kept hgrow4 b hb (Nat.lt_of_lt_of_le hlt hA.size) o, h1]
          have hO4 : Hid (w4.ownsRow w.heap.size 28 5 (.slice (some ⟨w.heap.size, 0, none⟩) (k + 1) m) (k + 1) ((xs ++ [((⟨tk, tb, ti, tz, tl⟩ : Tr), Value.slice xa tl.length xc)]).flatMap cl5)) := by
            refine Hid.intro ?_
            rw [List.flatMap_append]
            simpa [cl5] using hown4
          have hG4 : Hid (Got (dec room) (room + 1) w R G m l (k + 1) w4 (xs ++ [((⟨tk, tb, ti, tz, tl⟩ : Tr), Value.slice xa tl.length xc)]) off' cap' r') := Hid.intro ⟨hR4, hrs, by rw [hsome]; simp, fun x hx => by
            rcases List.mem_append.1 hx with hx | hx
            · exact VsB.move hkA (fun b hb => hb) _ _ _ (HV.out.1 x hx)
            · simp at hx
              subst hx
              exact VsB.move hkA (fun b hb => hb) _ _ _ HV.out.2⟩
          clear hown4 hgrow4 hA hR4 hkA HV hsome
          go_wp2_with fail
          go_roundw
          case rel => exact ⟨k + 1, xs ++ [((⟨tk, tb, ti, tz, tl⟩ : Tr), Value.slice xa tl.length xc)], by go_num, hlt', rfl, by simp [hxl], hT4, hs4, hO4, .inl ⟨off', cap', r', hG4⟩⟩
          case measure => simp [intOf]; omega
      · have c1 := HB.out.1.c1
        go_wp2_with fail
        go_ret
        refine ⟨hT.out, ?_⟩
        rw [HB.out.2]
        exact ⟨⟨_, _, _, rfl⟩, HB.out.1⟩
    · obtain rfl : k = m := by omega
      rcases hst with ⟨o1, k1, r, HG⟩ | HB
      · go_wp2_with fail
        go_ret
        refine ⟨hT.out, ?_⟩
        have he := HG.out.eq
        rw [Nat.sub_self] at he
        have he2 : decL (dec room) k l = some (xs.map Prod.fst, r) := by rw [he]; simp [decL]
        rw [he2]
        refine ⟨_, rfl, ?_, _, _, HG.out.rd⟩
        have := own_lvb (P := (w.heap.size ≤ ·)) (n := room + 1) hO.out hxl hk (by omega) (fun x hx => VsB.move (fun _ _ _ _ => rfl) (fun b hb => by omega) _ _ _ (HG.out.vs x hx)) (Nat.le_refl _)
        exact this
      · go_wp2_with fail
        go_ret
        refine ⟨hT.out, ?_⟩
        rw [HB.out.2]
        exact ⟨⟨_, _, _, rfl⟩, HB.out.1⟩
end Go.Proofs.YtciibcfmlhbnkaaGreatDoor
