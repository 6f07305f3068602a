/- What is read as data, and how long its text may be. -/
import Derived.Test.YtciibcfmlhbnkaaGreatDoorRead
import Derived.Test.YtciibcfmlhbnkaaGreatDoorRows
import Derived.Test.YtciibcfmlhbnkaaGreatDoorTTxt
namespace Go.Proofs.YtciibcfmlhbnkaaGreatDoor
open Go.RowKit Go.Deep

theorem nd_le : ∀ (d u : Nat), u < 10 ^ (d + 1) → Lib.nDigits u ≤ d + 1
  | 0, u, h => by rw [Lib.nDigits_small (by simpa using h)]; exact Nat.le_refl _
  | d + 1, u, h => by
    by_cases h9 : u < 10
    · rw [Lib.nDigits_small h9]; omega
    · rw [Lib.nDigits_big h9]
      have := nd_le d (u / 10) (by rw [Nat.pow_succ] at h; omega)
      omega
theorem itoa_le {i : Int} (h0 : -9223372036854775808 ≤ i) (h1 : i ≤ 9223372036854775807) : (Lib.itoa i).length ≤ 21 := by
  unfold Lib.itoa
  split
  · rw [List.length_cons, Lib.decDigits_length]
    have := nd_le 18 i.natAbs (by simp; omega)
    omega
  · rw [Lib.decDigits_length]
    have := nd_le 18 i.toNat (by simp; omega)
    omega
/-- How long a value's text may be, and what stands between. -/
def tz (q : Nat) (t : Tr) : Nat := (txt q t).length + 2
theorem sepB_len (l : List (List UInt8)) : (sepB l).length ≤ (l.map fun y => y.length + 2).sum := by
  cases l with
  | nil => simp [sepB]
  | cons x xs =>
    have h : ∀ l : List (List UInt8), (l.flatMap fun y => 44 :: 32 :: y).length = (l.map fun y => y.length + 2).sum := fun l => by
      induction l with
      | nil => rfl
      | cons a l ih => simp only [List.flatMap_cons, List.length_append, List.length_cons, List.map_cons, List.sum_cons, ih]
    rw [sepB, List.length_append, h, List.map_cons, List.sum_cons]
    omega
theorem txt_bound (q : Nat) (k : Int) (b : Bool) (i : Int) (s : ByteArray) (ts : List Tr) (h0 : -9223372036854775808 ≤ i) (h1 : i ≤ 9223372036854775807) : tz (q + 1) ⟨k, b, i, s, ts⟩ ≤ 29 + 2 * s.size + (ts.map (tz q)).sum := by
  have hz : s.data.toList.length = s.size := Array.length_toList
  have hi := itoa_le h0 h1
  have hq := quoB_le s.data.toList
  have hs := sepB_len (ts.map (txt q))
  rw [List.map_map] at hs
  have e : ((fun y : List UInt8 => y.length + 2) ∘ txt q) = tz q := rfl
  rw [e] at hs
  have hb : (boolB b).length ≤ 5 := by cases b <;> decide
  show (txt (q + 1) ⟨k, b, i, s, ts⟩).length + 2 ≤ _
  rw [txt]
  simp only
  split
  · simp; omega
  split
  · omega
  split
  · omega
  split
  · omega
  split
  · rw [List.length_cons]; omega
  · rw [List.length_cons, List.length_append, List.length_singleton]; omega
theorem tz_part (q : Nat) {t : Tr} : ∀ {ts : List Tr}, t ∈ ts → tz q t ≤ (ts.map (tz q)).sum
  | [], h => by cases h
  | x :: xs, h => by
    rw [List.map_cons, List.sum_cons]
    rcases List.mem_cons.1 h with rfl | h
    · omega
    · have := tz_part q h
      omega
theorem sum_bulk {H : Type} (q : Nat) : ∀ (ts : List Tr) (ds : List (DataW H)), ts.length = ds.length → (∀ i (h1 : i < ts.length) (h2 : i < ds.length), tz q ts[i] ≤ 29 * Rows.uptoBulk ds[i]) → (ts.map (tz q)).sum ≤ 29 * Rows.uptoBulkAll ds
  | [], _, _, _ => by simp
  | _ :: _, [], h, _ => by cases h
  | t :: ts, d :: ds, h, hi => by
    rw [List.map_cons, List.sum_cons]
    simp only [Rows.uptoBulkAll]
    have h0 := hi 0 (by simp) (by simp)
    have h1 := sum_bulk q ts ds (by simpa using h) (fun i h1 h2 => hi (i + 1) (by simp; omega) (by simp; omega))
    simp only [List.getElem_cons_zero] at h0
    omega

section
variable {H : Type} {enc' : TypeId × Value → H} {W : World} {spare : Nat → Bool}

/-- A slice of values is read: each value is. -/
theorem read_list_t (f : Nat) (ih : ∀ m, m < f → ∀ (cs : List Value) (x : DataW H × List MemPlace), DataW.trod enc' Tryz.prog W 0 spare true m 28 cs = some x → ∃ t sv, cs = [.int .i64 t.k, .bool t.b, .int .i64 t.i, .string t.s, sv] ∧ Vs W m t sv ∧ ∀ q, tz q t ≤ 29 * Rows.uptoBulk x.1)
    (cs : List Value) (x : DataW H × List MemPlace) (h : DataW.trod enc' Tryz.prog W 0 spare true f 22 cs = some x) :
    ∃ ts sv, cs = [sv] ∧ Lv W (Vs W f) ts sv ∧ (∀ q, (ts.map (tz q)).sum + 1 ≤ 29 * Rows.uptoBulk x.1) ∧ ∀ t ∈ ts, ∀ q, tz q t ≤ 29 * Rows.uptoBulk x.1 := by
  rcases DataW.trod_slice Tryz.underlying22 h with ⟨rfl, rfl⟩ | ⟨a, len, cap, elems, rest, n, rfl, rfl, rfl, hb, hl, hm, hel, he, _, _⟩
  · exact ⟨[], _, rfl, ⟨none, 0, rfl, Nat.le_refl _, Nat.zero_le _, fun h => absurd h (Nat.lt_irrefl 0)⟩, fun q => by simp [Rows.uptoBulk], fun t ht => by cases ht⟩
  · have key : ∀ i, i < len → ∃ p : Tr × Value, (∀ c, c < 5 → W.cell? (a.add (i * 5 + c)) = [Value.int .i64 p.1.k, .bool p.1.b, .int .i64 p.1.i, .string p.1.s, p.2][c]?) ∧ Vs W (n + 1) p.1 p.2 ∧ ∀ (hi : i < elems.length) q, tz q p.1 ≤ 29 * Rows.uptoBulk elems[i].1 := by
      intro i hi
      have e := he i hi
      rw [List.getElem?_eq_getElem (by omega)] at e
      obtain ⟨cs', h1, h2⟩ := Option.bind_eq_some_iff.1 e
      obtain ⟨t, sv, rfl, hv, hq⟩ := ih n (Nat.lt_succ_self n) _ _ h2
      obtain ⟨_, _, hc⟩ := World.cells?_some h1
      rw [cellsV] at hc
      refine ⟨(t, sv), fun c hc' => ?_, hv.succ, fun _ => hq⟩
      have := hc c hc'
      rwa [add_add] at this
    obtain ⟨T, hT⟩ := @choose_lt (Tr × Value) ⟨(⟨0, false, 0, ⟨#[]⟩, []⟩, .nilIface)⟩ len _ key
    have hq1 : ∀ q, (((List.range len).map (fun i => (T i).1)).map (tz q)).sum ≤ 29 * Rows.uptoBulkAll (elems.map (·.1)) := fun q => by
      refine sum_bulk q _ _ (by simp [hel]) (fun i h1 h2 => ?_)
      simp only [List.getElem_map, List.getElem_range]
      exact (hT i (by simpa using h1)).2.2 (by simpa using h2) q
    refine ⟨(List.range len).map (fun i => (T i).1), _, rfl, ⟨some a, cap, by simp, by simpa using hl, hm, fun h0 => ?_⟩, fun q => ?_, fun t ht q => ?_⟩
    rotate_left
    · have := hq1 q
      simp only [Rows.uptoBulk]
      omega
    · have h1 := tz_part q ht
      have := hq1 q
      simp only [Rows.uptoBulk]
      omega
    simp only [List.length_map, List.length_range] at h0
    have hspot : a.spot = none := by
      have := (hT 0 h0).1 0 (by omega)
      simp [Addr.add] at this
      unfold World.cell? at this
      split at this
      · split at this
        · cases this
        · cases hs : a.spot with
          | none => rfl
          | some q => rename_i hn; simp [hs] at hn
      · cases this
    refine ⟨a.block, a.off, by cases a; simp at hspot; subst hspot; rfl, fun j hj => ?_⟩
    simp only [List.length_map, List.length_range] at hj
    simp only [List.getElem_map, List.getElem_range]
    refine ⟨(T j).2, ?_, (hT j hj).2.1⟩
    have hc := (hT j hj).1
    have ha : ∀ c, a.add (j * 5 + c) = ⟨a.block, a.off + j * 5 + c, none⟩ := by
      intro c
      unfold Addr.add
      split
      · rename_i h0
        have e1 : j = 0 := by omega
        have e2 : c = 0 := by omega
        subst e1; subst e2
        cases a; simp at hspot; subst hspot; rfl
      · simp
    simp only [ha] at hc
    exact ⟨hc 0 (by omega), hc 1 (by omega), hc 2 (by omega), hc 3 (by omega), hc 4 (by omega)⟩

theorem read_val_t : ∀ (f : Nat) (cs : List Value) (x : DataW H × List MemPlace), DataW.trod enc' Tryz.prog W 0 spare true f 28 cs = some x → ∃ t sv, cs = [.int .i64 t.k, .bool t.b, .int .i64 t.i, .string t.s, sv] ∧ Vs W f t sv ∧ ∀ q, tz q t ≤ 29 * Rows.uptoBulk x.1 := by
  intro f
  induction f using Nat.strongRecOn with
  | ind f ih =>
    intro cs x h
    obtain ⟨xs, n, rfl, rfl, hlen, hxl, hf⟩ := DataW.trod_struct Tryz.underlying28 h
    rw [cellsV] at hlen
    obtain ⟨c0, c1, c2, c3, c4, rfl⟩ := five hlen
    have hx : xs.length = 5 := hxl
    have f0 : DataW.trod enc' Tryz.prog W 0 spare true n 3 (([c0, c1, c2, c3, c4].drop 0).take (Tryz.prog.cellsOf 3)) = xs[0]? := hf 0 _ rfl
    have f1 : DataW.trod enc' Tryz.prog W 0 spare true n 4 (([c0, c1, c2, c3, c4].drop 1).take (Tryz.prog.cellsOf 4)) = xs[1]? := hf 1 _ rfl
    have f2 : DataW.trod enc' Tryz.prog W 0 spare true n 2 (([c0, c1, c2, c3, c4].drop 2).take (Tryz.prog.cellsOf 2)) = xs[2]? := hf 2 _ rfl
    have f3 : DataW.trod enc' Tryz.prog W 0 spare true n 9 (([c0, c1, c2, c3, c4].drop 3).take (Tryz.prog.cellsOf 9)) = xs[3]? := hf 3 _ rfl
    have f4 : DataW.trod enc' Tryz.prog W 0 spare true n 22 (([c0, c1, c2, c3, c4].drop 4).take (Tryz.prog.cellsOf 22)) = xs[4]? := hf 4 _ rfl
    rw [List.getElem?_eq_getElem (by omega)] at f0 f1 f2 f3 f4
    simp only [cellsI, cellsB, cellsJ, cellsT, cellsL, List.drop_succ_cons, List.drop_zero, List.take_succ_cons, List.take_zero] at f0 f1 f2 f3 f4
    obtain ⟨k, e0, _, w0⟩ := DataW.trod_int Tryz.underlying3 f0
    obtain ⟨b, e1, _⟩ := DataW.trod_bool Tryz.underlying4 f1
    obtain ⟨i, e2, _, w2⟩ := DataW.trod_int Tryz.underlying2 f2
    obtain ⟨s, e3, x3, w3⟩ := DataW.trod_string Tryz.underlying9 f3
    obtain ⟨ts, sv, e4, hl, hq, -⟩ := read_list_t n (fun m hm => ih m (by omega)) _ _ f4
    simp at e0 e1 e2 e3 e4
    subst e0 e1 e2 e3 e4
    refine ⟨⟨k, b, i, s, ts⟩, _, rfl, ⟨⟨(wf_i64 w0).1, (wf_i64 w0).2, (wf_i64 w2).1, (wf_i64 w2).2, w3⟩, hl⟩, fun q => ?_⟩
    have hbk : s.size + 1 + Rows.uptoBulk (xs[4]'(by omega)).1 + 1 ≤ Rows.uptoBulk (DataW.agg (xs.map (·.1))) := by
      match xs, hx with
      | [y0, y1, y2, y3, y4], _ =>
        simp at x3
        subst x3
        simp [Rows.uptoBulk, Rows.uptoBulkAll]
        omega
    show _ ≤ 29 * Rows.uptoBulk (DataW.agg (xs.map (·.1)))
    cases q with
    | zero => simp [tz, txt]; omega
    | succ q =>
      have h1 := hq q
      have h2 := txt_bound q k b i s ts (wf_i64 w2).1 (wf_i64 w2).2
      omega

theorem read_vals_t (f : Nat) (cs : List Value) (x : DataW H × List MemPlace) (h : DataW.trod enc' Tryz.prog W 0 spare true f 22 cs = some x) :
    ∃ ts sv, cs = [sv] ∧ Lv W (Vs W f) ts sv ∧ (∀ q, (ts.map (tz q)).sum + 1 ≤ 29 * Rows.uptoBulk x.1) ∧ ∀ t ∈ ts, ∀ q, tz q t ≤ 29 * Rows.uptoBulk x.1 := read_list_t f (fun m _ => read_val_t m) cs x h
end
end Go.Proofs.YtciibcfmlhbnkaaGreatDoor
