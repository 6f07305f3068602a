/- What is read as data is a value that lies in memory. -/
import Derived.Test.YtciibcfmlhbnkaaGreatDoorTree
import Derived.Deep.Slices
namespace Go.Proofs.YtciibcfmlhbnkaaGreatDoor
open Go.RowKit Go.Deep

theorem Vs.succ {w : World} : ∀ {n : Nat} {t : Tr} {sv : Value}, Vs w n t sv → Vs w (n + 1) t sv
  | 0, _, _, h => h.elim
  | _ + 1, _, _, h => ⟨h.1, h.2.mono (Below.refl _ _) (fun _ _ => Vs.succ)⟩

theorem cellsV : Tryz.prog.cellsOf 28 = 5 := by kernel_rfl
theorem cellsI : Tryz.prog.cellsOf 3 = 1 := by kernel_rfl
theorem cellsB : Tryz.prog.cellsOf 4 = 1 := by kernel_rfl
theorem cellsJ : Tryz.prog.cellsOf 2 = 1 := by kernel_rfl
theorem cellsT : Tryz.prog.cellsOf 9 = 1 := by kernel_rfl
theorem cellsL : Tryz.prog.cellsOf 22 = 1 := by kernel_rfl

theorem wf_i64 {n : Int} (h : (Lit.int .i64 n).wf = true) : -9223372036854775808 ≤ n ∧ n ≤ 9223372036854775807 := by
  simpa [Lit.wf, IntKind.min, IntKind.max, IntKind.signed, IntKind.bits] using h

section
variable {H : Type} {enc : TypeId × Value → H} {W : World} {spare : Nat → Bool}

/-- A slice of values is read: each value is. -/
theorem read_list (f : Nat) (ih : ∀ m, m < f → ∀ (cs : List Value) (x : DataW H × List MemPlace), DataW.trod enc Tryz.prog W 0 spare true m 28 cs = some x → ∃ t sv, cs = [.int .i64 t.k, .bool t.b, .int .i64 t.i, .string t.s, sv] ∧ Vs W m t sv)
    (cs : List Value) (x : DataW H × List MemPlace) (h : DataW.trod enc Tryz.prog W 0 spare true f 22 cs = some x) :
    ∃ ts sv, cs = [sv] ∧ Lv W (Vs W f) ts sv := by
  rcases DataW.trod_slice Tryz.underlying22 h with ⟨rfl, _⟩ | ⟨a, len, cap, elems, rest, n, rfl, rfl, _, hb, hl, hm, hel, he, _, _⟩
  · exact ⟨[], _, rfl, none, 0, rfl, Nat.le_refl _, Nat.zero_le _, fun h => absurd h (Nat.lt_irrefl 0)⟩
  · have key : ∀ i, i < len → ∃ p : Tr × Value, (∀ c, c < 5 → W.cell? (a.add (i * 5 + c)) = [Value.int .i64 p.1.k, .bool p.1.b, .int .i64 p.1.i, .string p.1.s, p.2][c]?) ∧ Vs W (n + 1) p.1 p.2 := by
      intro i hi
      have e := he i hi
      rw [List.getElem?_eq_getElem (by omega)] at e
      obtain ⟨cs', h1, h2⟩ := Option.bind_eq_some_iff.1 e
      obtain ⟨t, sv, rfl, hv⟩ := ih n (Nat.lt_succ_self n) _ _ h2
      obtain ⟨_, _, hc⟩ := World.cells?_some h1
      rw [cellsV] at hc
      refine ⟨(t, sv), fun c hc' => ?_, hv.succ⟩
      have := hc c hc'
      rwa [add_add] at this
    obtain ⟨T, hT⟩ := @choose_lt (Tr × Value) ⟨(⟨0, false, 0, ⟨#[]⟩, []⟩, .nilIface)⟩ len _ key
    refine ⟨(List.range len).map (fun i => (T i).1), _, rfl, some a, cap, by simp, by simpa using hl, hm, fun h0 => ?_⟩
    simp only [List.length_map, List.length_range] at h0
    have hspot : a.spot = none := by
      have := (hT 0 h0).1 0 (by omega)
      simp [Addr.add] at this
      unfold World.cell? at this
      split at this
      · split at this
        · cases this
        · cases hs : a.spot with
          | none => rfl
          | some q => rename_i hn; simp [hs] at hn
      · cases this
    refine ⟨a.block, a.off, by cases a; simp at hspot; subst hspot; rfl, fun j hj => ?_⟩
    simp only [List.length_map, List.length_range] at hj
    simp only [List.getElem_map, List.getElem_range]
    refine ⟨(T j).2, ?_, (hT j hj).2⟩
    have hc := (hT j hj).1
    have ha : ∀ c, a.add (j * 5 + c) = ⟨a.block, a.off + j * 5 + c, none⟩ := by
      intro c
      unfold Addr.add
      split
      · rename_i h0
        have e1 : j = 0 := by omega
        have e2 : c = 0 := by omega
        subst e1; subst e2
        cases a; simp at hspot; subst hspot; rfl
      · simp
    simp only [ha] at hc
    exact ⟨by simpa using hc 0 (by omega), by simpa using hc 1 (by omega), by simpa using hc 2 (by omega), by simpa using hc 3 (by omega), by simpa using hc 4 (by omega)⟩

theorem five {cs : List Value} (h : cs.length = 5) : ∃ c0 c1 c2 c3 c4, cs = [c0, c1, c2, c3, c4] := by
  match cs, h with
  | [c0, c1, c2, c3, c4], _ => exact ⟨c0, c1, c2, c3, c4, rfl⟩

theorem read_val : ∀ (f : Nat) (cs : List Value) (x : DataW H × List MemPlace), DataW.trod enc Tryz.prog W 0 spare true f 28 cs = some x → ∃ t sv, cs = [.int .i64 t.k, .bool t.b, .int .i64 t.i, .string t.s, sv] ∧ Vs W f t sv := by
  intro f
  induction f using Nat.strongRecOn with
  | ind f ih =>
    intro cs x h
    obtain ⟨xs, n, rfl, _, hlen, hxl, hf⟩ := DataW.trod_struct Tryz.underlying28 h
    rw [cellsV] at hlen
    obtain ⟨c0, c1, c2, c3, c4, rfl⟩ := five hlen
    have hx : xs.length = 5 := hxl
    have f0 : DataW.trod enc Tryz.prog W 0 spare true n 3 (([c0, c1, c2, c3, c4].drop 0).take (Tryz.prog.cellsOf 3)) = xs[0]? := hf 0 _ rfl
    have f1 : DataW.trod enc Tryz.prog W 0 spare true n 4 (([c0, c1, c2, c3, c4].drop 1).take (Tryz.prog.cellsOf 4)) = xs[1]? := hf 1 _ rfl
    have f2 : DataW.trod enc Tryz.prog W 0 spare true n 2 (([c0, c1, c2, c3, c4].drop 2).take (Tryz.prog.cellsOf 2)) = xs[2]? := hf 2 _ rfl
    have f3 : DataW.trod enc Tryz.prog W 0 spare true n 9 (([c0, c1, c2, c3, c4].drop 3).take (Tryz.prog.cellsOf 9)) = xs[3]? := hf 3 _ rfl
    have f4 : DataW.trod enc Tryz.prog W 0 spare true n 22 (([c0, c1, c2, c3, c4].drop 4).take (Tryz.prog.cellsOf 22)) = xs[4]? := hf 4 _ rfl
    rw [List.getElem?_eq_getElem (by omega)] at f0 f1 f2 f3 f4
    simp only [cellsI, cellsB, cellsJ, cellsT, cellsL, List.drop_succ_cons, List.drop_zero, List.take_succ_cons, List.take_zero] at f0 f1 f2 f3 f4
    obtain ⟨k, e0, _, w0⟩ := DataW.trod_int Tryz.underlying3 f0
    obtain ⟨b, e1, _⟩ := DataW.trod_bool Tryz.underlying4 f1
    obtain ⟨i, e2, _, w2⟩ := DataW.trod_int Tryz.underlying2 f2
    obtain ⟨s, e3, _, w3⟩ := DataW.trod_string Tryz.underlying9 f3
    obtain ⟨ts, sv, e4, hl⟩ := read_list n (fun m hm => ih m (by omega)) _ _ f4
    simp at e0 e1 e2 e3 e4
    subst e0 e1 e2 e3 e4
    exact ⟨⟨k, b, i, s, ts⟩, _, rfl, ⟨(wf_i64 w0).1, (wf_i64 w0).2, (wf_i64 w2).1, (wf_i64 w2).2, w3⟩, hl⟩

theorem read_vals (f : Nat) (cs : List Value) (x : DataW H × List MemPlace) (h : DataW.trod enc Tryz.prog W 0 spare true f 22 cs = some x) :
    ∃ ts sv, cs = [sv] ∧ Lv W (Vs W f) ts sv := read_list f (fun m _ => read_val m) cs x h
end
end Go.Proofs.YtciibcfmlhbnkaaGreatDoor
