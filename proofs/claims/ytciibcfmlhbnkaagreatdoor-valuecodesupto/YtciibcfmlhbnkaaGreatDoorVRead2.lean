/- What is read as data is a list of rows of bytes. -/
import Derived.Test.YtciibcfmlhbnkaaGreatDoorVRead
import Derived.Test.YtciibcfmlhbnkaaGreatDoorVDec1
namespace Go.Proofs.YtciibcfmlhbnkaaGreatDoor
open Go.RowKit Go.Deep

/-- A slice of bytes; a slice of these. -/
def ByV (w : World) (l : List UInt8) (sv : Value) : Prop :=
  ∃ (p : Option Addr) (cap : Nat), sv = .slice p l.length cap ∧ l.length ≤ cap ∧ cap ≤ maxLen ∧ (0 < l.length → ∃ b o, p = some ⟨b, o, none⟩ ∧ b < w.heap.size ∧ Bys w b o l)
def ByL (w : World) (ls : List (List UInt8)) (sv : Value) : Prop :=
  ∃ (p : Option Addr) (cap : Nat), sv = .slice p ls.length cap ∧ ls.length ≤ cap ∧ cap ≤ maxLen ∧ (0 < ls.length → ∃ b o, p = some ⟨b, o, none⟩ ∧ b < w.heap.size ∧ ∀ j (h : j < ls.length), ∃ s, w.cell? ⟨b, o + j, none⟩ = some s ∧ ByV w ls[j] s)
theorem cells1 : Tryz.prog.cellsOf 5 = 1 := by kernel_rfl
theorem cellsY : Tryz.prog.cellsOf 50 = 1 := by kernel_rfl
theorem wf_u8 {n : Int} (h : (Lit.int .u8 n).wf = true) : 0 ≤ n ∧ n ≤ 255 := by
  simpa [Lit.wf, IntKind.min, IntKind.max, IntKind.signed, IntKind.bits] using h
theorem spot_nil {W : World} {a : Addr} {v : Value} (this : W.cell? a = some v) : a.spot = none ∧ a.block < W.heap.size := by
  unfold World.cell? at this
  split at this
  · next ho =>
    refine ⟨?_, (Array.getElem?_eq_some_iff.1 ho).1⟩
    split at this
    · cases this
    · cases hs : a.spot with
      | none => rfl
      | some q => rename_i hn; simp [hs] at hn
  · cases this
theorem add_to {a : Addr} (h : a.spot = none) (j : Nat) : a.add j = ⟨a.block, a.off + j, none⟩ := by
  cases a
  simp at h
  subst h
  simp [Addr.add]

section
variable {H : Type} {enc' : TypeId × Value → H} {W : World} {spare : Nat → Bool}

theorem read_byte (f : Nat) (cs : List Value) (x : DataW H × List MemPlace) (h : DataW.trod enc' Tryz.prog W 0 spare true f 5 cs = some x) : ∃ c : UInt8, cs = [.int .u8 (c.toNat : Int)] := by
  obtain ⟨n, e, -, hw⟩ := DataW.trod_int Tryz.underlying5 h
  have := wf_u8 hw
  refine ⟨UInt8.ofNat n.toNat, ?_⟩
  rw [e, UInt8.toNat_ofNat']
  congr 2
  omega
theorem read_bys (f : Nat) (cs : List Value) (x : DataW H × List MemPlace) (h : DataW.trod enc' Tryz.prog W 0 spare true f 50 cs = some x) : ∃ l sv, cs = [sv] ∧ ByV W l sv := by
  rcases DataW.trod_slice Tryz.underlying50 h with ⟨rfl, _⟩ | ⟨a, len, cap, elems, rest, n, rfl, rfl, _, hb, hl, hm, hel, he, _, _⟩
  · exact ⟨[], _, rfl, none, 0, rfl, Nat.le_refl _, Nat.zero_le _, fun h => absurd h (Nat.lt_irrefl 0)⟩
  · have key : ∀ i, i < len → ∃ c : UInt8, W.cell? (a.add i) = some (.int .u8 (c.toNat : Int)) := by
      intro i hi
      have e := he i hi
      rw [List.getElem?_eq_getElem (by omega)] at e
      obtain ⟨cs', h1, h2⟩ := Option.bind_eq_some_iff.1 e
      obtain ⟨c, rfl⟩ := read_byte n _ _ h2
      obtain ⟨_, _, hc⟩ := World.cells?_some h1
      rw [cells1] at hc
      refine ⟨c, ?_⟩
      have := hc 0 (by omega)
      rw [add_add] at this
      simpa using this
    obtain ⟨T, hT⟩ := @choose_lt UInt8 ⟨0⟩ len _ key
    refine ⟨(List.range len).map T, _, rfl, some a, cap, by simp, by simpa using hl, hm, fun h0 => ?_⟩
    simp only [List.length_map, List.length_range] at h0
    have h1 := hT 0 h0
    simp [Addr.add] at h1
    obtain ⟨hs, hlt⟩ := spot_nil h1
    refine ⟨a.block, a.off, by cases a; simp at hs; subst hs; rfl, hlt, fun j hj => ?_⟩
    simp only [List.length_map, List.length_range] at hj
    simp only [List.getElem_map, List.getElem_range]
    have := hT j hj
    rwa [add_to hs] at this
theorem read_byl (f : Nat) (cs : List Value) (x : DataW H × List MemPlace) (h : DataW.trod enc' Tryz.prog W 0 spare true f 47 cs = some x) : ∃ ls sv, cs = [sv] ∧ ByL W ls sv := by
  rcases DataW.trod_slice Tryz.underlying47 h with ⟨rfl, _⟩ | ⟨a, len, cap, elems, rest, n, rfl, rfl, _, hb, hl, hm, hel, he, _, _⟩
  · exact ⟨[], _, rfl, none, 0, rfl, Nat.le_refl _, Nat.zero_le _, fun h => absurd h (Nat.lt_irrefl 0)⟩
  · have key : ∀ i, i < len → ∃ p : List UInt8 × Value, W.cell? (a.add i) = some p.2 ∧ ByV W p.1 p.2 := by
      intro i hi
      have e := he i hi
      rw [List.getElem?_eq_getElem (by omega)] at e
      obtain ⟨cs', h1, h2⟩ := Option.bind_eq_some_iff.1 e
      obtain ⟨l, sv, rfl, hv⟩ := read_bys n _ _ h2
      obtain ⟨_, _, hc⟩ := World.cells?_some h1
      rw [cellsY] at hc
      refine ⟨(l, sv), ?_, hv⟩
      have := hc 0 (by omega)
      rw [add_add] at this
      simpa using this
    obtain ⟨T, hT⟩ := @choose_lt (List UInt8 × Value) ⟨([], .nilIface)⟩ len _ key
    refine ⟨(List.range len).map (fun i => (T i).1), _, rfl, some a, cap, by simp, by simpa using hl, hm, fun h0 => ?_⟩
    simp only [List.length_map, List.length_range] at h0
    have h1 := (hT 0 h0).1
    simp [Addr.add] at h1
    obtain ⟨hs, hlt⟩ := spot_nil h1
    refine ⟨a.block, a.off, by cases a; simp at hs; subst hs; rfl, hlt, fun j hj => ?_⟩
    simp only [List.length_map, List.length_range] at hj
    simp only [List.getElem_map, List.getElem_range]
    have := hT j hj
    rw [add_to hs] at this
    exact ⟨(T j).2, this⟩
end
theorem Bys.below {w w' : World} {b o : Nat} {l : List UInt8} (h : Bys w b o l) (hlt : b < w.heap.size) (hb : Below w.heap.size w w') : Bys w' b o l := fun j hj => (hb.cell (p := ⟨b, o + j, none⟩) hlt).trans (h j hj)
theorem ByV.below {w w' : World} {l : List UInt8} {sv : Value} (h : ByV w l sv) (hb : Below w.heap.size w w') : ByV w' l sv := by
  obtain ⟨p, c, h1, h2, h3, h4⟩ := h
  refine ⟨p, c, h1, h2, h3, fun h0 => ?_⟩
  obtain ⟨b, o, e, hlt, hy⟩ := h4 h0
  exact ⟨b, o, e, Nat.lt_of_lt_of_le hlt hb.size, hy.below hlt hb⟩
theorem ByL.below {w w' : World} {ls : List (List UInt8)} {sv : Value} (h : ByL w ls sv) (hb : Below w.heap.size w w') : ByL w' ls sv := by
  obtain ⟨p, c, h1, h2, h3, h4⟩ := h
  refine ⟨p, c, h1, h2, h3, fun h0 => ?_⟩
  obtain ⟨b, o, e, hlt, hy⟩ := h4 h0
  refine ⟨b, o, e, Nat.lt_of_lt_of_le hlt hb.size, fun j hj => ?_⟩
  obtain ⟨s, hc, hv⟩ := hy j hj
  exact ⟨s, (hb.cell (p := ⟨b, o + j, none⟩) hlt).trans hc, hv.below hb⟩
end Go.Proofs.YtciibcfmlhbnkaaGreatDoor
