/- value.encodeWord: what it tells. -/
import Derived.Test.YtciibcfmlhbnkaaGreatDoorFits
import Derived.Maps.AppendAt
namespace Go.Proofs.YtciibcfmlhbnkaaGreatDoor
open Go.RowKit

/-- What appending leaves: the old row's block may have been written, all else that was there is as it was; the new row is the old one, or a new one. -/
def Ap (w w' : World) (v v' : Value) : Prop := w.grownBy w' v.ownBlock ∧ (v'.ownBlock = v.ownBlock ∨ ∃ g, v'.ownBlock = some g ∧ w.heap.size ≤ g)

theorem Ap.refl (w : World) (v : Value) : Ap w w v v := ⟨⟨rfl, rfl, rfl, Nat.le_refl _, fun _ _ _ => rfl⟩, .inl rfl⟩
theorem Ap.trans {a b c : World} {u v x : Value} (h : Ap a b u v) (k : Ap b c v x) : Ap a c u x := by
  refine ⟨⟨k.1.os.trans h.1.os, k.1.tape.trans h.1.tape, k.1.output.trans h.1.output, Nat.le_trans h.1.size k.1.size, fun i hi hne => ?_⟩, ?_⟩
  · rw [k.1.block i (Nat.lt_of_lt_of_le hi h.1.size) ?_, h.1.block i hi hne]
    rcases h.2 with e | ⟨g, e, hg⟩
    · rw [e]; exact hne
    · rw [e]; intro h'; cases h'; omega
  · rcases k.2 with e | ⟨g, e, hg⟩
    · rw [e]; exact h.2
    · exact .inr ⟨g, e, Nat.le_trans h.1.size hg⟩
theorem Ap.alloc (w : World) (o : Obj) (v : Value) : Ap w (w.alloc o) v v := ⟨World.grownBy_alloc w o _, .inl rfl⟩
theorem Ap.below {w w' : World} {v : Value} (h : Below w.heap.size w w') : Ap w w' v v := ⟨⟨h.os, h.tape, h.output, h.size, fun k hk _ => h.block k hk⟩, .inl rfl⟩
/-- Nothing that was there below B has turned, where the row lies at B or above it. -/
theorem Ap.toBelow {w w' : World} {v v' : Value} {B : Nat} (h : Ap w w' v v') (hB : B ≤ w.heap.size) (hv : ∀ g, v.ownBlock = some g → B ≤ g) : Below B w w' :=
  ⟨h.1.os, h.1.tape, h.1.output, h.1.size, fun k hk => h.1.block k (by omega) (fun e => by have := hv k e.symm; omega)⟩

def bv (l : List Int) : List Value := l.map (Value.int .u8)

theorem info5' : (Tryz.prog.info? 5).map (fun i => (i.zero, i.size, i.bytes)) = some (some (.int .u8 0), 1, 1) := by kernel_rfl
theorem info5 : ∃ i, Tryz.prog.info? 5 = some i ∧ i.zero = some (.int .u8 0) ∧ i.size = 1 ∧ i.bytes = 1 := by
  have h := info5'
  cases hi : Tryz.prog.info? 5 with
  | none => rw [hi] at h; cases h
  | some i =>
    rw [hi] at h
    simp at h
    exact ⟨i, rfl, h.1, h.2.1, h.2.2⟩

/-- Byte k of a word of n bytes, the highest first. -/
def byteAt (W : Int) (n k : Nat) : Int := W / 2 ^ (8 * (n - 1 - k)) % 256
def wordB (W : Int) (n : Nat) : List Int := (List.range n).map (byteAt W n)

theorem bv_snoc (xs ys : List Int) (c : Int) : bv (xs ++ ys) ++ [.int .u8 c] = bv (xs ++ (ys ++ [c])) := by simp [bv]

theorem new_one (w : World) (v : Value) (T : TypeId) : ∀ (j : Nat) (u : Value), [v][j]? = some u → (w.alloc (.cells #[v] T)).cell? ((⟨w.heap.size, 0, none⟩ : Addr).add j) = some u := by
  intro j u hj
  match j, hj with
  | 0, hj => simp at hj; subst hj; simp [Addr.add]

set_option maxRecDepth 20000 in
set_option maxHeartbeats 1000000 in
theorem encodeWord_any (B : Nat) (v : Value) (xs : List Int) (W : Int) (n : Nat) (w : World) (hB : B ≤ w.heap.size) (hn : n ≤ 8) (hx : xs.length ≤ 70368744177664)
    (hown : w.ownsRow B 5 1 v xs.length (bv xs)) :
    Calls Tryz.prog 112 #[v, .int .u64 W, .int .i64 n] w fun e w' => ∃ v', e = .returned v' ∧ w'.ownsRow B 5 1 v' (xs.length + n) (bv (xs ++ wordB W n)) ∧ Ap w w' v v' := by
  have HI := Hid.intro info5
  have HX := Hid.intro hx
  have HB := Hid.intro hB
  clear hx hB
  have HO := Hid.intro hown
  clear hown
  go_enter Tryz.func112, Tryz.ntmps112
  go_wp2
  go_loopw [0, 9] (fun u i w' => ∃ k : Nat, k ≤ n ∧ i = .int .i64 k ∧ Hid (w'.ownsRow B 5 1 u (xs.length + k) (bv (xs ++ (List.range k).map (byteAt W n)))) ∧ Hid (Ap w w' v u)) (fun _ i _ => n - (intOf i).toNat)
  case atStart => exact ⟨0, by omega, rfl, Hid.intro (by simpa using HO.out), Ap.refl _ _⟩
  case round =>
    obtain ⟨k, hk, rfl, ho, ha⟩ := hrel
    by_cases hlt : k < n
    · go_wp2_with (at_builtin; refine wpList_append_own_at _ rfl _ _ 50 rfl B 5 HI.out.choose (.int .u8 0) 1 1 Tryz.underlying50 HI.out.choose_spec.1 HI.out.choose_spec.2.1 HI.out.choose_spec.2.2.1 HI.out.choose_spec.2.2.2 rfl (by decide) _ _ _ rfl (ho.out.alloc _) ⟨wr.heap.size, 0, none⟩ 1 1 [.int .u8 (W / 2 ^ (8 * (n - 1 - k)) % 256)] rfl rfl (new_one _ _ _) ?c2 ?c3 ?c4 ?c5 ?_)
      case c2 => intro u hu; simp at hu; subst hu; rfl
      case c3 => have := HX.out; unfold maxLen; omega
      case c4 => have := HX.out; omega
      case c5 => have := HB.out; have := ha.out.1.size; simp; omega
      · intro v' w1 hown' hgrow _ hat
        have hap : Hid (Ap w w1 v v') := (ha.out.trans (Ap.alloc _ _ _)).trans ⟨hgrow, hat.elim Or.inl (fun e => Or.inr ⟨_, e, by simp⟩)⟩
        have ho' : Hid (w1.ownsRow B 5 1 v' (xs.length + (k + 1)) (bv (xs ++ (List.range (k + 1)).map (byteAt W n)))) := by
          have e : bv (xs ++ (List.range k).map (byteAt W n)) ++ [.int .u8 (W / 2 ^ (8 * (n - 1 - k)) % 256)] = bv (xs ++ (List.range (k + 1)).map (byteAt W n)) := by
            rw [bv_snoc, List.range_succ, List.map_append]; rfl
          rw [← e]; exact hown'
        clear hown' hgrow hat
        go_wp2
        go_roundw
        case rel => exact ⟨k + 1, by omega, by go_num, ho', hap⟩
        case measure => simp [intOf]; omega
    · go_wp2
      go_ret
      have : k = n := by omega
      subst this
      exact ⟨_, rfl, ho.out, ha.out⟩
end Go.Proofs.YtciibcfmlhbnkaaGreatDoor
