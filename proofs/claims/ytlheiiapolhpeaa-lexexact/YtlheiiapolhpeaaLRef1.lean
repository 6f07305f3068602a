/- The reference: Index, Key, word, blank. -/
import Derived.Test.YtlheiiapolhpeaaLBlk
namespace Go.Proofs.Ytlheiiapolhpeaa
open Go.RowKit

def inT (xs : List ByteArray) (x : ByteArray) : Bool := xs.any (fun k => k.toList == x.toList)
theorem inT_step {xs : List ByteArray} {x : ByteArray} {k : Nat} (h : k < xs.length) : inT (xs.take (k + 1)) x = (inT (xs.take k) x || (xs[k].toList == x.toList)) := by
  unfold inT
  rw [List.take_succ_eq_append_getElem h, List.any_append, List.any_cons, List.any_nil, Bool.or_false]
theorem inT_yes {xs : List ByteArray} {x : ByteArray} {k : Nat} (h : k < xs.length) (he : (xs[k].toList == x.toList) = true) : inT xs x = true := by
  unfold inT; rw [List.any_eq_true]; exact ⟨xs[k], List.getElem_mem _, he⟩

set_option maxRecDepth 100000 in
set_option maxHeartbeats 4000000 in
theorem rindex_any {w : World} (xs : List ByteArray) (sa : Value) (ha : Tv w xs sa) (x : ByteArray) :
    Calls Try.prog 18 #[sa, .string x] w fun e w' => ∃ i : Int, e = .returned (.int .i64 i) ∧ decide (0 ≤ i) = inT xs x ∧ w' = w := by
  have HA := Hid.intro ha
  obtain ⟨a0, ca, rfl, a1, a2⟩ := ha.form
  clear ha
  unfold maxLen at a2
  go_enter Try.func18, Try.ntmps18
  go_wp2_with fail
  go_loopw [5] (fun i wr => wr = w ∧ ∃ k : Nat, k ≤ xs.length ∧ i = .int .i64 (k : Int) ∧ Hid (inT (xs.take k) x = false)) (fun i _ => xs.length - (intOf i).toNat)
  case atStart => exact ⟨rfl, 0, by omega, rfl, rfl⟩
  case round =>
    obtain ⟨hw, k, hk, rfl, HP⟩ := hrel
    subst wr
    by_cases hlt : (k : Int) < (xs.length : Int)
    · have hlt' : k < xs.length := by omega
      obtain ⟨ab, ao, rfl, ad⟩ := HA.out.cell hlt'
      cases hq : (xs[k].toList == x.toList) with
      | true =>
        have hy := inT_yes hlt' hq
        go_wp2
        go_ret
        exact ⟨_, rfl, by rw [hy]; simp, rfl⟩
      | false =>
        have HD := Hid.intro (inT_step (x := x) hlt')
        rw [hq, HP.out] at HD
        go_wp2
        go_roundw
        case rel => exact ⟨trivial, k + 1, by omega, by go_num, HD⟩
        case measure => simp [intOf]; omega
    · have hk2 : k = xs.length := by omega
      subst hk2
      have HP' := HP.out
      rw [List.take_length] at HP'
      go_wp2
      go_ret
      exact ⟨_, rfl, by first | decide | (rw [HP']; rfl), rfl⟩

theorem tv_lit (w : World) (xs : List ByteArray) (hl : xs.length ≤ 1000) : Tv (w.alloc (.cells (xs.map Value.string).toArray 9)) xs (.slice (some ⟨w.heap.size, 0, none⟩) xs.length xs.length) := by
  refine ⟨_, _, rfl, Nat.le_refl _, by unfold maxLen; omega, fun _ => ⟨w.heap.size, 0, rfl, fun j hj => ?_⟩⟩
  generalize hW : w.alloc (.cells (xs.map Value.string).toArray 9) = W
  have : W.heap[w.heap.size]? = some (.cells (xs.map Value.string).toArray 9) := by rw [← hW]; exact heap_alloc_new w _
  simp [World.cell?, this, hj]

theorem inT_bs (ks : List (List UInt8)) (s : ByteArray) : inT (ks.map bs) s = ks.any (fun k => s.toList == k) := by
  unfold inT
  rw [List.any_map]
  congr 1
  funext k
  show ((bs k).toList == s.toList) = (s.toList == k)
  rw [Lib.toList_data (bs k), show (bs k).data.toList = k from by simp [bs], Bool.beq_comm]

set_option maxRecDepth 100000 in
set_option maxHeartbeats 4000000 in
theorem rkey_any (s : ByteArray) (w : World) :
    Calls Try.prog 11 #[.string s] w fun e w' => e = .returned (.bool (keyB s)) ∧ Below w.heap.size w w' := by
  have HX := Hid.intro (rindex_any (kwsL.map bs) _ (tv_lit w (kwsL.map bs) (by decide)) s)
  rw [inT_bs] at HX
  rw [show kwsL.any (fun k => s.toList == k) = keyB s from rfl] at HX
  generalize keyB s = K at *
  go_enter Try.func11, Try.ntmps11
  go_wp2_with fail
  refine HX.out.mono ?_
  rintro e w1 ⟨i, rfl, hd, hw1⟩
  subst w1
  go_wp2
  go_ret
  exact ⟨by rw [← hd]; rfl, below_al (Below.refl _ _) _⟩
end Go.Proofs.Ytlheiiapolhpeaa
