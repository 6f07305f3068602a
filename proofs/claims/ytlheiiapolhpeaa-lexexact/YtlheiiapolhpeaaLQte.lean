/- Quote: what it tells. -/
import Derived.Test.YtlheiiapolhpeaaLLex
namespace Go.Proofs.Ytlheiiapolhpeaa
open Go.RowKit

/-- A byte in a quoted text. -/
def qc (c : UInt8) : List UInt8 := if c = 34 ∨ c = 92 then [92, c] else if c = 10 then [92, 110] else if c = 9 then [92, 116] else [c]
def qd (s : ByteArray) (k : Nat) : List UInt8 := 34 :: (s.data.toList.take k).flatMap qc
def quoteS (s : ByteArray) : ByteArray := bs (34 :: s.data.toList.flatMap qc ++ [34])
theorem qc_le (c : UInt8) : (qc c).length ≤ 2 := by
  unfold qc; split <;> (try split) <;> (try split) <;> simp
theorem qfl_le (l : List UInt8) : (l.flatMap qc).length ≤ 2 * l.length := by
  induction l with
  | nil => simp
  | cons c r ih => rw [List.flatMap_cons, List.length_append, List.length_cons]; have := qc_le c; omega
theorem qd_le (s : ByteArray) (k : Nat) : (qd s k).length ≤ 2 * k + 1 := by
  have := qfl_le (s.data.toList.take k)
  have := List.length_take_le k s.data.toList
  rw [qd, List.length_cons]; omega
theorem qd_step {s : ByteArray} {k : Nat} (h : k < s.size) : qd s (k + 1) = qd s k ++ qc s[k] := by
  have : s.data.toList.take (k + 1) = s.data.toList.take k ++ [s[k]] := by
    rw [List.take_succ_eq_append_getElem (by rw [← Lib.size_eq]; exact h)]; rfl
  rw [qd, this, List.flatMap_append, qd]; simp
theorem qd_end (s : ByteArray) : qd s s.size = 34 :: s.data.toList.flatMap qc := by
  rw [qd, List.take_of_length_le (by rw [← Lib.size_eq]; exact Nat.le_refl _)]
theorem news2_u8 (w : World) (c d : Int) : (∀ j u, [Value.int .u8 c, .int .u8 d][j]? = some u → (w.alloc (.cells #[.int .u8 c, .int .u8 d] 5)).cell? ((⟨w.heap.size, 0, none⟩ : Addr).add j) = some u) ∧ (∀ u ∈ [Value.int .u8 c, .int .u8 d], u.oneCell' = true) :=
  ⟨World.news_of_block (cs := #[.int .u8 c, .int .u8 d]) (t := 5) (fr := (0, 0)) (heap_alloc_new w _), by intro u hu; simp at hu; rcases hu with rfl | rfl <;> rfl⟩

/-- A byte, two bytes more. -/
theorem row1 {w wr w4 : World} {v v4 : Value} {d : List UInt8} {c : UInt8} {x : Int} (hx : x = (c.toNat : Int)) (HB : Below w.heap.size w wr) (O : wr.ownsRow w.heap.size 5 1 v d.length (bv d))
    (gr : (wr.alloc (.cells #[.int .u8 x] 5)).grownBy w4 v.ownBlock) (O4 : w4.ownsRow w.heap.size 5 1 v4 (d.length + 1) (bv d ++ [.int .u8 x])) :
    Below w.heap.size w w4 ∧ w4.ownsRow w.heap.size 5 1 v4 (d ++ [c]).length (bv (d ++ [c])) := by
  subst hx
  refine ⟨own_step (below_al HB _) gr (O.alloc _) (Nat.le_refl _), ?_⟩
  rw [List.length_append, bv, List.map_append]
  exact O4
theorem row2 {w wr w4 : World} {v v4 : Value} {d : List UInt8} {c c' : UInt8} {x x' : Int} (hx : x = (c.toNat : Int)) (hx' : x' = (c'.toNat : Int)) (HB : Below w.heap.size w wr) (O : wr.ownsRow w.heap.size 5 1 v d.length (bv d))
    (gr : (wr.alloc (.cells #[.int .u8 x, .int .u8 x'] 5)).grownBy w4 v.ownBlock) (O4 : w4.ownsRow w.heap.size 5 1 v4 (d.length + 2) (bv d ++ [.int .u8 x, .int .u8 x'])) :
    Below w.heap.size w w4 ∧ w4.ownsRow w.heap.size 5 1 v4 (d ++ [c, c']).length (bv (d ++ [c, c'])) := by
  subst hx hx'
  refine ⟨own_step (below_al HB _) gr (O.alloc _) (Nat.le_refl _), ?_⟩
  rw [List.length_append, bv, List.map_append]
  exact O4

set_option maxRecDepth 100000 in
set_option maxHeartbeats 4000000 in
theorem quote_any (s : ByteArray) (hs : s.size ≤ 100000) (w : World) :
    Calls Try.prog 12 #[.string s] w fun e w' => e = .returned (.string (quoteS s)) ∧ Below w.heap.size w w' := by
  obtain ⟨i0, hi, hz0, hz1, hz2⟩ := info_parts info_u8
  obtain ⟨w1, hm1, o1, g1⟩ := run_make_own (P := Try.prog) w w.heap.size 37 5 i0 _ 1 Try.underlying37 hi hz0 hz1 .i64 .i64 (s.size + 2) (by rw [hz2]; omega) (by unfold maxLen; omega) (Nat.le_refl _)
  rw [show ((s.size + 2 : Nat) : Int) = (s.size : Int) + 2 from rfl] at hm1
  have HB1 : Hid (Below w.heap.size w w1) := (Below.refl _ w).grown g1 (Nat.le_refl _) (fun k e => by cases e)
  have O1 : Hid (w1.ownsRow w.heap.size 5 1 (.slice (some ⟨w.heap.size, 0, none⟩) 0 (s.size + 2)) ([] : List UInt8).length (bv [])) := o1
  clear o1 g1
  go_enter Try.func12, Try.ntmps12
  go_wp2_with (at_builtin; refine wpList_append_lies _ rfl _ _ _ rfl w.heap.size 5 i0 (.int .u8 0) 1 1 Try.underlying37 hi hz0 hz1 hz2 rfl (by omega) _ _ _ rfl (O1.out.alloc _) ⟨w1.heap.size, 0, none⟩ 1 1 [.int .u8 34] rfl rfl (news_u8 w1 34).1 (news_u8 w1 34).2 (by omega) (by unfold maxLen; simp) (by simp) (by have := HB1.out.size; simp; omega) (w1.heap.size + 1) (by simp) ?_)
  intro g4 cap4 w4 O4 gr4 at4 lt4
  have HO := Hid.intro (row1 (c := 34) rfl HB1.out O1.out gr4 O4)
  clear O4 gr4 at4 lt4
  go_wp2
  go_loopw [3, 15] (fun v i wr => ∃ k : Nat, i = .int .i64 (k : Int) ∧ k ≤ s.size ∧ Hid (Below w.heap.size w wr) ∧ Hid (wr.ownsRow w.heap.size 5 1 v (qd s k).length (bv (qd s k)))) (fun v i wr => s.size - (intOf i).toNat)
  case atStart => exact ⟨0, rfl, Nat.zero_le _, HO.out.1, HO.out.2⟩
  case round =>
    obtain ⟨k, rfl, hk, HB, O⟩ := hrel
    have hql := qd_le s k
    by_cases hlt : k < s.size
    · have hlt' : (k : Int) < (s.size : Int) := by omega
      by_cases h1 : s[k] = 34 ∨ s[k] = 92
      · have hc : [92, s[k]] = qc s[k] := by rw [qc, if_pos h1]
        have hsw : (((s[k].toNat : Int) == 34) = true) ∨ (((s[k].toNat : Int) == 34) = false ∧ ((s[k].toNat : Int) == 92) = true) := by
          rcases h1 with h | h <;> rw [h] <;> decide
        rcases hsw with h2 | ⟨h2, h3⟩
        · go_wp2_with (at_builtin; refine wpList_append_lies _ rfl _ _ _ rfl w.heap.size 5 i0 (.int .u8 0) 1 1 Try.underlying37 hi hz0 hz1 hz2 rfl (by omega) _ _ _ rfl (O.out.alloc _) ⟨wr.heap.size, 0, none⟩ 2 2 [.int .u8 92, .int .u8 (s[k].toNat : Int)] rfl rfl (news2_u8 wr 92 (s[k].toNat : Int)).1 (news2_u8 wr 92 (s[k].toNat : Int)).2 (by omega) (by unfold maxLen; omega) (by omega) (by have := HB.out.size; simp; omega) (wr.heap.size + 1) (by simp) ?_)
          intro g4 cap4 w4 O4 gr4 at4 lt4
          have HO := Hid.intro (row2 (c := 92) rfl rfl HB.out O.out gr4 O4)
          clear O4 gr4 at4 lt4
          go_wp2
          go_roundw
          case rel => exact ⟨k + 1, by go_num, hlt, HO.out.1, by have h := HO.out.2; rw [hc, ← qd_step hlt] at h; exact h⟩
          case measure => simp [intOf]; omega
        · go_wp2_with (at_builtin; refine wpList_append_lies _ rfl _ _ _ rfl w.heap.size 5 i0 (.int .u8 0) 1 1 Try.underlying37 hi hz0 hz1 hz2 rfl (by omega) _ _ _ rfl (O.out.alloc _) ⟨wr.heap.size, 0, none⟩ 2 2 [.int .u8 92, .int .u8 (s[k].toNat : Int)] rfl rfl (news2_u8 wr 92 (s[k].toNat : Int)).1 (news2_u8 wr 92 (s[k].toNat : Int)).2 (by omega) (by unfold maxLen; omega) (by omega) (by have := HB.out.size; simp; omega) (wr.heap.size + 1) (by simp) ?_)
          intro g4 cap4 w4 O4 gr4 at4 lt4
          have HO := Hid.intro (row2 (c := 92) rfl rfl HB.out O.out gr4 O4)
          clear O4 gr4 at4 lt4
          go_wp2
          go_roundw
          case rel => exact ⟨k + 1, by go_num, hlt, HO.out.1, by have h := HO.out.2; rw [hc, ← qd_step hlt] at h; exact h⟩
          case measure => simp [intOf]; omega
      · have g34 : ((s[k].toNat : Int) == 34) = false := beq_false_of_ne (fun e => h1 (.inl (UInt8.toNat_inj.1 (by omega : s[k].toNat = 34))))
        have g92 : ((s[k].toNat : Int) == 92) = false := beq_false_of_ne (fun e => h1 (.inr (UInt8.toNat_inj.1 (by omega : s[k].toNat = 92))))
        by_cases h4 : s[k] = 10
        · have hc : [92, 110] = qc s[k] := by rw [qc, if_neg h1, if_pos h4]
          have g10 : ((s[k].toNat : Int) == 10) = true := by rw [h4]; decide
          go_wp2_with (at_builtin; refine wpList_append_lies _ rfl _ _ _ rfl w.heap.size 5 i0 (.int .u8 0) 1 1 Try.underlying37 hi hz0 hz1 hz2 rfl (by omega) _ _ _ rfl (O.out.alloc _) ⟨wr.heap.size, 0, none⟩ 2 2 [.int .u8 92, .int .u8 110] rfl rfl (news2_u8 wr 92 110).1 (news2_u8 wr 92 110).2 (by omega) (by unfold maxLen; omega) (by omega) (by have := HB.out.size; simp; omega) (wr.heap.size + 1) (by simp) ?_)
          intro g4 cap4 w4 O4 gr4 at4 lt4
          have HO := Hid.intro (row2 (c := 92) (c' := 110) rfl rfl HB.out O.out gr4 O4)
          clear O4 gr4 at4 lt4
          go_wp2
          go_roundw
          case rel => exact ⟨k + 1, by go_num, hlt, HO.out.1, by have h := HO.out.2; rw [hc, ← qd_step hlt] at h; exact h⟩
          case measure => simp [intOf]; omega
        · have g10 : ((s[k].toNat : Int) == 10) = false := beq_false_of_ne (fun e => h4 (UInt8.toNat_inj.1 (by omega : s[k].toNat = 10)))
          by_cases h5 : s[k] = 9
          · have hc : [92, 116] = qc s[k] := by rw [qc, if_neg h1, if_neg h4, if_pos h5]
            have g9 : ((s[k].toNat : Int) == 9) = true := by rw [h5]; decide
            go_wp2_with (at_builtin; refine wpList_append_lies _ rfl _ _ _ rfl w.heap.size 5 i0 (.int .u8 0) 1 1 Try.underlying37 hi hz0 hz1 hz2 rfl (by omega) _ _ _ rfl (O.out.alloc _) ⟨wr.heap.size, 0, none⟩ 2 2 [.int .u8 92, .int .u8 116] rfl rfl (news2_u8 wr 92 116).1 (news2_u8 wr 92 116).2 (by omega) (by unfold maxLen; omega) (by omega) (by have := HB.out.size; simp; omega) (wr.heap.size + 1) (by simp) ?_)
            intro g4 cap4 w4 O4 gr4 at4 lt4
            have HO := Hid.intro (row2 (c := 92) (c' := 116) rfl rfl HB.out O.out gr4 O4)
            clear O4 gr4 at4 lt4
            go_wp2
            go_roundw
            case rel => exact ⟨k + 1, by go_num, hlt, HO.out.1, by have h := HO.out.2; rw [hc, ← qd_step hlt] at h; exact h⟩
            case measure => simp [intOf]; omega
          · have hc : [s[k]] = qc s[k] := by rw [qc, if_neg h1, if_neg h4, if_neg h5]
            have g9 : ((s[k].toNat : Int) == 9) = false := beq_false_of_ne (fun e => h5 (UInt8.toNat_inj.1 (by omega : s[k].toNat = 9)))
            go_wp2_with (at_builtin; refine wpList_append_lies _ rfl _ _ _ rfl w.heap.size 5 i0 (.int .u8 0) 1 1 Try.underlying37 hi hz0 hz1 hz2 rfl (by omega) _ _ _ rfl (O.out.alloc _) ⟨wr.heap.size, 0, none⟩ 1 1 [.int .u8 (s[k].toNat : Int)] rfl rfl (news_u8 wr (s[k].toNat : Int)).1 (news_u8 wr (s[k].toNat : Int)).2 (by omega) (by unfold maxLen; omega) (by omega) (by have := HB.out.size; simp; omega) (wr.heap.size + 1) (by simp) ?_)
            intro g4 cap4 w4 O4 gr4 at4 lt4
            have HO := Hid.intro (row1 (c := s[k]) rfl HB.out O.out gr4 O4)
            clear O4 gr4 at4 lt4
            go_wp2
            go_roundw
            case rel => exact ⟨k + 1, by go_num, hlt, HO.out.1, by have h := HO.out.2; rw [hc, ← qd_step hlt] at h; exact h⟩
            case measure => simp [intOf]; omega
    · have hk' : k = s.size := by omega
      subst hk'
      go_wp2_with (at_builtin; refine wpList_append_lies _ rfl _ _ _ rfl w.heap.size 5 i0 (.int .u8 0) 1 1 Try.underlying37 hi hz0 hz1 hz2 rfl (by omega) _ _ _ rfl (O.out.alloc _) ⟨wr.heap.size, 0, none⟩ 1 1 [.int .u8 34] rfl rfl (news_u8 wr 34).1 (news_u8 wr 34).2 (by omega) (by unfold maxLen; omega) (by omega) (by have := HB.out.size; simp; omega) (wr.heap.size + 1) (by simp) ?_)
      intro g4 cap4 w4 O4 gr4 at4 lt4
      have HO := Hid.intro (row1 (c := 34) rfl HB.out O.out gr4 O4)
      clear O4 gr4 at4 lt4
      have hcv := conv_own HO.out.2
      go_wp2
      go_ret
      exact ⟨by rw [qd_end]; rfl, HO.out.1⟩
end Go.Proofs.Ytlheiiapolhpeaa
