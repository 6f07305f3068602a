/- LexMost: the walk. -/
import Derived.Test.YtlheiiapolhpeaaLPureC
import Derived.Lib.BufferMore
namespace Go.Proofs.Ytlheiiapolhpeaa
open Go.RowKit

theorem own_below {a b : World} {base : Nat} {e : TypeId} {size : Nat} {v : Value} {n : Nat} {xs : List Value} (o : a.ownsRow base e size v n xs) (h : Below a.heap.size a b) : b.ownsRow base e size v n xs :=
  o.kept (row := none) ⟨h.os, h.tape, h.output, h.size, fun k hk _ => h.block k hk⟩ (by cases v.ownBlock <;> simp)

theorem own_form {w : World} {base : Nat} {e : TypeId} {size : Nat} {v : Value} {n : Nat} {xs : List Value} (h : w.ownsRow base e size v n xs) : ∃ p c, v = .slice p n c := by
  rcases h.2 with ⟨rfl, h0⟩ | ⟨g, cap, cur, rfl, -⟩
  · exact ⟨none, 0, by rw [h0]⟩
  · exact ⟨_, _, rfl⟩

/-- The first k bytes of the block B are blanks. -/
def Fil (B k : Nat) (w : World) : Prop := ∃ M, w.heap[B]? = some (.cells M 5 (0, 0)) ∧ M.size = 65536 ∧ ∀ j, j < k → M[j]? = some (.int .u8 32)
theorem Fil.cell {B k : Nat} {w : World} (h : Fil B k w) (hk : k < 65536) : (∃ v, w.cell? ⟨B, k, none⟩ = some v) ∧ w.frozen? ⟨B, k, none⟩ = false := by
  obtain ⟨M, h1, h2, h3⟩ := h
  refine ⟨⟨M[k]'(by omega), by simp [World.cell?, h1, h2, hk]⟩, by simp [World.frozen?, h1]⟩
theorem Fil.put {B k : Nat} {w : World} (h : Fil B k w) (hk : k < 65536) : Fil B (k + 1) (w.setCell ⟨B, k, none⟩ (.int .u8 32)) := by
  obtain ⟨M, h1, h2, h3⟩ := h
  refine ⟨_, Lib.heap_setCell_same h1 _, by simpa using h2, fun j hj => ?_⟩
  by_cases e : j = k
  · subst e; rw [Array.getElem?_setIfInBounds_self_of_lt (by omega)]
  · rw [Array.getElem?_setIfInBounds_ne (fun h => e h.symm)]; exact h3 j (by omega)
theorem Fil.below {B k : Nat} {w w' : World} (h : Fil B k w) (hb : Below w.heap.size w w') : Fil B k w' := by
  obtain ⟨M, h1, h2, h3⟩ := h
  exact ⟨M, (hb.block B (Array.getElem?_eq_some_iff.1 h1).1).trans h1, h2, h3⟩
theorem Fil.conv {B : Nat} {w : World} (h : Fil B 65536 w) {L : List UInt8} (hL : L = List.replicate 65536 32) : (convert 37 9 (.slice (some ⟨B, 0, none⟩) 65536 65536)).run Try.prog w = .ok (.string (bs L)) w := by
  have hl : L.length = 65536 := by rw [hL, List.length_replicate]
  have h' : (convert 37 9 (.slice (some ⟨B, 0, none⟩) L.length 65536)).run Try.prog w = .ok (.string (bs L)) w := by
    refine run_convert_bytes_back w 37 9 5 ⟨B, 0, none⟩ 65536 L Try.underlying37 Try.underlying5 Try.underlying9 ?_
    intro j hj
    obtain ⟨M, h1, h2, h3⟩ := h
    have e : (⟨B, 0, none⟩ : Addr).add j = ⟨B, j, none⟩ := by simp [Addr.add]; intro h; exact h.symm
    have e2 : L[j] = 32 := by simp only [hL, List.getElem_replicate]
    rw [e, e2]
    unfold World.cell?
    simp only [h1]
    rw [h3 j (by omega)]
    rfl
  rwa [hl] at h'

set_option maxRecDepth 100000 in
set_option maxHeartbeats 8000000 in
theorem lawMost (w : World) :
    Calls Try.prog 7 #[] w fun e w' => e = .returned (.bool true) ∧ Below w.heap.size w w' := by
  obtain ⟨i0, hi, hz0, hz1, hz2⟩ := info_parts info_u8
  obtain ⟨w1, hm1, o1, g1⟩ := run_make_own (P := Try.prog) w w.heap.size 37 5 i0 _ 1 Try.underlying37 hi hz0 hz1 .i64 .i64 8192 (by rw [hz2]; omega) (by unfold maxLen; omega) (Nat.le_refl _)
  rw [show ((8192 : Nat) : Int) = 8192 from rfl] at hm1
  have HB1 : Hid (Below w.heap.size w w1) := (Below.refl _ w).grown g1 (Nat.le_refl _) (fun k e => by cases e)
  have O1 : Hid (w1.ownsRow w.heap.size 5 1 (.slice (some ⟨w.heap.size, 0, none⟩) 0 8192) (rep 0).length (bv (rep 0))) := o1
  clear o1 g1
  go_enter Try.func7, Try.ntmps7
  go_wp2
  go_loopw [1, 2] (fun v i wr => ∃ k : Nat, i = .int .i64 (k : Int) ∧ k ≤ 4096 ∧ Hid (Below w.heap.size w wr) ∧ Hid (wr.ownsRow w.heap.size 5 1 v (rep k).length (bv (rep k)))) (fun v i wr => 4096 - (intOf i).toNat)
  case atStart => exact ⟨0, rfl, Nat.zero_le _, HB1, O1⟩
  case round =>
    obtain ⟨k, rfl, hk, HB, O⟩ := hrel
    have HR := Hid.intro (rep_len k)
    by_cases hlt : (k : Int) < 4096
    · go_wp2_with (at_builtin; refine wpList_append_lies _ rfl _ _ _ rfl w.heap.size 5 i0 (.int .u8 0) 1 1 Try.underlying37 hi hz0 hz1 hz2 rfl (by omega) _ _ _ rfl (O.out.alloc _) ⟨wr.heap.size, 0, none⟩ 2 2 [.int .u8 97, .int .u8 32] rfl rfl (news2_u8 wr 97 32).1 (news2_u8 wr 97 32).2 (by have := HR.out; omega) (by have := HR.out; unfold maxLen; omega) (by have := HR.out; omega) (by have := HB.out.size; simp; omega) (wr.heap.size + 1) (by simp) ?_)
      intro g4 cap4 w4 O4 gr4 at4 lt4
      have HO := Hid.intro (row2 (c := 97) (c' := 32) rfl rfl HB.out O.out gr4 O4)
      clear O4 gr4 at4 lt4
      go_wp2
      go_roundw
      case rel => exact ⟨k + 1, by go_num, by omega, HO.out.1, HO.out.2⟩
      case measure => simp [intOf]; omega
    · have hk2 : k = 4096 := by omega
      subst hk2
      clear hlt hk
      obtain ⟨hf1, hf2⟩ := most_fit
      have hf3 := most_more
      have hrl := HR.out
      clear HR
      generalize rep 4096 = R at *
      have HL1 := fun w => Hid.intro (lex_ls (s := bs R) (by rw [bs_size]; omega) hf1 w)
      have HL2 := fun w => Hid.intro (lex_bad (s := bs R ++ ⟨#[98]⟩) (by rw [ByteArray.size_append, bs_size, hrl]; decide) hf3 w)
      obtain ⟨pv, cv, rfl⟩ := own_form O.out
      have hcv := conv_own O.out
      rw [hrl] at hcv ⊢
      have hcv2 : ∀ w2, Below wr.heap.size wr w2 → (convert 37 9 (.slice pv 8192 cv)).run Try.prog w2 = .ok (.string (bs R)) w2 := fun w2 h => by
        have := conv_own (own_below O.out h)
        rwa [hrl] at this
      have HC2 := Hid.intro hcv2
      have hbig : ¬ 9223372036854775807 < (bs R).size + 1 := by rw [bs_size]; omega
      clear hcv2 hrl hf1 hf3
      go_wp2_with fail
      refine (HL1 _).out.mono ?_
      rintro e w2 ⟨v2, rfl, HV2, HB2⟩
      obtain ⟨p2, cap2, rfl, -⟩ := HV2.out
      rw [hf2]
      have hcv3 := HC2.out w2 HB2.out
      clear hcv HL1 HV2
      go_wp2_with fail
      refine (HL2 _).out.mono ?_
      rintro e w3 ⟨rfl, hb3⟩
      have HB3 := Hid.intro (hb3.via HB2.out)
      have HBw := Hid.intro (HB3.out.via HB.out)
      clear hb3 hcv3 HL2 HC2 HB2 hbig HB3 O
      rw [show ((8192 : Nat) : Int) = 8192 from rfl]
      obtain ⟨M, hM⟩ : ∃ M, M = madeCells (Value.int .u8 0).cells (((65536 : Nat) : Int).toNat * i0.size) := ⟨_, rfl⟩
      have hMs : M.size = 65536 := by rw [hM, size_madeCells, hz1]; rfl
      have hmk : (Instr.makeSlice 37 (.int .i64 65536) (.int .i64 65536)).run Try.prog w3 = .ok (.slice (some ⟨w3.heap.size, 0, none⟩) 65536 65536) (w3.alloc (.cells M 5)) := by
        have h := run_make (P := Try.prog) w3 37 5 i0 (.int .u8 0) Try.underlying37 hi hz0 .i64 .i64 65536 65536 (by omega) (by omega) (by rw [hz2]; omega) (by omega)
        rw [hM]
        exact h
      clear hM
      have HF0 : Hid (Fil w3.heap.size 0 (w3.alloc (.cells M 5))) := ⟨M, heap_alloc_new w3 _, hMs, fun j hj => by omega⟩
      have HB4 := Hid.intro (below_al HBw.out (.cells M 5))
      have hsz3 := HBw.out.size
      go_wp2_with fail
      go_loopw [10] (fun i wr => ∃ k : Nat, i = .int .i64 (k : Int) ∧ k ≤ 65536 ∧ Hid (Below w.heap.size w wr) ∧ Hid (Fil w3.heap.size k wr)) (fun i wr => 65536 - (intOf i).toNat)
      case atStart => exact ⟨0, rfl, Nat.zero_le _, HB4, HF0⟩
      case round =>
        obtain ⟨k, rfl, hk, HBk, HF⟩ := hrel
        by_cases hlt : (k : Int) < 65536
        · have hlt' : k < 65536 := by omega
          obtain ⟨⟨v0, hc0⟩, hf0⟩ := HF.out.cell hlt'
          have HP := Hid.intro (HF.out.put hlt')
          have HBk2 := Hid.intro (HBk.out.setCell (p := ⟨w3.heap.size, k, none⟩) hsz3 (.int .u8 32))
          go_wp2
          go_roundw
          case rel => exact ⟨k + 1, by go_num, hlt', HBk2, HP⟩
          case measure => simp [intOf]; omega
        · have hk2 : k = 65536 := by omega
          subst hk2
          obtain ⟨L, hL⟩ : ∃ L, L = List.replicate 65536 (32 : UInt8) := ⟨_, rfl⟩
          have hLl : L.length = 65536 := by rw [hL, List.length_replicate]
          have hLf : lexF (bs L) = none := by rw [hL]; exact most_blank _
          have HC := Hid.intro (fun (w2 : World) (h : Fil w3.heap.size 65536 w2) => h.conv hL)
          have hcv := HC.out _ HF.out
          have HL1 := fun w => Hid.intro (lex_ls (s := bs L) (by rw [bs_size]; omega) hLf w)
          have HL2 := fun w => Hid.intro (lex_long (s := bs L ++ ⟨#[32]⟩) (by rw [ByteArray.size_append, bs_size, hLl]; decide) w)
          have hbig : ¬ 9223372036854775807 < (bs L).size + 1 := by rw [bs_size]; omega
          have HW := fun w => Hid.intro (wakes_any w)
          clear hL hLl hLf hlt hk
          go_wp2_with fail
          refine (HL1 _).out.mono ?_
          rintro e w5 ⟨v5, rfl, HV5, HB5⟩
          obtain ⟨p5, cap5, rfl, -⟩ := HV5.out
          have hcv2 := HC.out w5 (HF.out.below HB5.out)
          have HB6 := Hid.intro (HB5.out.via HBk.out)
          clear hcv HL1 HV5 HC HF HB5 HBk
          go_wp2_with fail
          refine (HL2 _).out.mono ?_
          rintro e w6 ⟨rfl, hb6⟩
          have HB7 := Hid.intro (hb6.via HB6.out)
          clear hcv2 HL2 hb6 HB6
          go_wp2_with fail
          refine (HW _).out.mono ?_
          rintro e w7 ⟨rfl, hb7⟩
          have HB8 := Hid.intro (hb7.via HB7.out)
          clear hb7
          go_wp2
          go_ret
          exact ⟨rfl, HB8.out⟩
end Go.Proofs.Ytlheiiapolhpeaa
