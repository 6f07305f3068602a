/- The reference: quoted. -/
import Derived.Test.YtlheiiapolhpeaaLRef3
namespace Go.Proofs.Ytlheiiapolhpeaa
open Go.RowKit

def rqv (a : Nat) : Option (List UInt8 × Nat) → Value
  | some p => .tuple #[.string (bs p.1), .int .i64 ((a + 1 + p.2 : Nat) : Int)]
  | none => .tuple #[.string ⟨#[]⟩, .int .i64 (-1)]

/-- What is left to be read, what has been said. -/
def QI (s : ByteArray) (a m : Nat) (d : List UInt8) : Prop := quo (tl s (a + 1)) = (quo (tl s m)).map (fun p => (d ++ p.1, m - (a + 1) + p.2))
theorem QI.step {s : ByteArray} {a m : Nat} {d : List UInt8} (h : QI s a m d) (ha : a + 1 ≤ m) (hlt : m < s.size) (h1 : ¬ s[m] = 34) (h2 : ¬ s[m] < 32) (h3 : ¬ s[m] = 92) : QI s a (m + 1) (d ++ [s[m]]) := by
  unfold QI at *
  rw [h, quo_plain hlt h1 h2 h3]
  cases quo (tl s (m + 1)) with
  | none => rfl
  | some p => simp; omega
theorem QI.esc {s : ByteArray} {a m : Nat} {d : List UInt8} (h : QI s a m d) (ha : a + 1 ≤ m) (hlt : m < s.size) (h3 : s[m] = 92) (hlt' : m + 1 < s.size) {c : UInt8} (hc : escU s[m + 1] = some c) : QI s a (m + 1 + 1) (d ++ [c]) := by
  unfold QI at *
  rw [h, quo_esc hlt h3 hlt', hc]
  show Option.map _ (Option.map _ (quo (tl s (m + 2)))) = Option.map _ (quo (tl s (m + 2)))
  cases quo (tl s (m + 2)) with
  | none => rfl
  | some p => simp; omega
theorem QI.none {s : ByteArray} {a m : Nat} {d : List UInt8} (h : QI s a m d) (hn : quo (tl s m) = none) : quo (tl s (a + 1)) = none := by
  unfold QI at h; rw [h, hn]; rfl
theorem u8_lt {c : UInt8} : c < 32 ↔ (c.toNat : Int) < 32 := by rw [UInt8.lt_iff_toNat_lt]; show c.toNat < 32 ↔ _; omega

set_option maxRecDepth 100000 in
set_option maxHeartbeats 8000000 in
theorem rquoted_any (s : ByteArray) (a : Nat) (ha : a < s.size) (hs : s.size ≤ 1000000) (w : World) :
    Calls Try.prog 37 #[.string s, .int .i64 (a : Int)] w fun x w' => x = .returned (rqv a (quo (tl s (a + 1)))) ∧ Below w.heap.size w w' := by
  obtain ⟨i0, hi, hz0, hz1, hz2⟩ := info_parts info_u8
  obtain ⟨Q, hQ⟩ : ∃ Q, rqv a (quo (tl s (a + 1))) = Q := ⟨_, rfl⟩
  rw [hQ]
  have HQ := Hid.intro hQ
  clear hQ
  go_enter Try.func37, Try.ntmps37
  go_wp2
  go_loopw [6, 7] (fun v i wr => ∃ (m : Nat) (d : List UInt8), i = .int .i64 (m : Int) ∧ a + 1 ≤ m ∧ m ≤ s.size ∧ d.length ≤ m ∧ Hid (Below w.heap.size w wr) ∧ Hid (wr.ownsRow w.heap.size 5 1 v d.length (bv d)) ∧ Hid (QI s a m d)) (fun _ i _ => s.size - (intOf i).toNat)
  case atStart =>
    refine ⟨a + 1, [], rfl, Nat.le_refl _, ha, Nat.zero_le _, Below.refl _ _, World.ownsRow_nil _ _ _ _, ?_⟩
    rw [Hid, QI]
    cases quo (tl s (a + 1)) <;> simp
  case round =>
    obtain ⟨m, d, rfl, ham, hm, hdm, HB, O, HI⟩ := hrel
    by_cases hlt : (m : Int) < (s.size : Int)
    · have hlt' : m < s.size := by omega
      by_cases h34 : (s[m].toNat : Int) = 34
      · have hres : Q = .tuple #[.string (bs d), .int .i64 ((m : Int) + 1)] := by
          rw [← HQ.out, HI.out, quo_q hlt' (u8_eq h34)]
          simp only [Option.map_some, List.append_nil, rqv]
          rw [show ((a + 1 + (m - (a + 1) + 1) : Nat) : Int) = (m : Int) + 1 by omega]
        have hcv := conv_own O.out
        go_wp2
        refine bodyPost_ret (v := .tuple #[.string (bs d), .int .i64 ((m : Int) + 1)]) (by simp [results, Try.results37, go_sem]) rfl ⟨by first | rfl | rw [hres], HB.out⟩
      · by_cases hlow : (s[m].toNat : Int) < 32
        · have hres : Q = .tuple #[.string ⟨#[]⟩, .int .i64 (-1)] := by
            rw [← HQ.out, HI.out.none (quo_low hlt' (u8_lt.2 hlow))]; rfl
          have h34b : ((s[m].toNat : Int) == 34) = false := beq_false_of_ne h34
          go_wp2
          refine bodyPost_ret (v := .tuple #[.string ⟨#[]⟩, .int .i64 (-1)]) (by simp [results, Try.results37, go_sem]) rfl ⟨by first | rfl | rw [hres], HB.out⟩
        · have h34b : ((s[m].toNat : Int) == 34) = false := beq_false_of_ne h34
          by_cases h92 : (s[m].toNat : Int) = 92
          · by_cases hl2 : (m : Int) + 1 < (s.size : Int)
            · have hl1 : m + 1 < s.size := by omega
              have HS := Hid.intro (fun c hc => HI.out.esc ham hlt' (u8_eq h92) hl1 (c := c) hc)
              clear h34 h34b hlow
              by_cases he : (s[m + 1].toNat : Int) = 34
              · have HS1 := Hid.intro (HS.out 34 (by rw [show s[m + 1] = 34 from u8_eq he]; decide))
                clear HS
                go_wp2_with (at_builtin; refine wpList_append_lies _ rfl _ _ _ rfl w.heap.size 5 i0 (.int .u8 0) 1 1 Try.underlying37 hi hz0 hz1 hz2 rfl (by omega) _ _ _ rfl (O.out.alloc _) ⟨wr.heap.size, 0, none⟩ 1 1 [.int .u8 34] rfl rfl (news_u8 wr 34).1 (news_u8 wr 34).2 (by omega) (by unfold maxLen; omega) (by omega) (by have := HB.out.size; simp; omega) (wr.heap.size + 1) (by simp) ?_)
                intro g4 cap4 w4 O4 gr4 at4 lt4
                have HO := Hid.intro (row1 (c := 34) rfl HB.out O.out gr4 O4)
                clear O4 gr4 at4 lt4
                go_wp2
                go_roundw
                case rel => exact ⟨m + 1 + 1, d ++ [34], by go_num, by omega, by omega, by rw [List.length_append, List.length_singleton]; omega, HO.out.1, HO.out.2, HS1⟩
                case measure => simp [intOf]; omega
              · have e1 : ((s[m + 1].toNat : Int) == 34) = false := beq_false_of_ne he
                have he1 := he
                clear he
                by_cases he : (s[m + 1].toNat : Int) = 92
                · have HS1 := Hid.intro (HS.out 92 (by rw [show s[m + 1] = 92 from u8_eq he]; decide))
                  clear HS
                  go_wp2_with (at_builtin; refine wpList_append_lies _ rfl _ _ _ rfl w.heap.size 5 i0 (.int .u8 0) 1 1 Try.underlying37 hi hz0 hz1 hz2 rfl (by omega) _ _ _ rfl (O.out.alloc _) ⟨wr.heap.size, 0, none⟩ 1 1 [.int .u8 92] rfl rfl (news_u8 wr 92).1 (news_u8 wr 92).2 (by omega) (by unfold maxLen; omega) (by omega) (by have := HB.out.size; simp; omega) (wr.heap.size + 1) (by simp) ?_)
                  intro g4 cap4 w4 O4 gr4 at4 lt4
                  have HO := Hid.intro (row1 (c := 92) rfl HB.out O.out gr4 O4)
                  clear O4 gr4 at4 lt4
                  go_wp2
                  go_roundw
                  case rel => exact ⟨m + 1 + 1, d ++ [92], by go_num, by omega, by omega, by rw [List.length_append, List.length_singleton]; omega, HO.out.1, HO.out.2, HS1⟩
                  case measure => simp [intOf]; omega
                · have e2 : ((s[m + 1].toNat : Int) == 92) = false := beq_false_of_ne he
                  have he2 := he
                  clear he
                  by_cases he : (s[m + 1].toNat : Int) = 110
                  · have HS1 := Hid.intro (HS.out 10 (by rw [show s[m + 1] = 110 from u8_eq he]; decide))
                    clear HS
                    go_wp2_with (at_builtin; refine wpList_append_lies _ rfl _ _ _ rfl w.heap.size 5 i0 (.int .u8 0) 1 1 Try.underlying37 hi hz0 hz1 hz2 rfl (by omega) _ _ _ rfl (O.out.alloc _) ⟨wr.heap.size, 0, none⟩ 1 1 [.int .u8 10] rfl rfl (news_u8 wr 10).1 (news_u8 wr 10).2 (by omega) (by unfold maxLen; omega) (by omega) (by have := HB.out.size; simp; omega) (wr.heap.size + 1) (by simp) ?_)
                    intro g4 cap4 w4 O4 gr4 at4 lt4
                    have HO := Hid.intro (row1 (c := 10) rfl HB.out O.out gr4 O4)
                    clear O4 gr4 at4 lt4
                    go_wp2
                    go_roundw
                    case rel => exact ⟨m + 1 + 1, d ++ [10], by go_num, by omega, by omega, by rw [List.length_append, List.length_singleton]; omega, HO.out.1, HO.out.2, HS1⟩
                    case measure => simp [intOf]; omega
                  · have e3 : ((s[m + 1].toNat : Int) == 110) = false := beq_false_of_ne he
                    have he3 := he
                    clear he
                    by_cases he : (s[m + 1].toNat : Int) = 116
                    · have HS1 := Hid.intro (HS.out 9 (by rw [show s[m + 1] = 116 from u8_eq he]; decide))
                      clear HS
                      go_wp2_with (at_builtin; refine wpList_append_lies _ rfl _ _ _ rfl w.heap.size 5 i0 (.int .u8 0) 1 1 Try.underlying37 hi hz0 hz1 hz2 rfl (by omega) _ _ _ rfl (O.out.alloc _) ⟨wr.heap.size, 0, none⟩ 1 1 [.int .u8 9] rfl rfl (news_u8 wr 9).1 (news_u8 wr 9).2 (by omega) (by unfold maxLen; omega) (by omega) (by have := HB.out.size; simp; omega) (wr.heap.size + 1) (by simp) ?_)
                      intro g4 cap4 w4 O4 gr4 at4 lt4
                      have HO := Hid.intro (row1 (c := 9) rfl HB.out O.out gr4 O4)
                      clear O4 gr4 at4 lt4
                      go_wp2
                      go_roundw
                      case rel => exact ⟨m + 1 + 1, d ++ [9], by go_num, by omega, by omega, by rw [List.length_append, List.length_singleton]; omega, HO.out.1, HO.out.2, HS1⟩
                      case measure => simp [intOf]; omega
                    · have e4 : ((s[m + 1].toNat : Int) == 116) = false := beq_false_of_ne he
                      have hres : Q = .tuple #[.string ⟨#[]⟩, .int .i64 (-1)] := by
                        rw [← HQ.out, HI.out.none]
                        · rfl
                        · rw [quo_esc hlt' (u8_eq h92) hl1]
                          have : escU s[m + 1] = none := by
                            unfold escU escB
                            rw [if_neg (by omega), if_neg he3, if_neg he]; rfl
                          rw [this]
                      clear he he1 he2 he3
                      go_wp2
                      refine bodyPost_ret (v := .tuple #[.string ⟨#[]⟩, .int .i64 (-1)]) (by simp [results, Try.results37, go_sem]) rfl ⟨by first | rfl | rw [hres], HB.out⟩
            · have hres : Q = .tuple #[.string ⟨#[]⟩, .int .i64 (-1)] := by
                rw [← HQ.out, HI.out.none (quo_esc0 hlt' (u8_eq h92) (by omega))]; rfl
              clear h34 h34b hlow
              go_wp2
              refine bodyPost_ret (v := .tuple #[.string ⟨#[]⟩, .int .i64 (-1)]) (by simp [results, Try.results37, go_sem]) rfl ⟨by first | rfl | rw [hres], HB.out⟩
          · have h92b : ((s[m].toNat : Int) == 92) = false := beq_false_of_ne h92
            have HS := Hid.intro (HI.out.step ham hlt' (fun e => h34 (by rw [e]; rfl)) (fun e => hlow (u8_lt.1 e)) (fun e => h92 (by rw [e]; rfl)))
            clear h34 h92
            go_wp2_with (at_builtin; refine wpList_append_lies _ rfl _ _ _ rfl w.heap.size 5 i0 (.int .u8 0) 1 1 Try.underlying37 hi hz0 hz1 hz2 rfl (by omega) _ _ _ rfl (O.out.alloc _) ⟨wr.heap.size, 0, none⟩ 1 1 [.int .u8 (s[m].toNat : Int)] rfl rfl (news_u8 wr (s[m].toNat : Int)).1 (news_u8 wr (s[m].toNat : Int)).2 (by omega) (by unfold maxLen; omega) (by omega) (by have := HB.out.size; simp; omega) (wr.heap.size + 1) (by simp) ?_)
            intro g4 cap4 w4 O4 gr4 at4 lt4
            have HO := Hid.intro (row1 (c := s[m]) rfl HB.out O.out gr4 O4)
            clear O4 gr4 at4 lt4
            go_wp2
            go_roundw
            case rel => exact ⟨m + 1, d ++ [s[m]], by go_num, by omega, hlt', by rw [List.length_append, List.length_singleton]; omega, HO.out.1, HO.out.2, HS⟩
            case measure => simp [intOf]; omega
    · have hres : Q = .tuple #[.string ⟨#[]⟩, .int .i64 (-1)] := by
        rw [← HQ.out, HI.out.none (quo_end (by omega))]; rfl
      go_wp2
      refine bodyPost_ret (v := .tuple #[.string ⟨#[]⟩, .int .i64 (-1)]) (by simp [results, Try.results37, go_sem]) rfl ⟨by first | rfl | rw [hres], HB.out⟩
end Go.Proofs.Ytlheiiapolhpeaa
