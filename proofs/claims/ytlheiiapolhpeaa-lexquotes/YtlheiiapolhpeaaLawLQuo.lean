/- LexQuotes: the walk. -/
import Derived.Test.YtlheiiapolhpeaaLRead
namespace Go.Proofs.Ytlheiiapolhpeaa
open Go.RowKit

theorem ok_step {s : ByteArray} {k : Nat} (h : k < s.size) : (s.data.toList.take (k + 1)).all okC = ((s.data.toList.take k).all okC && okC s[k]) := by
  have : s.data.toList.take (k + 1) = s.data.toList.take k ++ [s[k]] := by
    rw [List.take_succ_eq_append_getElem (by rw [← Lib.size_eq]; exact h)]; rfl
  rw [this, List.all_append, List.all_cons, List.all_nil, Bool.and_true]
theorem ok_end (s : ByteArray) : s.data.toList.take s.size = s.data.toList := List.take_of_length_le (by rw [← Lib.size_eq]; exact Nat.le_refl _)
theorem okC_int (c : UInt8) : okC c = !(decide ((c.toNat : Int) < 32) && !((c.toNat : Int) == 10) && !((c.toNat : Int) == 9)) := by
  have h1 : decide (c < 32) = decide ((c.toNat : Int) < 32) := by
    apply decide_eq_decide.2; rw [UInt8.lt_iff_toNat_lt]; show c.toNat < 32 ↔ _; omega
  have h2 : ∀ d : UInt8, (c == d) = ((c.toNat : Int) == (d.toNat : Int)) := fun d => by
    by_cases e : c = d
    · subst e; simp
    · rw [beq_false_of_ne e, beq_false_of_ne]
      intro h; exact e (UInt8.toNat_inj.1 (by omega))
  rw [okC, h1, h2 10, h2 9]
  rfl

set_option maxRecDepth 100000 in
set_option maxHeartbeats 8000000 in
theorem lawQuotes (w : World) (l : List ByteArray) (sv : Value) (hl : Tv w l sv) :
    Calls Try.prog 5 #[sv] w fun e w' => e = .returned (.bool true) ∧ Below w.heap.size w w' := by
  have HT := Hid.intro hl
  have HW := fun w => Hid.intro (wakes_any w)
  obtain ⟨a0, cap, rfl, hc1, hc2⟩ := hl.form
  clear hl
  go_enter Try.func5, Try.ntmps5
  go_wp2_with fail
  go_loopw [3] (fun i wr => ∃ k : Nat, i = .int .i64 (k : Int) ∧ k ≤ l.length ∧ Hid (Below w.heap.size w wr)) (fun i _ => l.length - (intOf i).toNat)
  case atStart => exact ⟨0, rfl, Nat.zero_le _, Below.refl _ _⟩
  case round =>
    obtain ⟨k, rfl, hk, HB⟩ := hrel
    by_cases hlt : (k : Int) < (l.length : Int)
    · by_cases h8 : (k : Int) < 8
      · have hlt' : k < l.length := by omega
        obtain ⟨b, o, rfl, hc⟩ := (HT.out.below HB.out).cell hlt'
        generalize hs : l[k] = s at hc
        by_cases hlong : (2000 : Int) < (s.size : Int)
        · go_wp2
          go_roundw
          case rel => exact ⟨k + 1, by go_num, hlt', HB⟩
          case measure => simp [intOf]; omega
        · go_wp2_with fail
          go_loopw [5, 6] (fun bad i wr2 => wr2 = wr ∧ ∃ m : Nat, i = .int .i64 (m : Int) ∧ m ≤ s.size ∧ bad = .bool (!(s.data.toList.take m).all okC)) (fun _ i _ => s.size - (intOf i).toNat)
          case atStart => exact ⟨rfl, 0, rfl, Nat.zero_le _, rfl⟩
          case round =>
            obtain ⟨hw2, m, rfl, hm, rfl⟩ := hrel
            subst hw2
            by_cases hml : (m : Int) < (s.size : Int)
            · have hml' : m < s.size := by omega
              have hst := ok_step hml'
              rw [okC_int] at hst
              cases hb : (s.data.toList.take m).all okC with
              | false =>
                rw [hb, Bool.false_and] at hst
                go_wp2
                go_roundw
                case rel => exact ⟨trivial, m + 1, by go_num, hml', by rw [hst]; rfl⟩
                case measure => simp [intOf]; omega
              | true =>
                rw [hb, Bool.true_and] at hst
                by_cases h1 : (s[m].toNat : Int) < 32
                · go_wp2
                  all_goals go_roundw
                  all_goals (first | exact ⟨trivial, m + 1, by go_num, hml', by rw [hst]; first | (simp [*]; done) | (simp [*]; rfl)⟩ | (simp [intOf]; omega))
                · go_wp2
                  go_roundw
                  case rel => exact ⟨trivial, m + 1, by go_num, hml', by rw [hst]; simp [h1]⟩
                  case measure => simp [intOf]; omega
            · have hme : m = s.size := by omega
              subst hme
              rw [ok_end]
              have HQ := fun w => Hid.intro (quote_any s (by omega) w)
              have hsz := qb_size s (by omega)
              have hbig1 : ¬ 9223372036854775807 < 1 + (quoteS s).size := by
                rw [qb, ByteArray.size_append, ByteArray.size_append] at hsz
                have : (⟨#[32]⟩ : ByteArray).size = 1 := rfl
                omega
              have hbig2 : ¬ 9223372036854775807 < 1 + (quoteS s).size + 1 := by
                rw [qb, ByteArray.size_append, ByteArray.size_append] at hsz
                have : (⟨#[32]⟩ : ByteArray).size = 1 := rfl
                omega
              cases hb : s.data.toList.all okC with
              | false =>
                have HL := fun w => Hid.intro (lex_bad (s := qb s) hsz (quoted_bad hb) w)
                unfold qb at HL
                clear hsz hb
                generalize quoteS s = qs at *
                go_wp2_with fail
                refine (HQ _).out.mono ?_
                rintro e w2 ⟨rfl, hb2⟩
                have HB2 := Hid.intro (hb2.via HB.out)
                clear hb2
                go_wp2_with fail
                refine (HL _).out.mono ?_
                rintro e w3 ⟨rfl, hb3⟩
                have HB3 := Hid.intro (hb3.via HB2.out)
                clear hb3
                go_wp2
                go_roundw
                case rel => exact ⟨k + 1, by go_num, hlt', HB3⟩
                case measure => simp [intOf]; omega
              | true =>
                obtain ⟨hF, e0, hTt⟩ := quoted_good hb
                have HL := fun w => Hid.intro (lex_ls (s := qb s) hsz hF w)
                rw [hTt] at HL
                unfold qb at HL
                clear hsz hb hF hTt
                generalize quoteS s = qs at *
                go_wp2_with fail
                refine (HQ _).out.mono ?_
                rintro e w2 ⟨rfl, hb2⟩
                have HB2 := Hid.intro (hb2.via HB.out)
                clear hb2
                go_wp2_with fail
                refine (HL _).out.mono ?_
                rintro e w3 ⟨v3, rfl, HV3, HB3⟩
                obtain ⟨p3, cap3, rfl, hp3⟩ := HV3.out
                obtain ⟨g3, rfl, -, -, hcl⟩ := hp3 (Nat.zero_lt_succ _)
                obtain ⟨c0, c1, c2, -⟩ := hcl 0 (Nat.zero_lt_succ _)
                simp only [List.getElem_cons_zero] at c0 c1 c2
                have HB4 := Hid.intro (HB3.out.via HB2.out)
                clear HV3 hp3 hcl
                go_wp2
                go_roundw
                case rel => exact ⟨k + 1, by go_num, hlt', HB4⟩
                case measure => simp [intOf]; omega
      · go_wp2_with fail
        refine (HW _).out.mono ?_
        rintro e w2 ⟨rfl, hb2⟩
        have HB2 := Hid.intro (hb2.via HB.out)
        clear hb2
        go_wp2
        go_ret
        exact ⟨rfl, HB2.out⟩
    · go_wp2_with fail
      refine (HW _).out.mono ?_
      rintro e w2 ⟨rfl, hb2⟩
      have HB2 := Hid.intro (hb2.via HB.out)
      clear hb2
      go_wp2
      go_ret
      exact ⟨rfl, HB2.out⟩
end Go.Proofs.Ytlheiiapolhpeaa
