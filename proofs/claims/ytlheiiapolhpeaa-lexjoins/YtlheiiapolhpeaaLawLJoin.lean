/- LexJoins: the walk. -/
import Derived.Test.YtlheiiapolhpeaaLRead
import Derived.BigQuiet
namespace Go.Proofs.Ytlheiiapolhpeaa
open Go.RowKit

theorem below_drewN {a w : World} (h : Below a.heap.size a w) (n : Nat) : Below a.heap.size a (w.drewN n) := ⟨h.os, h.tape, h.output, h.size, h.block⟩

theorem lexT_at {s : ByteArray} (k : Nat) (hk : k < (lexT s).length) : (lexT s)[k].a < s.size := by
  obtain ⟨-, h2, -⟩ := tells_form _ 0 (tl s 0) (Nat.le_refl _)
  have := h2 ((tells 0 (tl s 0))[k]'(by rw [← lexT_len]; exact hk)) (List.getElem_mem _)
  rw [tl0_len] at this
  simp only [lexT, List.getElem_map]
  omega

theorem lex_some {s : ByteArray} (h : s.size ≤ 65536) (w : World) : Calls Try.prog 8 #[.string s] w fun e W' => ∃ v a r, e = .returned (.tuple #[v, .int .i64 a, .int .i64 r]) ∧ Hid (Below w.heap.size w W') := by
  cases hF : lexF s with
  | none => exact (lex_ls h hF w).mono fun _ _ ⟨v, h1, _, h3⟩ => ⟨v, _, _, h1, h3⟩
  | some a => exact (lex_bad h hF w).mono fun _ _ ⟨h1, h2⟩ => ⟨_, _, _, h1, h2⟩

set_option maxRecDepth 100000 in
set_option maxHeartbeats 8000000 in
theorem lawJoins (w : World) (l : List ByteArray) (sv : Value) (hl : Tv w l sv) (hsz : ∀ s ∈ l, s.size ≤ reachBytes) :
    Calls Try.prog 6 #[sv] w fun e w' => e = .returned (.bool true) ∧ Below w.heap.size w w' := by
  have HT := Hid.intro hl
  have HS := Hid.intro hsz
  have HW := fun w => Hid.intro (wakes_any w)
  obtain ⟨a0, cap, rfl, hc1, hc2⟩ := hl.form
  clear hl hsz
  go_enter Try.func6, Try.ntmps6
  go_wp2_with fail
  go_loopw [3] (fun i wr => ∃ k : Nat, i = .int .i64 ((k : Int) + 1) ∧ k ≤ l.length ∧ Hid (Below w.heap.size w wr)) (fun i _ => l.length + 1 - (intOf i).toNat)
  case atStart => exact ⟨0, rfl, Nat.zero_le _, Below.refl _ _⟩
  case round =>
    obtain ⟨k, rfl, hk, HB⟩ := hrel
    by_cases hlt : (k : Int) + 1 < (l.length : Int)
    · by_cases h8 : (k : Int) + 1 < 8
      · have hlt' : k + 1 < l.length := by omega
        obtain ⟨b, o, rfl, hc⟩ := (HT.out.below HB.out).cell (j := k) (by omega)
        obtain ⟨b', o', e', hc'⟩ := (HT.out.below HB.out).cell hlt'
        cases e'
        have hz1 := HS.out l[k] (List.getElem_mem _)
        have hz2 := HS.out l[k + 1] (List.getElem_mem _)
        generalize hs : l[k] = s at hc hz1
        generalize hs' : l[k + 1] = s' at hc' hz2
        unfold reachBytes at hz1 hz2
        have hk1 : (k : Int) + 1 - 1 = (k : Int) := by omega
        go_wp2_with fail
        go_quiet (fail)
        have HB := Hid.intro (below_drewN HB.out nq)
        clear hc hc'
        generalize wr.drewN nq = wq at *
        by_cases hlong : (2000 : Int) < (s.size : Int) + (s'.size : Int)
        · go_wp2
          go_roundw
          case rel => exact ⟨k + 1, by go_num, by omega, HB⟩
          case measure => simp [intOf]; omega
        · have hlong' : s.size + s'.size ≤ 2000 := by omega
          have hbig1 : ¬ 9223372036854775807 < s.size + 1 := by omega
          have hbig2 : ¬ 9223372036854775807 < s.size + 1 + s'.size := by omega
          have hjs : (joinS s s').size ≤ 65536 := by rw [join_size]; omega
          cases hF : lexF s with
          | some i =>
            obtain ⟨j, hJ⟩ := join_bad1 hlong' hF
            have HL1 := fun w => Hid.intro (lex_bad (s := s) (by omega) hF w)
            have HL2 := fun w => Hid.intro (lex_some (s := s') (by omega) w)
            have HL3 := fun w => Hid.intro (lex_bad (s := joinS s s') hjs hJ w)
            unfold joinS at HL3
            clear hJ hF hjs
            go_wp2_with fail
            refine (HL1 _).out.mono ?_
            rintro e w2 ⟨rfl, hb2⟩
            have HB2 := Hid.intro (hb2.via HB.out)
            clear hb2
            go_wp2_with fail
            refine (HL2 _).out.mono ?_
            rintro e w3 ⟨v3, i3, r3, rfl, HB3⟩
            have HB4 := Hid.intro (HB3.out.via HB2.out)
            clear HB3
            go_wp2_with fail
            refine (HL3 _).out.mono ?_
            rintro e w4 ⟨rfl, hb4⟩
            have HB5 := Hid.intro (hb4.via HB4.out)
            clear hb4
            go_wp2
            go_roundw
            case rel => exact ⟨k + 1, by go_num, by omega, HB5⟩
            case measure => simp [intOf]; omega
          | none =>
            have HL1 := fun w => Hid.intro (lex_ls (s := s) (by omega) hF w)
            cases hF' : lexF s' with
            | some i =>
              have hJ := join_bad2 hlong' hF hF'
              have hil := (lexF_some (by omega) hF').1
              have HL2 := fun w => Hid.intro (lex_bad (s := s') (by omega) hF' w)
              have HL3 := fun w => Hid.intro (lex_bad (s := joinS s s') hjs hJ w)
              unfold joinS at HL3
              clear hJ hF hF' hjs
              go_wp2_with fail
              refine (HL1 _).out.mono ?_
              rintro e w2 ⟨v2, rfl, HV2, HB2⟩
              have HB2 := Hid.intro (HB2.out.via HB.out)
              go_wp2_with fail
              refine (HL2 _).out.mono ?_
              rintro e w3 ⟨rfl, hb3⟩
              have HB4 := Hid.intro (hb3.via HB2.out)
              clear hb3
              go_wp2_with fail
              refine (HL3 _).out.mono ?_
              rintro e w4 ⟨rfl, hb4⟩
              have HB5 := Hid.intro (hb4.via HB4.out)
              clear hb4
              go_wp2
              go_roundw
              case rel => exact ⟨k + 1, by go_num, by omega, HB5⟩
              case measure => simp [intOf]; omega
            | none =>
              obtain ⟨hJ, hJl, hJk⟩ := join_good hlong' hF hF'
              have HA := Hid.intro (lexT_at (s := s'))
              have hl1 := lexT_le (s := s)
              have hl2 := lexT_le (s := s')
              have HL2 := fun w => Hid.intro (lex_ls (s := s') (by omega) hF' w)
              have HL3 := fun w => Hid.intro (lex_ls (s := joinS s s') hjs hJ w)
              have HK := Hid.intro hJk
              generalize hX : lexT s = X at *
              generalize hY : lexT s' = Y at *
              generalize hZ : lexT (joinS s s') = Z at *
              unfold joinS at HL3
              clear hJ hF hF' hjs hJk hX hY hZ
              go_wp2_with fail
              refine (HL1 _).out.mono ?_
              rintro e w2 ⟨v2, rfl, HV2, HB2⟩
              obtain ⟨p2, cap2, rfl, -⟩ := HV2.out
              have HB2 := Hid.intro (HB2.out.via HB.out)
              clear HV2
              go_wp2_with fail
              refine (HL2 _).out.mono ?_
              rintro e w3 ⟨v3, rfl, HV3, HB3⟩
              have HB4 := Hid.intro (HB3.out.via HB2.out)
              clear HB3
              go_wp2_with fail
              refine (HL3 _).out.mono ?_
              rintro e w4 ⟨v4, rfl, HV4, HB4'⟩
              have HV5 := Hid.intro (HV3.out.below HB4'.out)
              have HB5 := Hid.intro (HB4'.out.via HB4.out)
              clear HV3 HB4'
              obtain ⟨p4, cap4, rfl, hp4⟩ := HV4.out
              obtain ⟨p3, cap3, rfl, hp3⟩ := HV5.out
              clear HV4 HV5
              have HP4 := Hid.intro hp4
              have HP3 := Hid.intro hp3
              clear hp3 hp4
              go_wp2_with fail
              go_loopw [15] (fun i wr => ∃ m : Nat, i = .int .i64 (m : Int) ∧ m ≤ Y.length ∧ ∃ n, wr = w4.drewN n) (fun i _ => Y.length - (intOf i).toNat)
              case atStart => exact ⟨0, rfl, Nat.zero_le _, 0, rfl⟩
              case round =>
                obtain ⟨m, rfl, hm, n, hwr⟩ := hrel
                subst hwr
                by_cases hml : (m : Int) < (Y.length : Int)
                · have hml' : m < Y.length := by omega
                  have hmz : X.length + m < Z.length := by omega
                  obtain ⟨q1, q2, q3⟩ := HK.out m hml' hmz
                  obtain ⟨g4, rfl, -, -, hcl4⟩ := HP4.out (by omega)
                  obtain ⟨g3, rfl, -, -, hcl3⟩ := HP3.out (by omega)
                  obtain ⟨z0, z1, z2, -⟩ := hcl4 _ hmz
                  obtain ⟨y0, y1, y2, -⟩ := hcl3 _ hml'
                  rw [q1] at z2
                  rw [q2] at z1
                  rw [q3] at z0
                  have hya := HA.out m hml'
                  generalize Y[m].a = ya at z2 y2 hya
                  generalize Y[m].t = yt at z1 y1
                  generalize Y[m].k = yk at z0 y0
                  rw [show ((ya + s.size + 1 : Nat) : Int) = (ya : Int) + (s.size : Int) + 1 by omega] at z2
                  have hi1 : (X.length : Int) + (m : Int) < (X.length : Int) + (Y.length : Int) := by omega
                  clear q1 q2 q3 hcl3 hcl4
                  go_wp2_with fail
                  go_quiet (fail)
                  go_wp2
                  go_roundw
                  case rel => exact ⟨m + 1, by go_num, hml', n + nq, by simp⟩
                  case measure => simp [intOf]; omega
                · go_wp2
                  go_roundw
                  case rel => exact ⟨k + 1, by go_num, by omega, below_drewN HB5.out n⟩
                  case measure => simp [intOf]; omega
      · go_wp2_with fail
        refine (HW _).out.mono ?_
        rintro e w2 ⟨rfl, hb2⟩
        have HB2 := Hid.intro (hb2.via HB.out)
        clear hb2
        go_wp2
        go_ret
        exact ⟨rfl, HB2.out⟩
    · go_wp2_with fail
      refine (HW _).out.mono ?_
      rintro e w2 ⟨rfl, hb2⟩
      have HB2 := Hid.intro (hb2.via HB.out)
      clear hb2
      go_wp2
      go_ret
      exact ⟨rfl, HB2.out⟩
end Go.Proofs.Ytlheiiapolhpeaa
