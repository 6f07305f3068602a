/- LexPlaces: the walk. -/
import Derived.Test.YtlheiiapolhpeaaLBlk
import Derived.BigQuiet
import Derived.Deep.RegionHeld3
namespace Go.Proofs.Ytlheiiapolhpeaa
open Go.RowKit

theorem below_drewN {a w : World} (h : Below a.heap.size a w) (n : Nat) : Below a.heap.size a (w.drewN n) := ⟨h.os, h.tape, h.output, h.size, h.block⟩

theorem blk_ex {s : ByteArray} {a b : Nat} (h : blk false (tl (s.extract a b) 0) = (s.extract a b).size) : decide (blkAt false (s.extract a b) 0 = (s.extract a b).size) = true := by
  unfold blkAt; rw [h]; simp
theorem place_at {s : ByteArray} (hs : s.size ≤ 2000) (hF : lexF s = none) {m n : Nat} (hm : m ≤ s.size) (hn : n < (lexT s).length) (h : tells m (tl s m) = (tells 0 (tl s 0)).drop n) :
    m ≤ (lexT s)[n].a ∧ (lexT s)[n].a < (lexT s)[n].e ∧ (lexT s)[n].e ≤ s.size ∧ decide (blkAt false (s.extract m (lexT s)[n].a) 0 = (s.extract m (lexT s)[n].a).size) = true ∧ tells (lexT s)[n].e (tl s (lexT s)[n].e) = (tells 0 (tl s 0)).drop (n + 1) ∧
    lexF (s.extract (lexT s)[n].a (lexT s)[n].e) = none ∧ lexT (s.extract (lexT s)[n].a (lexT s)[n].e) = [⟨(lexT s)[n].k, (lexT s)[n].t, 0, (lexT s)[n].e - (lexT s)[n].a⟩] := by
  have hA := (lexF_none (by omega)).1 hF
  have hn' : n < (tells 0 (tl s 0)).length := by rw [← lexT_len]; exact hn
  have hx : (lexT s)[n] = (tells 0 (tl s 0))[n].1 := by simp [lexT]
  have h2 : (tells 0 (tl s 0))[n].2 = true := List.all_eq_true.1 hA _ (List.getElem_mem _)
  rw [List.drop_eq_getElem_cons hn'] at h
  have h3 : tells m (tl s m) = ((lexT s)[n], true) :: (tells 0 (tl s 0)).drop (n + 1) := by
    rw [h, hx, ← h2]
  obtain ⟨p1, p2, p3, p4, p5, p6, p7⟩ := place_next hm (by omega) h3
  exact ⟨p1, p2, p3, blk_ex p4, p5.symm, p6, p7⟩
theorem place_fin {s : ByteArray} {m : Nat} (h : tells m (tl s m) = (tells 0 (tl s 0)).drop (lexT s).length) : decide (blkAt false (s.extract m s.size) 0 = (s.extract m s.size).size) = true := by
  rw [List.drop_of_length_le (by rw [lexT_len]; exact Nat.le_refl _)] at h
  refine blk_ex ?_
  rw [tl_extract2, List.take_of_length_le (by rw [tl_len]; exact Nat.le_refl _), place_end h, tl_len, ByteArray.size_extract]
  omega

set_option maxRecDepth 100000 in
set_option maxHeartbeats 8000000 in
theorem lawPlaces (w : World) (l : List ByteArray) (sv : Value) (hl : Tv w l sv) :
    Calls Try.prog 4 #[sv] w fun e w' => e = .returned (.bool true) ∧ Below w.heap.size w w' := by
  have HT := Hid.intro hl
  have HW := fun w => Hid.intro (wakes_any w)
  obtain ⟨a0, cap, rfl, hc1, hc2⟩ := hl.form
  clear hl
  go_enter Try.func4, Try.ntmps4
  go_wp2_with fail
  go_loopw [3] (fun i wr => ∃ k : Nat, i = .int .i64 (k : Int) ∧ k ≤ l.length ∧ Hid (Below w.heap.size w wr)) (fun i _ => l.length - (intOf i).toNat)
  case atStart => exact ⟨0, rfl, Nat.zero_le _, Below.refl _ _⟩
  case round =>
    obtain ⟨k, rfl, hk, HB⟩ := hrel
    by_cases hlt : (k : Int) < (l.length : Int)
    · by_cases h8 : (k : Int) < 8
      · have hlt' : k < l.length := by omega
        obtain ⟨b, o, rfl, hc⟩ := (HT.out.below HB.out).cell hlt'
        generalize hs : l[k] = s at hc
        by_cases hlong : (2000 : Int) < (s.size : Int)
        · go_wp2
          go_roundw
          case rel => exact ⟨k + 1, by go_num, hlt', HB⟩
          case measure => simp [intOf]; omega
        · have hsz : s.size ≤ 2000 := by omega
          cases hF : lexF s with
          | some a =>
            have HL := fun w => Hid.intro (lex_bad (s := s) (by omega) hF w)
            have hal := (lexF_some (by omega) hF).1
            have hal' : (a : Int) < (s.size : Int) := by omega
            clear hF
            go_wp2_with fail
            refine (HL _).out.mono ?_
            rintro e w2 ⟨rfl, hb2⟩
            have HB2 := Hid.intro (hb2.via HB.out)
            clear hb2
            go_wp2
            go_roundw
            case rel => exact ⟨k + 1, by go_num, hlt', HB2⟩
            case measure => simp [intOf]; omega
          | none =>
            have HL := fun w => Hid.intro (lex_ls (s := s) (by omega) hF w)
            have HP := Hid.intro (fun m n (hm : m ≤ s.size) hn h => place_at hsz hF (m := m) (n := n) hm hn h)
            have HE := Hid.intro (fun m (h : tells m (tl s m) = (tells 0 (tl s 0)).drop (lexT s).length) => place_fin h)
            have hlen := lexT_le (s := s)
            generalize lexT s = X at *
            generalize hT : tells 0 (tl s 0) = T at *
            clear hF
            go_wp2_with fail
            refine (HL _).out.mono ?_
            rintro e w2 ⟨v2, rfl, HV2, HB2⟩
            have HB3 := Hid.intro (HB2.out.via HB.out)
            obtain ⟨p2, cap2, rfl, hp2⟩ := HV2.out
            clear HV2 HB2
            have HP2 := Hid.intro hp2
            clear hp2
            go_wp2_with fail
            go_loopw [8, 9] (fun f i wr => ∃ m n : Nat, f = .int .i64 (m : Int) ∧ i = .int .i64 (n : Int) ∧ m ≤ s.size ∧ n ≤ X.length ∧ Hid (tells m (tl s m) = T.drop n) ∧ Hid (Below w2.heap.size w2 wr)) (fun _ i _ => X.length - (intOf i).toNat)
            case atStart => exact ⟨0, 0, rfl, rfl, Nat.zero_le _, Nat.zero_le _, hT, Below.refl _ _⟩
            case round =>
              obtain ⟨m, n, rfl, rfl, hm, hn, HQ, HB4⟩ := hrel
              by_cases hnl : (n : Int) < (X.length : Int)
              · have hnl' : n < X.length := by omega
                obtain ⟨q1, q2, q3, q4, q5, q6, q7⟩ := HP.out m n hm hnl' HQ.out
                obtain ⟨g2, rfl, -, hg2, hcl⟩ := HP2.out (by omega)
                have hcl' := hcl.below HB4.out hg2
                obtain ⟨x0, x1, x2, x3⟩ := hcl' _ hnl'
                have HS := Hid.intro (fun (w' : World) (h : Below wr.heap.size wr w') => (hcl.below (h.via HB4.out) hg2) n hnl')
                clear hcl hcl'
                have HL2 := fun w => Hid.intro (lex_ls (s := s.extract X[n].a X[n].e) (by rw [ByteArray.size_extract]; omega) q6 w)
                rw [q7] at HL2
                have HK := fun w => Hid.intro (lblank_any (s.extract m X[n].a) (by rw [ByteArray.size_extract]; omega) w)
                rw [q4] at HK
                have HQ5 := Hid.intro q5
                clear q4 q5 q6 q7
                generalize X[n].a = xa at *
                generalize X[n].e = xe at *
                generalize X[n].k = xk at *
                generalize X[n].t = xt at *
                have i1 : decide ((xa : Int) < (m : Int)) = false := by simp; omega
                have i2 : decide ((xe : Int) ≤ (xa : Int)) = false := by simp; omega
                have i3 : decide ((s.size : Int) < (xe : Int)) = false := by simp; omega
                have i4 : (m : Int) ≤ (xa : Int) := by omega
                have i5 : (xa : Int) ≤ (s.size : Int) := by omega
                have i6 : (xa : Int) ≤ (xe : Int) := by omega
                have i7 : (xe : Int) ≤ (s.size : Int) := by omega
                go_wp2_with fail
                go_quiet ((go_at_call 15; exact Calls.quiet_of_same (HK _).out))
                have HB5 := Hid.intro (below_drewN HB4.out nq)
                have HS5 := Hid.intro (fun (w' : World) (h : Below (wr.drewN nq).heap.size (wr.drewN nq) w') => HS.out w' ⟨h.os, h.tape, h.output, h.size, h.block⟩)
                have HX5 := Hid.intro (fun (w' : World) (h : Below (wr.drewN nq).heap.size (wr.drewN nq) w') => And.intro (HS5.out w' h).2.2.1 (HS5.out w' h).2.2.2)
                have hc2' := (HS5.out _ (Below.refl _ _)).2.2.1
                have hc3' := (HS5.out _ (Below.refl _ _)).2.2.2
                clear HS HB4 x0 x1 x2 x3 HK i1 i2 i3
                generalize wr.drewN nq = W at *
                go_wp2
                go_region_held3 (fun w' => w'.cell? ⟨g2, n * 4 + 2, none⟩ = some (.int .i64 (xa : Int)) ∧ w'.cell? ⟨g2, n * 4 + 3, none⟩ = some (.int .i64 (xe : Int))) ((first | exact HX5.out _ (Below.refl _ _) | exact HX5.out _ (Below.refl _ _).drew | exact HX5.out _ D.out)) ((go_at_call 8; refine (HL2 _).out.mono ?_; rintro e w3 ⟨v3, rfl, HV3, hb3⟩; have D := Hid.intro (hb3.out.via (Below.refl _ W).drew); obtain ⟨p3, cap3, rfl, hp3⟩ := HV3.out; obtain ⟨g3, rfl, -, -, hcl⟩ := hp3 (Nat.zero_lt_succ _); have HC3 := Hid.intro (hcl 0 (Nat.zero_lt_succ _)); clear hb3 HV3 hp3 hcl))
                obtain ⟨o0, o1, -, -⟩ := HC3.out
                obtain ⟨x0, x1, -, -⟩ := HS5.out w3 D.out
                simp only [List.getElem_cons_zero, Nat.zero_mul, Nat.zero_add] at o0 o1
                have HB6 := Hid.intro (Below.via D.out HB5.out)
                clear HC3 HX5 HS5 HB5 D hc2' hc3' i4 i5 i6 i7
                go_wp2
                go_quiet (fail)
                go_wp2
                go_roundw
                case rel => exact ⟨xe, n + 1, rfl, by go_num, q3, hnl', HQ5, below_drewN HB6.out nq⟩
                case measure => simp [intOf]; omega
              · have hne : n = X.length := by omega
                subst hne
                have hE := HE.out m HQ.out
                have HK := fun w => Hid.intro (lblank_any (s.extract m s.size) (by rw [ByteArray.size_extract]; omega) w)
                rw [hE] at HK
                have i4 : (m : Int) ≤ (s.size : Int) := by omega
                clear hE
                go_wp2_with (go_at_call 15; refine (HK _).out.mono ?_; rintro e w5 ⟨rfl, hw5⟩; subst w5)
                go_roundw
                case rel => exact ⟨k + 1, by go_num, hlt', HB4.out.via HB3.out⟩
                case measure => simp [intOf]; omega
      · go_wp2_with fail
        refine (HW _).out.mono ?_
        rintro e w2 ⟨rfl, hb2⟩
        have HB2 := Hid.intro (hb2.via HB.out)
        clear hb2
        go_wp2
        go_ret
        exact ⟨rfl, HB2.out⟩
    · go_wp2_with fail
      refine (HW _).out.mono ?_
      rintro e w2 ⟨rfl, hb2⟩
      have HB2 := Hid.intro (hb2.via HB.out)
      clear hb2
      go_wp2
      go_ret
      exact ⟨rfl, HB2.out⟩
end Go.Proofs.Ytlheiiapolhpeaa
