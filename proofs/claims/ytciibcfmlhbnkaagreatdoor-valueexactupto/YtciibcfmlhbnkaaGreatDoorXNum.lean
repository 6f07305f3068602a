/- proctorref0.Number: a number's digits. -/
import Derived.Test.YtciibcfmlhbnkaaGreatDoorFresh
import Derived.Lib.ItoaNum
import Derived.Laws.BytesArg
import Derived.Deep.AppendLies
namespace Go.Proofs.YtciibcfmlhbnkaaGreatDoor
open Go.RowKit

theorem nd_leX : ∀ (d u : Nat), u < 10 ^ (d + 1) → Lib.nDigits u ≤ d + 1
  | 0, u, h => by rw [Lib.nDigits_small (by simpa using h)]; exact Nat.le_refl _
  | d + 1, u, h => by
    by_cases h9 : u < 10
    · rw [Lib.nDigits_small h9]; omega
    · rw [Lib.nDigits_big h9]
      have := nd_leX d (u / 10) (by rw [Nat.pow_succ] at h; omega)
      omega
theorem conv_one (w : World) (i : Int) (c : UInt8) (h : i = (c.toNat : Int)) : (convert 50 9 (.slice (some ⟨w.heap.size, 0, none⟩) 1 1)).run Tryz.prog (w.alloc (.cells #[.int .u8 i] 5)) = .ok (.string ⟨#[c]⟩) (w.alloc (.cells #[.int .u8 i] 5)) := by
  subst h
  refine run_convert_bytes_back (P := Tryz.prog) _ 50 9 5 ⟨w.heap.size, 0, none⟩ 1 [c] Tryz.underlying50 Tryz.underlying5 Tryz.underlying9 ?_
  intro j hj
  exact World.news_of_block (cs := #[.int .u8 (c.toNat : Int)]) (t := 5) (fr := (0, 0)) (heap_alloc_new w _) j _ (by match j, hj with | 0, _ => rfl)
theorem dec_small {u : Nat} (h : u < 10) : Lib.decDigits u = [UInt8.ofNat (48 + u % 10)] := by rw [Lib.decDigits, dif_pos h, Nat.mod_eq_of_lt h]
theorem dec_big {u : Nat} (h : ¬ u < 10) : Lib.decDigits u = Lib.decDigits (u / 10) ++ [UInt8.ofNat (48 + u % 10)] := by rw [Lib.decDigits, dif_neg h]
theorem cat_ba (c : UInt8) (l : List UInt8) : (⟨#[c]⟩ : ByteArray) ++ ⟨l.toArray⟩ = ⟨(c :: l).toArray⟩ := by
  apply ByteArray.ext
  simp [ByteArray.data_append]

set_option maxRecDepth 20000 in
set_option maxHeartbeats 4000000 in
theorem rnumber_any (n : Int) (h0 : -9223372036854775808 ≤ n) (h1 : n ≤ 9223372036854775807) (w : World) :
    Calls Tryz.prog 36 #[.int .i64 n] w fun e w' => e = .returned (.string ⟨(Lib.itoa n).toArray⟩) ∧ Below w.heap.size w w' := by
  have hlen : (Lib.decDigits n.natAbs).length ≤ 20 := by
    rw [Lib.decDigits_length]
    have := nd_leX 19 n.natAbs (by simp; omega)
    omega
  have HN : Hid (Lib.itoa n = if n < 0 then 45 :: Lib.decDigits n.natAbs else Lib.decDigits n.natAbs) := Hid.intro (by
    unfold Lib.itoa
    split
    · rfl
    · congr 1; omega)
  have HLN := Hid.intro hlen
  generalize Lib.itoa n = I at HN ⊢
  generalize hA : Lib.decDigits n.natAbs = A at HN HLN
  have HA := Hid.intro hA
  clear hA
  clear hlen
  go_enter Tryz.func36, Tryz.ntmps36
  go_wp2_with fail
  go_loopw [3, 4] (fun s m wr => ∃ (u : Nat) (l : List UInt8), s = .string ⟨l.toArray⟩ ∧ m = .int .i64 (if n < 0 then -(u : Int) else (u : Int)) ∧ Hid (A = Lib.decDigits u ++ l) ∧ (u : Int) ≤ 9223372036854775808 ∧ (¬ n < 0 → (u : Int) ≤ 9223372036854775807) ∧ Hid (Below w.heap.size w wr)) (fun _ m _ => (intOf m).natAbs)
  case atStart =>
    refine ⟨n.natAbs, [], rfl, ?_, Hid.intro (by rw [← HA.out]; simp), by omega, fun _ => by omega, Hid.intro (Below.refl _ _)⟩
    congr 1
    split <;> omega
  case round =>
    obtain ⟨u, l, rfl, rfl, hd, hu, hu2, hb⟩ := hrel
    have hl : l.length ≤ 20 := by
      have h2 := HLN.out
      rw [hd.out, List.length_append] at h2
      omega
    obtain ⟨c, HCE⟩ : ∃ c, Hid (UInt8.ofNat (48 + u % 10) = c) := ⟨_, Hid.intro rfl⟩
    have hc : ((c.toNat : Nat) : Int) = 48 + (u : Int) % 10 := by rw [← HCE.out, UInt8.toNat_ofNat']; omega
    have hd0 : (0 : Int) ≤ (u : Int) % 10 := by omega
    have hd9 : (u : Int) % 10 < 10 := by omega
    have HC := Hid.intro hc
    have hb2 := Hid.intro (fun o => hb.out.trans ((Below.refl _ _).alloc hb.out.size o))
    clear hc
    by_cases hn : n < 0
    · rw [if_pos hn]
      by_cases hz : (u : Int) % 10 = 0
      · by_cases hs : u < 10
        · have hconv := conv_one wr (48) c (by have := HC.out; omega)
          have hq : (u : Int) / 10 = 0 := by omega
          go_wp2_with fail
          go_ret
          have hI : I = 45 :: c :: l := by rw [HN.out, hd.out, dec_small (by omega), HCE.out, if_pos (by omega)]; rfl
          subst hI
          exact ⟨rfl, hb2.out _⟩
        · have hconv := conv_one wr (48) c (by have := HC.out; omega)
          have hq : ¬ (u : Int) / 10 = 0 := by omega
          go_wp2_with fail
          go_roundw
          case rel => exact ⟨u / 10, c :: l, by first | rfl | rw [cat_ba], by rw [if_pos (by omega)]; simp, Hid.intro (by rw [hd.out, dec_big (by omega), HCE.out]; simp), by omega, fun _ => by omega, Hid.intro (hb2.out _)⟩
          case measure => simp [intOf]; omega
      · have hz2 : (0 : Int) < (u : Int) % 10 := by omega
        by_cases hs : u < 10
        · have hconv := conv_one wr (48 + (u : Int) % 10) c (by have := HC.out; omega)
          have hq : (u : Int) / 10 = 0 := by omega
          go_wp2_with fail
          go_ret
          have hI : I = 45 :: c :: l := by rw [HN.out, hd.out, dec_small (by omega), HCE.out, if_pos (by omega)]; rfl
          subst hI
          exact ⟨rfl, hb2.out _⟩
        · have hconv := conv_one wr (48 + (u : Int) % 10) c (by have := HC.out; omega)
          have hq : ¬ (u : Int) / 10 = 0 := by omega
          go_wp2_with fail
          go_roundw
          case rel => exact ⟨u / 10, c :: l, by first | rfl | rw [cat_ba], by rw [if_pos (by omega)]; simp, Hid.intro (by rw [hd.out, dec_big (by omega), HCE.out]; simp), by omega, fun _ => by omega, Hid.intro (hb2.out _)⟩
          case measure => simp [intOf]; omega
    · rw [if_neg hn]
      by_cases hs : u < 10
      · have hconv := conv_one wr (48 + (u : Int) % 10) c (by have := HC.out; omega)
        have hq : (u : Int) / 10 = 0 := by omega
        go_wp2_with fail
        go_ret
        have hI : I = c :: l := by rw [HN.out, hd.out, dec_small (by omega), HCE.out, if_neg (by omega)]; rfl
        subst hI
        exact ⟨rfl, hb2.out _⟩
      · have hconv := conv_one wr (48 + (u : Int) % 10) c (by have := HC.out; omega)
        have hq : ¬ (u : Int) / 10 = 0 := by omega
        go_wp2_with fail
        go_roundw
        case rel => exact ⟨u / 10, c :: l, by first | rfl | rw [cat_ba], by rw [if_neg (by omega)]; simp, Hid.intro (by rw [hd.out, dec_big (by omega), HCE.out]; simp), by omega, fun _ => by omega, Hid.intro (hb2.out _)⟩
        case measure => simp [intOf]; omega
end Go.Proofs.YtciibcfmlhbnkaaGreatDoor
