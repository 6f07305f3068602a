/- value.Decode's reader: value, texts and lists. -/
import Derived.Test.YtciibcfmlhbnkaaGreatDoorVDec7
namespace Go.Proofs.YtciibcfmlhbnkaaGreatDoor
open Go.RowKit

theorem Kept.refl (P : Nat → Prop) (w : World) : Kept P w w := fun _ _ _ _ => rfl
theorem Kept.put {P : Nat → Prop} {w0 w : World} (h : Kept P w0 w) {b j : Nat} (hb : ¬ P b) (v : Value) : Kept P w0 (w.setCell ⟨b, j, none⟩ v) := fun g hg hlt o => by
  rw [cell_other _ _ _ _ _ _ (.inl (fun (e : g = b) => hb (e ▸ hg)))]
  exact h g hg hlt o
set_option maxRecDepth 20000 in
set_option maxHeartbeats 2000000 in
theorem val_3n {c : UInt8} {w : World} {R G off cap : Nat} {l : List UInt8} (room : Nat) (_hroom : room ≤ 30) (hl : l.length ≤ 1000000000) (h : Rd w R G off cap (c :: l)) (hc : c.toNat = 3) (he : lenR 65536 l = none) :
    Calls Tryz.prog 69 #[.pointer (some ⟨R, 0, none⟩), .int .i64 (room : Int)] w fun e w' => Tu R w w' ∧ ValP w R G (room + 1) e w' none := by
  have hA := below_al (Below.refl w.heap.size w) (.cells #[.int .i64 0, .bool false, .int .i64 0, .string ⟨#[]⟩, .slice none 0 0] 28)
  have HW := Hid.intro (word_yes (h.below hA) 1 (by simp) (by omega))
  rw [show wordN (List.take 1 (c :: l)) = c.toNat from by simp [wordN], show List.drop 1 (c :: l) = l from rfl] at HW
  have HT := Hid.intro (Tu.below (R := R) hA)
  have hlt := h.lt
  have hltG := h.ltG
  clear h hA
  rw [hc] at HW
  go_enter Tryz.func69, Tryz.ntmps69
  go_wp2_with fail
  refine HW.out.mono ?_
  rintro e w1 ⟨rfl, ⟨o1, k1, h1⟩, h2⟩
  have g0 := fun j => h2.cell (g := w.heap.size) (j := j) (by simp) (by omega)
  have z0 := fun j => h2.froz (g := w.heap.size) (j := j) (by simp) (by omega)
  have hs : w.heap.size < w1.heap.size := by have := h2.size; simp at this; omega
  have hs2 : w.heap.size < w1.heap.size + 1 := by omega
  have T1 := Hid.intro (HT.out.trans h2)
  have n1 : ¬ w1.heap.size = w.heap.size := by omega
  have n2 : ¬ w.heap.size = w1.heap.size := by omega
  have hR1 := h1.lt
  have hG1 := h1.ltG
  have n3 : ¬ w1.heap.size = R := by omega
  have n4 : ¬ w.heap.size = R := by omega
  have n5 : ¬ R = w1.heap.size := by omega
  have n6 : ¬ R = w.heap.size := by omega
  clear HW HT h2
  have HX := fun o => Hid.intro (length_any (h1.al o) 65536 (by omega) hl)
  rw [he] at HX
  have hconv : ∀ w' : World, (convert 50 9 (.slice none 0 0)).run Tryz.prog w' = .ok (.string ⟨#[]⟩) w' := fun w' => run_convert_bytes_nil (w := w') 50 5 Tryz.underlying50 Tryz.underlying5 0 0 _ Tryz.underlying9
  go_wp2_with fail
  refine ((HX _).out).mono ?_
  rintro e w2 ⟨t2, rfl, h2⟩
  have a2 := fun j => t2.cell (g := w.heap.size) (j := j) (by first | omega | (simp; omega)) (by omega)
  have b2 := fun j => t2.cell (g := w1.heap.size) (j := j) (by first | omega | (simp; done) | (simp; omega)) (by omega)
  have c2 := fun j => t2.froz (g := w.heap.size) (j := j) (by first | omega | (simp; omega)) (by omega)
  have d2 := fun j => t2.froz (g := w1.heap.size) (j := j) (by first | omega | (simp; done) | (simp; omega)) (by omega)
  have hs2 : w1.heap.size < w2.heap.size := by have := t2.size; first | omega | (simp at this; omega)
  have hr2 : w.heap.size < w2.heap.size := by omega
  have T2 : Hid (Tu R w w2) := Hid.intro (Tu.trans (by (repeat (first | with_reducible exact T1.out | with_reducible refine Tu.al ?_ _ | with_reducible refine Tu.put ?_ (by simp only; omega) _))) t2)
  go_wp2_with fail
  refine (take_bad h2 0).mono ?_
  rintro e w3 ⟨rfl, h3, t3⟩
  have a3 := fun j => t3.cell (g := w.heap.size) (j := j) (by first | omega | (simp; omega)) (by omega)
  have b3 := fun j => t3.cell (g := w1.heap.size) (j := j) (by first | omega | (simp; done) | (simp; omega)) (by omega)
  have c3 := fun j => t3.froz (g := w.heap.size) (j := j) (by first | omega | (simp; omega)) (by omega)
  have d3 := fun j => t3.froz (g := w1.heap.size) (j := j) (by first | omega | (simp; done) | (simp; omega)) (by omega)
  have hs3 : w1.heap.size < w3.heap.size := by have := t3.size; first | omega | (simp at this; omega)
  have hr3 : w.heap.size < w3.heap.size := by omega
  have T3 : Hid (Tu R w w3) := Hid.intro (Tu.trans (by (repeat (first | with_reducible exact T2.out | with_reducible refine Tu.al ?_ _ | with_reducible refine Tu.put ?_ (by simp only; omega) _))) t3)
  go_wp2_with fail
  refine bodyPost_ret (v := .agg #[.int .i64 3, .bool false, .int .i64 0, .string ⟨#[]⟩, .slice none 0 0]) (by simp [results, Tryz.results69, go_sem, g0, hs, a2, a3]) rfl ⟨?_, ?_⟩
  · (repeat (first | with_reducible exact T3.out | with_reducible refine Tu.al ?_ _ | with_reducible refine Tu.put ?_ (by simp only; omega) _))
  · refine ⟨⟨_, _, _, _, _, _, _, rfl⟩, ?_⟩
    (repeat (first | with_reducible exact h3 | with_reducible refine Bd.al ?_ _ | with_reducible refine Bd.put ?_ (by omega) _))
set_option maxRecDepth 20000 in
set_option maxHeartbeats 2000000 in
theorem val_3 {c : UInt8} {m : Nat} {r : List UInt8} {w : World} {R G off cap : Nat} {l : List UInt8} (room : Nat) (_hroom : room ≤ 30) (hl : l.length ≤ 1000000000) (h : Rd w R G off cap (c :: l)) (hc : c.toNat = 3) (he : lenR 65536 l = some (m, r)) :
    Calls Tryz.prog 69 #[.pointer (some ⟨R, 0, none⟩), .int .i64 (room : Int)] w fun e w' => Tu R w w' ∧ ValP w R G (room + 1) e w' (some ({ zeroT with k := 3, s := ⟨(r.take m).toArray⟩ }, r.drop m)) := by
  have hA := below_al (Below.refl w.heap.size w) (.cells #[.int .i64 0, .bool false, .int .i64 0, .string ⟨#[]⟩, .slice none 0 0] 28)
  have HW := Hid.intro (word_yes (h.below hA) 1 (by simp) (by omega))
  rw [show wordN (List.take 1 (c :: l)) = c.toNat from by simp [wordN], show List.drop 1 (c :: l) = l from rfl] at HW
  have HT := Hid.intro (Tu.below (R := R) hA)
  have hlt := h.lt
  have hltG := h.ltG
  clear h hA
  rw [hc] at HW
  go_enter Tryz.func69, Tryz.ntmps69
  go_wp2_with fail
  refine HW.out.mono ?_
  rintro e w1 ⟨rfl, ⟨o1, k1, h1⟩, h2⟩
  have g0 := fun j => h2.cell (g := w.heap.size) (j := j) (by simp) (by omega)
  have z0 := fun j => h2.froz (g := w.heap.size) (j := j) (by simp) (by omega)
  have hs : w.heap.size < w1.heap.size := by have := h2.size; simp at this; omega
  have hs2 : w.heap.size < w1.heap.size + 1 := by omega
  have T1 := Hid.intro (HT.out.trans h2)
  have n1 : ¬ w1.heap.size = w.heap.size := by omega
  have n2 : ¬ w.heap.size = w1.heap.size := by omega
  have hR1 := h1.lt
  have hG1 := h1.ltG
  have n3 : ¬ w1.heap.size = R := by omega
  have n4 : ¬ w.heap.size = R := by omega
  have n5 : ¬ R = w1.heap.size := by omega
  have n6 : ¬ R = w.heap.size := by omega
  clear HW HT h2
  have HX := fun o => Hid.intro (length_any (h1.al o) 65536 (by omega) hl)
  rw [he] at HX
  obtain ⟨hm1, hm2, -⟩ := lenR_le he
  have hsz : (⟨(r.take m).toArray⟩ : ByteArray).size ≤ maxLen := by
    show (r.take m).toArray.size ≤ maxLen
    rw [List.size_toArray, List.length_take]; unfold maxLen; omega
  dsimp only at HX
  go_wp2_with fail
  refine ((HX _).out).mono ?_
  rintro e w2 ⟨t2, rfl, o2, k2, h2⟩
  have a2 := fun j => t2.cell (g := w.heap.size) (j := j) (by first | omega | (simp; omega)) (by omega)
  have b2 := fun j => t2.cell (g := w1.heap.size) (j := j) (by first | omega | (simp; done) | (simp; omega)) (by omega)
  have c2 := fun j => t2.froz (g := w.heap.size) (j := j) (by first | omega | (simp; omega)) (by omega)
  have d2 := fun j => t2.froz (g := w1.heap.size) (j := j) (by first | omega | (simp; done) | (simp; omega)) (by omega)
  have hs2 : w1.heap.size < w2.heap.size := by have := t2.size; first | omega | (simp at this; omega)
  have hr2 : w.heap.size < w2.heap.size := by omega
  have T2 : Hid (Tu R w w2) := Hid.intro (Tu.trans (by (repeat (first | with_reducible exact T1.out | with_reducible refine Tu.al ?_ _ | with_reducible refine Tu.put ?_ (by simp only; omega) _))) t2)
  go_wp2_with fail
  refine (take_yes h2 m hm2).mono ?_
  rintro e w3 ⟨rfl, ⟨o3, h3⟩, t3⟩
  have a3 := fun j => t3.cell (g := w.heap.size) (j := j) (by first | omega | (simp; omega)) (by omega)
  have b3 := fun j => t3.cell (g := w1.heap.size) (j := j) (by first | omega | (simp; done) | (simp; omega)) (by omega)
  have c3 := fun j => t3.froz (g := w.heap.size) (j := j) (by first | omega | (simp; omega)) (by omega)
  have d3 := fun j => t3.froz (g := w1.heap.size) (j := j) (by first | omega | (simp; done) | (simp; omega)) (by omega)
  have hs3 : w1.heap.size < w3.heap.size := by have := t3.size; first | omega | (simp at this; omega)
  have hr3 : w.heap.size < w3.heap.size := by omega
  have T3 : Hid (Tu R w w3) := Hid.intro (Tu.trans (by (repeat (first | with_reducible exact T2.out | with_reducible refine Tu.al ?_ _ | with_reducible refine Tu.put ?_ (by simp only; omega) _))) t3)
  have hby : Bys w3 G o2 (r.take m) := fun j hj => (t3.cell h2.ltG h2.ne).trans (h2.by_.take m j hj)
  have hconv : (convert 50 9 (.slice (some ⟨G, o2, none⟩) m k2)).run Tryz.prog w3 = .ok (.string ⟨(r.take m).toArray⟩) w3 := by
    have := run_convert_bytes_back (P := Tryz.prog) w3 50 9 5 ⟨G, o2, none⟩ k2 (r.take m) Tryz.underlying50 Tryz.underlying5 Tryz.underlying9 (fun j hj => by
      rw [← hby j hj]
      congr 1
      unfold Addr.add
      split
      · next hz =>
        have hz' : j = 0 := by simpa using hz
        rw [hz', Nat.add_zero]
      · simp)
    rw [List.length_take, Nat.min_eq_left hm2] at this
    exact this
  clear hby
  go_wp2_with fail
  refine bodyPost_ret (v := .agg #[.int .i64 3, .bool false, .int .i64 0, .string ⟨(r.take m).toArray⟩, .slice none 0 0]) (by simp [results, Tryz.results69, go_sem, g0, hs, a2, a3]) rfl ⟨?_, ?_⟩
  · (repeat (first | with_reducible exact T3.out | with_reducible refine Tu.al ?_ _ | with_reducible refine Tu.put ?_ (by simp only; omega) _))
  · refine ⟨.slice none 0 0, rfl, vsb_leaf (leaf_wf (by decide) (by decide) (by decide) (by decide) hsz) rfl, o3, k2 - m, ?_⟩
    (repeat (first | with_reducible exact h3 | with_reducible refine Rd.al ?_ _ | with_reducible refine Rd.put ?_ (by omega) (by omega) _))
set_option maxRecDepth 20000 in
set_option maxHeartbeats 2000000 in
theorem val_40 {c : UInt8} {w : World} {R G off cap : Nat} {l : List UInt8} (room : Nat) (hroom : room ≤ 30) (_hl : l.length ≤ 1000000000) (h : Rd w R G off cap (c :: l)) (hc : c.toNat = 4) (he : room = 0) :
    Calls Tryz.prog 69 #[.pointer (some ⟨R, 0, none⟩), .int .i64 (room : Int)] w fun e w' => Tu R w w' ∧ ValP w R G (room + 1) e w' none := by
  have hA := below_al (Below.refl w.heap.size w) (.cells #[.int .i64 0, .bool false, .int .i64 0, .string ⟨#[]⟩, .slice none 0 0] 28)
  have HW := Hid.intro (word_yes (h.below hA) 1 (by simp) (by omega))
  rw [show wordN (List.take 1 (c :: l)) = c.toNat from by simp [wordN], show List.drop 1 (c :: l) = l from rfl] at HW
  have HT := Hid.intro (Tu.below (R := R) hA)
  have hlt := h.lt
  have hltG := h.ltG
  clear h hA
  rw [hc] at HW
  subst he
  go_enter Tryz.func69, Tryz.ntmps69
  go_wp2_with fail
  refine HW.out.mono ?_
  rintro e w1 ⟨rfl, ⟨o1, k1, h1⟩, h2⟩
  have g0 := fun j => h2.cell (g := w.heap.size) (j := j) (by simp) (by omega)
  have z0 := fun j => h2.froz (g := w.heap.size) (j := j) (by simp) (by omega)
  have hs : w.heap.size < w1.heap.size := by have := h2.size; simp at this; omega
  have hs2 : w.heap.size < w1.heap.size + 1 := by omega
  have T1 := Hid.intro (HT.out.trans h2)
  have n1 : ¬ w1.heap.size = w.heap.size := by omega
  have n2 : ¬ w.heap.size = w1.heap.size := by omega
  have hR1 := h1.lt
  have hG1 := h1.ltG
  have n3 : ¬ w1.heap.size = R := by omega
  have n4 : ¬ w.heap.size = R := by omega
  have n5 : ¬ R = w1.heap.size := by omega
  have n6 : ¬ R = w.heap.size := by omega
  clear HW HT h2
  go_wp2_with fail
  refine (require_false (h1.al _)).mono ?_
  rintro e w2 ⟨rfl, h2, t2⟩
  have a2 := fun j => t2.cell (g := w.heap.size) (j := j) (by first | omega | (simp; omega)) (by omega)
  have b2 := fun j => t2.cell (g := w1.heap.size) (j := j) (by first | omega | (simp; done) | (simp; omega)) (by omega)
  have c2 := fun j => t2.froz (g := w.heap.size) (j := j) (by first | omega | (simp; omega)) (by omega)
  have d2 := fun j => t2.froz (g := w1.heap.size) (j := j) (by first | omega | (simp; done) | (simp; omega)) (by omega)
  have hs2 : w1.heap.size < w2.heap.size := by have := t2.size; first | omega | (simp at this; omega)
  have hr2 : w.heap.size < w2.heap.size := by omega
  have T2 : Hid (Tu R w w2) := Hid.intro (Tu.trans (by (repeat (first | with_reducible exact T1.out | with_reducible refine Tu.al ?_ _ | with_reducible refine Tu.put ?_ (by simp only; omega) _))) t2)
  go_wp2_with fail
  refine (length_bad h2 4096 (by omega)).mono ?_
  rintro e w3 ⟨rfl, h3, t3⟩
  have a3 := fun j => t3.cell (g := w.heap.size) (j := j) (by first | omega | (simp; omega)) (by omega)
  have b3 := fun j => t3.cell (g := w1.heap.size) (j := j) (by first | omega | (simp; done) | (simp; omega)) (by omega)
  have c3 := fun j => t3.froz (g := w.heap.size) (j := j) (by first | omega | (simp; omega)) (by omega)
  have d3 := fun j => t3.froz (g := w1.heap.size) (j := j) (by first | omega | (simp; done) | (simp; omega)) (by omega)
  have hs3 : w1.heap.size < w3.heap.size := by have := t3.size; first | omega | (simp at this; omega)
  have hr3 : w.heap.size < w3.heap.size := by omega
  have T3 : Hid (Tu R w w3) := Hid.intro (Tu.trans (by (repeat (first | with_reducible exact T2.out | with_reducible refine Tu.al ?_ _ | with_reducible refine Tu.put ?_ (by simp only; omega) _))) t3)
  go_wp2_with fail
  refine (list_nil w3 R _).mono ?_
  rintro e w4 ⟨rfl, hw4⟩
  subst w4
  go_wp2_with fail
  refine bodyPost_ret (v := .agg #[.int .i64 4, .bool false, .int .i64 0, .string ⟨#[]⟩, .slice none 0 0]) (by simp [results, Tryz.results69, go_sem, g0, hs, a2, a3]) rfl ⟨?_, ?_⟩
  · (repeat (first | with_reducible exact T3.out | with_reducible refine Tu.al ?_ _ | with_reducible refine Tu.put ?_ (by simp only; omega) _))
  · refine ⟨⟨_, _, _, _, _, _, _, rfl⟩, ?_⟩
    (repeat (first | with_reducible exact h3 | with_reducible refine Bd.al ?_ _ | with_reducible refine Bd.put ?_ (by omega) _))
set_option maxRecDepth 20000 in
set_option maxHeartbeats 2000000 in
theorem val_4n {c : UInt8} {w : World} {R G off cap : Nat} {l : List UInt8} (room : Nat) (hroom : room ≤ 30) (hl : l.length ≤ 1000000000) (h : Rd w R G off cap (c :: l)) (hc : c.toNat = 4) (hr0 : 0 < room) (he : lenR 4096 l = none) :
    Calls Tryz.prog 69 #[.pointer (some ⟨R, 0, none⟩), .int .i64 (room : Int)] w fun e w' => Tu R w w' ∧ ValP w R G (room + 1) e w' none := by
  have hA := below_al (Below.refl w.heap.size w) (.cells #[.int .i64 0, .bool false, .int .i64 0, .string ⟨#[]⟩, .slice none 0 0] 28)
  have HW := Hid.intro (word_yes (h.below hA) 1 (by simp) (by omega))
  rw [show wordN (List.take 1 (c :: l)) = c.toNat from by simp [wordN], show List.drop 1 (c :: l) = l from rfl] at HW
  have HT := Hid.intro (Tu.below (R := R) hA)
  have hlt := h.lt
  have hltG := h.ltG
  clear h hA
  rw [hc] at HW
  go_enter Tryz.func69, Tryz.ntmps69
  go_wp2_with fail
  refine HW.out.mono ?_
  rintro e w1 ⟨rfl, ⟨o1, k1, h1⟩, h2⟩
  have g0 := fun j => h2.cell (g := w.heap.size) (j := j) (by simp) (by omega)
  have z0 := fun j => h2.froz (g := w.heap.size) (j := j) (by simp) (by omega)
  have hs : w.heap.size < w1.heap.size := by have := h2.size; simp at this; omega
  have hs2 : w.heap.size < w1.heap.size + 1 := by omega
  have T1 := Hid.intro (HT.out.trans h2)
  have n1 : ¬ w1.heap.size = w.heap.size := by omega
  have n2 : ¬ w.heap.size = w1.heap.size := by omega
  have hR1 := h1.lt
  have hG1 := h1.ltG
  have n3 : ¬ w1.heap.size = R := by omega
  have n4 : ¬ w.heap.size = R := by omega
  have n5 : ¬ R = w1.heap.size := by omega
  have n6 : ¬ R = w.heap.size := by omega
  clear HW HT h2
  have HX := fun o => Hid.intro (length_any (h1.al o) 4096 (by omega) hl)
  rw [he] at HX
  have hd : decide (0 < room) = true := decide_eq_true hr0
  have hd' : decide ((0 : Int) < (room : Int)) = true := decide_eq_true (by omega)
  have hd2 : (0 : Int) < (room : Int) := by omega
  go_wp2_with fail
  refine (require_true (h1.al _)).mono ?_
  rintro e w2 ⟨rfl, hw2⟩
  subst w2
  go_wp2_with fail
  refine ((HX _).out).mono ?_
  rintro e w3 ⟨t3, rfl, h3⟩
  have a3 := fun j => t3.cell (g := w.heap.size) (j := j) (by first | omega | (simp; omega)) (by omega)
  have b3 := fun j => t3.cell (g := w1.heap.size) (j := j) (by first | omega | (simp; done) | (simp; omega)) (by omega)
  have c3 := fun j => t3.froz (g := w.heap.size) (j := j) (by first | omega | (simp; omega)) (by omega)
  have d3 := fun j => t3.froz (g := w1.heap.size) (j := j) (by first | omega | (simp; done) | (simp; omega)) (by omega)
  have hs3 : w1.heap.size < w3.heap.size := by have := t3.size; first | omega | (simp at this; omega)
  have hr3 : w.heap.size < w3.heap.size := by omega
  have T3 : Hid (Tu R w w3) := Hid.intro (Tu.trans (by (repeat (first | with_reducible exact T1.out | with_reducible refine Tu.al ?_ _ | with_reducible refine Tu.put ?_ (by simp only; omega) _))) t3)
  go_wp2_with fail
  refine (list_nil w3 R _).mono ?_
  rintro e w4 ⟨rfl, hw4⟩
  subst w4
  go_wp2_with fail
  refine bodyPost_ret (v := .agg #[.int .i64 4, .bool false, .int .i64 0, .string ⟨#[]⟩, .slice none 0 0]) (by simp [results, Tryz.results69, go_sem, g0, hs, a3]) rfl ⟨?_, ?_⟩
  · (repeat (first | with_reducible exact T3.out | with_reducible refine Tu.al ?_ _ | with_reducible refine Tu.put ?_ (by simp only; omega) _))
  · refine ⟨⟨_, _, _, _, _, _, _, rfl⟩, ?_⟩
    (repeat (first | with_reducible exact h3 | with_reducible refine Bd.al ?_ _ | with_reducible refine Bd.put ?_ (by omega) _))
set_option maxRecDepth 20000 in
set_option maxHeartbeats 2000000 in
theorem val_4y {c : UInt8} {m q : Nat} {r : List UInt8} (ih : ValAt q) (hdec : ∀ l t r, dec q l = some (t, r) → r.length ≤ l.length) {w : World} {R G off cap : Nat} {l : List UInt8} (room : Nat) (hroom : room ≤ 30) (hl : l.length ≤ 1000000000) (h : Rd w R G off cap (c :: l)) (hc : c.toNat = 4) (hq : room = q + 1) (he : lenR 4096 l = some (m, r)) (hn : decL (dec q) m r = none) :
    Calls Tryz.prog 69 #[.pointer (some ⟨R, 0, none⟩), .int .i64 (room : Int)] w fun e w' => Tu R w w' ∧ ValP w R G (room + 1) e w' none := by
  have hA := below_al (Below.refl w.heap.size w) (.cells #[.int .i64 0, .bool false, .int .i64 0, .string ⟨#[]⟩, .slice none 0 0] 28)
  have HW := Hid.intro (word_yes (h.below hA) 1 (by simp) (by omega))
  rw [show wordN (List.take 1 (c :: l)) = c.toNat from by simp [wordN], show List.drop 1 (c :: l) = l from rfl] at HW
  have HT := Hid.intro (Tu.below (R := R) hA)
  have hlt := h.lt
  have hltG := h.ltG
  clear h hA
  rw [hc] at HW
  go_enter Tryz.func69, Tryz.ntmps69
  go_wp2_with fail
  refine HW.out.mono ?_
  rintro e w1 ⟨rfl, ⟨o1, k1, h1⟩, h2⟩
  have g0 := fun j => h2.cell (g := w.heap.size) (j := j) (by simp) (by omega)
  have z0 := fun j => h2.froz (g := w.heap.size) (j := j) (by simp) (by omega)
  have hs : w.heap.size < w1.heap.size := by have := h2.size; simp at this; omega
  have hs2 : w.heap.size < w1.heap.size + 1 := by omega
  have T1 := Hid.intro (HT.out.trans h2)
  have n1 : ¬ w1.heap.size = w.heap.size := by omega
  have n2 : ¬ w.heap.size = w1.heap.size := by omega
  have hR1 := h1.lt
  have hG1 := h1.ltG
  have n3 : ¬ w1.heap.size = R := by omega
  have n4 : ¬ w.heap.size = R := by omega
  have n5 : ¬ R = w1.heap.size := by omega
  have n6 : ¬ R = w.heap.size := by omega
  clear HW HT h2
  subst hq
  have HX := fun o => Hid.intro (length_any (h1.al o) 4096 (by omega) hl)
  rw [he] at HX
  dsimp only at HX
  obtain ⟨hm1, hm2, hm3⟩ := lenR_le he
  have hd : decide (0 < q + 1) = true := decide_eq_true (by omega)
  have hd' : decide ((0 : Int) < ((q + 1 : Nat) : Int)) = true := decide_eq_true (by omega)
  have hd2 : (0 : Int) < (q : Int) + 1 := by omega
  go_wp2_with fail
  refine (require_true (h1.al _)).mono ?_
  rintro e w2 ⟨rfl, hw2⟩
  subst w2
  go_wp2_with fail
  refine ((HX _).out).mono ?_
  rintro e w3 ⟨t3, rfl, o3, k3, h3⟩
  have a3 := fun j => t3.cell (g := w.heap.size) (j := j) (by first | omega | (simp; omega)) (by omega)
  have b3 := fun j => t3.cell (g := w1.heap.size) (j := j) (by first | omega | (simp; done) | (simp; omega)) (by omega)
  have c3 := fun j => t3.froz (g := w.heap.size) (j := j) (by first | omega | (simp; omega)) (by omega)
  have d3 := fun j => t3.froz (g := w1.heap.size) (j := j) (by first | omega | (simp; done) | (simp; omega)) (by omega)
  have hs3 : w1.heap.size < w3.heap.size := by have := t3.size; first | omega | (simp at this; omega)
  have hr3 : w.heap.size < w3.heap.size := by omega
  have T3 : Hid (Tu R w w3) := Hid.intro (Tu.trans (by (repeat (first | with_reducible exact T1.out | with_reducible refine Tu.al ?_ _ | with_reducible refine Tu.put ?_ (by simp only; omega) _))) t3)
  have HL := Hid.intro (list_any q ih hdec w3 R G o3 k3 r h3 m hm1 (by omega))
  rw [hn] at HL
  go_wp2_with fail
  refine (HL.out).mono ?_
  rintro e w4 ⟨t4, ⟨pp, mm, cc, rfl⟩, h4⟩
  have a4 := fun j => t4.cell (g := w.heap.size) (j := j) (by first | omega | (simp; omega)) (by omega)
  have b4 := fun j => t4.cell (g := w1.heap.size) (j := j) (by first | omega | (simp; done) | (simp; omega)) (by omega)
  have c4 := fun j => t4.froz (g := w.heap.size) (j := j) (by first | omega | (simp; omega)) (by omega)
  have d4 := fun j => t4.froz (g := w1.heap.size) (j := j) (by first | omega | (simp; done) | (simp; omega)) (by omega)
  have hs4 : w1.heap.size < w4.heap.size := by have := t4.size; first | omega | (simp at this; omega)
  have hr4 : w.heap.size < w4.heap.size := by omega
  have T4 : Hid (Tu R w w4) := Hid.intro (Tu.trans (by (repeat (first | with_reducible exact T3.out | with_reducible refine Tu.al ?_ _ | with_reducible refine Tu.put ?_ (by simp only; omega) _))) t4)
  go_wp2_with fail
  refine bodyPost_ret (v := .agg #[.int .i64 4, .bool false, .int .i64 0, .string ⟨#[]⟩, .slice pp mm cc]) (by simp [results, Tryz.results69, go_sem, g0, hs, a3, a4]) rfl ⟨?_, ?_⟩
  · (repeat (first | with_reducible exact T4.out | with_reducible refine Tu.al ?_ _ | with_reducible refine Tu.put ?_ (by simp only; omega) _))
  · refine ⟨⟨_, _, _, _, _, _, _, rfl⟩, ?_⟩
    (repeat (first | with_reducible exact h4 | with_reducible refine Bd.al ?_ _ | with_reducible refine Bd.put ?_ (by omega) _))
set_option maxRecDepth 20000 in
set_option maxHeartbeats 2000000 in
theorem val_4 {c : UInt8} {m q : Nat} {r : List UInt8} {ts : List Tr} {r2 : List UInt8} (ih : ValAt q) (hdec : ∀ l t r, dec q l = some (t, r) → r.length ≤ l.length) {w : World} {R G off cap : Nat} {l : List UInt8} (room : Nat) (hroom : room ≤ 30) (hl : l.length ≤ 1000000000) (h : Rd w R G off cap (c :: l)) (hc : c.toNat = 4) (hq : room = q + 1) (he : lenR 4096 l = some (m, r)) (hn : decL (dec q) m r = some (ts, r2)) :
    Calls Tryz.prog 69 #[.pointer (some ⟨R, 0, none⟩), .int .i64 (room : Int)] w fun e w' => Tu R w w' ∧ ValP w R G (room + 1) e w' (some ({ zeroT with k := 4, l := ts }, r2)) := by
  have hA := below_al (Below.refl w.heap.size w) (.cells #[.int .i64 0, .bool false, .int .i64 0, .string ⟨#[]⟩, .slice none 0 0] 28)
  have HW := Hid.intro (word_yes (h.below hA) 1 (by simp) (by omega))
  rw [show wordN (List.take 1 (c :: l)) = c.toNat from by simp [wordN], show List.drop 1 (c :: l) = l from rfl] at HW
  have HT := Hid.intro (Tu.below (R := R) hA)
  have hlt := h.lt
  have hltG := h.ltG
  clear h hA
  rw [hc] at HW
  go_enter Tryz.func69, Tryz.ntmps69
  go_wp2_with fail
  refine HW.out.mono ?_
  rintro e w1 ⟨rfl, ⟨o1, k1, h1⟩, h2⟩
  have g0 := fun j => h2.cell (g := w.heap.size) (j := j) (by simp) (by omega)
  have z0 := fun j => h2.froz (g := w.heap.size) (j := j) (by simp) (by omega)
  have hs : w.heap.size < w1.heap.size := by have := h2.size; simp at this; omega
  have hs2 : w.heap.size < w1.heap.size + 1 := by omega
  have T1 := Hid.intro (HT.out.trans h2)
  have n1 : ¬ w1.heap.size = w.heap.size := by omega
  have n2 : ¬ w.heap.size = w1.heap.size := by omega
  have hR1 := h1.lt
  have hG1 := h1.ltG
  have n3 : ¬ w1.heap.size = R := by omega
  have n4 : ¬ w.heap.size = R := by omega
  have n5 : ¬ R = w1.heap.size := by omega
  have n6 : ¬ R = w.heap.size := by omega
  clear HW HT h2
  subst hq
  have HX := fun o => Hid.intro (length_any (h1.al o) 4096 (by omega) hl)
  rw [he] at HX
  dsimp only at HX
  obtain ⟨hm1, hm2, hm3⟩ := lenR_le he
  have hd : decide (0 < q + 1) = true := decide_eq_true (by omega)
  have hd' : decide ((0 : Int) < ((q + 1 : Nat) : Int)) = true := decide_eq_true (by omega)
  have hd2 : (0 : Int) < (q : Int) + 1 := by omega
  go_wp2_with fail
  refine (require_true (h1.al _)).mono ?_
  rintro e w2 ⟨rfl, hw2⟩
  subst w2
  go_wp2_with fail
  refine ((HX _).out).mono ?_
  rintro e w3 ⟨t3, rfl, o3, k3, h3⟩
  have a3 := fun j => t3.cell (g := w.heap.size) (j := j) (by first | omega | (simp; omega)) (by omega)
  have b3 := fun j => t3.cell (g := w1.heap.size) (j := j) (by first | omega | (simp; done) | (simp; omega)) (by omega)
  have c3 := fun j => t3.froz (g := w.heap.size) (j := j) (by first | omega | (simp; omega)) (by omega)
  have d3 := fun j => t3.froz (g := w1.heap.size) (j := j) (by first | omega | (simp; done) | (simp; omega)) (by omega)
  have hs3 : w1.heap.size < w3.heap.size := by have := t3.size; first | omega | (simp at this; omega)
  have hr3 : w.heap.size < w3.heap.size := by omega
  have T3 : Hid (Tu R w w3) := Hid.intro (Tu.trans (by (repeat (first | with_reducible exact T1.out | with_reducible refine Tu.al ?_ _ | with_reducible refine Tu.put ?_ (by simp only; omega) _))) t3)
  have HL := Hid.intro (list_any q ih hdec w3 R G o3 k3 r h3 m hm1 (by omega))
  rw [hn] at HL
  go_wp2_with fail
  refine HL.out.mono ?_
  rintro e w4 ⟨t4, sv, rfl, hlv, o2, k2, h4⟩
  have a4 := fun j => t4.cell (g := w.heap.size) (j := j) (by first | omega | (simp; omega)) (by omega)
  have b4 := fun j => t4.cell (g := w1.heap.size) (j := j) (by first | omega | (simp; done) | (simp; omega)) (by omega)
  have c4 := fun j => t4.froz (g := w.heap.size) (j := j) (by first | omega | (simp; omega)) (by omega)
  have d4 := fun j => t4.froz (g := w1.heap.size) (j := j) (by first | omega | (simp; done) | (simp; omega)) (by omega)
  have hs4 : w1.heap.size < w4.heap.size := by have := t4.size; first | omega | (simp at this; omega)
  have hr4 : w.heap.size < w4.heap.size := by omega
  have T4 : Hid (Tu R w w4) := Hid.intro (Tu.trans (by (repeat (first | with_reducible exact T3.out | with_reducible refine Tu.al ?_ _ | with_reducible refine Tu.put ?_ (by simp only; omega) _))) t4)
  dsimp only at hlv h4
  obtain ⟨xa, xc, rfl, -, -⟩ := hlv.form
  have HLV := Hid.intro hlv
  clear hlv
  go_wp2_with fail
  refine bodyPost_ret (v := .agg #[.int .i64 4, .bool false, .int .i64 0, .string ⟨#[]⟩, .slice xa ts.length xc]) (by simp [results, Tryz.results69, go_sem, g0, hs, a3, a4]) rfl ⟨?_, ?_⟩
  · (repeat (first | with_reducible exact T4.out | with_reducible refine Tu.al ?_ _ | with_reducible refine Tu.put ?_ (by simp only; omega) _))
  · refine ⟨.slice xa ts.length xc, rfl, ⟨⟨show (-9223372036854775808 : Int) ≤ 4 by decide, show (4 : Int) ≤ 9223372036854775807 by decide, show (-9223372036854775808 : Int) ≤ 0 by decide, show (0 : Int) ≤ 9223372036854775807 by decide, Nat.zero_le _⟩, LvB.move (P := (w3.heap.size ≤ ·)) ?_ (fun b hb => by omega) (fun t v hv => VsB.move (P := (w3.heap.size ≤ ·)) ?_ (fun b hb => by omega) _ _ _ hv) HLV.out⟩, o2, k2, ?_⟩
    · (repeat (first | with_reducible exact Kept.refl _ _ | with_reducible refine Kept.put ?_ (by show ¬ _ ≤ _; omega) _))
    · (repeat (first | with_reducible exact Kept.refl _ _ | with_reducible refine Kept.put ?_ (by show ¬ _ ≤ _; omega) _))
    · (repeat (first | with_reducible exact h4 | with_reducible refine Rd.al ?_ _ | with_reducible refine Rd.put ?_ (by omega) (by omega) _))
end Go.Proofs.YtciibcfmlhbnkaaGreatDoor
