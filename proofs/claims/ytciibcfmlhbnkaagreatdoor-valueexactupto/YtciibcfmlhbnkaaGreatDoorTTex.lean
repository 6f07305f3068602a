/- value.Text: what it tells of any value. -/
import Derived.Test.YtciibcfmlhbnkaaGreatDoorTWl
import Derived.Laws.BytesArg
namespace Go.Proofs.YtciibcfmlhbnkaaGreatDoor
open Go.RowKit

def tB (n : Nat) (t : Tr) : List UInt8 := if fit 30 t = true then txt n t else []
def tS (n : Nat) (t : Tr) : ByteArray := ⟨(tB n t).toArray⟩
theorem conv_row {w : World} {B : Nat} {v : Value} {l : List UInt8} (h : w.ownsRow B 5 1 v l.length (bv (ii l))) : (convert 50 9 v).run Tryz.prog w = .ok (.string ⟨l.toArray⟩) w := by
  have hc := fun g hg => h.cells (g := g) hg
  obtain ⟨h1, ⟨rfl, h2⟩ | ⟨g, cap, cur, rfl, h3, h4, h5, h6, h7, h8⟩⟩ := h
  · obtain rfl := List.eq_nil_of_length_eq_zero h2
    exact run_convert_bytes_nil (w := w) 50 5 Tryz.underlying50 Tryz.underlying5 0 0 _ Tryz.underlying9
  · refine run_convert_bytes_back w 50 9 5 ⟨g, 0, none⟩ cap l Tryz.underlying50 Tryz.underlying5 Tryz.underlying9 ?_
    intro j hj
    exact hc g rfl j _ (by simp [bv, ii, List.getElem?_eq_getElem hj])
set_option maxRecDepth 20000 in
set_option maxHeartbeats 2000000 in
theorem Text_any (n : Nat) (t : Tr) (sv : Value) (w : World) (hV : Vs w n t sv) (hT : Tb w) (hx : fit 30 t = true → (txt n t).length ≤ 800000000) :
    Calls Tryz.prog 13 #[vv t sv] w fun e w' => e = .returned (.string (tS n t)) ∧ Below w.heap.size w w' := by
  obtain ⟨a1, n1, rfl, -, -⟩ := hV.form
  have HC := Hid.intro (fun w' hb => check_any n t _ w' (Vs.below (w' := w') hb _ _ _ hV))
  have HE2 := Hid.intro (fun (hf : fit 30 t = true) w' (hb : Below w.heap.size w w') => txt_at n 30 t _ w w' (.slice none 0 0) [] hf hV hT ⟨World.ownsRow_nil _ _ _ _, hb⟩ (by simpa using hx hf))
  have HE3 : Hid (tB n t = if fit 30 t = true then txt n t else []) := Hid.intro rfl
  unfold tS
  generalize tB n t = L at HE3 ⊢
  generalize txt n t = l at HE2 HE3
  cases hf : fit 30 t with
  | true =>
    rw [hf, if_pos rfl] at HE3
    obtain rfl := HE3.out
    rw [hf] at HC
    clear hV hx hT
    obtain ⟨k, b, i, s, tl⟩ := t
    unfold vv at *
    go_enter Tryz.func13, Tryz.ntmps13
    go_wp2_with fail
    refine (HC.out _ ((Below.refl _ _).alloc (Nat.le_refl _) _)).mono ?_
    rintro e w1 ⟨rfl, hb1⟩
    obtain ⟨hc, hfz⟩ := bcell hb1 (N := w.heap.size + 1) (by simp)
    have HB := Hid.intro (hb1.via ((Below.refl _ _).alloc (Nat.le_refl _) _))
    clear hb1
    go_wp2_with fail
    refine (HE2.out hf w1 HB.out).mono ?_
    rintro e w2 ⟨v2, rfl, ho2, hb2⟩
    have hcv := conv_row ho2
    clear ho2
    go_wp2_with fail
    go_ret
    exact ⟨rfl, hb2⟩
  | false =>
    rw [hf, if_neg (by simp)] at HE3
    obtain rfl := HE3.out
    rw [hf] at HC
    clear hV hx hT HE2
    obtain ⟨k, b, i, s, tl⟩ := t
    unfold vv at *
    go_enter Tryz.func13, Tryz.ntmps13
    go_wp2_with fail
    refine (HC.out _ ((Below.refl _ _).alloc (Nat.le_refl _) _)).mono ?_
    rintro e w1 ⟨rfl, hb1⟩
    have HB := Hid.intro (hb1.via ((Below.refl _ _).alloc (Nat.le_refl _) _))
    clear hb1
    go_wp2_with fail
    go_ret
    exact ⟨rfl, HB.out⟩
end Go.Proofs.YtciibcfmlhbnkaaGreatDoor
