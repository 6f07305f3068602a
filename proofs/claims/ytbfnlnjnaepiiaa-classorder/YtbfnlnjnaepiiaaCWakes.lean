/- wakes: it tells true. -/
import Derived.Test.YtbfnlnjnaepiiaaCEq
namespace Go.Proofs.Ytbfnlnjnaepiiaa
open Go.RowKit Go.Maps

def tabL : List Cl := [⟨⟨#[65]⟩, ⟨#[]⟩, [⟨⟨#[120]⟩, 2, ⟨#[]⟩⟩]⟩, ⟨⟨#[66]⟩, ⟨#[65]⟩, [⟨⟨#[121]⟩, 3, ⟨#[]⟩⟩]⟩]
def tabT : List Cl := [⟨⟨#[65]⟩, ⟨#[]⟩, [⟨⟨#[120]⟩, 2, ⟨#[]⟩⟩]⟩, ⟨⟨#[66]⟩, ⟨#[65]⟩, [⟨⟨#[120]⟩, 2, ⟨#[]⟩⟩, ⟨⟨#[121]⟩, 3, ⟨#[]⟩⟩]⟩]
theorem tab_new : newT tabL = some tabT := by kernel_rfl

theorem three_blocks (w : World) (o0 o1 o2 : Obj) : (((w.alloc o0).alloc o1).alloc o2).heap[w.heap.size]? = some o0 ∧ (((w.alloc o0).alloc o1).alloc o2).heap[w.heap.size + 1]? = some o1 ∧ (((w.alloc o0).alloc o1).alloc o2).heap[w.heap.size + 1 + 1]? = some o2 := by
  refine ⟨?_, ?_, ?_⟩
  · rw [Below.heap_alloc _ _ _ (by simp; omega), Below.heap_alloc _ _ _ (by simp)]
    exact heap_alloc_new w o0
  · rw [Below.heap_alloc _ _ _ (by simp)]
    have := heap_alloc_new (w.alloc o0) o1
    rw [World.size_alloc] at this
    exact this
  · have := heap_alloc_new ((w.alloc o0).alloc o1) o2
    rw [World.size_alloc, World.size_alloc] at this
    exact this

/-- A slice of texts that is written out. -/
theorem sv_lit (w : World) (xs : List ByteArray) (hl : xs.length ≤ 1000) : Sv (w.heap.size ≤ ·) (w.alloc (.cells (xs.map Value.string).toArray 9)) xs (.slice (some ⟨w.heap.size, 0, none⟩) xs.length xs.length) := by
  refine ⟨_, _, rfl, Nat.le_refl _, by unfold maxLen; omega, fun _ => ⟨w.heap.size, 0, rfl, Nat.le_refl _, fun j hj => ?_⟩⟩
  generalize hW : w.alloc (.cells (xs.map Value.string).toArray 9) = W
  have : W.heap[w.heap.size]? = some (.cells (xs.map Value.string).toArray 9) := by rw [← hW]; exact heap_alloc_new w _
  simp [World.cell?, this, hj]

set_option maxRecDepth 100000 in
set_option maxHeartbeats 4000000 in
theorem table_any (w : World) :
    Calls Try.prog 29 #[] w fun e w' => ∃ v, e = .returned v ∧ Hid (Cv (w.heap.size ≤ ·) w' tabL v) ∧ Below w.heap.size w w' := by
  go_enter Try.func29, Try.ntmps29
  go_wp2
  go_ret
  have two : ∀ j, j < 2 → j = 0 ∨ j = 1 := by omega
  refine ⟨_, rfl, ⟨some ⟨w.heap.size + 1 + 1, 0, none⟩, 2, rfl, by simp [tabL], by unfold maxLen; omega, fun _ => ⟨w.heap.size + 1 + 1, 0, rfl, by omega, fun j hj => ?_⟩⟩, below_al (below_al (below_al (Below.refl _ _) _) _) _⟩
  obtain ⟨b0, b1, b2⟩ := three_blocks w (.cells #[.string ⟨#[120]⟩, .int .i64 2, .string ⟨#[]⟩] 37) (.cells #[.string ⟨#[121]⟩, .int .i64 3, .string ⟨#[]⟩] 37) (.cells #[.string ⟨#[65]⟩, .string ⟨#[]⟩, .slice (some ⟨w.heap.size, 0, none⟩) 1 1, .string ⟨#[66]⟩, .string ⟨#[65]⟩, .slice (some ⟨w.heap.size + 1, 0, none⟩) 1 1] 35)
  generalize ((w.alloc (.cells #[.string ⟨#[120]⟩, .int .i64 2, .string ⟨#[]⟩] 37)).alloc (.cells #[.string ⟨#[121]⟩, .int .i64 3, .string ⟨#[]⟩] 37)).alloc (.cells #[.string ⟨#[65]⟩, .string ⟨#[]⟩, .slice (some ⟨w.heap.size, 0, none⟩) 1 1, .string ⟨#[66]⟩, .string ⟨#[65]⟩, .slice (some ⟨w.heap.size + 1, 0, none⟩) 1 1] 35) = W at *
  rcases two j hj with rfl | rfl
  · refine ⟨.slice (some ⟨w.heap.size, 0, none⟩) 1 1, ⟨by simp [tabL, World.cell?, b2], by simp [tabL, World.cell?, b2], by simp [World.cell?, b2]⟩, some ⟨w.heap.size, 0, none⟩, 1, rfl, by simp [tabL], by unfold maxLen; omega, fun _ => ⟨w.heap.size, 0, rfl, by omega, fun j hj => ?_⟩⟩
    obtain rfl : j = 0 := by simp [tabL] at hj; omega
    exact ⟨by simp [tabL, World.cell?, b0], by simp [tabL, World.cell?, b0], by simp [tabL, World.cell?, b0]⟩
  · refine ⟨.slice (some ⟨w.heap.size + 1, 0, none⟩) 1 1, ⟨by simp [tabL, World.cell?, b2], by simp [tabL, World.cell?, b2], by simp [World.cell?, b2]⟩, some ⟨w.heap.size + 1, 0, none⟩, 1, rfl, by simp [tabL], by unfold maxLen; omega, fun _ => ⟨w.heap.size + 1, 0, rfl, by omega, fun j hj => ?_⟩⟩
    obtain rfl : j = 0 := by simp [tabL] at hj; omega
    exact ⟨by simp [tabL, World.cell?, b1], by simp [tabL, World.cell?, b1], by simp [tabL, World.cell?, b1]⟩

set_option maxRecDepth 100000 in
set_option maxHeartbeats 4000000 in
theorem wakes_any (w : World) :
    Calls Try.prog 9 #[] w fun e w' => e = .returned (.bool true) ∧ Below w.heap.size w w' := by
  have hTa := Hid.intro (table_any w)
  go_enter Try.func9, Try.ntmps9
  go_wp2_with fail
  refine hTa.out.mono ?_
  rintro e w1 ⟨v, rfl, HC, hb1⟩
  have HN := Hid.intro (new_any tabL v HC.out (by intro c hc; simp [tabL] at hc; rcases hc with rfl | rfl <;> simp))
  rw [tab_new] at HN
  go_wp2_with fail
  refine HN.out.mono ?_
  rintro e w2 ⟨hb2, ⟨h, -⟩ | ⟨T, g, h, hW, rfl, hT⟩⟩
  · cases h
  · cases h
    have HB2 := Hid.intro (hb2.via hb1)
    have HT := Hid.intro hT
    have HW := Hid.intro hW
    clear hb1 hb2 hT hW HC HN hTa
    have hyv := sv_lit w2 [⟨#[121]⟩] (by simp)
    have hm := mask_any (HT.out.below (below_al (Below.refl _ _) _)) ⟨#[66]⟩ _ _ hyv
    rw [show maskV tabT ⟨#[66]⟩ [⟨#[121]⟩] = (2, 0) by kernel_rfl] at hm
    have HM := Hid.intro hm
    clear hm hyv
    go_wp2_with fail
    refine HM.out.mono ?_
    rintro e w3 ⟨rfl, hb3⟩
    have HB3 := Hid.intro (hb3.via (below_al (Below.refl _ _) _))
    have hs := subs_any (HT.out.below HB3.out) HW.out ⟨#[65]⟩ (by simp [tabT])
    rw [show hasT tabT ⟨#[65]⟩ = true by kernel_rfl, show subsT tabT ⟨#[65]⟩ = [⟨#[65]⟩, ⟨#[66]⟩] by kernel_rfl] at hs
    have HS := Hid.intro hs
    clear hs HM hb3
    go_wp2_with fail
    refine HS.out.mono ?_
    rintro e w4 ⟨hb4, ⟨h, -⟩ | ⟨-, v4, rfl, HO⟩⟩
    · cases h
    · have HB4 := Hid.intro (hb4.via HB3.out)
      have HSv := Hid.intro (own_sv (P := fun _ => True) HO.out (fun _ _ => trivial))
      clear hb4 HS
      obtain ⟨a4, c4, rfl, x4, y4⟩ := HSv.out.form
      have HE := Hid.intro (eqTexts_same [⟨#[65]⟩, ⟨#[66]⟩] _ _ (HSv.out.below (below_al (Below.refl _ _) _)) (sv_lit w4 [⟨#[65]⟩, ⟨#[66]⟩] (by simp)))
      go_wp2_with fail
      refine HE.out.mono ?_
      rintro e w5 ⟨rfl, hb5⟩
      have HB5 := Hid.intro ((hb5.via (below_al (Below.refl _ _) _)).via HB4.out)
      have HI := is_any (HT.out.below HB5.out).tab HW.out ⟨#[66]⟩ ⟨#[65]⟩
      rw [show isT tabT ⟨#[66]⟩ ⟨#[65]⟩ = true by kernel_rfl] at HI
      have HI' := Hid.intro HI
      clear HI hb5 HE
      go_wp2_with fail
      refine HI'.out.mono ?_
      rintro e w6 ⟨rfl, hb6⟩
      have HB6 := Hid.intro (hb6.via HB5.out)
      have HH := has_any (HT.out.below HB6.out).tab ⟨#[65]⟩
      rw [show hasT tabT ⟨#[65]⟩ = true by kernel_rfl] at HH
      have HH' := Hid.intro HH
      clear HH hb6 HI'
      go_wp2_with fail
      refine HH'.out.mono ?_
      rintro e w7 ⟨rfl, hb7⟩
      have HB7 := Hid.intro ((hb7.via HB6.out).via HB2.out)
      clear hb7 HH'
      go_wp2
      go_ret
      exact ⟨rfl, HB7.out⟩
end Go.Proofs.Ytbfnlnjnaepiiaa
