/- Of values that may be, the order is 0 just of the same ones. -/
import Derived.Test.YtciibcfmlhbnkaaGreatDoorOrdLaws
namespace Go.Proofs.YtciibcfmlhbnkaaGreatDoor

theorem cmpI_zero (a b : Int) : cmpI a b = 0 ↔ a = b := by
  unfold cmpI
  split
  · omega
  · split <;> omega

theorem bitI_inj (a b : Bool) : bitI a = bitI b ↔ a = b := by cases a <;> cases b <;> simp [bitI]

theorem sameL_nil (f : Tr → Tr → Bool) {xs ys : List Tr} (h1 : ((xs.length : Int) == 0) = true) (h2 : ((ys.length : Int) == 0) = true) : sameL f xs ys = true := by
  have a : xs = [] := List.length_eq_zero_iff.1 (by simpa using h1)
  have b : ys = [] := List.length_eq_zero_iff.1 (by simpa using h2)
  subst a; subst b; rfl

/-- The number bounds how deep a tree is. -/
def dep : Nat → Tr → Prop
  | 0, _ => False
  | n + 1, t => ∀ x ∈ t.l, dep n x

theorem Vs.dep {w : World} : ∀ {n : Nat} {t : Tr} {sv : Value}, Vs w n t sv → dep n t
  | 0, _, _, h => h.elim
  | n + 1, t, _, h => by
    obtain ⟨a0, cap, _, _, _, h4⟩ := h.2
    intro x hx
    obtain ⟨j, hj, rfl⟩ := List.mem_iff_getElem.1 hx
    obtain ⟨b, o, _, h5⟩ := h4 (by omega)
    obtain ⟨sv', _, h7⟩ := h5 j hj
    exact Vs.dep h7

theorem lex_same (n : Nat) (hn : ∀ x y r, dep n x → dep n y → fit r x = true → fit r y = true → (ord n x y = 0 ↔ same n x y = true)) (r : Nat) :
    ∀ (xs ys : List Tr), (∀ x ∈ xs, dep n x) → (∀ y ∈ ys, dep n y) → xs.all (fit r) = true → ys.all (fit r) = true → (lexG (ord n) xs ys = 0 ↔ sameL (same n) xs ys = true)
  | [], [], _, _, _, _ => by simp [lexG, sameL]
  | [], _ :: _, _, _, _, _ => by simp [lexG, sameL]
  | _ :: _, [], _, _, _, _ => by simp [lexG, sameL]
  | x :: xs, y :: ys, d1, d2, h1, h2 => by
    simp only [List.all_cons, Bool.and_eq_true] at h1 h2
    have ih := lex_same n hn r xs ys (fun z hz => d1 z (List.mem_cons_of_mem _ hz)) (fun z hz => d2 z (List.mem_cons_of_mem _ hz)) h1.2 h2.2
    have hx := hn x y r (d1 x (by simp)) (d2 y (by simp)) h1.1 h2.1
    rw [lexG, sameL, Bool.and_eq_true, ← hx, ← ih]
    by_cases e : ord n x y = 0
    · rw [if_pos e]; exact ⟨fun h => ⟨e, h⟩, fun h => h.2⟩
    · rw [if_neg e]; exact ⟨fun h => absurd h e, fun h => absurd h.1 e⟩

theorem ord_same : ∀ (n : Nat) (a b : Tr) (r : Nat), dep n a → dep n b → fit r a = true → fit r b = true → (ord n a b = 0 ↔ same n a b = true)
  | 0, _, _, _, h, _, _, _ => h.elim
  | n + 1, a, b, r, da, db, ha, hb => by
    rw [ord, same]; simp only [ordL_lex, Bool.and_eq_true, beq_iff_eq]
    by_cases e : a.k = b.k
    · rw [if_pos e]
      by_cases h4 : a.k = 4
      · cases r with
        | zero => simp [fit, flat, h4] at ha
        | succ r =>
          rw [fit, if_pos h4] at ha
          rw [fit, if_pos (e ▸ h4)] at hb
          simp only [Bool.and_eq_true, decide_eq_true_eq, Bool.not_eq_true', beq_iff_eq] at ha hb
          obtain ⟨⟨⟨⟨a1, a2⟩, a3⟩, a4⟩, a5⟩ := ha
          obtain ⟨⟨⟨⟨b1, b2⟩, b3⟩, b4⟩, b5⟩ := hb
          simp only [h4]
          simp only [List.isEmpty_iff] at a5 b5
          rw [a3, a4, a5, b3, b4, b5]
          have := lex_same n (fun x y r d1 d2 h1 h2 => ord_same n x y r d1 d2 h1 h2) r a.l b.l da db a2 b2
          simp [this, ← e, h4]
      · rw [fit_flat _ _ h4] at ha
        rw [fit_flat _ _ (e ▸ h4)] at hb
        unfold flat at ha hb
        rw [← e] at hb
        by_cases h0 : a.k = 0
        · rw [if_pos h0] at ha hb ⊢
          simp only [Bool.and_eq_true, Bool.not_eq_true', List.isEmpty_iff] at ha hb
          obtain ⟨⟨⟨a1, a2⟩, a3⟩, a4⟩ := ha
          obtain ⟨⟨⟨b1, b2⟩, b3⟩, b4⟩ := hb
          simp only [beq_iff_eq] at a2 b2
          simp [e, a1, b1, a2, b2, a3, b3, sameL_nil _ a4 b4]
        rw [if_neg h0] at ha hb ⊢
        by_cases h1 : a.k = 1
        · rw [if_pos h1] at ha hb ⊢
          simp only [Bool.and_eq_true, List.isEmpty_iff] at ha hb
          obtain ⟨⟨a2, a3⟩, a4⟩ := ha
          obtain ⟨⟨b2, b3⟩, b4⟩ := hb
          simp only [beq_iff_eq] at a2 b2
          simp [e, a2, b2, a3, b3, sameL_nil _ a4 b4, cmpI_zero, bitI_inj]
        rw [if_neg h1] at ha hb ⊢
        by_cases h2 : a.k = 2
        · rw [if_pos h2] at ha hb ⊢
          simp only [Bool.and_eq_true, Bool.not_eq_true', List.isEmpty_iff] at ha hb
          obtain ⟨⟨a1, a3⟩, a4⟩ := ha
          obtain ⟨⟨b1, b3⟩, b4⟩ := hb
          simp [e, a1, b1, a3, b3, sameL_nil _ a4 b4, cmpI_zero]
        rw [if_neg h2] at ha hb ⊢
        by_cases h3 : a.k = 3
        · rw [if_pos h3] at ha hb
          rw [if_neg (by omega), if_neg (by omega)]
          simp only [Bool.and_eq_true, decide_eq_true_eq, Bool.not_eq_true', beq_iff_eq] at ha hb
          obtain ⟨⟨⟨_, a1⟩, a2⟩, a4⟩ := ha
          obtain ⟨⟨⟨_, b1⟩, b2⟩, b4⟩ := hb
          have hs := sameL_nil (same n) (xs := a.l) (ys := b.l) (by simpa using a4) (by simpa using b4)
          simp [e, a1, b1, a2, b2, hs, cmpS_zero]
        rw [if_neg h3] at ha hb
        by_cases h5 : a.k = 5
        · rw [if_pos h5] at ha hb ⊢
          simp only [Bool.and_eq_true, decide_eq_true_eq, Bool.not_eq_true', List.isEmpty_iff] at ha hb
          obtain ⟨⟨⟨_, a1⟩, a3⟩, a4⟩ := ha
          obtain ⟨⟨⟨_, b1⟩, b3⟩, b4⟩ := hb
          simp [e, a1, b1, a3, b3, sameL_nil _ a4 b4, cmpI_zero]
        rw [if_neg h5] at ha
        exact absurd ha (by simp)
    · rw [if_neg e]
      refine ⟨fun h => absurd ((cmpI_zero _ _).1 h) e, fun h => absurd h.1.1.1.1 e⟩
end Go.Proofs.YtciibcfmlhbnkaaGreatDoor
