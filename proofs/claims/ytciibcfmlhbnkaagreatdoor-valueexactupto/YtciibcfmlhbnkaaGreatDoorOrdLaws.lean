/- The order of trees is an order. -/
import Derived.Test.YtciibcfmlhbnkaaGreatDoorFits
import Derived.Test.YtciibcfmlhbnkaaGreatDoorSame
namespace Go.Proofs.YtciibcfmlhbnkaaGreatDoor

structure Cmp {α : Type} (f : α → α → Int) : Prop where
  rng : ∀ a b, f a b = -1 ∨ f a b = 0 ∨ f a b = 1
  anti : ∀ a b, f a b = - f b a
  trans : ∀ a b c, f a b ≤ 0 → f b c ≤ 0 → f a c ≤ 0 ∧ (f a c = 0 → f a b = 0 ∧ f b c = 0)

theorem Cmp.zero {α : Type} {f : α → α → Int} (h : Cmp f) (a : α) : f a a = 0 := by have := h.anti a a; omega
theorem Cmp.eqtrans {α : Type} {f : α → α → Int} (h : Cmp f) {a b c : α} (h1 : f a b = 0) (h2 : f b c = 0) : f a c = 0 := by
  have h3 := (h.trans a b c (by omega) (by omega)).1
  have h4 := (h.trans c b a (by have := h.anti c b; omega) (by have := h.anti b a; omega)).1
  have := h.anti a c
  omega

theorem cmpI_cmp : Cmp cmpI := by
  refine ⟨fun a b => ?_, fun a b => ?_, fun a b c => ?_⟩ <;> unfold cmpI <;> (repeat' split) <;> omega

def lexG {α : Type} (f : α → α → Int) : List α → List α → Int
  | [], [] => 0
  | [], _ :: _ => -1
  | _ :: _, [] => 1
  | x :: xs, y :: ys => if f x y = 0 then lexG f xs ys else f x y

theorem lexG_cmp {α : Type} {f : α → α → Int} (h : Cmp f) : Cmp (lexG f) := by
  refine ⟨fun a => ?_, fun a => ?_, fun a => ?_⟩
  · induction a with
    | nil => intro b; cases b <;> simp [lexG]
    | cons x xs ih =>
      intro b
      cases b with
      | nil => simp [lexG]
      | cons y ys =>
        rw [lexG]
        split
        · exact ih ys
        · exact h.rng x y
  · induction a with
    | nil => intro b; cases b <;> simp [lexG]
    | cons x xs ih =>
      intro b
      cases b with
      | nil => simp [lexG]
      | cons y ys =>
        rw [lexG, lexG]
        have := h.anti x y
        by_cases e : f x y = 0
        · rw [if_pos e, if_pos (by omega)]; exact ih ys
        · rw [if_neg e, if_neg (by omega)]; exact this
  · induction a with
    | nil =>
      intro b c
      cases b <;> cases c <;> simp [lexG]
    | cons x xs ih =>
      intro b c
      cases b with
      | nil => intro h1; simp [lexG] at h1
      | cons y ys =>
        cases c with
        | nil => intro _ h2; simp [lexG] at h2
        | cons z zs =>
          rw [lexG, lexG, lexG]
          intro h1 h2
          by_cases e1 : f x y = 0
          · rw [if_pos e1] at h1
            by_cases e2 : f y z = 0
            · rw [if_pos e2] at h2
              have e3 := h.eqtrans e1 e2
              rw [if_pos e3, if_pos e1, if_pos e2]
              exact ih ys zs h1 h2
            · rw [if_neg e2] at h2
              have h3 := h.trans x y z (by omega) h2
              have e3 : ¬ f x z = 0 := fun e => e2 (h3.2 e).2
              rw [if_neg e3]
              exact ⟨h3.1, fun e => absurd e e3⟩
          · rw [if_neg e1] at h1
            have h2' : f y z ≤ 0 := by
              by_cases e2 : f y z = 0
              · omega
              · rw [if_neg e2] at h2; exact h2
            have h3 := h.trans x y z h1 h2'
            have e3 : ¬ f x z = 0 := fun e => e1 (h3.2 e).1
            rw [if_neg e3]
            exact ⟨h3.1, fun e => absurd e e3⟩

theorem lexG_zero {α : Type} {f : α → α → Int} : ∀ (xs ys : List α), (∀ x ∈ xs, ∀ y ∈ ys, f x y = 0 → x = y) → (∀ x, f x x = 0) → (lexG f xs ys = 0 ↔ xs = ys)
  | [], [], _, _ => by simp [lexG]
  | [], _ :: _, _, _ => by simp [lexG]
  | _ :: _, [], _, _ => by simp [lexG]
  | x :: xs, y :: ys, h, h0 => by
    rw [lexG]
    have ih := lexG_zero xs ys (fun a ha b hb => h a (List.mem_cons_of_mem _ ha) b (List.mem_cons_of_mem _ hb)) h0
    by_cases e : f x y = 0
    · rw [if_pos e, ih]
      have := h x (by simp) y (by simp) e
      simp [this]
    · rw [if_neg e]
      refine ⟨fun h' => absurd h' e, fun h' => ?_⟩
      cases h'
      exact absurd (h0 x) e

def cmpB (a b : UInt8) : Int := cmpI a.toNat b.toNat
theorem cmpB_cmp : Cmp cmpB := ⟨fun _ _ => cmpI_cmp.rng _ _, fun _ _ => cmpI_cmp.anti _ _, fun _ _ _ => cmpI_cmp.trans _ _ _⟩
theorem cmpB_zero (a b : UInt8) (h : cmpB a b = 0) : a = b := by
  unfold cmpB cmpI at h
  apply UInt8.toNat_inj.1
  split at h
  · omega
  · split at h <;> omega

theorem bytes_lex : ∀ (x y : List UInt8), (if Op.bytesLess x y then (-1 : Int) else if x == y then 0 else 1) = lexG cmpB x y
  | [], [] => by simp [Op.bytesLess, lexG]
  | [], _ :: _ => by simp [Op.bytesLess, lexG]
  | _ :: _, [] => by simp [Op.bytesLess, lexG]
  | a :: x, b :: y => by
    have ih := bytes_lex x y
    rw [lexG, ← ih]
    by_cases e : cmpB a b = 0
    · have := cmpB_zero a b e
      subst this
      simp [Op.bytesLess, e]
    · rw [if_neg e]
      have hne : ¬ a = b := fun e' => e (by subst e'; exact cmpB_cmp.zero a)
      by_cases hl : a < b
      · simp [Op.bytesLess, hl]
        unfold cmpB cmpI
        rw [if_pos (by have := UInt8.lt_iff_toNat_lt.1 hl; omega)]
      · simp [Op.bytesLess, hl, hne]
        unfold cmpB cmpI
        have h1 : ¬ a.toNat < b.toNat := fun h' => hl (UInt8.lt_iff_toNat_lt.2 h')
        have h2 : ¬ a.toNat = b.toNat := fun h' => hne (UInt8.toNat_inj.1 h')
        rw [if_neg (by omega), if_pos (by omega)]

theorem cmpS_lex (x y : ByteArray) : cmpS x y = lexG cmpB x.toList y.toList := bytes_lex _ _
theorem cmpS_cmp : Cmp cmpS := by
  have h := lexG_cmp cmpB_cmp
  refine ⟨fun a b => ?_, fun a b => ?_, fun a b c => ?_⟩ <;> simp only [cmpS_lex]
  · exact h.rng _ _
  · exact h.anti _ _
  · exact h.trans _ _ _
theorem cmpS_zero (x y : ByteArray) : cmpS x y = 0 ↔ x.toList = y.toList := by
  rw [cmpS_lex]
  exact lexG_zero _ _ (fun a _ b _ => cmpB_zero a b) (fun a => cmpB_cmp.zero a)

theorem ordL_lex (f : Tr → Tr → Int) : ∀ (xs ys : List Tr), ordL f xs ys = lexG f xs ys
  | [], [] => rfl
  | [], _ :: _ => rfl
  | _ :: _, [] => rfl
  | x :: xs, y :: ys => by rw [ordL, lexG, ordL_lex f xs ys]

theorem ord_cmp : ∀ n, Cmp (ord n)
  | 0 => ⟨fun _ _ => .inr (.inl rfl), fun _ _ => rfl, fun _ _ _ _ _ => ⟨Int.le_refl _, fun _ => ⟨rfl, rfl⟩⟩⟩
  | n + 1 => by
    have hl := lexG_cmp (ord_cmp n)
    refine ⟨fun a b => ?_, fun a b => ?_, fun a b c => ?_⟩
    · rw [ord]; simp only [ordL_lex]
      split
      · split
        · exact .inr (.inl rfl)
        split
        · exact cmpI_cmp.rng _ _
        split
        · exact cmpI_cmp.rng _ _
        split
        · exact cmpI_cmp.rng _ _
        split
        · exact hl.rng _ _
        · exact cmpS_cmp.rng _ _
      · exact cmpI_cmp.rng _ _
    · rw [ord, ord]; simp only [ordL_lex]
      by_cases e : a.k = b.k
      · rw [if_pos e, if_pos e.symm, ← e]
        split
        · rfl
        split
        · exact cmpI_cmp.anti _ _
        split
        · exact cmpI_cmp.anti _ _
        split
        · exact cmpI_cmp.anti _ _
        split
        · exact hl.anti _ _
        · exact cmpS_cmp.anti _ _
      · rw [if_neg e, if_neg (fun h => e h.symm)]
        exact cmpI_cmp.anti _ _
    · rw [ord, ord, ord]; simp only [ordL_lex]
      by_cases e1 : a.k = b.k
      · by_cases e2 : b.k = c.k
        · have e3 : a.k = c.k := e1.trans e2
          rw [if_pos e1, if_pos e2, if_pos e3, ← e1]
          split
          · intro _ _; exact ⟨Int.le_refl _, fun _ => ⟨rfl, rfl⟩⟩
          split
          · exact cmpI_cmp.trans _ _ _
          split
          · exact cmpI_cmp.trans _ _ _
          split
          · exact cmpI_cmp.trans _ _ _
          split
          · exact hl.trans _ _ _
          · exact cmpS_cmp.trans _ _ _
        · have e3 : ¬ a.k = c.k := fun h => e2 (e1.symm.trans h)
          rw [if_neg e2, if_neg e3, e1]
          intro _ h
          refine ⟨h, fun h0 => absurd h0 ?_⟩
          unfold cmpI
          split
          · omega
          · split <;> omega
      · have n1 : ¬ cmpI a.k b.k = 0 := by
          unfold cmpI
          split
          · omega
          · split <;> omega
        rw [if_neg e1]
        by_cases e2 : b.k = c.k
        · have e3 : ¬ a.k = c.k := fun h => e1 (h.trans e2.symm)
          rw [if_neg e3, ← e2]
          intro h _
          exact ⟨h, fun h0 => absurd h0 n1⟩
        · rw [if_neg e2]
          intro h1 h2
          have h3 := cmpI_cmp.trans _ _ _ h1 h2
          have n3 : ¬ cmpI a.k c.k = 0 := fun h => n1 (h3.2 h).1
          have e3 : ¬ a.k = c.k := fun h => n3 (by rw [h]; exact cmpI_cmp.zero _)
          rw [if_neg e3]
          exact ⟨h3.1, fun h0 => absurd h0 n3⟩
end Go.Proofs.YtciibcfmlhbnkaaGreatDoor
