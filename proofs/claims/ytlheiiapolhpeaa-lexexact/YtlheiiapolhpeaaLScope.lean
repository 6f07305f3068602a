/- A scope with several labels: what holds at each, and a measure that every pass from one lowers. -/
import Derived.Test.YtlheiiapolhpeaaRows
import Derived.WalkKit
import Derived.WalkSpells
import Derived.WalkLawsBesides
import Derived.WalkMore
import Derived.Scope
import Derived.Deep.DeepCutAuto
namespace Go.Proofs.Ytlheiiapolhpeaa
open Go.RowKit

/-- By a goto to label l: J l; else Q. -/
def jmp (J : Nat → Act → World → Prop) (Q : Exit → Act → World → Prop) : Exit → Act → World → Prop
  | .goto l, a, w => J l a w
  | e, a, w => Q e a w

section
variable {P : Program} {a : Act} {w : World} {Q : Exit → Act → World → Prop}

@[go_sem] theorem jmp_normal (J : Nat → Act → World → Prop) : jmp J Q .normal a w = Q .normal a w := rfl
@[go_sem] theorem jmp_exit (J : Nat → Act → World → Prop) (id : Nat) : jmp J Q (.exit id) a w = Q (.exit id) a w := rfl
@[go_sem] theorem jmp_ret (J : Nat → Act → World → Prop) : jmp J Q .ret a w = Q .ret a w := rfl
@[go_sem] theorem jmp_panic (J : Nat → Act → World → Prop) (ch : List PanicEntry) : jmp J Q (.panic ch) a w = Q (.panic ch) a w := rfl
@[go_sem] theorem jmp_goto (J : Nat → Act → World → Prop) (l : Nat) : jmp J Q (.goto l) a w = J l a w := rfl

theorem wp_scope_labels {c : Code} (J : Nat → Act → World → Prop) (μ : Nat → Act → World → Nat)
    (pass : ∀ l a w, J l a w → ∃ rest, findLabel c l = some (.seq .skip rest) ∧ rest.wp P (jmp (fun l' a' w' => J l' a' w' ∧ μ l' a' w' < μ l a w) Q) a w)
    (first : Hid (∀ l rest a w, findLabel c l = some (.seq .skip rest) → J l a w → rest.wp P (jmp J Q) a w) → c.wp P (jmp J Q) a w) : (Code.scope c).wp P Q a w := by
  have first := first (fun l rest a w hf hJ => by
    obtain ⟨r, hr, hp⟩ := pass l a w hJ
    rw [hf] at hr
    cases hr
    refine wp_mono hp ?_
    intro e a' w' h
    cases e with
    | goto l' => exact h.1
    | normal => exact h
    | exit id => exact h
    | ret => exact h
    | panic ch => exact h
    | outgrown => exact h)
  intro b k cs
  have hg : ∀ l rest, findLabel c l = some rest → gotoIn l (.inScope c :: k) = some (.code rest :: .inScope c :: k) := fun l rest hf => by simp [gotoIn, hf]
  have key : ∀ n l a w rest, μ l a w = n → J l a w → findLabel c l = some rest → ∃ e a' w', Q e a' w' ∧ Arrives P (lone (b.at a (.code rest :: .inScope c :: k)) cs w) b k cs e a' w' := by
    intro n
    induction n using Nat.strongRecOn with
    | _ n ih =>
      intro l a w rest hn hJ hf
      obtain ⟨r, hr, hp⟩ := pass l a w hJ
      rw [hf] at hr
      cases hr
      have hp : (Code.seq .skip r).wp P _ a w := wp_seq (wp_skip hp)
      obtain ⟨e, a₁, w₁, hq, harr⟩ := hp b (.inScope c :: k) cs
      cases e with
      | normal => exact ⟨.normal, a₁, w₁, hq, Steps.trans harr (.one step_inScope)⟩
      | exit id => exact ⟨.exit id, a₁, w₁, hq, fun k' hk => harr k' (by simp [exitTo, hk])⟩
      | goto l' =>
        obtain ⟨hJ', hlt⟩ := hq
        obtain ⟨r', hr', -⟩ := pass l' a₁ w₁ hJ'
        obtain ⟨e₂, a₂, w₂, hq₂, harr₂⟩ := ih _ (by omega) l' a₁ w₁ (.seq .skip r') rfl hJ' hr'
        exact ⟨e₂, a₂, w₂, hq₂, .of_steps (harr _ (hg _ _ hr')) harr₂⟩
      | ret => exact ⟨_, a₁, w₁, hq, harr⟩
      | panic ch => exact ⟨_, a₁, w₁, hq, harr⟩
      | outgrown => exact ⟨_, a₁, w₁, hq, harr⟩
  obtain ⟨e, a₁, w₁, hq, harr⟩ := first b (.inScope c :: k) cs
  cases e with
  | normal => exact ⟨.normal, a₁, w₁, hq, .head step_scope (Steps.trans harr (.one step_inScope))⟩
  | exit id => exact ⟨.exit id, a₁, w₁, hq, fun k' hk => .head step_scope (harr k' (by simp [exitTo, hk]))⟩
  | goto l' =>
    obtain ⟨r', hr', -⟩ := pass l' a₁ w₁ hq
    obtain ⟨e₂, a₂, w₂, hq₂, harr₂⟩ := key _ l' a₁ w₁ (.seq .skip r') rfl hq hr'
    exact ⟨e₂, a₂, w₂, hq₂, .of_steps (.head step_scope (harr _ (hg _ _ hr'))) harr₂⟩
  | ret => exact ⟨_, a₁, w₁, hq, .of_steps (.one step_scope) harr⟩
  | panic ch => exact ⟨_, a₁, w₁, hq, .of_steps (.one step_scope) harr⟩
  | outgrown => exact ⟨_, a₁, w₁, hq, .of_steps (.one step_scope) harr⟩

theorem wp_first_label {J : Nat → Act → World → Prop} {l : Nat} {c rest : Code} (hf : findLabel c l = some (.seq .skip rest)) (hJ : J l a w)
    (h : Hid (∀ l rest a w, findLabel c l = some (.seq .skip rest) → J l a w → rest.wp P (jmp J Q) a w)) : ((Code.label l).seq rest).wp P (jmp J Q) a w :=
  wp_seq (wp_label (h.out l rest a w hf hJ))
end
end Go.Proofs.Ytlheiiapolhpeaa
