/- A scope in which the run jumps to several labels: what holds at each jump, and a measure that each pass from a label lowers. No condition. -/
import Derived.ScopeJumps
import Derived.WalkMore
import Derived.WalkKit
namespace Go.Proofs.YtplncjlcejaabaaGreat
set_option linter.unusedSimpArgs false
set_option linter.unusedVariables false
set_option maxRecDepth 100000
open Go.RowKit
def jumpM (J : Nat → Act → World → Prop) (Q : Exit → Act → World → Prop) : Exit → Act → World → Prop
 | .goto l', a, w => J l' a w
 | e, a, w => Q e a w
theorem wp_scope_many {P : Program} {a : Act} {w : World} {Q : Exit → Act → World → Prop} {c : Code} (rest : Nat → Code) (J : Nat → Act → World → Prop) (μ : Nat → Act → World → Nat) (hf : ∀ l a w, J l a w → findLabel c l = some (rest l))
  (first : c.wp P (jumpM J Q) a w)
  (pass : ∀ l a w, J l a w → (rest l).wp P (jumpM (fun l' a' w' => J l' a' w' ∧ μ l' a' w' < μ l a w) Q) a w) : (Code.scope c).wp P Q a w := by
 intro b k cs
 have hg : ∀ l a w, J l a w → gotoIn l (.inScope c :: k) = some (.code (rest l) :: .inScope c :: k) := fun l a w h => by simp [gotoIn, hf l a w h]
 have key : ∀ n l a w, μ l a w = n → J l a w → ∃ e a' w', Q e a' w' ∧ Arrives P (lone (b.at a (.code (rest l) :: .inScope c :: k)) cs w) b k cs e a' w' := by
  intro n
  induction n using Nat.strongRecOn with
  | _ n ih =>
   intro l a w hn hJ
   obtain ⟨e, a₁, w₁, hq, harr⟩ := pass l a w hJ b (.inScope c :: k) cs
   cases e with
   | normal => exact ⟨.normal, a₁, w₁, hq, Steps.trans harr (.one step_inScope)⟩
   | exit id => exact ⟨.exit id, a₁, w₁, hq, fun k' hk => harr k' (by simp [exitTo, hk])⟩
   | goto l' =>
    obtain ⟨hJ', hlt⟩ := hq
    obtain ⟨e₂, a₂, w₂, hq₂, harr₂⟩ := ih _ (by omega) l' a₁ w₁ rfl hJ'
    exact ⟨e₂, a₂, w₂, hq₂, .of_steps (harr _ (hg l' a₁ w₁ hJ')) harr₂⟩
   | ret => exact ⟨_, a₁, w₁, hq, harr⟩
   | panic ch => exact ⟨_, a₁, w₁, hq, harr⟩
   | outgrown => exact ⟨_, a₁, w₁, hq, harr⟩
 obtain ⟨e, a₁, w₁, hq, harr⟩ := first b (.inScope c :: k) cs
 cases e with
 | normal => exact ⟨.normal, a₁, w₁, hq, .head step_scope (Steps.trans harr (.one step_inScope))⟩
 | exit id => exact ⟨.exit id, a₁, w₁, hq, fun k' hk => .head step_scope (harr k' (by simp [exitTo, hk]))⟩
 | goto l' =>
  have hJ' : J l' a₁ w₁ := hq
  obtain ⟨e₂, a₂, w₂, hq₂, harr₂⟩ := key _ l' a₁ w₁ rfl hJ'
  exact ⟨e₂, a₂, w₂, hq₂, .of_steps (.head step_scope (harr _ (hg l' a₁ w₁ hJ'))) harr₂⟩
 | ret => exact ⟨_, a₁, w₁, hq, .of_steps (.one step_scope) harr⟩
 | panic ch => exact ⟨_, a₁, w₁, hq, .of_steps (.one step_scope) harr⟩
 | outgrown => exact ⟨_, a₁, w₁, hq, .of_steps (.one step_scope) harr⟩
def jump2 (l0 l1 : Nat) (J0 J1 : Act → World → Prop) (Q : Exit → Act → World → Prop) : Exit → Act → World → Prop
 | .goto l', a, w => (l' = l0 ∧ J0 a w) ∨ (l' = l1 ∧ J1 a w)
 | e, a, w => Q e a w
theorem wp_post {P : Program} {a : Act} {w : World} {Q Q' : Exit → Act → World → Prop} {c : Code} (h : c.wp P Q a w) (hq : ∀ e a w, Q e a w → Q' e a w) : c.wp P Q' a w := by
 intro b k cs
 obtain ⟨e, a', w', h1, h2⟩ := h b k cs
 exact ⟨e, a', w', hq _ _ _ h1, h2⟩
theorem wp_scope_two {P : Program} {a : Act} {w : World} {Q : Exit → Act → World → Prop} {c rest0 rest1 : Code} (l0 l1 : Nat) (J0 J1 : Act → World → Prop) (μ0 μ1 : Act → World → Nat) (hf0 : findLabel c l0 = some rest0) (hf1 : findLabel c l1 = some rest1) (hne : l0 ≠ l1)
  (first : c.wp P (jump2 l0 l1 J0 J1 Q) a w)
  (pass0 : ∀ a w, J0 a w → rest0.wp P (jump2 l0 l1 (fun a' w' => J0 a' w' ∧ μ0 a' w' < μ0 a w) (fun a' w' => J1 a' w' ∧ μ1 a' w' < μ0 a w) Q) a w)
  (pass1 : ∀ a w, J1 a w → rest1.wp P (jump2 l0 l1 (fun a' w' => J0 a' w' ∧ μ0 a' w' < μ1 a w) (fun a' w' => J1 a' w' ∧ μ1 a' w' < μ1 a w) Q) a w) : (Code.scope c).wp P Q a w := by
 refine wp_scope_many (fun l => if l = l0 then rest0 else rest1) (fun l a w => (l = l0 ∧ J0 a w) ∨ (l = l1 ∧ J1 a w)) (fun l a w => if l = l0 then μ0 a w else μ1 a w) ?_ ?_ ?_
 ·rintro l a w (⟨rfl, -⟩ | ⟨rfl, -⟩)
  ·simp [hf0]
  ·simp [hf1, Ne.symm hne]
 ·refine wp_post first fun e a w h => ?_
  cases e <;> exact h
 ·rintro l a w (⟨rfl, hJ⟩ | ⟨rfl, hJ⟩)
  ·rw [if_pos rfl]
   refine wp_post (pass0 a w hJ) fun e a' w' h => ?_
   cases e with
   | goto l' =>
    rcases h with ⟨rfl, h⟩ | ⟨rfl, h⟩
    ·exact ⟨.inl ⟨rfl, h.1⟩, by simpa using h.2⟩
    ·exact ⟨.inr ⟨rfl, h.1⟩, by simpa [Ne.symm hne] using h.2⟩
   | _ => exact h
  ·rw [if_neg (Ne.symm hne)]
   refine wp_post (pass1 a w hJ) fun e a' w' h => ?_
   cases e with
   | goto l' =>
    rcases h with ⟨rfl, h⟩ | ⟨rfl, h⟩
    ·exact ⟨.inl ⟨rfl, h.1⟩, by simpa [Ne.symm hne] using h.2⟩
    ·exact ⟨.inr ⟨rfl, h.1⟩, by simpa [Ne.symm hne] using h.2⟩
   | _ => exact h
end Go.Proofs.YtplncjlcejaabaaGreat
