/- A scope through which the run goes with one jump at most. Of no program. -/
import Derived.WalkMore
import Derived.ScopeJumps
namespace Go

/-- As Q; by a jump: the rest from its label, without another one. -/
def Exit.once (P : Program) (c : Code) (Q : Exit → Act → World → Prop) : Exit → Act → World → Prop
  | .goto l, a, w => ∃ rest, findLabel c l = some rest ∧ rest.wp P (Exit.noGoto Q) a w
  | e, a, w => Q e a w
section
variable {P : Program} {c : Code} {a : Act} {w : World} {Q : Exit → Act → World → Prop}
theorem Exit.once_normal : Exit.once P c Q .normal a w = Q .normal a w := rfl
theorem Exit.once_exit (id : Nat) : Exit.once P c Q (.exit id) a w = Q (.exit id) a w := rfl
theorem Exit.once_ret : Exit.once P c Q .ret a w = Q .ret a w := rfl
theorem Exit.once_panic (ch : List PanicEntry) : Exit.once P c Q (.panic ch) a w = Q (.panic ch) a w := rfl
theorem Exit.once_goto (l : Nat) : Exit.once P c Q (.goto l) a w = ∃ rest, findLabel c l = some rest ∧ rest.wp P (Exit.noGoto Q) a w := rfl
theorem Exit.once_jump {l : Nat} {rest : Code} (hf : findLabel c l = some rest) (h : rest.wp P (Exit.noGoto Q) a w) : Exit.once P c Q (.goto l) a w := ⟨rest, hf, h⟩
theorem wp_scope_once (h : c.wp P (Exit.once P c Q) a w) : (Code.scope c).wp P Q a w := by
  intro b k cs
  obtain ⟨e, a₁, w₁, hq, harr⟩ := h b (.inScope c :: k) cs
  cases e with
  | normal => exact ⟨.normal, a₁, w₁, hq, .head step_scope (Steps.trans harr (.one step_inScope))⟩
  | exit id => exact ⟨.exit id, a₁, w₁, hq, fun k' hk => .head step_scope (harr k' (by simp [exitTo, hk]))⟩
  | goto l =>
    obtain ⟨rest, hf, hr⟩ := hq
    have hg : gotoIn l (.inScope c :: k) = some (.code rest :: .inScope c :: k) := by simp [gotoIn, hf]
    obtain ⟨e₂, a₂, w₂, hq₂, harr₂⟩ := hr b (.inScope c :: k) cs
    have h0 := Steps.head (step_scope (P := P) (b := b) (a := a) (k := k) (cs := cs) (w := w) (c := c)) (harr _ hg)
    cases e₂ with
    | normal => exact ⟨.normal, a₂, w₂, hq₂, Steps.trans h0 (Steps.trans harr₂ (.one step_inScope))⟩
    | exit id => exact ⟨.exit id, a₂, w₂, hq₂, fun k' hk => Steps.trans h0 (harr₂ k' (by simp [exitTo, hk]))⟩
    | goto l' => exact hq₂.elim
    | ret => exact ⟨_, a₂, w₂, hq₂, .of_steps h0 harr₂⟩
    | panic ch => exact ⟨_, a₂, w₂, hq₂, .of_steps h0 harr₂⟩
    | outgrown => exact ⟨_, a₂, w₂, hq₂, .of_steps h0 harr₂⟩
  | ret => exact ⟨_, a₁, w₁, hq, .of_steps (.one step_scope) harr⟩
  | panic ch => exact ⟨_, a₁, w₁, hq, .of_steps (.one step_scope) harr⟩
  | outgrown => exact ⟨_, a₁, w₁, hq, .of_steps (.one step_scope) harr⟩
end
end Go
