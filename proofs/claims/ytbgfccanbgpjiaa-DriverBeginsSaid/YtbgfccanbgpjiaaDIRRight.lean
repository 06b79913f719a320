/- Own work. -/
import Derived.Test.YtbgfccanbgpjiaaDJIRRA
import Derived.Test.YtbgfccanbgpjiaaDIRRE
import Derived.Test.YtbgfccanbgpjiaaDIRRF
import Derived.Test.YtbgfccanbgpjiaaDIRRB
import Derived.Test.YtbgfccanbgpjiaaDIRRC
import Derived.Test.YtbgfccanbgpjiaaDIRRD
namespace Go.Proofs.Ytbgfccanbgpjiaa.O.I
open Go Go.RowKit Go.Lib KM
attribute [local go_sem] Oper.semAt_some
structure FitC (c : Cl) : Prop where
  target : FitT c.target
  zone : FitT c.zone
  node : FitT c.node
  source : FitT c.source
theorem rright_any (c : Cl) (hf : FitC c) (w : World) : Calls Try.prog 18 #[encC c] w fun e w' => e = .returned (.bool (rightB c)) ∧ Below w.heap.size w w' := by
  obtain ⟨vb, tg, nu, si, zo, no, so⟩ := c
  obtain ⟨f1, f2, f3, f4⟩ := hf
  cases ht : nm tg with
  | false =>
    rw [show rightB ⟨vb, tg, nu, si, zo, no, so⟩ = false by unfold rightB; simp [ht]]
    exact rr_name vb tg nu si zo no so w f1 ht
  | true =>
  by_cases h0 : nu = 0
  · rw [show rightB ⟨vb, tg, nu, si, zo, no, so⟩ = false by unfold rightB; simp [h0]]
    exact rr_num vb tg nu si zo no so w f1 ht h0
  by_cases hs : si < 0
  · rw [show rightB ⟨vb, tg, nu, si, zo, no, so⟩ = false by unfold rightB; rw [show inR si = false from inR_no (.inl hs)]; simp]
    exact rr_neg vb tg nu si zo no so w f1 ht h0 hs
  by_cases hs2 : 1125899906842624 < si
  · rw [show rightB ⟨vb, tg, nu, si, zo, no, so⟩ = false by unfold rightB; rw [show inR si = false from inR_no (.inr hs2)]; simp]
    exact rr_big vb tg nu si zo no so w f1 ht h0 (by omega) hs2
  have hr : inR si = true := (inR_iff si).2 ⟨by omega, by omega⟩
  have hd0 : (!decide (nu = 0)) = true := by simp [h0]
  rw [show rightB ⟨vb, tg, nu, si, zo, no, so⟩ = (decide ((⟨vb, tg, nu, si, zo, no, so⟩ : Cl) = namedC ⟨vb, tg, nu, si, zo, no, so⟩) && hasB ⟨vb, tg, nu, si, zo, no, so⟩) by
    unfold rightB
    dsimp only
    rw [ht, hd0, hr]
    rfl]
  have h5 : 0 ≤ si := by omega
  have h6 : si ≤ 1125899906842624 := by omega
  by_cases v1 : vb = 1
  · subst v1
    rw [show namedC ⟨1, tg, nu, si, zo, no, so⟩ = ⟨1, tg, nu, si, zo, E0, so⟩ from rfl]
    rw [show decide ((⟨1, tg, nu, si, zo, no, so⟩ : Cl) = ⟨1, tg, nu, si, zo, E0, so⟩) = eqC ⟨1, tg, nu, si, zo, no, so⟩ ⟨1, tg, nu, si, zo, E0, so⟩ from rfl]
    cases hd : eqC ⟨1, tg, nu, si, zo, no, so⟩ ⟨1, tg, nu, si, zo, E0, so⟩ with
    | false =>
      rw [Bool.false_and]
      exact rr_1_no tg nu si zo no so w f1 ht h0 h5 h6 hd
    | true =>
      rw [Bool.true_and]
      by_cases hz : si = 0
      · rw [show hasB ⟨1, tg, nu, si, zo, no, so⟩ = false by simp [hasB, hz]]
        exact rr_1_zero tg nu si zo no so w f1 ht h0 h5 h6 hd hz
      have hp : 0 < si := by omega
      cases hz2 : nm zo with
      | false =>
        rw [show hasB ⟨1, tg, nu, si, zo, no, so⟩ = false by simp [hasB, hz2]]
        exact rr_1_zone tg nu si zo no so w f1 ht h0 h5 h6 hd hp f2 hz2
      | true =>
        cases hes : decide (so = E0) with
        | true =>
          rw [show hasB ⟨1, tg, nu, si, zo, no, so⟩ = true by simp [hasB, hz2, hz, hes]]
          exact rr_1_none tg nu si zo no so w f1 ht h0 h5 h6 hd hp f2 hz2 hes
        | false =>
          rw [show hasB ⟨1, tg, nu, si, zo, no, so⟩ = nm so by simp [hasB, hz2, hz, hes]]
          exact rr_1_src tg nu si zo no so w f1 ht h0 h5 h6 hd hp f2 hz2 hes f4 _ rfl
  by_cases v2 : vb = 2
  · subst v2
    rw [show namedC ⟨2, tg, nu, si, zo, no, so⟩ = ⟨2, tg, nu, 0, E0, E0, E0⟩ from rfl, show hasB ⟨2, tg, nu, si, zo, no, so⟩ = true from rfl, Bool.and_true]
    exact rr_2 tg nu si zo no so w f1 ht h0 h5 h6 _ rfl
  by_cases v3 : vb = 3
  · subst v3
    rw [show namedC ⟨3, tg, nu, si, zo, no, so⟩ = ⟨3, tg, nu, 0, E0, no, E0⟩ from rfl, show hasB ⟨3, tg, nu, si, zo, no, so⟩ = nm no from rfl]
    rw [show decide ((⟨3, tg, nu, si, zo, no, so⟩ : Cl) = ⟨3, tg, nu, 0, E0, no, E0⟩) = eqC ⟨3, tg, nu, si, zo, no, so⟩ ⟨3, tg, nu, 0, E0, no, E0⟩ from rfl]
    cases hd : eqC ⟨3, tg, nu, si, zo, no, so⟩ ⟨3, tg, nu, 0, E0, no, E0⟩ with
    | false => exact rr_3_no tg nu si zo no so w f1 ht h0 h5 h6 hd
    | true => exact rr_3_yes tg nu si zo no so w f1 ht h0 h5 h6 hd f3 _ rfl
  by_cases v4 : vb = 4
  · subst v4
    rw [show namedC ⟨4, tg, nu, si, zo, no, so⟩ = ⟨4, tg, nu, 0, E0, no, E0⟩ from rfl, show hasB ⟨4, tg, nu, si, zo, no, so⟩ = nm no from rfl]
    rw [show decide ((⟨4, tg, nu, si, zo, no, so⟩ : Cl) = ⟨4, tg, nu, 0, E0, no, E0⟩) = eqC ⟨4, tg, nu, si, zo, no, so⟩ ⟨4, tg, nu, 0, E0, no, E0⟩ from rfl]
    cases hd : eqC ⟨4, tg, nu, si, zo, no, so⟩ ⟨4, tg, nu, 0, E0, no, E0⟩ with
    | false => exact rr_4_no tg nu si zo no so w f1 ht h0 h5 h6 hd
    | true => exact rr_4_yes tg nu si zo no so w f1 ht h0 h5 h6 hd f3 _ rfl
  by_cases v5 : vb = 5
  · subst v5
    rw [show namedC ⟨5, tg, nu, si, zo, no, so⟩ = ⟨5, tg, nu, si, E0, E0, E0⟩ from rfl, show hasB ⟨5, tg, nu, si, zo, no, so⟩ = !decide (si = 0) from rfl]
    rw [show decide ((⟨5, tg, nu, si, zo, no, so⟩ : Cl) = ⟨5, tg, nu, si, E0, E0, E0⟩) = eqC ⟨5, tg, nu, si, zo, no, so⟩ ⟨5, tg, nu, si, E0, E0, E0⟩ from rfl]
    cases hd : eqC ⟨5, tg, nu, si, zo, no, so⟩ ⟨5, tg, nu, si, E0, E0, E0⟩ with
    | false => exact rr_5_no tg nu si zo no so w f1 ht h0 h5 h6 hd
    | true =>
      by_cases hz : si = 0
      · rw [show (true && !decide (si = 0)) = false by simp [hz]]
        exact rr_5_zero tg nu si zo no so w f1 ht h0 h5 h6 hd hz
      · rw [show (true && !decide (si = 0)) = true by simp [hz]]
        exact rr_5_pos tg nu si zo no so w f1 ht h0 h5 h6 hd (by omega)
  by_cases v6 : vb = 6
  · subst v6
    rw [show namedC ⟨6, tg, nu, si, zo, no, so⟩ = ⟨6, tg, nu, 0, E0, E0, so⟩ from rfl, show hasB ⟨6, tg, nu, si, zo, no, so⟩ = nm so from rfl]
    rw [show decide ((⟨6, tg, nu, si, zo, no, so⟩ : Cl) = ⟨6, tg, nu, 0, E0, E0, so⟩) = eqC ⟨6, tg, nu, si, zo, no, so⟩ ⟨6, tg, nu, 0, E0, E0, so⟩ from rfl]
    cases hd : eqC ⟨6, tg, nu, si, zo, no, so⟩ ⟨6, tg, nu, 0, E0, E0, so⟩ with
    | false => exact rr_6_no tg nu si zo no so w f1 ht h0 h5 h6 hd
    | true => exact rr_6_yes tg nu si zo no so w f1 ht h0 h5 h6 hd f4 _ rfl
  by_cases v7 : vb = 7
  · subst v7
    rw [show namedC ⟨7, tg, nu, si, zo, no, so⟩ = ⟨7, tg, nu, 0, E0, E0, E0⟩ from rfl, show hasB ⟨7, tg, nu, si, zo, no, so⟩ = true from rfl, Bool.and_true]
    exact rr_7 tg nu si zo no so w f1 ht h0 h5 h6 _ rfl
  rw [show hasB ⟨vb, tg, nu, si, zo, no, so⟩ = false by simp [hasB, v1, v2, v3, v4, v5, v6, v7], Bool.and_false]
  exact rr_other vb tg nu si zo no so w f1 ht h0 h5 h6 ⟨v1, v2, v3, v4, v5, v6, v7⟩
end Go.Proofs.Ytbgfccanbgpjiaa.O.I
