/- The law QuantOrder: its walk. -/
import Derived.Test.YtggkdapfccanpaaDoorQLawPrints
import Derived.BigQuiet
import Derived.Deep.QuietTactic
namespace Go.Proofs.YtggkdapfccanpaaDoor.Q
open Go.RowKit

theorem up_mono {a b u : Int} (hab : a ≤ b) (h1 : upE a u = 0) (h2 : upE b u = 0) : upV a u ≤ upV b u := by
  obtain ⟨f1, f2, f3, -⟩ := up_facts h1
  have v : ∀ {x : Int}, upE x u = 0 → upV x u = upOf x u := fun {x} h => by
    have hok : okUp x u = true := by
      cases hb : okUp x u with
      | true => rfl
      | false => rw [(up_no hb).2] at h; cases h
    have hle : ¬ 1125899906842624 < upOf x u := fun hb => by rw [(up_over hok hb).2] at h; cases h
    exact (up_ok hok hle).1
  rw [v h1, v h2]
  unfold upOf
  exact Int.mul_le_mul_of_nonneg_right (Int.ediv_le_ediv (by omega) (by omega)) (by omega)

theorem fits_more {a r q : Int} : q < r ∨ (r ≤ q ∧ fits a r = false) ∨ (r ≤ q ∧ fits a r = true ∧ fits a q = true) := by
  by_cases h : r ≤ q
  · cases hf : fits a r with
    | false => exact .inr (.inl ⟨h, rfl⟩)
    | true =>
      refine .inr (.inr ⟨h, rfl, ?_⟩)
      simp only [fits, Bool.and_eq_true, decide_eq_true_eq] at hf ⊢
      omega
  · exact .inl (by omega)
theorem fits_less {a b r : Int} (hab : a ≤ b) : fits b r = false ∨ (fits b r = true ∧ a < 0) ∨ (fits b r = true ∧ 0 ≤ a ∧ fits a r = true) := by
  cases hf : fits b r with
  | false => exact .inl rfl
  | true =>
    by_cases h : a < 0
    · exact .inr (.inl ⟨rfl, h⟩)
    · refine .inr (.inr ⟨rfl, by omega, ?_⟩)
      simp only [fits, Bool.and_eq_true, decide_eq_true_eq] at hf ⊢
      omega
theorem below_two (w : World) (o o' : Obj) {n : Nat} : Below w.heap.size w (((w.alloc o).alloc o').drewN n) := below_drewN (((Below.refl _ w).alloc (Nat.le_refl _) _).alloc (by simp) _) n

set_option maxHeartbeats 4000000 in
theorem quantOrder_any (x y u r q : Int) (w : World) (ht : Tab w) :
    Calls Tryd.prog 9 #[.agg #[.int .i64 x, .int .i64 y], .int .i64 u, .agg #[.int .i64 r, .int .i64 q]] w fun e W' => e = .returned (.bool true) ∧ Below w.heap.size w W' := by
  have HT := Lib.hid ht
  clear ht
  by_cases hxy : y < x
  · go_enter Tryd.func9, Tryd.ntmps9
    have hab : y ≤ x := by omega
    have hmono := Lib.hid (@up_mono y x u hab)
    have hfit1 := Lib.hid (@fits_more y r q)
    have hfit2 := Lib.hid (@fits_less y x r hab)
    clear hab
    go_wp2
    go_quiet (fail)
    generalize hW : World.drewN _ _ = W
    have cr : W.cell? ⟨w.heap.size + 1, 0, none⟩ = some (.int .i64 r) := by rw [← hW]; simp
    have cq : W.cell? ⟨w.heap.size + 1, 1, none⟩ = some (.int .i64 q) := by rw [← hW]; simp
    have hsz : w.heap.size + 1 < W.heap.size := by rw [← hW]; simp
    have hB : Hid (Below w.heap.size w W) := by rw [← hW]; exact below_two w _ _
    clear hW
    go_wp2_with fail
    refine (up_any y u _).mono ?_
    rintro e w1 ⟨rfl, rfl⟩
    go_wp2_with fail
    refine (up_any x u _).mono ?_
    rintro e w1 ⟨rfl, rfl⟩
    have hcase : (upE y u == 0) = false ∨ ((upE y u == 0) = true ∧ (upE x u == 0) = false) ∨ ((upE y u == 0) = true ∧ (upE x u == 0) = true ∧ upV y u ≤ upV x u) := by
      cases ha : (upE y u == 0) with
      | false => exact .inl rfl
      | true =>
        cases hb : (upE x u == 0) with
        | false => exact .inr (.inl ⟨rfl, rfl⟩)
        | true => exact .inr (.inr ⟨rfl, rfl, hmono.out (eq_of_beq ha) (eq_of_beq hb)⟩)
    clear hmono
    generalize upE y u = ea at *
    generalize upE x u = eb at *
    generalize upV y u = va at *
    generalize upV x u = vb at *
    have hlast : fits x r = false ∨ (fits x r = true ∧ y < 0) ∨ (fits x r = true ∧ 0 ≤ y ∧ fits y r = true) := hfit2.out
    have hmore : q < r ∨ (r ≤ q ∧ fits y r = false) ∨ (r ≤ q ∧ fits y r = true ∧ fits y q = true) := hfit1.out
    clear hfit1 hfit2
    rcases hcase with h1 | ⟨h1, h1'⟩ | ⟨h1, h1', h1''⟩
    all_goals
      rcases hmore with h2 | ⟨h2, h2'⟩ | ⟨h2, h2', h2''⟩
      all_goals
        rcases hlast with h3 | ⟨h3, h3'⟩ | ⟨h3, h3', h3''⟩
        all_goals
          first
            | (exfalso; simp_all; done)
            | (go_wp2_with (first | (go_at_call 20; refine (fits_any _ _ _).mono ?_; rintro e w4 ⟨rfl, rfl⟩) | (go_at_call 15; refine (live_any _ (HT.out.below hB.out (Nat.le_refl _))).mono ?_; rintro e w6 ⟨rfl, hb6⟩; have cr6 : w6.cell? ⟨w.heap.size + 1, 0, none⟩ = some (.int .i64 r) := (hb6.cell (p := ⟨w.heap.size + 1, 0, none⟩) hsz).trans cr; have hB6 := Lib.hid (hB.out.trans (hb6.mono hB.out.size)); clear hb6))
               go_ret
               exact ⟨by simp, hB6.out⟩)
  · go_enter Tryd.func9, Tryd.ntmps9
    have hab : x ≤ y := by omega
    have hmono := Lib.hid (@up_mono x y u hab)
    have hfit1 := Lib.hid (@fits_more x r q)
    have hfit2 := Lib.hid (@fits_less x y r hab)
    clear hab
    go_wp2
    go_quiet (fail)
    generalize hW : World.drewN _ _ = W
    have cr : W.cell? ⟨w.heap.size + 1, 0, none⟩ = some (.int .i64 r) := by rw [← hW]; simp
    have cq : W.cell? ⟨w.heap.size + 1, 1, none⟩ = some (.int .i64 q) := by rw [← hW]; simp
    have hsz : w.heap.size + 1 < W.heap.size := by rw [← hW]; simp
    have hB : Hid (Below w.heap.size w W) := by rw [← hW]; exact below_two w _ _
    clear hW
    go_wp2_with fail
    refine (up_any x u _).mono ?_
    rintro e w1 ⟨rfl, rfl⟩
    go_wp2_with fail
    refine (up_any y u _).mono ?_
    rintro e w1 ⟨rfl, rfl⟩
    have hcase : (upE x u == 0) = false ∨ ((upE x u == 0) = true ∧ (upE y u == 0) = false) ∨ ((upE x u == 0) = true ∧ (upE y u == 0) = true ∧ upV x u ≤ upV y u) := by
      cases ha : (upE x u == 0) with
      | false => exact .inl rfl
      | true =>
        cases hb : (upE y u == 0) with
        | false => exact .inr (.inl ⟨rfl, rfl⟩)
        | true => exact .inr (.inr ⟨rfl, rfl, hmono.out (eq_of_beq ha) (eq_of_beq hb)⟩)
    clear hmono
    generalize upE x u = ea at *
    generalize upE y u = eb at *
    generalize upV x u = va at *
    generalize upV y u = vb at *
    have hlast : fits y r = false ∨ (fits y r = true ∧ x < 0) ∨ (fits y r = true ∧ 0 ≤ x ∧ fits x r = true) := hfit2.out
    have hmore : q < r ∨ (r ≤ q ∧ fits x r = false) ∨ (r ≤ q ∧ fits x r = true ∧ fits x q = true) := hfit1.out
    clear hfit1 hfit2
    rcases hcase with h1 | ⟨h1, h1'⟩ | ⟨h1, h1', h1''⟩
    all_goals
      rcases hmore with h2 | ⟨h2, h2'⟩ | ⟨h2, h2', h2''⟩
      all_goals
        rcases hlast with h3 | ⟨h3, h3'⟩ | ⟨h3, h3', h3''⟩
        all_goals
          first
            | (exfalso; simp_all; done)
            | (go_wp2_with (first | (go_at_call 20; refine (fits_any _ _ _).mono ?_; rintro e w4 ⟨rfl, rfl⟩) | (go_at_call 15; refine (live_any _ (HT.out.below hB.out (Nat.le_refl _))).mono ?_; rintro e w6 ⟨rfl, hb6⟩; have cr6 : w6.cell? ⟨w.heap.size + 1, 0, none⟩ = some (.int .i64 r) := (hb6.cell (p := ⟨w.heap.size + 1, 0, none⟩) hsz).trans cr; have hB6 := Lib.hid (hB.out.trans (hb6.mono hB.out.size)); clear hb6))
               go_ret
               exact ⟨by simp, hB6.out⟩)
end Go.Proofs.YtggkdapfccanpaaDoor.Q
