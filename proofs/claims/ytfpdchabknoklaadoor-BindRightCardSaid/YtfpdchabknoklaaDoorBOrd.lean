/- Which of two objects stands ahead: by name. -/
import Derived.Test.YtfpdchabknoklaaDoorKHas
import Derived.Test.YtfpdchabknoklaaDoorKLeast
import Derived.Handy
namespace Go.Proofs.YtfpdchabknoklaaDoor.O.B
open Go Go.RowKit Go.Shelf Go.Lib RangeMap KM
attribute [local go_sem] Oper.semAt_some

def cmpS (a b : ByteArray) : Int := if Op.bytesLess a.toList b.toList then -1 else if a.toList == b.toList then 0 else 1
theorem cmpS_neg (a b : ByteArray) : decide (cmpS a b < 0) = Op.bytesLess a.toList b.toList := by
  unfold cmpS
  cases h : Op.bytesLess a.toList b.toList
  · cases h2 : a.toList == b.toList <;> simp
  · simp

set_option maxRecDepth 100000 in
set_option maxHeartbeats 2000000 in
theorem compareS_any (a b : ByteArray) (w : World) :
    Calls Tryd.prog 74 #[.string a, .string b] w fun e w' => e = .returned (.int .i64 (cmpS a b)) ∧ w' = w := by
  have he : ∀ s : ByteArray, (s.toList != s.toList) = false := fun s => by simp
  obtain ⟨c, hc⟩ : ∃ c, cmpS a b = c := ⟨_, rfl⟩
  rw [hc]
  unfold cmpS at hc
  cases h1 : Op.bytesLess a.toList b.toList with
  | true =>
    rw [h1] at hc
    obtain rfl : (-1 : Int) = c := hc
    go_enter Tryd.func74, Tryd.ntmps74
    go_wp2
    go_ret
    exact ⟨rfl, rfl⟩
  | false =>
    cases h2 : a.toList == b.toList with
    | true =>
      rw [h1, h2] at hc
      obtain rfl : (0 : Int) = c := hc
      go_enter Tryd.func74, Tryd.ntmps74
      go_wp2
      go_ret
      exact ⟨rfl, rfl⟩
    | false =>
      rw [h1, h2] at hc
      obtain rfl : (1 : Int) = c := hc
      go_enter Tryd.func74, Tryd.ntmps74
      go_wp2
      go_ret
      exact ⟨rfl, rfl⟩

set_option maxRecDepth 100000 in
set_option maxHeartbeats 2000000 in
theorem byName_any (a b : Obj) (w : World) :
    Calls Tryd.prog 57 #[encO a, encO b] w fun e w' => e = .returned (.int .i64 (cmpS a.name b.name)) ∧ Below w.heap.size w w' := by
  unfold encO
  go_enter Tryd.func57, Tryd.ntmps57
  go_upto_region 1 with (fail)
  refine wp_gen (fun V => BoxO V w.heap.size a ∧ BoxO V (w.heap.size + 1) b ∧ Below w.heap.size w V) (chain2 w _ _) ?_
  rintro V ⟨h1, h2, hl⟩
  have c1 := h1.c1
  have c2 := h2.c1
  have HL := Lib.hid hl
  clear h1 h2 hl
  go_wp2_with (fail)
  refine (compareS_any _ _ _).mono ?_
  rintro e W ⟨rfl, rfl⟩
  go_wp2
  go_ret
  exact ⟨rfl, HL.out⟩
theorem byName_orders : Orders 57 (fun a b => Op.bytesLess a.name.toList b.name.toList) where
  enters := enters_of (P := Tryd.prog) Tryd.func57 (by kernel_rfl) rfl
  orders a b W := ⟨_, cmpS_neg _ _, byName_any a b W⟩

def cmpI (a b : Int) : Int := if a < b then -1 else if b < a then 1 else 0
set_option maxRecDepth 100000 in
set_option maxHeartbeats 2000000 in
theorem compareI_any (a b : Int) (w : World) :
    Calls Tryd.prog 86 #[.int .i64 a, .int .i64 b] w fun e w' => e = .returned (.int .i64 (cmpI a b)) ∧ w' = w := by
  obtain ⟨c, hc⟩ : ∃ c, cmpI a b = c := ⟨_, rfl⟩
  rw [hc]
  unfold cmpI at hc
  by_cases h1 : a < b
  · rw [if_pos h1] at hc
    subst hc
    go_enter Tryd.func86, Tryd.ntmps86
    go_wp2
    go_ret
    exact ⟨rfl, rfl⟩
  · rw [if_neg h1] at hc
    by_cases h2 : b < a
    · rw [if_pos h2] at hc
      subst hc
      go_enter Tryd.func86, Tryd.ntmps86
      go_wp2
      go_ret
      exact ⟨rfl, rfl⟩
    · rw [if_neg h2] at hc
      subst hc
      go_enter Tryd.func86, Tryd.ntmps86
      go_wp2
      go_ret
      exact ⟨rfl, rfl⟩

def orN (a b : Int) : Int := if a = 0 then b else a
set_option maxRecDepth 100000 in
set_option maxHeartbeats 2000000 in
theorem or2_any (x y : Int) (g : Nat) (w : World) (h0 : w.cell? ⟨g, 0, none⟩ = some (.int .i64 x)) (h1 : w.cell? ⟨g, 1, none⟩ = some (.int .i64 y)) :
    Calls Tryd.prog 85 #[.slice (some ⟨g, 0, none⟩) 2 2] w fun e w' => e = .returned (.int .i64 (orN x y)) ∧ w' = w := by
  obtain ⟨c, hc⟩ : ∃ c, orN x y = c := ⟨_, rfl⟩
  rw [hc]
  unfold orN at hc
  by_cases hx : x = 0
  · rw [if_pos hx] at hc
    subst hc
    by_cases hy : y = 0
    · subst hx
      subst hy
      go_enter Tryd.func85, Tryd.ntmps85
      go_wp2
      go_rounds 3
      go_ret
      exact ⟨rfl, rfl⟩
    · subst hx
      go_enter Tryd.func85, Tryd.ntmps85
      go_wp2
      go_rounds 3
      go_ret
      exact ⟨rfl, rfl⟩
  · rw [if_neg hx] at hc
    subst hc
    go_enter Tryd.func85, Tryd.ntmps85
    go_wp2
    go_rounds 3
    go_ret
    exact ⟨rfl, rfl⟩
end Go.Proofs.YtfpdchabknoklaaDoor.O.B
