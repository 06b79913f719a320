/- What a claim, a volume, an attachment must be to be right. -/
import Derived.Test.YtacbfpgknfcimaaOBox
import Derived.Deep.Cut
import Derived.Outline
namespace Go.Proofs.Ytacbfpgknfcimaa.O
open Go.RowKit T
open Go.Lib hiding intOf

theorem txts_of {W : World} {g : Nat} {l : List ByteArray} (hne : 0 < l.length) (h : ∀ i (h : i < l.length), W.cell? ⟨g, i, none⟩ = some (.string l[i])) : Txts W g l :=
  ⟨World.block_lt_of_cell? W ⟨g, 0, none⟩ (h 0 hne), h⟩
theorem noneEmpty1 (s : ByteArray) (g : Nat) (w : World) (h0 : w.cell? ⟨g, 0, none⟩ = some (.string s)) :
    Calls Try.prog 71 #[.slice (some ⟨g, 0, none⟩) 1 1] w fun e w' => e = .returned (.bool (!emp s)) ∧ w = w' :=
  (noneEmpty_any [s] g w (by simp) (txts_of (by simp) (fun i hi => by match i, hi with | 0, _ => exact h0))).mono fun e w' ⟨h, hw⟩ => ⟨by rw [h]; simp, hw⟩
theorem noneEmpty2 (s t : ByteArray) (g : Nat) (w : World) (h0 : w.cell? ⟨g, 0, none⟩ = some (.string s)) (h1 : w.cell? ⟨g, 1, none⟩ = some (.string t)) :
    Calls Try.prog 71 #[.slice (some ⟨g, 0, none⟩) 2 2] w fun e w' => e = .returned (.bool (!emp s && !emp t)) ∧ w = w' :=
  (noneEmpty_any [s, t] g w (by simp) (txts_of (by simp) (fun i hi => by match i, hi with | 0, _ => exact h0 | 1, _ => exact h1))).mono fun e w' ⟨h, hw⟩ => ⟨by rw [h]; simp, hw⟩
theorem allEmpty1 (s : ByteArray) (g : Nat) (w : World) (h0 : w.cell? ⟨g, 0, none⟩ = some (.string s)) :
    Calls Try.prog 50 #[.slice (some ⟨g, 0, none⟩) 1 1] w fun e w' => e = .returned (.bool (emp s)) ∧ w = w' :=
  (allEmpty_any [s] g w (by simp) (txts_of (by simp) (fun i hi => by match i, hi with | 0, _ => exact h0))).mono fun e w' ⟨h, hw⟩ => ⟨by rw [h]; simp, hw⟩
theorem allEmpty3 (s t u : ByteArray) (g : Nat) (w : World) (h0 : w.cell? ⟨g, 0, none⟩ = some (.string s)) (h1 : w.cell? ⟨g, 1, none⟩ = some (.string t)) (h2 : w.cell? ⟨g, 2, none⟩ = some (.string u)) :
    Calls Try.prog 50 #[.slice (some ⟨g, 0, none⟩) 3 3] w fun e w' => e = .returned (.bool (emp s && (emp t && emp u))) ∧ w = w' :=
  (allEmpty_any [s, t, u] g w (by simp) (txts_of (by simp) (fun i hi => by match i, hi with | 0, _ => exact h0 | 1, _ => exact h1 | 2, _ => exact h2))).mono fun e w' ⟨h, hw⟩ => ⟨by rw [h]; simp, hw⟩
theorem oneOf3 (p a b c : Int) (g : Nat) (w : World) (h0 : w.cell? ⟨g, 0, none⟩ = some (.int .u8 a)) (h1 : w.cell? ⟨g, 1, none⟩ = some (.int .u8 b)) (h2 : w.cell? ⟨g, 2, none⟩ = some (.int .u8 c)) :
    Calls Try.prog 76 #[.int .u8 p, .slice (some ⟨g, 0, none⟩) 3 3] w fun e w' => e = .returned (.bool (ph3 p a b c)) ∧ w = w' :=
  (oneOf_any p [a, b, c] g w (by simp) (fun i hi => by match i, hi with | 0, _ => exact h0 | 1, _ => exact h1 | 2, _ => exact h2)).mono fun e w' ⟨h, hw⟩ => ⟨by rw [h]; simp [ph3], hw⟩
theorem oneOf4 (p a b c d : Int) (g : Nat) (w : World) (h0 : w.cell? ⟨g, 0, none⟩ = some (.int .u8 a)) (h1 : w.cell? ⟨g, 1, none⟩ = some (.int .u8 b)) (h2 : w.cell? ⟨g, 2, none⟩ = some (.int .u8 c)) (h3 : w.cell? ⟨g, 3, none⟩ = some (.int .u8 d)) :
    Calls Try.prog 76 #[.int .u8 p, .slice (some ⟨g, 0, none⟩) 4 4] w fun e w' => e = .returned (.bool (ph4 p a b c d)) ∧ w = w' :=
  (oneOf_any p [a, b, c, d] g w (by simp) (fun i hi => by match i, hi with | 0, _ => exact h0 | 1, _ => exact h1 | 2, _ => exact h2 | 3, _ => exact h3)).mono fun e w' ⟨h, hw⟩ => ⟨by rw [h]; simp [ph4], hw⟩

theorem noneEmpty1v (s : ByteArray) (v : Bool) (hv : emp s = v) (g : Nat) (w : World) (h0 : w.cell? ⟨g, 0, none⟩ = some (.string s)) :
    Calls Try.prog 71 #[.slice (some ⟨g, 0, none⟩) 1 1] w fun e w' => e = .returned (.bool (!v)) ∧ w = w' := hv ▸ noneEmpty1 s g w h0
theorem noneEmpty2v (s t : ByteArray) (v : Bool) (hv : (!emp s && !emp t) = v) (g : Nat) (w : World) (h0 : w.cell? ⟨g, 0, none⟩ = some (.string s)) (h1 : w.cell? ⟨g, 1, none⟩ = some (.string t)) :
    Calls Try.prog 71 #[.slice (some ⟨g, 0, none⟩) 2 2] w fun e w' => e = .returned (.bool v) ∧ w = w' := hv ▸ noneEmpty2 s t g w h0 h1
theorem neB (n : Int) : (n != 0) = decide (n ≠ 0) := by rw [Bool.eq_iff_iff]; simp

/-- The whole object, loaded. -/
theorem load_obj {W : World} {b : Nat} {o : Obj} (h : BoxO W b o) {oi : Oper} {a : Act} {x : Operand} (ho : oi.op = .load 27 x) (hx : a.eval x = .pointer (some ⟨b, 0, none⟩)) :
    (execOp a.eval oi).run Try.prog W = .ok (.value (encO o)) W := by
  unfold execOp
  simp only [ho, hx, Instr.loadAt, Instr.sureAddr, Sem.run_bind, Sem.run_pure, Result.andThen_ok, run_loadVar_row W b 27 27 (cellsO o) (0, 0) _ h undObj rfl sizeObj]
  rfl
end Go.Proofs.Ytacbfpgknfcimaa.O
