/- Texts, numbers and objects held against each other by one operation. -/
import Derived.Test.YtpoifngepmfgpaaDoorKAct
namespace Go.Proofs.YtpoifngepmfgpaaDoor.O.B
open Go Go.RowKit Go.Shelf Go.Lib RangeMap KM
attribute [local go_sem] Oper.semAt_some

theorem exec_eql_str {W : World} {r s : ByteArray} {v : Bool} {oi : Oper} {a : Act} {x y : Operand} {t : TypeId} (ho : oi.op = .binOp .eql 9 x y t) (hx : a.eval x = .string r) (hy : a.eval y = .string s) (hv : decide (r = s) = v) :
    (execOp a.eval oi).run Tryd.prog W = .ok (.value (.bool v)) W := by
  subst hv
  rw [← eqB]
  unfold execOp
  simp only [ho, hx, hy]
  go_simp
theorem exec_eql_u64 {W : World} {r s : Int} {v : Bool} {oi : Oper} {a : Act} {x y : Operand} {t : TypeId} (ho : oi.op = .binOp .eql 23 x y t) (hx : a.eval x = .int .u64 r) (hy : a.eval y = .int .u64 s) (hv : (r == s) = v) :
    (execOp a.eval oi).run Tryd.prog W = .ok (.value (.bool v)) W := by
  subst hv
  unfold execOp
  simp only [ho, hx, hy]
  go_simp

theorem exec_obj_eql {W : World} {A B : Obj} {oi : Oper} {a : Act} {x y : Operand} {t : TypeId} (ho : oi.op = .binOp .eql 31 x y t) (hx : a.eval x = encO A) (hy : a.eval y = encO B) :
    (execOp a.eval oi).run Tryd.prog W = .ok (.value (.bool (decide (A = B)))) W := by
  have h := eql_obj A B W
  have hg : (eqGuard .eql 31 x y (encO A) (encO B)).run Tryd.prog W = .ok () W := by kernel_rfl
  unfold execOp
  simp only [ho, hx, hy, Sem.run_bind, Result.andThen_ok, hg, h]
  rfl
theorem exec_obj_same {W : World} {A : Obj} {oi : Oper} {a : Act} {x y : Operand} {t : TypeId} (ho : oi.op = .binOp .eql 31 x y t) (hx : a.eval x = encO A) (hy : a.eval y = encO A) :
    (execOp a.eval oi).run Tryd.prog W = .ok (.value (.bool true)) W := by
  have h := exec_obj_eql (W := W) ho hx hy
  rw [show decide (A = A) = true by simp] at h
  exact h
end Go.Proofs.YtpoifngepmfgpaaDoor.O.B
