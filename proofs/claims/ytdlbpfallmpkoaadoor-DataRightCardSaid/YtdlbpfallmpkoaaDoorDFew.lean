/- At most so many objects; two objects held against each other. -/
import Derived.Test.YtdlbpfallmpkoaaDoorDLive
import Derived.Test.YtdlbpfallmpkoaaDoorKActEq
import Derived.Test.YtdlbpfallmpkoaaDoorKRefG
namespace Go.Proofs.YtdlbpfallmpkoaaDoor.O.B
open Go Go.RowKit Go.Shelf Go.Lib RangeMap KM
attribute [local go_sem] Oper.semAt_some

theorem ObjsIn.take {W : World} {g off n c : Nat} {l : List Obj} (h : ObjsIn W (.slice (some ⟨g, off, none⟩) n c) l) (k : Nat) (hk : k ≤ l.length) : ObjsIn W (.slice (some ⟨g, off, none⟩) k c) (l.take k) := by
  obtain ⟨o, c', he, hm, hi⟩ := h
  cases he
  have hl : (l.take k).length = k := by rw [List.length_take]; omega
  refine ⟨some ⟨g, off, none⟩, c, by rw [hl], by rw [hl]; omega, fun i h => ?_⟩
  rw [hl] at h
  obtain ⟨g', off', e, hlt, hr⟩ := hi i (by omega)
  refine ⟨g', off', e, hlt, ?_⟩
  rw [List.getElem_take]
  exact hr
set_option maxRecDepth 100000 in
set_option maxHeartbeats 2000000 in
theorem few_any (l : List Obj) (v : Value) (w : World) (hl : ObjsIn w v l) (hc : ∀ o n c, v = .slice o n c → n ≤ c) :
    Calls Tryd.prog 17 #[v] w fun e w' => ∃ v', e = .returned v' ∧ ObjsIn w v' (l.take 24) ∧ w' = w := by
  obtain ⟨o, cp, rfl, hm, hi⟩ := id hl
  have hcp := hc _ _ _ rfl
  by_cases h : 24 < l.length
  · obtain ⟨g, off, rfl, -, -⟩ := hi 0 (by omega)
    have HL := Lib.hid (hl.take 24 (by omega))
    have h' : (24 : Int) < (l.length : Int) := by omega
    have h2 : (24 : Int) ≤ (cp : Int) := by omega
    have h3 : 24 ≤ cp := by omega
    clear hl hi hc
    go_enter Tryd.func17, Tryd.ntmps17
    go_wp2
    go_ret
    exact ⟨_, rfl, HL.out, rfl⟩
  · have HL := Lib.hid hl
    have ht : l.take 24 = l := List.take_of_length_le (by omega)
    have HT := Lib.hid ht
    have h' : ¬ (24 : Int) < (l.length : Int) := by omega
    clear hl hi hc ht
    go_enter Tryd.func17, Tryd.ntmps17
    go_wp2
    go_ret
    exact ⟨_, rfl, by rw [HT.out]; exact HL.out, rfl⟩
theorem exec_eql_obj {W : World} {A B : Obj} {oi : Oper} {a : Act} {x y : Operand} {t : TypeId} (ho : oi.op = .binOp .eql 28 x y t) (hx : a.eval x = encO A) (hy : a.eval y = encO B) :
    (execOp a.eval oi).run Tryd.prog W = .ok (.value (.bool (decide (A = B)))) W := by
  have h := eql_obj A B W
  have hg : (eqGuard .eql 28 x y (encO A) (encO B)).run Tryd.prog W = .ok () W := by kernel_rfl
  unfold execOp
  simp only [ho, hx, hy, Sem.run_bind, Result.andThen_ok, hg, h]
  rfl
theorem exec_eqo_same {W : World} {A : Obj} {oi : Oper} {a : Act} {x y : Operand} {t : TypeId} (ho : oi.op = .binOp .eql 28 x y t) (hx : a.eval x = encO A) (hy : a.eval y = encO A) :
    (execOp a.eval oi).run Tryd.prog W = .ok (.value (.bool true)) W := by
  have h := exec_eql_obj (W := W) ho hx hy
  rw [show decide (A = A) = true by simp] at h
  exact h
theorem get_some {l : List Obj} {k : Int} {n : ByteArray} {o : Obj} (h : getL l k n = some o) : o.kind = k ∧ o.name = n := by
  have := List.find?_some h
  simp only [Bool.and_eq_true, decide_eq_true_eq] at this
  exact this
end Go.Proofs.YtdlbpfallmpkoaaDoor.O.B
