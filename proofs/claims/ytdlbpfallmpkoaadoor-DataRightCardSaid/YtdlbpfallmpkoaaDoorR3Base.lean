/- The document's own Right: what its walks share. Laid by mkref.py. -/
import Derived.Deep.DeepCutAuto
import Derived.Deep.RegionHeld3
import Derived.Test.YtdlbpfallmpkoaaDoorR3Bare
namespace Go.Proofs.YtdlbpfallmpkoaaDoor.O
open Go.RowKit T
open Go.Lib

theorem neq_objs {oi : Oper} {a : Act} {x y : Operand} {p q : Obj} {v : Bool} {W : World} (ho : oi.op = .binOp .neq 28 x y 28) (hx : a.eval x = encO p) (hy : a.eval y = encO q) (hv : decide (p = q) = v) :
    (execOp a.eval oi).run Tryd.prog W = .ok (.value (.bool !v)) W := by
  have hq : (eqGuard .neq 28 x y (encO p) (encO q)).run Tryd.prog W = .ok () W := run_eqGuard_agg W .neq 28 x y (cellsO p) (cellsO q) (by kernel_rfl)
  unfold execOp
  simp only [ho, hx, hy, Sem.run_bind, hq, Result.andThen_ok, neq_obj, hv, Sem.run_pure]
/-- The texts of an object lie in memory. -/
structure Fit (o : Obj) : Prop where
  name : o.name.size ≤ 9223372036854775807
  cls : o.cls.size ≤ 9223372036854775807
  zone : o.zone.size ≤ 9223372036854775807
  node : o.node.size ≤ 9223372036854775807
  claim : o.claim.size ≤ 9223372036854775807
  volume : o.volume.size ≤ 9223372036854775807
  source : o.source.size ≤ 9223372036854775807
theorem claimB_eq (o : Obj) : claimB o = (!emp o.cls && ((o.size != 0) && (modeB o.mode && (ph3 o.phase 1 2 3 && ((!emp o.volume) == decide (o.phase = 3)))))) := by unfold claimB; rw [neB]
theorem volumeB_eq (o : Obj) : volumeB o = ((!emp o.cls && !emp o.zone) && ((o.size != 0) && ((o.got != 0) && (modeB o.mode && (ph4 o.phase 4 3 5 6 && (!emp o.claim || ((o.phase != 3) && (o.phase != 5)))))))) := by
  unfold volumeB
  rw [neB, neB]
  have : (!(decide (o.phase = 3) || decide (o.phase = 5))) = ((o.phase != 3) && (o.phase != 5)) := by rw [Bool.eq_iff_iff]; simp
  rw [this]
theorem empI (s : ByteArray) : emp s = s.toList.isEmpty := by unfold emp; rw [Lib.toList_data, Bool.eq_iff_iff]; simp
theorem inR_eq (n : Int) : inR n = (!decide (n < 0) && !decide (1125899906842624 < n)) := by rw [Bool.eq_iff_iff]; simp [inR]
theorem okT_le {s : ByteArray} (h : okT s = true) : s.size ≤ 40 := by
  unfold okT at h
  rw [Bool.or_eq_true] at h
  rcases h with h | h
  · have := of_decide_eq_true h
    have e : s.data.toList.length = s.size := size_list s
    rw [this] at e; simp at e; omega
  · exact (nameB_le h).2
theorem texts_le {o : Obj} (h : textsB o = true) : o.volume.size ≤ 140737488351232 ∧ o.node.size ≤ 140737488351232 := by
  unfold textsB at h
  simp only [Bool.and_eq_true] at h
  have h1 := okT_le h.2.2.2.2.1
  have h2 := okT_le h.2.2.1
  omega
end Go.Proofs.YtdlbpfallmpkoaaDoor.O
