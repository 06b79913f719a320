/- What a driver's call begins with: nothing; what a call made; how many a map has. -/
import Derived.Test.YtbgfccanbgpjiaaINew
import Derived.Test.YtbgfccanbgpjiaaHeldChain
namespace Go.Proofs.Ytbgfccanbgpjiaa.O.I
open Go Go.RowKit Go.Lib KM
attribute [local go_sem] Oper.semAt_some

theorem results_ct {P : Program} {fn : Func} {p q : Tmp} {tp : TypeId} {tmps : Array Value} {w : World} {g : Nat} {x y : Value} (hr : fn.results = #[.cell p tp, .tmp q]) (hp : tmps.getD p undef = .pointer (some ⟨g, 0, none⟩)) (hq : tmps.getD q undef = y)
    (h1 : (loadVar tp ⟨g, 0, none⟩).run P w = .ok x w) : (results fn tmps).run P w = .ok (.tuple #[x, y]) w := by
  have hp' : tmps[p]?.getD undef = .pointer (some ⟨g, 0, none⟩) := by simpa using hp
  have hq' : tmps[q]?.getD undef = y := by simpa using hq
  simp [results, hr, hp', hq', asAddr, h1]
theorem loadVarK {W : World} {b : Nat} {x : Ct} (h : BoxK W b x) : (loadVar 92 ⟨b, 0, none⟩).run Try.prog W = .ok (encK x) W := run_loadVar_row W b 92 92 (cellsK x) (0, 0) _ h undK rfl sizeK
theorem built_k0 : Try.prog.built 92 [] = some (cellsK zeroK) := by kernel_rfl
theorem built_k (n t : Int) : Try.prog.built 92 [(0, .int .i64 n), (1, .int .u64 t)] = some (cellsK ⟨n, t⟩) := by kernel_rfl
theorem built_v (n t : Int) (z : ByteArray) (m : Option Nat) : Try.prog.built 95 [(0, encK ⟨n, t⟩), (1, .string z), (2, .map m)] = some (cellsV ⟨n, t, z, m⟩) := by kernel_rfl
theorem built_made (n t : Int) (z : ByteArray) : Try.prog.built 50 [(1, .int .i64 n), (2, .string z), (3, .int .u64 t)] = some (cellsR ⟨0, n, z, t⟩) := by kernel_rfl
theorem makes_v {oi : Oper} (ho : oi.op = .alloc 95) : HeldBy.Makes Try.prog oi (.cells (cellsV zeroV) 95 (0, 0)) := by
  intro a w
  unfold execOp
  simp only [ho]
  kernel_rfl
theorem makes_p {oi : Oper} (ho : oi.op = .alloc 109) : HeldBy.Makes Try.prog oi (.cells (cellsP zeroP) 109 (0, 0)) := by
  intro a w
  unfold execOp
  simp only [ho]
  kernel_rfl
theorem exec_maplen {κ : Type} [DecidableEq κ] {enc : κ → Value} {W : World} {b : Nat} {m : List (κ × Value)} (h : IsMap enc W b m) {oi : Oper} {a : Act} {t kt e : TypeId} {p : Operand} (ht : Try.prog.underlying t = some (.map kt e)) (ho : oi.op = .call { callee := .builtin .len, args := #[p], argTypes := #[t] }) (hp : a.eval p = .map (some b)) :
    (execOp a.eval oi).run Try.prog W = .ok (.value (.int .i64 m.length)) W := by
  obtain ⟨es, clock, hb, hh⟩ := h
  have hl : es.size = m.length := by rw [← hh.length]; simp
  unfold execOp
  simp [ho, hp, resolve, invoke, builtin, Builtin.len_, run_underlying ht, MapKept.run_getObj_map hb, Result.andThen, goInt, hl]
set_option maxRecDepth 100000 in
set_option maxHeartbeats 2000000 in
theorem source_none (d : Value) (w : World) : Calls Try.prog 86 #[d, .string E0] w fun e w' => e = .returned (.tuple #[encK zeroK, .bool true]) ∧ Below w.heap.size w w' := by
  obtain ⟨V, hs, hv, hl⟩ := boxK w zeroK rfl zeroK
  have HV := Lib.hid hv
  have HW := Lib.hid hl
  clear hv hl
  have e1 : E0.toList = [] := (emp_iff _).2 rfl
  have e2 : (E0.toList == []) = true := by simp [e1]
  have e3 : E0.toList.isEmpty = true := by simp [e1]
  go_enter Try.func86, Try.ntmps86
  go_wp2_with (first | ((with_reducible refine wpList_build_to rfl 92 _ rfl (cellsK zeroK) ?_ ?_); exact built_k0) | (refine wpList_skip rfl (hs rfl rfl rfl) ?_))
  refine bodyPost_ret (v := .tuple #[encK zeroK, .bool true]) (results_ct rfl rfl rfl (loadVarK HV.out)) rfl ?_
  exact ⟨rfl, HW.out⟩
set_option maxRecDepth 100000 in
set_option maxHeartbeats 2000000 in
theorem made_any (x : Vl) (w : World) : Calls Try.prog 85 #[encV x] w fun e w' => e = .returned (encR ⟨0, x.size, x.zone, x.tag⟩) ∧ Below w.heap.size w w' := by
  rw [show encV x = .agg (cellsV x) from rfl]
  go_enter Try.func85, Try.ntmps85
  go_upto_region 1 with (fail)
  refine wp_gen (fun V => BoxV V w.heap.size x ∧ BoxR V (w.heap.size + 1) zeroR ∧ Below w.heap.size w V) ⟨(heap2 w _ _).1, (heap2 w _ _).2, below2 w _ _⟩ ?_
  rintro V ⟨hx, hr, hlw⟩
  have c0 := hx.c0
  have c1 := hx.c1
  have c2 := hx.c2
  obtain ⟨V3, hs3, hb3, -, hl3⟩ := stoR hr ⟨0, x.size, x.zone, x.tag⟩
  have HV := Lib.hid hb3
  have HW := Lib.hid (hl3 w.heap.size w hlw (Nat.le_succ _))
  clear hx hr hlw hb3 hl3
  go_wp2_with (first | ((with_reducible refine wpList_build_to rfl 50 _ rfl (cellsR ⟨0, x.size, x.zone, x.tag⟩) ?_ ?_); exact built_made _ _ _) | (refine wpList_skip rfl (hs3 rfl rfl rfl) ?_))
  refine bodyPost_ret (v := encR ⟨0, x.size, x.zone, x.tag⟩) (results_cell_row rfl _ _ (w.heap.size + 1) 50 (cellsR ⟨0, x.size, x.zone, x.tag⟩) (0, 0) _ rfl HV.out undR rfl sizeR) rfl ?_
  exact ⟨rfl, HW.out⟩
end Go.Proofs.Ytbgfccanbgpjiaa.O.I
