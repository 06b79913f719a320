/- A cache that is nil. -/
import Derived.Test.YtpojpkaeneamjaaVLive
namespace Go.Proofs.Ytpojpkaeneamjaa.O.V
open Go Go.RowKit Go.Lib KM
attribute [local go_sem] Oper.semAt_some

theorem take_nil (a : Option Addr) (n c : Nat) (w : World) : Calls Try.prog 6 #[.pointer none, .slice a n c] w fun e w' => e = .returned (.tuple #[.slice none 0 0, .int .i64 1]) ∧ Below w.heap.size w w' := by
  go_enter Try.func6, Try.ntmps6
  go_wp2
  go_ret2
  exact ⟨rfl, Below.refl _ _⟩
theorem reset_nil (a : Option Addr) (n c : Nat) (v : Int) (w : World) : Calls Try.prog 7 #[.pointer none, .slice a n c, .int .u64 v] w fun e w' => e = .returned (.tuple #[.slice none 0 0, .int .i64 1]) ∧ Below w.heap.size w w' := by
  go_enter Try.func7, Try.ntmps7
  go_wp2
  go_ret2
  exact ⟨rfl, Below.refl _ _⟩
theorem all_nil (w : World) : Calls Try.prog 10 #[.pointer none] w fun e w' => e = .returned (.slice none 0 0) ∧ Below w.heap.size w w' := by
  go_enter Try.func10, Try.ntmps10
  go_wp2
  go_ret
  exact ⟨rfl, Below.refl _ _⟩
theorem version_nil (w : World) : Calls Try.prog 11 #[.pointer none] w fun e w' => e = .returned (.int .u64 0) ∧ Below w.heap.size w w' := by
  go_enter Try.func11, Try.ntmps11
  go_wp2
  go_ret
  exact ⟨rfl, Below.refl _ _⟩
theorem fork_nil (w : World) : Calls Try.prog 12 #[.pointer none] w fun e w' => e = .returned (.pointer none) ∧ Below w.heap.size w w' := by
  go_enter Try.func12, Try.ntmps12
  go_wp2
  go_ret
  exact ⟨rfl, Below.refl _ _⟩
theorem storing {W : World} {b : Nat} {p : Obj} (h : BoxO W b p) (x : Obj) : ∃ V, (∀ {oi : Oper} {a : Act} {r q : Operand}, oi.op = .store 39 r q → a.eval r = .pointer (some ⟨b, 0, none⟩) → a.eval q = encO x → (execOp a.eval oi).run Try.prog W = .ok .skip V) ∧
    BoxO V b x ∧ (∀ B A, Below B A W → B ≤ b → Below B A V) := by
  refine ⟨W.setRow b (cellsO x), fun {oi a r q} ho hp hq => ?_, h.setRow x, fun _ _ h1 h2 => below_setRow h1 h2 _⟩
  have h1 := run_storeVar_row (P := Try.prog) W b 39 39 (cellsO p) (cellsO x) h sizeObj (sz_cells p x) (one_cells x)
  unfold execOp
  have hq' : a.eval q = .agg (cellsO x) := hq
  simp [ho, hp, hq', Instr.storeAt, Instr.sureAddr, h1, Result.andThen]
theorem built_o0 : Try.prog.built 39 [] = some (cellsO O0) := by kernel_rfl
theorem loadVar_obj {W : World} {b : Nat} {o : Obj} (h : BoxO W b o) : (loadVar 39 ⟨b, 0, none⟩).run Try.prog W = .ok (encO o) W := run_loadVar_row W b 39 39 (cellsO o) (0, 0) _ h undObj rfl sizeObj
theorem results_ct {P : Program} {fn : Func} {p q : Tmp} {ty : TypeId} {tmps : Array Value} {w : World} {g : Nat} {x y : Value} (h : fn.results = #[.cell p ty, .tmp q]) (hp : tmps.getD p undef = .pointer (some ⟨g, 0, none⟩)) (hq : tmps.getD q undef = y)
    (h1 : (loadVar ty ⟨g, 0, none⟩).run P w = .ok x w) : (results fn tmps).run P w = .ok (.tuple #[x, y]) w := by
  have hp' : tmps[p]?.getD undef = .pointer (some ⟨g, 0, none⟩) := by simpa using hp
  have hq' : tmps[q]?.getD undef = y := by simpa using hq
  simp [results, h, hp', hq', asAddr, h1]
set_option maxRecDepth 100000 in
set_option maxHeartbeats 2000000 in
theorem get_nil (k : Ky) (w : World) : Calls Try.prog 8 #[.pointer none, encK k] w fun e w' => e = .returned (.tuple #[encO O0, .bool false]) ∧ Below w.heap.size w w' := by
  rw [show encK k = .agg (cellsK k) from rfl]
  go_enter Try.func8, Try.ntmps8
  go_upto_region 1 with (fail)
  refine wp_gen (fun V => BoxO V (w.heap.size + 1) O0 ∧ Below w.heap.size w V) ⟨heap_alloc2_new w _ _, ((Below.refl _ _).alloc (Nat.le_refl _) _).alloc (by simp) _⟩ ?_
  rintro V ⟨ho, hlw⟩
  obtain ⟨V2, hs, h2, hb⟩ := storing ho O0
  have HO := Lib.hid h2
  have HX := Lib.hid (hb _ _ hlw (by omega))
  clear ho hlw h2 hb
  go_wp2_with (first | ((with_reducible refine wpList_build_to rfl 39 _ rfl (cellsO O0) ?_ ?_); exact built_o0) | (refine wpList_skip rfl (hs rfl rfl rfl) ?_))
  refine bodyPost_ret (v := .tuple #[encO O0, .bool false]) (results_ct rfl rfl rfl (loadVar_obj HO.out)) rfl ?_
  exact ⟨rfl, HX.out⟩
end Go.Proofs.Ytpojpkaeneamjaa.O.V
