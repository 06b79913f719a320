/- A nil driver answers so. -/
import Derived.Test.YtpojpkaeneamjaaILive
namespace Go.Proofs.Ytpojpkaeneamjaa.O.I
open Go Go.RowKit Go.Lib KM
attribute [local go_sem] Oper.semAt_some

set_option maxRecDepth 100000 in
set_option maxHeartbeats 2000000 in
theorem do_nil (c : Cl) (w : World) : Calls Try.prog 15 #[.pointer none, encC c] w fun e w' => e = .returned (encR (errR 1)) ∧ Below w.heap.size w w' := by
  rw [show encC c = .agg (cellsC c) from rfl]
  go_enter Try.func15, Try.ntmps15
  go_upto_region 1 with (fail)
  refine wp_gen (fun V => BoxR V (w.heap.size + 1) zeroR ∧ Below w.heap.size w V) ⟨(heap2 w _ _).2, below2 w _ _⟩ ?_
  rintro V1 ⟨hr1, hw1⟩
  have HR := Lib.hid hr1
  have HW := Lib.hid hw1
  clear hr1 hw1
  go_wp2_with (fail)
  refine (failed_any 1 _).mono ?_
  rintro e W2 ⟨rfl, hb⟩
  obtain ⟨V3, hs3, hb3, -, hl3⟩ := stoR (HR.out.after hb) (errR 1)
  have HV := Lib.hid hb3
  have HX := Lib.hid (hl3 _ _ (HW.out.trans (hb.mono HW.out.size)) (Nat.le_succ _))
  clear hb hb3 hl3 HR HW
  go_wp2_with (refine wpList_skip rfl (hs3 rfl rfl rfl) ?_)
  refine bodyPost_ret (v := encR (errR 1)) (results_cell_row rfl _ _ (w.heap.size + 1) 56 (cellsR (errR 1)) (0, 0) _ rfl HV.out undR rfl sizeR) rfl ?_
  exact ⟨rfl, HX.out⟩
theorem put_nil (a b : ByteArray) (n : Int) (w : World) : Calls Try.prog 16 #[.pointer none, .string a, .string b, .int .u64 n] w fun e w' => e = .returned (.int .i64 1) ∧ Below w.heap.size w w' := by
  go_enter Try.func16, Try.ntmps16
  go_wp2
  go_ret
  exact ⟨rfl, Below.refl _ _⟩
theorem volumes_nil (w : World) : Calls Try.prog 17 #[.pointer none] w fun e w' => e = .returned (.slice none 0 0) ∧ Below w.heap.size w w' := by
  go_enter Try.func17, Try.ntmps17
  go_wp2
  go_ret
  exact ⟨rfl, Below.refl _ _⟩
theorem snaps_nil (w : World) : Calls Try.prog 18 #[.pointer none] w fun e w' => e = .returned (.slice none 0 0) ∧ Below w.heap.size w w' := by
  go_enter Try.func18, Try.ntmps18
  go_wp2
  go_ret
  exact ⟨rfl, Below.refl _ _⟩
theorem room_nil (a : ByteArray) (w : World) : Calls Try.prog 13 #[.pointer none, .string a] w fun e w' => e = .returned (.tuple #[.int .i64 0, .bool false]) ∧ Below w.heap.size w w' := by
  go_enter Try.func13, Try.ntmps13
  go_wp2
  go_ret2
  exact ⟨rfl, Below.refl _ _⟩
theorem seen_nil (v : Int) (a : ByteArray) (w : World) : Calls Try.prog 19 #[.pointer none, .int .u8 v, .string a] w fun e w' => e = .returned (.int .u64 0) ∧ Below w.heap.size w w' := by
  go_enter Try.func19, Try.ntmps19
  go_wp2
  go_ret
  exact ⟨rfl, Below.refl _ _⟩
theorem fork_nil (w : World) : Calls Try.prog 20 #[.pointer none] w fun e w' => e = .returned (.pointer none) ∧ Below w.heap.size w w' := by
  go_enter Try.func20, Try.ntmps20
  go_wp2
  go_ret
  exact ⟨rfl, Below.refl _ _⟩
/-- A deed. -/
structure Dd where
  c : Cl
  tag : Int
def cellsX (x : Dd) : Array Value := #[.int .u8 x.c.verb, .string x.c.target, .int .u64 x.c.num, .int .i64 x.c.size, .string x.c.zone, .string x.c.node, .string x.c.source, .int .u64 x.tag]
def encX (x : Dd) : Value := .agg (cellsX x)
def BoxX (W : World) (b : Nat) (x : Dd) : Prop := W.heap[b]? = some (.cells (cellsX x) 51 (0, 0))
theorem undX : Try.prog.underlying 51 = some (.struct (Try.prog.fieldsOf 51)) := by kernel_rfl
theorem sizeX : (Try.prog.info? 51).map (·.size) = some 8 := by kernel_rfl
theorem one_cellsX (x : Dd) : (cellsX x).all (·.oneCell') = true := by simp [cellsX, Value.oneCell']
section
variable {W W' : World} {b : Nat} {x : Dd}
theorem BoxX.lt (h : BoxX W b x) : b < W.heap.size := (Array.getElem?_eq_some_iff.1 h).1
theorem BoxX.after (h : BoxX W b x) (hb : Below W.heap.size W W') : BoxX W' b x := (hb.block b h.lt).trans h
theorem BoxX.c0 (h : BoxX W b x) : W.cell? ⟨b, 0, none⟩ = some (.int .u8 x.c.verb) := (cell_of_row W b 0 _ _ _ h).trans rfl
theorem BoxX.c1 (h : BoxX W b x) : W.cell? ⟨b, 1, none⟩ = some (.string x.c.target) := (cell_of_row W b 1 _ _ _ h).trans rfl
theorem BoxX.c2 (h : BoxX W b x) : W.cell? ⟨b, 2, none⟩ = some (.int .u64 x.c.num) := (cell_of_row W b 2 _ _ _ h).trans rfl
theorem BoxX.c3 (h : BoxX W b x) : W.cell? ⟨b, 3, none⟩ = some (.int .i64 x.c.size) := (cell_of_row W b 3 _ _ _ h).trans rfl
theorem BoxX.c4 (h : BoxX W b x) : W.cell? ⟨b, 4, none⟩ = some (.string x.c.zone) := (cell_of_row W b 4 _ _ _ h).trans rfl
theorem BoxX.c5 (h : BoxX W b x) : W.cell? ⟨b, 5, none⟩ = some (.string x.c.node) := (cell_of_row W b 5 _ _ _ h).trans rfl
theorem BoxX.c6 (h : BoxX W b x) : W.cell? ⟨b, 6, none⟩ = some (.string x.c.source) := (cell_of_row W b 6 _ _ _ h).trans rfl
theorem BoxX.c7 (h : BoxX W b x) : W.cell? ⟨b, 7, none⟩ = some (.int .u64 x.tag) := (cell_of_row W b 7 _ _ _ h).trans rfl
theorem BoxX.free (h : BoxX W b x) (i : Nat) : W.frozen? ⟨b, i, none⟩ = false := frozen_of_row W b i _ _ h
theorem loadX (h : BoxX W b x) {oi : Oper} {a : Act} {p : Operand} (ho : oi.op = .load 51 p) (hx : a.eval p = .pointer (some ⟨b, 0, none⟩)) : (execOp a.eval oi).run Try.prog W = .ok (.value (encX x)) W := by
  unfold execOp
  simp only [ho, hx, Instr.loadAt, Instr.sureAddr, Sem.run_bind, Sem.run_pure, Result.andThen_ok, run_loadVar_row W b 51 51 (cellsX x) (0, 0) _ h undX rfl sizeX]
  rfl
end
/-- A store of a whole: the world behind it by a name. -/
theorem stoX {W : World} {b : Nat} {p : Dd} (h0 : BoxX W b p) (x : Dd) : ∃ V, (∀ {oi : Oper} {a : Act} {p q : Operand}, oi.op = .store 51 p q → a.eval p = .pointer (some ⟨b, 0, none⟩) → a.eval q = encX x → (execOp a.eval oi).run Try.prog W = .ok .skip V) ∧
    BoxX V b x ∧ (∀ g, g ≠ b → V.heap[g]? = W.heap[g]?) ∧ (∀ B A, Below B A W → B ≤ b → Below B A V) := by
  refine ⟨W.setRow b (cellsX x), fun {oi a p q} ho hp hq => ?_, setRow_heap _ _ _ _ _ _ h0, fun g hg => setRow_other W b g _ hg, fun _ _ h1 h2 => below_setRow h1 h2 _⟩
  have h1 := run_storeVar_row (P := Try.prog) W b 51 51 _ (cellsX x) h0 sizeX rfl (one_cellsX x)
  unfold execOp
  have hq' : a.eval q = .agg (cellsX x) := hq
  simp [ho, hp, hq', Instr.storeAt, Instr.sureAddr, h1, Result.andThen]
theorem boxX (W : World) {z : Array Value} (y : Dd) (hz : z = cellsX y) (x : Dd) : ∃ V, (∀ {oi : Oper} {a : Act} {p q : Operand}, oi.op = .store 51 p q → a.eval p = .pointer (some ⟨W.heap.size, 0, none⟩) → a.eval q = encX x → (execOp a.eval oi).run Try.prog (W.alloc (.cells z 51 (0, 0))) = .ok .skip V) ∧
    BoxX V W.heap.size x ∧ Below W.heap.size W V := by
  subst hz
  obtain ⟨V, h1, h2, -, h3⟩ := stoX (show BoxX (W.alloc (.cells (cellsX y) 51 (0, 0))) W.heap.size y from heap_alloc_new W _) x
  exact ⟨V, h1, h2, h3 _ _ ((Below.refl _ _).alloc (Nat.le_refl _) _) (Nat.le_refl _)⟩
theorem BoxX.callAt {W : World} {b : Nat} {x : Dd} (h : BoxX W b x) : W.rangeAt b 0 (cellsC x.c).toList := by
  have he : ((cellsX x).extract 0 (0 + 7)).toList = (cellsC x.c).toList := by kernel_rfl
  rw [← he]
  exact World.rangeAt_of_block h 0 7
theorem loadX_call {W : World} {b : Nat} {x : Dd} (h : BoxX W b x) {oi : Oper} {a : Act} {p : Operand} (ho : oi.op = .load 49 p) (hx : a.eval p = .pointer (some ⟨b, 0, none⟩)) :
    (execOp a.eval oi).run Try.prog W = .ok (.value (encC x.c)) W := by
  have h1 := run_loadAt_mid (P := Try.prog) W b 0 49 (cellsC x.c).toList _ h.callAt undC rfl sizeC
  unfold execOp
  simp only [ho, hx, Sem.run_bind, h1, Result.andThen_ok, Sem.run_pure]
  rfl
set_option maxRecDepth 100000 in
set_option maxHeartbeats 8000000 in
theorem driverNone_any (x : Dd) (w : World) : Calls Try.prog 4 #[encX x] w fun e w' => e = .returned (.bool true) ∧ Below w.heap.size w w' := by
  rw [show encX x = .agg (cellsX x) from rfl]
  go_enter Try.func4, Try.ntmps4
  go_upto_region 2 with (fail)
  refine wp_gen (fun V => BoxX V w.heap.size x ∧ Below w.heap.size w V) ⟨heap_alloc_new _ _, (Below.refl _ _).alloc (Nat.le_refl _) _⟩ ?_
  rintro V ⟨hd, hlw⟩
  have HD := Lib.hid hd
  have HW := Lib.hid hlw
  have c4 := hd.c4
  clear hd hlw
  go_wp2_with (fail)
  clear c4
  refine (room_nil _ _).mono ?_
  rintro e W1 ⟨rfl, hb⟩
  replace HD := Lib.hid (HD.out.after hb)
  replace HW := Lib.hid (HW.out.trans (hb.mono HW.out.size))
  clear hb
  go_wp2_with (fail)
  refine (live_any _).mono ?_
  rintro e W2 ⟨rfl, hb⟩
  have hdd := HD.out.after hb
  replace HD := Lib.hid (HD.out.after hb)
  replace HW := Lib.hid (HW.out.trans (hb.mono HW.out.size))
  clear hb
  go_wp2_with (refine wpList_got rfl (loadX_call hdd rfl rfl) ?_)
  clear hdd
  refine (do_nil _ _).mono ?_
  rintro e W3 ⟨rfl, hb⟩
  replace HD := Lib.hid (HD.out.after hb)
  replace HW := Lib.hid (HW.out.trans (hb.mono HW.out.size))
  clear hb
  have c1 := HD.out.c1
  have c5 := HD.out.c5
  have c7 := HD.out.c7
  go_wp2_with (first | ((with_reducible refine wpList_build_to rfl 56 _ rfl (cellsR (errR 1)) ?_ ?_); exact built_err 1) | (refine wpList_got rfl (exec_eqR (v := true) rfl rfl rfl (decide_eq_true rfl)) ?_))
  clear c1 c5 c7
  refine (put_nil _ _ _ _).mono ?_
  rintro e W4 ⟨rfl, hb⟩
  replace HD := Lib.hid (HD.out.after hb)
  replace HW := Lib.hid (HW.out.trans (hb.mono HW.out.size))
  clear hb
  go_wp2_with (fail)
  refine (volumes_nil _).mono ?_
  rintro e W5 ⟨rfl, hb⟩
  replace HD := Lib.hid (HD.out.after hb)
  replace HW := Lib.hid (HW.out.trans (hb.mono HW.out.size))
  clear hb
  go_wp2_with (fail)
  refine (snaps_nil _).mono ?_
  rintro e W6 ⟨rfl, hb⟩
  have hd6 := HD.out.after hb
  have c0 := hd6.c0
  have c1 := hd6.c1
  replace HW := Lib.hid (HW.out.trans (hb.mono HW.out.size))
  clear hb hd6 HD
  go_wp2_with (fail)
  clear c0 c1
  refine (seen_nil _ _ _).mono ?_
  rintro e W7 ⟨rfl, hb⟩
  replace HW := Lib.hid (HW.out.trans (hb.mono HW.out.size))
  clear hb
  go_wp2_with (fail)
  refine (fork_nil _).mono ?_
  rintro e W8 ⟨rfl, hb⟩
  replace HW := Lib.hid (HW.out.trans (hb.mono HW.out.size))
  clear hb
  go_wp2
  go_ret
  exact ⟨rfl, HW.out⟩
end Go.Proofs.Ytpojpkaeneamjaa.O.I
