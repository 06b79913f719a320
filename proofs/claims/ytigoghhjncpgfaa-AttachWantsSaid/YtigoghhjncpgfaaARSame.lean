/- The document's own questions, are some objects the same, are some texts: of the same ones, yes. -/
import Derived.Test.YtigoghhjncpgfaaALive
import Derived.Test.YtigoghhjncpgfaaARAtts
import Derived.Test.YtigoghhjncpgfaaKActEq
namespace Go.Proofs.Ytigoghhjncpgfaa.O.B
open Go Go.RowKit Go.Shelf Go.Lib RangeMap KM
attribute [local go_sem] Oper.semAt_some

theorem neq_same {oi : Oper} {a : Act} {x y : Operand} {p : Obj} {W : World} (ho : oi.op = .binOp .neq 37 x y 37) (hx : a.eval x = encO p) (hy : a.eval y = encO p) :
    (execOp a.eval oi).run Try.prog W = .ok (.value (.bool false)) W := by
  have hq : (eqGuard .neq 37 x y (encO p) (encO p)).run Try.prog W = .ok () W := run_eqGuard_agg W .neq 37 x y (cellsO p) (cellsO p) (by kernel_rfl)
  have hd : (binOp .neq 37 (encO p) (encO p)).run Try.prog W = .ok (.bool false) W := by
    rw [neq_obj]
    simp
  unfold execOp
  simp only [ho, hx, hy, Sem.run_bind, hq, Result.andThen_ok, hd, Sem.run_pure]

set_option maxRecDepth 100000 in
set_option maxHeartbeats 4000000 in
theorem sameO_any (A : List Obj) (v u : Value) (w : World) (hv : ObjsIn w v A) (hu : ObjsIn w u A) :
    Calls Try.prog 16 #[v, u] w fun e w' => e = .returned (.bool true) ∧ Below w.heap.size w w' := by
  obtain ⟨o1, c1, rfl, hm, -⟩ := id hv
  obtain ⟨o2, c2, rfl, -, -⟩ := id hu
  have HV := Lib.hid hv
  have HU := Lib.hid hu
  clear hv hu
  go_enter Try.func16, Try.ntmps16
  go_wp2
  go_loopw [5] (fun iv wr => ∃ j : Nat, iv = .int .i64 (j : Int) ∧ j ≤ A.length ∧ Below w.heap.size w wr) (fun iv _ => A.length - (RowKit.intOf iv).toNat)
  case atStart => exact ⟨0, rfl, Nat.zero_le _, Below.refl _ _⟩
  case round =>
    obtain ⟨j, rfl, hj, hlow⟩ := hrel
    by_cases hlt : j < A.length
    · have hlt' : (j : Int) < (A.length : Int) := by omega
      have h1 := HV.out.after hlow
      have h2 := HU.out.after hlow
      obtain ⟨o3, c3, he, -, hi⟩ := id h1
      cases he
      obtain ⟨g1, off1, rfl, -, -⟩ := hi j hlt
      obtain ⟨o4, c4, he, -, hi4⟩ := id h2
      cases he
      obtain ⟨g2, off2, rfl, -, -⟩ := hi4 j hlt
      obtain ⟨x, hx⟩ : ∃ x, A[j] = x := ⟨_, rfl⟩
      have hrows : ∀ (V : World) (g off c : Nat), ObjsIn V (.slice (some ⟨g, off, none⟩) A.length c) A → V.rangeAt g (off + j * 20) (cellsO x).toList := fun V g off c hV => by
        obtain ⟨o5, c5, e5, -, h5⟩ := hV
        cases e5
        obtain ⟨g6, off6, e6, -, h6⟩ := h5 j hlt
        cases e6
        rw [← hx]
        exact h6
      have HROWS := Lib.hid hrows
      have HA := Lib.hid h1
      have HB := Lib.hid h2
      have HW := Lib.hid hlow
      clear hi hi4 h1 h2 hrows hx hlow
      go_upto_region 6 with (fail)
      refine wp_region_held_drew (S := fun V => ObjsIn V (.slice (some ⟨g1, off1, none⟩) A.length c1) A ∧ ObjsIn V (.slice (some ⟨g2, off2, none⟩) A.length c2) A ∧ Below w.heap.size w V) (by kernel_rfl) ⟨HA.out, HB.out, HW.out.drew⟩ (fun _ => ?_)
      refine HeldBy.gen (fun V => ObjsIn V (.slice (some ⟨g1, off1, none⟩) A.length c1) A ∧ ObjsIn V (.slice (some ⟨g2, off2, none⟩) A.length c2) A ∧ Below w.heap.size w V) ⟨HA.out, HB.out, HW.out.drew⟩ ?_
      clear HA HB HW
      rintro U0 HS
      refine HeldBy.take (i := 0) rfl (by kernel_rfl) (by kernel_rfl) (by kernel_rfl) (fun _ _ _ h => h) (by rfl) (fun _ _ => by first | (go_simp; rfl) | (go_simp; done)) (by go_simp; rfl) HS ?_
      refine HeldBy.take (i := 1) rfl (by kernel_rfl) (by kernel_rfl) (by kernel_rfl) (fun _ _ _ h => h) (by rfl) (fun _ _ => by first | (go_simp; rfl) | (go_simp; done)) (by go_simp; rfl) HS ?_
      refine HeldBy.take (i := 2) rfl (by kernel_rfl) (by kernel_rfl) (by kernel_rfl) (fun _ _ _ h => h) (by rfl) (fun _ _ => by first | (go_simp; rfl) | (go_simp; done)) (by go_simp; rfl) HS ?_
      refine HeldBy.take (i := 3) (v := encO x) rfl (by kernel_rfl) (by kernel_rfl) (by kernel_rfl) (fun _ _ _ h => h) (by rfl) (fun V hV => load_mid (HROWS.out V _ _ _ hV.1) rfl rfl) (by go_simp; rfl) HS ?_
      refine HeldBy.take (i := 4) rfl (by kernel_rfl) (by kernel_rfl) (by kernel_rfl) (fun _ _ _ h => h) (by rfl) (fun _ _ => by first | (go_simp; rfl) | (go_simp; done)) (by go_simp; rfl) HS ?_
      refine HeldBy.take (i := 5) rfl (by kernel_rfl) (by kernel_rfl) (by kernel_rfl) (fun _ _ _ h => h) (by rfl) (fun _ _ => by first | (go_simp; rfl) | (go_simp; done)) (by go_simp; rfl) HS ?_
      refine HeldBy.take (i := 6) rfl (by kernel_rfl) (by kernel_rfl) (by kernel_rfl) (fun _ _ _ h => h) (by rfl) (fun _ _ => by first | (go_simp; rfl) | (go_simp; done)) (by go_simp; rfl) HS ?_
      refine HeldBy.take (i := 7) (v := encO x) rfl (by kernel_rfl) (by kernel_rfl) (by kernel_rfl) (fun _ _ _ h => h) (by rfl) (fun V hV => load_mid (HROWS.out V _ _ _ hV.2.1) rfl rfl) (by go_simp; rfl) HS ?_
      refine HeldBy.take (i := 8) (v := .bool false) rfl (by kernel_rfl) (by kernel_rfl) (by kernel_rfl) (fun _ _ _ h => h) (by rfl) (fun V hV => neq_same rfl rfl rfl) (by go_simp; rfl) HS ?_
      refine wpAnyH_done (by kernel_rfl) ?_ _
      have HW := Lib.hid HS.2.2
      clear HS HROWS
      go_wp2
      go_roundw
      case rel => exact ⟨j + 1, by go_num, by omega, HW.out⟩
      case measure => simp [RowKit.intOf]; omega
    · have hlt' : ¬ (j : Int) < (A.length : Int) := by omega
      go_wp2
      go_ret
      exact ⟨rfl, hlow⟩

/-- A volume of the driver's of which nothing is known but its nodes. -/
structure Dv where
  o : Option Addr
  n : Nat
  c : Nat
def cellsDv (x : Dv) : Array Value := #[.string E0, .int .i64 0, .string E0, .int .u64 0, .slice x.o x.n x.c]
def zeroDv : Dv := ⟨none, 0, 0⟩
def encDv (x : Dv) : Value := .agg (cellsDv x)
def BoxDv (W : World) (b : Nat) (x : Dv) : Prop := W.heap[b]? = some (.cells (cellsDv x) 60 (0, 0))
theorem undDv : Try.prog.underlying 60 = some (.struct (Try.prog.fieldsOf 60)) := by kernel_rfl
theorem sizeDv : (Try.prog.info? 60).map (·.size) = some 5 := by kernel_rfl
theorem one_cellsDv (x : Dv) : (cellsDv x).all (·.oneCell') = true := by simp [cellsDv, Value.oneCell']
section
variable {W W' : World} {b : Nat} {x : Dv}
theorem BoxDv.lt (h : BoxDv W b x) : b < W.heap.size := (Array.getElem?_eq_some_iff.1 h).1
theorem BoxDv.after (h : BoxDv W b x) (hb : Below W.heap.size W W') : BoxDv W' b x := (hb.block b h.lt).trans h
theorem BoxDv.c0 (h : BoxDv W b x) : W.cell? ⟨b, 0, none⟩ = some (.string E0) := (cell_of_row W b 0 _ _ _ h).trans rfl
theorem BoxDv.c1 (h : BoxDv W b x) : W.cell? ⟨b, 1, none⟩ = some (.int .i64 0) := (cell_of_row W b 1 _ _ _ h).trans rfl
theorem BoxDv.c2 (h : BoxDv W b x) : W.cell? ⟨b, 2, none⟩ = some (.string E0) := (cell_of_row W b 2 _ _ _ h).trans rfl
theorem BoxDv.c3 (h : BoxDv W b x) : W.cell? ⟨b, 3, none⟩ = some (.int .u64 0) := (cell_of_row W b 3 _ _ _ h).trans rfl
theorem BoxDv.c4 (h : BoxDv W b x) : W.cell? ⟨b, 4, none⟩ = some (.slice x.o x.n x.c) := (cell_of_row W b 4 _ _ _ h).trans rfl
theorem BoxDv.free (h : BoxDv W b x) (i : Nat) : W.frozen? ⟨b, i, none⟩ = false := frozen_of_row W b i _ _ h
theorem loadDv (h : BoxDv W b x) {oi : Oper} {a : Act} {p : Operand} (ho : oi.op = .load 60 p) (hx : a.eval p = .pointer (some ⟨b, 0, none⟩)) : (execOp a.eval oi).run Try.prog W = .ok (.value (encDv x)) W := by
  unfold execOp
  simp only [ho, hx, Instr.loadAt, Instr.sureAddr, Sem.run_bind, Sem.run_pure, Result.andThen_ok, run_loadVar_row W b 60 60 (cellsDv x) (0, 0) _ h undDv rfl sizeDv]
  rfl
end
/-- A store of a whole: the world behind it by a name. -/
theorem stoDv {W : World} {b : Nat} {p : Dv} (h0 : BoxDv W b p) (x : Dv) : ∃ V, (∀ {oi : Oper} {a : Act} {p q : Operand}, oi.op = .store 60 p q → a.eval p = .pointer (some ⟨b, 0, none⟩) → a.eval q = encDv x → (execOp a.eval oi).run Try.prog W = .ok .skip V) ∧
    BoxDv V b x ∧ (∀ g, g ≠ b → V.heap[g]? = W.heap[g]?) ∧ (∀ B A, Below B A W → B ≤ b → Below B A V) := by
  refine ⟨W.setRow b (cellsDv x), fun {oi a p q} ho hp hq => ?_, setRow_heap _ _ _ _ _ _ h0, fun g hg => setRow_other W b g _ hg, fun _ _ h1 h2 => below_setRow h1 h2 _⟩
  have h1 := run_storeVar_row (P := Try.prog) W b 60 60 _ (cellsDv x) h0 sizeDv rfl (one_cellsDv x)
  unfold execOp
  have hq' : a.eval q = .agg (cellsDv x) := hq
  simp [ho, hp, hq', Instr.storeAt, Instr.sureAddr, h1, Result.andThen]
theorem boxDv (W : World) {z : Array Value} (y : Dv) (hz : z = cellsDv y) (x : Dv) : ∃ V, (∀ {oi : Oper} {a : Act} {p q : Operand}, oi.op = .store 60 p q → a.eval p = .pointer (some ⟨W.heap.size, 0, none⟩) → a.eval q = encDv x → (execOp a.eval oi).run Try.prog (W.alloc (.cells z 60 (0, 0))) = .ok .skip V) ∧
    BoxDv V W.heap.size x ∧ Below W.heap.size W V := by
  subst hz
  obtain ⟨V, h1, h2, -, h3⟩ := stoDv (show BoxDv (W.alloc (.cells (cellsDv y) 60 (0, 0))) W.heap.size y from heap_alloc_new W _) x
  exact ⟨V, h1, h2, h3 _ _ ((Below.refl _ _).alloc (Nat.le_refl _) _) (Nat.le_refl _)⟩
theorem built_dv (x : Dv) : Try.prog.built 60 [(4, .slice x.o x.n x.c)] = some (cellsDv x) := by kernel_rfl
theorem makes_dv {oi : Oper} (ho : oi.op = .alloc 60) : HeldBy.Makes Try.prog oi (.cells (cellsDv zeroDv) 60 (0, 0)) := by
  intro a w
  unfold execOp
  simp only [ho]
  kernel_rfl
theorem run_dv (W : World) (x : Dv) : (Instr.buildSlice 61 1 #[(0, encDv x)]).run Try.prog W = .ok (.slice (some ⟨W.heap.size, 0, none⟩) 1 1) (W.alloc (.cells (cellsDv x) 60 (0, 0))) := by kernel_rfl
theorem wpList_dv {ops : Array Oper} {rest : List Oper} {oi : Oper} {a : Act} {W W' : World} {v : Value} {Q : Exit → Act → World → Prop} {n : Nat} {parts : Array (Nat × Operand)} (hg : oi.guard = none) (ho : oi.op = .buildSlice 61 n parts) (vs : Array (Nat × Value))
    (hr : (Instr.buildSlice 61 n vs).run Try.prog W = .ok v W') (hp : (parts.toList.map fun (i, x) => (i, a.eval x)) = vs.toList) (hn : wpList Try.prog ops Q rest (a.put oi.dst v) W') : wpList Try.prog ops Q (oi :: rest) a W := by
  refine wpList_runs hg ?_ hn
  have hp' : (parts.map fun (i, x) => (i, a.eval x)) = vs := by
    apply Array.toList_inj.1
    rw [Array.toList_map]
    exact hp
  subst hp'
  unfold execOp
  simp only [ho, Sem.run_bind, hr, Result.andThen_ok]
  rfl
theorem mid_dv {W : World} {b : Nat} {x : Dv} (h : BoxDv W b x) {oi : Oper} {a : Act} {p : Operand} (ho : oi.op = .load 60 p) (hx : a.eval p = .pointer (some ⟨b, 0, none⟩)) : (execOp a.eval oi).run Try.prog W = .ok (.value (encDv x)) W := loadDv h ho hx

set_option maxRecDepth 100000 in
set_option maxHeartbeats 4000000 in
theorem sameV_any (L : List ByteArray) (a b : Dv) (g1 g2 B C : Nat) (w : World) (h1 : BoxDv w g1 a) (h2 : BoxDv w g2 b) (ht : TxtIn w B (.slice a.o a.n a.c) L) (hu : TxtIn w C (.slice b.o b.n b.c) L) (hn : L.length < 100000) :
    Calls Try.prog 25 #[.slice (some ⟨g1, 0, none⟩) 1 1, .slice (some ⟨g2, 0, none⟩) 1 1] w fun e w' => e = .returned (.bool true) ∧ Below w.heap.size w w' := by
  obtain ⟨ao, an, ac⟩ := a
  obtain ⟨bo, bn, bc⟩ := b
  dsimp only at ht hu
  obtain ⟨_, _, e1, -⟩ := ht.cells
  obtain ⟨_, _, e2, -⟩ := hu.cells
  cases e1
  cases e2
  have H1 := Lib.hid h1
  have H2 := Lib.hid h2
  have HT := Lib.hid ht
  have HU := Lib.hid hu
  have hn' : L.length ≤ 9223372036854775807 := by omega
  clear h1 h2 ht hu hn
  go_enter Try.func25, Try.ntmps25
  go_wp2
  go_loopw [5] (fun iv wr => ∃ j : Nat, iv = .int .i64 (j : Int) ∧ j ≤ 1 ∧ Below w.heap.size w wr) (fun iv _ => 1 - (RowKit.intOf iv).toNat)
  case atStart => exact ⟨0, rfl, Nat.zero_le _, Below.refl _ _⟩
  case round =>
    obtain ⟨j, rfl, hj, hlow⟩ := hrel
    by_cases hlt : j < 1
    · obtain rfl : j = 0 := by omega
      have HA := Lib.hid (H1.out.after hlow)
      have HB := Lib.hid (H2.out.after hlow)
      have HW := Lib.hid hlow
      clear hlow
      go_upto_region 6 with (fail)
      refine wp_region_held_drew (S := fun V => BoxDv V g1 ⟨ao, L.length, ac⟩ ∧ BoxDv V g2 ⟨bo, L.length, bc⟩ ∧ Below w.heap.size w V) (by kernel_rfl) ⟨HA.out, HB.out, HW.out.drew⟩ (fun _ => ?_)
      refine HeldBy.gen (fun V => BoxDv V g1 ⟨ao, L.length, ac⟩ ∧ BoxDv V g2 ⟨bo, L.length, bc⟩ ∧ Below w.heap.size w V) ⟨HA.out, HB.out, HW.out.drew⟩ ?_
      clear HA HB HW
      rintro U0 HS
      refine HeldBy.take (i := 0) rfl (by kernel_rfl) (by kernel_rfl) (by kernel_rfl) (fun _ _ _ h => h) (by rfl) (fun _ _ => by first | (go_simp; rfl) | (go_simp; done)) (by go_simp; rfl) HS ?_
      refine HeldBy.take (i := 1) rfl (by kernel_rfl) (by kernel_rfl) (by kernel_rfl) (fun _ _ _ h => h) (by rfl) (fun _ _ => by first | (go_simp; rfl) | (go_simp; done)) (by go_simp; rfl) HS ?_
      refine HeldBy.take (i := 2) rfl (by kernel_rfl) (by kernel_rfl) (by kernel_rfl) (fun _ _ _ h => h) (by rfl) (fun _ _ => by first | (go_simp; rfl) | (go_simp; done)) (by go_simp; rfl) HS ?_
      refine HeldBy.take (i := 3) (v := encDv ⟨ao, L.length, ac⟩) rfl (by kernel_rfl) (by kernel_rfl) (by kernel_rfl) (fun _ _ _ h => h) (by rfl) (fun V hV => mid_dv hV.1 rfl rfl) (by go_simp; rfl) HS ?_
      refine HeldBy.take (i := 4) rfl (by kernel_rfl) (by kernel_rfl) (by kernel_rfl) (fun _ _ _ h => h) (by rfl) (fun _ _ => by first | (go_simp; rfl) | (go_simp; done)) (by go_simp; rfl) HS ?_
      refine HeldBy.take (i := 5) rfl (by kernel_rfl) (by kernel_rfl) (by kernel_rfl) (fun _ _ _ h => h) (by rfl) (fun _ _ => by first | (go_simp; rfl) | (go_simp; done)) (by go_simp; rfl) HS ?_
      refine HeldBy.take (i := 6) rfl (by kernel_rfl) (by kernel_rfl) (by kernel_rfl) (fun _ _ _ h => h) (by rfl) (fun _ _ => by first | (go_simp; rfl) | (go_simp; done)) (by go_simp; rfl) HS ?_
      refine HeldBy.take (i := 7) (v := encDv ⟨bo, L.length, bc⟩) rfl (by kernel_rfl) (by kernel_rfl) (by kernel_rfl) (fun _ _ _ h => h) (by rfl) (fun V hV => mid_dv hV.2.1 rfl rfl) (by go_simp; rfl) HS ?_
      have HSS : ∀ V, Below U0.heap.size U0 V → BoxDv V g1 ⟨ao, L.length, ac⟩ ∧ BoxDv V g2 ⟨bo, L.length, bc⟩ ∧ Below w.heap.size w V := fun V hb => ⟨HS.1.after hb, HS.2.1.after hb, HS.2.2.trans (hb.mono HS.2.2.size)⟩
      refine HeldBy.two_allocs (i := 8) (j := 9) (x := .cells (cellsDv zeroDv) 60 (0, 0)) (y := .cells (cellsDv zeroDv) 60 (0, 0)) (by kernel_rfl) (by kernel_rfl) (by kernel_rfl) rfl rfl rfl rfl (makes_dv rfl) (makes_dv rfl) rfl (by kernel_rfl) (fun p q => by unfold HeldBy.ptr; go_simp; rfl) (fun p q => by unfold HeldBy.ptr; go_simp; try rfl) (fun w' hb => HSS w' hb) ?_
      intro p q U1 hp hq hpq hbx hby hb
      obtain ⟨V1, st1, bx1, ov1, lv1⟩ := stoDv (show BoxDv U1 p zeroDv from hbx) ⟨ao, L.length, ac⟩
      obtain ⟨V2, st2, by2, ov2, lv2⟩ := stoDv (show BoxDv V1 q zeroDv from (ov1 q (fun e => hpq e.symm)).trans hby) ⟨bo, L.length, bc⟩
      have hb1 := lv1 _ _ hb hp
      have hb2 := lv2 _ _ hb1 hq
      have hbx2 : BoxDv V2 p ⟨ao, L.length, ac⟩ := (ov2 p hpq).trans bx1
      refine HeldBy.store (i := 10) (w' := V1) rfl (by kernel_rfl) (by rfl) (st1 rfl rfl rfl) (by first | (go_simp; rfl) | (go_simp; done)) (HSS V1 hb1) ?_
      refine HeldBy.store (i := 11) (w' := V2) rfl (by kernel_rfl) (by rfl) (st2 rfl rfl rfl) (by first | (go_simp; rfl) | (go_simp; done)) (HSS V2 hb2) ?_
      refine wpAnyH_done (by kernel_rfl) ?_ _
      have HX := Lib.hid hbx2
      have HY := Lib.hid by2
      have HW := Lib.hid (HSS V2 hb2).2.2
      clear HSS HS hp hq hpq hbx hby hb st1 bx1 ov1 lv1 st2 by2 ov2 lv2 hb1 hb2 hbx2
      have x0 := HX.out.c0
      have x1 := HX.out.c1
      have x2 := HX.out.c2
      have x3 := HX.out.c3
      have x4 := HX.out.c4
      have y0 := HY.out.c0
      have y1 := HY.out.c1
      have y2 := HY.out.c2
      have y3 := HY.out.c3
      have y4 := HY.out.c4
      go_upto_region 9 with (fail)
      refine wp_gen (fun V => BoxDv V p ⟨ao, L.length, ac⟩ ∧ BoxDv V q ⟨bo, L.length, bc⟩ ∧ Below w.heap.size w V) ⟨HX.out, HY.out, HW.out⟩ ?_
      clear HX HY HW x0 x1 x2 x3 x4 y0 y1 y2 y3 y4
      rintro Z ⟨z1, z2, z3⟩
      have HX := Lib.hid z1
      have HY := Lib.hid z2
      have HW := Lib.hid z3
      clear z1 z2 z3
      go_wp2
      go_loopw [8] (fun kv wr => ∃ k : Nat, kv = .int .i64 (k : Int) ∧ k ≤ L.length ∧ Below Z.heap.size Z wr) (fun kv _ => L.length - (RowKit.intOf kv).toNat)
      case atStart => exact ⟨0, rfl, Nat.zero_le _, Below.refl _ _⟩
      case round =>
        obtain ⟨k, rfl, hk, hlk⟩ := hrel
        have x4 := (HX.out.after hlk).c4
        have HWK := Lib.hid (HW.out.trans (hlk.mono HW.out.size))
        by_cases hlt2 : k < L.length
        · have hlt2' : (k : Int) < (L.length : Int) := by omega
          have h3 := HT.out.after HWK.out
          have h4 := HU.out.after HWK.out
          obtain ⟨o5, c5, e5, h5⟩ := h3.cells
          cases e5
          obtain ⟨r1, rfl, -, -⟩ := h5 k hlt2
          obtain ⟨o6, c6, e6, h6⟩ := h4.cells
          cases e6
          obtain ⟨r2, rfl, -, -⟩ := h6 k hlt2
          obtain ⟨s, hs⟩ : ∃ s, L[k] = s := ⟨_, rfl⟩
          have hcell : ∀ (V : World) (r c D : Nat), TxtIn V D (.slice (some ⟨r, 0, none⟩) L.length c) L → V.cell? ⟨r, k, none⟩ = some (.string s) := fun V r c D hV => by
            obtain ⟨o7, c7, e7, h7⟩ := hV.cells
            cases e7
            obtain ⟨r3, e8, -, h8⟩ := h7 k hlt2
            cases e8
            rw [← hs]
            exact h8
          have HCELL := Lib.hid hcell
          have HTK := Lib.hid h3
          have HUK := Lib.hid h4
          have HXK := Lib.hid (HX.out.after hlk)
          have HYK := Lib.hid (HY.out.after hlk)
          have HLK := Lib.hid hlk
          clear h3 h4 h5 h6 hs hcell hlk
          go_upto_region 12 with (fail)
          clear x4
          refine wp_region_held_drew (S := fun V => BoxDv V p ⟨some ⟨r1, 0, none⟩, L.length, ac⟩ ∧ BoxDv V q ⟨some ⟨r2, 0, none⟩, L.length, bc⟩ ∧ TxtIn V B (.slice (some ⟨r1, 0, none⟩) L.length ac) L ∧ TxtIn V C (.slice (some ⟨r2, 0, none⟩) L.length bc) L ∧ Below Z.heap.size Z V) (by kernel_rfl) ⟨HXK.out, HYK.out, HTK.out, HUK.out, HLK.out.drew⟩ (fun _ => ?_)
          refine HeldBy.gen (fun V => BoxDv V p ⟨some ⟨r1, 0, none⟩, L.length, ac⟩ ∧ BoxDv V q ⟨some ⟨r2, 0, none⟩, L.length, bc⟩ ∧ TxtIn V B (.slice (some ⟨r1, 0, none⟩) L.length ac) L ∧ TxtIn V C (.slice (some ⟨r2, 0, none⟩) L.length bc) L ∧ Below Z.heap.size Z V) ⟨HXK.out, HYK.out, HTK.out, HUK.out, HLK.out.drew⟩ ?_
          clear HXK HYK HTK HUK HLK
          rintro U0 HS
          refine HeldBy.take (i := 0) rfl (by kernel_rfl) (by kernel_rfl) (by kernel_rfl) (fun _ _ _ h => h) (by rfl) (fun _ _ => by first | (go_simp; rfl) | (go_simp; done)) (by go_simp; rfl) HS ?_
          refine HeldBy.take (i := 1) (v := .slice (some ⟨r1, 0, none⟩) L.length ac) rfl (by kernel_rfl) (by kernel_rfl) (by kernel_rfl) (fun _ _ _ h => h) (by rfl) (fun V hV => by have h := hV.1.c4; first | (go_simp; rfl) | (go_simp; done)) (by go_simp; rfl) HS ?_
          refine HeldBy.take (i := 2) rfl (by kernel_rfl) (by kernel_rfl) (by kernel_rfl) (fun _ _ _ h => h) (by rfl) (fun _ _ => by first | (go_simp; rfl) | (go_simp; done)) (by go_simp; rfl) HS ?_
          refine HeldBy.take (i := 3) rfl (by kernel_rfl) (by kernel_rfl) (by kernel_rfl) (fun _ _ _ h => h) (by rfl) (fun _ _ => by first | (go_simp; rfl) | (go_simp; done)) (by go_simp; rfl) HS ?_
          refine HeldBy.take (i := 4) (v := .string s) rfl (by kernel_rfl) (by kernel_rfl) (by kernel_rfl) (fun _ _ _ h => h) (by rfl) (fun V hV => by have h := HCELL.out V _ _ _ hV.2.2.1; first | (go_simp; rfl) | (go_simp; done)) (by go_simp; rfl) HS ?_
          refine HeldBy.take (i := 5) rfl (by kernel_rfl) (by kernel_rfl) (by kernel_rfl) (fun _ _ _ h => h) (by rfl) (fun _ _ => by first | (go_simp; rfl) | (go_simp; done)) (by go_simp; rfl) HS ?_
          refine HeldBy.take (i := 6) (v := .slice (some ⟨r2, 0, none⟩) L.length bc) rfl (by kernel_rfl) (by kernel_rfl) (by kernel_rfl) (fun _ _ _ h => h) (by rfl) (fun V hV => by have h := hV.2.1.c4; first | (go_simp; rfl) | (go_simp; done)) (by go_simp; rfl) HS ?_
          refine HeldBy.take (i := 7) rfl (by kernel_rfl) (by kernel_rfl) (by kernel_rfl) (fun _ _ _ h => h) (by rfl) (fun _ _ => by first | (go_simp; rfl) | (go_simp; done)) (by go_simp; rfl) HS ?_
          refine HeldBy.take (i := 8) rfl (by kernel_rfl) (by kernel_rfl) (by kernel_rfl) (fun _ _ _ h => h) (by rfl) (fun _ _ => by first | (go_simp; rfl) | (go_simp; done)) (by go_simp; rfl) HS ?_
          refine HeldBy.take (i := 9) (v := .string s) rfl (by kernel_rfl) (by kernel_rfl) (by kernel_rfl) (fun _ _ _ h => h) (by rfl) (fun V hV => by have h := HCELL.out V _ _ _ hV.2.2.2.1; first | (go_simp; rfl) | (go_simp; done)) (by go_simp; rfl) HS ?_
          refine HeldBy.take (i := 10) (v := .bool false) rfl (by kernel_rfl) (by kernel_rfl) (by kernel_rfl) (fun _ _ _ h => h) (by rfl) (fun _ _ => by have h := list_eq (rfl : s = s); first | (go_simp; rfl) | (go_simp; done) | (go_simp; simp)) (by go_simp; rfl) HS ?_
          refine wpAnyH_done (by kernel_rfl) ?_ _
          have HWQ := Lib.hid HS.2.2.2.2
          clear HS HCELL
          go_wp2
          go_roundw
          case rel => exact ⟨k + 1, by go_num, by omega, HWQ.out⟩
          case measure => simp [RowKit.intOf]; omega
        · have hlt2' : ¬ (k : Int) < (L.length : Int) := by omega
          clear hlk
          go_wp2
          go_roundw
          case rel => exact ⟨1, by go_num, by omega, HWK.out⟩
          case measure => simp [RowKit.intOf]
    · obtain rfl : j = 1 := by omega
      go_wp2
      go_ret
      exact ⟨rfl, hlow⟩

set_option maxRecDepth 100000 in
set_option maxHeartbeats 4000000 in
theorem sameN_any (L : List ByteArray) (v u : Value) (B C : Nat) (w : World) (hv : TxtIn w B v L) (hu : TxtIn w C u L) (hn : L.length < 100000) :
    Calls Try.prog 13 #[v, u] w fun e w' => e = .returned (.bool true) ∧ Below w.heap.size w w' := by
  obtain ⟨o1, c1, rfl, -⟩ := hv.cells
  obtain ⟨o2, c2, rfl, -⟩ := hu.cells
  have hb0 : Below w.heap.size w ((w.alloc (.cells (cellsDv ⟨o1, L.length, c1⟩) 60 (0, 0))).alloc (.cells (cellsDv ⟨o2, L.length, c2⟩) 60 (0, 0))) := ((Below.refl _ _).alloc (Nat.le_refl _) _).alloc (by simp) _
  have HS := Lib.hid (sameV_any L ⟨o1, L.length, c1⟩ ⟨o2, L.length, c2⟩ w.heap.size (w.heap.size + 1) B C _ (heap_alloc2_old w _ _) (heap_alloc2_new w _ _) (hv.after hb0) (hu.after hb0) hn)
  have HB := Lib.hid hb0
  have H1 := Lib.hid (built_dv ⟨o1, L.length, c1⟩)
  have H2 := Lib.hid (built_dv ⟨o2, L.length, c2⟩)
  have R1 := Lib.hid (run_dv w ⟨o1, L.length, c1⟩)
  have R2 := Lib.hid (run_dv (w.alloc (.cells (cellsDv ⟨o1, L.length, c1⟩) 60 (0, 0))) ⟨o2, L.length, c2⟩)
  clear hv hu hb0
  go_enter Try.func13, Try.ntmps13
  go_wp2_with (first | ((with_reducible refine wpList_build_to rfl 60 _ rfl (cellsDv ⟨o1, L.length, c1⟩) ?_ ?_); exact H1.out) | ((with_reducible refine wpList_dv rfl rfl _ R1.out ?_ ?_); rfl) | ((with_reducible refine wpList_build_to rfl 60 _ rfl (cellsDv ⟨o2, L.length, c2⟩) ?_ ?_); exact H2.out) | ((with_reducible refine wpList_dv rfl rfl _ R2.out ?_ ?_); rfl))
  refine HS.out.mono ?_
  rintro e W1 ⟨rfl, hb1⟩
  have HX := Lib.hid (HB.out.trans (hb1.mono HB.out.size))
  clear HS hb1
  go_wp2
  go_ret
  exact ⟨rfl, HX.out⟩
end Go.Proofs.Ytigoghhjncpgfaa.O.B
