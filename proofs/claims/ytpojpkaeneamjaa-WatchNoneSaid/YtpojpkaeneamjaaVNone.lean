/- WatchNone: its walk. -/
import Derived.Test.YtpojpkaeneamjaaVNil
namespace Go.Proofs.Ytpojpkaeneamjaa.O.V
open Go Go.RowKit Go.Lib KM
attribute [local go_sem] Oper.semAt_some

/-- What comes in: slices and numbers. -/
structure Dd where
  kind : Int
  fits : Bool
  la : Option Addr
  ln : Nat
  lc : Nat
  aa : Option Addr
  an : Nat
  ac : Nat
  ver : Int
def cellsD (x : Dd) : Array Value := #[.int .i64 x.kind, .bool x.fits, .slice x.la x.ln x.lc, .slice x.aa x.an x.ac, .int .u64 x.ver]
def encD (x : Dd) : Value := .agg (cellsD x)
def BoxD (W : World) (b : Nat) (x : Dd) : Prop := W.heap[b]? = some (.cells (cellsD x) 26 (0, 0))
section
variable {W W' : World} {b : Nat} {x : Dd}
theorem BoxD.lt (h : BoxD W b x) : b < W.heap.size := (Array.getElem?_eq_some_iff.1 h).1
theorem BoxD.after (h : BoxD W b x) (hb : Below W.heap.size W W') : BoxD W' b x := (hb.block b h.lt).trans h
theorem BoxD.cells (h : BoxD W b x) : W.cell? ⟨b, 2, none⟩ = some (.slice x.la x.ln x.lc) ∧ W.cell? ⟨b, 3, none⟩ = some (.slice x.aa x.an x.ac) ∧ W.cell? ⟨b, 4, none⟩ = some (.int .u64 x.ver) :=
  ⟨(cell_of_row W b 2 _ _ _ h).trans rfl, (cell_of_row W b 3 _ _ _ h).trans rfl, (cell_of_row W b 4 _ _ _ h).trans rfl⟩
end
theorem boxing (W : World) (x : Obj) : ∃ V, (∀ {oi : Oper} {a : Act} {p q : Operand}, oi.op = .store 39 p q → a.eval p = .pointer (some ⟨W.heap.size, 0, none⟩) → a.eval q = encO x → (execOp a.eval oi).run Try.prog (W.alloc (.cells (cellsO O0) 39 (0, 0))) = .ok .skip V) ∧
    BoxO V W.heap.size x ∧ Below W.heap.size W V := by
  obtain ⟨V, h1, h2, h3⟩ := storing (BoxO.new W O0) x
  exact ⟨V, h1, h2, h3 _ _ ((Below.refl _ _).alloc (Nat.le_refl _) _) (Nat.le_refl _)⟩
theorem exec_obj_same {W : World} {oi : Oper} {a : Act} {x y : Operand} {p : Obj} {t : TypeId} (ho : oi.op = .binOp .eql 39 x y t) (hx : a.eval x = encO p) (hy : a.eval y = encO p) : (execOp a.eval oi).run Try.prog W = .ok (.value (.bool true)) W := by
  have hq : (eqGuard .eql 39 x y (encO p) (encO p)).run Try.prog W = .ok () W := run_eqGuard_agg W .eql 39 x y (cellsO p) (cellsO p) (by kernel_rfl)
  have h := eql_obj p p W
  rw [decide_eq_true rfl] at h
  unfold execOp
  simp only [ho, hx, hy, Sem.run_bind, hq, Result.andThen_ok, h]
  rfl
set_option maxRecDepth 100000 in
set_option maxHeartbeats 8000000 in
theorem watchNone_any (x : Dd) (k : Ky) (w : World) : Calls Try.prog 3 #[encD x, encK k] w fun e w' => e = .returned (.bool true) ∧ Below w.heap.size w w' := by
  rw [show encD x = .agg (cellsD x) from rfl, show encK k = .agg (cellsK k) from rfl]
  go_enter Try.func3, Try.ntmps3
  go_upto_region 2 with (fail)
  refine wp_gen (fun V => BoxD V w.heap.size x ∧ BoxK V (w.heap.size + 1) k ∧ Below w.heap.size w V) ⟨(heap2 w _ _).1, (heap2 w _ _).2, ((Below.refl _ _).alloc (Nat.le_refl _) _).alloc (by simp) _⟩ ?_
  rintro V ⟨hd, hk, hlw⟩
  obtain ⟨d2, d3, d4⟩ := hd.cells
  have HD := Lib.hid hd
  have HK := Lib.hid hk
  have HW := Lib.hid hlw
  clear hd hk hlw
  go_wp2_with (fail)
  refine (take_nil _ _ _ _).mono ?_
  rintro e W1 ⟨rfl, hb⟩
  replace HD := Lib.hid (HD.out.after hb)
  replace HK := Lib.hid (HK.out.after hb)
  replace HW := Lib.hid (HW.out.trans (hb.mono HW.out.size))
  clear hb d2 d3 d4
  obtain ⟨d2, d3, d4⟩ := HD.out.cells
  go_wp2_with (fail)
  refine (reset_nil _ _ _ _ _).mono ?_
  rintro e W2 ⟨rfl, hb⟩
  have hkl := HK.out.after hb
  replace HW := Lib.hid (HW.out.trans (hb.mono HW.out.size))
  clear hb d2 d3 d4 HD HK
  go_wp2_with (refine wpList_got rfl (load_key hkl rfl rfl) ?_)
  clear hkl
  refine (get_nil k _).mono ?_
  rintro e W3 ⟨rfl, hb⟩
  obtain ⟨V4, hs4, hb4, hl4⟩ := boxing W3 O0
  have hw3 := HW.out.trans (hb.mono HW.out.size)
  have HO := Lib.hid hb4
  replace HW := Lib.hid (hw3.trans (hl4.mono hw3.size))
  have HV := Lib.hid (live_any V4)
  clear hb hb4 hl4 hw3
  go_wp2_with (refine wpList_skip rfl (hs4 rfl rfl rfl) ?_)
  clear hs4
  refine HV.out.mono ?_
  rintro e W5 ⟨rfl, hb⟩
  have ho := HO.out.after hb
  replace HW := Lib.hid (HW.out.trans (hb.mono HW.out.size))
  clear hb HV HO
  go_wp2_with (first | ((with_reducible refine wpList_load_obj ?_ rfl ?_ ho ?_); rfl; rfl) | ((with_reducible refine wpList_build_to rfl 39 _ rfl (cellsO O0) ?_ ?_); exact built_o0) | (refine wpList_got rfl (load_obj ho rfl rfl) ?_) | (refine wpList_got rfl (exec_obj_same (p := O0) rfl rfl rfl) ?_))
  clear ho
  refine (all_nil _).mono ?_
  rintro e W6 ⟨rfl, hb⟩
  replace HW := Lib.hid (HW.out.trans (hb.mono HW.out.size))
  clear hb
  go_wp2_with (fail)
  refine (version_nil _).mono ?_
  rintro e W7 ⟨rfl, hb⟩
  replace HW := Lib.hid (HW.out.trans (hb.mono HW.out.size))
  clear hb
  go_wp2_with (fail)
  refine (fork_nil _).mono ?_
  rintro e W8 ⟨rfl, hb⟩
  replace HW := Lib.hid (HW.out.trans (hb.mono HW.out.size))
  clear hb
  go_wp2
  go_ret
  exact ⟨rfl, HW.out⟩
end Go.Proofs.Ytpojpkaeneamjaa.O.V
