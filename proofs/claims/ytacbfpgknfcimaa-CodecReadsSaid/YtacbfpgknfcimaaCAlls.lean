/- codec.readAll: its deferred functions, and it. codec.readAll at changes; codec.Read, codec.ReadChange. Laid by mkall.py. -/
import Derived.Test.YtacbfpgknfcimaaCReadO
import Derived.Defers
import Derived.Recover
namespace Go.Proofs.Ytacbfpgknfcimaa.C
open Go.RowKit T O
open Go.Lib hiding intOf

def errObj (n : Int) : Go.Obj := .cells #[.int .i64 n] 31 (0, 0)
/-- What the deferred function leaves. -/
structure Caught (B px pe : Nat) (X : Go.Obj) (n : Int) (W W' : World) : Prop where
  x : W'.heap[px]? = some X
  e : W'.heap[pe]? = some (errObj n)
  low : Below B W W'

theorem assert_wrong (w : World) : (Instr.typeAssert (.iface 77 (.agg #[])) 20 77 true).run Try.prog w = .ok (.tuple #[.agg #[], .bool true]) w := by kernel_rfl

set_option maxRecDepth 100000 in
set_option maxHeartbeats 2000000 in
theorem catchO_wrong (B px pe : Nat) (o : O.Obj) (n : Int) (older : List PanicEntry) (w : World) (hx : BoxO w px o) (he : w.heap[pe]? = some (errObj n)) (hne : px ≠ pe) (hB : B ≤ px ∧ B ≤ pe) :
    CallsD Try.prog 58 #[.pointer (some ⟨px, 0, none⟩), .pointer (some ⟨pe, 0, none⟩)] (.panicking ({ v := wrongV, recovered := false } :: older)) w fun e u' w' =>
      e = .returned (.tuple #[]) ∧ u' = .panicking ({ v := wrongV, recovered := true } :: older) ∧ Caught B px pe (.cells (cellsO O0) 27 (0, 0)) 2 w w' := by
  refine callsD_of_wpS Try.func58 rfl fun c₀ cs hu => ?_
  apply wpS_seq
  apply wpS_region
  simp [wpOpsS, go_sem, recoverD, hu, Try.ntmps58, Exit.thenS, Array.replicate, List.replicate]
  refine wpS_of_wp ?_
  unfold wrongV
  have hta := assert_wrong
  go_upto_region 8 with (fail)
  have hxl := hx.lt
  have hel := (Array.getElem?_eq_some_iff.1 he).1
  refine wp_gen (fun W => BoxO W (w.heap.size + 1) O0 ∧ BoxO W px o ∧ W.heap[pe]? = some (errObj n) ∧ Below w.heap.size w W) ⟨heap_alloc2_new w _ _, (hx.alloc _).alloc _, (Below.heap_alloc _ _ pe (by simp; omega)).trans ((Below.heap_alloc w _ pe hel).trans he), ((Below.refl _ _).alloc (Nat.le_refl _) _).alloc (by simp) _⟩ ?_
  clear hx he
  rintro W ⟨hn, hx, he, hlow⟩
  have he2 : (W.setRow px (cellsO O0)).heap[pe]? = some (errObj n) := (setRow_other W px pe _ (fun e => hne e.symm)).trans he
  have fz := frozen_of_row (W.setRow px (cellsO O0)) pe 0 _ _ he2
  have cz : (W.setRow px (cellsO O0)).cell? ⟨pe, 0, none⟩ = some (.int .i64 n) := (cell_of_row _ pe 0 _ _ _ he2).trans rfl
  have HF : Hid (Caught B px pe (.cells (cellsO O0) 27 (0, 0)) 2 w ((W.setRow px (cellsO O0)).setCell ⟨pe, 0, none⟩ (.int .i64 2))) :=
    ⟨(heap_setCell_other _ ⟨pe, 0, none⟩ px _ hne).trans (hx.setRow O0), (heap_setCell_same _ pe 0 _ _ _ he2).trans rfl, ((hlow.mono (by omega)).trans (below_setRow (Below.refl B W) hB.1 _)).setCell (p := ⟨pe, 0, none⟩) hB.2 _⟩
  clear he he2 hlow
  go_wp2_with (first | ((with_reducible refine wpList_load_obj ?_ rfl ?_ hn ?_); rfl; rfl) | ((with_reducible refine wpList_store_rowTo rfl 27 _ _ rfl rfl px (cellsO O0) ?_ ?_ 27 (cellsO o) ?_ ?_ ?_ ?_ ?_); rfl; rfl; exact hx; exact sizeObj; exact sz_cells _ _; exact one_cells _))
  refine ⟨rfl, _, rfl, .tuple #[], by simp [results, Try.results58], rfl, rfl, HF.out⟩

set_option maxRecDepth 100000 in
set_option maxHeartbeats 2000000 in
theorem catchO_idle (px pe : Nat) (w : World) :
    CallsD Try.prog 58 #[.pointer (some ⟨px, 0, none⟩), .pointer (some ⟨pe, 0, none⟩)] .returning w fun e u' w' => e = .returned (.tuple #[]) ∧ u' = .returning ∧ w = w' := by
  refine callsD_of_wpS Try.func58 rfl fun c₀ cs hu => ?_
  apply wpS_seq
  apply wpS_region
  simp [wpOpsS, go_sem, recoverD, hu, Try.ntmps58, Exit.thenS, Array.replicate, List.replicate]
  refine wpS_of_wp ?_
  go_wp2
  cases c₀
  simp_all [bodyPostS, results, Try.results58]

section
variable {P : Program} {fn : Func} {p q : Tmp} {ty tz : TypeId} {tmps : Array Value} {w : World} {g g2 : Nat} {x y : Value}
theorem results_cc (h : fn.results = #[.cell p ty, .cell q tz]) (hp : tmps.getD p undef = .pointer (some ⟨g, 0, none⟩)) (hq : tmps.getD q undef = .pointer (some ⟨g2, 0, none⟩))
    (h1 : (loadVar ty ⟨g, 0, none⟩).run P w = .ok x w) (h2 : (loadVar tz ⟨g2, 0, none⟩).run P w = .ok y w) : (results fn tmps).run P w = .ok (.tuple #[x, y]) w := by
  have hp' : tmps[p]?.getD undef = .pointer (some ⟨g, 0, none⟩) := by simpa using hp
  have hq' : tmps[q]?.getD undef = .pointer (some ⟨g2, 0, none⟩) := by simpa using hq
  simp [results, h, hp', hq', asAddr, h1, h2]
theorem results_ct (h : fn.results = #[.cell p ty, .tmp q]) (hp : tmps.getD p undef = .pointer (some ⟨g, 0, none⟩)) (hq : tmps.getD q undef = y)
    (h1 : (loadVar ty ⟨g, 0, none⟩).run P w = .ok x w) : (results fn tmps).run P w = .ok (.tuple #[x, y]) w := by
  have hp' : tmps[p]?.getD undef = .pointer (some ⟨g, 0, none⟩) := by simpa using hp
  have hq' : tmps[q]?.getD undef = y := by simpa using hq
  simp [results, h, hp', hq', asAddr, h1]
end
theorem load_objV {W : World} {b : Nat} {o : O.Obj} (h : BoxO W b o) : (loadVar 27 ⟨b, 0, none⟩).run Try.prog W = .ok (encO o) W := run_loadVar_row W b 27 27 (cellsO o) (0, 0) _ h undObj rfl sizeObj
theorem load_evV {W : World} {b : Nat} {e : Ev} (h : BoxE W b e) : (loadVar 29 ⟨b, 0, none⟩).run Try.prog W = .ok (encE e) W := run_loadVar_row W b 29 29 (cellsE e) (0, 0) _ h undEv rfl sizeEv
theorem load_err {W : World} {b : Nat} {n : Int} (h : W.heap[b]? = some (errObj n)) : (loadVar 31 ⟨b, 0, none⟩).run Try.prog W = .ok (.int .i64 n) W := by
  have hc : W.cell? ⟨b, 0, none⟩ = some (.int .i64 n) := (cell_of_row W b 0 _ _ _ h).trans rfl
  simp [go_sem, hc]
theorem heap_alloc3_new (w : World) (x y z : Go.Obj) : (((w.alloc x).alloc y).alloc z).heap[w.heap.size + 1 + 1]? = some z := by
  have := heap_alloc_new ((w.alloc x).alloc y) z
  rwa [World.size_alloc, World.size_alloc] at this
/-- What stands where all is read: the result, the error, the reader. -/
structure AObj (w : World) (o : O.Obj) (n : Int) (W : World) : Prop where
  x : BoxO W w.heap.size o
  e : W.heap[w.heap.size + 1]? = some (errObj n)
  low : Below w.heap.size w W
  size : w.heap.size + 2 < W.heap.size

/-- What reading all answers. -/
def ReadAs (α : Type) (P : Rd α) (enc : α → Value) (zero : α) (l : Bytes) (W : World) (e : Ending) (W' : World) : Prop :=
  Below W.heap.size W W' ∧ ((∃ x, allR P l = some x ∧ e = .returned (.tuple #[enc x, .int .i64 0])) ∨ (allR P l = none ∧ e = .returned (.tuple #[enc zero, .int .i64 2])))

set_option maxRecDepth 100000 in
set_option maxHeartbeats 4000000 in
theorem readAllO_any (v : Value) (l : Bytes) (w : World) (h : BytesIn w v l) :
    Calls Try.prog 31 #[v, .func (.func 32) #[] #[]] w (ReadAs O.Obj rdObj encO O0 l w) := by
  have hmf : ∀ (fn : Fn) (first cap : Array Value) (w : World), (Instr.makeFunc fn first cap).run Try.prog w = .ok (.func fn first cap) w := fun _ _ _ _ => rfl
  obtain ⟨a, k, c, rfl⟩ := h.shape
  have hlt := fun b => h.lt (k := b)
  have H := Lib.hid h
  clear h
  go_enter_defers Try.func31, Try.ntmps31
  go_upto_region 3 with (fail)
  refine wp_gen (fun W => AObj w O0 0 W ∧ Left W (w.heap.size + 1 + 1) l) ⟨⟨((BoxO.new w O0).alloc _).alloc _, (Below.heap_alloc _ _ (w.heap.size + 1) (by simp)).trans (heap_alloc2_new w _ _), (((Below.refl _ _).alloc (Nat.le_refl _) _).alloc (by simp) _).alloc (by simp; omega) _, by simp⟩,
    ⟨.slice a k c, heap_alloc3_new w _ _ _, ((H.out.alloc _).alloc _).alloc _, fun b hb => by have := hlt b hb; omega⟩⟩ ?_
  rintro W0 ⟨hA, hL⟩
  clear H hlt
  go_wp2_with fail
  refine (readObject_any _ l _ hL).mono ?_
  rintro e W1 ⟨hg, ⟨x, l', hp, rfl, hL2⟩ | ⟨hp, rfl⟩⟩
  rotate_left
  · have hx : BoxO W1 w.heap.size O0 := (hg.block _ hA.x.lt (by simp; omega)).trans hA.x
    have he : W1.heap[w.heap.size + 1]? = some (errObj 0) := (hg.block _ (by have := hA.size; omega) (by simp)).trans hA.e
    have hlow : Below w.heap.size w W1 := hA.low.grown hg (by have := hA.size; omega) (by intro k hk; cases hk; omega)
    have HF : Hid (allR rdObj l = none) := by show _ = _; unfold allR; rw [hp]; rfl
    clear hg hA hL hp
    go_wp2
    refine leaves_cons (f := 58) (args := #[.pointer (some ⟨w.heap.size, 0, none⟩), .pointer (some ⟨w.heap.size + 1, 0, none⟩)]) (by simp) (by simp [go_sem]) ?_
    refine (catchO_wrong w.heap.size w.heap.size (w.heap.size + 1) O0 0 [] W1 hx he (by omega) ⟨by omega, by omega⟩).mono ?_
    rintro e u' W2 ⟨rfl, rfl, hC⟩
    exact ⟨_, results_cc rfl rfl rfl (load_objV hC.x) (load_err hC.e), hlow.trans hC.low, .inr ⟨HF.out, rfl⟩⟩
  have hx : BoxO W1 w.heap.size O0 := (hg.block _ hA.x.lt (by simp; omega)).trans hA.x
  have he : W1.heap[w.heap.size + 1]? = some (errObj 0) := (hg.block _ (by have := hA.size; omega) (by simp)).trans hA.e
  have hlow : Below w.heap.size w W1 := hA.low.grown hg (by have := hA.size; omega) (by intro k hk; cases hk; omega)
  have hlen := hL2.len
  have HP := Lib.hid hp
  clear hg hA hL hL2 hp
  go_upto_region 4 with ((with_reducible refine wpList_store_rowTo rfl 27 _ _ rfl rfl w.heap.size (cellsO x) ?_ ?_ 27 (cellsO O0) ?_ ?_ ?_ ?_ ?_); rfl; rfl; exact hx; exact sizeObj; exact sz_cells _ _; exact one_cells _)
  refine wp_gen (fun W => BoxO W w.heap.size x ∧ W.heap[w.heap.size + 1]? = some (errObj 0) ∧ LenAt W (w.heap.size + 1 + 1) l'.length ∧ Below w.heap.size w W) ⟨hx.setRow x, (setRow_other _ _ _ _ (by omega)).trans he, hlen.of (setRow_other _ _ _ _ (by omega)), below_setRow hlow (Nat.le_refl _) _⟩ ?_
  clear hx he hlow hlen
  rintro W2 ⟨hx, he, hlen, hlow⟩
  go_wp2_with fail
  refine (end_any _ _ _ hlen).mono ?_
  rintro e W3 ⟨rfl, ⟨h0, rfl⟩ | ⟨h0, rfl⟩⟩
  · have HF : Hid (allR rdObj l = some x) := by
      show _ = _
      unfold allR
      rw [HP.out]
      simp [List.length_eq_zero_iff.1 h0]
    clear HP h0 hlen
    have he2 : (W2.setRow w.heap.size (cellsO x)).heap[w.heap.size + 1]? = some (errObj 0) := (setRow_other W2 w.heap.size (w.heap.size + 1) _ (by omega)).trans he
    have fz := frozen_of_row (W2.setRow w.heap.size (cellsO x)) (w.heap.size + 1) 0 _ _ he2
    have cz : (W2.setRow w.heap.size (cellsO x)).cell? ⟨w.heap.size + 1, 0, none⟩ = some (.int .i64 0) := (cell_of_row _ (w.heap.size + 1) 0 _ _ _ he2).trans rfl
    have HC : Hid (Caught w.heap.size w.heap.size (w.heap.size + 1) (.cells (cellsO x) 27 (0, 0)) 0 w ((W2.setRow w.heap.size (cellsO x)).setCell ⟨w.heap.size + 1, 0, none⟩ (.int .i64 0))) :=
      ⟨(heap_setCell_other _ ⟨w.heap.size + 1, 0, none⟩ w.heap.size _ (by simp)).trans (hx.setRow x), (heap_setCell_same _ (w.heap.size + 1) 0 _ _ _ he2).trans rfl, (below_setRow hlow (Nat.le_refl _) _).setCell (p := ⟨w.heap.size + 1, 0, none⟩) (by simp) _⟩
    clear he he2 hlow
    go_wp2_with (first | ((with_reducible refine wpList_load_obj ?_ rfl ?_ hx ?_); rfl; rfl) | ((with_reducible refine wpList_store_rowTo rfl 27 _ _ rfl rfl w.heap.size (cellsO x) ?_ ?_ 27 (cellsO x) ?_ ?_ ?_ ?_ ?_); rfl; rfl; exact hx; exact sizeObj; exact sz_cells _ _; exact one_cells _))
    refine leaves_cons (f := 58) (args := #[.pointer (some ⟨w.heap.size, 0, none⟩), .pointer (some ⟨w.heap.size + 1, 0, none⟩)]) (by simp) (by simp [go_sem]) ?_
    refine (catchO_idle w.heap.size (w.heap.size + 1) _).mono ?_
    rintro e u' W4 ⟨rfl, rfl, rfl⟩
    exact ⟨_, results_cc rfl rfl rfl (load_objV HC.out.x) (load_err HC.out.e), HC.out.low, .inl ⟨x, HF.out, rfl⟩⟩
  · have HF : Hid (allR rdObj l = none) := by
      show _ = _
      unfold allR
      rw [HP.out]
      show (if l' = [] then some x else none) = none
      rw [if_neg (fun e => h0 (by rw [e]; rfl))]
    clear HP h0 hlen
    go_wp2
    refine leaves_cons (f := 58) (args := #[.pointer (some ⟨w.heap.size, 0, none⟩), .pointer (some ⟨w.heap.size + 1, 0, none⟩)]) (by simp) (by simp [go_sem]) ?_
    refine (catchO_wrong w.heap.size w.heap.size (w.heap.size + 1) x 0 [] W2 hx he (by omega) ⟨by omega, by omega⟩).mono ?_
    rintro e u' W4 ⟨rfl, rfl, hC⟩
    exact ⟨_, results_cc rfl rfl rfl (load_objV hC.x) (load_err hC.e), hlow.trans hC.low, .inr ⟨HF.out, rfl⟩⟩
end Go.Proofs.Ytacbfpgknfcimaa.C
namespace Go.Proofs.Ytacbfpgknfcimaa.C
open Go.RowKit T O
open Go.Lib hiding intOf

set_option maxRecDepth 100000 in
set_option maxHeartbeats 2000000 in
theorem catchE_wrong (B px pe : Nat) (o : Ev) (n : Int) (older : List PanicEntry) (w : World) (hx : BoxE w px o) (he : w.heap[pe]? = some (errObj n)) (hne : px ≠ pe) (hB : B ≤ px ∧ B ≤ pe) :
    CallsD Try.prog 68 #[.pointer (some ⟨px, 0, none⟩), .pointer (some ⟨pe, 0, none⟩)] (.panicking ({ v := wrongV, recovered := false } :: older)) w fun e u' w' =>
      e = .returned (.tuple #[]) ∧ u' = .panicking ({ v := wrongV, recovered := true } :: older) ∧ Caught B px pe (.cells (cellsE Ev0) 29 (0, 0)) 2 w w' := by
  refine callsD_of_wpS Try.func68 rfl fun c₀ cs hu => ?_
  apply wpS_seq
  apply wpS_region
  simp [wpOpsS, go_sem, recoverD, hu, Try.ntmps68, Exit.thenS, Array.replicate, List.replicate]
  refine wpS_of_wp ?_
  unfold wrongV
  have hta := assert_wrong
  go_upto_region 8 with (fail)
  have hxl := hx.lt
  have hel := (Array.getElem?_eq_some_iff.1 he).1
  refine wp_gen (fun W => BoxE W (w.heap.size + 1) Ev0 ∧ BoxE W px o ∧ W.heap[pe]? = some (errObj n) ∧ Below w.heap.size w W) ⟨heap_alloc2_new w _ _, (hx.alloc _).alloc _, (Below.heap_alloc _ _ pe (by simp; omega)).trans ((Below.heap_alloc w _ pe hel).trans he), ((Below.refl _ _).alloc (Nat.le_refl _) _).alloc (by simp) _⟩ ?_
  clear hx he
  rintro W ⟨hn, hx, he, hlow⟩
  have he2 : (W.setRow px (cellsE Ev0)).heap[pe]? = some (errObj n) := (setRow_other W px pe _ (fun e => hne e.symm)).trans he
  have fz := frozen_of_row (W.setRow px (cellsE Ev0)) pe 0 _ _ he2
  have cz : (W.setRow px (cellsE Ev0)).cell? ⟨pe, 0, none⟩ = some (.int .i64 n) := (cell_of_row _ pe 0 _ _ _ he2).trans rfl
  have HF : Hid (Caught B px pe (.cells (cellsE Ev0) 29 (0, 0)) 2 w ((W.setRow px (cellsE Ev0)).setCell ⟨pe, 0, none⟩ (.int .i64 2))) :=
    ⟨(heap_setCell_other _ ⟨pe, 0, none⟩ px _ hne).trans (hx.setRow Ev0), (heap_setCell_same _ pe 0 _ _ _ he2).trans rfl, ((hlow.mono (by omega)).trans (below_setRow (Below.refl B W) hB.1 _)).setCell (p := ⟨pe, 0, none⟩) hB.2 _⟩
  clear he he2 hlow
  go_wp2_with (first | ((with_reducible refine wpList_load_ev ?_ rfl ?_ hn ?_); rfl; rfl) | ((with_reducible refine wpList_store_rowTo rfl 29 _ _ rfl rfl px (cellsE Ev0) ?_ ?_ 29 (cellsE o) ?_ ?_ ?_ ?_ ?_); rfl; rfl; exact hx; exact sizeEv; exact rfl; exact one_cellsE _))
  refine ⟨rfl, _, rfl, .tuple #[], by simp [results, Try.results68], rfl, rfl, HF.out⟩

set_option maxRecDepth 100000 in
set_option maxHeartbeats 2000000 in
theorem catchE_idle (px pe : Nat) (w : World) :
    CallsD Try.prog 68 #[.pointer (some ⟨px, 0, none⟩), .pointer (some ⟨pe, 0, none⟩)] .returning w fun e u' w' => e = .returned (.tuple #[]) ∧ u' = .returning ∧ w = w' := by
  refine callsD_of_wpS Try.func68 rfl fun c₀ cs hu => ?_
  apply wpS_seq
  apply wpS_region
  simp [wpOpsS, go_sem, recoverD, hu, Try.ntmps68, Exit.thenS, Array.replicate, List.replicate]
  refine wpS_of_wp ?_
  go_wp2
  cases c₀
  simp_all [bodyPostS, results, Try.results68]

/-- What stands where all is read: the result, the error, the reader. -/
structure AEv (w : World) (o : Ev) (n : Int) (W : World) : Prop where
  x : BoxE W w.heap.size o
  e : W.heap[w.heap.size + 1]? = some (errObj n)
  low : Below w.heap.size w W
  size : w.heap.size + 2 < W.heap.size


set_option maxRecDepth 100000 in
set_option maxHeartbeats 4000000 in
theorem readAllE_any (v : Value) (l : Bytes) (w : World) (h : BytesIn w v l) :
    Calls Try.prog 34 #[v, .func (.func 35) #[] #[]] w (ReadAs Ev rdEv encE Ev0 l w) := by
  have hmf : ∀ (fn : Fn) (first cap : Array Value) (w : World), (Instr.makeFunc fn first cap).run Try.prog w = .ok (.func fn first cap) w := fun _ _ _ _ => rfl
  obtain ⟨a, k, c, rfl⟩ := h.shape
  have hlt := fun b => h.lt (k := b)
  have H := Lib.hid h
  clear h
  go_enter_defers Try.func34, Try.ntmps34
  go_upto_region 3 with (fail)
  refine wp_gen (fun W => AEv w Ev0 0 W ∧ Left W (w.heap.size + 1 + 1) l) ⟨⟨((BoxE.new w Ev0).alloc _).alloc _, (Below.heap_alloc _ _ (w.heap.size + 1) (by simp)).trans (heap_alloc2_new w _ _), (((Below.refl _ _).alloc (Nat.le_refl _) _).alloc (by simp) _).alloc (by simp; omega) _, by simp⟩,
    ⟨.slice a k c, heap_alloc3_new w _ _ _, ((H.out.alloc _).alloc _).alloc _, fun b hb => by have := hlt b hb; omega⟩⟩ ?_
  rintro W0 ⟨hA, hL⟩
  clear H hlt
  go_wp2_with fail
  refine (readChange_any _ l _ hL).mono ?_
  rintro e W1 ⟨hg, ⟨x, l', hp, rfl, hL2⟩ | ⟨hp, rfl⟩⟩
  rotate_left
  · have hx : BoxE W1 w.heap.size Ev0 := (hg.block _ hA.x.lt (by simp; omega)).trans hA.x
    have he : W1.heap[w.heap.size + 1]? = some (errObj 0) := (hg.block _ (by have := hA.size; omega) (by simp)).trans hA.e
    have hlow : Below w.heap.size w W1 := hA.low.grown hg (by have := hA.size; omega) (by intro k hk; cases hk; omega)
    have HF : Hid (allR rdEv l = none) := by show _ = _; unfold allR; rw [hp]; rfl
    clear hg hA hL hp
    go_wp2
    refine leaves_cons (f := 68) (args := #[.pointer (some ⟨w.heap.size, 0, none⟩), .pointer (some ⟨w.heap.size + 1, 0, none⟩)]) (by simp) (by simp [go_sem]) ?_
    refine (catchE_wrong w.heap.size w.heap.size (w.heap.size + 1) Ev0 0 [] W1 hx he (by omega) ⟨by omega, by omega⟩).mono ?_
    rintro e u' W2 ⟨rfl, rfl, hC⟩
    exact ⟨_, results_cc rfl rfl rfl (load_evV hC.x) (load_err hC.e), hlow.trans hC.low, .inr ⟨HF.out, rfl⟩⟩
  have hx : BoxE W1 w.heap.size Ev0 := (hg.block _ hA.x.lt (by simp; omega)).trans hA.x
  have he : W1.heap[w.heap.size + 1]? = some (errObj 0) := (hg.block _ (by have := hA.size; omega) (by simp)).trans hA.e
  have hlow : Below w.heap.size w W1 := hA.low.grown hg (by have := hA.size; omega) (by intro k hk; cases hk; omega)
  have hlen := hL2.len
  have HP := Lib.hid hp
  clear hg hA hL hL2 hp
  go_upto_region 4 with ((with_reducible refine wpList_store_rowTo rfl 29 _ _ rfl rfl w.heap.size (cellsE x) ?_ ?_ 29 (cellsE Ev0) ?_ ?_ ?_ ?_ ?_); rfl; rfl; exact hx; exact sizeEv; exact rfl; exact one_cellsE _)
  refine wp_gen (fun W => BoxE W w.heap.size x ∧ W.heap[w.heap.size + 1]? = some (errObj 0) ∧ LenAt W (w.heap.size + 1 + 1) l'.length ∧ Below w.heap.size w W) ⟨hx.setRow x, (setRow_other _ _ _ _ (by omega)).trans he, hlen.of (setRow_other _ _ _ _ (by omega)), below_setRow hlow (Nat.le_refl _) _⟩ ?_
  clear hx he hlow hlen
  rintro W2 ⟨hx, he, hlen, hlow⟩
  go_wp2_with fail
  refine (end_any _ _ _ hlen).mono ?_
  rintro e W3 ⟨rfl, ⟨h0, rfl⟩ | ⟨h0, rfl⟩⟩
  · have HF : Hid (allR rdEv l = some x) := by
      show _ = _
      unfold allR
      rw [HP.out]
      simp [List.length_eq_zero_iff.1 h0]
    clear HP h0 hlen
    have he2 : (W2.setRow w.heap.size (cellsE x)).heap[w.heap.size + 1]? = some (errObj 0) := (setRow_other W2 w.heap.size (w.heap.size + 1) _ (by omega)).trans he
    have fz := frozen_of_row (W2.setRow w.heap.size (cellsE x)) (w.heap.size + 1) 0 _ _ he2
    have cz : (W2.setRow w.heap.size (cellsE x)).cell? ⟨w.heap.size + 1, 0, none⟩ = some (.int .i64 0) := (cell_of_row _ (w.heap.size + 1) 0 _ _ _ he2).trans rfl
    have HC : Hid (Caught w.heap.size w.heap.size (w.heap.size + 1) (.cells (cellsE x) 29 (0, 0)) 0 w ((W2.setRow w.heap.size (cellsE x)).setCell ⟨w.heap.size + 1, 0, none⟩ (.int .i64 0))) :=
      ⟨(heap_setCell_other _ ⟨w.heap.size + 1, 0, none⟩ w.heap.size _ (by simp)).trans (hx.setRow x), (heap_setCell_same _ (w.heap.size + 1) 0 _ _ _ he2).trans rfl, (below_setRow hlow (Nat.le_refl _) _).setCell (p := ⟨w.heap.size + 1, 0, none⟩) (by simp) _⟩
    clear he he2 hlow
    go_wp2_with (first | ((with_reducible refine wpList_load_ev ?_ rfl ?_ hx ?_); rfl; rfl) | ((with_reducible refine wpList_store_rowTo rfl 29 _ _ rfl rfl w.heap.size (cellsE x) ?_ ?_ 29 (cellsE x) ?_ ?_ ?_ ?_ ?_); rfl; rfl; exact hx; exact sizeEv; exact rfl; exact one_cellsE _))
    refine leaves_cons (f := 68) (args := #[.pointer (some ⟨w.heap.size, 0, none⟩), .pointer (some ⟨w.heap.size + 1, 0, none⟩)]) (by simp) (by simp [go_sem]) ?_
    refine (catchE_idle w.heap.size (w.heap.size + 1) _).mono ?_
    rintro e u' W4 ⟨rfl, rfl, rfl⟩
    exact ⟨_, results_cc rfl rfl rfl (load_evV HC.out.x) (load_err HC.out.e), HC.out.low, .inl ⟨x, HF.out, rfl⟩⟩
  · have HF : Hid (allR rdEv l = none) := by
      show _ = _
      unfold allR
      rw [HP.out]
      show (if l' = [] then some x else none) = none
      rw [if_neg (fun e => h0 (by rw [e]; rfl))]
    clear HP h0 hlen
    go_wp2
    refine leaves_cons (f := 68) (args := #[.pointer (some ⟨w.heap.size, 0, none⟩), .pointer (some ⟨w.heap.size + 1, 0, none⟩)]) (by simp) (by simp [go_sem]) ?_
    refine (catchE_wrong w.heap.size w.heap.size (w.heap.size + 1) x 0 [] W2 hx he (by omega) ⟨by omega, by omega⟩).mono ?_
    rintro e u' W4 ⟨rfl, rfl, hC⟩
    exact ⟨_, results_cc rfl rfl rfl (load_evV hC.x) (load_err hC.e), hlow.trans hC.low, .inr ⟨HF.out, rfl⟩⟩

set_option maxRecDepth 100000 in
set_option maxHeartbeats 2000000 in
theorem read_any (v : Value) (l : Bytes) (w : World) (h : BytesIn w v l) :
    Calls Try.prog 17 #[v] w (ReadAs O.Obj rdObj encO O0 l w) := by
  obtain ⟨a, k, c, hv⟩ := h.shape
  subst hv
  have H := Lib.hid (h.alloc (.cells (cellsO O0) 27 (0, 0)))
  clear h
  go_enter Try.func17, Try.ntmps17
  go_upto_region 1 with (fail)
  refine wp_gen (fun W => BytesIn W (.slice a k c) l ∧ BoxO W w.heap.size O0 ∧ Below w.heap.size w W) ⟨H.out, BoxO.new w O0, (Below.refl _ _).alloc (Nat.le_refl _) _⟩ ?_
  clear H
  rintro W0 ⟨hB, hn, hlow⟩
  go_wp2_with fail
  refine (readAllO_any _ l _ hB).mono ?_
  rintro e W1 ⟨hb, hr⟩
  replace hn := hn.after hb
  replace hlow := hlow.trans (hb.mono hlow.size)
  clear hb hB
  rcases hr with ⟨x, hx, rfl⟩ | ⟨hx, rfl⟩
  · have HF := Lib.hid hx
    clear hx
    go_wp2_with ((with_reducible refine wpList_store_rowTo rfl 27 _ _ rfl rfl w.heap.size (cellsO x) ?_ ?_ 27 (cellsO O0) ?_ ?_ ?_ ?_ ?_); rfl; rfl; exact hn; exact sizeObj; exact sz_cells _ _; exact one_cells _)
    refine bodyPost_ret (v := .tuple #[encO x, .int .i64 0]) (results_ct rfl rfl rfl (load_objV (hn.setRow x))) rfl ⟨below_setRow hlow (Nat.le_refl _) _, .inl ⟨x, HF.out, rfl⟩⟩
  · have HF := Lib.hid hx
    clear hx
    go_wp2_with ((with_reducible refine wpList_store_rowTo rfl 27 _ _ rfl rfl w.heap.size (cellsO O0) ?_ ?_ 27 (cellsO O0) ?_ ?_ ?_ ?_ ?_); rfl; rfl; exact hn; exact sizeObj; exact sz_cells _ _; exact one_cells _)
    refine bodyPost_ret (v := .tuple #[encO O0, .int .i64 2]) (results_ct rfl rfl rfl (load_objV (hn.setRow O0))) rfl ⟨below_setRow hlow (Nat.le_refl _) _, .inr ⟨HF.out, rfl⟩⟩

set_option maxRecDepth 100000 in
set_option maxHeartbeats 2000000 in
theorem readChangeAll_any (v : Value) (l : Bytes) (w : World) (h : BytesIn w v l) :
    Calls Try.prog 19 #[v] w (ReadAs Ev rdEv encE Ev0 l w) := by
  obtain ⟨a, k, c, hv⟩ := h.shape
  subst hv
  have H := Lib.hid (h.alloc (.cells (cellsE Ev0) 29 (0, 0)))
  clear h
  go_enter Try.func19, Try.ntmps19
  go_upto_region 1 with (fail)
  refine wp_gen (fun W => BytesIn W (.slice a k c) l ∧ BoxE W w.heap.size Ev0 ∧ Below w.heap.size w W) ⟨H.out, BoxE.new w Ev0, (Below.refl _ _).alloc (Nat.le_refl _) _⟩ ?_
  clear H
  rintro W0 ⟨hB, hn, hlow⟩
  go_wp2_with fail
  refine (readAllE_any _ l _ hB).mono ?_
  rintro e W1 ⟨hb, hr⟩
  replace hn := hn.after hb
  replace hlow := hlow.trans (hb.mono hlow.size)
  clear hb hB
  rcases hr with ⟨x, hx, rfl⟩ | ⟨hx, rfl⟩
  · have HF := Lib.hid hx
    clear hx
    go_wp2_with ((with_reducible refine wpList_store_rowTo rfl 29 _ _ rfl rfl w.heap.size (cellsE x) ?_ ?_ 29 (cellsE Ev0) ?_ ?_ ?_ ?_ ?_); rfl; rfl; exact hn; exact sizeEv; exact rfl; exact one_cellsE _)
    refine bodyPost_ret (v := .tuple #[encE x, .int .i64 0]) (results_ct rfl rfl rfl (load_evV (hn.setRow x))) rfl ⟨below_setRow hlow (Nat.le_refl _) _, .inl ⟨x, HF.out, rfl⟩⟩
  · have HF := Lib.hid hx
    clear hx
    go_wp2_with ((with_reducible refine wpList_store_rowTo rfl 29 _ _ rfl rfl w.heap.size (cellsE Ev0) ?_ ?_ 29 (cellsE Ev0) ?_ ?_ ?_ ?_ ?_); rfl; rfl; exact hn; exact sizeEv; exact rfl; exact one_cellsE _)
    refine bodyPost_ret (v := .tuple #[encE Ev0, .int .i64 2]) (results_ct rfl rfl rfl (load_evV (hn.setRow Ev0))) rfl ⟨below_setRow hlow (Nat.le_refl _) _, .inr ⟨HF.out, rfl⟩⟩
end Go.Proofs.Ytacbfpgknfcimaa.C
