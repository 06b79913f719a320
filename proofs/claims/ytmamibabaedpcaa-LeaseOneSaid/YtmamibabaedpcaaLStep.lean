/- lease.step, and lease.Try. -/
import Derived.Test.YtmamibabaedpcaaLTry
import Derived.Test.YtmamibabaedpcaaHeldBy
namespace Go.Proofs.Ytmamibabaedpcaa.L
open Go.RowKit T O
open Go.Lib

def errAt (n : Int) : Go.Obj := .cells #[.int .i64 n] 27 (0, 0)
/-- What the deferred function leaves. -/
structure Caught (B px pe : Nat) (x : Lz) (n : Int) (W W' : World) : Prop where
  x : BoxL W' px x
  e : W'.heap[pe]? = some (errAt n)
  low : Below B W W'

/-- The block of what was given up. -/
def UpAt (W : World) (b : Nat) (n : Int) : Prop := W.heap[b]? = some (.cells #[.int .i64 n] 66 (0, 0))
theorem UpAt.cell {W : World} {b : Nat} {n : Int} (h : UpAt W b n) : W.cell? ⟨b, 0, none⟩ = some (.int .i64 n) := (cell_of_row W b 0 _ _ _ h).trans rfl
theorem UpAt.row {W : World} {b : Nat} {n : Int} (h : UpAt W b n) {g : Nat} (hg : b ≠ g) (cs : Array Value) : UpAt (W.setRow g cs) b n := (setRow_other W g b cs hg).trans h
theorem UpAt.other {W : World} {b : Nat} {n : Int} (h : UpAt W b n) {p : Addr} (hp : b ≠ p.block) (v : Value) : UpAt (W.setCell p v) b n := (heap_setCell_other W p b v hp).trans h
theorem store_lz {W : World} {b : Nat} {x y : Lz} (h : BoxL W b x) {oi : Oper} {a : Act} {p q : Operand} (ho : oi.op = .store 24 p q) (hx : a.eval p = .pointer (some ⟨b, 0, none⟩)) (hy : a.eval q = .agg (cellsL y)) :
    (execOp a.eval oi).run Try.prog W = .ok .skip (W.setRow b (cellsL y)) := by
  have hq := run_storeVar_row (P := Try.prog) W b 24 24 (cellsL x) (cellsL y) h sizeL rfl (one_L _)
  unfold execOp
  simp only [ho, hx, hy, Instr.storeAt, Instr.sureAddr, Sem.run_bind, Sem.run_pure, Result.andThen_ok, hq]
theorem assert_up (n : Int) (w : World) : (Instr.typeAssert (.iface 66 (.agg #[.int .i64 n])) 20 66 true).run Try.prog w = .ok (.tuple #[.agg #[.int .i64 n], .bool true]) w := by kernel_rfl

set_option maxRecDepth 100000 in
set_option maxHeartbeats 2000000 in
theorem catch_up (B px pe : Nat) (x : Lz) (m n : Int) (older : List PanicEntry) (w : World) (hx : BoxL w px x) (he : w.heap[pe]? = some (errAt m)) (hne : px ≠ pe) (hB : B ≤ px ∧ B ≤ pe) :
    CallsD Try.prog 32 #[.pointer (some ⟨px, 0, none⟩), .pointer (some ⟨pe, 0, none⟩)] (.panicking ({ v := gaveV n, recovered := false } :: older)) w fun e u' w' =>
      e = .returned (.tuple #[]) ∧ u' = .panicking ({ v := gaveV n, recovered := true } :: older) ∧ Caught B px pe Lz0 n w w' := by
  refine callsD_of_wpS Try.func32 rfl fun c₀ cs hu => ?_
  apply wpS_seq
  apply wpS_region
  simp [wpOpsS, go_sem, recoverD, hu, Try.ntmps32, Exit.thenS, Array.replicate, List.replicate]
  refine wpS_of_wp ?_
  unfold gaveV
  have hta := assert_up
  go_upto_region 7 with (fail)
  have hxl := hx.lt
  have hel := (Array.getElem?_eq_some_iff.1 he).1
  refine wp_region_held_drew (S := fun V => UpAt V w.heap.size n) (by kernel_rfl) (show UpAt _ _ _ from heap_alloc_new w _) (fun _ => ?_)
  refine HeldBy.gen (fun V => UpAt V w.heap.size n ∧ BoxL V px x ∧ V.heap[pe]? = some (errAt m) ∧ Below B w V) ⟨heap_alloc_new w _, hx.alloc _, (Below.heap_alloc w _ pe hel).trans he, ((Below.refl _ _).alloc (by omega) _).drew⟩ ?_
  rintro U ⟨HS, hx1, he1, hlow⟩
  refine HeldBy.take (i := 0) rfl (by kernel_rfl) (by kernel_rfl) (by kernel_rfl) (fun _ _ _ h => h) (by rfl) (fun _ _ => by first | (go_simp; rfl) | (go_simp; done)) (by go_simp; rfl) HS ?_
  refine HeldBy.take (i := 1) rfl (by kernel_rfl) (by kernel_rfl) (by kernel_rfl) (fun _ _ _ h => h) (by rfl) (fun _ _ => by first | (go_simp; rfl) | (go_simp; done)) (by go_simp; rfl) HS ?_
  refine HeldBy.take (i := 2) (v := .int .i64 n) rfl (by kernel_rfl) (by kernel_rfl) (by kernel_rfl) (fun _ _ _ h => h) (by rfl) (fun V hV => by have hc := hV.cell; go_simp) (by go_simp; rfl) HS ?_
  refine HeldBy.store (i := 3) (w' := U.setRow px (cellsL Lz0)) rfl (by kernel_rfl) (by rfl) (store_lz (y := Lz0) hx1 rfl (by go_simp) (by go_simp; rfl)) (by go_simp; rfl) (HS.row (g := px) (by omega) _) ?_
  have he2 : (U.setRow px (cellsL Lz0)).heap[pe]? = some (errAt m) := (setRow_other U px pe _ (fun e => hne e.symm)).trans he1
  have fz := frozen_of_row (U.setRow px (cellsL Lz0)) pe 0 _ _ he2
  have cz : (U.setRow px (cellsL Lz0)).cell? ⟨pe, 0, none⟩ = some (.int .i64 m) := (cell_of_row _ pe 0 _ _ _ he2).trans rfl
  refine HeldBy.store (i := 4) (w' := (U.setRow px (cellsL Lz0)).setCell ⟨pe, 0, none⟩ (.int .i64 n)) rfl (by kernel_rfl) (by rfl) (by go_simp) (by go_simp; rfl) ((HS.row (g := px) (by omega) _).other (p := ⟨pe, 0, none⟩) (by simp; omega) _) ?_
  refine wpAnyH_done (by kernel_rfl) ?_ _
  have HF : Hid (Caught B px pe Lz0 n w ((U.setRow px (cellsL Lz0)).setCell ⟨pe, 0, none⟩ (.int .i64 n))) :=
    ⟨(hx1.setRow Lz0).other hne _, (heap_setCell_same _ pe 0 _ _ _ he2).trans rfl, (below_setRow hlow hB.1 _).setCell (p := ⟨pe, 0, none⟩) hB.2 _⟩
  clear he he1 he2 hlow fz cz HS hx hx1
  go_wp2
  refine ⟨rfl, _, rfl, .tuple #[], by simp [results, Try.results32], rfl, rfl, HF.out⟩

set_option maxRecDepth 100000 in
set_option maxHeartbeats 2000000 in
theorem catch_idle (px pe : Nat) (w : World) :
    CallsD Try.prog 32 #[.pointer (some ⟨px, 0, none⟩), .pointer (some ⟨pe, 0, none⟩)] .returning w fun e u' w' => e = .returned (.tuple #[]) ∧ u' = .returning ∧ w = w' := by
  refine callsD_of_wpS Try.func32 rfl fun c₀ cs hu => ?_
  apply wpS_seq
  apply wpS_region
  simp [wpOpsS, go_sem, recoverD, hu, Try.ntmps32, Exit.thenS, Array.replicate, List.replicate]
  refine wpS_of_wp ?_
  go_wp2
  cases c₀
  simp_all [bodyPostS, results, Try.results32]
end Go.Proofs.Ytmamibabaedpcaa.L
