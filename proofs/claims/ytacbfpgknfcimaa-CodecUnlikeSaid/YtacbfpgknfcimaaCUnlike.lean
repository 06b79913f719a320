/- The law CodecUnlike: its walk. -/
import Derived.Test.YtacbfpgknfcimaaCCalls
import Derived.Test.YtacbfpgknfcimaaCRead
namespace Go.Proofs.Ytacbfpgknfcimaa.C
open Go.RowKit T O
open Go.Lib hiding intOf

/-- What stands where two objects have bytes. -/
structure Two (w : World) (a b : O.Obj) (va vb : Value) (la lb : Bytes) (W : World) : Prop where
  a : BoxO W w.heap.size a
  b : BoxO W (w.heap.size + 1) b
  va : BytesIn W va la
  vb : BytesIn W vb lb
theorem Two.after {w : World} {a b : O.Obj} {va vb : Value} {la lb : Bytes} {W W1 : World} (h : Two w a b va vb la lb W) (hb : Below W.heap.size W W1) : Two w a b va vb la lb W1 := ⟨h.a.after hb, h.b.after hb, h.va.after hb, h.vb.after hb⟩
theorem BytesIn.drew {W : World} {v : Value} {l : Bytes} (h : BytesIn W v l) : BytesIn W.drew v l := h.after ⟨rfl, rfl, rfl, Nat.le_refl _, fun _ _ => rfl⟩
theorem Two.drew {w : World} {a b : O.Obj} {va vb : Value} {la lb : Bytes} {W : World} (h : Two w a b va vb la lb W) : Two w a b va vb la lb W.drew := ⟨h.a.drew, h.b.drew, h.va.drew, h.vb.drew⟩

set_option maxRecDepth 100000 in
set_option maxHeartbeats 4000000 in
theorem codecUnlike_any (a b : O.Obj) (fa : Fits a) (fb : Fits b) (w : World) :
    Calls Try.prog 9 #[encO a, encO b] w fun e w' => e = .returned (.bool true) ∧ Below w.heap.size w w' := by
  unfold encO
  go_enter Try.func9, Try.ntmps9
  go_upto_region 1 with (fail)
  refine wp_gen (fun W => BoxO W w.heap.size a ∧ BoxO W (w.heap.size + 1) b ∧ Below w.heap.size w W) ⟨(BoxO.new w a).alloc _, heap_alloc2_new w _ _, ((Below.refl _ _).alloc (Nat.le_refl _) _).alloc (by simp) _⟩ ?_
  rintro W1 ⟨ha, hb, hlow⟩
  cases ra : rightB a with
  | false =>
    have RA := Lib.hid ra
    clear ra
    go_wp2_with ((with_reducible refine wpList_load_obj ?_ rfl ?_ ha ?_); rfl; rfl)
    refine (object_bad fa RA.out _).mono ?_
    rintro e W2 ⟨hb1, va, rfl, -⟩
    replace hb := hb.after hb1
    replace hlow := hlow.trans (hb1.mono hlow.size)
    clear hb1 ha
    go_wp2_with ((with_reducible refine wpList_load_obj ?_ rfl ?_ hb ?_); rfl; rfl)
    refine (object_any b fb _).mono ?_
    rintro e W3 ⟨hb1, vb, rfl, -⟩
    replace hlow := hlow.trans (hb1.mono hlow.size)
    clear hb1 hb
    generalize (if rightB b = true then (0 : Int) else 2) = n
    go_wp2_with fail
    refine (live_any _).mono ?_
    rintro e W4 ⟨rfl, hb1⟩
    replace hlow := hlow.trans (hb1.mono hlow.size)
    clear hb1
    go_wp2
    go_ret
    exact ⟨rfl, hlow⟩
  | true =>
  have RA := Lib.hid ra
  clear ra
  go_wp2_with ((with_reducible refine wpList_load_obj ?_ rfl ?_ ha ?_); rfl; rfl)
  refine (object_ok fa RA.out _).mono ?_
  rintro e W2 ⟨hb1, va, rfl, hva⟩
  have hva := hva.bytes
  replace ha := ha.after hb1
  replace hb := hb.after hb1
  replace hlow := hlow.trans (hb1.mono hlow.size)
  clear hb1
  cases rb : rightB b with
  | false =>
    have RB := Lib.hid rb
    clear rb hva ha
    go_wp2_with ((with_reducible refine wpList_load_obj ?_ rfl ?_ hb ?_); rfl; rfl)
    refine (object_bad fb RB.out _).mono ?_
    rintro e W3 ⟨hb1, vb, rfl, -⟩
    replace hlow := hlow.trans (hb1.mono hlow.size)
    clear hb1 hb
    go_wp2_with fail
    refine (live_any _).mono ?_
    rintro e W4 ⟨rfl, hb1⟩
    replace hlow := hlow.trans (hb1.mono hlow.size)
    clear hb1
    go_wp2
    go_ret
    exact ⟨rfl, hlow⟩
  | true =>
  have RB := Lib.hid rb
  clear rb
  go_wp2_with ((with_reducible refine wpList_load_obj ?_ rfl ?_ hb ?_); rfl; rfl)
  refine (object_ok fb RB.out _).mono ?_
  rintro e W3 ⟨hb1, vb, rfl, hvb⟩
  have hvb := hvb.bytes
  have HT : Two w a b va vb (objB a) (objB b) W3 := ⟨ha.after hb1, hb.after hb1, hva.after hb1, hvb⟩
  replace hlow := hlow.trans (hb1.mono hlow.size)
  clear hb1 ha hb hva hvb
  have HE : Hid ((objB a == objB b) = decide (a = b)) := by
    show _ = _
    rw [Bool.eq_iff_iff]
    simp only [decide_eq_true_eq, beq_iff_eq]
    exact ⟨fun h => lawObj.inj (wf_fits fa RA.out) (wf_fits fb RB.out) h, fun h => by rw [h]⟩
  clear RA RB fa fb
  go_upto_region 5 with (fail)
  refine wp_region_held_drew (S := fun W => Two w a b va vb (objB a) (objB b) W) (by kernel_rfl) HT.drew (fun _ => ?_)
  refine HeldBy.gen (fun W => Two w a b va vb (objB a) (objB b) W ∧ Below w.heap.size w W) ⟨HT.drew, hlow.drew⟩ ?_
  clear HT hlow
  rintro V0 ⟨hS, hlow⟩
  refine HeldBy.call (i := 0) (v := .bool true) rfl (by kernel_rfl) (by rfl) (by go_simp; exact ⟨rfl, rfl⟩) (by go_simp; rfl) ?_
  refine (live_any _).mono ?_
  rintro e V1 ⟨rfl, hb1⟩
  refine ⟨rfl, hS.after hb1, ?_⟩
  replace hS := hS.after hb1
  replace hlow := hlow.trans (hb1.mono hlow.size)
  clear hb1
  refine HeldBy.take (i := 1) rfl (by kernel_rfl) (by kernel_rfl) (by kernel_rfl) (fun _ _ _ h => h) (by rfl) (fun _ _ => by go_simp; rfl) (by go_simp; rfl) hS ?_
  refine HeldBy.take (i := 2) rfl (by kernel_rfl) (by kernel_rfl) (by kernel_rfl) (fun _ _ _ h => h) (by rfl) (fun _ _ => by go_simp; rfl) (by go_simp; rfl) hS ?_
  refine HeldBy.take (i := 3) rfl (by kernel_rfl) (by kernel_rfl) (by kernel_rfl) (fun _ _ _ h => h) (by rfl) (fun _ h => by have c := h.va.str 9 Try.underlying9; go_simp; rfl) (by go_simp; rfl) hS ?_
  refine HeldBy.take (i := 4) rfl (by kernel_rfl) (by kernel_rfl) (by kernel_rfl) (fun _ _ _ h => h) (by rfl) (fun _ _ => by go_simp; rfl) (by go_simp; rfl) hS ?_
  refine HeldBy.take (i := 5) rfl (by kernel_rfl) (by kernel_rfl) (by kernel_rfl) (fun _ _ _ h => h) (by rfl) (fun _ h => by have c := h.vb.str 9 Try.underlying9; go_simp; rfl) (by go_simp; rfl) hS ?_
  refine HeldBy.take (i := 6) (v := .bool (decide (a = b))) rfl (by kernel_rfl) (by kernel_rfl) (by kernel_rfl) (fun _ _ _ h => h) (by rfl) (fun _ _ => by go_simp; exact HE.out) (by go_simp; rfl) hS ?_
  refine HeldBy.take (i := 7) rfl (by kernel_rfl) (by kernel_rfl) (by kernel_rfl) (fun _ _ _ h => h) (by rfl) (fun _ h => load_obj h.a rfl (by go_simp)) (by go_simp; rfl) hS ?_
  refine HeldBy.take (i := 8) rfl (by kernel_rfl) (by kernel_rfl) (by kernel_rfl) (fun _ _ _ h => h) (by rfl) (fun _ h => load_obj h.b rfl (by go_simp)) (by go_simp; rfl) hS ?_
  refine HeldBy.take (i := 9) (v := .bool (decide (a = b))) rfl (by kernel_rfl) (by kernel_rfl) (by kernel_rfl) (fun _ _ _ h => h) (by rfl) (fun _ _ => eql_objs rfl (by go_simp) (by go_simp) rfl) (by go_simp; rfl) hS ?_
  generalize decide (a = b) = t at *
  refine HeldBy.take (i := 10) (v := .bool true) rfl (by kernel_rfl) (by kernel_rfl) (by kernel_rfl) (fun _ _ _ h => h) (by rfl) (fun _ _ => by first | (go_simp; done) | (go_simp; simp)) (by go_simp; rfl) hS ?_
  refine HeldBy.take (i := 11) rfl (by kernel_rfl) (by kernel_rfl) (by kernel_rfl) (fun _ _ _ h => h) (by rfl) (fun _ _ => by go_simp; rfl) (by go_simp; rfl) hS ?_
  refine HeldBy.take (i := 12) rfl (by kernel_rfl) (by kernel_rfl) (by kernel_rfl) (fun _ _ _ h => h) (by rfl) (fun _ _ => by go_simp; rfl) (by go_simp; rfl) hS ?_
  refine wpAnyH_done (by kernel_rfl) ?_ _
  go_wp2
  go_ret
  exact ⟨rfl, hlow⟩
end Go.Proofs.Ytacbfpgknfcimaa.C
