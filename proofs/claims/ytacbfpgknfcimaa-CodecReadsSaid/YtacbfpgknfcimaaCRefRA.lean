/- The document's Read and ReadChange. -/
import Derived.Test.YtacbfpgknfcimaaCRefRO
import Derived.Test.YtacbfpgknfcimaaCAlls
namespace Go.Proofs.Ytacbfpgknfcimaa.C
open Go.RowKit T O
open Go.Lib hiding intOf

section
variable {α : Type} {P : Rd α} {a : α} {l l' : Bytes}
theorem all_none (h : Got (some l) P a none) : allR P l = none := by
  have := h.1
  show (P l).bind _ = none
  cases hp : P l with
  | none => rfl
  | some x => rw [Option.bind_some, hp] at this; cases this
theorem all_left (h : Got (some l) P a (some l')) : allR P l = if l' = [] then some a else none := by
  have h1 := h.1
  show (P l).bind _ = _
  cases hp : P l with
  | none => rw [Option.bind_some, hp] at h1; cases h1
  | some x =>
    have h2 := h.2 x (by rw [Option.bind_some, hp])
    rw [Option.bind_some, hp] at h1
    obtain rfl := Option.some.inj h1
    rw [h2]; rfl
end

set_option maxRecDepth 100000 in
set_option maxHeartbeats 4000000 in
theorem refRead_any (v : Value) (l : Bytes) (w : World) (h : BytesIn w v l) :
    Calls Try.prog 18 #[v] w (ReadAs O.Obj rdObj encO O0 l w) := by
  obtain ⟨a, k, c, rfl⟩ := h.shape
  have hlt := fun b => h.lt (k := b)
  have H := Lib.hid h
  clear h
  go_enter Try.func18, Try.ntmps18
  go_upto_region 2 with (fail)
  refine wp_gen (fun W => BoxO W w.heap.size O0 ∧ RX W (w.heap.size + 1) (some l) ∧ Below w.heap.size w W ∧ w.heap.size + 2 ≤ W.heap.size) ⟨(BoxO.new w O0).alloc _, ⟨false, l, ⟨.slice a k c, heap_alloc2_new w _ _, (H.out.alloc _).alloc _, fun b hb => by have := hlt b hb; omega⟩, rfl⟩, ((Below.refl _ _).alloc (Nat.le_refl _) _).alloc (by simp) _, by simp⟩ ?_
  clear H hlt
  rintro W0 ⟨hA, hR, hlow, hz⟩
  go_wp2_with fail
  refine (refReadObject_any _ _ _ hR).mono ?_
  rintro e W1 ⟨hg, O, X, rfl, -, hR1, G⟩
  replace hA := BoxO.kept' hA hg (by simp)
  replace hlow : Below w.heap.size w W1 := hlow.grown hg (by omega) (by intro k hk; cases hk; omega)
  have hz1 := hg.size
  have hn := BoxO.new W1 O0
  clear hg hR
  go_upto_region 3 with ((with_reducible refine wpList_store_rowTo rfl 27 _ _ rfl rfl W1.heap.size (cellsO O) ?_ ?_ 27 (cellsO O0) ?_ ?_ ?_ ?_ ?_); rfl; rfl; exact hn; exact sizeObj; exact sz_cells _ _; exact one_cells _)
  have hbb := below_setRow ((Below.refl W1.heap.size W1).alloc (Nat.le_refl _) (.cells (cellsO O0) 27 (0, 0))) (Nat.le_refl _) (cellsO O)
  refine wp_gen (fun W => BoxO W w.heap.size O0 ∧ BoxO W W1.heap.size O ∧ RX W (w.heap.size + 1) X ∧ Below w.heap.size w W) ⟨hA.after hbb, hn.setRow O, hR1.after hbb, hlow.trans (hbb.mono hlow.size)⟩ ?_
  clear hA hn hR1 hlow hbb
  rintro W2 ⟨hA, hn, ⟨bad, l', hL, rfl⟩, hlow⟩
  have c1 := hL.c1
  have f1 := hL.f1 1
  cases bad with
  | true =>
    have HQ := Lib.hid (all_none G)
    clear G hL
    go_wp2_with ((with_reducible refine wpList_store_rowTo rfl 27 _ _ rfl rfl w.heap.size (cellsO O0) ?_ ?_ 27 (cellsO O0) ?_ ?_ ?_ ?_ ?_); rfl; rfl; exact hA; exact sizeObj; exact sz_cells _ _; exact one_cells _)
    exact bodyPost_ret (results_ct rfl rfl rfl (load_objV (hA.setRow O0))) rfl ⟨below_setRow hlow (Nat.le_refl _) _, .inr ⟨HQ.out, rfl⟩⟩
  | false =>
    have HQ := Lib.hid (all_left G)
    obtain ⟨v, hbox, hB, hne⟩ := hL
    have hcell : W2.cell? ⟨w.heap.size + 1, 0, none⟩ = some v := (cell_of_row W2 (w.heap.size + 1) 0 _ _ _ hbox).trans rfl
    have hl := hB.len
    clear G hB hne hbox
    cases l' with
    | nil =>
      simp only [List.length_nil] at hl
      go_wp2_with (first | ((with_reducible refine wpList_load_obj ?_ rfl ?_ hn ?_); rfl; rfl) | ((with_reducible refine wpList_store_rowTo rfl 27 _ _ rfl rfl w.heap.size (cellsO O) ?_ ?_ 27 (cellsO O0) ?_ ?_ ?_ ?_ ?_); rfl; rfl; exact hA; exact sizeObj; exact sz_cells _ _; exact one_cells _))
      exact bodyPost_ret (results_ct rfl rfl rfl (load_objV (hA.setRow O))) rfl ⟨below_setRow hlow (Nat.le_refl _) _, .inl ⟨O, HQ.out, rfl⟩⟩
    | cons b l2 =>
      have hn0 : (((b :: l2).length : Int) == 0) = false := by rw [List.length_cons]; simp; omega
      generalize (b :: l2).length = L at hl hn0
      go_wp2_with ((with_reducible refine wpList_store_rowTo rfl 27 _ _ rfl rfl w.heap.size (cellsO O0) ?_ ?_ 27 (cellsO O0) ?_ ?_ ?_ ?_ ?_); rfl; rfl; exact hA; exact sizeObj; exact sz_cells _ _; exact one_cells _)
      exact bodyPost_ret (results_ct rfl rfl rfl (load_objV (hA.setRow O0))) rfl ⟨below_setRow hlow (Nat.le_refl _) _, .inr ⟨HQ.out, rfl⟩⟩

theorem Got.goneB {b : UInt8} {X X1 : Option Bytes} (h : Got X rdByte b X1) : Got X rdGone (decide (b.toNat = 1)) (if decide (b.toNat ≤ 1) = true then X1 else Option.none) :=
  (h.keep (fun b => decide (b.toNat ≤ 1)) b (fun _ => rfl) _ rfl).map (fun b => decide (b.toNat = 1))
theorem got_ev {X X1 X2 X3 : Option Bytes} {n : Int} {g : Bool} {o : O.Obj} (h1 : Got X rdU64 n X1) (h2 : Got X1 rdGone g X2) (h3 : Got X2 rdObj o X3) : Got X rdEv (⟨n, g, o⟩ : Ev) X3 :=
  (h1.pair (h2.pair h3)).map fun x => (⟨x.1, x.2.1, x.2.2⟩ : Ev)

set_option maxRecDepth 100000 in
set_option maxHeartbeats 8000000 in
theorem refReadChange_any (v : Value) (l : Bytes) (w : World) (h : BytesIn w v l) :
    Calls Try.prog 20 #[v] w (ReadAs Ev rdEv encE Ev0 l w) := by
  obtain ⟨a, k, c, rfl⟩ := h.shape
  have hlt := fun b => h.lt (k := b)
  have H := Lib.hid h
  clear h
  go_enter Try.func20, Try.ntmps20
  go_upto_region 2 with (fail)
  refine wp_gen (fun W => BoxE W w.heap.size Ev0 ∧ RX W (w.heap.size + 1) (some l) ∧ Below w.heap.size w W ∧ w.heap.size + 2 ≤ W.heap.size) ⟨(BoxE.new w Ev0).alloc _, ⟨false, l, ⟨.slice a k c, heap_alloc2_new w _ _, (H.out.alloc _).alloc _, fun b hb => by have := hlt b hb; omega⟩, rfl⟩, ((Below.refl _ _).alloc (Nat.le_refl _) _).alloc (by simp) _, by simp⟩ ?_
  clear H hlt
  rintro W0 ⟨hA, hR, hlow, hz⟩
  go_wp2_with fail
  refine (refNumX _ _ _ hR).mono ?_
  rintro e W1 ⟨hg, x1, X1, rfl, -, hR1, G1⟩
  replace hA := hA.kept hg (by simp)
  replace hlow : Below w.heap.size w W1 := hlow.grown hg (by omega) (by intro k hk; cases hk; omega)
  replace hz : w.heap.size + 2 ≤ W1.heap.size := Nat.le_trans hz hg.size
  have hn := BoxE.new W1 Ev0
  clear hg hR
  go_upto_region 3 with ((with_reducible refine wpList_store_rowTo rfl 29 _ _ rfl rfl W1.heap.size (cellsE ⟨x1, false, O0⟩) ?_ ?_ 29 (cellsE Ev0) ?_ ?_ ?_ ?_ ?_); rfl; rfl; exact hn; exact sizeEv; exact rfl; exact one_cellsE _)
  have hbb := below_setRow ((Below.refl W1.heap.size W1).alloc (Nat.le_refl _) (.cells (cellsE Ev0) 29 (0, 0))) (Nat.le_refl _) (cellsE ⟨x1, false, O0⟩)
  obtain ⟨eb, heb⟩ : ∃ eb, eb = W1.heap.size := ⟨_, rfl⟩
  rw [← heb] at hbb hn hz ⊢
  refine wp_gen (fun W => BoxE W w.heap.size Ev0 ∧ BoxE W eb ⟨x1, false, O0⟩ ∧ RX W (w.heap.size + 1) X1 ∧ Below w.heap.size w W) ⟨hA.below hbb (by omega), hn.setRow ⟨x1, false, O0⟩, hR1.above hbb (by omega), hlow.trans (hbb.mono (by omega))⟩ ?_
  clear hA hn hR1 hlow hbb heb
  rintro W2 ⟨hA, hn, hR, hlow⟩
  go_wp2_with fail
  refine (refOneX _ _ _ hR).mono ?_
  rintro e W3 ⟨hg, x2, X2, rfl, -, hR2, G2⟩
  have hneb := hn.lt
  replace hA := hA.kept hg (by simp)
  replace hn := hn.kept hg (by simp; omega)
  replace hlow : Below w.heap.size w W3 := hlow.grown hg (by omega) (by intro k hk; cases hk; omega)
  clear hg hR hneb
  unfold bv
  have f1 := hn.free 1
  have c1 := hn.c1
  have hcl : (x2.toNat : Int) < 256 := by have := x2.toNat_lt; omega
  go_upto_region 5 with (fail)
  have hbb := below_set W3 (Nat.le_refl eb) 1 (.bool ((x2.toNat : Int) == 1))
  refine wp_gen (fun W => BoxE W w.heap.size Ev0 ∧ BoxE W eb ⟨x1, (x2.toNat : Int) == 1, O0⟩ ∧ RX W (w.heap.size + 1) X2 ∧ Below w.heap.size w W) ⟨hA.below hbb (by omega), hn.s1 _, hR2.above hbb (by omega), hlow.trans (hbb.mono (by omega))⟩ ?_
  clear hA hn hR2 hlow hbb f1 c1
  rintro W4 ⟨hA, hn, hR, hlow⟩
  go_wp2_with fail
  refine (refReadObject_any _ _ _ hR).mono ?_
  rintro e W5 ⟨hg, x3, X3, rfl, -, hR3, G3⟩
  have hneb := hn.lt
  replace hA := hA.kept hg (by simp)
  replace hn := hn.kept hg (by simp; omega)
  replace hlow : Below w.heap.size w W5 := hlow.grown hg (by omega) (by intro k hk; cases hk; omega)
  clear hg hR hneb
  have ht := hn.there
  go_upto_region 6 with ((with_reducible refine wpList_store_mid rfl 27 _ _ rfl eb 2 (cellsO x3) ?_ ?_ ?_ ?_ ?_ ?_); rfl; rfl; exact ht; exact sizeObj; exact one_cells _)
  have hbb := below_setCells (Nat.le_refl eb) (cellsO x3).toList 2 W5
  refine wp_gen (fun W => BoxE W w.heap.size Ev0 ∧ BoxE W eb ⟨x1, (x2.toNat : Int) == 1, x3⟩ ∧ RX W (w.heap.size + 1) X3 ∧ Below w.heap.size w W) ⟨hA.below hbb (by omega), hn.so x3, hR3.above hbb (by omega), hlow.trans (hbb.mono (by omega))⟩ ?_
  clear hA hn hR3 hlow hbb ht
  rintro W6 ⟨hA, hn, ⟨bad, l', hL, rfl⟩, hlow⟩
  have c1 := hL.c1
  have f1 := hL.f1 1
  have hgone : decide (x2.toNat = 1) = ((x2.toNat : Int) == 1) := by rw [Bool.eq_iff_iff]; simp; omega
  by_cases hx : x2.toNat ≤ 1
  · have G := got_ev G1 (by have := G2.goneB; rwa [if_pos (by simpa using hx), hgone] at this) G3
    have hx1 : decide (1 < (x2.toNat : Int)) = false := by simp; omega
    have hx2 : (x2.toNat : Int) ≤ 1 := by omega
    clear G1 G2 G3 hgone hx
    generalize (⟨x1, (x2.toNat : Int) == 1, x3⟩ : Ev) = E at G hn
    cases bad with
    | true =>
      have HQ := Lib.hid (all_none G)
      clear G hL
      go_wp2_with ((with_reducible refine wpList_store_rowTo rfl 29 _ _ rfl rfl w.heap.size (cellsE Ev0) ?_ ?_ 29 (cellsE Ev0) ?_ ?_ ?_ ?_ ?_); rfl; rfl; exact hA; exact sizeEv; exact rfl; exact one_cellsE _)
      exact bodyPost_ret (results_ct rfl rfl rfl (load_evV (hA.setRow Ev0))) rfl ⟨below_setRow hlow (Nat.le_refl _) _, .inr ⟨HQ.out, rfl⟩⟩
    | false =>
      have HQ := Lib.hid (all_left G)
      obtain ⟨v, hbox, hB, hne⟩ := hL
      have hcell : W6.cell? ⟨w.heap.size + 1, 0, none⟩ = some v := (cell_of_row W6 (w.heap.size + 1) 0 _ _ _ hbox).trans rfl
      have hl := hB.len
      clear G hB hne hbox
      cases l' with
      | nil =>
        simp only [List.length_nil] at hl
        go_wp2_with (first | ((with_reducible refine wpList_load_ev ?_ rfl ?_ hn ?_); rfl; rfl) | ((with_reducible refine wpList_store_rowTo rfl 29 _ _ rfl rfl w.heap.size (cellsE E) ?_ ?_ 29 (cellsE Ev0) ?_ ?_ ?_ ?_ ?_); rfl; rfl; exact hA; exact sizeEv; exact rfl; exact one_cellsE _))
        exact bodyPost_ret (results_ct rfl rfl rfl (load_evV (hA.setRow E))) rfl ⟨below_setRow hlow (Nat.le_refl _) _, .inl ⟨E, HQ.out, rfl⟩⟩
      | cons b l2 =>
        have hn0 : (((b :: l2).length : Int) == 0) = false := by rw [List.length_cons]; simp; omega
        generalize (b :: l2).length = L at hl hn0
        go_wp2_with ((with_reducible refine wpList_store_rowTo rfl 29 _ _ rfl rfl w.heap.size (cellsE Ev0) ?_ ?_ 29 (cellsE Ev0) ?_ ?_ ?_ ?_ ?_); rfl; rfl; exact hA; exact sizeEv; exact rfl; exact one_cellsE _)
        exact bodyPost_ret (results_ct rfl rfl rfl (load_evV (hA.setRow Ev0))) rfl ⟨below_setRow hlow (Nat.le_refl _) _, .inr ⟨HQ.out, rfl⟩⟩
  · have G : Got (some l) rdEv (⟨x1, decide (x2.toNat = 1), x3⟩ : Ev) none := got_ev G1 (by have := G2.goneB; rwa [if_neg (by simpa using hx)] at this) ⟨rfl, fun x hx => by cases hx⟩
    have HQ := Lib.hid (all_none G)
    have hx1 : decide (1 < (x2.toNat : Int)) = true := by simp; omega
    have hx2 : 1 < (x2.toNat : Int) := by omega
    clear G G1 G2 G3 hgone hx hL
    cases bad with
    | true =>
      go_wp2_with ((with_reducible refine wpList_store_rowTo rfl 29 _ _ rfl rfl w.heap.size (cellsE Ev0) ?_ ?_ 29 (cellsE Ev0) ?_ ?_ ?_ ?_ ?_); rfl; rfl; exact hA; exact sizeEv; exact rfl; exact one_cellsE _)
      exact bodyPost_ret (results_ct rfl rfl rfl (load_evV (hA.setRow Ev0))) rfl ⟨below_setRow hlow (Nat.le_refl _) _, .inr ⟨HQ.out, rfl⟩⟩
    | false =>
      go_wp2_with ((with_reducible refine wpList_store_rowTo rfl 29 _ _ rfl rfl w.heap.size (cellsE Ev0) ?_ ?_ 29 (cellsE Ev0) ?_ ?_ ?_ ?_ ?_); rfl; rfl; exact hA; exact sizeEv; exact rfl; exact one_cellsE _)
      exact bodyPost_ret (results_ct rfl rfl rfl (load_evV (hA.setRow Ev0))) rfl ⟨below_setRow hlow (Nat.le_refl _) _, .inr ⟨HQ.out, rfl⟩⟩
end Go.Proofs.Ytacbfpgknfcimaa.C
