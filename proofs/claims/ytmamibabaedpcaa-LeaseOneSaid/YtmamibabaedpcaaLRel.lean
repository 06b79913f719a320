/- lease.Release: what it does in a step, the step, and it. -/
import Derived.Test.YtmamibabaedpcaaLTryC
namespace Go.Proofs.Ytmamibabaedpcaa.L
open Go.RowKit T O
open Go.Lib

set_option maxRecDepth 100000 in
set_option maxHeartbeats 2000000 in
theorem relDo_any (x : Lz) (who : ByteArray) (pw pl : Nat) (w : World) (hw : StrAt w pw who) (hb : BoxL w pl x) :
    Calls Try.prog 30 #[.pointer (some ⟨pl, 0, none⟩), .pointer (some ⟨pw, 0, none⟩)] w (TrySteps pl (relL x who) w) := by
  have HB := Lib.hid hb
  have HW := Lib.hid hw
  clear hb hw
  go_enter Try.func30, Try.ntmps30
  go_upto_region 1 with (fail)
  refine wp_gen (fun W => StrAt W pw who ∧ BoxL W pl x ∧ BoxL W w.heap.size Lz0 ∧ Below w.heap.size w W) ⟨(Below.heap_alloc w _ pw (Array.getElem?_eq_some_iff.1 HW.out).1).trans HW.out, HB.out.alloc _, BoxL.new w Lz0, (Below.refl _ _).alloc (Nat.le_refl _) _⟩ ?_
  clear HB HW
  rintro W ⟨hw, hb, hr, hlow⟩
  have cw := hw.cell
  have c0 := hb.c0
  have c1 := hb.c1
  have c2 := hb.c2
  have HA := Lib.hid hb
  have HL := Lib.hid hlow
  have HR := Lib.hid hr
  clear hb hlow hr hw
  go_wp2_with fail
  refine (holds_any x _ _).mono ?_
  rintro e w1 ⟨rfl, hl⟩
  replace HL := Lib.hid (HL.out.trans (hl.mono HL.out.size))
  replace HA := Lib.hid (HA.out.after hl)
  replace HR := Lib.hid (HR.out.after hl)
  clear hl cw c0 c1 c2
  cases hh : holdB x who with
  | false =>
    have HT : Hid (relL x who = (Lz0, 8)) := by show _ = _; unfold relL; rw [if_neg (by rw [hh]; decide)]
    have HF : Hid (TrySteps pl (relL x who) w (gaveUpL 8) w1) := ⟨grown_below HL.out _, .inr (by rw [HT.out]; exact ⟨by decide, rfl⟩)⟩
    clear HT HL HA HR hh
    go_wp2_with fail
    refine (must_no _ _).mono ?_
    rintro e w2 ⟨rfl, rfl⟩
    go_wp2_with fail
    exact ⟨rfl, HF.out⟩
  | true =>
    have HT : Hid (relL x who = (⟨E0, 0, x.t⟩, 0)) := by show _ = _; unfold relL; rw [if_pos hh]
    have HF : Hid (TrySteps pl (relL x who) w (.returned (encL ⟨E0, 0, x.t⟩)) (w1.setRow w.heap.size (cellsL ⟨E0, 0, x.t⟩))) := by
      refine ⟨grown_row (grown_below HL.out _) (Nat.le_refl _) _, .inl ?_⟩
      rw [HT.out]
      exact ⟨rfl, rfl⟩
    have c2 := HA.out.c2
    have hr := HR.out
    have HV := Lib.hid (load_lz (hr.setRow ⟨E0, 0, x.t⟩))
    clear HT HL HA HR hh
    go_wp2_with fail
    refine (must_yes _ _).mono ?_
    rintro e w4 ⟨rfl, rfl⟩
    go_wp2_with ((with_reducible refine wpList_store_rowTo rfl 24 _ _ rfl rfl w.heap.size (cellsL ⟨E0, 0, x.t⟩) ?_ ?_ 24 (cellsL Lz0) ?_ ?_ ?_ ?_ ?_); rfl; rfl; exact hr; exact sizeL; rfl; exact one_L _)
    refine bodyPost_ret (v := encL ⟨E0, 0, x.t⟩) (results_cell rfl rfl HV.out) rfl HF.out
theorem rel_err {x : Lz} {who : ByteArray} (h : (relL x who).2 ≠ 0) : (relL x who).1 = Lz0 := by
  unfold relL at h ⊢
  split
  · simp_all
  · rfl
set_option maxRecDepth 100000 in
set_option maxHeartbeats 2000000 in
theorem stepRel_any (x : Lz) (who : ByteArray) (pw pl : Nat) (w : World) (hw : StrAt w pw who) (hb : BoxL w pl x) :
    Calls Try.prog 25 #[.func (.func 30) #[] #[.pointer (some ⟨pl, 0, none⟩), .pointer (some ⟨pw, 0, none⟩)]] w (Stepped (some pl) (relL x who) w) := by
  have hmf : ∀ (fn : Fn) (first cap : Array Value) (w : World), (Instr.makeFunc fn first cap).run Try.prog w = .ok (.func fn first cap) w := fun _ _ _ _ => rfl
  have hpl := hb.lt
  have HW := Lib.hid hw
  have HB := Lib.hid hb
  have HT0 : Hid ((relL x who).2 ≠ 0 → (relL x who).1 = Lz0) := rel_err
  clear hb hw
  obtain ⟨R, hR⟩ : ∃ R, relL x who = R := ⟨_, rfl⟩
  have HC : Hid (∀ W, (StrAt W pw who ∧ BoxL W pl x) → Calls Try.prog 30 #[.pointer (some ⟨pl, 0, none⟩), .pointer (some ⟨pw, 0, none⟩)] W (TrySteps pl R W)) := fun W hW => by
    have := relDo_any x who pw pl W hW.1 hW.2
    rwa [hR] at this
  rw [hR] at HT0 ⊢
  clear hR
  go_enter_defers Try.func25, Try.ntmps25
  go_upto_region 2 with (fail)
  refine wp_gen (fun W => BoxL W w.heap.size Lz0 ∧ W.heap[w.heap.size + 1]? = some (errAt 0) ∧ (StrAt W pw who ∧ BoxL W pl x) ∧ Below w.heap.size w W ∧ w.heap.size + 1 < W.heap.size)
    ⟨(BoxL.new w Lz0).alloc _, heap2 w _ _, ⟨((((Below.refl _ _).alloc (Nat.le_refl _) _).alloc (by simp) _ : Below w.heap.size w _).block pw (Array.getElem?_eq_some_iff.1 HW.out).1).trans HW.out, HB.out.after (((Below.refl _ _).alloc (Nat.le_refl _) _).alloc (by simp) _)⟩, ((Below.refl _ _).alloc (Nat.le_refl _) _).alloc (by simp) _, by simp⟩ ?_
  clear HB HW
  rintro W0 ⟨hx, he, hA, hlow, hsz⟩
  have HX := Lib.hid hx
  have HE := Lib.hid he
  have HL := Lib.hid hlow
  have HK := Lib.hid (HC.out W0 hA)
  clear hx he hA hlow HC
  go_wp2_with fail
  refine HK.out.mono ?_
  rintro e W1 ⟨hg, ⟨h0, rfl⟩ | ⟨h0, rfl⟩⟩
  · have hx : BoxL W1 w.heap.size Lz0 := (hg.block _ HX.out.lt (by simp; omega)).trans HX.out
    have he : W1.heap[w.heap.size + 1]? = some (errAt 0) := (hg.block _ hsz (by simp; omega)).trans HE.out
    have HG := Lib.hid ((grown_below HL.out (some pl)).trans hg)
    clear hg HK HX HE HL
    have he2 : (W1.setRow w.heap.size (cellsL R.1)).heap[w.heap.size + 1]? = some (errAt 0) := (setRow_other W1 w.heap.size (w.heap.size + 1) _ (by omega)).trans he
    have fz := frozen_of_row (W1.setRow w.heap.size (cellsL R.1)) (w.heap.size + 1) 0 _ _ he2
    have cz : (W1.setRow w.heap.size (cellsL R.1)).cell? ⟨w.heap.size + 1, 0, none⟩ = some (.int .i64 0) := (cell_of_row _ (w.heap.size + 1) 0 _ _ _ he2).trans rfl
    have HF : Hid (BoxL ((W1.setRow w.heap.size (cellsL R.1)).setCell ⟨w.heap.size + 1, 0, none⟩ (.int .i64 0)) w.heap.size R.1 ∧ ((W1.setRow w.heap.size (cellsL R.1)).setCell ⟨w.heap.size + 1, 0, none⟩ (.int .i64 0)).heap[w.heap.size + 1]? = some (errAt 0) ∧ w.grownBy ((W1.setRow w.heap.size (cellsL R.1)).setCell ⟨w.heap.size + 1, 0, none⟩ (.int .i64 0)) (some pl)) :=
      ⟨(hx.setRow R.1).other (by simp) _, (heap_setCell_same _ (w.heap.size + 1) 0 _ _ _ he2).trans rfl, grown_trans_above (grown_row HG.out (Nat.le_refl _) _) ((Below.refl w.heap.size _).setCell (p := ⟨w.heap.size + 1, 0, none⟩) (by simp) _) (Nat.le_refl _)⟩
    have H0 := Lib.hid h0
    clear he he2 h0 HG
    unfold encL
    go_wp2_with ((with_reducible refine wpList_store_rowTo rfl 24 _ _ rfl rfl w.heap.size (cellsL R.1) ?_ ?_ 24 (cellsL Lz0) ?_ ?_ ?_ ?_ ?_); rfl; rfl; exact hx; exact sizeL; rfl; exact one_L _)
    refine leaves_cons (f := 32) (args := #[.pointer (some ⟨w.heap.size, 0, none⟩), .pointer (some ⟨w.heap.size + 1, 0, none⟩)]) (by simp) (by simp [go_sem]) ?_
    refine (catch_idle w.heap.size (w.heap.size + 1) _).mono ?_
    rintro e u' W4 ⟨rfl, rfl, rfl⟩
    exact ⟨_, results_cc rfl rfl rfl (load_lz HF.out.1) (load_err HF.out.2.1), by rw [H0.out], HF.out.2.2⟩
  · have hx : BoxL W1 w.heap.size Lz0 := (hg.block _ HX.out.lt (by simp; omega)).trans HX.out
    have he : W1.heap[w.heap.size + 1]? = some (errAt 0) := (hg.block _ hsz (by simp; omega)).trans HE.out
    have HG := Lib.hid ((grown_below HL.out (some pl)).trans hg)
    have H0 := Lib.hid h0
    clear hg HK HX HE HL h0
    go_wp2
    refine leaves_cons (f := 32) (args := #[.pointer (some ⟨w.heap.size, 0, none⟩), .pointer (some ⟨w.heap.size + 1, 0, none⟩)]) (by simp) (by simp [go_sem]) ?_
    refine (catch_up w.heap.size w.heap.size (w.heap.size + 1) Lz0 0 R.2 [] W1 hx he (by omega) ⟨by omega, by omega⟩).mono ?_
    rintro e u' W4 ⟨rfl, rfl, hC⟩
    exact ⟨_, results_cc rfl rfl rfl (load_lz hC.x) (load_err hC.e), by rw [HT0.out H0.out], grown_trans_above HG.out hC.low (Nat.le_refl _)⟩

theorem rel_new (w : World) (x : Lz) (who : ByteArray) :
    (StrAt (((w.alloc (.cells (cellsL x) 24 (0, 0))).alloc (.cells #[.string who] 9 (0, 0))).alloc (.cells (cellsL Lz0) 24 (0, 0))) (w.heap.size + 1) who ∧
    BoxL (((w.alloc (.cells (cellsL x) 24 (0, 0))).alloc (.cells #[.string who] 9 (0, 0))).alloc (.cells (cellsL Lz0) 24 (0, 0))) w.heap.size x) ∧
    BoxL (((w.alloc (.cells (cellsL x) 24 (0, 0))).alloc (.cells #[.string who] 9 (0, 0))).alloc (.cells (cellsL Lz0) 24 (0, 0))) (w.heap.size + 1 + 1) Lz0 := by
  generalize hc : (Go.Obj.cells (cellsL x) 24 (0, 0)) = o0
  generalize hd : (Go.Obj.cells (cellsL Lz0) 24 (0, 0)) = o4
  have k : ∀ (W : World) (o : Go.Obj) (b : Nat) (v : Go.Obj), W.heap[b]? = some v → (W.alloc o).heap[b]? = some v := fun W o b v h => (Below.heap_alloc W o b (Array.getElem?_eq_some_iff.1 h).1).trans h
  have n : ∀ (W : World) (o : Go.Obj) (b : Nat), W.heap.size = b → (W.alloc o).heap[b]? = some o := fun W o b h => by subst h; exact heap_alloc_new W o
  refine ⟨⟨k _ _ _ _ (n _ _ _ (by simp)), ?_⟩, ?_⟩
  · unfold BoxL
    rw [hc]
    exact k _ _ _ _ (k _ _ _ _ (n _ _ _ rfl))
  · unfold BoxL
    rw [hd]
    exact n _ _ _ (by simp)
set_option maxRecDepth 100000 in
set_option maxHeartbeats 2000000 in
theorem rel_any (x : Lz) (who : ByteArray) (w : World) :
    Calls Try.prog 14 #[encL x, .string who] w fun e w' => e = .returned (.tuple #[encL (relL x who).1, .int .i64 (relL x who).2]) ∧ Below w.heap.size w w' := by
  have hmf : ∀ (fn : Fn) (first cap : Array Value) (w : World), (Instr.makeFunc fn first cap).run Try.prog w = .ok (.func fn first cap) w := fun _ _ _ _ => rfl
  have hnew := rel_new w x who
  have HN := Lib.hid hnew
  clear hnew
  obtain ⟨R, hR⟩ : ∃ R, relL x who = R := ⟨_, rfl⟩
  have HC0 : Hid (∀ W, (StrAt W (w.heap.size + 1) who ∧ BoxL W w.heap.size x) → Calls Try.prog 25 #[.func (.func 30) #[] #[.pointer (some ⟨w.heap.size, 0, none⟩), .pointer (some ⟨w.heap.size + 1, 0, none⟩)]] W (Stepped (some w.heap.size) R W)) := fun W hW => by
    have := stepRel_any x who _ _ W hW.1 hW.2
    rwa [hR] at this
  rw [hR]
  clear hR
  unfold encL
  go_enter Try.func14, Try.ntmps14
  go_upto_region 1 with (fail)
  refine wp_gen (fun W => ((StrAt W (w.heap.size + 1) who ∧ BoxL W w.heap.size x) ∧ BoxL W (w.heap.size + 1 + 1) Lz0) ∧ Below w.heap.size w W)
    ⟨HN.out, (((Below.refl _ _).alloc (Nat.le_refl _) _).alloc (by simp) _).alloc (by simp; omega) _⟩ ?_
  clear HN
  rintro W ⟨⟨hA, hr⟩, hlow⟩
  have HR := Lib.hid hr
  have HL := Lib.hid hlow
  have HC := Lib.hid (HC0.out W hA)
  clear hA hr hlow HC0
  go_wp2_with fail
  refine HC.out.mono ?_
  rintro e W1 ⟨rfl, hg⟩
  have hr : BoxL W1 (w.heap.size + 1 + 1) Lz0 := (hg.block _ HR.out.lt (by simp; omega)).trans HR.out
  have HG := Lib.hid (HL.out.grown hg (by have := HR.out.lt; omega) (by intro k hk; cases hk; omega))
  clear hg HC HR HL
  have HV := Lib.hid (load_lz (hr.setRow R.1))
  have HF := Lib.hid (below_setRow HG.out (g := w.heap.size + 1 + 1) (by omega) (cellsL R.1))
  clear HG
  unfold encL
  go_wp2_with ((with_reducible refine wpList_store_rowTo rfl 24 _ _ rfl rfl (w.heap.size + 1 + 1) (cellsL R.1) ?_ ?_ 24 (cellsL Lz0) ?_ ?_ ?_ ?_ ?_); rfl; rfl; exact hr; exact sizeL; rfl; exact one_L _)
  refine bodyPost_ret (v := .tuple #[encL R.1, .int .i64 R.2]) (results_ct rfl rfl rfl HV.out) rfl ⟨rfl, HF.out⟩
end Go.Proofs.Ytmamibabaedpcaa.L
