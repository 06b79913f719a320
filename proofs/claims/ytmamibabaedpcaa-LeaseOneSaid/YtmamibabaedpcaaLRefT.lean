/- The document's Try and Release. -/
import Derived.Test.YtmamibabaedpcaaLRef
namespace Go.Proofs.Ytmamibabaedpcaa.L
open Go.RowKit T O
open Go.Lib

def BoxR (W : World) (b : Nat) (x : Lz) : Prop := W.heap[b]? = some (.cells (cellsL x) 30 (0, 0))
section
variable {W W' : World} {b : Nat} {x : Lz}
theorem BoxR.lt (h : BoxR W b x) : b < W.heap.size := (Array.getElem?_eq_some_iff.1 h).1
theorem BoxR.after (h : BoxR W b x) (hb : Below W.heap.size W W') : BoxR W' b x := (hb.block b h.lt).trans h
theorem BoxR.alloc (h : BoxR W b x) (o : Go.Obj) : BoxR (W.alloc o) b x := (Below.heap_alloc W o b h.lt).trans h
theorem BoxR.at (h : BoxR W b x) (i : Nat) : W.cell? ⟨b, i, none⟩ = (cellsL x)[i]? := cell_of_row W b i _ _ _ h
theorem BoxR.c0 (h : BoxR W b x) : W.cell? ⟨b, 0, none⟩ = some (.string x.h) := (h.at 0).trans rfl
theorem BoxR.c1 (h : BoxR W b x) : W.cell? ⟨b, 1, none⟩ = some (.int .u64 x.u) := (h.at 1).trans rfl
theorem BoxR.c2 (h : BoxR W b x) : W.cell? ⟨b, 2, none⟩ = some (.int .u64 x.t) := (h.at 2).trans rfl
theorem BoxR.new (W : World) (x : Lz) : BoxR (W.alloc (.cells (cellsL x) 30 (0, 0))) W.heap.size x := heap_alloc_new W _
end
theorem sizeR : (Try.prog.info? 30).map (·.size) = some 3 := by kernel_rfl
theorem load_rz {W : World} {b : Nat} {x : Lz} (h : BoxR W b x) : (loadVar 30 ⟨b, 0, none⟩).run Try.prog W = .ok (encL x) W := run_loadVar_row W b 30 30 (cellsL x) (0, 0) _ h Try.underlying30 rfl sizeR
theorem BoxR.setRow {W : World} {b : Nat} {x : Lz} (h : BoxR W b x) (y : Lz) : BoxR (W.setRow b (cellsL y)) b y := setRow_heap W b _ _ _ _ h

set_option maxRecDepth 100000 in
set_option maxHeartbeats 4000000 in
theorem refTry_any (x : Lz) (who : ByteArray) (now span : Int) (w : World) (hw : who.size ≤ 9223372036854775807) (hn : 0 ≤ now) :
    Calls Try.prog 12 #[encL x, .string who, .int .u64 now, .int .u64 span] w fun e w' => e = .returned (.tuple #[encL (tryL x who now span).1, .int .i64 (tryL x who now span).2]) ∧ Below w.heap.size w w' := by
  obtain ⟨R, hR⟩ : ∃ R, tryL x who now span = R := ⟨_, rfl⟩
  rw [hR]
  have HR := Lib.hid hR
  clear hR
  unfold encL
  go_enter Try.func12, Try.ntmps12
  go_upto_region 1 with (fail)
  refine wp_gen (fun W => BoxR W w.heap.size x ∧ BoxR W (w.heap.size + 1) Lz0 ∧ Below w.heap.size w W) ⟨(BoxR.new w x).alloc _, heap2 w _ _, ((Below.refl _ _).alloc (Nat.le_refl _) _).alloc (by simp) _⟩ ?_
  rintro W ⟨hx, hr, hlow⟩
  have HL := Lib.hid hlow
  have HX := Lib.hid hx
  clear hlow hx
  go_wp2_with fail
  refine (refName_any _ _ hw).mono ?_
  rintro e w1 ⟨rfl, rfl⟩
  cases h1 : nameB who.data.toList with
  | false =>
    have HT : Hid (tryL x who now span = (Lz0, 2)) := by show _ = _; unfold tryL; rw [if_pos h1]
    clear h1
    have HV := Lib.hid (load_rz (hr.setRow Lz0))
    have HF := Lib.hid (below_setRow HL.out (g := w.heap.size + 1) (by omega) (cellsL Lz0))
    clear HL HX
    go_wp2_with ((with_reducible refine wpList_store_rowTo rfl 30 _ _ rfl rfl (w.heap.size + 1) (cellsL Lz0) ?_ ?_ 30 (cellsL Lz0) ?_ ?_ ?_ ?_ ?_); rfl; rfl; exact hr; exact sizeR; rfl; exact one_L _)
    refine bodyPost_ret (v := .tuple #[encL Lz0, .int .i64 2]) (results_ct rfl rfl rfl HV.out) rfl ⟨by rw [← HR.out, HT.out]; rfl, HF.out⟩
  | true =>
    have H1 := Lib.hid h1
    clear h1
    by_cases hrg : span < 1 ∨ (1 ≤ span ∧ 1099511627776 < span) ∨ (1 ≤ span ∧ span ≤ 1099511627776 ∧ 1152921504606846976 < now)
    · have HT : Hid (tryL x who now span = (Lz0, 3)) := by
        show _ = _
        unfold tryL
        rw [if_neg (by rw [H1.out]; decide), if_pos]
        rw [Bool.eq_false_iff]
        intro h
        have := range_iff.1 h
        omega
      rcases hrg with h | ⟨h, h'⟩ | ⟨h, h', h''⟩
      all_goals
        have HV := Lib.hid (load_rz (hr.setRow Lz0))
        have HF := Lib.hid (below_setRow HL.out (g := w.heap.size + 1) (by omega) (cellsL Lz0))
        clear HL HX
        go_wp2_with ((with_reducible refine wpList_store_rowTo rfl 30 _ _ rfl rfl (w.heap.size + 1) (cellsL Lz0) ?_ ?_ 30 (cellsL Lz0) ?_ ?_ ?_ ?_ ?_); rfl; rfl; exact hr; exact sizeR; rfl; exact one_L _)
        refine bodyPost_ret (v := .tuple #[encL Lz0, .int .i64 3]) (results_ct rfl rfl rfl HV.out) rfl ⟨by rw [← HR.out, HT.out]; rfl, HF.out⟩
    · have h1 : 1 ≤ span := by omega
      have h2 : span ≤ 1099511627776 := by omega
      have h3 : now ≤ 1152921504606846976 := by omega
      have HRG : Hid (rangeB now span = true) := range_iff.2 ⟨h1, h2, h3⟩
      clear hrg
      have c0 := HX.out.c0
      have c1 := HX.out.c1
      have c2 := HX.out.c2
      go_wp2_with fail
      refine (refMine_any x _ _ _).mono ?_
      rintro e w2 ⟨rfl, hl⟩
      replace HL := Lib.hid (HL.out.trans (hl.mono HL.out.size))
      replace HX := Lib.hid (HX.out.after hl)
      replace hr := hr.after hl
      clear hl c0 c1 c2
      have c0 := HX.out.c0
      have c1 := HX.out.c1
      have c2 := HX.out.c2
      cases hm : mineB x who now with
      | true =>
        have hwho := (mine_iff.1 hm).2.1
        have HT : Hid (tryL x who now span = (⟨x.h, max x.u (now + span), x.t⟩, 0)) := by
          show _ = _
          unfold tryL
          rw [if_neg (by rw [H1.out]; decide), if_neg (by rw [HRG.out]; decide), if_pos hm]
        clear hm
        rw [← hwho] at HT
        clear hwho
        by_cases hlt : now + span < x.u
        · rw [show max x.u (now + span) = x.u by omega] at HT
          have HV := Lib.hid (load_rz (hr.setRow ⟨who, x.u, x.t⟩))
          have HF := Lib.hid (below_setRow HL.out (g := w.heap.size + 1) (by omega) (cellsL ⟨who, x.u, x.t⟩))
          clear HL HX
          go_wp2_with ((with_reducible refine wpList_store_rowTo rfl 30 _ _ rfl rfl (w.heap.size + 1) (cellsL ⟨who, x.u, x.t⟩) ?_ ?_ 30 (cellsL Lz0) ?_ ?_ ?_ ?_ ?_); rfl; rfl; exact hr; exact sizeR; rfl; exact one_L _)
          refine bodyPost_ret (v := .tuple #[encL ⟨who, x.u, x.t⟩, .int .i64 0]) (results_ct rfl rfl rfl HV.out) rfl ⟨by rw [← HR.out, HT.out]; rfl, HF.out⟩
        · rw [show max x.u (now + span) = now + span by omega] at HT
          have hge : x.u ≤ now + span := by omega
          clear hlt
          have HV := Lib.hid (load_rz (hr.setRow ⟨who, now + span, x.t⟩))
          have HF := Lib.hid (below_setRow HL.out (g := w.heap.size + 1) (by omega) (cellsL ⟨who, now + span, x.t⟩))
          clear HL HX
          go_wp2_with ((with_reducible refine wpList_store_rowTo rfl 30 _ _ rfl rfl (w.heap.size + 1) (cellsL ⟨who, now + span, x.t⟩) ?_ ?_ 30 (cellsL Lz0) ?_ ?_ ?_ ?_ ?_); rfl; rfl; exact hr; exact sizeR; rfl; exact one_L _)
          refine bodyPost_ret (v := .tuple #[encL ⟨who, now + span, x.t⟩, .int .i64 0]) (results_ct rfl rfl rfl HV.out) rfl ⟨by rw [← HR.out, HT.out]; rfl, HF.out⟩
      | false =>
        have HM0 := Lib.hid hm
        clear hm
        cases he : emp x.h with
        | true =>
          have HT : Hid (tryL x who now span = (⟨who, now + span, up x.t⟩, 0)) := by
            show _ = _
            unfold tryL
            rw [if_neg (by rw [H1.out]; decide), if_neg (by rw [HRG.out]; decide), if_neg (by rw [HM0.out]; decide), if_neg (by unfold mineB holdB; rw [he]; simp)]
          have h5 := emp_yes he
          clear he
          have HV := Lib.hid (load_rz (hr.setRow ⟨who, now + span, up x.t⟩))
          have HF := Lib.hid (below_setRow HL.out (g := w.heap.size + 1) (by omega) (cellsL ⟨who, now + span, up x.t⟩))
          clear HL HX
          go_wp2_with ((with_reducible refine wpList_store_rowTo rfl 30 _ _ rfl rfl (w.heap.size + 1) (cellsL ⟨who, now + span, up x.t⟩) ?_ ?_ 30 (cellsL Lz0) ?_ ?_ ?_ ?_ ?_); rfl; rfl; exact hr; exact sizeR; rfl; exact one_L _)
          refine bodyPost_ret (v := .tuple #[encL ⟨who, now + span, up x.t⟩, .int .i64 0]) (results_ct rfl rfl rfl HV.out) rfl ⟨by rw [← HR.out, HT.out]; rfl, HF.out⟩
        | false =>
          have h5 := emp_no he
          by_cases hlt : now < x.u
          · have HT : Hid (tryL x who now span = (Lz0, 8)) := by
              show _ = _
              unfold tryL
              rw [if_neg (by rw [H1.out]; decide), if_neg (by rw [HRG.out]; decide), if_neg (by rw [HM0.out]; decide), if_pos (mine_iff.2 ⟨he, rfl, hlt⟩)]
            clear he
            have HV := Lib.hid (load_rz (hr.setRow Lz0))
            have HF := Lib.hid (below_setRow HL.out (g := w.heap.size + 1) (by omega) (cellsL Lz0))
            clear HL HX
            go_wp2_with ((with_reducible refine wpList_store_rowTo rfl 30 _ _ rfl rfl (w.heap.size + 1) (cellsL Lz0) ?_ ?_ 30 (cellsL Lz0) ?_ ?_ ?_ ?_ ?_); rfl; rfl; exact hr; exact sizeR; rfl; exact one_L _)
            refine bodyPost_ret (v := .tuple #[encL Lz0, .int .i64 8]) (results_ct rfl rfl rfl HV.out) rfl ⟨by rw [← HR.out, HT.out]; rfl, HF.out⟩
          · have HT : Hid (tryL x who now span = (⟨who, now + span, up x.t⟩, 0)) := by
              show _ = _
              unfold tryL
              rw [if_neg (by rw [H1.out]; decide), if_neg (by rw [HRG.out]; decide), if_neg (by rw [HM0.out]; decide), if_neg (fun h => hlt (mine_iff.1 h).2.2)]
            have hge : x.u ≤ now := by omega
            clear he hlt
            have HV := Lib.hid (load_rz (hr.setRow ⟨who, now + span, up x.t⟩))
            have HF := Lib.hid (below_setRow HL.out (g := w.heap.size + 1) (by omega) (cellsL ⟨who, now + span, up x.t⟩))
            clear HL HX
            go_wp2_with ((with_reducible refine wpList_store_rowTo rfl 30 _ _ rfl rfl (w.heap.size + 1) (cellsL ⟨who, now + span, up x.t⟩) ?_ ?_ 30 (cellsL Lz0) ?_ ?_ ?_ ?_ ?_); rfl; rfl; exact hr; exact sizeR; rfl; exact one_L _)
            refine bodyPost_ret (v := .tuple #[encL ⟨who, now + span, up x.t⟩, .int .i64 0]) (results_ct rfl rfl rfl HV.out) rfl ⟨by rw [← HR.out, HT.out]; rfl, HF.out⟩

set_option maxRecDepth 100000 in
set_option maxHeartbeats 2000000 in
theorem refRel_any (x : Lz) (who : ByteArray) (w : World) :
    Calls Try.prog 15 #[encL x, .string who] w fun e w' => e = .returned (.tuple #[encL (relL x who).1, .int .i64 (relL x who).2]) ∧ Below w.heap.size w w' := by
  obtain ⟨R, hR⟩ : ∃ R, relL x who = R := ⟨_, rfl⟩
  rw [hR]
  have HR := Lib.hid hR
  clear hR
  unfold encL
  go_enter Try.func15, Try.ntmps15
  go_upto_region 1 with (fail)
  refine wp_gen (fun W => BoxR W w.heap.size x ∧ BoxR W (w.heap.size + 1) Lz0 ∧ Below w.heap.size w W) ⟨(BoxR.new w x).alloc _, heap2 w _ _, ((Below.refl _ _).alloc (Nat.le_refl _) _).alloc (by simp) _⟩ ?_
  rintro W ⟨hx, hr, hlow⟩
  have HL := Lib.hid hlow
  have HX := Lib.hid hx
  clear hlow hx
  have c0 := HX.out.c0
  have c2 := HX.out.c2
  cases he : emp who with
  | true =>
    have HT : Hid (relL x who = (Lz0, 8)) := by
      show _ = _
      unfold relL holdB
      rw [he]
      rfl
    have h5 := emp_yes he
    clear he
    have HV := Lib.hid (load_rz (hr.setRow Lz0))
    have HF := Lib.hid (below_setRow HL.out (g := w.heap.size + 1) (by omega) (cellsL Lz0))
    clear HL HX
    go_wp2_with ((with_reducible refine wpList_store_rowTo rfl 30 _ _ rfl rfl (w.heap.size + 1) (cellsL Lz0) ?_ ?_ 30 (cellsL Lz0) ?_ ?_ ?_ ?_ ?_); rfl; rfl; exact hr; exact sizeR; rfl; exact one_L _)
    refine bodyPost_ret (v := .tuple #[encL Lz0, .int .i64 8]) (results_ct rfl rfl rfl HV.out) rfl ⟨by rw [← HR.out, HT.out]; rfl, HF.out⟩
  | false =>
    have h5 := emp_no he
    cases hq : (x.h.toList == who.toList) with
    | true =>
      have HT : Hid (relL x who = (⟨E0, 0, x.t⟩, 0)) := by
        show _ = _
        unfold relL
        rw [if_pos (by rw [hb_eq x who he, hq])]
      clear he
      have HV := Lib.hid (load_rz (hr.setRow ⟨E0, 0, x.t⟩))
      have HF := Lib.hid (below_setRow HL.out (g := w.heap.size + 1) (by omega) (cellsL ⟨E0, 0, x.t⟩))
      clear HL HX
      go_wp2_with ((with_reducible refine wpList_store_rowTo rfl 30 _ _ rfl rfl (w.heap.size + 1) (cellsL ⟨E0, 0, x.t⟩) ?_ ?_ 30 (cellsL Lz0) ?_ ?_ ?_ ?_ ?_); rfl; rfl; exact hr; exact sizeR; rfl; exact one_L _)
      refine bodyPost_ret (v := .tuple #[encL ⟨E0, 0, x.t⟩, .int .i64 0]) (results_ct rfl rfl rfl HV.out) rfl ⟨by rw [← HR.out, HT.out]; rfl, HF.out⟩
    | false =>
      have HT : Hid (relL x who = (Lz0, 8)) := by
        show _ = _
        unfold relL
        rw [if_neg (by rw [hb_eq x who he, hq]; decide)]
      clear he
      have HV := Lib.hid (load_rz (hr.setRow Lz0))
      have HF := Lib.hid (below_setRow HL.out (g := w.heap.size + 1) (by omega) (cellsL Lz0))
      clear HL HX
      go_wp2_with ((with_reducible refine wpList_store_rowTo rfl 30 _ _ rfl rfl (w.heap.size + 1) (cellsL Lz0) ?_ ?_ 30 (cellsL Lz0) ?_ ?_ ?_ ?_ ?_); rfl; rfl; exact hr; exact sizeR; rfl; exact one_L _)
      refine bodyPost_ret (v := .tuple #[encL Lz0, .int .i64 8]) (results_ct rfl rfl rfl HV.out) rfl ⟨by rw [← HR.out, HT.out]; rfl, HF.out⟩

set_option maxRecDepth 100000 in
theorem ref_any (x : Lz) (w : World) :
    Calls Try.prog 13 #[encL x] w fun e w' => e = .returned (encL x) ∧ Below w.heap.size w w' := by
  unfold encL
  go_enter Try.func13, Try.ntmps13
  go_upto_region 1 with (fail)
  refine wp_gen (fun W => BoxL W w.heap.size x ∧ BoxR W (w.heap.size + 1) Lz0 ∧ Below w.heap.size w W) ⟨(BoxL.new w x).alloc _, heap2 w _ _, ((Below.refl _ _).alloc (Nat.le_refl _) _).alloc (by simp) _⟩ ?_
  rintro W ⟨hx, hr, hlow⟩
  have HL := Lib.hid hlow
  have c0 := hx.c0
  have c1 := hx.c1
  have c2 := hx.c2
  clear hlow hx
  have HV := Lib.hid (load_rz (hr.setRow x))
  have HF := Lib.hid (below_setRow HL.out (g := w.heap.size + 1) (by omega) (cellsL x))
  clear HL
  go_wp2_with ((with_reducible refine wpList_store_rowTo rfl 30 _ _ rfl rfl (w.heap.size + 1) (cellsL x) ?_ ?_ 30 (cellsL Lz0) ?_ ?_ ?_ ?_ ?_); rfl; rfl; exact hr; exact sizeR; rfl; exact one_L _)
  refine bodyPost_ret (v := encL x) (results_cell rfl rfl HV.out) rfl ⟨rfl, HF.out⟩
end Go.Proofs.Ytmamibabaedpcaa.L
