/- What is done behind a call for a claim that grows, or for a snapshot: the whole. -/
import Derived.Test.YtijgieefmnmakaaDoorDNext
namespace Go.Proofs.YtijgieefmnmakaaDoor.O.B
open Go Go.RowKit Go.Shelf Go.Lib RangeMap KM
attribute [local go_sem] Oper.semAt_some

theorem BoxR.cells {W : World} {b : Nat} {r : Rs} (h : BoxR W b r) : W.cell? ⟨b, 0, none⟩ = some (.int .i64 r.err) ∧ W.cell? ⟨b, 1, none⟩ = some (.int .i64 r.size) ∧ W.cell? ⟨b, 3, none⟩ = some (.int .u64 r.tag) :=
  ⟨(cell_of_row W b 0 _ _ _ h).trans rfl, (cell_of_row W b 1 _ _ _ h).trans rfl, (cell_of_row W b 3 _ _ _ h).trans rfl⟩
theorem BoxC.verb {W : World} {b : Nat} {c : Cl} (h : BoxC W b c) : W.cell? ⟨b, 0, none⟩ = some (.int .u8 c.verb) := (cell_of_row W b 0 _ _ _ h).trans rfl

set_option maxRecDepth 100000 in
set_option maxHeartbeats 8000000 in
theorem afterD_any (l : List Obj) (v : Value) (ver k : Int) (n : ByteArray) (c : Cl) (r : Rs) (w : World) (hl : ObjsIn w v l) (ht : Tab w) (hall : ∀ s ∈ l, (0 ≤ s.born ∧ s.born ≤ 18446744073709551615) ∧ s.name.size ≤ 140737488351232) :
    Calls Tryd.prog 21 #[v, .int .u64 ver, encK k n, encC c, encR r] w fun e w' => e = .returned (encA (afterD l ver k n c r)) ∧ Below w.heap.size w w' := by
  obtain ⟨o, cp, rfl, -, -⟩ := id hl
  have HL := Lib.hid hl
  have HT := Lib.hid ht
  have HN := Lib.hid (fun V (hV : ObjsIn V (.slice o l.length cp) l) (hT : Tab V) => next_any l _ ver k n V hV hT hall)
  have HK := Lib.hid (fun V (hV : ObjsIn V (.slice o l.length cp) l) => asked_any l _ k n c V hV)
  clear hl ht hall
  obtain ⟨x, hx⟩ : ∃ x, afterD l ver k n c r = x := ⟨_, rfl⟩
  rw [hx]
  unfold afterD at hx
  generalize nextD l ver k n = A at *
  generalize askedN l k n c = p at *
  have HXX := Lib.hid hx
  obtain ⟨t, ht⟩ : ∃ t, decide (A = askA c) = t := ⟨_, rfl⟩
  have HTT := Lib.hid ht
  clear hx ht
  have HKE : Hid (encK k n = .agg #[.int .u8 k, .string n]) := rfl
  unfold encR
  rw [show encC c = .agg (cellsC c) from rfl, HKE.out]
  unfold cellsC
  go_enter Tryd.func21, Tryd.ntmps21
  go_upto_region 1 with (fail)
  refine wp_gen (fun V => BoxK V w.heap.size k n ∧ BoxC V (w.heap.size + 1) c ∧ BoxR V (w.heap.size + 1 + 1) r ∧ BoxA V (w.heap.size + 1 + 1 + 1) nothing ∧ Below w.heap.size w V) (chain4 w _ _ _ _) ?_
  rintro V ⟨hk, hc, hr, ho, hlw⟩
  have HQ := Lib.hid hk
  have HC := Lib.hid hc
  have HR := Lib.hid hr
  have HO := Lib.hid ho
  have HW := Lib.hid hlw
  clear hk hc hr ho hlw
  refine wp_region_held_drew (S := fun V => BoxK V w.heap.size k n ∧ BoxC V (w.heap.size + 1) c ∧ BoxR V (w.heap.size + 1 + 1) r ∧ BoxA V (w.heap.size + 1 + 1 + 1) nothing ∧ Below w.heap.size w V) (by kernel_rfl) ⟨HQ.out, HC.out, HR.out, HO.out, HW.out.drew⟩ (fun _ => ?_)
  refine HeldBy.gen (fun V => BoxK V w.heap.size k n ∧ BoxC V (w.heap.size + 1) c ∧ BoxR V (w.heap.size + 1 + 1) r ∧ BoxA V (w.heap.size + 1 + 1 + 1) nothing ∧ Below w.heap.size w V) ⟨HQ.out, HC.out, HR.out, HO.out, HW.out.drew⟩ ?_
  clear HQ HC HR HO HW
  rintro U0 HS
  refine HeldBy.take (i := 0) rfl (by kernel_rfl) (by kernel_rfl) (by kernel_rfl) (fun _ _ _ h => h) (by rfl) (fun _ _ => by first | (go_simp; rfl) | (go_simp; done)) (by go_simp; rfl) HS ?_
  refine HeldBy.take (i := 1) rfl (by kernel_rfl) (by kernel_rfl) (by kernel_rfl) (fun _ _ _ h => h) (by rfl) (fun _ _ => by first | (go_simp; rfl) | (go_simp; done)) (by go_simp; rfl) HS ?_
  refine HeldBy.take (i := 2) (v := encK k n) rfl (by kernel_rfl) (by kernel_rfl) (by kernel_rfl) (fun _ _ _ h => h) (by rfl) (fun V hV => load_key hV.1 rfl rfl) (by go_simp; rfl) HS ?_
  refine HeldBy.take (i := 4) (v := encC c) rfl (by kernel_rfl) (by kernel_rfl) (by kernel_rfl) (fun _ _ _ h => h) (by rfl) (fun V hV => load_call hV.2.1 rfl rfl) (by go_simp; rfl) HS ?_
  refine HeldBy.call (i := 3) (v := encA A) rfl (by kernel_rfl) (by rfl) (by go_simp; exact ⟨rfl, rfl⟩) (by go_simp; rfl) ?_
  refine (HN.out _ (HL.out.after HS.2.2.2.2) (HT.out.after HS.2.2.2.2)).mono ?_
  rintro e U1 ⟨rfl, hb⟩
  replace HS : BoxK U1 w.heap.size k n ∧ BoxC U1 (w.heap.size + 1) c ∧ BoxR U1 (w.heap.size + 1 + 1) r ∧ BoxA U1 (w.heap.size + 1 + 1 + 1) nothing ∧ Below w.heap.size w U1 := ⟨HS.1.after hb, HS.2.1.after hb, HS.2.2.1.after hb, HS.2.2.2.1.after hb, HS.2.2.2.2.trans (hb.mono HS.2.2.2.2.size)⟩
  refine ⟨rfl, HS, ?_⟩
  clear hb
  refine HeldBy.call (i := 5) (v := encA (askA c)) rfl (by kernel_rfl) (by rfl) (by go_simp; exact ⟨rfl, rfl⟩) (by go_simp; rfl) ?_
  refine (ask_any c _).mono ?_
  rintro e U2 ⟨rfl, hb⟩
  replace HS : BoxK U2 w.heap.size k n ∧ BoxC U2 (w.heap.size + 1) c ∧ BoxR U2 (w.heap.size + 1 + 1) r ∧ BoxA U2 (w.heap.size + 1 + 1 + 1) nothing ∧ Below w.heap.size w U2 := ⟨HS.1.after hb, HS.2.1.after hb, HS.2.2.1.after hb, HS.2.2.2.1.after hb, HS.2.2.2.2.trans (hb.mono HS.2.2.2.2.size)⟩
  refine ⟨rfl, HS, ?_⟩
  clear hb
  refine HeldBy.take (i := 6) (v := .bool (!t)) rfl (by kernel_rfl) (by kernel_rfl) (by kernel_rfl) (fun _ _ _ h => h) (by rfl) (fun V _ => by rw [← HTT.out]; exact exec_neq_act rfl rfl rfl) (by go_simp; rfl) HS ?_
  refine wpAnyH_done (by kernel_rfl) ?_ _
  obtain ⟨hq, hc, hr, ho, hlw⟩ := HS
  cases t with
  | true =>
    have hxx := HXX.out
    rw [if_pos (of_decide_eq_true HTT.out)] at hxx
    have HXX := Lib.hid hxx
    have HC := Lib.hid hc
    have HR := Lib.hid hr
    have HO := Lib.hid ho
    have HW := Lib.hid hlw
    have HQ := Lib.hid hq
    have HG := Lib.hid (HK.out _ (HL.out.after hlw))
    have HLC : Hid (∀ {oi : Oper} {a : Act} {x : Operand}, oi.op = .load 34 x → a.eval x = .pointer (some ⟨w.heap.size + 1, 0, none⟩) → (execOp a.eval oi).run Tryd.prog _ = .ok (.value (encC c)) _) := fun h1 h2 => load_call hc h1 h2
    have HLK : Hid (∀ {oi : Oper} {a : Act} {x : Operand}, oi.op = .load 41 x → a.eval x = .pointer (some ⟨w.heap.size, 0, none⟩) → (execOp a.eval oi).run Tryd.prog _ = .ok (.value (encK k n)) _) := fun h1 h2 => load_key hq h1 h2
    clear hxx HTT hc hr ho hlw hq HL HT HN HK
    go_wp2_with (first | (refine wpList_got rfl (HLC.out rfl rfl) ?_) | (refine wpList_got rfl (HLK.out rfl rfl) ?_))
    refine HG.out.mono ?_
    rintro e W4 ⟨rfl, hb4⟩
    obtain ⟨V5, hst, hk5, hb5, -⟩ := boxing W4 p
    have hw4 := HW.out.trans (hb4.mono HW.out.size)
    have HNE : Hid (w.heap.size + 1 + 1 + 1 < W4.heap.size) := Nat.lt_of_lt_of_le HO.out.lt hb4.size
    have hc5 := (HC.out.after hb4).after hb5
    have hr5 := (HR.out.after hb4).after hb5
    obtain ⟨r0, r1, r3⟩ := hr5.cells
    have c0 := hc5.verb
    replace HO := Lib.hid ((HO.out.after hb4).after hb5)
    replace HW := Lib.hid (hw4.trans (hb5.mono hw4.size))
    have HB := Lib.hid hk5
    have HRR := Lib.hid hr5
    clear HG hb4 hb5 hw4 hc5 hr5 hk5 HC HR HQ HLC HLK
    unfold behindN at HXX
    by_cases h9 : r.err = 9
    · have e9 : (r.err == 9) = true := by simpa using h9
      have HVV : Hid (x = writeA { p with num := up ver }) := by show _ = _; rw [← HXX.out, if_pos h9]
      clear h9 HXX
      have g18 := HB.out.free 18
      have b18 := HB.out.c18
      go_upto_region 15 with (refine wpList_skip rfl (hst rfl rfl rfl) ?_)
      refine wp_gen (fun V => BoxO V W4.heap.size { p with num := up ver } ∧ BoxA V (w.heap.size + 1 + 1 + 1) nothing ∧ Below w.heap.size w V) ⟨(HB.out).s18 (up ver), (heap_setCell_other _ ⟨W4.heap.size, 18, none⟩ (w.heap.size + 1 + 1 + 1) _ (by have := HNE.out; show w.heap.size + 1 + 1 + 1 ≠ W4.heap.size; omega)).trans (HO.out), (HW.out).setCell (by have := HNE.out; show w.heap.size ≤ W4.heap.size; omega) _⟩ ?_
      clear HB HO HW HRR r0 r1 r3 c0 hst g18 b18
      rintro V6 ⟨hbx, ho, hlw⟩
      have HCA := Lib.hid (write_any { p with num := up ver } V6)
      have HO := Lib.hid ho
      have HW := Lib.hid hlw
      clear ho hlw
      go_wp2_with ((with_reducible refine wpList_load_obj ?_ rfl ?_ hbx ?_); rfl; rfl)
      refine HCA.out.mono ?_
      rintro e W7 ⟨rfl, hb7⟩
      obtain ⟨V8, hst8, ho8, -, hb8⟩ := acting (HO.out.after hb7) (writeA { p with num := up ver })
      have HO8 := Lib.hid ho8
      have HX8 := Lib.hid (hb8 _ _ (HW.out.trans (hb7.mono HW.out.size)) (by omega))
      clear ho8 hb8 HCA HO HW hb7 hbx
      go_wp2_with (refine wpList_skip rfl (hst8 rfl rfl rfl) ?_)
      refine bodyPost_ret (v := encA (writeA { p with num := up ver })) (results_cell_row rfl _ _ (w.heap.size + 1 + 1 + 1) 36 (cellsA (writeA { p with num := up ver })) (0, 0) _ rfl HO8.out undAct rfl sizeAct) rfl ?_
      exact ⟨by rw [HVV.out], HX8.out⟩
    · have e9 : (r.err == 9) = false := by simpa using h9
      have HX2 := Lib.hid (HXX.out.symm.trans (if_neg h9))
      clear h9 HXX
      by_cases h0 : r.err = 0
      · have e0 : (r.err == 0) = true := by simpa using h0
        have e5 : (r.err == 5) = false := by rw [h0]; rfl
        have HX3 := Lib.hid (HX2.out.trans (if_pos h0))
        clear h0 HX2
        by_cases v5 : c.verb = 5
        · have y5 : (c.verb == 5) = true := by simpa using v5
          have HVV : Hid (x = writeA { p with got := r.size, num := 0 }) := HX3.out.trans (if_pos v5)
          clear v5 HX3
          have g8 := HB.out.free 8
          have b8 := HB.out.c8
          have g18 := HB.out.free 18
          have b18 := HB.out.c18
          go_upto_region 15 with (refine wpList_skip rfl (hst rfl rfl rfl) ?_)
          refine wp_gen (fun V => BoxO V W4.heap.size { p with got := r.size, num := 0 } ∧ BoxA V (w.heap.size + 1 + 1 + 1) nothing ∧ Below w.heap.size w V) ⟨((HB.out).s8 (r.size)).s18 (0), (heap_setCell_other _ ⟨W4.heap.size, 18, none⟩ (w.heap.size + 1 + 1 + 1) _ (by have := HNE.out; show w.heap.size + 1 + 1 + 1 ≠ W4.heap.size; omega)).trans ((heap_setCell_other _ ⟨W4.heap.size, 8, none⟩ (w.heap.size + 1 + 1 + 1) _ (by have := HNE.out; show w.heap.size + 1 + 1 + 1 ≠ W4.heap.size; omega)).trans (HO.out)), ((HW.out).setCell (by have := HNE.out; show w.heap.size ≤ W4.heap.size; omega) _).setCell (by have := HNE.out; show w.heap.size ≤ W4.heap.size; omega) _⟩ ?_
          clear HB HO HW HRR r0 r1 r3 c0 hst g8 b8 g18 b18
          rintro V6 ⟨hbx, ho, hlw⟩
          have HCA := Lib.hid (write_any { p with got := r.size, num := 0 } V6)
          have HO := Lib.hid ho
          have HW := Lib.hid hlw
          clear ho hlw
          go_wp2_with ((with_reducible refine wpList_load_obj ?_ rfl ?_ hbx ?_); rfl; rfl)
          refine HCA.out.mono ?_
          rintro e W7 ⟨rfl, hb7⟩
          obtain ⟨V8, hst8, ho8, -, hb8⟩ := acting (HO.out.after hb7) (writeA { p with got := r.size, num := 0 })
          have HO8 := Lib.hid ho8
          have HX8 := Lib.hid (hb8 _ _ (HW.out.trans (hb7.mono HW.out.size)) (by omega))
          clear ho8 hb8 HCA HO HW hb7 hbx
          go_wp2_with (refine wpList_skip rfl (hst8 rfl rfl rfl) ?_)
          refine bodyPost_ret (v := encA (writeA { p with got := r.size, num := 0 })) (results_cell_row rfl _ _ (w.heap.size + 1 + 1 + 1) 36 (cellsA (writeA { p with got := r.size, num := 0 })) (0, 0) _ rfl HO8.out undAct rfl sizeAct) rfl ?_
          exact ⟨by rw [HVV.out], HX8.out⟩
        · have y5 : (c.verb == 5) = false := by simpa using v5
          have HX4 := Lib.hid (HX3.out.trans (if_neg v5))
          clear v5 HX3
          by_cases v6 : c.verb = 6
          · have y6 : (c.verb == 6) = true := by simpa using v6
            have HVV : Hid (x = writeA { p with phase := 11, tag := r.tag, got := r.size, num := 0 }) := HX4.out.trans (if_pos v6)
            clear v6 HX4
            go_upto_region 10 with (refine wpList_skip rfl (hst rfl rfl rfl) ?_)
            clear r0 r1 r3 c0 hst
            refine wp_region_held_drew (S := fun V => BoxR V (w.heap.size + 1 + 1) r) (by kernel_rfl) HRR.out (fun _ => ?_)
            refine HeldBy.gen (fun V => (BoxR V (w.heap.size + 1 + 1) r) ∧ (BoxO V W4.heap.size p) ∧ (BoxA V (w.heap.size + 1 + 1 + 1) nothing) ∧ (Below w.heap.size w V)) ⟨HRR.out, HB.out, HO.out, HW.out.drew⟩ ?_
            clear HRR HB HO HW
            rintro U0 ⟨HS, HB, HO, HW⟩
            refine HeldBy.take (i := 0) rfl (by kernel_rfl) (by kernel_rfl) (by kernel_rfl) (fun _ _ _ h => h) (by rfl) (fun _ _ => by first | (go_simp; rfl) | (go_simp; done)) (by first | (go_simp; rfl) | (go_simp; done)) HS ?_
            refine HeldBy.take (i := 1) (v := .int .u64 r.tag) rfl (by kernel_rfl) (by kernel_rfl) (by kernel_rfl) (fun _ _ _ h => h) (by rfl) (fun V hV => by obtain ⟨h1, h2, h3⟩ := hV.cells; first | (go_simp; rfl) | (go_simp; done)) (by first | (go_simp; rfl) | (go_simp; done)) HS ?_
            refine HeldBy.take (i := 2) rfl (by kernel_rfl) (by kernel_rfl) (by kernel_rfl) (fun _ _ _ h => h) (by rfl) (fun _ _ => by first | (go_simp; rfl) | (go_simp; done)) (by first | (go_simp; rfl) | (go_simp; done)) HS ?_
            refine HeldBy.take (i := 3) (v := .int .i64 r.size) rfl (by kernel_rfl) (by kernel_rfl) (by kernel_rfl) (fun _ _ _ h => h) (by rfl) (fun V hV => by obtain ⟨h1, h2, h3⟩ := hV.cells; first | (go_simp; rfl) | (go_simp; done)) (by first | (go_simp; rfl) | (go_simp; done)) HS ?_
            refine HeldBy.take (i := 4) rfl (by kernel_rfl) (by kernel_rfl) (by kernel_rfl) (fun _ _ _ h => h) (by rfl) (fun _ _ => by first | (go_simp; rfl) | (go_simp; done)) (by first | (go_simp; rfl) | (go_simp; done)) HS ?_
            have hc17 := HB.c17
            have hf17 := HB.free 17
            obtain ⟨U1, hU1⟩ : ∃ V, U0.setCell ⟨W4.heap.size, 17, none⟩ (.int .u8 11) = V := ⟨_, rfl⟩
            have hB1 : BoxO U1 W4.heap.size { p with phase := 11 } := by rw [← hU1]; exact HB.s17 (11)
            have hS1 : BoxR U1 (w.heap.size + 1 + 1) r := by rw [← hU1]; exact (heap_setCell_other _ ⟨W4.heap.size, 17, none⟩ (w.heap.size + 1 + 1) _ (by have := HNE.out; show w.heap.size + 1 + 1 ≠ W4.heap.size; omega)).trans HS
            have hO1 : BoxA U1 (w.heap.size + 1 + 1 + 1) nothing := by rw [← hU1]; exact (heap_setCell_other _ ⟨W4.heap.size, 17, none⟩ (w.heap.size + 1 + 1 + 1) _ (by have := HNE.out; show w.heap.size + 1 + 1 + 1 ≠ W4.heap.size; omega)).trans HO
            have hW1 : Below w.heap.size w U1 := by rw [← hU1]; exact HW.setCell (by have := HNE.out; show w.heap.size ≤ W4.heap.size; omega) _
            refine HeldBy.store (i := 5) (w' := U1) rfl (by kernel_rfl) (by rfl) (by rw [← hU1]; first | (go_simp; done) | (go_simp; rfl)) (by first | (go_simp; rfl) | (go_simp; done)) hS1 ?_
            clear hU1 hc17 hf17 HS HB HO HW
            refine HeldBy.take (i := 6) rfl (by kernel_rfl) (by kernel_rfl) (by kernel_rfl) (fun _ _ _ h => h) (by rfl) (fun V hV => by first | (go_simp; rfl) | (go_simp; done)) (by first | (go_simp; rfl) | (go_simp; done)) hS1 ?_
            have hc19 := hB1.c19
            have hf19 := hB1.free 19
            obtain ⟨U2, hU2⟩ : ∃ V, U1.setCell ⟨W4.heap.size, 19, none⟩ (.int .u64 r.tag) = V := ⟨_, rfl⟩
            have hB2 : BoxO U2 W4.heap.size { p with phase := 11, tag := r.tag } := by rw [← hU2]; exact hB1.s19 (r.tag)
            have hS2 : BoxR U2 (w.heap.size + 1 + 1) r := by rw [← hU2]; exact (heap_setCell_other _ ⟨W4.heap.size, 19, none⟩ (w.heap.size + 1 + 1) _ (by have := HNE.out; show w.heap.size + 1 + 1 ≠ W4.heap.size; omega)).trans hS1
            have hO2 : BoxA U2 (w.heap.size + 1 + 1 + 1) nothing := by rw [← hU2]; exact (heap_setCell_other _ ⟨W4.heap.size, 19, none⟩ (w.heap.size + 1 + 1 + 1) _ (by have := HNE.out; show w.heap.size + 1 + 1 + 1 ≠ W4.heap.size; omega)).trans hO1
            have hW2 : Below w.heap.size w U2 := by rw [← hU2]; exact hW1.setCell (by have := HNE.out; show w.heap.size ≤ W4.heap.size; omega) _
            refine HeldBy.store (i := 7) (w' := U2) rfl (by kernel_rfl) (by rfl) (by rw [← hU2]; first | (go_simp; done) | (go_simp; rfl)) (by first | (go_simp; rfl) | (go_simp; done)) hS2 ?_
            clear hU2 hc19 hf19 hS1 hB1 hO1 hW1
            refine HeldBy.take (i := 8) rfl (by kernel_rfl) (by kernel_rfl) (by kernel_rfl) (fun _ _ _ h => h) (by rfl) (fun V hV => by first | (go_simp; rfl) | (go_simp; done)) (by first | (go_simp; rfl) | (go_simp; done)) hS2 ?_
            have hc8 := hB2.c8
            have hf8 := hB2.free 8
            obtain ⟨U3, hU3⟩ : ∃ V, U2.setCell ⟨W4.heap.size, 8, none⟩ (.int .i64 r.size) = V := ⟨_, rfl⟩
            have hB3 : BoxO U3 W4.heap.size { p with phase := 11, tag := r.tag, got := r.size } := by rw [← hU3]; exact hB2.s8 (r.size)
            have hS3 : BoxR U3 (w.heap.size + 1 + 1) r := by rw [← hU3]; exact (heap_setCell_other _ ⟨W4.heap.size, 8, none⟩ (w.heap.size + 1 + 1) _ (by have := HNE.out; show w.heap.size + 1 + 1 ≠ W4.heap.size; omega)).trans hS2
            have hO3 : BoxA U3 (w.heap.size + 1 + 1 + 1) nothing := by rw [← hU3]; exact (heap_setCell_other _ ⟨W4.heap.size, 8, none⟩ (w.heap.size + 1 + 1 + 1) _ (by have := HNE.out; show w.heap.size + 1 + 1 + 1 ≠ W4.heap.size; omega)).trans hO2
            have hW3 : Below w.heap.size w U3 := by rw [← hU3]; exact hW2.setCell (by have := HNE.out; show w.heap.size ≤ W4.heap.size; omega) _
            refine HeldBy.store (i := 9) (w' := U3) rfl (by kernel_rfl) (by rfl) (by rw [← hU3]; first | (go_simp; done) | (go_simp; rfl)) (by first | (go_simp; rfl) | (go_simp; done)) hS3 ?_
            clear hU3 hc8 hf8 hS2 hB2 hO2 hW2
            refine HeldBy.take (i := 10) rfl (by kernel_rfl) (by kernel_rfl) (by kernel_rfl) (fun _ _ _ h => h) (by rfl) (fun V hV => by first | (go_simp; rfl) | (go_simp; done)) (by first | (go_simp; rfl) | (go_simp; done)) hS3 ?_
            have hc18 := hB3.c18
            have hf18 := hB3.free 18
            obtain ⟨U4, hU4⟩ : ∃ V, U3.setCell ⟨W4.heap.size, 18, none⟩ (.int .u64 0) = V := ⟨_, rfl⟩
            have hB4 : BoxO U4 W4.heap.size { p with phase := 11, tag := r.tag, got := r.size, num := 0 } := by rw [← hU4]; exact hB3.s18 (0)
            have hS4 : BoxR U4 (w.heap.size + 1 + 1) r := by rw [← hU4]; exact (heap_setCell_other _ ⟨W4.heap.size, 18, none⟩ (w.heap.size + 1 + 1) _ (by have := HNE.out; show w.heap.size + 1 + 1 ≠ W4.heap.size; omega)).trans hS3
            have hO4 : BoxA U4 (w.heap.size + 1 + 1 + 1) nothing := by rw [← hU4]; exact (heap_setCell_other _ ⟨W4.heap.size, 18, none⟩ (w.heap.size + 1 + 1 + 1) _ (by have := HNE.out; show w.heap.size + 1 + 1 + 1 ≠ W4.heap.size; omega)).trans hO3
            have hW4 : Below w.heap.size w U4 := by rw [← hU4]; exact hW3.setCell (by have := HNE.out; show w.heap.size ≤ W4.heap.size; omega) _
            refine HeldBy.store (i := 11) (w' := U4) rfl (by kernel_rfl) (by rfl) (by rw [← hU4]; first | (go_simp; done) | (go_simp; rfl)) (by first | (go_simp; rfl) | (go_simp; done)) hS4 ?_
            clear hU4 hc18 hf18 hS3 hB3 hO3 hW3
            refine wpAnyH_done (by kernel_rfl) ?_ _
            have hbx := hB4
            have ho := hO4
            have hlw := hW4
            clear hB4 hO4 hW4 hS4
            have HCA := Lib.hid (write_any { p with phase := 11, tag := r.tag, got := r.size, num := 0 } U4)
            have HO := Lib.hid ho
            have HW := Lib.hid hlw
            clear ho hlw
            go_wp2_with ((with_reducible refine wpList_load_obj ?_ rfl ?_ hbx ?_); rfl; rfl)
            refine HCA.out.mono ?_
            rintro e W7 ⟨rfl, hb7⟩
            obtain ⟨V8, hst8, ho8, -, hb8⟩ := acting (HO.out.after hb7) (writeA { p with phase := 11, tag := r.tag, got := r.size, num := 0 })
            have HO8 := Lib.hid ho8
            have HX8 := Lib.hid (hb8 _ _ (HW.out.trans (hb7.mono HW.out.size)) (by omega))
            clear ho8 hb8 HCA HO HW hb7 hbx
            go_wp2_with (refine wpList_skip rfl (hst8 rfl rfl rfl) ?_)
            refine bodyPost_ret (v := encA (writeA { p with phase := 11, tag := r.tag, got := r.size, num := 0 })) (results_cell_row rfl _ _ (w.heap.size + 1 + 1 + 1) 36 (cellsA (writeA { p with phase := 11, tag := r.tag, got := r.size, num := 0 })) (0, 0) _ rfl HO8.out undAct rfl sizeAct) rfl ?_
            exact ⟨by rw [HVV.out], HX8.out⟩
          · have y6 : (c.verb == 6) = false := by simpa using v6
            have HX5 := Lib.hid (HX4.out.trans (if_neg v6))
            clear v6 HX4
            by_cases v7 : c.verb = 7
            · have y7 : (c.verb == 7) = true := by simpa using v7
              have HVV : Hid (x = removeA p) := HX5.out.trans (if_pos v7)
              clear v7 HX5
              have hbx := HB.out
              have HCA := Lib.hid (remove_any p V5)
              go_wp2_with (first | (refine wpList_skip rfl (hst rfl rfl rfl) ?_) | ((with_reducible refine wpList_load_obj ?_ rfl ?_ hbx ?_); rfl; rfl))
              refine HCA.out.mono ?_
              rintro e W7 ⟨rfl, hb7⟩
              obtain ⟨V8, hst8, ho8, -, hb8⟩ := acting (HO.out.after hb7) (removeA p)
              have HO8 := Lib.hid ho8
              have HX8 := Lib.hid (hb8 _ _ (HW.out.trans (hb7.mono HW.out.size)) (by omega))
              clear ho8 hb8 HCA HO HW hb7 hbx r0 r1 r3 c0
              go_wp2_with (refine wpList_skip rfl (hst8 rfl rfl rfl) ?_)
              refine bodyPost_ret (v := encA (removeA p)) (results_cell_row rfl _ _ (w.heap.size + 1 + 1 + 1) 36 (cellsA (removeA p)) (0, 0) _ rfl HO8.out undAct rfl sizeAct) rfl ?_
              exact ⟨by rw [HVV.out], HX8.out⟩
            · have y7 : (c.verb == 7) = false := by simpa using v7
              have HVV : Hid (x = nothing) := HX5.out.trans (if_neg v7)
              clear v7 HX5
              obtain ⟨V8, hst8, ho8, -, hb8⟩ := acting HO.out nothing
              have HO8 := Lib.hid ho8
              have HX8 := Lib.hid (hb8 _ _ HW.out (by omega))
              clear ho8 hb8
              go_wp2_with (first | (refine wpList_skip rfl (hst8 rfl rfl rfl) ?_) | (refine wpList_skip rfl (hst rfl rfl rfl) ?_))
              refine bodyPost_ret (v := encA nothing) (results_cell_row rfl _ _ (w.heap.size + 1 + 1 + 1) 36 (cellsA nothing) (0, 0) _ rfl HO8.out undAct rfl sizeAct) rfl ?_
              exact ⟨by rw [HVV.out], HX8.out⟩
      · have e0 : (r.err == 0) = false := by simpa using h0
        have HX3 := Lib.hid (HX2.out.trans (if_neg h0))
        clear h0 HX2
        by_cases h5 : r.err = 5
        · have e5 : (r.err == 5) = true := by simpa using h5
          have HX4 := Lib.hid (HX3.out.trans (if_pos h5))
          clear h5 HX3
          by_cases v6 : c.verb = 6
          · have y6 : (c.verb == 6) = true := by simpa using v6
            have HVV : Hid (x = writeA { p with phase := 1, volume := E0 }) := HX4.out.trans (if_pos v6)
            clear v6 HX4
            have g17 := HB.out.free 17
            have b17 := HB.out.c17
            have g15 := HB.out.free 15
            have b15 := HB.out.c15
            go_upto_region 15 with (refine wpList_skip rfl (hst rfl rfl rfl) ?_)
            refine wp_gen (fun V => BoxO V W4.heap.size { p with phase := 1, volume := E0 } ∧ BoxA V (w.heap.size + 1 + 1 + 1) nothing ∧ Below w.heap.size w V) ⟨((HB.out).s17 (1)).s15 (E0), (heap_setCell_other _ ⟨W4.heap.size, 15, none⟩ (w.heap.size + 1 + 1 + 1) _ (by have := HNE.out; show w.heap.size + 1 + 1 + 1 ≠ W4.heap.size; omega)).trans ((heap_setCell_other _ ⟨W4.heap.size, 17, none⟩ (w.heap.size + 1 + 1 + 1) _ (by have := HNE.out; show w.heap.size + 1 + 1 + 1 ≠ W4.heap.size; omega)).trans (HO.out)), ((HW.out).setCell (by have := HNE.out; show w.heap.size ≤ W4.heap.size; omega) _).setCell (by have := HNE.out; show w.heap.size ≤ W4.heap.size; omega) _⟩ ?_
            clear HB HO HW HRR r0 r1 r3 c0 hst g17 b17 g15 b15
            rintro V6 ⟨hbx, ho, hlw⟩
            have HCA := Lib.hid (write_any { p with phase := 1, volume := E0 } V6)
            have HO := Lib.hid ho
            have HW := Lib.hid hlw
            clear ho hlw
            go_wp2_with ((with_reducible refine wpList_load_obj ?_ rfl ?_ hbx ?_); rfl; rfl)
            refine HCA.out.mono ?_
            rintro e W7 ⟨rfl, hb7⟩
            obtain ⟨V8, hst8, ho8, -, hb8⟩ := acting (HO.out.after hb7) (writeA { p with phase := 1, volume := E0 })
            have HO8 := Lib.hid ho8
            have HX8 := Lib.hid (hb8 _ _ (HW.out.trans (hb7.mono HW.out.size)) (by omega))
            clear ho8 hb8 HCA HO HW hb7 hbx
            go_wp2_with (refine wpList_skip rfl (hst8 rfl rfl rfl) ?_)
            refine bodyPost_ret (v := encA (writeA { p with phase := 1, volume := E0 })) (results_cell_row rfl _ _ (w.heap.size + 1 + 1 + 1) 36 (cellsA (writeA { p with phase := 1, volume := E0 })) (0, 0) _ rfl HO8.out undAct rfl sizeAct) rfl ?_
            exact ⟨by rw [HVV.out], HX8.out⟩
          · have y6 : (c.verb == 6) = false := by simpa using v6
            have HVV : Hid (x = nothing) := HX4.out.trans (if_neg v6)
            clear v6 HX4
            obtain ⟨V8, hst8, ho8, -, hb8⟩ := acting HO.out nothing
            have HO8 := Lib.hid ho8
            have HX8 := Lib.hid (hb8 _ _ HW.out (by omega))
            clear ho8 hb8
            go_wp2_with (first | (refine wpList_skip rfl (hst8 rfl rfl rfl) ?_) | (refine wpList_skip rfl (hst rfl rfl rfl) ?_))
            refine bodyPost_ret (v := encA nothing) (results_cell_row rfl _ _ (w.heap.size + 1 + 1 + 1) 36 (cellsA nothing) (0, 0) _ rfl HO8.out undAct rfl sizeAct) rfl ?_
            exact ⟨by rw [HVV.out], HX8.out⟩
        · have e5 : (r.err == 5) = false := by simpa using h5
          have HVV : Hid (x = nothing) := HX3.out.trans (if_neg h5)
          clear h5 HX3
          obtain ⟨V8, hst8, ho8, -, hb8⟩ := acting HO.out nothing
          have HO8 := Lib.hid ho8
          have HX8 := Lib.hid (hb8 _ _ HW.out (by omega))
          clear ho8 hb8
          go_wp2_with (first | (refine wpList_skip rfl (hst8 rfl rfl rfl) ?_) | (refine wpList_skip rfl (hst rfl rfl rfl) ?_))
          refine bodyPost_ret (v := encA nothing) (results_cell_row rfl _ _ (w.heap.size + 1 + 1 + 1) 36 (cellsA nothing) (0, 0) _ rfl HO8.out undAct rfl sizeAct) rfl ?_
          exact ⟨by rw [HVV.out], HX8.out⟩
  | false =>
    have hxx := HXX.out
    rw [if_neg (of_decide_eq_false HTT.out)] at hxx
    have HVV : Hid (x = nothing) := hxx.symm
    have HO := Lib.hid ho
    have HW := Lib.hid hlw
    clear hxx HTT hq hc hr ho hlw HXX HL HT HN HK
    obtain ⟨V8, hst8, ho8, -, hb8⟩ := acting HO.out nothing
    have HO8 := Lib.hid ho8
    have HX8 := Lib.hid (hb8 _ _ HW.out (by omega))
    clear ho8 hb8
    go_wp2_with (first | (refine wpList_skip rfl (hst8 rfl rfl rfl) ?_))
    refine bodyPost_ret (v := encA nothing) (results_cell_row rfl _ _ (w.heap.size + 1 + 1 + 1) 36 (cellsA nothing) (0, 0) _ rfl HO8.out undAct rfl sizeAct) rfl ?_
    exact ⟨by rw [HVV.out], HX8.out⟩
end Go.Proofs.YtijgieefmnmakaaDoor.O.B
