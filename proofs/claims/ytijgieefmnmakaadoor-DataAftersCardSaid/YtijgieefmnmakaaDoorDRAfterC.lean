/- What the document says is done behind a call: for a claim. -/
import Derived.Test.YtijgieefmnmakaaDoorDRAfter0
namespace Go.Proofs.YtijgieefmnmakaaDoor.O.B
open Go Go.RowKit Go.Shelf Go.Lib RangeMap KM
attribute [local go_sem] Oper.semAt_some

set_option maxRecDepth 100000 in
set_option maxHeartbeats 8000000 in
theorem rafter_claim (l : List Obj) (v : Value) (ver : Int) (n : ByteArray) (c : Cl) (r : Rs) (w : World) (hl : ObjsIn w v l) (hlen : l.length < 100000) :
    Calls Tryd.prog 22 #[v, .int .u64 ver, encK 3 n, encC c, encR r] w fun e w' => e = .returned (encA (afterD l ver 3 n c r)) ∧ Below w.heap.size w w' := by
  obtain ⟨o, cp, rfl, -, -⟩ := id hl
  have HL := Lib.hid hl
  have HUN := Lib.hid (fun V (hV : ObjsIn V (.slice o l.length cp) l) => uniq_any l _ V hV hlen)
  have hul : (uniqL l).length < 100000 := Nat.lt_of_le_of_lt (uniq_len l) hlen
  have HCC := Lib.hid (fun (V : World) (u : Value) (hV : ObjsIn V u (uniqL l)) => show Calls _ _ _ V (fun e w' => e = .returned (encA (claimD l ver n)) ∧ Below V.heap.size V w') by rw [← claimD_uniq l ver n]; exact rclaimD_any (uniqL l) u ver n V hV hul)
  have HGX := Lib.hid (fun (V : World) (u : Value) (hV : ObjsIn V u (uniqL l)) => show Calls _ _ _ V (fun e w' => e = .returned (.tuple #[encO ((getL l 4 c.target).getD O0), .bool (getL l 4 c.target).isSome]) ∧ Below V.heap.size V w') by rw [← uniq_get l 4 c.target]; exact rget_any (uniqL l) u 4 c.target V hV)
  have HPL := Lib.hid (claim_plain l ver n)
  have HVB := Lib.hid (claim_verb l ver n)
  obtain ⟨x, hx⟩ : ∃ x, afterD l ver 3 n c r = x := ⟨_, rfl⟩
  rw [hx]
  rw [after_claim] at hx
  generalize claimD l ver n = A at *
  generalize (getL l 4 c.target).isSome = f at *
  generalize (getL l 4 c.target).getD O0 = p at *
  have HXX := Lib.hid hx
  clear hx hl hlen hul
  have HKE : Hid (encK 3 n = .agg #[.int .u8 3, .string n]) := rfl
  unfold encR
  rw [show encC c = .agg (cellsC c) from rfl, HKE.out]
  unfold cellsC
  go_enter Tryd.func22, Tryd.ntmps22
  go_upto_region 1 with (fail)
  refine wp_gen (fun V => BoxK V w.heap.size 3 n ∧ BoxC V (w.heap.size + 1) c ∧ BoxR V (w.heap.size + 1 + 1) r ∧ BoxA V (w.heap.size + 1 + 1 + 1) nothing ∧ Below w.heap.size w V) (chain4 w _ _ _ _) ?_
  rintro V ⟨hk, hc, hr, ho, hlw⟩
  have HU := Lib.hid (HUN.out V (HL.out.after hlw))
  have HQ := Lib.hid hk
  have HC := Lib.hid hc
  have HR := Lib.hid hr
  have HO := Lib.hid ho
  have HW := Lib.hid hlw
  clear hk hc hr ho hlw HUN HL HKE
  go_wp2_with (fail)
  refine HU.out.mono ?_
  rintro e W1 ⟨u, rfl, hu, hb1⟩
  obtain ⟨o1, c1, rfl, -, -⟩ := id hu
  have HUU := Lib.hid hu
  have hlw := HW.out.trans (hb1.mono HW.out.size)
  replace HQ := Lib.hid (HQ.out.after hb1)
  replace HC := Lib.hid (HC.out.after hb1)
  replace HR := Lib.hid (HR.out.after hb1)
  replace HO := Lib.hid (HO.out.after hb1)
  replace HW := Lib.hid hlw
  clear HU hu hb1 hlw
  obtain ⟨V2, hs2, ha2, -, hb2⟩ := acting (show BoxA (W1.alloc (.cells (cellsA nothing) 36 (0, 0))) W1.heap.size nothing from heap_alloc_new _ _) nothing
  have hbel : Below W1.heap.size W1 V2 := hb2 _ _ ((Below.refl _ _).alloc (Nat.le_refl _) _) (Nat.le_refl _)
  have HA2 := Lib.hid ha2
  have HB2 := Lib.hid hbel
  obtain ⟨k0, k1⟩ := (HQ.out.after hbel).cells
  clear ha2 hb2
  have HD := Lib.hid (HCC.out V2 _ (HUU.out.after hbel))
  clear HCC
  go_wp2_with (refine wpList_skip rfl (hs2 rfl rfl rfl) ?_)
  refine HD.out.mono ?_
  rintro e W3 ⟨rfl, hb3⟩
  obtain ⟨V4, hs4, ha4, -, hb4⟩ := acting (HA2.out.after hb3) A
  have HA4 := Lib.hid ha4
  have HB4 := Lib.hid (hb4 _ _ (HB2.out.trans (hb3.mono HB2.out.size)) (Nat.le_refl _))
  clear ha4 hb4 hb3 HA2 HB2 hbel HD k0 k1 hs2
  have hlw4 := HW.out.trans (HB4.out.mono HW.out.size)
  obtain ⟨q0, q1⟩ := (HQ.out.after HB4.out).cells
  have hcc := HC.out.after HB4.out
  obtain ⟨c0, ct⟩ := hcc.cells
  have hr4 := HR.out.after HB4.out
  obtain ⟨r0, r1, r3⟩ := hr4.cells
  have HRR := Lib.hid hr4
  have HU4 := Lib.hid (HUU.out.after HB4.out)
  have HN4 : Hid (w.heap.size + 1 + 1 + 1 < W1.heap.size) := HO.out.lt
  replace HO := Lib.hid (HO.out.after HB4.out)
  replace HW := Lib.hid hlw4
  clear hr4 hlw4 HQ HC HR HUU
  have a0 := HA4.out.kind
  have hca := HA4.out.callAt
  by_cases hA : A.act = 3
  · have e3 : (A.act == 3) = true := by simpa using hA
    have e3' : (A.act != 3) = false := by simpa using hA
    by_cases hne : A.call = c
    · have hv5 : c.verb = 5 := hne ▸ HVB.out hA
      have HX2 : Hid ((if r.err = 0 then writeA { p with got := r.size, num := 0 } else if r.err = 9 then writeA { p with num := up ver } else nothing) = x) := by
        have h := HXX.out
        rw [if_pos ((HPL.out hA).trans (congrArg askA hne)), behind_claim p _ c r hv5] at h
        exact h
      clear HXX HPL HVB hv5
      have HG := Lib.hid (HGX.out V4 _ HU4.out)
      clear HGX HU4
      go_wp2_with (first | (refine wpList_skip rfl (hs4 rfl rfl rfl) ?_) | (refine wpList_got rfl (load_callAt hca rfl rfl) ?_) | (refine wpList_got rfl (load_call hcc rfl rfl) ?_) | (refine wpList_got rfl (exec_neq_at hne rfl rfl rfl) ?_))
      refine HG.out.mono ?_
      rintro e W5 ⟨rfl, hb5⟩
      obtain ⟨V6, s6, k6, l6, -⟩ := boxing W5 p
      have hlw := HW.out.trans (hb5.mono HW.out.size)
      have hlw6 := hlw.trans (l6.mono hlw.size)
      have HNE : Hid (w.heap.size + 1 + 1 + 1 < W5.heap.size) := Nat.lt_of_lt_of_le HO.out.lt hb5.size
      have hr6 := (HRR.out.after hb5).after l6
      obtain ⟨t0, t1, t3⟩ := hr6.cells
      have hc6 := (hcc.after hb5).after l6
      obtain ⟨d0, -⟩ := hc6.cells
      replace HRR := Lib.hid hr6
      replace HO := Lib.hid ((HO.out.after hb5).after l6)
      replace HW := Lib.hid hlw6
      have HB := Lib.hid k6
      clear HG hb5 k6 l6 hlw hlw6 hr6 hc6 hcc hca r0 r1 r3 c0 ct q0 q1 a0 HA4 HB4 hs4 hA e3 e3' hne HN4
      go_upto_region 12 with (refine wpList_skip rfl (s6 rfl rfl rfl) ?_)
      clear s6
      by_cases h0 : r.err = 0
      · have e0 : (r.err == 0) = true := by simpa using h0
        have HVV : Hid (x = writeA { p with got := r.size, num := 0 }) := HX2.out.symm.trans (if_pos h0)
        clear h0 HX2
        have g8 := HB.out.free 8
        have b8 := HB.out.c8
        have g18 := HB.out.free 18
        have b18 := HB.out.c18
        go_upto_region 15 with (fail)
        refine wp_gen (fun V => BoxO V W5.heap.size { p with got := r.size, num := 0 } ∧ BoxA V (w.heap.size + 1 + 1 + 1) nothing ∧ Below w.heap.size w V) ⟨(((HB.out).s8 (r.size)).s18 (0)), ((heap_setCell_other _ ⟨W5.heap.size, 18, none⟩ (w.heap.size + 1 + 1 + 1) _ (by have := HNE.out; show w.heap.size + 1 + 1 + 1 ≠ W5.heap.size; omega)).trans ((heap_setCell_other _ ⟨W5.heap.size, 8, none⟩ (w.heap.size + 1 + 1 + 1) _ (by have := HNE.out; show w.heap.size + 1 + 1 + 1 ≠ W5.heap.size; omega)).trans (HO.out))), (((HW.out).setCell (by have := HNE.out; show w.heap.size ≤ W5.heap.size; omega) _).setCell (by have := HNE.out; show w.heap.size ≤ W5.heap.size; omega) _)⟩ ?_
        clear HB HO HW g8 b8 g18 b18
        rintro V6 ⟨hbx, ho, hlw⟩
        have HCA := Lib.hid (rwrite_any { p with got := r.size, num := 0 } V6)
        have HO := Lib.hid ho
        have HW := Lib.hid hlw
        clear ho hlw
        go_wp2_with ((with_reducible refine wpList_load_obj ?_ rfl ?_ hbx ?_); rfl; rfl)
        refine HCA.out.mono ?_
        rintro e W7 ⟨rfl, hb7⟩
        obtain ⟨V8, hst8, ho8, -, hb8⟩ := acting (HO.out.after hb7) (writeA { p with got := r.size, num := 0 })
        have HO8 := Lib.hid ho8
        have HX8 := Lib.hid (hb8 _ _ (HW.out.trans (hb7.mono HW.out.size)) (by omega))
        clear ho8 hb8 HCA HO HW hb7 hbx
        go_wp2_with (refine wpList_skip rfl (hst8 rfl rfl rfl) ?_)
        refine bodyPost_ret (v := encA (writeA { p with got := r.size, num := 0 })) (results_cell_row rfl _ _ (w.heap.size + 1 + 1 + 1) 36 (cellsA (writeA { p with got := r.size, num := 0 })) (0, 0) _ rfl HO8.out undAct rfl sizeAct) rfl ?_
        exact ⟨by rw [HVV.out], HX8.out⟩
      · have e0 : (r.err == 0) = false := by simpa using h0
        have HX3 := Lib.hid ((if_neg h0).symm.trans HX2.out)
        clear h0 HX2
        by_cases h9 : r.err = 9
        · have e9 : (r.err == 9) = true := by simpa using h9
          have HVV : Hid (x = writeA { p with num := up ver }) := HX3.out.symm.trans (if_pos h9)
          clear h9 HX3
          have g18 := HB.out.free 18
          have b18 := HB.out.c18
          go_upto_region 18 with (fail)
          refine wp_gen (fun V => BoxO V W5.heap.size { p with num := up ver } ∧ BoxA V (w.heap.size + 1 + 1 + 1) nothing ∧ Below w.heap.size w V) ⟨((HB.out).s18 (up ver)), ((heap_setCell_other _ ⟨W5.heap.size, 18, none⟩ (w.heap.size + 1 + 1 + 1) _ (by have := HNE.out; show w.heap.size + 1 + 1 + 1 ≠ W5.heap.size; omega)).trans (HO.out)), ((HW.out).setCell (by have := HNE.out; show w.heap.size ≤ W5.heap.size; omega) _)⟩ ?_
          clear HB HO HW g18 b18
          rintro V6 ⟨hbx, ho, hlw⟩
          have HCA := Lib.hid (rwrite_any { p with num := up ver } V6)
          have HO := Lib.hid ho
          have HW := Lib.hid hlw
          clear ho hlw
          go_wp2_with ((with_reducible refine wpList_load_obj ?_ rfl ?_ hbx ?_); rfl; rfl)
          refine HCA.out.mono ?_
          rintro e W7 ⟨rfl, hb7⟩
          obtain ⟨V8, hst8, ho8, -, hb8⟩ := acting (HO.out.after hb7) (writeA { p with num := up ver })
          have HO8 := Lib.hid ho8
          have HX8 := Lib.hid (hb8 _ _ (HW.out.trans (hb7.mono HW.out.size)) (by omega))
          clear ho8 hb8 HCA HO HW hb7 hbx
          go_wp2_with (refine wpList_skip rfl (hst8 rfl rfl rfl) ?_)
          refine bodyPost_ret (v := encA (writeA { p with num := up ver })) (results_cell_row rfl _ _ (w.heap.size + 1 + 1 + 1) 36 (cellsA (writeA { p with num := up ver })) (0, 0) _ rfl HO8.out undAct rfl sizeAct) rfl ?_
          exact ⟨by rw [HVV.out], HX8.out⟩
        · have e9 : (r.err == 9) = false := by simpa using h9
          have HVV : Hid (x = nothing) := HX3.out.symm.trans (if_neg h9)
          clear h9 HX3
          obtain ⟨V8, hst8, ho8, -, hb8⟩ := acting HO.out nothing
          have HO8 := Lib.hid ho8
          have HX8 := Lib.hid (hb8 _ _ HW.out (by omega))
          clear ho8 hb8
          go_wp2_with (first | (refine wpList_skip rfl (hst8 rfl rfl rfl) ?_))
          refine bodyPost_ret (v := encA nothing) (results_cell_row rfl _ _ (w.heap.size + 1 + 1 + 1) 36 (cellsA nothing) (0, 0) _ rfl HO8.out undAct rfl sizeAct) rfl ?_
          exact ⟨by rw [HVV.out], HX8.out⟩
    · have HVV : Hid (x = nothing) := HXX.out.symm.trans (if_neg fun h => hne (by rw [h]; rfl))
      clear HXX
      obtain ⟨V8, hst8, ho8, -, hb8⟩ := acting HO.out nothing
      have HO8 := Lib.hid ho8
      have HX8 := Lib.hid (hb8 _ _ HW.out (by omega))
      clear ho8 hb8
      go_wp2_with (first | (refine wpList_skip rfl (hs4 rfl rfl rfl) ?_) | (refine wpList_skip rfl (hst8 rfl rfl rfl) ?_) | (refine wpList_got rfl (load_callAt hca rfl rfl) ?_) | (refine wpList_got rfl (load_call hcc rfl rfl) ?_) | (refine wpList_got rfl (exec_neq_diff hne rfl rfl rfl) ?_))
      refine bodyPost_ret (v := encA nothing) (results_cell_row rfl _ _ (w.heap.size + 1 + 1 + 1) 36 (cellsA nothing) (0, 0) _ rfl HO8.out undAct rfl sizeAct) rfl ?_
      exact ⟨by rw [HVV.out], HX8.out⟩
  · have e3 : (A.act == 3) = false := by simpa using hA
    have e3' : (A.act != 3) = true := by simpa using hA
    have HVV : Hid (x = nothing) := HXX.out.symm.trans (if_neg fun h => hA (by rw [h]; rfl))
    have hne := hA
    clear HXX
    obtain ⟨V8, hst8, ho8, -, hb8⟩ := acting HO.out nothing
    have HO8 := Lib.hid ho8
    have HX8 := Lib.hid (hb8 _ _ HW.out (by omega))
    clear ho8 hb8
    go_wp2_with (first | (refine wpList_skip rfl (hs4 rfl rfl rfl) ?_) | (refine wpList_skip rfl (hst8 rfl rfl rfl) ?_) | (refine wpList_got rfl (load_callAt hca rfl rfl) ?_) | (refine wpList_got rfl (load_call hcc rfl rfl) ?_))
    refine bodyPost_ret (v := encA nothing) (results_cell_row rfl _ _ (w.heap.size + 1 + 1 + 1) 36 (cellsA nothing) (0, 0) _ rfl HO8.out undAct rfl sizeAct) rfl ?_
    exact ⟨by rw [HVV.out], HX8.out⟩
end Go.Proofs.YtijgieefmnmakaaDoor.O.B
