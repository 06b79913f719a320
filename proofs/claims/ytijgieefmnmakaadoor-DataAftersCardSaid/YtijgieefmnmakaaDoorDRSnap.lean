/- What the document says is done next for a snapshot. -/
import Derived.Test.YtijgieefmnmakaaDoorDNext
import Derived.Test.YtijgieefmnmakaaDoorDRHandle
import Derived.Test.YtijgieefmnmakaaDoorKUniq
import Derived.Test.YtijgieefmnmakaaDoorKUniqT
namespace Go.Proofs.YtijgieefmnmakaaDoor.O.B
open Go Go.RowKit Go.Shelf Go.Lib RangeMap KM
attribute [local go_sem] Oper.semAt_some

theorem makes_a {oi : Oper} (ho : oi.op = .alloc 36) : HeldBy.Makes Tryd.prog oi (.cells (cellsA nothing) 36 (0, 0)) := by
  intro a w
  unfold execOp
  simp only [ho]
  kernel_rfl
theorem load_act {W : World} {b : Nat} {x : Ac} (h : BoxA W b x) {oi : Oper} {a : Act} {p : Operand} (ho : oi.op = .load 36 p) (hx : a.eval p = .pointer (some ⟨b, 0, none⟩)) :
    (execOp a.eval oi).run Tryd.prog W = .ok (.value (encA x)) W := by
  unfold execOp
  simp only [ho, hx, Instr.loadAt, Instr.sureAddr, Sem.run_bind, Sem.run_pure, Result.andThen_ok, run_loadVar_row W b 36 36 (cellsA x) (0, 0) _ h undAct rfl sizeAct]
  rfl
def madeU (n : ByteArray) (o : Obj) : Bool := decide (o.kind = 3) && ((o.phase == 2) && decide (o.source = n))
theorem made_uniq (l : List Obj) (s : Obj) : madeOf l s = ((uniqL l).find? (madeU s.name)).isSome := by
  unfold madeOf
  rw [there_uniq, List.find?_filter]
  congr 2
  funext o
  unfold madeU
  simp
  rfl

set_option maxRecDepth 100000 in
set_option maxHeartbeats 16000000 in
theorem rsnapD_any (l : List Obj) (v : Value) (ver : Int) (n : ByteArray) (w : World) (hl : ObjsIn w v l) (hlen : l.length < 100000) (ht : Tab w) (hall : ∀ s ∈ l, (0 ≤ s.born ∧ s.born ≤ 18446744073709551615) ∧ s.name.size ≤ 140737488351232) :
    Calls Tryd.prog 19 #[v, .int .u64 ver, .string n] w fun e w' => e = .returned (encA (snapD l ver n)) ∧ Below w.heap.size w w' := by
  obtain ⟨o, cp, rfl, -, -⟩ := id hl
  have HL := Lib.hid hl
  have HT := Lib.hid ht
  have HUN := Lib.hid (fun V (hV : ObjsIn V (.slice o l.length cp) l) => uniq_any l _ V hV hlen)
  have HGX := Lib.hid (fun (V : World) (u : Value) (k : Int) (m : ByteArray) (hV : ObjsIn V u (uniqL l)) => show Calls _ _ _ V (fun e w' => e = .returned (.tuple #[encO ((getL l k m).getD O0), .bool (getL l k m).isSome]) ∧ Below V.heap.size V w') by rw [← uniq_get l k m]; exact rget_any (uniqL l) u k m V hV)
  have HMU := Lib.hid (made_uniq l)
  have hin : ∀ s, getL l 7 n = some s → (0 ≤ s.born ∧ s.born ≤ 18446744073709551615) ∧ s.name.size ≤ 140737488351232 := fun s hs => hall s (List.mem_of_find?_eq_some hs)
  have HIN := Lib.hid hin
  have hgn : ∀ s, getL l 7 n = some s → s.name = n := fun s hs => by
    have := List.find?_some hs
    simp only [Bool.and_eq_true, decide_eq_true_eq] at this
    exact this.2
  have HGN := Lib.hid hgn
  have HUL : Hid ((uniqL l).length ≤ 9223372036854775807) := by
    have := uniq_len l
    show _ ≤ _
    omega
  clear hl hlen ht hall hin hgn
  obtain ⟨x, hx⟩ : ∃ x, snapD l ver n = x := ⟨_, rfl⟩
  rw [hx]
  unfold snapD at hx
  obtain ⟨rs, hrs⟩ : ∃ r, getL l 7 n = r := ⟨_, rfl⟩
  rw [hrs] at hx HIN HGN
  have HG1 : Hid (∀ (V : World) (u : Value), ObjsIn V u (uniqL l) → Calls Tryd.prog 23 #[u, .int .u8 7, .string n] V fun e w' => e = .returned (.tuple #[encO (rs.getD O0), .bool rs.isSome]) ∧ Below V.heap.size V w') := fun V u hV => by
    have h := HGX.out V u 7 n hV
    rw [hrs] at h
    exact h
  have HXX := Lib.hid hx
  clear hx hrs
  go_enter Tryd.func19, Tryd.ntmps19
  go_upto_region 1 with (fail)
  refine wp_gen (fun V => BoxA V w.heap.size nothing ∧ Below w.heap.size w V) ⟨heap_alloc_new _ _, (Below.refl _ _).alloc (Nat.le_refl _) _⟩ ?_
  rintro V ⟨ho, hlw⟩
  have HO := Lib.hid ho
  have HW := Lib.hid hlw
  have HU := Lib.hid (HUN.out V (HL.out.after hlw))
  clear ho hlw HUN HL
  go_wp2_with (fail)
  refine HU.out.mono ?_
  rintro e W1 ⟨u, rfl, hu, hb1⟩
  obtain ⟨o1, c1, rfl, -, -⟩ := id hu
  have HC := Lib.hid (HG1.out W1 _ hu)
  have HUU := Lib.hid hu
  have hlw := HW.out.trans (hb1.mono HW.out.size)
  replace HO := Lib.hid (HO.out.after hb1)
  replace HW := Lib.hid hlw
  clear HU hu hb1 hlw HG1
  go_wp2_with (fail)
  refine HC.out.mono ?_
  rintro e W2 ⟨rfl, hb2⟩
  obtain ⟨V2, s2, k2, l2, -⟩ := boxing W2 (rs.getD O0)
  have hlw2 := HW.out.trans (hb2.mono HW.out.size)
  have hlw := hlw2.trans (l2.mono hlw2.size)
  have HN1 : Hid (w.heap.size < W2.heap.size) := (HO.out.after hb2).lt
  replace HUU := Lib.hid ((HUU.out.after hb2).after l2)
  replace HO := Lib.hid ((HO.out.after hb2).after l2)
  replace HW := Lib.hid hlw
  clear HC hb2 l2 hlw2 hlw
  cases rs with
  | none =>
    have HVV : Hid (x = nothing) := HXX.out.symm
    clear HXX k2
    obtain ⟨V8, hst8, ho8, -, hb8⟩ := acting HO.out nothing
    have HO8 := Lib.hid ho8
    have HX8 := Lib.hid (hb8 _ _ HW.out (Nat.le_refl _))
    clear ho8 hb8
    go_wp2_with (first | (refine wpList_skip rfl (s2 rfl rfl rfl) ?_) | (refine wpList_skip rfl (hst8 rfl rfl rfl) ?_))
    refine bodyPost_ret (v := encA nothing) (results_cell_row rfl _ _ w.heap.size 36 (cellsA nothing) (0, 0) _ rfl HO8.out undAct rfl sizeAct) rfl ?_
    exact ⟨by rw [HVV.out], HX8.out⟩
  | some s =>
    replace k2 : BoxO V2 W2.heap.size s := k2
    have hin := HIN.out s rfl
    have hname := HGN.out s rfl
    have HNM := Lib.hid hname
    have HHH := Lib.hid (fun V (hV : Tab V) => rhandle_any s V hV hin.1 hin.2)
    have hxx := HXX.out
    clear HXX hin hname HIN HGN
    obtain ⟨h, hh⟩ : ∃ h, handleD s = h := ⟨_, rfl⟩
    have HHD := Lib.hid hh
    rw [hh] at HHH
    clear hh
    have hbx := k2
    have HB := Lib.hid k2
    have HC := Lib.hid (HHH.out V2 (HT.out.after HW.out))
    clear k2
    go_wp2_with (first | (refine wpList_skip rfl (s2 rfl rfl rfl) ?_) | ((with_reducible refine wpList_load_obj ?_ rfl ?_ hbx ?_); rfl; rfl))
    refine HC.out.mono ?_
    rintro e W3 ⟨rfl, hb3⟩
    have hw3 := HW.out.trans (hb3.mono HW.out.size)
    replace HO := Lib.hid (HO.out.after hb3)
    replace HB := Lib.hid (HB.out.after hb3)
    replace HUU := Lib.hid (HUU.out.after hb3)
    replace HW := Lib.hid hw3
    clear HC hb3 hw3 hbx s2
    by_cases hE : h = E0
    · have hn1 : h.toList = [] := (emp_iff _).2 hE
      have hn2 : (h.toList == []) = true := by simp [hn1]
      have hn3 : h.toList.isEmpty = true := by simp [hn1]
      have HVV : Hid (x = nothing) := by
        have hz : (if handleD s = E0 then nothing else goN l s (up ver)) = x := hxx
        rw [if_pos (HHD.out.trans hE)] at hz
        exact hz.symm
      clear hxx hE
      obtain ⟨V8, hst8, ho8, -, hb8⟩ := acting HO.out nothing
      have HO8 := Lib.hid ho8
      have HX8 := Lib.hid (hb8 _ _ HW.out (Nat.le_refl _))
      clear ho8 hb8
      go_wp2_with (refine wpList_skip rfl (hst8 rfl rfl rfl) ?_)
      refine bodyPost_ret (v := encA nothing) (results_cell_row rfl _ _ w.heap.size 36 (cellsA nothing) (0, 0) _ rfl HO8.out undAct rfl sizeAct) rfl ?_
      exact ⟨by rw [HVV.out], HX8.out⟩
    · have hn1 : h.toList ≠ [] := fun e => hE ((emp_iff _).1 e)
      have hn2 : (h.toList == []) = false := by simpa using hn1
      have hn3 : h.toList.isEmpty = false := by simpa using hn1
      have hz : goN l s (up ver) = x := by
        have hz : (if handleD s = E0 then nothing else goN l s (up ver)) = x := hxx
        rw [if_neg (fun e => hE (HHD.out.symm.trans e))] at hz
        exact hz
      unfold goN dropN at hz
      rw [HHD.out] at hz
      have HXX := Lib.hid hz
      clear hxx hE hz hn1
      obtain ⟨dk, hdk⟩ : ∃ dk : Cl, (⟨7, h, s.num, 0, E0, E0, E0⟩ : Cl) = dk := ⟨_, rfl⟩
      rw [hdk] at HXX
      have HKK := Lib.hid hdk
      clear hdk
      go_upto_region 5 with (fail)
      have HT0 := HT
      have HT := Lib.hid (HT0.out.after HW.out)
      refine wp_region_held_drew (S := fun V => BoxO V W2.heap.size s ∧ BoxA V w.heap.size nothing ∧ Below w.heap.size w V ∧ Tab V ∧ ObjsIn V (.slice o1 (uniqL l).length c1) (uniqL l)) (by kernel_rfl) ⟨HB.out, HO.out, HW.out.drew, HT.out.drew, HUU.out⟩ (fun _ => ?_)
      refine HeldBy.gen (fun V => BoxO V W2.heap.size s ∧ BoxA V w.heap.size nothing ∧ Below w.heap.size w V ∧ Tab V ∧ ObjsIn V (.slice o1 (uniqL l).length c1) (uniqL l)) ⟨HB.out, HO.out, HW.out.drew, HT.out.drew, HUU.out⟩ ?_
      clear HB HO HW HT HUU
      rintro U0 HS
      refine HeldBy.take (i := 0) (v := encO s) rfl (by kernel_rfl) (by kernel_rfl) (by kernel_rfl) (fun _ _ _ h => h) (by rfl) (fun V hV => load_obj hV.1 rfl rfl) (by go_simp; rfl) HS ?_
      refine HeldBy.take (i := 2) rfl (by kernel_rfl) (by kernel_rfl) (by kernel_rfl) (fun _ _ _ h => h) (by rfl) (fun _ _ => by first | (go_simp; rfl) | (go_simp; done)) (by go_simp; rfl) HS ?_
      refine HeldBy.take (i := 3) rfl (by kernel_rfl) (by kernel_rfl) (by kernel_rfl) (fun _ _ _ h => h) (by rfl) (fun V hV => by have hc := hV.1.c18; first | (go_simp; rfl) | (go_simp; done)) (by go_simp; rfl) HS ?_
      have HSS : ∀ w', Below U0.heap.size U0 w' → (BoxO w' W2.heap.size s ∧ BoxA w' w.heap.size nothing ∧ Below w.heap.size w w' ∧ Tab w' ∧ ObjsIn w' (.slice o1 (uniqL l).length c1) (uniqL l)) := fun w' hb => ⟨HS.1.after hb, HS.2.1.after hb, HS.2.2.1.trans (hb.mono HS.2.2.1.size), HS.2.2.2.1.after hb, HS.2.2.2.2.after hb⟩
      refine HeldBy.Goes.without (w0 := U0) (k := 6) (dk := some 10) (x := .cells (cellsA nothing) 36 (0, 0)) ?_ U0 (Below.refl _ _)
      refine HeldBy.Goes.callS (i := 1) (v := .string h) rfl rfl rfl rfl (makes_a rfl) rfl (by kernel_rfl) (by kernel_rfl) rfl (by decide) (by kernel_rfl) (by intro w; first | (go_simp; done) | (go_simp; first | exact ⟨rfl, rfl⟩ | rfl)) (by first | (go_simp; rfl) | (go_simp; done)) HSS (fun _ HS => HHH.out _ HS.2.2.2.1) ?_
      refine HeldBy.Goes.take (i := 4) (v := encC dk) rfl (by kernel_rfl) rfl (by kernel_rfl) (by kernel_rfl) (by kernel_rfl) (by kernel_rfl) (fun _ _ _ h => h) rfl (by decide) (by kernel_rfl) (fun _ _ => by have hk := HKK.out; subst hk; exact exec_build 34 _ rfl _ (by exact built_drop h s.num)) (by first | (go_simp; rfl) | (go_simp; done)) HSS ?_
      refine HeldBy.Goes.call (i := 5) (v := encA (askA dk)) rfl rfl rfl rfl (makes_a rfl) rfl (by kernel_rfl) (by kernel_rfl) rfl (by decide) (by kernel_rfl) (by intro w; first | (go_simp; done) | (go_simp; first | exact ⟨rfl, rfl⟩ | rfl)) (by first | (go_simp; rfl) | (go_simp; done)) HSS (fun _ => rask_any dk _) ?_
      refine HeldBy.Goes.nil rfl rfl (by kernel_rfl) rfl (makes_a rfl) HSS rfl (fun p => by unfold HeldBy.ptr; go_simp; rfl) ?_
      intro p U1 hp hb hn
      obtain ⟨V3, hst, hd3, hoth, hbl⟩ := acting (show BoxA U1 p nothing from hn) (askA dk)
      have hbel : Below U0.heap.size U0 V3 := hbl _ _ hb hp
      have hb3 := HS.1.after hbel
      have ho3 := HS.2.1.after hbel
      have hw3 := HS.2.2.1.trans (hbel.mono HS.2.2.1.size)
      have ht3 := HS.2.2.2.1.after hbel
      have hu3 := HS.2.2.2.2.after hbel
      have HS3 : BoxO V3 W2.heap.size s ∧ BoxA V3 w.heap.size nothing ∧ Below w.heap.size w V3 ∧ Tab V3 ∧ ObjsIn V3 (.slice o1 (uniqL l).length c1) (uniqL l) := ⟨hb3, ho3, hw3, ht3, hu3⟩
      refine HeldBy.store (i := 7) (w' := V3) rfl (by kernel_rfl) (by rfl) (hst rfl rfl rfl) (by first | (go_simp; rfl) | (go_simp; done)) HS3 ?_
      refine wpAnyH_done (by kernel_rfl) ?_ _
      have HNP : Hid (W2.heap.size < p ∧ w.heap.size < W2.heap.size) := ⟨Nat.lt_of_lt_of_le HS.1.lt hp, HN1.out⟩
      have HD := Lib.hid hd3
      have HB := Lib.hid hb3
      have HO := Lib.hid ho3
      have HW := Lib.hid hw3
      have HT3 := Lib.hid ht3
      have HUU := Lib.hid hu3
      have c4 := hb3.c4
      have c17 := hb3.c17
      clear hst hd3 hoth hbl hbel hb3 ho3 hw3 ht3 hu3 HS3 HSS HS hp hb hn
      generalize hqq : uniqL l = q at *
      clear hqq
      cases hd : s.deleting with
      | true =>
        rw [hd] at c4
        have hxx := HXX.out
        rw [if_pos hd, HMU.out s, show madeU s.name = madeU n by rw [HNM.out]] at hxx
        have HX2 := Lib.hid hxx
        clear hxx HXX hd
        go_wp2_with (fail)
        go_loop [11] (fun i => ∃ j : Nat, i = .int .i64 (j : Int) ∧ j ≤ q.length ∧ ∀ r (hr : r < q.length), r < j → madeU n q[r] = false) (fun i => q.length - (RowKit.intOf i).toNat)
        case atStart => exact ⟨0, rfl, Nat.zero_le _, fun r _ h => absurd h (by omega)⟩
        case round =>
          obtain ⟨j, rfl, hj, hno⟩ := hrel
          have HNO := Lib.hid hno
          clear hno
          by_cases hlt : j < q.length
          · have hlt' : (j : Int) < (q.length : Int) := by omega
            have hql : (q.length : Int) ≤ 9223372036854775807 := by have := HUL.out; omega
            obtain ⟨o', c', he, -, hi⟩ := HUU.out
            cases he
            obtain ⟨g, off, rfl, -, hrow⟩ := hi j hlt
            obtain ⟨y, hy⟩ : ∃ y, q[j] = y := ⟨_, rfl⟩
            rw [hy] at hrow
            have r0 := row_cell hrow 0 _ rfl
            have r17 := row_cell hrow 17 _ rfl
            have r16 := row_cell hrow 16 _ rfl
            rw [Nat.add_zero] at r0
            have HYY := Lib.hid hy
            clear hi hy hrow
            have step : madeU n y = false → ∀ r (hr : r < q.length), r < j + 1 → madeU n q[r] = false := fun hm r hr h => by
              rcases Nat.lt_or_ge r j with h1 | h1
              · exact HNO.out r hr h1
              · obtain rfl : r = j := by omega
                rw [HYY.out]
                exact hm
            have HSTEP := Lib.hid step
            clear step
            cases e1 : (y.kind == 3) with
            | false =>
              have HN2 := Lib.hid (HSTEP.out (by unfold madeU; rw [show decide (y.kind = 3) = false from e1]; rfl))
              go_wp2
              go_round
              case rel => exact ⟨j + 1, by go_num, by omega, HN2.out⟩
              case measure => simp [RowKit.intOf]; omega
            | true =>
              cases e2 : (y.phase == 2) with
              | false =>
                have HN2 := Lib.hid (HSTEP.out (by unfold madeU; rw [e2]; simp))
                go_wp2
                go_round
                case rel => exact ⟨j + 1, by go_num, by omega, HN2.out⟩
                case measure => simp [RowKit.intOf]; omega
              | true =>
                cases e3 : (y.source.toList == n.toList) with
                | false =>
                  have HN2 := Lib.hid (HSTEP.out (by unfold madeU; rw [← eqB, e3]; simp))
                  go_wp2
                  go_round
                  case rel => exact ⟨j + 1, by go_num, by omega, HN2.out⟩
                  case measure => simp [RowKit.intOf]; omega
                | true =>
                  have hfd : q.find? (madeU n) = some y := by
                    rw [← HYY.out]
                    refine find_at hlt (fun r hr h => HNO.out r hr h) ?_
                    rw [HYY.out]
                    unfold madeU
                    rw [show decide (y.kind = 3) = true from e1, e2, ← eqB, e3]
                    rfl
                  have hxx := HX2.out
                  rw [hfd, if_pos (show (some y).isSome = true from rfl)] at hxx
                  have HVV : Hid (x = nothing) := hxx.symm
                  clear hxx hfd
                  obtain ⟨V8, hst8, ho8, -, hb8⟩ := acting HO.out nothing
                  have HO8 := Lib.hid ho8
                  have HX8 := Lib.hid (hb8 _ _ HW.out (Nat.le_refl _))
                  clear ho8 hb8
                  go_wp2_with (first | (refine wpList_skip rfl (hst8 rfl rfl rfl) ?_))
                  refine bodyPost_ret (v := encA nothing) (results_cell_row rfl _ _ w.heap.size 36 (cellsA nothing) (0, 0) _ rfl HO8.out undAct rfl sizeAct) rfl ?_
                  exact ⟨by rw [HVV.out], HX8.out⟩
          · have hlt' : ¬ (j : Int) < (q.length : Int) := by omega
            have hfd : q.find? (madeU n) = none := find_no fun r hr => HNO.out r hr (by omega)
            have hxx := HX2.out
            rw [hfd, if_neg (by decide)] at hxx
            have HX3 := Lib.hid hxx
            clear hfd hxx HX2 HNO
            by_cases h6 : s.phase = 6
            · have e6 : (s.phase != 6) = false := by simpa using h6
              have HVV : Hid (x = askA dk) := HX3.out.symm.trans (if_pos h6)
              clear h6 HX3
              have hdx := HD.out
              obtain ⟨V8, hst8, ho8, -, hb8⟩ := acting HO.out (askA dk)
              have HO8 := Lib.hid ho8
              have HX8 := Lib.hid (hb8 _ _ HW.out (Nat.le_refl _))
              clear ho8 hb8
              go_wp2_with (first | (refine wpList_got rfl (load_act hdx rfl rfl) ?_) | (refine wpList_skip rfl (hst8 rfl rfl rfl) ?_))
              refine bodyPost_ret (v := encA (askA dk)) (results_cell_row rfl _ _ w.heap.size 36 (cellsA (askA dk)) (0, 0) _ rfl HO8.out undAct rfl sizeAct) rfl ?_
              exact ⟨by rw [HVV.out], HX8.out⟩
            · have e6 : (s.phase != 6) = true := by simpa using h6
              have HVV : Hid (x = writeA { s with phase := 6, num := up ver }) := HX3.out.symm.trans (if_neg h6)
              have c18 := HB.out.c18
              have f17 := HB.out.free 17
              have f18 := HB.out.free 18
              clear h6 HX3
              go_upto_region 14 with (fail)
              refine wp_gen (fun V => BoxO V W2.heap.size { s with phase := 6, num := up ver } ∧ BoxA V w.heap.size nothing ∧ Below w.heap.size w V) ⟨(HB.out.s17 6).s18 (up ver), (heap_setCell_other _ ⟨W2.heap.size, 18, none⟩ w.heap.size _ (by have := HNP.out; show w.heap.size ≠ W2.heap.size; omega)).trans ((heap_setCell_other _ ⟨W2.heap.size, 17, none⟩ w.heap.size _ (by have := HNP.out; show w.heap.size ≠ W2.heap.size; omega)).trans HO.out), (HW.out.setCell (by have := HNP.out; show w.heap.size ≤ W2.heap.size; omega) _).setCell (by have := HNP.out; show w.heap.size ≤ W2.heap.size; omega) _⟩ ?_
              clear HO HW HB c4 c17 c18 f17 f18 HD
              rintro V4 ⟨hbx, ho, hlw⟩
              have HCA := Lib.hid (rwrite_any { s with phase := 6, num := up ver } V4)
              have HO := Lib.hid ho
              have HW := Lib.hid hlw
              clear ho hlw
              go_wp2_with ((with_reducible refine wpList_load_obj ?_ rfl ?_ hbx ?_); rfl; rfl)
              refine HCA.out.mono ?_
              rintro e W7 ⟨rfl, hb7⟩
              obtain ⟨V8, hst8, ho8, -, hb8⟩ := acting (HO.out.after hb7) (writeA { s with phase := 6, num := up ver })
              have HO8 := Lib.hid ho8
              have HX8 := Lib.hid (hb8 _ _ (HW.out.trans (hb7.mono HW.out.size)) (Nat.le_refl _))
              clear ho8 hb8 HCA HO HW hb7 hbx
              go_wp2_with (refine wpList_skip rfl (hst8 rfl rfl rfl) ?_)
              refine bodyPost_ret (v := encA (writeA { s with phase := 6, num := up ver })) (results_cell_row rfl _ _ w.heap.size 36 (cellsA (writeA { s with phase := 6, num := up ver })) (0, 0) _ rfl HO8.out undAct rfl sizeAct) rfl ?_
              exact ⟨by rw [HVV.out], HX8.out⟩
      | false =>
        rw [hd] at c4
        have hxx := HXX.out
        rw [if_neg (by rw [hd]; decide)] at hxx
        have HX2 := Lib.hid hxx
        clear hxx HXX hd HMU HUL
        by_cases h6 : s.phase = 6
        · have e6 : (s.phase == 6) = true := by simpa using h6
          have HVV : Hid (x = askA dk) := HX2.out.symm.trans (if_pos h6)
          clear h6 HX2
          have hdx := HD.out
          obtain ⟨V8, hst8, ho8, -, hb8⟩ := acting HO.out (askA dk)
          have HO8 := Lib.hid ho8
          have HX8 := Lib.hid (hb8 _ _ HW.out (Nat.le_refl _))
          clear ho8 hb8
          go_wp2_with (first | (refine wpList_got rfl (load_act hdx rfl rfl) ?_) | (refine wpList_skip rfl (hst8 rfl rfl rfl) ?_))
          refine bodyPost_ret (v := encA (askA dk)) (results_cell_row rfl _ _ w.heap.size 36 (cellsA (askA dk)) (0, 0) _ rfl HO8.out undAct rfl sizeAct) rfl ?_
          exact ⟨by rw [HVV.out], HX8.out⟩
        · have e6 : (s.phase == 6) = false := by simpa using h6
          have HX3 := Lib.hid (HX2.out.symm.trans (if_neg h6))
          clear h6 HX2
          by_cases h1 : s.phase = 1
          · have e1 : (s.phase == 1) = true := by simpa using h1
            have hxx := HX3.out.trans (if_pos h1)
            have c16 := HB.out.c16
            obtain ⟨rc, hrc⟩ : ∃ r, getL l 3 s.source = r := ⟨_, rfl⟩
            obtain ⟨rv, hrv⟩ : ∃ r, getL l 4 (rc.getD O0).volume = r := ⟨_, rfl⟩
            have k1 : clD l s.source = rc.getD O0 := by unfold clD; rw [hrc]
            have k2 : voD l s.source = rv.getD O0 := by unfold voD; rw [k1, hrv]
            have k3 : okD l s.source = (rc.isSome && (rv.isSome && (((rc.getD O0).phase == 3) && ((rv.getD O0).phase == 3)))) := by unfold okD; rw [k1, k2, hrc, hrv]
            rw [k3, k2] at hxx
            have HX4 := Lib.hid hxx
            have HG2 := Lib.hid (HGX.out V3 _ 3 s.source HUU.out)
            rw [hrc] at HG2
            have HG3 : Hid (∀ (V : World) (u : Value), ObjsIn V u q → Calls Tryd.prog 23 #[u, .int .u8 4, .string (rc.getD O0).volume] V fun e w' => e = .returned (.tuple #[encO (rv.getD O0), .bool rv.isSome]) ∧ Below V.heap.size V w') := fun V u hV => by
              have h := HGX.out V u 4 (rc.getD O0).volume hV
              rw [hrv] at h
              exact h
            clear hxx h1 hrc hrv k1 k2 k3 HX3 HGX
            generalize rc.getD O0 = cc at *
            generalize rv.getD O0 = pp at *
            generalize rc.isSome = tt at *
            generalize rv.isSome = mm at *
            go_wp2_with (fail)
            refine HG2.out.mono ?_
            rintro e W5 ⟨rfl, hb5⟩
            obtain ⟨V5, s5, k5, l5, -⟩ := boxing W5 cc
            have hw5 := HW.out.trans (hb5.mono HW.out.size)
            have HN5 : Hid (W2.heap.size < W5.heap.size) := (HB.out.after hb5).lt
            replace HO := Lib.hid ((HO.out.after hb5).after l5)
            replace HB := Lib.hid ((HB.out.after hb5).after l5)
            replace HW := Lib.hid (hw5.trans (l5.mono hw5.size))
            have HG4 := Lib.hid (HG3.out V5 _ ((HUU.out.after hb5).after l5))
            have HCC := Lib.hid k5
            have m15 := k5.c15
            clear HG2 HG3 hb5 l5 hw5 k5 c4 c17 c16 HUU HD
            go_wp2_with (refine wpList_skip rfl (s5 rfl rfl rfl) ?_)
            refine HG4.out.mono ?_
            rintro e W6 ⟨rfl, hb6⟩
            obtain ⟨V6, s6, k6, l6, -⟩ := boxing W6 pp
            have hw6 := HW.out.trans (hb6.mono HW.out.size)
            have HN6 : Hid (W5.heap.size < W6.heap.size) := (HCC.out.after hb6).lt
            replace HO := Lib.hid ((HO.out.after hb6).after l6)
            replace HB := Lib.hid ((HB.out.after hb6).after l6)
            replace HCC := Lib.hid ((HCC.out.after hb6).after l6)
            replace HW := Lib.hid (hw6.trans (l6.mono hw6.size))
            have HPP := Lib.hid k6
            have m17 := HCC.out.c17
            have n17 := k6.c17
            clear HG4 hb6 l6 hw6 k6 s5 m15
            cases tt with
            | false =>
              have HVV : Hid (x = nothing) := HX4.out
              clear HX4
              obtain ⟨V8, hst8, ho8, -, hb8⟩ := acting HO.out nothing
              have HO8 := Lib.hid ho8
              have HX8 := Lib.hid (hb8 _ _ HW.out (Nat.le_refl _))
              clear ho8 hb8
              go_wp2_with (first | (refine wpList_skip rfl (hst8 rfl rfl rfl) ?_) | (refine wpList_skip rfl (s6 rfl rfl rfl) ?_))
              refine bodyPost_ret (v := encA nothing) (results_cell_row rfl _ _ w.heap.size 36 (cellsA nothing) (0, 0) _ rfl HO8.out undAct rfl sizeAct) rfl ?_
              exact ⟨by rw [HVV.out], HX8.out⟩
            | true =>
              cases g1 : (cc.phase == 3) with
              | false =>
                have g1' : (cc.phase != 3) = true := by simpa using g1
                have HVV : Hid (x = nothing) := by have h := HX4.out; rw [g1] at h; cases mm <;> exact h
                clear HX4
                obtain ⟨V8, hst8, ho8, -, hb8⟩ := acting HO.out nothing
                have HO8 := Lib.hid ho8
                have HX8 := Lib.hid (hb8 _ _ HW.out (Nat.le_refl _))
                clear ho8 hb8
                go_wp2_with (first | (refine wpList_skip rfl (hst8 rfl rfl rfl) ?_) | (refine wpList_skip rfl (s6 rfl rfl rfl) ?_))
                refine bodyPost_ret (v := encA nothing) (results_cell_row rfl _ _ w.heap.size 36 (cellsA nothing) (0, 0) _ rfl HO8.out undAct rfl sizeAct) rfl ?_
                exact ⟨by rw [HVV.out], HX8.out⟩
              | true =>
                have g1' : (cc.phase != 3) = false := by simpa using g1
                cases mm with
                | false =>
                  have HVV : Hid (x = nothing) := HX4.out
                  clear HX4
                  obtain ⟨V8, hst8, ho8, -, hb8⟩ := acting HO.out nothing
                  have HO8 := Lib.hid ho8
                  have HX8 := Lib.hid (hb8 _ _ HW.out (Nat.le_refl _))
                  clear ho8 hb8
                  go_wp2_with (first | (refine wpList_skip rfl (hst8 rfl rfl rfl) ?_) | (refine wpList_skip rfl (s6 rfl rfl rfl) ?_))
                  refine bodyPost_ret (v := encA nothing) (results_cell_row rfl _ _ w.heap.size 36 (cellsA nothing) (0, 0) _ rfl HO8.out undAct rfl sizeAct) rfl ?_
                  exact ⟨by rw [HVV.out], HX8.out⟩
                | true =>
                  cases g2 : (pp.phase == 3) with
                  | false =>
                    have g2' : (pp.phase != 3) = true := by simpa using g2
                    have HVV : Hid (x = nothing) := by have h := HX4.out; rw [g1, g2] at h; exact h
                    clear HX4
                    obtain ⟨V8, hst8, ho8, -, hb8⟩ := acting HO.out nothing
                    have HO8 := Lib.hid ho8
                    have HX8 := Lib.hid (hb8 _ _ HW.out (Nat.le_refl _))
                    clear ho8 hb8
                    go_wp2_with (first | (refine wpList_skip rfl (hst8 rfl rfl rfl) ?_) | (refine wpList_skip rfl (s6 rfl rfl rfl) ?_))
                    refine bodyPost_ret (v := encA nothing) (results_cell_row rfl _ _ w.heap.size 36 (cellsA nothing) (0, 0) _ rfl HO8.out undAct rfl sizeAct) rfl ?_
                    exact ⟨by rw [HVV.out], HX8.out⟩
                  | true =>
                    have g2' : (pp.phase != 3) = false := by simpa using g2
                    have HVV : Hid (x = writeA { s with phase := 10, volume := pp.name, num := up ver }) := by have h := HX4.out; rw [g1, g2] at h; exact h
                    clear HX4
                    go_upto_region 24 with (refine wpList_skip rfl (s6 rfl rfl rfl) ?_)
                    clear s6 m17 n17
                    refine wp_region_held_drew (S := fun V => BoxO V W6.heap.size pp) (by kernel_rfl) HPP.out (fun _ => ?_)
                    refine HeldBy.gen (fun V => (BoxO V W6.heap.size pp) ∧ (BoxO V W2.heap.size s) ∧ (BoxA V w.heap.size nothing) ∧ (Below w.heap.size w V)) ⟨HPP.out, HB.out, HO.out, HW.out.drew⟩ ?_
                    clear HPP HB HO HW
                    rintro U0 ⟨HS, HB, HO, HW⟩
                    refine HeldBy.take (i := 0) rfl (by kernel_rfl) (by kernel_rfl) (by kernel_rfl) (fun _ _ _ h => h) (by rfl) (fun _ _ => by first | (go_simp; rfl) | (go_simp; done)) (by first | (go_simp; rfl) | (go_simp; done)) HS ?_
                    refine HeldBy.take (i := 1) rfl (by kernel_rfl) (by kernel_rfl) (by kernel_rfl) (fun _ _ _ h => h) (by rfl) (fun V hV => by have hc := hV.c1; first | (go_simp; rfl) | (go_simp; done)) (by first | (go_simp; rfl) | (go_simp; done)) HS ?_
                    refine HeldBy.take (i := 2) rfl (by kernel_rfl) (by kernel_rfl) (by kernel_rfl) (fun _ _ _ h => h) (by rfl) (fun _ _ => by first | (go_simp; rfl) | (go_simp; done)) (by first | (go_simp; rfl) | (go_simp; done)) HS ?_
                    refine HeldBy.take (i := 3) rfl (by kernel_rfl) (by kernel_rfl) (by kernel_rfl) (fun _ _ _ h => h) (by rfl) (fun _ _ => by first | (go_simp; rfl) | (go_simp; done)) (by first | (go_simp; rfl) | (go_simp; done)) HS ?_
                    refine HeldBy.take (i := 4) rfl (by kernel_rfl) (by kernel_rfl) (by kernel_rfl) (fun _ _ _ h => h) (by rfl) (fun _ _ => by first | (go_simp; rfl) | (go_simp; done)) (by first | (go_simp; rfl) | (go_simp; done)) HS ?_
                    have hc17 := HB.c17
                    have hf17 := HB.free 17
                    obtain ⟨U1, hU1⟩ : ∃ V, U0.setCell ⟨W2.heap.size, 17, none⟩ (.int .u8 10) = V := ⟨_, rfl⟩
                    have hB1 : BoxO U1 W2.heap.size { s with phase := 10 } := by rw [← hU1]; exact HB.s17 (10)
                    have hS1 : BoxO U1 W6.heap.size pp := by rw [← hU1]; exact HS.other (by have := HN5.out; have := HN6.out; show W6.heap.size ≠ W2.heap.size; omega) _
                    have hO1 : BoxA U1 w.heap.size nothing := by rw [← hU1]; exact (heap_setCell_other _ ⟨W2.heap.size, 17, none⟩ w.heap.size _ (by have := HNP.out; show w.heap.size ≠ W2.heap.size; omega)).trans HO
                    have hW1 : Below w.heap.size w U1 := by rw [← hU1]; exact HW.setCell (by have := HNP.out; show w.heap.size ≤ W2.heap.size; omega) _
                    refine HeldBy.store (i := 5) (w' := U1) rfl (by kernel_rfl) (by rfl) (by rw [← hU1]; first | (go_simp; done) | (go_simp; rfl)) (by first | (go_simp; rfl) | (go_simp; done)) hS1 ?_
                    clear hU1 hc17 hf17 HS HB HO HW
                    refine HeldBy.take (i := 6) rfl (by kernel_rfl) (by kernel_rfl) (by kernel_rfl) (fun _ _ _ h => h) (by rfl) (fun V hV => by first | (go_simp; rfl) | (go_simp; done)) (by first | (go_simp; rfl) | (go_simp; done)) hS1 ?_
                    have hc15 := hB1.c15
                    have hf15 := hB1.free 15
                    obtain ⟨U2, hU2⟩ : ∃ V, U1.setCell ⟨W2.heap.size, 15, none⟩ (.string pp.name) = V := ⟨_, rfl⟩
                    have hB2 : BoxO U2 W2.heap.size { s with phase := 10, volume := pp.name } := by rw [← hU2]; exact hB1.s15 (pp.name)
                    have hS2 : BoxO U2 W6.heap.size pp := by rw [← hU2]; exact hS1.other (by have := HN5.out; have := HN6.out; show W6.heap.size ≠ W2.heap.size; omega) _
                    have hO2 : BoxA U2 w.heap.size nothing := by rw [← hU2]; exact (heap_setCell_other _ ⟨W2.heap.size, 15, none⟩ w.heap.size _ (by have := HNP.out; show w.heap.size ≠ W2.heap.size; omega)).trans hO1
                    have hW2 : Below w.heap.size w U2 := by rw [← hU2]; exact hW1.setCell (by have := HNP.out; show w.heap.size ≤ W2.heap.size; omega) _
                    refine HeldBy.store (i := 7) (w' := U2) rfl (by kernel_rfl) (by rfl) (by rw [← hU2]; first | (go_simp; done) | (go_simp; rfl)) (by first | (go_simp; rfl) | (go_simp; done)) hS2 ?_
                    clear hU2 hc15 hf15 hS1 hB1 hO1 hW1
                    refine HeldBy.take (i := 8) rfl (by kernel_rfl) (by kernel_rfl) (by kernel_rfl) (fun _ _ _ h => h) (by rfl) (fun V hV => by first | (go_simp; rfl) | (go_simp; done)) (by first | (go_simp; rfl) | (go_simp; done)) hS2 ?_
                    have hc18 := hB2.c18
                    have hf18 := hB2.free 18
                    obtain ⟨U3, hU3⟩ : ∃ V, U2.setCell ⟨W2.heap.size, 18, none⟩ (.int .u64 (IntKind.u64.wrap (ver + 1))) = V := ⟨_, rfl⟩
                    have hB3 : BoxO U3 W2.heap.size { s with phase := 10, volume := pp.name, num := up ver } := by rw [← hU3]; exact hB2.s18 (up ver)
                    have hS3 : BoxO U3 W6.heap.size pp := by rw [← hU3]; exact hS2.other (by have := HN5.out; have := HN6.out; show W6.heap.size ≠ W2.heap.size; omega) _
                    have hO3 : BoxA U3 w.heap.size nothing := by rw [← hU3]; exact (heap_setCell_other _ ⟨W2.heap.size, 18, none⟩ w.heap.size _ (by have := HNP.out; show w.heap.size ≠ W2.heap.size; omega)).trans hO2
                    have hW3 : Below w.heap.size w U3 := by rw [← hU3]; exact hW2.setCell (by have := HNP.out; show w.heap.size ≤ W2.heap.size; omega) _
                    refine HeldBy.store (i := 9) (w' := U3) rfl (by kernel_rfl) (by rfl) (by rw [← hU3]; first | (go_simp; done) | (go_simp; rfl)) (by first | (go_simp; rfl) | (go_simp; done)) hS3 ?_
                    clear hU3 hc18 hf18 hS2 hB2 hO2 hW2
                    refine wpAnyH_done (by kernel_rfl) ?_ _
                    have hbx := hB3
                    have ho := hO3
                    have hlw := hW3
                    clear hB3 hO3 hW3 hS3
                    have HCA := Lib.hid (rwrite_any { s with phase := 10, volume := pp.name, num := up ver } U3)
                    have HO := Lib.hid ho
                    have HW := Lib.hid hlw
                    clear ho hlw
                    go_wp2_with ((with_reducible refine wpList_load_obj ?_ rfl ?_ hbx ?_); rfl; rfl)
                    refine HCA.out.mono ?_
                    rintro e W7 ⟨rfl, hb7⟩
                    obtain ⟨V8, hst8, ho8, -, hb8⟩ := acting (HO.out.after hb7) (writeA { s with phase := 10, volume := pp.name, num := up ver })
                    have HO8 := Lib.hid ho8
                    have HX8 := Lib.hid (hb8 _ _ (HW.out.trans (hb7.mono HW.out.size)) (Nat.le_refl _))
                    clear ho8 hb8 HCA HO HW hb7 hbx
                    go_wp2_with (refine wpList_skip rfl (hst8 rfl rfl rfl) ?_)
                    refine bodyPost_ret (v := encA (writeA { s with phase := 10, volume := pp.name, num := up ver })) (results_cell_row rfl _ _ w.heap.size 36 (cellsA (writeA { s with phase := 10, volume := pp.name, num := up ver })) (0, 0) _ rfl HO8.out undAct rfl sizeAct) rfl ?_
                    exact ⟨by rw [HVV.out], HX8.out⟩
          · have e1 : (s.phase == 1) = false := by simpa using h1
            have HX4 := Lib.hid (HX3.out.trans (if_neg h1))
            clear h1 HX3
            by_cases h10 : s.phase = 10
            · have e10 : (s.phase == 10) = true := by simpa using h10
              have hxx := HX4.out.trans (if_pos h10)
              obtain ⟨k, hk⟩ : ∃ k : Cl, (⟨6, h, s.num, 0, E0, E0, s.volume⟩ : Cl) = k := ⟨_, rfl⟩
              rw [hk] at hxx
              have HVV : Hid (x = askA k) := hxx
              have HK2 := Lib.hid hk
              clear hxx hk h10 HX4
              go_upto_region 27 with (fail)
              have HA := HB
              have HL := HW
              have HTT := HT3
              have HO := Lib.hid (⟨_, HO.out⟩ : AnyA V3 w.heap.size)
              clear c4 c17 HB HW
              refine wp_region_held_drew (S := fun V => BoxO V W2.heap.size s ∧ AnyA V w.heap.size ∧ Below w.heap.size w V ∧ Tab V) (by kernel_rfl) ⟨HA.out, HO.out, HL.out.drew, HTT.out.drew⟩ (fun _ => ?_)
              refine HeldBy.gen (fun V => BoxO V W2.heap.size s ∧ AnyA V w.heap.size ∧ Below w.heap.size w V ∧ Tab V) ⟨HA.out, HO.out, HL.out.drew, HTT.out.drew⟩ ?_
              clear HA HO HL HTT
              rintro U0 HS
              refine HeldBy.take (i := 0) (v := encO s) rfl (by kernel_rfl) (by kernel_rfl) (by kernel_rfl) (fun _ _ _ h => h) (by rfl) (fun V hV => load_obj hV.1 rfl rfl) (by first | (go_simp; rfl) | (go_simp; done)) HS ?_
              refine HeldBy.take (i := 2) rfl (by kernel_rfl) (by kernel_rfl) (by kernel_rfl) (fun _ _ _ h => h) (by rfl) (fun _ _ => by first | (go_simp; rfl) | (go_simp; done)) (by first | (go_simp; rfl) | (go_simp; done)) HS ?_
              refine HeldBy.take (i := 3) rfl (by kernel_rfl) (by kernel_rfl) (by kernel_rfl) (fun _ _ _ h => h) (by rfl) (fun V hV => by have hc := hV.1.c18; first | (go_simp; rfl) | (go_simp; done)) (by first | (go_simp; rfl) | (go_simp; done)) HS ?_
              refine HeldBy.take (i := 4) rfl (by kernel_rfl) (by kernel_rfl) (by kernel_rfl) (fun _ _ _ h => h) (by rfl) (fun _ _ => by first | (go_simp; rfl) | (go_simp; done)) (by first | (go_simp; rfl) | (go_simp; done)) HS ?_
              refine HeldBy.take (i := 5) rfl (by kernel_rfl) (by kernel_rfl) (by kernel_rfl) (fun _ _ _ h => h) (by rfl) (fun V hV => by have hc := hV.1.c15; first | (go_simp; rfl) | (go_simp; done)) (by first | (go_simp; rfl) | (go_simp; done)) HS ?_
              refine HeldBy.call (i := 1) (v := .string h) rfl (by kernel_rfl) (by rfl) (by first | (go_simp; done) | (go_simp; first | exact ⟨rfl, rfl⟩ | rfl)) (by first | (go_simp; rfl) | (go_simp; done)) ?_
              refine (HHH.out _ HS.2.2.2).mono ?_
              rintro e U1 ⟨rfl, hb⟩
              replace HS : BoxO U1 W2.heap.size s ∧ AnyA U1 w.heap.size ∧ Below w.heap.size w U1 ∧ Tab U1 := ⟨HS.1.after hb, HS.2.1.after hb, HS.2.2.1.trans (hb.mono HS.2.2.1.size), HS.2.2.2.after hb⟩
              refine ⟨rfl, HS, ?_⟩
              clear hb
              refine HeldBy.take (i := 6) (v := encC k) rfl (by kernel_rfl) (by kernel_rfl) (by kernel_rfl) (fun _ _ _ h => h) (by rfl) (fun _ _ => by have hk := HK2.out; subst hk; exact exec_build 34 _ rfl _ (by exact built_cut h s.volume s.num)) (by first | (go_simp; rfl) | (go_simp; done)) HS ?_
              refine HeldBy.call (i := 7) (v := encA (askA k)) rfl (by kernel_rfl) (by rfl) (by first | (go_simp; done) | (go_simp; first | exact ⟨rfl, rfl⟩ | rfl)) (by first | (go_simp; rfl) | (go_simp; done)) ?_
              refine (rask_any k _).mono ?_
              rintro e U2 ⟨rfl, hb⟩
              replace HS : BoxO U2 W2.heap.size s ∧ AnyA U2 w.heap.size ∧ Below w.heap.size w U2 ∧ Tab U2 := ⟨HS.1.after hb, HS.2.1.after hb, HS.2.2.1.trans (hb.mono HS.2.2.1.size), HS.2.2.2.after hb⟩
              refine ⟨rfl, HS, ?_⟩
              clear hb
              obtain ⟨p0, hp0⟩ := HS.2.1
              obtain ⟨V6, hst6, ho6, hoth6, hb6⟩ := acting hp0 (askA k)
              have HS6 : BoxO V6 W2.heap.size s ∧ AnyA V6 w.heap.size ∧ Below w.heap.size w V6 ∧ Tab V6 := ⟨(hoth6 _ (by have := HNP.out; omega)).trans HS.1, ⟨_, ho6⟩, hb6 _ _ HS.2.2.1 (by omega), HT0.out.after (hb6 _ _ HS.2.2.1 (by omega))⟩
              refine HeldBy.store (i := 8) (w' := V6) rfl (by kernel_rfl) (by rfl) (hst6 rfl rfl rfl) (by first | (go_simp; rfl) | (go_simp; done)) HS6 ?_
              refine wpAnyH_done (by kernel_rfl) ?_ _
              have HO6 := Lib.hid ho6
              have HX := Lib.hid HS6.2.2.1
              clear hst6 ho6 hoth6 hb6 HS HS6 hp0 HT0
              go_wp2
              refine bodyPost_ret (v := encA (askA k)) (results_cell_row rfl _ _ w.heap.size 36 (cellsA (askA k)) (0, 0) _ rfl HO6.out undAct rfl sizeAct) rfl ?_
              exact ⟨by rw [HVV.out], HX.out⟩
            · have e10 : (s.phase == 10) = false := by simpa using h10
              have HVV : Hid (x = nothing) := HX4.out.trans (if_neg h10)
              clear h10 HX4
              obtain ⟨V8, hst8, ho8, -, hb8⟩ := acting HO.out nothing
              have HO8 := Lib.hid ho8
              have HX8 := Lib.hid (hb8 _ _ HW.out (Nat.le_refl _))
              clear ho8 hb8
              go_wp2_with (first | (refine wpList_skip rfl (hst8 rfl rfl rfl) ?_))
              refine bodyPost_ret (v := encA nothing) (results_cell_row rfl _ _ w.heap.size 36 (cellsA nothing) (0, 0) _ rfl HO8.out undAct rfl sizeAct) rfl ?_
              exact ⟨by rw [HVV.out], HX8.out⟩
end Go.Proofs.YtijgieefmnmakaaDoor.O.B
