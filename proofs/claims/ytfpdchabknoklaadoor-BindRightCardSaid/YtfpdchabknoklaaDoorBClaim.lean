/- What is done next for a claim. -/
import Derived.Test.YtfpdchabknoklaaDoorBMake
namespace Go.Proofs.YtfpdchabknoklaaDoor.O.B
open Go Go.RowKit Go.Shelf Go.Lib RangeMap KM
attribute [local go_sem] Oper.semAt_some

def claimN (l : List Obj) (ver : Int) (name : ByteArray) : Ac := match getL l 3 name with
  | none => nothing
  | some c => if handleN c = E0 then nothing else if c.phase = 3 then letN l c else match volN l c with
    | some v => writeA (takingN c v)
    | none => if c.deleting then offN c (IntKind.u64.wrap (ver + 1)) else if c.phase = 2 then makeN l c else if c.phase = 1 then beginN l c (IntKind.u64.wrap (ver + 1)) else nothing

set_option maxRecDepth 100000 in
set_option maxHeartbeats 8000000 in
theorem claim_any (l : List Obj) (v : Value) (ver : Int) (name : ByteArray) (w : World) (hl : ObjsIn w v l) (ht : Tab w) (hall : ∀ s ∈ l, (0 ≤ s.born ∧ s.born ≤ 18446744073709551615) ∧ s.name.size ≤ 140737488351232) :
    Calls Tryd.prog 8 #[v, .int .u64 ver, .string name] w fun e w' => e = .returned (encA (claimN l ver name)) ∧ Below w.heap.size w w' := by
  obtain ⟨o, cp, rfl, -, -⟩ := id hl
  have HL := Lib.hid hl
  have HT := Lib.hid ht
  have HALL := Lib.hid hall
  have HG := Lib.hid (fun V (hV : ObjsIn V (.slice o l.length cp) l) => get_any l _ 3 name V hV)
  clear hl ht hall
  obtain ⟨r, hr⟩ : ∃ r, getL l 3 name = r := ⟨_, rfl⟩
  obtain ⟨x, hx⟩ : ∃ x, claimN l ver name = x := ⟨_, rfl⟩
  rw [hx]
  unfold claimN at hx
  rw [hr] at hx HG
  have HXX := Lib.hid hx
  have HIN : Hid (∀ s, r = some s → s ∈ l) := fun s hs => List.mem_of_find?_eq_some (hr.trans hs)
  clear hx hr
  go_enter Tryd.func8, Tryd.ntmps8
  go_upto_region 1 with (fail)
  refine wp_gen (fun V => BoxA V w.heap.size nothing ∧ Below w.heap.size w V) ⟨heap_alloc_new _ _, (Below.refl _ _).alloc (Nat.le_refl _) _⟩ ?_
  rintro V ⟨ho, hl⟩
  have HO := Lib.hid ho
  have HW := Lib.hid hl
  have HC := Lib.hid (HG.out V (HL.out.after hl))
  clear ho hl HG
  go_wp2_with (fail)
  refine HC.out.mono ?_
  rintro e W2 ⟨rfl, hb2⟩
  obtain ⟨V2, hst, hk, hb, -⟩ := boxing W2 (r.getD O0)
  have hw2 := HW.out.trans (hb2.mono HW.out.size)
  replace HO := Lib.hid ((HO.out.after hb2).after hb)
  replace HW := Lib.hid (hw2.trans (hb.mono hw2.size))
  clear HC hb2 hb hw2
  cases r with
  | none =>
    have HVV : Hid (x = nothing) := HXX.out.symm
    clear HXX hk
    have HWE := HW
    obtain ⟨V8, hst8, ho, -, hb⟩ := acting HO.out nothing
    have HO8 := Lib.hid ho
    have HX8 := Lib.hid (hb _ _ HWE.out (Nat.le_refl _))
    clear ho hb
    go_wp2_with (first | (refine wpList_skip rfl (hst rfl rfl rfl) ?_) | (refine wpList_skip rfl (hst8 rfl rfl rfl) ?_))
    refine bodyPost_ret (v := encA (nothing)) (results_cell_row rfl _ _ w.heap.size 36 (cellsA (nothing)) (0, 0) _ rfl HO8.out undAct rfl sizeAct) rfl ?_
    exact ⟨by rw [HVV.out], HX8.out⟩
  | some c =>
    replace hk : BoxO V2 W2.heap.size c := hk
    have hin := HALL.out c (HIN.out c rfl)
    have HBD := Lib.hid hin
    have HC := Lib.hid (handle_any c V2 (HT.out.after HW.out) hin.1 hin.2)
    have hbx := hk
    have HK := Lib.hid hk
    clear hin hk HIN
    go_wp2_with (first | (refine wpList_skip rfl (hst rfl rfl rfl) ?_) | ((with_reducible refine wpList_load_obj ?_ rfl ?_ hbx ?_); rfl; rfl))
    refine HC.out.mono ?_
    rintro e W3 ⟨rfl, hb3⟩
    have hw3 := HW.out.trans (hb3.mono HW.out.size)
    replace HO := Lib.hid (HO.out.after hb3)
    replace HW := Lib.hid hw3
    replace HK := Lib.hid (HK.out.after hb3)
    clear HC hst hb3 hw3 hbx
    by_cases hh : handleN c = E0
    · have HVV : Hid (x = nothing) := HXX.out.symm.trans (if_pos hh)
      have hn' : (handleN c).toList = [] := (emp_iff _).2 hh
      have hn2 : ((handleN c).toList == []) = true := by simp [hn']
      have hn3 : (handleN c).toList.isEmpty = true := by simp [hn']
      clear hh HXX HK
      have HWE := HW
      obtain ⟨V8, hst8, ho, -, hb⟩ := acting HO.out nothing
      have HO8 := Lib.hid ho
      have HX8 := Lib.hid (hb _ _ HWE.out (Nat.le_refl _))
      clear ho hb
      go_wp2_with (first | (refine wpList_skip rfl (hst8 rfl rfl rfl) ?_))
      refine bodyPost_ret (v := encA (nothing)) (results_cell_row rfl _ _ w.heap.size 36 (cellsA (nothing)) (0, 0) _ rfl HO8.out undAct rfl sizeAct) rfl ?_
      exact ⟨by rw [HVV.out], HX8.out⟩
    · have hxx := HXX.out.symm.trans (if_neg hh)
      have hn' : (handleN c).toList ≠ [] := fun e => hh ((emp_iff _).1 e)
      have hn2 : ((handleN c).toList == []) = false := by simpa using hn'
      have hn3 : (handleN c).toList.isEmpty = false := by simpa using hn'
      clear HXX hh
      obtain ⟨q, hq⟩ : ∃ q, volN l c = q := ⟨_, rfl⟩
      rw [hq] at hxx
      have HXX := Lib.hid hxx
      have HC : Hid (Calls Tryd.prog 19 #[.slice o l.length cp, encO c] W3 fun e w' => e = .returned (.tuple #[encO (q.getD O0), .bool q.isSome]) ∧ Below W3.heap.size W3 w') := by
        rw [← hq]
        exact volumeOf_any l _ c W3 (HL.out.after HW.out) (HT.out.after HW.out) HBD.out.1 HBD.out.2
      have hbx := HK.out
      clear hxx hq
      go_wp2_with ((with_reducible refine wpList_load_obj ?_ rfl ?_ hbx ?_); rfl; rfl)
      refine HC.out.mono ?_
      rintro e W4 ⟨rfl, hb4⟩
      obtain ⟨V5, hst, hk5, hb5, -⟩ := boxing W4 (q.getD O0)
      have hw4 := HW.out.trans (hb4.mono HW.out.size)
      replace HO := Lib.hid ((HO.out.after hb4).after hb5)
      replace HW := Lib.hid (hw4.trans (hb5.mono hw4.size))
      replace HK := Lib.hid ((HK.out.after hb4).after hb5)
      have c17 := HK.out.c17
      have c4 := HK.out.c4
      clear HC hb4 hb5 hw4 hbx
      have hbx := HK.out
      by_cases p3 : c.phase = 3
      · have HVV : Hid (x = letN l c) := HXX.out.trans (if_pos p3)
        have e3 : (c.phase == 3) = true := by simpa using p3
        clear p3 HXX hk5
        have HC := Lib.hid (letGo_any l _ c V5 (HL.out.after HW.out))
        go_wp2_with (first | (refine wpList_skip rfl (hst rfl rfl rfl) ?_) | ((with_reducible refine wpList_load_obj ?_ rfl ?_ hbx ?_); rfl; rfl))
        refine (HC.out).mono ?_
        rintro e W8 ⟨rfl, hb8⟩
        have HWE := Lib.hid (HW.out.trans (hb8.mono HW.out.size))
        obtain ⟨V8, hst8, ho, -, hb⟩ := acting (HO.out.after hb8) (letN l c)
        clear HC hb8
        have HO8 := Lib.hid ho
        have HX8 := Lib.hid (hb _ _ HWE.out (Nat.le_refl _))
        clear ho hb
        go_wp2_with (first | (refine wpList_skip rfl (hst8 rfl rfl rfl) ?_))
        refine bodyPost_ret (v := encA (letN l c)) (results_cell_row rfl _ _ w.heap.size 36 (cellsA (letN l c)) (0, 0) _ rfl HO8.out undAct rfl sizeAct) rfl ?_
        exact ⟨by rw [HVV.out], HX8.out⟩
      · have hxx := HXX.out.trans (if_neg p3)
        have e3 : (c.phase == 3) = false := by simpa using p3
        clear HXX
        cases q with
        | some vo =>
          have HVV : Hid (x = writeA (takingN c vo)) := hxx
          have hvx : BoxO V5 W4.heap.size vo := hk5
          have HC := Lib.hid (taking_any c vo V5)
          clear hxx hk5
          go_wp2_with (first | (refine wpList_skip rfl (hst rfl rfl rfl) ?_) | ((with_reducible refine wpList_load_obj ?_ rfl ?_ hbx ?_); rfl; rfl) | ((with_reducible refine wpList_load_obj ?_ rfl ?_ hvx ?_); rfl; rfl))
          refine HC.out.mono ?_
          rintro e W7 ⟨rfl, hb7⟩
          have hw7 := HW.out.trans (hb7.mono HW.out.size)
          have HC2 := Lib.hid (write_any (takingN c vo) W7)
          replace HO := Lib.hid (HO.out.after hb7)
          replace HW := Lib.hid hw7
          clear HC hb7 hw7 hbx hvx hst
          go_wp2_with (fail)
          refine HC2.out.mono ?_
          rintro e W8 ⟨rfl, hb8⟩
          have HWE := Lib.hid (HW.out.trans (hb8.mono HW.out.size))
          obtain ⟨V8, hst8, ho, -, hb⟩ := acting (HO.out.after hb8) (writeA (takingN c vo))
          clear HC2 hb8
          have HO8 := Lib.hid ho
          have HX8 := Lib.hid (hb _ _ HWE.out (Nat.le_refl _))
          clear ho hb
          go_wp2_with (first | (refine wpList_skip rfl (hst8 rfl rfl rfl) ?_))
          refine bodyPost_ret (v := encA (writeA (takingN c vo))) (results_cell_row rfl _ _ w.heap.size 36 (cellsA (writeA (takingN c vo))) (0, 0) _ rfl HO8.out undAct rfl sizeAct) rfl ?_
          exact ⟨by rw [HVV.out], HX8.out⟩
        | none =>
          have HX2 := Lib.hid hxx
          clear hxx hk5
          cases hd : c.deleting with
          | true =>
            rw [hd] at c4
            have HVV : Hid (x = offN c (IntKind.u64.wrap (ver + 1))) := by show _ = _; rw [HX2.out]; simp [hd]
            clear HX2
            have HC := Lib.hid (callOff_any c (IntKind.u64.wrap (ver + 1)) V5 (HT.out.after HW.out) HBD.out.1 HBD.out.2)
            go_wp2_with (first | (refine wpList_skip rfl (hst rfl rfl rfl) ?_) | ((with_reducible refine wpList_load_obj ?_ rfl ?_ hbx ?_); rfl; rfl))
            refine (HC.out).mono ?_
            rintro e W8 ⟨rfl, hb8⟩
            have HWE := Lib.hid (HW.out.trans (hb8.mono HW.out.size))
            obtain ⟨V8, hst8, ho, -, hb⟩ := acting (HO.out.after hb8) (offN c (IntKind.u64.wrap (ver + 1)))
            clear HC hb8
            have HO8 := Lib.hid ho
            have HX8 := Lib.hid (hb _ _ HWE.out (Nat.le_refl _))
            clear ho hb
            go_wp2_with (first | (refine wpList_skip rfl (hst8 rfl rfl rfl) ?_))
            refine bodyPost_ret (v := encA (offN c (IntKind.u64.wrap (ver + 1)))) (results_cell_row rfl _ _ w.heap.size 36 (cellsA (offN c (IntKind.u64.wrap (ver + 1)))) (0, 0) _ rfl HO8.out undAct rfl sizeAct) rfl ?_
            exact ⟨by rw [HVV.out], HX8.out⟩
          | false =>
            rw [hd] at c4
            by_cases p2 : c.phase = 2
            · have HVV : Hid (x = makeN l c) := by show _ = _; rw [HX2.out]; simp [hd, p2]
              have e2 : (c.phase == 2) = true := by simpa using p2
              clear HX2 p2 p3
              have HC := Lib.hid (create_any l _ c V5 (HL.out.after HW.out) (HT.out.after HW.out) HBD.out.1 HBD.out.2 HALL.out)
              go_wp2_with (first | (refine wpList_skip rfl (hst rfl rfl rfl) ?_) | ((with_reducible refine wpList_load_obj ?_ rfl ?_ hbx ?_); rfl; rfl))
              refine (HC.out).mono ?_
              rintro e W8 ⟨rfl, hb8⟩
              have HWE := Lib.hid (HW.out.trans (hb8.mono HW.out.size))
              obtain ⟨V8, hst8, ho, -, hb⟩ := acting (HO.out.after hb8) (makeN l c)
              clear HC hb8
              have HO8 := Lib.hid ho
              have HX8 := Lib.hid (hb _ _ HWE.out (Nat.le_refl _))
              clear ho hb
              go_wp2_with (first | (refine wpList_skip rfl (hst8 rfl rfl rfl) ?_))
              refine bodyPost_ret (v := encA (makeN l c)) (results_cell_row rfl _ _ w.heap.size 36 (cellsA (makeN l c)) (0, 0) _ rfl HO8.out undAct rfl sizeAct) rfl ?_
              exact ⟨by rw [HVV.out], HX8.out⟩
            · have e2 : (c.phase == 2) = false := by simpa using p2
              by_cases p1 : c.phase = 1
              · have HVV : Hid (x = beginN l c (IntKind.u64.wrap (ver + 1))) := by show _ = _; rw [HX2.out]; simp [hd, p1]
                have e1 : (c.phase == 1) = true := by simpa using p1
                clear HX2 p1 p2 p3
                have HC := Lib.hid (begin_any l _ c (IntKind.u64.wrap (ver + 1)) V5 (HL.out.after HW.out) (HT.out.after HW.out) HBD.out.1 HBD.out.2)
                go_wp2_with (first | (refine wpList_skip rfl (hst rfl rfl rfl) ?_) | ((with_reducible refine wpList_load_obj ?_ rfl ?_ hbx ?_); rfl; rfl))
                refine (HC.out).mono ?_
                rintro e W8 ⟨rfl, hb8⟩
                have HWE := Lib.hid (HW.out.trans (hb8.mono HW.out.size))
                obtain ⟨V8, hst8, ho, -, hb⟩ := acting (HO.out.after hb8) (beginN l c (IntKind.u64.wrap (ver + 1)))
                clear HC hb8
                have HO8 := Lib.hid ho
                have HX8 := Lib.hid (hb _ _ HWE.out (Nat.le_refl _))
                clear ho hb
                go_wp2_with (first | (refine wpList_skip rfl (hst8 rfl rfl rfl) ?_))
                refine bodyPost_ret (v := encA (beginN l c (IntKind.u64.wrap (ver + 1)))) (results_cell_row rfl _ _ w.heap.size 36 (cellsA (beginN l c (IntKind.u64.wrap (ver + 1)))) (0, 0) _ rfl HO8.out undAct rfl sizeAct) rfl ?_
                exact ⟨by rw [HVV.out], HX8.out⟩
              · have HVV : Hid (x = nothing) := by show _ = _; rw [HX2.out]; simp [hd, p1, p2]
                have e1 : (c.phase == 1) = false := by simpa using p1
                clear HX2 p1 p2 p3
                have HWE := HW
                obtain ⟨V8, hst8, ho, -, hb⟩ := acting HO.out nothing
                have HO8 := Lib.hid ho
                have HX8 := Lib.hid (hb _ _ HWE.out (Nat.le_refl _))
                clear ho hb
                go_wp2_with (first | (refine wpList_skip rfl (hst rfl rfl rfl) ?_) | (refine wpList_skip rfl (hst8 rfl rfl rfl) ?_))
                refine bodyPost_ret (v := encA (nothing)) (results_cell_row rfl _ _ w.heap.size 36 (cellsA (nothing)) (0, 0) _ rfl HO8.out undAct rfl sizeAct) rfl ?_
                exact ⟨by rw [HVV.out], HX8.out⟩
end Go.Proofs.YtfpdchabknoklaaDoor.O.B
