/- Unlike claims have unlike refs. -/
import Derived.Test.YtdlbpfallmpkoaaDoorBLive
import Derived.Test.YtdlbpfallmpkoaaDoorKMath
import Derived.Test.YtdlbpfallmpkoaaDoorKOut
namespace Go.Proofs.YtdlbpfallmpkoaaDoor.O.B
open Go Go.RowKit Go.Shelf Go.Lib RangeMap KM
attribute [local go_sem] Oper.semAt_some

def cR (a : ByteArray) (m : Int) : Obj := { O0 with kind := 3, name := a, born := m }
theorem built_cR (a : ByteArray) (m : Int) : Tryd.prog.built 28 [(0, .int .u8 3), (1, .string a), (3, .int .u64 m)] = some (cellsO (cR a m)) := by kernel_rfl
theorem refs_iff (a b : ByteArray) (m n : Int) (hm : 0 ≤ m) (hn : 0 ≤ n) (h1 : refN (cR a m) ≠ E0) (h2 : refN (cR b n) ≠ E0) :
    (refN (cR a m) = refN (cR b n) ↔ a = b ∧ m = n) ∧ (handleN (cR a m) = handleN (cR b n) ↔ a = b ∧ m = n) := by
  have s1 : refN (cR a m) = a ++ ⟨#[35]⟩ ++ digs m := by
    unfold refN at h1 ⊢
    split
    · rename_i hl
      exact absurd (if_pos hl) h1
    · rfl
  have s2 : refN (cR b n) = b ++ ⟨#[35]⟩ ++ digs n := by
    unfold refN at h2 ⊢
    split
    · rename_i hl
      exact absurd (if_pos hl) h2
    · rfl
  have hi : refN (cR a m) = refN (cR b n) ↔ a = b ∧ m = n := by
    rw [s1, s2]
    exact born_iff a b m n hm hn
  refine ⟨hi, ?_⟩
  rw [← hi]
  unfold handleN
  rw [if_neg h1, if_neg h2]
  constructor
  · intro h
    have h3 := congrArg (fun s : ByteArray => s.data.toList) h
    simp only [ByteArray.data_append, Array.toList_append, List.append_cancel_left_eq] at h3
    exact ba_ext h3
  · intro h
    rw [h]
theorem none_none {o : Obj} (h : refN o = E0) : handleN o = E0 := by
  unfold handleN
  rw [if_pos h]
def BoxP (V : World) (b : Nat) (m n : Int) : Prop := V.heap[b]? = some (.cells #[.int .u64 m, .int .u64 n] 36 (0, 0))
theorem BoxP.after {V V' : World} {b : Nat} {m n : Int} (h : BoxP V b m n) (hb : Below V.heap.size V V') : BoxP V' b m n := (hb.block b (Array.getElem?_eq_some_iff.1 h).1).trans h
theorem BoxP.c0 {V : World} {b : Nat} {m n : Int} (h : BoxP V b m n) : V.cell? ⟨b, 0, none⟩ = some (.int .u64 m) := (cell_of_row V _ 0 _ _ _ h).trans rfl
theorem BoxP.c1 {V : World} {b : Nat} {m n : Int} (h : BoxP V b m n) : V.cell? ⟨b, 1, none⟩ = some (.int .u64 n) := (cell_of_row V _ 1 _ _ _ h).trans rfl
theorem BoxP.lt {V : World} {b : Nat} {m n : Int} (h : BoxP V b m n) : b < V.heap.size := (Array.getElem?_eq_some_iff.1 h).1
theorem exec_eql_str {W : World} {r s : ByteArray} {v : Bool} {oi : Oper} {a : Act} {x y : Operand} {t : TypeId} (ho : oi.op = .binOp .eql 9 x y t) (hx : a.eval x = .string r) (hy : a.eval y = .string s) (hv : decide (r = s) = v) :
    (execOp a.eval oi).run Tryd.prog W = .ok (.value (.bool v)) W := by
  subst hv
  rw [← eqB]
  unfold execOp
  simp only [ho, hx, hy]
  go_simp
theorem exec_eql_u64 {W : World} {r s : Int} {v : Bool} {oi : Oper} {a : Act} {x y : Operand} {t : TypeId} (ho : oi.op = .binOp .eql 24 x y t) (hx : a.eval x = .int .u64 r) (hy : a.eval y = .int .u64 s) (hv : (r == s) = v) :
    (execOp a.eval oi).run Tryd.prog W = .ok (.value (.bool v)) W := by
  subst hv
  unfold execOp
  simp only [ho, hx, hy]
  go_simp

set_option maxRecDepth 100000 in
set_option maxHeartbeats 4000000 in
theorem refs_any (a b : ByteArray) (m n : Int) (w : World) (ht : Tab w) (hm : 0 ≤ m ∧ m ≤ 18446744073709551615) (hn : 0 ≤ n ∧ n ≤ 18446744073709551615) (ha : a.size ≤ 140737488351232) (hb : b.size ≤ 140737488351232) :
    Calls Tryd.prog 5 #[.string a, .string b, .agg #[.int .u64 m, .int .u64 n]] w fun e w' => e = .returned (.bool true) ∧ Below w.heap.size w w' := by
  have HT := Lib.hid ht
  have HX : Hid (∀ V, Tab V → Calls Tryd.prog 12 #[encO (cR a m)] V fun e w' => e = .returned (.string (refN (cR a m))) ∧ Below V.heap.size V w') := fun V hV => ref_any (cR a m) V hV hm ha
  have HY : Hid (∀ V, Tab V → Calls Tryd.prog 12 #[encO (cR b n)] V fun e w' => e = .returned (.string (refN (cR b n))) ∧ Below V.heap.size V w') := fun V hV => ref_any (cR b n) V hV hn hb
  have HHX : Hid (∀ V, Tab V → Calls Tryd.prog 14 #[encO (cR a m)] V fun e w' => e = .returned (.string (handleN (cR a m))) ∧ Below V.heap.size V w') := fun V hV => handle_any (cR a m) V hV hm ha
  have HHY : Hid (∀ V, Tab V → Calls Tryd.prog 14 #[encO (cR b n)] V fun e w' => e = .returned (.string (handleN (cR b n))) ∧ Below V.heap.size V w') := fun V hV => handle_any (cR b n) V hV hn hb
  have HBX := Lib.hid (built_cR a m)
  have HBY := Lib.hid (built_cR b n)
  have HL1 := Lib.hid (fun h : refN (cR a m) = E0 => none_none h)
  have HL2 := Lib.hid (fun h : refN (cR b n) = E0 => none_none h)
  have HL3 := Lib.hid (refs_iff a b m n hm.1 hn.1)
  clear ht hm hn ha hb
  generalize refN (cR a m) = r at *
  generalize refN (cR b n) = s at *
  generalize handleN (cR a m) = hx at *
  generalize handleN (cR b n) = hy at *
  generalize cR a m = X at *
  generalize cR b n = Y at *
  go_enter Tryd.func5, Tryd.ntmps5
  go_upto_region 1 with (fail)
  refine wp_gen (fun V => BoxP V w.heap.size m n ∧ Below w.heap.size w V) ⟨heap_alloc_new _ _, (Below.refl _ _).alloc (Nat.le_refl _) _⟩ ?_
  rintro V ⟨hp, hlw⟩
  have HTV := Lib.hid (HT.out.after hlw)
  have HP := Lib.hid hp
  have HW := Lib.hid hlw
  clear hp hlw HT
  refine wp_region_held_drew (S := fun V => BoxP V w.heap.size m n ∧ Below w.heap.size w V ∧ Tab V) (by kernel_rfl) ⟨HP.out, HW.out.drew, HTV.out.drew⟩ (fun _ => ?_)
  refine HeldBy.gen (fun V => BoxP V w.heap.size m n ∧ Below w.heap.size w V ∧ Tab V) ⟨HP.out, HW.out.drew, HTV.out.drew⟩ ?_
  clear HP HW HTV
  rintro U0 HS
  refine HeldBy.take (i := 0) rfl (by kernel_rfl) (by kernel_rfl) (by kernel_rfl) (fun _ _ _ h => h) (by rfl) (fun _ _ => by first | (go_simp; rfl) | (go_simp; done)) (by first | (go_simp; rfl) | (go_simp; done)) HS ?_
  refine HeldBy.take (i := 1) rfl (by kernel_rfl) (by kernel_rfl) (by kernel_rfl) (fun _ _ _ h => h) (by rfl) (fun _ _ => by first | (go_simp; rfl) | (go_simp; done)) (by first | (go_simp; rfl) | (go_simp; done)) HS ?_
  refine HeldBy.take (i := 2) (v := .int .u64 m) rfl (by kernel_rfl) (by kernel_rfl) (by kernel_rfl) (fun _ _ _ h => h) (by rfl) (fun V hV => by have h := hV.1.c0; first | (go_simp; rfl) | (go_simp; done)) (by first | (go_simp; rfl) | (go_simp; done)) HS ?_
  refine HeldBy.take (i := 3) (v := encO X) rfl (by kernel_rfl) (by kernel_rfl) (by kernel_rfl) (fun _ _ _ h => h) (by rfl) (fun _ _ => exec_build 28 _ rfl _ (by exact HBX.out)) (by first | (go_simp; rfl) | (go_simp; done)) HS ?_
  refine HeldBy.take (i := 4) rfl (by kernel_rfl) (by kernel_rfl) (by kernel_rfl) (fun _ _ _ h => h) (by rfl) (fun _ _ => by first | (go_simp; rfl) | (go_simp; done)) (by first | (go_simp; rfl) | (go_simp; done)) HS ?_
  refine HeldBy.take (i := 5) rfl (by kernel_rfl) (by kernel_rfl) (by kernel_rfl) (fun _ _ _ h => h) (by rfl) (fun _ _ => by first | (go_simp; rfl) | (go_simp; done)) (by first | (go_simp; rfl) | (go_simp; done)) HS ?_
  refine HeldBy.take (i := 6) (v := .int .u64 n) rfl (by kernel_rfl) (by kernel_rfl) (by kernel_rfl) (fun _ _ _ h => h) (by rfl) (fun V hV => by have h := hV.1.c1; first | (go_simp; rfl) | (go_simp; done)) (by first | (go_simp; rfl) | (go_simp; done)) HS ?_
  refine HeldBy.take (i := 7) (v := encO Y) rfl (by kernel_rfl) (by kernel_rfl) (by kernel_rfl) (fun _ _ _ h => h) (by rfl) (fun _ _ => exec_build 28 _ rfl _ (by exact HBY.out)) (by first | (go_simp; rfl) | (go_simp; done)) HS ?_
  have HSS : ∀ V', Below U0.heap.size U0 V' → BoxP V' w.heap.size m n ∧ Below w.heap.size w V' ∧ Tab V' := fun V' hb => ⟨HS.1.after hb, HS.2.1.trans (hb.mono HS.2.1.size), HS.2.2.after hb⟩
  refine HeldBy.two_allocs (i := 8) (j := 9) (x := .cells (cellsO O0) 28 (0, 0)) (y := .cells (cellsO O0) 28 (0, 0)) (by kernel_rfl) (by kernel_rfl) (by kernel_rfl) rfl rfl rfl rfl (makes_o rfl) (makes_o rfl) rfl (by kernel_rfl) (fun p q => by unfold HeldBy.ptr; go_simp; rfl) (fun p q => by unfold HeldBy.ptr; go_simp; try rfl) (fun w' hb => HSS w' hb) ?_
  intro p q U1 hp hq hpq hbx hby hb
  obtain ⟨V1, st1, bx1, ov1, lv1⟩ := storing (show BoxO U1 p O0 from hbx) X
  obtain ⟨V2, st2, by2, ov2, lv2⟩ := storing (show BoxO V1 q O0 from (ov1 q (fun e => hpq e.symm)).trans hby) Y
  have hb1 := lv1 _ _ hb hp
  have hb2 := lv2 _ _ hb1 hq
  have hbx2 : BoxO V2 p X := (ov2 p hpq).trans bx1
  refine HeldBy.store (i := 10) (w' := V1) rfl (by kernel_rfl) (by rfl) (st1 rfl rfl rfl) (by first | (go_simp; rfl) | (go_simp; done)) (HSS V1 hb1) ?_
  refine HeldBy.store (i := 11) (w' := V2) rfl (by kernel_rfl) (by rfl) (st2 rfl rfl rfl) (by first | (go_simp; rfl) | (go_simp; done)) (HSS V2 hb2) ?_
  refine wpAnyH_done (by kernel_rfl) ?_ _
  have HP := Lib.hid (HSS V2 hb2).1
  have HW := Lib.hid (HSS V2 hb2).2.1
  have HTV := Lib.hid (HSS V2 hb2).2.2
  have HOX := Lib.hid hbx2
  have HOY := Lib.hid by2
  clear HSS HS hp hq hpq hbx hby hb st1 bx1 ov1 lv1 st2 by2 ov2 lv2 hb1 hb2 hbx2 HBX HBY
  go_upto_region 2 with (fail)
  refine wp_region_held_drew (S := fun V => BoxP V w.heap.size m n ∧ BoxO V p X ∧ BoxO V q Y ∧ Below w.heap.size w V ∧ Tab V) (by kernel_rfl) ⟨HP.out, HOX.out, HOY.out, HW.out.drew, HTV.out.drew⟩ (fun _ => ?_)
  refine HeldBy.gen (fun V => BoxP V w.heap.size m n ∧ BoxO V p X ∧ BoxO V q Y ∧ Below w.heap.size w V ∧ Tab V) ⟨HP.out, HOX.out, HOY.out, HW.out.drew, HTV.out.drew⟩ ?_
  clear HP HOX HOY HW HTV
  rintro U0 HS
  refine HeldBy.take (i := 0) (v := encO X) rfl (by kernel_rfl) (by kernel_rfl) (by kernel_rfl) (fun _ _ _ h => h) (by rfl) (fun V hV => load_obj hV.2.1 rfl rfl) (by go_simp; rfl) HS ?_
  refine HeldBy.take (i := 2) (v := encO Y) rfl (by kernel_rfl) (by kernel_rfl) (by kernel_rfl) (fun _ _ _ h => h) (by rfl) (fun V hV => load_obj hV.2.2.1 rfl rfl) (by go_simp; rfl) HS ?_
  refine HeldBy.call (i := 1) (v := .string r) rfl (by kernel_rfl) (by rfl) (by go_simp; exact ⟨rfl, rfl⟩) (by go_simp; rfl) ?_
  refine (HX.out _ HS.2.2.2.2).mono ?_
  rintro e U1 ⟨rfl, hb⟩
  replace HS : BoxP U1 w.heap.size m n ∧ BoxO U1 p X ∧ BoxO U1 q Y ∧ Below w.heap.size w U1 ∧ Tab U1 := ⟨HS.1.after hb, HS.2.1.after hb, HS.2.2.1.after hb, HS.2.2.2.1.trans (hb.mono HS.2.2.2.1.size), HS.2.2.2.2.after hb⟩
  refine ⟨rfl, HS, ?_⟩
  clear hb
  refine HeldBy.call (i := 3) (v := .string s) rfl (by kernel_rfl) (by rfl) (by go_simp; exact ⟨rfl, rfl⟩) (by go_simp; rfl) ?_
  refine (HY.out _ HS.2.2.2.2).mono ?_
  rintro e U2 ⟨rfl, hb⟩
  replace HS : BoxP U2 w.heap.size m n ∧ BoxO U2 p X ∧ BoxO U2 q Y ∧ Below w.heap.size w U2 ∧ Tab U2 := ⟨HS.1.after hb, HS.2.1.after hb, HS.2.2.1.after hb, HS.2.2.2.1.trans (hb.mono HS.2.2.2.1.size), HS.2.2.2.2.after hb⟩
  refine ⟨rfl, HS, ?_⟩
  clear hb
  refine HeldBy.take (i := 4) rfl (by kernel_rfl) (by kernel_rfl) (by kernel_rfl) (fun _ _ _ h => h) (by rfl) (fun _ _ => by first | (go_simp; rfl) | (go_simp; done)) (by go_simp; rfl) HS ?_
  refine HeldBy.take (i := 5) rfl (by kernel_rfl) (by kernel_rfl) (by kernel_rfl) (fun _ _ _ h => h) (by rfl) (fun _ _ => by first | (go_simp; rfl) | (go_simp; done)) (by go_simp; rfl) HS ?_
  refine wpAnyH_done (by kernel_rfl) ?_ _
  have HP := Lib.hid HS.1
  have HOX := Lib.hid HS.2.1
  have HOY := Lib.hid HS.2.2.1
  have HW := Lib.hid HS.2.2.2.1
  have HTV := Lib.hid HS.2.2.2.2
  clear HS HX HY
  have HV := Lib.hid (fun V (hV : Tab V) => live_any V hV)
  by_cases kr : r = E0
  · have r1 : r.toList = [] := (emp_iff _).2 kr
    have r2 : (r.toList == []) = true := by simp [r1]
    have r3 : r.toList.isEmpty = true := by simp [r1]
    have eh := HL1.out kr
    have h1 : hx.toList = [] := (emp_iff _).2 eh
    have h2 : (hx.toList == []) = true := by simp [h1]
    have h3 : hx.toList.isEmpty = true := by simp [h1]
    by_cases ks : s = E0
    · have s1 : s.toList = [] := (emp_iff _).2 ks
      have s2 : (s.toList == []) = true := by simp [s1]
      have s3 : s.toList.isEmpty = true := by simp [s1]
      have ek := HL2.out ks
      have k1 : hy.toList = [] := (emp_iff _).2 ek
      have k2 : (hy.toList == []) = true := by simp [k1]
      have k3 : hy.toList.isEmpty = true := by simp [k1]
      clear kr ks eh ek HL1 HL2 HL3 HP
      go_wp2_with (fail)
      refine (HV.out _ HTV.out).mono ?_
      rintro e W3 ⟨rfl, hb3⟩
      have HOX3 := Lib.hid (HOX.out.after hb3)
      have HOY3 := Lib.hid (HOY.out.after hb3)
      have HT3 := Lib.hid (HTV.out.after hb3)
      have HW3 := Lib.hid (HW.out.trans (hb3.mono HW.out.size))
      clear HV hb3 HOX HOY HTV HW
      go_wp2_with (refine wpList_got rfl (load_obj HOX3.out rfl rfl) ?_)
      refine (HHX.out _ HT3.out).mono ?_
      rintro e W4 ⟨rfl, hb4⟩
      have HOY4 := Lib.hid (HOY3.out.after hb4)
      have HT4 := Lib.hid (HT3.out.after hb4)
      have HW4 := Lib.hid (HW3.out.trans (hb4.mono HW3.out.size))
      clear HHX hb4 HOX3 HOY3 HT3 HW3
      go_wp2_with (refine wpList_got rfl (load_obj HOY4.out rfl rfl) ?_)
      refine (HHY.out _ HT4.out).mono ?_
      rintro e W5 ⟨rfl, hb5⟩
      have HX5 := Lib.hid (HW4.out.trans (hb5.mono HW4.out.size))
      clear HHY hb5 HOY4 HT4 HW4
      go_wp2
      go_ret
      exact ⟨rfl, HX5.out⟩
    · have s1 : s.toList ≠ [] := fun e => ks ((emp_iff _).1 e)
      have s2 : (s.toList == []) = false := by simpa using s1
      have s3 : s.toList.isEmpty = false := by simpa using s1
      clear kr ks eh HL1 HL2 HL3 HP HHY HOY
      go_wp2_with (fail)
      refine (HV.out _ HTV.out).mono ?_
      rintro e W3 ⟨rfl, hb3⟩
      have HOX3 := Lib.hid (HOX.out.after hb3)
      have HT3 := Lib.hid (HTV.out.after hb3)
      have HW3 := Lib.hid (HW.out.trans (hb3.mono HW.out.size))
      clear HV hb3 HOX HTV HW
      go_wp2_with (refine wpList_got rfl (load_obj HOX3.out rfl rfl) ?_)
      refine (HHX.out _ HT3.out).mono ?_
      rintro e W4 ⟨rfl, hb4⟩
      have HX5 := Lib.hid (HW3.out.trans (hb4.mono HW3.out.size))
      clear HHX hb4 HOX3 HT3 HW3
      go_wp2
      go_ret
      exact ⟨rfl, HX5.out⟩
  · have r1 : r.toList ≠ [] := fun e => kr ((emp_iff _).1 e)
    have r2 : (r.toList == []) = false := by simpa using r1
    have r3 : r.toList.isEmpty = false := by simpa using r1
    by_cases ks : s = E0
    · have s1 : s.toList = [] := (emp_iff _).2 ks
      have s2 : (s.toList == []) = true := by simp [s1]
      have s3 : s.toList.isEmpty = true := by simp [s1]
      have ek := HL2.out ks
      have k1 : hy.toList = [] := (emp_iff _).2 ek
      have k2 : (hy.toList == []) = true := by simp [k1]
      have k3 : hy.toList.isEmpty = true := by simp [k1]
      clear kr ks ek HL1 HL2 HL3 HP HHX HOX
      go_wp2_with (fail)
      refine (HV.out _ HTV.out).mono ?_
      rintro e W3 ⟨rfl, hb3⟩
      have HOY3 := Lib.hid (HOY.out.after hb3)
      have HT3 := Lib.hid (HTV.out.after hb3)
      have HW3 := Lib.hid (HW.out.trans (hb3.mono HW.out.size))
      clear HV hb3 HOY HTV HW
      go_wp2_with (refine wpList_got rfl (load_obj HOY3.out rfl rfl) ?_)
      refine (HHY.out _ HT3.out).mono ?_
      rintro e W4 ⟨rfl, hb4⟩
      have HX5 := Lib.hid (HW3.out.trans (hb4.mono HW3.out.size))
      clear HHY hb4 HOY3 HT3 HW3
      go_wp2
      go_ret
      exact ⟨rfl, HX5.out⟩
    · have s1 : s.toList ≠ [] := fun e => ks ((emp_iff _).1 e)
      have s2 : (s.toList == []) = false := by simpa using s1
      have s3 : s.toList.isEmpty = false := by simpa using s1
      obtain ⟨i1, i2⟩ := HL3.out kr ks
      have d1 : decide (r = s) = decide (a = b ∧ m = n) := decide_eq_decide.2 i1
      have d2 : decide (hx = hy) = decide (a = b ∧ m = n) := decide_eq_decide.2 i2
      have D1 := Lib.hid d1
      have D2 := Lib.hid d2
      clear i1 i2 d1 d2 kr ks HL1 HL2 HL3
      go_upto_region 5 with (fail)
      clear r1 r2 r3 s1 s2 s3
      by_cases kab : a = b
      · have G2 : Hid (decide (a = b) = true) := decide_eq_true kab
        by_cases kmn : m = n
        · have G1 : Hid (decide (r = s) = true) := by show _ = _; rw [D1.out]; exact decide_eq_true ⟨kab, kmn⟩
          have G4 : Hid (decide (hx = hy) = true) := by show _ = _; rw [D2.out]; exact decide_eq_true ⟨kab, kmn⟩
          have G3 : Hid ((m == n) = true) := by show _ = _; simpa using kmn
          clear kab kmn
          refine wp_region_held_drew (S := fun V => BoxP V w.heap.size m n ∧ BoxO V p X ∧ BoxO V q Y ∧ Below w.heap.size w V ∧ Tab V) (by kernel_rfl) ⟨HP.out, HOX.out, HOY.out, HW.out.drew, HTV.out.drew⟩ (fun _ => ?_)
          refine HeldBy.gen (fun V => BoxP V w.heap.size m n ∧ BoxO V p X ∧ BoxO V q Y ∧ Below w.heap.size w V ∧ Tab V) ⟨HP.out, HOX.out, HOY.out, HW.out.drew, HTV.out.drew⟩ ?_
          clear HP HOX HOY HW HTV
          rintro U0 HS
          refine HeldBy.call (i := 0) (v := .bool true) rfl (by kernel_rfl) (by rfl) (by go_simp; exact ⟨rfl, rfl⟩) (by go_simp; rfl) ?_
          refine (HV.out _ HS.2.2.2.2).mono ?_
          rintro e U1 ⟨rfl, hb⟩
          replace HS : BoxP U1 w.heap.size m n ∧ BoxO U1 p X ∧ BoxO U1 q Y ∧ Below w.heap.size w U1 ∧ Tab U1 := ⟨HS.1.after hb, HS.2.1.after hb, HS.2.2.1.after hb, HS.2.2.2.1.trans (hb.mono HS.2.2.2.1.size), HS.2.2.2.2.after hb⟩
          refine ⟨rfl, HS, ?_⟩
          clear hb
          refine HeldBy.take (i := 1) rfl (by kernel_rfl) (by kernel_rfl) (by kernel_rfl) (fun _ _ _ h => h) (by rfl) (fun _ _ => by first | (go_simp; rfl) | (go_simp; done)) (by go_simp; rfl) HS ?_
          refine HeldBy.take (i := 2) rfl (by kernel_rfl) (by kernel_rfl) (by kernel_rfl) (fun _ _ _ h => h) (by rfl) (fun _ _ => by first | (go_simp; rfl) | (go_simp; done)) (by go_simp; rfl) HS ?_
          refine HeldBy.take (i := 3) rfl (by kernel_rfl) (by kernel_rfl) (by kernel_rfl) (fun _ _ _ h => h) (by rfl) (fun _ _ => by first | (go_simp; rfl) | (go_simp; done)) (by go_simp; rfl) HS ?_
          refine HeldBy.take (i := 4) (v := .bool true) rfl (by kernel_rfl) (by kernel_rfl) (by kernel_rfl) (fun _ _ _ h => h) (by rfl) (fun _ _ => exec_eql_str rfl rfl rfl G1.out) (by go_simp; rfl) HS ?_
          refine HeldBy.take (i := 5) rfl (by kernel_rfl) (by kernel_rfl) (by kernel_rfl) (fun _ _ _ h => h) (by rfl) (fun _ _ => by first | (go_simp; rfl) | (go_simp; done)) (by go_simp; rfl) HS ?_
          refine HeldBy.take (i := 6) rfl (by kernel_rfl) (by kernel_rfl) (by kernel_rfl) (fun _ _ _ h => h) (by rfl) (fun _ _ => by first | (go_simp; rfl) | (go_simp; done)) (by go_simp; rfl) HS ?_
          refine HeldBy.take (i := 7) (v := .bool true) rfl (by kernel_rfl) (by kernel_rfl) (by kernel_rfl) (fun _ _ _ h => h) (by rfl) (fun _ _ => exec_eql_str rfl rfl rfl G2.out) (by go_simp; rfl) HS ?_
          refine HeldBy.take (i := 8) rfl (by kernel_rfl) (by kernel_rfl) (by kernel_rfl) (fun _ _ _ h => h) (by rfl) (fun _ _ => by first | (go_simp; rfl) | (go_simp; done)) (by go_simp; rfl) HS ?_
          refine HeldBy.take (i := 9) rfl (by kernel_rfl) (by kernel_rfl) (by kernel_rfl) (fun _ _ _ h => h) (by rfl) (fun _ _ => by first | (go_simp; rfl) | (go_simp; done)) (by go_simp; rfl) HS ?_
          refine HeldBy.take (i := 10) (v := .int .u64 m) rfl (by kernel_rfl) (by kernel_rfl) (by kernel_rfl) (fun _ _ _ h => h) (by rfl) (fun V hV => by have h := hV.1.c0; first | (go_simp; rfl) | (go_simp; done)) (by go_simp; rfl) HS ?_
          refine HeldBy.take (i := 11) rfl (by kernel_rfl) (by kernel_rfl) (by kernel_rfl) (fun _ _ _ h => h) (by rfl) (fun _ _ => by first | (go_simp; rfl) | (go_simp; done)) (by go_simp; rfl) HS ?_
          refine HeldBy.take (i := 12) (v := .int .u64 n) rfl (by kernel_rfl) (by kernel_rfl) (by kernel_rfl) (fun _ _ _ h => h) (by rfl) (fun V hV => by have h := hV.1.c1; first | (go_simp; rfl) | (go_simp; done)) (by go_simp; rfl) HS ?_
          refine HeldBy.take (i := 13) (v := .bool true) rfl (by kernel_rfl) (by kernel_rfl) (by kernel_rfl) (fun _ _ _ h => h) (by rfl) (fun _ _ => exec_eql_u64 rfl rfl rfl G3.out) (by go_simp; rfl) HS ?_
          refine HeldBy.take (i := 14) rfl (by kernel_rfl) (by kernel_rfl) (by kernel_rfl) (fun _ _ _ h => h) (by rfl) (fun _ _ => by first | (go_simp; rfl) | (go_simp; done)) (by go_simp; rfl) HS ?_
          refine HeldBy.take (i := 15) rfl (by kernel_rfl) (by kernel_rfl) (by kernel_rfl) (fun _ _ _ h => h) (by rfl) (fun _ _ => by first | (go_simp; rfl) | (go_simp; done)) (by go_simp; rfl) HS ?_
          refine HeldBy.take (i := 16) rfl (by kernel_rfl) (by kernel_rfl) (by kernel_rfl) (fun _ _ _ h => h) (by rfl) (fun _ _ => by first | (go_simp; rfl) | (go_simp; done)) (by go_simp; rfl) HS ?_
          refine HeldBy.take (i := 17) rfl (by kernel_rfl) (by kernel_rfl) (by kernel_rfl) (fun _ _ _ h => h) (by rfl) (fun _ _ => by first | (go_simp; rfl) | (go_simp; done)) (by go_simp; rfl) HS ?_
          refine HeldBy.take (i := 18) (v := encO X) rfl (by kernel_rfl) (by kernel_rfl) (by kernel_rfl) (fun _ _ _ h => h) (by rfl) (fun V hV => load_obj hV.2.1 rfl rfl) (by go_simp; rfl) HS ?_
          refine HeldBy.take (i := 20) (v := encO Y) rfl (by kernel_rfl) (by kernel_rfl) (by kernel_rfl) (fun _ _ _ h => h) (by rfl) (fun V hV => load_obj hV.2.2.1 rfl rfl) (by go_simp; rfl) HS ?_
          refine HeldBy.take (i := 23) rfl (by kernel_rfl) (by kernel_rfl) (by kernel_rfl) (fun _ _ _ h => h) (by rfl) (fun _ _ => by first | (go_simp; rfl) | (go_simp; done)) (by go_simp; rfl) HS ?_
          refine HeldBy.take (i := 24) rfl (by kernel_rfl) (by kernel_rfl) (by kernel_rfl) (fun _ _ _ h => h) (by rfl) (fun _ _ => by first | (go_simp; rfl) | (go_simp; done)) (by go_simp; rfl) HS ?_
          refine HeldBy.take (i := 25) (v := .bool true) rfl (by kernel_rfl) (by kernel_rfl) (by kernel_rfl) (fun _ _ _ h => h) (by rfl) (fun _ _ => exec_eql_str rfl rfl rfl G1.out) (by go_simp; rfl) HS ?_
          refine HeldBy.call (i := 19) (v := .string hx) rfl (by kernel_rfl) (by rfl) (by go_simp; exact ⟨rfl, rfl⟩) (by go_simp; rfl) ?_
          refine (HHX.out _ HS.2.2.2.2).mono ?_
          rintro e U2 ⟨rfl, hb⟩
          replace HS : BoxP U2 w.heap.size m n ∧ BoxO U2 p X ∧ BoxO U2 q Y ∧ Below w.heap.size w U2 ∧ Tab U2 := ⟨HS.1.after hb, HS.2.1.after hb, HS.2.2.1.after hb, HS.2.2.2.1.trans (hb.mono HS.2.2.2.1.size), HS.2.2.2.2.after hb⟩
          refine ⟨rfl, HS, ?_⟩
          clear hb
          refine HeldBy.call (i := 21) (v := .string hy) rfl (by kernel_rfl) (by rfl) (by go_simp; exact ⟨rfl, rfl⟩) (by go_simp; rfl) ?_
          refine (HHY.out _ HS.2.2.2.2).mono ?_
          rintro e U3 ⟨rfl, hb⟩
          replace HS : BoxP U3 w.heap.size m n ∧ BoxO U3 p X ∧ BoxO U3 q Y ∧ Below w.heap.size w U3 ∧ Tab U3 := ⟨HS.1.after hb, HS.2.1.after hb, HS.2.2.1.after hb, HS.2.2.2.1.trans (hb.mono HS.2.2.2.1.size), HS.2.2.2.2.after hb⟩
          refine ⟨rfl, HS, ?_⟩
          clear hb
          refine HeldBy.take (i := 22) (v := .bool true) rfl (by kernel_rfl) (by kernel_rfl) (by kernel_rfl) (fun _ _ _ h => h) (by rfl) (fun _ _ => exec_eql_str rfl rfl rfl G4.out) (by go_simp; rfl) HS ?_
          refine HeldBy.take (i := 26) rfl (by kernel_rfl) (by kernel_rfl) (by kernel_rfl) (fun _ _ _ h => h) (by rfl) (fun _ _ => by first | (go_simp; rfl) | (go_simp; done)) (by go_simp; rfl) HS ?_
          refine HeldBy.take (i := 27) rfl (by kernel_rfl) (by kernel_rfl) (by kernel_rfl) (fun _ _ _ h => h) (by rfl) (fun _ _ => by first | (go_simp; rfl) | (go_simp; done)) (by go_simp; rfl) HS ?_
          refine HeldBy.take (i := 28) rfl (by kernel_rfl) (by kernel_rfl) (by kernel_rfl) (fun _ _ _ h => h) (by rfl) (fun _ _ => by first | (go_simp; rfl) | (go_simp; done)) (by go_simp; rfl) HS ?_
          refine wpAnyH_done (by kernel_rfl) ?_ _
          have HX5 := Lib.hid HS.2.2.2.1
          clear HS HHX HHY HV D1 D2 G1 G2 G3 G4
          go_wp2
          go_ret
          exact ⟨rfl, HX5.out⟩
        · have G1 : Hid (decide (r = s) = false) := by show _ = _; rw [D1.out]; exact decide_eq_false fun h => kmn h.2
          have G4 : Hid (decide (hx = hy) = false) := by show _ = _; rw [D2.out]; exact decide_eq_false fun h => kmn h.2
          have G3 : Hid ((m == n) = false) := by show _ = _; simpa using kmn
          clear kab kmn
          refine wp_region_held_drew (S := fun V => BoxP V w.heap.size m n ∧ BoxO V p X ∧ BoxO V q Y ∧ Below w.heap.size w V ∧ Tab V) (by kernel_rfl) ⟨HP.out, HOX.out, HOY.out, HW.out.drew, HTV.out.drew⟩ (fun _ => ?_)
          refine HeldBy.gen (fun V => BoxP V w.heap.size m n ∧ BoxO V p X ∧ BoxO V q Y ∧ Below w.heap.size w V ∧ Tab V) ⟨HP.out, HOX.out, HOY.out, HW.out.drew, HTV.out.drew⟩ ?_
          clear HP HOX HOY HW HTV
          rintro U0 HS
          refine HeldBy.call (i := 0) (v := .bool true) rfl (by kernel_rfl) (by rfl) (by go_simp; exact ⟨rfl, rfl⟩) (by go_simp; rfl) ?_
          refine (HV.out _ HS.2.2.2.2).mono ?_
          rintro e U1 ⟨rfl, hb⟩
          replace HS : BoxP U1 w.heap.size m n ∧ BoxO U1 p X ∧ BoxO U1 q Y ∧ Below w.heap.size w U1 ∧ Tab U1 := ⟨HS.1.after hb, HS.2.1.after hb, HS.2.2.1.after hb, HS.2.2.2.1.trans (hb.mono HS.2.2.2.1.size), HS.2.2.2.2.after hb⟩
          refine ⟨rfl, HS, ?_⟩
          clear hb
          refine HeldBy.take (i := 1) rfl (by kernel_rfl) (by kernel_rfl) (by kernel_rfl) (fun _ _ _ h => h) (by rfl) (fun _ _ => by first | (go_simp; rfl) | (go_simp; done)) (by go_simp; rfl) HS ?_
          refine HeldBy.take (i := 2) rfl (by kernel_rfl) (by kernel_rfl) (by kernel_rfl) (fun _ _ _ h => h) (by rfl) (fun _ _ => by first | (go_simp; rfl) | (go_simp; done)) (by go_simp; rfl) HS ?_
          refine HeldBy.take (i := 3) rfl (by kernel_rfl) (by kernel_rfl) (by kernel_rfl) (fun _ _ _ h => h) (by rfl) (fun _ _ => by first | (go_simp; rfl) | (go_simp; done)) (by go_simp; rfl) HS ?_
          refine HeldBy.take (i := 4) (v := .bool false) rfl (by kernel_rfl) (by kernel_rfl) (by kernel_rfl) (fun _ _ _ h => h) (by rfl) (fun _ _ => exec_eql_str rfl rfl rfl G1.out) (by go_simp; rfl) HS ?_
          refine HeldBy.take (i := 5) rfl (by kernel_rfl) (by kernel_rfl) (by kernel_rfl) (fun _ _ _ h => h) (by rfl) (fun _ _ => by first | (go_simp; rfl) | (go_simp; done)) (by go_simp; rfl) HS ?_
          refine HeldBy.take (i := 6) rfl (by kernel_rfl) (by kernel_rfl) (by kernel_rfl) (fun _ _ _ h => h) (by rfl) (fun _ _ => by first | (go_simp; rfl) | (go_simp; done)) (by go_simp; rfl) HS ?_
          refine HeldBy.take (i := 7) (v := .bool true) rfl (by kernel_rfl) (by kernel_rfl) (by kernel_rfl) (fun _ _ _ h => h) (by rfl) (fun _ _ => exec_eql_str rfl rfl rfl G2.out) (by go_simp; rfl) HS ?_
          refine HeldBy.take (i := 8) rfl (by kernel_rfl) (by kernel_rfl) (by kernel_rfl) (fun _ _ _ h => h) (by rfl) (fun _ _ => by first | (go_simp; rfl) | (go_simp; done)) (by go_simp; rfl) HS ?_
          refine HeldBy.take (i := 9) rfl (by kernel_rfl) (by kernel_rfl) (by kernel_rfl) (fun _ _ _ h => h) (by rfl) (fun _ _ => by first | (go_simp; rfl) | (go_simp; done)) (by go_simp; rfl) HS ?_
          refine HeldBy.take (i := 10) (v := .int .u64 m) rfl (by kernel_rfl) (by kernel_rfl) (by kernel_rfl) (fun _ _ _ h => h) (by rfl) (fun V hV => by have h := hV.1.c0; first | (go_simp; rfl) | (go_simp; done)) (by go_simp; rfl) HS ?_
          refine HeldBy.take (i := 11) rfl (by kernel_rfl) (by kernel_rfl) (by kernel_rfl) (fun _ _ _ h => h) (by rfl) (fun _ _ => by first | (go_simp; rfl) | (go_simp; done)) (by go_simp; rfl) HS ?_
          refine HeldBy.take (i := 12) (v := .int .u64 n) rfl (by kernel_rfl) (by kernel_rfl) (by kernel_rfl) (fun _ _ _ h => h) (by rfl) (fun V hV => by have h := hV.1.c1; first | (go_simp; rfl) | (go_simp; done)) (by go_simp; rfl) HS ?_
          refine HeldBy.take (i := 13) (v := .bool false) rfl (by kernel_rfl) (by kernel_rfl) (by kernel_rfl) (fun _ _ _ h => h) (by rfl) (fun _ _ => exec_eql_u64 rfl rfl rfl G3.out) (by go_simp; rfl) HS ?_
          refine HeldBy.take (i := 14) rfl (by kernel_rfl) (by kernel_rfl) (by kernel_rfl) (fun _ _ _ h => h) (by rfl) (fun _ _ => by first | (go_simp; rfl) | (go_simp; done)) (by go_simp; rfl) HS ?_
          refine HeldBy.take (i := 15) rfl (by kernel_rfl) (by kernel_rfl) (by kernel_rfl) (fun _ _ _ h => h) (by rfl) (fun _ _ => by first | (go_simp; rfl) | (go_simp; done)) (by go_simp; rfl) HS ?_
          refine HeldBy.take (i := 16) rfl (by kernel_rfl) (by kernel_rfl) (by kernel_rfl) (fun _ _ _ h => h) (by rfl) (fun _ _ => by first | (go_simp; rfl) | (go_simp; done)) (by go_simp; rfl) HS ?_
          refine HeldBy.take (i := 17) rfl (by kernel_rfl) (by kernel_rfl) (by kernel_rfl) (fun _ _ _ h => h) (by rfl) (fun _ _ => by first | (go_simp; rfl) | (go_simp; done)) (by go_simp; rfl) HS ?_
          refine HeldBy.take (i := 18) (v := encO X) rfl (by kernel_rfl) (by kernel_rfl) (by kernel_rfl) (fun _ _ _ h => h) (by rfl) (fun V hV => load_obj hV.2.1 rfl rfl) (by go_simp; rfl) HS ?_
          refine HeldBy.take (i := 20) (v := encO Y) rfl (by kernel_rfl) (by kernel_rfl) (by kernel_rfl) (fun _ _ _ h => h) (by rfl) (fun V hV => load_obj hV.2.2.1 rfl rfl) (by go_simp; rfl) HS ?_
          refine HeldBy.take (i := 23) rfl (by kernel_rfl) (by kernel_rfl) (by kernel_rfl) (fun _ _ _ h => h) (by rfl) (fun _ _ => by first | (go_simp; rfl) | (go_simp; done)) (by go_simp; rfl) HS ?_
          refine HeldBy.take (i := 24) rfl (by kernel_rfl) (by kernel_rfl) (by kernel_rfl) (fun _ _ _ h => h) (by rfl) (fun _ _ => by first | (go_simp; rfl) | (go_simp; done)) (by go_simp; rfl) HS ?_
          refine HeldBy.take (i := 25) (v := .bool false) rfl (by kernel_rfl) (by kernel_rfl) (by kernel_rfl) (fun _ _ _ h => h) (by rfl) (fun _ _ => exec_eql_str rfl rfl rfl G1.out) (by go_simp; rfl) HS ?_
          refine HeldBy.call (i := 19) (v := .string hx) rfl (by kernel_rfl) (by rfl) (by go_simp; exact ⟨rfl, rfl⟩) (by go_simp; rfl) ?_
          refine (HHX.out _ HS.2.2.2.2).mono ?_
          rintro e U2 ⟨rfl, hb⟩
          replace HS : BoxP U2 w.heap.size m n ∧ BoxO U2 p X ∧ BoxO U2 q Y ∧ Below w.heap.size w U2 ∧ Tab U2 := ⟨HS.1.after hb, HS.2.1.after hb, HS.2.2.1.after hb, HS.2.2.2.1.trans (hb.mono HS.2.2.2.1.size), HS.2.2.2.2.after hb⟩
          refine ⟨rfl, HS, ?_⟩
          clear hb
          refine HeldBy.call (i := 21) (v := .string hy) rfl (by kernel_rfl) (by rfl) (by go_simp; exact ⟨rfl, rfl⟩) (by go_simp; rfl) ?_
          refine (HHY.out _ HS.2.2.2.2).mono ?_
          rintro e U3 ⟨rfl, hb⟩
          replace HS : BoxP U3 w.heap.size m n ∧ BoxO U3 p X ∧ BoxO U3 q Y ∧ Below w.heap.size w U3 ∧ Tab U3 := ⟨HS.1.after hb, HS.2.1.after hb, HS.2.2.1.after hb, HS.2.2.2.1.trans (hb.mono HS.2.2.2.1.size), HS.2.2.2.2.after hb⟩
          refine ⟨rfl, HS, ?_⟩
          clear hb
          refine HeldBy.take (i := 22) (v := .bool false) rfl (by kernel_rfl) (by kernel_rfl) (by kernel_rfl) (fun _ _ _ h => h) (by rfl) (fun _ _ => exec_eql_str rfl rfl rfl G4.out) (by go_simp; rfl) HS ?_
          refine HeldBy.take (i := 26) rfl (by kernel_rfl) (by kernel_rfl) (by kernel_rfl) (fun _ _ _ h => h) (by rfl) (fun _ _ => by first | (go_simp; rfl) | (go_simp; done)) (by go_simp; rfl) HS ?_
          refine HeldBy.take (i := 27) rfl (by kernel_rfl) (by kernel_rfl) (by kernel_rfl) (fun _ _ _ h => h) (by rfl) (fun _ _ => by first | (go_simp; rfl) | (go_simp; done)) (by go_simp; rfl) HS ?_
          refine HeldBy.take (i := 28) rfl (by kernel_rfl) (by kernel_rfl) (by kernel_rfl) (fun _ _ _ h => h) (by rfl) (fun _ _ => by first | (go_simp; rfl) | (go_simp; done)) (by go_simp; rfl) HS ?_
          refine wpAnyH_done (by kernel_rfl) ?_ _
          have HX5 := Lib.hid HS.2.2.2.1
          clear HS HHX HHY HV D1 D2 G1 G2 G3 G4
          go_wp2
          go_ret
          exact ⟨rfl, HX5.out⟩
      · have G1 : Hid (decide (r = s) = false) := by show _ = _; rw [D1.out]; exact decide_eq_false fun h => kab h.1
        have G4 : Hid (decide (hx = hy) = false) := by show _ = _; rw [D2.out]; exact decide_eq_false fun h => kab h.1
        have G2 : Hid (decide (a = b) = false) := decide_eq_false kab
        have G3 : Hid (True) := trivial
        clear kab
        refine wp_region_held_drew (S := fun V => BoxP V w.heap.size m n ∧ BoxO V p X ∧ BoxO V q Y ∧ Below w.heap.size w V ∧ Tab V) (by kernel_rfl) ⟨HP.out, HOX.out, HOY.out, HW.out.drew, HTV.out.drew⟩ (fun _ => ?_)
        refine HeldBy.gen (fun V => BoxP V w.heap.size m n ∧ BoxO V p X ∧ BoxO V q Y ∧ Below w.heap.size w V ∧ Tab V) ⟨HP.out, HOX.out, HOY.out, HW.out.drew, HTV.out.drew⟩ ?_
        clear HP HOX HOY HW HTV
        rintro U0 HS
        refine HeldBy.call (i := 0) (v := .bool true) rfl (by kernel_rfl) (by rfl) (by go_simp; exact ⟨rfl, rfl⟩) (by go_simp; rfl) ?_
        refine (HV.out _ HS.2.2.2.2).mono ?_
        rintro e U1 ⟨rfl, hb⟩
        replace HS : BoxP U1 w.heap.size m n ∧ BoxO U1 p X ∧ BoxO U1 q Y ∧ Below w.heap.size w U1 ∧ Tab U1 := ⟨HS.1.after hb, HS.2.1.after hb, HS.2.2.1.after hb, HS.2.2.2.1.trans (hb.mono HS.2.2.2.1.size), HS.2.2.2.2.after hb⟩
        refine ⟨rfl, HS, ?_⟩
        clear hb
        refine HeldBy.take (i := 1) rfl (by kernel_rfl) (by kernel_rfl) (by kernel_rfl) (fun _ _ _ h => h) (by rfl) (fun _ _ => by first | (go_simp; rfl) | (go_simp; done)) (by go_simp; rfl) HS ?_
        refine HeldBy.take (i := 2) rfl (by kernel_rfl) (by kernel_rfl) (by kernel_rfl) (fun _ _ _ h => h) (by rfl) (fun _ _ => by first | (go_simp; rfl) | (go_simp; done)) (by go_simp; rfl) HS ?_
        refine HeldBy.take (i := 3) rfl (by kernel_rfl) (by kernel_rfl) (by kernel_rfl) (fun _ _ _ h => h) (by rfl) (fun _ _ => by first | (go_simp; rfl) | (go_simp; done)) (by go_simp; rfl) HS ?_
        refine HeldBy.take (i := 4) (v := .bool false) rfl (by kernel_rfl) (by kernel_rfl) (by kernel_rfl) (fun _ _ _ h => h) (by rfl) (fun _ _ => exec_eql_str rfl rfl rfl G1.out) (by go_simp; rfl) HS ?_
        refine HeldBy.take (i := 5) rfl (by kernel_rfl) (by kernel_rfl) (by kernel_rfl) (fun _ _ _ h => h) (by rfl) (fun _ _ => by first | (go_simp; rfl) | (go_simp; done)) (by go_simp; rfl) HS ?_
        refine HeldBy.take (i := 6) rfl (by kernel_rfl) (by kernel_rfl) (by kernel_rfl) (fun _ _ _ h => h) (by rfl) (fun _ _ => by first | (go_simp; rfl) | (go_simp; done)) (by go_simp; rfl) HS ?_
        refine HeldBy.take (i := 7) (v := .bool false) rfl (by kernel_rfl) (by kernel_rfl) (by kernel_rfl) (fun _ _ _ h => h) (by rfl) (fun _ _ => exec_eql_str rfl rfl rfl G2.out) (by go_simp; rfl) HS ?_
        refine HeldBy.take (i := 8) rfl (by kernel_rfl) (by kernel_rfl) (by kernel_rfl) (fun _ _ _ h => h) (by rfl) (fun _ _ => by first | (go_simp; rfl) | (go_simp; done)) (by go_simp; rfl) HS ?_
        refine HeldBy.skip (i := 9) rfl (by kernel_rfl) (by kernel_rfl) (by kernel_rfl) (fun _ _ _ h => h) (by rfl) (by go_simp; rfl) HS ?_
        refine HeldBy.skip (i := 10) rfl (by kernel_rfl) (by kernel_rfl) (by kernel_rfl) (fun _ _ _ h => h) (by rfl) (by go_simp; rfl) HS ?_
        refine HeldBy.skip (i := 11) rfl (by kernel_rfl) (by kernel_rfl) (by kernel_rfl) (fun _ _ _ h => h) (by rfl) (by go_simp; rfl) HS ?_
        refine HeldBy.skip (i := 12) rfl (by kernel_rfl) (by kernel_rfl) (by kernel_rfl) (fun _ _ _ h => h) (by rfl) (by go_simp; rfl) HS ?_
        refine HeldBy.skip (i := 13) rfl (by kernel_rfl) (by kernel_rfl) (by kernel_rfl) (fun _ _ _ h => h) (by rfl) (by go_simp; rfl) HS ?_
        refine HeldBy.take (i := 14) rfl (by kernel_rfl) (by kernel_rfl) (by kernel_rfl) (fun _ _ _ h => h) (by rfl) (fun _ _ => by first | (go_simp; rfl) | (go_simp; done)) (by go_simp; rfl) HS ?_
        refine HeldBy.take (i := 15) rfl (by kernel_rfl) (by kernel_rfl) (by kernel_rfl) (fun _ _ _ h => h) (by rfl) (fun _ _ => by first | (go_simp; rfl) | (go_simp; done)) (by go_simp; rfl) HS ?_
        refine HeldBy.take (i := 16) rfl (by kernel_rfl) (by kernel_rfl) (by kernel_rfl) (fun _ _ _ h => h) (by rfl) (fun _ _ => by first | (go_simp; rfl) | (go_simp; done)) (by go_simp; rfl) HS ?_
        refine HeldBy.take (i := 17) rfl (by kernel_rfl) (by kernel_rfl) (by kernel_rfl) (fun _ _ _ h => h) (by rfl) (fun _ _ => by first | (go_simp; rfl) | (go_simp; done)) (by go_simp; rfl) HS ?_
        refine HeldBy.take (i := 18) (v := encO X) rfl (by kernel_rfl) (by kernel_rfl) (by kernel_rfl) (fun _ _ _ h => h) (by rfl) (fun V hV => load_obj hV.2.1 rfl rfl) (by go_simp; rfl) HS ?_
        refine HeldBy.take (i := 20) (v := encO Y) rfl (by kernel_rfl) (by kernel_rfl) (by kernel_rfl) (fun _ _ _ h => h) (by rfl) (fun V hV => load_obj hV.2.2.1 rfl rfl) (by go_simp; rfl) HS ?_
        refine HeldBy.take (i := 23) rfl (by kernel_rfl) (by kernel_rfl) (by kernel_rfl) (fun _ _ _ h => h) (by rfl) (fun _ _ => by first | (go_simp; rfl) | (go_simp; done)) (by go_simp; rfl) HS ?_
        refine HeldBy.take (i := 24) rfl (by kernel_rfl) (by kernel_rfl) (by kernel_rfl) (fun _ _ _ h => h) (by rfl) (fun _ _ => by first | (go_simp; rfl) | (go_simp; done)) (by go_simp; rfl) HS ?_
        refine HeldBy.take (i := 25) (v := .bool false) rfl (by kernel_rfl) (by kernel_rfl) (by kernel_rfl) (fun _ _ _ h => h) (by rfl) (fun _ _ => exec_eql_str rfl rfl rfl G1.out) (by go_simp; rfl) HS ?_
        refine HeldBy.call (i := 19) (v := .string hx) rfl (by kernel_rfl) (by rfl) (by go_simp; exact ⟨rfl, rfl⟩) (by go_simp; rfl) ?_
        refine (HHX.out _ HS.2.2.2.2).mono ?_
        rintro e U2 ⟨rfl, hb⟩
        replace HS : BoxP U2 w.heap.size m n ∧ BoxO U2 p X ∧ BoxO U2 q Y ∧ Below w.heap.size w U2 ∧ Tab U2 := ⟨HS.1.after hb, HS.2.1.after hb, HS.2.2.1.after hb, HS.2.2.2.1.trans (hb.mono HS.2.2.2.1.size), HS.2.2.2.2.after hb⟩
        refine ⟨rfl, HS, ?_⟩
        clear hb
        refine HeldBy.call (i := 21) (v := .string hy) rfl (by kernel_rfl) (by rfl) (by go_simp; exact ⟨rfl, rfl⟩) (by go_simp; rfl) ?_
        refine (HHY.out _ HS.2.2.2.2).mono ?_
        rintro e U3 ⟨rfl, hb⟩
        replace HS : BoxP U3 w.heap.size m n ∧ BoxO U3 p X ∧ BoxO U3 q Y ∧ Below w.heap.size w U3 ∧ Tab U3 := ⟨HS.1.after hb, HS.2.1.after hb, HS.2.2.1.after hb, HS.2.2.2.1.trans (hb.mono HS.2.2.2.1.size), HS.2.2.2.2.after hb⟩
        refine ⟨rfl, HS, ?_⟩
        clear hb
        refine HeldBy.take (i := 22) (v := .bool false) rfl (by kernel_rfl) (by kernel_rfl) (by kernel_rfl) (fun _ _ _ h => h) (by rfl) (fun _ _ => exec_eql_str rfl rfl rfl G4.out) (by go_simp; rfl) HS ?_
        refine HeldBy.take (i := 26) rfl (by kernel_rfl) (by kernel_rfl) (by kernel_rfl) (fun _ _ _ h => h) (by rfl) (fun _ _ => by first | (go_simp; rfl) | (go_simp; done)) (by go_simp; rfl) HS ?_
        refine HeldBy.take (i := 27) rfl (by kernel_rfl) (by kernel_rfl) (by kernel_rfl) (fun _ _ _ h => h) (by rfl) (fun _ _ => by first | (go_simp; rfl) | (go_simp; done)) (by go_simp; rfl) HS ?_
        refine HeldBy.take (i := 28) rfl (by kernel_rfl) (by kernel_rfl) (by kernel_rfl) (fun _ _ _ h => h) (by rfl) (fun _ _ => by first | (go_simp; rfl) | (go_simp; done)) (by go_simp; rfl) HS ?_
        refine wpAnyH_done (by kernel_rfl) ?_ _
        have HX5 := Lib.hid HS.2.2.2.1
        clear HS HHX HHY HV D1 D2 G1 G2 G3 G4
        go_wp2
        go_ret
        exact ⟨rfl, HX5.out⟩
end Go.Proofs.YtdlbpfallmpkoaaDoor.O.B
