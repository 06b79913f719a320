/- Unlike snapshots have unlike names at the driver. -/
import Derived.Test.YtijgieefmnmakaaDoorDLive
import Derived.Test.YtijgieefmnmakaaDoorKMath
namespace Go.Proofs.YtijgieefmnmakaaDoor.O.B
open Go Go.RowKit Go.Shelf Go.Lib RangeMap KM
attribute [local go_sem] Oper.semAt_some

def sO (a : ByteArray) (m : Int) : Obj := { O0 with kind := 7, name := a, born := m }
theorem built_sO (a : ByteArray) (m : Int) : Tryd.prog.built 31 [(0, .int .u8 7), (1, .string a), (3, .int .u64 m)] = some (cellsO (sO a m)) := by kernel_rfl
theorem long_of (a : ByteArray) (m : Int) (hm : 0 ≤ m ∧ m ≤ 18446744073709551615) (h : handleD (sO a m) = E0) : 40 < a.size + 26 := by
  have h1 := snap_size (sO a m)
  have h2 := born_size (sO a m)
  have h3 := digs_size hm.1 hm.2
  unfold handleD at h
  split at h
  · rename_i hl
    have e1 : (sO a m).name = a := rfl
    have e2 : (sO a m).born = m := rfl
    rw [e1, e2] at h2
    omega
  · have h4 : (snapN (sO a m)).size = 0 := by rw [h]; rfl
    omega
theorem short_of {o : Obj} (h : handleD o ≠ E0) : handleD o = snapP ++ bornN o := by
  unfold handleD at *
  split
  · rename_i hl
    exact absurd (if_pos hl) h
  · rfl
theorem same_iff (a b : ByteArray) (m n : Int) (hm : 0 ≤ m) (hn : 0 ≤ n) (h1 : handleD (sO a m) ≠ E0) (h2 : handleD (sO b n) ≠ E0) : handleD (sO a m) = handleD (sO b n) ↔ a = b ∧ m = n := by
  rw [short_of h1, short_of h2, ← born_iff a b m n hm hn]
  constructor
  · intro h
    have h3 := congrArg (fun s : ByteArray => s.data.toList) h
    simp only [ByteArray.data_append, Array.toList_append, List.append_cancel_left_eq] at h3
    exact ba_ext h3
  · intro h
    show snapP ++ (a ++ ⟨#[35]⟩ ++ digs m) = snapP ++ (b ++ ⟨#[35]⟩ ++ digs n)
    rw [h]
theorem begins_of (o : Obj) (h : handleD o ≠ E0) : 5 ≤ (handleD o).size ∧ (handleD o).extract 0 5 = snapP := by
  rw [short_of h]
  refine ⟨?_, ?_⟩
  · rw [ByteArray.size_append]
    show 5 ≤ 5 + _
    omega
  · refine ba_ext ?_
    rw [Lib.extract_data]
    simp only [ByteArray.data_append, Array.toList_append]
    rfl

set_option maxRecDepth 100000 in
set_option maxHeartbeats 4000000 in
theorem handles_any (a b : ByteArray) (m n : Int) (w : World) (ht : Tab w) (hm : 0 ≤ m ∧ m ≤ 18446744073709551615) (hn : 0 ≤ n ∧ n ≤ 18446744073709551615) (ha : a.size ≤ 140737488351232) (hb : b.size ≤ 140737488351232) :
    Calls Tryd.prog 10 #[.string a, .string b, .agg #[.int .u64 m, .int .u64 n]] w fun e w' => e = .returned (.bool true) ∧ Below w.heap.size w w' := by
  have HT := Lib.hid ht
  have HX : Hid (∀ V, Tab V → Calls Tryd.prog 16 #[encO (sO a m)] V fun e w' => e = .returned (.string (handleD (sO a m))) ∧ Below V.heap.size V w') := fun V hV => handleD_any (sO a m) V hV hm ha
  have HY : Hid (∀ V, Tab V → Calls Tryd.prog 16 #[encO (sO b n)] V fun e w' => e = .returned (.string (handleD (sO b n))) ∧ Below V.heap.size V w') := fun V hV => handleD_any (sO b n) V hV hn hb
  have HBX := Lib.hid (built_sO a m)
  have HBY := Lib.hid (built_sO b n)
  have px := handleD_size (sO a m)
  have py := handleD_size (sO b n)
  have HL1 := Lib.hid (long_of a m hm)
  have HL2 := Lib.hid (same_iff a b m n hm.1 hn.1)
  have HL3 := Lib.hid (begins_of (sO a m))
  clear ht hm hn hb
  generalize handleD (sO a m) = p at *
  generalize handleD (sO b n) = q at *
  generalize sO a m = X at *
  generalize sO b n = Y at *
  unfold encO at HX HY
  go_enter Tryd.func10, Tryd.ntmps10
  go_upto_region 1 with (fail)
  refine wp_gen (fun V => V.heap[w.heap.size]? = some (.cells #[.int .u64 m, .int .u64 n] 56 (0, 0)) ∧ Below w.heap.size w V) ⟨heap_alloc_new _ _, (Below.refl _ _).alloc (Nat.le_refl _) _⟩ ?_
  rintro V ⟨hp, hlw⟩
  have c0 : V.cell? ⟨w.heap.size, 0, none⟩ = some (.int .u64 m) := (cell_of_row V _ 0 _ _ _ hp).trans rfl
  have HP := Lib.hid hp
  have HW := Lib.hid hlw
  have HC := Lib.hid (HX.out V (HT.out.after hlw))
  clear hp hlw HX
  go_wp2_with ((with_reducible refine wpList_build_to rfl 31 _ rfl (cellsO X) ?_ ?_); exact HBX.out)
  refine HC.out.mono ?_
  rintro e W1 ⟨rfl, hb1⟩
  have hlw := HW.out.trans (hb1.mono HW.out.size)
  have hp : W1.heap[w.heap.size]? = _ := (hb1.block _ (Array.getElem?_eq_some_iff.1 HP.out).1).trans HP.out
  replace HP := Lib.hid hp
  replace HW := Lib.hid hlw
  have HC2 := Lib.hid (HY.out W1 (HT.out.after hlw))
  clear c0 HC HY hb1
  have c1 : W1.cell? ⟨w.heap.size, 1, none⟩ = some (.int .u64 n) := (cell_of_row W1 _ 1 _ _ _ hp).trans rfl
  clear hp hlw HBX
  go_wp2_with ((with_reducible refine wpList_build_to rfl 31 _ rfl (cellsO Y) ?_ ?_); exact HBY.out)
  refine HC2.out.mono ?_
  rintro e W2 ⟨rfl, hb2⟩
  have hlw := HW.out.trans (hb2.mono HW.out.size)
  have hp : W2.heap[w.heap.size]? = _ := (hb2.block _ (Array.getElem?_eq_some_iff.1 HP.out).1).trans HP.out
  replace HP := Lib.hid hp
  replace HW := Lib.hid hlw
  have HV := Lib.hid (live_any W2 (HT.out.after hlw))
  clear c1 HC2 hb2 hp hlw HBY HT
  have px' : (p.size : Int) ≤ 40 := by omega
  have py' : (q.size : Int) ≤ 40 := by omega
  by_cases hx : p = E0
  · have h26 := HL1.out hx
    have hn1 : p.toList = [] := (emp_iff _).2 hx
    have hn2 : (p.toList == []) = true := by simp [hn1]
    have hn3 : p.toList.isEmpty = true := by simp [hn1]
    have h26' : (40 : Int) < (a.size : Int) + 26 := by omega
    clear hx HL1 HL2 HL3 h26
    by_cases h7 : (40 : Int) < (a.size : Int) + 7
    · go_wp2_with (fail)
      refine HV.out.mono ?_
      rintro e W3 ⟨rfl, hb3⟩
      have HW3 := Lib.hid (HW.out.trans (hb3.mono HW.out.size))
      clear HV hb3 HW HP
      go_wp2
      go_ret
      exact ⟨rfl, HW3.out⟩
    · go_wp2_with (fail)
      refine HV.out.mono ?_
      rintro e W3 ⟨rfl, hb3⟩
      have HW3 := Lib.hid (HW.out.trans (hb3.mono HW.out.size))
      clear HV hb3 HW HP
      go_wp2
      go_ret
      exact ⟨rfl, HW3.out⟩
  · have hn1 : p.toList ≠ [] := fun e => hx ((emp_iff _).1 e)
    have hn2 : (p.toList == []) = false := by simpa using hn1
    have hn3 : p.toList.isEmpty = false := by simpa using hn1
    by_cases hy : q = E0
    · have hm1 : q.toList = [] := (emp_iff _).2 hy
      have hm2 : (q.toList == []) = true := by simp [hm1]
      have hm3 : q.toList.isEmpty = true := by simp [hm1]
      clear hx hy HL1 HL2 HL3
      go_wp2_with (fail)
      refine HV.out.mono ?_
      rintro e W3 ⟨rfl, hb3⟩
      have HW3 := Lib.hid (HW.out.trans (hb3.mono HW.out.size))
      clear HV hb3 HW HP
      go_wp2
      go_ret
      exact ⟨rfl, HW3.out⟩
    · have hm1 : q.toList ≠ [] := fun e => hy ((emp_iff _).1 e)
      have hm2 : (q.toList == []) = false := by simpa using hm1
      have hm3 : q.toList.isEmpty = false := by simpa using hm1
      have hsame := HL2.out hx hy
      obtain ⟨h5, hex⟩ := HL3.out hx
      have hex2 : ((p.extract 0 5).toList == [115, 110, 97, 112, 47]) = true := by rw [hex, Lib.toList_data]; rfl
      have h5' : (5 : Int) ≤ (p.size : Int) := by omega
      have hpq : (p.toList == q.toList) = decide (a = b ∧ m = n) := by rw [eqB]; exact decide_eq_decide.2 hsame
      have hab : (a.toList == b.toList) = decide (a = b) := eqB
      have hmn : (m == n) = decide (m = n) := rfl
      have HEX := Lib.hid hex2
      clear hx hy HL1 HL2 HL3 hsame hex
      by_cases kab : a = b
      · by_cases kmn : m = n
        · have g1 : (p.toList == q.toList) = true := by rw [hpq]; exact decide_eq_true ⟨kab, kmn⟩
          have g2 : (a.toList == b.toList) = true := by rw [hab]; exact decide_eq_true kab
          have g3 : (m == n) = true := by rw [hmn]; exact decide_eq_true kmn
          clear hpq hab hmn kab kmn hex2
          go_wp2_with (fail)
          refine HV.out.mono ?_
          rintro e W3 ⟨rfl, hb3⟩
          have HW3 := Lib.hid (HW.out.trans (hb3.mono HW.out.size))
          have hp : W3.heap[w.heap.size]? = _ := (hb3.block _ (Array.getElem?_eq_some_iff.1 HP.out).1).trans HP.out
          have c0 : W3.cell? ⟨w.heap.size, 0, none⟩ = some (.int .u64 m) := (cell_of_row W3 _ 0 _ _ _ hp).trans rfl
          have c1 : W3.cell? ⟨w.heap.size, 1, none⟩ = some (.int .u64 n) := (cell_of_row W3 _ 1 _ _ _ hp).trans rfl
          clear HV hb3 HW HP hp
          go_wp2
          go_ret
          exact ⟨by rw [HEX.out]; rfl, HW3.out⟩
        · have g1 : (p.toList == q.toList) = false := by rw [hpq]; exact decide_eq_false fun h => kmn h.2
          have g2 : (a.toList == b.toList) = true := by rw [hab]; exact decide_eq_true kab
          have g3 : (m == n) = false := by rw [hmn]; exact decide_eq_false kmn
          clear hpq hab hmn kab kmn hex2
          go_wp2_with (fail)
          refine HV.out.mono ?_
          rintro e W3 ⟨rfl, hb3⟩
          have HW3 := Lib.hid (HW.out.trans (hb3.mono HW.out.size))
          have hp : W3.heap[w.heap.size]? = _ := (hb3.block _ (Array.getElem?_eq_some_iff.1 HP.out).1).trans HP.out
          have c0 : W3.cell? ⟨w.heap.size, 0, none⟩ = some (.int .u64 m) := (cell_of_row W3 _ 0 _ _ _ hp).trans rfl
          have c1 : W3.cell? ⟨w.heap.size, 1, none⟩ = some (.int .u64 n) := (cell_of_row W3 _ 1 _ _ _ hp).trans rfl
          clear HV hb3 HW HP hp
          go_wp2
          go_ret
          exact ⟨by rw [HEX.out]; rfl, HW3.out⟩
      · have g1 : (p.toList == q.toList) = false := by rw [hpq]; exact decide_eq_false fun h => kab h.1
        have g2 : (a.toList == b.toList) = false := by rw [hab]; exact decide_eq_false kab
        clear hpq hab hmn kab hex2
        go_wp2_with (fail)
        refine HV.out.mono ?_
        rintro e W3 ⟨rfl, hb3⟩
        have HW3 := Lib.hid (HW.out.trans (hb3.mono HW.out.size))
        have hp : W3.heap[w.heap.size]? = _ := (hb3.block _ (Array.getElem?_eq_some_iff.1 HP.out).1).trans HP.out
        have c0 : W3.cell? ⟨w.heap.size, 0, none⟩ = some (.int .u64 m) := (cell_of_row W3 _ 0 _ _ _ hp).trans rfl
        have c1 : W3.cell? ⟨w.heap.size, 1, none⟩ = some (.int .u64 n) := (cell_of_row W3 _ 1 _ _ _ hp).trans rfl
        clear HV hb3 HW HP hp
        go_wp2
        go_ret
        exact ⟨by rw [HEX.out]; rfl, HW3.out⟩
end Go.Proofs.YtijgieefmnmakaaDoor.O.B
