/- The document: is a text one of some; what is left out of an attachment. -/
import Derived.Test.YtigoghhjncpgfaaARIns
import Derived.Test.YtigoghhjncpgfaaR3Name
namespace Go.Proofs.Ytigoghhjncpgfaa.O.B
open Go Go.RowKit Go.Shelf Go.Lib KM T
attribute [local go_sem] Oper.semAt_some

set_option maxRecDepth 100000 in
set_option maxHeartbeats 2000000 in
theorem has_any (L : List ByteArray) (v : Value) (s : ByteArray) (B : Nat) (w : World) (h : TxtIn w B v L) (hn : L.length < 100000) :
    Calls Try.prog 40 #[v, .string s] w fun e w' => e = .returned (.bool (memB s L)) ∧ Below w.heap.size w w' := by
  have HH := Lib.hid h
  obtain ⟨o, c, rfl, -⟩ := h.cells
  obtain ⟨R, hR⟩ : ∃ R, memB s L = R := ⟨_, rfl⟩
  rw [hR]
  have HRR := Lib.hid hR
  have hn' : L.length ≤ 9223372036854775807 := by omega
  clear h hn hR
  go_enter Try.func40, Try.ntmps40
  go_wp2
  go_loopw [5] (fun iv wr => ∃ i : Nat, iv = .int .i64 (i : Int) ∧ i ≤ L.length ∧ Hid (∀ j (hj : j < L.length), j < i → L[j] ≠ s) ∧ Below w.heap.size w wr) (fun iv _ => L.length - (RowKit.intOf iv).toNat)
  case atStart => exact ⟨0, rfl, Nat.zero_le _, fun j _ h => absurd h (by omega), Below.refl _ _⟩
  case round =>
    obtain ⟨i, rfl, hi, hall, hb⟩ := hrel
    have HB := Lib.hid hb
    by_cases hlt : i < L.length
    · have hlt' : (i : Int) < (L.length : Int) := by omega
      obtain ⟨o', c', he, hx⟩ := (HH.out.after hb).cells
      cases he
      obtain ⟨g, rfl, hg, hc⟩ := hx i hlt
      obtain ⟨x, hxe⟩ : ∃ x, L[i] = x := ⟨_, rfl⟩
      rw [hxe] at hc
      have HX := Lib.hid hxe
      have HL := Lib.hid hlt
      clear hx hxe hb
      by_cases hxs : x = s
      · have hxs' := list_eq hxs
        have hxl : x.toList = s.toList := by rw [hxs]
        have HF : Hid (R = true) := by
          show _ = _
          rw [← HRR.out, mem_iff, ← hxs, ← HX.out]
          exact List.getElem_mem HL.out
        clear hxs
        go_wp2
        go_ret
        exact ⟨by rw [HF.out]; rfl, HB.out⟩
      · have hxs' := list_ne hxs
        have hxl : ¬ x.toList = s.toList := by simpa using hxs'
        have HA : Hid (∀ j (hj : j < L.length), j < i + 1 → L[j] ≠ s) := fun j hj hji => by
          by_cases e : j = i
          · subst e
            rw [HX.out]
            exact hxs
          · exact hall.out j hj (by omega)
        clear hxs hall
        go_wp2
        go_roundw
        case rel => exact ⟨i + 1, by go_num, by omega, HA, HB.out⟩
        case measure => simp [RowKit.intOf]; omega
    · have hlt' : ¬ (i : Int) < (L.length : Int) := by omega
      have HF : Hid (R = false) := by
        show _ = _
        rw [← HRR.out, ← Bool.not_eq_true, mem_iff]
        intro hm
        obtain ⟨j, hj, e⟩ := List.getElem_of_mem hm
        exact hall.out j hj (by omega) e
      clear hb hall
      go_wp2
      go_ret
      exact ⟨by rw [HF.out]; rfl, HB.out⟩
theorem built_callN (verb num : Int) (name node : ByteArray) : Try.prog.built 40 [(0, .int .u8 verb), (1, .string name), (5, .string node), (2, .int .u64 num)] = some (cellsC ⟨verb, name, num, 0, E0, node, E0⟩) := by kernel_rfl

set_option maxRecDepth 100000 in
set_option maxHeartbeats 4000000 in
theorem rdefault_5 (o : Obj) (w : World) (hk : o.kind = 5) (hnm : o.name = E0) (hz : o.volume.size ≤ 140737488351232 ∧ o.node.size ≤ 140737488351232) :
    Calls Try.prog 42 #[encO o] w fun e w' => e = .returned (encO (defO o)) ∧ Below w.heap.size w w' := by
  have hE : Hid (defO o = { o with name := attachN o.volume o.node }) := by
    show _ = _
    unfold defO
    rw [if_neg (by omega), if_neg (by omega), if_neg (by omega), if_pos hk, hnm]
    rfl
  have HZ := Lib.hid hz
  have e3 : (o.kind == 3) = false := by rw [hk]; rfl
  have e4 : (o.kind == 4) = false := by rw [hk]; rfl
  have e7 : (o.kind == 7) = false := by rw [hk]; rfl
  have e5 : (o.kind == 5) = true := by rw [hk]; rfl
  have e2 : o.name.toList = [] := by rw [hnm, Lib.toList_data]; rfl
  have e1 : (o.name.toList == []) = true := by rw [e2]; rfl
  have e6 : o.name.toList.isEmpty = true := by rw [e2]; rfl
  clear hk hnm hz
  unfold encO
  go_enter Try.func42, Try.ntmps42
  go_upto_region 1 with (fail)
  refine wp_gen (fun W => BoxO W w.heap.size o ∧ BoxO W (w.heap.size + 1) O0 ∧ Below w.heap.size w W) ⟨(BoxO.new w o).alloc _, heap_alloc2_new w _ _, ((Below.refl _ _).alloc (Nat.le_refl _) _).alloc (by simp) _⟩ ?_
  rintro W1 ⟨hb, hr, hlow⟩
  have c0 := hb.c0
  have c1 := hb.c1
  have c15 := hb.c15
  have c13 := hb.c13
  have f1 := hb.free 1
  have HB := Lib.hid hb
  have HR := Lib.hid hr
  have HW := Lib.hid hlow
  clear hb hr hlow
  go_wp2_with (fail)
  refine (refAttachName_any o.volume o.node _ HZ.out.1 HZ.out.2).mono ?_
  rintro e W2 ⟨rfl, rfl⟩
  go_upto_region 23 with (fail)
  refine wp_gen (fun W => BoxO W w.heap.size ({ o with name := attachN o.volume o.node }) ∧ BoxO W (w.heap.size + 1) O0 ∧ Below w.heap.size w W) ⟨HB.out.s1 _, HR.out.other (by simp) _, HW.out.setCell (by simp) _⟩ ?_
  clear HB HR HW c0 c1 c15 c13 f1
  rintro W4 ⟨hb, hr, hlow⟩
  have hb' := hE.out ▸ hb
  go_wp2_with (first | ((with_reducible refine wpList_load_row rfl 37 _ rfl w.heap.size ?_ 37 (cellsO (defO o)) (0, 0) _ ?_ undObj ?_ ?_ ?_); rfl; exact hb'; rfl; exact sizeObj) | ((with_reducible refine wpList_store_rowTo rfl 37 _ _ rfl rfl (w.heap.size + 1) (cellsO (defO o)) ?_ ?_ 37 (cellsO O0) ?_ ?_ ?_ ?_ ?_); rfl; rfl; exact hr; exact sizeObj; exact sz_cells _ _; exact one_cells _))
  refine bodyPost_ret (v := encO (defO o)) (results_cell_row rfl _ _ (w.heap.size + 1) 37 (cellsO (defO o)) (0, 0) _ rfl (hr.setRow _) undObj rfl sizeObj) rfl ?_
  exact ⟨rfl, below_setRow hlow (by omega) _⟩
end Go.Proofs.Ytigoghhjncpgfaa.O.B
