/- The law TopMarks: its walk. -/
import Derived.Test.YtacbfpgknfcimaaCCalls
import Derived.Test.YtacbfpgknfcimaaOUser
namespace Go.Proofs.Ytacbfpgknfcimaa.C
open Go.RowKit T O
open Go.Lib hiding intOf

/-- An object that is marked, or is not any more. -/
def markO (o : O.Obj) : O.Obj := { o with deleting := !o.deleting }
theorem bare_mark (o : O.Obj) : bareO (markO o) = markO (bareO o) := by
  unfold bareO markO
  dsimp only
  by_cases h1 : o.kind = 1
  · simp [h1]
  by_cases h2 : o.kind = 2
  · simp [h2]
  by_cases h3 : o.kind = 3
  · simp [h3]
  by_cases h4 : o.kind = 4
  · simp [h4]
  by_cases h5 : o.kind = 5
  · simp [h5]
  by_cases h6 : o.kind = 6
  · simp [h6]
  by_cases h7 : o.kind = 7
  · simp [h7]
  simp [h1, h2, h3, h4, h5, h6, h7]
theorem mark_mark (o : O.Obj) : markO (markO o) = o := by simp [markO]
theorem right_mark (o : O.Obj) : rightB (markO o) = rightB o := by
  have h : decide (markO o = bareO (markO o)) = decide (o = bareO o) := by
    rw [bare_mark, Bool.eq_iff_iff]
    simp only [decide_eq_true_eq]
    exact ⟨fun h => by have := congrArg markO h; rwa [mark_mark, mark_mark] at this, fun h => congrArg markO h⟩
  unfold rightB
  rw [h]
  rfl
theorem fits_mark {o : O.Obj} (h : Fits o) : Fits (markO o) := ⟨h.name, h.cls, h.zone, h.node, h.claim, h.volume, h.source, h.version, h.born, h.num, h.tag⟩
theorem mark_ne (o : O.Obj) : markO o ≠ o := fun h => by
  have := congrArg O.Obj.deleting h
  simp [markO] at this
theorem mark_len (o : O.Obj) : (objB (markO o)).length = (objB o).length := by
  unfold objB flagsB
  simp only [List.length_append, List.length_singleton]
  rfl
theorem user_mark {o : O.Obj} (h : userB o = true) : userB (markO o) = false := by
  have hd : o.deleting = false := by
    unfold userB untouchedB at h
    simp only [Bool.and_eq_true] at h
    simpa using h.2.1.2.2.2.2
  unfold userB untouchedB
  have : (markO o).deleting = true := by simp [markO, hd]
  rw [this]
  simp
theorem user_right {o : O.Obj} (h : rightB o = false) : userB o = false := by unfold userB; rw [h]; rfl

set_option maxRecDepth 100000 in
set_option maxHeartbeats 8000000 in
theorem topMarks_any (o : O.Obj) (hf : Fits o) (w : World) :
    Calls Try.prog 11 #[encO o] w fun e w' => e = .returned (.bool true) ∧ Below w.heap.size w w' := by
  have hfm := fits_mark hf
  cases hr : rightB o with
  | false =>
    have HR := Lib.hid hr
    have HM := Lib.hid ((right_mark o).trans hr)
    have HU := Lib.hid (user_right hr)
    clear hr
    unfold encO
    go_enter Try.func11, Try.ntmps11
    go_upto_region 1 with (fail)
    refine wp_gen (fun W => BoxO W w.heap.size o ∧ Below w.heap.size w W) ⟨BoxO.new w o, (Below.refl _ _).alloc (Nat.le_refl _) _⟩ ?_
    rintro W1 ⟨hb, hlow⟩
    have hlt := hb.lt
    go_wp2_with ((with_reducible refine wpList_load_obj ?_ rfl ?_ hb ?_); rfl; rfl)
    refine (object_bad hf HR.out _).mono ?_
    rintro e W2 ⟨hb1, va, rfl, hva⟩
    have hz : w.heap.size < W2.heap.size := Nat.lt_of_lt_of_le hlt hb1.size
    have hva := hva.bytes
    replace hb := hb.after hb1
    replace hlow := hlow.trans (hb1.mono hlow.size)
    clear hb1 hlt
    have hn := BoxO.new W2 O0
    go_upto_region 3 with (first | ((with_reducible refine wpList_load_obj ?_ rfl ?_ hb ?_); rfl; rfl) | ((with_reducible refine wpList_store_rowTo rfl 27 _ _ rfl rfl W2.heap.size (cellsO o) ?_ ?_ 27 (cellsO O0) ?_ ?_ ?_ ?_ ?_); rfl; rfl; exact hn; exact sizeObj; exact sz_cells _ _; exact one_cells _))
    refine wp_gen (fun W => BoxO W W2.heap.size o ∧ BoxO W w.heap.size o ∧ BytesIn W va [] ∧ Below w.heap.size w W) ⟨hn.setRow _, (hb.alloc _).row (by omega) _, (hva.alloc (.cells (cellsO O0) 27 (0, 0))).below (below_setRow (Below.refl _ _) (Nat.le_refl _) _) (fun k hk => hva.lt hk), below_setRow (hlow.alloc (Nat.le_of_lt hz) _) (Nat.le_of_lt hz) _⟩ ?_
    have HV : ∀ k, va.ownBlock = some k → k < W2.heap.size := fun k hk => hva.lt hk
    clear hn hb hlow hva
    rintro W3 ⟨hn, hb, hva, hlow⟩
    have c4 := hb.c4
    have n4 := hn.c4
    have f4 := hn.free 4
    go_upto_region 4 with (fail)
    refine wp_gen (fun W => BoxO W W2.heap.size (markO o) ∧ BoxO W w.heap.size o ∧ BytesIn W va [] ∧ Below w.heap.size w W) ⟨hn.s4 _, hb.other (by simp; omega) _, hva.below ((Below.refl _ _).setCell (p := ⟨W2.heap.size, 4, none⟩) (Nat.le_refl _) _) HV, hlow.setCell (by simp; omega) _⟩ ?_
    clear hn hb hlow c4 n4 f4 hva
    rintro W4 ⟨hn, hb, hva, hlow⟩
    go_wp2_with ((with_reducible refine wpList_load_obj ?_ rfl ?_ hn ?_); rfl; rfl)
    refine (object_bad hfm HM.out _).mono ?_
    rintro e W5 ⟨hb1, vb, rfl, -⟩
    replace hb := hb.after hb1
    replace hlow := hlow.trans (hb1.mono hlow.size)
    clear hb1 hn hva hz
    go_wp2_with ((with_reducible refine wpList_load_obj ?_ rfl ?_ hb ?_); rfl; rfl)
    refine (user_any o _).mono ?_
    rintro e W6 ⟨rfl, hb1⟩
    rw [HU.out]
    replace hlow := hlow.trans (hb1.mono hlow.size)
    clear hb1 hb
    go_wp2
    go_ret
    exact ⟨rfl, hlow⟩
  | true =>
    have HR := Lib.hid hr
    have HM := Lib.hid ((right_mark o).trans hr)
    have HN : Hid ((⟨(objB o).toArray⟩ : ByteArray).toList = (⟨(objB (markO o)).toArray⟩ : ByteArray).toList → False) := by
      show _ → False
      intro h
      rw [Lib.toList_data, Lib.toList_data] at h
      exact mark_ne o (lawObj.inj (wf_fits hfm ((right_mark o).trans hr)) (wf_fits hf hr) h.symm)
    have HL := Lib.hid (mark_len o)
    clear hr
    unfold encO
    go_enter Try.func11, Try.ntmps11
    go_upto_region 1 with (fail)
    refine wp_gen (fun W => BoxO W w.heap.size o ∧ Below w.heap.size w W) ⟨BoxO.new w o, (Below.refl _ _).alloc (Nat.le_refl _) _⟩ ?_
    rintro W1 ⟨hb, hlow⟩
    have hlt := hb.lt
    go_wp2_with ((with_reducible refine wpList_load_obj ?_ rfl ?_ hb ?_); rfl; rfl)
    refine (object_ok hf HR.out _).mono ?_
    rintro e W2 ⟨hb1, va, rfl, hva⟩
    have hz : w.heap.size < W2.heap.size := Nat.lt_of_lt_of_le hlt hb1.size
    have hva := hva.bytes
    replace hb := hb.after hb1
    replace hlow := hlow.trans (hb1.mono hlow.size)
    clear hb1 hlt
    have hn := BoxO.new W2 O0
    go_upto_region 3 with (first | ((with_reducible refine wpList_load_obj ?_ rfl ?_ hb ?_); rfl; rfl) | ((with_reducible refine wpList_store_rowTo rfl 27 _ _ rfl rfl W2.heap.size (cellsO o) ?_ ?_ 27 (cellsO O0) ?_ ?_ ?_ ?_ ?_); rfl; rfl; exact hn; exact sizeObj; exact sz_cells _ _; exact one_cells _))
    refine wp_gen (fun W => BoxO W W2.heap.size o ∧ BoxO W w.heap.size o ∧ BytesIn W va (objB o) ∧ Below w.heap.size w W) ⟨hn.setRow _, (hb.alloc _).row (by omega) _, (hva.alloc (.cells (cellsO O0) 27 (0, 0))).below (below_setRow (Below.refl _ _) (Nat.le_refl _) _) (fun k hk => hva.lt hk), below_setRow (hlow.alloc (Nat.le_of_lt hz) _) (Nat.le_of_lt hz) _⟩ ?_
    have HV : ∀ k, va.ownBlock = some k → k < W2.heap.size := fun k hk => hva.lt hk
    clear hn hb hlow hva
    rintro W3 ⟨hn, hb, hva, hlow⟩
    have c4 := hb.c4
    have n4 := hn.c4
    have f4 := hn.free 4
    go_upto_region 4 with (fail)
    refine wp_gen (fun W => BoxO W W2.heap.size (markO o) ∧ BoxO W w.heap.size o ∧ BytesIn W va (objB o) ∧ Below w.heap.size w W) ⟨hn.s4 _, hb.other (by simp; omega) _, hva.below ((Below.refl _ _).setCell (p := ⟨W2.heap.size, 4, none⟩) (Nat.le_refl _) _) HV, hlow.setCell (by simp; omega) _⟩ ?_
    clear hn hb hlow c4 n4 f4 hva
    rintro W4 ⟨hn, hb, hva, hlow⟩
    go_wp2_with ((with_reducible refine wpList_load_obj ?_ rfl ?_ hn ?_); rfl; rfl)
    refine (object_ok hfm HM.out _).mono ?_
    rintro e W5 ⟨hb1, vb, rfl, hvb⟩
    have hvb := hvb.bytes
    replace hb := hb.after hb1
    replace hn := hn.after hb1
    replace hva := hva.after hb1
    replace hlow := hlow.trans (hb1.mono hlow.size)
    clear hb1 hz
    have l1 := hva.len
    have l2 := hvb.len
    rw [HL.out] at l2
    have s1 := hva.str 9 Try.underlying9
    have s2 := hvb.str 9 Try.underlying9
    have hne : ((⟨(objB o).toArray⟩ : ByteArray).toList != (⟨(objB (markO o)).toArray⟩ : ByteArray).toList) = true := by
      rw [bne_iff_ne]
      exact fun h => HN.out h
    have heq : ((⟨(objB o).toArray⟩ : ByteArray).toList == (⟨(objB (markO o)).toArray⟩ : ByteArray).toList) = false := by
      rw [beq_eq_false_iff_ne]
      exact fun h => HN.out h
    generalize (⟨(objB o).toArray⟩ : ByteArray) = S1 at *
    generalize (⟨(objB (markO o)).toArray⟩ : ByteArray) = S2 at *
    generalize (objB o).length = L at *
    clear hva hvb
    go_wp2_with ((with_reducible refine wpList_load_obj ?_ rfl ?_ hb ?_); rfl; rfl)
    refine (user_any o _).mono ?_
    rintro e W6 ⟨rfl, hb1⟩
    replace hn := hn.after hb1
    replace hlow := hlow.trans (hb1.mono hlow.size)
    clear hb1 hb l1 l2 s1 s2 hne heq
    cases hu : userB o with
    | false =>
      clear hu hn
      go_wp2
      go_ret
      exact ⟨rfl, hlow⟩
    | true =>
      have HU := Lib.hid (user_mark hu)
      clear hu
      go_wp2_with ((with_reducible refine wpList_load_obj ?_ rfl ?_ hn ?_); rfl; rfl)
      refine (user_any (markO o) _).mono ?_
      rintro e W7 ⟨rfl, hb1⟩
      rw [HU.out]
      replace hlow := hlow.trans (hb1.mono hlow.size)
      clear hb1 hn
      go_wp2
      go_ret
      exact ⟨rfl, hlow⟩
end Go.Proofs.Ytacbfpgknfcimaa.C
