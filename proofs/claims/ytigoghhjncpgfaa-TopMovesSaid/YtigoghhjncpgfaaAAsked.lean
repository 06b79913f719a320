/- The first attachment that a call can be for. -/
import Derived.Test.YtigoghhjncpgfaaAVl
import Derived.Test.YtigoghhjncpgfaaARep
namespace Go.Proofs.Ytigoghhjncpgfaa.O.B
open Go Go.RowKit Go.Shelf Go.Lib KM
attribute [local go_sem] Oper.semAt_some

/-- Can the call be for it? -/
def forC (c : Cl) (a : Obj) : Bool := decide (a.node = c.node) && decide (a.num = c.num)
/-- The first attachment that a call can be for. -/
def askedN (A : List Obj) (c : Cl) : Obj := (A.find? (forC c)).getD O0
theorem str_ne {x s : ByteArray} (h : x ≠ s) : (x.toList == s.toList) = false := by
  rw [beq_eq_false_iff_ne]
  intro e
  rw [Lib.toList_data, Lib.toList_data] at e
  exact h (ba_ext e)
theorem str_eq {x s : ByteArray} (h : x = s) : (x.toList == s.toList) = true := by rw [h]; exact beq_self_eq_true _
theorem BoxC.after {W W' : World} {b : Nat} {c : Cl} (h : BoxC W b c) (hb : Below W.heap.size W W') : BoxC W' b c := (hb.block b (Array.getElem?_eq_some_iff.1 h).1).trans h
theorem BoxC.rest {W : World} {b : Nat} {c : Cl} (h : BoxC W b c) : W.cell? ⟨b, 2, none⟩ = some (.int .u64 c.num) ∧ W.cell? ⟨b, 5, none⟩ = some (.string c.node) :=
  ⟨(cell_of_row W b 2 _ _ _ h).trans rfl, (cell_of_row W b 5 _ _ _ h).trans rfl⟩
theorem built_obj0 : Try.prog.built 37 [] = some (cellsO O0) := by kernel_rfl

set_option maxRecDepth 100000 in
set_option maxHeartbeats 4000000 in
theorem asked_any (A : List Obj) (v : Value) (c : Cl) (w : World) (hl : ObjsIn w v A) :
    Calls Try.prog 45 #[v, encC c] w fun e w' => e = .returned (encO (askedN A c)) ∧ Below w.heap.size w w' := by
  obtain ⟨o, cp, rfl, hm, -⟩ := id hl
  have HL := Lib.hid hl
  obtain ⟨R, hR⟩ : ∃ R, askedN A c = R := ⟨_, rfl⟩
  rw [hR]
  have HRR := Lib.hid hR
  clear hl hR
  unfold encC
  go_enter Try.func45, Try.ntmps45
  go_upto_region 1 with (fail)
  refine wp_gen (fun V => BoxC V w.heap.size c ∧ BoxO V (w.heap.size + 1) O0 ∧ Below w.heap.size w V) (chain2 w _ _) ?_
  rintro X ⟨h1, h2, hlw⟩
  have HC := Lib.hid h1
  have HO := Lib.hid h2
  have HW := Lib.hid hlw
  clear h1 h2 hlw
  go_wp2
  go_loopw [9] (fun iv wr => ∃ i : Nat, iv = .int .i64 (i : Int) ∧ i ≤ A.length ∧ Hid (∀ j (hj : j < A.length), j < i → forC c A[j] = false) ∧ Below X.heap.size X wr) (fun iv _ => A.length - (RowKit.intOf iv).toNat)
  case atStart => exact ⟨0, rfl, Nat.zero_le _, fun j _ h => absurd h (by omega), Below.refl _ _⟩
  case round =>
    obtain ⟨i, rfl, hi, hall, hb⟩ := hrel
    have HB := Lib.hid hb
    have HOB := Lib.hid (HO.out.after hb)
    have HWB := Lib.hid (HW.out.trans (hb.mono HW.out.size))
    by_cases hlt : i < A.length
    · have hlt' : (i : Int) < (A.length : Int) := by omega
      obtain ⟨o', c', he, -, hxr⟩ := HL.out.after HWB.out
      cases he
      obtain ⟨g, off, rfl, hgl, hrow⟩ := hxr i hlt
      obtain ⟨a, hae⟩ : ∃ a, A[i] = a := ⟨_, rfl⟩
      rw [hae] at hrow
      have HFN : Hid (forC c a = true → a = R) := fun h => by
        rw [← HRR.out]
        unfold askedN
        rw [findG_at hlt (fun j hj hji => hall.out j hj hji) (by rw [hae]; exact h), hae]
        rfl
      have HNO : Hid (forC c a = false → ∀ j (hj : j < A.length), j < i + 1 → forC c A[j] = false) := fun h j hj hji => by
        by_cases e : j = i
        · subst e
          rw [hae]
          exact h
        · exact hall.out j hj (by omega)
      obtain ⟨V4, hst4, hbx4, hlw4, hs4⟩ := boxing wr a
      have HA := Lib.hid hbx4
      have HB4 := Lib.hid (hb.trans (hlw4.mono hb.size))
      have HO4 := Lib.hid (HOB.out.after hlw4)
      have HW4 := Lib.hid (HWB.out.trans (hlw4.mono HWB.out.size))
      obtain ⟨k2, k5⟩ := (HC.out.after HB4.out).rest
      have c13 := hbx4.c13
      have c18 := hbx4.c18
      clear hxr hae hbx4 hlw4 hs4 hb hall
      by_cases hn : a.node = c.node
      · have hn' := str_eq hn
        have hnl : a.node.toList = c.node.toList := by rw [hn]
        by_cases hu : a.num = c.num
        · have hu' : (a.num == c.num) = true := by simpa using hu
          have HE : Hid (a = R) := HFN.out (by unfold forC; simp [hn, hu])
          obtain ⟨V8, hst8, ho8, -, hb8⟩ := storing HO4.out a
          have hax := HA.out
          have HO8 := Lib.hid ho8
          have HX8 := Lib.hid (hb8 _ _ HW4.out (by omega))
          clear hn hu HFN HNO ho8 hb8
          go_wp2_with (first | (refine wpList_got (v := encO a) rfl (load_mid hrow rfl rfl) ?_) | (refine wpList_skip rfl (hst4 rfl rfl rfl) ?_) | ((with_reducible refine wpList_load_obj ?_ rfl ?_ hax ?_); rfl; rfl) | (refine wpList_skip rfl (hst8 rfl rfl rfl) ?_))
          refine bodyPost_ret (v := encO a) (results_cell_row rfl _ _ (w.heap.size + 1) 37 (cellsO a) (0, 0) _ rfl HO8.out undObj rfl sizeObj) rfl ?_
          exact ⟨by rw [HE.out], HX8.out⟩
        · have hu' : (a.num == c.num) = false := by simpa using hu
          have HALL := Lib.hid (HNO.out (by unfold forC; simp [hu]))
          clear hn hu HFN HNO
          go_wp2_with (first | (refine wpList_got (v := encO a) rfl (load_mid hrow rfl rfl) ?_) | (refine wpList_skip rfl (hst4 rfl rfl rfl) ?_))
          go_roundw
          case rel => exact ⟨i + 1, by go_num, by omega, HALL, HB4.out⟩
          case measure => simp [RowKit.intOf]; omega
      · have hn' := str_ne hn
        have hnl : ¬ a.node.toList = c.node.toList := by simpa using hn'
        have HALL := Lib.hid (HNO.out (by unfold forC; simp [hn]))
        clear hn HFN HNO
        go_wp2_with (first | (refine wpList_got (v := encO a) rfl (load_mid hrow rfl rfl) ?_) | (refine wpList_skip rfl (hst4 rfl rfl rfl) ?_))
        go_roundw
        case rel => exact ⟨i + 1, by go_num, by omega, HALL, HB4.out⟩
        case measure => simp [RowKit.intOf]; omega
    · have hlt' : ¬ (i : Int) < (A.length : Int) := by omega
      have HE : Hid (O0 = R) := by
        show _ = _
        rw [← HRR.out]
        unfold askedN
        rw [findG_no (fun j hj => hall.out j hj (by omega))]
        rfl
      obtain ⟨V8, hst8, ho8, -, hb8⟩ := storing HOB.out O0
      have HO8 := Lib.hid ho8
      have HX8 := Lib.hid (hb8 _ _ HWB.out (by omega))
      clear hb hall ho8 hb8
      go_wp2_with (first | (refine wpList_skip rfl (hst8 rfl rfl rfl) ?_) | ((with_reducible refine wpList_build_to rfl 37 _ rfl (cellsO O0) ?_ ?_); exact built_obj0))
      refine bodyPost_ret (v := encO O0) (results_cell_row rfl _ _ (w.heap.size + 1) 37 (cellsO O0) (0, 0) _ rfl HO8.out undObj rfl sizeObj) rfl ?_
      exact ⟨by rw [HE.out], HX8.out⟩
end Go.Proofs.Ytigoghhjncpgfaa.O.B
