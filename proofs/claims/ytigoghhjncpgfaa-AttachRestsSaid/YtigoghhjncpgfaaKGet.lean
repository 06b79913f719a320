/- Of the objects of a kind the one of a name. -/
import Derived.Test.YtigoghhjncpgfaaKFind
namespace Go.Proofs.Ytigoghhjncpgfaa.O.B
open Go Go.RowKit Go.Shelf Go.Lib RangeMap KM
attribute [local go_sem] Oper.semAt_some

set_option maxRecDepth 100000 in
set_option maxHeartbeats 2000000 in
theorem named_fits (o : Obj) (n : ByteArray) (b : Nat) (W : World) (hb : Boxed W b 9 (.string n)) :
    Calls Try.prog 54 #[encO o, .pointer (some ⟨b, 0, none⟩)] W fun e W' => e = .returned (.bool (decide (o.name = n))) ∧ Below W.heap.size W W' := by
  have HB := Lib.hid hb
  clear hb
  unfold encO
  go_enter Try.func54, Try.ntmps54
  go_upto_region 1 with (fail)
  refine wp_gen (fun V => BoxO V W.heap.size o ∧ Below W.heap.size W V ∧ Boxed V b 9 (.string n)) ⟨BoxO.new W o, (Below.refl _ _).alloc (Nat.le_refl _) _, (Below.heap_alloc W _ b HB.out.lt).trans HB.out⟩ ?_
  clear HB
  rintro V ⟨hbx, hl, hn⟩
  have c1 := hbx.c1
  have cn := hn.cell
  have HL := Lib.hid hl
  clear hbx hl hn
  go_wp2
  go_ret
  refine ⟨?_, HL.out⟩
  show Ending.returned (.bool (o.name.toList == n.toList)) = _
  rw [eqB]
theorem get_enters : ∀ args w, (callFunc 54 args).run Try.prog w = .ok (.enter 54 args) w :=
  enters_of (P := Try.prog) Try.func54 (by kernel_rfl) rfl
set_option maxRecDepth 100000 in
set_option maxHeartbeats 2000000 in
theorem get_any (l : List Obj) (v : Value) (k : Int) (n : ByteArray) (w : World) (hl : ObjsIn w v l) :
    Calls Try.prog 26 #[v, .int .u8 k, .string n] w fun e w' => e = .returned (.tuple #[encO ((getL l k n).getD O0), .bool (getL l k n).isSome]) ∧ Below w.heap.size w w' := by
  obtain ⟨o, c, rfl, -, -⟩ := id hl
  have HL := Lib.hid hl
  clear hl
  go_enter Try.func26, Try.ntmps26
  go_upto_region 1 with (fail)
  refine wp_gen (fun V => Boxed V w.heap.size 9 (.string n) ∧ BoxO V (w.heap.size + 1) O0 ∧ Below w.heap.size w V) (chain2 w _ _) ?_
  rintro V ⟨h1, h2, hlw⟩
  have HC := Lib.hid (find_any l (.slice o l.length c) k 54 #[.pointer (some ⟨w.heap.size, 0, none⟩)] (fun o => decide (o.name = n)) V (HL.out.after hlw)
    ⟨get_enters, fun x _ W hW => named_fits x n w.heap.size W ((hW.block _ h1.lt).trans h1)⟩)
  rw [there_find] at HC
  have HW := Lib.hid hlw
  have HB := Lib.hid h2
  clear h1 h2 hlw HL
  go_wp2_with (fail)
  refine HC.out.mono ?_
  rintro e W2 ⟨rfl, hb⟩
  have hl2 : Below w.heap.size w W2 := HW.out.trans (hb.mono HW.out.size)
  have hb2 := HB.out.after hb
  clear HC HW HB hb
  obtain ⟨V2, hV2⟩ : ∃ V2, W2.setRow (w.heap.size + 1) (cellsO ((getL l k n).getD O0)) = V2 := ⟨_, rfl⟩
  have hst : ∀ {oi : Oper} {a : Act} {p q : Operand}, oi.op = .store 37 p q → a.eval p = .pointer (some ⟨w.heap.size + 1, 0, none⟩) → a.eval q = encO ((getL l k n).getD O0) → (execOp a.eval oi).run Try.prog W2 = .ok .skip V2 := fun h1 h2 h3 => by
    rw [← hV2]
    exact exec_store_obj hb2 h1 h2 h3
  have HO := Lib.hid (show BoxO V2 (w.heap.size + 1) ((getL l k n).getD O0) by rw [← hV2]; exact hb2.setRow _)
  have HW := Lib.hid (show Below w.heap.size w V2 by rw [← hV2]; exact below_setRow hl2 (by omega) _)
  clear hV2 hl2 hb2
  go_wp2_with (refine wpList_skip rfl (hst rfl rfl rfl) ?_)
  refine bodyPost_ret (v := .tuple #[encO ((getL l k n).getD O0), .bool (getL l k n).isSome]) (results_ct rfl rfl rfl (loadVar_obj HO.out)) rfl ?_
  exact ⟨rfl, HW.out⟩
end Go.Proofs.Ytigoghhjncpgfaa.O.B
