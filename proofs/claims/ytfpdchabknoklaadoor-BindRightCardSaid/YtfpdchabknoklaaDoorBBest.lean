/- Which volume of nobody a claim takes; which volume is a claim's. -/
import Derived.Test.YtfpdchabknoklaaDoorBNode
namespace Go.Proofs.YtfpdchabknoklaaDoor.O.B
open Go Go.RowKit Go.Shelf Go.Lib RangeMap KM
attribute [local go_sem] Oper.semAt_some

def fitB (c : Obj) (pl : Bool) (nd v : Obj) : Bool := (v.phase == 4) && (!v.deleting && ((v.cls.toList == c.cls.toList) && ((v.mode == c.mode) && (decide (c.size ≤ v.got) && (!pl || (v.zone.toList == nd.zone.toList))))))

set_option maxRecDepth 100000 in
set_option maxHeartbeats 2000000 in
theorem fits_any (c nd v : Obj) (pl : Bool) (gc gp gn : Nat) (w : World) (hc : BoxO w gc c) (hp : Boxed w gp 4 (.bool pl)) (hn : BoxO w gn nd) :
    Calls Tryd.prog 76 #[encO v, .pointer (some ⟨gc, 0, none⟩), .pointer (some ⟨gp, 0, none⟩), .pointer (some ⟨gn, 0, none⟩)] w fun e w' => e = .returned (.bool (fitB c pl nd v)) ∧ Below w.heap.size w w' := by
  obtain ⟨r, hr⟩ : ∃ r, fitB c pl nd v = r := ⟨_, rfl⟩
  rw [hr]
  have HR := Lib.hid hr
  have HC := Lib.hid hc
  have HP := Lib.hid hp
  have HN := Lib.hid hn
  clear hr hc hp hn
  unfold encO
  go_enter Tryd.func76, Tryd.ntmps76
  go_upto_region 1 with (fail)
  refine wp_gen (fun V => BoxO V w.heap.size v ∧ Below w.heap.size w V) ⟨BoxO.new w v, (Below.refl _ _).alloc (Nat.le_refl _) _⟩ ?_
  rintro V ⟨h1, hlw⟩
  have HL := Lib.hid hlw
  have v17 := h1.c17
  have v4 := h1.c4
  have v6 := h1.c6
  have v9 := h1.c9
  have v8 := h1.c8
  have v12 := h1.c12
  have hc := HC.out.after hlw
  have d6 := hc.c6
  have d9 := hc.c9
  have d7 := hc.c7
  have hn := HN.out.after hlw
  have n12 := hn.c12
  have hp : Boxed V gp 4 (.bool pl) := (hlw.block _ HP.out.lt).trans HP.out
  have cp := hp.cell
  clear h1 hlw hc hn hp HC HP HN
  cases e1 : (v.phase == 4) with
  | false =>
    have HV : Hid (r = false) := by show _ = _; rw [← HR.out]; unfold fitB; simp only [e1]; rfl
    clear HR
    go_wp2
    go_ret
    exact ⟨by rw [HV.out]; rfl, HL.out⟩
  | true =>
    cases e2 : v.deleting with
    | false =>
      rw [e2] at v4
      cases e3 : (v.cls.toList == c.cls.toList) with
      | false =>
        have HV : Hid (r = false) := by show _ = _; rw [← HR.out]; unfold fitB; simp only [e1, e2, e3]; rfl
        clear HR
        go_wp2
        go_ret
        exact ⟨by rw [HV.out]; rfl, HL.out⟩
      | true =>
        cases e4 : (v.mode == c.mode) with
        | false =>
          have HV : Hid (r = false) := by show _ = _; rw [← HR.out]; unfold fitB; simp only [e1, e2, e3, e4]; rfl
          clear HR
          go_wp2
          go_ret
          exact ⟨by rw [HV.out]; rfl, HL.out⟩
        | true =>
          cases e5 : decide (c.size ≤ v.got) with
          | false =>
            have f5 : ¬ c.size ≤ v.got := by simpa using e5
            have HV : Hid (r = false) := by show _ = _; rw [← HR.out]; unfold fitB; simp only [e1, e2, e3, e4, e5]; rfl
            clear HR
            go_wp2
            go_ret
            exact ⟨by rw [HV.out]; rfl, HL.out⟩
          | true =>
            have f5 : c.size ≤ v.got := by simpa using e5
            cases e6 : pl with
            | false =>
              rw [e6] at cp
              have HV : Hid (r = true) := by show _ = _; rw [← HR.out]; unfold fitB; simp only [e1, e2, e3, e4, e5, e6]; rfl
              clear HR
              go_wp2
              go_ret
              exact ⟨by rw [HV.out]; rfl, HL.out⟩
            | true =>
              rw [e6] at cp
              cases e7 : (v.zone.toList == nd.zone.toList) with
              | false =>
                have HV : Hid (r = false) := by show _ = _; rw [← HR.out]; unfold fitB; simp only [e1, e2, e3, e4, e5, e6, e7]; rfl
                clear HR
                go_wp2
                go_ret
                exact ⟨by rw [HV.out]; rfl, HL.out⟩
              | true =>
                have HV : Hid (r = true) := by show _ = _; rw [← HR.out]; unfold fitB; simp only [e1, e2, e3, e4, e5, e6, e7]; rfl
                clear HR
                go_wp2
                go_ret
                exact ⟨by rw [HV.out]; rfl, HL.out⟩
    | true =>
      rw [e2] at v4
      have HV : Hid (r = false) := by show _ = _; rw [← HR.out]; unfold fitB; simp only [e1, e2]; rfl
      clear HR
      go_wp2
      go_ret
      exact ⟨by rw [HV.out]; rfl, HL.out⟩

theorem best_enters : ∀ args w, (callFunc 76 args).run Tryd.prog w = .ok (.enter 76 args) w :=
  enters_of (P := Tryd.prog) Tryd.func76 (by kernel_rfl) rfl
def bestN (l : List Obj) (c : Obj) : Option Obj := leastL (fitB c (nodeN l c).isSome ((nodeN l c).getD O0)) gotB (thereL 4 l)

set_option maxRecDepth 100000 in
set_option maxHeartbeats 2000000 in
theorem best_any (l : List Obj) (v : Value) (c : Obj) (w : World) (hl : ObjsIn w v l) :
    Calls Tryd.prog 63 #[v, encO c] w fun e w' => e = .returned (.tuple #[encO ((bestN l c).getD O0), .bool (bestN l c).isSome]) ∧ Below w.heap.size w w' := by
  obtain ⟨o, cp, rfl, -, -⟩ := id hl
  have HL := Lib.hid hl
  clear hl
  obtain ⟨s, hs⟩ : ∃ s, nodeN l c = s := ⟨_, rfl⟩
  have HN : Hid (∀ V : World, ObjsIn V (.slice o l.length cp) l → Calls Tryd.prog 75 #[.slice o l.length cp, encO c] V fun e w' => e = .returned (.tuple #[encO (s.getD O0), .bool s.isSome]) ∧ Below V.heap.size V w') := fun V hV => by
    rw [← hs]
    exact nodeOf_any l _ c V hV
  unfold bestN
  rw [hs]
  clear hs
  obtain ⟨nd, hnd⟩ : ∃ nd, s.getD O0 = nd := ⟨_, rfl⟩
  obtain ⟨pl, hpl⟩ : ∃ pl, s.isSome = pl := ⟨_, rfl⟩
  rw [hnd, hpl] at HN ⊢
  clear hnd hpl
  obtain ⟨r, hr⟩ : ∃ r, leastL (fitB c pl nd) gotB (thereL 4 l) = r := ⟨_, rfl⟩
  rw [hr]
  have HM : Hid (∀ (V : World) (gc gp gn : Nat), ObjsIn V (.slice o l.length cp) l → BoxO V gc c → Boxed V gp 4 (.bool pl) → BoxO V gn nd →
      Calls Tryd.prog 55 #[.slice o l.length cp, .int .u8 4, .func (.func 76) #[] #[.pointer (some ⟨gc, 0, none⟩), .pointer (some ⟨gp, 0, none⟩), .pointer (some ⟨gn, 0, none⟩)], .func (.func 77) #[] #[]] V fun e w' =>
        e = .returned (.tuple #[encO (r.getD O0), .bool r.isSome]) ∧ Below V.heap.size V w') := fun V gc gp gn hV h1 h2 h3 => by
    rw [← hr]
    exact least_any l _ 4 _ _ _ (fitB c pl nd) gotB V hV ⟨best_enters, fun x _ W hW => fits_any c nd x pl gc gp gn W (h1.after hW) ((hW.block _ h2.lt).trans h2) (h3.after hW)⟩ byGot_orders
  clear hr
  unfold encO
  go_enter Tryd.func63, Tryd.ntmps63
  go_upto_region 1 with (fail)
  refine wp_gen (fun V => BoxO V w.heap.size c ∧ BoxO V (w.heap.size + 1) O0 ∧ Below w.heap.size w V) (chain2 w _ _) ?_
  rintro V ⟨h1, h2, hlw⟩
  have HC := Lib.hid (HN.out V (HL.out.after hlw))
  have HB := Lib.hid h1
  have HO := Lib.hid h2
  have HW := Lib.hid hlw
  have hbx := h1
  clear h1 h2 hlw HN
  go_wp2_with ((with_reducible refine wpList_load_obj ?_ rfl ?_ hbx ?_); rfl; rfl)
  refine HC.out.mono ?_
  rintro e W2 ⟨rfl, hb2⟩
  have hsz : w.heap.size + 2 ≤ W2.heap.size := Nat.le_trans (show w.heap.size + 1 + 1 ≤ V.heap.size from (Array.getElem?_eq_some_iff.1 HO.out).1) hb2.size
  obtain ⟨k1, k2, k3⟩ := chain2 W2 (.cells (cellsO O0) 31 (0, 0)) (.cells #[.bool false] 4 (0, 0))
  obtain ⟨V3, hst, hn3, ho3, hb3⟩ := storing (show BoxO _ W2.heap.size O0 from k1) nd
  have f3 := (show Boxed V3 (W2.heap.size + 1) 4 (.bool false) from (ho3 _ (by omega)).trans k2)
  have b3 : Below W2.heap.size W2 V3 := hb3 _ _ k3 (Nat.le_refl _)
  have HB3 := Lib.hid ((HB.out.after hb2).after b3)
  have HO3 := Lib.hid ((HO.out.after hb2).after b3)
  have HN3 := Lib.hid hn3
  have HF3 := Lib.hid f3
  have HW3 := Lib.hid ((HW.out.trans (hb2.mono HW.out.size)).trans (b3.mono (HW.out.trans (hb2.mono HW.out.size)).size))
  have z3 := f3.frozen
  have c3 := f3.cell
  have HZ := Lib.hid hsz
  clear HC HB HO HW hb2 k1 k2 k3 hn3 ho3 hb3 f3 b3 hbx hsz
  go_upto_region 2 with (refine wpList_skip rfl (hst rfl rfl rfl) ?_)
  refine wp_gen (fun V => BoxO V w.heap.size c ∧ BoxO V (w.heap.size + 1) O0 ∧ BoxO V W2.heap.size nd ∧ Boxed V (W2.heap.size + 1) 4 (.bool pl) ∧ Below w.heap.size w V)
    ⟨HB3.out.other (by have := HZ.out; show w.heap.size ≠ W2.heap.size + 1; omega) _, HO3.out.other (by have := HZ.out; show w.heap.size + 1 ≠ W2.heap.size + 1; omega) _, HN3.out.other (by show W2.heap.size ≠ W2.heap.size + 1; omega) _, HF3.out.set _,
      HW3.out.setCell (by have := HZ.out; show w.heap.size ≤ W2.heap.size + 1; omega) _⟩ ?_
  clear HB3 HO3 HN3 HF3 HW3 z3 c3 hst
  rintro V4 ⟨h1, h2, h3, h4, h5⟩
  have HC := Lib.hid (HM.out V4 _ _ _ (HL.out.after h5) h1 h4 h3)
  have HO := Lib.hid h2
  have HW := Lib.hid h5
  clear h1 h2 h3 h4 h5 HM HL
  go_wp2_with (fail)
  refine HC.out.mono ?_
  rintro e W5 ⟨rfl, hb5⟩
  obtain ⟨V6, hst, ho, -, hb⟩ := storing (HO.out.after hb5) (r.getD O0)
  have HO6 := Lib.hid ho
  have HX := Lib.hid (hb _ _ (HW.out.trans (hb5.mono HW.out.size)) (by omega))
  clear HC HO HW hb5 ho hb
  go_wp2_with (refine wpList_skip rfl (hst rfl rfl rfl) ?_)
  refine bodyPost_ret (v := .tuple #[encO (r.getD O0), .bool r.isSome]) (results_ct rfl rfl rfl (loadVar_obj HO6.out)) rfl ?_
  exact ⟨rfl, HX.out⟩
end Go.Proofs.YtfpdchabknoklaaDoor.O.B
