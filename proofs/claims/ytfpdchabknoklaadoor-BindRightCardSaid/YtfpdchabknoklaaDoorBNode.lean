/- The node at which a claim is wanted; where its volume is to be made; whether its source is ready. -/
import Derived.Test.YtfpdchabknoklaaDoorBGot
import Derived.Test.YtfpdchabknoklaaDoorBRef
namespace Go.Proofs.YtfpdchabknoklaaDoor.O.B
open Go Go.RowKit Go.Shelf Go.Lib RangeMap KM
attribute [local go_sem] Oper.semAt_some

def nodeN (l : List Obj) (c : Obj) : Option Obj := if c.node = E0 then none else getL l 2 c.node

set_option maxRecDepth 100000 in
set_option maxHeartbeats 2000000 in
theorem nodeOf_any (l : List Obj) (v : Value) (c : Obj) (w : World) (hl : ObjsIn w v l) :
    Calls Tryd.prog 75 #[v, encO c] w fun e w' => e = .returned (.tuple #[encO ((nodeN l c).getD O0), .bool (nodeN l c).isSome]) ∧ Below w.heap.size w w' := by
  obtain ⟨o, cp, rfl, -, -⟩ := id hl
  have HL := Lib.hid hl
  clear hl
  obtain ⟨r, hr⟩ : ∃ r, nodeN l c = r := ⟨_, rfl⟩
  rw [hr]
  unfold nodeN at hr
  by_cases hn : c.node = E0
  · rw [if_pos hn] at hr
    subst hr
    have hn' : c.node.toList = [] := (emp_iff _).2 hn
    have hn2 : (c.node.toList == []) = true := by simp [hn']
    have hn3 : c.node.toList.isEmpty = true := by simp [hn']
    clear hn
    unfold encO
    go_enter Tryd.func75, Tryd.ntmps75
    go_upto_region 1 with (fail)
    refine wp_gen (fun V => BoxO V w.heap.size c ∧ BoxO V (w.heap.size + 1) O0 ∧ Below w.heap.size w V) (chain2 w _ _) ?_
    rintro V ⟨h1, h2, hlw⟩
    obtain ⟨V2, hst, ho, -, hb⟩ := storing h2 O0
    have HO := Lib.hid ho
    have HW := Lib.hid (hb _ _ hlw (by omega))
    have c13 := h1.c13
    clear h1 h2 hlw ho hb
    go_wp2_with (refine wpList_skip rfl (hst rfl rfl rfl) ?_)
    refine bodyPost_ret (v := .tuple #[encO O0, .bool false]) (results_ct rfl rfl rfl (loadVar_obj HO.out)) rfl ?_
    exact ⟨rfl, HW.out⟩
  · rw [if_neg hn] at hr
    have hn' : c.node.toList ≠ [] := fun e => hn ((emp_iff _).1 e)
    have hn2 : (c.node.toList == []) = false := by simpa using hn'
    have hn3 : c.node.toList.isEmpty = false := by simpa using hn'
    have HG : Hid (∀ V : World, ObjsIn V (.slice o l.length cp) l → Calls Tryd.prog 18 #[.slice o l.length cp, .int .u8 2, .string c.node] V fun e w' => e = .returned (.tuple #[encO (r.getD O0), .bool r.isSome]) ∧ Below V.heap.size V w') := fun V hV => by
      rw [← hr]
      exact get_any l _ 2 c.node V hV
    clear hn hr
    unfold encO
    go_enter Tryd.func75, Tryd.ntmps75
    go_upto_region 1 with (fail)
    refine wp_gen (fun V => BoxO V w.heap.size c ∧ BoxO V (w.heap.size + 1) O0 ∧ Below w.heap.size w V) (chain2 w _ _) ?_
    rintro V ⟨h1, h2, hlw⟩
    have HC := Lib.hid (HG.out V (HL.out.after hlw))
    have HB := Lib.hid h2
    have HW := Lib.hid hlw
    have c13 := h1.c13
    clear h1 h2 hlw HG HL
    go_wp2_with (fail)
    refine HC.out.mono ?_
    rintro e W2 ⟨rfl, hb2⟩
    obtain ⟨V2, hst, ho, -, hb⟩ := storing (HB.out.after hb2) (r.getD O0)
    have HO := Lib.hid ho
    have HX := Lib.hid (hb _ _ (HW.out.trans (hb2.mono HW.out.size)) (by omega))
    clear HC HB HW hb2 ho hb c13
    go_wp2_with (refine wpList_skip rfl (hst rfl rfl rfl) ?_)
    refine bodyPost_ret (v := .tuple #[encO (r.getD O0), .bool r.isSome]) (results_ct rfl rfl rfl (loadVar_obj HO.out)) rfl ?_
    exact ⟨rfl, HX.out⟩

def zoneN (l : List Obj) (c : Obj) : ByteArray := match getL l 1 c.cls with
  | none => E0
  | some k => match nodeN l c with
    | some n => n.zone
    | none => if k.wait then E0 else k.zone

set_option maxRecDepth 100000 in
set_option maxHeartbeats 2000000 in
theorem zoneFor_any (l : List Obj) (v : Value) (c : Obj) (w : World) (hl : ObjsIn w v l) :
    Calls Tryd.prog 64 #[v, encO c] w fun e w' => e = .returned (.string (zoneN l c)) ∧ Below w.heap.size w w' := by
  obtain ⟨o, cp, rfl, -, -⟩ := id hl
  have HL := Lib.hid hl
  clear hl
  obtain ⟨r, hr⟩ : ∃ r, getL l 1 c.cls = r := ⟨_, rfl⟩
  obtain ⟨s, hs⟩ : ∃ s, nodeN l c = s := ⟨_, rfl⟩
  have HG : Hid (∀ V : World, ObjsIn V (.slice o l.length cp) l → Calls Tryd.prog 18 #[.slice o l.length cp, .int .u8 1, .string c.cls] V fun e w' => e = .returned (.tuple #[encO (r.getD O0), .bool r.isSome]) ∧ Below V.heap.size V w') := fun V hV => by
    rw [← hr]
    exact get_any l _ 1 c.cls V hV
  have HN : Hid (∀ V : World, ObjsIn V (.slice o l.length cp) l → Calls Tryd.prog 75 #[.slice o l.length cp, encO c] V fun e w' => e = .returned (.tuple #[encO (s.getD O0), .bool s.isSome]) ∧ Below V.heap.size V w') := fun V hV => by
    rw [← hs]
    exact nodeOf_any l _ c V hV
  unfold zoneN
  rw [hr, hs]
  clear hr hs
  unfold encO
  go_enter Tryd.func64, Tryd.ntmps64
  go_upto_region 1 with (fail)
  refine wp_gen (fun V => BoxO V w.heap.size c ∧ Below w.heap.size w V) ⟨BoxO.new w c, (Below.refl _ _).alloc (Nat.le_refl _) _⟩ ?_
  rintro V ⟨h1, hlw⟩
  have HC := Lib.hid (HG.out V (HL.out.after hlw))
  have HB := Lib.hid h1
  have HW := Lib.hid hlw
  have c6 := h1.c6
  clear h1 hlw HG
  go_wp2_with (fail)
  refine HC.out.mono ?_
  rintro e W2 ⟨rfl, hb2⟩
  obtain ⟨V2, hst, hk, hb, -⟩ := boxing W2 (r.getD O0)
  have HB2 := Lib.hid ((HB.out.after hb2).after hb)
  have HW2 := Lib.hid ((HW.out.trans (hb2.mono HW.out.size)).trans (hb.mono (HW.out.trans (hb2.mono HW.out.size)).size))
  have HK := Lib.hid hk
  clear HC HB HW hb2 hk hb c6
  cases r with
  | none =>
    go_wp2_with (refine wpList_skip rfl (hst rfl rfl rfl) ?_)
    go_ret
    exact ⟨rfl, HW2.out⟩
  | some k =>
    have HC2 := Lib.hid (HN.out V2 (HL.out.after HW2.out))
    have hbx := HB2.out
    go_wp2_with (first | (refine wpList_skip rfl (hst rfl rfl rfl) ?_) | ((with_reducible refine wpList_load_obj ?_ rfl ?_ hbx ?_); rfl; rfl))
    refine HC2.out.mono ?_
    rintro e W4 ⟨rfl, hb4⟩
    obtain ⟨V4, hst4, hn4, hb5, -⟩ := boxing W4 (s.getD O0)
    have HW4 := Lib.hid ((HW2.out.trans (hb4.mono HW2.out.size)).trans (hb5.mono (HW2.out.trans (hb4.mono HW2.out.size)).size))
    have hk4 : BoxO V4 W2.heap.size k := (HK.out.after hb4).after hb5
    clear HC2 HN HL hbx HB2 HW2 HK hb4 hb5 hst
    cases s with
    | some n =>
      have c12 := hn4.c12
      clear hn4 hk4
      go_wp2_with (refine wpList_skip rfl (hst4 rfl rfl rfl) ?_)
      go_ret
      exact ⟨rfl, HW4.out⟩
    | none =>
      have c12 := hk4.c12
      have c11 := hk4.c11
      clear hn4 hk4
      cases hwt : k.wait with
      | true =>
        rw [hwt] at c11
        go_wp2_with (refine wpList_skip rfl (hst4 rfl rfl rfl) ?_)
        go_ret
        exact ⟨rfl, HW4.out⟩
      | false =>
        rw [hwt] at c11
        go_wp2_with (refine wpList_skip rfl (hst4 rfl rfl rfl) ?_)
        go_ret
        exact ⟨rfl, HW4.out⟩
end Go.Proofs.YtfpdchabknoklaaDoor.O.B
