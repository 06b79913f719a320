/- Which volume is a claim's; whether a claim's source is ready. -/
import Derived.Test.YtfpdchabknoklaaDoorKAct
import Derived.Test.YtfpdchabknoklaaDoorBBest
namespace Go.Proofs.YtfpdchabknoklaaDoor.O.B
open Go Go.RowKit Go.Shelf Go.Lib RangeMap KM
attribute [local go_sem] Oper.semAt_some

set_option maxRecDepth 100000 in
set_option maxHeartbeats 2000000 in
theorem claims_any (o : Obj) (n : ByteArray) (b : Nat) (W : World) (hb : Boxed W b 9 (.string n)) :
    Calls Tryd.prog 56 #[encO o, .pointer (some ⟨b, 0, none⟩)] W fun e W' => e = .returned (.bool (decide (o.claim = n))) ∧ Below W.heap.size W W' := by
  have HB := Lib.hid hb
  clear hb
  unfold encO
  go_enter Tryd.func56, Tryd.ntmps56
  go_upto_region 1 with (fail)
  refine wp_gen (fun V => BoxO V W.heap.size o ∧ Below W.heap.size W V ∧ Boxed V b 9 (.string n)) ⟨BoxO.new W o, (Below.refl _ _).alloc (Nat.le_refl _) _, (Below.heap_alloc W _ b HB.out.lt).trans HB.out⟩ ?_
  clear HB
  rintro V ⟨hbx, hl, hn⟩
  have c14 := hbx.c14
  have cn := hn.cell
  have HL := Lib.hid hl
  clear hbx hl hn
  go_wp2
  go_ret
  refine ⟨?_, HL.out⟩
  show Ending.returned (.bool (o.claim.toList == n.toList)) = _
  rw [eqB]
theorem claims_enters : ∀ args w, (callFunc 56 args).run Tryd.prog w = .ok (.enter 56 args) w :=
  enters_of (P := Tryd.prog) Tryd.func56 (by kernel_rfl) rfl
def nameB' (a b : Obj) : Bool := Op.bytesLess a.name.toList b.name.toList
def volN (l : List Obj) (c : Obj) : Option Obj := leastL (fun o => decide (o.claim = refN c)) nameB' (thereL 4 l)

set_option maxRecDepth 100000 in
set_option maxHeartbeats 2000000 in
theorem volumeOf_any (l : List Obj) (v : Value) (c : Obj) (w : World) (hl : ObjsIn w v l) (ht : Tab w) (hb : 0 ≤ c.born ∧ c.born ≤ 18446744073709551615) (hn : c.name.size ≤ 140737488351232) :
    Calls Tryd.prog 19 #[v, encO c] w fun e w' => e = .returned (.tuple #[encO ((volN l c).getD O0), .bool (volN l c).isSome]) ∧ Below w.heap.size w w' := by
  obtain ⟨o, cp, rfl, -, -⟩ := id hl
  have HL := Lib.hid hl
  have HT := Lib.hid ht
  have HR := Lib.hid (fun V (hV : Tab V) => ref_any c V hV hb hn)
  clear hl ht hb hn
  unfold volN
  obtain ⟨n, hn⟩ : ∃ n, refN c = n := ⟨_, rfl⟩
  rw [hn] at HR ⊢
  clear hn
  obtain ⟨r, hr⟩ : ∃ r, leastL (fun o => decide (o.claim = n)) nameB' (thereL 4 l) = r := ⟨_, rfl⟩
  rw [hr]
  have HM : Hid (∀ (V : World) (gn : Nat), ObjsIn V (.slice o l.length cp) l → Boxed V gn 9 (.string n) →
      Calls Tryd.prog 55 #[.slice o l.length cp, .int .u8 4, .func (.func 56) #[] #[.pointer (some ⟨gn, 0, none⟩)], .func (.func 57) #[] #[]] V fun e w' =>
        e = .returned (.tuple #[encO (r.getD O0), .bool r.isSome]) ∧ Below V.heap.size V w') := fun V gn hV h1 => by
    rw [← hr]
    exact least_any l _ 4 _ _ _ _ nameB' V hV ⟨claims_enters, fun x _ W hW => claims_any x n gn W ((hW.block _ h1.lt).trans h1)⟩ byName_orders
  clear hr
  unfold encO
  go_enter Tryd.func19, Tryd.ntmps19
  go_upto_region 1 with (fail)
  refine wp_gen (fun V => BoxO V w.heap.size c ∧ BoxO V (w.heap.size + 1) O0 ∧ Below w.heap.size w V) (chain2 w _ _) ?_
  rintro V ⟨h1, h2, hlw⟩
  have HC := Lib.hid (HR.out V (HT.out.after hlw))
  have HO := Lib.hid h2
  have HW := Lib.hid hlw
  have hbx := h1
  clear h1 h2 hlw HR HT
  go_wp2_with ((with_reducible refine wpList_load_obj ?_ rfl ?_ hbx ?_); rfl; rfl)
  refine HC.out.mono ?_
  rintro e W2 ⟨rfl, hb2⟩
  have hw2 := HW.out.trans (hb2.mono HW.out.size)
  have HO2 := Lib.hid (HO.out.after hb2)
  have HW2 := Lib.hid hw2
  clear HC HO HW hb2 hw2 hbx
  go_upto_region 2 with (fail)
  refine wp_gen (fun V => Boxed V W2.heap.size 9 (.string n) ∧ BoxO V (w.heap.size + 1) O0 ∧ Below w.heap.size w V) ?_ ?_
  · exact ⟨heap_alloc_new _ _, HO2.out.alloc _, HW2.out.alloc HW2.out.size _⟩
  clear HO2 HW2
  rintro V3 ⟨h1, h2, hlw⟩
  have HC := Lib.hid (HM.out V3 _ (HL.out.after hlw) h1)
  have HO := Lib.hid h2
  have HW := Lib.hid hlw
  clear h1 h2 hlw HM HL
  go_wp2_with (fail)
  refine HC.out.mono ?_
  rintro e W5 ⟨rfl, hb5⟩
  obtain ⟨V6, hst, ho, -, hb⟩ := storing (HO.out.after hb5) (r.getD O0)
  have HO6 := Lib.hid ho
  have HX := Lib.hid (hb _ _ (HW.out.trans (hb5.mono HW.out.size)) (by omega))
  clear HC HO HW hb5 ho hb
  go_wp2_with (refine wpList_skip rfl (hst rfl rfl rfl) ?_)
  refine bodyPost_ret (v := .tuple #[encO (r.getD O0), .bool r.isSome]) (results_ct rfl rfl rfl (loadVar_obj HO6.out)) rfl ?_
  exact ⟨rfl, HX.out⟩

/-- Whether what a claim's volume is to be made of can be taken. -/
def readyN (l : List Obj) (c : Obj) : Bool := if c.source = E0 then true else match getL l 7 c.source with
  | none => false
  | some s => (s.phase == 11) && (!s.deleting && decide (s.got ≤ c.size))

set_option maxRecDepth 100000 in
set_option maxHeartbeats 2000000 in
theorem ready_any (l : List Obj) (v : Value) (c : Obj) (w : World) (hl : ObjsIn w v l) :
    Calls Tryd.prog 65 #[v, encO c] w fun e w' => e = .returned (.bool (readyN l c)) ∧ Below w.heap.size w w' := by
  obtain ⟨o, cp, rfl, -, -⟩ := id hl
  have HL := Lib.hid hl
  clear hl
  obtain ⟨x, hx⟩ : ∃ x, readyN l c = x := ⟨_, rfl⟩
  rw [hx]
  unfold readyN at hx
  by_cases hn : c.source = E0
  · rw [if_pos hn] at hx
    subst hx
    have hn' : c.source.toList = [] := (emp_iff _).2 hn
    have hn2 : (c.source.toList == []) = true := by simp [hn']
    have hn3 : c.source.toList.isEmpty = true := by simp [hn']
    clear hn
    unfold encO
    go_enter Tryd.func65, Tryd.ntmps65
    go_upto_region 1 with (fail)
    refine wp_gen (fun V => BoxO V w.heap.size c ∧ Below w.heap.size w V) ⟨BoxO.new w c, (Below.refl _ _).alloc (Nat.le_refl _) _⟩ ?_
    rintro V ⟨h1, hlw⟩
    have HW := Lib.hid hlw
    have c16 := h1.c16
    clear h1 hlw
    go_wp2
    go_ret
    exact ⟨rfl, HW.out⟩
  · rw [if_neg hn] at hx
    have hn' : c.source.toList ≠ [] := fun e => hn ((emp_iff _).1 e)
    have hn2 : (c.source.toList == []) = false := by simpa using hn'
    have hn3 : c.source.toList.isEmpty = false := by simpa using hn'
    obtain ⟨r, hr⟩ : ∃ r, getL l 7 c.source = r := ⟨_, rfl⟩
    have HG : Hid (∀ V : World, ObjsIn V (.slice o l.length cp) l → Calls Tryd.prog 18 #[.slice o l.length cp, .int .u8 7, .string c.source] V fun e w' => e = .returned (.tuple #[encO (r.getD O0), .bool r.isSome]) ∧ Below V.heap.size V w') := fun V hV => by
      rw [← hr]
      exact get_any l _ 7 c.source V hV
    rw [hr] at hx
    clear hn hr
    have HV := Lib.hid hx
    clear hx
    unfold encO
    go_enter Tryd.func65, Tryd.ntmps65
    go_upto_region 1 with (fail)
    refine wp_gen (fun V => BoxO V w.heap.size c ∧ Below w.heap.size w V) ⟨BoxO.new w c, (Below.refl _ _).alloc (Nat.le_refl _) _⟩ ?_
    rintro V ⟨h1, hlw⟩
    have HC := Lib.hid (HG.out V (HL.out.after hlw))
    have HB := Lib.hid h1
    have HW := Lib.hid hlw
    have c16 := h1.c16
    clear h1 hlw HG HL
    go_wp2_with (fail)
    refine HC.out.mono ?_
    rintro e W2 ⟨rfl, hb2⟩
    obtain ⟨V2, hst, hk, hb, -⟩ := boxing W2 (r.getD O0)
    have d7 := ((HB.out.after hb2).after hb).c7
    have HW2 := Lib.hid ((HW.out.trans (hb2.mono HW.out.size)).trans (hb.mono (HW.out.trans (hb2.mono HW.out.size)).size))
    clear HC HB HW hb2 hb c16
    cases r with
    | none =>
      have HX : Hid (x = false) := HV.out.symm
      clear HV hk
      go_wp2_with (refine wpList_skip rfl (hst rfl rfl rfl) ?_)
      go_ret
      exact ⟨by rw [HX.out]; rfl, HW2.out⟩
    | some s =>
      replace hk : BoxO V2 W2.heap.size s := hk
      have s17 := hk.c17
      have s4 := hk.c4
      have s8 := hk.c8
      clear hk
      cases e1 : s.phase == 11 with
      | false =>
        have HX : Hid (x = false) := by show _ = _; rw [← HV.out]; simp only [e1]; rfl
        clear HV
        go_wp2_with (refine wpList_skip rfl (hst rfl rfl rfl) ?_)
        go_ret
        exact ⟨by rw [HX.out]; rfl, HW2.out⟩
      | true =>
        cases e2 : s.deleting with
        | true =>
          rw [e2] at s4
          have HX : Hid (x = false) := by show _ = _; rw [← HV.out]; simp only [e1, e2]; rfl
          clear HV
          go_wp2_with (refine wpList_skip rfl (hst rfl rfl rfl) ?_)
          go_ret
          exact ⟨by rw [HX.out]; rfl, HW2.out⟩
        | false =>
          rw [e2] at s4
          have HX : Hid (x = decide (s.got ≤ c.size)) := by show _ = _; rw [← HV.out]; simp only [e1, e2]; rfl
          clear HV
          go_wp2_with (refine wpList_skip rfl (hst rfl rfl rfl) ?_)
          go_ret
          exact ⟨by rw [HX.out]; rfl, HW2.out⟩
end Go.Proofs.YtfpdchabknoklaaDoor.O.B
