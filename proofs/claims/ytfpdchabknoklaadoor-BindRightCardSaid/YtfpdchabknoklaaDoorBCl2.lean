/- The document's answer for a claim that waits, over the objects each once, is the program's. -/
import Derived.Test.YtfpdchabknoklaaDoorBRBest
import Derived.Test.YtfpdchabknoklaaDoorBRHandle
import Derived.Test.YtfpdchabknoklaaDoorBCl0
import Derived.Test.YtfpdchabknoklaaDoorBCl1
import Derived.Test.YtfpdchabknoklaaDoorBBegin
import Derived.Test.YtfpdchabknoklaaDoorKUniq
import Derived.Test.YtfpdchabknoklaaDoorKUniqT
namespace Go.Proofs.YtfpdchabknoklaaDoor.O.B
open Go Go.RowKit Go.Shelf Go.Lib RangeMap KM
attribute [local go_sem] Oper.semAt_some

set_option maxRecDepth 100000 in
set_option maxHeartbeats 8000000 in
theorem rpend_Dnone (L : List Obj) (s0 : Value) (ver : Int) (c : Obj) (w : World) (hl : ObjsIn w s0 L) (hn : L.length < 100000) (ht : Tab w) (hb : 0 ≤ c.born ∧ c.born ≤ 18446744073709551615) (hnm : c.name.size ≤ 140737488351232) (hq : bestN L c = none) (hq2 : (getL L 2 c.node).isSome = true) (hno : ¬ c.node = E0) (hk : getL L 1 c.cls = none) :
    Calls Tryd.prog 35 #[s0, .int .u64 ver, encO c] w fun e w' => e = .returned (encA (pendN (bestN L c) (getL L 1 c.cls) (getL L 2 c.node) (getL L 7 c.source) c (IntKind.u64.wrap (ver + 1)))) ∧ Below w.heap.size w w' := by
  obtain ⟨o, cp, rfl, hm, -⟩ := id hl
  have HL := Lib.hid hl
  have HT := Lib.hid ht
  have HRF := Lib.hid (fun V (hV : Tab V) => rref_any c V hV hb hnm)
  have HBB := Lib.hid (fun V (hV : ObjsIn V (.slice o L.length cp) L) => rbest_any L _ c V hV hn)
  have HG1 := Lib.hid (fun V (hV : ObjsIn V (.slice o L.length cp) L) => rget_any L _ 1 c.cls V hV)
  have HG2 := Lib.hid (fun V (hV : ObjsIn V (.slice o L.length cp) L) => rget_any L _ 2 c.node V hV)
  have HG7 := Lib.hid (fun V (hV : ObjsIn V (.slice o L.length cp) L) => rget_any L _ 7 c.source V hV)
  generalize bestN L c = r at *
  generalize getL L 1 c.cls = cl at *
  generalize getL L 2 c.node = nd at *
  generalize getL L 7 c.source = so at *
  clear hl hn ht hb hnm
  subst hq
  have HQ2 := Lib.hid hq2
  have HNO := Lib.hid hno
  clear hq2 hno
  subst hk
  obtain ⟨x, hx⟩ : ∃ x, pendN none (none : Option Obj) nd so c (IntKind.u64.wrap (ver + 1)) = x := ⟨_, rfl⟩
  rw [hx]
  have HXX := Lib.hid hx
  clear hx
  have write6 : ∀ (u : Obj), Hid (x = writeA u) → Hid (∀ V, Calls Tryd.prog 32 #[encO u] V fun e w' => e = .returned (encA x) ∧ Below V.heap.size V w') := fun u h => by
    have h' := h.out
    subst h'
    exact fun V => rwrite_any u V
  unfold encO
  go_enter Tryd.func35, Tryd.ntmps35
  go_upto_region 1 with (fail)
  refine wp_gen (fun V => BoxO V w.heap.size c ∧ BoxA V (w.heap.size + 1) nothing ∧ Below w.heap.size w V) (chain2 w _ _) ?_
  rintro V0 ⟨hc0, ha0, hlw0⟩
  have HC0 := Lib.hid hc0
  have HA0 := Lib.hid ha0
  have HW0 := Lib.hid hlw0
  have HB1 := Lib.hid (HBB.out V0 (HL.out.after hlw0))
  clear ha0 hlw0 HBB
  go_wp2_with ((with_reducible refine wpList_load_obj ?_ rfl ?_ hc0 ?_); rfl; rfl)
  clear hc0
  refine HB1.out.mono ?_
  rintro e W1 ⟨rfl, hb1⟩
  obtain ⟨X1, sx1, ox1, lx1, -⟩ := boxing W1 ((none : Option Obj).getD O0)
  have h01 := hb1.trans (lx1.mono hb1.size)
  have hlt := HA0.out
  have hne : w.heap.size + 1 < W1.heap.size := Nat.lt_of_lt_of_le (Array.getElem?_eq_some_iff.1 hlt).1 hb1.size
  have HNE := Lib.hid hne
  have HC1 := Lib.hid (HC0.out.after h01)
  have HA1 := Lib.hid (HA0.out.after h01)
  have HW1 := Lib.hid (HW0.out.trans (h01.mono HW0.out.size))
  clear HB1 hb1 lx1 h01 hlt hne HC0 HA0 HW0
  have HCL := Lib.hid (HG1.out X1 (HL.out.after HW1.out))
  have c6 := HC1.out.c6
  clear ox1 HG1 HRF
  go_upto_region 5 with (refine wpList_skip rfl (sx1 rfl rfl rfl) ?_)
  clear sx1
  go_wp2_with (fail)
  refine HCL.out.mono ?_
  rintro e W2 ⟨rfl, hb2⟩
  obtain ⟨X2, sx2, ox2, lx2, -⟩ := boxing W2 ((none : Option Obj).getD O0)
  have h12 := hb2.trans (lx2.mono hb2.size)
  have HC2 := Lib.hid (HC1.out.after h12)
  have HA2 := Lib.hid (HA1.out.after h12)
  have HW2 := Lib.hid (HW1.out.trans (h12.mono HW1.out.size))
  have HK2 := Lib.hid ox2
  have HND := Lib.hid (HG2.out X2 (HL.out.after HW2.out))
  have c13 := HC2.out.c13
  clear HCL c6 hb2 ox2 lx2 h12 HC1 HA1 HW1 HG2
  obtain ⟨is1, his1⟩ : ∃ b, (none : Option Obj).isSome = b := ⟨_, rfl⟩
  rw [his1]
  have HI1 := Lib.hid his1
  clear his1
  go_upto_region 6 with (refine wpList_skip rfl (sx2 rfl rfl rfl) ?_)
  clear sx2
  go_wp2_with (fail)
  refine HND.out.mono ?_
  rintro e W3 ⟨rfl, hb3⟩
  obtain ⟨X3, sx3, ox3, lx3, -⟩ := boxing W3 (nd.getD O0)
  have h23 := hb3.trans (lx3.mono hb3.size)
  have HC3 := Lib.hid (HC2.out.after h23)
  have HA3 := Lib.hid (HA2.out.after h23)
  have HW3 := Lib.hid (HW2.out.trans (h23.mono HW2.out.size))
  have HK3 := Lib.hid (HK2.out.after h23)
  have HN3 := Lib.hid ox3
  have HL3 := Lib.hid (HL.out.after HW3.out)
  have c13 := HC3.out.c13
  have k11 := HK3.out.c11
  have k12 := HK3.out.c12
  have n12 := HN3.out.c12
  have c16 := HC3.out.c16
  clear HND hb3 ox3 lx3 h23 HC2 HA2 HW2 HK2 HL HT
  obtain ⟨is2, his2⟩ : ∃ b, nd.isSome = b := ⟨_, rfl⟩
  rw [his2]
  have HI2 := Lib.hid his2
  clear his2
  go_upto_region 7 with (refine wpList_skip rfl (sx3 rfl rfl rfl) ?_)
  clear sx3
  have h2 : is2 = true := HI2.out.symm.trans HQ2.out
  subst h2
  have HPL : Hid ((nd.isSome && !decide (c.node = E0)) = true) := by show _ = _; rw [HI2.out, decide_eq_false HNO.out]; rfl
  have o1 : c.node.toList ≠ [] := fun e => HNO.out ((emp_iff _).1 e)
  have o2 : (c.node.toList == []) = false := by simpa using o1
  have o3 : c.node.toList.isEmpty = false := by simpa using o1
  go_upto_region 8 with (fail)
  clear o1 o2 o3
  have h1 : is1 = false := HI1.out.symm
  subst h1
  have HVV : Hid (x = nothing) := HXX.out.symm
  clear HI1 HI2 HPL HG7
  go_upto_region 9 with (fail)
  obtain ⟨V8, hst8, ho, -, hb⟩ := acting HA3.out nothing
  have HO8 := Lib.hid ho
  have HX8 := Lib.hid (hb _ _ HW3.out (by omega))
  clear ho hb write6 HXX
  go_wp2_with (first | (refine wpList_skip rfl (hst8 rfl rfl rfl) ?_) | ((with_reducible refine wpList_build_to rfl 36 _ rfl (cellsA nothing) ?_ ?_); exact built_act0'))
  refine bodyPost_ret (v := encA nothing) (results_cell_row rfl _ _ (w.heap.size + 1) 36 (cellsA nothing) (0, 0) _ rfl HO8.out undAct rfl sizeAct) rfl ?_
  exact ⟨by rw [HVV.out], HX8.out⟩

set_option maxRecDepth 100000 in
set_option maxHeartbeats 8000000 in
theorem rpend_Dt (L : List Obj) (s0 : Value) (ver : Int) (c : Obj) (w : World) (hl : ObjsIn w s0 L) (hn : L.length < 100000) (ht : Tab w) (hb : 0 ≤ c.born ∧ c.born ≤ 18446744073709551615) (hnm : c.name.size ≤ 140737488351232) (hq : bestN L c = none) (hq2 : (getL L 2 c.node).isSome = true) (hno : ¬ c.node = E0) (k : Obj) (hk : getL L 1 c.cls = some k) (hw : k.wait = true) :
    Calls Tryd.prog 35 #[s0, .int .u64 ver, encO c] w fun e w' => e = .returned (encA (pendN (bestN L c) (getL L 1 c.cls) (getL L 2 c.node) (getL L 7 c.source) c (IntKind.u64.wrap (ver + 1)))) ∧ Below w.heap.size w w' := by
  obtain ⟨o, cp, rfl, hm, -⟩ := id hl
  have HL := Lib.hid hl
  have HT := Lib.hid ht
  have HRF := Lib.hid (fun V (hV : Tab V) => rref_any c V hV hb hnm)
  have HBB := Lib.hid (fun V (hV : ObjsIn V (.slice o L.length cp) L) => rbest_any L _ c V hV hn)
  have HG1 := Lib.hid (fun V (hV : ObjsIn V (.slice o L.length cp) L) => rget_any L _ 1 c.cls V hV)
  have HG2 := Lib.hid (fun V (hV : ObjsIn V (.slice o L.length cp) L) => rget_any L _ 2 c.node V hV)
  have HG7 := Lib.hid (fun V (hV : ObjsIn V (.slice o L.length cp) L) => rget_any L _ 7 c.source V hV)
  generalize bestN L c = r at *
  generalize getL L 1 c.cls = cl at *
  generalize getL L 2 c.node = nd at *
  generalize getL L 7 c.source = so at *
  clear hl hn ht hb hnm
  subst hq
  have HQ2 := Lib.hid hq2
  have HNO := Lib.hid hno
  clear hq2 hno
  subst hk
  have HHW := Lib.hid hw
  clear hw
  obtain ⟨x, hx⟩ : ∃ x, pendN none (some k) nd so c (IntKind.u64.wrap (ver + 1)) = x := ⟨_, rfl⟩
  rw [hx]
  have HXX := Lib.hid hx
  clear hx
  have write6 : ∀ (u : Obj), Hid (x = writeA u) → Hid (∀ V, Calls Tryd.prog 32 #[encO u] V fun e w' => e = .returned (encA x) ∧ Below V.heap.size V w') := fun u h => by
    have h' := h.out
    subst h'
    exact fun V => rwrite_any u V
  unfold encO
  go_enter Tryd.func35, Tryd.ntmps35
  go_upto_region 1 with (fail)
  refine wp_gen (fun V => BoxO V w.heap.size c ∧ BoxA V (w.heap.size + 1) nothing ∧ Below w.heap.size w V) (chain2 w _ _) ?_
  rintro V0 ⟨hc0, ha0, hlw0⟩
  have HC0 := Lib.hid hc0
  have HA0 := Lib.hid ha0
  have HW0 := Lib.hid hlw0
  have HB1 := Lib.hid (HBB.out V0 (HL.out.after hlw0))
  clear ha0 hlw0 HBB
  go_wp2_with ((with_reducible refine wpList_load_obj ?_ rfl ?_ hc0 ?_); rfl; rfl)
  clear hc0
  refine HB1.out.mono ?_
  rintro e W1 ⟨rfl, hb1⟩
  obtain ⟨X1, sx1, ox1, lx1, -⟩ := boxing W1 ((none : Option Obj).getD O0)
  have h01 := hb1.trans (lx1.mono hb1.size)
  have hlt := HA0.out
  have hne : w.heap.size + 1 < W1.heap.size := Nat.lt_of_lt_of_le (Array.getElem?_eq_some_iff.1 hlt).1 hb1.size
  have HNE := Lib.hid hne
  have HC1 := Lib.hid (HC0.out.after h01)
  have HA1 := Lib.hid (HA0.out.after h01)
  have HW1 := Lib.hid (HW0.out.trans (h01.mono HW0.out.size))
  clear HB1 hb1 lx1 h01 hlt hne HC0 HA0 HW0
  have HCL := Lib.hid (HG1.out X1 (HL.out.after HW1.out))
  have c6 := HC1.out.c6
  clear ox1 HG1 HRF
  go_upto_region 5 with (refine wpList_skip rfl (sx1 rfl rfl rfl) ?_)
  clear sx1
  go_wp2_with (fail)
  refine HCL.out.mono ?_
  rintro e W2 ⟨rfl, hb2⟩
  obtain ⟨X2, sx2, ox2, lx2, -⟩ := boxing W2 ((some k).getD O0)
  have h12 := hb2.trans (lx2.mono hb2.size)
  have HC2 := Lib.hid (HC1.out.after h12)
  have HA2 := Lib.hid (HA1.out.after h12)
  have HW2 := Lib.hid (HW1.out.trans (h12.mono HW1.out.size))
  have HK2 := Lib.hid ox2
  have HND := Lib.hid (HG2.out X2 (HL.out.after HW2.out))
  have c13 := HC2.out.c13
  clear HCL c6 hb2 ox2 lx2 h12 HC1 HA1 HW1 HG2
  obtain ⟨is1, his1⟩ : ∃ b, (some k).isSome = b := ⟨_, rfl⟩
  rw [his1]
  have HI1 := Lib.hid his1
  clear his1
  go_upto_region 6 with (refine wpList_skip rfl (sx2 rfl rfl rfl) ?_)
  clear sx2
  go_wp2_with (fail)
  refine HND.out.mono ?_
  rintro e W3 ⟨rfl, hb3⟩
  obtain ⟨X3, sx3, ox3, lx3, -⟩ := boxing W3 (nd.getD O0)
  have h23 := hb3.trans (lx3.mono hb3.size)
  have HC3 := Lib.hid (HC2.out.after h23)
  have HA3 := Lib.hid (HA2.out.after h23)
  have HW3 := Lib.hid (HW2.out.trans (h23.mono HW2.out.size))
  have HK3 := Lib.hid (HK2.out.after h23)
  have HN3 := Lib.hid ox3
  have HL3 := Lib.hid (HL.out.after HW3.out)
  have c13 := HC3.out.c13
  have k11 := HK3.out.c11
  have k12 := HK3.out.c12
  have n12 := HN3.out.c12
  have c16 := HC3.out.c16
  clear HND hb3 ox3 lx3 h23 HC2 HA2 HW2 HK2 HL HT
  obtain ⟨is2, his2⟩ : ∃ b, nd.isSome = b := ⟨_, rfl⟩
  rw [his2]
  have HI2 := Lib.hid his2
  clear his2
  go_upto_region 7 with (refine wpList_skip rfl (sx3 rfl rfl rfl) ?_)
  clear sx3
  have h2 : is2 = true := HI2.out.symm.trans HQ2.out
  subst h2
  have HPL : Hid ((nd.isSome && !decide (c.node = E0)) = true) := by show _ = _; rw [HI2.out, decide_eq_false HNO.out]; rfl
  have o1 : c.node.toList ≠ [] := fun e => HNO.out ((emp_iff _).1 e)
  have o2 : (c.node.toList == []) = false := by simpa using o1
  have o3 : c.node.toList.isEmpty = false := by simpa using o1
  go_upto_region 8 with (fail)
  clear o1 o2 o3
  have h1 : is1 = true := HI1.out.symm
  subst h1
  have k11' : X3.cell? ⟨W2.heap.size, 11, none⟩ = some (.bool k.wait) := k11
  have k12' : X3.cell? ⟨W2.heap.size, 12, none⟩ = some (.string k.zone) := k12
  clear k11 k12
  rw [HHW.out] at k11'
  by_cases hz : (nd.getD O0).zone = E0
  · have z1 : (nd.getD O0).zone.toList = [] := (emp_iff _).2 hz
    have z2 : ((nd.getD O0).zone.toList == []) = true := by simp [z1]
    have z3 : (nd.getD O0).zone.toList.isEmpty = true := by simp [z1]
    have HVV : Hid (x = nothing) := by show _ = _; rw [← HXX.out]; unfold pendN; dsimp only; rw [HPL.out]; simp [HHW.out, hz]
    clear hz
    go_upto_region 14 with (fail)
    obtain ⟨V8, hst8, ho, -, hb⟩ := acting HA3.out nothing
    have HO8 := Lib.hid ho
    have HX8 := Lib.hid (hb _ _ HW3.out (by omega))
    clear ho hb write6 HXX
    go_wp2_with (first | (refine wpList_skip rfl (hst8 rfl rfl rfl) ?_) | ((with_reducible refine wpList_build_to rfl 36 _ rfl (cellsA nothing) ?_ ?_); exact built_act0'))
    refine bodyPost_ret (v := encA nothing) (results_cell_row rfl _ _ (w.heap.size + 1) 36 (cellsA nothing) (0, 0) _ rfl HO8.out undAct rfl sizeAct) rfl ?_
    exact ⟨by rw [HVV.out], HX8.out⟩
  · have z1 : (nd.getD O0).zone.toList ≠ [] := fun e => hz ((emp_iff _).1 e)
    have z2 : ((nd.getD O0).zone.toList == []) = false := by simpa using z1
    have z3 : (nd.getD O0).zone.toList.isEmpty = false := by simpa using z1
    by_cases hs : c.source = E0
    · have s1 : c.source.toList = [] := (emp_iff _).2 hs
      have s2 : (c.source.toList == []) = true := by simp [s1]
      have s3 : c.source.toList.isEmpty = true := by simp [s1]
      have HVV : Hid (x = writeA { c with phase := 2, zone := (nd.getD O0).zone, num := IntKind.u64.wrap (ver + 1) }) := by show _ = _; rw [← HXX.out]; unfold pendN; dsimp only; rw [HPL.out]; simp [HHW.out, hz, hs]
      clear hs hz
      have HWR := write6 _ HVV
      clear HVV write6 HXX
      go_upto_region 19 with (fail)
      have q17 := HC3.out.c17
      have p17 := HC3.out.free 17
      have q12 := HC3.out.c12
      have p12 := HC3.out.free 12
      have q18 := HC3.out.c18
      have p18 := HC3.out.free 18
      go_upto_region 20 with (fail)
      refine wp_gen (fun V => BoxO V w.heap.size ({ c with phase := 2, zone := (nd.getD O0).zone, num := IntKind.u64.wrap (ver + 1) } : Obj) ∧ BoxA V (w.heap.size + 1) nothing ∧ Below w.heap.size w V)
        ⟨((HC3.out.s17 2).s12 _).s18 _, (heap_setCell_other _ _ _ _ (by show w.heap.size + 1 ≠ w.heap.size; omega)).trans ((heap_setCell_other _ _ _ _ (by show w.heap.size + 1 ≠ w.heap.size; omega)).trans ((heap_setCell_other _ _ _ _ (by show w.heap.size + 1 ≠ w.heap.size; omega)).trans HA3.out)), ((HW3.out.setCell (Nat.le_refl _) _).setCell (Nat.le_refl _) _).setCell (Nat.le_refl _) _⟩ ?_
      clear q17 p17 q12 p12 q18 p18
      rintro V6 ⟨hk6, ho6, hw6⟩
      have HO6 := Lib.hid ho6
      have HW6 := Lib.hid hw6
      clear ho6 hw6
      go_wp2_with ((with_reducible refine wpList_load_obj ?_ rfl ?_ hk6 ?_); rfl; rfl)
      refine (HWR.out _).mono ?_
      rintro e W7 ⟨rfl, hb7⟩
      obtain ⟨V8, hst8, ho, -, hb⟩ := acting (HO6.out.after hb7) x
      have HO8 := Lib.hid ho
      have HX8 := Lib.hid (hb _ _ (HW6.out.trans (hb7.mono HW6.out.size)) (by omega))
      clear ho hb HWR hb7 hk6
      go_wp2_with (refine wpList_skip rfl (hst8 rfl rfl rfl) ?_)
      refine bodyPost_ret (v := encA x) (results_cell_row rfl _ _ (w.heap.size + 1) 36 (cellsA x) (0, 0) _ rfl HO8.out undAct rfl sizeAct) rfl ?_
      exact ⟨rfl, HX8.out⟩
    · have s1 : c.source.toList ≠ [] := fun e => hs ((emp_iff _).1 e)
      have s2 : (c.source.toList == []) = false := by simpa using s1
      have s3 : c.source.toList.isEmpty = false := by simpa using s1
      have HGS := Lib.hid (HG7.out X3 HL3.out)
      have HHZ := Lib.hid hz
      have HHS := Lib.hid hs
      clear hz hs
      go_upto_region 16 with (fail)
      clear z1 z2 z3 s1 s2 s3
      go_wp2_with (fail)
      refine HGS.out.mono ?_
      rintro e W4 ⟨rfl, hb4⟩
      obtain ⟨X4, sx4, ox4, lx4, -⟩ := boxing W4 (so.getD O0)
      have h34 := hb4.trans (lx4.mono hb4.size)
      have HC4 := Lib.hid (HC3.out.after h34)
      have HA4 := Lib.hid (HA3.out.after h34)
      have HW4 := Lib.hid (HW3.out.trans (h34.mono HW3.out.size))
      have HS4 := Lib.hid ox4
      have c7 := HC4.out.c7
      clear HGS hb4 ox4 lx4 h34 HC3 HA3 HW3 HK3 HN3 HL3 HG7 k11' k12' n12 c16 c13
      cases so with
      | none =>
        have HVV : Hid (x = nothing) := by show _ = _; rw [← HXX.out]; unfold pendN; dsimp only; rw [HPL.out]; simp [HHW.out, HHZ.out, HHS.out]
        clear HS4
        go_upto_region 17 with (refine wpList_skip rfl (sx4 rfl rfl rfl) ?_)
        clear sx4
        go_upto_region 18 with (fail)
        obtain ⟨V8, hst8, ho, -, hb⟩ := acting HA4.out nothing
        have HO8 := Lib.hid ho
        have HX8 := Lib.hid (hb _ _ HW4.out (by omega))
        clear ho hb write6 HXX
        go_wp2_with (first | (refine wpList_skip rfl (hst8 rfl rfl rfl) ?_) | ((with_reducible refine wpList_build_to rfl 36 _ rfl (cellsA nothing) ?_ ?_); exact built_act0'))
        refine bodyPost_ret (v := encA nothing) (results_cell_row rfl _ _ (w.heap.size + 1) 36 (cellsA nothing) (0, 0) _ rfl HO8.out undAct rfl sizeAct) rfl ?_
        exact ⟨by rw [HVV.out], HX8.out⟩
      | some t =>
        replace HS4 : Hid (BoxO X4 W4.heap.size t) := HS4
        go_upto_region 17 with (refine wpList_skip rfl (sx4 rfl rfl rfl) ?_)
        clear sx4
        have t17 := HS4.out.c17
        have t4 := HS4.out.c4
        have t8 := HS4.out.c8
        clear HS4
        by_cases g1 : t.phase = 11
        · have g1n : (t.phase != 11) = false := by rw [g1]; rfl
          cases g2 : t.deleting with
          | true =>
            rw [g2] at t4
            have HVV : Hid (x = nothing) := by show _ = _; rw [← HXX.out]; unfold pendN; dsimp only; rw [HPL.out]; simp [HHW.out, HHZ.out, HHS.out, g1, g2]
            clear g1 g2
            go_upto_region 18 with (fail)
            obtain ⟨V8, hst8, ho, -, hb⟩ := acting HA4.out nothing
            have HO8 := Lib.hid ho
            have HX8 := Lib.hid (hb _ _ HW4.out (by omega))
            clear ho hb write6 HXX
            go_wp2_with (first | (refine wpList_skip rfl (hst8 rfl rfl rfl) ?_) | ((with_reducible refine wpList_build_to rfl 36 _ rfl (cellsA nothing) ?_ ?_); exact built_act0'))
            refine bodyPost_ret (v := encA nothing) (results_cell_row rfl _ _ (w.heap.size + 1) 36 (cellsA nothing) (0, 0) _ rfl HO8.out undAct rfl sizeAct) rfl ?_
            exact ⟨by rw [HVV.out], HX8.out⟩
          | false =>
            rw [g2] at t4
            by_cases g3 : t.got ≤ c.size
            · have g3n : ¬ c.size < t.got := by omega
              have HVV : Hid (x = writeA { c with phase := 2, zone := (nd.getD O0).zone, num := IntKind.u64.wrap (ver + 1) }) := by show _ = _; rw [← HXX.out]; unfold pendN; dsimp only; rw [HPL.out]; simp [HHW.out, HHZ.out, HHS.out, g1, g2, g3]
              clear g1 g2 g3
              have HWR := write6 _ HVV
              clear HVV write6 HXX
              go_upto_region 19 with (fail)
              have q17 := HC4.out.c17
              have p17 := HC4.out.free 17
              have q12 := HC4.out.c12
              have p12 := HC4.out.free 12
              have q18 := HC4.out.c18
              have p18 := HC4.out.free 18
              go_upto_region 20 with (fail)
              refine wp_gen (fun V => BoxO V w.heap.size ({ c with phase := 2, zone := (nd.getD O0).zone, num := IntKind.u64.wrap (ver + 1) } : Obj) ∧ BoxA V (w.heap.size + 1) nothing ∧ Below w.heap.size w V)
                ⟨((HC4.out.s17 2).s12 _).s18 _, (heap_setCell_other _ _ _ _ (by show w.heap.size + 1 ≠ w.heap.size; omega)).trans ((heap_setCell_other _ _ _ _ (by show w.heap.size + 1 ≠ w.heap.size; omega)).trans ((heap_setCell_other _ _ _ _ (by show w.heap.size + 1 ≠ w.heap.size; omega)).trans HA4.out)), ((HW4.out.setCell (Nat.le_refl _) _).setCell (Nat.le_refl _) _).setCell (Nat.le_refl _) _⟩ ?_
              clear q17 p17 q12 p12 q18 p18
              rintro V6 ⟨hk6, ho6, hw6⟩
              have HO6 := Lib.hid ho6
              have HW6 := Lib.hid hw6
              clear ho6 hw6
              go_wp2_with ((with_reducible refine wpList_load_obj ?_ rfl ?_ hk6 ?_); rfl; rfl)
              refine (HWR.out _).mono ?_
              rintro e W7 ⟨rfl, hb7⟩
              obtain ⟨V8, hst8, ho, -, hb⟩ := acting (HO6.out.after hb7) x
              have HO8 := Lib.hid ho
              have HX8 := Lib.hid (hb _ _ (HW6.out.trans (hb7.mono HW6.out.size)) (by omega))
              clear ho hb HWR hb7 hk6
              go_wp2_with (refine wpList_skip rfl (hst8 rfl rfl rfl) ?_)
              refine bodyPost_ret (v := encA x) (results_cell_row rfl _ _ (w.heap.size + 1) 36 (cellsA x) (0, 0) _ rfl HO8.out undAct rfl sizeAct) rfl ?_
              exact ⟨rfl, HX8.out⟩
            · have g3n : c.size < t.got := by omega
              have HVV : Hid (x = nothing) := by show _ = _; rw [← HXX.out]; unfold pendN; dsimp only; rw [HPL.out]; simp [HHW.out, HHZ.out, HHS.out, g1, g2, g3]
              clear g1 g2 g3
              go_upto_region 18 with (fail)
              obtain ⟨V8, hst8, ho, -, hb⟩ := acting HA4.out nothing
              have HO8 := Lib.hid ho
              have HX8 := Lib.hid (hb _ _ HW4.out (by omega))
              clear ho hb write6 HXX
              go_wp2_with (first | (refine wpList_skip rfl (hst8 rfl rfl rfl) ?_) | ((with_reducible refine wpList_build_to rfl 36 _ rfl (cellsA nothing) ?_ ?_); exact built_act0'))
              refine bodyPost_ret (v := encA nothing) (results_cell_row rfl _ _ (w.heap.size + 1) 36 (cellsA nothing) (0, 0) _ rfl HO8.out undAct rfl sizeAct) rfl ?_
              exact ⟨by rw [HVV.out], HX8.out⟩
        · have g1n : (t.phase != 11) = true := by simpa using g1
          have HVV : Hid (x = nothing) := by show _ = _; rw [← HXX.out]; unfold pendN; dsimp only; rw [HPL.out]; simp [HHW.out, HHZ.out, HHS.out, g1]
          clear g1
          go_upto_region 18 with (fail)
          obtain ⟨V8, hst8, ho, -, hb⟩ := acting HA4.out nothing
          have HO8 := Lib.hid ho
          have HX8 := Lib.hid (hb _ _ HW4.out (by omega))
          clear ho hb write6 HXX
          go_wp2_with (first | (refine wpList_skip rfl (hst8 rfl rfl rfl) ?_) | ((with_reducible refine wpList_build_to rfl 36 _ rfl (cellsA nothing) ?_ ?_); exact built_act0'))
          refine bodyPost_ret (v := encA nothing) (results_cell_row rfl _ _ (w.heap.size + 1) 36 (cellsA nothing) (0, 0) _ rfl HO8.out undAct rfl sizeAct) rfl ?_
          exact ⟨by rw [HVV.out], HX8.out⟩
end Go.Proofs.YtfpdchabknoklaaDoor.O.B
namespace Go.Proofs.YtfpdchabknoklaaDoor.O.B
open Go Go.RowKit Go.Shelf Go.Lib RangeMap KM
attribute [local go_sem] Oper.semAt_some

set_option maxRecDepth 100000 in
set_option maxHeartbeats 8000000 in
theorem rpend_Df (L : List Obj) (s0 : Value) (ver : Int) (c : Obj) (w : World) (hl : ObjsIn w s0 L) (hn : L.length < 100000) (ht : Tab w) (hb : 0 ≤ c.born ∧ c.born ≤ 18446744073709551615) (hnm : c.name.size ≤ 140737488351232) (hq : bestN L c = none) (hq2 : (getL L 2 c.node).isSome = true) (hno : ¬ c.node = E0) (k : Obj) (hk : getL L 1 c.cls = some k) (hw : k.wait = false) :
    Calls Tryd.prog 35 #[s0, .int .u64 ver, encO c] w fun e w' => e = .returned (encA (pendN (bestN L c) (getL L 1 c.cls) (getL L 2 c.node) (getL L 7 c.source) c (IntKind.u64.wrap (ver + 1)))) ∧ Below w.heap.size w w' := by
  obtain ⟨o, cp, rfl, hm, -⟩ := id hl
  have HL := Lib.hid hl
  have HT := Lib.hid ht
  have HRF := Lib.hid (fun V (hV : Tab V) => rref_any c V hV hb hnm)
  have HBB := Lib.hid (fun V (hV : ObjsIn V (.slice o L.length cp) L) => rbest_any L _ c V hV hn)
  have HG1 := Lib.hid (fun V (hV : ObjsIn V (.slice o L.length cp) L) => rget_any L _ 1 c.cls V hV)
  have HG2 := Lib.hid (fun V (hV : ObjsIn V (.slice o L.length cp) L) => rget_any L _ 2 c.node V hV)
  have HG7 := Lib.hid (fun V (hV : ObjsIn V (.slice o L.length cp) L) => rget_any L _ 7 c.source V hV)
  generalize bestN L c = r at *
  generalize getL L 1 c.cls = cl at *
  generalize getL L 2 c.node = nd at *
  generalize getL L 7 c.source = so at *
  clear hl hn ht hb hnm
  subst hq
  have HQ2 := Lib.hid hq2
  have HNO := Lib.hid hno
  clear hq2 hno
  subst hk
  have HHW := Lib.hid hw
  clear hw
  obtain ⟨x, hx⟩ : ∃ x, pendN none (some k) nd so c (IntKind.u64.wrap (ver + 1)) = x := ⟨_, rfl⟩
  rw [hx]
  have HXX := Lib.hid hx
  clear hx
  have write6 : ∀ (u : Obj), Hid (x = writeA u) → Hid (∀ V, Calls Tryd.prog 32 #[encO u] V fun e w' => e = .returned (encA x) ∧ Below V.heap.size V w') := fun u h => by
    have h' := h.out
    subst h'
    exact fun V => rwrite_any u V
  unfold encO
  go_enter Tryd.func35, Tryd.ntmps35
  go_upto_region 1 with (fail)
  refine wp_gen (fun V => BoxO V w.heap.size c ∧ BoxA V (w.heap.size + 1) nothing ∧ Below w.heap.size w V) (chain2 w _ _) ?_
  rintro V0 ⟨hc0, ha0, hlw0⟩
  have HC0 := Lib.hid hc0
  have HA0 := Lib.hid ha0
  have HW0 := Lib.hid hlw0
  have HB1 := Lib.hid (HBB.out V0 (HL.out.after hlw0))
  clear ha0 hlw0 HBB
  go_wp2_with ((with_reducible refine wpList_load_obj ?_ rfl ?_ hc0 ?_); rfl; rfl)
  clear hc0
  refine HB1.out.mono ?_
  rintro e W1 ⟨rfl, hb1⟩
  obtain ⟨X1, sx1, ox1, lx1, -⟩ := boxing W1 ((none : Option Obj).getD O0)
  have h01 := hb1.trans (lx1.mono hb1.size)
  have hlt := HA0.out
  have hne : w.heap.size + 1 < W1.heap.size := Nat.lt_of_lt_of_le (Array.getElem?_eq_some_iff.1 hlt).1 hb1.size
  have HNE := Lib.hid hne
  have HC1 := Lib.hid (HC0.out.after h01)
  have HA1 := Lib.hid (HA0.out.after h01)
  have HW1 := Lib.hid (HW0.out.trans (h01.mono HW0.out.size))
  clear HB1 hb1 lx1 h01 hlt hne HC0 HA0 HW0
  have HCL := Lib.hid (HG1.out X1 (HL.out.after HW1.out))
  have c6 := HC1.out.c6
  clear ox1 HG1 HRF
  go_upto_region 5 with (refine wpList_skip rfl (sx1 rfl rfl rfl) ?_)
  clear sx1
  go_wp2_with (fail)
  refine HCL.out.mono ?_
  rintro e W2 ⟨rfl, hb2⟩
  obtain ⟨X2, sx2, ox2, lx2, -⟩ := boxing W2 ((some k).getD O0)
  have h12 := hb2.trans (lx2.mono hb2.size)
  have HC2 := Lib.hid (HC1.out.after h12)
  have HA2 := Lib.hid (HA1.out.after h12)
  have HW2 := Lib.hid (HW1.out.trans (h12.mono HW1.out.size))
  have HK2 := Lib.hid ox2
  have HND := Lib.hid (HG2.out X2 (HL.out.after HW2.out))
  have c13 := HC2.out.c13
  clear HCL c6 hb2 ox2 lx2 h12 HC1 HA1 HW1 HG2
  obtain ⟨is1, his1⟩ : ∃ b, (some k).isSome = b := ⟨_, rfl⟩
  rw [his1]
  have HI1 := Lib.hid his1
  clear his1
  go_upto_region 6 with (refine wpList_skip rfl (sx2 rfl rfl rfl) ?_)
  clear sx2
  go_wp2_with (fail)
  refine HND.out.mono ?_
  rintro e W3 ⟨rfl, hb3⟩
  obtain ⟨X3, sx3, ox3, lx3, -⟩ := boxing W3 (nd.getD O0)
  have h23 := hb3.trans (lx3.mono hb3.size)
  have HC3 := Lib.hid (HC2.out.after h23)
  have HA3 := Lib.hid (HA2.out.after h23)
  have HW3 := Lib.hid (HW2.out.trans (h23.mono HW2.out.size))
  have HK3 := Lib.hid (HK2.out.after h23)
  have HN3 := Lib.hid ox3
  have HL3 := Lib.hid (HL.out.after HW3.out)
  have c13 := HC3.out.c13
  have k11 := HK3.out.c11
  have k12 := HK3.out.c12
  have n12 := HN3.out.c12
  have c16 := HC3.out.c16
  clear HND hb3 ox3 lx3 h23 HC2 HA2 HW2 HK2 HL HT
  obtain ⟨is2, his2⟩ : ∃ b, nd.isSome = b := ⟨_, rfl⟩
  rw [his2]
  have HI2 := Lib.hid his2
  clear his2
  go_upto_region 7 with (refine wpList_skip rfl (sx3 rfl rfl rfl) ?_)
  clear sx3
  have h2 : is2 = true := HI2.out.symm.trans HQ2.out
  subst h2
  have HPL : Hid ((nd.isSome && !decide (c.node = E0)) = true) := by show _ = _; rw [HI2.out, decide_eq_false HNO.out]; rfl
  have o1 : c.node.toList ≠ [] := fun e => HNO.out ((emp_iff _).1 e)
  have o2 : (c.node.toList == []) = false := by simpa using o1
  have o3 : c.node.toList.isEmpty = false := by simpa using o1
  go_upto_region 8 with (fail)
  clear o1 o2 o3
  have h1 : is1 = true := HI1.out.symm
  subst h1
  have k11' : X3.cell? ⟨W2.heap.size, 11, none⟩ = some (.bool k.wait) := k11
  have k12' : X3.cell? ⟨W2.heap.size, 12, none⟩ = some (.string k.zone) := k12
  clear k11 k12
  rw [HHW.out] at k11'
  by_cases hz : (nd.getD O0).zone = E0
  · have z1 : (nd.getD O0).zone.toList = [] := (emp_iff _).2 hz
    have z2 : ((nd.getD O0).zone.toList == []) = true := by simp [z1]
    have z3 : (nd.getD O0).zone.toList.isEmpty = true := by simp [z1]
    have HVV : Hid (x = nothing) := by show _ = _; rw [← HXX.out]; unfold pendN; dsimp only; rw [HPL.out]; simp [HHW.out, hz]
    clear hz
    go_upto_region 14 with (fail)
    obtain ⟨V8, hst8, ho, -, hb⟩ := acting HA3.out nothing
    have HO8 := Lib.hid ho
    have HX8 := Lib.hid (hb _ _ HW3.out (by omega))
    clear ho hb write6 HXX
    go_wp2_with (first | (refine wpList_skip rfl (hst8 rfl rfl rfl) ?_) | ((with_reducible refine wpList_build_to rfl 36 _ rfl (cellsA nothing) ?_ ?_); exact built_act0'))
    refine bodyPost_ret (v := encA nothing) (results_cell_row rfl _ _ (w.heap.size + 1) 36 (cellsA nothing) (0, 0) _ rfl HO8.out undAct rfl sizeAct) rfl ?_
    exact ⟨by rw [HVV.out], HX8.out⟩
  · have z1 : (nd.getD O0).zone.toList ≠ [] := fun e => hz ((emp_iff _).1 e)
    have z2 : ((nd.getD O0).zone.toList == []) = false := by simpa using z1
    have z3 : (nd.getD O0).zone.toList.isEmpty = false := by simpa using z1
    by_cases hs : c.source = E0
    · have s1 : c.source.toList = [] := (emp_iff _).2 hs
      have s2 : (c.source.toList == []) = true := by simp [s1]
      have s3 : c.source.toList.isEmpty = true := by simp [s1]
      have HVV : Hid (x = writeA { c with phase := 2, zone := (nd.getD O0).zone, num := IntKind.u64.wrap (ver + 1) }) := by show _ = _; rw [← HXX.out]; unfold pendN; dsimp only; rw [HPL.out]; simp [HHW.out, hz, hs]
      clear hs hz
      have HWR := write6 _ HVV
      clear HVV write6 HXX
      go_upto_region 19 with (fail)
      have q17 := HC3.out.c17
      have p17 := HC3.out.free 17
      have q12 := HC3.out.c12
      have p12 := HC3.out.free 12
      have q18 := HC3.out.c18
      have p18 := HC3.out.free 18
      go_upto_region 20 with (fail)
      refine wp_gen (fun V => BoxO V w.heap.size ({ c with phase := 2, zone := (nd.getD O0).zone, num := IntKind.u64.wrap (ver + 1) } : Obj) ∧ BoxA V (w.heap.size + 1) nothing ∧ Below w.heap.size w V)
        ⟨((HC3.out.s17 2).s12 _).s18 _, (heap_setCell_other _ _ _ _ (by show w.heap.size + 1 ≠ w.heap.size; omega)).trans ((heap_setCell_other _ _ _ _ (by show w.heap.size + 1 ≠ w.heap.size; omega)).trans ((heap_setCell_other _ _ _ _ (by show w.heap.size + 1 ≠ w.heap.size; omega)).trans HA3.out)), ((HW3.out.setCell (Nat.le_refl _) _).setCell (Nat.le_refl _) _).setCell (Nat.le_refl _) _⟩ ?_
      clear q17 p17 q12 p12 q18 p18
      rintro V6 ⟨hk6, ho6, hw6⟩
      have HO6 := Lib.hid ho6
      have HW6 := Lib.hid hw6
      clear ho6 hw6
      go_wp2_with ((with_reducible refine wpList_load_obj ?_ rfl ?_ hk6 ?_); rfl; rfl)
      refine (HWR.out _).mono ?_
      rintro e W7 ⟨rfl, hb7⟩
      obtain ⟨V8, hst8, ho, -, hb⟩ := acting (HO6.out.after hb7) x
      have HO8 := Lib.hid ho
      have HX8 := Lib.hid (hb _ _ (HW6.out.trans (hb7.mono HW6.out.size)) (by omega))
      clear ho hb HWR hb7 hk6
      go_wp2_with (refine wpList_skip rfl (hst8 rfl rfl rfl) ?_)
      refine bodyPost_ret (v := encA x) (results_cell_row rfl _ _ (w.heap.size + 1) 36 (cellsA x) (0, 0) _ rfl HO8.out undAct rfl sizeAct) rfl ?_
      exact ⟨rfl, HX8.out⟩
    · have s1 : c.source.toList ≠ [] := fun e => hs ((emp_iff _).1 e)
      have s2 : (c.source.toList == []) = false := by simpa using s1
      have s3 : c.source.toList.isEmpty = false := by simpa using s1
      have HGS := Lib.hid (HG7.out X3 HL3.out)
      have HHZ := Lib.hid hz
      have HHS := Lib.hid hs
      clear hz hs
      go_upto_region 16 with (fail)
      clear z1 z2 z3 s1 s2 s3
      go_wp2_with (fail)
      refine HGS.out.mono ?_
      rintro e W4 ⟨rfl, hb4⟩
      obtain ⟨X4, sx4, ox4, lx4, -⟩ := boxing W4 (so.getD O0)
      have h34 := hb4.trans (lx4.mono hb4.size)
      have HC4 := Lib.hid (HC3.out.after h34)
      have HA4 := Lib.hid (HA3.out.after h34)
      have HW4 := Lib.hid (HW3.out.trans (h34.mono HW3.out.size))
      have HS4 := Lib.hid ox4
      have c7 := HC4.out.c7
      clear HGS hb4 ox4 lx4 h34 HC3 HA3 HW3 HK3 HN3 HL3 HG7 k11' k12' n12 c16 c13
      cases so with
      | none =>
        have HVV : Hid (x = nothing) := by show _ = _; rw [← HXX.out]; unfold pendN; dsimp only; rw [HPL.out]; simp [HHW.out, HHZ.out, HHS.out]
        clear HS4
        go_upto_region 17 with (refine wpList_skip rfl (sx4 rfl rfl rfl) ?_)
        clear sx4
        go_upto_region 18 with (fail)
        obtain ⟨V8, hst8, ho, -, hb⟩ := acting HA4.out nothing
        have HO8 := Lib.hid ho
        have HX8 := Lib.hid (hb _ _ HW4.out (by omega))
        clear ho hb write6 HXX
        go_wp2_with (first | (refine wpList_skip rfl (hst8 rfl rfl rfl) ?_) | ((with_reducible refine wpList_build_to rfl 36 _ rfl (cellsA nothing) ?_ ?_); exact built_act0'))
        refine bodyPost_ret (v := encA nothing) (results_cell_row rfl _ _ (w.heap.size + 1) 36 (cellsA nothing) (0, 0) _ rfl HO8.out undAct rfl sizeAct) rfl ?_
        exact ⟨by rw [HVV.out], HX8.out⟩
      | some t =>
        replace HS4 : Hid (BoxO X4 W4.heap.size t) := HS4
        go_upto_region 17 with (refine wpList_skip rfl (sx4 rfl rfl rfl) ?_)
        clear sx4
        have t17 := HS4.out.c17
        have t4 := HS4.out.c4
        have t8 := HS4.out.c8
        clear HS4
        by_cases g1 : t.phase = 11
        · have g1n : (t.phase != 11) = false := by rw [g1]; rfl
          cases g2 : t.deleting with
          | true =>
            rw [g2] at t4
            have HVV : Hid (x = nothing) := by show _ = _; rw [← HXX.out]; unfold pendN; dsimp only; rw [HPL.out]; simp [HHW.out, HHZ.out, HHS.out, g1, g2]
            clear g1 g2
            go_upto_region 18 with (fail)
            obtain ⟨V8, hst8, ho, -, hb⟩ := acting HA4.out nothing
            have HO8 := Lib.hid ho
            have HX8 := Lib.hid (hb _ _ HW4.out (by omega))
            clear ho hb write6 HXX
            go_wp2_with (first | (refine wpList_skip rfl (hst8 rfl rfl rfl) ?_) | ((with_reducible refine wpList_build_to rfl 36 _ rfl (cellsA nothing) ?_ ?_); exact built_act0'))
            refine bodyPost_ret (v := encA nothing) (results_cell_row rfl _ _ (w.heap.size + 1) 36 (cellsA nothing) (0, 0) _ rfl HO8.out undAct rfl sizeAct) rfl ?_
            exact ⟨by rw [HVV.out], HX8.out⟩
          | false =>
            rw [g2] at t4
            by_cases g3 : t.got ≤ c.size
            · have g3n : ¬ c.size < t.got := by omega
              have HVV : Hid (x = writeA { c with phase := 2, zone := (nd.getD O0).zone, num := IntKind.u64.wrap (ver + 1) }) := by show _ = _; rw [← HXX.out]; unfold pendN; dsimp only; rw [HPL.out]; simp [HHW.out, HHZ.out, HHS.out, g1, g2, g3]
              clear g1 g2 g3
              have HWR := write6 _ HVV
              clear HVV write6 HXX
              go_upto_region 19 with (fail)
              have q17 := HC4.out.c17
              have p17 := HC4.out.free 17
              have q12 := HC4.out.c12
              have p12 := HC4.out.free 12
              have q18 := HC4.out.c18
              have p18 := HC4.out.free 18
              go_upto_region 20 with (fail)
              refine wp_gen (fun V => BoxO V w.heap.size ({ c with phase := 2, zone := (nd.getD O0).zone, num := IntKind.u64.wrap (ver + 1) } : Obj) ∧ BoxA V (w.heap.size + 1) nothing ∧ Below w.heap.size w V)
                ⟨((HC4.out.s17 2).s12 _).s18 _, (heap_setCell_other _ _ _ _ (by show w.heap.size + 1 ≠ w.heap.size; omega)).trans ((heap_setCell_other _ _ _ _ (by show w.heap.size + 1 ≠ w.heap.size; omega)).trans ((heap_setCell_other _ _ _ _ (by show w.heap.size + 1 ≠ w.heap.size; omega)).trans HA4.out)), ((HW4.out.setCell (Nat.le_refl _) _).setCell (Nat.le_refl _) _).setCell (Nat.le_refl _) _⟩ ?_
              clear q17 p17 q12 p12 q18 p18
              rintro V6 ⟨hk6, ho6, hw6⟩
              have HO6 := Lib.hid ho6
              have HW6 := Lib.hid hw6
              clear ho6 hw6
              go_wp2_with ((with_reducible refine wpList_load_obj ?_ rfl ?_ hk6 ?_); rfl; rfl)
              refine (HWR.out _).mono ?_
              rintro e W7 ⟨rfl, hb7⟩
              obtain ⟨V8, hst8, ho, -, hb⟩ := acting (HO6.out.after hb7) x
              have HO8 := Lib.hid ho
              have HX8 := Lib.hid (hb _ _ (HW6.out.trans (hb7.mono HW6.out.size)) (by omega))
              clear ho hb HWR hb7 hk6
              go_wp2_with (refine wpList_skip rfl (hst8 rfl rfl rfl) ?_)
              refine bodyPost_ret (v := encA x) (results_cell_row rfl _ _ (w.heap.size + 1) 36 (cellsA x) (0, 0) _ rfl HO8.out undAct rfl sizeAct) rfl ?_
              exact ⟨rfl, HX8.out⟩
            · have g3n : c.size < t.got := by omega
              have HVV : Hid (x = nothing) := by show _ = _; rw [← HXX.out]; unfold pendN; dsimp only; rw [HPL.out]; simp [HHW.out, HHZ.out, HHS.out, g1, g2, g3]
              clear g1 g2 g3
              go_upto_region 18 with (fail)
              obtain ⟨V8, hst8, ho, -, hb⟩ := acting HA4.out nothing
              have HO8 := Lib.hid ho
              have HX8 := Lib.hid (hb _ _ HW4.out (by omega))
              clear ho hb write6 HXX
              go_wp2_with (first | (refine wpList_skip rfl (hst8 rfl rfl rfl) ?_) | ((with_reducible refine wpList_build_to rfl 36 _ rfl (cellsA nothing) ?_ ?_); exact built_act0'))
              refine bodyPost_ret (v := encA nothing) (results_cell_row rfl _ _ (w.heap.size + 1) 36 (cellsA nothing) (0, 0) _ rfl HO8.out undAct rfl sizeAct) rfl ?_
              exact ⟨by rw [HVV.out], HX8.out⟩
        · have g1n : (t.phase != 11) = true := by simpa using g1
          have HVV : Hid (x = nothing) := by show _ = _; rw [← HXX.out]; unfold pendN; dsimp only; rw [HPL.out]; simp [HHW.out, HHZ.out, HHS.out, g1]
          clear g1
          go_upto_region 18 with (fail)
          obtain ⟨V8, hst8, ho, -, hb⟩ := acting HA4.out nothing
          have HO8 := Lib.hid ho
          have HX8 := Lib.hid (hb _ _ HW4.out (by omega))
          clear ho hb write6 HXX
          go_wp2_with (first | (refine wpList_skip rfl (hst8 rfl rfl rfl) ?_) | ((with_reducible refine wpList_build_to rfl 36 _ rfl (cellsA nothing) ?_ ?_); exact built_act0'))
          refine bodyPost_ret (v := encA nothing) (results_cell_row rfl _ _ (w.heap.size + 1) 36 (cellsA nothing) (0, 0) _ rfl HO8.out undAct rfl sizeAct) rfl ?_
          exact ⟨by rw [HVV.out], HX8.out⟩
end Go.Proofs.YtfpdchabknoklaaDoor.O.B
namespace Go.Proofs.YtfpdchabknoklaaDoor.O.B
open Go Go.RowKit Go.Shelf Go.Lib RangeMap KM
attribute [local go_sem] Oper.semAt_some

theorem rpending_any (L : List Obj) (s0 : Value) (ver : Int) (c : Obj) (w : World) (hl : ObjsIn w s0 L) (hn : L.length < 100000) (ht : Tab w) (hb : 0 ≤ c.born ∧ c.born ≤ 18446744073709551615) (hnm : c.name.size ≤ 140737488351232) :
    Calls Tryd.prog 35 #[s0, .int .u64 ver, encO c] w fun e w' => e = .returned (encA (pendN (bestN L c) (getL L 1 c.cls) (getL L 2 c.node) (getL L 7 c.source) c (IntKind.u64.wrap (ver + 1)))) ∧ Below w.heap.size w w' := by
  cases hq : bestN L c with
  | some v =>
    have h := rpend_some L s0 ver c w hl hn ht hb hnm (by rw [hq]; rfl)
    rw [hq] at h
    exact h
  | none =>
    rw [← hq]
    cases hk : getL L 1 c.cls with
    | none =>
      rw [← hk]
      cases hq2 : (getL L 2 c.node).isSome with
      | false => exact rpend_Bnone L s0 ver c w hl hn ht hb hnm hq hq2 hk
      | true =>
        by_cases hno : c.node = E0
        · exact rpend_Cnone L s0 ver c w hl hn ht hb hnm hq hq2 hno hk
        · exact rpend_Dnone L s0 ver c w hl hn ht hb hnm hq hq2 hno hk
    | some k =>
      rw [← hk]
      cases hq2 : (getL L 2 c.node).isSome with
      | false =>
        cases hw : k.wait with
        | true => exact rpend_Bt L s0 ver c w hl hn ht hb hnm hq hq2 k hk hw
        | false => exact rpend_Bf L s0 ver c w hl hn ht hb hnm hq hq2 k hk hw
      | true =>
        by_cases hno : c.node = E0
        · cases hw : k.wait with
          | true => exact rpend_Ct L s0 ver c w hl hn ht hb hnm hq hq2 hno k hk hw
          | false => exact rpend_Cf L s0 ver c w hl hn ht hb hnm hq hq2 hno k hk hw
        · cases hw : k.wait with
          | true => exact rpend_Dt L s0 ver c w hl hn ht hb hnm hq hq2 hno k hk hw
          | false => exact rpend_Df L s0 ver c w hl hn ht hb hnm hq hq2 hno k hk hw
end Go.Proofs.YtfpdchabknoklaaDoor.O.B
namespace Go.Proofs.YtfpdchabknoklaaDoor.O.B
open Go Go.RowKit Go.Shelf Go.Lib RangeMap KM
attribute [local go_sem] Oper.semAt_some

theorem node_uniq (l : List Obj) (c : Obj) : nodeN (uniqL l) c = nodeN l c := by
  unfold nodeN
  rw [uniq_get]
theorem bestN_uniq (l : List Obj) (c : Obj) : bestN (uniqL l) c = bestN l c := by
  unfold bestN
  rw [node_uniq, there_idem]
theorem pend_is (l : List Obj) (c : Obj) (next : Int) : pendN (bestN (uniqL l) c) (getL l 1 c.cls) (getL l 2 c.node) (getL l 7 c.source) c next = beginN l c next := by
  rw [bestN_uniq]
  unfold pendN beginN zoneN readyN nodeN
  cases bestN l c with
  | some v => rfl
  | none =>
    dsimp only
    cases getL l 1 c.cls with
    | none => simp
    | some k =>
      dsimp only
      cases getL l 2 c.node with
      | none =>
        by_cases h2 : k.wait = true <;> by_cases h3 : c.node = E0 <;> by_cases h4 : k.zone = E0 <;> by_cases h5 : c.source = E0 <;> cases getL l 7 c.source <;> simp [h2, h3, h4, h5]
      | some n =>
        by_cases h3 : c.node = E0
        · by_cases h2 : k.wait = true <;> by_cases h4 : k.zone = E0 <;> by_cases h5 : c.source = E0 <;> cases getL l 7 c.source <;> simp [h2, h3, h4, h5]
        · by_cases h4 : n.zone = E0 <;> by_cases h5 : c.source = E0 <;> cases getL l 7 c.source <;> simp [h3, h4, h5]
end Go.Proofs.YtfpdchabknoklaaDoor.O.B
