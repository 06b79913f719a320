/- What is done next for a claim, as the document says it. -/
import Derived.Test.YtfpdchabknoklaaDoorBClaim
import Derived.Test.YtfpdchabknoklaaDoorKRefG
import Derived.Test.YtfpdchabknoklaaDoorHeldBy
import Derived.LoopTactic
import Derived.Test.YtfpdchabknoklaaDoorOCore
import Derived.Test.YtfpdchabknoklaaDoorBCl0
import Derived.Test.YtfpdchabknoklaaDoorKUniq
import Derived.Test.YtfpdchabknoklaaDoorKUniqT
import Derived.Test.YtfpdchabknoklaaDoorBCl2
namespace Go.Proofs.YtfpdchabknoklaaDoor.O.B
open Go Go.RowKit Go.Shelf Go.Lib RangeMap KM
attribute [local go_sem] Oper.semAt_some

def fO : Obj := { O0 with kind := 1, name := ⟨#[102]⟩, zone := ⟨#[122]⟩ }
def cO : Obj := { O0 with kind := 3, name := ⟨#[99]⟩, version := 2, born := 2, hold := true, cls := ⟨#[102]⟩, size := 4, mode := 1, phase := 1 }
def cO' : Obj := { cO with phase := 2, zone := ⟨#[122]⟩, num := 8 }
theorem live_act : claimN [fO, cO] 7 ⟨#[99]⟩ = writeA cO' := by kernel_rfl
theorem live_ref : refN cO = ⟨#[99, 35, 50]⟩ := by kernel_rfl
theorem live_handle : handleN cO = ⟨#[112, 118, 99, 47, 99, 35, 50]⟩ := by kernel_rfl
theorem built_c : Tryd.prog.built 31 [(0, .int .u8 3), (1, .string ⟨#[99]⟩), (2, .int .u64 2), (3, .int .u64 2), (6, .string ⟨#[102]⟩), (7, .int .i64 4), (9, .int .u8 1), (17, .int .u8 1), (5, .bool true)] = some (cellsO cO) := by kernel_rfl
theorem built_f : Tryd.prog.built 31 [(0, .int .u8 1), (1, .string ⟨#[102]⟩), (12, .string ⟨#[122]⟩)] = some (cellsO fO) := by kernel_rfl

theorem two_ok : ∀ s ∈ [fO, cO], (0 ≤ s.born ∧ s.born ≤ 18446744073709551615) ∧ s.name.size ≤ 140737488351232 := by
  intro s hs
  simp only [List.mem_cons, List.not_mem_nil, or_false] at hs
  rcases hs with rfl | rfl
  · exact ⟨⟨by decide, by decide⟩, by decide⟩
  · exact ⟨⟨by decide, by decide⟩, by decide⟩
theorem objs_two (V : World) (a b : Obj) : ObjsIn (V.alloc (.cells (cellsO a ++ cellsO b) 31 (0, 0))) (.slice (some ⟨V.heap.size, 0, none⟩) 2 2) [a, b] := by
  have hrow := heap_alloc_new V (.cells (cellsO a ++ cellsO b) 31 (0, 0))
  refine ⟨_, 2, rfl, by simp, fun i h => ⟨V.heap.size, 0, rfl, (Array.getElem?_eq_some_iff.1 hrow).1, fun j v hv => ?_⟩⟩
  rw [cell_of_row _ _ _ _ _ _ hrow]
  have hi : i = 0 ∨ i = 1 := by simp at h; omega
  rcases hi with rfl | rfl
  · have hj : j < (cellsO a).size := by
      have := (List.getElem?_eq_some_iff.1 hv).1
      simpa using this
    rw [show 0 + 0 * 20 + j = j by omega, Array.getElem?_append_left hj, ← Array.getElem?_toList]
    exact hv
  · rw [show 0 + 1 * 20 + j = (cellsO a).size + j from (by show 0 + 1 * 20 + j = 20 + j; omega), Array.getElem?_append_right (Nat.le_add_right _ _), Nat.add_sub_cancel_left, ← Array.getElem?_toList]
    exact hv

set_option maxRecDepth 100000 in
set_option maxHeartbeats 2000000 in
theorem live_any (w : World) (ht : Tab w) : Calls Tryd.prog 7 #[] w fun e w' => e = .returned (.bool true) ∧ Below w.heap.size w w' := by
  have HT := Lib.hid ht
  clear ht
  go_enter Tryd.func7, Tryd.ntmps7
  obtain ⟨V, hst, hk, hb, -⟩ := boxing w cO
  go_upto_region 2 with (first | (refine wpList_skip rfl (hst rfl rfl rfl) ?_) | ((with_reducible refine wpList_build_to rfl 31 _ rfl (cellsO cO) ?_ ?_); exact built_c))
  have hbx := hk
  go_wp2_with (first | (refine wpList_got (v := .agg (cellsO cO)) rfl (load_obj hbx rfl rfl) ?_) | ((with_reducible refine wpList_build_to rfl 31 _ rfl (cellsO fO) ?_ ?_); exact built_f))
  change Calls _ _ _ (V.alloc (.cells (cellsO fO ++ cellsO cO) 31 (0, 0))) _
  have hob := objs_two V fO cO
  obtain ⟨W2, hW2⟩ : ∃ W2, V.alloc (.cells (cellsO fO ++ cellsO cO) 31 (0, 0)) = W2 := ⟨_, rfl⟩
  have hw2 : Below w.heap.size w W2 := by rw [← hW2]; exact hb.alloc hb.size _
  have hk2 : BoxO W2 w.heap.size cO := by rw [← hW2]; exact hk.alloc _
  rw [hW2] at hob ⊢
  have HC := Lib.hid (claim_any [fO, cO] _ 7 ⟨#[99]⟩ W2 hob (HT.out.after hw2) two_ok)
  rw [live_act] at HC
  have HK := Lib.hid hk2
  have HW := Lib.hid hw2
  clear hob hW2 hw2 hk2 hbx hk hb hst
  refine HC.out.mono ?_
  rintro e W3 ⟨rfl, hb3⟩
  have k3 : BoxA (W3.alloc (.cells (cellsA nothing) 36 (0, 0))) W3.heap.size nothing := heap_alloc_new _ _
  obtain ⟨V4, hst4, ha4, ho4, hb4⟩ := acting k3 (writeA cO')
  have hw3 := HW.out.trans (hb3.mono HW.out.size)
  have hs3 : w.heap.size < W3.heap.size := Nat.lt_of_lt_of_le HK.out.lt hb3.size
  have hk4 : BoxO V4 w.heap.size cO := (ho4 _ (by omega)).trans ((HK.out.after hb3).alloc _)
  have hw4 : Below w.heap.size w V4 := hb4 _ _ (hw3.alloc hw3.size _) (by omega)
  have HW4 := Lib.hid hw4
  have HA4 := Lib.hid ha4
  have HR := Lib.hid (ref_any cO V4 (HT.out.after hw4) (by decide) (by decide))
  rw [live_ref] at HR
  have HK4 := Lib.hid hk4
  have hbx := hk4
  clear HC HK HW hb3 k3 ho4 hb4 hw3 hs3 hw4 hk4 ha4
  go_wp2_with (first | (refine wpList_skip rfl (hst4 rfl rfl rfl) ?_) | ((with_reducible refine wpList_load_obj ?_ rfl ?_ hbx ?_); rfl; rfl))
  refine HR.out.mono ?_
  rintro e W5 ⟨rfl, hb5⟩
  have hbx := HK4.out.after hb5
  have hw5 := HW4.out.trans (hb5.mono HW4.out.size)
  have HH := Lib.hid (handle_any cO W5 (HT.out.after hw5) (by decide) (by decide))
  rw [live_handle] at HH
  have HW5 := Lib.hid hw5
  have HA5 := Lib.hid (HA4.out.after hb5)
  clear HR HK4 HW4 HA4 hb5 hw5 hst4
  go_wp2_with ((with_reducible refine wpList_load_obj ?_ rfl ?_ hbx ?_); rfl; rfl)
  refine HH.out.mono ?_
  rintro e W6 ⟨rfl, hb6⟩
  have ha6 := HA5.out.after hb6
  have HW6 := Lib.hid (HW5.out.trans (hb6.mono HW5.out.size))
  have c0 : W6.cell? ⟨W3.heap.size, 0, none⟩ = some (.int .u8 1) := (cell_of_row W6 _ 0 _ _ _ ha6).trans rfl
  have c18 : W6.cell? ⟨W3.heap.size, 18, none⟩ = some (.int .u8 2) := (cell_of_row W6 _ 18 _ _ _ ha6).trans rfl
  have c19 : W6.cell? ⟨W3.heap.size, 19, none⟩ = some (.int .u64 8) := (cell_of_row W6 _ 19 _ _ _ ha6).trans rfl
  have c13 : W6.cell? ⟨W3.heap.size, 13, none⟩ = some (.string ⟨#[122]⟩) := (cell_of_row W6 _ 13 _ _ _ ha6).trans rfl
  clear HH HA5 HW5 hb6 ha6 hbx
  go_wp2
  go_ret
  exact ⟨rfl, HW6.out⟩
end Go.Proofs.YtfpdchabknoklaaDoor.O.B
namespace Go.Proofs.YtfpdchabknoklaaDoor.O.B
open Go Go.RowKit Go.Shelf Go.Lib RangeMap KM
attribute [local go_sem] Oper.semAt_some

theorem ObjsIn.take {W : World} {g off n c : Nat} {l : List Obj} (h : ObjsIn W (.slice (some ⟨g, off, none⟩) n c) l) (k : Nat) (hk : k ≤ l.length) : ObjsIn W (.slice (some ⟨g, off, none⟩) k c) (l.take k) := by
  obtain ⟨o, c', he, hm, hi⟩ := h
  cases he
  have hl : (l.take k).length = k := by rw [List.length_take]; omega
  refine ⟨some ⟨g, off, none⟩, c, by rw [hl], by rw [hl]; omega, fun i h => ?_⟩
  rw [hl] at h
  obtain ⟨g', off', e, hlt, hr⟩ := hi i (by omega)
  refine ⟨g', off', e, hlt, ?_⟩
  rw [List.getElem_take]
  exact hr
set_option maxRecDepth 100000 in
set_option maxHeartbeats 2000000 in
theorem few12_any (l : List Obj) (v : Value) (w : World) (hl : ObjsIn w v l) (hc : ∀ o n c, v = .slice o n c → n ≤ c) :
    Calls Tryd.prog 6 #[v] w fun e w' => ∃ v', e = .returned v' ∧ ObjsIn w v' (l.take 24) ∧ w' = w := by
  obtain ⟨o, cp, rfl, hm, hi⟩ := id hl
  have hcp := hc _ _ _ rfl
  by_cases h : 24 < l.length
  · obtain ⟨g, off, rfl, -, -⟩ := hi 0 (by omega)
    have HL := Lib.hid (hl.take 24 (by omega))
    have h' : (24 : Int) < (l.length : Int) := by omega
    have h2 : (24 : Int) ≤ (cp : Int) := by omega
    have h3 : 24 ≤ cp := by omega
    clear hl hi hc
    go_enter Tryd.func6, Tryd.ntmps6
    go_wp2
    go_ret
    exact ⟨_, rfl, HL.out, rfl⟩
  · have HL := Lib.hid hl
    have ht : l.take 24 = l := List.take_of_length_le (by omega)
    have HT := Lib.hid ht
    have h' : ¬ (24 : Int) < (l.length : Int) := by omega
    clear hl hi hc ht
    go_enter Tryd.func6, Tryd.ntmps6
    go_wp2
    go_ret
    exact ⟨_, rfl, by rw [HT.out]; exact HL.out, rfl⟩
end Go.Proofs.YtfpdchabknoklaaDoor.O.B
namespace Go.Proofs.YtfpdchabknoklaaDoor.O.B
open Go Go.RowKit Go.Shelf Go.Lib RangeMap KM
attribute [local go_sem] Oper.semAt_some

set_option maxRecDepth 100000 in
set_option maxHeartbeats 8000000 in
theorem rcl_idle (l : List Obj) (v : Value) (ver : Int) (name : ByteArray) (w : World) (hl : ObjsIn w v l) (hn : l.length < 100000) (ht : Tab w) (hall : ∀ s ∈ l, (0 ≤ s.born ∧ s.born ≤ 18446744073709551615) ∧ s.name.size ≤ 140737488351232) (c : Obj) (hr : getL l 3 name = some c) (hh : ¬ handleN c = E0) (hp : ¬ c.phase = 3) (hv : volN l c = none) (hd : c.deleting = false) (h2 : ¬ c.phase = 2) (h1 : ¬ c.phase = 1) :
    Calls Tryd.prog 9 #[v, .int .u64 ver, .string name] w fun e w' => e = .returned (encA (nothing)) ∧ Below w.heap.size w w' := by
  have HU := Lib.hid (fun V (hV : ObjsIn V v l) => uniq_any l v V hV hn)
  have hnL : (uniqL l).length < 100000 := Nat.lt_of_le_of_lt (uniq_len l) hn
  obtain ⟨o, cp, rfl, -, -⟩ := id hl
  have HL0 := Lib.hid hl
  have HT := Lib.hid ht
  have hug := uniq_get l 3 name
  rw [hr] at hug
  have hcin := hall c (List.mem_of_find?_eq_some hr)
  have HHN := Lib.hid (fun V (hV : Tab V) => rhandle_any c V hV hcin.1 hcin.2)
  have o1 : (handleN c).toList ≠ [] := fun e => hh ((emp_iff _).1 e)
  have o2 : ((handleN c).toList == []) = false := by simpa using o1
  have o3 : (handleN c).toList.isEmpty = false := by simpa using o1
  generalize handleN c = h at *
  have e3 : (c.phase == 3) = false := by simpa using hp
  have HE3 := Lib.hid e3
  clear hh hp e3
  have HO123 := Lib.hid (And.intro o1 (And.intro o2 o3))
  clear o1 o2 o3
  have hvl := vol_is l c
  rw [hv] at hvl
  clear hv
  have HD := Lib.hid hd
  have e2 : (c.phase == 2) = false := by simpa using h2
  have H2 := Lib.hid e2
  clear hd h2 e2
  have e1 : (c.phase != 1) = true := by simpa using h1
  have H1 := Lib.hid e1
  clear h1 e1
  clear hr
  generalize uniqL l = L at *
  have HVL := Lib.hid (fun (V : World) (s : Value) (hV : ObjsIn V s L) (hT : Tab V) => rvol_any L s c V hV hT hcin.1 hcin.2)
  rw [hvl] at HVL
  clear hvl
  have HG := Lib.hid (fun (V : World) (s : Value) (hV : ObjsIn V s L) => rget_any L s 3 name V hV)
  rw [hug] at HG
  clear hl hn ht hall hug hnL hcin
  go_enter Tryd.func9, Tryd.ntmps9
  go_upto_region 1 with (fail)
  refine wp_gen (fun V => BoxA V w.heap.size nothing ∧ Below w.heap.size w V) ⟨heap_alloc_new _ _, (Below.refl _ _).alloc (Nat.le_refl _) _⟩ ?_
  rintro V0 ⟨ho, hl⟩
  have HO0 := Lib.hid ho
  have HW0 := Lib.hid hl
  have HUV := Lib.hid (HU.out V0 (HL0.out.after hl))
  clear ho hl HU HL0
  go_wp2_with (fail)
  refine HUV.out.mono ?_
  rintro e W1 ⟨lv, rfl, hl1, hb1⟩
  have HO1 := Lib.hid (HO0.out.after hb1)
  have HW1 := Lib.hid (HW0.out.trans (hb1.mono HW0.out.size))
  obtain ⟨o1, c1, rfl, hm, -⟩ := id hl1
  have HL := Lib.hid hl1
  have HGV := Lib.hid (HG.out W1 _ hl1)
  clear HUV HO0 HW0 hb1 hl1 HG
  go_wp2_with (fail)
  refine HGV.out.mono ?_
  rintro e W2 ⟨rfl, hb2⟩
  obtain ⟨X, sx, ox, lx, -⟩ := boxing W2 ((some c).getD O0)
  have hwx := hb2.trans (lx.mono hb2.size)
  have hne : w.heap.size < W2.heap.size := Nat.lt_of_lt_of_le (Array.getElem?_eq_some_iff.1 HO1.out).1 hb2.size
  have HO := Lib.hid (HO1.out.after hwx)
  have HW := Lib.hid (HW1.out.trans (hwx.mono HW1.out.size))
  have HLX := Lib.hid (HL.out.after hwx)
  have HTX := Lib.hid (HT.out.after HW.out)
  have HNE := Lib.hid hne
  clear HGV hb2 lx hwx HO1 HW1 HL HT hne
  replace ox : BoxO X W2.heap.size c := ox
  have HK := Lib.hid ox
  have HHV := Lib.hid (HHN.out X HTX.out)
  go_upto_region 3 with (refine wpList_skip rfl (sx rfl rfl rfl) ?_)
  clear sx
  go_wp2_with ((with_reducible refine wpList_load_obj ?_ rfl ?_ ox ?_); rfl; rfl)
  clear ox
  refine HHV.out.mono ?_
  rintro e W3 ⟨rfl, hb3⟩
  have HC3 := Lib.hid (HK.out.after hb3)
  have HA3 := Lib.hid (HO.out.after hb3)
  have HW3 := Lib.hid (HW.out.trans (hb3.mono HW.out.size))
  have HL3 := Lib.hid (HLX.out.after hb3)
  have HT3 := Lib.hid (HTX.out.after hb3)
  clear HK HO HW HLX HTX HHV
  clear hb3
  obtain ⟨o1, o2, o3⟩ := HO123.out
  have e3 := HE3.out
  have c17 := HC3.out.c17
  go_upto_region 9 with (fail)
  clear o1 o2 o3 HO123 c17 e3 HE3
  have HVC := Lib.hid (HVL.out W3 _ HL3.out HT3.out)
  have hc3 := HC3.out
  go_wp2_with ((with_reducible refine wpList_load_obj ?_ rfl ?_ hc3 ?_); rfl; rfl)
  clear hc3
  refine HVC.out.mono ?_
  rintro e W4 ⟨rfl, hb4⟩
  obtain ⟨X4, sx4, ox4, lx4, -⟩ := boxing W4 ((none : Option Obj).getD O0)
  have h34 := hb4.trans (lx4.mono hb4.size)
  have HC4 := Lib.hid (HC3.out.after h34)
  have HA4 := Lib.hid (HA3.out.after h34)
  have HW4 := Lib.hid (HW3.out.trans (h34.mono HW3.out.size))
  have HL4 := Lib.hid (HL3.out.after h34)
  have HT4 := Lib.hid (HT3.out.after h34)
  have hn4 : W2.heap.size < W4.heap.size := Nat.lt_of_lt_of_le (Array.getElem?_eq_some_iff.1 HC3.out).1 hb4.size
  have HN4 := Lib.hid hn4
  clear HVC hb4 lx4 h34 HC3 HA3 HW3 HL3 HT3 HVL hn4
  clear ox4
  have c4 := HC4.out.c4
  rw [HD.out] at c4
  go_upto_region 20 with (refine wpList_skip rfl (sx4 rfl rfl rfl) ?_)
  clear sx4 c4
  have c17 := HC4.out.c17
  have e2 := H2.out
  go_upto_region 28 with (fail)
  clear e2
  have e1 := H1.out
  obtain ⟨V8, hst8, ho, -, hb⟩ := acting HA4.out nothing
  have HO8 := Lib.hid ho
  have HX8 := Lib.hid (hb _ _ HW4.out (Nat.le_refl _))
  clear ho hb
  go_wp2_with (first | (refine wpList_skip rfl (hst8 rfl rfl rfl) ?_) | ((with_reducible refine wpList_build_to rfl 36 _ rfl (cellsA nothing) ?_ ?_); exact built_act0'))
  refine bodyPost_ret (v := encA nothing) (results_cell_row rfl _ _ w.heap.size 36 (cellsA nothing) (0, 0) _ rfl HO8.out undAct rfl sizeAct) rfl ?_
  exact ⟨rfl, HX8.out⟩

set_option maxRecDepth 100000 in
set_option maxHeartbeats 8000000 in
theorem rcl_pend (l : List Obj) (v : Value) (ver : Int) (name : ByteArray) (w : World) (hl : ObjsIn w v l) (hn : l.length < 100000) (ht : Tab w) (hall : ∀ s ∈ l, (0 ≤ s.born ∧ s.born ≤ 18446744073709551615) ∧ s.name.size ≤ 140737488351232) (c : Obj) (hr : getL l 3 name = some c) (hh : ¬ handleN c = E0) (hp : ¬ c.phase = 3) (hv : volN l c = none) (hd : c.deleting = false) (h2 : ¬ c.phase = 2) (h1 : c.phase = 1) :
    Calls Tryd.prog 9 #[v, .int .u64 ver, .string name] w fun e w' => e = .returned (encA (beginN l c (IntKind.u64.wrap (ver + 1)))) ∧ Below w.heap.size w w' := by
  have HU := Lib.hid (fun V (hV : ObjsIn V v l) => uniq_any l v V hV hn)
  have hnL : (uniqL l).length < 100000 := Nat.lt_of_le_of_lt (uniq_len l) hn
  obtain ⟨o, cp, rfl, -, -⟩ := id hl
  have HL0 := Lib.hid hl
  have HT := Lib.hid ht
  have hug := uniq_get l 3 name
  rw [hr] at hug
  have hcin := hall c (List.mem_of_find?_eq_some hr)
  have HHN := Lib.hid (fun V (hV : Tab V) => rhandle_any c V hV hcin.1 hcin.2)
  have o1 : (handleN c).toList ≠ [] := fun e => hh ((emp_iff _).1 e)
  have o2 : ((handleN c).toList == []) = false := by simpa using o1
  have o3 : (handleN c).toList.isEmpty = false := by simpa using o1
  generalize handleN c = h at *
  have e3 : (c.phase == 3) = false := by simpa using hp
  have HE3 := Lib.hid e3
  clear hh hp e3
  have HO123 := Lib.hid (And.intro o1 (And.intro o2 o3))
  clear o1 o2 o3
  have hvl := vol_is l c
  rw [hv] at hvl
  clear hv
  have HD := Lib.hid hd
  have e2 : (c.phase == 2) = false := by simpa using h2
  have H2 := Lib.hid e2
  clear hd h2 e2
  have H1 := Lib.hid h1
  clear h1
  have HPD := Lib.hid (fun (V : World) (s : Value) (hV : ObjsIn V s (uniqL l)) (hT : Tab V) => rpending_any (uniqL l) s ver c V hV hnL hT hcin.1 hcin.2)
  rw [uniq_get, uniq_get, uniq_get, pend_is] at HPD
  obtain ⟨x, hx⟩ : ∃ x, beginN l c (IntKind.u64.wrap (ver + 1)) = x := ⟨_, rfl⟩
  rw [hx] at HPD ⊢
  clear hx
  clear hr
  generalize uniqL l = L at *
  have HVL := Lib.hid (fun (V : World) (s : Value) (hV : ObjsIn V s L) (hT : Tab V) => rvol_any L s c V hV hT hcin.1 hcin.2)
  rw [hvl] at HVL
  clear hvl
  have HG := Lib.hid (fun (V : World) (s : Value) (hV : ObjsIn V s L) => rget_any L s 3 name V hV)
  rw [hug] at HG
  clear hl hn ht hall hug hnL hcin
  go_enter Tryd.func9, Tryd.ntmps9
  go_upto_region 1 with (fail)
  refine wp_gen (fun V => BoxA V w.heap.size nothing ∧ Below w.heap.size w V) ⟨heap_alloc_new _ _, (Below.refl _ _).alloc (Nat.le_refl _) _⟩ ?_
  rintro V0 ⟨ho, hl⟩
  have HO0 := Lib.hid ho
  have HW0 := Lib.hid hl
  have HUV := Lib.hid (HU.out V0 (HL0.out.after hl))
  clear ho hl HU HL0
  go_wp2_with (fail)
  refine HUV.out.mono ?_
  rintro e W1 ⟨lv, rfl, hl1, hb1⟩
  have HO1 := Lib.hid (HO0.out.after hb1)
  have HW1 := Lib.hid (HW0.out.trans (hb1.mono HW0.out.size))
  obtain ⟨o1, c1, rfl, hm, -⟩ := id hl1
  have HL := Lib.hid hl1
  have HGV := Lib.hid (HG.out W1 _ hl1)
  clear HUV HO0 HW0 hb1 hl1 HG
  go_wp2_with (fail)
  refine HGV.out.mono ?_
  rintro e W2 ⟨rfl, hb2⟩
  obtain ⟨X, sx, ox, lx, -⟩ := boxing W2 ((some c).getD O0)
  have hwx := hb2.trans (lx.mono hb2.size)
  have hne : w.heap.size < W2.heap.size := Nat.lt_of_lt_of_le (Array.getElem?_eq_some_iff.1 HO1.out).1 hb2.size
  have HO := Lib.hid (HO1.out.after hwx)
  have HW := Lib.hid (HW1.out.trans (hwx.mono HW1.out.size))
  have HLX := Lib.hid (HL.out.after hwx)
  have HTX := Lib.hid (HT.out.after HW.out)
  have HNE := Lib.hid hne
  clear HGV hb2 lx hwx HO1 HW1 HL HT hne
  replace ox : BoxO X W2.heap.size c := ox
  have HK := Lib.hid ox
  have HHV := Lib.hid (HHN.out X HTX.out)
  go_upto_region 3 with (refine wpList_skip rfl (sx rfl rfl rfl) ?_)
  clear sx
  go_wp2_with ((with_reducible refine wpList_load_obj ?_ rfl ?_ ox ?_); rfl; rfl)
  clear ox
  refine HHV.out.mono ?_
  rintro e W3 ⟨rfl, hb3⟩
  have HC3 := Lib.hid (HK.out.after hb3)
  have HA3 := Lib.hid (HO.out.after hb3)
  have HW3 := Lib.hid (HW.out.trans (hb3.mono HW.out.size))
  have HL3 := Lib.hid (HLX.out.after hb3)
  have HT3 := Lib.hid (HTX.out.after hb3)
  clear HK HO HW HLX HTX HHV
  clear hb3
  obtain ⟨o1, o2, o3⟩ := HO123.out
  have e3 := HE3.out
  have c17 := HC3.out.c17
  go_upto_region 9 with (fail)
  clear o1 o2 o3 HO123 c17 e3 HE3
  have HVC := Lib.hid (HVL.out W3 _ HL3.out HT3.out)
  have hc3 := HC3.out
  go_wp2_with ((with_reducible refine wpList_load_obj ?_ rfl ?_ hc3 ?_); rfl; rfl)
  clear hc3
  refine HVC.out.mono ?_
  rintro e W4 ⟨rfl, hb4⟩
  obtain ⟨X4, sx4, ox4, lx4, -⟩ := boxing W4 ((none : Option Obj).getD O0)
  have h34 := hb4.trans (lx4.mono hb4.size)
  have HC4 := Lib.hid (HC3.out.after h34)
  have HA4 := Lib.hid (HA3.out.after h34)
  have HW4 := Lib.hid (HW3.out.trans (h34.mono HW3.out.size))
  have HL4 := Lib.hid (HL3.out.after h34)
  have HT4 := Lib.hid (HT3.out.after h34)
  have hn4 : W2.heap.size < W4.heap.size := Nat.lt_of_lt_of_le (Array.getElem?_eq_some_iff.1 HC3.out).1 hb4.size
  have HN4 := Lib.hid hn4
  clear HVC hb4 lx4 h34 HC3 HA3 HW3 HL3 HT3 HVL hn4
  clear ox4
  have c4 := HC4.out.c4
  rw [HD.out] at c4
  go_upto_region 20 with (refine wpList_skip rfl (sx4 rfl rfl rfl) ?_)
  clear sx4 c4
  have c17 := HC4.out.c17
  have e2 := H2.out
  go_upto_region 28 with (fail)
  clear e2
  rw [H1.out] at c17
  go_upto_region 30 with (fail)
  have HPC := Lib.hid (HPD.out X4 _ HL4.out HT4.out)
  have hcx := HC4.out
  clear c17 HPD HHN HL4 HT4
  go_wp2_with ((with_reducible refine wpList_load_obj ?_ rfl ?_ hcx ?_); rfl; rfl)
  refine HPC.out.mono ?_
  rintro e W7 ⟨rfl, hb7⟩
  obtain ⟨V8, hst8, ho, -, hb⟩ := acting (HA4.out.after hb7) x
  have HO8 := Lib.hid ho
  have HX8 := Lib.hid (hb _ _ (HW4.out.trans (hb7.mono HW4.out.size)) (Nat.le_refl _))
  clear ho hb HPC hb7 hcx
  go_wp2_with (refine wpList_skip rfl (hst8 rfl rfl rfl) ?_)
  refine bodyPost_ret (v := encA x) (results_cell_row rfl _ _ w.heap.size 36 (cellsA x) (0, 0) _ rfl HO8.out undAct rfl sizeAct) rfl ?_
  exact ⟨rfl, HX8.out⟩
end Go.Proofs.YtfpdchabknoklaaDoor.O.B
namespace Go.Proofs.YtfpdchabknoklaaDoor.O.B
open Go Go.RowKit Go.Shelf Go.Lib RangeMap KM
attribute [local go_sem] Oper.semAt_some

theorem rclaim_any (l : List Obj) (v : Value) (ver : Int) (name : ByteArray) (w : World) (hl : ObjsIn w v l) (hn : l.length < 100000) (ht : Tab w) (hall : ∀ s ∈ l, (0 ≤ s.born ∧ s.born ≤ 18446744073709551615) ∧ s.name.size ≤ 140737488351232) :
    Calls Tryd.prog 9 #[v, .int .u64 ver, .string name] w fun e w' => e = .returned (encA (claimN l ver name)) ∧ Below w.heap.size w w' := by
  unfold claimN
  cases hr : getL l 3 name with
  | none => exact rcl_none l v ver name w hl hn ht hall hr
  | some c =>
    dsimp only
    by_cases hh : handleN c = E0
    · rw [if_pos hh]
      exact rcl_long l v ver name w hl hn ht hall c hr hh
    · rw [if_neg hh]
      by_cases hp : c.phase = 3
      · rw [if_pos hp]
        unfold letN
        cases hd : c.deleting with
        | false => exact rcl_keep l v ver name w hl hn ht hall c hr hh hp hd
        | true =>
          cases hu : (wantedN l c || atNodeN l c) with
          | true => exact rcl_used l v ver name w hl hn ht hall c hr hh hp hd hu
          | false => exact rcl_gone l v ver name w hl hn ht hall c hr hh hp hd hu
      · rw [if_neg hp]
        cases hv : volN l c with
        | some vo => exact rcl_take l v ver name w hl hn ht hall c hr hh hp vo hv
        | none =>
          dsimp only
          cases hd : c.deleting with
          | true =>
            rw [if_pos rfl]
            unfold offN
            by_cases h0 : c.num = 0
            · rw [if_pos h0]
              exact rcl_off0 l v ver name w hl hn ht hall c hr hh hp hv hd h0
            · rw [if_neg h0]
              by_cases h2 : c.phase = 2
              · rw [if_pos h2]
                exact rcl_off2 l v ver name w hl hn ht hall c hr hh hp hv hd h0 h2
              · rw [if_neg h2]
                exact rcl_off l v ver name w hl hn ht hall c hr hh hp hv hd h0 h2
          | false =>
            rw [if_neg (by decide)]
            by_cases h2 : c.phase = 2
            · rw [if_pos h2]
              unfold makeN
              by_cases hs : c.source = E0
              · rw [if_pos hs]
                exact rcl_make0 l v ver name w hl hn ht hall c hr hh hp hv hd h2 hs
              · rw [if_neg hs]
                cases hsn : getL l 7 c.source with
                | none => exact rcl_make1 l v ver name w hl hn ht hall c hr hh hp hv hd h2 hs hsn
                | some s => exact rcl_make2 l v ver name w hl hn ht hall c hr hh hp hv hd h2 hs s hsn
            · rw [if_neg h2]
              by_cases h1 : c.phase = 1
              · rw [if_pos h1]
                exact rcl_pend l v ver name w hl hn ht hall c hr hh hp hv hd h2 h1
              · rw [if_neg h1]
                exact rcl_idle l v ver name w hl hn ht hall c hr hh hp hv hd h2 h1
end Go.Proofs.YtfpdchabknoklaaDoor.O.B
