/- BindRight: for every input the law answers true, and its arguments read as they did. The tables that the library reads are tied to the program's text. -/
import Derived.Test.YtfpdchabknoklaaDoorBClaim
import Derived.Test.YtfpdchabknoklaaDoorKRefG
import Derived.Test.YtfpdchabknoklaaDoorHeldBy
import Derived.LoopTactic
import Derived.Test.YtfpdchabknoklaaDoorOCore
import Derived.Test.YtfpdchabknoklaaDoorBCl0
import Derived.Test.YtfpdchabknoklaaDoorKUniq
import Derived.Test.YtfpdchabknoklaaDoorKUniqT
import Derived.Test.YtfpdchabknoklaaDoorBCl2
import Derived.Test.YtfpdchabknoklaaDoorKAct
import Derived.Test.YtfpdchabknoklaaDoorDPlain
import Derived.Outline
import Derived.Test.YtfpdchabknoklaaDoorBRef
import Derived.Test.YtfpdchabknoklaaDoorKGet
import Derived.Test.YtfpdchabknoklaaDoorBRHandle
import Derived.Test.YtfpdchabknoklaaDoorHeldChain
import Derived.ProofKit
import Derived.Below
import Derived.Carry
import Derived.OpenShut
import Derived.Test.YtfpdchabknoklaaDoorBObjs
import Derived.Deep.Fields
import Derived.Deep.Slices
import Derived.Deep.Strs
import Derived.SizedLaws
import Derived.Test.YtfpdchabknoklaaDoorR3J2
import Derived.Test.YtfpdchabknoklaaDoorR3J3
import Derived.Test.YtfpdchabknoklaaDoorR3J1
import Derived.Test.YtfpdchabknoklaaDoorCards
import Derived.Test.YtfpdchabknoklaaDoorTie
import Derived.Test.YtfpdchabknoklaaDoorBStr
import Derived.Deep.DeepHandedRow
import Derived.Lib.LaidTab
import Derived.Stop.LaidErr
namespace Go.Proofs.YtfpdchabknoklaaDoor.O.B
open Go Go.RowKit Go.Shelf Go.Lib RangeMap KM
attribute [local go_sem] Oper.semAt_some

def fO : Obj := { O0 with kind := 1, name := ⟨#[102]⟩, zone := ⟨#[122]⟩ }
def cO : Obj := { O0 with kind := 3, name := ⟨#[99]⟩, version := 2, born := 2, hold := true, cls := ⟨#[102]⟩, size := 4, mode := 1, phase := 1 }
def cO' : Obj := { cO with phase := 2, zone := ⟨#[122]⟩, num := 8 }
theorem live_act : claimN [fO, cO] 7 ⟨#[99]⟩ = writeA cO' := by kernel_rfl
theorem live_ref : refN cO = ⟨#[99, 35, 50]⟩ := by kernel_rfl
theorem live_handle : handleN cO = ⟨#[112, 118, 99, 47, 99, 35, 50]⟩ := by kernel_rfl
theorem built_c : Tryd.prog.built 31 [(0, .int .u8 3), (1, .string ⟨#[99]⟩), (2, .int .u64 2), (3, .int .u64 2), (6, .string ⟨#[102]⟩), (7, .int .i64 4), (9, .int .u8 1), (17, .int .u8 1), (5, .bool true)] = some (cellsO cO) := by kernel_rfl
theorem built_f : Tryd.prog.built 31 [(0, .int .u8 1), (1, .string ⟨#[102]⟩), (12, .string ⟨#[122]⟩)] = some (cellsO fO) := by kernel_rfl

theorem two_ok : ∀ s ∈ [fO, cO], (0 ≤ s.born ∧ s.born ≤ 18446744073709551615) ∧ s.name.size ≤ 140737488351232 := by
  intro s hs
  simp only [List.mem_cons, List.not_mem_nil, or_false] at hs
  rcases hs with rfl | rfl
  · exact ⟨⟨by decide, by decide⟩, by decide⟩
  · exact ⟨⟨by decide, by decide⟩, by decide⟩
theorem objs_two (V : World) (a b : Obj) : ObjsIn (V.alloc (.cells (cellsO a ++ cellsO b) 31 (0, 0))) (.slice (some ⟨V.heap.size, 0, none⟩) 2 2) [a, b] := by
  have hrow := heap_alloc_new V (.cells (cellsO a ++ cellsO b) 31 (0, 0))
  refine ⟨_, 2, rfl, by simp, fun i h => ⟨V.heap.size, 0, rfl, (Array.getElem?_eq_some_iff.1 hrow).1, fun j v hv => ?_⟩⟩
  rw [cell_of_row _ _ _ _ _ _ hrow]
  have hi : i = 0 ∨ i = 1 := by simp at h; omega
  rcases hi with rfl | rfl
  · have hj : j < (cellsO a).size := by
      have := (List.getElem?_eq_some_iff.1 hv).1
      simpa using this
    rw [show 0 + 0 * 20 + j = j by omega, Array.getElem?_append_left hj, ← Array.getElem?_toList]
    exact hv
  · rw [show 0 + 1 * 20 + j = (cellsO a).size + j from (by show 0 + 1 * 20 + j = 20 + j; omega), Array.getElem?_append_right (Nat.le_add_right _ _), Nat.add_sub_cancel_left, ← Array.getElem?_toList]
    exact hv

set_option maxRecDepth 100000 in
set_option maxHeartbeats 2000000 in
theorem live_any (w : World) (ht : Tab w) : Calls Tryd.prog 7 #[] w fun e w' => e = .returned (.bool true) ∧ Below w.heap.size w w' := by
  have HT := Lib.hid ht
  clear ht
  go_enter Tryd.func7, Tryd.ntmps7
  obtain ⟨V, hst, hk, hb, -⟩ := boxing w cO
  go_upto_region 2 with (first | (refine wpList_skip rfl (hst rfl rfl rfl) ?_) | ((with_reducible refine wpList_build_to rfl 31 _ rfl (cellsO cO) ?_ ?_); exact built_c))
  have hbx := hk
  go_wp2_with (first | (refine wpList_got (v := .agg (cellsO cO)) rfl (load_obj hbx rfl rfl) ?_) | ((with_reducible refine wpList_build_to rfl 31 _ rfl (cellsO fO) ?_ ?_); exact built_f))
  change Calls _ _ _ (V.alloc (.cells (cellsO fO ++ cellsO cO) 31 (0, 0))) _
  have hob := objs_two V fO cO
  obtain ⟨W2, hW2⟩ : ∃ W2, V.alloc (.cells (cellsO fO ++ cellsO cO) 31 (0, 0)) = W2 := ⟨_, rfl⟩
  have hw2 : Below w.heap.size w W2 := by rw [← hW2]; exact hb.alloc hb.size _
  have hk2 : BoxO W2 w.heap.size cO := by rw [← hW2]; exact hk.alloc _
  rw [hW2] at hob ⊢
  have HC := Lib.hid (claim_any [fO, cO] _ 7 ⟨#[99]⟩ W2 hob (HT.out.after hw2) two_ok)
  rw [live_act] at HC
  have HK := Lib.hid hk2
  have HW := Lib.hid hw2
  clear hob hW2 hw2 hk2 hbx hk hb hst
  refine HC.out.mono ?_
  rintro e W3 ⟨rfl, hb3⟩
  have k3 : BoxA (W3.alloc (.cells (cellsA nothing) 36 (0, 0))) W3.heap.size nothing := heap_alloc_new _ _
  obtain ⟨V4, hst4, ha4, ho4, hb4⟩ := acting k3 (writeA cO')
  have hw3 := HW.out.trans (hb3.mono HW.out.size)
  have hs3 : w.heap.size < W3.heap.size := Nat.lt_of_lt_of_le HK.out.lt hb3.size
  have hk4 : BoxO V4 w.heap.size cO := (ho4 _ (by omega)).trans ((HK.out.after hb3).alloc _)
  have hw4 : Below w.heap.size w V4 := hb4 _ _ (hw3.alloc hw3.size _) (by omega)
  have HW4 := Lib.hid hw4
  have HA4 := Lib.hid ha4
  have HR := Lib.hid (ref_any cO V4 (HT.out.after hw4) (by decide) (by decide))
  rw [live_ref] at HR
  have HK4 := Lib.hid hk4
  have hbx := hk4
  clear HC HK HW hb3 k3 ho4 hb4 hw3 hs3 hw4 hk4 ha4
  go_wp2_with (first | (refine wpList_skip rfl (hst4 rfl rfl rfl) ?_) | ((with_reducible refine wpList_load_obj ?_ rfl ?_ hbx ?_); rfl; rfl))
  refine HR.out.mono ?_
  rintro e W5 ⟨rfl, hb5⟩
  have hbx := HK4.out.after hb5
  have hw5 := HW4.out.trans (hb5.mono HW4.out.size)
  have HH := Lib.hid (handle_any cO W5 (HT.out.after hw5) (by decide) (by decide))
  rw [live_handle] at HH
  have HW5 := Lib.hid hw5
  have HA5 := Lib.hid (HA4.out.after hb5)
  clear HR HK4 HW4 HA4 hb5 hw5 hst4
  go_wp2_with ((with_reducible refine wpList_load_obj ?_ rfl ?_ hbx ?_); rfl; rfl)
  refine HH.out.mono ?_
  rintro e W6 ⟨rfl, hb6⟩
  have ha6 := HA5.out.after hb6
  have HW6 := Lib.hid (HW5.out.trans (hb6.mono HW5.out.size))
  have c0 : W6.cell? ⟨W3.heap.size, 0, none⟩ = some (.int .u8 1) := (cell_of_row W6 _ 0 _ _ _ ha6).trans rfl
  have c18 : W6.cell? ⟨W3.heap.size, 18, none⟩ = some (.int .u8 2) := (cell_of_row W6 _ 18 _ _ _ ha6).trans rfl
  have c19 : W6.cell? ⟨W3.heap.size, 19, none⟩ = some (.int .u64 8) := (cell_of_row W6 _ 19 _ _ _ ha6).trans rfl
  have c13 : W6.cell? ⟨W3.heap.size, 13, none⟩ = some (.string ⟨#[122]⟩) := (cell_of_row W6 _ 13 _ _ _ ha6).trans rfl
  clear HH HA5 HW5 hb6 ha6 hbx
  go_wp2
  go_ret
  exact ⟨rfl, HW6.out⟩
end Go.Proofs.YtfpdchabknoklaaDoor.O.B
namespace Go.Proofs.YtfpdchabknoklaaDoor.O.B
open Go Go.RowKit Go.Shelf Go.Lib RangeMap KM
attribute [local go_sem] Oper.semAt_some

theorem ObjsIn.take {W : World} {g off n c : Nat} {l : List Obj} (h : ObjsIn W (.slice (some ⟨g, off, none⟩) n c) l) (k : Nat) (hk : k ≤ l.length) : ObjsIn W (.slice (some ⟨g, off, none⟩) k c) (l.take k) := by
  obtain ⟨o, c', he, hm, hi⟩ := h
  cases he
  have hl : (l.take k).length = k := by rw [List.length_take]; omega
  refine ⟨some ⟨g, off, none⟩, c, by rw [hl], by rw [hl]; omega, fun i h => ?_⟩
  rw [hl] at h
  obtain ⟨g', off', e, hlt, hr⟩ := hi i (by omega)
  refine ⟨g', off', e, hlt, ?_⟩
  rw [List.getElem_take]
  exact hr
set_option maxRecDepth 100000 in
set_option maxHeartbeats 2000000 in
theorem few12_any (l : List Obj) (v : Value) (w : World) (hl : ObjsIn w v l) (hc : ∀ o n c, v = .slice o n c → n ≤ c) :
    Calls Tryd.prog 6 #[v] w fun e w' => ∃ v', e = .returned v' ∧ ObjsIn w v' (l.take 24) ∧ w' = w := by
  obtain ⟨o, cp, rfl, hm, hi⟩ := id hl
  have hcp := hc _ _ _ rfl
  by_cases h : 24 < l.length
  · obtain ⟨g, off, rfl, -, -⟩ := hi 0 (by omega)
    have HL := Lib.hid (hl.take 24 (by omega))
    have h' : (24 : Int) < (l.length : Int) := by omega
    have h2 : (24 : Int) ≤ (cp : Int) := by omega
    have h3 : 24 ≤ cp := by omega
    clear hl hi hc
    go_enter Tryd.func6, Tryd.ntmps6
    go_wp2
    go_ret
    exact ⟨_, rfl, HL.out, rfl⟩
  · have HL := Lib.hid hl
    have ht : l.take 24 = l := List.take_of_length_le (by omega)
    have HT := Lib.hid ht
    have h' : ¬ (24 : Int) < (l.length : Int) := by omega
    clear hl hi hc ht
    go_enter Tryd.func6, Tryd.ntmps6
    go_wp2
    go_ret
    exact ⟨_, rfl, by rw [HT.out]; exact HL.out, rfl⟩
end Go.Proofs.YtfpdchabknoklaaDoor.O.B
namespace Go.Proofs.YtfpdchabknoklaaDoor.O.B
open Go Go.RowKit Go.Shelf Go.Lib RangeMap KM
attribute [local go_sem] Oper.semAt_some

set_option maxRecDepth 100000 in
set_option maxHeartbeats 8000000 in
theorem rcl_idle (l : List Obj) (v : Value) (ver : Int) (name : ByteArray) (w : World) (hl : ObjsIn w v l) (hn : l.length < 100000) (ht : Tab w) (hall : ∀ s ∈ l, (0 ≤ s.born ∧ s.born ≤ 18446744073709551615) ∧ s.name.size ≤ 140737488351232) (c : Obj) (hr : getL l 3 name = some c) (hh : ¬ handleN c = E0) (hp : ¬ c.phase = 3) (hv : volN l c = none) (hd : c.deleting = false) (h2 : ¬ c.phase = 2) (h1 : ¬ c.phase = 1) :
    Calls Tryd.prog 9 #[v, .int .u64 ver, .string name] w fun e w' => e = .returned (encA (nothing)) ∧ Below w.heap.size w w' := by
  have HU := Lib.hid (fun V (hV : ObjsIn V v l) => uniq_any l v V hV hn)
  have hnL : (uniqL l).length < 100000 := Nat.lt_of_le_of_lt (uniq_len l) hn
  obtain ⟨o, cp, rfl, -, -⟩ := id hl
  have HL0 := Lib.hid hl
  have HT := Lib.hid ht
  have hug := uniq_get l 3 name
  rw [hr] at hug
  have hcin := hall c (List.mem_of_find?_eq_some hr)
  have HHN := Lib.hid (fun V (hV : Tab V) => rhandle_any c V hV hcin.1 hcin.2)
  have o1 : (handleN c).toList ≠ [] := fun e => hh ((emp_iff _).1 e)
  have o2 : ((handleN c).toList == []) = false := by simpa using o1
  have o3 : (handleN c).toList.isEmpty = false := by simpa using o1
  generalize handleN c = h at *
  have e3 : (c.phase == 3) = false := by simpa using hp
  have HE3 := Lib.hid e3
  clear hh hp e3
  have HO123 := Lib.hid (And.intro o1 (And.intro o2 o3))
  clear o1 o2 o3
  have hvl := vol_is l c
  rw [hv] at hvl
  clear hv
  have HD := Lib.hid hd
  have e2 : (c.phase == 2) = false := by simpa using h2
  have H2 := Lib.hid e2
  clear hd h2 e2
  have e1 : (c.phase != 1) = true := by simpa using h1
  have H1 := Lib.hid e1
  clear h1 e1
  clear hr
  generalize uniqL l = L at *
  have HVL := Lib.hid (fun (V : World) (s : Value) (hV : ObjsIn V s L) (hT : Tab V) => rvol_any L s c V hV hT hcin.1 hcin.2)
  rw [hvl] at HVL
  clear hvl
  have HG := Lib.hid (fun (V : World) (s : Value) (hV : ObjsIn V s L) => rget_any L s 3 name V hV)
  rw [hug] at HG
  clear hl hn ht hall hug hnL hcin
  go_enter Tryd.func9, Tryd.ntmps9
  go_upto_region 1 with (fail)
  refine wp_gen (fun V => BoxA V w.heap.size nothing ∧ Below w.heap.size w V) ⟨heap_alloc_new _ _, (Below.refl _ _).alloc (Nat.le_refl _) _⟩ ?_
  rintro V0 ⟨ho, hl⟩
  have HO0 := Lib.hid ho
  have HW0 := Lib.hid hl
  have HUV := Lib.hid (HU.out V0 (HL0.out.after hl))
  clear ho hl HU HL0
  go_wp2_with (fail)
  refine HUV.out.mono ?_
  rintro e W1 ⟨lv, rfl, hl1, hb1⟩
  have HO1 := Lib.hid (HO0.out.after hb1)
  have HW1 := Lib.hid (HW0.out.trans (hb1.mono HW0.out.size))
  obtain ⟨o1, c1, rfl, hm, -⟩ := id hl1
  have HL := Lib.hid hl1
  have HGV := Lib.hid (HG.out W1 _ hl1)
  clear HUV HO0 HW0 hb1 hl1 HG
  go_wp2_with (fail)
  refine HGV.out.mono ?_
  rintro e W2 ⟨rfl, hb2⟩
  obtain ⟨X, sx, ox, lx, -⟩ := boxing W2 ((some c).getD O0)
  have hwx := hb2.trans (lx.mono hb2.size)
  have hne : w.heap.size < W2.heap.size := Nat.lt_of_lt_of_le (Array.getElem?_eq_some_iff.1 HO1.out).1 hb2.size
  have HO := Lib.hid (HO1.out.after hwx)
  have HW := Lib.hid (HW1.out.trans (hwx.mono HW1.out.size))
  have HLX := Lib.hid (HL.out.after hwx)
  have HTX := Lib.hid (HT.out.after HW.out)
  have HNE := Lib.hid hne
  clear HGV hb2 lx hwx HO1 HW1 HL HT hne
  replace ox : BoxO X W2.heap.size c := ox
  have HK := Lib.hid ox
  have HHV := Lib.hid (HHN.out X HTX.out)
  go_upto_region 3 with (refine wpList_skip rfl (sx rfl rfl rfl) ?_)
  clear sx
  go_wp2_with ((with_reducible refine wpList_load_obj ?_ rfl ?_ ox ?_); rfl; rfl)
  clear ox
  refine HHV.out.mono ?_
  rintro e W3 ⟨rfl, hb3⟩
  have HC3 := Lib.hid (HK.out.after hb3)
  have HA3 := Lib.hid (HO.out.after hb3)
  have HW3 := Lib.hid (HW.out.trans (hb3.mono HW.out.size))
  have HL3 := Lib.hid (HLX.out.after hb3)
  have HT3 := Lib.hid (HTX.out.after hb3)
  clear HK HO HW HLX HTX HHV
  clear hb3
  obtain ⟨o1, o2, o3⟩ := HO123.out
  have e3 := HE3.out
  have c17 := HC3.out.c17
  go_upto_region 9 with (fail)
  clear o1 o2 o3 HO123 c17 e3 HE3
  have HVC := Lib.hid (HVL.out W3 _ HL3.out HT3.out)
  have hc3 := HC3.out
  go_wp2_with ((with_reducible refine wpList_load_obj ?_ rfl ?_ hc3 ?_); rfl; rfl)
  clear hc3
  refine HVC.out.mono ?_
  rintro e W4 ⟨rfl, hb4⟩
  obtain ⟨X4, sx4, ox4, lx4, -⟩ := boxing W4 ((none : Option Obj).getD O0)
  have h34 := hb4.trans (lx4.mono hb4.size)
  have HC4 := Lib.hid (HC3.out.after h34)
  have HA4 := Lib.hid (HA3.out.after h34)
  have HW4 := Lib.hid (HW3.out.trans (h34.mono HW3.out.size))
  have HL4 := Lib.hid (HL3.out.after h34)
  have HT4 := Lib.hid (HT3.out.after h34)
  have hn4 : W2.heap.size < W4.heap.size := Nat.lt_of_lt_of_le (Array.getElem?_eq_some_iff.1 HC3.out).1 hb4.size
  have HN4 := Lib.hid hn4
  clear HVC hb4 lx4 h34 HC3 HA3 HW3 HL3 HT3 HVL hn4
  clear ox4
  have c4 := HC4.out.c4
  rw [HD.out] at c4
  go_upto_region 20 with (refine wpList_skip rfl (sx4 rfl rfl rfl) ?_)
  clear sx4 c4
  have c17 := HC4.out.c17
  have e2 := H2.out
  go_upto_region 28 with (fail)
  clear e2
  have e1 := H1.out
  obtain ⟨V8, hst8, ho, -, hb⟩ := acting HA4.out nothing
  have HO8 := Lib.hid ho
  have HX8 := Lib.hid (hb _ _ HW4.out (Nat.le_refl _))
  clear ho hb
  go_wp2_with (first | (refine wpList_skip rfl (hst8 rfl rfl rfl) ?_) | ((with_reducible refine wpList_build_to rfl 36 _ rfl (cellsA nothing) ?_ ?_); exact built_act0'))
  refine bodyPost_ret (v := encA nothing) (results_cell_row rfl _ _ w.heap.size 36 (cellsA nothing) (0, 0) _ rfl HO8.out undAct rfl sizeAct) rfl ?_
  exact ⟨rfl, HX8.out⟩

set_option maxRecDepth 100000 in
set_option maxHeartbeats 8000000 in
theorem rcl_pend (l : List Obj) (v : Value) (ver : Int) (name : ByteArray) (w : World) (hl : ObjsIn w v l) (hn : l.length < 100000) (ht : Tab w) (hall : ∀ s ∈ l, (0 ≤ s.born ∧ s.born ≤ 18446744073709551615) ∧ s.name.size ≤ 140737488351232) (c : Obj) (hr : getL l 3 name = some c) (hh : ¬ handleN c = E0) (hp : ¬ c.phase = 3) (hv : volN l c = none) (hd : c.deleting = false) (h2 : ¬ c.phase = 2) (h1 : c.phase = 1) :
    Calls Tryd.prog 9 #[v, .int .u64 ver, .string name] w fun e w' => e = .returned (encA (beginN l c (IntKind.u64.wrap (ver + 1)))) ∧ Below w.heap.size w w' := by
  have HU := Lib.hid (fun V (hV : ObjsIn V v l) => uniq_any l v V hV hn)
  have hnL : (uniqL l).length < 100000 := Nat.lt_of_le_of_lt (uniq_len l) hn
  obtain ⟨o, cp, rfl, -, -⟩ := id hl
  have HL0 := Lib.hid hl
  have HT := Lib.hid ht
  have hug := uniq_get l 3 name
  rw [hr] at hug
  have hcin := hall c (List.mem_of_find?_eq_some hr)
  have HHN := Lib.hid (fun V (hV : Tab V) => rhandle_any c V hV hcin.1 hcin.2)
  have o1 : (handleN c).toList ≠ [] := fun e => hh ((emp_iff _).1 e)
  have o2 : ((handleN c).toList == []) = false := by simpa using o1
  have o3 : (handleN c).toList.isEmpty = false := by simpa using o1
  generalize handleN c = h at *
  have e3 : (c.phase == 3) = false := by simpa using hp
  have HE3 := Lib.hid e3
  clear hh hp e3
  have HO123 := Lib.hid (And.intro o1 (And.intro o2 o3))
  clear o1 o2 o3
  have hvl := vol_is l c
  rw [hv] at hvl
  clear hv
  have HD := Lib.hid hd
  have e2 : (c.phase == 2) = false := by simpa using h2
  have H2 := Lib.hid e2
  clear hd h2 e2
  have H1 := Lib.hid h1
  clear h1
  have HPD := Lib.hid (fun (V : World) (s : Value) (hV : ObjsIn V s (uniqL l)) (hT : Tab V) => rpending_any (uniqL l) s ver c V hV hnL hT hcin.1 hcin.2)
  rw [uniq_get, uniq_get, uniq_get, pend_is] at HPD
  obtain ⟨x, hx⟩ : ∃ x, beginN l c (IntKind.u64.wrap (ver + 1)) = x := ⟨_, rfl⟩
  rw [hx] at HPD ⊢
  clear hx
  clear hr
  generalize uniqL l = L at *
  have HVL := Lib.hid (fun (V : World) (s : Value) (hV : ObjsIn V s L) (hT : Tab V) => rvol_any L s c V hV hT hcin.1 hcin.2)
  rw [hvl] at HVL
  clear hvl
  have HG := Lib.hid (fun (V : World) (s : Value) (hV : ObjsIn V s L) => rget_any L s 3 name V hV)
  rw [hug] at HG
  clear hl hn ht hall hug hnL hcin
  go_enter Tryd.func9, Tryd.ntmps9
  go_upto_region 1 with (fail)
  refine wp_gen (fun V => BoxA V w.heap.size nothing ∧ Below w.heap.size w V) ⟨heap_alloc_new _ _, (Below.refl _ _).alloc (Nat.le_refl _) _⟩ ?_
  rintro V0 ⟨ho, hl⟩
  have HO0 := Lib.hid ho
  have HW0 := Lib.hid hl
  have HUV := Lib.hid (HU.out V0 (HL0.out.after hl))
  clear ho hl HU HL0
  go_wp2_with (fail)
  refine HUV.out.mono ?_
  rintro e W1 ⟨lv, rfl, hl1, hb1⟩
  have HO1 := Lib.hid (HO0.out.after hb1)
  have HW1 := Lib.hid (HW0.out.trans (hb1.mono HW0.out.size))
  obtain ⟨o1, c1, rfl, hm, -⟩ := id hl1
  have HL := Lib.hid hl1
  have HGV := Lib.hid (HG.out W1 _ hl1)
  clear HUV HO0 HW0 hb1 hl1 HG
  go_wp2_with (fail)
  refine HGV.out.mono ?_
  rintro e W2 ⟨rfl, hb2⟩
  obtain ⟨X, sx, ox, lx, -⟩ := boxing W2 ((some c).getD O0)
  have hwx := hb2.trans (lx.mono hb2.size)
  have hne : w.heap.size < W2.heap.size := Nat.lt_of_lt_of_le (Array.getElem?_eq_some_iff.1 HO1.out).1 hb2.size
  have HO := Lib.hid (HO1.out.after hwx)
  have HW := Lib.hid (HW1.out.trans (hwx.mono HW1.out.size))
  have HLX := Lib.hid (HL.out.after hwx)
  have HTX := Lib.hid (HT.out.after HW.out)
  have HNE := Lib.hid hne
  clear HGV hb2 lx hwx HO1 HW1 HL HT hne
  replace ox : BoxO X W2.heap.size c := ox
  have HK := Lib.hid ox
  have HHV := Lib.hid (HHN.out X HTX.out)
  go_upto_region 3 with (refine wpList_skip rfl (sx rfl rfl rfl) ?_)
  clear sx
  go_wp2_with ((with_reducible refine wpList_load_obj ?_ rfl ?_ ox ?_); rfl; rfl)
  clear ox
  refine HHV.out.mono ?_
  rintro e W3 ⟨rfl, hb3⟩
  have HC3 := Lib.hid (HK.out.after hb3)
  have HA3 := Lib.hid (HO.out.after hb3)
  have HW3 := Lib.hid (HW.out.trans (hb3.mono HW.out.size))
  have HL3 := Lib.hid (HLX.out.after hb3)
  have HT3 := Lib.hid (HTX.out.after hb3)
  clear HK HO HW HLX HTX HHV
  clear hb3
  obtain ⟨o1, o2, o3⟩ := HO123.out
  have e3 := HE3.out
  have c17 := HC3.out.c17
  go_upto_region 9 with (fail)
  clear o1 o2 o3 HO123 c17 e3 HE3
  have HVC := Lib.hid (HVL.out W3 _ HL3.out HT3.out)
  have hc3 := HC3.out
  go_wp2_with ((with_reducible refine wpList_load_obj ?_ rfl ?_ hc3 ?_); rfl; rfl)
  clear hc3
  refine HVC.out.mono ?_
  rintro e W4 ⟨rfl, hb4⟩
  obtain ⟨X4, sx4, ox4, lx4, -⟩ := boxing W4 ((none : Option Obj).getD O0)
  have h34 := hb4.trans (lx4.mono hb4.size)
  have HC4 := Lib.hid (HC3.out.after h34)
  have HA4 := Lib.hid (HA3.out.after h34)
  have HW4 := Lib.hid (HW3.out.trans (h34.mono HW3.out.size))
  have HL4 := Lib.hid (HL3.out.after h34)
  have HT4 := Lib.hid (HT3.out.after h34)
  have hn4 : W2.heap.size < W4.heap.size := Nat.lt_of_lt_of_le (Array.getElem?_eq_some_iff.1 HC3.out).1 hb4.size
  have HN4 := Lib.hid hn4
  clear HVC hb4 lx4 h34 HC3 HA3 HW3 HL3 HT3 HVL hn4
  clear ox4
  have c4 := HC4.out.c4
  rw [HD.out] at c4
  go_upto_region 20 with (refine wpList_skip rfl (sx4 rfl rfl rfl) ?_)
  clear sx4 c4
  have c17 := HC4.out.c17
  have e2 := H2.out
  go_upto_region 28 with (fail)
  clear e2
  rw [H1.out] at c17
  go_upto_region 30 with (fail)
  have HPC := Lib.hid (HPD.out X4 _ HL4.out HT4.out)
  have hcx := HC4.out
  clear c17 HPD HHN HL4 HT4
  go_wp2_with ((with_reducible refine wpList_load_obj ?_ rfl ?_ hcx ?_); rfl; rfl)
  refine HPC.out.mono ?_
  rintro e W7 ⟨rfl, hb7⟩
  obtain ⟨V8, hst8, ho, -, hb⟩ := acting (HA4.out.after hb7) x
  have HO8 := Lib.hid ho
  have HX8 := Lib.hid (hb _ _ (HW4.out.trans (hb7.mono HW4.out.size)) (Nat.le_refl _))
  clear ho hb HPC hb7 hcx
  go_wp2_with (refine wpList_skip rfl (hst8 rfl rfl rfl) ?_)
  refine bodyPost_ret (v := encA x) (results_cell_row rfl _ _ w.heap.size 36 (cellsA x) (0, 0) _ rfl HO8.out undAct rfl sizeAct) rfl ?_
  exact ⟨rfl, HX8.out⟩
end Go.Proofs.YtfpdchabknoklaaDoor.O.B
namespace Go.Proofs.YtfpdchabknoklaaDoor.O.B
open Go Go.RowKit Go.Shelf Go.Lib RangeMap KM
attribute [local go_sem] Oper.semAt_some

theorem rclaim_any (l : List Obj) (v : Value) (ver : Int) (name : ByteArray) (w : World) (hl : ObjsIn w v l) (hn : l.length < 100000) (ht : Tab w) (hall : ∀ s ∈ l, (0 ≤ s.born ∧ s.born ≤ 18446744073709551615) ∧ s.name.size ≤ 140737488351232) :
    Calls Tryd.prog 9 #[v, .int .u64 ver, .string name] w fun e w' => e = .returned (encA (claimN l ver name)) ∧ Below w.heap.size w w' := by
  unfold claimN
  cases hr : getL l 3 name with
  | none => exact rcl_none l v ver name w hl hn ht hall hr
  | some c =>
    dsimp only
    by_cases hh : handleN c = E0
    · rw [if_pos hh]
      exact rcl_long l v ver name w hl hn ht hall c hr hh
    · rw [if_neg hh]
      by_cases hp : c.phase = 3
      · rw [if_pos hp]
        unfold letN
        cases hd : c.deleting with
        | false => exact rcl_keep l v ver name w hl hn ht hall c hr hh hp hd
        | true =>
          cases hu : (wantedN l c || atNodeN l c) with
          | true => exact rcl_used l v ver name w hl hn ht hall c hr hh hp hd hu
          | false => exact rcl_gone l v ver name w hl hn ht hall c hr hh hp hd hu
      · rw [if_neg hp]
        cases hv : volN l c with
        | some vo => exact rcl_take l v ver name w hl hn ht hall c hr hh hp vo hv
        | none =>
          dsimp only
          cases hd : c.deleting with
          | true =>
            rw [if_pos rfl]
            unfold offN
            by_cases h0 : c.num = 0
            · rw [if_pos h0]
              exact rcl_off0 l v ver name w hl hn ht hall c hr hh hp hv hd h0
            · rw [if_neg h0]
              by_cases h2 : c.phase = 2
              · rw [if_pos h2]
                exact rcl_off2 l v ver name w hl hn ht hall c hr hh hp hv hd h0 h2
              · rw [if_neg h2]
                exact rcl_off l v ver name w hl hn ht hall c hr hh hp hv hd h0 h2
          | false =>
            rw [if_neg (by decide)]
            by_cases h2 : c.phase = 2
            · rw [if_pos h2]
              unfold makeN
              by_cases hs : c.source = E0
              · rw [if_pos hs]
                exact rcl_make0 l v ver name w hl hn ht hall c hr hh hp hv hd h2 hs
              · rw [if_neg hs]
                cases hsn : getL l 7 c.source with
                | none => exact rcl_make1 l v ver name w hl hn ht hall c hr hh hp hv hd h2 hs hsn
                | some s => exact rcl_make2 l v ver name w hl hn ht hall c hr hh hp hv hd h2 hs s hsn
            · rw [if_neg h2]
              by_cases h1 : c.phase = 1
              · rw [if_pos h1]
                exact rcl_pend l v ver name w hl hn ht hall c hr hh hp hv hd h2 h1
              · rw [if_neg h1]
                exact rcl_idle l v ver name w hl hn ht hall c hr hh hp hv hd h2 h1
end Go.Proofs.YtfpdchabknoklaaDoor.O.B
namespace Go.Proofs.YtfpdchabknoklaaDoor.O.B
open Go Go.RowKit Go.Shelf Go.Lib RangeMap KM

set_option maxRecDepth 100000 in
set_option maxHeartbeats 2000000 in
theorem eql_act (a b : Ac) (w : World) : (binOp .eql 36 (encA a) (encA b)).run Tryd.prog w = .ok (.bool (decide (a = b))) w := by
  obtain ⟨a0, ⟨a1, a2, a3, a4, a5, a6, a7, a8, a9, a10, a11, a12, a13, a14, a15, a16, a17, a18, a19, a20⟩, ⟨c1, c2, c3, c4, c5, c6, c7⟩⟩ := a
  obtain ⟨b0, ⟨b1, b2, b3, b4, b5, b6, b7, b8, b9, b10, b11, b12, b13, b14, b15, b16, b17, b18, b19, b20⟩, ⟨d1, d2, d3, d4, d5, d6, d7⟩⟩ := b
  unfold encA cellsA
  dsimp only
  go_simp
  simp only [eqT, Bool.and_assoc]
  iterate 27 refine and_if ?_
  exact last_if
theorem neq_act (a b : Ac) (w : World) : (binOp .neq 36 (encA a) (encA b)).run Tryd.prog w = .ok (.bool (!decide (a = b))) w := by
  have h := eql_act a b w
  unfold encA at *
  rw [run_eql_struct] at h
  rw [run_neq_struct]
  generalize (Op.equalIn 10000 36 _ _).run Tryd.prog w = r at *
  cases r with
  | ok b w1 =>
    simp only [Result.andThen, Result.ok.injEq, Value.bool.injEq] at h ⊢
    rw [h.1, h.2]; exact ⟨rfl, rfl⟩
  | halt a b => simp [Result.andThen] at h
set_option maxRecDepth 100000 in
set_option maxHeartbeats 2000000 in
theorem eql_call (a b : Cl) (w : World) : (binOp .eql 34 (encC a) (encC b)).run Tryd.prog w = .ok (.bool (decide (a = b))) w := by
  obtain ⟨c1, c2, c3, c4, c5, c6, c7⟩ := a
  obtain ⟨d1, d2, d3, d4, d5, d6, d7⟩ := b
  unfold encC cellsC
  dsimp only
  go_simp
  simp only [eqT]
  iterate 6 refine and_if ?_
  exact last_if
theorem neq_call (a b : Cl) (w : World) : (binOp .neq 34 (encC a) (encC b)).run Tryd.prog w = .ok (.bool (!decide (a = b))) w := by
  have h := eql_call a b w
  unfold encC at *
  rw [run_eql_struct] at h
  rw [run_neq_struct]
  generalize (Op.equalIn 10000 34 _ _).run Tryd.prog w = r at *
  cases r with
  | ok b w1 =>
    simp only [Result.andThen, Result.ok.injEq, Value.bool.injEq] at h ⊢
    rw [h.1, h.2]; exact ⟨rfl, rfl⟩
  | halt a b => simp [Result.andThen] at h
end Go.Proofs.YtfpdchabknoklaaDoor.O.B
namespace Go.Proofs.YtfpdchabknoklaaDoor.O.B
open Go Go.RowKit Go.Shelf Go.Lib RangeMap KM
attribute [local go_sem] Oper.semAt_some

/-- What a call came to. -/
structure Rs where
  err : Int
  size : Int
  zone : ByteArray
  tag : Int
def encR (r : Rs) : Value := .agg #[.int .i64 r.err, .int .i64 r.size, .string r.zone, .int .u64 r.tag]
def BoxR (W : World) (b : Nat) (r : Rs) : Prop := W.heap[b]? = some (.cells #[.int .i64 r.err, .int .i64 r.size, .string r.zone, .int .u64 r.tag] 43 (0, 0))
def BoxK (W : World) (b : Nat) (k : Int) (n : ByteArray) : Prop := W.heap[b]? = some (.cells #[.int .u8 k, .string n] 40 (0, 0))
theorem BoxR.after {W W' : World} {b : Nat} {r : Rs} (h : BoxR W b r) (hb : Below W.heap.size W W') : BoxR W' b r := (hb.block b (Array.getElem?_eq_some_iff.1 h).1).trans h
theorem BoxK.after {W W' : World} {b : Nat} {k : Int} {n : ByteArray} (h : BoxK W b k n) (hb : Below W.heap.size W W') : BoxK W' b k n := (hb.block b (Array.getElem?_eq_some_iff.1 h).1).trans h
theorem undKey : Tryd.prog.underlying 40 = some (.struct (Tryd.prog.fieldsOf 40)) := by kernel_rfl
theorem sizeKey : (Tryd.prog.info? 40).map (·.size) = some 2 := by kernel_rfl
theorem load_key {W : World} {b : Nat} {k : Int} {n : ByteArray} (h : BoxK W b k n) {oi : Oper} {a : Act} {x : Operand} (ho : oi.op = .load 40 x) (hx : a.eval x = .pointer (some ⟨b, 0, none⟩)) :
    (execOp a.eval oi).run Tryd.prog W = .ok (.value (encK k n)) W := by
  unfold execOp
  simp only [ho, hx, Instr.loadAt, Instr.sureAddr, Sem.run_bind, Sem.run_pure, Result.andThen_ok, run_loadVar_row W b 40 40 _ (0, 0) _ h undKey rfl sizeKey]
  rfl
theorem exec_neq_act {W : World} {A B : Ac} {oi : Oper} {a : Act} {x y : Operand} {t : TypeId} (ho : oi.op = .binOp .neq 36 x y t) (hx : a.eval x = encA A) (hy : a.eval y = encA B) :
    (execOp a.eval oi).run Tryd.prog W = .ok (.value (.bool (!decide (A = B)))) W := by
  have h := neq_act A B W
  have hg : (eqGuard .neq 36 x y (encA A) (encA B)).run Tryd.prog W = .ok () W := by kernel_rfl
  unfold execOp
  simp only [ho, hx, hy, Sem.run_bind, Result.andThen_ok, hg, h]
  rfl
theorem chain4 (w : World) (a b c d : Go.Obj) : ((((w.alloc a).alloc b).alloc c).alloc d).heap[w.heap.size]? = some a ∧ ((((w.alloc a).alloc b).alloc c).alloc d).heap[w.heap.size + 1]? = some b ∧ ((((w.alloc a).alloc b).alloc c).alloc d).heap[w.heap.size + 1 + 1]? = some c ∧
    ((((w.alloc a).alloc b).alloc c).alloc d).heap[w.heap.size + 1 + 1 + 1]? = some d ∧ Below w.heap.size w ((((w.alloc a).alloc b).alloc c).alloc d) := by
  obtain ⟨h1, h2, h3, h4⟩ := chain3 w a b c
  have s3 : (((w.alloc a).alloc b).alloc c).heap.size = w.heap.size + 1 + 1 + 1 := by rw [World.size_alloc, World.size_alloc, World.size_alloc]
  refine ⟨(Below.heap_alloc _ d _ (by omega)).trans h1, (Below.heap_alloc _ d _ (by omega)).trans h2, (Below.heap_alloc _ d _ (by omega)).trans h3, ?_, h4.alloc (by omega) _⟩
  rw [← s3]
  exact heap_alloc_new _ d
theorem BoxR.cells {W : World} {b : Nat} {r : Rs} (h : BoxR W b r) : W.cell? ⟨b, 0, none⟩ = some (.int .i64 r.err) ∧ W.cell? ⟨b, 1, none⟩ = some (.int .i64 r.size) ∧ W.cell? ⟨b, 3, none⟩ = some (.int .u64 r.tag) :=
  ⟨(cell_of_row W b 0 _ _ _ h).trans rfl, (cell_of_row W b 1 _ _ _ h).trans rfl, (cell_of_row W b 3 _ _ _ h).trans rfl⟩
theorem BoxC.verb {W : World} {b : Nat} {c : Cl} (h : BoxC W b c) : W.cell? ⟨b, 0, none⟩ = some (.int .u8 c.verb) := (cell_of_row W b 0 _ _ _ h).trans rfl
theorem exec_neq_call {W : World} {A B : Cl} {oi : Oper} {a : Act} {x y : Operand} {t : TypeId} (ho : oi.op = .binOp .neq 34 x y t) (hx : a.eval x = encC A) (hy : a.eval y = encC B) :
    (execOp a.eval oi).run Tryd.prog W = .ok (.value (.bool (!decide (A = B)))) W := by
  have h := neq_call A B W
  have hg : (eqGuard .neq 34 x y (encC A) (encC B)).run Tryd.prog W = .ok () W := by kernel_rfl
  unfold execOp
  simp only [ho, hx, hy, Sem.run_bind, Result.andThen_ok, hg, h]
  rfl
theorem BoxK.cells {W : World} {b : Nat} {k : Int} {n : ByteArray} (h : BoxK W b k n) : W.cell? ⟨b, 0, none⟩ = some (.int .u8 k) ∧ W.cell? ⟨b, 1, none⟩ = some (.string n) :=
  ⟨(cell_of_row W b 0 _ _ _ h).trans rfl, (cell_of_row W b 1 _ _ _ h).trans rfl⟩
theorem BoxC.cells {W : World} {b : Nat} {c : Cl} (h : BoxC W b c) : W.cell? ⟨b, 0, none⟩ = some (.int .u8 c.verb) ∧ W.cell? ⟨b, 1, none⟩ = some (.string c.target) :=
  ⟨(cell_of_row W b 0 _ _ _ h).trans rfl, (cell_of_row W b 1 _ _ _ h).trans rfl⟩
theorem BoxA.kind {W : World} {b : Nat} {a : Ac} (h : BoxA W b a) : W.cell? ⟨b, 0, none⟩ = some (.int .u8 a.act) := (cell_of_row W b 0 _ _ _ h).trans rfl
theorem exec_neq_diff {W : World} {A B : Cl} (hne : ¬ A = B) {oi : Oper} {a : Act} {x y : Operand} {t : TypeId} (ho : oi.op = .binOp .neq 34 x y t) (hx : a.eval x = encC A) (hy : a.eval y = encC B) :
    (execOp a.eval oi).run Tryd.prog W = .ok (.value (.bool true)) W := by
  have h := exec_neq_call (W := W) ho hx hy
  rw [show (!decide (A = B)) = true by simp [hne]] at h
  exact h
theorem exec_neq_at {W : World} {A B : Cl} (he : A = B) {oi : Oper} {a : Act} {x y : Operand} {t : TypeId} (ho : oi.op = .binOp .neq 34 x y t) (hx : a.eval x = encC A) (hy : a.eval y = encC B) :
    (execOp a.eval oi).run Tryd.prog W = .ok (.value (.bool false)) W := by
  have h := exec_neq_call (W := W) ho hx hy
  rw [show (!decide (A = B)) = false by simp [he]] at h
  exact h
/-- An act that asks is nothing but the question. -/
def Plain (A : Ac) : Prop := A.act = 3 → A = askA A.call
theorem plain_write (o : Obj) : Plain (writeA o) := fun h => absurd h (by show ¬ (1 : Int) = 3; omega)
theorem plain_none : Plain nothing := fun h => absurd h (by show ¬ (0 : Int) = 3; omega)
theorem plain_ask (c : Cl) : Plain (askA c) := fun _ => rfl
def Verbs (P : Int → Prop) (A : Ac) : Prop := A.act = 3 → P A.call.verb
end Go.Proofs.YtfpdchabknoklaaDoor.O.B
namespace Go.Proofs.YtfpdchabknoklaaDoor.O.B
open Go Go.Lib

def nextB (l : List Obj) (ver k : Int) (n : ByteArray) : Ac := if k = 3 then claimN l ver n else if k = 4 then volumeN l ver n else nothing
/-- The volume that was made for a claim. -/
def rawN (c : Obj) (name : ByteArray) (keep : Bool) (r : Rs) : Obj := ⟨4, name, 0, 0, false, false, c.cls, c.size, r.size, c.mode, keep, false, r.zone, E0, refN c, E0, E0, 3, 0, 0⟩
def madeN (c : Obj) (keep : Bool) (r : Rs) : Obj := defO (rawN c (handleN c) keep r)
def backN (c k : Obj) (next : Int) : Obj := { c with phase := 1, zone := E0, node := if k.wait = true then E0 else c.node, num := next }
def createdN (c k : Obj) (next : Int) (r : Rs) : Ac :=
  if r.err = 0 then writeA (madeN c k.keep r) else if r.err = 13 then nothing else if r.err = 9 then writeA { c with num := next } else writeA (backN c k next)
def erasedN (o : Obj) (next e : Int) : Ac := if e = 0 then removeA o else if e = 9 then writeA { o with num := next } else nothing
def behindB (k o : Obj) (next : Int) (c : Cl) (r : Rs) : Ac := if c.verb = 1 then createdN o k next r else erasedN o next r.err
/-- The object that a call is for; its class. -/
def forN (l : List Obj) (k : Int) (n : ByteArray) : Obj := (getL l k n).getD O0
def clsN (l : List Obj) (o : Obj) : Obj := (getL l 1 o.cls).getD O0
def afterB (l : List Obj) (ver k : Int) (n : ByteArray) (c : Cl) (r : Rs) : Ac := if nextB l ver k n = askA c then behindB (clsN l (forN l k n)) (forN l k n) (up ver) c r else nothing

theorem claimN_uniq (l : List Obj) (ver : Int) (n : ByteArray) : claimN (uniqL l) ver n = claimN l ver n := by
  unfold claimN letN wantedN atNodeN volN makeN beginN zoneN readyN
  simp only [uniq_get, there_idem, node_uniq, bestN_uniq]
theorem volumeN_uniq (l : List Obj) (ver : Int) (n : ByteArray) : volumeN (uniqL l) ver n = volumeN l ver n := by
  unfold volumeN claimedN inUseN atN cutN
  simp only [uniq_get, there_idem]
theorem claim_none {l : List Obj} {ver : Int} {n : ByteArray} (h : getL l 3 n = none) : claimN l ver n = nothing := by
  unfold claimN
  rw [h]
theorem volume_none {l : List Obj} {ver : Int} {n : ByteArray} (h : getL l 4 n = none) : volumeN l ver n = nothing := by
  unfold volumeN
  rw [h]
theorem write_ne (o : Obj) (c : Cl) : writeA o ≠ askA c := fun h => absurd (congrArg Ac.act h) (by show ¬ (1 : Int) = 3; omega)
theorem remove_ne (o : Obj) (c : Cl) : removeA o ≠ askA c := fun h => absurd (congrArg Ac.act h) (by show ¬ (2 : Int) = 3; omega)
theorem nothing_ne (c : Cl) : nothing ≠ askA c := fun h => absurd (congrArg Ac.act h) (by show ¬ (0 : Int) = 3; omega)
theorem ask_inj {c d : Cl} (h : askA c = askA d) : c = d := congrArg Ac.call h
theorem claim_plain (l : List Obj) (ver : Int) (n : ByteArray) : Plain (claimN l ver n) := by
  unfold claimN letN offN makeN beginN
  repeat' split
  all_goals first | exact plain_write _ | exact plain_none | exact plain_ask _ | exact fun h => absurd h (by show ¬ (2 : Int) = 3; omega)
theorem volume_plain (l : List Obj) (ver : Int) (n : ByteArray) : Plain (volumeN l ver n) := by
  unfold volumeN
  repeat' split
  all_goals first | exact plain_write _ | exact plain_none | exact plain_ask _
/-- What a claim asks: that its volume is made, or erased. -/
theorem claim_asks {l : List Obj} {ver : Int} {n : ByteArray} {c : Cl} (h : claimN l ver n = askA c) : ∃ o, getL l 3 n = some o ∧ handleN o ≠ E0 ∧ c.target = handleN o ∧ (c.verb = 1 ∧ o.phase = 2 ∧ c.zone = o.zone ∧ c.size = o.size ∨ c.verb = 2 ∧ c.zone = E0) := by
  unfold claimN at h
  cases hg : getL l 3 n with
  | none => rw [hg] at h; exact absurd h (nothing_ne c)
  | some o =>
    rw [hg] at h
    dsimp only at h
    by_cases hh : handleN o = E0
    · rw [if_pos hh] at h
      exact absurd h (nothing_ne c)
    rw [if_neg hh] at h
    refine ⟨o, rfl, hh, ?_⟩
    split at h
    · unfold letN at h
      split at h
      · exact absurd h (nothing_ne c)
      · exact absurd h (remove_ne _ c)
    · split at h
      · exact absurd h (write_ne _ c)
      · split at h
        · unfold offN at h
          split at h
          · exact absurd h (remove_ne _ c)
          · split at h
            · exact absurd h (write_ne _ c)
            · have := ask_inj h
              subst this
              exact ⟨rfl, .inr ⟨rfl, rfl⟩⟩
        · split at h
          · rename_i h2
            unfold makeN at h
            split at h
            · have := ask_inj h
              subst this
              exact ⟨rfl, .inl ⟨rfl, h2, rfl, rfl⟩⟩
            · split at h
              · exact absurd h (nothing_ne c)
              · have := ask_inj h
                subst this
                exact ⟨rfl, .inl ⟨rfl, h2, rfl, rfl⟩⟩
          · split at h
            · unfold beginN at h
              repeat' split at h
              all_goals first | exact absurd h (write_ne _ c) | exact absurd h (nothing_ne c)
            · exact absurd h (nothing_ne c)
/-- What a volume asks: that it is erased. -/
theorem volume_asks {l : List Obj} {ver : Int} {n : ByteArray} {c : Cl} (h : volumeN l ver n = askA c) : c.verb = 2 ∧ c.zone = E0 := by
  unfold volumeN at h
  repeat' split at h
  all_goals first | exact absurd h (write_ne _ c) | exact absurd h (nothing_ne c) | (have := ask_inj h; subst this; exact ⟨rfl, rfl⟩)
/-- The same in the document's order. -/
def docB (k o : Obj) (next : Int) (c : Cl) (r : Rs) : Ac :=
  if r.err = 9 then writeA { o with num := next }
  else if c.verb = 2 then (if r.err = 0 then removeA o else nothing)
  else if r.err = 13 then nothing
  else if r.err = 0 then writeA (defO (rawN o c.target k.keep r)) else writeA (backN o k next)
theorem behind_doc1 (k o : Obj) (t : Int) (c : Cl) (r : Rs) (h : c.verb = 1) (ht : c.target = handleN o) : behindB k o t c r = docB k o t c r := by
  unfold behindB docB createdN madeN
  rw [h, ht]
  by_cases h9 : r.err = 9
  · simp [h9]
  · by_cases h0 : r.err = 0
    · simp [h0]
    · simp [h9, h0]
theorem behind_doc2 (k o : Obj) (t : Int) (c : Cl) (r : Rs) (h : c.verb = 2) : behindB k o t c r = docB k o t c r := by
  unfold behindB docB erasedN
  rw [h]
  by_cases h9 : r.err = 9
  · simp [h9]
  · simp [h9]
theorem after_claim (l : List Obj) (ver : Int) (n : ByteArray) (c : Cl) (r : Rs) : afterB l ver 3 n c r = if claimN l ver n = askA c then docB (clsN l (forN l 3 n)) (forN l 3 n) (up ver) c r else nothing := by
  unfold afterB nextB
  rw [if_pos rfl]
  by_cases h : claimN l ver n = askA c
  · rw [if_pos h, if_pos h]
    obtain ⟨o, ho, -, h1, h2 | h2⟩ := claim_asks h
    · exact behind_doc1 _ _ _ _ _ h2.1 (by unfold forN; rw [ho]; exact h1)
    · exact behind_doc2 _ _ _ _ _ h2.1
  · rw [if_neg h, if_neg h]
theorem after_volume (l : List Obj) (ver : Int) (n : ByteArray) (c : Cl) (r : Rs) : afterB l ver 4 n c r = if volumeN l ver n = askA c then docB (clsN l (forN l 4 n)) (forN l 4 n) (up ver) c r else nothing := by
  have hn : nextB l ver 4 n = volumeN l ver n := by unfold nextB; rw [if_neg (show ¬ (4 : Int) = 3 by decide), if_pos rfl]
  unfold afterB
  rw [hn]
  by_cases h : volumeN l ver n = askA c
  · rw [if_pos h, if_pos h]
    exact behind_doc2 _ _ _ _ _ (volume_asks h).1
  · rw [if_neg h, if_neg h]
theorem after_other (l : List Obj) (ver k : Int) (n : ByteArray) (c : Cl) (r : Rs) (h3 : k ≠ 3) (h4 : k ≠ 4) : afterB l ver k n c r = nothing := by
  unfold afterB nextB
  rw [if_neg h3, if_neg h4, if_neg (nothing_ne c)]
theorem after_gone (l : List Obj) (ver k : Int) (n : ByteArray) (c : Cl) (r : Rs) (h : getL l k n = none) : afterB l ver k n c r = nothing := by
  by_cases h3 : k = 3
  · subst h3
    rw [after_claim, claim_none h, if_neg (nothing_ne c)]
  · by_cases h4 : k = 4
    · subst h4
      rw [after_volume, volume_none h, if_neg (nothing_ne c)]
    · exact after_other _ _ _ _ _ _ h3 h4
end Go.Proofs.YtfpdchabknoklaaDoor.O.B
namespace Go.Proofs.YtfpdchabknoklaaDoor.O
open Go.RowKit T
open Go.Lib

theorem beq_nd {a b : Int} (h : a ≠ b) : (a == b) = false := by simpa using h
theorem orPhase_any (x y : Int) (w : World) :
    Calls Tryd.prog 92 #[.int .u8 x, .int .u8 y] w fun e w' => e = .returned (.int .u8 (if x = 0 then y else x)) ∧ w = w' := by
  by_cases h : x = 0
  · subst h
    go_enter Tryd.func92, Tryd.ntmps92
    go_wp2
    go_ret
    exact ⟨by simp, rfl⟩
  · have e1 := beq_nd h
    have h' := Lib.hid h
    clear h
    go_enter Tryd.func92, Tryd.ntmps92
    go_wp2
    go_ret
    exact ⟨rfl, rfl⟩
theorem orMode_any (x y : Int) (w : World) :
    Calls Tryd.prog 93 #[.int .u8 x, .int .u8 y] w fun e w' => e = .returned (.int .u8 (if x = 0 then y else x)) ∧ w = w' := by
  by_cases h : x = 0
  · subst h
    go_enter Tryd.func93, Tryd.ntmps93
    go_wp2
    go_ret
    exact ⟨by simp, rfl⟩
  · have e1 := beq_nd h
    have h' := Lib.hid h
    clear h
    go_enter Tryd.func93, Tryd.ntmps93
    go_wp2
    go_ret
    exact ⟨rfl, rfl⟩
theorem orInt_any (x y : Int) (w : World) :
    Calls Tryd.prog 94 #[.int .i64 x, .int .i64 y] w fun e w' => e = .returned (.int .i64 (if x = 0 then y else x)) ∧ w = w' := by
  by_cases h : x = 0
  · subst h
    go_enter Tryd.func94, Tryd.ntmps94
    go_wp2
    go_ret
    exact ⟨by simp, rfl⟩
  · have e1 := beq_nd h
    have h' := Lib.hid h
    clear h
    go_enter Tryd.func94, Tryd.ntmps94
    go_wp2
    go_ret
    exact ⟨rfl, rfl⟩
def orI (x y : Int) : Int := if x = 0 then y else x
theorem orPhase' (x y : Int) (w : World) : Calls Tryd.prog 92 #[.int .u8 x, .int .u8 y] w fun e w' => e = .returned (.int .u8 (orI x y)) ∧ w = w' := orPhase_any x y w
theorem orMode' (x y : Int) (w : World) : Calls Tryd.prog 93 #[.int .u8 x, .int .u8 y] w fun e w' => e = .returned (.int .u8 (orI x y)) ∧ w = w' := orMode_any x y w
theorem orInt' (x y : Int) (w : World) : Calls Tryd.prog 94 #[.int .i64 x, .int .i64 y] w fun e w' => e = .returned (.int .i64 (orI x y)) ∧ w = w' := orInt_any x y w

set_option maxRecDepth 100000 in
set_option maxHeartbeats 2000000 in
theorem default_4 (o : Obj) (w : World) (hk : o.kind = 4) :
    Calls Tryd.prog 82 #[encO o] w fun e w' => e = .returned (encO (defO o)) ∧ Below w.heap.size w w' := by
  have hE : Hid (defO o = { o with hold := true, phase := orI o.phase 4, mode := orI o.mode 1, got := orI o.got o.size }) := by show _ = _; unfold defO; rw [if_neg (by omega), if_pos hk]; rfl
  have e3 : (o.kind == 3) = false := by rw [hk]; rfl
  have e4 : (o.kind == 4) = true := by rw [hk]; rfl
  clear hk
  unfold encO
  go_enter Tryd.func82, Tryd.ntmps82
  go_upto_region 1 with (fail)
  refine wp_gen (fun W => BoxO W w.heap.size o ∧ BoxO W (w.heap.size + 1) O0 ∧ Below w.heap.size w W) ⟨(BoxO.new w o).alloc _, heap_alloc2_new w _ _, ((Below.refl _ _).alloc (Nat.le_refl _) _).alloc (by simp) _⟩ ?_
  rintro W1 ⟨hb, hr, hlow⟩
  have c0 := hb.c0
  have n5 := hb.c5
  have f5 := hb.free 5
  go_upto_region 8 with (fail)
  refine wp_gen (fun W => BoxO W w.heap.size ({ o with hold := true }) ∧ BoxO W (w.heap.size + 1) O0 ∧ Below w.heap.size w W) ⟨hb.s5 (true), hr.other (by simp) _, hlow.setCell (by simp) _⟩ ?_
  clear hb hr hlow n5 f5 c0
  rintro W2 ⟨hb, hr, hlow⟩
  have n17 := hb.c17
  have f17 := hb.free 17
  go_upto_region 9 with ((go_at_call 92; refine (orPhase' _ _ _).mono ?_; rintro e w' ⟨rfl, rfl⟩))
  refine wp_gen (fun W => BoxO W w.heap.size ({ o with hold := true, phase := orI o.phase 4 }) ∧ BoxO W (w.heap.size + 1) O0 ∧ Below w.heap.size w W) ⟨hb.s17 (orI o.phase 4), hr.other (by simp) _, hlow.setCell (by simp) _⟩ ?_
  clear hb hr hlow n17 f17
  rintro W3 ⟨hb, hr, hlow⟩
  have n9 := hb.c9
  have f9 := hb.free 9
  go_upto_region 10 with ((go_at_call 93; refine (orMode' _ _ _).mono ?_; rintro e w' ⟨rfl, rfl⟩))
  refine wp_gen (fun W => BoxO W w.heap.size ({ o with hold := true, phase := orI o.phase 4, mode := orI o.mode 1 }) ∧ BoxO W (w.heap.size + 1) O0 ∧ Below w.heap.size w W) ⟨hb.s9 (orI o.mode 1), hr.other (by simp) _, hlow.setCell (by simp) _⟩ ?_
  clear hb hr hlow n9 f9
  rintro W4 ⟨hb, hr, hlow⟩
  have n8 := hb.c8
  have f8 := hb.free 8
  have n7 := hb.c7
  go_upto_region 16 with ((go_at_call 94; refine (orInt' _ _ _).mono ?_; rintro e w' ⟨rfl, rfl⟩))
  refine wp_gen (fun W => BoxO W w.heap.size ({ o with hold := true, phase := orI o.phase 4, mode := orI o.mode 1, got := orI o.got o.size }) ∧ BoxO W (w.heap.size + 1) O0 ∧ Below w.heap.size w W) ⟨hb.s8 (orI o.got o.size), hr.other (by simp) _, hlow.setCell (by simp) _⟩ ?_
  clear n7 hb hr hlow n8 f8
  rintro W5 ⟨hb, hr, hlow⟩
  have hb' := hE.out ▸ hb
  go_wp2_with (first | ((with_reducible refine wpList_load_row rfl 31 _ rfl w.heap.size ?_ 31 (cellsO (defO o)) (0, 0) _ ?_ undObj ?_ ?_ ?_); rfl; exact hb'; rfl; exact sizeObj) | ((with_reducible refine wpList_store_rowTo rfl 31 _ _ rfl rfl (w.heap.size + 1) (cellsO (defO o)) ?_ ?_ 31 (cellsO O0) ?_ ?_ ?_ ?_ ?_); rfl; rfl; exact hr; exact sizeObj; exact sz_cells _ _; exact one_cells _))
  refine bodyPost_ret (v := encO (defO o)) (results_cell_row rfl _ _ (w.heap.size + 1) 31 (cellsO (defO o)) (0, 0) _ rfl (hr.setRow _) undObj rfl sizeObj) rfl ?_
  exact ⟨rfl, below_setRow hlow (by omega) _⟩
end Go.Proofs.YtfpdchabknoklaaDoor.O
namespace Go.Proofs.YtfpdchabknoklaaDoor.O
open Go.RowKit T
open Go.Lib

set_option maxRecDepth 100000 in
set_option maxHeartbeats 8000000 in
theorem rdefault_00 (o : Obj) (w : World) (hk : o.kind = 4) (hp : o.phase = 3) (hm : ¬ o.mode = 0) (hg : ¬ o.got = 0) :
    Calls Tryd.prog 42 #[encO o] w fun e w' => e = .returned (encO (defO o)) ∧ Below w.heap.size w w' := by
  have hE : Hid (defO o = { o with hold := true }) := by
    show _ = _
    unfold defO
    rw [if_neg (by omega), if_pos hk]
    simp only [if_neg (show ¬ o.phase = 0 by omega), if_neg hm, if_neg hg]
  have e3 : (o.kind == 3) = false := by rw [hk]; rfl
  have e4 : (o.kind == 4) = true := by rw [hk]; rfl
  have e17 : (o.phase == 0) = false := by rw [hp]; rfl
  have e9 : (o.mode == 0) = false := by simpa using hm
  have e8 : (o.got == 0) = false := by simpa using hg
  clear hk hp hm hg
  unfold encO
  go_enter Tryd.func42, Tryd.ntmps42
  go_upto_region 1 with (fail)
  refine wp_gen (fun W => BoxO W w.heap.size o ∧ BoxO W (w.heap.size + 1) O0 ∧ Below w.heap.size w W) ⟨(BoxO.new w o).alloc _, heap_alloc2_new w _ _, ((Below.refl _ _).alloc (Nat.le_refl _) _).alloc (by simp) _⟩ ?_
  rintro W1 ⟨hb, hr, hlow⟩
  have c0 := hb.c0
  have n5 := hb.c5
  have f5 := hb.free 5
  go_upto_region 10 with (fail)
  refine wp_gen (fun W => BoxO W w.heap.size ({ o with hold := true }) ∧ BoxO W (w.heap.size + 1) O0 ∧ Below w.heap.size w W) ⟨hb.s5 (true), hr.other (by simp) _, hlow.setCell (by simp) _⟩ ?_
  clear hb hr hlow n5 f5 c0
  rintro W2 ⟨hb, hr, hlow⟩
  have n17 := hb.c17
  have n9 := hb.c9
  have n8 := hb.c8
  have hb' := hE.out ▸ hb
  go_wp2_with (first | ((with_reducible refine wpList_load_row rfl 31 _ rfl w.heap.size ?_ 31 (cellsO (defO o)) (0, 0) _ ?_ undObj ?_ ?_ ?_); rfl; exact hb'; rfl; exact sizeObj) | ((with_reducible refine wpList_store_rowTo rfl 31 _ _ rfl rfl (w.heap.size + 1) (cellsO (defO o)) ?_ ?_ 31 (cellsO O0) ?_ ?_ ?_ ?_ ?_); rfl; rfl; exact hr; exact sizeObj; exact sz_cells _ _; exact one_cells _))
  refine bodyPost_ret (v := encO (defO o)) (results_cell_row rfl _ _ (w.heap.size + 1) 31 (cellsO (defO o)) (0, 0) _ rfl (hr.setRow _) undObj rfl sizeObj) rfl ?_
  exact ⟨rfl, below_setRow hlow (by omega) _⟩
set_option maxRecDepth 100000 in
set_option maxHeartbeats 8000000 in
theorem rdefault_01 (o : Obj) (w : World) (hk : o.kind = 4) (hp : o.phase = 3) (hm : ¬ o.mode = 0) (hg : o.got = 0) :
    Calls Tryd.prog 42 #[encO o] w fun e w' => e = .returned (encO (defO o)) ∧ Below w.heap.size w w' := by
  have hE : Hid (defO o = { o with hold := true, got := o.size }) := by
    show _ = _
    unfold defO
    rw [if_neg (by omega), if_pos hk]
    simp only [if_neg (show ¬ o.phase = 0 by omega), if_neg hm, if_pos hg]
  have e3 : (o.kind == 3) = false := by rw [hk]; rfl
  have e4 : (o.kind == 4) = true := by rw [hk]; rfl
  have e17 : (o.phase == 0) = false := by rw [hp]; rfl
  have e9 : (o.mode == 0) = false := by simpa using hm
  have e8 : (o.got == 0) = true := by simpa using hg
  clear hk hp hm hg
  unfold encO
  go_enter Tryd.func42, Tryd.ntmps42
  go_upto_region 1 with (fail)
  refine wp_gen (fun W => BoxO W w.heap.size o ∧ BoxO W (w.heap.size + 1) O0 ∧ Below w.heap.size w W) ⟨(BoxO.new w o).alloc _, heap_alloc2_new w _ _, ((Below.refl _ _).alloc (Nat.le_refl _) _).alloc (by simp) _⟩ ?_
  rintro W1 ⟨hb, hr, hlow⟩
  have c0 := hb.c0
  have n5 := hb.c5
  have f5 := hb.free 5
  go_upto_region 10 with (fail)
  refine wp_gen (fun W => BoxO W w.heap.size ({ o with hold := true }) ∧ BoxO W (w.heap.size + 1) O0 ∧ Below w.heap.size w W) ⟨hb.s5 (true), hr.other (by simp) _, hlow.setCell (by simp) _⟩ ?_
  clear hb hr hlow n5 f5 c0
  rintro W2 ⟨hb, hr, hlow⟩
  have n17 := hb.c17
  have n9 := hb.c9
  have n8 := hb.c8
  have f8 := hb.free 8
  have n7 := hb.c7
  go_upto_region 23 with (fail)
  refine wp_gen (fun W => BoxO W w.heap.size ({ o with hold := true, got := o.size }) ∧ BoxO W (w.heap.size + 1) O0 ∧ Below w.heap.size w W) ⟨hb.s8 o.size, hr.other (by simp) _, hlow.setCell (by simp) _⟩ ?_
  clear hb hr hlow n8 n7 f8
  rintro W4 ⟨hb, hr, hlow⟩
  have hb' := hE.out ▸ hb
  go_wp2_with (first | ((with_reducible refine wpList_load_row rfl 31 _ rfl w.heap.size ?_ 31 (cellsO (defO o)) (0, 0) _ ?_ undObj ?_ ?_ ?_); rfl; exact hb'; rfl; exact sizeObj) | ((with_reducible refine wpList_store_rowTo rfl 31 _ _ rfl rfl (w.heap.size + 1) (cellsO (defO o)) ?_ ?_ 31 (cellsO O0) ?_ ?_ ?_ ?_ ?_); rfl; rfl; exact hr; exact sizeObj; exact sz_cells _ _; exact one_cells _))
  refine bodyPost_ret (v := encO (defO o)) (results_cell_row rfl _ _ (w.heap.size + 1) 31 (cellsO (defO o)) (0, 0) _ rfl (hr.setRow _) undObj rfl sizeObj) rfl ?_
  exact ⟨rfl, below_setRow hlow (by omega) _⟩
set_option maxRecDepth 100000 in
set_option maxHeartbeats 8000000 in
theorem rdefault_10 (o : Obj) (w : World) (hk : o.kind = 4) (hp : o.phase = 3) (hm : o.mode = 0) (hg : ¬ o.got = 0) :
    Calls Tryd.prog 42 #[encO o] w fun e w' => e = .returned (encO (defO o)) ∧ Below w.heap.size w w' := by
  have hE : Hid (defO o = { o with hold := true, mode := 1 }) := by
    show _ = _
    unfold defO
    rw [if_neg (by omega), if_pos hk]
    simp only [if_neg (show ¬ o.phase = 0 by omega), if_pos hm, if_neg hg]
  have e3 : (o.kind == 3) = false := by rw [hk]; rfl
  have e4 : (o.kind == 4) = true := by rw [hk]; rfl
  have e17 : (o.phase == 0) = false := by rw [hp]; rfl
  have e9 : (o.mode == 0) = true := by simpa using hm
  have e8 : (o.got == 0) = false := by simpa using hg
  clear hk hp hm hg
  unfold encO
  go_enter Tryd.func42, Tryd.ntmps42
  go_upto_region 1 with (fail)
  refine wp_gen (fun W => BoxO W w.heap.size o ∧ BoxO W (w.heap.size + 1) O0 ∧ Below w.heap.size w W) ⟨(BoxO.new w o).alloc _, heap_alloc2_new w _ _, ((Below.refl _ _).alloc (Nat.le_refl _) _).alloc (by simp) _⟩ ?_
  rintro W1 ⟨hb, hr, hlow⟩
  have c0 := hb.c0
  have n5 := hb.c5
  have f5 := hb.free 5
  go_upto_region 10 with (fail)
  refine wp_gen (fun W => BoxO W w.heap.size ({ o with hold := true }) ∧ BoxO W (w.heap.size + 1) O0 ∧ Below w.heap.size w W) ⟨hb.s5 (true), hr.other (by simp) _, hlow.setCell (by simp) _⟩ ?_
  clear hb hr hlow n5 f5 c0
  rintro W2 ⟨hb, hr, hlow⟩
  have n17 := hb.c17
  have n9 := hb.c9
  have f9 := hb.free 9
  go_upto_region 14 with (fail)
  refine wp_gen (fun W => BoxO W w.heap.size ({ o with hold := true, mode := 1 }) ∧ BoxO W (w.heap.size + 1) O0 ∧ Below w.heap.size w W) ⟨hb.s9 1, hr.other (by simp) _, hlow.setCell (by simp) _⟩ ?_
  clear hb hr hlow n17 n9 f9
  rintro W3 ⟨hb, hr, hlow⟩
  have n8 := hb.c8
  have hb' := hE.out ▸ hb
  go_wp2_with (first | ((with_reducible refine wpList_load_row rfl 31 _ rfl w.heap.size ?_ 31 (cellsO (defO o)) (0, 0) _ ?_ undObj ?_ ?_ ?_); rfl; exact hb'; rfl; exact sizeObj) | ((with_reducible refine wpList_store_rowTo rfl 31 _ _ rfl rfl (w.heap.size + 1) (cellsO (defO o)) ?_ ?_ 31 (cellsO O0) ?_ ?_ ?_ ?_ ?_); rfl; rfl; exact hr; exact sizeObj; exact sz_cells _ _; exact one_cells _))
  refine bodyPost_ret (v := encO (defO o)) (results_cell_row rfl _ _ (w.heap.size + 1) 31 (cellsO (defO o)) (0, 0) _ rfl (hr.setRow _) undObj rfl sizeObj) rfl ?_
  exact ⟨rfl, below_setRow hlow (by omega) _⟩
set_option maxRecDepth 100000 in
set_option maxHeartbeats 8000000 in
theorem rdefault_11 (o : Obj) (w : World) (hk : o.kind = 4) (hp : o.phase = 3) (hm : o.mode = 0) (hg : o.got = 0) :
    Calls Tryd.prog 42 #[encO o] w fun e w' => e = .returned (encO (defO o)) ∧ Below w.heap.size w w' := by
  have hE : Hid (defO o = { o with hold := true, mode := 1, got := o.size }) := by
    show _ = _
    unfold defO
    rw [if_neg (by omega), if_pos hk]
    simp only [if_neg (show ¬ o.phase = 0 by omega), if_pos hm, if_pos hg]
  have e3 : (o.kind == 3) = false := by rw [hk]; rfl
  have e4 : (o.kind == 4) = true := by rw [hk]; rfl
  have e17 : (o.phase == 0) = false := by rw [hp]; rfl
  have e9 : (o.mode == 0) = true := by simpa using hm
  have e8 : (o.got == 0) = true := by simpa using hg
  clear hk hp hm hg
  unfold encO
  go_enter Tryd.func42, Tryd.ntmps42
  go_upto_region 1 with (fail)
  refine wp_gen (fun W => BoxO W w.heap.size o ∧ BoxO W (w.heap.size + 1) O0 ∧ Below w.heap.size w W) ⟨(BoxO.new w o).alloc _, heap_alloc2_new w _ _, ((Below.refl _ _).alloc (Nat.le_refl _) _).alloc (by simp) _⟩ ?_
  rintro W1 ⟨hb, hr, hlow⟩
  have c0 := hb.c0
  have n5 := hb.c5
  have f5 := hb.free 5
  go_upto_region 10 with (fail)
  refine wp_gen (fun W => BoxO W w.heap.size ({ o with hold := true }) ∧ BoxO W (w.heap.size + 1) O0 ∧ Below w.heap.size w W) ⟨hb.s5 (true), hr.other (by simp) _, hlow.setCell (by simp) _⟩ ?_
  clear hb hr hlow n5 f5 c0
  rintro W2 ⟨hb, hr, hlow⟩
  have n17 := hb.c17
  have n9 := hb.c9
  have f9 := hb.free 9
  go_upto_region 14 with (fail)
  refine wp_gen (fun W => BoxO W w.heap.size ({ o with hold := true, mode := 1 }) ∧ BoxO W (w.heap.size + 1) O0 ∧ Below w.heap.size w W) ⟨hb.s9 1, hr.other (by simp) _, hlow.setCell (by simp) _⟩ ?_
  clear hb hr hlow n17 n9 f9
  rintro W3 ⟨hb, hr, hlow⟩
  have n8 := hb.c8
  have f8 := hb.free 8
  have n7 := hb.c7
  go_upto_region 23 with (fail)
  refine wp_gen (fun W => BoxO W w.heap.size ({ o with hold := true, mode := 1, got := o.size }) ∧ BoxO W (w.heap.size + 1) O0 ∧ Below w.heap.size w W) ⟨hb.s8 o.size, hr.other (by simp) _, hlow.setCell (by simp) _⟩ ?_
  clear hb hr hlow n8 n7 f8
  rintro W4 ⟨hb, hr, hlow⟩
  have hb' := hE.out ▸ hb
  go_wp2_with (first | ((with_reducible refine wpList_load_row rfl 31 _ rfl w.heap.size ?_ 31 (cellsO (defO o)) (0, 0) _ ?_ undObj ?_ ?_ ?_); rfl; exact hb'; rfl; exact sizeObj) | ((with_reducible refine wpList_store_rowTo rfl 31 _ _ rfl rfl (w.heap.size + 1) (cellsO (defO o)) ?_ ?_ 31 (cellsO O0) ?_ ?_ ?_ ?_ ?_); rfl; rfl; exact hr; exact sizeObj; exact sz_cells _ _; exact one_cells _))
  refine bodyPost_ret (v := encO (defO o)) (results_cell_row rfl _ _ (w.heap.size + 1) 31 (cellsO (defO o)) (0, 0) _ rfl (hr.setRow _) undObj rfl sizeObj) rfl ?_
  exact ⟨rfl, below_setRow hlow (by omega) _⟩
theorem rdefault_any (o : Obj) (w : World) (hk : o.kind = 4) (hp : o.phase = 3) : Calls Tryd.prog 42 #[encO o] w fun e w' => e = .returned (encO (defO o)) ∧ Below w.heap.size w w' := by
  by_cases hm : o.mode = 0 <;> by_cases hg : o.got = 0
  · exact rdefault_11 o w hk hp hm hg
  · exact rdefault_10 o w hk hp hm hg
  · exact rdefault_01 o w hk hp hm hg
  · exact rdefault_00 o w hk hp hm hg
end Go.Proofs.YtfpdchabknoklaaDoor.O
namespace Go.Proofs.YtfpdchabknoklaaDoor.O.B
open Go Go.RowKit Go.Shelf Go.Lib RangeMap KM
attribute [local go_sem] Oper.semAt_some

/-- Some object lies there. -/
def AnyO (W : World) (b : Nat) : Prop := ∃ o, BoxO W b o
theorem AnyO.after {W W' : World} {b : Nat} (h : AnyO W b) (hb : Below W.heap.size W W') : AnyO W' b := h.imp fun _ h => h.after hb
theorem BoxR.zone {W : World} {b : Nat} {r : Rs} (h : BoxR W b r) : W.cell? ⟨b, 2, none⟩ = some (.string r.zone) := (cell_of_row W b 2 _ _ _ h).trans rfl
theorem built_raw (h f cl zo : ByteArray) (si go mo : Int) (ke : Bool) : Tryd.prog.built 31 [(0, .int .u8 4), (1, .string h), (6, .string cl), (7, .int .i64 si), (8, .int .i64 go), (9, .int .u8 mo), (10, .bool ke), (12, .string zo), (14, .string f), (17, .int .u8 3)] = some (cellsO ⟨4, h, 0, 0, false, false, cl, si, go, mo, ke, false, zo, E0, f, E0, E0, 3, 0, 0⟩) := by kernel_rfl
theorem undRes' : Tryd.prog.underlying 43 = some (.struct (Tryd.prog.fieldsOf 43)) := by kernel_rfl
theorem sizeRes' : (Tryd.prog.info? 43).map (·.size) = some 4 := by kernel_rfl
theorem load_res {W : World} {b : Nat} {r : Rs} (h : BoxR W b r) {oi : Oper} {a : Act} {x : Operand} (ho : oi.op = .load 43 x) (hx : a.eval x = .pointer (some ⟨b, 0, none⟩)) :
    (execOp a.eval oi).run Tryd.prog W = .ok (.value (encR r)) W := by
  unfold execOp
  simp only [ho, hx, Instr.loadAt, Instr.sureAddr, Sem.run_bind, Sem.run_pure, Result.andThen_ok, run_loadVar_row W b 43 43 _ (0, 0) _ h undRes' rfl sizeRes']
  rfl

set_option maxRecDepth 100000 in
set_option maxHeartbeats 8000000 in
theorem made_any (c : Obj) (keep : Bool) (r : Rs) (w : World) (ht : Tab w) (hb : 0 ≤ c.born ∧ c.born ≤ 18446744073709551615) (hn : c.name.size ≤ 140737488351232) :
    Calls Tryd.prog 69 #[encO c, .bool keep, encR r] w fun e w' => e = .returned (encO (madeN c keep r)) ∧ Below w.heap.size w w' := by
  have HT0 := Lib.hid ht
  obtain ⟨h, hh⟩ : ∃ h, handleN c = h := ⟨_, rfl⟩
  obtain ⟨f, hf⟩ : ∃ f, refN c = f := ⟨_, rfl⟩
  have HHH := Lib.hid (fun V (hV : Tab V) => handle_any c V hV hb hn)
  have HFF := Lib.hid (fun V (hV : Tab V) => ref_any c V hV hb hn)
  rw [hh] at HHH
  rw [hf] at HFF
  unfold madeN rawN
  rw [hh, hf]
  obtain ⟨q, hq⟩ : ∃ q, (⟨4, h, 0, 0, false, false, c.cls, c.size, r.size, c.mode, keep, false, r.zone, E0, f, E0, E0, 3, 0, 0⟩ : Obj) = q := ⟨_, rfl⟩
  rw [hq]
  have HQ := Lib.hid hq
  have HDD := Lib.hid (fun V => default_4 q V (by rw [← hq]))
  obtain ⟨z, hz⟩ : ∃ z, defO q = z := ⟨_, rfl⟩
  rw [hz] at HDD ⊢
  clear ht hb hn hh hf hq hz
  unfold encO encR
  go_enter Tryd.func69, Tryd.ntmps69
  go_upto_region 1 with (fail)
  refine wp_gen (fun V => BoxO V w.heap.size c ∧ BoxR V (w.heap.size + 1) r ∧ BoxO V (w.heap.size + 1 + 1) O0 ∧ Below w.heap.size w V) (chain3 w _ _ _) ?_
  rintro V ⟨hc, hr, ho, hlw⟩
  have HC := Lib.hid hc
  have HR := Lib.hid hr
  have HO := Lib.hid (⟨_, ho⟩ : AnyO V (w.heap.size + 1 + 1))
  have HW := Lib.hid hlw
  have HT := Lib.hid (HT0.out.after hlw)
  clear hc hr ho hlw
  refine wp_region_held_drew (S := fun V => BoxO V w.heap.size c ∧ BoxR V (w.heap.size + 1) r ∧ AnyO V (w.heap.size + 1 + 1) ∧ Below w.heap.size w V ∧ Tab V) (by kernel_rfl) ⟨HC.out, HR.out, HO.out, HW.out.drew, HT.out.drew⟩ (fun _ => ?_)
  refine HeldBy.gen (fun V => BoxO V w.heap.size c ∧ BoxR V (w.heap.size + 1) r ∧ AnyO V (w.heap.size + 1 + 1) ∧ Below w.heap.size w V ∧ Tab V) ⟨HC.out, HR.out, HO.out, HW.out.drew, HT.out.drew⟩ ?_
  clear HC HR HO HW HT
  rintro U0 HS
  refine HeldBy.take (i := 0) (v := encO c) rfl (by kernel_rfl) (by kernel_rfl) (by kernel_rfl) (fun _ _ _ h => h) (by rfl) (fun V hV => load_obj hV.1 rfl rfl) (by first | (go_simp; rfl) | (go_simp; done)) HS ?_
  refine HeldBy.take (i := 2) rfl (by kernel_rfl) (by kernel_rfl) (by kernel_rfl) (fun _ _ _ h => h) (by rfl) (fun _ _ => by first | (go_simp; rfl) | (go_simp; done)) (by first | (go_simp; rfl) | (go_simp; done)) HS ?_
  refine HeldBy.take (i := 3) rfl (by kernel_rfl) (by kernel_rfl) (by kernel_rfl) (fun _ _ _ h => h) (by rfl) (fun V hV => by have hc := hV.1.c6; first | (go_simp; rfl) | (go_simp; done)) (by first | (go_simp; rfl) | (go_simp; done)) HS ?_
  refine HeldBy.take (i := 4) rfl (by kernel_rfl) (by kernel_rfl) (by kernel_rfl) (fun _ _ _ h => h) (by rfl) (fun _ _ => by first | (go_simp; rfl) | (go_simp; done)) (by first | (go_simp; rfl) | (go_simp; done)) HS ?_
  refine HeldBy.take (i := 5) rfl (by kernel_rfl) (by kernel_rfl) (by kernel_rfl) (fun _ _ _ h => h) (by rfl) (fun V hV => by have hc := hV.1.c7; first | (go_simp; rfl) | (go_simp; done)) (by first | (go_simp; rfl) | (go_simp; done)) HS ?_
  refine HeldBy.take (i := 6) rfl (by kernel_rfl) (by kernel_rfl) (by kernel_rfl) (fun _ _ _ h => h) (by rfl) (fun _ _ => by first | (go_simp; rfl) | (go_simp; done)) (by first | (go_simp; rfl) | (go_simp; done)) HS ?_
  refine HeldBy.take (i := 7) (v := .int .i64 r.size) rfl (by kernel_rfl) (by kernel_rfl) (by kernel_rfl) (fun _ _ _ h => h) (by rfl) (fun V hV => by have h1 := hV.2.1.cells.2.1; first | (go_simp; rfl) | (go_simp; done)) (by first | (go_simp; rfl) | (go_simp; done)) HS ?_
  refine HeldBy.take (i := 8) rfl (by kernel_rfl) (by kernel_rfl) (by kernel_rfl) (fun _ _ _ h => h) (by rfl) (fun _ _ => by first | (go_simp; rfl) | (go_simp; done)) (by first | (go_simp; rfl) | (go_simp; done)) HS ?_
  refine HeldBy.take (i := 9) rfl (by kernel_rfl) (by kernel_rfl) (by kernel_rfl) (fun _ _ _ h => h) (by rfl) (fun V hV => by have hc := hV.1.c9; first | (go_simp; rfl) | (go_simp; done)) (by first | (go_simp; rfl) | (go_simp; done)) HS ?_
  refine HeldBy.take (i := 10) rfl (by kernel_rfl) (by kernel_rfl) (by kernel_rfl) (fun _ _ _ h => h) (by rfl) (fun _ _ => by first | (go_simp; rfl) | (go_simp; done)) (by first | (go_simp; rfl) | (go_simp; done)) HS ?_
  refine HeldBy.take (i := 11) rfl (by kernel_rfl) (by kernel_rfl) (by kernel_rfl) (fun _ _ _ h => h) (by rfl) (fun _ _ => by first | (go_simp; rfl) | (go_simp; done)) (by first | (go_simp; rfl) | (go_simp; done)) HS ?_
  refine HeldBy.take (i := 12) (v := .string r.zone) rfl (by kernel_rfl) (by kernel_rfl) (by kernel_rfl) (fun _ _ _ h => h) (by rfl) (fun V hV => by have h1 := hV.2.1.zone; first | (go_simp; rfl) | (go_simp; done)) (by first | (go_simp; rfl) | (go_simp; done)) HS ?_
  refine HeldBy.take (i := 13) (v := encO c) rfl (by kernel_rfl) (by kernel_rfl) (by kernel_rfl) (fun _ _ _ h => h) (by rfl) (fun V hV => load_obj hV.1 rfl rfl) (by first | (go_simp; rfl) | (go_simp; done)) HS ?_
  refine HeldBy.call (i := 1) (v := .string h) rfl (by kernel_rfl) (by rfl) (by first | (go_simp; done) | (go_simp; first | exact ⟨rfl, rfl⟩ | rfl)) (by first | (go_simp; rfl) | (go_simp; done)) ?_
  refine (HHH.out _ HS.2.2.2.2).mono ?_
  rintro e U1 ⟨rfl, hb⟩
  replace HS : BoxO U1 w.heap.size c ∧ BoxR U1 (w.heap.size + 1) r ∧ AnyO U1 (w.heap.size + 1 + 1) ∧ Below w.heap.size w U1 ∧ Tab U1 := ⟨HS.1.after hb, HS.2.1.after hb, HS.2.2.1.after hb, HS.2.2.2.1.trans (hb.mono HS.2.2.2.1.size), HS.2.2.2.2.after hb⟩
  refine ⟨rfl, HS, ?_⟩
  clear hb
  refine HeldBy.call (i := 14) (v := .string f) rfl (by kernel_rfl) (by rfl) (by first | (go_simp; done) | (go_simp; first | exact ⟨rfl, rfl⟩ | rfl)) (by first | (go_simp; rfl) | (go_simp; done)) ?_
  refine (HFF.out _ HS.2.2.2.2).mono ?_
  rintro e U2 ⟨rfl, hb⟩
  replace HS : BoxO U2 w.heap.size c ∧ BoxR U2 (w.heap.size + 1) r ∧ AnyO U2 (w.heap.size + 1 + 1) ∧ Below w.heap.size w U2 ∧ Tab U2 := ⟨HS.1.after hb, HS.2.1.after hb, HS.2.2.1.after hb, HS.2.2.2.1.trans (hb.mono HS.2.2.2.1.size), HS.2.2.2.2.after hb⟩
  refine ⟨rfl, HS, ?_⟩
  clear hb
  refine HeldBy.take (i := 15) (v := encO q) rfl (by kernel_rfl) (by kernel_rfl) (by kernel_rfl) (fun _ _ _ h => h) (by rfl) (fun _ _ => by have hq := HQ.out; subst hq; exact exec_build 31 _ rfl _ (by exact built_raw h f c.cls r.zone c.size r.size c.mode keep)) (by first | (go_simp; rfl) | (go_simp; done)) HS ?_
  refine HeldBy.call (i := 16) (v := encO z) rfl (by kernel_rfl) (by rfl) (by first | (go_simp; done) | (go_simp; first | exact ⟨rfl, rfl⟩ | rfl)) (by first | (go_simp; rfl) | (go_simp; done)) ?_
  refine (HDD.out _).mono ?_
  rintro e U3 ⟨rfl, hb⟩
  replace HS : BoxO U3 w.heap.size c ∧ BoxR U3 (w.heap.size + 1) r ∧ AnyO U3 (w.heap.size + 1 + 1) ∧ Below w.heap.size w U3 ∧ Tab U3 := ⟨HS.1.after hb, HS.2.1.after hb, HS.2.2.1.after hb, HS.2.2.2.1.trans (hb.mono HS.2.2.2.1.size), HS.2.2.2.2.after hb⟩
  refine ⟨rfl, HS, ?_⟩
  clear hb
  obtain ⟨hc, hr, ho, hlw, ht⟩ := HS
  obtain ⟨p8, ho⟩ := ho
  obtain ⟨V8, hst8, ho8, hx8, hb8⟩ := storing ho z
  have HO8 := Lib.hid ho8
  have HX8 := Lib.hid (hb8 _ _ hlw (by omega))
  have hS8 : BoxO V8 w.heap.size c ∧ BoxR V8 (w.heap.size + 1) r ∧ AnyO V8 (w.heap.size + 1 + 1) ∧ Below w.heap.size w V8 ∧ Tab V8 := ⟨(hx8 _ (by omega)).trans hc, (hx8 _ (by omega)).trans hr, ⟨_, ho8⟩, HX8.out, HT0.out.after HX8.out⟩
  refine HeldBy.store (i := 17) (w' := V8) rfl (by kernel_rfl) (by rfl) (hst8 rfl rfl rfl) (by first | (go_simp; rfl) | (go_simp; done)) hS8 ?_
  refine wpAnyH_done (by kernel_rfl) ?_ _
  clear hS8 hst8 ho8 hx8 hb8 hc hr ho hlw ht
  go_wp2
  refine bodyPost_ret (v := encO z) (results_cell_row rfl _ _ (w.heap.size + 1 + 1) 31 (cellsO z) (0, 0) _ rfl HO8.out undObj rfl sizeObj) rfl ?_
  exact ⟨rfl, HX8.out⟩
end Go.Proofs.YtfpdchabknoklaaDoor.O.B
namespace Go.Proofs.YtfpdchabknoklaaDoor.O.B
open Go Go.RowKit Go.Shelf Go.Lib RangeMap KM
attribute [local go_sem] Oper.semAt_some

set_option maxRecDepth 100000 in
set_option maxHeartbeats 8000000 in
theorem afterErase_any (o : Obj) (next e0 : Int) (w : World) :
    Calls Tryd.prog 40 #[encO o, .int .u64 next, .int .i64 e0] w fun e w' => e = .returned (encA (erasedN o next e0)) ∧ Below w.heap.size w w' := by
  obtain ⟨x, hx⟩ : ∃ x, erasedN o next e0 = x := ⟨_, rfl⟩
  rw [hx]
  unfold erasedN at hx
  have HXX := Lib.hid hx
  clear hx
  unfold encO
  go_enter Tryd.func40, Tryd.ntmps40
  go_upto_region 1 with (fail)
  refine wp_gen (fun V => BoxO V w.heap.size o ∧ BoxA V (w.heap.size + 1) nothing ∧ Below w.heap.size w V) (chain2 w _ _) ?_
  rintro V ⟨hb, ho, hlw⟩
  have HB := Lib.hid hb
  have HO := Lib.hid ho
  have HW := Lib.hid hlw
  clear hb ho hlw
  by_cases h0 : e0 = 0
  · have q0 : (e0 == 0) = true := by simpa using h0
    have HVV : Hid (x = removeA o) := HXX.out.symm.trans (if_pos h0)
    clear h0 HXX
    have hbx := HB.out
    have HCA := Lib.hid (remove_any o V)
    go_wp2_with (first | ((with_reducible refine wpList_load_obj ?_ rfl ?_ hbx ?_); rfl; rfl))
    refine HCA.out.mono ?_
    rintro e W7 ⟨rfl, hb7⟩
    obtain ⟨V8, hst8, ho8, -, hb8⟩ := acting (HO.out.after hb7) (removeA o)
    have HO8 := Lib.hid ho8
    have HX8 := Lib.hid (hb8 _ _ (HW.out.trans (hb7.mono HW.out.size)) (by omega))
    clear ho8 hb8 HCA HO HW hb7 hbx
    go_wp2_with (refine wpList_skip rfl (hst8 rfl rfl rfl) ?_)
    refine bodyPost_ret (v := encA (removeA o)) (results_cell_row rfl _ _ (w.heap.size + 1) 36 (cellsA (removeA o)) (0, 0) _ rfl HO8.out undAct rfl sizeAct) rfl ?_
    exact ⟨by rw [HVV.out], HX8.out⟩
  · have q0 : (e0 == 0) = false := by simpa using h0
    have HX2 := Lib.hid (HXX.out.symm.trans (if_neg h0))
    clear h0 HXX
    by_cases h9 : e0 = 9
    · have q9 : (e0 == 9) = true := by simpa using h9
      have HVV : Hid (x = writeA { o with num := next }) := HX2.out.trans (if_pos h9)
      clear h9 HX2
      have g18 := HB.out.free 18
      have b18 := HB.out.c18
      go_upto_region 6 with (fail)
      refine wp_gen (fun V => BoxO V (w.heap.size) { o with num := next } ∧ BoxA V (w.heap.size + 1) nothing ∧ Below w.heap.size w V) ⟨(HB.out.s18 (next)), ((heap_setCell_other _ ⟨w.heap.size, 18, none⟩ (w.heap.size + 1) _ (by show w.heap.size + 1 ≠ w.heap.size; omega)).trans HO.out), (HW.out.setCell (Nat.le_refl _) _)⟩ ?_
      clear HB HO HW g18 b18
      rintro V6 ⟨hbx, ho, hlw⟩
      have HO := Lib.hid ho
      have HW := Lib.hid hlw
      clear ho hlw
      have HCA := Lib.hid (write_any { o with num := next } V6)
      go_wp2_with (first | ((with_reducible refine wpList_load_obj ?_ rfl ?_ hbx ?_); rfl; rfl))
      refine HCA.out.mono ?_
      rintro e W7 ⟨rfl, hb7⟩
      obtain ⟨V8, hst8, ho8, -, hb8⟩ := acting (HO.out.after hb7) (writeA { o with num := next })
      have HO8 := Lib.hid ho8
      have HX8 := Lib.hid (hb8 _ _ (HW.out.trans (hb7.mono HW.out.size)) (by omega))
      clear ho8 hb8 HCA HO HW hb7 hbx
      go_wp2_with (refine wpList_skip rfl (hst8 rfl rfl rfl) ?_)
      refine bodyPost_ret (v := encA (writeA { o with num := next })) (results_cell_row rfl _ _ (w.heap.size + 1) 36 (cellsA (writeA { o with num := next })) (0, 0) _ rfl HO8.out undAct rfl sizeAct) rfl ?_
      exact ⟨by rw [HVV.out], HX8.out⟩
    · have q9 : (e0 == 9) = false := by simpa using h9
      have HVV : Hid (x = nothing) := HX2.out.trans (if_neg h9)
      clear h9 HX2
      obtain ⟨V8, hst8, ho8, -, hb8⟩ := acting HO.out nothing
      have HO8 := Lib.hid ho8
      have HX8 := Lib.hid (hb8 _ _ HW.out (by omega))
      clear ho8 hb8
      go_wp2_with (first | (refine wpList_skip rfl (hst8 rfl rfl rfl) ?_) | ((with_reducible refine wpList_build_to rfl 36 _ rfl (cellsA nothing) ?_ ?_); exact built_act0'))
      refine bodyPost_ret (v := encA nothing) (results_cell_row rfl _ _ (w.heap.size + 1) 36 (cellsA nothing) (0, 0) _ rfl HO8.out undAct rfl sizeAct) rfl ?_
      exact ⟨by rw [HVV.out], HX8.out⟩

set_option maxRecDepth 100000 in
set_option maxHeartbeats 8000000 in
theorem afterCreate_any (l : List Obj) (v : Value) (c : Obj) (next : Int) (r : Rs) (w : World) (hl : ObjsIn w v l) (ht : Tab w) (hb : 0 ≤ c.born ∧ c.born ≤ 18446744073709551615) (hn : c.name.size ≤ 140737488351232) :
    Calls Tryd.prog 39 #[v, encO c, .int .u64 next, encR r] w fun e w' => e = .returned (encA (createdN c (clsN l c) next r)) ∧ Below w.heap.size w w' := by
  obtain ⟨o, cp, rfl, -, -⟩ := id hl
  have HL := Lib.hid hl
  have HT := Lib.hid ht
  obtain ⟨g, hg⟩ : ∃ g, getL l 1 c.cls = g := ⟨_, rfl⟩
  obtain ⟨k, hk⟩ : ∃ k, g.getD O0 = k := ⟨_, rfl⟩
  have hkk : clsN l c = k := by unfold clsN; rw [hg, hk]
  have HG := Lib.hid (fun V (hV : ObjsIn V (.slice o l.length cp) l) => get_any l _ 1 c.cls V hV)
  rw [hg, hk] at HG
  have HMM := Lib.hid (fun V (hV : Tab V) => made_any c k.keep r V hV hb hn)
  clear hl ht hb hn
  obtain ⟨x, hx⟩ : ∃ x, createdN c (clsN l c) next r = x := ⟨_, rfl⟩
  rw [hx]
  rw [hkk] at hx
  unfold createdN at hx
  have HXX := Lib.hid hx
  clear hx hkk hg hk
  unfold encO encR
  go_enter Tryd.func39, Tryd.ntmps39
  go_upto_region 1 with (fail)
  refine wp_gen (fun V => BoxO V w.heap.size c ∧ BoxR V (w.heap.size + 1) r ∧ BoxA V (w.heap.size + 1 + 1) nothing ∧ Below w.heap.size w V) (chain3 w _ _ _) ?_
  rintro V ⟨hb, hr, ho, hlw⟩
  have n6 := hb.c6
  have HB := Lib.hid hb
  have HR := Lib.hid hr
  have HO := Lib.hid ho
  have HW := Lib.hid hlw
  have HGV := Lib.hid (HG.out V (HL.out.after hlw))
  clear hb hr ho hlw HG HL
  go_wp2_with (fail)
  refine HGV.out.mono ?_
  rintro e W4 ⟨rfl, hb4⟩
  obtain ⟨V5, hs5, hk5, hb5, -⟩ := boxing W4 k
  have hw4 := HW.out.trans (hb4.mono HW.out.size)
  have hr5 := (HR.out.after hb4).after hb5
  obtain ⟨r0, -, -⟩ := hr5.cells
  have HK := Lib.hid hk5
  replace HR := Lib.hid hr5
  replace HB := Lib.hid ((HB.out.after hb4).after hb5)
  replace HO := Lib.hid ((HO.out.after hb4).after hb5)
  replace HW := Lib.hid (hw4.trans (hb5.mono hw4.size))
  have HTV := Lib.hid (HT.out.after HW.out)
  clear HGV hb4 hk5 hb5 hw4 hr5 HT n6
  by_cases h0 : r.err = 0
  · have e0 : (r.err == 0) = true := by simpa using h0
    have HVV : Hid (x = writeA (madeN c k.keep r)) := HXX.out.symm.trans (if_pos h0)
    clear h0 HXX
    have HM := Lib.hid (HMM.out V5 HTV.out)
    have k10 := HK.out.c10
    have hbx := HB.out
    have hrx := HR.out
    obtain ⟨z, hz⟩ : ∃ z, madeN c k.keep r = z := ⟨_, rfl⟩
    rw [hz] at HM HVV
    have HCA := Lib.hid (fun V => write_any z V)
    clear hz HMM
    go_wp2_with (first | (refine wpList_skip rfl (hs5 rfl rfl rfl) ?_) | ((with_reducible refine wpList_load_obj ?_ rfl ?_ hbx ?_); rfl; rfl) | (refine wpList_got rfl (load_res hrx rfl rfl) ?_))
    refine HM.out.mono ?_
    rintro e W6 ⟨rfl, hb6⟩
    have HO6 := Lib.hid (HO.out.after hb6)
    have HW6 := Lib.hid (HW.out.trans (hb6.mono HW.out.size))
    clear hb6 HM HO HW HTV HB HR HK hbx hrx k10 hs5 r0 e0
    go_wp2_with (fail)
    refine (HCA.out _).mono ?_
    rintro e W7 ⟨rfl, hb7⟩
    obtain ⟨V8, hst8, ho8, -, hb8⟩ := acting (HO6.out.after hb7) (writeA z)
    have HO8 := Lib.hid ho8
    have HX8 := Lib.hid (hb8 _ _ (HW6.out.trans (hb7.mono HW6.out.size)) (by omega))
    clear ho8 hb8 HCA HO6 HW6 hb7
    go_wp2_with (refine wpList_skip rfl (hst8 rfl rfl rfl) ?_)
    refine bodyPost_ret (v := encA (writeA z)) (results_cell_row rfl _ _ (w.heap.size + 1 + 1) 36 (cellsA (writeA z)) (0, 0) _ rfl HO8.out undAct rfl sizeAct) rfl ?_
    exact ⟨by rw [HVV.out], HX8.out⟩
  · have e0 : (r.err == 0) = false := by simpa using h0
    have HX2 := Lib.hid (HXX.out.symm.trans (if_neg h0))
    clear h0 HXX HMM HTV HR
    by_cases h13 : r.err = 13
    · have e13 : (r.err == 13) = true := by simpa using h13
      have HVV : Hid (x = nothing) := HX2.out.trans (if_pos h13)
      clear h13 HX2
      obtain ⟨V8, hst8, ho8, -, hb8⟩ := acting HO.out nothing
      have HO8 := Lib.hid ho8
      have HX8 := Lib.hid (hb8 _ _ HW.out (by omega))
      clear ho8 hb8
      go_wp2_with (first | (refine wpList_skip rfl (hst8 rfl rfl rfl) ?_) | ((with_reducible refine wpList_build_to rfl 36 _ rfl (cellsA nothing) ?_ ?_); exact built_act0') | (refine wpList_skip rfl (hs5 rfl rfl rfl) ?_))
      refine bodyPost_ret (v := encA nothing) (results_cell_row rfl _ _ (w.heap.size + 1 + 1) 36 (cellsA nothing) (0, 0) _ rfl HO8.out undAct rfl sizeAct) rfl ?_
      exact ⟨by rw [HVV.out], HX8.out⟩
    · have e13 : (r.err == 13) = false := by simpa using h13
      have HX3 := Lib.hid (HX2.out.trans (if_neg h13))
      clear h13 HX2
      by_cases h9 : r.err = 9
      · have e9 : (r.err == 9) = true := by simpa using h9
        have HVV : Hid (x = writeA { c with num := next }) := HX3.out.trans (if_pos h9)
        clear h9 HX3
        have g18 := HB.out.free 18
        have b18 := HB.out.c18
        go_upto_region 12 with (refine wpList_skip rfl (hs5 rfl rfl rfl) ?_)
        refine wp_gen (fun V => BoxO V (w.heap.size) { c with num := next } ∧ BoxA V (w.heap.size + 1 + 1) nothing ∧ Below w.heap.size w V) ⟨(HB.out.s18 (next)), ((heap_setCell_other _ ⟨w.heap.size, 18, none⟩ (w.heap.size + 1 + 1) _ (by show w.heap.size + 1 + 1 ≠ w.heap.size; omega)).trans HO.out), (HW.out.setCell (Nat.le_refl _) _)⟩ ?_
        clear HB HO HW g18 b18 HK
        rintro V6 ⟨hbx, ho, hlw⟩
        have HO := Lib.hid ho
        have HW := Lib.hid hlw
        clear ho hlw
        have HCA := Lib.hid (write_any { c with num := next } V6)
        go_wp2_with (first | ((with_reducible refine wpList_load_obj ?_ rfl ?_ hbx ?_); rfl; rfl))
        refine HCA.out.mono ?_
        rintro e W7 ⟨rfl, hb7⟩
        obtain ⟨V8, hst8, ho8, -, hb8⟩ := acting (HO.out.after hb7) (writeA { c with num := next })
        have HO8 := Lib.hid ho8
        have HX8 := Lib.hid (hb8 _ _ (HW.out.trans (hb7.mono HW.out.size)) (by omega))
        clear ho8 hb8 HCA HO HW hb7 hbx
        go_wp2_with (refine wpList_skip rfl (hst8 rfl rfl rfl) ?_)
        refine bodyPost_ret (v := encA (writeA { c with num := next })) (results_cell_row rfl _ _ (w.heap.size + 1 + 1) 36 (cellsA (writeA { c with num := next })) (0, 0) _ rfl HO8.out undAct rfl sizeAct) rfl ?_
        exact ⟨by rw [HVV.out], HX8.out⟩
      · have e9 : (r.err == 9) = false := by simpa using h9
        have HX4 := Lib.hid (HX3.out.trans (if_neg h9))
        clear h9 HX3
        by_cases hwt : k.wait = true
        · have HVV : Hid (x = writeA { c with phase := 1, zone := E0, node := E0, num := next }) := by show _ = _; rw [HX4.out]; unfold backN; rw [if_pos hwt]
          clear HX4
          have k11 := HK.out.c11
          rw [hwt] at k11
          have HWT := Lib.hid hwt
          clear hwt
          have g17 := HB.out.free 17
          have b17 := HB.out.c17
          have g12 := HB.out.free 12
          have b12 := HB.out.c12
          have g13 := HB.out.free 13
          have b13 := HB.out.c13
          have g18 := HB.out.free 18
          have b18 := HB.out.c18
          go_upto_region 12 with (refine wpList_skip rfl (hs5 rfl rfl rfl) ?_)
          refine wp_gen (fun V => BoxO V (w.heap.size) { c with phase := 1, zone := E0, node := E0, num := next } ∧ BoxA V (w.heap.size + 1 + 1) nothing ∧ Below w.heap.size w V) ⟨((((HB.out.s17 (1)).s12 (E0)).s13 (E0)).s18 (next)), ((heap_setCell_other _ ⟨w.heap.size, 18, none⟩ (w.heap.size + 1 + 1) _ (by show w.heap.size + 1 + 1 ≠ w.heap.size; omega)).trans ((heap_setCell_other _ ⟨w.heap.size, 13, none⟩ (w.heap.size + 1 + 1) _ (by show w.heap.size + 1 + 1 ≠ w.heap.size; omega)).trans ((heap_setCell_other _ ⟨w.heap.size, 12, none⟩ (w.heap.size + 1 + 1) _ (by show w.heap.size + 1 + 1 ≠ w.heap.size; omega)).trans ((heap_setCell_other _ ⟨w.heap.size, 17, none⟩ (w.heap.size + 1 + 1) _ (by show w.heap.size + 1 + 1 ≠ w.heap.size; omega)).trans HO.out)))), ((((HW.out.setCell (Nat.le_refl _) _).setCell (Nat.le_refl _) _).setCell (Nat.le_refl _) _).setCell (Nat.le_refl _) _)⟩ ?_
          clear HB HO HW g17 b17 g12 b12 g13 b13 g18 b18 HK k11
          rintro V6 ⟨hbx, ho, hlw⟩
          have HO := Lib.hid ho
          have HW := Lib.hid hlw
          clear ho hlw
          have HCA := Lib.hid (write_any { c with phase := 1, zone := E0, node := E0, num := next } V6)
          go_wp2_with (first | ((with_reducible refine wpList_load_obj ?_ rfl ?_ hbx ?_); rfl; rfl))
          refine HCA.out.mono ?_
          rintro e W7 ⟨rfl, hb7⟩
          obtain ⟨V8, hst8, ho8, -, hb8⟩ := acting (HO.out.after hb7) (writeA { c with phase := 1, zone := E0, node := E0, num := next })
          have HO8 := Lib.hid ho8
          have HX8 := Lib.hid (hb8 _ _ (HW.out.trans (hb7.mono HW.out.size)) (by omega))
          clear ho8 hb8 HCA HO HW hb7 hbx
          go_wp2_with (refine wpList_skip rfl (hst8 rfl rfl rfl) ?_)
          refine bodyPost_ret (v := encA (writeA { c with phase := 1, zone := E0, node := E0, num := next })) (results_cell_row rfl _ _ (w.heap.size + 1 + 1) 36 (cellsA (writeA { c with phase := 1, zone := E0, node := E0, num := next })) (0, 0) _ rfl HO8.out undAct rfl sizeAct) rfl ?_
          exact ⟨by rw [HVV.out], HX8.out⟩
        · replace hwt : k.wait = false := by simpa using hwt
          have HVV : Hid (x = writeA { c with phase := 1, zone := E0, node := c.node, num := next }) := by show _ = _; rw [HX4.out]; unfold backN; rw [if_neg (by rw [hwt]; decide)]
          clear HX4
          have k11 := HK.out.c11
          rw [hwt] at k11
          have HWT := Lib.hid hwt
          clear hwt
          have g17 := HB.out.free 17
          have b17 := HB.out.c17
          have g12 := HB.out.free 12
          have b12 := HB.out.c12
          have g18 := HB.out.free 18
          have b18 := HB.out.c18
          go_upto_region 12 with (refine wpList_skip rfl (hs5 rfl rfl rfl) ?_)
          refine wp_gen (fun V => BoxO V (w.heap.size) { c with phase := 1, zone := E0, node := c.node, num := next } ∧ BoxA V (w.heap.size + 1 + 1) nothing ∧ Below w.heap.size w V) ⟨(((HB.out.s17 (1)).s12 (E0)).s18 (next)), ((heap_setCell_other _ ⟨w.heap.size, 18, none⟩ (w.heap.size + 1 + 1) _ (by show w.heap.size + 1 + 1 ≠ w.heap.size; omega)).trans ((heap_setCell_other _ ⟨w.heap.size, 12, none⟩ (w.heap.size + 1 + 1) _ (by show w.heap.size + 1 + 1 ≠ w.heap.size; omega)).trans ((heap_setCell_other _ ⟨w.heap.size, 17, none⟩ (w.heap.size + 1 + 1) _ (by show w.heap.size + 1 + 1 ≠ w.heap.size; omega)).trans HO.out))), (((HW.out.setCell (Nat.le_refl _) _).setCell (Nat.le_refl _) _).setCell (Nat.le_refl _) _)⟩ ?_
          clear HB HO HW g17 b17 g12 b12 g18 b18 HK k11
          rintro V6 ⟨hbx, ho, hlw⟩
          have HO := Lib.hid ho
          have HW := Lib.hid hlw
          clear ho hlw
          have HCA := Lib.hid (write_any { c with phase := 1, zone := E0, node := c.node, num := next } V6)
          go_wp2_with (first | ((with_reducible refine wpList_load_obj ?_ rfl ?_ hbx ?_); rfl; rfl))
          refine HCA.out.mono ?_
          rintro e W7 ⟨rfl, hb7⟩
          obtain ⟨V8, hst8, ho8, -, hb8⟩ := acting (HO.out.after hb7) (writeA { c with phase := 1, zone := E0, node := c.node, num := next })
          have HO8 := Lib.hid ho8
          have HX8 := Lib.hid (hb8 _ _ (HW.out.trans (hb7.mono HW.out.size)) (by omega))
          clear ho8 hb8 HCA HO HW hb7 hbx
          go_wp2_with (refine wpList_skip rfl (hst8 rfl rfl rfl) ?_)
          refine bodyPost_ret (v := encA (writeA { c with phase := 1, zone := E0, node := c.node, num := next })) (results_cell_row rfl _ _ (w.heap.size + 1 + 1) 36 (cellsA (writeA { c with phase := 1, zone := E0, node := c.node, num := next })) (0, 0) _ rfl HO8.out undAct rfl sizeAct) rfl ?_
          exact ⟨by rw [HVV.out], HX8.out⟩

set_option maxRecDepth 100000 in
set_option maxHeartbeats 2000000 in
theorem nextB_any (l : List Obj) (v : Value) (ver k : Int) (n : ByteArray) (w : World) (hl : ObjsIn w v l) (ht : Tab w) (hall : ∀ s ∈ l, (0 ≤ s.born ∧ s.born ≤ 18446744073709551615) ∧ s.name.size ≤ 140737488351232) :
    Calls Tryd.prog 37 #[v, .int .u64 ver, encK k n] w fun e w' => e = .returned (encA (nextB l ver k n)) ∧ Below w.heap.size w w' := by
  obtain ⟨o, cp, rfl, -, -⟩ := id hl
  have HL := Lib.hid hl
  have HT := Lib.hid ht
  have HSN := Lib.hid (fun V (hV : ObjsIn V (.slice o l.length cp) l) (hT : Tab V) => volume_any l _ ver n V hV hT hall)
  have HCL := Lib.hid (fun V (hV : ObjsIn V (.slice o l.length cp) l) (hT : Tab V) => claim_any l _ ver n V hV hT hall)
  clear hl ht hall
  unfold nextB
  generalize claimN l ver n = A at *
  generalize volumeN l ver n = B at *
  obtain ⟨x, hx⟩ : ∃ x, (if k = 3 then A else if k = 4 then B else nothing) = x := ⟨_, rfl⟩
  rw [hx]
  have HXX := Lib.hid hx
  clear hx
  unfold encK
  go_enter Tryd.func37, Tryd.ntmps37
  go_upto_region 1 with (fail)
  refine wp_gen (fun V => BoxK V w.heap.size k n ∧ BoxA V (w.heap.size + 1) nothing ∧ Below w.heap.size w V) (chain2 w _ _) ?_
  rintro V ⟨hk, ho, hlw⟩
  have k0 : V.cell? ⟨w.heap.size, 0, none⟩ = some (.int .u8 k) := (cell_of_row V _ 0 _ _ _ hk).trans rfl
  have k1 : V.cell? ⟨w.heap.size, 1, none⟩ = some (.string n) := (cell_of_row V _ 1 _ _ _ hk).trans rfl
  have HO := Lib.hid ho
  have HW := Lib.hid hlw
  have HA := Lib.hid (HCL.out V (HL.out.after hlw) (HT.out.after hlw))
  have HB := Lib.hid (HSN.out V (HL.out.after hlw) (HT.out.after hlw))
  clear hk ho hlw HSN HCL HL HT
  by_cases h3 : k = 3
  · have e3 : (k == 3) = true := by simpa using h3
    have HVV : Hid (x = A) := HXX.out.symm.trans (if_pos h3)
    clear HXX h3 HB
    go_wp2_with (fail)
    refine HA.out.mono ?_
    rintro e W6 ⟨rfl, hb6⟩
    obtain ⟨V8, hst8, ho8, -, hb8⟩ := acting (HO.out.after hb6) A
    have HO8 := Lib.hid ho8
    have HX8 := Lib.hid (hb8 _ _ (HW.out.trans (hb6.mono HW.out.size)) (by omega))
    clear ho8 hb8 HA HO HW hb6
    go_wp2_with (refine wpList_skip rfl (hst8 rfl rfl rfl) ?_)
    refine bodyPost_ret (v := encA A) (results_cell_row rfl _ _ (w.heap.size + 1) 36 (cellsA A) (0, 0) _ rfl HO8.out undAct rfl sizeAct) rfl ?_
    exact ⟨by rw [HVV.out], HX8.out⟩
  · have e3 : (k == 3) = false := by simpa using h3
    have hxx := HXX.out.symm.trans (if_neg h3)
    clear HXX h3 HA
    by_cases h7 : k = 4
    · have e7 : (k == 4) = true := by simpa using h7
      have HVV : Hid (x = B) := hxx.trans (if_pos h7)
      clear hxx h7
      go_wp2_with (fail)
      refine HB.out.mono ?_
      rintro e W6 ⟨rfl, hb6⟩
      obtain ⟨V8, hst8, ho8, -, hb8⟩ := acting (HO.out.after hb6) B
      have HO8 := Lib.hid ho8
      have HX8 := Lib.hid (hb8 _ _ (HW.out.trans (hb6.mono HW.out.size)) (by omega))
      clear ho8 hb8 HB HO HW hb6
      go_wp2_with (refine wpList_skip rfl (hst8 rfl rfl rfl) ?_)
      refine bodyPost_ret (v := encA B) (results_cell_row rfl _ _ (w.heap.size + 1) 36 (cellsA B) (0, 0) _ rfl HO8.out undAct rfl sizeAct) rfl ?_
      exact ⟨by rw [HVV.out], HX8.out⟩
    · have e7 : (k == 4) = false := by simpa using h7
      have HVV : Hid (x = nothing) := hxx.trans (if_neg h7)
      clear hxx h7
      obtain ⟨V8, hst8, ho8, -, hb8⟩ := acting HO.out nothing
      have HO8 := Lib.hid ho8
      have HX8 := Lib.hid (hb8 _ _ HW.out (by omega))
      clear ho8 hb8 HB HO HW
      go_wp2_with (refine wpList_skip rfl (hst8 rfl rfl rfl) ?_)
      refine bodyPost_ret (v := encA nothing) (results_cell_row rfl _ _ (w.heap.size + 1) 36 (cellsA nothing) (0, 0) _ rfl HO8.out undAct rfl sizeAct) rfl ?_
      exact ⟨by rw [HVV.out], HX8.out⟩

set_option maxRecDepth 100000 in
set_option maxHeartbeats 8000000 in
theorem afterB_any (l : List Obj) (v : Value) (ver k : Int) (n : ByteArray) (c : Cl) (r : Rs) (w : World) (hl : ObjsIn w v l) (ht : Tab w) (hall : ∀ s ∈ l, (0 ≤ s.born ∧ s.born ≤ 18446744073709551615) ∧ s.name.size ≤ 140737488351232) :
    Calls Tryd.prog 11 #[v, .int .u64 ver, encK k n, encC c, encR r] w fun e w' => e = .returned (encA (afterB l ver k n c r)) ∧ Below w.heap.size w w' := by
  obtain ⟨o, cp, rfl, -, -⟩ := id hl
  have HL := Lib.hid hl
  have HT := Lib.hid ht
  have HN := Lib.hid (fun V (hV : ObjsIn V (.slice o l.length cp) l) (hT : Tab V) => nextB_any l _ ver k n V hV hT hall)
  have HG := Lib.hid (fun V (hV : ObjsIn V (.slice o l.length cp) l) => get_any l _ k n V hV)
  obtain ⟨x, hx⟩ : ∃ x, afterB l ver k n c r = x := ⟨_, rfl⟩
  rw [hx]
  unfold afterB at hx
  obtain ⟨p, hp⟩ : ∃ p, forN l k n = p := ⟨_, rfl⟩
  have hp2 : (getL l k n).getD O0 = p := hp
  have HPB : Hid ((0 ≤ p.born ∧ p.born ≤ 18446744073709551615) ∧ p.name.size ≤ 140737488351232) := by
    show _ ∧ _
    rw [← hp2]
    cases hg : getL l k n with
    | none => exact ⟨⟨by decide, by decide⟩, by decide⟩
    | some q => exact hall q (List.mem_of_find?_eq_some hg)
  rw [hp] at hx
  rw [hp2] at HG
  have HCR := Lib.hid (fun V (hV : ObjsIn V (.slice o l.length cp) l) (hT : Tab V) => afterCreate_any l _ p (up ver) r V hV hT HPB.out.1 HPB.out.2)
  have HER := Lib.hid (fun V => afterErase_any p (up ver) r.err V)
  clear hl ht hall hp hp2 HPB
  generalize nextB l ver k n = A at *
  generalize clsN l p = kc at *
  generalize (getL l k n).isSome = f at *
  have HXX := Lib.hid hx
  obtain ⟨t, ht⟩ : ∃ t, decide (A = askA c) = t := ⟨_, rfl⟩
  have HTT := Lib.hid ht
  clear hx ht
  have HKE : Hid (encK k n = .agg #[.int .u8 k, .string n]) := rfl
  unfold encR
  rw [show encC c = .agg (cellsC c) from rfl, HKE.out]
  unfold cellsC
  go_enter Tryd.func11, Tryd.ntmps11
  go_upto_region 1 with (fail)
  refine wp_gen (fun V => BoxK V w.heap.size k n ∧ BoxC V (w.heap.size + 1) c ∧ BoxR V (w.heap.size + 1 + 1) r ∧ BoxA V (w.heap.size + 1 + 1 + 1) nothing ∧ Below w.heap.size w V) (chain4 w _ _ _ _) ?_
  rintro V ⟨hk, hc, hr, ho, hlw⟩
  have HQ := Lib.hid hk
  have HC := Lib.hid hc
  have HR := Lib.hid hr
  have HO := Lib.hid ho
  have HW := Lib.hid hlw
  clear hk hc hr ho hlw
  refine wp_region_held_drew (S := fun V => BoxK V w.heap.size k n ∧ BoxC V (w.heap.size + 1) c ∧ BoxR V (w.heap.size + 1 + 1) r ∧ BoxA V (w.heap.size + 1 + 1 + 1) nothing ∧ Below w.heap.size w V) (by kernel_rfl) ⟨HQ.out, HC.out, HR.out, HO.out, HW.out.drew⟩ (fun _ => ?_)
  refine HeldBy.gen (fun V => BoxK V w.heap.size k n ∧ BoxC V (w.heap.size + 1) c ∧ BoxR V (w.heap.size + 1 + 1) r ∧ BoxA V (w.heap.size + 1 + 1 + 1) nothing ∧ Below w.heap.size w V) ⟨HQ.out, HC.out, HR.out, HO.out, HW.out.drew⟩ ?_
  clear HQ HC HR HO HW
  rintro U0 HS
  refine HeldBy.take (i := 0) rfl (by kernel_rfl) (by kernel_rfl) (by kernel_rfl) (fun _ _ _ h => h) (by rfl) (fun _ _ => by first | (go_simp; rfl) | (go_simp; done)) (by go_simp; rfl) HS ?_
  refine HeldBy.take (i := 1) rfl (by kernel_rfl) (by kernel_rfl) (by kernel_rfl) (fun _ _ _ h => h) (by rfl) (fun _ _ => by first | (go_simp; rfl) | (go_simp; done)) (by go_simp; rfl) HS ?_
  refine HeldBy.take (i := 2) (v := encK k n) rfl (by kernel_rfl) (by kernel_rfl) (by kernel_rfl) (fun _ _ _ h => h) (by rfl) (fun V hV => load_key hV.1 rfl rfl) (by go_simp; rfl) HS ?_
  refine HeldBy.take (i := 4) (v := encC c) rfl (by kernel_rfl) (by kernel_rfl) (by kernel_rfl) (fun _ _ _ h => h) (by rfl) (fun V hV => load_call hV.2.1 rfl rfl) (by go_simp; rfl) HS ?_
  refine HeldBy.call (i := 3) (v := encA A) rfl (by kernel_rfl) (by rfl) (by go_simp; exact ⟨rfl, rfl⟩) (by go_simp; rfl) ?_
  refine (HN.out _ (HL.out.after HS.2.2.2.2) (HT.out.after HS.2.2.2.2)).mono ?_
  rintro e U1 ⟨rfl, hb⟩
  replace HS : BoxK U1 w.heap.size k n ∧ BoxC U1 (w.heap.size + 1) c ∧ BoxR U1 (w.heap.size + 1 + 1) r ∧ BoxA U1 (w.heap.size + 1 + 1 + 1) nothing ∧ Below w.heap.size w U1 := ⟨HS.1.after hb, HS.2.1.after hb, HS.2.2.1.after hb, HS.2.2.2.1.after hb, HS.2.2.2.2.trans (hb.mono HS.2.2.2.2.size)⟩
  refine ⟨rfl, HS, ?_⟩
  clear hb
  refine HeldBy.call (i := 5) (v := encA (askA c)) rfl (by kernel_rfl) (by rfl) (by go_simp; exact ⟨rfl, rfl⟩) (by go_simp; rfl) ?_
  refine (ask_any c _).mono ?_
  rintro e U2 ⟨rfl, hb⟩
  replace HS : BoxK U2 w.heap.size k n ∧ BoxC U2 (w.heap.size + 1) c ∧ BoxR U2 (w.heap.size + 1 + 1) r ∧ BoxA U2 (w.heap.size + 1 + 1 + 1) nothing ∧ Below w.heap.size w U2 := ⟨HS.1.after hb, HS.2.1.after hb, HS.2.2.1.after hb, HS.2.2.2.1.after hb, HS.2.2.2.2.trans (hb.mono HS.2.2.2.2.size)⟩
  refine ⟨rfl, HS, ?_⟩
  clear hb
  refine HeldBy.take (i := 6) (v := .bool (!t)) rfl (by kernel_rfl) (by kernel_rfl) (by kernel_rfl) (fun _ _ _ h => h) (by rfl) (fun V _ => by rw [← HTT.out]; exact exec_neq_act rfl rfl rfl) (by go_simp; rfl) HS ?_
  refine wpAnyH_done (by kernel_rfl) ?_ _
  obtain ⟨hq, hc, hr, ho, hlw⟩ := HS
  cases t with
  | true =>
    have hxx := HXX.out
    rw [if_pos (of_decide_eq_true HTT.out)] at hxx
    unfold behindB at hxx
    have HXX := Lib.hid hxx
    have HO := Lib.hid ho
    have HW := Lib.hid hlw
    obtain ⟨q0, q1⟩ := hq.cells
    have HC := Lib.hid hc
    have HR := Lib.hid hr
    have HGV := Lib.hid (HG.out _ (HL.out.after hlw))
    clear hxx HTT hc hr ho hlw hq HN HG HKE
    go_wp2_with (fail)
    refine HGV.out.mono ?_
    rintro e W4 ⟨rfl, hb4⟩
    obtain ⟨V5, hs5, hk5, hb5, -⟩ := boxing W4 p
    have hw4 := HW.out.trans (hb4.mono HW.out.size)
    have hc5 := (HC.out.after hb4).after hb5
    have hr5 := (HR.out.after hb4).after hb5
    have v0 := hc5.verb
    obtain ⟨r0, -, -⟩ := hr5.cells
    replace HO := Lib.hid ((HO.out.after hb4).after hb5)
    replace HW := Lib.hid (hw4.trans (hb5.mono hw4.size))
    have hbx := hk5
    clear HGV hb4 hb5 hw4 hc5 hk5 HC HR q0 q1
    by_cases h1 : c.verb = 1
    · have e1 : (c.verb == 1) = true := by simpa using h1
      have HX2 := Lib.hid ((if_pos h1).symm.trans HXX.out)
      obtain ⟨y, hy⟩ : ∃ y, createdN p kc (up ver) r = y := ⟨_, rfl⟩
      have HVV : Hid (x = y) := HX2.out.symm.trans hy
      have HF := Lib.hid (HCR.out V5 (HL.out.after HW.out) (HT.out.after HW.out))
      rw [hy] at HF
      clear h1 HXX HX2 hy HCR HER HL HT r0
      go_wp2_with (first | (refine wpList_skip rfl (hs5 rfl rfl rfl) ?_) | ((with_reducible refine wpList_load_obj ?_ rfl ?_ hbx ?_); rfl; rfl) | (refine wpList_got rfl (load_res hr5 rfl rfl) ?_))
      clear hr5 v0 hs5 e1
      refine HF.out.mono ?_
      rintro e W7 ⟨rfl, hb7⟩
      obtain ⟨V8, hst8, ho8, -, hb8⟩ := acting (HO.out.after hb7) y
      have HO8 := Lib.hid ho8
      have HX8 := Lib.hid (hb8 _ _ (HW.out.trans (hb7.mono HW.out.size)) (by omega))
      clear ho8 hb8 HF HO HW hb7 hbx
      go_wp2_with (refine wpList_skip rfl (hst8 rfl rfl rfl) ?_)
      refine bodyPost_ret (v := encA y) (results_cell_row rfl _ _ (w.heap.size + 1 + 1 + 1) 36 (cellsA y) (0, 0) _ rfl HO8.out undAct rfl sizeAct) rfl ?_
      exact ⟨by rw [HVV.out], HX8.out⟩
    · have e1 : (c.verb == 1) = false := by simpa using h1
      have HX2 := Lib.hid ((if_neg h1).symm.trans HXX.out)
      obtain ⟨y, hy⟩ : ∃ y, erasedN p (up ver) r.err = y := ⟨_, rfl⟩
      have HVV : Hid (x = y) := HX2.out.symm.trans hy
      have HF := Lib.hid (HER.out V5)
      rw [hy] at HF
      clear h1 HXX HX2 hy HCR HER HL HT hr5
      go_wp2_with (first | (refine wpList_skip rfl (hs5 rfl rfl rfl) ?_) | ((with_reducible refine wpList_load_obj ?_ rfl ?_ hbx ?_); rfl; rfl))
      clear v0 hs5 e1 r0
      refine HF.out.mono ?_
      rintro e W7 ⟨rfl, hb7⟩
      obtain ⟨V8, hst8, ho8, -, hb8⟩ := acting (HO.out.after hb7) y
      have HO8 := Lib.hid ho8
      have HX8 := Lib.hid (hb8 _ _ (HW.out.trans (hb7.mono HW.out.size)) (by omega))
      clear ho8 hb8 HF HO HW hb7 hbx
      go_wp2_with (refine wpList_skip rfl (hst8 rfl rfl rfl) ?_)
      refine bodyPost_ret (v := encA y) (results_cell_row rfl _ _ (w.heap.size + 1 + 1 + 1) 36 (cellsA y) (0, 0) _ rfl HO8.out undAct rfl sizeAct) rfl ?_
      exact ⟨by rw [HVV.out], HX8.out⟩
  | false =>
    have hxx := HXX.out
    rw [if_neg (of_decide_eq_false HTT.out)] at hxx
    have HVV : Hid (x = nothing) := hxx.symm
    have HO := Lib.hid ho
    have HW := Lib.hid hlw
    clear hxx HTT hq hc hr ho hlw HXX HL HT HN HG HCR HER HKE
    obtain ⟨V8, hst8, ho8, -, hb8⟩ := acting HO.out nothing
    have HO8 := Lib.hid ho8
    have HX8 := Lib.hid (hb8 _ _ HW.out (by omega))
    clear ho8 hb8
    go_wp2_with (first | (refine wpList_skip rfl (hst8 rfl rfl rfl) ?_) | ((with_reducible refine wpList_build_to rfl 36 _ rfl (cellsA nothing) ?_ ?_); exact built_act0'))
    refine bodyPost_ret (v := encA nothing) (results_cell_row rfl _ _ (w.heap.size + 1 + 1 + 1) 36 (cellsA nothing) (0, 0) _ rfl HO8.out undAct rfl sizeAct) rfl ?_
    exact ⟨by rw [HVV.out], HX8.out⟩
end Go.Proofs.YtfpdchabknoklaaDoor.O.B
namespace Go.Proofs.YtfpdchabknoklaaDoor.O.B
open Go Go.RowKit Go.Shelf Go.Lib RangeMap KM
attribute [local go_sem] Oper.semAt_some

def hasC (v c : Obj) : Bool := (c.kind == 3) && decide (refN c = v.claim)
def usesV (n : ByteArray) (a : Obj) : Bool := decide (a.volume = n) && ((a.kind == 5) || ((a.kind == 7) && (a.phase == 10)))
theorem claimed_uniq (l : List Obj) (v : Obj) : claimedN l v = (uniqL l).any (hasC v) := by
  unfold claimedN
  rw [there_uniq, Bool.eq_iff_iff, List.find?_isSome, List.any_eq_true]
  unfold hasC
  simp only [List.mem_filter, decide_eq_true_eq, Bool.and_eq_true, beq_iff_eq]
  exact ⟨fun ⟨x, ⟨h1, h2⟩, h3⟩ => ⟨x, h1, h2, h3⟩, fun ⟨x, h1, h2, h3⟩ => ⟨x, ⟨h1, h2⟩, h3⟩⟩
theorem used_uniq (l : List Obj) (v : Obj) : inUseN l v = (uniqL l).any (usesV v.name) := by
  unfold inUseN atN cutN
  rw [there_uniq, there_uniq, Bool.eq_iff_iff, Bool.or_eq_true, List.find?_isSome, List.find?_isSome, List.any_eq_true]
  unfold usesV
  simp only [List.mem_filter, decide_eq_true_eq, Bool.and_eq_true, Bool.or_eq_true, beq_iff_eq]
  constructor
  · rintro (⟨x, ⟨h1, h2⟩, h3⟩ | ⟨x, ⟨h1, h2⟩, h3, h4⟩)
    · exact ⟨x, h1, h3, .inl h2⟩
    · exact ⟨x, h1, h3, .inr ⟨h2, h4⟩⟩
  · rintro ⟨x, h1, h2, h3 | ⟨h3, h4⟩⟩
    · exact .inl ⟨x, ⟨h1, h3⟩, h2⟩
    · exact .inr ⟨x, ⟨h1, h3⟩, h2, h4⟩
theorem any_no {p : Obj → Bool} {L : List Obj} (h : ∀ i (hi : i < L.length), p L[i] = false) : L.any p = false := by
  rw [List.any_eq_false]
  intro x hx
  obtain ⟨i, hi, rfl⟩ := List.mem_iff_getElem.1 hx
  rw [h i hi]
  decide
theorem any_yes {p : Obj → Bool} {L : List Obj} {i : Nat} (hi : i < L.length) (h : p L[i] = true) : L.any p = true := List.any_eq_true.2 ⟨L[i], List.getElem_mem hi, h⟩
/-- The document's way: by whether there is a claim of it, and whether it is used. -/
def volR (o : Option Obj) (cl us : Obj → Bool) (next : Int) (name : ByteArray) : Ac := match o with
  | none => nothing
  | some v => if v.phase = 4 then (if v.deleting = true ∧ v.keep = false then writeA (erasingN v next) else nothing)
    else if v.phase = 3 then (if cl v = true then nothing else writeA (givenN v next))
    else if v.phase = 6 then (if us v = true then nothing else askA ⟨2, name, v.num, 0, E0, E0, E0⟩) else nothing
theorem volR_is (l : List Obj) (ver : Int) (name : ByteArray) : volR (getL l 4 name) (fun v => (uniqL l).any (hasC v)) (fun _ => (uniqL l).any (usesV name)) (IntKind.u64.wrap (ver + 1)) name = volumeN l ver name := by
  unfold volR volumeN
  cases hg : getL l 4 name with
  | none => rfl
  | some v =>
    have hn : v.name = name := by
      have := List.find?_some hg
      simp only [Bool.and_eq_true, decide_eq_true_eq] at this
      exact this.2
    subst hn
    have hcl := claimed_uniq l v
    have hus := used_uniq l v
    dsimp only
    by_cases p4 : v.phase = 4
    · have n3 : ¬ (v.phase = 3 ∧ claimedN l v = false) := fun e => by rw [p4] at e; exact absurd e.1 (by decide)
      have n6 : ¬ (v.phase = 6 ∧ inUseN l v = false) := fun e => by rw [p4] at e; exact absurd e.1 (by decide)
      rw [if_pos p4]
      by_cases h : v.deleting = true ∧ v.keep = false
      · have y4 : v.phase = 4 ∧ v.deleting = true ∧ v.keep = false := ⟨p4, h⟩
        rw [if_pos h, if_pos y4]
      · have n4 : ¬ (v.phase = 4 ∧ v.deleting = true ∧ v.keep = false) := fun e => h e.2
        rw [if_neg h, if_neg n4, if_neg n3, if_neg n6]
    · have n4 : ¬ (v.phase = 4 ∧ v.deleting = true ∧ v.keep = false) := fun e => p4 e.1
      rw [if_neg p4, if_neg n4]
      by_cases p3 : v.phase = 3
      · have n6 : ¬ (v.phase = 6 ∧ inUseN l v = false) := fun e => by rw [p3] at e; exact absurd e.1 (by decide)
        rw [if_pos p3]
        by_cases hc : claimedN l v = true
        · have n3 : ¬ (v.phase = 3 ∧ claimedN l v = false) := fun e => by rw [hc] at e; cases e.2
          rw [if_pos (hcl.symm.trans hc), if_neg n3, if_neg n6]
        · have hc' : claimedN l v = false := by simpa using hc
          have y3 : v.phase = 3 ∧ claimedN l v = false := ⟨p3, hc'⟩
          have nc : ¬ (uniqL l).any (hasC v) = true := fun e => hc (hcl.trans e)
          rw [if_neg nc, if_pos y3]
      · have n3 : ¬ (v.phase = 3 ∧ claimedN l v = false) := fun e => p3 e.1
        rw [if_neg p3, if_neg n3]
        by_cases p6 : v.phase = 6
        · rw [if_pos p6]
          by_cases hu : inUseN l v = true
          · have n6 : ¬ (v.phase = 6 ∧ inUseN l v = false) := fun e => by rw [hu] at e; cases e.2
            rw [if_pos (hus.symm.trans hu), if_neg n6]
          · have hu' : inUseN l v = false := by simpa using hu
            have y6 : v.phase = 6 ∧ inUseN l v = false := ⟨p6, hu'⟩
            have nu : ¬ (uniqL l).any (usesV v.name) = true := fun e => hu (hus.trans e)
            rw [if_neg nu, if_pos y6]
        · have n6 : ¬ (v.phase = 6 ∧ inUseN l v = false) := fun e => p6 e.1
          rw [if_neg p6, if_neg n6]

theorem exec_eql_kind2 {W : World} {r s : Int} {v : Bool} {oi : Oper} {a : Act} {x y : Operand} {t : TypeId} (ho : oi.op = .binOp .eql 27 x y t) (hx : a.eval x = .int .u8 r) (hy : a.eval y = .int .u8 s) (hv : (r == s) = v) :
    (execOp a.eval oi).run Tryd.prog W = .ok (.value (.bool v)) W := by
  subst hv
  unfold execOp
  simp only [ho, hx, hy]
  go_simp

set_option maxRecDepth 100000 in
set_option maxHeartbeats 8000000 in
theorem rvolume_any (l : List Obj) (v : Value) (ver : Int) (name : ByteArray) (w : World) (hl : ObjsIn w v l) (hn : l.length < 100000) (ht : Tab w) (hall : ∀ s ∈ l, (0 ≤ s.born ∧ s.born ≤ 18446744073709551615) ∧ s.name.size ≤ 140737488351232) :
    Calls Tryd.prog 36 #[v, .int .u64 ver, .string name] w fun e w' => e = .returned (encA (volumeN l ver name)) ∧ Below w.heap.size w w' := by
  have HU := Lib.hid (fun V (hV : ObjsIn V v l) => uniq_any l v V hV hn)
  obtain ⟨o, cp, rfl, -, -⟩ := id hl
  have HL0 := Lib.hid hl
  have HT := Lib.hid ht
  have hvr := volR_is l ver name
  have hug := uniq_get l 4 name
  have hallu : ∀ s ∈ uniqL l, (0 ≤ s.born ∧ s.born ≤ 18446744073709551615) ∧ s.name.size ≤ 140737488351232 := fun s hs => hall s (uniq_mem hs)
  obtain ⟨x, hx⟩ : ∃ x, volumeN l ver name = x := ⟨_, rfl⟩
  rw [hx] at hvr ⊢
  obtain ⟨r, hr⟩ : ∃ r, getL l 4 name = r := ⟨_, rfl⟩
  rw [hr] at hvr hug
  generalize uniqL l = L at *
  have HG := Lib.hid (fun (V : World) (s : Value) (hV : ObjsIn V s L) => rget_any L s 4 name V hV)
  rw [hug] at HG
  have HVR := Lib.hid hvr
  have HALL := Lib.hid hallu
  clear hl hn ht hall hallu hvr hug hx hr
  go_enter Tryd.func36, Tryd.ntmps36
  go_upto_region 1 with (fail)
  refine wp_gen (fun V => BoxA V w.heap.size nothing ∧ Below w.heap.size w V) ⟨heap_alloc_new _ _, (Below.refl _ _).alloc (Nat.le_refl _) _⟩ ?_
  rintro V0 ⟨ho, hl⟩
  have HO0 := Lib.hid ho
  have HW0 := Lib.hid hl
  have HUV := Lib.hid (HU.out V0 (HL0.out.after hl))
  clear ho hl HU HL0
  go_wp2_with (fail)
  refine HUV.out.mono ?_
  rintro e W1 ⟨lv, rfl, hl1, hb1⟩
  have HO1 := Lib.hid (HO0.out.after hb1)
  have HW1 := Lib.hid (HW0.out.trans (hb1.mono HW0.out.size))
  obtain ⟨o1, c1, rfl, hm, -⟩ := id hl1
  have HL := Lib.hid hl1
  have HGV := Lib.hid (HG.out W1 _ hl1)
  clear HUV HO0 HW0 hb1 hl1 HG
  go_wp2_with (fail)
  refine HGV.out.mono ?_
  rintro e W2 ⟨rfl, hb2⟩
  obtain ⟨X, sx, ox, lx, -⟩ := boxing W2 (r.getD O0)
  have hwx := hb2.trans (lx.mono hb2.size)
  have hne : w.heap.size < W2.heap.size := Nat.lt_of_lt_of_le (Array.getElem?_eq_some_iff.1 HO1.out).1 hb2.size
  have HO := Lib.hid (HO1.out.after hwx)
  have HW := Lib.hid (HW1.out.trans (hwx.mono HW1.out.size))
  have HLX := Lib.hid (HL.out.after hwx)
  have HTX := Lib.hid (HT.out.after HW.out)
  have HNE := Lib.hid hne
  clear HGV hb2 lx hwx HO1 HW1 HL HT hne
  cases r with
  | none =>
    have HVV : Hid (x = nothing) := HVR.out.symm
    obtain ⟨V8, hst8, ho, -, hb⟩ := acting HO.out nothing
    have HO8 := Lib.hid ho
    have HX8 := Lib.hid (hb _ _ HW.out (Nat.le_refl _))
    clear ho hb HVR ox
    go_wp2_with (first | (refine wpList_skip rfl (sx rfl rfl rfl) ?_) | (refine wpList_skip rfl (hst8 rfl rfl rfl) ?_))
    refine bodyPost_ret (v := encA nothing) (results_cell_row rfl _ _ w.heap.size 36 (cellsA nothing) (0, 0) _ rfl HO8.out undAct rfl sizeAct) rfl ?_
    exact ⟨by rw [HVV.out], HX8.out⟩
  | some vo =>
    have hk : BoxO X W2.heap.size vo := ox
    have hxx : (if vo.phase = 4 then (if vo.deleting = true ∧ vo.keep = false then writeA (erasingN vo (IntKind.u64.wrap (ver + 1))) else nothing) else if vo.phase = 3 then (if L.any (hasC vo) = true then nothing else writeA (givenN vo (IntKind.u64.wrap (ver + 1)))) else if vo.phase = 6 then (if L.any (usesV name) = true then nothing else askA ⟨2, name, vo.num, 0, E0, E0, E0⟩) else nothing) = x := HVR.out
    have HX2 := Lib.hid hxx
    have v17 := hk.c17
    have HK := Lib.hid hk
    clear hxx HVR ox hk
    go_upto_region 5 with (refine wpList_skip rfl (sx rfl rfl rfl) ?_)
    clear sx
    have write6 : ∀ (u : Obj), Hid (x = writeA u) → Hid (∀ V, Calls Tryd.prog 32 #[encO u] V fun e w' => e = .returned (encA x) ∧ Below V.heap.size V w') := fun u h => by
      have h' := h.out
      subst h'
      exact fun V => rwrite_any u V
    have moved : ∀ (V : World) (a : Addr) (u : Value), a.block = W2.heap.size → BoxA V w.heap.size nothing → BoxA (V.setCell a u) w.heap.size nothing := fun V a u ha hB => (heap_setCell_other V a w.heap.size u (by have := HNE.out; rw [ha]; omega)).trans hB
    have MOVED := Lib.hid moved
    clear moved
    by_cases p4 : vo.phase = 4
    · rw [p4] at v17
      have HX3 : Hid ((if vo.deleting = true ∧ vo.keep = false then writeA (erasingN vo (IntKind.u64.wrap (ver + 1))) else nothing) = x) := by show _ = _; rw [← HX2.out, if_pos p4]
      have v4 := HK.out.c4
      have v10 := HK.out.c10
      clear HX2 p4
      cases hd : vo.deleting with
      | false =>
        have HVV : Hid (x = nothing) := by show _ = _; rw [← HX3.out, if_neg (fun h => by rw [hd] at h; cases h.1)]
        rw [hd] at v4
        clear HX3 hd
        obtain ⟨V8, hst8, ho, -, hb⟩ := acting HO.out nothing
        have HO8 := Lib.hid ho
        have HX8 := Lib.hid (hb _ _ HW.out (Nat.le_refl _))
        clear ho hb write6
        go_wp2_with (first | (refine wpList_skip rfl (hst8 rfl rfl rfl) ?_) | ((with_reducible refine wpList_build_to rfl 36 _ rfl (cellsA nothing) ?_ ?_); exact built_act0'))
        refine bodyPost_ret (v := encA nothing) (results_cell_row rfl _ _ w.heap.size 36 (cellsA nothing) (0, 0) _ rfl HO8.out undAct rfl sizeAct) rfl ?_
        exact ⟨by rw [HVV.out], HX8.out⟩
      | true =>
        rw [hd] at v4
        cases hkp : vo.keep with
        | true =>
          have HVV : Hid (x = nothing) := by show _ = _; rw [← HX3.out, if_neg (fun h => by rw [hkp] at h; cases h.2)]
          rw [hkp] at v10
          clear HX3 hd hkp
          obtain ⟨V8, hst8, ho, -, hb⟩ := acting HO.out nothing
          have HO8 := Lib.hid ho
          have HX8 := Lib.hid (hb _ _ HW.out (Nat.le_refl _))
          clear ho hb write6
          go_wp2_with (first | (refine wpList_skip rfl (hst8 rfl rfl rfl) ?_) | ((with_reducible refine wpList_build_to rfl 36 _ rfl (cellsA nothing) ?_ ?_); exact built_act0'))
          refine bodyPost_ret (v := encA nothing) (results_cell_row rfl _ _ w.heap.size 36 (cellsA nothing) (0, 0) _ rfl HO8.out undAct rfl sizeAct) rfl ?_
          exact ⟨by rw [HVV.out], HX8.out⟩
        | false =>
          have HVV : Hid (x = writeA (erasingN vo (IntKind.u64.wrap (ver + 1)))) := by show _ = _; rw [← HX3.out, if_pos ⟨hd, hkp⟩]
          rw [hkp] at v10
          clear HX3 hd hkp
          go_upto_region 9 with (fail)
          clear v17 v4 v10
          have HWR := write6 _ HVV
          have k17 := HK.out.c17
          have g17 := HK.out.free 17
          have k18 := HK.out.c18
          have g18 := HK.out.free 18
          have hle : w.heap.size ≤ W2.heap.size := Nat.le_of_lt HNE.out
          go_upto_region 10 with (fail)
          refine wp_gen (fun V => BoxO V W2.heap.size (erasingN vo (IntKind.u64.wrap (ver + 1))) ∧ BoxA V w.heap.size nothing ∧ Below w.heap.size w V) ⟨(HK.out.s17 6).s18 _, MOVED.out _ _ _ rfl (MOVED.out _ _ _ rfl HO.out), (HW.out.setCell hle _).setCell hle _⟩ ?_
          clear k17 g17 k18 g18 write6 hle
          rintro V6 ⟨hk6, ho6, hw6⟩
          have HO6 := Lib.hid ho6
          have HW6 := Lib.hid hw6
          clear ho6 hw6
          go_wp2_with ((with_reducible refine wpList_load_obj ?_ rfl ?_ hk6 ?_); rfl; rfl)
          refine (HWR.out _).mono ?_
          rintro e W7 ⟨rfl, hb7⟩
          obtain ⟨V8, hst8, ho, -, hb⟩ := acting (HO6.out.after hb7) x
          have HO8 := Lib.hid ho
          have HX8 := Lib.hid (hb _ _ (HW6.out.trans (hb7.mono HW6.out.size)) (Nat.le_refl _))
          clear ho hb HWR hb7 hk6
          go_wp2_with (refine wpList_skip rfl (hst8 rfl rfl rfl) ?_)
          refine bodyPost_ret (v := encA x) (results_cell_row rfl _ _ w.heap.size 36 (cellsA x) (0, 0) _ rfl HO8.out undAct rfl sizeAct) rfl ?_
          exact ⟨rfl, HX8.out⟩
    · have e4 : (vo.phase == 4) = false := by simpa using p4
      by_cases p3 : vo.phase = 3
      · rw [p3] at v17
        have HX3 : Hid ((if L.any (hasC vo) = true then nothing else writeA (givenN vo (IntKind.u64.wrap (ver + 1)))) = x) := by show _ = _; rw [← HX2.out, if_neg p4, if_pos p3]
        clear HX2 p3 p4 e4
        go_upto_region 12 with (fail)
        clear v17
        go_wp2_with (fail)
        go_loopw [10] (fun i wr => ∃ j : Nat, i = .int .i64 (j : Int) ∧ j ≤ L.length ∧ Hid (∀ p (hp : p < L.length), p < j → hasC vo L[p] = false) ∧ Below X.heap.size X wr) (fun i _ => L.length - (RowKit.intOf i).toNat)
        case atStart => exact ⟨0, rfl, Nat.zero_le _, by show ∀ p _, _ → _; intro p _ h; exact absurd h (by omega), Below.refl _ _⟩
        case round =>
          obtain ⟨j, rfl, hj, HNO, hlow⟩ := hrel
          have HLOW := Lib.hid hlow
          clear hlow
          by_cases hlt : j < L.length
          · have hlt' : (j : Int) < (L.length : Int) := by omega
            obtain ⟨o', c', he, -, hi⟩ := id HLX.out
            cases he
            obtain ⟨g, off, rfl, -, -⟩ := hi j hlt
            obtain ⟨y, hy⟩ : ∃ y, L[j] = y := ⟨_, rfl⟩
            have hrows : ∀ V : World, ObjsIn V (.slice (some ⟨g, off, none⟩) L.length c1) L → V.rangeAt g (off + j * 20) (cellsO y).toList := fun V hV => by
              obtain ⟨o2, c2, e2, -, h2⟩ := hV
              cases e2
              obtain ⟨g3, off3, e3, -, h3⟩ := h2 j hlt
              cases e3
              rw [← hy]
              exact h3
            have HROWS := Lib.hid hrows
            have hin := HALL.out L[j] (List.getElem_mem hlt)
            rw [hy] at hin
            have HRF := Lib.hid (fun V (hV : Tab V) => rref_any y V hV hin.1 hin.2)
            have HNX : Hid (hasC vo y = false → ∀ p (hp : p < L.length), p < j + 1 → hasC vo L[p] = false) := by
              show _ → ∀ p _, _ → _
              intro hf p hp h
              rcases Nat.lt_or_ge p j with h1 | h1
              · exact HNO.out p hp h1
              · obtain rfl : p = j := by omega
                rw [hy]
                exact hf
            have HYES : Hid (hasC vo y = true → L.any (hasC vo) = true) := fun h => any_yes hlt (by rw [hy]; exact h)
            obtain ⟨rf, hrf⟩ : ∃ rf, refN y = rf := ⟨_, rfl⟩
            rw [hrf] at HRF
            have HRFN := Lib.hid hrf
            have HLL := Lib.hid (HLX.out.after HLOW.out)
            have HKK := Lib.hid (HK.out.after HLOW.out)
            have HTT := Lib.hid (HTX.out.after HLOW.out)
            have HWW := HLOW
            clear hi hy hrows hin hrf HLOW HNO
            go_upto_region 15 with (fail)
            cases e1 : (y.kind == 3) with
            | false =>
              have K1 := Lib.hid e1
              have HF : Hid (hasC vo y = false) := by show _ = _; unfold hasC; rw [e1]; rfl
              clear e1
              refine wp_region_held_drew (S := fun V => ObjsIn V (.slice (some ⟨g, off, none⟩) L.length c1) L ∧ BoxO V W2.heap.size vo ∧ Tab V ∧ Below X.heap.size X V) (by kernel_rfl) ⟨HLL.out, HKK.out, HTT.out.drew, HWW.out.drew⟩ (fun _ => ?_)
              refine HeldBy.gen (fun V => ObjsIn V (.slice (some ⟨g, off, none⟩) L.length c1) L ∧ BoxO V W2.heap.size vo ∧ Tab V ∧ Below X.heap.size X V) ⟨HLL.out, HKK.out, HTT.out.drew, HWW.out.drew⟩ ?_
              clear HLL HKK HTT HWW
              rintro U0 HS
              refine HeldBy.take (i := 0) rfl (by kernel_rfl) (by kernel_rfl) (by kernel_rfl) (fun _ _ _ h => h) (by rfl) (fun _ _ => by first | (go_simp; rfl) | (go_simp; done)) (by go_simp; rfl) HS ?_
              refine HeldBy.take (i := 1) rfl (by kernel_rfl) (by kernel_rfl) (by kernel_rfl) (fun _ _ _ h => h) (by rfl) (fun _ _ => by first | (go_simp; rfl) | (go_simp; done)) (by go_simp; rfl) HS ?_
              refine HeldBy.take (i := 2) rfl (by kernel_rfl) (by kernel_rfl) (by kernel_rfl) (fun _ _ _ h => h) (by rfl) (fun _ _ => by first | (go_simp; rfl) | (go_simp; done)) (by go_simp; rfl) HS ?_
              refine HeldBy.take (i := 3) rfl (by kernel_rfl) (by kernel_rfl) (by kernel_rfl) (fun _ _ _ h => h) (by rfl) (fun _ _ => by first | (go_simp; rfl) | (go_simp; done)) (by go_simp; rfl) HS ?_
              refine HeldBy.take (i := 4) (v := .int .u8 y.kind) rfl (by kernel_rfl) (by kernel_rfl) (by kernel_rfl) (fun _ _ _ h => h) (by rfl) (fun V hV => by have h := row_cell (HROWS.out V hV.1) 0 _ rfl; rw [Nat.add_zero] at h; first | (go_simp; rfl) | (go_simp; done)) (by go_simp; rfl) HS ?_
              refine HeldBy.take (i := 5) (v := .bool false) rfl (by kernel_rfl) (by kernel_rfl) (by kernel_rfl) (fun _ _ _ h => h) (by rfl) (fun _ _ => exec_eql_kind2 rfl rfl rfl K1.out) (by go_simp; rfl) HS ?_
              refine HeldBy.take (i := 6) rfl (by kernel_rfl) (by kernel_rfl) (by kernel_rfl) (fun _ _ _ h => h) (by rfl) (fun _ _ => by first | (go_simp; rfl) | (go_simp; done)) (by go_simp; rfl) HS ?_
              refine HeldBy.skip (i := 7) rfl (by kernel_rfl) (by kernel_rfl) (by kernel_rfl) (fun _ _ _ h => h) (by rfl) (by go_simp; rfl) HS ?_
              refine HeldBy.skip (i := 8) rfl (by kernel_rfl) (by kernel_rfl) (by kernel_rfl) (fun _ _ _ h => h) (by rfl) (by go_simp; rfl) HS ?_
              refine HeldBy.skip (i := 9) rfl (by kernel_rfl) (by kernel_rfl) (by kernel_rfl) (fun _ _ _ h => h) (by rfl) (by go_simp; rfl) HS ?_
              refine HeldBy.skip (i := 10) rfl (by kernel_rfl) (by kernel_rfl) (by kernel_rfl) (fun _ _ _ h => h) (by rfl) (by go_simp; rfl) HS ?_
              refine HeldBy.skip (i := 11) rfl (by kernel_rfl) (by kernel_rfl) (by kernel_rfl) (fun _ _ _ h => h) (by rfl) (by go_simp; rfl) HS ?_
              refine HeldBy.skip (i := 12) rfl (by kernel_rfl) (by kernel_rfl) (by kernel_rfl) (fun _ _ _ h => h) (by rfl) (by go_simp; rfl) HS ?_
              refine HeldBy.skip (i := 13) rfl (by kernel_rfl) (by kernel_rfl) (by kernel_rfl) (fun _ _ _ h => h) (by rfl) (by go_simp; rfl) HS ?_
              refine HeldBy.skip (i := 14) rfl (by kernel_rfl) (by kernel_rfl) (by kernel_rfl) (fun _ _ _ h => h) (by rfl) (by go_simp; rfl) HS ?_
              refine HeldBy.take (i := 15) rfl (by kernel_rfl) (by kernel_rfl) (by kernel_rfl) (fun _ _ _ h => h) (by rfl) (fun _ _ => by first | (go_simp; rfl) | (go_simp; done)) (by go_simp; rfl) HS ?_
              refine wpAnyH_done (by kernel_rfl) ?_ _
              have HNN := Lib.hid (HNX.out HF.out)
              have HW5 := Lib.hid HS.2.2.2
              clear HS HROWS HRF HNX HYES HRFN K1 HF
              go_wp2
              go_roundw
              case rel => exact ⟨j + 1, by go_num, by omega, HNN, HW5.out⟩
              case measure => simp [RowKit.intOf]; omega
            | true =>
              have K1 := Lib.hid e1
              by_cases e3 : rf = vo.claim
              · have K3 : Hid (decide (rf = vo.claim) = true) := decide_eq_true e3
                have HAY : Hid (L.any (hasC vo) = true) := HYES.out (by unfold hasC; rw [e1, HRFN.out, decide_eq_true e3]; rfl)
                have HVV : Hid (x = nothing) := by show _ = _; rw [← HX3.out, if_pos HAY.out]
                clear e1 e3 HAY
                refine wp_region_held_drew (S := fun V => ObjsIn V (.slice (some ⟨g, off, none⟩) L.length c1) L ∧ BoxO V W2.heap.size vo ∧ Tab V ∧ Below X.heap.size X V) (by kernel_rfl) ⟨HLL.out, HKK.out, HTT.out.drew, HWW.out.drew⟩ (fun _ => ?_)
                refine HeldBy.gen (fun V => ObjsIn V (.slice (some ⟨g, off, none⟩) L.length c1) L ∧ BoxO V W2.heap.size vo ∧ Tab V ∧ Below X.heap.size X V) ⟨HLL.out, HKK.out, HTT.out.drew, HWW.out.drew⟩ ?_
                clear HLL HKK HTT HWW
                rintro U0 HS
                refine HeldBy.take (i := 0) rfl (by kernel_rfl) (by kernel_rfl) (by kernel_rfl) (fun _ _ _ h => h) (by rfl) (fun _ _ => by first | (go_simp; rfl) | (go_simp; done)) (by go_simp; rfl) HS ?_
                refine HeldBy.take (i := 1) rfl (by kernel_rfl) (by kernel_rfl) (by kernel_rfl) (fun _ _ _ h => h) (by rfl) (fun _ _ => by first | (go_simp; rfl) | (go_simp; done)) (by go_simp; rfl) HS ?_
                refine HeldBy.take (i := 2) rfl (by kernel_rfl) (by kernel_rfl) (by kernel_rfl) (fun _ _ _ h => h) (by rfl) (fun _ _ => by first | (go_simp; rfl) | (go_simp; done)) (by go_simp; rfl) HS ?_
                refine HeldBy.take (i := 3) rfl (by kernel_rfl) (by kernel_rfl) (by kernel_rfl) (fun _ _ _ h => h) (by rfl) (fun _ _ => by first | (go_simp; rfl) | (go_simp; done)) (by go_simp; rfl) HS ?_
                refine HeldBy.take (i := 4) (v := .int .u8 y.kind) rfl (by kernel_rfl) (by kernel_rfl) (by kernel_rfl) (fun _ _ _ h => h) (by rfl) (fun V hV => by have h := row_cell (HROWS.out V hV.1) 0 _ rfl; rw [Nat.add_zero] at h; first | (go_simp; rfl) | (go_simp; done)) (by go_simp; rfl) HS ?_
                refine HeldBy.take (i := 5) (v := .bool true) rfl (by kernel_rfl) (by kernel_rfl) (by kernel_rfl) (fun _ _ _ h => h) (by rfl) (fun _ _ => exec_eql_kind2 rfl rfl rfl K1.out) (by go_simp; rfl) HS ?_
                refine HeldBy.take (i := 6) rfl (by kernel_rfl) (by kernel_rfl) (by kernel_rfl) (fun _ _ _ h => h) (by rfl) (fun _ _ => by first | (go_simp; rfl) | (go_simp; done)) (by go_simp; rfl) HS ?_
                refine HeldBy.take (i := 7) rfl (by kernel_rfl) (by kernel_rfl) (by kernel_rfl) (fun _ _ _ h => h) (by rfl) (fun _ _ => by first | (go_simp; rfl) | (go_simp; done)) (by go_simp; rfl) HS ?_
                refine HeldBy.take (i := 8) rfl (by kernel_rfl) (by kernel_rfl) (by kernel_rfl) (fun _ _ _ h => h) (by rfl) (fun _ _ => by first | (go_simp; rfl) | (go_simp; done)) (by go_simp; rfl) HS ?_
                refine HeldBy.take (i := 9) rfl (by kernel_rfl) (by kernel_rfl) (by kernel_rfl) (fun _ _ _ h => h) (by rfl) (fun _ _ => by first | (go_simp; rfl) | (go_simp; done)) (by go_simp; rfl) HS ?_
                refine HeldBy.take (i := 10) (v := encO y) rfl (by kernel_rfl) (by kernel_rfl) (by kernel_rfl) (fun _ _ _ h => h) (by rfl) (fun V hV => load_mid (HROWS.out V hV.1) rfl rfl) (by go_simp; rfl) HS ?_
                refine HeldBy.take (i := 12) rfl (by kernel_rfl) (by kernel_rfl) (by kernel_rfl) (fun _ _ _ h => h) (by rfl) (fun _ _ => by first | (go_simp; rfl) | (go_simp; done)) (by go_simp; rfl) HS ?_
                refine HeldBy.take (i := 13) (v := .string vo.claim) rfl (by kernel_rfl) (by kernel_rfl) (by kernel_rfl) (fun _ _ _ h => h) (by rfl) (fun V hV => by have h := hV.2.1.c14; first | (go_simp; rfl) | (go_simp; done)) (by go_simp; rfl) HS ?_
                refine HeldBy.call (i := 11) (v := .string rf) rfl (by kernel_rfl) (by rfl) (by go_simp; exact ⟨rfl, rfl⟩) (by go_simp; rfl) ?_
                refine (HRF.out _ HS.2.2.1).mono ?_
                rintro e U1 ⟨rfl, hb⟩
                replace HS : ObjsIn U1 (.slice (some ⟨g, off, none⟩) L.length c1) L ∧ BoxO U1 W2.heap.size vo ∧ Tab U1 ∧ Below X.heap.size X U1 := ⟨HS.1.after hb, HS.2.1.after hb, HS.2.2.1.after hb, HS.2.2.2.trans (hb.mono HS.2.2.2.size)⟩
                refine ⟨rfl, HS, ?_⟩
                clear hb
                refine HeldBy.take (i := 14) (v := .bool true) rfl (by kernel_rfl) (by kernel_rfl) (by kernel_rfl) (fun _ _ _ h => h) (by rfl) (fun _ _ => exec_eql_str rfl rfl rfl K3.out) (by go_simp; rfl) HS ?_
                refine HeldBy.take (i := 15) rfl (by kernel_rfl) (by kernel_rfl) (by kernel_rfl) (fun _ _ _ h => h) (by rfl) (fun _ _ => by first | (go_simp; rfl) | (go_simp; done)) (by go_simp; rfl) HS ?_
                refine wpAnyH_done (by kernel_rfl) ?_ _
                have HWZ := Lib.hid HS.2.2.2
                have HOZ := Lib.hid (HO.out.after HWZ.out)
                have HWY := Lib.hid (HW.out.trans (HWZ.out.mono HW.out.size))
                clear HS HROWS HRF HNX HYES HRFN K1 K3 HX3
                obtain ⟨V8, hst8, ho, -, hb⟩ := acting HOZ.out nothing
                have HO8 := Lib.hid ho
                have HX8 := Lib.hid (hb _ _ HWY.out (Nat.le_refl _))
                clear ho hb write6
                go_wp2_with (first | (refine wpList_skip rfl (hst8 rfl rfl rfl) ?_) | ((with_reducible refine wpList_build_to rfl 36 _ rfl (cellsA nothing) ?_ ?_); exact built_act0'))
                refine bodyPost_ret (v := encA nothing) (results_cell_row rfl _ _ w.heap.size 36 (cellsA nothing) (0, 0) _ rfl HO8.out undAct rfl sizeAct) rfl ?_
                exact ⟨by rw [HVV.out], HX8.out⟩
              · have K3 : Hid (decide (rf = vo.claim) = false) := decide_eq_false e3
                have HF : Hid (hasC vo y = false) := by show _ = _; unfold hasC; rw [HRFN.out, decide_eq_false e3, Bool.and_false]
                clear e1 e3
                refine wp_region_held_drew (S := fun V => ObjsIn V (.slice (some ⟨g, off, none⟩) L.length c1) L ∧ BoxO V W2.heap.size vo ∧ Tab V ∧ Below X.heap.size X V) (by kernel_rfl) ⟨HLL.out, HKK.out, HTT.out.drew, HWW.out.drew⟩ (fun _ => ?_)
                refine HeldBy.gen (fun V => ObjsIn V (.slice (some ⟨g, off, none⟩) L.length c1) L ∧ BoxO V W2.heap.size vo ∧ Tab V ∧ Below X.heap.size X V) ⟨HLL.out, HKK.out, HTT.out.drew, HWW.out.drew⟩ ?_
                clear HLL HKK HTT HWW
                rintro U0 HS
                refine HeldBy.take (i := 0) rfl (by kernel_rfl) (by kernel_rfl) (by kernel_rfl) (fun _ _ _ h => h) (by rfl) (fun _ _ => by first | (go_simp; rfl) | (go_simp; done)) (by go_simp; rfl) HS ?_
                refine HeldBy.take (i := 1) rfl (by kernel_rfl) (by kernel_rfl) (by kernel_rfl) (fun _ _ _ h => h) (by rfl) (fun _ _ => by first | (go_simp; rfl) | (go_simp; done)) (by go_simp; rfl) HS ?_
                refine HeldBy.take (i := 2) rfl (by kernel_rfl) (by kernel_rfl) (by kernel_rfl) (fun _ _ _ h => h) (by rfl) (fun _ _ => by first | (go_simp; rfl) | (go_simp; done)) (by go_simp; rfl) HS ?_
                refine HeldBy.take (i := 3) rfl (by kernel_rfl) (by kernel_rfl) (by kernel_rfl) (fun _ _ _ h => h) (by rfl) (fun _ _ => by first | (go_simp; rfl) | (go_simp; done)) (by go_simp; rfl) HS ?_
                refine HeldBy.take (i := 4) (v := .int .u8 y.kind) rfl (by kernel_rfl) (by kernel_rfl) (by kernel_rfl) (fun _ _ _ h => h) (by rfl) (fun V hV => by have h := row_cell (HROWS.out V hV.1) 0 _ rfl; rw [Nat.add_zero] at h; first | (go_simp; rfl) | (go_simp; done)) (by go_simp; rfl) HS ?_
                refine HeldBy.take (i := 5) (v := .bool true) rfl (by kernel_rfl) (by kernel_rfl) (by kernel_rfl) (fun _ _ _ h => h) (by rfl) (fun _ _ => exec_eql_kind2 rfl rfl rfl K1.out) (by go_simp; rfl) HS ?_
                refine HeldBy.take (i := 6) rfl (by kernel_rfl) (by kernel_rfl) (by kernel_rfl) (fun _ _ _ h => h) (by rfl) (fun _ _ => by first | (go_simp; rfl) | (go_simp; done)) (by go_simp; rfl) HS ?_
                refine HeldBy.take (i := 7) rfl (by kernel_rfl) (by kernel_rfl) (by kernel_rfl) (fun _ _ _ h => h) (by rfl) (fun _ _ => by first | (go_simp; rfl) | (go_simp; done)) (by go_simp; rfl) HS ?_
                refine HeldBy.take (i := 8) rfl (by kernel_rfl) (by kernel_rfl) (by kernel_rfl) (fun _ _ _ h => h) (by rfl) (fun _ _ => by first | (go_simp; rfl) | (go_simp; done)) (by go_simp; rfl) HS ?_
                refine HeldBy.take (i := 9) rfl (by kernel_rfl) (by kernel_rfl) (by kernel_rfl) (fun _ _ _ h => h) (by rfl) (fun _ _ => by first | (go_simp; rfl) | (go_simp; done)) (by go_simp; rfl) HS ?_
                refine HeldBy.take (i := 10) (v := encO y) rfl (by kernel_rfl) (by kernel_rfl) (by kernel_rfl) (fun _ _ _ h => h) (by rfl) (fun V hV => load_mid (HROWS.out V hV.1) rfl rfl) (by go_simp; rfl) HS ?_
                refine HeldBy.take (i := 12) rfl (by kernel_rfl) (by kernel_rfl) (by kernel_rfl) (fun _ _ _ h => h) (by rfl) (fun _ _ => by first | (go_simp; rfl) | (go_simp; done)) (by go_simp; rfl) HS ?_
                refine HeldBy.take (i := 13) (v := .string vo.claim) rfl (by kernel_rfl) (by kernel_rfl) (by kernel_rfl) (fun _ _ _ h => h) (by rfl) (fun V hV => by have h := hV.2.1.c14; first | (go_simp; rfl) | (go_simp; done)) (by go_simp; rfl) HS ?_
                refine HeldBy.call (i := 11) (v := .string rf) rfl (by kernel_rfl) (by rfl) (by go_simp; exact ⟨rfl, rfl⟩) (by go_simp; rfl) ?_
                refine (HRF.out _ HS.2.2.1).mono ?_
                rintro e U1 ⟨rfl, hb⟩
                replace HS : ObjsIn U1 (.slice (some ⟨g, off, none⟩) L.length c1) L ∧ BoxO U1 W2.heap.size vo ∧ Tab U1 ∧ Below X.heap.size X U1 := ⟨HS.1.after hb, HS.2.1.after hb, HS.2.2.1.after hb, HS.2.2.2.trans (hb.mono HS.2.2.2.size)⟩
                refine ⟨rfl, HS, ?_⟩
                clear hb
                refine HeldBy.take (i := 14) (v := .bool false) rfl (by kernel_rfl) (by kernel_rfl) (by kernel_rfl) (fun _ _ _ h => h) (by rfl) (fun _ _ => exec_eql_str rfl rfl rfl K3.out) (by go_simp; rfl) HS ?_
                refine HeldBy.take (i := 15) rfl (by kernel_rfl) (by kernel_rfl) (by kernel_rfl) (fun _ _ _ h => h) (by rfl) (fun _ _ => by first | (go_simp; rfl) | (go_simp; done)) (by go_simp; rfl) HS ?_
                refine wpAnyH_done (by kernel_rfl) ?_ _
                have HNN := Lib.hid (HNX.out HF.out)
                have HW5 := Lib.hid HS.2.2.2
                clear HS HROWS HRF HNX HYES HRFN K1 K3 HF
                go_wp2
                go_roundw
                case rel => exact ⟨j + 1, by go_num, by omega, HNN, HW5.out⟩
                case measure => simp [RowKit.intOf]; omega
          · have hlt' : ¬ (j : Int) < (L.length : Int) := by omega
            have HVW : Hid (x = writeA (givenN vo (IntKind.u64.wrap (ver + 1)))) := by
              show _ = _
              rw [← HX3.out, any_no (fun i hi => HNO.out i hi (by omega)), if_neg (by decide)]
            have HKW := Lib.hid (HK.out.after HLOW.out)
            have HOW := Lib.hid (HO.out.after HLOW.out)
            have HWW := Lib.hid (HW.out.trans (HLOW.out.mono HW.out.size))
            have v10 := HKW.out.c10
            clear HX3 HNO HLOW HO HW HLX HTX HALL
            cases hkp : vo.keep with
            | true =>
              have HVV : Hid (x = writeA { vo with phase := 5 }) := by show _ = _; rw [HVW.out]; unfold givenN; rw [if_pos hkp]
              rw [hkp] at v10
              clear HVW hkp
              go_upto_region 18 with (fail)
              clear v10
              have HWR := write6 _ HVV
              have k17 := HKW.out.c17
              have g17 := HKW.out.free 17
              have k18 := HKW.out.c18
              have g18 := HKW.out.free 18
              have hle : w.heap.size ≤ W2.heap.size := Nat.le_of_lt HNE.out
              go_upto_region 19 with (fail)
              refine wp_gen (fun V => BoxO V W2.heap.size ({ vo with phase := 5 }) ∧ BoxA V w.heap.size nothing ∧ Below w.heap.size w V) ⟨HKW.out.s17 5, MOVED.out _ _ _ rfl HOW.out, HWW.out.setCell hle _⟩ ?_
              clear k17 g17 k18 g18 write6 hle
              rintro V6 ⟨hk6, ho6, hw6⟩
              have HO6 := Lib.hid ho6
              have HW6 := Lib.hid hw6
              clear ho6 hw6
              go_wp2_with ((with_reducible refine wpList_load_obj ?_ rfl ?_ hk6 ?_); rfl; rfl)
              refine (HWR.out _).mono ?_
              rintro e W7 ⟨rfl, hb7⟩
              obtain ⟨V8, hst8, ho, -, hb⟩ := acting (HO6.out.after hb7) x
              have HO8 := Lib.hid ho
              have HX8 := Lib.hid (hb _ _ (HW6.out.trans (hb7.mono HW6.out.size)) (Nat.le_refl _))
              clear ho hb HWR hb7 hk6
              go_wp2_with (refine wpList_skip rfl (hst8 rfl rfl rfl) ?_)
              refine bodyPost_ret (v := encA x) (results_cell_row rfl _ _ w.heap.size 36 (cellsA x) (0, 0) _ rfl HO8.out undAct rfl sizeAct) rfl ?_
              exact ⟨rfl, HX8.out⟩
            | false =>
              have HVV : Hid (x = writeA (erasingN vo (IntKind.u64.wrap (ver + 1)))) := by show _ = _; rw [HVW.out]; unfold givenN; rw [if_neg (by rw [hkp]; decide)]
              rw [hkp] at v10
              clear HVW hkp
              go_upto_region 20 with (fail)
              clear v10
              have HWR := write6 _ HVV
              have k17 := HKW.out.c17
              have g17 := HKW.out.free 17
              have k18 := HKW.out.c18
              have g18 := HKW.out.free 18
              have hle : w.heap.size ≤ W2.heap.size := Nat.le_of_lt HNE.out
              go_upto_region 21 with (fail)
              refine wp_gen (fun V => BoxO V W2.heap.size (erasingN vo (IntKind.u64.wrap (ver + 1))) ∧ BoxA V w.heap.size nothing ∧ Below w.heap.size w V) ⟨(HKW.out.s17 6).s18 _, MOVED.out _ _ _ rfl (MOVED.out _ _ _ rfl HOW.out), (HWW.out.setCell hle _).setCell hle _⟩ ?_
              clear k17 g17 k18 g18 write6 hle
              rintro V6 ⟨hk6, ho6, hw6⟩
              have HO6 := Lib.hid ho6
              have HW6 := Lib.hid hw6
              clear ho6 hw6
              go_wp2_with ((with_reducible refine wpList_load_obj ?_ rfl ?_ hk6 ?_); rfl; rfl)
              refine (HWR.out _).mono ?_
              rintro e W7 ⟨rfl, hb7⟩
              obtain ⟨V8, hst8, ho, -, hb⟩ := acting (HO6.out.after hb7) x
              have HO8 := Lib.hid ho
              have HX8 := Lib.hid (hb _ _ (HW6.out.trans (hb7.mono HW6.out.size)) (Nat.le_refl _))
              clear ho hb HWR hb7 hk6
              go_wp2_with (refine wpList_skip rfl (hst8 rfl rfl rfl) ?_)
              refine bodyPost_ret (v := encA x) (results_cell_row rfl _ _ w.heap.size 36 (cellsA x) (0, 0) _ rfl HO8.out undAct rfl sizeAct) rfl ?_
              exact ⟨rfl, HX8.out⟩
      · have e3 : (vo.phase == 3) = false := by simpa using p3
        by_cases p6 : vo.phase = 6
        · rw [p6] at v17
          have HX3 : Hid ((if L.any (usesV name) = true then nothing else askA ⟨2, name, vo.num, 0, E0, E0, E0⟩) = x) := by show _ = _; rw [← HX2.out, if_neg p4, if_neg p3, if_pos p6]
          clear HX2 p3 p4 p6 e4 e3
          go_upto_region 23 with (fail)
          clear v17
          go_wp2_with (fail)
          go_loop [11] (fun i => ∃ j : Nat, i = .int .i64 (j : Int) ∧ j ≤ L.length ∧ Hid (∀ p (hp : p < L.length), p < j → usesV name L[p] = false)) (fun i => L.length - (RowKit.intOf i).toNat)
          case atStart => exact ⟨0, rfl, Nat.zero_le _, by show ∀ p _, _ → _; intro p _ h; exact absurd h (by omega)⟩
          case round =>
            obtain ⟨j, rfl, hj, HNO⟩ := hrel
            by_cases hlt : j < L.length
            · have hlt' : (j : Int) < (L.length : Int) := by omega
              obtain ⟨o', c', he, -, hi⟩ := id HLX.out
              cases he
              obtain ⟨g, off, rfl, -, hrow⟩ := hi j hlt
              obtain ⟨y, hy⟩ : ∃ y, L[j] = y := ⟨_, rfl⟩
              rw [hy] at hrow
              have r0 := row_cell hrow 0 _ rfl
              have r15 := row_cell hrow 15 _ rfl
              have r17 := row_cell hrow 17 _ rfl
              rw [Nat.add_zero] at r0
              have HNX : Hid (usesV name y = false → ∀ p (hp : p < L.length), p < j + 1 → usesV name L[p] = false) := by
                show _ → ∀ p _, _ → _
                intro hf p hp h
                rcases Nat.lt_or_ge p j with h1 | h1
                · exact HNO.out p hp h1
                · obtain rfl : p = j := by omega
                  rw [hy]
                  exact hf
              have HYES : Hid (usesV name y = true → x = nothing) := fun h => by rw [← HX3.out, if_pos (any_yes hlt (by rw [hy]; exact h))]
              clear hi hy hrow HNO
              cases e1 : (y.volume.toList == name.toList) with
              | false =>
                have HNN := Lib.hid (HNX.out (by unfold usesV; rw [← eqB, e1]; rfl))
                clear HNX HYES HX3 HK HO HW HLX HTX HALL write6 MOVED HNE
                go_wp2
                go_round
                case rel => exact ⟨j + 1, by go_num, by omega, HNN⟩
                case measure => simp [RowKit.intOf]; omega
              | true =>
                cases e2 : (y.kind == 5) with
                | true =>
                  have HVV : Hid (x = nothing) := HYES.out (by unfold usesV; rw [← eqB, e1, e2]; rfl)
                  clear HNX HYES HX3
                  obtain ⟨V8, hst8, ho, -, hb⟩ := acting HO.out nothing
                  have HO8 := Lib.hid ho
                  have HX8 := Lib.hid (hb _ _ HW.out (Nat.le_refl _))
                  clear ho hb write6
                  go_wp2_with (first | (refine wpList_skip rfl (hst8 rfl rfl rfl) ?_) | ((with_reducible refine wpList_build_to rfl 36 _ rfl (cellsA nothing) ?_ ?_); exact built_act0'))
                  refine bodyPost_ret (v := encA nothing) (results_cell_row rfl _ _ w.heap.size 36 (cellsA nothing) (0, 0) _ rfl HO8.out undAct rfl sizeAct) rfl ?_
                  exact ⟨by rw [HVV.out], HX8.out⟩
                | false =>
                  cases e5 : (y.kind == 7) with
                  | false =>
                    have HNN := Lib.hid (HNX.out (by unfold usesV; rw [← eqB, e1, e2, e5]; rfl))
                    clear HNX HYES HX3 HK HO HW HLX HTX HALL write6 MOVED HNE
                    go_wp2
                    go_round
                    case rel => exact ⟨j + 1, by go_num, by omega, HNN⟩
                    case measure => simp [RowKit.intOf]; omega
                  | true =>
                    cases e6 : (y.phase == 10) with
                    | false =>
                      have HNN := Lib.hid (HNX.out (by unfold usesV; rw [← eqB, e1, e2, e5, e6]; rfl))
                      clear HNX HYES HX3 HK HO HW HLX HTX HALL write6 MOVED HNE
                      go_wp2
                      go_round
                      case rel => exact ⟨j + 1, by go_num, by omega, HNN⟩
                      case measure => simp [RowKit.intOf]; omega
                    | true =>
                      have HVV : Hid (x = nothing) := HYES.out (by unfold usesV; rw [← eqB, e1, e2, e5, e6]; rfl)
                      clear HNX HYES HX3
                      obtain ⟨V8, hst8, ho, -, hb⟩ := acting HO.out nothing
                      have HO8 := Lib.hid ho
                      have HX8 := Lib.hid (hb _ _ HW.out (Nat.le_refl _))
                      clear ho hb write6
                      go_wp2_with (first | (refine wpList_skip rfl (hst8 rfl rfl rfl) ?_) | ((with_reducible refine wpList_build_to rfl 36 _ rfl (cellsA nothing) ?_ ?_); exact built_act0'))
                      refine bodyPost_ret (v := encA nothing) (results_cell_row rfl _ _ w.heap.size 36 (cellsA nothing) (0, 0) _ rfl HO8.out undAct rfl sizeAct) rfl ?_
                      exact ⟨by rw [HVV.out], HX8.out⟩
            · have hlt' : ¬ (j : Int) < (L.length : Int) := by omega
              have HVV : Hid (x = askA ⟨2, name, vo.num, 0, E0, E0, E0⟩) := by
                show _ = _
                rw [← HX3.out, any_no (fun i hi => HNO.out i hi (by omega)), if_neg (by decide)]
              have HBG := Lib.hid (built_give name vo.num)
              obtain ⟨k, hkc⟩ : ∃ k : Cl, (⟨2, name, vo.num, 0, E0, E0, E0⟩ : Cl) = k := ⟨_, rfl⟩
              rw [hkc] at HVV HBG
              have HAS := Lib.hid (fun V => rask_any k V)
              have v18 := HK.out.c18
              clear HX3 HNO hkc HK HLX HTX HALL write6
              go_wp2_with ((with_reducible refine wpList_build_to rfl 34 _ rfl (cellsC k) ?_ ?_); exact HBG.out)
              refine (HAS.out _).mono ?_
              rintro e W7 ⟨rfl, hb7⟩
              obtain ⟨V8, hst8, ho, -, hb⟩ := acting (HO.out.after hb7) (askA k)
              have HO8 := Lib.hid ho
              have HX8 := Lib.hid (hb _ _ (HW.out.trans (hb7.mono HW.out.size)) (Nat.le_refl _))
              clear ho hb HAS hb7 v18
              go_wp2_with (refine wpList_skip rfl (hst8 rfl rfl rfl) ?_)
              refine bodyPost_ret (v := encA (askA k)) (results_cell_row rfl _ _ w.heap.size 36 (cellsA (askA k)) (0, 0) _ rfl HO8.out undAct rfl sizeAct) rfl ?_
              exact ⟨by rw [HVV.out], HX8.out⟩
        · have e6 : (vo.phase == 6) = false := by simpa using p6
          have HVV : Hid (x = nothing) := by show _ = _; rw [← HX2.out, if_neg p4, if_neg p3, if_neg p6]
          clear HX2 p3 p4 p6
          obtain ⟨V8, hst8, ho, -, hb⟩ := acting HO.out nothing
          have HO8 := Lib.hid ho
          have HX8 := Lib.hid (hb _ _ HW.out (Nat.le_refl _))
          clear ho hb write6
          go_wp2_with (first | (refine wpList_skip rfl (hst8 rfl rfl rfl) ?_) | ((with_reducible refine wpList_build_to rfl 36 _ rfl (cellsA nothing) ?_ ?_); exact built_act0'))
          refine bodyPost_ret (v := encA nothing) (results_cell_row rfl _ _ w.heap.size 36 (cellsA nothing) (0, 0) _ rfl HO8.out undAct rfl sizeAct) rfl ?_
          exact ⟨by rw [HVV.out], HX8.out⟩
end Go.Proofs.YtfpdchabknoklaaDoor.O.B
namespace Go.HeldBy
open Go Go.RowKit

/-- An allocation that floats: its place, where it puts it, what it lays, and what it answers. -/
structure Fl where
  k : Nat
  dst : Option Tmp
  x : Obj
  val : Nat → Value

section
variable {P : Program} {ops : Array Oper} {Q : Exit → Act → World → Prop} {md : Region.Mode} {S : World → Prop}

/-- It comes up well wherever it comes up. -/
def Flies (P : Program) (A : Act → World → Prop) (fo : Oper) (f : Fl) : Prop := ∀ a w, A a w → (execOp a.eval fo).run P w = .ok (.value (f.val w.heap.size)) (w.alloc f.x)
/-- From here on, one floating. -/
structure Flow1 (P : Program) (md : Region.Mode) (ops : Array Oper) (Q : Exit → Act → World → Prop) (S : World → Prop) (R : Nat) (f : Fl) (n : Nat) (L : Array Bool) (A : Act → World → Prop) : Prop where
  bare : ∀ a w, A a w → wpAnyH P md ops Q S (n + 1) L a w
  one : ∀ a w p, A a w → R ≤ p → w.heap[p]? = some f.x → wpAnyH P md ops Q S n (L.setIfInBounds f.k true) (a.put f.dst (f.val p)) w
/-- From here on, two floating. -/
structure Flow2 (P : Program) (md : Region.Mode) (ops : Array Oper) (Q : Exit → Act → World → Prop) (S : World → Prop) (R : Nat) (f g : Fl) (n : Nat) (L : Array Bool) (A : Act → World → Prop) : Prop where
  bare : ∀ a w, A a w → wpAnyH P md ops Q S (n + 2) L a w
  one : ∀ a w p, A a w → R ≤ p → w.heap[p]? = some f.x → wpAnyH P md ops Q S (n + 1) (L.setIfInBounds f.k true) (a.put f.dst (f.val p)) w
  two : ∀ a w q, A a w → R ≤ q → w.heap[q]? = some g.x → wpAnyH P md ops Q S (n + 1) (L.setIfInBounds g.k true) (a.put g.dst (g.val q)) w
  both : ∀ a w p q, A a w → R ≤ p → R ≤ q → p ≠ q → w.heap[p]? = some f.x → w.heap[q]? = some g.x → wpAnyH P md ops Q S n ((L.setIfInBounds f.k true).setIfInBounds g.k true) ((a.put f.dst (f.val p)).put g.dst (g.val q)) w

/-- One operation of the chain: a value, or a call; what floats beside it stays. -/
def Steps (P : Program) (oi : Oper) (Keep : World → World → Prop) (A A' : Act → World → Prop) : Prop := ∀ a w, A a w →
  (∃ v w', (execOp a.eval oi).run P w = .ok (.value v) w' ∧ A' (a.put oi.dst v) w' ∧ Keep w w') ∨
  (∃ f args, (execOp a.eval oi).run P w = .ok (.enter f args) w ∧ Calls P f args w fun e w' => ∃ v, e = .returned v ∧ A' (a.put oi.dst v) w' ∧ Keep w w')
def keeps (x : Obj) (R : Nat) (w w' : World) : Prop := ∀ p, R ≤ p → w.heap[p]? = some x → w'.heap[p]? = some x

theorem op_step {i : Nat} {oi : Oper} {Keep : World → World → Prop} {A A' : Act → World → Prop} {K : Act → World → Prop} {a b : Act} {w : World} (ext : Act → Act) (hi : ops[i]? = some oi) (gi : oi.guard = none) (hs : Steps P oi Keep A A') (hA : A a w) (_hb : b = ext a)
    (he : execOp b.eval oi = execOp a.eval oi) (hp : ∀ v, b.put oi.dst v = ext (a.put oi.dst v)) (h : ∀ a' w', A' a' w' → Keep w w' → K (ext a') w') : wpOp P ops Q i K b w := by
  rcases hs a w hA with ⟨v, w', h1, h2, h3⟩ | ⟨f, args, h1, h2⟩
  · exact op_value hi (wanted_none gi _) (by rw [he]; exact h1) (hp v) (h _ _ h2 h3)
  · unfold wpOp
    simp only [hi, wanted_none gi, if_true]
    refine .inl ?_
    unfold Oper.wp
    rw [he, h1]
    exact h2.mono fun e w' ⟨v, hv, h3, h4⟩ => by
      subst hv
      show K (b.put oi.dst v) w'
      rw [hp v]
      exact h _ _ h3 h4
theorem all_of {md : Region.Mode} {L : Array Bool} {p : Nat → Prop} [DecidablePred p] {fuel : Nat} {a : Act} {w : World} (hn : (Region.ready md ops L).isEmpty = false) (hr : ∀ j ∈ Region.ready md ops L, p j)
    (h : ∀ j, p j → wpOp P ops Q j (fun a' w' => S w' ∧ wpAnyH P md ops Q S fuel (L.setIfInBounds j true) a' w') a w) : wpAnyH P md ops Q S (fuel + 1) L a w :=
  wpAnyH_all rfl (by intro h0; rw [h0] at hn; cases hn) fun j hj => h j (hr j hj)
/-- Nothing else may come up, but what is listed. -/
def only (md : Region.Mode) (ops : Array Oper) (L : Array Bool) (js : List Nat) : Bool := !(Region.ready md ops L).isEmpty && (Region.ready md ops L).all fun j => js.contains j
theorem only_out {L : Array Bool} {js : List Nat} (h : only md ops L js = true) : (Region.ready md ops L).isEmpty = false ∧ ∀ j ∈ Region.ready md ops L, j ∈ js := by
  unfold only at h
  simp only [Bool.and_eq_true, Bool.not_eq_true', List.all_eq_true] at h
  exact ⟨h.1, fun j hj => List.contains_iff_mem.1 (h.2 j hj)⟩
theorem wp_only {L : Array Bool} {js : List Nat} {fuel : Nat} {a : Act} {w : World} (h : only md ops L js = true) (hj : ∀ j ∈ js, wpOp P ops Q j (fun a' w' => S w' ∧ wpAnyH P md ops Q S fuel (L.setIfInBounds j true) a' w') a w) : wpAnyH P md ops Q S (fuel + 1) L a w :=
  wpAnyH_all rfl (by intro h0; have := (only_out h).1; rw [h0] at this; cases this) fun j h2 => hj j ((only_out h).2 j h2)

variable {R : Nat} {f g : Fl} {n : Nat} {L L2 : Array Bool} {A A' : Act → World → Prop} {i : Nat} {oi fo gi2 : Oper}

theorem Flow1.nil (hf : ops[f.k]? = some fo) (df : fo.dst = f.dst) (gf : fo.guard = none) (hr : only md ops L [f.k] = true) (hfl : Flies P A fo f) (hAa : ∀ a w, A a w → A a (w.alloc f.x)) (hS : ∀ a w, A a w → S w) (hR : ∀ a w, A a w → R ≤ w.heap.size)
    (hl : L.setIfInBounds f.k true = L2) (h : ∀ a w p, A a w → R ≤ p → w.heap[p]? = some f.x → wpAnyH P md ops Q S n L2 (a.put f.dst (f.val p)) w) : Flow1 P md ops Q S R f n L A := by
  subst hl
  refine ⟨fun a w hA => wp_only hr fun j hj => ?_, h⟩
  obtain rfl : j = f.k := by simpa using hj
  exact op_value hf (wanted_none gf _) (hfl a w hA) (by rw [df]) ⟨hS _ _ (hAa _ _ hA), h _ _ _ (hAa _ _ hA) (hR _ _ hA) (heap_alloc_new _ _)⟩

theorem Flow1.step (hi : ops[i]? = some oi) (gi : oi.guard = none) (hsi : noSel oi = true) (hf : ops[f.k]? = some fo) (df : fo.dst = f.dst) (gf : fo.guard = none) (hr : only md ops L [i, f.k] = true) (hr1 : only md ops (L.setIfInBounds f.k true) [i] = true) (hik : i ≠ f.k) (far1 : far ops oi f.dst = true)
    (hfl : Flies P A fo f) (hAa : ∀ a w, A a w → A a (w.alloc f.x)) (hS : ∀ a w, A a w → S w) (hS' : ∀ a w, A' a w → S w) (hR : ∀ a w, A a w → R ≤ w.heap.size)
    (hs : Steps P oi (keeps f.x R) A A') (h : Flow1 P md ops Q S R f n (L.setIfInBounds i true) A') : Flow1 P md ops Q S R f (n + 1) L A := by
  obtain ⟨hap, hdd⟩ := far_out far1
  have late : ∀ a w p, A a w → R ≤ p → w.heap[p]? = some f.x → wpAnyH P md ops Q S (n + 1) (L.setIfInBounds f.k true) (a.put f.dst (f.val p)) w := fun a w p hA hp hx => by
    refine wp_only hr1 fun j hj => ?_
    obtain rfl : j = i := by simpa using hj
    refine op_step (fun a => a.put f.dst (f.val p)) hi gi hs hA rfl (execOp_put oi (noSel_out hsi) a f.dst _ hap) (fun v => (Act.put_comm a v _ (fun d hd e => hdd d e hd)).symm) ?_
    intro a' w' hA' hk
    refine ⟨hS' _ _ hA', ?_⟩
    rw [Array.setIfInBounds_comm _ _ (fun e => hik e.symm)]
    exact h.one _ _ _ hA' hp (hk p hp hx)
  refine ⟨fun a w hA => wp_only hr fun j hj => ?_, late⟩
  simp only [List.mem_cons, List.not_mem_nil, or_false] at hj
  rcases hj with rfl | rfl
  · refine op_step (fun a => a) hi gi hs hA rfl rfl (fun v => rfl) ?_
    intro a' w' hA' _
    exact ⟨hS' _ _ hA', h.bare _ _ hA'⟩
  · exact op_value hf (wanted_none gf _) (hfl a w hA) (by rw [df]) ⟨hS _ _ (hAa _ _ hA), late _ _ _ (hAa _ _ hA) (hR _ _ hA) (heap_alloc_new _ _)⟩

/-- The chain waits for the second of the two. -/
theorem Flow2.close (hf : ops[f.k]? = some fo) (df : fo.dst = f.dst) (gf : fo.guard = none) (hg : ops[g.k]? = some gi2) (dg : gi2.dst = g.dst) (gg : gi2.guard = none) (hr : only md ops L [f.k, g.k] = true) (hr1 : only md ops (L.setIfInBounds f.k true) [g.k] = true) (hfg : f.k ≠ g.k)
    (sg : noSel gi2 = true) (far1 : far ops gi2 f.dst = true)
    (hff : Flies P A fo f) (hfg2 : Flies P A gi2 g) (hAa : ∀ a w z, A a w → A a (w.alloc z)) (hS : ∀ a w, A a w → S w) (hR : ∀ a w, A a w → R ≤ w.heap.size)
    (h : Flow1 P md ops Q S R f n (L.setIfInBounds g.k true) (fun a w => ∃ a0 q, A a0 w ∧ R ≤ q ∧ w.heap[q]? = some g.x ∧ a = a0.put g.dst (g.val q))) : Flow2 P md ops Q S R f g n L A := by
  obtain ⟨hap, hdd⟩ := far_out far1
  have hsz : ∀ (w : World) (z : Obj), (w.alloc z).heap.size = w.heap.size + 1 := fun w z => by show (w.heap.push z).size = _; simp
  have both : ∀ a w p q, A a w → R ≤ p → R ≤ q → w.heap[p]? = some f.x → w.heap[q]? = some g.x → wpAnyH P md ops Q S n ((L.setIfInBounds f.k true).setIfInBounds g.k true) ((a.put f.dst (f.val p)).put g.dst (g.val q)) w := fun a w p q hA hp hq hx hy => by
    have h1 := h.one _ w p ⟨a, q, hA, hq, hy, rfl⟩ hp hx
    rw [Array.setIfInBounds_comm _ _ (fun e => hfg e.symm)] at h1
    rw [Act.put_comm (x := g.dst) (y := f.dst) a (g.val q) (f.val p) (fun d hd e => hdd d e (dg.trans hd))] at h1
    exact h1
  have one : ∀ a w p, A a w → R ≤ p → w.heap[p]? = some f.x → wpAnyH P md ops Q S (n + 1) (L.setIfInBounds f.k true) (a.put f.dst (f.val p)) w := fun a w p hA hp hx => by
    refine wp_only hr1 fun j hj => ?_
    obtain rfl : j = g.k := by simpa using hj
    have hlt : p < w.heap.size := (Array.getElem?_eq_some_iff.1 hx).1
    refine op_value hg (wanted_none gg _) (by rw [execOp_put gi2 (noSel_out sg) a f.dst _ hap]; exact hfg2 a w hA) (by rw [dg]) ⟨hS _ _ (hAa _ _ _ hA), ?_⟩
    exact both _ _ _ _ (hAa _ _ _ hA) hp (hR _ _ hA) ((heap_alloc_old _ _ hlt).trans hx) (heap_alloc_new _ _)
  have two' : ∀ a w q, A a w → R ≤ q → w.heap[q]? = some g.x → wpAnyH P md ops Q S (n + 1) (L.setIfInBounds g.k true) (a.put g.dst (g.val q)) w := fun a w q hA hq hy => h.bare _ _ ⟨a, q, hA, hq, hy, rfl⟩
  refine ⟨fun a w hA => wp_only hr fun j hj => ?_, one, two', fun a w p q hA hp hq _ hx hy => both a w p q hA hp hq hx hy⟩
  simp only [List.mem_cons, List.not_mem_nil, or_false] at hj
  rcases hj with rfl | rfl
  · exact op_value hf (wanted_none gf _) (hff a w hA) (by rw [df]) ⟨hS _ _ (hAa _ _ _ hA), one _ _ _ (hAa _ _ _ hA) (hR _ _ hA) (heap_alloc_new _ _)⟩
  · exact op_value hg (wanted_none gg _) (hfg2 a w hA) (by rw [dg]) ⟨hS _ _ (hAa _ _ _ hA), two' _ _ _ (hAa _ _ _ hA) (hR _ _ hA) (heap_alloc_new _ _)⟩

theorem Flow2.step (hi : ops[i]? = some oi) (gi : oi.guard = none) (hsi : noSel oi = true) (hf : ops[f.k]? = some fo) (df : fo.dst = f.dst) (gf : fo.guard = none) (hg : ops[g.k]? = some gi2) (dg : gi2.dst = g.dst) (gg : gi2.guard = none)
    (hr : only md ops L [i, f.k, g.k] = true) (hr1 : only md ops (L.setIfInBounds f.k true) [i, g.k] = true) (hr2 : only md ops (L.setIfInBounds g.k true) [i, f.k] = true) (hr3 : only md ops ((L.setIfInBounds f.k true).setIfInBounds g.k true) [i] = true)
    (hif : i ≠ f.k) (hig : i ≠ g.k) (hfg : f.k ≠ g.k) (sf : noSel fo = true) (sg : noSel gi2 = true) (far1 : far ops oi f.dst = true) (far2 : far ops oi g.dst = true) (far3 : far ops gi2 f.dst = true) (far4 : far ops fo g.dst = true)
    (hff : Flies P A fo f) (hgg : Flies P A gi2 g) (hAa : ∀ a w z, A a w → A a (w.alloc z)) (hS : ∀ a w, A a w → S w) (hS' : ∀ a w, A' a w → S w) (hR : ∀ a w, A a w → R ≤ w.heap.size)
    (hs : Steps P oi (fun w w' => keeps f.x R w w' ∧ keeps g.x R w w') A A') (h : Flow2 P md ops Q S R f g n (L.setIfInBounds i true) A') : Flow2 P md ops Q S R f g (n + 1) L A := by
  obtain ⟨hap1, hdd1⟩ := far_out far1
  obtain ⟨hap2, hdd2⟩ := far_out far2
  obtain ⟨hap3, hdd3⟩ := far_out far3
  obtain ⟨hap4, hdd4⟩ := far_out far4
  have c1 : ∀ (a : Act) v p, (a.put f.dst (f.val p)).put oi.dst v = (a.put oi.dst v).put f.dst (f.val p) := fun a v p => (Act.put_comm a v _ (fun d hd e => hdd1 d e hd)).symm
  have c2 : ∀ (a : Act) v q, (a.put g.dst (g.val q)).put oi.dst v = (a.put oi.dst v).put g.dst (g.val q) := fun a v q => (Act.put_comm a v _ (fun d hd e => hdd2 d e hd)).symm
  have e1 : ∀ (a : Act) p, execOp (a.put f.dst (f.val p)).eval oi = execOp a.eval oi := fun a p => execOp_put oi (noSel_out hsi) a f.dst _ hap1
  have e2 : ∀ (a : Act) q, execOp (a.put g.dst (g.val q)).eval oi = execOp a.eval oi := fun a q => execOp_put oi (noSel_out hsi) a g.dst _ hap2
  have both : ∀ a w p q, A a w → R ≤ p → R ≤ q → p ≠ q → w.heap[p]? = some f.x → w.heap[q]? = some g.x → wpAnyH P md ops Q S (n + 1) ((L.setIfInBounds f.k true).setIfInBounds g.k true) ((a.put f.dst (f.val p)).put g.dst (g.val q)) w := fun a w p q hA hp hq hpq hx hy => by
    refine wp_only hr3 fun j hj => ?_
    obtain rfl : j = i := by simpa using hj
    refine op_step (fun a => (a.put f.dst (f.val p)).put g.dst (g.val q)) hi gi hs hA rfl (by rw [e2, e1]) (fun v => by rw [c2, c1]) ?_
    intro a' w' hA' hk
    refine ⟨hS' _ _ hA', ?_⟩
    rw [Array.setIfInBounds_comm _ _ (fun e => hig e.symm), Array.setIfInBounds_comm (i := f.k) _ _ (fun e => hif e.symm)]
    exact h.both _ _ _ _ hA' hp hq hpq (hk.1 p hp hx) (hk.2 q hq hy)
  have one : ∀ a w p, A a w → R ≤ p → w.heap[p]? = some f.x → wpAnyH P md ops Q S (n + 1 + 1) (L.setIfInBounds f.k true) (a.put f.dst (f.val p)) w := fun a w p hA hp hx => by
    have hlt : p < w.heap.size := (Array.getElem?_eq_some_iff.1 hx).1
    refine wp_only hr1 fun j hj => ?_
    simp only [List.mem_cons, List.not_mem_nil, or_false] at hj
    rcases hj with rfl | rfl
    · refine op_step (fun a => a.put f.dst (f.val p)) hi gi hs hA rfl (e1 a p) (fun v => c1 a v p) ?_
      intro a' w' hA' hk
      refine ⟨hS' _ _ hA', ?_⟩
      rw [Array.setIfInBounds_comm _ _ (fun e => hif e.symm)]
      exact h.one _ _ _ hA' hp (hk.1 p hp hx)
    · refine op_value hg (wanted_none gg _) (by rw [execOp_put gi2 (noSel_out sg) a f.dst _ hap3]; exact hgg a w hA) (by rw [dg]) ⟨hS _ _ (hAa _ _ _ hA), ?_⟩
      exact both _ _ _ _ (hAa _ _ _ hA) hp (hR _ _ hA) (by omega) ((heap_alloc_old _ _ hlt).trans hx) (heap_alloc_new _ _)
  have two' : ∀ a w q, A a w → R ≤ q → w.heap[q]? = some g.x → wpAnyH P md ops Q S (n + 1 + 1) (L.setIfInBounds g.k true) (a.put g.dst (g.val q)) w := fun a w q hA hq hy => by
    have hlt : q < w.heap.size := (Array.getElem?_eq_some_iff.1 hy).1
    refine wp_only hr2 fun j hj => ?_
    simp only [List.mem_cons, List.not_mem_nil, or_false] at hj
    rcases hj with rfl | rfl
    · refine op_step (fun a => a.put g.dst (g.val q)) hi gi hs hA rfl (e2 a q) (fun v => c2 a v q) ?_
      intro a' w' hA' hk
      refine ⟨hS' _ _ hA', ?_⟩
      rw [Array.setIfInBounds_comm _ _ (fun e => hig e.symm)]
      exact h.two _ _ _ hA' hq (hk.2 q hq hy)
    · refine op_value hf (wanted_none gf _) (by rw [execOp_put fo (noSel_out sf) a g.dst _ hap4]; exact hff a w hA) (by rw [df]) ⟨hS _ _ (hAa _ _ _ hA), ?_⟩
      rw [Array.setIfInBounds_comm _ _ (fun e => hfg e.symm), Act.put_comm (x := g.dst) (y := f.dst) a (g.val q) (f.val w.heap.size) (fun d hd e => hdd3 d e (dg.trans hd))]
      exact both _ _ _ _ (hAa _ _ _ hA) (hR _ _ hA) hq (by omega) (heap_alloc_new _ _) ((heap_alloc_old _ _ hlt).trans hy)
  refine ⟨fun a w hA => wp_only hr fun j hj => ?_, one, two', both⟩
  simp only [List.mem_cons, List.not_mem_nil, or_false] at hj
  rcases hj with rfl | rfl | rfl
  · refine op_step (fun a => a) hi gi hs hA rfl rfl (fun v => rfl) ?_
    intro a' w' hA' _
    exact ⟨hS' _ _ hA', h.bare _ _ hA'⟩
  · exact op_value hf (wanted_none gf _) (hff a w hA) (by rw [df]) ⟨hS _ _ (hAa _ _ _ hA), one _ _ _ (hAa _ _ _ hA) (hR _ _ hA) (heap_alloc_new _ _)⟩
  · exact op_value hg (wanted_none gg _) (hgg a w hA) (by rw [dg]) ⟨hS _ _ (hAa _ _ _ hA), two' _ _ _ (hAa _ _ _ hA) (hR _ _ hA) (heap_alloc_new _ _)⟩
/-- Nothing is left but the two. -/
theorem Flow2.nil (hf : ops[f.k]? = some fo) (df : fo.dst = f.dst) (gf : fo.guard = none) (hg : ops[g.k]? = some gi2) (dg : gi2.dst = g.dst) (gg : gi2.guard = none)
    (hr : only md ops L [f.k, g.k] = true) (hr1 : only md ops (L.setIfInBounds f.k true) [g.k] = true) (hr2 : only md ops (L.setIfInBounds g.k true) [f.k] = true)
    (hfg : f.k ≠ g.k) (sf : noSel fo = true) (sg : noSel gi2 = true) (far3 : far ops gi2 f.dst = true) (far4 : far ops fo g.dst = true)
    (hff : Flies P A fo f) (hgg : Flies P A gi2 g) (hAa : ∀ a w z, A a w → A a (w.alloc z)) (hS : ∀ a w, A a w → S w) (hR : ∀ a w, A a w → R ≤ w.heap.size)
    (h : ∀ a w p q, A a w → R ≤ p → R ≤ q → p ≠ q → w.heap[p]? = some f.x → w.heap[q]? = some g.x → wpAnyH P md ops Q S n ((L.setIfInBounds f.k true).setIfInBounds g.k true) ((a.put f.dst (f.val p)).put g.dst (g.val q)) w) : Flow2 P md ops Q S R f g n L A := by
  obtain ⟨hap3, hdd3⟩ := far_out far3
  obtain ⟨hap4, hdd4⟩ := far_out far4
  have one : ∀ a w p, A a w → R ≤ p → w.heap[p]? = some f.x → wpAnyH P md ops Q S (n + 1) (L.setIfInBounds f.k true) (a.put f.dst (f.val p)) w := fun a w p hA hp hx => by
    have hlt : p < w.heap.size := (Array.getElem?_eq_some_iff.1 hx).1
    refine wp_only hr1 fun j hj => ?_
    obtain rfl : j = g.k := by simpa using hj
    refine op_value hg (wanted_none gg _) (by rw [execOp_put gi2 (noSel_out sg) a f.dst _ hap3]; exact hgg a w hA) (by rw [dg]) ⟨hS _ _ (hAa _ _ _ hA), ?_⟩
    exact h _ _ _ _ (hAa _ _ _ hA) hp (hR _ _ hA) (by omega) ((heap_alloc_old _ _ hlt).trans hx) (heap_alloc_new _ _)
  have two' : ∀ a w q, A a w → R ≤ q → w.heap[q]? = some g.x → wpAnyH P md ops Q S (n + 1) (L.setIfInBounds g.k true) (a.put g.dst (g.val q)) w := fun a w q hA hq hy => by
    have hlt : q < w.heap.size := (Array.getElem?_eq_some_iff.1 hy).1
    refine wp_only hr2 fun j hj => ?_
    obtain rfl : j = f.k := by simpa using hj
    refine op_value hf (wanted_none gf _) (by rw [execOp_put fo (noSel_out sf) a g.dst _ hap4]; exact hff a w hA) (by rw [df]) ⟨hS _ _ (hAa _ _ _ hA), ?_⟩
    rw [Array.setIfInBounds_comm _ _ (fun e => hfg e.symm), Act.put_comm (x := g.dst) (y := f.dst) a (g.val q) (f.val w.heap.size) (fun d hd e => hdd3 d e (dg.trans hd))]
    exact h _ _ _ _ (hAa _ _ _ hA) (hR _ _ hA) hq (by omega) (heap_alloc_new _ _) ((heap_alloc_old _ _ hlt).trans hy)
  refine ⟨fun a w hA => wp_only hr fun j hj => ?_, one, two', h⟩
  simp only [List.mem_cons, List.not_mem_nil, or_false] at hj
  rcases hj with rfl | rfl
  · exact op_value hf (wanted_none gf _) (hff a w hA) (by rw [df]) ⟨hS _ _ (hAa _ _ _ hA), one _ _ _ (hAa _ _ _ hA) (hR _ _ hA) (heap_alloc_new _ _)⟩
  · exact op_value hg (wanted_none gg _) (hgg a w hA) (by rw [dg]) ⟨hS _ _ (hAa _ _ _ hA), two' _ _ _ (hAa _ _ _ hA) (hR _ _ hA) (heap_alloc_new _ _)⟩
end
end Go.HeldBy
namespace Go.LawEnd
open Go.ChangeShapes Go.WideShapes Go.RowKit

/-- Each parameter's type can be read, and is a row of the table. -/
def rowsB (P : Program) (ts : List TypeId) : Bool := ts.all fun t => P.readableRec t && decide (t < P.types.size)

theorem trodAll_below {H : Type} {enc : TypeId × Value → H} {P : Program} (hl : laidOutB P = true) {W W' : World} (hb : Below W.heap.size W W') :
    ∀ {ts : List TypeId} {vs : List Value} {ds : List (DataW H)} {ps : List MemPlace}, rowsB P ts = true → DataW.TrodAll enc P W 0 (fun _ => true) true ts vs ds ps → (∀ x ∈ ps, x.block < W.heap.size) →
      DataW.TrodAll enc P W' 0 (fun b => decide (b < W.heap.size)) true ts vs ds ps
  | [], vs, ds, ps, _, h, _ => by
    obtain ⟨rfl, rfl, rfl⟩ := trodAll_nil h
    exact trodAll_mk0
  | t :: ts, vs, ds, ps, hr, h, hlt => by
    obtain ⟨v, vs', d, ds', p, q, rfl, rfl, rfl, h0, r0⟩ := trodAll_cons h
    simp only [rowsB, List.all_cons, Bool.and_eq_true, decide_eq_true_eq] at hr
    refine trodAll_cons_mk (Below.trod hl hr.1.1 hr.1.2 h0 hb (fun x hx => hlt x (List.mem_append_left _ hx))) ?_
    exact trodAll_below hl hb (by simp only [rowsB]; exact hr.2) r0 (fun x hx => hlt x (List.mem_append_right _ hx))

theorem post_true {H : Type} {enc : TypeId × Value → H} {P : Program} {f : Func} {s : ChangeSpec} {apart fresh handsOn : Bool} {W W' : World} {args : Array Value} {ds gs : List (DataW H)} {before : List MemPlace} {tb : TypeId}
    (hl : laidOutB P = true) (hrows : rowsB P f.params.toList = true) (hres : f.resultTypes = #[tb]) (htb : P.underlying tb = some .bool) (hvars : s.vars = [])
    (hW : DataW.Whole enc P f.params.toList s.vars apart W args.toList ds gs before) (hfn : s.fn H ds = { results := [.lit (.bool true)], args := ds }) (hb : Below W.heap.size W W') :
    s.post enc P f apart fresh handsOn false W args (.bool true) W' := by
  have hlt := fun p (hp : p ∈ before) => hW.lt p hp
  obtain ⟨p, q, hA, hV, rfl, hz, hn⟩ := id hW
  rw [hvars] at hV
  obtain ⟨rfl, rfl⟩ := trodVars_none hV
  refine ⟨ds, [], p ++ [], [], p, [], hW, ?_, ?_, ?_, World.keptBut_mono (fun x hx => ⟨by simpa using hx, Or.inr (Or.inl (by simpa using hx))⟩) (hb.frame (· ∈ p ++ [])), fun h => by cases h⟩
  · rw [List.append_nil, hfn, hres]
    exact trodAll_mk1 (shut_bool htb true)
  · rw [List.append_nil, hfn]
    exact trodAll_below hl hb hrows hA (fun x hx => hlt x (by simpa using hx))
  · rw [List.append_nil, hfn, hvars]
    exact rfl
end Go.LawEnd
namespace Go.Proofs.YtfpdchabknoklaaDoor.O.B
open Go.ChangeShapes Go.WideShapes Go.RowKit Go.Deep Go.Lib
open Go.ChangeMaps (open_string)

/-- The bounds of an object's numbers. -/
structure FitO (o : Obj) : Prop where
  kind : 0 ≤ o.kind ∧ o.kind ≤ 255
  version : 0 ≤ o.version ∧ o.version ≤ 18446744073709551615
  born : 0 ≤ o.born ∧ o.born ≤ 18446744073709551615
  size : -9223372036854775808 ≤ o.size ∧ o.size ≤ 9223372036854775807
  got : -9223372036854775808 ≤ o.got ∧ o.got ≤ 9223372036854775807
  mode : 0 ≤ o.mode ∧ o.mode ≤ 255
  phase : 0 ≤ o.phase ∧ o.phase ≤ 255
  num : 0 ≤ o.num ∧ o.num ≤ 18446744073709551615
  tag : 0 ≤ o.tag ∧ o.tag ≤ 18446744073709551615
/-- How long an object's texts are. -/
structure LenO (o : Obj) : Prop where
  name : o.name.size ≤ 140737488351232
  cls : o.cls.size ≤ 140737488351232
  zone : o.zone.size ≤ 140737488351232
  node : o.node.size ≤ 140737488351232
  claim : o.claim.size ≤ 140737488351232
  volume : o.volume.size ≤ 140737488351232
  source : o.source.size ≤ 140737488351232
theorem fits_in {l : List Obj} (hf : ∀ o ∈ l, FitO o) (hl : ∀ o ∈ l, LenO o) : ∀ s ∈ l, (0 ≤ s.born ∧ s.born ≤ 18446744073709551615) ∧ s.name.size ≤ 140737488351232 := fun s hs => ⟨(hf s hs).born, (hl s hs).name⟩
theorem list_cons' {α : Type} {n : Nat} {l : List α} (h : l.length = n + 1) : ∃ a t, l = a :: t ∧ t.length = n := by
  cases l with
  | nil => simp at h
  | cons a t => exact ⟨a, t, rfl, by simpa using h⟩
theorem list_nil' {α : Type} {l : List α} (h : l.length = 0) : l = [] := List.length_eq_zero_iff.1 h

section
variable {H : Type} {enc : TypeId × Value → H} {P : Program} {w : World} {base : Nat} {spare : Nat → Bool} {held : Bool}
theorem field_at' {fs : Array Field} {l : List Value} {xs : List (DataW H × List MemPlace)} {n : Nat} (hone : oneCellFields P fs = true) (hlen : xs.length = fs.size)
    (hg : ∀ (i : Nat) (f : Field), fs[i]? = some f → DataW.trod enc P w base spare held n f.type ((l.drop f.offset).take (P.cellsOf f.type)) = xs[i]?)
    (j : Nat) (f : Field) (hf : fs[j]? = some f) (u : Value) (hu : l[j]? = some u) : ∃ y, xs[j]? = some y ∧ DataW.trod enc P w base spare held n f.type [u] = some y := by
  obtain ⟨ho, hk⟩ := hone_of hone j f hf
  have hjl : j < fs.size := (Array.getElem?_eq_some_iff.1 hf).1
  have h1 := hg j f hf
  rw [ho, hk] at h1
  have hd : (l.drop j).take 1 = [u] := by
    obtain ⟨hlt, he⟩ := List.getElem?_eq_some_iff.1 hu
    rw [List.drop_eq_getElem_cons hlt, he]; rfl
  rw [hd] at h1
  exact ⟨xs[j]'(by omega), List.getElem?_eq_getElem (by omega), h1.trans (List.getElem?_eq_getElem (by omega))⟩
theorem weights_all {e : TypeId} : ∀ {l : List (DataW H)} {d : DataW H}, d ∈ l → ∀ n ∈ d.weights P e, n ∈ DataW.weightsAll P e l
  | [], _, h => by cases h
  | x :: l, d, h => fun n hn => by
    unfold DataW.weightsAll
    rcases List.mem_cons.1 h with rfl | h
    · exact List.mem_append_left _ hn
    · exact List.mem_append_right _ (weights_all h n hn)
theorem weights_elem {t e : TypeId} {elems rest : List (DataW H)} (ht : P.underlying t = some (.slice e)) {d : DataW H} (hd : d ∈ elems) : ∀ n ∈ d.weights P e, n ∈ (DataW.slice elems rest).weights P t := fun n hn => by
  unfold DataW.weights
  rw [ht]
  exact List.mem_cons_of_mem _ (List.mem_append_left _ (weights_all hd n hn))
end

theorem oneObj' : oneCellFields Tryd.prog (Tryd.prog.fieldsOf 31) = true := by kernel_rfl
theorem cellsObj' : Tryd.prog.cellsOf 31 = 20 := by kernel_rfl
theorem fieldsSize' : (Tryd.prog.fieldsOf 31).size = 20 := by kernel_rfl
theorem fld0' : ((Tryd.prog.fieldsOf 31)[0]?).map (·.type) = some 27 := by kernel_rfl
theorem fld1' : ((Tryd.prog.fieldsOf 31)[1]?).map (·.type) = some 9 := by kernel_rfl
theorem fld2' : ((Tryd.prog.fieldsOf 31)[2]?).map (·.type) = some 23 := by kernel_rfl
theorem fld3' : ((Tryd.prog.fieldsOf 31)[3]?).map (·.type) = some 23 := by kernel_rfl
theorem fld4' : ((Tryd.prog.fieldsOf 31)[4]?).map (·.type) = some 4 := by kernel_rfl
theorem fld5' : ((Tryd.prog.fieldsOf 31)[5]?).map (·.type) = some 4 := by kernel_rfl
theorem fld6' : ((Tryd.prog.fieldsOf 31)[6]?).map (·.type) = some 9 := by kernel_rfl
theorem fld7' : ((Tryd.prog.fieldsOf 31)[7]?).map (·.type) = some 2 := by kernel_rfl
theorem fld8' : ((Tryd.prog.fieldsOf 31)[8]?).map (·.type) = some 2 := by kernel_rfl
theorem fld9' : ((Tryd.prog.fieldsOf 31)[9]?).map (·.type) = some 28 := by kernel_rfl
theorem fld10' : ((Tryd.prog.fieldsOf 31)[10]?).map (·.type) = some 4 := by kernel_rfl
theorem fld11' : ((Tryd.prog.fieldsOf 31)[11]?).map (·.type) = some 4 := by kernel_rfl
theorem fld12' : ((Tryd.prog.fieldsOf 31)[12]?).map (·.type) = some 9 := by kernel_rfl
theorem fld13' : ((Tryd.prog.fieldsOf 31)[13]?).map (·.type) = some 9 := by kernel_rfl
theorem fld14' : ((Tryd.prog.fieldsOf 31)[14]?).map (·.type) = some 9 := by kernel_rfl
theorem fld15' : ((Tryd.prog.fieldsOf 31)[15]?).map (·.type) = some 9 := by kernel_rfl
theorem fld16' : ((Tryd.prog.fieldsOf 31)[16]?).map (·.type) = some 9 := by kernel_rfl
theorem fld17' : ((Tryd.prog.fieldsOf 31)[17]?).map (·.type) = some 29 := by kernel_rfl
theorem fld18' : ((Tryd.prog.fieldsOf 31)[18]?).map (·.type) = some 23 := by kernel_rfl
theorem fld19' : ((Tryd.prog.fieldsOf 31)[19]?).map (·.type) = some 23 := by kernel_rfl

set_option maxRecDepth 100000 in
theorem obj_of_trod {H : Type} {enc : TypeId × Value → H} {w : World} {base : Nat} {spare : Nat → Bool} {held : Bool} {fuel : Nat} {l : List Value} {x : DataW H × List MemPlace}
    (hf : DataW.trod enc Tryd.prog w base spare held fuel 31 l = some x) (hl0 : l.length = 20) :
    ∃ o : Obj, l = (cellsO o).toList ∧ FitO o ∧ ((x.1.weights Tryd.prog 31).all (· ≤ reachBytes) = true → LenO o) := by
  obtain ⟨xs, n, -, hx, -, hlen, hg⟩ := DataW.trod_struct undObj hf
  obtain ⟨u0, l0, rfl, hl1⟩ := list_cons' hl0
  obtain ⟨u1, l1, rfl, hl2⟩ := list_cons' hl1
  obtain ⟨u2, l2, rfl, hl3⟩ := list_cons' hl2
  obtain ⟨u3, l3, rfl, hl4⟩ := list_cons' hl3
  obtain ⟨u4, l4, rfl, hl5⟩ := list_cons' hl4
  obtain ⟨u5, l5, rfl, hl6⟩ := list_cons' hl5
  obtain ⟨u6, l6, rfl, hl7⟩ := list_cons' hl6
  obtain ⟨u7, l7, rfl, hl8⟩ := list_cons' hl7
  obtain ⟨u8, l8, rfl, hl9⟩ := list_cons' hl8
  obtain ⟨u9, l9, rfl, hl10⟩ := list_cons' hl9
  obtain ⟨u10, l10, rfl, hl11⟩ := list_cons' hl10
  obtain ⟨u11, l11, rfl, hl12⟩ := list_cons' hl11
  obtain ⟨u12, l12, rfl, hl13⟩ := list_cons' hl12
  obtain ⟨u13, l13, rfl, hl14⟩ := list_cons' hl13
  obtain ⟨u14, l14, rfl, hl15⟩ := list_cons' hl14
  obtain ⟨u15, l15, rfl, hl16⟩ := list_cons' hl15
  obtain ⟨u16, l16, rfl, hl17⟩ := list_cons' hl16
  obtain ⟨u17, l17, rfl, hl18⟩ := list_cons' hl17
  obtain ⟨u18, l18, rfl, hl19⟩ := list_cons' hl18
  obtain ⟨u19, l19, rfl, hl20⟩ := list_cons' hl19
  obtain rfl := list_nil' hl20
  obtain ⟨f0, hf0, ht0⟩ : ∃ f, (Tryd.prog.fieldsOf 31)[0]? = some f ∧ f.type = 27 := by have := fld0'; rw [Option.map_eq_some_iff] at this; exact this
  obtain ⟨y0, hy0, hr0⟩ := field_at' oneObj' hlen hg 0 f0 hf0 u0 rfl
  rw [ht0] at hr0
  obtain ⟨x0, hc0, he0, wf0⟩ := DataW.trod_int Tryd.underlying27 hr0
  obtain rfl := List.head_eq_of_cons_eq hc0
  obtain ⟨f1, hf1, ht1⟩ : ∃ f, (Tryd.prog.fieldsOf 31)[1]? = some f ∧ f.type = 9 := by have := fld1'; rw [Option.map_eq_some_iff] at this; exact this
  obtain ⟨y1, hy1, hr1⟩ := field_at' oneObj' hlen hg 1 f1 hf1 u1 rfl
  rw [ht1] at hr1
  obtain ⟨x1, hc1, he1, hs1⟩ := DataW.trod_string Tryd.underlying9 hr1
  obtain rfl := List.head_eq_of_cons_eq hc1
  obtain ⟨f2, hf2, ht2⟩ : ∃ f, (Tryd.prog.fieldsOf 31)[2]? = some f ∧ f.type = 23 := by have := fld2'; rw [Option.map_eq_some_iff] at this; exact this
  obtain ⟨y2, hy2, hr2⟩ := field_at' oneObj' hlen hg 2 f2 hf2 u2 rfl
  rw [ht2] at hr2
  obtain ⟨x2, hc2, he2, wf2⟩ := DataW.trod_int Tryd.underlying23 hr2
  obtain rfl := List.head_eq_of_cons_eq hc2
  obtain ⟨f3, hf3, ht3⟩ : ∃ f, (Tryd.prog.fieldsOf 31)[3]? = some f ∧ f.type = 23 := by have := fld3'; rw [Option.map_eq_some_iff] at this; exact this
  obtain ⟨y3, hy3, hr3⟩ := field_at' oneObj' hlen hg 3 f3 hf3 u3 rfl
  rw [ht3] at hr3
  obtain ⟨x3, hc3, he3, wf3⟩ := DataW.trod_int Tryd.underlying23 hr3
  obtain rfl := List.head_eq_of_cons_eq hc3
  obtain ⟨f4, hf4, ht4⟩ : ∃ f, (Tryd.prog.fieldsOf 31)[4]? = some f ∧ f.type = 4 := by have := fld4'; rw [Option.map_eq_some_iff] at this; exact this
  obtain ⟨y4, hy4, hr4⟩ := field_at' oneObj' hlen hg 4 f4 hf4 u4 rfl
  rw [ht4] at hr4
  obtain ⟨x4, hc4, he4⟩ := DataW.trod_bool Tryd.underlying4 hr4
  obtain rfl := List.head_eq_of_cons_eq hc4
  obtain ⟨f5, hf5, ht5⟩ : ∃ f, (Tryd.prog.fieldsOf 31)[5]? = some f ∧ f.type = 4 := by have := fld5'; rw [Option.map_eq_some_iff] at this; exact this
  obtain ⟨y5, hy5, hr5⟩ := field_at' oneObj' hlen hg 5 f5 hf5 u5 rfl
  rw [ht5] at hr5
  obtain ⟨x5, hc5, he5⟩ := DataW.trod_bool Tryd.underlying4 hr5
  obtain rfl := List.head_eq_of_cons_eq hc5
  obtain ⟨f6, hf6, ht6⟩ : ∃ f, (Tryd.prog.fieldsOf 31)[6]? = some f ∧ f.type = 9 := by have := fld6'; rw [Option.map_eq_some_iff] at this; exact this
  obtain ⟨y6, hy6, hr6⟩ := field_at' oneObj' hlen hg 6 f6 hf6 u6 rfl
  rw [ht6] at hr6
  obtain ⟨x6, hc6, he6, hs6⟩ := DataW.trod_string Tryd.underlying9 hr6
  obtain rfl := List.head_eq_of_cons_eq hc6
  obtain ⟨f7, hf7, ht7⟩ : ∃ f, (Tryd.prog.fieldsOf 31)[7]? = some f ∧ f.type = 2 := by have := fld7'; rw [Option.map_eq_some_iff] at this; exact this
  obtain ⟨y7, hy7, hr7⟩ := field_at' oneObj' hlen hg 7 f7 hf7 u7 rfl
  rw [ht7] at hr7
  obtain ⟨x7, hc7, he7, wf7⟩ := DataW.trod_int Tryd.underlying2 hr7
  obtain rfl := List.head_eq_of_cons_eq hc7
  obtain ⟨f8, hf8, ht8⟩ : ∃ f, (Tryd.prog.fieldsOf 31)[8]? = some f ∧ f.type = 2 := by have := fld8'; rw [Option.map_eq_some_iff] at this; exact this
  obtain ⟨y8, hy8, hr8⟩ := field_at' oneObj' hlen hg 8 f8 hf8 u8 rfl
  rw [ht8] at hr8
  obtain ⟨x8, hc8, he8, wf8⟩ := DataW.trod_int Tryd.underlying2 hr8
  obtain rfl := List.head_eq_of_cons_eq hc8
  obtain ⟨f9, hf9, ht9⟩ : ∃ f, (Tryd.prog.fieldsOf 31)[9]? = some f ∧ f.type = 28 := by have := fld9'; rw [Option.map_eq_some_iff] at this; exact this
  obtain ⟨y9, hy9, hr9⟩ := field_at' oneObj' hlen hg 9 f9 hf9 u9 rfl
  rw [ht9] at hr9
  obtain ⟨x9, hc9, he9, wf9⟩ := DataW.trod_int Tryd.underlying28 hr9
  obtain rfl := List.head_eq_of_cons_eq hc9
  obtain ⟨f10, hf10, ht10⟩ : ∃ f, (Tryd.prog.fieldsOf 31)[10]? = some f ∧ f.type = 4 := by have := fld10'; rw [Option.map_eq_some_iff] at this; exact this
  obtain ⟨y10, hy10, hr10⟩ := field_at' oneObj' hlen hg 10 f10 hf10 u10 rfl
  rw [ht10] at hr10
  obtain ⟨x10, hc10, he10⟩ := DataW.trod_bool Tryd.underlying4 hr10
  obtain rfl := List.head_eq_of_cons_eq hc10
  obtain ⟨f11, hf11, ht11⟩ : ∃ f, (Tryd.prog.fieldsOf 31)[11]? = some f ∧ f.type = 4 := by have := fld11'; rw [Option.map_eq_some_iff] at this; exact this
  obtain ⟨y11, hy11, hr11⟩ := field_at' oneObj' hlen hg 11 f11 hf11 u11 rfl
  rw [ht11] at hr11
  obtain ⟨x11, hc11, he11⟩ := DataW.trod_bool Tryd.underlying4 hr11
  obtain rfl := List.head_eq_of_cons_eq hc11
  obtain ⟨f12, hf12, ht12⟩ : ∃ f, (Tryd.prog.fieldsOf 31)[12]? = some f ∧ f.type = 9 := by have := fld12'; rw [Option.map_eq_some_iff] at this; exact this
  obtain ⟨y12, hy12, hr12⟩ := field_at' oneObj' hlen hg 12 f12 hf12 u12 rfl
  rw [ht12] at hr12
  obtain ⟨x12, hc12, he12, hs12⟩ := DataW.trod_string Tryd.underlying9 hr12
  obtain rfl := List.head_eq_of_cons_eq hc12
  obtain ⟨f13, hf13, ht13⟩ : ∃ f, (Tryd.prog.fieldsOf 31)[13]? = some f ∧ f.type = 9 := by have := fld13'; rw [Option.map_eq_some_iff] at this; exact this
  obtain ⟨y13, hy13, hr13⟩ := field_at' oneObj' hlen hg 13 f13 hf13 u13 rfl
  rw [ht13] at hr13
  obtain ⟨x13, hc13, he13, hs13⟩ := DataW.trod_string Tryd.underlying9 hr13
  obtain rfl := List.head_eq_of_cons_eq hc13
  obtain ⟨f14, hf14, ht14⟩ : ∃ f, (Tryd.prog.fieldsOf 31)[14]? = some f ∧ f.type = 9 := by have := fld14'; rw [Option.map_eq_some_iff] at this; exact this
  obtain ⟨y14, hy14, hr14⟩ := field_at' oneObj' hlen hg 14 f14 hf14 u14 rfl
  rw [ht14] at hr14
  obtain ⟨x14, hc14, he14, hs14⟩ := DataW.trod_string Tryd.underlying9 hr14
  obtain rfl := List.head_eq_of_cons_eq hc14
  obtain ⟨f15, hf15, ht15⟩ : ∃ f, (Tryd.prog.fieldsOf 31)[15]? = some f ∧ f.type = 9 := by have := fld15'; rw [Option.map_eq_some_iff] at this; exact this
  obtain ⟨y15, hy15, hr15⟩ := field_at' oneObj' hlen hg 15 f15 hf15 u15 rfl
  rw [ht15] at hr15
  obtain ⟨x15, hc15, he15, hs15⟩ := DataW.trod_string Tryd.underlying9 hr15
  obtain rfl := List.head_eq_of_cons_eq hc15
  obtain ⟨f16, hf16, ht16⟩ : ∃ f, (Tryd.prog.fieldsOf 31)[16]? = some f ∧ f.type = 9 := by have := fld16'; rw [Option.map_eq_some_iff] at this; exact this
  obtain ⟨y16, hy16, hr16⟩ := field_at' oneObj' hlen hg 16 f16 hf16 u16 rfl
  rw [ht16] at hr16
  obtain ⟨x16, hc16, he16, hs16⟩ := DataW.trod_string Tryd.underlying9 hr16
  obtain rfl := List.head_eq_of_cons_eq hc16
  obtain ⟨f17, hf17, ht17⟩ : ∃ f, (Tryd.prog.fieldsOf 31)[17]? = some f ∧ f.type = 29 := by have := fld17'; rw [Option.map_eq_some_iff] at this; exact this
  obtain ⟨y17, hy17, hr17⟩ := field_at' oneObj' hlen hg 17 f17 hf17 u17 rfl
  rw [ht17] at hr17
  obtain ⟨x17, hc17, he17, wf17⟩ := DataW.trod_int Tryd.underlying29 hr17
  obtain rfl := List.head_eq_of_cons_eq hc17
  obtain ⟨f18, hf18, ht18⟩ : ∃ f, (Tryd.prog.fieldsOf 31)[18]? = some f ∧ f.type = 23 := by have := fld18'; rw [Option.map_eq_some_iff] at this; exact this
  obtain ⟨y18, hy18, hr18⟩ := field_at' oneObj' hlen hg 18 f18 hf18 u18 rfl
  rw [ht18] at hr18
  obtain ⟨x18, hc18, he18, wf18⟩ := DataW.trod_int Tryd.underlying23 hr18
  obtain rfl := List.head_eq_of_cons_eq hc18
  obtain ⟨f19, hf19, ht19⟩ : ∃ f, (Tryd.prog.fieldsOf 31)[19]? = some f ∧ f.type = 23 := by have := fld19'; rw [Option.map_eq_some_iff] at this; exact this
  obtain ⟨y19, hy19, hr19⟩ := field_at' oneObj' hlen hg 19 f19 hf19 u19 rfl
  rw [ht19] at hr19
  obtain ⟨x19, hc19, he19, wf19⟩ := DataW.trod_int Tryd.underlying23 hr19
  obtain rfl := List.head_eq_of_cons_eq hc19
  refine ⟨⟨x0, x1, x2, x3, x4, x5, x6, x7, x8, x9, x10, x11, x12, x13, x14, x15, x16, x17, x18, x19⟩, rfl, ⟨bounds_u8 wf0, bounds_u64 wf2, bounds_u64 wf3, bounds_i64 wf7, bounds_i64 wf8, bounds_u8 wf9, bounds_u8 wf17, bounds_u64 wf18, bounds_u64 wf19⟩, fun hw => ?_⟩
  obtain ⟨d, ps⟩ := x
  obtain ⟨hd, -⟩ := Prod.mk.inj hx
  simp only at hw
  rw [hd] at hw
  have hw' : (DataW.weightsEach Tryd.prog ((Tryd.prog.fieldsOf 31).toList.map (·.type)) (xs.map (·.1))).all (· ≤ reachBytes) = true := by
    simpa only [DataW.weights, undObj] using hw
  have at_ : ∀ (j : Nat) (f : Field) (y : DataW H × List MemPlace) (s : ByteArray), (Tryd.prog.fieldsOf 31)[j]? = some f → f.type = 9 → xs[j]? = some y → y = (.lit (.string s.data.toList), []) → s.size ≤ 140737488351232 := fun j f y s h1 h2 h3 h4 => by
    have := sized_string (j := j) (t := 9) (bytes := s.data.toList) hw' (by rw [List.getElem?_map, Array.getElem?_toList, h1, Option.map_some, h2]) (by rw [List.getElem?_map, h3, Option.map_some, h4])
    simpa [reachBytes] using this
  exact ⟨at_ 1 f1 y1 x1 hf1 ht1 hy1 he1, at_ 6 f6 y6 x6 hf6 ht6 hy6 he6, at_ 12 f12 y12 x12 hf12 ht12 hy12 he12, at_ 13 f13 y13 x13 hf13 ht13 hy13 he13, at_ 14 f14 y14 x14 hf14 ht14 hy14 he14, at_ 15 f15 y15 x15 hf15 ht15 hy15 he15, at_ 16 f16 y16 x16 hf16 ht16 hy16 he16⟩

/-- Where a slice that comes in lies. -/
theorem spot_add' {W : World} {b off : Nat} {sp : Option Nat} {i : Nat} {v : Value} (h : W.cell? ((⟨b, off, sp⟩ : Addr).add i) = some v) : W.cell? ⟨b, off + i, none⟩ = some v := by
  unfold Addr.add at h
  split at h
  · subst_vars
    unfold World.cell? at h ⊢
    cases hb : W.heap[b]? with
    | none => rw [hb] at h; cases h
    | some o =>
      rw [hb] at h
      cases o with
      | cells c t f =>
        cases sp with
        | none => simpa using h
        | some s => simp at h
      | _ => cases h
  · exact h
set_option maxRecDepth 100000 in
theorem lies_slice' {r : Reach} {b0 : Nat} {t e : TypeId} {w : World} {a : Addr} {n c : Nat} (ht : Tryd.prog.underlying t = some (.slice e)) (hv : Value.okWide Tryd.prog w r b0 t (.slice (some a) n c)) : a.spot = none ∧ a.block < w.heap.size := by
  unfold Value.okWide at hv
  rw [ht] at hv
  unfold Cell.okWide Cell.ok at hv
  rw [ht] at hv
  obtain ⟨-, -, -, hsp, row, cells, hsh, -⟩ := hv
  refine ⟨hsp, ?_⟩
  unfold World.shape? at hsh
  rcases Nat.lt_or_ge a.block w.heap.size with hh | hh
  · exact hh
  · rw [Array.getElem?_eq_none hh] at hsh; cases hsh
instance : Inhabited Obj := ⟨O0⟩
set_option maxRecDepth 100000 in
theorem open_objs {H : Type} {enc : TypeId × Value → H} {w : World} {base : Nat} {spare : Nat → Bool} {held : Bool} {r : Reach} {b0 : Nat} {v : Value} {d : DataW H} {p : List MemPlace}
    (hv : Value.okWide Tryd.prog w r b0 22 v) (h : DataW.Trod enc Tryd.prog w base spare held 22 v d p) :
    ∃ l : List Obj, ObjsIn w v l ∧ (∀ o ∈ l, FitO o) ∧ ((d.weights Tryd.prog 22).all (· ≤ reachBytes) = true → ∀ o ∈ l, LenO o) ∧ (∀ o n c, v = .slice o n c → n ≤ c) := by
  have hv2 := hv
  obtain ⟨a0, len, cap, rfl⟩ := okWide_slice Tryd.underlying22 hv
  obtain ⟨fuel, hf⟩ := h
  rcases Go.Deep.open_slice Tryd.underlying22 hf with ⟨hcs, -⟩ | ⟨a, len', cap', m, n, D, Pl, hcs, -, hl, hm, hmm, hxx, hx⟩
  · refine ⟨[], ⟨none, 0, ?_, by simp, fun i hi => absurd hi (by simp)⟩, fun o ho => (by cases ho), fun _ o ho => (by cases ho), fun o n c h => ?_⟩
    · simpa [Value.cells] using hcs
    · have e : (Value.slice a0 len cap) = .slice none 0 0 := by simpa [Value.cells] using hcs
      rw [e] at h
      cases h
      exact Nat.le_refl _
  · have e : (Value.slice a0 len cap) = .slice (some a) len' cap' := by simpa [Value.cells] using hcs
    cases e
    obtain ⟨hsp, hlt⟩ := lies_slice' Tryd.underlying22 hv2
    obtain ⟨b, off, spot⟩ := a
    obtain rfl : spot = none := hsp
    have hmx : maxLen = 9223372036854775807 := rfl
    have hlm : len ≤ m := by rw [hmm]; split <;> omega
    have hdd : d = .slice ((List.range len).map D) ((List.range (m - len)).map fun j => D (len + j)) := (Prod.mk.inj hxx).1
    have each : ∀ i, i < len → ∃ y : Obj, w.rangeAt b (off + i * 20) (cellsO y).toList ∧ FitO y ∧ (((D i).weights Tryd.prog 31).all (· ≤ reachBytes) = true → LenO y) := fun i hi => by
      obtain ⟨cs, h1, h2⟩ := hx i (by omega)
      rw [cellsObj'] at h1
      obtain ⟨-, hlen, hcell⟩ := World.cells?_some h1
      obtain ⟨y, rfl, q1, q2⟩ := obj_of_trod h2 hlen
      refine ⟨y, fun j u hu => ?_, q1, q2⟩
      have hj : j < (cellsO y).toList.length := (List.getElem?_eq_some_iff.1 hu).1
      have e0 := hcell j hj
      have add_add : ((⟨b, off, none⟩ : Addr).add (i * 20)).add j = ⟨b, off + i * 20 + j, none⟩ := by
        unfold Addr.add
        split <;> split <;> simp_all
      rw [add_add] at e0
      rw [e0]
      simpa using hu
    obtain ⟨Y, hY⟩ := Go.Deep.choose_lt each
    have hll : ((List.range len).map Y).length = len := by simp
    refine ⟨(List.range len).map Y, ⟨some ⟨b, off, none⟩, cap, by rw [hll], by rw [hll]; omega, fun i hi => ?_⟩, fun o ho => ?_, fun hw o ho => ?_, fun o n c h => by cases h; exact hl⟩
    · rw [hll] at hi
      simp only [List.getElem_map, List.getElem_range]
      exact ⟨b, off, rfl, hlt, (hY i hi).1⟩
    · obtain ⟨i, hi, rfl⟩ := List.mem_map.1 ho
      exact (hY i (List.mem_range.1 hi)).2.1
    · obtain ⟨i, hi, rfl⟩ := List.mem_map.1 ho
      refine (hY i (List.mem_range.1 hi)).2.2 ?_
      rw [hdd] at hw
      exact List.all_eq_true.2 fun n hn => List.all_eq_true.1 hw n (weights_elem Tryd.underlying22 (List.mem_map.2 ⟨i, hi, rfl⟩) n hn)
set_option maxRecDepth 100000 in
theorem open_obj1 {H : Type} {enc : TypeId × Value → H} {w : World} {base : Nat} {spare : Nat → Bool} {held : Bool} {r : Reach} {b0 : Nat} {v : Value} {d : DataW H} {p : List MemPlace}
    (hv : Value.okWide Tryd.prog w r b0 31 v) (h : DataW.Trod enc Tryd.prog w base spare held 31 v d p) :
    ∃ o : Obj, v = encO o ∧ FitO o ∧ ((d.weights Tryd.prog 31).all (· ≤ reachBytes) = true → LenO o) := by
  obtain ⟨cs, rfl, hsz⟩ := okWide_struct undObj hv
  rw [cellsObj'] at hsz
  obtain ⟨fuel, hf⟩ := h
  obtain ⟨o, ho, h1, h2⟩ := obj_of_trod (l := cs.toList) (by simpa [Value.cells] using hf) (by simpa using hsz)
  exact ⟨o, by unfold encO; rw [← Array.toList_inj.1 ho], h1, h2⟩
end Go.Proofs.YtfpdchabknoklaaDoor.O.B
namespace Go.Proofs.YtfpdchabknoklaaDoor.O
open Go.RowKit T
open Go.Lib

theorem refRight_any (o : Obj) (w : World) (hf : Fit o) :
    Calls Tryd.prog 15 #[encO o] w fun e w' => e = .returned (.bool (rightB o)) ∧ Below w.heap.size w w' := by
  have HF := Lib.hid hf
  have bad : rightB o = false → (Calls Tryd.prog 15 #[encO o] w fun e w' => e = .returned (.bool false) ∧ Below w.heap.size w w') → Calls Tryd.prog 15 #[encO o] w fun e w' => e = .returned (.bool (rightB o)) ∧ Below w.heap.size w w' := fun h hc => by rw [h]; exact hc
  cases b0 : nameB o.name.data.toList with
  | false => exact bad (by unfold rightB; simp only [inR_eq]; simp [b0]) (refRight_bad0 o w HF b0)
  | true =>
  cases b1 : decide (o = bareO o) with
  | false => exact bad (by unfold rightB; simp only [inR_eq]; simp [b0, b1]) (refRight_bad1 o w HF ⟨b0, b1⟩)
  | true =>
  cases b2 : textsB o with
  | false => exact bad (by unfold rightB; simp only [inR_eq]; simp [b0, b1, b2]) (refRight_bad2 o w HF ⟨b0, b1, b2⟩)
  | true =>
  cases b3 : decide (o.size < 0) with
  | true => exact bad (by unfold rightB; simp only [inR_eq]; simp [b0, b1, b2, b3]) (refRight_bad3 o w HF ⟨b0, b1, b2, b3⟩)
  | false =>
  cases b4 : decide (1125899906842624 < o.size) with
  | true => exact bad (by unfold rightB; simp only [inR_eq]; simp [b0, b1, b2, b3, b4]) (refRight_bad4 o w HF ⟨b0, b1, b2, b3, b4⟩)
  | false =>
  cases b5 : decide (o.got < 0) with
  | true => exact bad (by unfold rightB; simp only [inR_eq]; simp [b0, b1, b2, b3, b4, b5]) (refRight_bad5 o w HF ⟨b0, b1, b2, b3, b4, b5⟩)
  | false =>
  cases b6 : decide (1125899906842624 < o.got) with
  | true => exact bad (by unfold rightB; simp only [inR_eq]; simp [b0, b1, b2, b3, b4, b5, b6]) (refRight_bad6 o w HF ⟨b0, b1, b2, b3, b4, b5, b6⟩)
  | false =>
  have A : nameB o.name.data.toList = true ∧ decide (o = bareO o) = true ∧ textsB o = true ∧ decide (o.size < 0) = false ∧ decide (1125899906842624 < o.size) = false ∧ decide (o.got < 0) = false ∧ decide (1125899906842624 < o.got) = false := ⟨b0, b1, b2, b3, b4, b5, b6⟩
  by_cases k1 : o.kind = 1
  · exact refRight_kind1 o w HF ⟨A, k1⟩
  by_cases k2 : o.kind = 2
  · exact refRight_kind2 o w HF ⟨A, k1, k2⟩
  by_cases k3 : o.kind = 3
  · exact refRight_kind3 o w HF ⟨A, k1, k2, k3⟩
  by_cases k4 : o.kind = 4
  · exact refRight_kind4 o w HF ⟨A, k1, k2, k3, k4⟩
  by_cases k5 : o.kind = 5
  · exact refRight_kind5 o w HF ⟨A, k1, k2, k3, k4, k5⟩
  by_cases k6 : o.kind = 6
  · exact refRight_kind6 o w HF ⟨A, k1, k2, k3, k4, k5, k6⟩
  by_cases k7 : o.kind = 7
  · exact refRight_kind7 o w HF ⟨A, k1, k2, k3, k4, k5, k6, k7⟩
  exact refRight_kind8 o w HF ⟨A, k1, k2, k3, k4, k5, k6, k7⟩
end Go.Proofs.YtfpdchabknoklaaDoor.O
namespace Go.Proofs.YtfpdchabknoklaaDoor.O.B
open Go.ChangeShapes Go.WideShapes Go.RowKit Go.Deep Go.Lib
open Go.ChangeMaps (open_string)

theorem keyOne : oneCellFields Tryd.prog (Tryd.prog.fieldsOf 40) = true := by kernel_rfl
theorem keyUnd : Tryd.prog.underlying 40 = some (.struct (Tryd.prog.fieldsOf 40)) := by kernel_rfl
theorem keyF0 : ((Tryd.prog.fieldsOf 40)[0]?).map (·.type) = some 27 := by kernel_rfl
theorem keyF1 : ((Tryd.prog.fieldsOf 40)[1]?).map (·.type) = some 9 := by kernel_rfl
theorem key_of_trod {H : Type} {enc : TypeId × Value → H} {w : World} {base : Nat} {spare : Nat → Bool} {held : Bool} {fuel : Nat} {l : List Value} {x : DataW H × List MemPlace}
    (hf : DataW.trod enc Tryd.prog w base spare held fuel 40 l = some x) (hl0 : l.length = 2) : ∃ k n, l = [.int .u8 k, .string n] := by
  obtain ⟨xs, n, -, hx, -, hlen, hg⟩ := DataW.trod_struct keyUnd hf
  obtain ⟨u0, l0, rfl, hl1⟩ := list_cons' hl0
  obtain ⟨u1, l1, rfl, hl2⟩ := list_cons' hl1
  obtain rfl := list_nil' hl2
  obtain ⟨f0, hf0, ht0⟩ : ∃ f, (Tryd.prog.fieldsOf 40)[0]? = some f ∧ f.type = 27 := by have := keyF0; rw [Option.map_eq_some_iff] at this; exact this
  obtain ⟨y0, hy0, hr0⟩ := field_at' keyOne hlen hg 0 f0 hf0 u0 rfl
  rw [ht0] at hr0
  obtain ⟨x0, hc0, he0, wf0⟩ := DataW.trod_int Tryd.underlying27 hr0
  obtain rfl := List.head_eq_of_cons_eq hc0
  obtain ⟨f1, hf1, ht1⟩ : ∃ f, (Tryd.prog.fieldsOf 40)[1]? = some f ∧ f.type = 9 := by have := keyF1; rw [Option.map_eq_some_iff] at this; exact this
  obtain ⟨y1, hy1, hr1⟩ := field_at' keyOne hlen hg 1 f1 hf1 u1 rfl
  rw [ht1] at hr1
  obtain ⟨x1, hc1, he1, hs1⟩ := DataW.trod_string Tryd.underlying9 hr1
  obtain rfl := List.head_eq_of_cons_eq hc1
  exact ⟨x0, x1, rfl⟩
theorem calOne : oneCellFields Tryd.prog (Tryd.prog.fieldsOf 34) = true := by kernel_rfl
theorem calUnd : Tryd.prog.underlying 34 = some (.struct (Tryd.prog.fieldsOf 34)) := by kernel_rfl
theorem calF0 : ((Tryd.prog.fieldsOf 34)[0]?).map (·.type) = some 32 := by kernel_rfl
theorem calF1 : ((Tryd.prog.fieldsOf 34)[1]?).map (·.type) = some 9 := by kernel_rfl
theorem calF2 : ((Tryd.prog.fieldsOf 34)[2]?).map (·.type) = some 23 := by kernel_rfl
theorem calF3 : ((Tryd.prog.fieldsOf 34)[3]?).map (·.type) = some 2 := by kernel_rfl
theorem calF4 : ((Tryd.prog.fieldsOf 34)[4]?).map (·.type) = some 9 := by kernel_rfl
theorem calF5 : ((Tryd.prog.fieldsOf 34)[5]?).map (·.type) = some 9 := by kernel_rfl
theorem calF6 : ((Tryd.prog.fieldsOf 34)[6]?).map (·.type) = some 9 := by kernel_rfl
theorem cal_of_trod {H : Type} {enc : TypeId × Value → H} {w : World} {base : Nat} {spare : Nat → Bool} {held : Bool} {fuel : Nat} {l : List Value} {x : DataW H × List MemPlace}
    (hf : DataW.trod enc Tryd.prog w base spare held fuel 34 l = some x) (hl0 : l.length = 7) : ∃ c : Cl, l = (cellsC c).toList := by
  obtain ⟨xs, n, -, hx, -, hlen, hg⟩ := DataW.trod_struct calUnd hf
  obtain ⟨u0, l0, rfl, hl1⟩ := list_cons' hl0
  obtain ⟨u1, l1, rfl, hl2⟩ := list_cons' hl1
  obtain ⟨u2, l2, rfl, hl3⟩ := list_cons' hl2
  obtain ⟨u3, l3, rfl, hl4⟩ := list_cons' hl3
  obtain ⟨u4, l4, rfl, hl5⟩ := list_cons' hl4
  obtain ⟨u5, l5, rfl, hl6⟩ := list_cons' hl5
  obtain ⟨u6, l6, rfl, hl7⟩ := list_cons' hl6
  obtain rfl := list_nil' hl7
  obtain ⟨f0, hf0, ht0⟩ : ∃ f, (Tryd.prog.fieldsOf 34)[0]? = some f ∧ f.type = 32 := by have := calF0; rw [Option.map_eq_some_iff] at this; exact this
  obtain ⟨y0, hy0, hr0⟩ := field_at' calOne hlen hg 0 f0 hf0 u0 rfl
  rw [ht0] at hr0
  obtain ⟨x0, hc0, he0, wf0⟩ := DataW.trod_int Tryd.underlying32 hr0
  obtain rfl := List.head_eq_of_cons_eq hc0
  obtain ⟨f1, hf1, ht1⟩ : ∃ f, (Tryd.prog.fieldsOf 34)[1]? = some f ∧ f.type = 9 := by have := calF1; rw [Option.map_eq_some_iff] at this; exact this
  obtain ⟨y1, hy1, hr1⟩ := field_at' calOne hlen hg 1 f1 hf1 u1 rfl
  rw [ht1] at hr1
  obtain ⟨x1, hc1, he1, hs1⟩ := DataW.trod_string Tryd.underlying9 hr1
  obtain rfl := List.head_eq_of_cons_eq hc1
  obtain ⟨f2, hf2, ht2⟩ : ∃ f, (Tryd.prog.fieldsOf 34)[2]? = some f ∧ f.type = 23 := by have := calF2; rw [Option.map_eq_some_iff] at this; exact this
  obtain ⟨y2, hy2, hr2⟩ := field_at' calOne hlen hg 2 f2 hf2 u2 rfl
  rw [ht2] at hr2
  obtain ⟨x2, hc2, he2, wf2⟩ := DataW.trod_int Tryd.underlying23 hr2
  obtain rfl := List.head_eq_of_cons_eq hc2
  obtain ⟨f3, hf3, ht3⟩ : ∃ f, (Tryd.prog.fieldsOf 34)[3]? = some f ∧ f.type = 2 := by have := calF3; rw [Option.map_eq_some_iff] at this; exact this
  obtain ⟨y3, hy3, hr3⟩ := field_at' calOne hlen hg 3 f3 hf3 u3 rfl
  rw [ht3] at hr3
  obtain ⟨x3, hc3, he3, wf3⟩ := DataW.trod_int Tryd.underlying2 hr3
  obtain rfl := List.head_eq_of_cons_eq hc3
  obtain ⟨f4, hf4, ht4⟩ : ∃ f, (Tryd.prog.fieldsOf 34)[4]? = some f ∧ f.type = 9 := by have := calF4; rw [Option.map_eq_some_iff] at this; exact this
  obtain ⟨y4, hy4, hr4⟩ := field_at' calOne hlen hg 4 f4 hf4 u4 rfl
  rw [ht4] at hr4
  obtain ⟨x4, hc4, he4, hs4⟩ := DataW.trod_string Tryd.underlying9 hr4
  obtain rfl := List.head_eq_of_cons_eq hc4
  obtain ⟨f5, hf5, ht5⟩ : ∃ f, (Tryd.prog.fieldsOf 34)[5]? = some f ∧ f.type = 9 := by have := calF5; rw [Option.map_eq_some_iff] at this; exact this
  obtain ⟨y5, hy5, hr5⟩ := field_at' calOne hlen hg 5 f5 hf5 u5 rfl
  rw [ht5] at hr5
  obtain ⟨x5, hc5, he5, hs5⟩ := DataW.trod_string Tryd.underlying9 hr5
  obtain rfl := List.head_eq_of_cons_eq hc5
  obtain ⟨f6, hf6, ht6⟩ : ∃ f, (Tryd.prog.fieldsOf 34)[6]? = some f ∧ f.type = 9 := by have := calF6; rw [Option.map_eq_some_iff] at this; exact this
  obtain ⟨y6, hy6, hr6⟩ := field_at' calOne hlen hg 6 f6 hf6 u6 rfl
  rw [ht6] at hr6
  obtain ⟨x6, hc6, he6, hs6⟩ := DataW.trod_string Tryd.underlying9 hr6
  obtain rfl := List.head_eq_of_cons_eq hc6
  exact ⟨⟨x0, x1, x2, x3, x4, x5, x6⟩, rfl⟩
theorem resOne : oneCellFields Tryd.prog (Tryd.prog.fieldsOf 43) = true := by kernel_rfl
theorem resUnd : Tryd.prog.underlying 43 = some (.struct (Tryd.prog.fieldsOf 43)) := by kernel_rfl
theorem resF0 : ((Tryd.prog.fieldsOf 43)[0]?).map (·.type) = some 41 := by kernel_rfl
theorem resF1 : ((Tryd.prog.fieldsOf 43)[1]?).map (·.type) = some 2 := by kernel_rfl
theorem resF2 : ((Tryd.prog.fieldsOf 43)[2]?).map (·.type) = some 9 := by kernel_rfl
theorem resF3 : ((Tryd.prog.fieldsOf 43)[3]?).map (·.type) = some 23 := by kernel_rfl
theorem res_of_trod {H : Type} {enc : TypeId × Value → H} {w : World} {base : Nat} {spare : Nat → Bool} {held : Bool} {fuel : Nat} {l : List Value} {x : DataW H × List MemPlace}
    (hf : DataW.trod enc Tryd.prog w base spare held fuel 43 l = some x) (hl0 : l.length = 4) : ∃ r : Rs, l = [.int .i64 r.err, .int .i64 r.size, .string r.zone, .int .u64 r.tag] := by
  obtain ⟨xs, n, -, hx, -, hlen, hg⟩ := DataW.trod_struct resUnd hf
  obtain ⟨u0, l0, rfl, hl1⟩ := list_cons' hl0
  obtain ⟨u1, l1, rfl, hl2⟩ := list_cons' hl1
  obtain ⟨u2, l2, rfl, hl3⟩ := list_cons' hl2
  obtain ⟨u3, l3, rfl, hl4⟩ := list_cons' hl3
  obtain rfl := list_nil' hl4
  obtain ⟨f0, hf0, ht0⟩ : ∃ f, (Tryd.prog.fieldsOf 43)[0]? = some f ∧ f.type = 41 := by have := resF0; rw [Option.map_eq_some_iff] at this; exact this
  obtain ⟨y0, hy0, hr0⟩ := field_at' resOne hlen hg 0 f0 hf0 u0 rfl
  rw [ht0] at hr0
  obtain ⟨x0, hc0, he0, wf0⟩ := DataW.trod_int Tryd.underlying41 hr0
  obtain rfl := List.head_eq_of_cons_eq hc0
  obtain ⟨f1, hf1, ht1⟩ : ∃ f, (Tryd.prog.fieldsOf 43)[1]? = some f ∧ f.type = 2 := by have := resF1; rw [Option.map_eq_some_iff] at this; exact this
  obtain ⟨y1, hy1, hr1⟩ := field_at' resOne hlen hg 1 f1 hf1 u1 rfl
  rw [ht1] at hr1
  obtain ⟨x1, hc1, he1, wf1⟩ := DataW.trod_int Tryd.underlying2 hr1
  obtain rfl := List.head_eq_of_cons_eq hc1
  obtain ⟨f2, hf2, ht2⟩ : ∃ f, (Tryd.prog.fieldsOf 43)[2]? = some f ∧ f.type = 9 := by have := resF2; rw [Option.map_eq_some_iff] at this; exact this
  obtain ⟨y2, hy2, hr2⟩ := field_at' resOne hlen hg 2 f2 hf2 u2 rfl
  rw [ht2] at hr2
  obtain ⟨x2, hc2, he2, hs2⟩ := DataW.trod_string Tryd.underlying9 hr2
  obtain rfl := List.head_eq_of_cons_eq hc2
  obtain ⟨f3, hf3, ht3⟩ : ∃ f, (Tryd.prog.fieldsOf 43)[3]? = some f ∧ f.type = 23 := by have := resF3; rw [Option.map_eq_some_iff] at this; exact this
  obtain ⟨y3, hy3, hr3⟩ := field_at' resOne hlen hg 3 f3 hf3 u3 rfl
  rw [ht3] at hr3
  obtain ⟨x3, hc3, he3, wf3⟩ := DataW.trod_int Tryd.underlying23 hr3
  obtain rfl := List.head_eq_of_cons_eq hc3
  exact ⟨⟨x0, x1, x2, x3⟩, rfl⟩

/-- A reply. -/
structure Rep where
  k : Int
  n : ByteArray
  c : Cl
  own : Bool
  r : Rs
def cellsY (y : Rep) : Array Value := #[.int .u8 y.k, .string y.n, .int .u8 y.c.verb, .string y.c.target, .int .u64 y.c.num, .int .i64 y.c.size, .string y.c.zone, .string y.c.node, .string y.c.source, .bool y.own, .int .i64 y.r.err, .int .i64 y.r.size, .string y.r.zone, .int .u64 y.r.tag]
def encY (y : Rep) : Value := .agg (cellsY y)
theorem repUnd : Tryd.prog.underlying 45 = some (.struct (Tryd.prog.fieldsOf 45)) := by kernel_rfl
theorem repCells : Tryd.prog.cellsOf 45 = 14 := by kernel_rfl
theorem repSize : (Tryd.prog.fieldsOf 45).size = 4 := by kernel_rfl
theorem repF0 : ((Tryd.prog.fieldsOf 45)[0]?).map (fun f => (f.type, f.offset)) = some (40, 0) := by kernel_rfl
theorem repC0 : Tryd.prog.cellsOf 40 = 2 := by kernel_rfl
theorem repF1 : ((Tryd.prog.fieldsOf 45)[1]?).map (fun f => (f.type, f.offset)) = some (34, 2) := by kernel_rfl
theorem repC1 : Tryd.prog.cellsOf 34 = 7 := by kernel_rfl
theorem repF2 : ((Tryd.prog.fieldsOf 45)[2]?).map (fun f => (f.type, f.offset)) = some (4, 9) := by kernel_rfl
theorem repC2 : Tryd.prog.cellsOf 4 = 1 := by kernel_rfl
theorem repF3 : ((Tryd.prog.fieldsOf 45)[3]?).map (fun f => (f.type, f.offset)) = some (43, 10) := by kernel_rfl
theorem repC3 : Tryd.prog.cellsOf 43 = 4 := by kernel_rfl

set_option maxRecDepth 100000 in
theorem open_reply {H : Type} {enc : TypeId × Value → H} {w : World} {base : Nat} {spare : Nat → Bool} {held : Bool} {r : Reach} {b0 : Nat} {v : Value} {d : DataW H} {p : List MemPlace}
    (hv : Value.okWide Tryd.prog w r b0 45 v) (h : DataW.Trod enc Tryd.prog w base spare held 45 v d p) : ∃ y : Rep, v = encY y := by
  obtain ⟨cs, rfl, hsz⟩ := okWide_struct repUnd hv
  rw [repCells] at hsz
  obtain ⟨l⟩ := cs
  obtain ⟨fuel, hf⟩ := h
  obtain ⟨xs, n, -, hx, -, hlen, hg⟩ := DataW.trod_struct repUnd hf
  rw [repSize] at hlen
  have hl0 : l.length = 14 := by simpa using hsz
  obtain ⟨u0, l0, rfl, hl1⟩ := list_cons' hl0
  obtain ⟨u1, l1, rfl, hl2⟩ := list_cons' hl1
  obtain ⟨u2, l2, rfl, hl3⟩ := list_cons' hl2
  obtain ⟨u3, l3, rfl, hl4⟩ := list_cons' hl3
  obtain ⟨u4, l4, rfl, hl5⟩ := list_cons' hl4
  obtain ⟨u5, l5, rfl, hl6⟩ := list_cons' hl5
  obtain ⟨u6, l6, rfl, hl7⟩ := list_cons' hl6
  obtain ⟨u7, l7, rfl, hl8⟩ := list_cons' hl7
  obtain ⟨u8, l8, rfl, hl9⟩ := list_cons' hl8
  obtain ⟨u9, l9, rfl, hl10⟩ := list_cons' hl9
  obtain ⟨u10, l10, rfl, hl11⟩ := list_cons' hl10
  obtain ⟨u11, l11, rfl, hl12⟩ := list_cons' hl11
  obtain ⟨u12, l12, rfl, hl13⟩ := list_cons' hl12
  obtain ⟨u13, l13, rfl, hl14⟩ := list_cons' hl13
  obtain rfl := list_nil' hl14
  have e0 : ∃ y, DataW.trod enc Tryd.prog w base spare held n 40 [u0, u1] = some y := by
    obtain ⟨f, hf0, hp⟩ : ∃ f, (Tryd.prog.fieldsOf 45)[0]? = some f ∧ (f.type, f.offset) = (40, 0) := by have := repF0; rw [Option.map_eq_some_iff] at this; exact this
    obtain ⟨h1, h2⟩ := Prod.mk.inj hp
    have h3 := hg 0 f hf0
    rw [h1, h2, repC0] at h3
    exact ⟨xs[0]'(by omega), h3.trans (List.getElem?_eq_getElem (by omega))⟩
  obtain ⟨y0, e0⟩ := e0
  have e1 : ∃ y, DataW.trod enc Tryd.prog w base spare held n 34 [u2, u3, u4, u5, u6, u7, u8] = some y := by
    obtain ⟨f, hf0, hp⟩ : ∃ f, (Tryd.prog.fieldsOf 45)[1]? = some f ∧ (f.type, f.offset) = (34, 2) := by have := repF1; rw [Option.map_eq_some_iff] at this; exact this
    obtain ⟨h1, h2⟩ := Prod.mk.inj hp
    have h3 := hg 1 f hf0
    rw [h1, h2, repC1] at h3
    exact ⟨xs[1]'(by omega), h3.trans (List.getElem?_eq_getElem (by omega))⟩
  obtain ⟨y1, e1⟩ := e1
  have e2 : ∃ y, DataW.trod enc Tryd.prog w base spare held n 4 [u9] = some y := by
    obtain ⟨f, hf0, hp⟩ : ∃ f, (Tryd.prog.fieldsOf 45)[2]? = some f ∧ (f.type, f.offset) = (4, 9) := by have := repF2; rw [Option.map_eq_some_iff] at this; exact this
    obtain ⟨h1, h2⟩ := Prod.mk.inj hp
    have h3 := hg 2 f hf0
    rw [h1, h2, repC2] at h3
    exact ⟨xs[2]'(by omega), h3.trans (List.getElem?_eq_getElem (by omega))⟩
  obtain ⟨y2, e2⟩ := e2
  have e3 : ∃ y, DataW.trod enc Tryd.prog w base spare held n 43 [u10, u11, u12, u13] = some y := by
    obtain ⟨f, hf0, hp⟩ : ∃ f, (Tryd.prog.fieldsOf 45)[3]? = some f ∧ (f.type, f.offset) = (43, 10) := by have := repF3; rw [Option.map_eq_some_iff] at this; exact this
    obtain ⟨h1, h2⟩ := Prod.mk.inj hp
    have h3 := hg 3 f hf0
    rw [h1, h2, repC3] at h3
    exact ⟨xs[3]'(by omega), h3.trans (List.getElem?_eq_getElem (by omega))⟩
  obtain ⟨y3, e3⟩ := e3
  obtain ⟨k, m, h0⟩ := key_of_trod e0 rfl
  obtain ⟨c, h1⟩ := cal_of_trod e1 rfl
  obtain ⟨own, hb, -⟩ := DataW.trod_bool Tryd.underlying4 e2
  obtain ⟨q, h3⟩ := res_of_trod e3 rfl
  have h1' : [u2, u3, u4, u5, u6, u7, u8] = [.int .u8 c.verb, .string c.target, .int .u64 c.num, .int .i64 c.size, .string c.zone, .string c.node, .string c.source] := h1
  simp only [List.cons.injEq, and_true] at h0 h1' hb h3
  refine ⟨⟨k, m, c, own, q⟩, ?_⟩
  unfold encY cellsY
  simp only [h0, h1', hb, h3]
end Go.Proofs.YtfpdchabknoklaaDoor.O.B
namespace Go.Proofs.YtfpdchabknoklaaDoor.O.B
open Go Go.RowKit Go.Shelf Go.Lib RangeMap KM
attribute [local go_sem] Oper.semAt_some

def BoxY (W : World) (b : Nat) (y : Rep) : Prop := W.heap[b]? = some (.cells (cellsY y) 45 (0, 0))
theorem BoxY.after {W W' : World} {b : Nat} {y : Rep} (h : BoxY W b y) (hb : Below W.heap.size W W') : BoxY W' b y := (hb.block b (Array.getElem?_eq_some_iff.1 h).1).trans h
theorem BoxY.lt {W : World} {b : Nat} {y : Rep} (h : BoxY W b y) : b < W.heap.size := (Array.getElem?_eq_some_iff.1 h).1
theorem BoxY.cells {W : World} {b : Nat} {y : Rep} (h : BoxY W b y) : W.cell? ⟨b, 0, none⟩ = some (.int .u8 y.k) ∧ W.cell? ⟨b, 1, none⟩ = some (.string y.n) ∧ W.cell? ⟨b, 9, none⟩ = some (.bool y.own) :=
  ⟨(cell_of_row W b 0 _ _ _ h).trans rfl, (cell_of_row W b 1 _ _ _ h).trans rfl, (cell_of_row W b 9 _ _ _ h).trans rfl⟩
theorem BoxY.callAt {W : World} {b : Nat} {y : Rep} (h : BoxY W b y) : W.rangeAt b 2 (cellsC y.c).toList := by
  have e : ((cellsY y).extract 2 (2 + 7)).toList = (cellsC y.c).toList := by kernel_rfl
  rw [← e]
  exact World.rangeAt_of_block h 2 7
theorem BoxY.keyAt {W : World} {b : Nat} {y : Rep} (h : BoxY W b y) : W.rangeAt b 0 (#[Value.int .u8 y.k, .string y.n]).toList := by
  have e : ((cellsY y).extract 0 (0 + 2)).toList = (#[Value.int .u8 y.k, .string y.n]).toList := by kernel_rfl
  rw [← e]
  exact World.rangeAt_of_block h 0 2
theorem BoxY.resAt {W : World} {b : Nat} {y : Rep} (h : BoxY W b y) : W.rangeAt b 10 (#[Value.int .i64 y.r.err, .int .i64 y.r.size, .string y.r.zone, .int .u64 y.r.tag]).toList := by
  have e : ((cellsY y).extract 10 (10 + 4)).toList = (#[Value.int .i64 y.r.err, .int .i64 y.r.size, .string y.r.zone, .int .u64 y.r.tag]).toList := by kernel_rfl
  rw [← e]
  exact World.rangeAt_of_block h 10 4
theorem undRes : Tryd.prog.underlying 43 = some (.struct (Tryd.prog.fieldsOf 43)) := by kernel_rfl
theorem sizeRes : (Tryd.prog.info? 43).map (·.size) = some 4 := by kernel_rfl
theorem sizeRep : (Tryd.prog.info? 45).map (·.size) = some 14 := by kernel_rfl
theorem load_keyAt {W : World} {b : Nat} {y : Rep} (h : BoxY W b y) {oi : Oper} {a : Act} {x : Operand} (ho : oi.op = .load 40 x) (hx : a.eval x = .pointer (some ⟨b, 0, none⟩)) :
    (execOp a.eval oi).run Tryd.prog W = .ok (.value (encK y.k y.n)) W := by
  have h1 := run_loadAt_mid (P := Tryd.prog) W b 0 40 _ _ h.keyAt undKey rfl sizeKey
  unfold execOp
  simp only [ho, hx, Sem.run_bind, h1, Result.andThen_ok, Sem.run_pure]
  rfl
theorem load_resAt {W : World} {b : Nat} {y : Rep} (h : BoxY W b y) {oi : Oper} {a : Act} {x : Operand} (ho : oi.op = .load 43 x) (hx : a.eval x = .pointer (some ⟨b, 10, none⟩)) :
    (execOp a.eval oi).run Tryd.prog W = .ok (.value (encR y.r)) W := by
  have h1 := run_loadAt_mid (P := Tryd.prog) W b 10 43 _ _ h.resAt undRes rfl sizeRes
  unfold execOp
  simp only [ho, hx, Sem.run_bind, h1, Result.andThen_ok, Sem.run_pure]
  rfl
theorem load_rep {W : World} {b : Nat} {y : Rep} (h : BoxY W b y) {oi : Oper} {a : Act} {x : Operand} (ho : oi.op = .load 45 x) (hx : a.eval x = .pointer (some ⟨b, 0, none⟩)) :
    (execOp a.eval oi).run Tryd.prog W = .ok (.value (encY y)) W := by
  unfold execOp
  simp only [ho, hx, Instr.loadAt, Instr.sureAddr, Sem.run_bind, Sem.run_pure, Result.andThen_ok, run_loadVar_row W b 45 45 (cellsY y) (0, 0) _ h repUnd rfl sizeRep]
  rfl
theorem one_cellsC' (c : Cl) : (cellsC c).all (·.oneCell') = true := by simp [cellsC, Value.oneCell']
theorem calling {W : World} {b : Nat} {p : Cl} (h : BoxC W b p) (x : Cl) : ∃ V, (∀ {oi : Oper} {a : Act} {r q : Operand}, oi.op = .store 34 r q → a.eval r = .pointer (some ⟨b, 0, none⟩) → a.eval q = encC x → (execOp a.eval oi).run Tryd.prog W = .ok .skip V) ∧
    BoxC V b x ∧ (∀ g, g ≠ b → V.heap[g]? = W.heap[g]?) ∧ (∀ B A, Below B A W → B ≤ b → Below B A V) :=
  ⟨W.setRow b (cellsC x), fun {oi a r q} ho hx hy => by
    have h1 := run_storeVar_row (P := Tryd.prog) W b 34 34 (cellsC p) (cellsC x) h sizeCall rfl (one_cellsC' x)
    unfold execOp
    have hy' : a.eval q = .agg (cellsC x) := hy
    simp [ho, hx, hy', Instr.storeAt, Instr.sureAddr, h1, Result.andThen], setRow_heap W b _ _ _ _ h, fun g hg => setRow_other W b g _ hg, fun _ _ h1 h2 => below_setRow h1 h2 _⟩
theorem exec_actcall {W : World} {A : Ac} {oi : Oper} {a : Act} {x : Operand} (ho : oi.op = .field 36 x 2) (hx : a.eval x = encA A) :
    (execOp a.eval oi).run Tryd.prog W = .ok (.value (encC A.call)) W := by
  unfold execOp
  simp only [ho, hx]
  kernel_rfl
def N0 : Cl := ⟨0, E0, 0, 0, E0, E0, E0⟩
def askedY (l : List Obj) (ver : Int) (y : Rep) : Cl := if y.own = false then y.c else if y.k = 3 then (claimN l ver y.n).call else (volumeN l ver y.n).call

set_option maxRecDepth 100000 in
set_option maxHeartbeats 4000000 in
theorem askedY_any (l : List Obj) (v : Value) (ver : Int) (y : Rep) (w : World) (hl : ObjsIn w v l) (hlen : l.length < 100000) (ht : Tab w) (hall : ∀ s ∈ l, (0 ≤ s.born ∧ s.born ≤ 18446744073709551615) ∧ s.name.size ≤ 140737488351232) :
    Calls Tryd.prog 10 #[v, .int .u64 ver, encY y] w fun e w' => e = .returned (encC (askedY l ver y)) ∧ Below w.heap.size w w' := by
  obtain ⟨o, cp, rfl, -, -⟩ := id hl
  have HL := Lib.hid hl
  have HT := Lib.hid ht
  have HCC := Lib.hid (fun V (hV : ObjsIn V (.slice o l.length cp) l) (hT : Tab V) => rclaim_any l _ ver y.n V hV hlen hT hall)
  have HSS := Lib.hid (fun V (hV : ObjsIn V (.slice o l.length cp) l) (hT : Tab V) => rvolume_any l _ ver y.n V hV hlen hT hall)
  clear hl ht hlen hall
  obtain ⟨x, hx⟩ : ∃ x, askedY l ver y = x := ⟨_, rfl⟩
  rw [hx]
  unfold askedY at hx
  generalize claimN l ver y.n = A at *
  generalize volumeN l ver y.n = B at *
  have HXX := Lib.hid hx
  clear hx
  have HYE : Hid (encY y = .agg (cellsY y)) := rfl
  rw [HYE.out]
  unfold cellsY
  go_enter Tryd.func10, Tryd.ntmps10
  go_upto_region 1 with (fail)
  refine wp_gen (fun V => BoxY V w.heap.size y ∧ BoxC V (w.heap.size + 1) N0 ∧ Below w.heap.size w V) (chain2 w _ _) ?_
  rintro V ⟨hy, hc, hlw⟩
  obtain ⟨y0, y1, y9⟩ := hy.cells
  have hca := hy.callAt
  have HO := Lib.hid hc
  have HW := Lib.hid hlw
  have HLV := Lib.hid (HL.out.after hlw)
  have HTV := Lib.hid (HT.out.after hlw)
  clear hy hc hlw HL HT HYE
  by_cases ho : y.own = false
  · have HVV : Hid (x = y.c) := HXX.out.symm.trans (if_pos ho)
    rw [ho] at y9
    clear HXX ho HCC HSS HLV HTV
    obtain ⟨V8, hst8, ho8, -, hb8⟩ := calling HO.out y.c
    have HO8 := Lib.hid ho8
    have HX8 := Lib.hid (hb8 _ _ HW.out (by omega))
    clear ho8 hb8
    go_wp2_with (first | (refine wpList_got rfl (load_callAt hca rfl rfl) ?_) | (refine wpList_skip rfl (hst8 rfl rfl rfl) ?_))
    refine bodyPost_ret (v := encC y.c) (results_cell_row rfl _ _ (w.heap.size + 1) 34 (cellsC y.c) (0, 0) _ rfl HO8.out undCall rfl sizeCall) rfl ?_
    exact ⟨by rw [HVV.out], HX8.out⟩
  · have hx2 := HXX.out.symm.trans (if_neg ho)
    have ho' : y.own = true := by simpa using ho
    rw [ho'] at y9
    clear HXX ho ho'
    by_cases h3 : y.k = 3
    · have e3 : (y.k == 3) = true := by simpa using h3
      have HVV : Hid (x = A.call) := hx2.trans (if_pos h3)
      have HC := Lib.hid (HCC.out V HLV.out HTV.out)
      clear hx2 h3 HCC HSS HLV HTV
      go_wp2_with (fail)
      refine HC.out.mono ?_
      rintro e W6 ⟨rfl, hb6⟩
      obtain ⟨V8, hst8, ho8, -, hb8⟩ := calling (show BoxC W6 (w.heap.size + 1) N0 from HO.out.after hb6) A.call
      have HO8 := Lib.hid ho8
      have HX8 := Lib.hid (hb8 _ _ (HW.out.trans (hb6.mono HW.out.size)) (by omega))
      clear ho8 hb8 HC HO HW hb6
      go_wp2_with (first | (refine wpList_got rfl (exec_actcall (A := A) rfl rfl) ?_) | (refine wpList_skip rfl (hst8 rfl rfl rfl) ?_))
      refine bodyPost_ret (v := encC A.call) (results_cell_row rfl _ _ (w.heap.size + 1) 34 (cellsC A.call) (0, 0) _ rfl HO8.out undCall rfl sizeCall) rfl ?_
      exact ⟨by rw [HVV.out], HX8.out⟩
    · have e3 : (y.k == 3) = false := by simpa using h3
      have HVV : Hid (x = B.call) := hx2.trans (if_neg h3)
      have HC := Lib.hid (HSS.out V HLV.out HTV.out)
      clear hx2 h3 HCC HSS HLV HTV
      go_wp2_with (fail)
      refine HC.out.mono ?_
      rintro e W6 ⟨rfl, hb6⟩
      obtain ⟨V8, hst8, ho8, -, hb8⟩ := calling (show BoxC W6 (w.heap.size + 1) N0 from HO.out.after hb6) B.call
      have HO8 := Lib.hid ho8
      have HX8 := Lib.hid (hb8 _ _ (HW.out.trans (hb6.mono HW.out.size)) (by omega))
      clear ho8 hb8 HC HO HW hb6
      go_wp2_with (first | (refine wpList_got rfl (exec_actcall (A := B) rfl rfl) ?_) | (refine wpList_skip rfl (hst8 rfl rfl rfl) ?_))
      refine bodyPost_ret (v := encC B.call) (results_cell_row rfl _ _ (w.heap.size + 1) 34 (cellsC B.call) (0, 0) _ rfl HO8.out undCall rfl sizeCall) rfl ?_
      exact ⟨by rw [HVV.out], HX8.out⟩
end Go.Proofs.YtfpdchabknoklaaDoor.O.B
namespace Go.Proofs.YtfpdchabknoklaaDoor.O.B
open Go Go.Lib T

def AllR (l : List Obj) : Prop := ∀ o ∈ l, rightB o = true
theorem AllR.get {l : List Obj} {k : Int} {n : ByteArray} {o : Obj} (h : AllR l) (hg : getL l k n = some o) : rightB o = true := h o (List.mem_of_find?_eq_some hg)
theorem get_kind {l : List Obj} {k : Int} {n : ByteArray} {o : Obj} (h : getL l k n = some o) : o.kind = k := by
  have := List.find?_some h
  simp only [Bool.and_eq_true, decide_eq_true_eq] at this
  exact this.1
theorem rightB_parts {p : Obj} (h : rightB p = true) : nameB p.name.data.toList = true ∧ okT p.cls = true ∧ okT p.zone = true ∧ okT p.node = true ∧ inR p.size = true ∧ inR p.got = true ∧ kindB p = true := by
  unfold rightB textsB at h
  simp only [Bool.and_eq_true] at h
  obtain ⟨h0, -, ⟨h1, h2, h3, -, -, -⟩, h4, h5, h6⟩ := h
  exact ⟨h0, h1, h2, h3, h4, h5, h6⟩
theorem okT_name {s : ByteArray} (h : nameB s.data.toList = true) : okT s = true ∧ emp s = false := by
  refine ⟨by unfold okT; rw [h, Bool.or_true], ?_⟩
  unfold emp
  have := nameB_le h
  rw [decide_eq_false_iff_not]
  intro e
  have : s.data.toList.length = s.size := size_list s
  rw [e] at this
  simp at this
  omega
theorem okT_E0 : okT E0 = true := rfl
theorem right_take (p : Obj) (n z : ByteArray) (g : Int) (hk : p.kind = 3) (h : rightB p = true) (hn : okT n = true) (he : emp n = false) (hz : okT z = true) (hg : inR g = true) : rightB { p with phase := 3, volume := n, got := g, zone := z, num := 0 } = true := by
  have hE := okT_E0
  obtain ⟨k, nm, ve, bo, de, ho, cl, si, go, mo, ke, wa, zo, no, ca, vo, so, ph, nu, ta⟩ := p
  dsimp only at hk
  subst hk
  simp [rightB, bareO, kindB, claimB, textsB, ph3] at h ⊢
  simp_all
theorem right_off (p : Obj) (n : Int) (hk : p.kind = 3) (h : rightB p = true) (hp : p.phase = 2) : rightB { p with phase := 1, num := n } = true := by
  have hE := okT_E0
  obtain ⟨k, nm, ve, bo, de, ho, cl, si, go, mo, ke, wa, zo, no, ca, vo, so, ph, nu, ta⟩ := p
  dsimp only at hk hp
  subst hk hp
  simp [rightB, bareO, kindB, claimB, textsB, ph3] at h ⊢
  simp_all
theorem right_creat (p : Obj) (z : ByteArray) (n : Int) (hk : p.kind = 3) (h : rightB p = true) (hp : p.phase = 1) (hz : okT z = true) : rightB { p with phase := 2, zone := z, num := n } = true := by
  have hE := okT_E0
  obtain ⟨k, nm, ve, bo, de, ho, cl, si, go, mo, ke, wa, zo, no, ca, vo, so, ph, nu, ta⟩ := p
  dsimp only at hk hp
  subst hk hp
  simp [rightB, bareO, kindB, claimB, textsB, ph3] at h ⊢
  simp_all
theorem right_num (p : Obj) (n : Int) (hk : p.kind = 3) (h : rightB p = true) : rightB { p with num := n } = true := by
  have hE := okT_E0
  obtain ⟨k, nm, ve, bo, de, ho, cl, si, go, mo, ke, wa, zo, no, ca, vo, so, ph, nu, ta⟩ := p
  dsimp only at hk
  subst hk
  simp [rightB, bareO, kindB, claimB, textsB, ph3] at h ⊢
  simp_all
theorem right_back (p : Obj) (nd : ByteArray) (n : Int) (hk : p.kind = 3) (h : rightB p = true) (hp : p.phase = 2) (hn : okT nd = true) : rightB { p with phase := 1, zone := E0, node := nd, num := n } = true := by
  have hz := okT_E0
  obtain ⟨k, nm, ve, bo, de, ho, cl, si, go, mo, ke, wa, zo, no, ca, vo, so, ph, nu, ta⟩ := p
  dsimp only at hk hp
  subst hk hp
  simp [rightB, bareO, kindB, claimB, textsB, ph3] at h ⊢
  simp_all
theorem right_bind (p : Obj) (r : ByteArray) (hk : p.kind = 4) (h : rightB p = true) (hr : okT r = true) (he : emp r = false) : rightB { p with phase := 3, claim := r } = true := by
  have hE := okT_E0
  obtain ⟨k, nm, ve, bo, de, ho, cl, si, go, mo, ke, wa, zo, no, ca, vo, so, ph, nu, ta⟩ := p
  dsimp only at hk
  subst hk
  simp [rightB, bareO, kindB, volumeB, textsB, ph4] at h ⊢
  simp_all
theorem right_erasing (p : Obj) (n : Int) (hk : p.kind = 4) (h : rightB p = true) : rightB { p with phase := 6, num := n } = true := by
  have hE := okT_E0
  obtain ⟨k, nm, ve, bo, de, ho, cl, si, go, mo, ke, wa, zo, no, ca, vo, so, ph, nu, ta⟩ := p
  dsimp only at hk
  subst hk
  simp [rightB, bareO, kindB, volumeB, textsB, ph4] at h ⊢
  simp_all
theorem right_given (p : Obj) (hk : p.kind = 4) (h : rightB p = true) (hp : p.phase = 3) : rightB { p with phase := 5 } = true := by
  have hE := okT_E0
  obtain ⟨k, nm, ve, bo, de, ho, cl, si, go, mo, ke, wa, zo, no, ca, vo, so, ph, nu, ta⟩ := p
  dsimp only at hk hp
  subst hk hp
  simp [rightB, bareO, kindB, volumeB, textsB, ph4] at h ⊢
  simp_all
theorem right_made (p : Obj) (nm' rf : ByteArray) (keep : Bool) (z : ByteArray) (hk : p.kind = 3) (h : rightB p = true) (hn : nameB nm'.data.toList = true) (hr : okT rf = true) (he : emp rf = false) (hz : okT z = true) (hze : emp z = false) :
    rightB (defO ⟨4, nm', 0, 0, false, false, p.cls, p.size, p.size, p.mode, keep, false, z, E0, rf, E0, E0, 3, 0, 0⟩) = true := by
  have hE := okT_E0
  obtain ⟨k, nm, ve, bo, de, ho, cl, si, go, mo, ke, wa, zo, no, ca, vo, so, ph, nu, ta⟩ := p
  dsimp only at hk
  subst hk
  have hm : mo ≠ 0 := by
    intro e
    subst e
    simp [rightB, bareO, kindB, claimB, textsB, modeB] at h
  simp [rightB, bareO, kindB, claimB, textsB, ph3] at h
  have h0 : si ≠ 0 := by simp_all
  simp [rightB, bareO, kindB, volumeB, textsB, ph4, defO, hm, h0]
  simp_all
theorem digs_isN (n : Int) : (digs n).data.toList.all isN = true := by
  have : (digs n).data.toList = Lib.decDigits n.toNat := by unfold digs; simp
  rw [this, Lib.decDigits_eq, List.all_eq_true]
  intro x hx
  obtain ⟨t, -, rfl⟩ := List.mem_map.1 hx
  rw [isN_iff]
  unfold Lib.dg
  rw [UInt8.toNat_ofNat']
  omega
theorem ref_name {o : Obj} (h : nameB o.name.data.toList = true) (hh : handleN o ≠ E0) : nameB (refN o).data.toList = true ∧ nameB (handleN o).data.toList = true := by
  have hr : refN o ≠ E0 := fun e => hh (by unfold handleN; rw [if_pos e])
  have he : handleN o = pvc ++ refN o := by unfold handleN; rw [if_neg hr]
  have hb : refN o = bornN o ∧ (bornN o).size ≤ 36 := by
    unfold refN at hr ⊢
    split at hr
    · exact absurd rfl hr
    · rw [if_neg (by omega)]
      exact ⟨rfl, by omega⟩
  have hs := born_size o
  have hn := nameB_le h
  have ha : (bornN o).data.toList.all isN = true := by
    have h2 := h
    unfold nameB at h2
    simp only [Bool.and_eq_true] at h2
    unfold bornN
    rw [ByteArray.data_append, ByteArray.data_append, Array.toList_append, Array.toList_append, List.all_append, List.all_append, h2.2, digs_isN]
    rfl
  have hz : (bornN o).data.toList.length = (bornN o).size := size_list _
  refine ⟨?_, ?_⟩
  · rw [hb.1]
    unfold nameB
    rw [ha, hz, decide_eq_true (by omega), decide_eq_true (by omega)]
    rfl
  · rw [he, hb.1]
    unfold nameB
    rw [ByteArray.data_append, Array.toList_append, List.all_append, ha, List.length_append, hz, show pvc.data.toList.length = 4 from rfl, decide_eq_true (by omega), decide_eq_true (by omega)]
    rfl
theorem step_or (fits : Obj → Bool) (less : Obj → Obj → Bool) (b : Option Obj) (x : Obj) : stepL fits less b x = some x ∨ stepL fits less b x = b := by
  unfold stepL
  by_cases h : (fits x && (match b with | none => true | some b => less x b)) = true
  · exact .inl (if_pos h)
  · exact .inr (if_neg h)
theorem least_from (fits : Obj → Bool) (less : Obj → Obj → Bool) (l : List Obj) (v : Obj) (h : leastL fits less l = some v) : v ∈ l := by
  have : ∀ (l : List Obj) (b : Option Obj), l.foldl (stepL fits less) b = some v → v ∈ l ∨ b = some v := by
    intro l
    induction l with
    | nil => intro b h; exact .inr h
    | cons x l ih =>
      intro b h
      rcases ih _ h with h1 | h1
      · exact .inl (List.mem_cons_of_mem _ h1)
      · rcases step_or fits less b x with h2 | h2
        · rw [h2] at h1
          cases h1
          exact .inl List.mem_cons_self
        · rw [h2] at h1
          exact .inr h1
  rcases this l none h with h1 | h1
  · exact h1
  · cases h1
theorem zone_ok {l : List Obj} (h : AllR l) (c : Obj) : okT (zoneN l c) = true := by
  unfold zoneN
  cases hk : getL l 1 c.cls with
  | none => exact okT_E0
  | some k =>
    dsimp only
    cases hn : nodeN l c with
    | some n =>
      dsimp only
      unfold nodeN at hn
      split at hn
      · cases hn
      · exact (rightB_parts (h.get hn)).2.2.1
    | none =>
      dsimp only
      split
      · exact okT_E0
      · exact (rightB_parts (h.get hk)).2.2.1
/-- What is written is right. -/
def WR (a : Ac) : Prop := a.act ≠ 1 ∨ a.act = 1 ∧ rightB a.obj = true
theorem WR.none : WR nothing := .inl (by show (0 : Int) ≠ 1; decide)
theorem WR.ask (c : Cl) : WR (askA c) := .inl (by show (3 : Int) ≠ 1; decide)
theorem WR.remove (o : Obj) : WR (removeA o) := .inl (by show (2 : Int) ≠ 1; decide)
theorem WR.write {o : Obj} (h : rightB o = true) : WR (writeA o) := .inr ⟨rfl, h⟩
theorem claimN_right (l : List Obj) (ver : Int) (n : ByteArray) (h : AllR l) : WR (claimN l ver n) := by
  unfold claimN
  cases hg : getL l 3 n with
  | none => exact WR.none
  | some c =>
    dsimp only
    have kc := get_kind hg
    have rc := h.get hg
    by_cases hh : handleN c = E0
    · rw [if_pos hh]; exact WR.none
    rw [if_neg hh]
    obtain ⟨nr, nh⟩ := ref_name (rightB_parts rc).1 hh
    by_cases h3 : c.phase = 3
    · rw [if_pos h3]
      unfold letN
      split
      · exact WR.none
      · exact WR.remove _
    rw [if_neg h3]
    cases hv : volN l c with
    | some v =>
      dsimp only
      have hm := there_mem (least_from _ _ _ _ hv)
      have rv := rightB_parts (h v hm.1)
      obtain ⟨o1, o2⟩ := okT_name rv.1
      exact WR.write (right_take c v.name v.zone v.got kc rc o1 o2 rv.2.2.1 rv.2.2.2.2.2.1)
    | none =>
      dsimp only
      split
      · unfold offN
        split
        · exact WR.remove _
        · split
          · rename_i h2
            exact WR.write (right_off c _ kc rc h2)
          · exact WR.ask _
      · split
        · unfold makeN
          split
          · exact WR.ask _
          · split
            · exact WR.none
            · exact WR.ask _
        · split
          · rename_i h1
            unfold beginN
            cases hb : bestN l c with
            | some v =>
              dsimp only
              have hm := there_mem (least_from _ _ _ _ hb)
              obtain ⟨o1, o2⟩ := okT_name nr
              exact WR.write (right_bind v (refN c) hm.2 (h v hm.1) o1 o2)
            | none =>
              dsimp only
              split
              · exact WR.none
              · split
                · exact WR.write (right_creat c _ _ kc rc h1 (zone_ok h c))
                · exact WR.none
          · exact WR.none
theorem volumeN_right (l : List Obj) (ver : Int) (n : ByteArray) (h : AllR l) : WR (volumeN l ver n) := by
  unfold volumeN
  cases hg : getL l 4 n with
  | none => exact WR.none
  | some v =>
    dsimp only
    have kv := get_kind hg
    have rv := h.get hg
    split
    · exact WR.write (right_erasing v _ kv rv)
    · split
      · rename_i h3
        unfold givenN
        split
        · exact WR.write (right_given v kv rv h3.1)
        · exact WR.write (right_erasing v _ kv rv)
      · split
        · exact WR.ask _
        · exact WR.none
theorem afterB_right (l : List Obj) (ver k : Int) (n : ByteArray) (c : Cl) (r : Rs) (h : AllR l) (hz : c.zone ≠ E0) (hs : r.size = c.size) (hrz : r.zone = c.zone) : WR (afterB l ver k n c r) := by
  unfold afterB
  by_cases hn : nextB l ver k n = askA c
  · rw [if_pos hn]
    unfold nextB at hn
    by_cases h3 : k = 3
    · rw [if_pos h3] at hn
      subst h3
      obtain ⟨o, ho, hh, ht, hv | hv⟩ := claim_asks hn
      · obtain ⟨v1, p2, z, s⟩ := hv
        have kc := get_kind ho
        have rc := h.get ho
        obtain ⟨nr, nh⟩ := ref_name (rightB_parts rc).1 hh
        have hf : forN l 3 n = o := by unfold forN; rw [ho]; rfl
        rw [hf]
        unfold behindB
        rw [if_pos v1]
        unfold createdN
        split
        · obtain ⟨o1, o2⟩ := okT_name nr
          have hze : emp r.zone = false := by
            unfold emp
            rw [decide_eq_false_iff_not]
            intro e
            refine hz ?_
            rw [← hrz]
            exact ba_ext e
          unfold madeN rawN
          rw [hs, s]
          exact WR.write (right_made o (handleN o) (refN o) _ r.zone kc rc nh o1 o2 (by rw [hrz, z]; exact (rightB_parts rc).2.2.1) hze)
        · split
          · exact WR.none
          · split
            · exact WR.write (right_num o _ kc rc)
            · unfold backN
              refine WR.write (right_back o _ _ kc rc p2 ?_)
              split
              · exact okT_E0
              · exact (rightB_parts rc).2.2.2.1
      · exact absurd hv.2 hz
    · rw [if_neg h3] at hn
      by_cases h4 : k = 4
      · rw [if_pos h4] at hn
        exact absurd (volume_asks hn).2 hz
      · rw [if_neg h4] at hn
        exact absurd hn (nothing_ne c)
  · rw [if_neg hn]
    exact WR.none
end Go.Proofs.YtfpdchabknoklaaDoor.O.B
namespace Go.Proofs.YtfpdchabknoklaaDoor.O.B
open Go Go.RowKit Go.Shelf Go.Lib RangeMap KM
attribute [local go_sem] Oper.semAt_some

theorem fit_right {o : Obj} (h : rightB o = true) : Fit o := by
  unfold rightB textsB at h
  simp only [Bool.and_eq_true] at h
  obtain ⟨h0, -, ⟨h1, h2, h3, h4, h5, h6⟩, -⟩ := h
  have := (nameB_le h0).2
  have := okT_le h1
  have := okT_le h2
  have := okT_le h3
  have := okT_le h4
  have := okT_le h5
  have := okT_le h6
  constructor <;> omega
theorem obj_of_act {W : World} {b : Nat} {x : Ac} (h : BoxA W b x) : W.rangeAt b 1 (cellsO x.obj).toList := fun j u hu => by
  have hj : j < 20 := (List.getElem?_eq_some_iff.1 hu).1
  rw [cell_of_row W b (1 + j) _ _ _ h]
  have e : (cellsA x)[1 + j]? = (cellsO x.obj)[j]? := by
    have : ∀ k : Fin 20, (cellsA x)[1 + k.val]? = (cellsO x.obj)[k.val]? := by
      intro ⟨k, hk⟩
      rcases k with _|_|_|_|_|_|_|_|_|_|_|_|_|_|_|_|_|_|_|_|k <;> first | rfl | omega
    exact this ⟨j, hj⟩
  rw [e, ← Array.getElem?_toList]
  exact hu
theorem makes_act {oi : Oper} (ho : oi.op = .alloc 36) : HeldBy.Makes Tryd.prog oi (.cells (cellsA nothing) 36 (0, 0)) := by
  intro a w
  unfold execOp
  simp only [ho]
  kernel_rfl
theorem with_act {P : Program} {ops : Array Oper} {Q : Exit → Act → World → Prop} {md : Region.Mode} {S : World → Prop} {fuel : Nat} {L : Array Bool} {a : Act} {w : World} (h : ∀ a0, a0 = a → wpAnyH P md ops Q S fuel L a0 w) : wpAnyH P md ops Q S fuel L a w := h a rfl
def RightA (l : List Obj) (e : Ending) : Prop := ∃ b, e = .returned (.bool b) ∧ (b = true → AllR l)

set_option maxRecDepth 100000 in
set_option maxHeartbeats 4000000 in
theorem right12_any (l : List Obj) (v : Value) (w : World) (hl : ObjsIn w v l) (hfit : ∀ o ∈ l, Fit o) :
    Calls Tryd.prog 13 #[v] w fun e w' => RightA l e ∧ Below w.heap.size w w' := by
  obtain ⟨o, cp, rfl, hm, -⟩ := id hl
  have HL := Lib.hid hl
  have HFIT := Lib.hid hfit
  clear hl hfit
  go_enter Tryd.func13, Tryd.ntmps13
  go_wp2_with (fail)
  go_loopw [3] (fun i wr => ∃ j : Nat, i = .int .i64 (j : Int) ∧ j ≤ l.length ∧ Hid (AllR (l.take j)) ∧ Below w.heap.size w wr) (fun i _ => l.length - (RowKit.intOf i).toNat)
  case atStart => exact ⟨0, rfl, Nat.zero_le _, by show AllR _; intro o ho; simp at ho, Below.refl _ _⟩
  case round =>
    obtain ⟨j, rfl, hj, hR, hlow⟩ := hrel
    have HLOW := Lib.hid hlow
    clear hlow
    by_cases hlt : j < l.length
    · have hlt' : (j : Int) < (l.length : Int) := by omega
      have hobj := HL.out.after HLOW.out
      obtain ⟨o', c', he, -, hi⟩ := id hobj
      cases he
      obtain ⟨g, off, rfl, -, hrow⟩ := hi j hlt
      obtain ⟨x, hx⟩ : ∃ x, l[j] = x := ⟨_, rfl⟩
      rw [hx] at hrow
      have HROW := Lib.hid hrow
      have hfx := HFIT.out l[j] (List.getElem_mem hlt)
      rw [hx] at hfx
      have HRX := Lib.hid (fun V => refRight_any x V hfx)
      have HNX : Hid (rightB x = true → AllR (l.take (j + 1))) := by
        show _ → _
        intro hr o ho
        rw [List.take_succ_eq_append_getElem hlt, List.mem_append] at ho
        rcases ho with ho | ho
        · exact hR.out o ho
        · have : o = x := by simpa [hx] using ho
          rw [this]
          exact hr
      obtain ⟨rb, hrb⟩ : ∃ rb, rightB x = rb := ⟨_, rfl⟩
      rw [hrb] at HRX HNX
      clear hi hx hrow hfx hobj hrb hR
      go_wp2_with (refine wpList_got rfl (load_mid HROW.out rfl rfl) ?_)
      refine (HRX.out _).mono ?_
      rintro e W2 ⟨rfl, hb2⟩
      have HW := Lib.hid (HLOW.out.trans (hb2.mono HLOW.out.size))
      clear hb2 HLOW HRX HROW
      cases rb with
      | false =>
        clear HNX
        go_wp2
        go_ret
        exact ⟨⟨_, rfl, fun h => by cases h⟩, HW.out⟩
      | true =>
        have HN := Lib.hid (HNX.out rfl)
        clear HNX
        go_wp2
        go_roundw
        case rel => exact ⟨j + 1, by go_num, by omega, HN, HW.out⟩
        case measure => simp [RowKit.intOf]; omega
    · have hlt' : ¬ (j : Int) < (l.length : Int) := by omega
      have HRR : Hid (AllR l) := by
        show AllR l
        have h := hR.out
        rw [List.take_of_length_le (by omega)] at h
        exact h
      clear hR
      go_wp2
      go_ret
      exact ⟨⟨_, rfl, fun _ => HRR.out⟩, HLOW.out⟩

theorem one_cellsR (r : Rs) : (#[Value.int .i64 r.err, .int .i64 r.size, .string r.zone, .int .u64 r.tag]).all (·.oneCell') = true := by simp [Value.oneCell']
def R0 : Rs := ⟨0, 0, E0, 0⟩
theorem resulting {W : World} {b : Nat} {p : Rs} (h : BoxR W b p) (x : Rs) : ∃ V, (∀ {oi : Oper} {a : Act} {r q : Operand}, oi.op = .store 43 r q → a.eval r = .pointer (some ⟨b, 0, none⟩) → a.eval q = encR x → (execOp a.eval oi).run Tryd.prog W = .ok .skip V) ∧
    BoxR V b x ∧ (∀ g, g ≠ b → V.heap[g]? = W.heap[g]?) ∧ (∀ B A, Below B A W → B ≤ b → Below B A V) :=
  ⟨W.setRow b #[.int .i64 x.err, .int .i64 x.size, .string x.zone, .int .u64 x.tag], fun {oi a r q} ho hx hy => by
    have h1 := run_storeVar_row (P := Tryd.prog) W b 43 43 _ #[.int .i64 x.err, .int .i64 x.size, .string x.zone, .int .u64 x.tag] h sizeRes' rfl (one_cellsR x)
    unfold execOp
    have hy' : a.eval q = .agg #[.int .i64 x.err, .int .i64 x.size, .string x.zone, .int .u64 x.tag] := hy
    simp [ho, hx, hy', Instr.storeAt, Instr.sureAddr, h1, Result.andThen], setRow_heap W b _ _ _ _ h, fun g hg => setRow_other W b g _ hg, fun _ _ h1 h2 => below_setRow h1 h2 _⟩
theorem BoxC.s3 {W : World} {b : Nat} {c : Cl} (h : BoxC W b c) : W.cell? ⟨b, 3, none⟩ = some (.int .i64 c.size) ∧ W.cell? ⟨b, 4, none⟩ = some (.string c.zone) := ⟨(cell_of_row W b 3 _ _ _ h).trans rfl, (cell_of_row W b 4 _ _ _ h).trans rfl⟩
theorem BoxR.put1 {W : World} {b : Nat} {r : Rs} (h : BoxR W b r) (v : Int) : BoxR (W.setCell ⟨b, 1, none⟩ (.int .i64 v)) b { r with size := v } := by
  have := heap_setCell_same W b 1 _ _ (.int .i64 v) h
  exact this.trans rfl
theorem BoxR.put2 {W : World} {b : Nat} {r : Rs} (h : BoxR W b r) (v : ByteArray) : BoxR (W.setCell ⟨b, 2, none⟩ (.string v)) b { r with zone := v } := by
  have := heap_setCell_same W b 2 _ _ (.string v) h
  exact this.trans rfl
theorem BoxR.free {W : World} {b : Nat} {r : Rs} (h : BoxR W b r) (i : Nat) : W.frozen? ⟨b, i, none⟩ = false := frozen_of_row W b i _ _ h
def flR7 : HeldBy.Fl := ⟨12, some 7, .cells (cellsA nothing) 36 (0, 0), HeldBy.ptr⟩
def flR8 : HeldBy.Fl := ⟨13, some 8, .cells (cellsA nothing) 36 (0, 0), HeldBy.ptr⟩
/-- What is written behind a call with a zone is right. -/
def WZ (z : ByteArray) (a : Ac) : Prop := a.act ≠ 1 ∨ a.act = 1 ∧ (z = E0 ∨ rightB a.obj = true)

set_option maxRecDepth 100000 in
set_option maxHeartbeats 8000000 in
theorem bindRight_any (l : List Obj) (v : Value) (ver : Int) (y : Rep) (w : World) (hl : ObjsIn w v l) (hcp : ∀ o n c, v = .slice o n c → n ≤ c) (ht : Tab w) (hall : ∀ s ∈ l, (0 ≤ s.born ∧ s.born ≤ 18446744073709551615) ∧ s.name.size ≤ 140737488351232) (hfit : ∀ o ∈ l, Fit o) :
    Calls Tryd.prog 5 #[v, .int .u64 ver, encY y] w fun e w' => e = .returned (.bool true) ∧ Below w.heap.size w w' := by
  have HT0 := Lib.hid ht
  have HFF := Lib.hid (fun V (hV : ObjsIn V v l) => few12_any l v V hV hcp)
  have HL0 := Lib.hid hl
  obtain ⟨o, cp, rfl, -, -⟩ := id hl
  have hq : (l.take 24).length < 100000 := by rw [List.length_take]; omega
  have hall2 : ∀ s ∈ l.take 24, (0 ≤ s.born ∧ s.born ≤ 18446744073709551615) ∧ s.name.size ≤ 140737488351232 := fun s hs => hall s (List.mem_of_mem_take hs)
  have hfit2 : ∀ s ∈ l.take 24, Fit s := fun s hs => hfit s (List.mem_of_mem_take hs)
  clear ht hl hcp hall hfit
  have HYE : Hid (encY y = .agg (cellsY y)) := rfl
  rw [HYE.out]
  unfold cellsY
  go_enter Tryd.func5, Tryd.ntmps5
  go_upto_region 1 with (fail)
  refine wp_gen (fun V => BoxY V w.heap.size y ∧ Below w.heap.size w V) ⟨heap_alloc_new _ _, (Below.refl _ _).alloc (Nat.le_refl _) _⟩ ?_
  rintro V ⟨hy, hlw⟩
  have HF := Lib.hid (HFF.out V (HL0.out.after hlw))
  have HY := Lib.hid hy
  have HW := Lib.hid hlw
  have HT := Lib.hid (HT0.out.after hlw)
  clear hy hlw HFF HL0 HT0 HYE
  go_wp2_with (fail)
  refine HF.out.mono ?_
  rintro e W1 ⟨v1, rfl, hl1, hww⟩
  subst hww
  clear HF
  generalize l.take 24 = q at *
  obtain ⟨o1, c1, rfl, -, -⟩ := id hl1
  have HL := Lib.hid hl1
  have HRR := Lib.hid (right12_any q _ W1 hl1 hfit2)
  have HAK := Lib.hid (fun V (hV : ObjsIn V (.slice o1 q.length c1) q) (hT : Tab V) => askedY_any q _ ver y V hV hq hT hall2)
  have HCL := Lib.hid (fun V (hV : ObjsIn V (.slice o1 q.length c1) q) (hT : Tab V) => claim_any q _ ver y.n V hV hT hall2)
  have HVO := Lib.hid (fun V (hV : ObjsIn V (.slice o1 q.length c1) q) (hT : Tab V) => volume_any q _ ver y.n V hV hT hall2)
  have HAF := Lib.hid (fun (c : Cl) (r : Rs) V (hV : ObjsIn V (.slice o1 q.length c1) q) (hT : Tab V) => afterB_any q _ ver y.k y.n c r V hV hT hall2)
  have HLV := Lib.hid (fun V (hT : Tab V) => live_any V hT)
  clear hl1 hq hall2 hfit2
  go_wp2_with (fail)
  refine HRR.out.mono ?_
  rintro e W2 ⟨⟨rb, rfl, hrb⟩, hb2⟩
  have HRB := Lib.hid hrb
  have HN := Lib.hid (HW.out.trans (hb2.mono HW.out.size))
  replace HY := Lib.hid (HY.out.after hb2)
  replace HL := Lib.hid (HL.out.after hb2)
  replace HT := Lib.hid (HT.out.after hb2)
  replace HW := Lib.hid HN.out
  clear hrb hb2 HRR HN
  cases rb with
  | false =>
    clear HRB HAK HCL HVO HAF HL HY
    have HV := Lib.hid (HLV.out _ HT.out)
    go_wp2_with (fail)
    refine HV.out.mono ?_
    rintro e W3 ⟨rfl, hb3⟩
    have HX := Lib.hid (HW.out.trans (hb3.mono HW.out.size))
    clear hb3 HV HW HT HLV
    go_wp2
    go_ret
    exact ⟨rfl, HX.out⟩
  | true =>
    have hR := HRB.out rfl
    clear HRB
    have hca := claimN_right q ver y.n hR
    have hcb := volumeN_right q ver y.n hR
    obtain ⟨A, hA⟩ : ∃ A, claimN q ver y.n = A := ⟨_, rfl⟩
    obtain ⟨B, hB⟩ : ∃ B, volumeN q ver y.n = B := ⟨_, rfl⟩
    obtain ⟨c, hc⟩ : ∃ c, askedY q ver y = c := ⟨_, rfl⟩
    rw [hA] at HCL hca
    rw [hB] at HVO hcb
    rw [hc] at HAK
    have HCA := Lib.hid hca
    have HCB := Lib.hid hcb
    have hD : WZ c.zone (afterB q ver y.k y.n c { y.r with size := c.size, zone := c.zone }) := by
      by_cases hz : c.zone = E0
      · by_cases h1 : (afterB q ver y.k y.n c { y.r with size := c.size, zone := c.zone }).act = 1
        · exact .inr ⟨h1, .inl hz⟩
        · exact .inl h1
      · rcases afterB_right q ver y.k y.n c { y.r with size := c.size, zone := c.zone } hR hz rfl rfl with h | h
        · exact .inl h
        · exact .inr ⟨h.1, .inr h.2⟩
    have HDD := Lib.hid (HAF.out c { y.r with size := c.size, zone := c.zone })
    obtain ⟨D, hDD⟩ : ∃ D, afterB q ver y.k y.n c { y.r with size := c.size, zone := c.zone } = D := ⟨_, rfl⟩
    rw [hDD] at HDD hD
    have HCD := Lib.hid hD
    clear hca hcb hA hB hc hD hDD hR HAF
    go_upto_region 4 with (fail)
    refine wp_region_held_drew (S := fun V => BoxY V w.heap.size y ∧ ObjsIn V (.slice o1 q.length c1) q ∧ Below w.heap.size w V ∧ Tab V) (by kernel_rfl) ⟨HY.out, HL.out, HW.out.drew, HT.out.drew⟩ (fun _ => ?_)
    refine HeldBy.gen (fun V => BoxY V w.heap.size y ∧ ObjsIn V (.slice o1 q.length c1) q ∧ Below w.heap.size w V ∧ Tab V) ⟨HY.out, HL.out, HW.out.drew, HT.out.drew⟩ ?_
    clear HY HL HW HT
    rintro U0 HS
    refine HeldBy.take (i := 0) rfl (by kernel_rfl) (by kernel_rfl) (by kernel_rfl) (fun _ _ _ h => h) (by rfl) (fun _ _ => by first | (go_simp; rfl) | (go_simp; done)) (by first | (go_simp; rfl) | (go_simp; done)) HS ?_
    refine HeldBy.take (i := 1) rfl (by kernel_rfl) (by kernel_rfl) (by kernel_rfl) (fun _ _ _ h => h) (by rfl) (fun _ _ => by first | (go_simp; rfl) | (go_simp; done)) (by first | (go_simp; rfl) | (go_simp; done)) HS ?_
    refine HeldBy.take (i := 2) rfl (by kernel_rfl) (by kernel_rfl) (by kernel_rfl) (fun _ _ _ h => h) (by rfl) (fun _ _ => by first | (go_simp; rfl) | (go_simp; done)) (by first | (go_simp; rfl) | (go_simp; done)) HS ?_
    refine HeldBy.take (i := 3) rfl (by kernel_rfl) (by kernel_rfl) (by kernel_rfl) (fun _ _ _ h => h) (by rfl) (fun _ _ => by first | (go_simp; rfl) | (go_simp; done)) (by first | (go_simp; rfl) | (go_simp; done)) HS ?_
    refine HeldBy.take (i := 4) (v := .string y.n) rfl (by kernel_rfl) (by kernel_rfl) (by kernel_rfl) (fun _ _ _ h => h) (by rfl) (fun V hV => by have h1 := hV.1.cells.2.1; first | (go_simp; rfl) | (go_simp; done)) (by first | (go_simp; rfl) | (go_simp; done)) HS ?_
    refine HeldBy.take (i := 6) rfl (by kernel_rfl) (by kernel_rfl) (by kernel_rfl) (fun _ _ _ h => h) (by rfl) (fun _ _ => by first | (go_simp; rfl) | (go_simp; done)) (by first | (go_simp; rfl) | (go_simp; done)) HS ?_
    refine HeldBy.take (i := 7) rfl (by kernel_rfl) (by kernel_rfl) (by kernel_rfl) (fun _ _ _ h => h) (by rfl) (fun _ _ => by first | (go_simp; rfl) | (go_simp; done)) (by first | (go_simp; rfl) | (go_simp; done)) HS ?_
    refine HeldBy.take (i := 8) rfl (by kernel_rfl) (by kernel_rfl) (by kernel_rfl) (fun _ _ _ h => h) (by rfl) (fun _ _ => by first | (go_simp; rfl) | (go_simp; done)) (by first | (go_simp; rfl) | (go_simp; done)) HS ?_
    refine HeldBy.take (i := 9) rfl (by kernel_rfl) (by kernel_rfl) (by kernel_rfl) (fun _ _ _ h => h) (by rfl) (fun _ _ => by first | (go_simp; rfl) | (go_simp; done)) (by first | (go_simp; rfl) | (go_simp; done)) HS ?_
    refine HeldBy.take (i := 10) (v := .string y.n) rfl (by kernel_rfl) (by kernel_rfl) (by kernel_rfl) (fun _ _ _ h => h) (by rfl) (fun V hV => by have h1 := hV.1.cells.2.1; first | (go_simp; rfl) | (go_simp; done)) (by first | (go_simp; rfl) | (go_simp; done)) HS ?_
    have HSS : ∀ V, Below U0.heap.size U0 V → (BoxY V w.heap.size y ∧ ObjsIn V (.slice o1 q.length c1) q ∧ Below w.heap.size w V ∧ Tab V) := fun V hb => ⟨HS.1.after hb, HS.2.1.after hb, HS.2.2.1.trans (hb.mono HS.2.2.1.size), HS.2.2.2.after hb⟩
    refine with_act (fun a0 ha0 => ?_)
    refine HeldBy.Flow2.bare (R := U0.heap.size) (f := flR7) (g := flR8) (A := fun a w => a = a0 ∧ Below U0.heap.size U0 w) ?_ a0 U0 ⟨rfl, Below.refl _ _⟩
    refine HeldBy.Flow2.step (i := 5) (A' := fun a w => a = a0.put (some 23) (encA A) ∧ Below U0.heap.size U0 w)
      rfl rfl rfl rfl rfl rfl rfl rfl rfl (by kernel_rfl) (by kernel_rfl) (by kernel_rfl) (by kernel_rfl) (by show (5 : Nat) ≠ 12; decide) (by show (5 : Nat) ≠ 13; decide) (by show (12 : Nat) ≠ 13; decide) rfl rfl (by kernel_rfl) (by kernel_rfl) (by kernel_rfl) (by kernel_rfl)
      (fun a w _ => makes_act rfl a w) (fun a w _ => makes_act rfl a w) (fun a w z h => ⟨h.1, h.2.alloc h.2.size z⟩) (fun a w h => HSS w h.2) (fun a w h => HSS w h.2) (fun a w h => h.2.size) ?s5 ?_
    case s5 =>
      rintro a V ⟨ha, hb⟩
      subst ha
      refine .inr ⟨8, #[.slice o1 q.length c1, .int .u64 ver, .string y.n], ?_, (HCL.out V (HSS V hb).2.1 (HSS V hb).2.2.2).mono ?_⟩
      · rw [ha0]
        first | (go_simp; done) | (go_simp; first | exact ⟨rfl, rfl⟩ | rfl)
      · rintro e V' ⟨rfl, hb'⟩
        exact ⟨_, rfl, ⟨rfl, hb.trans (hb'.mono hb.size)⟩, fun p' hp' hx' => (hb'.block p' (Array.getElem?_eq_some_iff.1 hx').1).trans hx', fun p' hp' hx' => (hb'.block p' (Array.getElem?_eq_some_iff.1 hx').1).trans hx'⟩
    refine HeldBy.Flow2.step (i := 11) (A' := fun a w => a = (a0.put (some 23) (encA A)).put (some 29) (encA B) ∧ Below U0.heap.size U0 w)
      rfl rfl rfl rfl rfl rfl rfl rfl rfl (by kernel_rfl) (by kernel_rfl) (by kernel_rfl) (by kernel_rfl) (by show (11 : Nat) ≠ 12; decide) (by show (11 : Nat) ≠ 13; decide) (by show (12 : Nat) ≠ 13; decide) rfl rfl (by kernel_rfl) (by kernel_rfl) (by kernel_rfl) (by kernel_rfl)
      (fun a w _ => makes_act rfl a w) (fun a w _ => makes_act rfl a w) (fun a w z h => ⟨h.1, h.2.alloc h.2.size z⟩) (fun a w h => HSS w h.2) (fun a w h => HSS w h.2) (fun a w h => h.2.size) ?s11 ?_
    case s11 =>
      rintro a V ⟨ha, hb⟩
      subst ha
      refine .inr ⟨14, #[.slice o1 q.length c1, .int .u64 ver, .string y.n], ?_, (HVO.out V (HSS V hb).2.1 (HSS V hb).2.2.2).mono ?_⟩
      · rw [ha0]
        first | (go_simp; done) | (go_simp; first | exact ⟨rfl, rfl⟩ | rfl)
      · rintro e V' ⟨rfl, hb'⟩
        exact ⟨_, rfl, ⟨rfl, hb.trans (hb'.mono hb.size)⟩, fun p' hp' hx' => (hb'.block p' (Array.getElem?_eq_some_iff.1 hx').1).trans hx', fun p' hp' hx' => (hb'.block p' (Array.getElem?_eq_some_iff.1 hx').1).trans hx'⟩
    refine HeldBy.Flow2.nil rfl rfl rfl rfl rfl rfl (by kernel_rfl) (by kernel_rfl) (by kernel_rfl) (by show (12 : Nat) ≠ 13; decide) rfl rfl (by kernel_rfl) (by kernel_rfl) (fun a w _ => makes_act rfl a w) (fun a w _ => makes_act rfl a w) (fun a w z h => ⟨h.1, h.2.alloc h.2.size z⟩) (fun a w h => HSS w h.2) (fun a w h => h.2.size) ?_
    rintro a W3 p p2 ⟨ha, hb⟩ hp hp2 hne hx hx2
    subst ha
    obtain ⟨V7, s7, b7, o7, l7⟩ := acting (show BoxA W3 p nothing from hx) A
    have hV7 := l7 _ _ hb hp
    obtain ⟨V8, s8, b8, o8, l8⟩ := acting (show BoxA V7 p2 nothing from (o7 p2 (fun e => hne e.symm)).trans hx2) B
    have hV8 := l8 _ _ hV7 hp2
    rw [ha0]
    refine HeldBy.store (i := 14) (w' := V7) rfl (by kernel_rfl) (by rfl) (s7 rfl rfl rfl) (by unfold flR7 flR8 HeldBy.ptr; go_simp; rfl) (HSS V7 hV7) ?_
    refine HeldBy.store (i := 15) (w' := V8) rfl (by kernel_rfl) (by rfl) (s8 rfl rfl rfl) (by go_simp; rfl) (HSS V8 hV8) ?_
    refine wpAnyH_done (by kernel_rfl) ?_ _
    have hP : Hid (w.heap.size < p) := Nat.lt_of_lt_of_le HS.1.lt hp
    have HBA := Lib.hid (show BoxA V8 p A from (o8 p hne).trans b7)
    have HBB := Lib.hid b8
    obtain ⟨hy8, hl8, hw8, ht8⟩ := HSS V8 hV8
    replace HL := Lib.hid hl8
    replace HT := Lib.hid ht8
    have HY := Lib.hid hy8
    have HW := Lib.hid hw8
    have HK := Lib.hid (HAK.out V8 hl8 ht8)
    have hyb := HY.out
    clear hy8 hl8 hw8 ht8 hx hx2 hp hp2 hne hb s7 b7 o7 l7 hV7 s8 b8 o8 l8 hV8 HSS HS ha0 HAK HCL HVO
    go_wp2_with (refine wpList_got rfl (load_rep hyb rfl rfl) ?_)
    refine HK.out.mono ?_
    rintro e W4 ⟨rfl, hb4⟩
    obtain ⟨V5, hs5, hc5, -, hb5⟩ := calling (show BoxC (W4.alloc (.cells (cellsC N0) 34 (0, 0))) W4.heap.size N0 from heap_alloc_new _ _) c
    have hbel : Below W4.heap.size W4 V5 := hb5 _ _ ((Below.refl _ _).alloc (Nat.le_refl _) _) (Nat.le_refl _)
    have hw4 := HW.out.trans (hb4.mono HW.out.size)
    have hw5 := hw4.trans (hbel.mono hw4.size)
    obtain ⟨V6, hs6, hr6, ho6, hb6⟩ := resulting (show BoxR (V5.alloc (.cells #[.int .i64 R0.err, .int .i64 R0.size, .string R0.zone, .int .u64 R0.tag] 43 (0, 0))) V5.heap.size R0 from heap_alloc_new _ _) y.r
    have hbe6 : Below V5.heap.size V5 V6 := hb6 _ _ ((Below.refl _ _).alloc (Nat.le_refl _) _) (Nat.le_refl _)
    have hyb5 := (HY.out.after hb4).after hbel
    replace HY := Lib.hid hyb5
    replace HBA := Lib.hid ((HBA.out.after hb4).after hbel)
    replace HBB := Lib.hid ((HBB.out.after hb4).after hbel)
    replace HL := Lib.hid ((HL.out.after hb4).after hbel)
    replace HW := Lib.hid hw5
    replace HT := Lib.hid ((HT.out.after hb4).after hbel)
    have HC5 := Lib.hid hc5
    have HC := Lib.hid (hc5.after hbe6)
    have HR := Lib.hid hr6
    have HB6 := Lib.hid hbe6
    clear hyb HK hb4 hb5 hw4 hr6 ho6 hb6 hw5 hc5 hbe6 hbel
    go_upto_region 7 with (first | (refine wpList_skip rfl (hs5 rfl rfl rfl) ?_) | (refine wpList_got rfl (load_resAt hyb5 rfl rfl) ?_) | (refine wpList_skip rfl (hs6 rfl rfl rfl) ?_))
    clear hs5 hs6 hyb5
    refine wp_region_held_drew (S := fun V => BoxC V W4.heap.size c) (by kernel_rfl) HC.out (fun _ => ?_)
    refine HeldBy.gen (fun V => (BoxC V W4.heap.size c) ∧ (BoxR V V5.heap.size y.r) ∧ (Below V5.heap.size V5 V)) ⟨HC.out, HR.out, HB6.out.drew⟩ ?_
    clear HC HR HB6
    rintro U0 ⟨HS, HR, HB6⟩
    refine HeldBy.take (i := 0) rfl (by kernel_rfl) (by kernel_rfl) (by kernel_rfl) (fun _ _ _ h => h) (by rfl) (fun _ _ => by first | (go_simp; rfl) | (go_simp; done)) (by first | (go_simp; rfl) | (go_simp; done)) HS ?_
    refine HeldBy.take (i := 1) (v := .int .i64 c.size) rfl (by kernel_rfl) (by kernel_rfl) (by kernel_rfl) (fun _ _ _ h => h) (by rfl) (fun V hV => by have h1 := hV.s3.1; first | (go_simp; rfl) | (go_simp; done)) (by first | (go_simp; rfl) | (go_simp; done)) HS ?_
    refine HeldBy.take (i := 2) rfl (by kernel_rfl) (by kernel_rfl) (by kernel_rfl) (fun _ _ _ h => h) (by rfl) (fun _ _ => by first | (go_simp; rfl) | (go_simp; done)) (by first | (go_simp; rfl) | (go_simp; done)) HS ?_
    refine HeldBy.take (i := 3) (v := .string c.zone) rfl (by kernel_rfl) (by kernel_rfl) (by kernel_rfl) (fun _ _ _ h => h) (by rfl) (fun V hV => by have h1 := hV.s3.2; first | (go_simp; rfl) | (go_simp; done)) (by first | (go_simp; rfl) | (go_simp; done)) HS ?_
    refine HeldBy.take (i := 4) rfl (by kernel_rfl) (by kernel_rfl) (by kernel_rfl) (fun _ _ _ h => h) (by rfl) (fun _ _ => by first | (go_simp; rfl) | (go_simp; done)) (by first | (go_simp; rfl) | (go_simp; done)) HS ?_
    have hNE : W4.heap.size ≠ V5.heap.size := by
      have := (Array.getElem?_eq_some_iff.1 HC5.out).1
      omega
    have hrc : U0.cell? ⟨V5.heap.size, 1, none⟩ = some (.int .i64 y.r.size) := (cell_of_row U0 _ 1 _ _ _ HR).trans rfl
    have hrf := BoxR.free HR 1
    obtain ⟨U1, hU1⟩ : ∃ V, U0.setCell ⟨V5.heap.size, 1, none⟩ (.int .i64 c.size) = V := ⟨_, rfl⟩
    have hR1 : BoxR U1 V5.heap.size { y.r with size := c.size } := by rw [← hU1]; exact HR.put1 c.size
    have hS1 : BoxC U1 W4.heap.size c := by rw [← hU1]; exact (heap_setCell_other _ ⟨V5.heap.size, 1, none⟩ W4.heap.size _ hNE).trans HS
    have hB1 : Below V5.heap.size V5 U1 := by rw [← hU1]; exact HB6.setCell (Nat.le_refl _) _
    refine HeldBy.store (i := 5) (w' := U1) rfl (by kernel_rfl) (by rfl) (by rw [← hU1]; first | (go_simp; done) | (go_simp; rfl)) (by first | (go_simp; rfl) | (go_simp; done)) hS1 ?_
    clear hU1 hrc hrf HS HR HB6
    refine HeldBy.take (i := 6) rfl (by kernel_rfl) (by kernel_rfl) (by kernel_rfl) (fun _ _ _ h => h) (by rfl) (fun V hV => by first | (go_simp; rfl) | (go_simp; done)) (by first | (go_simp; rfl) | (go_simp; done)) hS1 ?_
    have hrc : U1.cell? ⟨V5.heap.size, 2, none⟩ = some (.string y.r.zone) := (cell_of_row U1 _ 2 _ _ _ hR1).trans rfl
    have hrf := BoxR.free hR1 2
    obtain ⟨U2, hU2⟩ : ∃ V, U1.setCell ⟨V5.heap.size, 2, none⟩ (.string c.zone) = V := ⟨_, rfl⟩
    have hR2 : BoxR U2 V5.heap.size { y.r with size := c.size, zone := c.zone } := by rw [← hU2]; exact hR1.put2 c.zone
    have hS2 : BoxC U2 W4.heap.size c := by rw [← hU2]; exact (heap_setCell_other _ ⟨V5.heap.size, 2, none⟩ W4.heap.size _ hNE).trans hS1
    have hB2 : Below V5.heap.size V5 U2 := by rw [← hU2]; exact hB1.setCell (Nat.le_refl _) _
    refine HeldBy.store (i := 7) (w' := U2) rfl (by kernel_rfl) (by rfl) (by rw [← hU2]; first | (go_simp; done) | (go_simp; rfl)) (by first | (go_simp; rfl) | (go_simp; done)) hS2 ?_
    clear hU2 hrc hrf hS1 hR1 hB1
    refine wpAnyH_done (by kernel_rfl) ?_ _
    have hyb := HY.out.after hB2
    have hlw := HW.out.trans (hB2.mono HW.out.size)
    replace HBA := Lib.hid (HBA.out.after hB2)
    replace HBB := Lib.hid (HBB.out.after hB2)
    replace HW := Lib.hid hlw
    replace HT := Lib.hid (HT.out.after hB2)
    have HD := Lib.hid (HDD.out U2 (HL.out.after hB2) HT.out)
    have HC := Lib.hid hS2
    clear HDD HL HY HC5 hB2 hlw hNE
    go_wp2_with (first | (refine wpList_got rfl (load_keyAt hyb rfl rfl) ?_) | (refine wpList_got rfl (load_call hS2 rfl rfl) ?_) | (refine wpList_got rfl (load_res hR2 rfl rfl) ?_))
    refine HD.out.mono ?_
    rintro e W8 ⟨rfl, hb8⟩
    obtain ⟨V9, hs9, hd9, -, hb9⟩ := acting (show BoxA (W8.alloc (.cells (cellsA nothing) 36 (0, 0))) W8.heap.size nothing from heap_alloc_new _ _) D
    have hbel : Below W8.heap.size W8 V9 := hb9 _ _ ((Below.refl _ _).alloc (Nat.le_refl _) _) (Nat.le_refl _)
    have hw8 := HW.out.trans (hb8.mono HW.out.size)
    replace HBA := Lib.hid ((HBA.out.after hb8).after hbel)
    replace HBB := Lib.hid ((HBB.out.after hb8).after hbel)
    replace HC := Lib.hid ((HC.out.after hb8).after hbel)
    replace HT := Lib.hid ((HT.out.after hb8).after hbel)
    replace HW := Lib.hid (hw8.trans (hbel.mono hw8.size))
    have HBD := Lib.hid hd9
    have HV := Lib.hid (HLV.out V9 HT.out)
    clear HD hb8 hd9 hb9 hbel hw8 hyb hS2 hR2 HLV HT
    go_wp2_with (refine wpList_skip rfl (hs9 rfl rfl rfl) ?_)
    clear hs9
    refine HV.out.mono ?_
    rintro e X0 ⟨rfl, hbx⟩
    replace HBA := Lib.hid (HBA.out.after hbx)
    replace HBB := Lib.hid (HBB.out.after hbx)
    replace HBD := Lib.hid (HBD.out.after hbx)
    replace HC := Lib.hid (HC.out.after hbx)
    replace HW := Lib.hid (HW.out.trans (hbx.mono HW.out.size))
    clear hbx HV
    have a0 : X0.cell? ⟨p, 0, none⟩ = some (.int .u8 A.act) := HBA.out.kind
    have b0 : X0.cell? ⟨p2, 0, none⟩ = some (.int .u8 B.act) := HBB.out.kind
    have d0 : X0.cell? ⟨W8.heap.size, 0, none⟩ = some (.int .u8 D.act) := HBD.out.kind
    have z0 := HC.out.s3.2
    generalize W8.heap.size = p3 at *
    generalize W4.heap.size = p4 at *
    clear hP
    rcases HCA.out with ea | ⟨ea, rA⟩
    · have e1 : (A.act != 1) = true := by simpa using ea
      clear ea HCA
      rcases HCB.out with eb | ⟨eb, rB⟩
      · have e2 : (B.act != 1) = true := by simpa using eb
        clear eb HCB
        rcases HCD.out with ed | ⟨ed, hz⟩
        · have e3 : (D.act != 1) = true := by simpa using ed
          clear ed HCD
          go_wp2
          go_ret
          exact ⟨rfl, HW.out⟩
        · have e3 : (D.act != 1) = false := by rw [ed]; rfl
          clear ed HCD
          by_cases hze : c.zone = E0
          · have o1 : c.zone.toList = [] := (emp_iff _).2 hze
            have o2 : (c.zone.toList == []) = true := by simp [o1]
            have o3 : c.zone.toList.isEmpty = true := by simp [o1]
            clear o1 hz hze
            go_wp2
            go_ret
            exact ⟨rfl, HW.out⟩
          · have rD : rightB D.obj = true := hz.resolve_left hze
            have o1 : c.zone.toList ≠ [] := fun e => hze ((emp_iff _).1 e)
            have o2 : (c.zone.toList == []) = false := by simpa using o1
            have o3 : c.zone.toList.isEmpty = false := by simpa using o1
            clear o1 hz hze
            have HO := Lib.hid (obj_of_act HBD.out)
            have HR := Lib.hid (fun V => refRight_any D.obj V (fit_right rD))
            rw [rD] at HR
            go_wp2_with (refine wpList_got rfl (load_mid HO.out rfl rfl) ?_)
            refine (HR.out _).mono ?_
            rintro e XD ⟨rfl, hbx⟩
            clear HO HR
            replace HBA := Lib.hid (HBA.out.after hbx)
            replace HBB := Lib.hid (HBB.out.after hbx)
            replace HBD := Lib.hid (HBD.out.after hbx)
            replace HC := Lib.hid (HC.out.after hbx)
            replace HW := Lib.hid (HW.out.trans (hbx.mono HW.out.size))
            clear hbx a0 b0 d0 z0
            have a0 := HBA.out.kind
            have b0 := HBB.out.kind
            have d0 := HBD.out.kind
            have z0 := HC.out.s3.2
            go_wp2
            go_ret
            exact ⟨rfl, HW.out⟩
      · have e2 : (B.act != 1) = false := by rw [eb]; rfl
        clear eb HCB
        rcases HCD.out with ed | ⟨ed, hz⟩
        · have e3 : (D.act != 1) = true := by simpa using ed
          clear ed HCD
          have HO := Lib.hid (obj_of_act HBB.out)
          have HR := Lib.hid (fun V => refRight_any B.obj V (fit_right rB))
          rw [rB] at HR
          go_wp2_with (refine wpList_got rfl (load_mid HO.out rfl rfl) ?_)
          refine (HR.out _).mono ?_
          rintro e XB ⟨rfl, hbx⟩
          clear HO HR
          replace HBA := Lib.hid (HBA.out.after hbx)
          replace HBB := Lib.hid (HBB.out.after hbx)
          replace HBD := Lib.hid (HBD.out.after hbx)
          replace HC := Lib.hid (HC.out.after hbx)
          replace HW := Lib.hid (HW.out.trans (hbx.mono HW.out.size))
          clear hbx a0 b0 d0 z0
          have a0 := HBA.out.kind
          have b0 := HBB.out.kind
          have d0 := HBD.out.kind
          have z0 := HC.out.s3.2
          go_wp2
          go_ret
          exact ⟨rfl, HW.out⟩
        · have e3 : (D.act != 1) = false := by rw [ed]; rfl
          clear ed HCD
          by_cases hze : c.zone = E0
          · have o1 : c.zone.toList = [] := (emp_iff _).2 hze
            have o2 : (c.zone.toList == []) = true := by simp [o1]
            have o3 : c.zone.toList.isEmpty = true := by simp [o1]
            clear o1 hz hze
            have HO := Lib.hid (obj_of_act HBB.out)
            have HR := Lib.hid (fun V => refRight_any B.obj V (fit_right rB))
            rw [rB] at HR
            go_wp2_with (refine wpList_got rfl (load_mid HO.out rfl rfl) ?_)
            refine (HR.out _).mono ?_
            rintro e XB ⟨rfl, hbx⟩
            clear HO HR
            replace HBA := Lib.hid (HBA.out.after hbx)
            replace HBB := Lib.hid (HBB.out.after hbx)
            replace HBD := Lib.hid (HBD.out.after hbx)
            replace HC := Lib.hid (HC.out.after hbx)
            replace HW := Lib.hid (HW.out.trans (hbx.mono HW.out.size))
            clear hbx a0 b0 d0 z0
            have a0 := HBA.out.kind
            have b0 := HBB.out.kind
            have d0 := HBD.out.kind
            have z0 := HC.out.s3.2
            go_wp2
            go_ret
            exact ⟨rfl, HW.out⟩
          · have rD : rightB D.obj = true := hz.resolve_left hze
            have o1 : c.zone.toList ≠ [] := fun e => hze ((emp_iff _).1 e)
            have o2 : (c.zone.toList == []) = false := by simpa using o1
            have o3 : c.zone.toList.isEmpty = false := by simpa using o1
            clear o1 hz hze
            have HO := Lib.hid (obj_of_act HBB.out)
            have HR := Lib.hid (fun V => refRight_any B.obj V (fit_right rB))
            rw [rB] at HR
            go_wp2_with (refine wpList_got rfl (load_mid HO.out rfl rfl) ?_)
            refine (HR.out _).mono ?_
            rintro e XB ⟨rfl, hbx⟩
            clear HO HR
            replace HBA := Lib.hid (HBA.out.after hbx)
            replace HBB := Lib.hid (HBB.out.after hbx)
            replace HBD := Lib.hid (HBD.out.after hbx)
            replace HC := Lib.hid (HC.out.after hbx)
            replace HW := Lib.hid (HW.out.trans (hbx.mono HW.out.size))
            clear hbx a0 b0 d0 z0
            have a0 := HBA.out.kind
            have b0 := HBB.out.kind
            have d0 := HBD.out.kind
            have z0 := HC.out.s3.2
            have HO := Lib.hid (obj_of_act HBD.out)
            have HR := Lib.hid (fun V => refRight_any D.obj V (fit_right rD))
            rw [rD] at HR
            go_wp2_with (refine wpList_got rfl (load_mid HO.out rfl rfl) ?_)
            refine (HR.out _).mono ?_
            rintro e XD ⟨rfl, hbx⟩
            clear HO HR
            replace HBA := Lib.hid (HBA.out.after hbx)
            replace HBB := Lib.hid (HBB.out.after hbx)
            replace HBD := Lib.hid (HBD.out.after hbx)
            replace HC := Lib.hid (HC.out.after hbx)
            replace HW := Lib.hid (HW.out.trans (hbx.mono HW.out.size))
            clear hbx a0 b0 d0 z0
            have a0 := HBA.out.kind
            have b0 := HBB.out.kind
            have d0 := HBD.out.kind
            have z0 := HC.out.s3.2
            go_wp2
            go_ret
            exact ⟨rfl, HW.out⟩
    · have e1 : (A.act != 1) = false := by rw [ea]; rfl
      clear ea HCA
      rcases HCB.out with eb | ⟨eb, rB⟩
      · have e2 : (B.act != 1) = true := by simpa using eb
        clear eb HCB
        rcases HCD.out with ed | ⟨ed, hz⟩
        · have e3 : (D.act != 1) = true := by simpa using ed
          clear ed HCD
          have HO := Lib.hid (obj_of_act HBA.out)
          have HR := Lib.hid (fun V => refRight_any A.obj V (fit_right rA))
          rw [rA] at HR
          go_wp2_with (refine wpList_got rfl (load_mid HO.out rfl rfl) ?_)
          refine (HR.out _).mono ?_
          rintro e XA ⟨rfl, hbx⟩
          clear HO HR
          replace HBA := Lib.hid (HBA.out.after hbx)
          replace HBB := Lib.hid (HBB.out.after hbx)
          replace HBD := Lib.hid (HBD.out.after hbx)
          replace HC := Lib.hid (HC.out.after hbx)
          replace HW := Lib.hid (HW.out.trans (hbx.mono HW.out.size))
          clear hbx a0 b0 d0 z0
          have a0 := HBA.out.kind
          have b0 := HBB.out.kind
          have d0 := HBD.out.kind
          have z0 := HC.out.s3.2
          go_wp2
          go_ret
          exact ⟨rfl, HW.out⟩
        · have e3 : (D.act != 1) = false := by rw [ed]; rfl
          clear ed HCD
          by_cases hze : c.zone = E0
          · have o1 : c.zone.toList = [] := (emp_iff _).2 hze
            have o2 : (c.zone.toList == []) = true := by simp [o1]
            have o3 : c.zone.toList.isEmpty = true := by simp [o1]
            clear o1 hz hze
            have HO := Lib.hid (obj_of_act HBA.out)
            have HR := Lib.hid (fun V => refRight_any A.obj V (fit_right rA))
            rw [rA] at HR
            go_wp2_with (refine wpList_got rfl (load_mid HO.out rfl rfl) ?_)
            refine (HR.out _).mono ?_
            rintro e XA ⟨rfl, hbx⟩
            clear HO HR
            replace HBA := Lib.hid (HBA.out.after hbx)
            replace HBB := Lib.hid (HBB.out.after hbx)
            replace HBD := Lib.hid (HBD.out.after hbx)
            replace HC := Lib.hid (HC.out.after hbx)
            replace HW := Lib.hid (HW.out.trans (hbx.mono HW.out.size))
            clear hbx a0 b0 d0 z0
            have a0 := HBA.out.kind
            have b0 := HBB.out.kind
            have d0 := HBD.out.kind
            have z0 := HC.out.s3.2
            go_wp2
            go_ret
            exact ⟨rfl, HW.out⟩
          · have rD : rightB D.obj = true := hz.resolve_left hze
            have o1 : c.zone.toList ≠ [] := fun e => hze ((emp_iff _).1 e)
            have o2 : (c.zone.toList == []) = false := by simpa using o1
            have o3 : c.zone.toList.isEmpty = false := by simpa using o1
            clear o1 hz hze
            have HO := Lib.hid (obj_of_act HBA.out)
            have HR := Lib.hid (fun V => refRight_any A.obj V (fit_right rA))
            rw [rA] at HR
            go_wp2_with (refine wpList_got rfl (load_mid HO.out rfl rfl) ?_)
            refine (HR.out _).mono ?_
            rintro e XA ⟨rfl, hbx⟩
            clear HO HR
            replace HBA := Lib.hid (HBA.out.after hbx)
            replace HBB := Lib.hid (HBB.out.after hbx)
            replace HBD := Lib.hid (HBD.out.after hbx)
            replace HC := Lib.hid (HC.out.after hbx)
            replace HW := Lib.hid (HW.out.trans (hbx.mono HW.out.size))
            clear hbx a0 b0 d0 z0
            have a0 := HBA.out.kind
            have b0 := HBB.out.kind
            have d0 := HBD.out.kind
            have z0 := HC.out.s3.2
            have HO := Lib.hid (obj_of_act HBD.out)
            have HR := Lib.hid (fun V => refRight_any D.obj V (fit_right rD))
            rw [rD] at HR
            go_wp2_with (refine wpList_got rfl (load_mid HO.out rfl rfl) ?_)
            refine (HR.out _).mono ?_
            rintro e XD ⟨rfl, hbx⟩
            clear HO HR
            replace HBA := Lib.hid (HBA.out.after hbx)
            replace HBB := Lib.hid (HBB.out.after hbx)
            replace HBD := Lib.hid (HBD.out.after hbx)
            replace HC := Lib.hid (HC.out.after hbx)
            replace HW := Lib.hid (HW.out.trans (hbx.mono HW.out.size))
            clear hbx a0 b0 d0 z0
            have a0 := HBA.out.kind
            have b0 := HBB.out.kind
            have d0 := HBD.out.kind
            have z0 := HC.out.s3.2
            go_wp2
            go_ret
            exact ⟨rfl, HW.out⟩
      · have e2 : (B.act != 1) = false := by rw [eb]; rfl
        clear eb HCB
        rcases HCD.out with ed | ⟨ed, hz⟩
        · have e3 : (D.act != 1) = true := by simpa using ed
          clear ed HCD
          have HO := Lib.hid (obj_of_act HBA.out)
          have HR := Lib.hid (fun V => refRight_any A.obj V (fit_right rA))
          rw [rA] at HR
          go_wp2_with (refine wpList_got rfl (load_mid HO.out rfl rfl) ?_)
          refine (HR.out _).mono ?_
          rintro e XA ⟨rfl, hbx⟩
          clear HO HR
          replace HBA := Lib.hid (HBA.out.after hbx)
          replace HBB := Lib.hid (HBB.out.after hbx)
          replace HBD := Lib.hid (HBD.out.after hbx)
          replace HC := Lib.hid (HC.out.after hbx)
          replace HW := Lib.hid (HW.out.trans (hbx.mono HW.out.size))
          clear hbx a0 b0 d0 z0
          have a0 := HBA.out.kind
          have b0 := HBB.out.kind
          have d0 := HBD.out.kind
          have z0 := HC.out.s3.2
          have HO := Lib.hid (obj_of_act HBB.out)
          have HR := Lib.hid (fun V => refRight_any B.obj V (fit_right rB))
          rw [rB] at HR
          go_wp2_with (refine wpList_got rfl (load_mid HO.out rfl rfl) ?_)
          refine (HR.out _).mono ?_
          rintro e XB ⟨rfl, hbx⟩
          clear HO HR
          replace HBA := Lib.hid (HBA.out.after hbx)
          replace HBB := Lib.hid (HBB.out.after hbx)
          replace HBD := Lib.hid (HBD.out.after hbx)
          replace HC := Lib.hid (HC.out.after hbx)
          replace HW := Lib.hid (HW.out.trans (hbx.mono HW.out.size))
          clear hbx a0 b0 d0 z0
          have a0 := HBA.out.kind
          have b0 := HBB.out.kind
          have d0 := HBD.out.kind
          have z0 := HC.out.s3.2
          go_wp2
          go_ret
          exact ⟨rfl, HW.out⟩
        · have e3 : (D.act != 1) = false := by rw [ed]; rfl
          clear ed HCD
          by_cases hze : c.zone = E0
          · have o1 : c.zone.toList = [] := (emp_iff _).2 hze
            have o2 : (c.zone.toList == []) = true := by simp [o1]
            have o3 : c.zone.toList.isEmpty = true := by simp [o1]
            clear o1 hz hze
            have HO := Lib.hid (obj_of_act HBA.out)
            have HR := Lib.hid (fun V => refRight_any A.obj V (fit_right rA))
            rw [rA] at HR
            go_wp2_with (refine wpList_got rfl (load_mid HO.out rfl rfl) ?_)
            refine (HR.out _).mono ?_
            rintro e XA ⟨rfl, hbx⟩
            clear HO HR
            replace HBA := Lib.hid (HBA.out.after hbx)
            replace HBB := Lib.hid (HBB.out.after hbx)
            replace HBD := Lib.hid (HBD.out.after hbx)
            replace HC := Lib.hid (HC.out.after hbx)
            replace HW := Lib.hid (HW.out.trans (hbx.mono HW.out.size))
            clear hbx a0 b0 d0 z0
            have a0 := HBA.out.kind
            have b0 := HBB.out.kind
            have d0 := HBD.out.kind
            have z0 := HC.out.s3.2
            have HO := Lib.hid (obj_of_act HBB.out)
            have HR := Lib.hid (fun V => refRight_any B.obj V (fit_right rB))
            rw [rB] at HR
            go_wp2_with (refine wpList_got rfl (load_mid HO.out rfl rfl) ?_)
            refine (HR.out _).mono ?_
            rintro e XB ⟨rfl, hbx⟩
            clear HO HR
            replace HBA := Lib.hid (HBA.out.after hbx)
            replace HBB := Lib.hid (HBB.out.after hbx)
            replace HBD := Lib.hid (HBD.out.after hbx)
            replace HC := Lib.hid (HC.out.after hbx)
            replace HW := Lib.hid (HW.out.trans (hbx.mono HW.out.size))
            clear hbx a0 b0 d0 z0
            have a0 := HBA.out.kind
            have b0 := HBB.out.kind
            have d0 := HBD.out.kind
            have z0 := HC.out.s3.2
            go_wp2
            go_ret
            exact ⟨rfl, HW.out⟩
          · have rD : rightB D.obj = true := hz.resolve_left hze
            have o1 : c.zone.toList ≠ [] := fun e => hze ((emp_iff _).1 e)
            have o2 : (c.zone.toList == []) = false := by simpa using o1
            have o3 : c.zone.toList.isEmpty = false := by simpa using o1
            clear o1 hz hze
            have HO := Lib.hid (obj_of_act HBA.out)
            have HR := Lib.hid (fun V => refRight_any A.obj V (fit_right rA))
            rw [rA] at HR
            go_wp2_with (refine wpList_got rfl (load_mid HO.out rfl rfl) ?_)
            refine (HR.out _).mono ?_
            rintro e XA ⟨rfl, hbx⟩
            clear HO HR
            replace HBA := Lib.hid (HBA.out.after hbx)
            replace HBB := Lib.hid (HBB.out.after hbx)
            replace HBD := Lib.hid (HBD.out.after hbx)
            replace HC := Lib.hid (HC.out.after hbx)
            replace HW := Lib.hid (HW.out.trans (hbx.mono HW.out.size))
            clear hbx a0 b0 d0 z0
            have a0 := HBA.out.kind
            have b0 := HBB.out.kind
            have d0 := HBD.out.kind
            have z0 := HC.out.s3.2
            have HO := Lib.hid (obj_of_act HBB.out)
            have HR := Lib.hid (fun V => refRight_any B.obj V (fit_right rB))
            rw [rB] at HR
            go_wp2_with (refine wpList_got rfl (load_mid HO.out rfl rfl) ?_)
            refine (HR.out _).mono ?_
            rintro e XB ⟨rfl, hbx⟩
            clear HO HR
            replace HBA := Lib.hid (HBA.out.after hbx)
            replace HBB := Lib.hid (HBB.out.after hbx)
            replace HBD := Lib.hid (HBD.out.after hbx)
            replace HC := Lib.hid (HC.out.after hbx)
            replace HW := Lib.hid (HW.out.trans (hbx.mono HW.out.size))
            clear hbx a0 b0 d0 z0
            have a0 := HBA.out.kind
            have b0 := HBB.out.kind
            have d0 := HBD.out.kind
            have z0 := HC.out.s3.2
            have HO := Lib.hid (obj_of_act HBD.out)
            have HR := Lib.hid (fun V => refRight_any D.obj V (fit_right rD))
            rw [rD] at HR
            go_wp2_with (refine wpList_got rfl (load_mid HO.out rfl rfl) ?_)
            refine (HR.out _).mono ?_
            rintro e XD ⟨rfl, hbx⟩
            clear HO HR
            replace HBA := Lib.hid (HBA.out.after hbx)
            replace HBB := Lib.hid (HBB.out.after hbx)
            replace HBD := Lib.hid (HBD.out.after hbx)
            replace HC := Lib.hid (HC.out.after hbx)
            replace HW := Lib.hid (HW.out.trans (hbx.mono HW.out.size))
            clear hbx a0 b0 d0 z0
            have a0 := HBA.out.kind
            have b0 := HBB.out.kind
            have d0 := HBD.out.kind
            have z0 := HC.out.s3.2
            go_wp2
            go_ret
            exact ⟨rfl, HW.out⟩
end Go.Proofs.YtfpdchabknoklaaDoor.O.B
namespace Go.Proofs.YtfpdchabknoklaaDoor.O.B
open Go.ChangeShapes Go.WideShapes Go.ChangeAt Go.RowKit

theorem own : ownKnob Tryd.prog.godebug = none := by kernel_rfl
theorem laidOut : laidOutB Tryd.prog = true := by kernel_rfl
theorem gTabType : (Tryd.prog.globals[0]?).map (·.type) = some 96 := by kernel_rfl
theorem cellsTab : Tryd.prog.cellsOf 96 = 20 := by kernel_rfl
theorem cellsU64 : Tryd.prog.cellsOf 23 = 1 := by kernel_rfl

/-- The list of all of this seat's rows. -/
def laidAll : List (String × DataW Unit) := [("math/bits.deBruijn32tab", Rows.laid_math_bits_deBruijn32tab), ("math/bits.deBruijn64tab", Rows.laid_math_bits_deBruijn64tab), ("internal/strconv.uint64pow10", Rows.laid_internal_strconv_uint64pow10)]

theorem tab_of_laid {W : World} (h : laidMetH Tryd.prog laidAll W) : Tab W :=
  Lib.tabIs_of_head (rest := []) gTab gTabType Tryd.underlying96 Tryd.underlying23 cellsU64 cellsTab (laidMet.tail (laidMet.tail h))

/-- An array of two numbers, as it comes in. -/
theorem open_pair {H : Type} {enc : TypeId × Value → H} {P : Program} {w : World} {base : Nat} {spare : Nat → Bool} {held : Bool} {r : Reach} {b0 : Nat} {t e : TypeId} {k : IntKind} {v : Value} {d : DataW H} {ps : List MemPlace}
    (ht : P.underlying t = some (.array 2 e)) (he : P.underlying e = some (.int k)) (hce : P.cellsOf e = 1) (hct : P.cellsOf t = 2)
    (hv : Value.okWide P w r b0 t v) (h : DataW.Trod enc P w base spare held t v d ps) : ∃ x y, v = .agg #[.int k x, .int k y] ∧ (Lit.int k x).wf = true ∧ (Lit.int k y).wf = true := by
  simp only [Value.okWide, ht] at hv
  obtain ⟨cs, rfl, hsz, -⟩ := hv
  obtain ⟨l⟩ := cs
  obtain ⟨fuel, hf⟩ := h
  obtain ⟨xs, m, -, -, hlen, hn, hi⟩ := DataW.trod_array ht hf
  rw [hce] at hi
  have hl2 : l.length = 2 := by rw [hct] at hsz; simpa using hsz
  match l, hl2 with
  | [c0, c1], _ =>
    have x0 : ∃ y, xs[0]? = some y := ⟨xs[0]'(by omega), List.getElem?_eq_getElem (by omega)⟩
    have x1 : ∃ y, xs[1]? = some y := ⟨xs[1]'(by omega), List.getElem?_eq_getElem (by omega)⟩
    obtain ⟨y0, e0⟩ := x0
    obtain ⟨y1, e1⟩ := x1
    have h0 := (hi 0 (by omega)).trans e0
    have h1 := (hi 1 (by omega)).trans e1
    obtain ⟨a, ha, -, fa⟩ := DataW.trod_int he h0
    obtain ⟨b, hb, -, fb⟩ := DataW.trod_int he h1
    simp [Value.cells] at ha hb
    exact ⟨a, b, by rw [ha, hb], fa, fb⟩

/-- A world for the witness: the settled one, each table holding what its initialiser lays. -/
def put (i : Nat) (vs : Array Value) (h : Array Go.Obj) : Array Go.Obj := h.modify i fun
  | .cells _ t frozen => .cells vs t frozen
  | o => o
def u8s (l : List Int) : Array Value := (l.map fun z => Value.int .u8 z).toArray
def laidHeap (h : Array Go.Obj) : Array Go.Obj :=
  put 0 ((Lib.pow10Tab.map fun z => Value.int .u64 z).toArray)
    (put 1 (u8s [0, 1, 28, 2, 29, 14, 24, 3, 30, 22, 20, 15, 25, 17, 4, 8, 31, 27, 13, 23, 21, 19, 16, 7, 26, 12, 18, 6, 11, 5, 10, 9])
      (put 2 (u8s [0, 1, 56, 2, 57, 49, 28, 3, 61, 58, 42, 50, 38, 29, 17, 4, 62, 47, 59, 36, 45, 43, 51, 22, 53, 39, 33, 30, 24, 18, 12, 5, 63, 55, 48, 27, 60, 41, 37, 16, 46, 35, 44, 21, 52, 32, 23, 11, 54, 26, 40, 15, 34, 20, 31, 10, 25, 14, 19, 9, 13, 8, 7, 6]) h))
noncomputable def laidWorld (args : Array Value) (os : Os) : World :=
  { World.holding Tryd.prog os ⟨#[], args, []⟩ with heap := laidHeap (World.holding Tryd.prog os ⟨#[], args, []⟩).heap }
end Go.Proofs.YtfpdchabknoklaaDoor.O.B
namespace Go.Proofs.YtfpdchabknoklaaDoor.BindRight
open Go.ChangeShapes Go.WideShapes Go.ChangeAt Go.RowKit O.B
open Go.ChangeMaps (open_string shut_string)

set_option maxRecDepth 100000 in
theorem contract (H : Type) (enc : TypeId × Value → H) (W : World) (base : Nat) (args : Array Value) (ds gs : List (DataW H)) (before : List MemPlace)
    (hval : ∀ (j : Nat) t v, Tryd.f5.params[j]? = some t → args[j]? = some v → Value.okWide Tryd.prog W .any base t v)
    (hW : DataW.Whole enc Tryd.prog Tryd.f5.params.toList Rows.bindRightSpec.vars false W args.toList ds gs before)
    (hsz : (DataW.weightsEach Tryd.prog (Tryd.f5.params.toList ++ (OpenSpec.ofChange Rows.bindRightSpec).bare.plain.varTypes Tryd.prog) (ds ++ gs)).all (· ≤ reachBytes) = true) (hL : laidMetH Tryd.prog Rows.bindRightRow.laid W) :
    Calls Tryd.prog 5 args W fun e W' => ∃ v, e = .returned v ∧ Rows.bindRightSpec.post enc Tryd.prog Tryd.f5 false true false false W args v W' := by
  have hW' := hW
  obtain ⟨p, q, hA0, hV, rfl, hfz, hnd⟩ := hW
  have hA : DataW.TrodAll enc Tryd.prog W 0 (fun _ => true) true Tryd.f5.params.toList args.toList ds p := hA0
  rw [Tryd.params5] at hA hval hsz
  obtain ⟨v0, vs0, d0, ds0, p0, q0, hargs, rfl, rfl, h0, r0⟩ := trodAll_cons hA
  obtain ⟨v1, vs1, d1, ds1, p1, q1, rfl, rfl, rfl, h1, r1⟩ := trodAll_cons r0
  obtain ⟨v2, vs2, d2, ds2, p2, q2, rfl, rfl, rfl, h2, r2⟩ := trodAll_cons r1
  obtain ⟨rfl, rfl, rfl⟩ := trodAll_nil r2
  obtain rfl : args = #[v0, v1, v2] := by cases args; simp_all
  obtain ⟨l0, hb0, ft0, ln0, cp0⟩ := open_objs (hval 0 22 v0 rfl rfl) h0
  obtain ⟨x1, rfl, rfl, rfl, w1⟩ := open_int Tryd.underlying23 (hval 1 23 v1 rfl rfl) h1
  obtain ⟨x2, rfl⟩ := open_reply (hval 2 45 v2 rfl rfl) h2
  have lz0 := ln0 (List.all_eq_true.2 fun n hn => List.all_eq_true.1 hsz n (DataW.weights_mem_each (j := 0) rfl rfl n hn))
  refine (bindRight_any l0 v0 x1 x2 W hb0 cp0 (tab_of_laid hL) (fits_in ft0 lz0) (fun o ho => (fun ⟨h1, h2, h3, h4, h5, h6, h7⟩ => ⟨by omega, by omega, by omega, by omega, by omega, by omega, by omega⟩) (lz0 o ho))).mono fun e W' ⟨he, hb⟩ => ?_
  subst he
  exact ⟨_, rfl, LawEnd.post_true laidOut (by kernel_rfl) rfl Tryd.underlying4 rfl hW' rfl hb⟩

theorem laid_met (os : Os) : laidMet Tryd.prog Rows.bindRightRow.laid ((laidWorld #[.slice none 0 0, .int .u64 0, .agg #[.int .u8 0, .string ⟨#[]⟩, .int .u8 0, .string ⟨#[]⟩, .int .u64 0, .int .i64 0, .string ⟨#[]⟩, .string ⟨#[]⟩, .string ⟨#[]⟩, .bool false, .int .i64 0, .int .i64 0, .string ⟨#[]⟩, .int .u64 0]] os).forCall (fun _ _ => 0) ⟨#[], #[.slice none 0 0, .int .u64 0, .agg #[.int .u8 0, .string ⟨#[]⟩, .int .u8 0, .string ⟨#[]⟩, .int .u64 0, .int .i64 0, .string ⟨#[]⟩, .string ⟨#[]⟩, .string ⟨#[]⟩, .bool false, .int .i64 0, .int .i64 0, .string ⟨#[]⟩, .int .u64 0]], []⟩).memory :=
  laidMet_of_run' 70 (by kernel_rfl) (by kernel_rfl)
theorem reads (os : Os) {H : Type} (enc : TypeId × Value → H) : ∃ places, DataW.whole enc Tryd.prog ((laidWorld #[.slice none 0 0, .int .u64 0, .agg #[.int .u8 0, .string ⟨#[]⟩, .int .u8 0, .string ⟨#[]⟩, .int .u64 0, .int .i64 0, .string ⟨#[]⟩, .string ⟨#[]⟩, .string ⟨#[]⟩, .bool false, .int .i64 0, .int .i64 0, .string ⟨#[]⟩, .int .u64 0]] os).forCall (fun _ _ => 0) ⟨#[], #[.slice none 0 0, .int .u64 0, .agg #[.int .u8 0, .string ⟨#[]⟩, .int .u8 0, .string ⟨#[]⟩, .int .u64 0, .int .i64 0, .string ⟨#[]⟩, .string ⟨#[]⟩, .string ⟨#[]⟩, .bool false, .int .i64 0, .int .i64 0, .string ⟨#[]⟩, .int .u64 0]], []⟩).memory Tryd.f5.params.toList Rows.bindRightSpec.vars false (#[(.slice none 0 0 : Value), .int .u64 0, .agg #[.int .u8 0, .string ⟨#[]⟩, .int .u8 0, .string ⟨#[]⟩, .int .u64 0, .int .i64 0, .string ⟨#[]⟩, .string ⟨#[]⟩, .string ⟨#[]⟩, .bool false, .int .i64 0, .int .i64 0, .string ⟨#[]⟩, .int .u64 0]]).toList 8 = some ([.nil, .lit (.int .u64 0), .agg [.agg [.lit (.int .u8 0), .lit (.string [])], .agg [.lit (.int .u8 0), .lit (.string []), .lit (.int .u64 0), .lit (.int .i64 0), .lit (.string []), .lit (.string []), .lit (.string [])], .lit (.bool false), .agg [.lit (.int .i64 0), .lit (.int .i64 0), .lit (.string []), .lit (.int .u64 0)]]], [], places) :=
  ⟨[], by kernel_rfl⟩

set_option maxRecDepth 100000 in
theorem lifted (os : Os) (started : os.Started) (H : Type) (enc : TypeId × Value → H) (F : Stop.Interp) :
    ReturnsInHanded {} Tryd.checked os 5 .any ((OpenSpec.ofChange Rows.bindRightSpec).preRow enc Tryd.prog Tryd.f5 Rows.bindRightRow.domain false Rows.bindRightRow.laid) (((OpenSpec.ofChange Rows.bindRightSpec).at F).post enc Tryd.prog Tryd.f5 false true false false) := by
  obtain ⟨places, hx⟩ := reads os enc
  refine returnsInHanded_of_row (C := Tryd.checked) (s := OpenSpec.ofChange Rows.bindRightSpec) own started (by kernel_rfl) Tryd.func5
    (witness_row_at (enc := enc) (C := Tryd.checked) false (laidWorld #[.slice none 0 0, .int .u64 0, .agg #[.int .u8 0, .string ⟨#[]⟩, .int .u8 0, .string ⟨#[]⟩, .int .u64 0, .int .i64 0, .string ⟨#[]⟩, .string ⟨#[]⟩, .string ⟨#[]⟩, .bool false, .int .i64 0, .int .i64 0, .string ⟨#[]⟩, .int .u64 0]] os) #[.slice none 0 0, .int .u64 0, .agg #[.int .u8 0, .string ⟨#[]⟩, .int .u8 0, .string ⟨#[]⟩, .int .u64 0, .int .i64 0, .string ⟨#[]⟩, .string ⟨#[]⟩, .string ⟨#[]⟩, .bool false, .int .i64 0, .int .i64 0, .string ⟨#[]⟩, .int .u64 0]] rfl (by kernel_rfl) (by kernel_rfl) (by kernel_rfl)
      (OpenSpec.preRow_of_cond 8 hx (by kernel_rfl) (fun k hk => by cases hk) (by kernel_rfl) (laid_met os))) ?_
  intro W base args ds gs before hval hW _ _ hsz hL _ _
  exact contract H enc W base args ds gs before hval hW hsz hL

theorem said : Rows.BindRightSaid :=
  OpenClaim.holds_of_cond 5 Tryd.f5 rfl rfl rfl rfl rfl rfl rfl ⟨rfl, rfl, rfl, rfl, rfl⟩ rfl rfl rfl rfl rfl (by kernel_rfl) Tryd.func5 (by kernel_rfl)
    (of_decide_eq_true (by kernel_rfl)) (by unfold Func.isWrapper; first | (rw [if_pos (by decide +kernel)]; kernel_rfl) | (rw [if_neg (by decide +kernel)]; exact ⟨rfl, rfl⟩))
    (fun os started H enc _ F => by rw [OpenClaim.pre_eq_preRow]; exact lifted os started H enc F)

theorem plain (f : FuncId) (fn : Func) (hf : Tryd.pinned.checked.prog.funcNamed "wharfinger/wharfingerlaw12.BindRight" = some f) (hfn : Tryd.pinned.checked.prog.funcs[f]? = some fn) :
    false = Tryd.pinned.checked.prog.looks [] ∧ ∀ (j : Nat) t, fn.params[j]? = some t → Tryd.pinned.checked.prog.wantsStandIn t = false := by
  obtain rfl : f = 5 := Option.some.inj ((show Tryd.prog.funcNamed "wharfinger/wharfingerlaw12.BindRight" = some 5 by kernel_rfl).symm.trans hf) |>.symm
  obtain rfl : fn = Tryd.f5 := (Option.some.inj (Tryd.func5.symm.trans hfn)).symm
  refine ⟨by kernel_rfl, fun j t ht => ?_⟩
  rw [Tryd.params5] at ht
  have hall : ([22, 23, 45] : List TypeId).all (fun t => Tryd.prog.wantsStandIn t == false) = true := by kernel_rfl
  have hm : t ∈ ([22, 23, 45] : List TypeId) := by have := Array.mem_of_getElem? ht; simpa using this
  exact eq_of_beq (List.all_eq_true.1 hall t hm)

theorem card : Rows.BindRightCardSaid :=
  Claim7.holds_tied_plain_at .later [] _ _ _ _ said (fun _ h => by cases h) (by kernel_rfl) (fun _ h => by cases h) bindRight_row_tie rfl ⟨rfl, rfl⟩ (by kernel_rfl) rfl plain (by kernel_rfl)
end Go.Proofs.YtfpdchabknoklaaDoor.BindRight
