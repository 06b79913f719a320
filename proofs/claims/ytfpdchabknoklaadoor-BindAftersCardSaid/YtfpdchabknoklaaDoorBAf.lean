/- What is done next for a volume, as the document says it. -/
import Derived.Test.YtfpdchabknoklaaDoorBClaim
import Derived.Test.YtfpdchabknoklaaDoorKRefG
import Derived.Test.YtfpdchabknoklaaDoorHeldBy
import Derived.LoopTactic
import Derived.Test.YtfpdchabknoklaaDoorOCore
import Derived.Test.YtfpdchabknoklaaDoorBCl0
import Derived.Test.YtfpdchabknoklaaDoorKUniq
import Derived.Test.YtfpdchabknoklaaDoorKUniqT
import Derived.Test.YtfpdchabknoklaaDoorBCl2
import Derived.Test.YtfpdchabknoklaaDoorKAct
import Derived.Test.YtfpdchabknoklaaDoorDPlain
import Derived.Outline
import Derived.Test.YtfpdchabknoklaaDoorBRef
import Derived.Test.YtfpdchabknoklaaDoorKGet
import Derived.Test.YtfpdchabknoklaaDoorBRHandle
namespace Go.Proofs.YtfpdchabknoklaaDoor.O.B
open Go Go.RowKit Go.Shelf Go.Lib RangeMap KM
attribute [local go_sem] Oper.semAt_some

def fO : Obj := { O0 with kind := 1, name := ⟨#[102]⟩, zone := ⟨#[122]⟩ }
def cO : Obj := { O0 with kind := 3, name := ⟨#[99]⟩, version := 2, born := 2, hold := true, cls := ⟨#[102]⟩, size := 4, mode := 1, phase := 1 }
def cO' : Obj := { cO with phase := 2, zone := ⟨#[122]⟩, num := 8 }
theorem live_act : claimN [fO, cO] 7 ⟨#[99]⟩ = writeA cO' := by kernel_rfl
theorem live_ref : refN cO = ⟨#[99, 35, 50]⟩ := by kernel_rfl
theorem live_handle : handleN cO = ⟨#[112, 118, 99, 47, 99, 35, 50]⟩ := by kernel_rfl
theorem built_c : Tryd.prog.built 31 [(0, .int .u8 3), (1, .string ⟨#[99]⟩), (2, .int .u64 2), (3, .int .u64 2), (6, .string ⟨#[102]⟩), (7, .int .i64 4), (9, .int .u8 1), (17, .int .u8 1), (5, .bool true)] = some (cellsO cO) := by kernel_rfl
theorem built_f : Tryd.prog.built 31 [(0, .int .u8 1), (1, .string ⟨#[102]⟩), (12, .string ⟨#[122]⟩)] = some (cellsO fO) := by kernel_rfl

theorem two_ok : ∀ s ∈ [fO, cO], (0 ≤ s.born ∧ s.born ≤ 18446744073709551615) ∧ s.name.size ≤ 140737488351232 := by
  intro s hs
  simp only [List.mem_cons, List.not_mem_nil, or_false] at hs
  rcases hs with rfl | rfl
  · exact ⟨⟨by decide, by decide⟩, by decide⟩
  · exact ⟨⟨by decide, by decide⟩, by decide⟩
theorem objs_two (V : World) (a b : Obj) : ObjsIn (V.alloc (.cells (cellsO a ++ cellsO b) 31 (0, 0))) (.slice (some ⟨V.heap.size, 0, none⟩) 2 2) [a, b] := by
  have hrow := heap_alloc_new V (.cells (cellsO a ++ cellsO b) 31 (0, 0))
  refine ⟨_, 2, rfl, by simp, fun i h => ⟨V.heap.size, 0, rfl, (Array.getElem?_eq_some_iff.1 hrow).1, fun j v hv => ?_⟩⟩
  rw [cell_of_row _ _ _ _ _ _ hrow]
  have hi : i = 0 ∨ i = 1 := by simp at h; omega
  rcases hi with rfl | rfl
  · have hj : j < (cellsO a).size := by
      have := (List.getElem?_eq_some_iff.1 hv).1
      simpa using this
    rw [show 0 + 0 * 20 + j = j by omega, Array.getElem?_append_left hj, ← Array.getElem?_toList]
    exact hv
  · rw [show 0 + 1 * 20 + j = (cellsO a).size + j from (by show 0 + 1 * 20 + j = 20 + j; omega), Array.getElem?_append_right (Nat.le_add_right _ _), Nat.add_sub_cancel_left, ← Array.getElem?_toList]
    exact hv

set_option maxRecDepth 100000 in
set_option maxHeartbeats 2000000 in
theorem live_any (w : World) (ht : Tab w) : Calls Tryd.prog 7 #[] w fun e w' => e = .returned (.bool true) ∧ Below w.heap.size w w' := by
  have HT := Lib.hid ht
  clear ht
  go_enter Tryd.func7, Tryd.ntmps7
  obtain ⟨V, hst, hk, hb, -⟩ := boxing w cO
  go_upto_region 2 with (first | (refine wpList_skip rfl (hst rfl rfl rfl) ?_) | ((with_reducible refine wpList_build_to rfl 31 _ rfl (cellsO cO) ?_ ?_); exact built_c))
  have hbx := hk
  go_wp2_with (first | (refine wpList_got (v := .agg (cellsO cO)) rfl (load_obj hbx rfl rfl) ?_) | ((with_reducible refine wpList_build_to rfl 31 _ rfl (cellsO fO) ?_ ?_); exact built_f))
  change Calls _ _ _ (V.alloc (.cells (cellsO fO ++ cellsO cO) 31 (0, 0))) _
  have hob := objs_two V fO cO
  obtain ⟨W2, hW2⟩ : ∃ W2, V.alloc (.cells (cellsO fO ++ cellsO cO) 31 (0, 0)) = W2 := ⟨_, rfl⟩
  have hw2 : Below w.heap.size w W2 := by rw [← hW2]; exact hb.alloc hb.size _
  have hk2 : BoxO W2 w.heap.size cO := by rw [← hW2]; exact hk.alloc _
  rw [hW2] at hob ⊢
  have HC := Lib.hid (claim_any [fO, cO] _ 7 ⟨#[99]⟩ W2 hob (HT.out.after hw2) two_ok)
  rw [live_act] at HC
  have HK := Lib.hid hk2
  have HW := Lib.hid hw2
  clear hob hW2 hw2 hk2 hbx hk hb hst
  refine HC.out.mono ?_
  rintro e W3 ⟨rfl, hb3⟩
  have k3 : BoxA (W3.alloc (.cells (cellsA nothing) 36 (0, 0))) W3.heap.size nothing := heap_alloc_new _ _
  obtain ⟨V4, hst4, ha4, ho4, hb4⟩ := acting k3 (writeA cO')
  have hw3 := HW.out.trans (hb3.mono HW.out.size)
  have hs3 : w.heap.size < W3.heap.size := Nat.lt_of_lt_of_le HK.out.lt hb3.size
  have hk4 : BoxO V4 w.heap.size cO := (ho4 _ (by omega)).trans ((HK.out.after hb3).alloc _)
  have hw4 : Below w.heap.size w V4 := hb4 _ _ (hw3.alloc hw3.size _) (by omega)
  have HW4 := Lib.hid hw4
  have HA4 := Lib.hid ha4
  have HR := Lib.hid (ref_any cO V4 (HT.out.after hw4) (by decide) (by decide))
  rw [live_ref] at HR
  have HK4 := Lib.hid hk4
  have hbx := hk4
  clear HC HK HW hb3 k3 ho4 hb4 hw3 hs3 hw4 hk4 ha4
  go_wp2_with (first | (refine wpList_skip rfl (hst4 rfl rfl rfl) ?_) | ((with_reducible refine wpList_load_obj ?_ rfl ?_ hbx ?_); rfl; rfl))
  refine HR.out.mono ?_
  rintro e W5 ⟨rfl, hb5⟩
  have hbx := HK4.out.after hb5
  have hw5 := HW4.out.trans (hb5.mono HW4.out.size)
  have HH := Lib.hid (handle_any cO W5 (HT.out.after hw5) (by decide) (by decide))
  rw [live_handle] at HH
  have HW5 := Lib.hid hw5
  have HA5 := Lib.hid (HA4.out.after hb5)
  clear HR HK4 HW4 HA4 hb5 hw5 hst4
  go_wp2_with ((with_reducible refine wpList_load_obj ?_ rfl ?_ hbx ?_); rfl; rfl)
  refine HH.out.mono ?_
  rintro e W6 ⟨rfl, hb6⟩
  have ha6 := HA5.out.after hb6
  have HW6 := Lib.hid (HW5.out.trans (hb6.mono HW5.out.size))
  have c0 : W6.cell? ⟨W3.heap.size, 0, none⟩ = some (.int .u8 1) := (cell_of_row W6 _ 0 _ _ _ ha6).trans rfl
  have c18 : W6.cell? ⟨W3.heap.size, 18, none⟩ = some (.int .u8 2) := (cell_of_row W6 _ 18 _ _ _ ha6).trans rfl
  have c19 : W6.cell? ⟨W3.heap.size, 19, none⟩ = some (.int .u64 8) := (cell_of_row W6 _ 19 _ _ _ ha6).trans rfl
  have c13 : W6.cell? ⟨W3.heap.size, 13, none⟩ = some (.string ⟨#[122]⟩) := (cell_of_row W6 _ 13 _ _ _ ha6).trans rfl
  clear HH HA5 HW5 hb6 ha6 hbx
  go_wp2
  go_ret
  exact ⟨rfl, HW6.out⟩
end Go.Proofs.YtfpdchabknoklaaDoor.O.B
namespace Go.Proofs.YtfpdchabknoklaaDoor.O.B
open Go Go.RowKit Go.Shelf Go.Lib RangeMap KM
attribute [local go_sem] Oper.semAt_some

theorem ObjsIn.take {W : World} {g off n c : Nat} {l : List Obj} (h : ObjsIn W (.slice (some ⟨g, off, none⟩) n c) l) (k : Nat) (hk : k ≤ l.length) : ObjsIn W (.slice (some ⟨g, off, none⟩) k c) (l.take k) := by
  obtain ⟨o, c', he, hm, hi⟩ := h
  cases he
  have hl : (l.take k).length = k := by rw [List.length_take]; omega
  refine ⟨some ⟨g, off, none⟩, c, by rw [hl], by rw [hl]; omega, fun i h => ?_⟩
  rw [hl] at h
  obtain ⟨g', off', e, hlt, hr⟩ := hi i (by omega)
  refine ⟨g', off', e, hlt, ?_⟩
  rw [List.getElem_take]
  exact hr
set_option maxRecDepth 100000 in
set_option maxHeartbeats 2000000 in
theorem few12_any (l : List Obj) (v : Value) (w : World) (hl : ObjsIn w v l) (hc : ∀ o n c, v = .slice o n c → n ≤ c) :
    Calls Tryd.prog 6 #[v] w fun e w' => ∃ v', e = .returned v' ∧ ObjsIn w v' (l.take 24) ∧ w' = w := by
  obtain ⟨o, cp, rfl, hm, hi⟩ := id hl
  have hcp := hc _ _ _ rfl
  by_cases h : 24 < l.length
  · obtain ⟨g, off, rfl, -, -⟩ := hi 0 (by omega)
    have HL := Lib.hid (hl.take 24 (by omega))
    have h' : (24 : Int) < (l.length : Int) := by omega
    have h2 : (24 : Int) ≤ (cp : Int) := by omega
    have h3 : 24 ≤ cp := by omega
    clear hl hi hc
    go_enter Tryd.func6, Tryd.ntmps6
    go_wp2
    go_ret
    exact ⟨_, rfl, HL.out, rfl⟩
  · have HL := Lib.hid hl
    have ht : l.take 24 = l := List.take_of_length_le (by omega)
    have HT := Lib.hid ht
    have h' : ¬ (24 : Int) < (l.length : Int) := by omega
    clear hl hi hc ht
    go_enter Tryd.func6, Tryd.ntmps6
    go_wp2
    go_ret
    exact ⟨_, rfl, by rw [HT.out]; exact HL.out, rfl⟩
end Go.Proofs.YtfpdchabknoklaaDoor.O.B
namespace Go.Proofs.YtfpdchabknoklaaDoor.O.B
open Go Go.RowKit Go.Shelf Go.Lib RangeMap KM
attribute [local go_sem] Oper.semAt_some

set_option maxRecDepth 100000 in
set_option maxHeartbeats 8000000 in
theorem rcl_idle (l : List Obj) (v : Value) (ver : Int) (name : ByteArray) (w : World) (hl : ObjsIn w v l) (hn : l.length < 100000) (ht : Tab w) (hall : ∀ s ∈ l, (0 ≤ s.born ∧ s.born ≤ 18446744073709551615) ∧ s.name.size ≤ 140737488351232) (c : Obj) (hr : getL l 3 name = some c) (hh : ¬ handleN c = E0) (hp : ¬ c.phase = 3) (hv : volN l c = none) (hd : c.deleting = false) (h2 : ¬ c.phase = 2) (h1 : ¬ c.phase = 1) :
    Calls Tryd.prog 9 #[v, .int .u64 ver, .string name] w fun e w' => e = .returned (encA (nothing)) ∧ Below w.heap.size w w' := by
  have HU := Lib.hid (fun V (hV : ObjsIn V v l) => uniq_any l v V hV hn)
  have hnL : (uniqL l).length < 100000 := Nat.lt_of_le_of_lt (uniq_len l) hn
  obtain ⟨o, cp, rfl, -, -⟩ := id hl
  have HL0 := Lib.hid hl
  have HT := Lib.hid ht
  have hug := uniq_get l 3 name
  rw [hr] at hug
  have hcin := hall c (List.mem_of_find?_eq_some hr)
  have HHN := Lib.hid (fun V (hV : Tab V) => rhandle_any c V hV hcin.1 hcin.2)
  have o1 : (handleN c).toList ≠ [] := fun e => hh ((emp_iff _).1 e)
  have o2 : ((handleN c).toList == []) = false := by simpa using o1
  have o3 : (handleN c).toList.isEmpty = false := by simpa using o1
  generalize handleN c = h at *
  have e3 : (c.phase == 3) = false := by simpa using hp
  have HE3 := Lib.hid e3
  clear hh hp e3
  have HO123 := Lib.hid (And.intro o1 (And.intro o2 o3))
  clear o1 o2 o3
  have hvl := vol_is l c
  rw [hv] at hvl
  clear hv
  have HD := Lib.hid hd
  have e2 : (c.phase == 2) = false := by simpa using h2
  have H2 := Lib.hid e2
  clear hd h2 e2
  have e1 : (c.phase != 1) = true := by simpa using h1
  have H1 := Lib.hid e1
  clear h1 e1
  clear hr
  generalize uniqL l = L at *
  have HVL := Lib.hid (fun (V : World) (s : Value) (hV : ObjsIn V s L) (hT : Tab V) => rvol_any L s c V hV hT hcin.1 hcin.2)
  rw [hvl] at HVL
  clear hvl
  have HG := Lib.hid (fun (V : World) (s : Value) (hV : ObjsIn V s L) => rget_any L s 3 name V hV)
  rw [hug] at HG
  clear hl hn ht hall hug hnL hcin
  go_enter Tryd.func9, Tryd.ntmps9
  go_upto_region 1 with (fail)
  refine wp_gen (fun V => BoxA V w.heap.size nothing ∧ Below w.heap.size w V) ⟨heap_alloc_new _ _, (Below.refl _ _).alloc (Nat.le_refl _) _⟩ ?_
  rintro V0 ⟨ho, hl⟩
  have HO0 := Lib.hid ho
  have HW0 := Lib.hid hl
  have HUV := Lib.hid (HU.out V0 (HL0.out.after hl))
  clear ho hl HU HL0
  go_wp2_with (fail)
  refine HUV.out.mono ?_
  rintro e W1 ⟨lv, rfl, hl1, hb1⟩
  have HO1 := Lib.hid (HO0.out.after hb1)
  have HW1 := Lib.hid (HW0.out.trans (hb1.mono HW0.out.size))
  obtain ⟨o1, c1, rfl, hm, -⟩ := id hl1
  have HL := Lib.hid hl1
  have HGV := Lib.hid (HG.out W1 _ hl1)
  clear HUV HO0 HW0 hb1 hl1 HG
  go_wp2_with (fail)
  refine HGV.out.mono ?_
  rintro e W2 ⟨rfl, hb2⟩
  obtain ⟨X, sx, ox, lx, -⟩ := boxing W2 ((some c).getD O0)
  have hwx := hb2.trans (lx.mono hb2.size)
  have hne : w.heap.size < W2.heap.size := Nat.lt_of_lt_of_le (Array.getElem?_eq_some_iff.1 HO1.out).1 hb2.size
  have HO := Lib.hid (HO1.out.after hwx)
  have HW := Lib.hid (HW1.out.trans (hwx.mono HW1.out.size))
  have HLX := Lib.hid (HL.out.after hwx)
  have HTX := Lib.hid (HT.out.after HW.out)
  have HNE := Lib.hid hne
  clear HGV hb2 lx hwx HO1 HW1 HL HT hne
  replace ox : BoxO X W2.heap.size c := ox
  have HK := Lib.hid ox
  have HHV := Lib.hid (HHN.out X HTX.out)
  go_upto_region 3 with (refine wpList_skip rfl (sx rfl rfl rfl) ?_)
  clear sx
  go_wp2_with ((with_reducible refine wpList_load_obj ?_ rfl ?_ ox ?_); rfl; rfl)
  clear ox
  refine HHV.out.mono ?_
  rintro e W3 ⟨rfl, hb3⟩
  have HC3 := Lib.hid (HK.out.after hb3)
  have HA3 := Lib.hid (HO.out.after hb3)
  have HW3 := Lib.hid (HW.out.trans (hb3.mono HW.out.size))
  have HL3 := Lib.hid (HLX.out.after hb3)
  have HT3 := Lib.hid (HTX.out.after hb3)
  clear HK HO HW HLX HTX HHV
  clear hb3
  obtain ⟨o1, o2, o3⟩ := HO123.out
  have e3 := HE3.out
  have c17 := HC3.out.c17
  go_upto_region 9 with (fail)
  clear o1 o2 o3 HO123 c17 e3 HE3
  have HVC := Lib.hid (HVL.out W3 _ HL3.out HT3.out)
  have hc3 := HC3.out
  go_wp2_with ((with_reducible refine wpList_load_obj ?_ rfl ?_ hc3 ?_); rfl; rfl)
  clear hc3
  refine HVC.out.mono ?_
  rintro e W4 ⟨rfl, hb4⟩
  obtain ⟨X4, sx4, ox4, lx4, -⟩ := boxing W4 ((none : Option Obj).getD O0)
  have h34 := hb4.trans (lx4.mono hb4.size)
  have HC4 := Lib.hid (HC3.out.after h34)
  have HA4 := Lib.hid (HA3.out.after h34)
  have HW4 := Lib.hid (HW3.out.trans (h34.mono HW3.out.size))
  have HL4 := Lib.hid (HL3.out.after h34)
  have HT4 := Lib.hid (HT3.out.after h34)
  have hn4 : W2.heap.size < W4.heap.size := Nat.lt_of_lt_of_le (Array.getElem?_eq_some_iff.1 HC3.out).1 hb4.size
  have HN4 := Lib.hid hn4
  clear HVC hb4 lx4 h34 HC3 HA3 HW3 HL3 HT3 HVL hn4
  clear ox4
  have c4 := HC4.out.c4
  rw [HD.out] at c4
  go_upto_region 20 with (refine wpList_skip rfl (sx4 rfl rfl rfl) ?_)
  clear sx4 c4
  have c17 := HC4.out.c17
  have e2 := H2.out
  go_upto_region 28 with (fail)
  clear e2
  have e1 := H1.out
  obtain ⟨V8, hst8, ho, -, hb⟩ := acting HA4.out nothing
  have HO8 := Lib.hid ho
  have HX8 := Lib.hid (hb _ _ HW4.out (Nat.le_refl _))
  clear ho hb
  go_wp2_with (first | (refine wpList_skip rfl (hst8 rfl rfl rfl) ?_) | ((with_reducible refine wpList_build_to rfl 36 _ rfl (cellsA nothing) ?_ ?_); exact built_act0'))
  refine bodyPost_ret (v := encA nothing) (results_cell_row rfl _ _ w.heap.size 36 (cellsA nothing) (0, 0) _ rfl HO8.out undAct rfl sizeAct) rfl ?_
  exact ⟨rfl, HX8.out⟩

set_option maxRecDepth 100000 in
set_option maxHeartbeats 8000000 in
theorem rcl_pend (l : List Obj) (v : Value) (ver : Int) (name : ByteArray) (w : World) (hl : ObjsIn w v l) (hn : l.length < 100000) (ht : Tab w) (hall : ∀ s ∈ l, (0 ≤ s.born ∧ s.born ≤ 18446744073709551615) ∧ s.name.size ≤ 140737488351232) (c : Obj) (hr : getL l 3 name = some c) (hh : ¬ handleN c = E0) (hp : ¬ c.phase = 3) (hv : volN l c = none) (hd : c.deleting = false) (h2 : ¬ c.phase = 2) (h1 : c.phase = 1) :
    Calls Tryd.prog 9 #[v, .int .u64 ver, .string name] w fun e w' => e = .returned (encA (beginN l c (IntKind.u64.wrap (ver + 1)))) ∧ Below w.heap.size w w' := by
  have HU := Lib.hid (fun V (hV : ObjsIn V v l) => uniq_any l v V hV hn)
  have hnL : (uniqL l).length < 100000 := Nat.lt_of_le_of_lt (uniq_len l) hn
  obtain ⟨o, cp, rfl, -, -⟩ := id hl
  have HL0 := Lib.hid hl
  have HT := Lib.hid ht
  have hug := uniq_get l 3 name
  rw [hr] at hug
  have hcin := hall c (List.mem_of_find?_eq_some hr)
  have HHN := Lib.hid (fun V (hV : Tab V) => rhandle_any c V hV hcin.1 hcin.2)
  have o1 : (handleN c).toList ≠ [] := fun e => hh ((emp_iff _).1 e)
  have o2 : ((handleN c).toList == []) = false := by simpa using o1
  have o3 : (handleN c).toList.isEmpty = false := by simpa using o1
  generalize handleN c = h at *
  have e3 : (c.phase == 3) = false := by simpa using hp
  have HE3 := Lib.hid e3
  clear hh hp e3
  have HO123 := Lib.hid (And.intro o1 (And.intro o2 o3))
  clear o1 o2 o3
  have hvl := vol_is l c
  rw [hv] at hvl
  clear hv
  have HD := Lib.hid hd
  have e2 : (c.phase == 2) = false := by simpa using h2
  have H2 := Lib.hid e2
  clear hd h2 e2
  have H1 := Lib.hid h1
  clear h1
  have HPD := Lib.hid (fun (V : World) (s : Value) (hV : ObjsIn V s (uniqL l)) (hT : Tab V) => rpending_any (uniqL l) s ver c V hV hnL hT hcin.1 hcin.2)
  rw [uniq_get, uniq_get, uniq_get, pend_is] at HPD
  obtain ⟨x, hx⟩ : ∃ x, beginN l c (IntKind.u64.wrap (ver + 1)) = x := ⟨_, rfl⟩
  rw [hx] at HPD ⊢
  clear hx
  clear hr
  generalize uniqL l = L at *
  have HVL := Lib.hid (fun (V : World) (s : Value) (hV : ObjsIn V s L) (hT : Tab V) => rvol_any L s c V hV hT hcin.1 hcin.2)
  rw [hvl] at HVL
  clear hvl
  have HG := Lib.hid (fun (V : World) (s : Value) (hV : ObjsIn V s L) => rget_any L s 3 name V hV)
  rw [hug] at HG
  clear hl hn ht hall hug hnL hcin
  go_enter Tryd.func9, Tryd.ntmps9
  go_upto_region 1 with (fail)
  refine wp_gen (fun V => BoxA V w.heap.size nothing ∧ Below w.heap.size w V) ⟨heap_alloc_new _ _, (Below.refl _ _).alloc (Nat.le_refl _) _⟩ ?_
  rintro V0 ⟨ho, hl⟩
  have HO0 := Lib.hid ho
  have HW0 := Lib.hid hl
  have HUV := Lib.hid (HU.out V0 (HL0.out.after hl))
  clear ho hl HU HL0
  go_wp2_with (fail)
  refine HUV.out.mono ?_
  rintro e W1 ⟨lv, rfl, hl1, hb1⟩
  have HO1 := Lib.hid (HO0.out.after hb1)
  have HW1 := Lib.hid (HW0.out.trans (hb1.mono HW0.out.size))
  obtain ⟨o1, c1, rfl, hm, -⟩ := id hl1
  have HL := Lib.hid hl1
  have HGV := Lib.hid (HG.out W1 _ hl1)
  clear HUV HO0 HW0 hb1 hl1 HG
  go_wp2_with (fail)
  refine HGV.out.mono ?_
  rintro e W2 ⟨rfl, hb2⟩
  obtain ⟨X, sx, ox, lx, -⟩ := boxing W2 ((some c).getD O0)
  have hwx := hb2.trans (lx.mono hb2.size)
  have hne : w.heap.size < W2.heap.size := Nat.lt_of_lt_of_le (Array.getElem?_eq_some_iff.1 HO1.out).1 hb2.size
  have HO := Lib.hid (HO1.out.after hwx)
  have HW := Lib.hid (HW1.out.trans (hwx.mono HW1.out.size))
  have HLX := Lib.hid (HL.out.after hwx)
  have HTX := Lib.hid (HT.out.after HW.out)
  have HNE := Lib.hid hne
  clear HGV hb2 lx hwx HO1 HW1 HL HT hne
  replace ox : BoxO X W2.heap.size c := ox
  have HK := Lib.hid ox
  have HHV := Lib.hid (HHN.out X HTX.out)
  go_upto_region 3 with (refine wpList_skip rfl (sx rfl rfl rfl) ?_)
  clear sx
  go_wp2_with ((with_reducible refine wpList_load_obj ?_ rfl ?_ ox ?_); rfl; rfl)
  clear ox
  refine HHV.out.mono ?_
  rintro e W3 ⟨rfl, hb3⟩
  have HC3 := Lib.hid (HK.out.after hb3)
  have HA3 := Lib.hid (HO.out.after hb3)
  have HW3 := Lib.hid (HW.out.trans (hb3.mono HW.out.size))
  have HL3 := Lib.hid (HLX.out.after hb3)
  have HT3 := Lib.hid (HTX.out.after hb3)
  clear HK HO HW HLX HTX HHV
  clear hb3
  obtain ⟨o1, o2, o3⟩ := HO123.out
  have e3 := HE3.out
  have c17 := HC3.out.c17
  go_upto_region 9 with (fail)
  clear o1 o2 o3 HO123 c17 e3 HE3
  have HVC := Lib.hid (HVL.out W3 _ HL3.out HT3.out)
  have hc3 := HC3.out
  go_wp2_with ((with_reducible refine wpList_load_obj ?_ rfl ?_ hc3 ?_); rfl; rfl)
  clear hc3
  refine HVC.out.mono ?_
  rintro e W4 ⟨rfl, hb4⟩
  obtain ⟨X4, sx4, ox4, lx4, -⟩ := boxing W4 ((none : Option Obj).getD O0)
  have h34 := hb4.trans (lx4.mono hb4.size)
  have HC4 := Lib.hid (HC3.out.after h34)
  have HA4 := Lib.hid (HA3.out.after h34)
  have HW4 := Lib.hid (HW3.out.trans (h34.mono HW3.out.size))
  have HL4 := Lib.hid (HL3.out.after h34)
  have HT4 := Lib.hid (HT3.out.after h34)
  have hn4 : W2.heap.size < W4.heap.size := Nat.lt_of_lt_of_le (Array.getElem?_eq_some_iff.1 HC3.out).1 hb4.size
  have HN4 := Lib.hid hn4
  clear HVC hb4 lx4 h34 HC3 HA3 HW3 HL3 HT3 HVL hn4
  clear ox4
  have c4 := HC4.out.c4
  rw [HD.out] at c4
  go_upto_region 20 with (refine wpList_skip rfl (sx4 rfl rfl rfl) ?_)
  clear sx4 c4
  have c17 := HC4.out.c17
  have e2 := H2.out
  go_upto_region 28 with (fail)
  clear e2
  rw [H1.out] at c17
  go_upto_region 30 with (fail)
  have HPC := Lib.hid (HPD.out X4 _ HL4.out HT4.out)
  have hcx := HC4.out
  clear c17 HPD HHN HL4 HT4
  go_wp2_with ((with_reducible refine wpList_load_obj ?_ rfl ?_ hcx ?_); rfl; rfl)
  refine HPC.out.mono ?_
  rintro e W7 ⟨rfl, hb7⟩
  obtain ⟨V8, hst8, ho, -, hb⟩ := acting (HA4.out.after hb7) x
  have HO8 := Lib.hid ho
  have HX8 := Lib.hid (hb _ _ (HW4.out.trans (hb7.mono HW4.out.size)) (Nat.le_refl _))
  clear ho hb HPC hb7 hcx
  go_wp2_with (refine wpList_skip rfl (hst8 rfl rfl rfl) ?_)
  refine bodyPost_ret (v := encA x) (results_cell_row rfl _ _ w.heap.size 36 (cellsA x) (0, 0) _ rfl HO8.out undAct rfl sizeAct) rfl ?_
  exact ⟨rfl, HX8.out⟩
end Go.Proofs.YtfpdchabknoklaaDoor.O.B
namespace Go.Proofs.YtfpdchabknoklaaDoor.O.B
open Go Go.RowKit Go.Shelf Go.Lib RangeMap KM
attribute [local go_sem] Oper.semAt_some

theorem rclaim_any (l : List Obj) (v : Value) (ver : Int) (name : ByteArray) (w : World) (hl : ObjsIn w v l) (hn : l.length < 100000) (ht : Tab w) (hall : ∀ s ∈ l, (0 ≤ s.born ∧ s.born ≤ 18446744073709551615) ∧ s.name.size ≤ 140737488351232) :
    Calls Tryd.prog 9 #[v, .int .u64 ver, .string name] w fun e w' => e = .returned (encA (claimN l ver name)) ∧ Below w.heap.size w w' := by
  unfold claimN
  cases hr : getL l 3 name with
  | none => exact rcl_none l v ver name w hl hn ht hall hr
  | some c =>
    dsimp only
    by_cases hh : handleN c = E0
    · rw [if_pos hh]
      exact rcl_long l v ver name w hl hn ht hall c hr hh
    · rw [if_neg hh]
      by_cases hp : c.phase = 3
      · rw [if_pos hp]
        unfold letN
        cases hd : c.deleting with
        | false => exact rcl_keep l v ver name w hl hn ht hall c hr hh hp hd
        | true =>
          cases hu : (wantedN l c || atNodeN l c) with
          | true => exact rcl_used l v ver name w hl hn ht hall c hr hh hp hd hu
          | false => exact rcl_gone l v ver name w hl hn ht hall c hr hh hp hd hu
      · rw [if_neg hp]
        cases hv : volN l c with
        | some vo => exact rcl_take l v ver name w hl hn ht hall c hr hh hp vo hv
        | none =>
          dsimp only
          cases hd : c.deleting with
          | true =>
            rw [if_pos rfl]
            unfold offN
            by_cases h0 : c.num = 0
            · rw [if_pos h0]
              exact rcl_off0 l v ver name w hl hn ht hall c hr hh hp hv hd h0
            · rw [if_neg h0]
              by_cases h2 : c.phase = 2
              · rw [if_pos h2]
                exact rcl_off2 l v ver name w hl hn ht hall c hr hh hp hv hd h0 h2
              · rw [if_neg h2]
                exact rcl_off l v ver name w hl hn ht hall c hr hh hp hv hd h0 h2
          | false =>
            rw [if_neg (by decide)]
            by_cases h2 : c.phase = 2
            · rw [if_pos h2]
              unfold makeN
              by_cases hs : c.source = E0
              · rw [if_pos hs]
                exact rcl_make0 l v ver name w hl hn ht hall c hr hh hp hv hd h2 hs
              · rw [if_neg hs]
                cases hsn : getL l 7 c.source with
                | none => exact rcl_make1 l v ver name w hl hn ht hall c hr hh hp hv hd h2 hs hsn
                | some s => exact rcl_make2 l v ver name w hl hn ht hall c hr hh hp hv hd h2 hs s hsn
            · rw [if_neg h2]
              by_cases h1 : c.phase = 1
              · rw [if_pos h1]
                exact rcl_pend l v ver name w hl hn ht hall c hr hh hp hv hd h2 h1
              · rw [if_neg h1]
                exact rcl_idle l v ver name w hl hn ht hall c hr hh hp hv hd h2 h1
end Go.Proofs.YtfpdchabknoklaaDoor.O.B
namespace Go.Proofs.YtfpdchabknoklaaDoor.O.B
open Go Go.RowKit Go.Shelf Go.Lib RangeMap KM

set_option maxRecDepth 100000 in
set_option maxHeartbeats 2000000 in
theorem eql_act (a b : Ac) (w : World) : (binOp .eql 36 (encA a) (encA b)).run Tryd.prog w = .ok (.bool (decide (a = b))) w := by
  obtain ⟨a0, ⟨a1, a2, a3, a4, a5, a6, a7, a8, a9, a10, a11, a12, a13, a14, a15, a16, a17, a18, a19, a20⟩, ⟨c1, c2, c3, c4, c5, c6, c7⟩⟩ := a
  obtain ⟨b0, ⟨b1, b2, b3, b4, b5, b6, b7, b8, b9, b10, b11, b12, b13, b14, b15, b16, b17, b18, b19, b20⟩, ⟨d1, d2, d3, d4, d5, d6, d7⟩⟩ := b
  unfold encA cellsA
  dsimp only
  go_simp
  simp only [eqT, Bool.and_assoc]
  iterate 27 refine and_if ?_
  exact last_if
theorem neq_act (a b : Ac) (w : World) : (binOp .neq 36 (encA a) (encA b)).run Tryd.prog w = .ok (.bool (!decide (a = b))) w := by
  have h := eql_act a b w
  unfold encA at *
  rw [run_eql_struct] at h
  rw [run_neq_struct]
  generalize (Op.equalIn 10000 36 _ _).run Tryd.prog w = r at *
  cases r with
  | ok b w1 =>
    simp only [Result.andThen, Result.ok.injEq, Value.bool.injEq] at h ⊢
    rw [h.1, h.2]; exact ⟨rfl, rfl⟩
  | halt a b => simp [Result.andThen] at h
set_option maxRecDepth 100000 in
set_option maxHeartbeats 2000000 in
theorem eql_call (a b : Cl) (w : World) : (binOp .eql 34 (encC a) (encC b)).run Tryd.prog w = .ok (.bool (decide (a = b))) w := by
  obtain ⟨c1, c2, c3, c4, c5, c6, c7⟩ := a
  obtain ⟨d1, d2, d3, d4, d5, d6, d7⟩ := b
  unfold encC cellsC
  dsimp only
  go_simp
  simp only [eqT]
  iterate 6 refine and_if ?_
  exact last_if
theorem neq_call (a b : Cl) (w : World) : (binOp .neq 34 (encC a) (encC b)).run Tryd.prog w = .ok (.bool (!decide (a = b))) w := by
  have h := eql_call a b w
  unfold encC at *
  rw [run_eql_struct] at h
  rw [run_neq_struct]
  generalize (Op.equalIn 10000 34 _ _).run Tryd.prog w = r at *
  cases r with
  | ok b w1 =>
    simp only [Result.andThen, Result.ok.injEq, Value.bool.injEq] at h ⊢
    rw [h.1, h.2]; exact ⟨rfl, rfl⟩
  | halt a b => simp [Result.andThen] at h
end Go.Proofs.YtfpdchabknoklaaDoor.O.B
namespace Go.Proofs.YtfpdchabknoklaaDoor.O.B
open Go Go.RowKit Go.Shelf Go.Lib RangeMap KM
attribute [local go_sem] Oper.semAt_some

/-- What a call came to. -/
structure Rs where
  err : Int
  size : Int
  zone : ByteArray
  tag : Int
def encR (r : Rs) : Value := .agg #[.int .i64 r.err, .int .i64 r.size, .string r.zone, .int .u64 r.tag]
def BoxR (W : World) (b : Nat) (r : Rs) : Prop := W.heap[b]? = some (.cells #[.int .i64 r.err, .int .i64 r.size, .string r.zone, .int .u64 r.tag] 43 (0, 0))
def BoxK (W : World) (b : Nat) (k : Int) (n : ByteArray) : Prop := W.heap[b]? = some (.cells #[.int .u8 k, .string n] 40 (0, 0))
theorem BoxR.after {W W' : World} {b : Nat} {r : Rs} (h : BoxR W b r) (hb : Below W.heap.size W W') : BoxR W' b r := (hb.block b (Array.getElem?_eq_some_iff.1 h).1).trans h
theorem BoxK.after {W W' : World} {b : Nat} {k : Int} {n : ByteArray} (h : BoxK W b k n) (hb : Below W.heap.size W W') : BoxK W' b k n := (hb.block b (Array.getElem?_eq_some_iff.1 h).1).trans h
theorem undKey : Tryd.prog.underlying 40 = some (.struct (Tryd.prog.fieldsOf 40)) := by kernel_rfl
theorem sizeKey : (Tryd.prog.info? 40).map (·.size) = some 2 := by kernel_rfl
theorem load_key {W : World} {b : Nat} {k : Int} {n : ByteArray} (h : BoxK W b k n) {oi : Oper} {a : Act} {x : Operand} (ho : oi.op = .load 40 x) (hx : a.eval x = .pointer (some ⟨b, 0, none⟩)) :
    (execOp a.eval oi).run Tryd.prog W = .ok (.value (encK k n)) W := by
  unfold execOp
  simp only [ho, hx, Instr.loadAt, Instr.sureAddr, Sem.run_bind, Sem.run_pure, Result.andThen_ok, run_loadVar_row W b 40 40 _ (0, 0) _ h undKey rfl sizeKey]
  rfl
theorem exec_neq_act {W : World} {A B : Ac} {oi : Oper} {a : Act} {x y : Operand} {t : TypeId} (ho : oi.op = .binOp .neq 36 x y t) (hx : a.eval x = encA A) (hy : a.eval y = encA B) :
    (execOp a.eval oi).run Tryd.prog W = .ok (.value (.bool (!decide (A = B)))) W := by
  have h := neq_act A B W
  have hg : (eqGuard .neq 36 x y (encA A) (encA B)).run Tryd.prog W = .ok () W := by kernel_rfl
  unfold execOp
  simp only [ho, hx, hy, Sem.run_bind, Result.andThen_ok, hg, h]
  rfl
theorem chain4 (w : World) (a b c d : Go.Obj) : ((((w.alloc a).alloc b).alloc c).alloc d).heap[w.heap.size]? = some a ∧ ((((w.alloc a).alloc b).alloc c).alloc d).heap[w.heap.size + 1]? = some b ∧ ((((w.alloc a).alloc b).alloc c).alloc d).heap[w.heap.size + 1 + 1]? = some c ∧
    ((((w.alloc a).alloc b).alloc c).alloc d).heap[w.heap.size + 1 + 1 + 1]? = some d ∧ Below w.heap.size w ((((w.alloc a).alloc b).alloc c).alloc d) := by
  obtain ⟨h1, h2, h3, h4⟩ := chain3 w a b c
  have s3 : (((w.alloc a).alloc b).alloc c).heap.size = w.heap.size + 1 + 1 + 1 := by rw [World.size_alloc, World.size_alloc, World.size_alloc]
  refine ⟨(Below.heap_alloc _ d _ (by omega)).trans h1, (Below.heap_alloc _ d _ (by omega)).trans h2, (Below.heap_alloc _ d _ (by omega)).trans h3, ?_, h4.alloc (by omega) _⟩
  rw [← s3]
  exact heap_alloc_new _ d
theorem BoxR.cells {W : World} {b : Nat} {r : Rs} (h : BoxR W b r) : W.cell? ⟨b, 0, none⟩ = some (.int .i64 r.err) ∧ W.cell? ⟨b, 1, none⟩ = some (.int .i64 r.size) ∧ W.cell? ⟨b, 3, none⟩ = some (.int .u64 r.tag) :=
  ⟨(cell_of_row W b 0 _ _ _ h).trans rfl, (cell_of_row W b 1 _ _ _ h).trans rfl, (cell_of_row W b 3 _ _ _ h).trans rfl⟩
theorem BoxC.verb {W : World} {b : Nat} {c : Cl} (h : BoxC W b c) : W.cell? ⟨b, 0, none⟩ = some (.int .u8 c.verb) := (cell_of_row W b 0 _ _ _ h).trans rfl
theorem exec_neq_call {W : World} {A B : Cl} {oi : Oper} {a : Act} {x y : Operand} {t : TypeId} (ho : oi.op = .binOp .neq 34 x y t) (hx : a.eval x = encC A) (hy : a.eval y = encC B) :
    (execOp a.eval oi).run Tryd.prog W = .ok (.value (.bool (!decide (A = B)))) W := by
  have h := neq_call A B W
  have hg : (eqGuard .neq 34 x y (encC A) (encC B)).run Tryd.prog W = .ok () W := by kernel_rfl
  unfold execOp
  simp only [ho, hx, hy, Sem.run_bind, Result.andThen_ok, hg, h]
  rfl
theorem BoxK.cells {W : World} {b : Nat} {k : Int} {n : ByteArray} (h : BoxK W b k n) : W.cell? ⟨b, 0, none⟩ = some (.int .u8 k) ∧ W.cell? ⟨b, 1, none⟩ = some (.string n) :=
  ⟨(cell_of_row W b 0 _ _ _ h).trans rfl, (cell_of_row W b 1 _ _ _ h).trans rfl⟩
theorem BoxC.cells {W : World} {b : Nat} {c : Cl} (h : BoxC W b c) : W.cell? ⟨b, 0, none⟩ = some (.int .u8 c.verb) ∧ W.cell? ⟨b, 1, none⟩ = some (.string c.target) :=
  ⟨(cell_of_row W b 0 _ _ _ h).trans rfl, (cell_of_row W b 1 _ _ _ h).trans rfl⟩
theorem BoxA.kind {W : World} {b : Nat} {a : Ac} (h : BoxA W b a) : W.cell? ⟨b, 0, none⟩ = some (.int .u8 a.act) := (cell_of_row W b 0 _ _ _ h).trans rfl
theorem exec_neq_diff {W : World} {A B : Cl} (hne : ¬ A = B) {oi : Oper} {a : Act} {x y : Operand} {t : TypeId} (ho : oi.op = .binOp .neq 34 x y t) (hx : a.eval x = encC A) (hy : a.eval y = encC B) :
    (execOp a.eval oi).run Tryd.prog W = .ok (.value (.bool true)) W := by
  have h := exec_neq_call (W := W) ho hx hy
  rw [show (!decide (A = B)) = true by simp [hne]] at h
  exact h
theorem exec_neq_at {W : World} {A B : Cl} (he : A = B) {oi : Oper} {a : Act} {x y : Operand} {t : TypeId} (ho : oi.op = .binOp .neq 34 x y t) (hx : a.eval x = encC A) (hy : a.eval y = encC B) :
    (execOp a.eval oi).run Tryd.prog W = .ok (.value (.bool false)) W := by
  have h := exec_neq_call (W := W) ho hx hy
  rw [show (!decide (A = B)) = false by simp [he]] at h
  exact h
/-- An act that asks is nothing but the question. -/
def Plain (A : Ac) : Prop := A.act = 3 → A = askA A.call
theorem plain_write (o : Obj) : Plain (writeA o) := fun h => absurd h (by show ¬ (1 : Int) = 3; omega)
theorem plain_none : Plain nothing := fun h => absurd h (by show ¬ (0 : Int) = 3; omega)
theorem plain_ask (c : Cl) : Plain (askA c) := fun _ => rfl
def Verbs (P : Int → Prop) (A : Ac) : Prop := A.act = 3 → P A.call.verb
end Go.Proofs.YtfpdchabknoklaaDoor.O.B
namespace Go.Proofs.YtfpdchabknoklaaDoor.O.B
open Go Go.Lib

def nextB (l : List Obj) (ver k : Int) (n : ByteArray) : Ac := if k = 3 then claimN l ver n else if k = 4 then volumeN l ver n else nothing
/-- The volume that was made for a claim. -/
def rawN (c : Obj) (name : ByteArray) (keep : Bool) (r : Rs) : Obj := ⟨4, name, 0, 0, false, false, c.cls, c.size, r.size, c.mode, keep, false, r.zone, E0, refN c, E0, E0, 3, 0, 0⟩
def madeN (c : Obj) (keep : Bool) (r : Rs) : Obj := defO (rawN c (handleN c) keep r)
def backN (c k : Obj) (next : Int) : Obj := { c with phase := 1, zone := E0, node := if k.wait = true then E0 else c.node, num := next }
def createdN (c k : Obj) (next : Int) (r : Rs) : Ac :=
  if r.err = 0 then writeA (madeN c k.keep r) else if r.err = 13 then nothing else if r.err = 9 then writeA { c with num := next } else writeA (backN c k next)
def erasedN (o : Obj) (next e : Int) : Ac := if e = 0 then removeA o else if e = 9 then writeA { o with num := next } else nothing
def behindB (k o : Obj) (next : Int) (c : Cl) (r : Rs) : Ac := if c.verb = 1 then createdN o k next r else erasedN o next r.err
/-- The object that a call is for; its class. -/
def forN (l : List Obj) (k : Int) (n : ByteArray) : Obj := (getL l k n).getD O0
def clsN (l : List Obj) (o : Obj) : Obj := (getL l 1 o.cls).getD O0
def afterB (l : List Obj) (ver k : Int) (n : ByteArray) (c : Cl) (r : Rs) : Ac := if nextB l ver k n = askA c then behindB (clsN l (forN l k n)) (forN l k n) (up ver) c r else nothing

theorem claimN_uniq (l : List Obj) (ver : Int) (n : ByteArray) : claimN (uniqL l) ver n = claimN l ver n := by
  unfold claimN letN wantedN atNodeN volN makeN beginN zoneN readyN
  simp only [uniq_get, there_idem, node_uniq, bestN_uniq]
theorem volumeN_uniq (l : List Obj) (ver : Int) (n : ByteArray) : volumeN (uniqL l) ver n = volumeN l ver n := by
  unfold volumeN claimedN inUseN atN cutN
  simp only [uniq_get, there_idem]
theorem claim_none {l : List Obj} {ver : Int} {n : ByteArray} (h : getL l 3 n = none) : claimN l ver n = nothing := by
  unfold claimN
  rw [h]
theorem volume_none {l : List Obj} {ver : Int} {n : ByteArray} (h : getL l 4 n = none) : volumeN l ver n = nothing := by
  unfold volumeN
  rw [h]
theorem write_ne (o : Obj) (c : Cl) : writeA o ≠ askA c := fun h => absurd (congrArg Ac.act h) (by show ¬ (1 : Int) = 3; omega)
theorem remove_ne (o : Obj) (c : Cl) : removeA o ≠ askA c := fun h => absurd (congrArg Ac.act h) (by show ¬ (2 : Int) = 3; omega)
theorem nothing_ne (c : Cl) : nothing ≠ askA c := fun h => absurd (congrArg Ac.act h) (by show ¬ (0 : Int) = 3; omega)
theorem ask_inj {c d : Cl} (h : askA c = askA d) : c = d := congrArg Ac.call h
theorem claim_plain (l : List Obj) (ver : Int) (n : ByteArray) : Plain (claimN l ver n) := by
  unfold claimN letN offN makeN beginN
  repeat' split
  all_goals first | exact plain_write _ | exact plain_none | exact plain_ask _ | exact fun h => absurd h (by show ¬ (2 : Int) = 3; omega)
theorem volume_plain (l : List Obj) (ver : Int) (n : ByteArray) : Plain (volumeN l ver n) := by
  unfold volumeN
  repeat' split
  all_goals first | exact plain_write _ | exact plain_none | exact plain_ask _
/-- What a claim asks: that its volume is made, or erased. -/
theorem claim_asks {l : List Obj} {ver : Int} {n : ByteArray} {c : Cl} (h : claimN l ver n = askA c) : ∃ o, getL l 3 n = some o ∧ handleN o ≠ E0 ∧ c.target = handleN o ∧ (c.verb = 1 ∧ o.phase = 2 ∧ c.zone = o.zone ∧ c.size = o.size ∨ c.verb = 2 ∧ c.zone = E0) := by
  unfold claimN at h
  cases hg : getL l 3 n with
  | none => rw [hg] at h; exact absurd h (nothing_ne c)
  | some o =>
    rw [hg] at h
    dsimp only at h
    by_cases hh : handleN o = E0
    · rw [if_pos hh] at h
      exact absurd h (nothing_ne c)
    rw [if_neg hh] at h
    refine ⟨o, rfl, hh, ?_⟩
    split at h
    · unfold letN at h
      split at h
      · exact absurd h (nothing_ne c)
      · exact absurd h (remove_ne _ c)
    · split at h
      · exact absurd h (write_ne _ c)
      · split at h
        · unfold offN at h
          split at h
          · exact absurd h (remove_ne _ c)
          · split at h
            · exact absurd h (write_ne _ c)
            · have := ask_inj h
              subst this
              exact ⟨rfl, .inr ⟨rfl, rfl⟩⟩
        · split at h
          · rename_i h2
            unfold makeN at h
            split at h
            · have := ask_inj h
              subst this
              exact ⟨rfl, .inl ⟨rfl, h2, rfl, rfl⟩⟩
            · split at h
              · exact absurd h (nothing_ne c)
              · have := ask_inj h
                subst this
                exact ⟨rfl, .inl ⟨rfl, h2, rfl, rfl⟩⟩
          · split at h
            · unfold beginN at h
              repeat' split at h
              all_goals first | exact absurd h (write_ne _ c) | exact absurd h (nothing_ne c)
            · exact absurd h (nothing_ne c)
/-- What a volume asks: that it is erased. -/
theorem volume_asks {l : List Obj} {ver : Int} {n : ByteArray} {c : Cl} (h : volumeN l ver n = askA c) : c.verb = 2 ∧ c.zone = E0 := by
  unfold volumeN at h
  repeat' split at h
  all_goals first | exact absurd h (write_ne _ c) | exact absurd h (nothing_ne c) | (have := ask_inj h; subst this; exact ⟨rfl, rfl⟩)
/-- The same in the document's order. -/
def docB (k o : Obj) (next : Int) (c : Cl) (r : Rs) : Ac :=
  if r.err = 9 then writeA { o with num := next }
  else if c.verb = 2 then (if r.err = 0 then removeA o else nothing)
  else if r.err = 13 then nothing
  else if r.err = 0 then writeA (defO (rawN o c.target k.keep r)) else writeA (backN o k next)
theorem behind_doc1 (k o : Obj) (t : Int) (c : Cl) (r : Rs) (h : c.verb = 1) (ht : c.target = handleN o) : behindB k o t c r = docB k o t c r := by
  unfold behindB docB createdN madeN
  rw [h, ht]
  by_cases h9 : r.err = 9
  · simp [h9]
  · by_cases h0 : r.err = 0
    · simp [h0]
    · simp [h9, h0]
theorem behind_doc2 (k o : Obj) (t : Int) (c : Cl) (r : Rs) (h : c.verb = 2) : behindB k o t c r = docB k o t c r := by
  unfold behindB docB erasedN
  rw [h]
  by_cases h9 : r.err = 9
  · simp [h9]
  · simp [h9]
theorem after_claim (l : List Obj) (ver : Int) (n : ByteArray) (c : Cl) (r : Rs) : afterB l ver 3 n c r = if claimN l ver n = askA c then docB (clsN l (forN l 3 n)) (forN l 3 n) (up ver) c r else nothing := by
  unfold afterB nextB
  rw [if_pos rfl]
  by_cases h : claimN l ver n = askA c
  · rw [if_pos h, if_pos h]
    obtain ⟨o, ho, -, h1, h2 | h2⟩ := claim_asks h
    · exact behind_doc1 _ _ _ _ _ h2.1 (by unfold forN; rw [ho]; exact h1)
    · exact behind_doc2 _ _ _ _ _ h2.1
  · rw [if_neg h, if_neg h]
theorem after_volume (l : List Obj) (ver : Int) (n : ByteArray) (c : Cl) (r : Rs) : afterB l ver 4 n c r = if volumeN l ver n = askA c then docB (clsN l (forN l 4 n)) (forN l 4 n) (up ver) c r else nothing := by
  have hn : nextB l ver 4 n = volumeN l ver n := by unfold nextB; rw [if_neg (show ¬ (4 : Int) = 3 by decide), if_pos rfl]
  unfold afterB
  rw [hn]
  by_cases h : volumeN l ver n = askA c
  · rw [if_pos h, if_pos h]
    exact behind_doc2 _ _ _ _ _ (volume_asks h).1
  · rw [if_neg h, if_neg h]
theorem after_other (l : List Obj) (ver k : Int) (n : ByteArray) (c : Cl) (r : Rs) (h3 : k ≠ 3) (h4 : k ≠ 4) : afterB l ver k n c r = nothing := by
  unfold afterB nextB
  rw [if_neg h3, if_neg h4, if_neg (nothing_ne c)]
theorem after_gone (l : List Obj) (ver k : Int) (n : ByteArray) (c : Cl) (r : Rs) (h : getL l k n = none) : afterB l ver k n c r = nothing := by
  by_cases h3 : k = 3
  · subst h3
    rw [after_claim, claim_none h, if_neg (nothing_ne c)]
  · by_cases h4 : k = 4
    · subst h4
      rw [after_volume, volume_none h, if_neg (nothing_ne c)]
    · exact after_other _ _ _ _ _ _ h3 h4
end Go.Proofs.YtfpdchabknoklaaDoor.O.B
namespace Go.Proofs.YtfpdchabknoklaaDoor.O
open Go.RowKit T
open Go.Lib

theorem beq_nd {a b : Int} (h : a ≠ b) : (a == b) = false := by simpa using h
theorem orPhase_any (x y : Int) (w : World) :
    Calls Tryd.prog 92 #[.int .u8 x, .int .u8 y] w fun e w' => e = .returned (.int .u8 (if x = 0 then y else x)) ∧ w = w' := by
  by_cases h : x = 0
  · subst h
    go_enter Tryd.func92, Tryd.ntmps92
    go_wp2
    go_ret
    exact ⟨by simp, rfl⟩
  · have e1 := beq_nd h
    have h' := Lib.hid h
    clear h
    go_enter Tryd.func92, Tryd.ntmps92
    go_wp2
    go_ret
    exact ⟨rfl, rfl⟩
theorem orMode_any (x y : Int) (w : World) :
    Calls Tryd.prog 93 #[.int .u8 x, .int .u8 y] w fun e w' => e = .returned (.int .u8 (if x = 0 then y else x)) ∧ w = w' := by
  by_cases h : x = 0
  · subst h
    go_enter Tryd.func93, Tryd.ntmps93
    go_wp2
    go_ret
    exact ⟨by simp, rfl⟩
  · have e1 := beq_nd h
    have h' := Lib.hid h
    clear h
    go_enter Tryd.func93, Tryd.ntmps93
    go_wp2
    go_ret
    exact ⟨rfl, rfl⟩
theorem orInt_any (x y : Int) (w : World) :
    Calls Tryd.prog 94 #[.int .i64 x, .int .i64 y] w fun e w' => e = .returned (.int .i64 (if x = 0 then y else x)) ∧ w = w' := by
  by_cases h : x = 0
  · subst h
    go_enter Tryd.func94, Tryd.ntmps94
    go_wp2
    go_ret
    exact ⟨by simp, rfl⟩
  · have e1 := beq_nd h
    have h' := Lib.hid h
    clear h
    go_enter Tryd.func94, Tryd.ntmps94
    go_wp2
    go_ret
    exact ⟨rfl, rfl⟩
def orI (x y : Int) : Int := if x = 0 then y else x
theorem orPhase' (x y : Int) (w : World) : Calls Tryd.prog 92 #[.int .u8 x, .int .u8 y] w fun e w' => e = .returned (.int .u8 (orI x y)) ∧ w = w' := orPhase_any x y w
theorem orMode' (x y : Int) (w : World) : Calls Tryd.prog 93 #[.int .u8 x, .int .u8 y] w fun e w' => e = .returned (.int .u8 (orI x y)) ∧ w = w' := orMode_any x y w
theorem orInt' (x y : Int) (w : World) : Calls Tryd.prog 94 #[.int .i64 x, .int .i64 y] w fun e w' => e = .returned (.int .i64 (orI x y)) ∧ w = w' := orInt_any x y w

set_option maxRecDepth 100000 in
set_option maxHeartbeats 2000000 in
theorem default_4 (o : Obj) (w : World) (hk : o.kind = 4) :
    Calls Tryd.prog 82 #[encO o] w fun e w' => e = .returned (encO (defO o)) ∧ Below w.heap.size w w' := by
  have hE : Hid (defO o = { o with hold := true, phase := orI o.phase 4, mode := orI o.mode 1, got := orI o.got o.size }) := by show _ = _; unfold defO; rw [if_neg (by omega), if_pos hk]; rfl
  have e3 : (o.kind == 3) = false := by rw [hk]; rfl
  have e4 : (o.kind == 4) = true := by rw [hk]; rfl
  clear hk
  unfold encO
  go_enter Tryd.func82, Tryd.ntmps82
  go_upto_region 1 with (fail)
  refine wp_gen (fun W => BoxO W w.heap.size o ∧ BoxO W (w.heap.size + 1) O0 ∧ Below w.heap.size w W) ⟨(BoxO.new w o).alloc _, heap_alloc2_new w _ _, ((Below.refl _ _).alloc (Nat.le_refl _) _).alloc (by simp) _⟩ ?_
  rintro W1 ⟨hb, hr, hlow⟩
  have c0 := hb.c0
  have n5 := hb.c5
  have f5 := hb.free 5
  go_upto_region 8 with (fail)
  refine wp_gen (fun W => BoxO W w.heap.size ({ o with hold := true }) ∧ BoxO W (w.heap.size + 1) O0 ∧ Below w.heap.size w W) ⟨hb.s5 (true), hr.other (by simp) _, hlow.setCell (by simp) _⟩ ?_
  clear hb hr hlow n5 f5 c0
  rintro W2 ⟨hb, hr, hlow⟩
  have n17 := hb.c17
  have f17 := hb.free 17
  go_upto_region 9 with ((go_at_call 92; refine (orPhase' _ _ _).mono ?_; rintro e w' ⟨rfl, rfl⟩))
  refine wp_gen (fun W => BoxO W w.heap.size ({ o with hold := true, phase := orI o.phase 4 }) ∧ BoxO W (w.heap.size + 1) O0 ∧ Below w.heap.size w W) ⟨hb.s17 (orI o.phase 4), hr.other (by simp) _, hlow.setCell (by simp) _⟩ ?_
  clear hb hr hlow n17 f17
  rintro W3 ⟨hb, hr, hlow⟩
  have n9 := hb.c9
  have f9 := hb.free 9
  go_upto_region 10 with ((go_at_call 93; refine (orMode' _ _ _).mono ?_; rintro e w' ⟨rfl, rfl⟩))
  refine wp_gen (fun W => BoxO W w.heap.size ({ o with hold := true, phase := orI o.phase 4, mode := orI o.mode 1 }) ∧ BoxO W (w.heap.size + 1) O0 ∧ Below w.heap.size w W) ⟨hb.s9 (orI o.mode 1), hr.other (by simp) _, hlow.setCell (by simp) _⟩ ?_
  clear hb hr hlow n9 f9
  rintro W4 ⟨hb, hr, hlow⟩
  have n8 := hb.c8
  have f8 := hb.free 8
  have n7 := hb.c7
  go_upto_region 16 with ((go_at_call 94; refine (orInt' _ _ _).mono ?_; rintro e w' ⟨rfl, rfl⟩))
  refine wp_gen (fun W => BoxO W w.heap.size ({ o with hold := true, phase := orI o.phase 4, mode := orI o.mode 1, got := orI o.got o.size }) ∧ BoxO W (w.heap.size + 1) O0 ∧ Below w.heap.size w W) ⟨hb.s8 (orI o.got o.size), hr.other (by simp) _, hlow.setCell (by simp) _⟩ ?_
  clear n7 hb hr hlow n8 f8
  rintro W5 ⟨hb, hr, hlow⟩
  have hb' := hE.out ▸ hb
  go_wp2_with (first | ((with_reducible refine wpList_load_row rfl 31 _ rfl w.heap.size ?_ 31 (cellsO (defO o)) (0, 0) _ ?_ undObj ?_ ?_ ?_); rfl; exact hb'; rfl; exact sizeObj) | ((with_reducible refine wpList_store_rowTo rfl 31 _ _ rfl rfl (w.heap.size + 1) (cellsO (defO o)) ?_ ?_ 31 (cellsO O0) ?_ ?_ ?_ ?_ ?_); rfl; rfl; exact hr; exact sizeObj; exact sz_cells _ _; exact one_cells _))
  refine bodyPost_ret (v := encO (defO o)) (results_cell_row rfl _ _ (w.heap.size + 1) 31 (cellsO (defO o)) (0, 0) _ rfl (hr.setRow _) undObj rfl sizeObj) rfl ?_
  exact ⟨rfl, below_setRow hlow (by omega) _⟩
end Go.Proofs.YtfpdchabknoklaaDoor.O
namespace Go.Proofs.YtfpdchabknoklaaDoor.O
open Go.RowKit T
open Go.Lib

set_option maxRecDepth 100000 in
set_option maxHeartbeats 8000000 in
theorem rdefault_00 (o : Obj) (w : World) (hk : o.kind = 4) (hp : o.phase = 3) (hm : ¬ o.mode = 0) (hg : ¬ o.got = 0) :
    Calls Tryd.prog 42 #[encO o] w fun e w' => e = .returned (encO (defO o)) ∧ Below w.heap.size w w' := by
  have hE : Hid (defO o = { o with hold := true }) := by
    show _ = _
    unfold defO
    rw [if_neg (by omega), if_pos hk]
    simp only [if_neg (show ¬ o.phase = 0 by omega), if_neg hm, if_neg hg]
  have e3 : (o.kind == 3) = false := by rw [hk]; rfl
  have e4 : (o.kind == 4) = true := by rw [hk]; rfl
  have e17 : (o.phase == 0) = false := by rw [hp]; rfl
  have e9 : (o.mode == 0) = false := by simpa using hm
  have e8 : (o.got == 0) = false := by simpa using hg
  clear hk hp hm hg
  unfold encO
  go_enter Tryd.func42, Tryd.ntmps42
  go_upto_region 1 with (fail)
  refine wp_gen (fun W => BoxO W w.heap.size o ∧ BoxO W (w.heap.size + 1) O0 ∧ Below w.heap.size w W) ⟨(BoxO.new w o).alloc _, heap_alloc2_new w _ _, ((Below.refl _ _).alloc (Nat.le_refl _) _).alloc (by simp) _⟩ ?_
  rintro W1 ⟨hb, hr, hlow⟩
  have c0 := hb.c0
  have n5 := hb.c5
  have f5 := hb.free 5
  go_upto_region 10 with (fail)
  refine wp_gen (fun W => BoxO W w.heap.size ({ o with hold := true }) ∧ BoxO W (w.heap.size + 1) O0 ∧ Below w.heap.size w W) ⟨hb.s5 (true), hr.other (by simp) _, hlow.setCell (by simp) _⟩ ?_
  clear hb hr hlow n5 f5 c0
  rintro W2 ⟨hb, hr, hlow⟩
  have n17 := hb.c17
  have n9 := hb.c9
  have n8 := hb.c8
  have hb' := hE.out ▸ hb
  go_wp2_with (first | ((with_reducible refine wpList_load_row rfl 31 _ rfl w.heap.size ?_ 31 (cellsO (defO o)) (0, 0) _ ?_ undObj ?_ ?_ ?_); rfl; exact hb'; rfl; exact sizeObj) | ((with_reducible refine wpList_store_rowTo rfl 31 _ _ rfl rfl (w.heap.size + 1) (cellsO (defO o)) ?_ ?_ 31 (cellsO O0) ?_ ?_ ?_ ?_ ?_); rfl; rfl; exact hr; exact sizeObj; exact sz_cells _ _; exact one_cells _))
  refine bodyPost_ret (v := encO (defO o)) (results_cell_row rfl _ _ (w.heap.size + 1) 31 (cellsO (defO o)) (0, 0) _ rfl (hr.setRow _) undObj rfl sizeObj) rfl ?_
  exact ⟨rfl, below_setRow hlow (by omega) _⟩
set_option maxRecDepth 100000 in
set_option maxHeartbeats 8000000 in
theorem rdefault_01 (o : Obj) (w : World) (hk : o.kind = 4) (hp : o.phase = 3) (hm : ¬ o.mode = 0) (hg : o.got = 0) :
    Calls Tryd.prog 42 #[encO o] w fun e w' => e = .returned (encO (defO o)) ∧ Below w.heap.size w w' := by
  have hE : Hid (defO o = { o with hold := true, got := o.size }) := by
    show _ = _
    unfold defO
    rw [if_neg (by omega), if_pos hk]
    simp only [if_neg (show ¬ o.phase = 0 by omega), if_neg hm, if_pos hg]
  have e3 : (o.kind == 3) = false := by rw [hk]; rfl
  have e4 : (o.kind == 4) = true := by rw [hk]; rfl
  have e17 : (o.phase == 0) = false := by rw [hp]; rfl
  have e9 : (o.mode == 0) = false := by simpa using hm
  have e8 : (o.got == 0) = true := by simpa using hg
  clear hk hp hm hg
  unfold encO
  go_enter Tryd.func42, Tryd.ntmps42
  go_upto_region 1 with (fail)
  refine wp_gen (fun W => BoxO W w.heap.size o ∧ BoxO W (w.heap.size + 1) O0 ∧ Below w.heap.size w W) ⟨(BoxO.new w o).alloc _, heap_alloc2_new w _ _, ((Below.refl _ _).alloc (Nat.le_refl _) _).alloc (by simp) _⟩ ?_
  rintro W1 ⟨hb, hr, hlow⟩
  have c0 := hb.c0
  have n5 := hb.c5
  have f5 := hb.free 5
  go_upto_region 10 with (fail)
  refine wp_gen (fun W => BoxO W w.heap.size ({ o with hold := true }) ∧ BoxO W (w.heap.size + 1) O0 ∧ Below w.heap.size w W) ⟨hb.s5 (true), hr.other (by simp) _, hlow.setCell (by simp) _⟩ ?_
  clear hb hr hlow n5 f5 c0
  rintro W2 ⟨hb, hr, hlow⟩
  have n17 := hb.c17
  have n9 := hb.c9
  have n8 := hb.c8
  have f8 := hb.free 8
  have n7 := hb.c7
  go_upto_region 23 with (fail)
  refine wp_gen (fun W => BoxO W w.heap.size ({ o with hold := true, got := o.size }) ∧ BoxO W (w.heap.size + 1) O0 ∧ Below w.heap.size w W) ⟨hb.s8 o.size, hr.other (by simp) _, hlow.setCell (by simp) _⟩ ?_
  clear hb hr hlow n8 n7 f8
  rintro W4 ⟨hb, hr, hlow⟩
  have hb' := hE.out ▸ hb
  go_wp2_with (first | ((with_reducible refine wpList_load_row rfl 31 _ rfl w.heap.size ?_ 31 (cellsO (defO o)) (0, 0) _ ?_ undObj ?_ ?_ ?_); rfl; exact hb'; rfl; exact sizeObj) | ((with_reducible refine wpList_store_rowTo rfl 31 _ _ rfl rfl (w.heap.size + 1) (cellsO (defO o)) ?_ ?_ 31 (cellsO O0) ?_ ?_ ?_ ?_ ?_); rfl; rfl; exact hr; exact sizeObj; exact sz_cells _ _; exact one_cells _))
  refine bodyPost_ret (v := encO (defO o)) (results_cell_row rfl _ _ (w.heap.size + 1) 31 (cellsO (defO o)) (0, 0) _ rfl (hr.setRow _) undObj rfl sizeObj) rfl ?_
  exact ⟨rfl, below_setRow hlow (by omega) _⟩
set_option maxRecDepth 100000 in
set_option maxHeartbeats 8000000 in
theorem rdefault_10 (o : Obj) (w : World) (hk : o.kind = 4) (hp : o.phase = 3) (hm : o.mode = 0) (hg : ¬ o.got = 0) :
    Calls Tryd.prog 42 #[encO o] w fun e w' => e = .returned (encO (defO o)) ∧ Below w.heap.size w w' := by
  have hE : Hid (defO o = { o with hold := true, mode := 1 }) := by
    show _ = _
    unfold defO
    rw [if_neg (by omega), if_pos hk]
    simp only [if_neg (show ¬ o.phase = 0 by omega), if_pos hm, if_neg hg]
  have e3 : (o.kind == 3) = false := by rw [hk]; rfl
  have e4 : (o.kind == 4) = true := by rw [hk]; rfl
  have e17 : (o.phase == 0) = false := by rw [hp]; rfl
  have e9 : (o.mode == 0) = true := by simpa using hm
  have e8 : (o.got == 0) = false := by simpa using hg
  clear hk hp hm hg
  unfold encO
  go_enter Tryd.func42, Tryd.ntmps42
  go_upto_region 1 with (fail)
  refine wp_gen (fun W => BoxO W w.heap.size o ∧ BoxO W (w.heap.size + 1) O0 ∧ Below w.heap.size w W) ⟨(BoxO.new w o).alloc _, heap_alloc2_new w _ _, ((Below.refl _ _).alloc (Nat.le_refl _) _).alloc (by simp) _⟩ ?_
  rintro W1 ⟨hb, hr, hlow⟩
  have c0 := hb.c0
  have n5 := hb.c5
  have f5 := hb.free 5
  go_upto_region 10 with (fail)
  refine wp_gen (fun W => BoxO W w.heap.size ({ o with hold := true }) ∧ BoxO W (w.heap.size + 1) O0 ∧ Below w.heap.size w W) ⟨hb.s5 (true), hr.other (by simp) _, hlow.setCell (by simp) _⟩ ?_
  clear hb hr hlow n5 f5 c0
  rintro W2 ⟨hb, hr, hlow⟩
  have n17 := hb.c17
  have n9 := hb.c9
  have f9 := hb.free 9
  go_upto_region 14 with (fail)
  refine wp_gen (fun W => BoxO W w.heap.size ({ o with hold := true, mode := 1 }) ∧ BoxO W (w.heap.size + 1) O0 ∧ Below w.heap.size w W) ⟨hb.s9 1, hr.other (by simp) _, hlow.setCell (by simp) _⟩ ?_
  clear hb hr hlow n17 n9 f9
  rintro W3 ⟨hb, hr, hlow⟩
  have n8 := hb.c8
  have hb' := hE.out ▸ hb
  go_wp2_with (first | ((with_reducible refine wpList_load_row rfl 31 _ rfl w.heap.size ?_ 31 (cellsO (defO o)) (0, 0) _ ?_ undObj ?_ ?_ ?_); rfl; exact hb'; rfl; exact sizeObj) | ((with_reducible refine wpList_store_rowTo rfl 31 _ _ rfl rfl (w.heap.size + 1) (cellsO (defO o)) ?_ ?_ 31 (cellsO O0) ?_ ?_ ?_ ?_ ?_); rfl; rfl; exact hr; exact sizeObj; exact sz_cells _ _; exact one_cells _))
  refine bodyPost_ret (v := encO (defO o)) (results_cell_row rfl _ _ (w.heap.size + 1) 31 (cellsO (defO o)) (0, 0) _ rfl (hr.setRow _) undObj rfl sizeObj) rfl ?_
  exact ⟨rfl, below_setRow hlow (by omega) _⟩
set_option maxRecDepth 100000 in
set_option maxHeartbeats 8000000 in
theorem rdefault_11 (o : Obj) (w : World) (hk : o.kind = 4) (hp : o.phase = 3) (hm : o.mode = 0) (hg : o.got = 0) :
    Calls Tryd.prog 42 #[encO o] w fun e w' => e = .returned (encO (defO o)) ∧ Below w.heap.size w w' := by
  have hE : Hid (defO o = { o with hold := true, mode := 1, got := o.size }) := by
    show _ = _
    unfold defO
    rw [if_neg (by omega), if_pos hk]
    simp only [if_neg (show ¬ o.phase = 0 by omega), if_pos hm, if_pos hg]
  have e3 : (o.kind == 3) = false := by rw [hk]; rfl
  have e4 : (o.kind == 4) = true := by rw [hk]; rfl
  have e17 : (o.phase == 0) = false := by rw [hp]; rfl
  have e9 : (o.mode == 0) = true := by simpa using hm
  have e8 : (o.got == 0) = true := by simpa using hg
  clear hk hp hm hg
  unfold encO
  go_enter Tryd.func42, Tryd.ntmps42
  go_upto_region 1 with (fail)
  refine wp_gen (fun W => BoxO W w.heap.size o ∧ BoxO W (w.heap.size + 1) O0 ∧ Below w.heap.size w W) ⟨(BoxO.new w o).alloc _, heap_alloc2_new w _ _, ((Below.refl _ _).alloc (Nat.le_refl _) _).alloc (by simp) _⟩ ?_
  rintro W1 ⟨hb, hr, hlow⟩
  have c0 := hb.c0
  have n5 := hb.c5
  have f5 := hb.free 5
  go_upto_region 10 with (fail)
  refine wp_gen (fun W => BoxO W w.heap.size ({ o with hold := true }) ∧ BoxO W (w.heap.size + 1) O0 ∧ Below w.heap.size w W) ⟨hb.s5 (true), hr.other (by simp) _, hlow.setCell (by simp) _⟩ ?_
  clear hb hr hlow n5 f5 c0
  rintro W2 ⟨hb, hr, hlow⟩
  have n17 := hb.c17
  have n9 := hb.c9
  have f9 := hb.free 9
  go_upto_region 14 with (fail)
  refine wp_gen (fun W => BoxO W w.heap.size ({ o with hold := true, mode := 1 }) ∧ BoxO W (w.heap.size + 1) O0 ∧ Below w.heap.size w W) ⟨hb.s9 1, hr.other (by simp) _, hlow.setCell (by simp) _⟩ ?_
  clear hb hr hlow n17 n9 f9
  rintro W3 ⟨hb, hr, hlow⟩
  have n8 := hb.c8
  have f8 := hb.free 8
  have n7 := hb.c7
  go_upto_region 23 with (fail)
  refine wp_gen (fun W => BoxO W w.heap.size ({ o with hold := true, mode := 1, got := o.size }) ∧ BoxO W (w.heap.size + 1) O0 ∧ Below w.heap.size w W) ⟨hb.s8 o.size, hr.other (by simp) _, hlow.setCell (by simp) _⟩ ?_
  clear hb hr hlow n8 n7 f8
  rintro W4 ⟨hb, hr, hlow⟩
  have hb' := hE.out ▸ hb
  go_wp2_with (first | ((with_reducible refine wpList_load_row rfl 31 _ rfl w.heap.size ?_ 31 (cellsO (defO o)) (0, 0) _ ?_ undObj ?_ ?_ ?_); rfl; exact hb'; rfl; exact sizeObj) | ((with_reducible refine wpList_store_rowTo rfl 31 _ _ rfl rfl (w.heap.size + 1) (cellsO (defO o)) ?_ ?_ 31 (cellsO O0) ?_ ?_ ?_ ?_ ?_); rfl; rfl; exact hr; exact sizeObj; exact sz_cells _ _; exact one_cells _))
  refine bodyPost_ret (v := encO (defO o)) (results_cell_row rfl _ _ (w.heap.size + 1) 31 (cellsO (defO o)) (0, 0) _ rfl (hr.setRow _) undObj rfl sizeObj) rfl ?_
  exact ⟨rfl, below_setRow hlow (by omega) _⟩
theorem rdefault_any (o : Obj) (w : World) (hk : o.kind = 4) (hp : o.phase = 3) : Calls Tryd.prog 42 #[encO o] w fun e w' => e = .returned (encO (defO o)) ∧ Below w.heap.size w w' := by
  by_cases hm : o.mode = 0 <;> by_cases hg : o.got = 0
  · exact rdefault_11 o w hk hp hm hg
  · exact rdefault_10 o w hk hp hm hg
  · exact rdefault_01 o w hk hp hm hg
  · exact rdefault_00 o w hk hp hm hg
end Go.Proofs.YtfpdchabknoklaaDoor.O
namespace Go.Proofs.YtfpdchabknoklaaDoor.O.B
open Go Go.RowKit Go.Shelf Go.Lib RangeMap KM
attribute [local go_sem] Oper.semAt_some

/-- Some object lies there. -/
def AnyO (W : World) (b : Nat) : Prop := ∃ o, BoxO W b o
theorem AnyO.after {W W' : World} {b : Nat} (h : AnyO W b) (hb : Below W.heap.size W W') : AnyO W' b := h.imp fun _ h => h.after hb
theorem BoxR.zone {W : World} {b : Nat} {r : Rs} (h : BoxR W b r) : W.cell? ⟨b, 2, none⟩ = some (.string r.zone) := (cell_of_row W b 2 _ _ _ h).trans rfl
theorem built_raw (h f cl zo : ByteArray) (si go mo : Int) (ke : Bool) : Tryd.prog.built 31 [(0, .int .u8 4), (1, .string h), (6, .string cl), (7, .int .i64 si), (8, .int .i64 go), (9, .int .u8 mo), (10, .bool ke), (12, .string zo), (14, .string f), (17, .int .u8 3)] = some (cellsO ⟨4, h, 0, 0, false, false, cl, si, go, mo, ke, false, zo, E0, f, E0, E0, 3, 0, 0⟩) := by kernel_rfl
theorem undRes' : Tryd.prog.underlying 43 = some (.struct (Tryd.prog.fieldsOf 43)) := by kernel_rfl
theorem sizeRes' : (Tryd.prog.info? 43).map (·.size) = some 4 := by kernel_rfl
theorem load_res {W : World} {b : Nat} {r : Rs} (h : BoxR W b r) {oi : Oper} {a : Act} {x : Operand} (ho : oi.op = .load 43 x) (hx : a.eval x = .pointer (some ⟨b, 0, none⟩)) :
    (execOp a.eval oi).run Tryd.prog W = .ok (.value (encR r)) W := by
  unfold execOp
  simp only [ho, hx, Instr.loadAt, Instr.sureAddr, Sem.run_bind, Sem.run_pure, Result.andThen_ok, run_loadVar_row W b 43 43 _ (0, 0) _ h undRes' rfl sizeRes']
  rfl

set_option maxRecDepth 100000 in
set_option maxHeartbeats 8000000 in
theorem made_any (c : Obj) (keep : Bool) (r : Rs) (w : World) (ht : Tab w) (hb : 0 ≤ c.born ∧ c.born ≤ 18446744073709551615) (hn : c.name.size ≤ 140737488351232) :
    Calls Tryd.prog 69 #[encO c, .bool keep, encR r] w fun e w' => e = .returned (encO (madeN c keep r)) ∧ Below w.heap.size w w' := by
  have HT0 := Lib.hid ht
  obtain ⟨h, hh⟩ : ∃ h, handleN c = h := ⟨_, rfl⟩
  obtain ⟨f, hf⟩ : ∃ f, refN c = f := ⟨_, rfl⟩
  have HHH := Lib.hid (fun V (hV : Tab V) => handle_any c V hV hb hn)
  have HFF := Lib.hid (fun V (hV : Tab V) => ref_any c V hV hb hn)
  rw [hh] at HHH
  rw [hf] at HFF
  unfold madeN rawN
  rw [hh, hf]
  obtain ⟨q, hq⟩ : ∃ q, (⟨4, h, 0, 0, false, false, c.cls, c.size, r.size, c.mode, keep, false, r.zone, E0, f, E0, E0, 3, 0, 0⟩ : Obj) = q := ⟨_, rfl⟩
  rw [hq]
  have HQ := Lib.hid hq
  have HDD := Lib.hid (fun V => default_4 q V (by rw [← hq]))
  obtain ⟨z, hz⟩ : ∃ z, defO q = z := ⟨_, rfl⟩
  rw [hz] at HDD ⊢
  clear ht hb hn hh hf hq hz
  unfold encO encR
  go_enter Tryd.func69, Tryd.ntmps69
  go_upto_region 1 with (fail)
  refine wp_gen (fun V => BoxO V w.heap.size c ∧ BoxR V (w.heap.size + 1) r ∧ BoxO V (w.heap.size + 1 + 1) O0 ∧ Below w.heap.size w V) (chain3 w _ _ _) ?_
  rintro V ⟨hc, hr, ho, hlw⟩
  have HC := Lib.hid hc
  have HR := Lib.hid hr
  have HO := Lib.hid (⟨_, ho⟩ : AnyO V (w.heap.size + 1 + 1))
  have HW := Lib.hid hlw
  have HT := Lib.hid (HT0.out.after hlw)
  clear hc hr ho hlw
  refine wp_region_held_drew (S := fun V => BoxO V w.heap.size c ∧ BoxR V (w.heap.size + 1) r ∧ AnyO V (w.heap.size + 1 + 1) ∧ Below w.heap.size w V ∧ Tab V) (by kernel_rfl) ⟨HC.out, HR.out, HO.out, HW.out.drew, HT.out.drew⟩ (fun _ => ?_)
  refine HeldBy.gen (fun V => BoxO V w.heap.size c ∧ BoxR V (w.heap.size + 1) r ∧ AnyO V (w.heap.size + 1 + 1) ∧ Below w.heap.size w V ∧ Tab V) ⟨HC.out, HR.out, HO.out, HW.out.drew, HT.out.drew⟩ ?_
  clear HC HR HO HW HT
  rintro U0 HS
  refine HeldBy.take (i := 0) (v := encO c) rfl (by kernel_rfl) (by kernel_rfl) (by kernel_rfl) (fun _ _ _ h => h) (by rfl) (fun V hV => load_obj hV.1 rfl rfl) (by first | (go_simp; rfl) | (go_simp; done)) HS ?_
  refine HeldBy.take (i := 2) rfl (by kernel_rfl) (by kernel_rfl) (by kernel_rfl) (fun _ _ _ h => h) (by rfl) (fun _ _ => by first | (go_simp; rfl) | (go_simp; done)) (by first | (go_simp; rfl) | (go_simp; done)) HS ?_
  refine HeldBy.take (i := 3) rfl (by kernel_rfl) (by kernel_rfl) (by kernel_rfl) (fun _ _ _ h => h) (by rfl) (fun V hV => by have hc := hV.1.c6; first | (go_simp; rfl) | (go_simp; done)) (by first | (go_simp; rfl) | (go_simp; done)) HS ?_
  refine HeldBy.take (i := 4) rfl (by kernel_rfl) (by kernel_rfl) (by kernel_rfl) (fun _ _ _ h => h) (by rfl) (fun _ _ => by first | (go_simp; rfl) | (go_simp; done)) (by first | (go_simp; rfl) | (go_simp; done)) HS ?_
  refine HeldBy.take (i := 5) rfl (by kernel_rfl) (by kernel_rfl) (by kernel_rfl) (fun _ _ _ h => h) (by rfl) (fun V hV => by have hc := hV.1.c7; first | (go_simp; rfl) | (go_simp; done)) (by first | (go_simp; rfl) | (go_simp; done)) HS ?_
  refine HeldBy.take (i := 6) rfl (by kernel_rfl) (by kernel_rfl) (by kernel_rfl) (fun _ _ _ h => h) (by rfl) (fun _ _ => by first | (go_simp; rfl) | (go_simp; done)) (by first | (go_simp; rfl) | (go_simp; done)) HS ?_
  refine HeldBy.take (i := 7) (v := .int .i64 r.size) rfl (by kernel_rfl) (by kernel_rfl) (by kernel_rfl) (fun _ _ _ h => h) (by rfl) (fun V hV => by have h1 := hV.2.1.cells.2.1; first | (go_simp; rfl) | (go_simp; done)) (by first | (go_simp; rfl) | (go_simp; done)) HS ?_
  refine HeldBy.take (i := 8) rfl (by kernel_rfl) (by kernel_rfl) (by kernel_rfl) (fun _ _ _ h => h) (by rfl) (fun _ _ => by first | (go_simp; rfl) | (go_simp; done)) (by first | (go_simp; rfl) | (go_simp; done)) HS ?_
  refine HeldBy.take (i := 9) rfl (by kernel_rfl) (by kernel_rfl) (by kernel_rfl) (fun _ _ _ h => h) (by rfl) (fun V hV => by have hc := hV.1.c9; first | (go_simp; rfl) | (go_simp; done)) (by first | (go_simp; rfl) | (go_simp; done)) HS ?_
  refine HeldBy.take (i := 10) rfl (by kernel_rfl) (by kernel_rfl) (by kernel_rfl) (fun _ _ _ h => h) (by rfl) (fun _ _ => by first | (go_simp; rfl) | (go_simp; done)) (by first | (go_simp; rfl) | (go_simp; done)) HS ?_
  refine HeldBy.take (i := 11) rfl (by kernel_rfl) (by kernel_rfl) (by kernel_rfl) (fun _ _ _ h => h) (by rfl) (fun _ _ => by first | (go_simp; rfl) | (go_simp; done)) (by first | (go_simp; rfl) | (go_simp; done)) HS ?_
  refine HeldBy.take (i := 12) (v := .string r.zone) rfl (by kernel_rfl) (by kernel_rfl) (by kernel_rfl) (fun _ _ _ h => h) (by rfl) (fun V hV => by have h1 := hV.2.1.zone; first | (go_simp; rfl) | (go_simp; done)) (by first | (go_simp; rfl) | (go_simp; done)) HS ?_
  refine HeldBy.take (i := 13) (v := encO c) rfl (by kernel_rfl) (by kernel_rfl) (by kernel_rfl) (fun _ _ _ h => h) (by rfl) (fun V hV => load_obj hV.1 rfl rfl) (by first | (go_simp; rfl) | (go_simp; done)) HS ?_
  refine HeldBy.call (i := 1) (v := .string h) rfl (by kernel_rfl) (by rfl) (by first | (go_simp; done) | (go_simp; first | exact ⟨rfl, rfl⟩ | rfl)) (by first | (go_simp; rfl) | (go_simp; done)) ?_
  refine (HHH.out _ HS.2.2.2.2).mono ?_
  rintro e U1 ⟨rfl, hb⟩
  replace HS : BoxO U1 w.heap.size c ∧ BoxR U1 (w.heap.size + 1) r ∧ AnyO U1 (w.heap.size + 1 + 1) ∧ Below w.heap.size w U1 ∧ Tab U1 := ⟨HS.1.after hb, HS.2.1.after hb, HS.2.2.1.after hb, HS.2.2.2.1.trans (hb.mono HS.2.2.2.1.size), HS.2.2.2.2.after hb⟩
  refine ⟨rfl, HS, ?_⟩
  clear hb
  refine HeldBy.call (i := 14) (v := .string f) rfl (by kernel_rfl) (by rfl) (by first | (go_simp; done) | (go_simp; first | exact ⟨rfl, rfl⟩ | rfl)) (by first | (go_simp; rfl) | (go_simp; done)) ?_
  refine (HFF.out _ HS.2.2.2.2).mono ?_
  rintro e U2 ⟨rfl, hb⟩
  replace HS : BoxO U2 w.heap.size c ∧ BoxR U2 (w.heap.size + 1) r ∧ AnyO U2 (w.heap.size + 1 + 1) ∧ Below w.heap.size w U2 ∧ Tab U2 := ⟨HS.1.after hb, HS.2.1.after hb, HS.2.2.1.after hb, HS.2.2.2.1.trans (hb.mono HS.2.2.2.1.size), HS.2.2.2.2.after hb⟩
  refine ⟨rfl, HS, ?_⟩
  clear hb
  refine HeldBy.take (i := 15) (v := encO q) rfl (by kernel_rfl) (by kernel_rfl) (by kernel_rfl) (fun _ _ _ h => h) (by rfl) (fun _ _ => by have hq := HQ.out; subst hq; exact exec_build 31 _ rfl _ (by exact built_raw h f c.cls r.zone c.size r.size c.mode keep)) (by first | (go_simp; rfl) | (go_simp; done)) HS ?_
  refine HeldBy.call (i := 16) (v := encO z) rfl (by kernel_rfl) (by rfl) (by first | (go_simp; done) | (go_simp; first | exact ⟨rfl, rfl⟩ | rfl)) (by first | (go_simp; rfl) | (go_simp; done)) ?_
  refine (HDD.out _).mono ?_
  rintro e U3 ⟨rfl, hb⟩
  replace HS : BoxO U3 w.heap.size c ∧ BoxR U3 (w.heap.size + 1) r ∧ AnyO U3 (w.heap.size + 1 + 1) ∧ Below w.heap.size w U3 ∧ Tab U3 := ⟨HS.1.after hb, HS.2.1.after hb, HS.2.2.1.after hb, HS.2.2.2.1.trans (hb.mono HS.2.2.2.1.size), HS.2.2.2.2.after hb⟩
  refine ⟨rfl, HS, ?_⟩
  clear hb
  obtain ⟨hc, hr, ho, hlw, ht⟩ := HS
  obtain ⟨p8, ho⟩ := ho
  obtain ⟨V8, hst8, ho8, hx8, hb8⟩ := storing ho z
  have HO8 := Lib.hid ho8
  have HX8 := Lib.hid (hb8 _ _ hlw (by omega))
  have hS8 : BoxO V8 w.heap.size c ∧ BoxR V8 (w.heap.size + 1) r ∧ AnyO V8 (w.heap.size + 1 + 1) ∧ Below w.heap.size w V8 ∧ Tab V8 := ⟨(hx8 _ (by omega)).trans hc, (hx8 _ (by omega)).trans hr, ⟨_, ho8⟩, HX8.out, HT0.out.after HX8.out⟩
  refine HeldBy.store (i := 17) (w' := V8) rfl (by kernel_rfl) (by rfl) (hst8 rfl rfl rfl) (by first | (go_simp; rfl) | (go_simp; done)) hS8 ?_
  refine wpAnyH_done (by kernel_rfl) ?_ _
  clear hS8 hst8 ho8 hx8 hb8 hc hr ho hlw ht
  go_wp2
  refine bodyPost_ret (v := encO z) (results_cell_row rfl _ _ (w.heap.size + 1 + 1) 31 (cellsO z) (0, 0) _ rfl HO8.out undObj rfl sizeObj) rfl ?_
  exact ⟨rfl, HX8.out⟩
end Go.Proofs.YtfpdchabknoklaaDoor.O.B
namespace Go.Proofs.YtfpdchabknoklaaDoor.O.B
open Go Go.RowKit Go.Shelf Go.Lib RangeMap KM
attribute [local go_sem] Oper.semAt_some

set_option maxRecDepth 100000 in
set_option maxHeartbeats 8000000 in
theorem afterErase_any (o : Obj) (next e0 : Int) (w : World) :
    Calls Tryd.prog 40 #[encO o, .int .u64 next, .int .i64 e0] w fun e w' => e = .returned (encA (erasedN o next e0)) ∧ Below w.heap.size w w' := by
  obtain ⟨x, hx⟩ : ∃ x, erasedN o next e0 = x := ⟨_, rfl⟩
  rw [hx]
  unfold erasedN at hx
  have HXX := Lib.hid hx
  clear hx
  unfold encO
  go_enter Tryd.func40, Tryd.ntmps40
  go_upto_region 1 with (fail)
  refine wp_gen (fun V => BoxO V w.heap.size o ∧ BoxA V (w.heap.size + 1) nothing ∧ Below w.heap.size w V) (chain2 w _ _) ?_
  rintro V ⟨hb, ho, hlw⟩
  have HB := Lib.hid hb
  have HO := Lib.hid ho
  have HW := Lib.hid hlw
  clear hb ho hlw
  by_cases h0 : e0 = 0
  · have q0 : (e0 == 0) = true := by simpa using h0
    have HVV : Hid (x = removeA o) := HXX.out.symm.trans (if_pos h0)
    clear h0 HXX
    have hbx := HB.out
    have HCA := Lib.hid (remove_any o V)
    go_wp2_with (first | ((with_reducible refine wpList_load_obj ?_ rfl ?_ hbx ?_); rfl; rfl))
    refine HCA.out.mono ?_
    rintro e W7 ⟨rfl, hb7⟩
    obtain ⟨V8, hst8, ho8, -, hb8⟩ := acting (HO.out.after hb7) (removeA o)
    have HO8 := Lib.hid ho8
    have HX8 := Lib.hid (hb8 _ _ (HW.out.trans (hb7.mono HW.out.size)) (by omega))
    clear ho8 hb8 HCA HO HW hb7 hbx
    go_wp2_with (refine wpList_skip rfl (hst8 rfl rfl rfl) ?_)
    refine bodyPost_ret (v := encA (removeA o)) (results_cell_row rfl _ _ (w.heap.size + 1) 36 (cellsA (removeA o)) (0, 0) _ rfl HO8.out undAct rfl sizeAct) rfl ?_
    exact ⟨by rw [HVV.out], HX8.out⟩
  · have q0 : (e0 == 0) = false := by simpa using h0
    have HX2 := Lib.hid (HXX.out.symm.trans (if_neg h0))
    clear h0 HXX
    by_cases h9 : e0 = 9
    · have q9 : (e0 == 9) = true := by simpa using h9
      have HVV : Hid (x = writeA { o with num := next }) := HX2.out.trans (if_pos h9)
      clear h9 HX2
      have g18 := HB.out.free 18
      have b18 := HB.out.c18
      go_upto_region 6 with (fail)
      refine wp_gen (fun V => BoxO V (w.heap.size) { o with num := next } ∧ BoxA V (w.heap.size + 1) nothing ∧ Below w.heap.size w V) ⟨(HB.out.s18 (next)), ((heap_setCell_other _ ⟨w.heap.size, 18, none⟩ (w.heap.size + 1) _ (by show w.heap.size + 1 ≠ w.heap.size; omega)).trans HO.out), (HW.out.setCell (Nat.le_refl _) _)⟩ ?_
      clear HB HO HW g18 b18
      rintro V6 ⟨hbx, ho, hlw⟩
      have HO := Lib.hid ho
      have HW := Lib.hid hlw
      clear ho hlw
      have HCA := Lib.hid (write_any { o with num := next } V6)
      go_wp2_with (first | ((with_reducible refine wpList_load_obj ?_ rfl ?_ hbx ?_); rfl; rfl))
      refine HCA.out.mono ?_
      rintro e W7 ⟨rfl, hb7⟩
      obtain ⟨V8, hst8, ho8, -, hb8⟩ := acting (HO.out.after hb7) (writeA { o with num := next })
      have HO8 := Lib.hid ho8
      have HX8 := Lib.hid (hb8 _ _ (HW.out.trans (hb7.mono HW.out.size)) (by omega))
      clear ho8 hb8 HCA HO HW hb7 hbx
      go_wp2_with (refine wpList_skip rfl (hst8 rfl rfl rfl) ?_)
      refine bodyPost_ret (v := encA (writeA { o with num := next })) (results_cell_row rfl _ _ (w.heap.size + 1) 36 (cellsA (writeA { o with num := next })) (0, 0) _ rfl HO8.out undAct rfl sizeAct) rfl ?_
      exact ⟨by rw [HVV.out], HX8.out⟩
    · have q9 : (e0 == 9) = false := by simpa using h9
      have HVV : Hid (x = nothing) := HX2.out.trans (if_neg h9)
      clear h9 HX2
      obtain ⟨V8, hst8, ho8, -, hb8⟩ := acting HO.out nothing
      have HO8 := Lib.hid ho8
      have HX8 := Lib.hid (hb8 _ _ HW.out (by omega))
      clear ho8 hb8
      go_wp2_with (first | (refine wpList_skip rfl (hst8 rfl rfl rfl) ?_) | ((with_reducible refine wpList_build_to rfl 36 _ rfl (cellsA nothing) ?_ ?_); exact built_act0'))
      refine bodyPost_ret (v := encA nothing) (results_cell_row rfl _ _ (w.heap.size + 1) 36 (cellsA nothing) (0, 0) _ rfl HO8.out undAct rfl sizeAct) rfl ?_
      exact ⟨by rw [HVV.out], HX8.out⟩

set_option maxRecDepth 100000 in
set_option maxHeartbeats 8000000 in
theorem afterCreate_any (l : List Obj) (v : Value) (c : Obj) (next : Int) (r : Rs) (w : World) (hl : ObjsIn w v l) (ht : Tab w) (hb : 0 ≤ c.born ∧ c.born ≤ 18446744073709551615) (hn : c.name.size ≤ 140737488351232) :
    Calls Tryd.prog 39 #[v, encO c, .int .u64 next, encR r] w fun e w' => e = .returned (encA (createdN c (clsN l c) next r)) ∧ Below w.heap.size w w' := by
  obtain ⟨o, cp, rfl, -, -⟩ := id hl
  have HL := Lib.hid hl
  have HT := Lib.hid ht
  obtain ⟨g, hg⟩ : ∃ g, getL l 1 c.cls = g := ⟨_, rfl⟩
  obtain ⟨k, hk⟩ : ∃ k, g.getD O0 = k := ⟨_, rfl⟩
  have hkk : clsN l c = k := by unfold clsN; rw [hg, hk]
  have HG := Lib.hid (fun V (hV : ObjsIn V (.slice o l.length cp) l) => get_any l _ 1 c.cls V hV)
  rw [hg, hk] at HG
  have HMM := Lib.hid (fun V (hV : Tab V) => made_any c k.keep r V hV hb hn)
  clear hl ht hb hn
  obtain ⟨x, hx⟩ : ∃ x, createdN c (clsN l c) next r = x := ⟨_, rfl⟩
  rw [hx]
  rw [hkk] at hx
  unfold createdN at hx
  have HXX := Lib.hid hx
  clear hx hkk hg hk
  unfold encO encR
  go_enter Tryd.func39, Tryd.ntmps39
  go_upto_region 1 with (fail)
  refine wp_gen (fun V => BoxO V w.heap.size c ∧ BoxR V (w.heap.size + 1) r ∧ BoxA V (w.heap.size + 1 + 1) nothing ∧ Below w.heap.size w V) (chain3 w _ _ _) ?_
  rintro V ⟨hb, hr, ho, hlw⟩
  have n6 := hb.c6
  have HB := Lib.hid hb
  have HR := Lib.hid hr
  have HO := Lib.hid ho
  have HW := Lib.hid hlw
  have HGV := Lib.hid (HG.out V (HL.out.after hlw))
  clear hb hr ho hlw HG HL
  go_wp2_with (fail)
  refine HGV.out.mono ?_
  rintro e W4 ⟨rfl, hb4⟩
  obtain ⟨V5, hs5, hk5, hb5, -⟩ := boxing W4 k
  have hw4 := HW.out.trans (hb4.mono HW.out.size)
  have hr5 := (HR.out.after hb4).after hb5
  obtain ⟨r0, -, -⟩ := hr5.cells
  have HK := Lib.hid hk5
  replace HR := Lib.hid hr5
  replace HB := Lib.hid ((HB.out.after hb4).after hb5)
  replace HO := Lib.hid ((HO.out.after hb4).after hb5)
  replace HW := Lib.hid (hw4.trans (hb5.mono hw4.size))
  have HTV := Lib.hid (HT.out.after HW.out)
  clear HGV hb4 hk5 hb5 hw4 hr5 HT n6
  by_cases h0 : r.err = 0
  · have e0 : (r.err == 0) = true := by simpa using h0
    have HVV : Hid (x = writeA (madeN c k.keep r)) := HXX.out.symm.trans (if_pos h0)
    clear h0 HXX
    have HM := Lib.hid (HMM.out V5 HTV.out)
    have k10 := HK.out.c10
    have hbx := HB.out
    have hrx := HR.out
    obtain ⟨z, hz⟩ : ∃ z, madeN c k.keep r = z := ⟨_, rfl⟩
    rw [hz] at HM HVV
    have HCA := Lib.hid (fun V => write_any z V)
    clear hz HMM
    go_wp2_with (first | (refine wpList_skip rfl (hs5 rfl rfl rfl) ?_) | ((with_reducible refine wpList_load_obj ?_ rfl ?_ hbx ?_); rfl; rfl) | (refine wpList_got rfl (load_res hrx rfl rfl) ?_))
    refine HM.out.mono ?_
    rintro e W6 ⟨rfl, hb6⟩
    have HO6 := Lib.hid (HO.out.after hb6)
    have HW6 := Lib.hid (HW.out.trans (hb6.mono HW.out.size))
    clear hb6 HM HO HW HTV HB HR HK hbx hrx k10 hs5 r0 e0
    go_wp2_with (fail)
    refine (HCA.out _).mono ?_
    rintro e W7 ⟨rfl, hb7⟩
    obtain ⟨V8, hst8, ho8, -, hb8⟩ := acting (HO6.out.after hb7) (writeA z)
    have HO8 := Lib.hid ho8
    have HX8 := Lib.hid (hb8 _ _ (HW6.out.trans (hb7.mono HW6.out.size)) (by omega))
    clear ho8 hb8 HCA HO6 HW6 hb7
    go_wp2_with (refine wpList_skip rfl (hst8 rfl rfl rfl) ?_)
    refine bodyPost_ret (v := encA (writeA z)) (results_cell_row rfl _ _ (w.heap.size + 1 + 1) 36 (cellsA (writeA z)) (0, 0) _ rfl HO8.out undAct rfl sizeAct) rfl ?_
    exact ⟨by rw [HVV.out], HX8.out⟩
  · have e0 : (r.err == 0) = false := by simpa using h0
    have HX2 := Lib.hid (HXX.out.symm.trans (if_neg h0))
    clear h0 HXX HMM HTV HR
    by_cases h13 : r.err = 13
    · have e13 : (r.err == 13) = true := by simpa using h13
      have HVV : Hid (x = nothing) := HX2.out.trans (if_pos h13)
      clear h13 HX2
      obtain ⟨V8, hst8, ho8, -, hb8⟩ := acting HO.out nothing
      have HO8 := Lib.hid ho8
      have HX8 := Lib.hid (hb8 _ _ HW.out (by omega))
      clear ho8 hb8
      go_wp2_with (first | (refine wpList_skip rfl (hst8 rfl rfl rfl) ?_) | ((with_reducible refine wpList_build_to rfl 36 _ rfl (cellsA nothing) ?_ ?_); exact built_act0') | (refine wpList_skip rfl (hs5 rfl rfl rfl) ?_))
      refine bodyPost_ret (v := encA nothing) (results_cell_row rfl _ _ (w.heap.size + 1 + 1) 36 (cellsA nothing) (0, 0) _ rfl HO8.out undAct rfl sizeAct) rfl ?_
      exact ⟨by rw [HVV.out], HX8.out⟩
    · have e13 : (r.err == 13) = false := by simpa using h13
      have HX3 := Lib.hid (HX2.out.trans (if_neg h13))
      clear h13 HX2
      by_cases h9 : r.err = 9
      · have e9 : (r.err == 9) = true := by simpa using h9
        have HVV : Hid (x = writeA { c with num := next }) := HX3.out.trans (if_pos h9)
        clear h9 HX3
        have g18 := HB.out.free 18
        have b18 := HB.out.c18
        go_upto_region 12 with (refine wpList_skip rfl (hs5 rfl rfl rfl) ?_)
        refine wp_gen (fun V => BoxO V (w.heap.size) { c with num := next } ∧ BoxA V (w.heap.size + 1 + 1) nothing ∧ Below w.heap.size w V) ⟨(HB.out.s18 (next)), ((heap_setCell_other _ ⟨w.heap.size, 18, none⟩ (w.heap.size + 1 + 1) _ (by show w.heap.size + 1 + 1 ≠ w.heap.size; omega)).trans HO.out), (HW.out.setCell (Nat.le_refl _) _)⟩ ?_
        clear HB HO HW g18 b18 HK
        rintro V6 ⟨hbx, ho, hlw⟩
        have HO := Lib.hid ho
        have HW := Lib.hid hlw
        clear ho hlw
        have HCA := Lib.hid (write_any { c with num := next } V6)
        go_wp2_with (first | ((with_reducible refine wpList_load_obj ?_ rfl ?_ hbx ?_); rfl; rfl))
        refine HCA.out.mono ?_
        rintro e W7 ⟨rfl, hb7⟩
        obtain ⟨V8, hst8, ho8, -, hb8⟩ := acting (HO.out.after hb7) (writeA { c with num := next })
        have HO8 := Lib.hid ho8
        have HX8 := Lib.hid (hb8 _ _ (HW.out.trans (hb7.mono HW.out.size)) (by omega))
        clear ho8 hb8 HCA HO HW hb7 hbx
        go_wp2_with (refine wpList_skip rfl (hst8 rfl rfl rfl) ?_)
        refine bodyPost_ret (v := encA (writeA { c with num := next })) (results_cell_row rfl _ _ (w.heap.size + 1 + 1) 36 (cellsA (writeA { c with num := next })) (0, 0) _ rfl HO8.out undAct rfl sizeAct) rfl ?_
        exact ⟨by rw [HVV.out], HX8.out⟩
      · have e9 : (r.err == 9) = false := by simpa using h9
        have HX4 := Lib.hid (HX3.out.trans (if_neg h9))
        clear h9 HX3
        by_cases hwt : k.wait = true
        · have HVV : Hid (x = writeA { c with phase := 1, zone := E0, node := E0, num := next }) := by show _ = _; rw [HX4.out]; unfold backN; rw [if_pos hwt]
          clear HX4
          have k11 := HK.out.c11
          rw [hwt] at k11
          have HWT := Lib.hid hwt
          clear hwt
          have g17 := HB.out.free 17
          have b17 := HB.out.c17
          have g12 := HB.out.free 12
          have b12 := HB.out.c12
          have g13 := HB.out.free 13
          have b13 := HB.out.c13
          have g18 := HB.out.free 18
          have b18 := HB.out.c18
          go_upto_region 12 with (refine wpList_skip rfl (hs5 rfl rfl rfl) ?_)
          refine wp_gen (fun V => BoxO V (w.heap.size) { c with phase := 1, zone := E0, node := E0, num := next } ∧ BoxA V (w.heap.size + 1 + 1) nothing ∧ Below w.heap.size w V) ⟨((((HB.out.s17 (1)).s12 (E0)).s13 (E0)).s18 (next)), ((heap_setCell_other _ ⟨w.heap.size, 18, none⟩ (w.heap.size + 1 + 1) _ (by show w.heap.size + 1 + 1 ≠ w.heap.size; omega)).trans ((heap_setCell_other _ ⟨w.heap.size, 13, none⟩ (w.heap.size + 1 + 1) _ (by show w.heap.size + 1 + 1 ≠ w.heap.size; omega)).trans ((heap_setCell_other _ ⟨w.heap.size, 12, none⟩ (w.heap.size + 1 + 1) _ (by show w.heap.size + 1 + 1 ≠ w.heap.size; omega)).trans ((heap_setCell_other _ ⟨w.heap.size, 17, none⟩ (w.heap.size + 1 + 1) _ (by show w.heap.size + 1 + 1 ≠ w.heap.size; omega)).trans HO.out)))), ((((HW.out.setCell (Nat.le_refl _) _).setCell (Nat.le_refl _) _).setCell (Nat.le_refl _) _).setCell (Nat.le_refl _) _)⟩ ?_
          clear HB HO HW g17 b17 g12 b12 g13 b13 g18 b18 HK k11
          rintro V6 ⟨hbx, ho, hlw⟩
          have HO := Lib.hid ho
          have HW := Lib.hid hlw
          clear ho hlw
          have HCA := Lib.hid (write_any { c with phase := 1, zone := E0, node := E0, num := next } V6)
          go_wp2_with (first | ((with_reducible refine wpList_load_obj ?_ rfl ?_ hbx ?_); rfl; rfl))
          refine HCA.out.mono ?_
          rintro e W7 ⟨rfl, hb7⟩
          obtain ⟨V8, hst8, ho8, -, hb8⟩ := acting (HO.out.after hb7) (writeA { c with phase := 1, zone := E0, node := E0, num := next })
          have HO8 := Lib.hid ho8
          have HX8 := Lib.hid (hb8 _ _ (HW.out.trans (hb7.mono HW.out.size)) (by omega))
          clear ho8 hb8 HCA HO HW hb7 hbx
          go_wp2_with (refine wpList_skip rfl (hst8 rfl rfl rfl) ?_)
          refine bodyPost_ret (v := encA (writeA { c with phase := 1, zone := E0, node := E0, num := next })) (results_cell_row rfl _ _ (w.heap.size + 1 + 1) 36 (cellsA (writeA { c with phase := 1, zone := E0, node := E0, num := next })) (0, 0) _ rfl HO8.out undAct rfl sizeAct) rfl ?_
          exact ⟨by rw [HVV.out], HX8.out⟩
        · replace hwt : k.wait = false := by simpa using hwt
          have HVV : Hid (x = writeA { c with phase := 1, zone := E0, node := c.node, num := next }) := by show _ = _; rw [HX4.out]; unfold backN; rw [if_neg (by rw [hwt]; decide)]
          clear HX4
          have k11 := HK.out.c11
          rw [hwt] at k11
          have HWT := Lib.hid hwt
          clear hwt
          have g17 := HB.out.free 17
          have b17 := HB.out.c17
          have g12 := HB.out.free 12
          have b12 := HB.out.c12
          have g18 := HB.out.free 18
          have b18 := HB.out.c18
          go_upto_region 12 with (refine wpList_skip rfl (hs5 rfl rfl rfl) ?_)
          refine wp_gen (fun V => BoxO V (w.heap.size) { c with phase := 1, zone := E0, node := c.node, num := next } ∧ BoxA V (w.heap.size + 1 + 1) nothing ∧ Below w.heap.size w V) ⟨(((HB.out.s17 (1)).s12 (E0)).s18 (next)), ((heap_setCell_other _ ⟨w.heap.size, 18, none⟩ (w.heap.size + 1 + 1) _ (by show w.heap.size + 1 + 1 ≠ w.heap.size; omega)).trans ((heap_setCell_other _ ⟨w.heap.size, 12, none⟩ (w.heap.size + 1 + 1) _ (by show w.heap.size + 1 + 1 ≠ w.heap.size; omega)).trans ((heap_setCell_other _ ⟨w.heap.size, 17, none⟩ (w.heap.size + 1 + 1) _ (by show w.heap.size + 1 + 1 ≠ w.heap.size; omega)).trans HO.out))), (((HW.out.setCell (Nat.le_refl _) _).setCell (Nat.le_refl _) _).setCell (Nat.le_refl _) _)⟩ ?_
          clear HB HO HW g17 b17 g12 b12 g18 b18 HK k11
          rintro V6 ⟨hbx, ho, hlw⟩
          have HO := Lib.hid ho
          have HW := Lib.hid hlw
          clear ho hlw
          have HCA := Lib.hid (write_any { c with phase := 1, zone := E0, node := c.node, num := next } V6)
          go_wp2_with (first | ((with_reducible refine wpList_load_obj ?_ rfl ?_ hbx ?_); rfl; rfl))
          refine HCA.out.mono ?_
          rintro e W7 ⟨rfl, hb7⟩
          obtain ⟨V8, hst8, ho8, -, hb8⟩ := acting (HO.out.after hb7) (writeA { c with phase := 1, zone := E0, node := c.node, num := next })
          have HO8 := Lib.hid ho8
          have HX8 := Lib.hid (hb8 _ _ (HW.out.trans (hb7.mono HW.out.size)) (by omega))
          clear ho8 hb8 HCA HO HW hb7 hbx
          go_wp2_with (refine wpList_skip rfl (hst8 rfl rfl rfl) ?_)
          refine bodyPost_ret (v := encA (writeA { c with phase := 1, zone := E0, node := c.node, num := next })) (results_cell_row rfl _ _ (w.heap.size + 1 + 1) 36 (cellsA (writeA { c with phase := 1, zone := E0, node := c.node, num := next })) (0, 0) _ rfl HO8.out undAct rfl sizeAct) rfl ?_
          exact ⟨by rw [HVV.out], HX8.out⟩

set_option maxRecDepth 100000 in
set_option maxHeartbeats 2000000 in
theorem nextB_any (l : List Obj) (v : Value) (ver k : Int) (n : ByteArray) (w : World) (hl : ObjsIn w v l) (ht : Tab w) (hall : ∀ s ∈ l, (0 ≤ s.born ∧ s.born ≤ 18446744073709551615) ∧ s.name.size ≤ 140737488351232) :
    Calls Tryd.prog 37 #[v, .int .u64 ver, encK k n] w fun e w' => e = .returned (encA (nextB l ver k n)) ∧ Below w.heap.size w w' := by
  obtain ⟨o, cp, rfl, -, -⟩ := id hl
  have HL := Lib.hid hl
  have HT := Lib.hid ht
  have HSN := Lib.hid (fun V (hV : ObjsIn V (.slice o l.length cp) l) (hT : Tab V) => volume_any l _ ver n V hV hT hall)
  have HCL := Lib.hid (fun V (hV : ObjsIn V (.slice o l.length cp) l) (hT : Tab V) => claim_any l _ ver n V hV hT hall)
  clear hl ht hall
  unfold nextB
  generalize claimN l ver n = A at *
  generalize volumeN l ver n = B at *
  obtain ⟨x, hx⟩ : ∃ x, (if k = 3 then A else if k = 4 then B else nothing) = x := ⟨_, rfl⟩
  rw [hx]
  have HXX := Lib.hid hx
  clear hx
  unfold encK
  go_enter Tryd.func37, Tryd.ntmps37
  go_upto_region 1 with (fail)
  refine wp_gen (fun V => BoxK V w.heap.size k n ∧ BoxA V (w.heap.size + 1) nothing ∧ Below w.heap.size w V) (chain2 w _ _) ?_
  rintro V ⟨hk, ho, hlw⟩
  have k0 : V.cell? ⟨w.heap.size, 0, none⟩ = some (.int .u8 k) := (cell_of_row V _ 0 _ _ _ hk).trans rfl
  have k1 : V.cell? ⟨w.heap.size, 1, none⟩ = some (.string n) := (cell_of_row V _ 1 _ _ _ hk).trans rfl
  have HO := Lib.hid ho
  have HW := Lib.hid hlw
  have HA := Lib.hid (HCL.out V (HL.out.after hlw) (HT.out.after hlw))
  have HB := Lib.hid (HSN.out V (HL.out.after hlw) (HT.out.after hlw))
  clear hk ho hlw HSN HCL HL HT
  by_cases h3 : k = 3
  · have e3 : (k == 3) = true := by simpa using h3
    have HVV : Hid (x = A) := HXX.out.symm.trans (if_pos h3)
    clear HXX h3 HB
    go_wp2_with (fail)
    refine HA.out.mono ?_
    rintro e W6 ⟨rfl, hb6⟩
    obtain ⟨V8, hst8, ho8, -, hb8⟩ := acting (HO.out.after hb6) A
    have HO8 := Lib.hid ho8
    have HX8 := Lib.hid (hb8 _ _ (HW.out.trans (hb6.mono HW.out.size)) (by omega))
    clear ho8 hb8 HA HO HW hb6
    go_wp2_with (refine wpList_skip rfl (hst8 rfl rfl rfl) ?_)
    refine bodyPost_ret (v := encA A) (results_cell_row rfl _ _ (w.heap.size + 1) 36 (cellsA A) (0, 0) _ rfl HO8.out undAct rfl sizeAct) rfl ?_
    exact ⟨by rw [HVV.out], HX8.out⟩
  · have e3 : (k == 3) = false := by simpa using h3
    have hxx := HXX.out.symm.trans (if_neg h3)
    clear HXX h3 HA
    by_cases h7 : k = 4
    · have e7 : (k == 4) = true := by simpa using h7
      have HVV : Hid (x = B) := hxx.trans (if_pos h7)
      clear hxx h7
      go_wp2_with (fail)
      refine HB.out.mono ?_
      rintro e W6 ⟨rfl, hb6⟩
      obtain ⟨V8, hst8, ho8, -, hb8⟩ := acting (HO.out.after hb6) B
      have HO8 := Lib.hid ho8
      have HX8 := Lib.hid (hb8 _ _ (HW.out.trans (hb6.mono HW.out.size)) (by omega))
      clear ho8 hb8 HB HO HW hb6
      go_wp2_with (refine wpList_skip rfl (hst8 rfl rfl rfl) ?_)
      refine bodyPost_ret (v := encA B) (results_cell_row rfl _ _ (w.heap.size + 1) 36 (cellsA B) (0, 0) _ rfl HO8.out undAct rfl sizeAct) rfl ?_
      exact ⟨by rw [HVV.out], HX8.out⟩
    · have e7 : (k == 4) = false := by simpa using h7
      have HVV : Hid (x = nothing) := hxx.trans (if_neg h7)
      clear hxx h7
      obtain ⟨V8, hst8, ho8, -, hb8⟩ := acting HO.out nothing
      have HO8 := Lib.hid ho8
      have HX8 := Lib.hid (hb8 _ _ HW.out (by omega))
      clear ho8 hb8 HB HO HW
      go_wp2_with (refine wpList_skip rfl (hst8 rfl rfl rfl) ?_)
      refine bodyPost_ret (v := encA nothing) (results_cell_row rfl _ _ (w.heap.size + 1) 36 (cellsA nothing) (0, 0) _ rfl HO8.out undAct rfl sizeAct) rfl ?_
      exact ⟨by rw [HVV.out], HX8.out⟩

set_option maxRecDepth 100000 in
set_option maxHeartbeats 8000000 in
theorem afterB_any (l : List Obj) (v : Value) (ver k : Int) (n : ByteArray) (c : Cl) (r : Rs) (w : World) (hl : ObjsIn w v l) (ht : Tab w) (hall : ∀ s ∈ l, (0 ≤ s.born ∧ s.born ≤ 18446744073709551615) ∧ s.name.size ≤ 140737488351232) :
    Calls Tryd.prog 11 #[v, .int .u64 ver, encK k n, encC c, encR r] w fun e w' => e = .returned (encA (afterB l ver k n c r)) ∧ Below w.heap.size w w' := by
  obtain ⟨o, cp, rfl, -, -⟩ := id hl
  have HL := Lib.hid hl
  have HT := Lib.hid ht
  have HN := Lib.hid (fun V (hV : ObjsIn V (.slice o l.length cp) l) (hT : Tab V) => nextB_any l _ ver k n V hV hT hall)
  have HG := Lib.hid (fun V (hV : ObjsIn V (.slice o l.length cp) l) => get_any l _ k n V hV)
  obtain ⟨x, hx⟩ : ∃ x, afterB l ver k n c r = x := ⟨_, rfl⟩
  rw [hx]
  unfold afterB at hx
  obtain ⟨p, hp⟩ : ∃ p, forN l k n = p := ⟨_, rfl⟩
  have hp2 : (getL l k n).getD O0 = p := hp
  have HPB : Hid ((0 ≤ p.born ∧ p.born ≤ 18446744073709551615) ∧ p.name.size ≤ 140737488351232) := by
    show _ ∧ _
    rw [← hp2]
    cases hg : getL l k n with
    | none => exact ⟨⟨by decide, by decide⟩, by decide⟩
    | some q => exact hall q (List.mem_of_find?_eq_some hg)
  rw [hp] at hx
  rw [hp2] at HG
  have HCR := Lib.hid (fun V (hV : ObjsIn V (.slice o l.length cp) l) (hT : Tab V) => afterCreate_any l _ p (up ver) r V hV hT HPB.out.1 HPB.out.2)
  have HER := Lib.hid (fun V => afterErase_any p (up ver) r.err V)
  clear hl ht hall hp hp2 HPB
  generalize nextB l ver k n = A at *
  generalize clsN l p = kc at *
  generalize (getL l k n).isSome = f at *
  have HXX := Lib.hid hx
  obtain ⟨t, ht⟩ : ∃ t, decide (A = askA c) = t := ⟨_, rfl⟩
  have HTT := Lib.hid ht
  clear hx ht
  have HKE : Hid (encK k n = .agg #[.int .u8 k, .string n]) := rfl
  unfold encR
  rw [show encC c = .agg (cellsC c) from rfl, HKE.out]
  unfold cellsC
  go_enter Tryd.func11, Tryd.ntmps11
  go_upto_region 1 with (fail)
  refine wp_gen (fun V => BoxK V w.heap.size k n ∧ BoxC V (w.heap.size + 1) c ∧ BoxR V (w.heap.size + 1 + 1) r ∧ BoxA V (w.heap.size + 1 + 1 + 1) nothing ∧ Below w.heap.size w V) (chain4 w _ _ _ _) ?_
  rintro V ⟨hk, hc, hr, ho, hlw⟩
  have HQ := Lib.hid hk
  have HC := Lib.hid hc
  have HR := Lib.hid hr
  have HO := Lib.hid ho
  have HW := Lib.hid hlw
  clear hk hc hr ho hlw
  refine wp_region_held_drew (S := fun V => BoxK V w.heap.size k n ∧ BoxC V (w.heap.size + 1) c ∧ BoxR V (w.heap.size + 1 + 1) r ∧ BoxA V (w.heap.size + 1 + 1 + 1) nothing ∧ Below w.heap.size w V) (by kernel_rfl) ⟨HQ.out, HC.out, HR.out, HO.out, HW.out.drew⟩ (fun _ => ?_)
  refine HeldBy.gen (fun V => BoxK V w.heap.size k n ∧ BoxC V (w.heap.size + 1) c ∧ BoxR V (w.heap.size + 1 + 1) r ∧ BoxA V (w.heap.size + 1 + 1 + 1) nothing ∧ Below w.heap.size w V) ⟨HQ.out, HC.out, HR.out, HO.out, HW.out.drew⟩ ?_
  clear HQ HC HR HO HW
  rintro U0 HS
  refine HeldBy.take (i := 0) rfl (by kernel_rfl) (by kernel_rfl) (by kernel_rfl) (fun _ _ _ h => h) (by rfl) (fun _ _ => by first | (go_simp; rfl) | (go_simp; done)) (by go_simp; rfl) HS ?_
  refine HeldBy.take (i := 1) rfl (by kernel_rfl) (by kernel_rfl) (by kernel_rfl) (fun _ _ _ h => h) (by rfl) (fun _ _ => by first | (go_simp; rfl) | (go_simp; done)) (by go_simp; rfl) HS ?_
  refine HeldBy.take (i := 2) (v := encK k n) rfl (by kernel_rfl) (by kernel_rfl) (by kernel_rfl) (fun _ _ _ h => h) (by rfl) (fun V hV => load_key hV.1 rfl rfl) (by go_simp; rfl) HS ?_
  refine HeldBy.take (i := 4) (v := encC c) rfl (by kernel_rfl) (by kernel_rfl) (by kernel_rfl) (fun _ _ _ h => h) (by rfl) (fun V hV => load_call hV.2.1 rfl rfl) (by go_simp; rfl) HS ?_
  refine HeldBy.call (i := 3) (v := encA A) rfl (by kernel_rfl) (by rfl) (by go_simp; exact ⟨rfl, rfl⟩) (by go_simp; rfl) ?_
  refine (HN.out _ (HL.out.after HS.2.2.2.2) (HT.out.after HS.2.2.2.2)).mono ?_
  rintro e U1 ⟨rfl, hb⟩
  replace HS : BoxK U1 w.heap.size k n ∧ BoxC U1 (w.heap.size + 1) c ∧ BoxR U1 (w.heap.size + 1 + 1) r ∧ BoxA U1 (w.heap.size + 1 + 1 + 1) nothing ∧ Below w.heap.size w U1 := ⟨HS.1.after hb, HS.2.1.after hb, HS.2.2.1.after hb, HS.2.2.2.1.after hb, HS.2.2.2.2.trans (hb.mono HS.2.2.2.2.size)⟩
  refine ⟨rfl, HS, ?_⟩
  clear hb
  refine HeldBy.call (i := 5) (v := encA (askA c)) rfl (by kernel_rfl) (by rfl) (by go_simp; exact ⟨rfl, rfl⟩) (by go_simp; rfl) ?_
  refine (ask_any c _).mono ?_
  rintro e U2 ⟨rfl, hb⟩
  replace HS : BoxK U2 w.heap.size k n ∧ BoxC U2 (w.heap.size + 1) c ∧ BoxR U2 (w.heap.size + 1 + 1) r ∧ BoxA U2 (w.heap.size + 1 + 1 + 1) nothing ∧ Below w.heap.size w U2 := ⟨HS.1.after hb, HS.2.1.after hb, HS.2.2.1.after hb, HS.2.2.2.1.after hb, HS.2.2.2.2.trans (hb.mono HS.2.2.2.2.size)⟩
  refine ⟨rfl, HS, ?_⟩
  clear hb
  refine HeldBy.take (i := 6) (v := .bool (!t)) rfl (by kernel_rfl) (by kernel_rfl) (by kernel_rfl) (fun _ _ _ h => h) (by rfl) (fun V _ => by rw [← HTT.out]; exact exec_neq_act rfl rfl rfl) (by go_simp; rfl) HS ?_
  refine wpAnyH_done (by kernel_rfl) ?_ _
  obtain ⟨hq, hc, hr, ho, hlw⟩ := HS
  cases t with
  | true =>
    have hxx := HXX.out
    rw [if_pos (of_decide_eq_true HTT.out)] at hxx
    unfold behindB at hxx
    have HXX := Lib.hid hxx
    have HO := Lib.hid ho
    have HW := Lib.hid hlw
    obtain ⟨q0, q1⟩ := hq.cells
    have HC := Lib.hid hc
    have HR := Lib.hid hr
    have HGV := Lib.hid (HG.out _ (HL.out.after hlw))
    clear hxx HTT hc hr ho hlw hq HN HG HKE
    go_wp2_with (fail)
    refine HGV.out.mono ?_
    rintro e W4 ⟨rfl, hb4⟩
    obtain ⟨V5, hs5, hk5, hb5, -⟩ := boxing W4 p
    have hw4 := HW.out.trans (hb4.mono HW.out.size)
    have hc5 := (HC.out.after hb4).after hb5
    have hr5 := (HR.out.after hb4).after hb5
    have v0 := hc5.verb
    obtain ⟨r0, -, -⟩ := hr5.cells
    replace HO := Lib.hid ((HO.out.after hb4).after hb5)
    replace HW := Lib.hid (hw4.trans (hb5.mono hw4.size))
    have hbx := hk5
    clear HGV hb4 hb5 hw4 hc5 hk5 HC HR q0 q1
    by_cases h1 : c.verb = 1
    · have e1 : (c.verb == 1) = true := by simpa using h1
      have HX2 := Lib.hid ((if_pos h1).symm.trans HXX.out)
      obtain ⟨y, hy⟩ : ∃ y, createdN p kc (up ver) r = y := ⟨_, rfl⟩
      have HVV : Hid (x = y) := HX2.out.symm.trans hy
      have HF := Lib.hid (HCR.out V5 (HL.out.after HW.out) (HT.out.after HW.out))
      rw [hy] at HF
      clear h1 HXX HX2 hy HCR HER HL HT r0
      go_wp2_with (first | (refine wpList_skip rfl (hs5 rfl rfl rfl) ?_) | ((with_reducible refine wpList_load_obj ?_ rfl ?_ hbx ?_); rfl; rfl) | (refine wpList_got rfl (load_res hr5 rfl rfl) ?_))
      clear hr5 v0 hs5 e1
      refine HF.out.mono ?_
      rintro e W7 ⟨rfl, hb7⟩
      obtain ⟨V8, hst8, ho8, -, hb8⟩ := acting (HO.out.after hb7) y
      have HO8 := Lib.hid ho8
      have HX8 := Lib.hid (hb8 _ _ (HW.out.trans (hb7.mono HW.out.size)) (by omega))
      clear ho8 hb8 HF HO HW hb7 hbx
      go_wp2_with (refine wpList_skip rfl (hst8 rfl rfl rfl) ?_)
      refine bodyPost_ret (v := encA y) (results_cell_row rfl _ _ (w.heap.size + 1 + 1 + 1) 36 (cellsA y) (0, 0) _ rfl HO8.out undAct rfl sizeAct) rfl ?_
      exact ⟨by rw [HVV.out], HX8.out⟩
    · have e1 : (c.verb == 1) = false := by simpa using h1
      have HX2 := Lib.hid ((if_neg h1).symm.trans HXX.out)
      obtain ⟨y, hy⟩ : ∃ y, erasedN p (up ver) r.err = y := ⟨_, rfl⟩
      have HVV : Hid (x = y) := HX2.out.symm.trans hy
      have HF := Lib.hid (HER.out V5)
      rw [hy] at HF
      clear h1 HXX HX2 hy HCR HER HL HT hr5
      go_wp2_with (first | (refine wpList_skip rfl (hs5 rfl rfl rfl) ?_) | ((with_reducible refine wpList_load_obj ?_ rfl ?_ hbx ?_); rfl; rfl))
      clear v0 hs5 e1 r0
      refine HF.out.mono ?_
      rintro e W7 ⟨rfl, hb7⟩
      obtain ⟨V8, hst8, ho8, -, hb8⟩ := acting (HO.out.after hb7) y
      have HO8 := Lib.hid ho8
      have HX8 := Lib.hid (hb8 _ _ (HW.out.trans (hb7.mono HW.out.size)) (by omega))
      clear ho8 hb8 HF HO HW hb7 hbx
      go_wp2_with (refine wpList_skip rfl (hst8 rfl rfl rfl) ?_)
      refine bodyPost_ret (v := encA y) (results_cell_row rfl _ _ (w.heap.size + 1 + 1 + 1) 36 (cellsA y) (0, 0) _ rfl HO8.out undAct rfl sizeAct) rfl ?_
      exact ⟨by rw [HVV.out], HX8.out⟩
  | false =>
    have hxx := HXX.out
    rw [if_neg (of_decide_eq_false HTT.out)] at hxx
    have HVV : Hid (x = nothing) := hxx.symm
    have HO := Lib.hid ho
    have HW := Lib.hid hlw
    clear hxx HTT hq hc hr ho hlw HXX HL HT HN HG HCR HER HKE
    obtain ⟨V8, hst8, ho8, -, hb8⟩ := acting HO.out nothing
    have HO8 := Lib.hid ho8
    have HX8 := Lib.hid (hb8 _ _ HW.out (by omega))
    clear ho8 hb8
    go_wp2_with (first | (refine wpList_skip rfl (hst8 rfl rfl rfl) ?_) | ((with_reducible refine wpList_build_to rfl 36 _ rfl (cellsA nothing) ?_ ?_); exact built_act0'))
    refine bodyPost_ret (v := encA nothing) (results_cell_row rfl _ _ (w.heap.size + 1 + 1 + 1) 36 (cellsA nothing) (0, 0) _ rfl HO8.out undAct rfl sizeAct) rfl ?_
    exact ⟨by rw [HVV.out], HX8.out⟩
end Go.Proofs.YtfpdchabknoklaaDoor.O.B
namespace Go.Proofs.YtfpdchabknoklaaDoor.O.B
open Go Go.RowKit Go.Shelf Go.Lib RangeMap KM
attribute [local go_sem] Oper.semAt_some

def hasC (v c : Obj) : Bool := (c.kind == 3) && decide (refN c = v.claim)
def usesV (n : ByteArray) (a : Obj) : Bool := decide (a.volume = n) && ((a.kind == 5) || ((a.kind == 7) && (a.phase == 10)))
theorem claimed_uniq (l : List Obj) (v : Obj) : claimedN l v = (uniqL l).any (hasC v) := by
  unfold claimedN
  rw [there_uniq, Bool.eq_iff_iff, List.find?_isSome, List.any_eq_true]
  unfold hasC
  simp only [List.mem_filter, decide_eq_true_eq, Bool.and_eq_true, beq_iff_eq]
  exact ⟨fun ⟨x, ⟨h1, h2⟩, h3⟩ => ⟨x, h1, h2, h3⟩, fun ⟨x, h1, h2, h3⟩ => ⟨x, ⟨h1, h2⟩, h3⟩⟩
theorem used_uniq (l : List Obj) (v : Obj) : inUseN l v = (uniqL l).any (usesV v.name) := by
  unfold inUseN atN cutN
  rw [there_uniq, there_uniq, Bool.eq_iff_iff, Bool.or_eq_true, List.find?_isSome, List.find?_isSome, List.any_eq_true]
  unfold usesV
  simp only [List.mem_filter, decide_eq_true_eq, Bool.and_eq_true, Bool.or_eq_true, beq_iff_eq]
  constructor
  · rintro (⟨x, ⟨h1, h2⟩, h3⟩ | ⟨x, ⟨h1, h2⟩, h3, h4⟩)
    · exact ⟨x, h1, h3, .inl h2⟩
    · exact ⟨x, h1, h3, .inr ⟨h2, h4⟩⟩
  · rintro ⟨x, h1, h2, h3 | ⟨h3, h4⟩⟩
    · exact .inl ⟨x, ⟨h1, h3⟩, h2⟩
    · exact .inr ⟨x, ⟨h1, h3⟩, h2, h4⟩
theorem any_no {p : Obj → Bool} {L : List Obj} (h : ∀ i (hi : i < L.length), p L[i] = false) : L.any p = false := by
  rw [List.any_eq_false]
  intro x hx
  obtain ⟨i, hi, rfl⟩ := List.mem_iff_getElem.1 hx
  rw [h i hi]
  decide
theorem any_yes {p : Obj → Bool} {L : List Obj} {i : Nat} (hi : i < L.length) (h : p L[i] = true) : L.any p = true := List.any_eq_true.2 ⟨L[i], List.getElem_mem hi, h⟩
/-- The document's way: by whether there is a claim of it, and whether it is used. -/
def volR (o : Option Obj) (cl us : Obj → Bool) (next : Int) (name : ByteArray) : Ac := match o with
  | none => nothing
  | some v => if v.phase = 4 then (if v.deleting = true ∧ v.keep = false then writeA (erasingN v next) else nothing)
    else if v.phase = 3 then (if cl v = true then nothing else writeA (givenN v next))
    else if v.phase = 6 then (if us v = true then nothing else askA ⟨2, name, v.num, 0, E0, E0, E0⟩) else nothing
theorem volR_is (l : List Obj) (ver : Int) (name : ByteArray) : volR (getL l 4 name) (fun v => (uniqL l).any (hasC v)) (fun _ => (uniqL l).any (usesV name)) (IntKind.u64.wrap (ver + 1)) name = volumeN l ver name := by
  unfold volR volumeN
  cases hg : getL l 4 name with
  | none => rfl
  | some v =>
    have hn : v.name = name := by
      have := List.find?_some hg
      simp only [Bool.and_eq_true, decide_eq_true_eq] at this
      exact this.2
    subst hn
    have hcl := claimed_uniq l v
    have hus := used_uniq l v
    dsimp only
    by_cases p4 : v.phase = 4
    · have n3 : ¬ (v.phase = 3 ∧ claimedN l v = false) := fun e => by rw [p4] at e; exact absurd e.1 (by decide)
      have n6 : ¬ (v.phase = 6 ∧ inUseN l v = false) := fun e => by rw [p4] at e; exact absurd e.1 (by decide)
      rw [if_pos p4]
      by_cases h : v.deleting = true ∧ v.keep = false
      · have y4 : v.phase = 4 ∧ v.deleting = true ∧ v.keep = false := ⟨p4, h⟩
        rw [if_pos h, if_pos y4]
      · have n4 : ¬ (v.phase = 4 ∧ v.deleting = true ∧ v.keep = false) := fun e => h e.2
        rw [if_neg h, if_neg n4, if_neg n3, if_neg n6]
    · have n4 : ¬ (v.phase = 4 ∧ v.deleting = true ∧ v.keep = false) := fun e => p4 e.1
      rw [if_neg p4, if_neg n4]
      by_cases p3 : v.phase = 3
      · have n6 : ¬ (v.phase = 6 ∧ inUseN l v = false) := fun e => by rw [p3] at e; exact absurd e.1 (by decide)
        rw [if_pos p3]
        by_cases hc : claimedN l v = true
        · have n3 : ¬ (v.phase = 3 ∧ claimedN l v = false) := fun e => by rw [hc] at e; cases e.2
          rw [if_pos (hcl.symm.trans hc), if_neg n3, if_neg n6]
        · have hc' : claimedN l v = false := by simpa using hc
          have y3 : v.phase = 3 ∧ claimedN l v = false := ⟨p3, hc'⟩
          have nc : ¬ (uniqL l).any (hasC v) = true := fun e => hc (hcl.trans e)
          rw [if_neg nc, if_pos y3]
      · have n3 : ¬ (v.phase = 3 ∧ claimedN l v = false) := fun e => p3 e.1
        rw [if_neg p3, if_neg n3]
        by_cases p6 : v.phase = 6
        · rw [if_pos p6]
          by_cases hu : inUseN l v = true
          · have n6 : ¬ (v.phase = 6 ∧ inUseN l v = false) := fun e => by rw [hu] at e; cases e.2
            rw [if_pos (hus.symm.trans hu), if_neg n6]
          · have hu' : inUseN l v = false := by simpa using hu
            have y6 : v.phase = 6 ∧ inUseN l v = false := ⟨p6, hu'⟩
            have nu : ¬ (uniqL l).any (usesV v.name) = true := fun e => hu (hus.trans e)
            rw [if_neg nu, if_pos y6]
        · have n6 : ¬ (v.phase = 6 ∧ inUseN l v = false) := fun e => p6 e.1
          rw [if_neg p6, if_neg n6]

theorem exec_eql_kind2 {W : World} {r s : Int} {v : Bool} {oi : Oper} {a : Act} {x y : Operand} {t : TypeId} (ho : oi.op = .binOp .eql 27 x y t) (hx : a.eval x = .int .u8 r) (hy : a.eval y = .int .u8 s) (hv : (r == s) = v) :
    (execOp a.eval oi).run Tryd.prog W = .ok (.value (.bool v)) W := by
  subst hv
  unfold execOp
  simp only [ho, hx, hy]
  go_simp

set_option maxRecDepth 100000 in
set_option maxHeartbeats 8000000 in
theorem rvolume_any (l : List Obj) (v : Value) (ver : Int) (name : ByteArray) (w : World) (hl : ObjsIn w v l) (hn : l.length < 100000) (ht : Tab w) (hall : ∀ s ∈ l, (0 ≤ s.born ∧ s.born ≤ 18446744073709551615) ∧ s.name.size ≤ 140737488351232) :
    Calls Tryd.prog 36 #[v, .int .u64 ver, .string name] w fun e w' => e = .returned (encA (volumeN l ver name)) ∧ Below w.heap.size w w' := by
  have HU := Lib.hid (fun V (hV : ObjsIn V v l) => uniq_any l v V hV hn)
  obtain ⟨o, cp, rfl, -, -⟩ := id hl
  have HL0 := Lib.hid hl
  have HT := Lib.hid ht
  have hvr := volR_is l ver name
  have hug := uniq_get l 4 name
  have hallu : ∀ s ∈ uniqL l, (0 ≤ s.born ∧ s.born ≤ 18446744073709551615) ∧ s.name.size ≤ 140737488351232 := fun s hs => hall s (uniq_mem hs)
  obtain ⟨x, hx⟩ : ∃ x, volumeN l ver name = x := ⟨_, rfl⟩
  rw [hx] at hvr ⊢
  obtain ⟨r, hr⟩ : ∃ r, getL l 4 name = r := ⟨_, rfl⟩
  rw [hr] at hvr hug
  generalize uniqL l = L at *
  have HG := Lib.hid (fun (V : World) (s : Value) (hV : ObjsIn V s L) => rget_any L s 4 name V hV)
  rw [hug] at HG
  have HVR := Lib.hid hvr
  have HALL := Lib.hid hallu
  clear hl hn ht hall hallu hvr hug hx hr
  go_enter Tryd.func36, Tryd.ntmps36
  go_upto_region 1 with (fail)
  refine wp_gen (fun V => BoxA V w.heap.size nothing ∧ Below w.heap.size w V) ⟨heap_alloc_new _ _, (Below.refl _ _).alloc (Nat.le_refl _) _⟩ ?_
  rintro V0 ⟨ho, hl⟩
  have HO0 := Lib.hid ho
  have HW0 := Lib.hid hl
  have HUV := Lib.hid (HU.out V0 (HL0.out.after hl))
  clear ho hl HU HL0
  go_wp2_with (fail)
  refine HUV.out.mono ?_
  rintro e W1 ⟨lv, rfl, hl1, hb1⟩
  have HO1 := Lib.hid (HO0.out.after hb1)
  have HW1 := Lib.hid (HW0.out.trans (hb1.mono HW0.out.size))
  obtain ⟨o1, c1, rfl, hm, -⟩ := id hl1
  have HL := Lib.hid hl1
  have HGV := Lib.hid (HG.out W1 _ hl1)
  clear HUV HO0 HW0 hb1 hl1 HG
  go_wp2_with (fail)
  refine HGV.out.mono ?_
  rintro e W2 ⟨rfl, hb2⟩
  obtain ⟨X, sx, ox, lx, -⟩ := boxing W2 (r.getD O0)
  have hwx := hb2.trans (lx.mono hb2.size)
  have hne : w.heap.size < W2.heap.size := Nat.lt_of_lt_of_le (Array.getElem?_eq_some_iff.1 HO1.out).1 hb2.size
  have HO := Lib.hid (HO1.out.after hwx)
  have HW := Lib.hid (HW1.out.trans (hwx.mono HW1.out.size))
  have HLX := Lib.hid (HL.out.after hwx)
  have HTX := Lib.hid (HT.out.after HW.out)
  have HNE := Lib.hid hne
  clear HGV hb2 lx hwx HO1 HW1 HL HT hne
  cases r with
  | none =>
    have HVV : Hid (x = nothing) := HVR.out.symm
    obtain ⟨V8, hst8, ho, -, hb⟩ := acting HO.out nothing
    have HO8 := Lib.hid ho
    have HX8 := Lib.hid (hb _ _ HW.out (Nat.le_refl _))
    clear ho hb HVR ox
    go_wp2_with (first | (refine wpList_skip rfl (sx rfl rfl rfl) ?_) | (refine wpList_skip rfl (hst8 rfl rfl rfl) ?_))
    refine bodyPost_ret (v := encA nothing) (results_cell_row rfl _ _ w.heap.size 36 (cellsA nothing) (0, 0) _ rfl HO8.out undAct rfl sizeAct) rfl ?_
    exact ⟨by rw [HVV.out], HX8.out⟩
  | some vo =>
    have hk : BoxO X W2.heap.size vo := ox
    have hxx : (if vo.phase = 4 then (if vo.deleting = true ∧ vo.keep = false then writeA (erasingN vo (IntKind.u64.wrap (ver + 1))) else nothing) else if vo.phase = 3 then (if L.any (hasC vo) = true then nothing else writeA (givenN vo (IntKind.u64.wrap (ver + 1)))) else if vo.phase = 6 then (if L.any (usesV name) = true then nothing else askA ⟨2, name, vo.num, 0, E0, E0, E0⟩) else nothing) = x := HVR.out
    have HX2 := Lib.hid hxx
    have v17 := hk.c17
    have HK := Lib.hid hk
    clear hxx HVR ox hk
    go_upto_region 5 with (refine wpList_skip rfl (sx rfl rfl rfl) ?_)
    clear sx
    have write6 : ∀ (u : Obj), Hid (x = writeA u) → Hid (∀ V, Calls Tryd.prog 32 #[encO u] V fun e w' => e = .returned (encA x) ∧ Below V.heap.size V w') := fun u h => by
      have h' := h.out
      subst h'
      exact fun V => rwrite_any u V
    have moved : ∀ (V : World) (a : Addr) (u : Value), a.block = W2.heap.size → BoxA V w.heap.size nothing → BoxA (V.setCell a u) w.heap.size nothing := fun V a u ha hB => (heap_setCell_other V a w.heap.size u (by have := HNE.out; rw [ha]; omega)).trans hB
    have MOVED := Lib.hid moved
    clear moved
    by_cases p4 : vo.phase = 4
    · rw [p4] at v17
      have HX3 : Hid ((if vo.deleting = true ∧ vo.keep = false then writeA (erasingN vo (IntKind.u64.wrap (ver + 1))) else nothing) = x) := by show _ = _; rw [← HX2.out, if_pos p4]
      have v4 := HK.out.c4
      have v10 := HK.out.c10
      clear HX2 p4
      cases hd : vo.deleting with
      | false =>
        have HVV : Hid (x = nothing) := by show _ = _; rw [← HX3.out, if_neg (fun h => by rw [hd] at h; cases h.1)]
        rw [hd] at v4
        clear HX3 hd
        obtain ⟨V8, hst8, ho, -, hb⟩ := acting HO.out nothing
        have HO8 := Lib.hid ho
        have HX8 := Lib.hid (hb _ _ HW.out (Nat.le_refl _))
        clear ho hb write6
        go_wp2_with (first | (refine wpList_skip rfl (hst8 rfl rfl rfl) ?_) | ((with_reducible refine wpList_build_to rfl 36 _ rfl (cellsA nothing) ?_ ?_); exact built_act0'))
        refine bodyPost_ret (v := encA nothing) (results_cell_row rfl _ _ w.heap.size 36 (cellsA nothing) (0, 0) _ rfl HO8.out undAct rfl sizeAct) rfl ?_
        exact ⟨by rw [HVV.out], HX8.out⟩
      | true =>
        rw [hd] at v4
        cases hkp : vo.keep with
        | true =>
          have HVV : Hid (x = nothing) := by show _ = _; rw [← HX3.out, if_neg (fun h => by rw [hkp] at h; cases h.2)]
          rw [hkp] at v10
          clear HX3 hd hkp
          obtain ⟨V8, hst8, ho, -, hb⟩ := acting HO.out nothing
          have HO8 := Lib.hid ho
          have HX8 := Lib.hid (hb _ _ HW.out (Nat.le_refl _))
          clear ho hb write6
          go_wp2_with (first | (refine wpList_skip rfl (hst8 rfl rfl rfl) ?_) | ((with_reducible refine wpList_build_to rfl 36 _ rfl (cellsA nothing) ?_ ?_); exact built_act0'))
          refine bodyPost_ret (v := encA nothing) (results_cell_row rfl _ _ w.heap.size 36 (cellsA nothing) (0, 0) _ rfl HO8.out undAct rfl sizeAct) rfl ?_
          exact ⟨by rw [HVV.out], HX8.out⟩
        | false =>
          have HVV : Hid (x = writeA (erasingN vo (IntKind.u64.wrap (ver + 1)))) := by show _ = _; rw [← HX3.out, if_pos ⟨hd, hkp⟩]
          rw [hkp] at v10
          clear HX3 hd hkp
          go_upto_region 9 with (fail)
          clear v17 v4 v10
          have HWR := write6 _ HVV
          have k17 := HK.out.c17
          have g17 := HK.out.free 17
          have k18 := HK.out.c18
          have g18 := HK.out.free 18
          have hle : w.heap.size ≤ W2.heap.size := Nat.le_of_lt HNE.out
          go_upto_region 10 with (fail)
          refine wp_gen (fun V => BoxO V W2.heap.size (erasingN vo (IntKind.u64.wrap (ver + 1))) ∧ BoxA V w.heap.size nothing ∧ Below w.heap.size w V) ⟨(HK.out.s17 6).s18 _, MOVED.out _ _ _ rfl (MOVED.out _ _ _ rfl HO.out), (HW.out.setCell hle _).setCell hle _⟩ ?_
          clear k17 g17 k18 g18 write6 hle
          rintro V6 ⟨hk6, ho6, hw6⟩
          have HO6 := Lib.hid ho6
          have HW6 := Lib.hid hw6
          clear ho6 hw6
          go_wp2_with ((with_reducible refine wpList_load_obj ?_ rfl ?_ hk6 ?_); rfl; rfl)
          refine (HWR.out _).mono ?_
          rintro e W7 ⟨rfl, hb7⟩
          obtain ⟨V8, hst8, ho, -, hb⟩ := acting (HO6.out.after hb7) x
          have HO8 := Lib.hid ho
          have HX8 := Lib.hid (hb _ _ (HW6.out.trans (hb7.mono HW6.out.size)) (Nat.le_refl _))
          clear ho hb HWR hb7 hk6
          go_wp2_with (refine wpList_skip rfl (hst8 rfl rfl rfl) ?_)
          refine bodyPost_ret (v := encA x) (results_cell_row rfl _ _ w.heap.size 36 (cellsA x) (0, 0) _ rfl HO8.out undAct rfl sizeAct) rfl ?_
          exact ⟨rfl, HX8.out⟩
    · have e4 : (vo.phase == 4) = false := by simpa using p4
      by_cases p3 : vo.phase = 3
      · rw [p3] at v17
        have HX3 : Hid ((if L.any (hasC vo) = true then nothing else writeA (givenN vo (IntKind.u64.wrap (ver + 1)))) = x) := by show _ = _; rw [← HX2.out, if_neg p4, if_pos p3]
        clear HX2 p3 p4 e4
        go_upto_region 12 with (fail)
        clear v17
        go_wp2_with (fail)
        go_loopw [10] (fun i wr => ∃ j : Nat, i = .int .i64 (j : Int) ∧ j ≤ L.length ∧ Hid (∀ p (hp : p < L.length), p < j → hasC vo L[p] = false) ∧ Below X.heap.size X wr) (fun i _ => L.length - (RowKit.intOf i).toNat)
        case atStart => exact ⟨0, rfl, Nat.zero_le _, by show ∀ p _, _ → _; intro p _ h; exact absurd h (by omega), Below.refl _ _⟩
        case round =>
          obtain ⟨j, rfl, hj, HNO, hlow⟩ := hrel
          have HLOW := Lib.hid hlow
          clear hlow
          by_cases hlt : j < L.length
          · have hlt' : (j : Int) < (L.length : Int) := by omega
            obtain ⟨o', c', he, -, hi⟩ := id HLX.out
            cases he
            obtain ⟨g, off, rfl, -, -⟩ := hi j hlt
            obtain ⟨y, hy⟩ : ∃ y, L[j] = y := ⟨_, rfl⟩
            have hrows : ∀ V : World, ObjsIn V (.slice (some ⟨g, off, none⟩) L.length c1) L → V.rangeAt g (off + j * 20) (cellsO y).toList := fun V hV => by
              obtain ⟨o2, c2, e2, -, h2⟩ := hV
              cases e2
              obtain ⟨g3, off3, e3, -, h3⟩ := h2 j hlt
              cases e3
              rw [← hy]
              exact h3
            have HROWS := Lib.hid hrows
            have hin := HALL.out L[j] (List.getElem_mem hlt)
            rw [hy] at hin
            have HRF := Lib.hid (fun V (hV : Tab V) => rref_any y V hV hin.1 hin.2)
            have HNX : Hid (hasC vo y = false → ∀ p (hp : p < L.length), p < j + 1 → hasC vo L[p] = false) := by
              show _ → ∀ p _, _ → _
              intro hf p hp h
              rcases Nat.lt_or_ge p j with h1 | h1
              · exact HNO.out p hp h1
              · obtain rfl : p = j := by omega
                rw [hy]
                exact hf
            have HYES : Hid (hasC vo y = true → L.any (hasC vo) = true) := fun h => any_yes hlt (by rw [hy]; exact h)
            obtain ⟨rf, hrf⟩ : ∃ rf, refN y = rf := ⟨_, rfl⟩
            rw [hrf] at HRF
            have HRFN := Lib.hid hrf
            have HLL := Lib.hid (HLX.out.after HLOW.out)
            have HKK := Lib.hid (HK.out.after HLOW.out)
            have HTT := Lib.hid (HTX.out.after HLOW.out)
            have HWW := HLOW
            clear hi hy hrows hin hrf HLOW HNO
            go_upto_region 15 with (fail)
            cases e1 : (y.kind == 3) with
            | false =>
              have K1 := Lib.hid e1
              have HF : Hid (hasC vo y = false) := by show _ = _; unfold hasC; rw [e1]; rfl
              clear e1
              refine wp_region_held_drew (S := fun V => ObjsIn V (.slice (some ⟨g, off, none⟩) L.length c1) L ∧ BoxO V W2.heap.size vo ∧ Tab V ∧ Below X.heap.size X V) (by kernel_rfl) ⟨HLL.out, HKK.out, HTT.out.drew, HWW.out.drew⟩ (fun _ => ?_)
              refine HeldBy.gen (fun V => ObjsIn V (.slice (some ⟨g, off, none⟩) L.length c1) L ∧ BoxO V W2.heap.size vo ∧ Tab V ∧ Below X.heap.size X V) ⟨HLL.out, HKK.out, HTT.out.drew, HWW.out.drew⟩ ?_
              clear HLL HKK HTT HWW
              rintro U0 HS
              refine HeldBy.take (i := 0) rfl (by kernel_rfl) (by kernel_rfl) (by kernel_rfl) (fun _ _ _ h => h) (by rfl) (fun _ _ => by first | (go_simp; rfl) | (go_simp; done)) (by go_simp; rfl) HS ?_
              refine HeldBy.take (i := 1) rfl (by kernel_rfl) (by kernel_rfl) (by kernel_rfl) (fun _ _ _ h => h) (by rfl) (fun _ _ => by first | (go_simp; rfl) | (go_simp; done)) (by go_simp; rfl) HS ?_
              refine HeldBy.take (i := 2) rfl (by kernel_rfl) (by kernel_rfl) (by kernel_rfl) (fun _ _ _ h => h) (by rfl) (fun _ _ => by first | (go_simp; rfl) | (go_simp; done)) (by go_simp; rfl) HS ?_
              refine HeldBy.take (i := 3) rfl (by kernel_rfl) (by kernel_rfl) (by kernel_rfl) (fun _ _ _ h => h) (by rfl) (fun _ _ => by first | (go_simp; rfl) | (go_simp; done)) (by go_simp; rfl) HS ?_
              refine HeldBy.take (i := 4) (v := .int .u8 y.kind) rfl (by kernel_rfl) (by kernel_rfl) (by kernel_rfl) (fun _ _ _ h => h) (by rfl) (fun V hV => by have h := row_cell (HROWS.out V hV.1) 0 _ rfl; rw [Nat.add_zero] at h; first | (go_simp; rfl) | (go_simp; done)) (by go_simp; rfl) HS ?_
              refine HeldBy.take (i := 5) (v := .bool false) rfl (by kernel_rfl) (by kernel_rfl) (by kernel_rfl) (fun _ _ _ h => h) (by rfl) (fun _ _ => exec_eql_kind2 rfl rfl rfl K1.out) (by go_simp; rfl) HS ?_
              refine HeldBy.take (i := 6) rfl (by kernel_rfl) (by kernel_rfl) (by kernel_rfl) (fun _ _ _ h => h) (by rfl) (fun _ _ => by first | (go_simp; rfl) | (go_simp; done)) (by go_simp; rfl) HS ?_
              refine HeldBy.skip (i := 7) rfl (by kernel_rfl) (by kernel_rfl) (by kernel_rfl) (fun _ _ _ h => h) (by rfl) (by go_simp; rfl) HS ?_
              refine HeldBy.skip (i := 8) rfl (by kernel_rfl) (by kernel_rfl) (by kernel_rfl) (fun _ _ _ h => h) (by rfl) (by go_simp; rfl) HS ?_
              refine HeldBy.skip (i := 9) rfl (by kernel_rfl) (by kernel_rfl) (by kernel_rfl) (fun _ _ _ h => h) (by rfl) (by go_simp; rfl) HS ?_
              refine HeldBy.skip (i := 10) rfl (by kernel_rfl) (by kernel_rfl) (by kernel_rfl) (fun _ _ _ h => h) (by rfl) (by go_simp; rfl) HS ?_
              refine HeldBy.skip (i := 11) rfl (by kernel_rfl) (by kernel_rfl) (by kernel_rfl) (fun _ _ _ h => h) (by rfl) (by go_simp; rfl) HS ?_
              refine HeldBy.skip (i := 12) rfl (by kernel_rfl) (by kernel_rfl) (by kernel_rfl) (fun _ _ _ h => h) (by rfl) (by go_simp; rfl) HS ?_
              refine HeldBy.skip (i := 13) rfl (by kernel_rfl) (by kernel_rfl) (by kernel_rfl) (fun _ _ _ h => h) (by rfl) (by go_simp; rfl) HS ?_
              refine HeldBy.skip (i := 14) rfl (by kernel_rfl) (by kernel_rfl) (by kernel_rfl) (fun _ _ _ h => h) (by rfl) (by go_simp; rfl) HS ?_
              refine HeldBy.take (i := 15) rfl (by kernel_rfl) (by kernel_rfl) (by kernel_rfl) (fun _ _ _ h => h) (by rfl) (fun _ _ => by first | (go_simp; rfl) | (go_simp; done)) (by go_simp; rfl) HS ?_
              refine wpAnyH_done (by kernel_rfl) ?_ _
              have HNN := Lib.hid (HNX.out HF.out)
              have HW5 := Lib.hid HS.2.2.2
              clear HS HROWS HRF HNX HYES HRFN K1 HF
              go_wp2
              go_roundw
              case rel => exact ⟨j + 1, by go_num, by omega, HNN, HW5.out⟩
              case measure => simp [RowKit.intOf]; omega
            | true =>
              have K1 := Lib.hid e1
              by_cases e3 : rf = vo.claim
              · have K3 : Hid (decide (rf = vo.claim) = true) := decide_eq_true e3
                have HAY : Hid (L.any (hasC vo) = true) := HYES.out (by unfold hasC; rw [e1, HRFN.out, decide_eq_true e3]; rfl)
                have HVV : Hid (x = nothing) := by show _ = _; rw [← HX3.out, if_pos HAY.out]
                clear e1 e3 HAY
                refine wp_region_held_drew (S := fun V => ObjsIn V (.slice (some ⟨g, off, none⟩) L.length c1) L ∧ BoxO V W2.heap.size vo ∧ Tab V ∧ Below X.heap.size X V) (by kernel_rfl) ⟨HLL.out, HKK.out, HTT.out.drew, HWW.out.drew⟩ (fun _ => ?_)
                refine HeldBy.gen (fun V => ObjsIn V (.slice (some ⟨g, off, none⟩) L.length c1) L ∧ BoxO V W2.heap.size vo ∧ Tab V ∧ Below X.heap.size X V) ⟨HLL.out, HKK.out, HTT.out.drew, HWW.out.drew⟩ ?_
                clear HLL HKK HTT HWW
                rintro U0 HS
                refine HeldBy.take (i := 0) rfl (by kernel_rfl) (by kernel_rfl) (by kernel_rfl) (fun _ _ _ h => h) (by rfl) (fun _ _ => by first | (go_simp; rfl) | (go_simp; done)) (by go_simp; rfl) HS ?_
                refine HeldBy.take (i := 1) rfl (by kernel_rfl) (by kernel_rfl) (by kernel_rfl) (fun _ _ _ h => h) (by rfl) (fun _ _ => by first | (go_simp; rfl) | (go_simp; done)) (by go_simp; rfl) HS ?_
                refine HeldBy.take (i := 2) rfl (by kernel_rfl) (by kernel_rfl) (by kernel_rfl) (fun _ _ _ h => h) (by rfl) (fun _ _ => by first | (go_simp; rfl) | (go_simp; done)) (by go_simp; rfl) HS ?_
                refine HeldBy.take (i := 3) rfl (by kernel_rfl) (by kernel_rfl) (by kernel_rfl) (fun _ _ _ h => h) (by rfl) (fun _ _ => by first | (go_simp; rfl) | (go_simp; done)) (by go_simp; rfl) HS ?_
                refine HeldBy.take (i := 4) (v := .int .u8 y.kind) rfl (by kernel_rfl) (by kernel_rfl) (by kernel_rfl) (fun _ _ _ h => h) (by rfl) (fun V hV => by have h := row_cell (HROWS.out V hV.1) 0 _ rfl; rw [Nat.add_zero] at h; first | (go_simp; rfl) | (go_simp; done)) (by go_simp; rfl) HS ?_
                refine HeldBy.take (i := 5) (v := .bool true) rfl (by kernel_rfl) (by kernel_rfl) (by kernel_rfl) (fun _ _ _ h => h) (by rfl) (fun _ _ => exec_eql_kind2 rfl rfl rfl K1.out) (by go_simp; rfl) HS ?_
                refine HeldBy.take (i := 6) rfl (by kernel_rfl) (by kernel_rfl) (by kernel_rfl) (fun _ _ _ h => h) (by rfl) (fun _ _ => by first | (go_simp; rfl) | (go_simp; done)) (by go_simp; rfl) HS ?_
                refine HeldBy.take (i := 7) rfl (by kernel_rfl) (by kernel_rfl) (by kernel_rfl) (fun _ _ _ h => h) (by rfl) (fun _ _ => by first | (go_simp; rfl) | (go_simp; done)) (by go_simp; rfl) HS ?_
                refine HeldBy.take (i := 8) rfl (by kernel_rfl) (by kernel_rfl) (by kernel_rfl) (fun _ _ _ h => h) (by rfl) (fun _ _ => by first | (go_simp; rfl) | (go_simp; done)) (by go_simp; rfl) HS ?_
                refine HeldBy.take (i := 9) rfl (by kernel_rfl) (by kernel_rfl) (by kernel_rfl) (fun _ _ _ h => h) (by rfl) (fun _ _ => by first | (go_simp; rfl) | (go_simp; done)) (by go_simp; rfl) HS ?_
                refine HeldBy.take (i := 10) (v := encO y) rfl (by kernel_rfl) (by kernel_rfl) (by kernel_rfl) (fun _ _ _ h => h) (by rfl) (fun V hV => load_mid (HROWS.out V hV.1) rfl rfl) (by go_simp; rfl) HS ?_
                refine HeldBy.take (i := 12) rfl (by kernel_rfl) (by kernel_rfl) (by kernel_rfl) (fun _ _ _ h => h) (by rfl) (fun _ _ => by first | (go_simp; rfl) | (go_simp; done)) (by go_simp; rfl) HS ?_
                refine HeldBy.take (i := 13) (v := .string vo.claim) rfl (by kernel_rfl) (by kernel_rfl) (by kernel_rfl) (fun _ _ _ h => h) (by rfl) (fun V hV => by have h := hV.2.1.c14; first | (go_simp; rfl) | (go_simp; done)) (by go_simp; rfl) HS ?_
                refine HeldBy.call (i := 11) (v := .string rf) rfl (by kernel_rfl) (by rfl) (by go_simp; exact ⟨rfl, rfl⟩) (by go_simp; rfl) ?_
                refine (HRF.out _ HS.2.2.1).mono ?_
                rintro e U1 ⟨rfl, hb⟩
                replace HS : ObjsIn U1 (.slice (some ⟨g, off, none⟩) L.length c1) L ∧ BoxO U1 W2.heap.size vo ∧ Tab U1 ∧ Below X.heap.size X U1 := ⟨HS.1.after hb, HS.2.1.after hb, HS.2.2.1.after hb, HS.2.2.2.trans (hb.mono HS.2.2.2.size)⟩
                refine ⟨rfl, HS, ?_⟩
                clear hb
                refine HeldBy.take (i := 14) (v := .bool true) rfl (by kernel_rfl) (by kernel_rfl) (by kernel_rfl) (fun _ _ _ h => h) (by rfl) (fun _ _ => exec_eql_str rfl rfl rfl K3.out) (by go_simp; rfl) HS ?_
                refine HeldBy.take (i := 15) rfl (by kernel_rfl) (by kernel_rfl) (by kernel_rfl) (fun _ _ _ h => h) (by rfl) (fun _ _ => by first | (go_simp; rfl) | (go_simp; done)) (by go_simp; rfl) HS ?_
                refine wpAnyH_done (by kernel_rfl) ?_ _
                have HWZ := Lib.hid HS.2.2.2
                have HOZ := Lib.hid (HO.out.after HWZ.out)
                have HWY := Lib.hid (HW.out.trans (HWZ.out.mono HW.out.size))
                clear HS HROWS HRF HNX HYES HRFN K1 K3 HX3
                obtain ⟨V8, hst8, ho, -, hb⟩ := acting HOZ.out nothing
                have HO8 := Lib.hid ho
                have HX8 := Lib.hid (hb _ _ HWY.out (Nat.le_refl _))
                clear ho hb write6
                go_wp2_with (first | (refine wpList_skip rfl (hst8 rfl rfl rfl) ?_) | ((with_reducible refine wpList_build_to rfl 36 _ rfl (cellsA nothing) ?_ ?_); exact built_act0'))
                refine bodyPost_ret (v := encA nothing) (results_cell_row rfl _ _ w.heap.size 36 (cellsA nothing) (0, 0) _ rfl HO8.out undAct rfl sizeAct) rfl ?_
                exact ⟨by rw [HVV.out], HX8.out⟩
              · have K3 : Hid (decide (rf = vo.claim) = false) := decide_eq_false e3
                have HF : Hid (hasC vo y = false) := by show _ = _; unfold hasC; rw [HRFN.out, decide_eq_false e3, Bool.and_false]
                clear e1 e3
                refine wp_region_held_drew (S := fun V => ObjsIn V (.slice (some ⟨g, off, none⟩) L.length c1) L ∧ BoxO V W2.heap.size vo ∧ Tab V ∧ Below X.heap.size X V) (by kernel_rfl) ⟨HLL.out, HKK.out, HTT.out.drew, HWW.out.drew⟩ (fun _ => ?_)
                refine HeldBy.gen (fun V => ObjsIn V (.slice (some ⟨g, off, none⟩) L.length c1) L ∧ BoxO V W2.heap.size vo ∧ Tab V ∧ Below X.heap.size X V) ⟨HLL.out, HKK.out, HTT.out.drew, HWW.out.drew⟩ ?_
                clear HLL HKK HTT HWW
                rintro U0 HS
                refine HeldBy.take (i := 0) rfl (by kernel_rfl) (by kernel_rfl) (by kernel_rfl) (fun _ _ _ h => h) (by rfl) (fun _ _ => by first | (go_simp; rfl) | (go_simp; done)) (by go_simp; rfl) HS ?_
                refine HeldBy.take (i := 1) rfl (by kernel_rfl) (by kernel_rfl) (by kernel_rfl) (fun _ _ _ h => h) (by rfl) (fun _ _ => by first | (go_simp; rfl) | (go_simp; done)) (by go_simp; rfl) HS ?_
                refine HeldBy.take (i := 2) rfl (by kernel_rfl) (by kernel_rfl) (by kernel_rfl) (fun _ _ _ h => h) (by rfl) (fun _ _ => by first | (go_simp; rfl) | (go_simp; done)) (by go_simp; rfl) HS ?_
                refine HeldBy.take (i := 3) rfl (by kernel_rfl) (by kernel_rfl) (by kernel_rfl) (fun _ _ _ h => h) (by rfl) (fun _ _ => by first | (go_simp; rfl) | (go_simp; done)) (by go_simp; rfl) HS ?_
                refine HeldBy.take (i := 4) (v := .int .u8 y.kind) rfl (by kernel_rfl) (by kernel_rfl) (by kernel_rfl) (fun _ _ _ h => h) (by rfl) (fun V hV => by have h := row_cell (HROWS.out V hV.1) 0 _ rfl; rw [Nat.add_zero] at h; first | (go_simp; rfl) | (go_simp; done)) (by go_simp; rfl) HS ?_
                refine HeldBy.take (i := 5) (v := .bool true) rfl (by kernel_rfl) (by kernel_rfl) (by kernel_rfl) (fun _ _ _ h => h) (by rfl) (fun _ _ => exec_eql_kind2 rfl rfl rfl K1.out) (by go_simp; rfl) HS ?_
                refine HeldBy.take (i := 6) rfl (by kernel_rfl) (by kernel_rfl) (by kernel_rfl) (fun _ _ _ h => h) (by rfl) (fun _ _ => by first | (go_simp; rfl) | (go_simp; done)) (by go_simp; rfl) HS ?_
                refine HeldBy.take (i := 7) rfl (by kernel_rfl) (by kernel_rfl) (by kernel_rfl) (fun _ _ _ h => h) (by rfl) (fun _ _ => by first | (go_simp; rfl) | (go_simp; done)) (by go_simp; rfl) HS ?_
                refine HeldBy.take (i := 8) rfl (by kernel_rfl) (by kernel_rfl) (by kernel_rfl) (fun _ _ _ h => h) (by rfl) (fun _ _ => by first | (go_simp; rfl) | (go_simp; done)) (by go_simp; rfl) HS ?_
                refine HeldBy.take (i := 9) rfl (by kernel_rfl) (by kernel_rfl) (by kernel_rfl) (fun _ _ _ h => h) (by rfl) (fun _ _ => by first | (go_simp; rfl) | (go_simp; done)) (by go_simp; rfl) HS ?_
                refine HeldBy.take (i := 10) (v := encO y) rfl (by kernel_rfl) (by kernel_rfl) (by kernel_rfl) (fun _ _ _ h => h) (by rfl) (fun V hV => load_mid (HROWS.out V hV.1) rfl rfl) (by go_simp; rfl) HS ?_
                refine HeldBy.take (i := 12) rfl (by kernel_rfl) (by kernel_rfl) (by kernel_rfl) (fun _ _ _ h => h) (by rfl) (fun _ _ => by first | (go_simp; rfl) | (go_simp; done)) (by go_simp; rfl) HS ?_
                refine HeldBy.take (i := 13) (v := .string vo.claim) rfl (by kernel_rfl) (by kernel_rfl) (by kernel_rfl) (fun _ _ _ h => h) (by rfl) (fun V hV => by have h := hV.2.1.c14; first | (go_simp; rfl) | (go_simp; done)) (by go_simp; rfl) HS ?_
                refine HeldBy.call (i := 11) (v := .string rf) rfl (by kernel_rfl) (by rfl) (by go_simp; exact ⟨rfl, rfl⟩) (by go_simp; rfl) ?_
                refine (HRF.out _ HS.2.2.1).mono ?_
                rintro e U1 ⟨rfl, hb⟩
                replace HS : ObjsIn U1 (.slice (some ⟨g, off, none⟩) L.length c1) L ∧ BoxO U1 W2.heap.size vo ∧ Tab U1 ∧ Below X.heap.size X U1 := ⟨HS.1.after hb, HS.2.1.after hb, HS.2.2.1.after hb, HS.2.2.2.trans (hb.mono HS.2.2.2.size)⟩
                refine ⟨rfl, HS, ?_⟩
                clear hb
                refine HeldBy.take (i := 14) (v := .bool false) rfl (by kernel_rfl) (by kernel_rfl) (by kernel_rfl) (fun _ _ _ h => h) (by rfl) (fun _ _ => exec_eql_str rfl rfl rfl K3.out) (by go_simp; rfl) HS ?_
                refine HeldBy.take (i := 15) rfl (by kernel_rfl) (by kernel_rfl) (by kernel_rfl) (fun _ _ _ h => h) (by rfl) (fun _ _ => by first | (go_simp; rfl) | (go_simp; done)) (by go_simp; rfl) HS ?_
                refine wpAnyH_done (by kernel_rfl) ?_ _
                have HNN := Lib.hid (HNX.out HF.out)
                have HW5 := Lib.hid HS.2.2.2
                clear HS HROWS HRF HNX HYES HRFN K1 K3 HF
                go_wp2
                go_roundw
                case rel => exact ⟨j + 1, by go_num, by omega, HNN, HW5.out⟩
                case measure => simp [RowKit.intOf]; omega
          · have hlt' : ¬ (j : Int) < (L.length : Int) := by omega
            have HVW : Hid (x = writeA (givenN vo (IntKind.u64.wrap (ver + 1)))) := by
              show _ = _
              rw [← HX3.out, any_no (fun i hi => HNO.out i hi (by omega)), if_neg (by decide)]
            have HKW := Lib.hid (HK.out.after HLOW.out)
            have HOW := Lib.hid (HO.out.after HLOW.out)
            have HWW := Lib.hid (HW.out.trans (HLOW.out.mono HW.out.size))
            have v10 := HKW.out.c10
            clear HX3 HNO HLOW HO HW HLX HTX HALL
            cases hkp : vo.keep with
            | true =>
              have HVV : Hid (x = writeA { vo with phase := 5 }) := by show _ = _; rw [HVW.out]; unfold givenN; rw [if_pos hkp]
              rw [hkp] at v10
              clear HVW hkp
              go_upto_region 18 with (fail)
              clear v10
              have HWR := write6 _ HVV
              have k17 := HKW.out.c17
              have g17 := HKW.out.free 17
              have k18 := HKW.out.c18
              have g18 := HKW.out.free 18
              have hle : w.heap.size ≤ W2.heap.size := Nat.le_of_lt HNE.out
              go_upto_region 19 with (fail)
              refine wp_gen (fun V => BoxO V W2.heap.size ({ vo with phase := 5 }) ∧ BoxA V w.heap.size nothing ∧ Below w.heap.size w V) ⟨HKW.out.s17 5, MOVED.out _ _ _ rfl HOW.out, HWW.out.setCell hle _⟩ ?_
              clear k17 g17 k18 g18 write6 hle
              rintro V6 ⟨hk6, ho6, hw6⟩
              have HO6 := Lib.hid ho6
              have HW6 := Lib.hid hw6
              clear ho6 hw6
              go_wp2_with ((with_reducible refine wpList_load_obj ?_ rfl ?_ hk6 ?_); rfl; rfl)
              refine (HWR.out _).mono ?_
              rintro e W7 ⟨rfl, hb7⟩
              obtain ⟨V8, hst8, ho, -, hb⟩ := acting (HO6.out.after hb7) x
              have HO8 := Lib.hid ho
              have HX8 := Lib.hid (hb _ _ (HW6.out.trans (hb7.mono HW6.out.size)) (Nat.le_refl _))
              clear ho hb HWR hb7 hk6
              go_wp2_with (refine wpList_skip rfl (hst8 rfl rfl rfl) ?_)
              refine bodyPost_ret (v := encA x) (results_cell_row rfl _ _ w.heap.size 36 (cellsA x) (0, 0) _ rfl HO8.out undAct rfl sizeAct) rfl ?_
              exact ⟨rfl, HX8.out⟩
            | false =>
              have HVV : Hid (x = writeA (erasingN vo (IntKind.u64.wrap (ver + 1)))) := by show _ = _; rw [HVW.out]; unfold givenN; rw [if_neg (by rw [hkp]; decide)]
              rw [hkp] at v10
              clear HVW hkp
              go_upto_region 20 with (fail)
              clear v10
              have HWR := write6 _ HVV
              have k17 := HKW.out.c17
              have g17 := HKW.out.free 17
              have k18 := HKW.out.c18
              have g18 := HKW.out.free 18
              have hle : w.heap.size ≤ W2.heap.size := Nat.le_of_lt HNE.out
              go_upto_region 21 with (fail)
              refine wp_gen (fun V => BoxO V W2.heap.size (erasingN vo (IntKind.u64.wrap (ver + 1))) ∧ BoxA V w.heap.size nothing ∧ Below w.heap.size w V) ⟨(HKW.out.s17 6).s18 _, MOVED.out _ _ _ rfl (MOVED.out _ _ _ rfl HOW.out), (HWW.out.setCell hle _).setCell hle _⟩ ?_
              clear k17 g17 k18 g18 write6 hle
              rintro V6 ⟨hk6, ho6, hw6⟩
              have HO6 := Lib.hid ho6
              have HW6 := Lib.hid hw6
              clear ho6 hw6
              go_wp2_with ((with_reducible refine wpList_load_obj ?_ rfl ?_ hk6 ?_); rfl; rfl)
              refine (HWR.out _).mono ?_
              rintro e W7 ⟨rfl, hb7⟩
              obtain ⟨V8, hst8, ho, -, hb⟩ := acting (HO6.out.after hb7) x
              have HO8 := Lib.hid ho
              have HX8 := Lib.hid (hb _ _ (HW6.out.trans (hb7.mono HW6.out.size)) (Nat.le_refl _))
              clear ho hb HWR hb7 hk6
              go_wp2_with (refine wpList_skip rfl (hst8 rfl rfl rfl) ?_)
              refine bodyPost_ret (v := encA x) (results_cell_row rfl _ _ w.heap.size 36 (cellsA x) (0, 0) _ rfl HO8.out undAct rfl sizeAct) rfl ?_
              exact ⟨rfl, HX8.out⟩
      · have e3 : (vo.phase == 3) = false := by simpa using p3
        by_cases p6 : vo.phase = 6
        · rw [p6] at v17
          have HX3 : Hid ((if L.any (usesV name) = true then nothing else askA ⟨2, name, vo.num, 0, E0, E0, E0⟩) = x) := by show _ = _; rw [← HX2.out, if_neg p4, if_neg p3, if_pos p6]
          clear HX2 p3 p4 p6 e4 e3
          go_upto_region 23 with (fail)
          clear v17
          go_wp2_with (fail)
          go_loop [11] (fun i => ∃ j : Nat, i = .int .i64 (j : Int) ∧ j ≤ L.length ∧ Hid (∀ p (hp : p < L.length), p < j → usesV name L[p] = false)) (fun i => L.length - (RowKit.intOf i).toNat)
          case atStart => exact ⟨0, rfl, Nat.zero_le _, by show ∀ p _, _ → _; intro p _ h; exact absurd h (by omega)⟩
          case round =>
            obtain ⟨j, rfl, hj, HNO⟩ := hrel
            by_cases hlt : j < L.length
            · have hlt' : (j : Int) < (L.length : Int) := by omega
              obtain ⟨o', c', he, -, hi⟩ := id HLX.out
              cases he
              obtain ⟨g, off, rfl, -, hrow⟩ := hi j hlt
              obtain ⟨y, hy⟩ : ∃ y, L[j] = y := ⟨_, rfl⟩
              rw [hy] at hrow
              have r0 := row_cell hrow 0 _ rfl
              have r15 := row_cell hrow 15 _ rfl
              have r17 := row_cell hrow 17 _ rfl
              rw [Nat.add_zero] at r0
              have HNX : Hid (usesV name y = false → ∀ p (hp : p < L.length), p < j + 1 → usesV name L[p] = false) := by
                show _ → ∀ p _, _ → _
                intro hf p hp h
                rcases Nat.lt_or_ge p j with h1 | h1
                · exact HNO.out p hp h1
                · obtain rfl : p = j := by omega
                  rw [hy]
                  exact hf
              have HYES : Hid (usesV name y = true → x = nothing) := fun h => by rw [← HX3.out, if_pos (any_yes hlt (by rw [hy]; exact h))]
              clear hi hy hrow HNO
              cases e1 : (y.volume.toList == name.toList) with
              | false =>
                have HNN := Lib.hid (HNX.out (by unfold usesV; rw [← eqB, e1]; rfl))
                clear HNX HYES HX3 HK HO HW HLX HTX HALL write6 MOVED HNE
                go_wp2
                go_round
                case rel => exact ⟨j + 1, by go_num, by omega, HNN⟩
                case measure => simp [RowKit.intOf]; omega
              | true =>
                cases e2 : (y.kind == 5) with
                | true =>
                  have HVV : Hid (x = nothing) := HYES.out (by unfold usesV; rw [← eqB, e1, e2]; rfl)
                  clear HNX HYES HX3
                  obtain ⟨V8, hst8, ho, -, hb⟩ := acting HO.out nothing
                  have HO8 := Lib.hid ho
                  have HX8 := Lib.hid (hb _ _ HW.out (Nat.le_refl _))
                  clear ho hb write6
                  go_wp2_with (first | (refine wpList_skip rfl (hst8 rfl rfl rfl) ?_) | ((with_reducible refine wpList_build_to rfl 36 _ rfl (cellsA nothing) ?_ ?_); exact built_act0'))
                  refine bodyPost_ret (v := encA nothing) (results_cell_row rfl _ _ w.heap.size 36 (cellsA nothing) (0, 0) _ rfl HO8.out undAct rfl sizeAct) rfl ?_
                  exact ⟨by rw [HVV.out], HX8.out⟩
                | false =>
                  cases e5 : (y.kind == 7) with
                  | false =>
                    have HNN := Lib.hid (HNX.out (by unfold usesV; rw [← eqB, e1, e2, e5]; rfl))
                    clear HNX HYES HX3 HK HO HW HLX HTX HALL write6 MOVED HNE
                    go_wp2
                    go_round
                    case rel => exact ⟨j + 1, by go_num, by omega, HNN⟩
                    case measure => simp [RowKit.intOf]; omega
                  | true =>
                    cases e6 : (y.phase == 10) with
                    | false =>
                      have HNN := Lib.hid (HNX.out (by unfold usesV; rw [← eqB, e1, e2, e5, e6]; rfl))
                      clear HNX HYES HX3 HK HO HW HLX HTX HALL write6 MOVED HNE
                      go_wp2
                      go_round
                      case rel => exact ⟨j + 1, by go_num, by omega, HNN⟩
                      case measure => simp [RowKit.intOf]; omega
                    | true =>
                      have HVV : Hid (x = nothing) := HYES.out (by unfold usesV; rw [← eqB, e1, e2, e5, e6]; rfl)
                      clear HNX HYES HX3
                      obtain ⟨V8, hst8, ho, -, hb⟩ := acting HO.out nothing
                      have HO8 := Lib.hid ho
                      have HX8 := Lib.hid (hb _ _ HW.out (Nat.le_refl _))
                      clear ho hb write6
                      go_wp2_with (first | (refine wpList_skip rfl (hst8 rfl rfl rfl) ?_) | ((with_reducible refine wpList_build_to rfl 36 _ rfl (cellsA nothing) ?_ ?_); exact built_act0'))
                      refine bodyPost_ret (v := encA nothing) (results_cell_row rfl _ _ w.heap.size 36 (cellsA nothing) (0, 0) _ rfl HO8.out undAct rfl sizeAct) rfl ?_
                      exact ⟨by rw [HVV.out], HX8.out⟩
            · have hlt' : ¬ (j : Int) < (L.length : Int) := by omega
              have HVV : Hid (x = askA ⟨2, name, vo.num, 0, E0, E0, E0⟩) := by
                show _ = _
                rw [← HX3.out, any_no (fun i hi => HNO.out i hi (by omega)), if_neg (by decide)]
              have HBG := Lib.hid (built_give name vo.num)
              obtain ⟨k, hkc⟩ : ∃ k : Cl, (⟨2, name, vo.num, 0, E0, E0, E0⟩ : Cl) = k := ⟨_, rfl⟩
              rw [hkc] at HVV HBG
              have HAS := Lib.hid (fun V => rask_any k V)
              have v18 := HK.out.c18
              clear HX3 HNO hkc HK HLX HTX HALL write6
              go_wp2_with ((with_reducible refine wpList_build_to rfl 34 _ rfl (cellsC k) ?_ ?_); exact HBG.out)
              refine (HAS.out _).mono ?_
              rintro e W7 ⟨rfl, hb7⟩
              obtain ⟨V8, hst8, ho, -, hb⟩ := acting (HO.out.after hb7) (askA k)
              have HO8 := Lib.hid ho
              have HX8 := Lib.hid (hb _ _ (HW.out.trans (hb7.mono HW.out.size)) (Nat.le_refl _))
              clear ho hb HAS hb7 v18
              go_wp2_with (refine wpList_skip rfl (hst8 rfl rfl rfl) ?_)
              refine bodyPost_ret (v := encA (askA k)) (results_cell_row rfl _ _ w.heap.size 36 (cellsA (askA k)) (0, 0) _ rfl HO8.out undAct rfl sizeAct) rfl ?_
              exact ⟨by rw [HVV.out], HX8.out⟩
        · have e6 : (vo.phase == 6) = false := by simpa using p6
          have HVV : Hid (x = nothing) := by show _ = _; rw [← HX2.out, if_neg p4, if_neg p3, if_neg p6]
          clear HX2 p3 p4 p6
          obtain ⟨V8, hst8, ho, -, hb⟩ := acting HO.out nothing
          have HO8 := Lib.hid ho
          have HX8 := Lib.hid (hb _ _ HW.out (Nat.le_refl _))
          clear ho hb write6
          go_wp2_with (first | (refine wpList_skip rfl (hst8 rfl rfl rfl) ?_) | ((with_reducible refine wpList_build_to rfl 36 _ rfl (cellsA nothing) ?_ ?_); exact built_act0'))
          refine bodyPost_ret (v := encA nothing) (results_cell_row rfl _ _ w.heap.size 36 (cellsA nothing) (0, 0) _ rfl HO8.out undAct rfl sizeAct) rfl ?_
          exact ⟨by rw [HVV.out], HX8.out⟩
end Go.Proofs.YtfpdchabknoklaaDoor.O.B
