/- BindAfters: for every input the law answers true, and its arguments read as they did. The tables that the library reads are tied to the program's text. -/
import Derived.Test.YtfpdchabknoklaaDoorBAf
import Derived.Test.YtfpdchabknoklaaDoorKOut
import Derived.Test.YtfpdchabknoklaaDoorBAg1
import Derived.Test.YtfpdchabknoklaaDoorBAg3
import Derived.ProofKit
import Derived.Below
import Derived.Carry
import Derived.OpenShut
import Derived.Test.YtfpdchabknoklaaDoorBObjs
import Derived.Deep.Fields
import Derived.Deep.Slices
import Derived.Deep.Strs
import Derived.SizedLaws
import Derived.Test.YtfpdchabknoklaaDoorCards
import Derived.Test.YtfpdchabknoklaaDoorTie
import Derived.Test.YtfpdchabknoklaaDoorBStr
import Derived.Deep.DeepHandedRow
import Derived.Lib.LaidTab
import Derived.Stop.LaidErr
namespace Go.Proofs.YtfpdchabknoklaaDoor.O.B
open Go Go.RowKit Go.Shelf Go.Lib RangeMap KM
attribute [local go_sem] Oper.semAt_some

set_option maxRecDepth 100000 in
set_option maxHeartbeats 8000000 in
theorem rafC_gone (l : List Obj) (v : Value) (ver : Int) (n : ByteArray) (c : Cl) (r : Rs) (w : World) (hl : ObjsIn w v l) (hlen : l.length < 100000) (ht : Tab w) (hall : ∀ s ∈ l, (0 ≤ s.born ∧ s.born ≤ 18446744073709551615) ∧ s.name.size ≤ 140737488351232) (p : Obj) (hg : getL l 3 n = some p) (he : claimN l ver n = askA c) (h9 : ¬ r.err = 9) (v2 : c.verb = 2) (h0 : r.err = 0) :
    Calls Tryd.prog 12 #[v, .int .u64 ver, encK 3 n, encC c, encR r] w fun e w' => e = .returned (encA (afterB l ver 3 n c r)) ∧ Below w.heap.size w w' := by
  obtain ⟨o, cp, rfl, -, -⟩ := id hl
  have HL := Lib.hid hl
  have HT := Lib.hid ht
  have HUN := Lib.hid (fun V (hV : ObjsIn V (.slice o l.length cp) l) => uniq_any l _ V hV hlen)
  have hul : (uniqL l).length < 100000 := Nat.lt_of_le_of_lt (uniq_len l) hlen
  have HGG := Lib.hid (fun (V : World) (u : Value) (hV : ObjsIn V u (uniqL l)) => show Calls _ _ _ V (fun e w' => e = .returned (.tuple #[encO ((getL l 3 n).getD O0), .bool (getL l 3 n).isSome]) ∧ Below V.heap.size V w') by rw [← uniq_get l 3 n]; exact rget_any (uniqL l) u 3 n V hV)
  have HCC := Lib.hid (fun (V : World) (u : Value) (hV : ObjsIn V u (uniqL l)) (hT : Tab V) => show Calls _ _ _ V (fun e w' => e = .returned (encA (claimN l ver n)) ∧ Below V.heap.size V w') by rw [← claimN_uniq l ver n]; exact rclaim_any (uniqL l) u ver n V hV hul hT (fun s hs => hall s (uniq_mem hs)))
  obtain ⟨x, hx⟩ : ∃ x, afterB l ver 3 n c r = x := ⟨_, rfl⟩
  rw [hx]
  rw [after_claim] at hx
  have hf : forN l 3 n = p := by unfold forN; rw [hg]; rfl
  rw [hf] at hx
  rw [hg] at HGG
  rw [if_pos he] at hx
  have hA : (claimN l ver n).act = 3 := by rw [he]; rfl
  have hne0 : (claimN l ver n).call = c := by rw [he]; rfl
  have HNA := Lib.hid hne0
  unfold docB at hx
  have HFh9 := Lib.hid h9
  clear h9
  have HFv2 := Lib.hid v2
  clear v2
  have HFh0 := Lib.hid h0
  clear h0
  generalize claimN l ver n = A at *
  generalize uniqL l = L at *
  have HXX := Lib.hid hx
  clear hx hg hf he hne0
  clear hl ht hlen hall hul
  have HKE : Hid (encK 3 n = .agg #[.int .u8 3, .string n]) := rfl
  unfold encR
  rw [show encC c = .agg (cellsC c) from rfl, HKE.out]
  unfold cellsC
  go_enter Tryd.func12, Tryd.ntmps12
  go_upto_region 1 with (fail)
  refine wp_gen (fun V => BoxK V w.heap.size 3 n ∧ BoxC V (w.heap.size + 1) c ∧ BoxR V (w.heap.size + 1 + 1) r ∧ BoxA V (w.heap.size + 1 + 1 + 1) nothing ∧ Below w.heap.size w V) (chain4 w _ _ _ _) ?_
  rintro V ⟨hk, hc, hr, ho, hlw⟩
  have HU := Lib.hid (HUN.out V (HL.out.after hlw))
  have HQ := Lib.hid hk
  have HC := Lib.hid hc
  have HR := Lib.hid hr
  have HO := Lib.hid ho
  have HW := Lib.hid hlw
  clear hk hc hr ho hlw HUN HL HKE
  go_wp2_with (fail)
  refine HU.out.mono ?_
  rintro e W1 ⟨u, rfl, hu, hb1⟩
  obtain ⟨o1, c1, rfl, -, -⟩ := id hu
  have HUU := Lib.hid hu
  have hlw := HW.out.trans (hb1.mono HW.out.size)
  have hq1 := HQ.out.after hb1
  obtain ⟨k0, k1⟩ := hq1.cells
  replace HQ := Lib.hid hq1
  replace HC := Lib.hid (HC.out.after hb1)
  replace HR := Lib.hid (HR.out.after hb1)
  replace HO := Lib.hid (HO.out.after hb1)
  replace HW := Lib.hid hlw
  have HD := Lib.hid (HGG.out W1 _ hu)
  clear HU hu hb1 hlw hq1 HGG
  go_wp2_with (fail)
  refine HD.out.mono ?_
  rintro e W2 ⟨rfl, hb2⟩
  obtain ⟨V3, hs3, hk3, hb3, -⟩ := boxing W2 p
  have HNE : Hid (w.heap.size + 1 + 1 + 1 < W2.heap.size) := Nat.lt_of_lt_of_le HO.out.lt hb2.size
  have hw2 := HW.out.trans (hb2.mono HW.out.size)
  obtain ⟨V4, hs4, ha4, -, hb4⟩ := acting (show BoxA (V3.alloc (.cells (cellsA nothing) 36 (0, 0))) V3.heap.size nothing from heap_alloc_new _ _) nothing
  have hbel : Below V3.heap.size V3 V4 := hb4 _ _ ((Below.refl _ _).alloc (Nat.le_refl _) _) (Nat.le_refl _)
  have hb5 := hb3.trans (hbel.mono hb3.size)
  have hu2 := HUU.out.after hb2
  have hq4 := (HQ.out.after hb2).after hb5
  replace HQ := Lib.hid hq4
  replace HC := Lib.hid ((HC.out.after hb2).after hb5)
  replace HR := Lib.hid ((HR.out.after hb2).after hb5)
  replace HO := Lib.hid ((HO.out.after hb2).after hb5)
  replace HUU := Lib.hid ((HUU.out.after hb2).after hb5)
  replace HW := Lib.hid (hw2.trans (hb5.mono hw2.size))
  have HB := Lib.hid (hk3.after hbel)
  have HA := Lib.hid ha4
  have HTV := Lib.hid (HT.out.after HW.out)
  have HT0 := Lib.hid HT.out
  have HU3 := Lib.hid ((hu2 : ObjsIn W2 _ L).after hb3)
  have HV34 := Lib.hid hbel
  have HB3 : Hid (W2.heap.size < V3.heap.size) := hk3.lt
  clear k0 k1
  obtain ⟨k0, k1⟩ := hq4.cells
  clear HD hb2 hk3 hb3 hu2 hw2 ha4 hb4 hbel hb5 hq4 HT
  have HD := Lib.hid (HCC.out V4 _ HUU.out HTV.out)
  clear HCC
  go_wp2_with (first | (refine wpList_skip rfl (hs3 rfl rfl rfl) ?_) | (refine wpList_skip rfl (hs4 rfl rfl rfl) ?_) | ((with_reducible refine wpList_build_to rfl 36 _ rfl (cellsA nothing) ?_ ?_); exact built_act0'))
  refine HD.out.mono ?_
  rintro e W5 ⟨rfl, hb5⟩
  obtain ⟨V6, hs6, ha6, hx6, hb6⟩ := acting (HA.out.after hb5) A
  have HVN : Hid (W2.heap.size < V3.heap.size) := HB3.out
  have hlo : ∀ B X, Below B X V4 → B ≤ V3.heap.size → Below B X V6 := fun B X h1 h2 => hb6 B X (h1.trans (hb5.mono (Nat.le_trans h2 HV34.out.size))) h2
  have hcc : BoxC V6 (w.heap.size + 1) c := (hx6 _ (by have := HNE.out; have := HVN.out; omega)).trans (HC.out.after hb5)
  obtain ⟨c0, -⟩ := hcc.cells
  have hr6 : BoxR V6 (w.heap.size + 1 + 1) r := (hx6 _ (by have := HNE.out; have := HVN.out; omega)).trans (HR.out.after hb5)
  obtain ⟨r0, r1, r3⟩ := hr6.cells
  have ho6 : BoxA V6 (w.heap.size + 1 + 1 + 1) nothing := (hx6 _ (by have := HNE.out; have := HVN.out; omega)).trans (HO.out.after hb5)
  have hbb : BoxO V6 W2.heap.size p := (hx6 _ (by have := HVN.out; omega)).trans (HB.out.after hb5)
  have hw6 := hlo _ _ HW.out (by have := HNE.out; have := HVN.out; omega)
  have hu6 := (HU3.out.after (hlo _ _ HV34.out (Nat.le_refl _)))
  have ht6 := HT0.out.after hw6
  have a0 := ha6.kind
  have hca := ha6.callAt
  have HC := Lib.hid hcc
  replace HR := Lib.hid hr6
  replace HO := Lib.hid ho6
  replace HB := Lib.hid hbb
  replace HW := Lib.hid hw6
  have HU6 := Lib.hid hu6
  replace HTV := Lib.hid ht6
  clear HD hb5 ha6 hx6 hb6 hlo hr6 ho6 hbb hw6 hu6 ht6 HQ HUU HU3 HT0 HV34 HA k0 k1 hs3 hs4 HB3 HVN
  have e3 : (A.act == 3) = true := by simpa using hA
  have e3' : (A.act != 3) = false := by simpa using hA
  have hne := HNA.out
  clear hA HNA
  have h9 := HFh9.out
  have v2 := HFv2.out
  have h0 := HFh0.out
  clear HFh9 HFv2 HFh0
  have e9 : (r.err == 9) = false := by simpa using h9
  have e2 : (c.verb == 2) = true := by simpa using v2
  have HX3 := Lib.hid (HXX.out.symm.trans ((if_neg h9).trans (if_pos v2)))
  clear h9 v2 HXX HU6 HTV
  have e0 : (r.err == 0) = true := by simpa using h0
  have HVV : Hid (x = removeA p) := HX3.out.trans (if_pos h0)
  have hbx := HB.out
  clear h0 HX3
  have HCA := Lib.hid (rremove_any p V6)
  go_wp2_with (first | ((with_reducible refine wpList_load_obj ?_ rfl ?_ hbx ?_); rfl; rfl) | (refine wpList_skip rfl (hs6 rfl rfl rfl) ?_) | (refine wpList_got rfl (load_callAt hca rfl rfl) ?_) | (refine wpList_got rfl (load_call hcc rfl rfl) ?_) | (refine wpList_got rfl (exec_neq_at hne rfl rfl rfl) ?_))
  refine HCA.out.mono ?_
  rintro e W7 ⟨rfl, hb7⟩
  obtain ⟨V8, hst8, ho8, -, hb8⟩ := acting (HO.out.after hb7) (removeA p)
  have HO8 := Lib.hid ho8
  have HX8 := Lib.hid (hb8 _ _ (HW.out.trans (hb7.mono HW.out.size)) (by omega))
  clear ho8 hb8 HCA HO HW hb7 hbx
  go_wp2_with (refine wpList_skip rfl (hst8 rfl rfl rfl) ?_)
  refine bodyPost_ret (v := encA (removeA p)) (results_cell_row rfl _ _ (w.heap.size + 1 + 1 + 1) 36 (cellsA (removeA p)) (0, 0) _ rfl HO8.out undAct rfl sizeAct) rfl ?_
  exact ⟨by rw [HVV.out], HX8.out⟩
set_option maxRecDepth 100000 in
set_option maxHeartbeats 8000000 in
theorem rafC_not (l : List Obj) (v : Value) (ver : Int) (n : ByteArray) (c : Cl) (r : Rs) (w : World) (hl : ObjsIn w v l) (hlen : l.length < 100000) (ht : Tab w) (hall : ∀ s ∈ l, (0 ≤ s.born ∧ s.born ≤ 18446744073709551615) ∧ s.name.size ≤ 140737488351232) (p : Obj) (hg : getL l 3 n = some p) (he : claimN l ver n = askA c) (h9 : ¬ r.err = 9) (v2 : c.verb = 2) (h0 : ¬ r.err = 0) :
    Calls Tryd.prog 12 #[v, .int .u64 ver, encK 3 n, encC c, encR r] w fun e w' => e = .returned (encA (afterB l ver 3 n c r)) ∧ Below w.heap.size w w' := by
  obtain ⟨o, cp, rfl, -, -⟩ := id hl
  have HL := Lib.hid hl
  have HT := Lib.hid ht
  have HUN := Lib.hid (fun V (hV : ObjsIn V (.slice o l.length cp) l) => uniq_any l _ V hV hlen)
  have hul : (uniqL l).length < 100000 := Nat.lt_of_le_of_lt (uniq_len l) hlen
  have HGG := Lib.hid (fun (V : World) (u : Value) (hV : ObjsIn V u (uniqL l)) => show Calls _ _ _ V (fun e w' => e = .returned (.tuple #[encO ((getL l 3 n).getD O0), .bool (getL l 3 n).isSome]) ∧ Below V.heap.size V w') by rw [← uniq_get l 3 n]; exact rget_any (uniqL l) u 3 n V hV)
  have HCC := Lib.hid (fun (V : World) (u : Value) (hV : ObjsIn V u (uniqL l)) (hT : Tab V) => show Calls _ _ _ V (fun e w' => e = .returned (encA (claimN l ver n)) ∧ Below V.heap.size V w') by rw [← claimN_uniq l ver n]; exact rclaim_any (uniqL l) u ver n V hV hul hT (fun s hs => hall s (uniq_mem hs)))
  obtain ⟨x, hx⟩ : ∃ x, afterB l ver 3 n c r = x := ⟨_, rfl⟩
  rw [hx]
  rw [after_claim] at hx
  have hf : forN l 3 n = p := by unfold forN; rw [hg]; rfl
  rw [hf] at hx
  rw [hg] at HGG
  rw [if_pos he] at hx
  have hA : (claimN l ver n).act = 3 := by rw [he]; rfl
  have hne0 : (claimN l ver n).call = c := by rw [he]; rfl
  have HNA := Lib.hid hne0
  unfold docB at hx
  have HFh9 := Lib.hid h9
  clear h9
  have HFv2 := Lib.hid v2
  clear v2
  have HFh0 := Lib.hid h0
  clear h0
  generalize claimN l ver n = A at *
  generalize uniqL l = L at *
  have HXX := Lib.hid hx
  clear hx hg hf he hne0
  clear hl ht hlen hall hul
  have HKE : Hid (encK 3 n = .agg #[.int .u8 3, .string n]) := rfl
  unfold encR
  rw [show encC c = .agg (cellsC c) from rfl, HKE.out]
  unfold cellsC
  go_enter Tryd.func12, Tryd.ntmps12
  go_upto_region 1 with (fail)
  refine wp_gen (fun V => BoxK V w.heap.size 3 n ∧ BoxC V (w.heap.size + 1) c ∧ BoxR V (w.heap.size + 1 + 1) r ∧ BoxA V (w.heap.size + 1 + 1 + 1) nothing ∧ Below w.heap.size w V) (chain4 w _ _ _ _) ?_
  rintro V ⟨hk, hc, hr, ho, hlw⟩
  have HU := Lib.hid (HUN.out V (HL.out.after hlw))
  have HQ := Lib.hid hk
  have HC := Lib.hid hc
  have HR := Lib.hid hr
  have HO := Lib.hid ho
  have HW := Lib.hid hlw
  clear hk hc hr ho hlw HUN HL HKE
  go_wp2_with (fail)
  refine HU.out.mono ?_
  rintro e W1 ⟨u, rfl, hu, hb1⟩
  obtain ⟨o1, c1, rfl, -, -⟩ := id hu
  have HUU := Lib.hid hu
  have hlw := HW.out.trans (hb1.mono HW.out.size)
  have hq1 := HQ.out.after hb1
  obtain ⟨k0, k1⟩ := hq1.cells
  replace HQ := Lib.hid hq1
  replace HC := Lib.hid (HC.out.after hb1)
  replace HR := Lib.hid (HR.out.after hb1)
  replace HO := Lib.hid (HO.out.after hb1)
  replace HW := Lib.hid hlw
  have HD := Lib.hid (HGG.out W1 _ hu)
  clear HU hu hb1 hlw hq1 HGG
  go_wp2_with (fail)
  refine HD.out.mono ?_
  rintro e W2 ⟨rfl, hb2⟩
  obtain ⟨V3, hs3, hk3, hb3, -⟩ := boxing W2 p
  have HNE : Hid (w.heap.size + 1 + 1 + 1 < W2.heap.size) := Nat.lt_of_lt_of_le HO.out.lt hb2.size
  have hw2 := HW.out.trans (hb2.mono HW.out.size)
  obtain ⟨V4, hs4, ha4, -, hb4⟩ := acting (show BoxA (V3.alloc (.cells (cellsA nothing) 36 (0, 0))) V3.heap.size nothing from heap_alloc_new _ _) nothing
  have hbel : Below V3.heap.size V3 V4 := hb4 _ _ ((Below.refl _ _).alloc (Nat.le_refl _) _) (Nat.le_refl _)
  have hb5 := hb3.trans (hbel.mono hb3.size)
  have hu2 := HUU.out.after hb2
  have hq4 := (HQ.out.after hb2).after hb5
  replace HQ := Lib.hid hq4
  replace HC := Lib.hid ((HC.out.after hb2).after hb5)
  replace HR := Lib.hid ((HR.out.after hb2).after hb5)
  replace HO := Lib.hid ((HO.out.after hb2).after hb5)
  replace HUU := Lib.hid ((HUU.out.after hb2).after hb5)
  replace HW := Lib.hid (hw2.trans (hb5.mono hw2.size))
  have HB := Lib.hid (hk3.after hbel)
  have HA := Lib.hid ha4
  have HTV := Lib.hid (HT.out.after HW.out)
  have HT0 := Lib.hid HT.out
  have HU3 := Lib.hid ((hu2 : ObjsIn W2 _ L).after hb3)
  have HV34 := Lib.hid hbel
  have HB3 : Hid (W2.heap.size < V3.heap.size) := hk3.lt
  clear k0 k1
  obtain ⟨k0, k1⟩ := hq4.cells
  clear HD hb2 hk3 hb3 hu2 hw2 ha4 hb4 hbel hb5 hq4 HT
  have HD := Lib.hid (HCC.out V4 _ HUU.out HTV.out)
  clear HCC
  go_wp2_with (first | (refine wpList_skip rfl (hs3 rfl rfl rfl) ?_) | (refine wpList_skip rfl (hs4 rfl rfl rfl) ?_) | ((with_reducible refine wpList_build_to rfl 36 _ rfl (cellsA nothing) ?_ ?_); exact built_act0'))
  refine HD.out.mono ?_
  rintro e W5 ⟨rfl, hb5⟩
  obtain ⟨V6, hs6, ha6, hx6, hb6⟩ := acting (HA.out.after hb5) A
  have HVN : Hid (W2.heap.size < V3.heap.size) := HB3.out
  have hlo : ∀ B X, Below B X V4 → B ≤ V3.heap.size → Below B X V6 := fun B X h1 h2 => hb6 B X (h1.trans (hb5.mono (Nat.le_trans h2 HV34.out.size))) h2
  have hcc : BoxC V6 (w.heap.size + 1) c := (hx6 _ (by have := HNE.out; have := HVN.out; omega)).trans (HC.out.after hb5)
  obtain ⟨c0, -⟩ := hcc.cells
  have hr6 : BoxR V6 (w.heap.size + 1 + 1) r := (hx6 _ (by have := HNE.out; have := HVN.out; omega)).trans (HR.out.after hb5)
  obtain ⟨r0, r1, r3⟩ := hr6.cells
  have ho6 : BoxA V6 (w.heap.size + 1 + 1 + 1) nothing := (hx6 _ (by have := HNE.out; have := HVN.out; omega)).trans (HO.out.after hb5)
  have hbb : BoxO V6 W2.heap.size p := (hx6 _ (by have := HVN.out; omega)).trans (HB.out.after hb5)
  have hw6 := hlo _ _ HW.out (by have := HNE.out; have := HVN.out; omega)
  have hu6 := (HU3.out.after (hlo _ _ HV34.out (Nat.le_refl _)))
  have ht6 := HT0.out.after hw6
  have a0 := ha6.kind
  have hca := ha6.callAt
  have HC := Lib.hid hcc
  replace HR := Lib.hid hr6
  replace HO := Lib.hid ho6
  replace HB := Lib.hid hbb
  replace HW := Lib.hid hw6
  have HU6 := Lib.hid hu6
  replace HTV := Lib.hid ht6
  clear HD hb5 ha6 hx6 hb6 hlo hr6 ho6 hbb hw6 hu6 ht6 HQ HUU HU3 HT0 HV34 HA k0 k1 hs3 hs4 HB3 HVN
  have e3 : (A.act == 3) = true := by simpa using hA
  have e3' : (A.act != 3) = false := by simpa using hA
  have hne := HNA.out
  clear hA HNA
  have h9 := HFh9.out
  have v2 := HFv2.out
  have h0 := HFh0.out
  clear HFh9 HFv2 HFh0
  have e9 : (r.err == 9) = false := by simpa using h9
  have e2 : (c.verb == 2) = true := by simpa using v2
  have HX3 := Lib.hid (HXX.out.symm.trans ((if_neg h9).trans (if_pos v2)))
  clear h9 v2 HXX HU6 HTV
  have e0 : (r.err == 0) = false := by simpa using h0
  have HVV : Hid (x = nothing) := HX3.out.trans (if_neg h0)
  clear h0 HX3
  obtain ⟨V8, hst8, ho8, -, hb8⟩ := acting HO.out nothing
  have HO8 := Lib.hid ho8
  have HX8 := Lib.hid (hb8 _ _ HW.out (by omega))
  clear ho8 hb8
  go_wp2_with (first | (refine wpList_skip rfl (hst8 rfl rfl rfl) ?_) | ((with_reducible refine wpList_build_to rfl 36 _ rfl (cellsA nothing) ?_ ?_); exact built_act0') | (refine wpList_skip rfl (hs6 rfl rfl rfl) ?_) | (refine wpList_got rfl (load_callAt hca rfl rfl) ?_) | (refine wpList_got rfl (load_call hcc rfl rfl) ?_) | (refine wpList_got rfl (exec_neq_at hne rfl rfl rfl) ?_))
  refine bodyPost_ret (v := encA nothing) (results_cell_row rfl _ _ (w.heap.size + 1 + 1 + 1) 36 (cellsA nothing) (0, 0) _ rfl HO8.out undAct rfl sizeAct) rfl ?_
  exact ⟨by rw [HVV.out], HX8.out⟩
set_option maxRecDepth 100000 in
set_option maxHeartbeats 8000000 in
theorem rafC_lost (l : List Obj) (v : Value) (ver : Int) (n : ByteArray) (c : Cl) (r : Rs) (w : World) (hl : ObjsIn w v l) (hlen : l.length < 100000) (ht : Tab w) (hall : ∀ s ∈ l, (0 ≤ s.born ∧ s.born ≤ 18446744073709551615) ∧ s.name.size ≤ 140737488351232) (p : Obj) (hg : getL l 3 n = some p) (he : claimN l ver n = askA c) (h9 : ¬ r.err = 9) (v2 : ¬ c.verb = 2) (h13 : r.err = 13) :
    Calls Tryd.prog 12 #[v, .int .u64 ver, encK 3 n, encC c, encR r] w fun e w' => e = .returned (encA (afterB l ver 3 n c r)) ∧ Below w.heap.size w w' := by
  obtain ⟨o, cp, rfl, -, -⟩ := id hl
  have HL := Lib.hid hl
  have HT := Lib.hid ht
  have HUN := Lib.hid (fun V (hV : ObjsIn V (.slice o l.length cp) l) => uniq_any l _ V hV hlen)
  have hul : (uniqL l).length < 100000 := Nat.lt_of_le_of_lt (uniq_len l) hlen
  have HGG := Lib.hid (fun (V : World) (u : Value) (hV : ObjsIn V u (uniqL l)) => show Calls _ _ _ V (fun e w' => e = .returned (.tuple #[encO ((getL l 3 n).getD O0), .bool (getL l 3 n).isSome]) ∧ Below V.heap.size V w') by rw [← uniq_get l 3 n]; exact rget_any (uniqL l) u 3 n V hV)
  have HCC := Lib.hid (fun (V : World) (u : Value) (hV : ObjsIn V u (uniqL l)) (hT : Tab V) => show Calls _ _ _ V (fun e w' => e = .returned (encA (claimN l ver n)) ∧ Below V.heap.size V w') by rw [← claimN_uniq l ver n]; exact rclaim_any (uniqL l) u ver n V hV hul hT (fun s hs => hall s (uniq_mem hs)))
  obtain ⟨x, hx⟩ : ∃ x, afterB l ver 3 n c r = x := ⟨_, rfl⟩
  rw [hx]
  rw [after_claim] at hx
  have hf : forN l 3 n = p := by unfold forN; rw [hg]; rfl
  rw [hf] at hx
  rw [hg] at HGG
  rw [if_pos he] at hx
  have hA : (claimN l ver n).act = 3 := by rw [he]; rfl
  have hne0 : (claimN l ver n).call = c := by rw [he]; rfl
  have HNA := Lib.hid hne0
  unfold docB at hx
  have HFh9 := Lib.hid h9
  clear h9
  have HFv2 := Lib.hid v2
  clear v2
  have HFh13 := Lib.hid h13
  clear h13
  generalize claimN l ver n = A at *
  generalize uniqL l = L at *
  have HXX := Lib.hid hx
  clear hx hg hf he hne0
  clear hl ht hlen hall hul
  have HKE : Hid (encK 3 n = .agg #[.int .u8 3, .string n]) := rfl
  unfold encR
  rw [show encC c = .agg (cellsC c) from rfl, HKE.out]
  unfold cellsC
  go_enter Tryd.func12, Tryd.ntmps12
  go_upto_region 1 with (fail)
  refine wp_gen (fun V => BoxK V w.heap.size 3 n ∧ BoxC V (w.heap.size + 1) c ∧ BoxR V (w.heap.size + 1 + 1) r ∧ BoxA V (w.heap.size + 1 + 1 + 1) nothing ∧ Below w.heap.size w V) (chain4 w _ _ _ _) ?_
  rintro V ⟨hk, hc, hr, ho, hlw⟩
  have HU := Lib.hid (HUN.out V (HL.out.after hlw))
  have HQ := Lib.hid hk
  have HC := Lib.hid hc
  have HR := Lib.hid hr
  have HO := Lib.hid ho
  have HW := Lib.hid hlw
  clear hk hc hr ho hlw HUN HL HKE
  go_wp2_with (fail)
  refine HU.out.mono ?_
  rintro e W1 ⟨u, rfl, hu, hb1⟩
  obtain ⟨o1, c1, rfl, -, -⟩ := id hu
  have HUU := Lib.hid hu
  have hlw := HW.out.trans (hb1.mono HW.out.size)
  have hq1 := HQ.out.after hb1
  obtain ⟨k0, k1⟩ := hq1.cells
  replace HQ := Lib.hid hq1
  replace HC := Lib.hid (HC.out.after hb1)
  replace HR := Lib.hid (HR.out.after hb1)
  replace HO := Lib.hid (HO.out.after hb1)
  replace HW := Lib.hid hlw
  have HD := Lib.hid (HGG.out W1 _ hu)
  clear HU hu hb1 hlw hq1 HGG
  go_wp2_with (fail)
  refine HD.out.mono ?_
  rintro e W2 ⟨rfl, hb2⟩
  obtain ⟨V3, hs3, hk3, hb3, -⟩ := boxing W2 p
  have HNE : Hid (w.heap.size + 1 + 1 + 1 < W2.heap.size) := Nat.lt_of_lt_of_le HO.out.lt hb2.size
  have hw2 := HW.out.trans (hb2.mono HW.out.size)
  obtain ⟨V4, hs4, ha4, -, hb4⟩ := acting (show BoxA (V3.alloc (.cells (cellsA nothing) 36 (0, 0))) V3.heap.size nothing from heap_alloc_new _ _) nothing
  have hbel : Below V3.heap.size V3 V4 := hb4 _ _ ((Below.refl _ _).alloc (Nat.le_refl _) _) (Nat.le_refl _)
  have hb5 := hb3.trans (hbel.mono hb3.size)
  have hu2 := HUU.out.after hb2
  have hq4 := (HQ.out.after hb2).after hb5
  replace HQ := Lib.hid hq4
  replace HC := Lib.hid ((HC.out.after hb2).after hb5)
  replace HR := Lib.hid ((HR.out.after hb2).after hb5)
  replace HO := Lib.hid ((HO.out.after hb2).after hb5)
  replace HUU := Lib.hid ((HUU.out.after hb2).after hb5)
  replace HW := Lib.hid (hw2.trans (hb5.mono hw2.size))
  have HB := Lib.hid (hk3.after hbel)
  have HA := Lib.hid ha4
  have HTV := Lib.hid (HT.out.after HW.out)
  have HT0 := Lib.hid HT.out
  have HU3 := Lib.hid ((hu2 : ObjsIn W2 _ L).after hb3)
  have HV34 := Lib.hid hbel
  have HB3 : Hid (W2.heap.size < V3.heap.size) := hk3.lt
  clear k0 k1
  obtain ⟨k0, k1⟩ := hq4.cells
  clear HD hb2 hk3 hb3 hu2 hw2 ha4 hb4 hbel hb5 hq4 HT
  have HD := Lib.hid (HCC.out V4 _ HUU.out HTV.out)
  clear HCC
  go_wp2_with (first | (refine wpList_skip rfl (hs3 rfl rfl rfl) ?_) | (refine wpList_skip rfl (hs4 rfl rfl rfl) ?_) | ((with_reducible refine wpList_build_to rfl 36 _ rfl (cellsA nothing) ?_ ?_); exact built_act0'))
  refine HD.out.mono ?_
  rintro e W5 ⟨rfl, hb5⟩
  obtain ⟨V6, hs6, ha6, hx6, hb6⟩ := acting (HA.out.after hb5) A
  have HVN : Hid (W2.heap.size < V3.heap.size) := HB3.out
  have hlo : ∀ B X, Below B X V4 → B ≤ V3.heap.size → Below B X V6 := fun B X h1 h2 => hb6 B X (h1.trans (hb5.mono (Nat.le_trans h2 HV34.out.size))) h2
  have hcc : BoxC V6 (w.heap.size + 1) c := (hx6 _ (by have := HNE.out; have := HVN.out; omega)).trans (HC.out.after hb5)
  obtain ⟨c0, -⟩ := hcc.cells
  have hr6 : BoxR V6 (w.heap.size + 1 + 1) r := (hx6 _ (by have := HNE.out; have := HVN.out; omega)).trans (HR.out.after hb5)
  obtain ⟨r0, r1, r3⟩ := hr6.cells
  have ho6 : BoxA V6 (w.heap.size + 1 + 1 + 1) nothing := (hx6 _ (by have := HNE.out; have := HVN.out; omega)).trans (HO.out.after hb5)
  have hbb : BoxO V6 W2.heap.size p := (hx6 _ (by have := HVN.out; omega)).trans (HB.out.after hb5)
  have hw6 := hlo _ _ HW.out (by have := HNE.out; have := HVN.out; omega)
  have hu6 := (HU3.out.after (hlo _ _ HV34.out (Nat.le_refl _)))
  have ht6 := HT0.out.after hw6
  have a0 := ha6.kind
  have hca := ha6.callAt
  have HC := Lib.hid hcc
  replace HR := Lib.hid hr6
  replace HO := Lib.hid ho6
  replace HB := Lib.hid hbb
  replace HW := Lib.hid hw6
  have HU6 := Lib.hid hu6
  replace HTV := Lib.hid ht6
  clear HD hb5 ha6 hx6 hb6 hlo hr6 ho6 hbb hw6 hu6 ht6 HQ HUU HU3 HT0 HV34 HA k0 k1 hs3 hs4 HB3 HVN
  have e3 : (A.act == 3) = true := by simpa using hA
  have e3' : (A.act != 3) = false := by simpa using hA
  have hne := HNA.out
  clear hA HNA
  have h9 := HFh9.out
  have v2 := HFv2.out
  have h13 := HFh13.out
  clear HFh9 HFv2 HFh13
  have e9 : (r.err == 9) = false := by simpa using h9
  have e2 : (c.verb == 2) = false := by simpa using v2
  have HX3 := Lib.hid (HXX.out.symm.trans ((if_neg h9).trans (if_neg v2)))
  clear h9 v2 HXX
  have e13 : (r.err == 13) = true := by simpa using h13
  have HVV : Hid (x = nothing) := HX3.out.trans (if_pos h13)
  clear h13 HX3 HU6 HTV
  obtain ⟨V8, hst8, ho8, -, hb8⟩ := acting HO.out nothing
  have HO8 := Lib.hid ho8
  have HX8 := Lib.hid (hb8 _ _ HW.out (by omega))
  clear ho8 hb8
  go_wp2_with (first | (refine wpList_skip rfl (hst8 rfl rfl rfl) ?_) | ((with_reducible refine wpList_build_to rfl 36 _ rfl (cellsA nothing) ?_ ?_); exact built_act0') | (refine wpList_skip rfl (hs6 rfl rfl rfl) ?_) | (refine wpList_got rfl (load_callAt hca rfl rfl) ?_) | (refine wpList_got rfl (load_call hcc rfl rfl) ?_) | (refine wpList_got rfl (exec_neq_at hne rfl rfl rfl) ?_))
  refine bodyPost_ret (v := encA nothing) (results_cell_row rfl _ _ (w.heap.size + 1 + 1 + 1) 36 (cellsA nothing) (0, 0) _ rfl HO8.out undAct rfl sizeAct) rfl ?_
  exact ⟨by rw [HVV.out], HX8.out⟩
end Go.Proofs.YtfpdchabknoklaaDoor.O.B
namespace Go.Proofs.YtfpdchabknoklaaDoor.O.B
open Go Go.RowKit Go.Shelf Go.Lib RangeMap KM
attribute [local go_sem] Oper.semAt_some

set_option maxRecDepth 100000 in
set_option maxHeartbeats 8000000 in
theorem rafV_gone (l : List Obj) (v : Value) (ver : Int) (n : ByteArray) (c : Cl) (r : Rs) (w : World) (hl : ObjsIn w v l) (hlen : l.length < 100000) (ht : Tab w) (hall : ∀ s ∈ l, (0 ≤ s.born ∧ s.born ≤ 18446744073709551615) ∧ s.name.size ≤ 140737488351232) (p : Obj) (hg : getL l 4 n = some p) (he : volumeN l ver n = askA c) (h9 : ¬ r.err = 9) (v2 : c.verb = 2) (h0 : r.err = 0) :
    Calls Tryd.prog 12 #[v, .int .u64 ver, encK 4 n, encC c, encR r] w fun e w' => e = .returned (encA (afterB l ver 4 n c r)) ∧ Below w.heap.size w w' := by
  obtain ⟨o, cp, rfl, -, -⟩ := id hl
  have HL := Lib.hid hl
  have HT := Lib.hid ht
  have HUN := Lib.hid (fun V (hV : ObjsIn V (.slice o l.length cp) l) => uniq_any l _ V hV hlen)
  have hul : (uniqL l).length < 100000 := Nat.lt_of_le_of_lt (uniq_len l) hlen
  have HGG := Lib.hid (fun (V : World) (u : Value) (hV : ObjsIn V u (uniqL l)) => show Calls _ _ _ V (fun e w' => e = .returned (.tuple #[encO ((getL l 4 n).getD O0), .bool (getL l 4 n).isSome]) ∧ Below V.heap.size V w') by rw [← uniq_get l 4 n]; exact rget_any (uniqL l) u 4 n V hV)
  have HCC := Lib.hid (fun (V : World) (u : Value) (hV : ObjsIn V u (uniqL l)) (hT : Tab V) => show Calls _ _ _ V (fun e w' => e = .returned (encA (volumeN l ver n)) ∧ Below V.heap.size V w') by rw [← volumeN_uniq l ver n]; exact rvolume_any (uniqL l) u ver n V hV hul hT (fun s hs => hall s (uniq_mem hs)))
  obtain ⟨x, hx⟩ : ∃ x, afterB l ver 4 n c r = x := ⟨_, rfl⟩
  rw [hx]
  rw [after_volume] at hx
  have hf : forN l 4 n = p := by unfold forN; rw [hg]; rfl
  rw [hf] at hx
  rw [hg] at HGG
  rw [if_pos he] at hx
  have hA : (volumeN l ver n).act = 3 := by rw [he]; rfl
  have hne0 : (volumeN l ver n).call = c := by rw [he]; rfl
  have HNA := Lib.hid hne0
  unfold docB at hx
  have HFh9 := Lib.hid h9
  clear h9
  have HFv2 := Lib.hid v2
  clear v2
  have HFh0 := Lib.hid h0
  clear h0
  generalize volumeN l ver n = A at *
  generalize uniqL l = L at *
  have HXX := Lib.hid hx
  clear hx hg hf he hne0
  clear hl ht hlen hall hul
  have HKE : Hid (encK 4 n = .agg #[.int .u8 4, .string n]) := rfl
  unfold encR
  rw [show encC c = .agg (cellsC c) from rfl, HKE.out]
  unfold cellsC
  go_enter Tryd.func12, Tryd.ntmps12
  go_upto_region 1 with (fail)
  refine wp_gen (fun V => BoxK V w.heap.size 4 n ∧ BoxC V (w.heap.size + 1) c ∧ BoxR V (w.heap.size + 1 + 1) r ∧ BoxA V (w.heap.size + 1 + 1 + 1) nothing ∧ Below w.heap.size w V) (chain4 w _ _ _ _) ?_
  rintro V ⟨hk, hc, hr, ho, hlw⟩
  have HU := Lib.hid (HUN.out V (HL.out.after hlw))
  have HQ := Lib.hid hk
  have HC := Lib.hid hc
  have HR := Lib.hid hr
  have HO := Lib.hid ho
  have HW := Lib.hid hlw
  clear hk hc hr ho hlw HUN HL HKE
  go_wp2_with (fail)
  refine HU.out.mono ?_
  rintro e W1 ⟨u, rfl, hu, hb1⟩
  obtain ⟨o1, c1, rfl, -, -⟩ := id hu
  have HUU := Lib.hid hu
  have hlw := HW.out.trans (hb1.mono HW.out.size)
  have hq1 := HQ.out.after hb1
  obtain ⟨k0, k1⟩ := hq1.cells
  replace HQ := Lib.hid hq1
  replace HC := Lib.hid (HC.out.after hb1)
  replace HR := Lib.hid (HR.out.after hb1)
  replace HO := Lib.hid (HO.out.after hb1)
  replace HW := Lib.hid hlw
  have HD := Lib.hid (HGG.out W1 _ hu)
  clear HU hu hb1 hlw hq1 HGG
  go_wp2_with (fail)
  refine HD.out.mono ?_
  rintro e W2 ⟨rfl, hb2⟩
  obtain ⟨V3, hs3, hk3, hb3, -⟩ := boxing W2 p
  have HNE : Hid (w.heap.size + 1 + 1 + 1 < W2.heap.size) := Nat.lt_of_lt_of_le HO.out.lt hb2.size
  have hw2 := HW.out.trans (hb2.mono HW.out.size)
  obtain ⟨V4, hs4, ha4, -, hb4⟩ := acting (show BoxA (V3.alloc (.cells (cellsA nothing) 36 (0, 0))) V3.heap.size nothing from heap_alloc_new _ _) nothing
  have hbel : Below V3.heap.size V3 V4 := hb4 _ _ ((Below.refl _ _).alloc (Nat.le_refl _) _) (Nat.le_refl _)
  have hb5 := hb3.trans (hbel.mono hb3.size)
  have hu2 := HUU.out.after hb2
  have hq4 := (HQ.out.after hb2).after hb5
  replace HQ := Lib.hid hq4
  replace HC := Lib.hid ((HC.out.after hb2).after hb5)
  replace HR := Lib.hid ((HR.out.after hb2).after hb5)
  replace HO := Lib.hid ((HO.out.after hb2).after hb5)
  replace HUU := Lib.hid ((HUU.out.after hb2).after hb5)
  replace HW := Lib.hid (hw2.trans (hb5.mono hw2.size))
  have HB := Lib.hid (hk3.after hbel)
  have HA := Lib.hid ha4
  have HTV := Lib.hid (HT.out.after HW.out)
  have HT0 := Lib.hid HT.out
  have HU3 := Lib.hid ((hu2 : ObjsIn W2 _ L).after hb3)
  have HV34 := Lib.hid hbel
  have HB3 : Hid (W2.heap.size < V3.heap.size) := hk3.lt
  clear k0 k1
  obtain ⟨k0, k1⟩ := hq4.cells
  clear HD hb2 hk3 hb3 hu2 hw2 ha4 hb4 hbel hb5 hq4 HT
  have HD := Lib.hid (HCC.out V4 _ HUU.out HTV.out)
  clear HCC
  go_wp2_with (first | (refine wpList_skip rfl (hs3 rfl rfl rfl) ?_) | (refine wpList_skip rfl (hs4 rfl rfl rfl) ?_) | ((with_reducible refine wpList_build_to rfl 36 _ rfl (cellsA nothing) ?_ ?_); exact built_act0'))
  refine HD.out.mono ?_
  rintro e W5 ⟨rfl, hb5⟩
  obtain ⟨V6, hs6, ha6, hx6, hb6⟩ := acting (HA.out.after hb5) A
  have HVN : Hid (W2.heap.size < V3.heap.size) := HB3.out
  have hlo : ∀ B X, Below B X V4 → B ≤ V3.heap.size → Below B X V6 := fun B X h1 h2 => hb6 B X (h1.trans (hb5.mono (Nat.le_trans h2 HV34.out.size))) h2
  have hcc : BoxC V6 (w.heap.size + 1) c := (hx6 _ (by have := HNE.out; have := HVN.out; omega)).trans (HC.out.after hb5)
  obtain ⟨c0, -⟩ := hcc.cells
  have hr6 : BoxR V6 (w.heap.size + 1 + 1) r := (hx6 _ (by have := HNE.out; have := HVN.out; omega)).trans (HR.out.after hb5)
  obtain ⟨r0, r1, r3⟩ := hr6.cells
  have ho6 : BoxA V6 (w.heap.size + 1 + 1 + 1) nothing := (hx6 _ (by have := HNE.out; have := HVN.out; omega)).trans (HO.out.after hb5)
  have hbb : BoxO V6 W2.heap.size p := (hx6 _ (by have := HVN.out; omega)).trans (HB.out.after hb5)
  have hw6 := hlo _ _ HW.out (by have := HNE.out; have := HVN.out; omega)
  have hu6 := (HU3.out.after (hlo _ _ HV34.out (Nat.le_refl _)))
  have ht6 := HT0.out.after hw6
  have a0 := ha6.kind
  have hca := ha6.callAt
  have HC := Lib.hid hcc
  replace HR := Lib.hid hr6
  replace HO := Lib.hid ho6
  replace HB := Lib.hid hbb
  replace HW := Lib.hid hw6
  have HU6 := Lib.hid hu6
  replace HTV := Lib.hid ht6
  clear HD hb5 ha6 hx6 hb6 hlo hr6 ho6 hbb hw6 hu6 ht6 HQ HUU HU3 HT0 HV34 HA k0 k1 hs3 hs4 HB3 HVN
  have e3 : (A.act == 3) = true := by simpa using hA
  have e3' : (A.act != 3) = false := by simpa using hA
  have hne := HNA.out
  clear hA HNA
  have h9 := HFh9.out
  have v2 := HFv2.out
  have h0 := HFh0.out
  clear HFh9 HFv2 HFh0
  have e9 : (r.err == 9) = false := by simpa using h9
  have e2 : (c.verb == 2) = true := by simpa using v2
  have HX3 := Lib.hid (HXX.out.symm.trans ((if_neg h9).trans (if_pos v2)))
  clear h9 v2 HXX HU6 HTV
  have e0 : (r.err == 0) = true := by simpa using h0
  have HVV : Hid (x = removeA p) := HX3.out.trans (if_pos h0)
  have hbx := HB.out
  clear h0 HX3
  have HCA := Lib.hid (rremove_any p V6)
  go_wp2_with (first | ((with_reducible refine wpList_load_obj ?_ rfl ?_ hbx ?_); rfl; rfl) | (refine wpList_skip rfl (hs6 rfl rfl rfl) ?_) | (refine wpList_got rfl (load_callAt hca rfl rfl) ?_) | (refine wpList_got rfl (load_call hcc rfl rfl) ?_) | (refine wpList_got rfl (exec_neq_at hne rfl rfl rfl) ?_))
  refine HCA.out.mono ?_
  rintro e W7 ⟨rfl, hb7⟩
  obtain ⟨V8, hst8, ho8, -, hb8⟩ := acting (HO.out.after hb7) (removeA p)
  have HO8 := Lib.hid ho8
  have HX8 := Lib.hid (hb8 _ _ (HW.out.trans (hb7.mono HW.out.size)) (by omega))
  clear ho8 hb8 HCA HO HW hb7 hbx
  go_wp2_with (refine wpList_skip rfl (hst8 rfl rfl rfl) ?_)
  refine bodyPost_ret (v := encA (removeA p)) (results_cell_row rfl _ _ (w.heap.size + 1 + 1 + 1) 36 (cellsA (removeA p)) (0, 0) _ rfl HO8.out undAct rfl sizeAct) rfl ?_
  exact ⟨by rw [HVV.out], HX8.out⟩
set_option maxRecDepth 100000 in
set_option maxHeartbeats 8000000 in
theorem rafV_not (l : List Obj) (v : Value) (ver : Int) (n : ByteArray) (c : Cl) (r : Rs) (w : World) (hl : ObjsIn w v l) (hlen : l.length < 100000) (ht : Tab w) (hall : ∀ s ∈ l, (0 ≤ s.born ∧ s.born ≤ 18446744073709551615) ∧ s.name.size ≤ 140737488351232) (p : Obj) (hg : getL l 4 n = some p) (he : volumeN l ver n = askA c) (h9 : ¬ r.err = 9) (v2 : c.verb = 2) (h0 : ¬ r.err = 0) :
    Calls Tryd.prog 12 #[v, .int .u64 ver, encK 4 n, encC c, encR r] w fun e w' => e = .returned (encA (afterB l ver 4 n c r)) ∧ Below w.heap.size w w' := by
  obtain ⟨o, cp, rfl, -, -⟩ := id hl
  have HL := Lib.hid hl
  have HT := Lib.hid ht
  have HUN := Lib.hid (fun V (hV : ObjsIn V (.slice o l.length cp) l) => uniq_any l _ V hV hlen)
  have hul : (uniqL l).length < 100000 := Nat.lt_of_le_of_lt (uniq_len l) hlen
  have HGG := Lib.hid (fun (V : World) (u : Value) (hV : ObjsIn V u (uniqL l)) => show Calls _ _ _ V (fun e w' => e = .returned (.tuple #[encO ((getL l 4 n).getD O0), .bool (getL l 4 n).isSome]) ∧ Below V.heap.size V w') by rw [← uniq_get l 4 n]; exact rget_any (uniqL l) u 4 n V hV)
  have HCC := Lib.hid (fun (V : World) (u : Value) (hV : ObjsIn V u (uniqL l)) (hT : Tab V) => show Calls _ _ _ V (fun e w' => e = .returned (encA (volumeN l ver n)) ∧ Below V.heap.size V w') by rw [← volumeN_uniq l ver n]; exact rvolume_any (uniqL l) u ver n V hV hul hT (fun s hs => hall s (uniq_mem hs)))
  obtain ⟨x, hx⟩ : ∃ x, afterB l ver 4 n c r = x := ⟨_, rfl⟩
  rw [hx]
  rw [after_volume] at hx
  have hf : forN l 4 n = p := by unfold forN; rw [hg]; rfl
  rw [hf] at hx
  rw [hg] at HGG
  rw [if_pos he] at hx
  have hA : (volumeN l ver n).act = 3 := by rw [he]; rfl
  have hne0 : (volumeN l ver n).call = c := by rw [he]; rfl
  have HNA := Lib.hid hne0
  unfold docB at hx
  have HFh9 := Lib.hid h9
  clear h9
  have HFv2 := Lib.hid v2
  clear v2
  have HFh0 := Lib.hid h0
  clear h0
  generalize volumeN l ver n = A at *
  generalize uniqL l = L at *
  have HXX := Lib.hid hx
  clear hx hg hf he hne0
  clear hl ht hlen hall hul
  have HKE : Hid (encK 4 n = .agg #[.int .u8 4, .string n]) := rfl
  unfold encR
  rw [show encC c = .agg (cellsC c) from rfl, HKE.out]
  unfold cellsC
  go_enter Tryd.func12, Tryd.ntmps12
  go_upto_region 1 with (fail)
  refine wp_gen (fun V => BoxK V w.heap.size 4 n ∧ BoxC V (w.heap.size + 1) c ∧ BoxR V (w.heap.size + 1 + 1) r ∧ BoxA V (w.heap.size + 1 + 1 + 1) nothing ∧ Below w.heap.size w V) (chain4 w _ _ _ _) ?_
  rintro V ⟨hk, hc, hr, ho, hlw⟩
  have HU := Lib.hid (HUN.out V (HL.out.after hlw))
  have HQ := Lib.hid hk
  have HC := Lib.hid hc
  have HR := Lib.hid hr
  have HO := Lib.hid ho
  have HW := Lib.hid hlw
  clear hk hc hr ho hlw HUN HL HKE
  go_wp2_with (fail)
  refine HU.out.mono ?_
  rintro e W1 ⟨u, rfl, hu, hb1⟩
  obtain ⟨o1, c1, rfl, -, -⟩ := id hu
  have HUU := Lib.hid hu
  have hlw := HW.out.trans (hb1.mono HW.out.size)
  have hq1 := HQ.out.after hb1
  obtain ⟨k0, k1⟩ := hq1.cells
  replace HQ := Lib.hid hq1
  replace HC := Lib.hid (HC.out.after hb1)
  replace HR := Lib.hid (HR.out.after hb1)
  replace HO := Lib.hid (HO.out.after hb1)
  replace HW := Lib.hid hlw
  have HD := Lib.hid (HGG.out W1 _ hu)
  clear HU hu hb1 hlw hq1 HGG
  go_wp2_with (fail)
  refine HD.out.mono ?_
  rintro e W2 ⟨rfl, hb2⟩
  obtain ⟨V3, hs3, hk3, hb3, -⟩ := boxing W2 p
  have HNE : Hid (w.heap.size + 1 + 1 + 1 < W2.heap.size) := Nat.lt_of_lt_of_le HO.out.lt hb2.size
  have hw2 := HW.out.trans (hb2.mono HW.out.size)
  obtain ⟨V4, hs4, ha4, -, hb4⟩ := acting (show BoxA (V3.alloc (.cells (cellsA nothing) 36 (0, 0))) V3.heap.size nothing from heap_alloc_new _ _) nothing
  have hbel : Below V3.heap.size V3 V4 := hb4 _ _ ((Below.refl _ _).alloc (Nat.le_refl _) _) (Nat.le_refl _)
  have hb5 := hb3.trans (hbel.mono hb3.size)
  have hu2 := HUU.out.after hb2
  have hq4 := (HQ.out.after hb2).after hb5
  replace HQ := Lib.hid hq4
  replace HC := Lib.hid ((HC.out.after hb2).after hb5)
  replace HR := Lib.hid ((HR.out.after hb2).after hb5)
  replace HO := Lib.hid ((HO.out.after hb2).after hb5)
  replace HUU := Lib.hid ((HUU.out.after hb2).after hb5)
  replace HW := Lib.hid (hw2.trans (hb5.mono hw2.size))
  have HB := Lib.hid (hk3.after hbel)
  have HA := Lib.hid ha4
  have HTV := Lib.hid (HT.out.after HW.out)
  have HT0 := Lib.hid HT.out
  have HU3 := Lib.hid ((hu2 : ObjsIn W2 _ L).after hb3)
  have HV34 := Lib.hid hbel
  have HB3 : Hid (W2.heap.size < V3.heap.size) := hk3.lt
  clear k0 k1
  obtain ⟨k0, k1⟩ := hq4.cells
  clear HD hb2 hk3 hb3 hu2 hw2 ha4 hb4 hbel hb5 hq4 HT
  have HD := Lib.hid (HCC.out V4 _ HUU.out HTV.out)
  clear HCC
  go_wp2_with (first | (refine wpList_skip rfl (hs3 rfl rfl rfl) ?_) | (refine wpList_skip rfl (hs4 rfl rfl rfl) ?_) | ((with_reducible refine wpList_build_to rfl 36 _ rfl (cellsA nothing) ?_ ?_); exact built_act0'))
  refine HD.out.mono ?_
  rintro e W5 ⟨rfl, hb5⟩
  obtain ⟨V6, hs6, ha6, hx6, hb6⟩ := acting (HA.out.after hb5) A
  have HVN : Hid (W2.heap.size < V3.heap.size) := HB3.out
  have hlo : ∀ B X, Below B X V4 → B ≤ V3.heap.size → Below B X V6 := fun B X h1 h2 => hb6 B X (h1.trans (hb5.mono (Nat.le_trans h2 HV34.out.size))) h2
  have hcc : BoxC V6 (w.heap.size + 1) c := (hx6 _ (by have := HNE.out; have := HVN.out; omega)).trans (HC.out.after hb5)
  obtain ⟨c0, -⟩ := hcc.cells
  have hr6 : BoxR V6 (w.heap.size + 1 + 1) r := (hx6 _ (by have := HNE.out; have := HVN.out; omega)).trans (HR.out.after hb5)
  obtain ⟨r0, r1, r3⟩ := hr6.cells
  have ho6 : BoxA V6 (w.heap.size + 1 + 1 + 1) nothing := (hx6 _ (by have := HNE.out; have := HVN.out; omega)).trans (HO.out.after hb5)
  have hbb : BoxO V6 W2.heap.size p := (hx6 _ (by have := HVN.out; omega)).trans (HB.out.after hb5)
  have hw6 := hlo _ _ HW.out (by have := HNE.out; have := HVN.out; omega)
  have hu6 := (HU3.out.after (hlo _ _ HV34.out (Nat.le_refl _)))
  have ht6 := HT0.out.after hw6
  have a0 := ha6.kind
  have hca := ha6.callAt
  have HC := Lib.hid hcc
  replace HR := Lib.hid hr6
  replace HO := Lib.hid ho6
  replace HB := Lib.hid hbb
  replace HW := Lib.hid hw6
  have HU6 := Lib.hid hu6
  replace HTV := Lib.hid ht6
  clear HD hb5 ha6 hx6 hb6 hlo hr6 ho6 hbb hw6 hu6 ht6 HQ HUU HU3 HT0 HV34 HA k0 k1 hs3 hs4 HB3 HVN
  have e3 : (A.act == 3) = true := by simpa using hA
  have e3' : (A.act != 3) = false := by simpa using hA
  have hne := HNA.out
  clear hA HNA
  have h9 := HFh9.out
  have v2 := HFv2.out
  have h0 := HFh0.out
  clear HFh9 HFv2 HFh0
  have e9 : (r.err == 9) = false := by simpa using h9
  have e2 : (c.verb == 2) = true := by simpa using v2
  have HX3 := Lib.hid (HXX.out.symm.trans ((if_neg h9).trans (if_pos v2)))
  clear h9 v2 HXX HU6 HTV
  have e0 : (r.err == 0) = false := by simpa using h0
  have HVV : Hid (x = nothing) := HX3.out.trans (if_neg h0)
  clear h0 HX3
  obtain ⟨V8, hst8, ho8, -, hb8⟩ := acting HO.out nothing
  have HO8 := Lib.hid ho8
  have HX8 := Lib.hid (hb8 _ _ HW.out (by omega))
  clear ho8 hb8
  go_wp2_with (first | (refine wpList_skip rfl (hst8 rfl rfl rfl) ?_) | ((with_reducible refine wpList_build_to rfl 36 _ rfl (cellsA nothing) ?_ ?_); exact built_act0') | (refine wpList_skip rfl (hs6 rfl rfl rfl) ?_) | (refine wpList_got rfl (load_callAt hca rfl rfl) ?_) | (refine wpList_got rfl (load_call hcc rfl rfl) ?_) | (refine wpList_got rfl (exec_neq_at hne rfl rfl rfl) ?_))
  refine bodyPost_ret (v := encA nothing) (results_cell_row rfl _ _ (w.heap.size + 1 + 1 + 1) 36 (cellsA nothing) (0, 0) _ rfl HO8.out undAct rfl sizeAct) rfl ?_
  exact ⟨by rw [HVV.out], HX8.out⟩
end Go.Proofs.YtfpdchabknoklaaDoor.O.B
namespace Go.Proofs.YtfpdchabknoklaaDoor.O.B
open Go Go.RowKit Go.Shelf Go.Lib RangeMap KM
attribute [local go_sem] Oper.semAt_some

theorem rafterB_any (l : List Obj) (v : Value) (ver k : Int) (n : ByteArray) (c : Cl) (r : Rs) (w : World) (hl : ObjsIn w v l) (hlen : l.length < 100000) (ht : Tab w) (hall : ∀ s ∈ l, (0 ≤ s.born ∧ s.born ≤ 18446744073709551615) ∧ s.name.size ≤ 140737488351232) :
    Calls Tryd.prog 12 #[v, .int .u64 ver, encK k n, encC c, encR r] w fun e w' => e = .returned (encA (afterB l ver k n c r)) ∧ Below w.heap.size w w' := by
  cases hg : getL l k n with
  | none => exact rafter_gone l v ver k n c r w hl hlen ht hall hg
  | some p =>
    by_cases h3 : k = 3
    · subst h3
      by_cases he : claimN l ver n = askA c
      · by_cases h9 : r.err = 9
        · exact rafC_stale l v ver n c r w hl hlen ht hall p hg he h9
        · by_cases v2 : c.verb = 2
          · by_cases h0 : r.err = 0
            · exact rafC_gone l v ver n c r w hl hlen ht hall p hg he h9 v2 h0
            · exact rafC_not l v ver n c r w hl hlen ht hall p hg he h9 v2 h0
          · by_cases h13 : r.err = 13
            · exact rafC_lost l v ver n c r w hl hlen ht hall p hg he h9 v2 h13
            · cases hgc : getL l 1 p.cls with
              | none =>
                by_cases h0 : r.err = 0
                · exact rafC_made_none l v ver n c r w hl hlen ht hall p hg he h9 v2 h13 hgc h0
                · exact rafC_back_none l v ver n c r w hl hlen ht hall p hg he h9 v2 h13 hgc h0
              | some kc =>
                by_cases h0 : r.err = 0
                · exact rafC_made_some l v ver n c r w hl hlen ht hall p hg he h9 v2 h13 kc hgc h0
                · exact rafC_back_some l v ver n c r w hl hlen ht hall p hg he h9 v2 h13 kc hgc h0
      · exact rafC_idle l v ver n c r w hl hlen ht hall p hg he
    · by_cases h4 : k = 4
      · subst h4
        by_cases he : volumeN l ver n = askA c
        · have v2 := (volume_asks he).1
          by_cases h9 : r.err = 9
          · exact rafV_stale l v ver n c r w hl hlen ht hall p hg he h9
          · by_cases h0 : r.err = 0
            · exact rafV_gone l v ver n c r w hl hlen ht hall p hg he h9 v2 h0
            · exact rafV_not l v ver n c r w hl hlen ht hall p hg he h9 v2 h0
        · exact rafV_idle l v ver n c r w hl hlen ht hall p hg he
      · exact rafter_other l v ver k n c r w hl hlen ht hall p hg h3 h4
end Go.Proofs.YtfpdchabknoklaaDoor.O.B
namespace Go.LawEnd
open Go.ChangeShapes Go.WideShapes Go.RowKit

/-- Each parameter's type can be read, and is a row of the table. -/
def rowsB (P : Program) (ts : List TypeId) : Bool := ts.all fun t => P.readableRec t && decide (t < P.types.size)

theorem trodAll_below {H : Type} {enc : TypeId × Value → H} {P : Program} (hl : laidOutB P = true) {W W' : World} (hb : Below W.heap.size W W') :
    ∀ {ts : List TypeId} {vs : List Value} {ds : List (DataW H)} {ps : List MemPlace}, rowsB P ts = true → DataW.TrodAll enc P W 0 (fun _ => true) true ts vs ds ps → (∀ x ∈ ps, x.block < W.heap.size) →
      DataW.TrodAll enc P W' 0 (fun b => decide (b < W.heap.size)) true ts vs ds ps
  | [], vs, ds, ps, _, h, _ => by
    obtain ⟨rfl, rfl, rfl⟩ := trodAll_nil h
    exact trodAll_mk0
  | t :: ts, vs, ds, ps, hr, h, hlt => by
    obtain ⟨v, vs', d, ds', p, q, rfl, rfl, rfl, h0, r0⟩ := trodAll_cons h
    simp only [rowsB, List.all_cons, Bool.and_eq_true, decide_eq_true_eq] at hr
    refine trodAll_cons_mk (Below.trod hl hr.1.1 hr.1.2 h0 hb (fun x hx => hlt x (List.mem_append_left _ hx))) ?_
    exact trodAll_below hl hb (by simp only [rowsB]; exact hr.2) r0 (fun x hx => hlt x (List.mem_append_right _ hx))

theorem post_true {H : Type} {enc : TypeId × Value → H} {P : Program} {f : Func} {s : ChangeSpec} {apart fresh handsOn : Bool} {W W' : World} {args : Array Value} {ds gs : List (DataW H)} {before : List MemPlace} {tb : TypeId}
    (hl : laidOutB P = true) (hrows : rowsB P f.params.toList = true) (hres : f.resultTypes = #[tb]) (htb : P.underlying tb = some .bool) (hvars : s.vars = [])
    (hW : DataW.Whole enc P f.params.toList s.vars apart W args.toList ds gs before) (hfn : s.fn H ds = { results := [.lit (.bool true)], args := ds }) (hb : Below W.heap.size W W') :
    s.post enc P f apart fresh handsOn false W args (.bool true) W' := by
  have hlt := fun p (hp : p ∈ before) => hW.lt p hp
  obtain ⟨p, q, hA, hV, rfl, hz, hn⟩ := id hW
  rw [hvars] at hV
  obtain ⟨rfl, rfl⟩ := trodVars_none hV
  refine ⟨ds, [], p ++ [], [], p, [], hW, ?_, ?_, ?_, World.keptBut_mono (fun x hx => ⟨by simpa using hx, Or.inr (Or.inl (by simpa using hx))⟩) (hb.frame (· ∈ p ++ [])), fun h => by cases h⟩
  · rw [List.append_nil, hfn, hres]
    exact trodAll_mk1 (shut_bool htb true)
  · rw [List.append_nil, hfn]
    exact trodAll_below hl hb hrows hA (fun x hx => hlt x (by simpa using hx))
  · rw [List.append_nil, hfn, hvars]
    exact rfl
end Go.LawEnd
namespace Go.Proofs.YtfpdchabknoklaaDoor.O.B
open Go.ChangeShapes Go.WideShapes Go.RowKit Go.Deep Go.Lib
open Go.ChangeMaps (open_string)

/-- The bounds of an object's numbers. -/
structure FitO (o : Obj) : Prop where
  kind : 0 ≤ o.kind ∧ o.kind ≤ 255
  version : 0 ≤ o.version ∧ o.version ≤ 18446744073709551615
  born : 0 ≤ o.born ∧ o.born ≤ 18446744073709551615
  size : -9223372036854775808 ≤ o.size ∧ o.size ≤ 9223372036854775807
  got : -9223372036854775808 ≤ o.got ∧ o.got ≤ 9223372036854775807
  mode : 0 ≤ o.mode ∧ o.mode ≤ 255
  phase : 0 ≤ o.phase ∧ o.phase ≤ 255
  num : 0 ≤ o.num ∧ o.num ≤ 18446744073709551615
  tag : 0 ≤ o.tag ∧ o.tag ≤ 18446744073709551615
/-- How long an object's texts are. -/
structure LenO (o : Obj) : Prop where
  name : o.name.size ≤ 140737488351232
  cls : o.cls.size ≤ 140737488351232
  zone : o.zone.size ≤ 140737488351232
  node : o.node.size ≤ 140737488351232
  claim : o.claim.size ≤ 140737488351232
  volume : o.volume.size ≤ 140737488351232
  source : o.source.size ≤ 140737488351232
theorem fits_in {l : List Obj} (hf : ∀ o ∈ l, FitO o) (hl : ∀ o ∈ l, LenO o) : ∀ s ∈ l, (0 ≤ s.born ∧ s.born ≤ 18446744073709551615) ∧ s.name.size ≤ 140737488351232 := fun s hs => ⟨(hf s hs).born, (hl s hs).name⟩
theorem list_cons' {α : Type} {n : Nat} {l : List α} (h : l.length = n + 1) : ∃ a t, l = a :: t ∧ t.length = n := by
  cases l with
  | nil => simp at h
  | cons a t => exact ⟨a, t, rfl, by simpa using h⟩
theorem list_nil' {α : Type} {l : List α} (h : l.length = 0) : l = [] := List.length_eq_zero_iff.1 h

section
variable {H : Type} {enc : TypeId × Value → H} {P : Program} {w : World} {base : Nat} {spare : Nat → Bool} {held : Bool}
theorem field_at' {fs : Array Field} {l : List Value} {xs : List (DataW H × List MemPlace)} {n : Nat} (hone : oneCellFields P fs = true) (hlen : xs.length = fs.size)
    (hg : ∀ (i : Nat) (f : Field), fs[i]? = some f → DataW.trod enc P w base spare held n f.type ((l.drop f.offset).take (P.cellsOf f.type)) = xs[i]?)
    (j : Nat) (f : Field) (hf : fs[j]? = some f) (u : Value) (hu : l[j]? = some u) : ∃ y, xs[j]? = some y ∧ DataW.trod enc P w base spare held n f.type [u] = some y := by
  obtain ⟨ho, hk⟩ := hone_of hone j f hf
  have hjl : j < fs.size := (Array.getElem?_eq_some_iff.1 hf).1
  have h1 := hg j f hf
  rw [ho, hk] at h1
  have hd : (l.drop j).take 1 = [u] := by
    obtain ⟨hlt, he⟩ := List.getElem?_eq_some_iff.1 hu
    rw [List.drop_eq_getElem_cons hlt, he]; rfl
  rw [hd] at h1
  exact ⟨xs[j]'(by omega), List.getElem?_eq_getElem (by omega), h1.trans (List.getElem?_eq_getElem (by omega))⟩
theorem weights_all {e : TypeId} : ∀ {l : List (DataW H)} {d : DataW H}, d ∈ l → ∀ n ∈ d.weights P e, n ∈ DataW.weightsAll P e l
  | [], _, h => by cases h
  | x :: l, d, h => fun n hn => by
    unfold DataW.weightsAll
    rcases List.mem_cons.1 h with rfl | h
    · exact List.mem_append_left _ hn
    · exact List.mem_append_right _ (weights_all h n hn)
theorem weights_elem {t e : TypeId} {elems rest : List (DataW H)} (ht : P.underlying t = some (.slice e)) {d : DataW H} (hd : d ∈ elems) : ∀ n ∈ d.weights P e, n ∈ (DataW.slice elems rest).weights P t := fun n hn => by
  unfold DataW.weights
  rw [ht]
  exact List.mem_cons_of_mem _ (List.mem_append_left _ (weights_all hd n hn))
end

theorem oneObj' : oneCellFields Tryd.prog (Tryd.prog.fieldsOf 31) = true := by kernel_rfl
theorem cellsObj' : Tryd.prog.cellsOf 31 = 20 := by kernel_rfl
theorem fieldsSize' : (Tryd.prog.fieldsOf 31).size = 20 := by kernel_rfl
theorem fld0' : ((Tryd.prog.fieldsOf 31)[0]?).map (·.type) = some 27 := by kernel_rfl
theorem fld1' : ((Tryd.prog.fieldsOf 31)[1]?).map (·.type) = some 9 := by kernel_rfl
theorem fld2' : ((Tryd.prog.fieldsOf 31)[2]?).map (·.type) = some 23 := by kernel_rfl
theorem fld3' : ((Tryd.prog.fieldsOf 31)[3]?).map (·.type) = some 23 := by kernel_rfl
theorem fld4' : ((Tryd.prog.fieldsOf 31)[4]?).map (·.type) = some 4 := by kernel_rfl
theorem fld5' : ((Tryd.prog.fieldsOf 31)[5]?).map (·.type) = some 4 := by kernel_rfl
theorem fld6' : ((Tryd.prog.fieldsOf 31)[6]?).map (·.type) = some 9 := by kernel_rfl
theorem fld7' : ((Tryd.prog.fieldsOf 31)[7]?).map (·.type) = some 2 := by kernel_rfl
theorem fld8' : ((Tryd.prog.fieldsOf 31)[8]?).map (·.type) = some 2 := by kernel_rfl
theorem fld9' : ((Tryd.prog.fieldsOf 31)[9]?).map (·.type) = some 28 := by kernel_rfl
theorem fld10' : ((Tryd.prog.fieldsOf 31)[10]?).map (·.type) = some 4 := by kernel_rfl
theorem fld11' : ((Tryd.prog.fieldsOf 31)[11]?).map (·.type) = some 4 := by kernel_rfl
theorem fld12' : ((Tryd.prog.fieldsOf 31)[12]?).map (·.type) = some 9 := by kernel_rfl
theorem fld13' : ((Tryd.prog.fieldsOf 31)[13]?).map (·.type) = some 9 := by kernel_rfl
theorem fld14' : ((Tryd.prog.fieldsOf 31)[14]?).map (·.type) = some 9 := by kernel_rfl
theorem fld15' : ((Tryd.prog.fieldsOf 31)[15]?).map (·.type) = some 9 := by kernel_rfl
theorem fld16' : ((Tryd.prog.fieldsOf 31)[16]?).map (·.type) = some 9 := by kernel_rfl
theorem fld17' : ((Tryd.prog.fieldsOf 31)[17]?).map (·.type) = some 29 := by kernel_rfl
theorem fld18' : ((Tryd.prog.fieldsOf 31)[18]?).map (·.type) = some 23 := by kernel_rfl
theorem fld19' : ((Tryd.prog.fieldsOf 31)[19]?).map (·.type) = some 23 := by kernel_rfl

set_option maxRecDepth 100000 in
theorem obj_of_trod {H : Type} {enc : TypeId × Value → H} {w : World} {base : Nat} {spare : Nat → Bool} {held : Bool} {fuel : Nat} {l : List Value} {x : DataW H × List MemPlace}
    (hf : DataW.trod enc Tryd.prog w base spare held fuel 31 l = some x) (hl0 : l.length = 20) :
    ∃ o : Obj, l = (cellsO o).toList ∧ FitO o ∧ ((x.1.weights Tryd.prog 31).all (· ≤ reachBytes) = true → LenO o) := by
  obtain ⟨xs, n, -, hx, -, hlen, hg⟩ := DataW.trod_struct undObj hf
  obtain ⟨u0, l0, rfl, hl1⟩ := list_cons' hl0
  obtain ⟨u1, l1, rfl, hl2⟩ := list_cons' hl1
  obtain ⟨u2, l2, rfl, hl3⟩ := list_cons' hl2
  obtain ⟨u3, l3, rfl, hl4⟩ := list_cons' hl3
  obtain ⟨u4, l4, rfl, hl5⟩ := list_cons' hl4
  obtain ⟨u5, l5, rfl, hl6⟩ := list_cons' hl5
  obtain ⟨u6, l6, rfl, hl7⟩ := list_cons' hl6
  obtain ⟨u7, l7, rfl, hl8⟩ := list_cons' hl7
  obtain ⟨u8, l8, rfl, hl9⟩ := list_cons' hl8
  obtain ⟨u9, l9, rfl, hl10⟩ := list_cons' hl9
  obtain ⟨u10, l10, rfl, hl11⟩ := list_cons' hl10
  obtain ⟨u11, l11, rfl, hl12⟩ := list_cons' hl11
  obtain ⟨u12, l12, rfl, hl13⟩ := list_cons' hl12
  obtain ⟨u13, l13, rfl, hl14⟩ := list_cons' hl13
  obtain ⟨u14, l14, rfl, hl15⟩ := list_cons' hl14
  obtain ⟨u15, l15, rfl, hl16⟩ := list_cons' hl15
  obtain ⟨u16, l16, rfl, hl17⟩ := list_cons' hl16
  obtain ⟨u17, l17, rfl, hl18⟩ := list_cons' hl17
  obtain ⟨u18, l18, rfl, hl19⟩ := list_cons' hl18
  obtain ⟨u19, l19, rfl, hl20⟩ := list_cons' hl19
  obtain rfl := list_nil' hl20
  obtain ⟨f0, hf0, ht0⟩ : ∃ f, (Tryd.prog.fieldsOf 31)[0]? = some f ∧ f.type = 27 := by have := fld0'; rw [Option.map_eq_some_iff] at this; exact this
  obtain ⟨y0, hy0, hr0⟩ := field_at' oneObj' hlen hg 0 f0 hf0 u0 rfl
  rw [ht0] at hr0
  obtain ⟨x0, hc0, he0, wf0⟩ := DataW.trod_int Tryd.underlying27 hr0
  obtain rfl := List.head_eq_of_cons_eq hc0
  obtain ⟨f1, hf1, ht1⟩ : ∃ f, (Tryd.prog.fieldsOf 31)[1]? = some f ∧ f.type = 9 := by have := fld1'; rw [Option.map_eq_some_iff] at this; exact this
  obtain ⟨y1, hy1, hr1⟩ := field_at' oneObj' hlen hg 1 f1 hf1 u1 rfl
  rw [ht1] at hr1
  obtain ⟨x1, hc1, he1, hs1⟩ := DataW.trod_string Tryd.underlying9 hr1
  obtain rfl := List.head_eq_of_cons_eq hc1
  obtain ⟨f2, hf2, ht2⟩ : ∃ f, (Tryd.prog.fieldsOf 31)[2]? = some f ∧ f.type = 23 := by have := fld2'; rw [Option.map_eq_some_iff] at this; exact this
  obtain ⟨y2, hy2, hr2⟩ := field_at' oneObj' hlen hg 2 f2 hf2 u2 rfl
  rw [ht2] at hr2
  obtain ⟨x2, hc2, he2, wf2⟩ := DataW.trod_int Tryd.underlying23 hr2
  obtain rfl := List.head_eq_of_cons_eq hc2
  obtain ⟨f3, hf3, ht3⟩ : ∃ f, (Tryd.prog.fieldsOf 31)[3]? = some f ∧ f.type = 23 := by have := fld3'; rw [Option.map_eq_some_iff] at this; exact this
  obtain ⟨y3, hy3, hr3⟩ := field_at' oneObj' hlen hg 3 f3 hf3 u3 rfl
  rw [ht3] at hr3
  obtain ⟨x3, hc3, he3, wf3⟩ := DataW.trod_int Tryd.underlying23 hr3
  obtain rfl := List.head_eq_of_cons_eq hc3
  obtain ⟨f4, hf4, ht4⟩ : ∃ f, (Tryd.prog.fieldsOf 31)[4]? = some f ∧ f.type = 4 := by have := fld4'; rw [Option.map_eq_some_iff] at this; exact this
  obtain ⟨y4, hy4, hr4⟩ := field_at' oneObj' hlen hg 4 f4 hf4 u4 rfl
  rw [ht4] at hr4
  obtain ⟨x4, hc4, he4⟩ := DataW.trod_bool Tryd.underlying4 hr4
  obtain rfl := List.head_eq_of_cons_eq hc4
  obtain ⟨f5, hf5, ht5⟩ : ∃ f, (Tryd.prog.fieldsOf 31)[5]? = some f ∧ f.type = 4 := by have := fld5'; rw [Option.map_eq_some_iff] at this; exact this
  obtain ⟨y5, hy5, hr5⟩ := field_at' oneObj' hlen hg 5 f5 hf5 u5 rfl
  rw [ht5] at hr5
  obtain ⟨x5, hc5, he5⟩ := DataW.trod_bool Tryd.underlying4 hr5
  obtain rfl := List.head_eq_of_cons_eq hc5
  obtain ⟨f6, hf6, ht6⟩ : ∃ f, (Tryd.prog.fieldsOf 31)[6]? = some f ∧ f.type = 9 := by have := fld6'; rw [Option.map_eq_some_iff] at this; exact this
  obtain ⟨y6, hy6, hr6⟩ := field_at' oneObj' hlen hg 6 f6 hf6 u6 rfl
  rw [ht6] at hr6
  obtain ⟨x6, hc6, he6, hs6⟩ := DataW.trod_string Tryd.underlying9 hr6
  obtain rfl := List.head_eq_of_cons_eq hc6
  obtain ⟨f7, hf7, ht7⟩ : ∃ f, (Tryd.prog.fieldsOf 31)[7]? = some f ∧ f.type = 2 := by have := fld7'; rw [Option.map_eq_some_iff] at this; exact this
  obtain ⟨y7, hy7, hr7⟩ := field_at' oneObj' hlen hg 7 f7 hf7 u7 rfl
  rw [ht7] at hr7
  obtain ⟨x7, hc7, he7, wf7⟩ := DataW.trod_int Tryd.underlying2 hr7
  obtain rfl := List.head_eq_of_cons_eq hc7
  obtain ⟨f8, hf8, ht8⟩ : ∃ f, (Tryd.prog.fieldsOf 31)[8]? = some f ∧ f.type = 2 := by have := fld8'; rw [Option.map_eq_some_iff] at this; exact this
  obtain ⟨y8, hy8, hr8⟩ := field_at' oneObj' hlen hg 8 f8 hf8 u8 rfl
  rw [ht8] at hr8
  obtain ⟨x8, hc8, he8, wf8⟩ := DataW.trod_int Tryd.underlying2 hr8
  obtain rfl := List.head_eq_of_cons_eq hc8
  obtain ⟨f9, hf9, ht9⟩ : ∃ f, (Tryd.prog.fieldsOf 31)[9]? = some f ∧ f.type = 28 := by have := fld9'; rw [Option.map_eq_some_iff] at this; exact this
  obtain ⟨y9, hy9, hr9⟩ := field_at' oneObj' hlen hg 9 f9 hf9 u9 rfl
  rw [ht9] at hr9
  obtain ⟨x9, hc9, he9, wf9⟩ := DataW.trod_int Tryd.underlying28 hr9
  obtain rfl := List.head_eq_of_cons_eq hc9
  obtain ⟨f10, hf10, ht10⟩ : ∃ f, (Tryd.prog.fieldsOf 31)[10]? = some f ∧ f.type = 4 := by have := fld10'; rw [Option.map_eq_some_iff] at this; exact this
  obtain ⟨y10, hy10, hr10⟩ := field_at' oneObj' hlen hg 10 f10 hf10 u10 rfl
  rw [ht10] at hr10
  obtain ⟨x10, hc10, he10⟩ := DataW.trod_bool Tryd.underlying4 hr10
  obtain rfl := List.head_eq_of_cons_eq hc10
  obtain ⟨f11, hf11, ht11⟩ : ∃ f, (Tryd.prog.fieldsOf 31)[11]? = some f ∧ f.type = 4 := by have := fld11'; rw [Option.map_eq_some_iff] at this; exact this
  obtain ⟨y11, hy11, hr11⟩ := field_at' oneObj' hlen hg 11 f11 hf11 u11 rfl
  rw [ht11] at hr11
  obtain ⟨x11, hc11, he11⟩ := DataW.trod_bool Tryd.underlying4 hr11
  obtain rfl := List.head_eq_of_cons_eq hc11
  obtain ⟨f12, hf12, ht12⟩ : ∃ f, (Tryd.prog.fieldsOf 31)[12]? = some f ∧ f.type = 9 := by have := fld12'; rw [Option.map_eq_some_iff] at this; exact this
  obtain ⟨y12, hy12, hr12⟩ := field_at' oneObj' hlen hg 12 f12 hf12 u12 rfl
  rw [ht12] at hr12
  obtain ⟨x12, hc12, he12, hs12⟩ := DataW.trod_string Tryd.underlying9 hr12
  obtain rfl := List.head_eq_of_cons_eq hc12
  obtain ⟨f13, hf13, ht13⟩ : ∃ f, (Tryd.prog.fieldsOf 31)[13]? = some f ∧ f.type = 9 := by have := fld13'; rw [Option.map_eq_some_iff] at this; exact this
  obtain ⟨y13, hy13, hr13⟩ := field_at' oneObj' hlen hg 13 f13 hf13 u13 rfl
  rw [ht13] at hr13
  obtain ⟨x13, hc13, he13, hs13⟩ := DataW.trod_string Tryd.underlying9 hr13
  obtain rfl := List.head_eq_of_cons_eq hc13
  obtain ⟨f14, hf14, ht14⟩ : ∃ f, (Tryd.prog.fieldsOf 31)[14]? = some f ∧ f.type = 9 := by have := fld14'; rw [Option.map_eq_some_iff] at this; exact this
  obtain ⟨y14, hy14, hr14⟩ := field_at' oneObj' hlen hg 14 f14 hf14 u14 rfl
  rw [ht14] at hr14
  obtain ⟨x14, hc14, he14, hs14⟩ := DataW.trod_string Tryd.underlying9 hr14
  obtain rfl := List.head_eq_of_cons_eq hc14
  obtain ⟨f15, hf15, ht15⟩ : ∃ f, (Tryd.prog.fieldsOf 31)[15]? = some f ∧ f.type = 9 := by have := fld15'; rw [Option.map_eq_some_iff] at this; exact this
  obtain ⟨y15, hy15, hr15⟩ := field_at' oneObj' hlen hg 15 f15 hf15 u15 rfl
  rw [ht15] at hr15
  obtain ⟨x15, hc15, he15, hs15⟩ := DataW.trod_string Tryd.underlying9 hr15
  obtain rfl := List.head_eq_of_cons_eq hc15
  obtain ⟨f16, hf16, ht16⟩ : ∃ f, (Tryd.prog.fieldsOf 31)[16]? = some f ∧ f.type = 9 := by have := fld16'; rw [Option.map_eq_some_iff] at this; exact this
  obtain ⟨y16, hy16, hr16⟩ := field_at' oneObj' hlen hg 16 f16 hf16 u16 rfl
  rw [ht16] at hr16
  obtain ⟨x16, hc16, he16, hs16⟩ := DataW.trod_string Tryd.underlying9 hr16
  obtain rfl := List.head_eq_of_cons_eq hc16
  obtain ⟨f17, hf17, ht17⟩ : ∃ f, (Tryd.prog.fieldsOf 31)[17]? = some f ∧ f.type = 29 := by have := fld17'; rw [Option.map_eq_some_iff] at this; exact this
  obtain ⟨y17, hy17, hr17⟩ := field_at' oneObj' hlen hg 17 f17 hf17 u17 rfl
  rw [ht17] at hr17
  obtain ⟨x17, hc17, he17, wf17⟩ := DataW.trod_int Tryd.underlying29 hr17
  obtain rfl := List.head_eq_of_cons_eq hc17
  obtain ⟨f18, hf18, ht18⟩ : ∃ f, (Tryd.prog.fieldsOf 31)[18]? = some f ∧ f.type = 23 := by have := fld18'; rw [Option.map_eq_some_iff] at this; exact this
  obtain ⟨y18, hy18, hr18⟩ := field_at' oneObj' hlen hg 18 f18 hf18 u18 rfl
  rw [ht18] at hr18
  obtain ⟨x18, hc18, he18, wf18⟩ := DataW.trod_int Tryd.underlying23 hr18
  obtain rfl := List.head_eq_of_cons_eq hc18
  obtain ⟨f19, hf19, ht19⟩ : ∃ f, (Tryd.prog.fieldsOf 31)[19]? = some f ∧ f.type = 23 := by have := fld19'; rw [Option.map_eq_some_iff] at this; exact this
  obtain ⟨y19, hy19, hr19⟩ := field_at' oneObj' hlen hg 19 f19 hf19 u19 rfl
  rw [ht19] at hr19
  obtain ⟨x19, hc19, he19, wf19⟩ := DataW.trod_int Tryd.underlying23 hr19
  obtain rfl := List.head_eq_of_cons_eq hc19
  refine ⟨⟨x0, x1, x2, x3, x4, x5, x6, x7, x8, x9, x10, x11, x12, x13, x14, x15, x16, x17, x18, x19⟩, rfl, ⟨bounds_u8 wf0, bounds_u64 wf2, bounds_u64 wf3, bounds_i64 wf7, bounds_i64 wf8, bounds_u8 wf9, bounds_u8 wf17, bounds_u64 wf18, bounds_u64 wf19⟩, fun hw => ?_⟩
  obtain ⟨d, ps⟩ := x
  obtain ⟨hd, -⟩ := Prod.mk.inj hx
  simp only at hw
  rw [hd] at hw
  have hw' : (DataW.weightsEach Tryd.prog ((Tryd.prog.fieldsOf 31).toList.map (·.type)) (xs.map (·.1))).all (· ≤ reachBytes) = true := by
    simpa only [DataW.weights, undObj] using hw
  have at_ : ∀ (j : Nat) (f : Field) (y : DataW H × List MemPlace) (s : ByteArray), (Tryd.prog.fieldsOf 31)[j]? = some f → f.type = 9 → xs[j]? = some y → y = (.lit (.string s.data.toList), []) → s.size ≤ 140737488351232 := fun j f y s h1 h2 h3 h4 => by
    have := sized_string (j := j) (t := 9) (bytes := s.data.toList) hw' (by rw [List.getElem?_map, Array.getElem?_toList, h1, Option.map_some, h2]) (by rw [List.getElem?_map, h3, Option.map_some, h4])
    simpa [reachBytes] using this
  exact ⟨at_ 1 f1 y1 x1 hf1 ht1 hy1 he1, at_ 6 f6 y6 x6 hf6 ht6 hy6 he6, at_ 12 f12 y12 x12 hf12 ht12 hy12 he12, at_ 13 f13 y13 x13 hf13 ht13 hy13 he13, at_ 14 f14 y14 x14 hf14 ht14 hy14 he14, at_ 15 f15 y15 x15 hf15 ht15 hy15 he15, at_ 16 f16 y16 x16 hf16 ht16 hy16 he16⟩

/-- Where a slice that comes in lies. -/
theorem spot_add' {W : World} {b off : Nat} {sp : Option Nat} {i : Nat} {v : Value} (h : W.cell? ((⟨b, off, sp⟩ : Addr).add i) = some v) : W.cell? ⟨b, off + i, none⟩ = some v := by
  unfold Addr.add at h
  split at h
  · subst_vars
    unfold World.cell? at h ⊢
    cases hb : W.heap[b]? with
    | none => rw [hb] at h; cases h
    | some o =>
      rw [hb] at h
      cases o with
      | cells c t f =>
        cases sp with
        | none => simpa using h
        | some s => simp at h
      | _ => cases h
  · exact h
set_option maxRecDepth 100000 in
theorem lies_slice' {r : Reach} {b0 : Nat} {t e : TypeId} {w : World} {a : Addr} {n c : Nat} (ht : Tryd.prog.underlying t = some (.slice e)) (hv : Value.okWide Tryd.prog w r b0 t (.slice (some a) n c)) : a.spot = none ∧ a.block < w.heap.size := by
  unfold Value.okWide at hv
  rw [ht] at hv
  unfold Cell.okWide Cell.ok at hv
  rw [ht] at hv
  obtain ⟨-, -, -, hsp, row, cells, hsh, -⟩ := hv
  refine ⟨hsp, ?_⟩
  unfold World.shape? at hsh
  rcases Nat.lt_or_ge a.block w.heap.size with hh | hh
  · exact hh
  · rw [Array.getElem?_eq_none hh] at hsh; cases hsh
instance : Inhabited Obj := ⟨O0⟩
set_option maxRecDepth 100000 in
theorem open_objs {H : Type} {enc : TypeId × Value → H} {w : World} {base : Nat} {spare : Nat → Bool} {held : Bool} {r : Reach} {b0 : Nat} {v : Value} {d : DataW H} {p : List MemPlace}
    (hv : Value.okWide Tryd.prog w r b0 22 v) (h : DataW.Trod enc Tryd.prog w base spare held 22 v d p) :
    ∃ l : List Obj, ObjsIn w v l ∧ (∀ o ∈ l, FitO o) ∧ ((d.weights Tryd.prog 22).all (· ≤ reachBytes) = true → ∀ o ∈ l, LenO o) ∧ (∀ o n c, v = .slice o n c → n ≤ c) := by
  have hv2 := hv
  obtain ⟨a0, len, cap, rfl⟩ := okWide_slice Tryd.underlying22 hv
  obtain ⟨fuel, hf⟩ := h
  rcases Go.Deep.open_slice Tryd.underlying22 hf with ⟨hcs, -⟩ | ⟨a, len', cap', m, n, D, Pl, hcs, -, hl, hm, hmm, hxx, hx⟩
  · refine ⟨[], ⟨none, 0, ?_, by simp, fun i hi => absurd hi (by simp)⟩, fun o ho => (by cases ho), fun _ o ho => (by cases ho), fun o n c h => ?_⟩
    · simpa [Value.cells] using hcs
    · have e : (Value.slice a0 len cap) = .slice none 0 0 := by simpa [Value.cells] using hcs
      rw [e] at h
      cases h
      exact Nat.le_refl _
  · have e : (Value.slice a0 len cap) = .slice (some a) len' cap' := by simpa [Value.cells] using hcs
    cases e
    obtain ⟨hsp, hlt⟩ := lies_slice' Tryd.underlying22 hv2
    obtain ⟨b, off, spot⟩ := a
    obtain rfl : spot = none := hsp
    have hmx : maxLen = 9223372036854775807 := rfl
    have hlm : len ≤ m := by rw [hmm]; split <;> omega
    have hdd : d = .slice ((List.range len).map D) ((List.range (m - len)).map fun j => D (len + j)) := (Prod.mk.inj hxx).1
    have each : ∀ i, i < len → ∃ y : Obj, w.rangeAt b (off + i * 20) (cellsO y).toList ∧ FitO y ∧ (((D i).weights Tryd.prog 31).all (· ≤ reachBytes) = true → LenO y) := fun i hi => by
      obtain ⟨cs, h1, h2⟩ := hx i (by omega)
      rw [cellsObj'] at h1
      obtain ⟨-, hlen, hcell⟩ := World.cells?_some h1
      obtain ⟨y, rfl, q1, q2⟩ := obj_of_trod h2 hlen
      refine ⟨y, fun j u hu => ?_, q1, q2⟩
      have hj : j < (cellsO y).toList.length := (List.getElem?_eq_some_iff.1 hu).1
      have e0 := hcell j hj
      have add_add : ((⟨b, off, none⟩ : Addr).add (i * 20)).add j = ⟨b, off + i * 20 + j, none⟩ := by
        unfold Addr.add
        split <;> split <;> simp_all
      rw [add_add] at e0
      rw [e0]
      simpa using hu
    obtain ⟨Y, hY⟩ := Go.Deep.choose_lt each
    have hll : ((List.range len).map Y).length = len := by simp
    refine ⟨(List.range len).map Y, ⟨some ⟨b, off, none⟩, cap, by rw [hll], by rw [hll]; omega, fun i hi => ?_⟩, fun o ho => ?_, fun hw o ho => ?_, fun o n c h => by cases h; exact hl⟩
    · rw [hll] at hi
      simp only [List.getElem_map, List.getElem_range]
      exact ⟨b, off, rfl, hlt, (hY i hi).1⟩
    · obtain ⟨i, hi, rfl⟩ := List.mem_map.1 ho
      exact (hY i (List.mem_range.1 hi)).2.1
    · obtain ⟨i, hi, rfl⟩ := List.mem_map.1 ho
      refine (hY i (List.mem_range.1 hi)).2.2 ?_
      rw [hdd] at hw
      exact List.all_eq_true.2 fun n hn => List.all_eq_true.1 hw n (weights_elem Tryd.underlying22 (List.mem_map.2 ⟨i, hi, rfl⟩) n hn)
set_option maxRecDepth 100000 in
theorem open_obj1 {H : Type} {enc : TypeId × Value → H} {w : World} {base : Nat} {spare : Nat → Bool} {held : Bool} {r : Reach} {b0 : Nat} {v : Value} {d : DataW H} {p : List MemPlace}
    (hv : Value.okWide Tryd.prog w r b0 31 v) (h : DataW.Trod enc Tryd.prog w base spare held 31 v d p) :
    ∃ o : Obj, v = encO o ∧ FitO o ∧ ((d.weights Tryd.prog 31).all (· ≤ reachBytes) = true → LenO o) := by
  obtain ⟨cs, rfl, hsz⟩ := okWide_struct undObj hv
  rw [cellsObj'] at hsz
  obtain ⟨fuel, hf⟩ := h
  obtain ⟨o, ho, h1, h2⟩ := obj_of_trod (l := cs.toList) (by simpa [Value.cells] using hf) (by simpa using hsz)
  exact ⟨o, by unfold encO; rw [← Array.toList_inj.1 ho], h1, h2⟩
end Go.Proofs.YtfpdchabknoklaaDoor.O.B
namespace Go.Proofs.YtfpdchabknoklaaDoor.O.B
open Go.ChangeShapes Go.WideShapes Go.RowKit Go.Deep Go.Lib
open Go.ChangeMaps (open_string)

theorem keyOne : oneCellFields Tryd.prog (Tryd.prog.fieldsOf 40) = true := by kernel_rfl
theorem keyUnd : Tryd.prog.underlying 40 = some (.struct (Tryd.prog.fieldsOf 40)) := by kernel_rfl
theorem keyF0 : ((Tryd.prog.fieldsOf 40)[0]?).map (·.type) = some 27 := by kernel_rfl
theorem keyF1 : ((Tryd.prog.fieldsOf 40)[1]?).map (·.type) = some 9 := by kernel_rfl
theorem key_of_trod {H : Type} {enc : TypeId × Value → H} {w : World} {base : Nat} {spare : Nat → Bool} {held : Bool} {fuel : Nat} {l : List Value} {x : DataW H × List MemPlace}
    (hf : DataW.trod enc Tryd.prog w base spare held fuel 40 l = some x) (hl0 : l.length = 2) : ∃ k n, l = [.int .u8 k, .string n] := by
  obtain ⟨xs, n, -, hx, -, hlen, hg⟩ := DataW.trod_struct keyUnd hf
  obtain ⟨u0, l0, rfl, hl1⟩ := list_cons' hl0
  obtain ⟨u1, l1, rfl, hl2⟩ := list_cons' hl1
  obtain rfl := list_nil' hl2
  obtain ⟨f0, hf0, ht0⟩ : ∃ f, (Tryd.prog.fieldsOf 40)[0]? = some f ∧ f.type = 27 := by have := keyF0; rw [Option.map_eq_some_iff] at this; exact this
  obtain ⟨y0, hy0, hr0⟩ := field_at' keyOne hlen hg 0 f0 hf0 u0 rfl
  rw [ht0] at hr0
  obtain ⟨x0, hc0, he0, wf0⟩ := DataW.trod_int Tryd.underlying27 hr0
  obtain rfl := List.head_eq_of_cons_eq hc0
  obtain ⟨f1, hf1, ht1⟩ : ∃ f, (Tryd.prog.fieldsOf 40)[1]? = some f ∧ f.type = 9 := by have := keyF1; rw [Option.map_eq_some_iff] at this; exact this
  obtain ⟨y1, hy1, hr1⟩ := field_at' keyOne hlen hg 1 f1 hf1 u1 rfl
  rw [ht1] at hr1
  obtain ⟨x1, hc1, he1, hs1⟩ := DataW.trod_string Tryd.underlying9 hr1
  obtain rfl := List.head_eq_of_cons_eq hc1
  exact ⟨x0, x1, rfl⟩
theorem calOne : oneCellFields Tryd.prog (Tryd.prog.fieldsOf 34) = true := by kernel_rfl
theorem calUnd : Tryd.prog.underlying 34 = some (.struct (Tryd.prog.fieldsOf 34)) := by kernel_rfl
theorem calF0 : ((Tryd.prog.fieldsOf 34)[0]?).map (·.type) = some 32 := by kernel_rfl
theorem calF1 : ((Tryd.prog.fieldsOf 34)[1]?).map (·.type) = some 9 := by kernel_rfl
theorem calF2 : ((Tryd.prog.fieldsOf 34)[2]?).map (·.type) = some 23 := by kernel_rfl
theorem calF3 : ((Tryd.prog.fieldsOf 34)[3]?).map (·.type) = some 2 := by kernel_rfl
theorem calF4 : ((Tryd.prog.fieldsOf 34)[4]?).map (·.type) = some 9 := by kernel_rfl
theorem calF5 : ((Tryd.prog.fieldsOf 34)[5]?).map (·.type) = some 9 := by kernel_rfl
theorem calF6 : ((Tryd.prog.fieldsOf 34)[6]?).map (·.type) = some 9 := by kernel_rfl
theorem cal_of_trod {H : Type} {enc : TypeId × Value → H} {w : World} {base : Nat} {spare : Nat → Bool} {held : Bool} {fuel : Nat} {l : List Value} {x : DataW H × List MemPlace}
    (hf : DataW.trod enc Tryd.prog w base spare held fuel 34 l = some x) (hl0 : l.length = 7) : ∃ c : Cl, l = (cellsC c).toList := by
  obtain ⟨xs, n, -, hx, -, hlen, hg⟩ := DataW.trod_struct calUnd hf
  obtain ⟨u0, l0, rfl, hl1⟩ := list_cons' hl0
  obtain ⟨u1, l1, rfl, hl2⟩ := list_cons' hl1
  obtain ⟨u2, l2, rfl, hl3⟩ := list_cons' hl2
  obtain ⟨u3, l3, rfl, hl4⟩ := list_cons' hl3
  obtain ⟨u4, l4, rfl, hl5⟩ := list_cons' hl4
  obtain ⟨u5, l5, rfl, hl6⟩ := list_cons' hl5
  obtain ⟨u6, l6, rfl, hl7⟩ := list_cons' hl6
  obtain rfl := list_nil' hl7
  obtain ⟨f0, hf0, ht0⟩ : ∃ f, (Tryd.prog.fieldsOf 34)[0]? = some f ∧ f.type = 32 := by have := calF0; rw [Option.map_eq_some_iff] at this; exact this
  obtain ⟨y0, hy0, hr0⟩ := field_at' calOne hlen hg 0 f0 hf0 u0 rfl
  rw [ht0] at hr0
  obtain ⟨x0, hc0, he0, wf0⟩ := DataW.trod_int Tryd.underlying32 hr0
  obtain rfl := List.head_eq_of_cons_eq hc0
  obtain ⟨f1, hf1, ht1⟩ : ∃ f, (Tryd.prog.fieldsOf 34)[1]? = some f ∧ f.type = 9 := by have := calF1; rw [Option.map_eq_some_iff] at this; exact this
  obtain ⟨y1, hy1, hr1⟩ := field_at' calOne hlen hg 1 f1 hf1 u1 rfl
  rw [ht1] at hr1
  obtain ⟨x1, hc1, he1, hs1⟩ := DataW.trod_string Tryd.underlying9 hr1
  obtain rfl := List.head_eq_of_cons_eq hc1
  obtain ⟨f2, hf2, ht2⟩ : ∃ f, (Tryd.prog.fieldsOf 34)[2]? = some f ∧ f.type = 23 := by have := calF2; rw [Option.map_eq_some_iff] at this; exact this
  obtain ⟨y2, hy2, hr2⟩ := field_at' calOne hlen hg 2 f2 hf2 u2 rfl
  rw [ht2] at hr2
  obtain ⟨x2, hc2, he2, wf2⟩ := DataW.trod_int Tryd.underlying23 hr2
  obtain rfl := List.head_eq_of_cons_eq hc2
  obtain ⟨f3, hf3, ht3⟩ : ∃ f, (Tryd.prog.fieldsOf 34)[3]? = some f ∧ f.type = 2 := by have := calF3; rw [Option.map_eq_some_iff] at this; exact this
  obtain ⟨y3, hy3, hr3⟩ := field_at' calOne hlen hg 3 f3 hf3 u3 rfl
  rw [ht3] at hr3
  obtain ⟨x3, hc3, he3, wf3⟩ := DataW.trod_int Tryd.underlying2 hr3
  obtain rfl := List.head_eq_of_cons_eq hc3
  obtain ⟨f4, hf4, ht4⟩ : ∃ f, (Tryd.prog.fieldsOf 34)[4]? = some f ∧ f.type = 9 := by have := calF4; rw [Option.map_eq_some_iff] at this; exact this
  obtain ⟨y4, hy4, hr4⟩ := field_at' calOne hlen hg 4 f4 hf4 u4 rfl
  rw [ht4] at hr4
  obtain ⟨x4, hc4, he4, hs4⟩ := DataW.trod_string Tryd.underlying9 hr4
  obtain rfl := List.head_eq_of_cons_eq hc4
  obtain ⟨f5, hf5, ht5⟩ : ∃ f, (Tryd.prog.fieldsOf 34)[5]? = some f ∧ f.type = 9 := by have := calF5; rw [Option.map_eq_some_iff] at this; exact this
  obtain ⟨y5, hy5, hr5⟩ := field_at' calOne hlen hg 5 f5 hf5 u5 rfl
  rw [ht5] at hr5
  obtain ⟨x5, hc5, he5, hs5⟩ := DataW.trod_string Tryd.underlying9 hr5
  obtain rfl := List.head_eq_of_cons_eq hc5
  obtain ⟨f6, hf6, ht6⟩ : ∃ f, (Tryd.prog.fieldsOf 34)[6]? = some f ∧ f.type = 9 := by have := calF6; rw [Option.map_eq_some_iff] at this; exact this
  obtain ⟨y6, hy6, hr6⟩ := field_at' calOne hlen hg 6 f6 hf6 u6 rfl
  rw [ht6] at hr6
  obtain ⟨x6, hc6, he6, hs6⟩ := DataW.trod_string Tryd.underlying9 hr6
  obtain rfl := List.head_eq_of_cons_eq hc6
  exact ⟨⟨x0, x1, x2, x3, x4, x5, x6⟩, rfl⟩
theorem resOne : oneCellFields Tryd.prog (Tryd.prog.fieldsOf 43) = true := by kernel_rfl
theorem resUnd : Tryd.prog.underlying 43 = some (.struct (Tryd.prog.fieldsOf 43)) := by kernel_rfl
theorem resF0 : ((Tryd.prog.fieldsOf 43)[0]?).map (·.type) = some 41 := by kernel_rfl
theorem resF1 : ((Tryd.prog.fieldsOf 43)[1]?).map (·.type) = some 2 := by kernel_rfl
theorem resF2 : ((Tryd.prog.fieldsOf 43)[2]?).map (·.type) = some 9 := by kernel_rfl
theorem resF3 : ((Tryd.prog.fieldsOf 43)[3]?).map (·.type) = some 23 := by kernel_rfl
theorem res_of_trod {H : Type} {enc : TypeId × Value → H} {w : World} {base : Nat} {spare : Nat → Bool} {held : Bool} {fuel : Nat} {l : List Value} {x : DataW H × List MemPlace}
    (hf : DataW.trod enc Tryd.prog w base spare held fuel 43 l = some x) (hl0 : l.length = 4) : ∃ r : Rs, l = [.int .i64 r.err, .int .i64 r.size, .string r.zone, .int .u64 r.tag] := by
  obtain ⟨xs, n, -, hx, -, hlen, hg⟩ := DataW.trod_struct resUnd hf
  obtain ⟨u0, l0, rfl, hl1⟩ := list_cons' hl0
  obtain ⟨u1, l1, rfl, hl2⟩ := list_cons' hl1
  obtain ⟨u2, l2, rfl, hl3⟩ := list_cons' hl2
  obtain ⟨u3, l3, rfl, hl4⟩ := list_cons' hl3
  obtain rfl := list_nil' hl4
  obtain ⟨f0, hf0, ht0⟩ : ∃ f, (Tryd.prog.fieldsOf 43)[0]? = some f ∧ f.type = 41 := by have := resF0; rw [Option.map_eq_some_iff] at this; exact this
  obtain ⟨y0, hy0, hr0⟩ := field_at' resOne hlen hg 0 f0 hf0 u0 rfl
  rw [ht0] at hr0
  obtain ⟨x0, hc0, he0, wf0⟩ := DataW.trod_int Tryd.underlying41 hr0
  obtain rfl := List.head_eq_of_cons_eq hc0
  obtain ⟨f1, hf1, ht1⟩ : ∃ f, (Tryd.prog.fieldsOf 43)[1]? = some f ∧ f.type = 2 := by have := resF1; rw [Option.map_eq_some_iff] at this; exact this
  obtain ⟨y1, hy1, hr1⟩ := field_at' resOne hlen hg 1 f1 hf1 u1 rfl
  rw [ht1] at hr1
  obtain ⟨x1, hc1, he1, wf1⟩ := DataW.trod_int Tryd.underlying2 hr1
  obtain rfl := List.head_eq_of_cons_eq hc1
  obtain ⟨f2, hf2, ht2⟩ : ∃ f, (Tryd.prog.fieldsOf 43)[2]? = some f ∧ f.type = 9 := by have := resF2; rw [Option.map_eq_some_iff] at this; exact this
  obtain ⟨y2, hy2, hr2⟩ := field_at' resOne hlen hg 2 f2 hf2 u2 rfl
  rw [ht2] at hr2
  obtain ⟨x2, hc2, he2, hs2⟩ := DataW.trod_string Tryd.underlying9 hr2
  obtain rfl := List.head_eq_of_cons_eq hc2
  obtain ⟨f3, hf3, ht3⟩ : ∃ f, (Tryd.prog.fieldsOf 43)[3]? = some f ∧ f.type = 23 := by have := resF3; rw [Option.map_eq_some_iff] at this; exact this
  obtain ⟨y3, hy3, hr3⟩ := field_at' resOne hlen hg 3 f3 hf3 u3 rfl
  rw [ht3] at hr3
  obtain ⟨x3, hc3, he3, wf3⟩ := DataW.trod_int Tryd.underlying23 hr3
  obtain rfl := List.head_eq_of_cons_eq hc3
  exact ⟨⟨x0, x1, x2, x3⟩, rfl⟩

/-- A reply. -/
structure Rep where
  k : Int
  n : ByteArray
  c : Cl
  own : Bool
  r : Rs
def cellsY (y : Rep) : Array Value := #[.int .u8 y.k, .string y.n, .int .u8 y.c.verb, .string y.c.target, .int .u64 y.c.num, .int .i64 y.c.size, .string y.c.zone, .string y.c.node, .string y.c.source, .bool y.own, .int .i64 y.r.err, .int .i64 y.r.size, .string y.r.zone, .int .u64 y.r.tag]
def encY (y : Rep) : Value := .agg (cellsY y)
theorem repUnd : Tryd.prog.underlying 45 = some (.struct (Tryd.prog.fieldsOf 45)) := by kernel_rfl
theorem repCells : Tryd.prog.cellsOf 45 = 14 := by kernel_rfl
theorem repSize : (Tryd.prog.fieldsOf 45).size = 4 := by kernel_rfl
theorem repF0 : ((Tryd.prog.fieldsOf 45)[0]?).map (fun f => (f.type, f.offset)) = some (40, 0) := by kernel_rfl
theorem repC0 : Tryd.prog.cellsOf 40 = 2 := by kernel_rfl
theorem repF1 : ((Tryd.prog.fieldsOf 45)[1]?).map (fun f => (f.type, f.offset)) = some (34, 2) := by kernel_rfl
theorem repC1 : Tryd.prog.cellsOf 34 = 7 := by kernel_rfl
theorem repF2 : ((Tryd.prog.fieldsOf 45)[2]?).map (fun f => (f.type, f.offset)) = some (4, 9) := by kernel_rfl
theorem repC2 : Tryd.prog.cellsOf 4 = 1 := by kernel_rfl
theorem repF3 : ((Tryd.prog.fieldsOf 45)[3]?).map (fun f => (f.type, f.offset)) = some (43, 10) := by kernel_rfl
theorem repC3 : Tryd.prog.cellsOf 43 = 4 := by kernel_rfl

set_option maxRecDepth 100000 in
theorem open_reply {H : Type} {enc : TypeId × Value → H} {w : World} {base : Nat} {spare : Nat → Bool} {held : Bool} {r : Reach} {b0 : Nat} {v : Value} {d : DataW H} {p : List MemPlace}
    (hv : Value.okWide Tryd.prog w r b0 45 v) (h : DataW.Trod enc Tryd.prog w base spare held 45 v d p) : ∃ y : Rep, v = encY y := by
  obtain ⟨cs, rfl, hsz⟩ := okWide_struct repUnd hv
  rw [repCells] at hsz
  obtain ⟨l⟩ := cs
  obtain ⟨fuel, hf⟩ := h
  obtain ⟨xs, n, -, hx, -, hlen, hg⟩ := DataW.trod_struct repUnd hf
  rw [repSize] at hlen
  have hl0 : l.length = 14 := by simpa using hsz
  obtain ⟨u0, l0, rfl, hl1⟩ := list_cons' hl0
  obtain ⟨u1, l1, rfl, hl2⟩ := list_cons' hl1
  obtain ⟨u2, l2, rfl, hl3⟩ := list_cons' hl2
  obtain ⟨u3, l3, rfl, hl4⟩ := list_cons' hl3
  obtain ⟨u4, l4, rfl, hl5⟩ := list_cons' hl4
  obtain ⟨u5, l5, rfl, hl6⟩ := list_cons' hl5
  obtain ⟨u6, l6, rfl, hl7⟩ := list_cons' hl6
  obtain ⟨u7, l7, rfl, hl8⟩ := list_cons' hl7
  obtain ⟨u8, l8, rfl, hl9⟩ := list_cons' hl8
  obtain ⟨u9, l9, rfl, hl10⟩ := list_cons' hl9
  obtain ⟨u10, l10, rfl, hl11⟩ := list_cons' hl10
  obtain ⟨u11, l11, rfl, hl12⟩ := list_cons' hl11
  obtain ⟨u12, l12, rfl, hl13⟩ := list_cons' hl12
  obtain ⟨u13, l13, rfl, hl14⟩ := list_cons' hl13
  obtain rfl := list_nil' hl14
  have e0 : ∃ y, DataW.trod enc Tryd.prog w base spare held n 40 [u0, u1] = some y := by
    obtain ⟨f, hf0, hp⟩ : ∃ f, (Tryd.prog.fieldsOf 45)[0]? = some f ∧ (f.type, f.offset) = (40, 0) := by have := repF0; rw [Option.map_eq_some_iff] at this; exact this
    obtain ⟨h1, h2⟩ := Prod.mk.inj hp
    have h3 := hg 0 f hf0
    rw [h1, h2, repC0] at h3
    exact ⟨xs[0]'(by omega), h3.trans (List.getElem?_eq_getElem (by omega))⟩
  obtain ⟨y0, e0⟩ := e0
  have e1 : ∃ y, DataW.trod enc Tryd.prog w base spare held n 34 [u2, u3, u4, u5, u6, u7, u8] = some y := by
    obtain ⟨f, hf0, hp⟩ : ∃ f, (Tryd.prog.fieldsOf 45)[1]? = some f ∧ (f.type, f.offset) = (34, 2) := by have := repF1; rw [Option.map_eq_some_iff] at this; exact this
    obtain ⟨h1, h2⟩ := Prod.mk.inj hp
    have h3 := hg 1 f hf0
    rw [h1, h2, repC1] at h3
    exact ⟨xs[1]'(by omega), h3.trans (List.getElem?_eq_getElem (by omega))⟩
  obtain ⟨y1, e1⟩ := e1
  have e2 : ∃ y, DataW.trod enc Tryd.prog w base spare held n 4 [u9] = some y := by
    obtain ⟨f, hf0, hp⟩ : ∃ f, (Tryd.prog.fieldsOf 45)[2]? = some f ∧ (f.type, f.offset) = (4, 9) := by have := repF2; rw [Option.map_eq_some_iff] at this; exact this
    obtain ⟨h1, h2⟩ := Prod.mk.inj hp
    have h3 := hg 2 f hf0
    rw [h1, h2, repC2] at h3
    exact ⟨xs[2]'(by omega), h3.trans (List.getElem?_eq_getElem (by omega))⟩
  obtain ⟨y2, e2⟩ := e2
  have e3 : ∃ y, DataW.trod enc Tryd.prog w base spare held n 43 [u10, u11, u12, u13] = some y := by
    obtain ⟨f, hf0, hp⟩ : ∃ f, (Tryd.prog.fieldsOf 45)[3]? = some f ∧ (f.type, f.offset) = (43, 10) := by have := repF3; rw [Option.map_eq_some_iff] at this; exact this
    obtain ⟨h1, h2⟩ := Prod.mk.inj hp
    have h3 := hg 3 f hf0
    rw [h1, h2, repC3] at h3
    exact ⟨xs[3]'(by omega), h3.trans (List.getElem?_eq_getElem (by omega))⟩
  obtain ⟨y3, e3⟩ := e3
  obtain ⟨k, m, h0⟩ := key_of_trod e0 rfl
  obtain ⟨c, h1⟩ := cal_of_trod e1 rfl
  obtain ⟨own, hb, -⟩ := DataW.trod_bool Tryd.underlying4 e2
  obtain ⟨q, h3⟩ := res_of_trod e3 rfl
  have h1' : [u2, u3, u4, u5, u6, u7, u8] = [.int .u8 c.verb, .string c.target, .int .u64 c.num, .int .i64 c.size, .string c.zone, .string c.node, .string c.source] := h1
  simp only [List.cons.injEq, and_true] at h0 h1' hb h3
  refine ⟨⟨k, m, c, own, q⟩, ?_⟩
  unfold encY cellsY
  simp only [h0, h1', hb, h3]
end Go.Proofs.YtfpdchabknoklaaDoor.O.B
namespace Go.Proofs.YtfpdchabknoklaaDoor.O.B
open Go Go.RowKit Go.Shelf Go.Lib RangeMap KM
attribute [local go_sem] Oper.semAt_some

def BoxY (W : World) (b : Nat) (y : Rep) : Prop := W.heap[b]? = some (.cells (cellsY y) 45 (0, 0))
theorem BoxY.after {W W' : World} {b : Nat} {y : Rep} (h : BoxY W b y) (hb : Below W.heap.size W W') : BoxY W' b y := (hb.block b (Array.getElem?_eq_some_iff.1 h).1).trans h
theorem BoxY.lt {W : World} {b : Nat} {y : Rep} (h : BoxY W b y) : b < W.heap.size := (Array.getElem?_eq_some_iff.1 h).1
theorem BoxY.cells {W : World} {b : Nat} {y : Rep} (h : BoxY W b y) : W.cell? ⟨b, 0, none⟩ = some (.int .u8 y.k) ∧ W.cell? ⟨b, 1, none⟩ = some (.string y.n) ∧ W.cell? ⟨b, 9, none⟩ = some (.bool y.own) :=
  ⟨(cell_of_row W b 0 _ _ _ h).trans rfl, (cell_of_row W b 1 _ _ _ h).trans rfl, (cell_of_row W b 9 _ _ _ h).trans rfl⟩
theorem BoxY.callAt {W : World} {b : Nat} {y : Rep} (h : BoxY W b y) : W.rangeAt b 2 (cellsC y.c).toList := by
  have e : ((cellsY y).extract 2 (2 + 7)).toList = (cellsC y.c).toList := by kernel_rfl
  rw [← e]
  exact World.rangeAt_of_block h 2 7
theorem BoxY.keyAt {W : World} {b : Nat} {y : Rep} (h : BoxY W b y) : W.rangeAt b 0 (#[Value.int .u8 y.k, .string y.n]).toList := by
  have e : ((cellsY y).extract 0 (0 + 2)).toList = (#[Value.int .u8 y.k, .string y.n]).toList := by kernel_rfl
  rw [← e]
  exact World.rangeAt_of_block h 0 2
theorem BoxY.resAt {W : World} {b : Nat} {y : Rep} (h : BoxY W b y) : W.rangeAt b 10 (#[Value.int .i64 y.r.err, .int .i64 y.r.size, .string y.r.zone, .int .u64 y.r.tag]).toList := by
  have e : ((cellsY y).extract 10 (10 + 4)).toList = (#[Value.int .i64 y.r.err, .int .i64 y.r.size, .string y.r.zone, .int .u64 y.r.tag]).toList := by kernel_rfl
  rw [← e]
  exact World.rangeAt_of_block h 10 4
theorem undRes : Tryd.prog.underlying 43 = some (.struct (Tryd.prog.fieldsOf 43)) := by kernel_rfl
theorem sizeRes : (Tryd.prog.info? 43).map (·.size) = some 4 := by kernel_rfl
theorem sizeRep : (Tryd.prog.info? 45).map (·.size) = some 14 := by kernel_rfl
theorem load_keyAt {W : World} {b : Nat} {y : Rep} (h : BoxY W b y) {oi : Oper} {a : Act} {x : Operand} (ho : oi.op = .load 40 x) (hx : a.eval x = .pointer (some ⟨b, 0, none⟩)) :
    (execOp a.eval oi).run Tryd.prog W = .ok (.value (encK y.k y.n)) W := by
  have h1 := run_loadAt_mid (P := Tryd.prog) W b 0 40 _ _ h.keyAt undKey rfl sizeKey
  unfold execOp
  simp only [ho, hx, Sem.run_bind, h1, Result.andThen_ok, Sem.run_pure]
  rfl
theorem load_resAt {W : World} {b : Nat} {y : Rep} (h : BoxY W b y) {oi : Oper} {a : Act} {x : Operand} (ho : oi.op = .load 43 x) (hx : a.eval x = .pointer (some ⟨b, 10, none⟩)) :
    (execOp a.eval oi).run Tryd.prog W = .ok (.value (encR y.r)) W := by
  have h1 := run_loadAt_mid (P := Tryd.prog) W b 10 43 _ _ h.resAt undRes rfl sizeRes
  unfold execOp
  simp only [ho, hx, Sem.run_bind, h1, Result.andThen_ok, Sem.run_pure]
  rfl
theorem load_rep {W : World} {b : Nat} {y : Rep} (h : BoxY W b y) {oi : Oper} {a : Act} {x : Operand} (ho : oi.op = .load 45 x) (hx : a.eval x = .pointer (some ⟨b, 0, none⟩)) :
    (execOp a.eval oi).run Tryd.prog W = .ok (.value (encY y)) W := by
  unfold execOp
  simp only [ho, hx, Instr.loadAt, Instr.sureAddr, Sem.run_bind, Sem.run_pure, Result.andThen_ok, run_loadVar_row W b 45 45 (cellsY y) (0, 0) _ h repUnd rfl sizeRep]
  rfl
theorem one_cellsC' (c : Cl) : (cellsC c).all (·.oneCell') = true := by simp [cellsC, Value.oneCell']
theorem calling {W : World} {b : Nat} {p : Cl} (h : BoxC W b p) (x : Cl) : ∃ V, (∀ {oi : Oper} {a : Act} {r q : Operand}, oi.op = .store 34 r q → a.eval r = .pointer (some ⟨b, 0, none⟩) → a.eval q = encC x → (execOp a.eval oi).run Tryd.prog W = .ok .skip V) ∧
    BoxC V b x ∧ (∀ g, g ≠ b → V.heap[g]? = W.heap[g]?) ∧ (∀ B A, Below B A W → B ≤ b → Below B A V) :=
  ⟨W.setRow b (cellsC x), fun {oi a r q} ho hx hy => by
    have h1 := run_storeVar_row (P := Tryd.prog) W b 34 34 (cellsC p) (cellsC x) h sizeCall rfl (one_cellsC' x)
    unfold execOp
    have hy' : a.eval q = .agg (cellsC x) := hy
    simp [ho, hx, hy', Instr.storeAt, Instr.sureAddr, h1, Result.andThen], setRow_heap W b _ _ _ _ h, fun g hg => setRow_other W b g _ hg, fun _ _ h1 h2 => below_setRow h1 h2 _⟩
theorem exec_actcall {W : World} {A : Ac} {oi : Oper} {a : Act} {x : Operand} (ho : oi.op = .field 36 x 2) (hx : a.eval x = encA A) :
    (execOp a.eval oi).run Tryd.prog W = .ok (.value (encC A.call)) W := by
  unfold execOp
  simp only [ho, hx]
  kernel_rfl
def N0 : Cl := ⟨0, E0, 0, 0, E0, E0, E0⟩
def askedY (l : List Obj) (ver : Int) (y : Rep) : Cl := if y.own = false then y.c else if y.k = 3 then (claimN l ver y.n).call else (volumeN l ver y.n).call

set_option maxRecDepth 100000 in
set_option maxHeartbeats 4000000 in
theorem askedY_any (l : List Obj) (v : Value) (ver : Int) (y : Rep) (w : World) (hl : ObjsIn w v l) (hlen : l.length < 100000) (ht : Tab w) (hall : ∀ s ∈ l, (0 ≤ s.born ∧ s.born ≤ 18446744073709551615) ∧ s.name.size ≤ 140737488351232) :
    Calls Tryd.prog 10 #[v, .int .u64 ver, encY y] w fun e w' => e = .returned (encC (askedY l ver y)) ∧ Below w.heap.size w w' := by
  obtain ⟨o, cp, rfl, -, -⟩ := id hl
  have HL := Lib.hid hl
  have HT := Lib.hid ht
  have HCC := Lib.hid (fun V (hV : ObjsIn V (.slice o l.length cp) l) (hT : Tab V) => rclaim_any l _ ver y.n V hV hlen hT hall)
  have HSS := Lib.hid (fun V (hV : ObjsIn V (.slice o l.length cp) l) (hT : Tab V) => rvolume_any l _ ver y.n V hV hlen hT hall)
  clear hl ht hlen hall
  obtain ⟨x, hx⟩ : ∃ x, askedY l ver y = x := ⟨_, rfl⟩
  rw [hx]
  unfold askedY at hx
  generalize claimN l ver y.n = A at *
  generalize volumeN l ver y.n = B at *
  have HXX := Lib.hid hx
  clear hx
  have HYE : Hid (encY y = .agg (cellsY y)) := rfl
  rw [HYE.out]
  unfold cellsY
  go_enter Tryd.func10, Tryd.ntmps10
  go_upto_region 1 with (fail)
  refine wp_gen (fun V => BoxY V w.heap.size y ∧ BoxC V (w.heap.size + 1) N0 ∧ Below w.heap.size w V) (chain2 w _ _) ?_
  rintro V ⟨hy, hc, hlw⟩
  obtain ⟨y0, y1, y9⟩ := hy.cells
  have hca := hy.callAt
  have HO := Lib.hid hc
  have HW := Lib.hid hlw
  have HLV := Lib.hid (HL.out.after hlw)
  have HTV := Lib.hid (HT.out.after hlw)
  clear hy hc hlw HL HT HYE
  by_cases ho : y.own = false
  · have HVV : Hid (x = y.c) := HXX.out.symm.trans (if_pos ho)
    rw [ho] at y9
    clear HXX ho HCC HSS HLV HTV
    obtain ⟨V8, hst8, ho8, -, hb8⟩ := calling HO.out y.c
    have HO8 := Lib.hid ho8
    have HX8 := Lib.hid (hb8 _ _ HW.out (by omega))
    clear ho8 hb8
    go_wp2_with (first | (refine wpList_got rfl (load_callAt hca rfl rfl) ?_) | (refine wpList_skip rfl (hst8 rfl rfl rfl) ?_))
    refine bodyPost_ret (v := encC y.c) (results_cell_row rfl _ _ (w.heap.size + 1) 34 (cellsC y.c) (0, 0) _ rfl HO8.out undCall rfl sizeCall) rfl ?_
    exact ⟨by rw [HVV.out], HX8.out⟩
  · have hx2 := HXX.out.symm.trans (if_neg ho)
    have ho' : y.own = true := by simpa using ho
    rw [ho'] at y9
    clear HXX ho ho'
    by_cases h3 : y.k = 3
    · have e3 : (y.k == 3) = true := by simpa using h3
      have HVV : Hid (x = A.call) := hx2.trans (if_pos h3)
      have HC := Lib.hid (HCC.out V HLV.out HTV.out)
      clear hx2 h3 HCC HSS HLV HTV
      go_wp2_with (fail)
      refine HC.out.mono ?_
      rintro e W6 ⟨rfl, hb6⟩
      obtain ⟨V8, hst8, ho8, -, hb8⟩ := calling (show BoxC W6 (w.heap.size + 1) N0 from HO.out.after hb6) A.call
      have HO8 := Lib.hid ho8
      have HX8 := Lib.hid (hb8 _ _ (HW.out.trans (hb6.mono HW.out.size)) (by omega))
      clear ho8 hb8 HC HO HW hb6
      go_wp2_with (first | (refine wpList_got rfl (exec_actcall (A := A) rfl rfl) ?_) | (refine wpList_skip rfl (hst8 rfl rfl rfl) ?_))
      refine bodyPost_ret (v := encC A.call) (results_cell_row rfl _ _ (w.heap.size + 1) 34 (cellsC A.call) (0, 0) _ rfl HO8.out undCall rfl sizeCall) rfl ?_
      exact ⟨by rw [HVV.out], HX8.out⟩
    · have e3 : (y.k == 3) = false := by simpa using h3
      have HVV : Hid (x = B.call) := hx2.trans (if_neg h3)
      have HC := Lib.hid (HSS.out V HLV.out HTV.out)
      clear hx2 h3 HCC HSS HLV HTV
      go_wp2_with (fail)
      refine HC.out.mono ?_
      rintro e W6 ⟨rfl, hb6⟩
      obtain ⟨V8, hst8, ho8, -, hb8⟩ := calling (show BoxC W6 (w.heap.size + 1) N0 from HO.out.after hb6) B.call
      have HO8 := Lib.hid ho8
      have HX8 := Lib.hid (hb8 _ _ (HW.out.trans (hb6.mono HW.out.size)) (by omega))
      clear ho8 hb8 HC HO HW hb6
      go_wp2_with (first | (refine wpList_got rfl (exec_actcall (A := B) rfl rfl) ?_) | (refine wpList_skip rfl (hst8 rfl rfl rfl) ?_))
      refine bodyPost_ret (v := encC B.call) (results_cell_row rfl _ _ (w.heap.size + 1) 34 (cellsC B.call) (0, 0) _ rfl HO8.out undCall rfl sizeCall) rfl ?_
      exact ⟨by rw [HVV.out], HX8.out⟩
end Go.Proofs.YtfpdchabknoklaaDoor.O.B
namespace Go.Proofs.YtfpdchabknoklaaDoor.O.B
open Go Go.RowKit Go.Shelf Go.Lib RangeMap KM
attribute [local go_sem] Oper.semAt_some

theorem exec_acts_is {W : World} {A : Ac} {oi : Oper} {a : Act} {x y : Operand} {t : TypeId} (ho : oi.op = .binOp .eql 36 x y t) (hx : a.eval x = encA A) (hy : a.eval y = encA A) :
    (execOp a.eval oi).run Tryd.prog W = .ok (.value (.bool true)) W := by
  have h := eql_act A A W
  rw [decide_eq_true rfl] at h
  have hg : (eqGuard .eql 36 x y (encA A) (encA A)).run Tryd.prog W = .ok () W := by kernel_rfl
  unfold execOp
  simp only [ho, hx, hy, Sem.run_bind, Result.andThen_ok, hg, h]
  rfl

set_option maxRecDepth 100000 in
set_option maxHeartbeats 4000000 in
theorem bindAfters_any (l : List Obj) (v : Value) (ver : Int) (y : Rep) (w : World) (hl : ObjsIn w v l) (hcp : ∀ o n c, v = .slice o n c → n ≤ c) (ht : Tab w) (hall : ∀ s ∈ l, (0 ≤ s.born ∧ s.born ≤ 18446744073709551615) ∧ s.name.size ≤ 140737488351232) :
    Calls Tryd.prog 4 #[v, .int .u64 ver, encY y] w fun e w' => e = .returned (.bool true) ∧ Below w.heap.size w w' := by
  have HT0 := Lib.hid ht
  have HFF := Lib.hid (fun V (hV : ObjsIn V v l) => few12_any l v V hV hcp)
  have HL0 := Lib.hid hl
  obtain ⟨o, cp, rfl, -, -⟩ := id hl
  have hq : (l.take 24).length < 100000 := by rw [List.length_take]; omega
  have hall2 : ∀ s ∈ l.take 24, (0 ≤ s.born ∧ s.born ≤ 18446744073709551615) ∧ s.name.size ≤ 140737488351232 := fun s hs => hall s (List.mem_of_mem_take hs)
  clear ht hl hcp hall
  have HYE : Hid (encY y = .agg (cellsY y)) := rfl
  rw [HYE.out]
  unfold cellsY
  go_enter Tryd.func4, Tryd.ntmps4
  go_upto_region 1 with (fail)
  refine wp_gen (fun V => BoxY V w.heap.size y ∧ Below w.heap.size w V) ⟨heap_alloc_new _ _, (Below.refl _ _).alloc (Nat.le_refl _) _⟩ ?_
  rintro V ⟨hy, hlw⟩
  have HF := Lib.hid (HFF.out V (HL0.out.after hlw))
  have HY := Lib.hid hy
  have HW := Lib.hid hlw
  have HT := Lib.hid (HT0.out.after hlw)
  clear hy hlw HFF HL0 HT0 HYE
  go_wp2_with (fail)
  refine HF.out.mono ?_
  rintro e W1 ⟨v1, rfl, hl1, hww⟩
  subst hww
  clear HF
  generalize l.take 24 = q at *
  obtain ⟨o1, c1, rfl, -, -⟩ := id hl1
  have HL := Lib.hid hl1
  have hyb := HY.out
  have HK := Lib.hid (askedY_any q _ ver y W1 hl1 hq HT.out hall2)
  have HE1 := Lib.hid (fun (c : Cl) V (hV : ObjsIn V (.slice o1 q.length c1) q) (hT : Tab V) => afterB_any q _ ver y.k y.n c y.r V hV hT hall2)
  have HE2 := Lib.hid (fun (c : Cl) V (hV : ObjsIn V (.slice o1 q.length c1) q) (hT : Tab V) => rafterB_any q _ ver y.k y.n c y.r V hV hq hT hall2)
  clear hl1 hq hall2
  generalize askedY q ver y = c at *
  go_wp2_with (refine wpList_got rfl (load_rep hyb rfl rfl) ?_)
  refine HK.out.mono ?_
  rintro e W2 ⟨rfl, hb2⟩
  obtain ⟨V3, hs3, hc3, -, hb3⟩ := calling (show BoxC (W2.alloc (.cells (cellsC N0) 34 (0, 0))) W2.heap.size N0 from heap_alloc_new _ _) c
  have hbel : Below W2.heap.size W2 V3 := hb3 _ _ ((Below.refl _ _).alloc (Nat.le_refl _) _) (Nat.le_refl _)
  have hlw2 := HW.out.trans (hb2.mono HW.out.size)
  have hlw3 := hlw2.trans (hbel.mono hlw2.size)
  replace HY := Lib.hid ((HY.out.after hb2).after hbel)
  replace HL := Lib.hid ((HL.out.after hb2).after hbel)
  replace HT := Lib.hid ((HT.out.after hb2).after hbel)
  replace HW := Lib.hid hlw3
  have HC := Lib.hid hc3
  have HA1 := Lib.hid (HE1.out c)
  have HA2 := Lib.hid (HE2.out c)
  obtain ⟨a, ha⟩ : ∃ a, afterB q ver y.k y.n c y.r = a := ⟨_, rfl⟩
  rw [ha] at HA1 HA2
  clear HK HE1 HE2 hb2 hc3 hb3 hbel hlw2 hlw3 ha hyb
  go_upto_region 3 with (refine wpList_skip rfl (hs3 rfl rfl rfl) ?_)
  clear hs3
  refine wp_region_held_drew (S := fun V => BoxY V w.heap.size y ∧ BoxC V W2.heap.size c ∧ ObjsIn V (.slice o1 q.length c1) q ∧ Below w.heap.size w V ∧ Tab V) (by kernel_rfl) ⟨HY.out, HC.out, HL.out, HW.out.drew, HT.out.drew⟩ (fun _ => ?_)
  refine HeldBy.gen (fun V => BoxY V w.heap.size y ∧ BoxC V W2.heap.size c ∧ ObjsIn V (.slice o1 q.length c1) q ∧ Below w.heap.size w V ∧ Tab V) ⟨HY.out, HC.out, HL.out, HW.out.drew, HT.out.drew⟩ ?_
  clear HY HC HL HW HT
  rintro U0 HS
  refine HeldBy.call (i := 0) (v := .bool true) rfl (by kernel_rfl) (by rfl) (by go_simp; exact ⟨rfl, rfl⟩) (by go_simp; rfl) ?_
  refine (live_any _ HS.2.2.2.2).mono ?_
  rintro e U1 ⟨rfl, hb⟩
  replace HS : BoxY U1 w.heap.size y ∧ BoxC U1 W2.heap.size c ∧ ObjsIn U1 (.slice o1 q.length c1) q ∧ Below w.heap.size w U1 ∧ Tab U1 := ⟨HS.1.after hb, HS.2.1.after hb, HS.2.2.1.after hb, HS.2.2.2.1.trans (hb.mono HS.2.2.2.1.size), HS.2.2.2.2.after hb⟩
  refine ⟨rfl, HS, ?_⟩
  clear hb
  refine HeldBy.take (i := 1) rfl (by kernel_rfl) (by kernel_rfl) (by kernel_rfl) (fun _ _ _ h => h) (by rfl) (fun _ _ => by first | (go_simp; rfl) | (go_simp; done)) (by go_simp; rfl) HS ?_
  refine HeldBy.take (i := 2) rfl (by kernel_rfl) (by kernel_rfl) (by kernel_rfl) (fun _ _ _ h => h) (by rfl) (fun _ _ => by first | (go_simp; rfl) | (go_simp; done)) (by go_simp; rfl) HS ?_
  refine HeldBy.take (i := 3) rfl (by kernel_rfl) (by kernel_rfl) (by kernel_rfl) (fun _ _ _ h => h) (by rfl) (fun _ _ => by first | (go_simp; rfl) | (go_simp; done)) (by go_simp; rfl) HS ?_
  refine HeldBy.take (i := 4) rfl (by kernel_rfl) (by kernel_rfl) (by kernel_rfl) (fun _ _ _ h => h) (by rfl) (fun _ _ => by first | (go_simp; rfl) | (go_simp; done)) (by go_simp; rfl) HS ?_
  refine HeldBy.take (i := 5) (v := encK y.k y.n) rfl (by kernel_rfl) (by kernel_rfl) (by kernel_rfl) (fun _ _ _ h => h) (by rfl) (fun V hV => load_keyAt hV.1 rfl rfl) (by go_simp; rfl) HS ?_
  refine HeldBy.take (i := 6) (v := encC c) rfl (by kernel_rfl) (by kernel_rfl) (by kernel_rfl) (fun _ _ _ h => h) (by rfl) (fun V hV => load_call hV.2.1 rfl rfl) (by go_simp; rfl) HS ?_
  refine HeldBy.take (i := 7) rfl (by kernel_rfl) (by kernel_rfl) (by kernel_rfl) (fun _ _ _ h => h) (by rfl) (fun _ _ => by first | (go_simp; rfl) | (go_simp; done)) (by go_simp; rfl) HS ?_
  refine HeldBy.take (i := 8) (v := encR y.r) rfl (by kernel_rfl) (by kernel_rfl) (by kernel_rfl) (fun _ _ _ h => h) (by rfl) (fun V hV => load_resAt hV.1 rfl rfl) (by go_simp; rfl) HS ?_
  refine HeldBy.take (i := 10) rfl (by kernel_rfl) (by kernel_rfl) (by kernel_rfl) (fun _ _ _ h => h) (by rfl) (fun _ _ => by first | (go_simp; rfl) | (go_simp; done)) (by go_simp; rfl) HS ?_
  refine HeldBy.take (i := 11) rfl (by kernel_rfl) (by kernel_rfl) (by kernel_rfl) (fun _ _ _ h => h) (by rfl) (fun _ _ => by first | (go_simp; rfl) | (go_simp; done)) (by go_simp; rfl) HS ?_
  refine HeldBy.take (i := 12) rfl (by kernel_rfl) (by kernel_rfl) (by kernel_rfl) (fun _ _ _ h => h) (by rfl) (fun _ _ => by first | (go_simp; rfl) | (go_simp; done)) (by go_simp; rfl) HS ?_
  refine HeldBy.take (i := 13) (v := encK y.k y.n) rfl (by kernel_rfl) (by kernel_rfl) (by kernel_rfl) (fun _ _ _ h => h) (by rfl) (fun V hV => load_keyAt hV.1 rfl rfl) (by go_simp; rfl) HS ?_
  refine HeldBy.take (i := 14) (v := encC c) rfl (by kernel_rfl) (by kernel_rfl) (by kernel_rfl) (fun _ _ _ h => h) (by rfl) (fun V hV => load_call hV.2.1 rfl rfl) (by go_simp; rfl) HS ?_
  refine HeldBy.take (i := 15) rfl (by kernel_rfl) (by kernel_rfl) (by kernel_rfl) (fun _ _ _ h => h) (by rfl) (fun _ _ => by first | (go_simp; rfl) | (go_simp; done)) (by go_simp; rfl) HS ?_
  refine HeldBy.take (i := 16) (v := encR y.r) rfl (by kernel_rfl) (by kernel_rfl) (by kernel_rfl) (fun _ _ _ h => h) (by rfl) (fun V hV => load_resAt hV.1 rfl rfl) (by go_simp; rfl) HS ?_
  refine HeldBy.call (i := 9) (v := encA a) rfl (by kernel_rfl) (by rfl) (by go_simp; exact ⟨rfl, rfl⟩) (by go_simp; rfl) ?_
  refine (HA1.out _ HS.2.2.1 HS.2.2.2.2).mono ?_
  rintro e U2 ⟨rfl, hb⟩
  replace HS : BoxY U2 w.heap.size y ∧ BoxC U2 W2.heap.size c ∧ ObjsIn U2 (.slice o1 q.length c1) q ∧ Below w.heap.size w U2 ∧ Tab U2 := ⟨HS.1.after hb, HS.2.1.after hb, HS.2.2.1.after hb, HS.2.2.2.1.trans (hb.mono HS.2.2.2.1.size), HS.2.2.2.2.after hb⟩
  refine ⟨rfl, HS, ?_⟩
  clear hb
  refine HeldBy.call (i := 17) (v := encA a) rfl (by kernel_rfl) (by rfl) (by go_simp; exact ⟨rfl, rfl⟩) (by go_simp; rfl) ?_
  refine (HA2.out _ HS.2.2.1 HS.2.2.2.2).mono ?_
  rintro e U3 ⟨rfl, hb⟩
  replace HS : BoxY U3 w.heap.size y ∧ BoxC U3 W2.heap.size c ∧ ObjsIn U3 (.slice o1 q.length c1) q ∧ Below w.heap.size w U3 ∧ Tab U3 := ⟨HS.1.after hb, HS.2.1.after hb, HS.2.2.1.after hb, HS.2.2.2.1.trans (hb.mono HS.2.2.2.1.size), HS.2.2.2.2.after hb⟩
  refine ⟨rfl, HS, ?_⟩
  clear hb
  refine HeldBy.take (i := 18) (v := .bool true) rfl (by kernel_rfl) (by kernel_rfl) (by kernel_rfl) (fun _ _ _ h => h) (by rfl) (fun V _ => exec_acts_is (A := a) rfl rfl rfl) (by go_simp; rfl) HS ?_
  refine HeldBy.take (i := 19) rfl (by kernel_rfl) (by kernel_rfl) (by kernel_rfl) (fun _ _ _ h => h) (by rfl) (fun _ _ => by first | (go_simp; rfl) | (go_simp; done)) (by go_simp; rfl) HS ?_
  refine HeldBy.take (i := 20) rfl (by kernel_rfl) (by kernel_rfl) (by kernel_rfl) (fun _ _ _ h => h) (by rfl) (fun _ _ => by first | (go_simp; rfl) | (go_simp; done)) (by go_simp; rfl) HS ?_
  refine wpAnyH_done (by kernel_rfl) ?_ _
  have HX := Lib.hid HS.2.2.2.1
  clear HS HA1 HA2
  go_wp2
  go_ret
  exact ⟨rfl, HX.out⟩
end Go.Proofs.YtfpdchabknoklaaDoor.O.B
namespace Go.Proofs.YtfpdchabknoklaaDoor.O.B
open Go.ChangeShapes Go.WideShapes Go.ChangeAt Go.RowKit

theorem own : ownKnob Tryd.prog.godebug = none := by kernel_rfl
theorem laidOut : laidOutB Tryd.prog = true := by kernel_rfl
theorem gTabType : (Tryd.prog.globals[0]?).map (·.type) = some 96 := by kernel_rfl
theorem cellsTab : Tryd.prog.cellsOf 96 = 20 := by kernel_rfl
theorem cellsU64 : Tryd.prog.cellsOf 23 = 1 := by kernel_rfl

/-- The list of all of this seat's rows. -/
def laidAll : List (String × DataW Unit) := [("math/bits.deBruijn32tab", Rows.laid_math_bits_deBruijn32tab), ("math/bits.deBruijn64tab", Rows.laid_math_bits_deBruijn64tab), ("internal/strconv.uint64pow10", Rows.laid_internal_strconv_uint64pow10)]

theorem tab_of_laid {W : World} (h : laidMetH Tryd.prog laidAll W) : Tab W :=
  Lib.tabIs_of_head (rest := []) gTab gTabType Tryd.underlying96 Tryd.underlying23 cellsU64 cellsTab (laidMet.tail (laidMet.tail h))

/-- An array of two numbers, as it comes in. -/
theorem open_pair {H : Type} {enc : TypeId × Value → H} {P : Program} {w : World} {base : Nat} {spare : Nat → Bool} {held : Bool} {r : Reach} {b0 : Nat} {t e : TypeId} {k : IntKind} {v : Value} {d : DataW H} {ps : List MemPlace}
    (ht : P.underlying t = some (.array 2 e)) (he : P.underlying e = some (.int k)) (hce : P.cellsOf e = 1) (hct : P.cellsOf t = 2)
    (hv : Value.okWide P w r b0 t v) (h : DataW.Trod enc P w base spare held t v d ps) : ∃ x y, v = .agg #[.int k x, .int k y] ∧ (Lit.int k x).wf = true ∧ (Lit.int k y).wf = true := by
  simp only [Value.okWide, ht] at hv
  obtain ⟨cs, rfl, hsz, -⟩ := hv
  obtain ⟨l⟩ := cs
  obtain ⟨fuel, hf⟩ := h
  obtain ⟨xs, m, -, -, hlen, hn, hi⟩ := DataW.trod_array ht hf
  rw [hce] at hi
  have hl2 : l.length = 2 := by rw [hct] at hsz; simpa using hsz
  match l, hl2 with
  | [c0, c1], _ =>
    have x0 : ∃ y, xs[0]? = some y := ⟨xs[0]'(by omega), List.getElem?_eq_getElem (by omega)⟩
    have x1 : ∃ y, xs[1]? = some y := ⟨xs[1]'(by omega), List.getElem?_eq_getElem (by omega)⟩
    obtain ⟨y0, e0⟩ := x0
    obtain ⟨y1, e1⟩ := x1
    have h0 := (hi 0 (by omega)).trans e0
    have h1 := (hi 1 (by omega)).trans e1
    obtain ⟨a, ha, -, fa⟩ := DataW.trod_int he h0
    obtain ⟨b, hb, -, fb⟩ := DataW.trod_int he h1
    simp [Value.cells] at ha hb
    exact ⟨a, b, by rw [ha, hb], fa, fb⟩

/-- A world for the witness: the settled one, each table holding what its initialiser lays. -/
def put (i : Nat) (vs : Array Value) (h : Array Go.Obj) : Array Go.Obj := h.modify i fun
  | .cells _ t frozen => .cells vs t frozen
  | o => o
def u8s (l : List Int) : Array Value := (l.map fun z => Value.int .u8 z).toArray
def laidHeap (h : Array Go.Obj) : Array Go.Obj :=
  put 0 ((Lib.pow10Tab.map fun z => Value.int .u64 z).toArray)
    (put 1 (u8s [0, 1, 28, 2, 29, 14, 24, 3, 30, 22, 20, 15, 25, 17, 4, 8, 31, 27, 13, 23, 21, 19, 16, 7, 26, 12, 18, 6, 11, 5, 10, 9])
      (put 2 (u8s [0, 1, 56, 2, 57, 49, 28, 3, 61, 58, 42, 50, 38, 29, 17, 4, 62, 47, 59, 36, 45, 43, 51, 22, 53, 39, 33, 30, 24, 18, 12, 5, 63, 55, 48, 27, 60, 41, 37, 16, 46, 35, 44, 21, 52, 32, 23, 11, 54, 26, 40, 15, 34, 20, 31, 10, 25, 14, 19, 9, 13, 8, 7, 6]) h))
noncomputable def laidWorld (args : Array Value) (os : Os) : World :=
  { World.holding Tryd.prog os ⟨#[], args, []⟩ with heap := laidHeap (World.holding Tryd.prog os ⟨#[], args, []⟩).heap }
end Go.Proofs.YtfpdchabknoklaaDoor.O.B
namespace Go.Proofs.YtfpdchabknoklaaDoor.BindAfters
open Go.ChangeShapes Go.WideShapes Go.ChangeAt Go.RowKit O.B
open Go.ChangeMaps (open_string shut_string)

set_option maxRecDepth 100000 in
theorem contract (H : Type) (enc : TypeId × Value → H) (W : World) (base : Nat) (args : Array Value) (ds gs : List (DataW H)) (before : List MemPlace)
    (hval : ∀ (j : Nat) t v, Tryd.f4.params[j]? = some t → args[j]? = some v → Value.okWide Tryd.prog W .any base t v)
    (hW : DataW.Whole enc Tryd.prog Tryd.f4.params.toList Rows.bindAftersSpec.vars false W args.toList ds gs before)
    (hsz : (DataW.weightsEach Tryd.prog (Tryd.f4.params.toList ++ (OpenSpec.ofChange Rows.bindAftersSpec).bare.plain.varTypes Tryd.prog) (ds ++ gs)).all (· ≤ reachBytes) = true) (hL : laidMetH Tryd.prog Rows.bindAftersRow.laid W) :
    Calls Tryd.prog 4 args W fun e W' => ∃ v, e = .returned v ∧ Rows.bindAftersSpec.post enc Tryd.prog Tryd.f4 false true false false W args v W' := by
  have hW' := hW
  obtain ⟨p, q, hA0, hV, rfl, hfz, hnd⟩ := hW
  have hA : DataW.TrodAll enc Tryd.prog W 0 (fun _ => true) true Tryd.f4.params.toList args.toList ds p := hA0
  rw [Tryd.params4] at hA hval hsz
  obtain ⟨v0, vs0, d0, ds0, p0, q0, hargs, rfl, rfl, h0, r0⟩ := trodAll_cons hA
  obtain ⟨v1, vs1, d1, ds1, p1, q1, rfl, rfl, rfl, h1, r1⟩ := trodAll_cons r0
  obtain ⟨v2, vs2, d2, ds2, p2, q2, rfl, rfl, rfl, h2, r2⟩ := trodAll_cons r1
  obtain ⟨rfl, rfl, rfl⟩ := trodAll_nil r2
  obtain rfl : args = #[v0, v1, v2] := by cases args; simp_all
  obtain ⟨l0, hb0, ft0, ln0, cp0⟩ := open_objs (hval 0 22 v0 rfl rfl) h0
  obtain ⟨x1, rfl, rfl, rfl, w1⟩ := open_int Tryd.underlying23 (hval 1 23 v1 rfl rfl) h1
  obtain ⟨x2, rfl⟩ := open_reply (hval 2 45 v2 rfl rfl) h2
  have lz0 := ln0 (List.all_eq_true.2 fun n hn => List.all_eq_true.1 hsz n (DataW.weights_mem_each (j := 0) rfl rfl n hn))
  refine (bindAfters_any l0 v0 x1 x2 W hb0 cp0 (tab_of_laid hL) (fits_in ft0 lz0)).mono fun e W' ⟨he, hb⟩ => ?_
  subst he
  exact ⟨_, rfl, LawEnd.post_true laidOut (by kernel_rfl) rfl Tryd.underlying4 rfl hW' rfl hb⟩

theorem laid_met (os : Os) : laidMet Tryd.prog Rows.bindAftersRow.laid ((laidWorld #[.slice none 0 0, .int .u64 0, .agg #[.int .u8 0, .string ⟨#[]⟩, .int .u8 0, .string ⟨#[]⟩, .int .u64 0, .int .i64 0, .string ⟨#[]⟩, .string ⟨#[]⟩, .string ⟨#[]⟩, .bool false, .int .i64 0, .int .i64 0, .string ⟨#[]⟩, .int .u64 0]] os).forCall (fun _ _ => 0) ⟨#[], #[.slice none 0 0, .int .u64 0, .agg #[.int .u8 0, .string ⟨#[]⟩, .int .u8 0, .string ⟨#[]⟩, .int .u64 0, .int .i64 0, .string ⟨#[]⟩, .string ⟨#[]⟩, .string ⟨#[]⟩, .bool false, .int .i64 0, .int .i64 0, .string ⟨#[]⟩, .int .u64 0]], []⟩).memory :=
  laidMet_of_run' 70 (by kernel_rfl) (by kernel_rfl)
theorem reads (os : Os) {H : Type} (enc : TypeId × Value → H) : ∃ places, DataW.whole enc Tryd.prog ((laidWorld #[.slice none 0 0, .int .u64 0, .agg #[.int .u8 0, .string ⟨#[]⟩, .int .u8 0, .string ⟨#[]⟩, .int .u64 0, .int .i64 0, .string ⟨#[]⟩, .string ⟨#[]⟩, .string ⟨#[]⟩, .bool false, .int .i64 0, .int .i64 0, .string ⟨#[]⟩, .int .u64 0]] os).forCall (fun _ _ => 0) ⟨#[], #[.slice none 0 0, .int .u64 0, .agg #[.int .u8 0, .string ⟨#[]⟩, .int .u8 0, .string ⟨#[]⟩, .int .u64 0, .int .i64 0, .string ⟨#[]⟩, .string ⟨#[]⟩, .string ⟨#[]⟩, .bool false, .int .i64 0, .int .i64 0, .string ⟨#[]⟩, .int .u64 0]], []⟩).memory Tryd.f4.params.toList Rows.bindAftersSpec.vars false (#[(.slice none 0 0 : Value), .int .u64 0, .agg #[.int .u8 0, .string ⟨#[]⟩, .int .u8 0, .string ⟨#[]⟩, .int .u64 0, .int .i64 0, .string ⟨#[]⟩, .string ⟨#[]⟩, .string ⟨#[]⟩, .bool false, .int .i64 0, .int .i64 0, .string ⟨#[]⟩, .int .u64 0]]).toList 8 = some ([.nil, .lit (.int .u64 0), .agg [.agg [.lit (.int .u8 0), .lit (.string [])], .agg [.lit (.int .u8 0), .lit (.string []), .lit (.int .u64 0), .lit (.int .i64 0), .lit (.string []), .lit (.string []), .lit (.string [])], .lit (.bool false), .agg [.lit (.int .i64 0), .lit (.int .i64 0), .lit (.string []), .lit (.int .u64 0)]]], [], places) :=
  ⟨[], by kernel_rfl⟩

set_option maxRecDepth 100000 in
theorem lifted (os : Os) (started : os.Started) (H : Type) (enc : TypeId × Value → H) (F : Stop.Interp) :
    ReturnsInHanded {} Tryd.checked os 4 .any ((OpenSpec.ofChange Rows.bindAftersSpec).preRow enc Tryd.prog Tryd.f4 Rows.bindAftersRow.domain false Rows.bindAftersRow.laid) (((OpenSpec.ofChange Rows.bindAftersSpec).at F).post enc Tryd.prog Tryd.f4 false true false false) := by
  obtain ⟨places, hx⟩ := reads os enc
  refine returnsInHanded_of_row (C := Tryd.checked) (s := OpenSpec.ofChange Rows.bindAftersSpec) own started (by kernel_rfl) Tryd.func4
    (witness_row_at (enc := enc) (C := Tryd.checked) false (laidWorld #[.slice none 0 0, .int .u64 0, .agg #[.int .u8 0, .string ⟨#[]⟩, .int .u8 0, .string ⟨#[]⟩, .int .u64 0, .int .i64 0, .string ⟨#[]⟩, .string ⟨#[]⟩, .string ⟨#[]⟩, .bool false, .int .i64 0, .int .i64 0, .string ⟨#[]⟩, .int .u64 0]] os) #[.slice none 0 0, .int .u64 0, .agg #[.int .u8 0, .string ⟨#[]⟩, .int .u8 0, .string ⟨#[]⟩, .int .u64 0, .int .i64 0, .string ⟨#[]⟩, .string ⟨#[]⟩, .string ⟨#[]⟩, .bool false, .int .i64 0, .int .i64 0, .string ⟨#[]⟩, .int .u64 0]] rfl (by kernel_rfl) (by kernel_rfl) (by kernel_rfl)
      (OpenSpec.preRow_of_cond 8 hx (by kernel_rfl) (fun k hk => by cases hk) (by kernel_rfl) (laid_met os))) ?_
  intro W base args ds gs before hval hW _ _ hsz hL _ _
  exact contract H enc W base args ds gs before hval hW hsz hL

theorem said : Rows.BindAftersSaid :=
  OpenClaim.holds_of_cond 4 Tryd.f4 rfl rfl rfl rfl rfl rfl rfl ⟨rfl, rfl, rfl, rfl, rfl⟩ rfl rfl rfl rfl rfl (by kernel_rfl) Tryd.func4 (by kernel_rfl)
    (of_decide_eq_true (by kernel_rfl)) (by unfold Func.isWrapper; first | (rw [if_pos (by decide +kernel)]; kernel_rfl) | (rw [if_neg (by decide +kernel)]; exact ⟨rfl, rfl⟩))
    (fun os started H enc _ F => by rw [OpenClaim.pre_eq_preRow]; exact lifted os started H enc F)

theorem plain (f : FuncId) (fn : Func) (hf : Tryd.pinned.checked.prog.funcNamed "wharfinger/wharfingerlaw12.BindAfters" = some f) (hfn : Tryd.pinned.checked.prog.funcs[f]? = some fn) :
    false = Tryd.pinned.checked.prog.looks [] ∧ ∀ (j : Nat) t, fn.params[j]? = some t → Tryd.pinned.checked.prog.wantsStandIn t = false := by
  obtain rfl : f = 4 := Option.some.inj ((show Tryd.prog.funcNamed "wharfinger/wharfingerlaw12.BindAfters" = some 4 by kernel_rfl).symm.trans hf) |>.symm
  obtain rfl : fn = Tryd.f4 := (Option.some.inj (Tryd.func4.symm.trans hfn)).symm
  refine ⟨by kernel_rfl, fun j t ht => ?_⟩
  rw [Tryd.params4] at ht
  have hall : ([22, 23, 45] : List TypeId).all (fun t => Tryd.prog.wantsStandIn t == false) = true := by kernel_rfl
  have hm : t ∈ ([22, 23, 45] : List TypeId) := by have := Array.mem_of_getElem? ht; simpa using this
  exact eq_of_beq (List.all_eq_true.1 hall t hm)

theorem card : Rows.BindAftersCardSaid :=
  Claim7.holds_tied_plain_at .later [] _ _ _ _ said (fun _ h => by cases h) (by kernel_rfl) (fun _ h => by cases h) bindAfters_row_tie rfl ⟨rfl, rfl⟩ (by kernel_rfl) rfl plain (by kernel_rfl)
end Go.Proofs.YtfpdchabknoklaaDoor.BindAfters
