/- The document's After: of a volume that is there (idle, stale). -/
import Derived.Test.YtfpdchabknoklaaDoorBAf
import Derived.Test.YtfpdchabknoklaaDoorKUniq
import Derived.Test.YtfpdchabknoklaaDoorKOut
namespace Go.Proofs.YtfpdchabknoklaaDoor.O.B
open Go Go.RowKit Go.Shelf Go.Lib RangeMap KM
attribute [local go_sem] Oper.semAt_some

set_option maxRecDepth 100000 in
set_option maxHeartbeats 8000000 in
theorem rafter_gone (l : List Obj) (v : Value) (ver k : Int) (n : ByteArray) (c : Cl) (r : Rs) (w : World) (hl : ObjsIn w v l) (hlen : l.length < 100000) (ht : Tab w) (_hall : ∀ s ∈ l, (0 ≤ s.born ∧ s.born ≤ 18446744073709551615) ∧ s.name.size ≤ 140737488351232) (hg : getL l k n = none) :
    Calls Tryd.prog 12 #[v, .int .u64 ver, encK k n, encC c, encR r] w fun e w' => e = .returned (encA (afterB l ver k n c r)) ∧ Below w.heap.size w w' := by
  obtain ⟨o, cp, rfl, -, -⟩ := id hl
  have HL := Lib.hid hl
  have HT := Lib.hid ht
  have HUN := Lib.hid (fun V (hV : ObjsIn V (.slice o l.length cp) l) => uniq_any l _ V hV hlen)
  have hul : (uniqL l).length < 100000 := Nat.lt_of_le_of_lt (uniq_len l) hlen
  have HGG := Lib.hid (fun (V : World) (u : Value) (hV : ObjsIn V u (uniqL l)) => show Calls _ _ _ V (fun e w' => e = .returned (.tuple #[encO ((getL l k n).getD O0), .bool (getL l k n).isSome]) ∧ Below V.heap.size V w') by rw [← uniq_get l k n]; exact rget_any (uniqL l) u k n V hV)
  obtain ⟨x, hx⟩ : ∃ x, afterB l ver k n c r = x := ⟨_, rfl⟩
  rw [hx]
  rw [after_gone l ver k n c r hg] at hx
  rw [hg] at HGG
  have HVV : Hid (x = nothing) := hx.symm
  clear hx hg
  clear hl ht hlen hul
  have HKE : Hid (encK k n = .agg #[.int .u8 k, .string n]) := rfl
  unfold encR
  rw [show encC c = .agg (cellsC c) from rfl, HKE.out]
  unfold cellsC
  go_enter Tryd.func12, Tryd.ntmps12
  go_upto_region 1 with (fail)
  refine wp_gen (fun V => BoxK V w.heap.size k n ∧ BoxC V (w.heap.size + 1) c ∧ BoxR V (w.heap.size + 1 + 1) r ∧ BoxA V (w.heap.size + 1 + 1 + 1) nothing ∧ Below w.heap.size w V) (chain4 w _ _ _ _) ?_
  rintro V ⟨hk, hc, hr, ho, hlw⟩
  have HU := Lib.hid (HUN.out V (HL.out.after hlw))
  have HQ := Lib.hid hk
  have HC := Lib.hid hc
  have HR := Lib.hid hr
  have HO := Lib.hid ho
  have HW := Lib.hid hlw
  clear hk hc hr ho hlw HUN HL HKE
  go_wp2_with (fail)
  refine HU.out.mono ?_
  rintro e W1 ⟨u, rfl, hu, hb1⟩
  obtain ⟨o1, c1, rfl, -, -⟩ := id hu
  have HUU := Lib.hid hu
  have hlw := HW.out.trans (hb1.mono HW.out.size)
  have hq1 := HQ.out.after hb1
  obtain ⟨k0, k1⟩ := hq1.cells
  replace HQ := Lib.hid hq1
  replace HC := Lib.hid (HC.out.after hb1)
  replace HR := Lib.hid (HR.out.after hb1)
  replace HO := Lib.hid (HO.out.after hb1)
  replace HW := Lib.hid hlw
  have HD := Lib.hid (HGG.out W1 _ hu)
  clear HU hu hb1 hlw hq1 HGG
  go_wp2_with (fail)
  refine HD.out.mono ?_
  rintro e W2 ⟨rfl, hb2⟩
  obtain ⟨V3, hs3, hk3, hb3, -⟩ := boxing W2 O0
  have HNE : Hid (w.heap.size + 1 + 1 + 1 < W2.heap.size) := Nat.lt_of_lt_of_le HO.out.lt hb2.size
  have hw2 := HW.out.trans (hb2.mono HW.out.size)
  obtain ⟨V4, hs4, ha4, -, hb4⟩ := acting (show BoxA (V3.alloc (.cells (cellsA nothing) 36 (0, 0))) V3.heap.size nothing from heap_alloc_new _ _) nothing
  have hbel : Below V3.heap.size V3 V4 := hb4 _ _ ((Below.refl _ _).alloc (Nat.le_refl _) _) (Nat.le_refl _)
  have hb5 := hb3.trans (hbel.mono hb3.size)
  have hq4 := (HQ.out.after hb2).after hb5
  replace HQ := Lib.hid hq4
  replace HC := Lib.hid ((HC.out.after hb2).after hb5)
  replace HR := Lib.hid ((HR.out.after hb2).after hb5)
  replace HO := Lib.hid ((HO.out.after hb2).after hb5)
  replace HUU := Lib.hid ((HUU.out.after hb2).after hb5)
  replace HW := Lib.hid (hw2.trans (hb5.mono hw2.size))
  have HB := Lib.hid (hk3.after hbel)
  have HA := Lib.hid ha4
  have HTV := Lib.hid (HT.out.after HW.out)
  clear k0 k1
  obtain ⟨k0, k1⟩ := hq4.cells
  clear HD hb2 hk3 hb3 hw2 ha4 hb4 hbel hb5 hq4 HT
  have a0 := HA.out.kind
  clear HQ HC HR HUU HB HA HTV k0 k1 HNE
  obtain ⟨V8, hst8, ho8, -, hb8⟩ := acting HO.out nothing
  have HO8 := Lib.hid ho8
  have HX8 := Lib.hid (hb8 _ _ HW.out (by omega))
  clear ho8 hb8
  go_wp2_with (first | (refine wpList_skip rfl (hst8 rfl rfl rfl) ?_) | ((with_reducible refine wpList_build_to rfl 36 _ rfl (cellsA nothing) ?_ ?_); exact built_act0') | (refine wpList_skip rfl (hs3 rfl rfl rfl) ?_) | (refine wpList_skip rfl (hs4 rfl rfl rfl) ?_))
  refine bodyPost_ret (v := encA nothing) (results_cell_row rfl _ _ (w.heap.size + 1 + 1 + 1) 36 (cellsA nothing) (0, 0) _ rfl HO8.out undAct rfl sizeAct) rfl ?_
  exact ⟨by rw [HVV.out], HX8.out⟩
set_option maxRecDepth 100000 in
set_option maxHeartbeats 8000000 in
theorem rafter_other (l : List Obj) (v : Value) (ver k : Int) (n : ByteArray) (c : Cl) (r : Rs) (w : World) (hl : ObjsIn w v l) (hlen : l.length < 100000) (ht : Tab w) (_hall : ∀ s ∈ l, (0 ≤ s.born ∧ s.born ≤ 18446744073709551615) ∧ s.name.size ≤ 140737488351232) (p : Obj) (hg : getL l k n = some p) (h3 : k ≠ 3) (h4 : k ≠ 4) :
    Calls Tryd.prog 12 #[v, .int .u64 ver, encK k n, encC c, encR r] w fun e w' => e = .returned (encA (afterB l ver k n c r)) ∧ Below w.heap.size w w' := by
  obtain ⟨o, cp, rfl, -, -⟩ := id hl
  have HL := Lib.hid hl
  have HT := Lib.hid ht
  have HUN := Lib.hid (fun V (hV : ObjsIn V (.slice o l.length cp) l) => uniq_any l _ V hV hlen)
  have hul : (uniqL l).length < 100000 := Nat.lt_of_le_of_lt (uniq_len l) hlen
  have HGG := Lib.hid (fun (V : World) (u : Value) (hV : ObjsIn V u (uniqL l)) => show Calls _ _ _ V (fun e w' => e = .returned (.tuple #[encO ((getL l k n).getD O0), .bool (getL l k n).isSome]) ∧ Below V.heap.size V w') by rw [← uniq_get l k n]; exact rget_any (uniqL l) u k n V hV)
  obtain ⟨x, hx⟩ : ∃ x, afterB l ver k n c r = x := ⟨_, rfl⟩
  rw [hx]
  rw [after_other l ver k n c r h3 h4] at hx
  rw [hg] at HGG
  have HVV : Hid (x = nothing) := hx.symm
  have e3 : (k == 3) = false := by simpa using h3
  have e4 : (k == 4) = false := by simpa using h4
  clear hx hg h3 h4
  clear hl ht hlen hul
  have HKE : Hid (encK k n = .agg #[.int .u8 k, .string n]) := rfl
  unfold encR
  rw [show encC c = .agg (cellsC c) from rfl, HKE.out]
  unfold cellsC
  go_enter Tryd.func12, Tryd.ntmps12
  go_upto_region 1 with (fail)
  refine wp_gen (fun V => BoxK V w.heap.size k n ∧ BoxC V (w.heap.size + 1) c ∧ BoxR V (w.heap.size + 1 + 1) r ∧ BoxA V (w.heap.size + 1 + 1 + 1) nothing ∧ Below w.heap.size w V) (chain4 w _ _ _ _) ?_
  rintro V ⟨hk, hc, hr, ho, hlw⟩
  have HU := Lib.hid (HUN.out V (HL.out.after hlw))
  have HQ := Lib.hid hk
  have HC := Lib.hid hc
  have HR := Lib.hid hr
  have HO := Lib.hid ho
  have HW := Lib.hid hlw
  clear hk hc hr ho hlw HUN HL HKE
  go_wp2_with (fail)
  refine HU.out.mono ?_
  rintro e W1 ⟨u, rfl, hu, hb1⟩
  obtain ⟨o1, c1, rfl, -, -⟩ := id hu
  have HUU := Lib.hid hu
  have hlw := HW.out.trans (hb1.mono HW.out.size)
  have hq1 := HQ.out.after hb1
  obtain ⟨k0, k1⟩ := hq1.cells
  replace HQ := Lib.hid hq1
  replace HC := Lib.hid (HC.out.after hb1)
  replace HR := Lib.hid (HR.out.after hb1)
  replace HO := Lib.hid (HO.out.after hb1)
  replace HW := Lib.hid hlw
  have HD := Lib.hid (HGG.out W1 _ hu)
  clear HU hu hb1 hlw hq1 HGG
  go_wp2_with (fail)
  refine HD.out.mono ?_
  rintro e W2 ⟨rfl, hb2⟩
  obtain ⟨V3, hs3, hk3, hb3, -⟩ := boxing W2 p
  have HNE : Hid (w.heap.size + 1 + 1 + 1 < W2.heap.size) := Nat.lt_of_lt_of_le HO.out.lt hb2.size
  have hw2 := HW.out.trans (hb2.mono HW.out.size)
  obtain ⟨V4, hs4, ha4, -, hb4⟩ := acting (show BoxA (V3.alloc (.cells (cellsA nothing) 36 (0, 0))) V3.heap.size nothing from heap_alloc_new _ _) nothing
  have hbel : Below V3.heap.size V3 V4 := hb4 _ _ ((Below.refl _ _).alloc (Nat.le_refl _) _) (Nat.le_refl _)
  have hb5 := hb3.trans (hbel.mono hb3.size)
  have hq4 := (HQ.out.after hb2).after hb5
  replace HQ := Lib.hid hq4
  replace HC := Lib.hid ((HC.out.after hb2).after hb5)
  replace HR := Lib.hid ((HR.out.after hb2).after hb5)
  replace HO := Lib.hid ((HO.out.after hb2).after hb5)
  replace HUU := Lib.hid ((HUU.out.after hb2).after hb5)
  replace HW := Lib.hid (hw2.trans (hb5.mono hw2.size))
  have HB := Lib.hid (hk3.after hbel)
  have HA := Lib.hid ha4
  have HTV := Lib.hid (HT.out.after HW.out)
  clear k0 k1
  obtain ⟨k0, k1⟩ := hq4.cells
  clear HD hb2 hk3 hb3 hw2 ha4 hb4 hbel hb5 hq4 HT
  have a0 := HA.out.kind
  clear HQ HC HR HUU HB HA HTV k1 HNE
  obtain ⟨V8, hst8, ho8, -, hb8⟩ := acting HO.out nothing
  have HO8 := Lib.hid ho8
  have HX8 := Lib.hid (hb8 _ _ HW.out (by omega))
  clear ho8 hb8
  go_wp2_with (first | (refine wpList_skip rfl (hst8 rfl rfl rfl) ?_) | ((with_reducible refine wpList_build_to rfl 36 _ rfl (cellsA nothing) ?_ ?_); exact built_act0') | (refine wpList_skip rfl (hs3 rfl rfl rfl) ?_) | (refine wpList_skip rfl (hs4 rfl rfl rfl) ?_))
  refine bodyPost_ret (v := encA nothing) (results_cell_row rfl _ _ (w.heap.size + 1 + 1 + 1) 36 (cellsA nothing) (0, 0) _ rfl HO8.out undAct rfl sizeAct) rfl ?_
  exact ⟨by rw [HVV.out], HX8.out⟩
end Go.Proofs.YtfpdchabknoklaaDoor.O.B
namespace Go.Proofs.YtfpdchabknoklaaDoor.O.B
open Go Go.RowKit Go.Shelf Go.Lib RangeMap KM
attribute [local go_sem] Oper.semAt_some

set_option maxRecDepth 100000 in
set_option maxHeartbeats 8000000 in
theorem rafC_idle (l : List Obj) (v : Value) (ver : Int) (n : ByteArray) (c : Cl) (r : Rs) (w : World) (hl : ObjsIn w v l) (hlen : l.length < 100000) (ht : Tab w) (hall : ∀ s ∈ l, (0 ≤ s.born ∧ s.born ≤ 18446744073709551615) ∧ s.name.size ≤ 140737488351232) (p : Obj) (hg : getL l 3 n = some p) (he : ¬ claimN l ver n = askA c) :
    Calls Tryd.prog 12 #[v, .int .u64 ver, encK 3 n, encC c, encR r] w fun e w' => e = .returned (encA (afterB l ver 3 n c r)) ∧ Below w.heap.size w w' := by
  obtain ⟨o, cp, rfl, -, -⟩ := id hl
  have HL := Lib.hid hl
  have HT := Lib.hid ht
  have HUN := Lib.hid (fun V (hV : ObjsIn V (.slice o l.length cp) l) => uniq_any l _ V hV hlen)
  have hul : (uniqL l).length < 100000 := Nat.lt_of_le_of_lt (uniq_len l) hlen
  have HGG := Lib.hid (fun (V : World) (u : Value) (hV : ObjsIn V u (uniqL l)) => show Calls _ _ _ V (fun e w' => e = .returned (.tuple #[encO ((getL l 3 n).getD O0), .bool (getL l 3 n).isSome]) ∧ Below V.heap.size V w') by rw [← uniq_get l 3 n]; exact rget_any (uniqL l) u 3 n V hV)
  have HCC := Lib.hid (fun (V : World) (u : Value) (hV : ObjsIn V u (uniqL l)) (hT : Tab V) => show Calls _ _ _ V (fun e w' => e = .returned (encA (claimN l ver n)) ∧ Below V.heap.size V w') by rw [← claimN_uniq l ver n]; exact rclaim_any (uniqL l) u ver n V hV hul hT (fun s hs => hall s (uniq_mem hs)))
  obtain ⟨x, hx⟩ : ∃ x, afterB l ver 3 n c r = x := ⟨_, rfl⟩
  rw [hx]
  rw [after_claim] at hx
  have hf : forN l 3 n = p := by unfold forN; rw [hg]; rfl
  rw [hf] at hx
  rw [hg] at HGG
  rw [if_neg he] at hx
  have HPL := Lib.hid (claim_plain l ver n)
  have HEE := Lib.hid he
  generalize claimN l ver n = A at *
  generalize uniqL l = L at *
  have HXX := Lib.hid hx
  clear hx hg hf he
  clear hl ht hlen hall hul
  have HKE : Hid (encK 3 n = .agg #[.int .u8 3, .string n]) := rfl
  unfold encR
  rw [show encC c = .agg (cellsC c) from rfl, HKE.out]
  unfold cellsC
  go_enter Tryd.func12, Tryd.ntmps12
  go_upto_region 1 with (fail)
  refine wp_gen (fun V => BoxK V w.heap.size 3 n ∧ BoxC V (w.heap.size + 1) c ∧ BoxR V (w.heap.size + 1 + 1) r ∧ BoxA V (w.heap.size + 1 + 1 + 1) nothing ∧ Below w.heap.size w V) (chain4 w _ _ _ _) ?_
  rintro V ⟨hk, hc, hr, ho, hlw⟩
  have HU := Lib.hid (HUN.out V (HL.out.after hlw))
  have HQ := Lib.hid hk
  have HC := Lib.hid hc
  have HR := Lib.hid hr
  have HO := Lib.hid ho
  have HW := Lib.hid hlw
  clear hk hc hr ho hlw HUN HL HKE
  go_wp2_with (fail)
  refine HU.out.mono ?_
  rintro e W1 ⟨u, rfl, hu, hb1⟩
  obtain ⟨o1, c1, rfl, -, -⟩ := id hu
  have HUU := Lib.hid hu
  have hlw := HW.out.trans (hb1.mono HW.out.size)
  have hq1 := HQ.out.after hb1
  obtain ⟨k0, k1⟩ := hq1.cells
  replace HQ := Lib.hid hq1
  replace HC := Lib.hid (HC.out.after hb1)
  replace HR := Lib.hid (HR.out.after hb1)
  replace HO := Lib.hid (HO.out.after hb1)
  replace HW := Lib.hid hlw
  have HD := Lib.hid (HGG.out W1 _ hu)
  clear HU hu hb1 hlw hq1 HGG
  go_wp2_with (fail)
  refine HD.out.mono ?_
  rintro e W2 ⟨rfl, hb2⟩
  obtain ⟨V3, hs3, hk3, hb3, -⟩ := boxing W2 p
  have HNE : Hid (w.heap.size + 1 + 1 + 1 < W2.heap.size) := Nat.lt_of_lt_of_le HO.out.lt hb2.size
  have hw2 := HW.out.trans (hb2.mono HW.out.size)
  obtain ⟨V4, hs4, ha4, -, hb4⟩ := acting (show BoxA (V3.alloc (.cells (cellsA nothing) 36 (0, 0))) V3.heap.size nothing from heap_alloc_new _ _) nothing
  have hbel : Below V3.heap.size V3 V4 := hb4 _ _ ((Below.refl _ _).alloc (Nat.le_refl _) _) (Nat.le_refl _)
  have hb5 := hb3.trans (hbel.mono hb3.size)
  have hu2 := HUU.out.after hb2
  have hq4 := (HQ.out.after hb2).after hb5
  replace HQ := Lib.hid hq4
  replace HC := Lib.hid ((HC.out.after hb2).after hb5)
  replace HR := Lib.hid ((HR.out.after hb2).after hb5)
  replace HO := Lib.hid ((HO.out.after hb2).after hb5)
  replace HUU := Lib.hid ((HUU.out.after hb2).after hb5)
  replace HW := Lib.hid (hw2.trans (hb5.mono hw2.size))
  have HB := Lib.hid (hk3.after hbel)
  have HA := Lib.hid ha4
  have HTV := Lib.hid (HT.out.after HW.out)
  have HT0 := Lib.hid HT.out
  have HU3 := Lib.hid ((hu2 : ObjsIn W2 _ L).after hb3)
  have HV34 := Lib.hid hbel
  have HB3 : Hid (W2.heap.size < V3.heap.size) := hk3.lt
  clear k0 k1
  obtain ⟨k0, k1⟩ := hq4.cells
  clear HD hb2 hk3 hb3 hu2 hw2 ha4 hb4 hbel hb5 hq4 HT
  have HD := Lib.hid (HCC.out V4 _ HUU.out HTV.out)
  clear HCC
  go_wp2_with (first | (refine wpList_skip rfl (hs3 rfl rfl rfl) ?_) | (refine wpList_skip rfl (hs4 rfl rfl rfl) ?_) | ((with_reducible refine wpList_build_to rfl 36 _ rfl (cellsA nothing) ?_ ?_); exact built_act0'))
  refine HD.out.mono ?_
  rintro e W5 ⟨rfl, hb5⟩
  obtain ⟨V6, hs6, ha6, hx6, hb6⟩ := acting (HA.out.after hb5) A
  have HVN : Hid (W2.heap.size < V3.heap.size) := HB3.out
  have hlo : ∀ B X, Below B X V4 → B ≤ V3.heap.size → Below B X V6 := fun B X h1 h2 => hb6 B X (h1.trans (hb5.mono (Nat.le_trans h2 HV34.out.size))) h2
  have hcc : BoxC V6 (w.heap.size + 1) c := (hx6 _ (by have := HNE.out; have := HVN.out; omega)).trans (HC.out.after hb5)
  obtain ⟨c0, -⟩ := hcc.cells
  have hr6 : BoxR V6 (w.heap.size + 1 + 1) r := (hx6 _ (by have := HNE.out; have := HVN.out; omega)).trans (HR.out.after hb5)
  obtain ⟨r0, r1, r3⟩ := hr6.cells
  have ho6 : BoxA V6 (w.heap.size + 1 + 1 + 1) nothing := (hx6 _ (by have := HNE.out; have := HVN.out; omega)).trans (HO.out.after hb5)
  have hbb : BoxO V6 W2.heap.size p := (hx6 _ (by have := HVN.out; omega)).trans (HB.out.after hb5)
  have hw6 := hlo _ _ HW.out (by have := HNE.out; have := HVN.out; omega)
  have hu6 := (HU3.out.after (hlo _ _ HV34.out (Nat.le_refl _)))
  have ht6 := HT0.out.after hw6
  have a0 := ha6.kind
  have hca := ha6.callAt
  have HC := Lib.hid hcc
  replace HR := Lib.hid hr6
  replace HO := Lib.hid ho6
  replace HB := Lib.hid hbb
  replace HW := Lib.hid hw6
  have HU6 := Lib.hid hu6
  replace HTV := Lib.hid ht6
  clear HD hb5 ha6 hx6 hb6 hlo hr6 ho6 hbb hw6 hu6 ht6 HQ HUU HU3 HT0 HV34 HA k0 k1 hs3 hs4 HB3 HVN
  have HVV : Hid (x = nothing) := HXX.out.symm
  by_cases hA : A.act = 3
  · have e3 : (A.act == 3) = true := by simpa using hA
    have e3' : (A.act != 3) = false := by simpa using hA
    have hne : ¬ A.call = c := fun h => HEE.out (by rw [HPL.out hA, h])
    clear hA HXX
    obtain ⟨V8, hst8, ho8, -, hb8⟩ := acting HO.out nothing
    have HO8 := Lib.hid ho8
    have HX8 := Lib.hid (hb8 _ _ HW.out (by omega))
    clear ho8 hb8
    go_wp2_with (first | (refine wpList_skip rfl (hst8 rfl rfl rfl) ?_) | ((with_reducible refine wpList_build_to rfl 36 _ rfl (cellsA nothing) ?_ ?_); exact built_act0') | (refine wpList_skip rfl (hs6 rfl rfl rfl) ?_) | (refine wpList_got rfl (load_callAt hca rfl rfl) ?_) | (refine wpList_got rfl (load_call hcc rfl rfl) ?_) | (refine wpList_got rfl (exec_neq_diff hne rfl rfl rfl) ?_))
    refine bodyPost_ret (v := encA nothing) (results_cell_row rfl _ _ (w.heap.size + 1 + 1 + 1) 36 (cellsA nothing) (0, 0) _ rfl HO8.out undAct rfl sizeAct) rfl ?_
    exact ⟨by rw [HVV.out], HX8.out⟩
  · have e3 : (A.act == 3) = false := by simpa using hA
    have e3' : (A.act != 3) = true := by simpa using hA
    clear hA HXX
    obtain ⟨V8, hst8, ho8, -, hb8⟩ := acting HO.out nothing
    have HO8 := Lib.hid ho8
    have HX8 := Lib.hid (hb8 _ _ HW.out (by omega))
    clear ho8 hb8
    go_wp2_with (first | (refine wpList_skip rfl (hst8 rfl rfl rfl) ?_) | ((with_reducible refine wpList_build_to rfl 36 _ rfl (cellsA nothing) ?_ ?_); exact built_act0') | (refine wpList_skip rfl (hs6 rfl rfl rfl) ?_) | (refine wpList_got rfl (load_callAt hca rfl rfl) ?_) | (refine wpList_got rfl (load_call hcc rfl rfl) ?_))
    refine bodyPost_ret (v := encA nothing) (results_cell_row rfl _ _ (w.heap.size + 1 + 1 + 1) 36 (cellsA nothing) (0, 0) _ rfl HO8.out undAct rfl sizeAct) rfl ?_
    exact ⟨by rw [HVV.out], HX8.out⟩
set_option maxRecDepth 100000 in
set_option maxHeartbeats 8000000 in
theorem rafC_stale (l : List Obj) (v : Value) (ver : Int) (n : ByteArray) (c : Cl) (r : Rs) (w : World) (hl : ObjsIn w v l) (hlen : l.length < 100000) (ht : Tab w) (hall : ∀ s ∈ l, (0 ≤ s.born ∧ s.born ≤ 18446744073709551615) ∧ s.name.size ≤ 140737488351232) (p : Obj) (hg : getL l 3 n = some p) (he : claimN l ver n = askA c) (h9 : r.err = 9) :
    Calls Tryd.prog 12 #[v, .int .u64 ver, encK 3 n, encC c, encR r] w fun e w' => e = .returned (encA (afterB l ver 3 n c r)) ∧ Below w.heap.size w w' := by
  obtain ⟨o, cp, rfl, -, -⟩ := id hl
  have HL := Lib.hid hl
  have HT := Lib.hid ht
  have HUN := Lib.hid (fun V (hV : ObjsIn V (.slice o l.length cp) l) => uniq_any l _ V hV hlen)
  have hul : (uniqL l).length < 100000 := Nat.lt_of_le_of_lt (uniq_len l) hlen
  have HGG := Lib.hid (fun (V : World) (u : Value) (hV : ObjsIn V u (uniqL l)) => show Calls _ _ _ V (fun e w' => e = .returned (.tuple #[encO ((getL l 3 n).getD O0), .bool (getL l 3 n).isSome]) ∧ Below V.heap.size V w') by rw [← uniq_get l 3 n]; exact rget_any (uniqL l) u 3 n V hV)
  have HCC := Lib.hid (fun (V : World) (u : Value) (hV : ObjsIn V u (uniqL l)) (hT : Tab V) => show Calls _ _ _ V (fun e w' => e = .returned (encA (claimN l ver n)) ∧ Below V.heap.size V w') by rw [← claimN_uniq l ver n]; exact rclaim_any (uniqL l) u ver n V hV hul hT (fun s hs => hall s (uniq_mem hs)))
  obtain ⟨x, hx⟩ : ∃ x, afterB l ver 3 n c r = x := ⟨_, rfl⟩
  rw [hx]
  rw [after_claim] at hx
  have hf : forN l 3 n = p := by unfold forN; rw [hg]; rfl
  rw [hf] at hx
  rw [hg] at HGG
  rw [if_pos he] at hx
  have hA : (claimN l ver n).act = 3 := by rw [he]; rfl
  have hne0 : (claimN l ver n).call = c := by rw [he]; rfl
  have HNA := Lib.hid hne0
  unfold docB at hx
  have HFh9 := Lib.hid h9
  clear h9
  generalize claimN l ver n = A at *
  generalize uniqL l = L at *
  have HXX := Lib.hid hx
  clear hx hg hf he hne0
  clear hl ht hlen hall hul
  have HKE : Hid (encK 3 n = .agg #[.int .u8 3, .string n]) := rfl
  unfold encR
  rw [show encC c = .agg (cellsC c) from rfl, HKE.out]
  unfold cellsC
  go_enter Tryd.func12, Tryd.ntmps12
  go_upto_region 1 with (fail)
  refine wp_gen (fun V => BoxK V w.heap.size 3 n ∧ BoxC V (w.heap.size + 1) c ∧ BoxR V (w.heap.size + 1 + 1) r ∧ BoxA V (w.heap.size + 1 + 1 + 1) nothing ∧ Below w.heap.size w V) (chain4 w _ _ _ _) ?_
  rintro V ⟨hk, hc, hr, ho, hlw⟩
  have HU := Lib.hid (HUN.out V (HL.out.after hlw))
  have HQ := Lib.hid hk
  have HC := Lib.hid hc
  have HR := Lib.hid hr
  have HO := Lib.hid ho
  have HW := Lib.hid hlw
  clear hk hc hr ho hlw HUN HL HKE
  go_wp2_with (fail)
  refine HU.out.mono ?_
  rintro e W1 ⟨u, rfl, hu, hb1⟩
  obtain ⟨o1, c1, rfl, -, -⟩ := id hu
  have HUU := Lib.hid hu
  have hlw := HW.out.trans (hb1.mono HW.out.size)
  have hq1 := HQ.out.after hb1
  obtain ⟨k0, k1⟩ := hq1.cells
  replace HQ := Lib.hid hq1
  replace HC := Lib.hid (HC.out.after hb1)
  replace HR := Lib.hid (HR.out.after hb1)
  replace HO := Lib.hid (HO.out.after hb1)
  replace HW := Lib.hid hlw
  have HD := Lib.hid (HGG.out W1 _ hu)
  clear HU hu hb1 hlw hq1 HGG
  go_wp2_with (fail)
  refine HD.out.mono ?_
  rintro e W2 ⟨rfl, hb2⟩
  obtain ⟨V3, hs3, hk3, hb3, -⟩ := boxing W2 p
  have HNE : Hid (w.heap.size + 1 + 1 + 1 < W2.heap.size) := Nat.lt_of_lt_of_le HO.out.lt hb2.size
  have hw2 := HW.out.trans (hb2.mono HW.out.size)
  obtain ⟨V4, hs4, ha4, -, hb4⟩ := acting (show BoxA (V3.alloc (.cells (cellsA nothing) 36 (0, 0))) V3.heap.size nothing from heap_alloc_new _ _) nothing
  have hbel : Below V3.heap.size V3 V4 := hb4 _ _ ((Below.refl _ _).alloc (Nat.le_refl _) _) (Nat.le_refl _)
  have hb5 := hb3.trans (hbel.mono hb3.size)
  have hu2 := HUU.out.after hb2
  have hq4 := (HQ.out.after hb2).after hb5
  replace HQ := Lib.hid hq4
  replace HC := Lib.hid ((HC.out.after hb2).after hb5)
  replace HR := Lib.hid ((HR.out.after hb2).after hb5)
  replace HO := Lib.hid ((HO.out.after hb2).after hb5)
  replace HUU := Lib.hid ((HUU.out.after hb2).after hb5)
  replace HW := Lib.hid (hw2.trans (hb5.mono hw2.size))
  have HB := Lib.hid (hk3.after hbel)
  have HA := Lib.hid ha4
  have HTV := Lib.hid (HT.out.after HW.out)
  have HT0 := Lib.hid HT.out
  have HU3 := Lib.hid ((hu2 : ObjsIn W2 _ L).after hb3)
  have HV34 := Lib.hid hbel
  have HB3 : Hid (W2.heap.size < V3.heap.size) := hk3.lt
  clear k0 k1
  obtain ⟨k0, k1⟩ := hq4.cells
  clear HD hb2 hk3 hb3 hu2 hw2 ha4 hb4 hbel hb5 hq4 HT
  have HD := Lib.hid (HCC.out V4 _ HUU.out HTV.out)
  clear HCC
  go_wp2_with (first | (refine wpList_skip rfl (hs3 rfl rfl rfl) ?_) | (refine wpList_skip rfl (hs4 rfl rfl rfl) ?_) | ((with_reducible refine wpList_build_to rfl 36 _ rfl (cellsA nothing) ?_ ?_); exact built_act0'))
  refine HD.out.mono ?_
  rintro e W5 ⟨rfl, hb5⟩
  obtain ⟨V6, hs6, ha6, hx6, hb6⟩ := acting (HA.out.after hb5) A
  have HVN : Hid (W2.heap.size < V3.heap.size) := HB3.out
  have hlo : ∀ B X, Below B X V4 → B ≤ V3.heap.size → Below B X V6 := fun B X h1 h2 => hb6 B X (h1.trans (hb5.mono (Nat.le_trans h2 HV34.out.size))) h2
  have hcc : BoxC V6 (w.heap.size + 1) c := (hx6 _ (by have := HNE.out; have := HVN.out; omega)).trans (HC.out.after hb5)
  obtain ⟨c0, -⟩ := hcc.cells
  have hr6 : BoxR V6 (w.heap.size + 1 + 1) r := (hx6 _ (by have := HNE.out; have := HVN.out; omega)).trans (HR.out.after hb5)
  obtain ⟨r0, r1, r3⟩ := hr6.cells
  have ho6 : BoxA V6 (w.heap.size + 1 + 1 + 1) nothing := (hx6 _ (by have := HNE.out; have := HVN.out; omega)).trans (HO.out.after hb5)
  have hbb : BoxO V6 W2.heap.size p := (hx6 _ (by have := HVN.out; omega)).trans (HB.out.after hb5)
  have hw6 := hlo _ _ HW.out (by have := HNE.out; have := HVN.out; omega)
  have hu6 := (HU3.out.after (hlo _ _ HV34.out (Nat.le_refl _)))
  have ht6 := HT0.out.after hw6
  have a0 := ha6.kind
  have hca := ha6.callAt
  have HC := Lib.hid hcc
  replace HR := Lib.hid hr6
  replace HO := Lib.hid ho6
  replace HB := Lib.hid hbb
  replace HW := Lib.hid hw6
  have HU6 := Lib.hid hu6
  replace HTV := Lib.hid ht6
  clear HD hb5 ha6 hx6 hb6 hlo hr6 ho6 hbb hw6 hu6 ht6 HQ HUU HU3 HT0 HV34 HA k0 k1 hs3 hs4 HB3 HVN
  have e3 : (A.act == 3) = true := by simpa using hA
  have e3' : (A.act != 3) = false := by simpa using hA
  have hne := HNA.out
  clear hA HNA
  have h9 := HFh9.out
  clear HFh9
  have e9 : (r.err == 9) = true := by simpa using h9
  have HVV : Hid (x = writeA { p with num := up ver }) := HXX.out.symm.trans (if_pos h9)
  clear h9 HXX HU6 HTV
  have g18 := HB.out.free 18
  have b18 := HB.out.c18
  go_upto_region 13 with (first | (refine wpList_skip rfl (hs6 rfl rfl rfl) ?_) | (refine wpList_got rfl (load_callAt hca rfl rfl) ?_) | (refine wpList_got rfl (load_call hcc rfl rfl) ?_) | (refine wpList_got rfl (exec_neq_at hne rfl rfl rfl) ?_))
  refine wp_gen (fun V => BoxO V (W2.heap.size) { p with num := up ver } ∧ BoxA V (w.heap.size + 1 + 1 + 1) nothing ∧ Below w.heap.size w V) ⟨(HB.out.s18 (up ver)), ((heap_setCell_other _ ⟨W2.heap.size, 18, none⟩ (w.heap.size + 1 + 1 + 1) _ (by have := HNE.out; show w.heap.size + 1 + 1 + 1 ≠ W2.heap.size; omega)).trans HO.out), (HW.out.setCell (by have := HNE.out; show w.heap.size ≤ W2.heap.size; omega) _)⟩ ?_
  clear HB HO HW g18 b18 HR HC
  rintro V6 ⟨hbx, ho, hlw⟩
  have HO := Lib.hid ho
  have HW := Lib.hid hlw
  clear ho hlw
  clear a0 hca hcc c0 r0 r1 r3 hs6 hne e3 e3' e9
  have HCA := Lib.hid (rwrite_any { p with num := up ver } V6)
  go_wp2_with (first | ((with_reducible refine wpList_load_obj ?_ rfl ?_ hbx ?_); rfl; rfl))
  refine HCA.out.mono ?_
  rintro e W7 ⟨rfl, hb7⟩
  obtain ⟨V8, hst8, ho8, -, hb8⟩ := acting (HO.out.after hb7) (writeA { p with num := up ver })
  have HO8 := Lib.hid ho8
  have HX8 := Lib.hid (hb8 _ _ (HW.out.trans (hb7.mono HW.out.size)) (by omega))
  clear ho8 hb8 HCA HO HW hb7 hbx
  go_wp2_with (refine wpList_skip rfl (hst8 rfl rfl rfl) ?_)
  refine bodyPost_ret (v := encA (writeA { p with num := up ver })) (results_cell_row rfl _ _ (w.heap.size + 1 + 1 + 1) 36 (cellsA (writeA { p with num := up ver })) (0, 0) _ rfl HO8.out undAct rfl sizeAct) rfl ?_
  exact ⟨by rw [HVV.out], HX8.out⟩
end Go.Proofs.YtfpdchabknoklaaDoor.O.B
namespace Go.Proofs.YtfpdchabknoklaaDoor.O.B
open Go Go.RowKit Go.Shelf Go.Lib RangeMap KM
attribute [local go_sem] Oper.semAt_some

set_option maxRecDepth 100000 in
set_option maxHeartbeats 8000000 in
theorem rafV_idle (l : List Obj) (v : Value) (ver : Int) (n : ByteArray) (c : Cl) (r : Rs) (w : World) (hl : ObjsIn w v l) (hlen : l.length < 100000) (ht : Tab w) (hall : ∀ s ∈ l, (0 ≤ s.born ∧ s.born ≤ 18446744073709551615) ∧ s.name.size ≤ 140737488351232) (p : Obj) (hg : getL l 4 n = some p) (he : ¬ volumeN l ver n = askA c) :
    Calls Tryd.prog 12 #[v, .int .u64 ver, encK 4 n, encC c, encR r] w fun e w' => e = .returned (encA (afterB l ver 4 n c r)) ∧ Below w.heap.size w w' := by
  obtain ⟨o, cp, rfl, -, -⟩ := id hl
  have HL := Lib.hid hl
  have HT := Lib.hid ht
  have HUN := Lib.hid (fun V (hV : ObjsIn V (.slice o l.length cp) l) => uniq_any l _ V hV hlen)
  have hul : (uniqL l).length < 100000 := Nat.lt_of_le_of_lt (uniq_len l) hlen
  have HGG := Lib.hid (fun (V : World) (u : Value) (hV : ObjsIn V u (uniqL l)) => show Calls _ _ _ V (fun e w' => e = .returned (.tuple #[encO ((getL l 4 n).getD O0), .bool (getL l 4 n).isSome]) ∧ Below V.heap.size V w') by rw [← uniq_get l 4 n]; exact rget_any (uniqL l) u 4 n V hV)
  have HCC := Lib.hid (fun (V : World) (u : Value) (hV : ObjsIn V u (uniqL l)) (hT : Tab V) => show Calls _ _ _ V (fun e w' => e = .returned (encA (volumeN l ver n)) ∧ Below V.heap.size V w') by rw [← volumeN_uniq l ver n]; exact rvolume_any (uniqL l) u ver n V hV hul hT (fun s hs => hall s (uniq_mem hs)))
  obtain ⟨x, hx⟩ : ∃ x, afterB l ver 4 n c r = x := ⟨_, rfl⟩
  rw [hx]
  rw [after_volume] at hx
  have hf : forN l 4 n = p := by unfold forN; rw [hg]; rfl
  rw [hf] at hx
  rw [hg] at HGG
  rw [if_neg he] at hx
  have HPL := Lib.hid (volume_plain l ver n)
  have HEE := Lib.hid he
  generalize volumeN l ver n = A at *
  generalize uniqL l = L at *
  have HXX := Lib.hid hx
  clear hx hg hf he
  clear hl ht hlen hall hul
  have HKE : Hid (encK 4 n = .agg #[.int .u8 4, .string n]) := rfl
  unfold encR
  rw [show encC c = .agg (cellsC c) from rfl, HKE.out]
  unfold cellsC
  go_enter Tryd.func12, Tryd.ntmps12
  go_upto_region 1 with (fail)
  refine wp_gen (fun V => BoxK V w.heap.size 4 n ∧ BoxC V (w.heap.size + 1) c ∧ BoxR V (w.heap.size + 1 + 1) r ∧ BoxA V (w.heap.size + 1 + 1 + 1) nothing ∧ Below w.heap.size w V) (chain4 w _ _ _ _) ?_
  rintro V ⟨hk, hc, hr, ho, hlw⟩
  have HU := Lib.hid (HUN.out V (HL.out.after hlw))
  have HQ := Lib.hid hk
  have HC := Lib.hid hc
  have HR := Lib.hid hr
  have HO := Lib.hid ho
  have HW := Lib.hid hlw
  clear hk hc hr ho hlw HUN HL HKE
  go_wp2_with (fail)
  refine HU.out.mono ?_
  rintro e W1 ⟨u, rfl, hu, hb1⟩
  obtain ⟨o1, c1, rfl, -, -⟩ := id hu
  have HUU := Lib.hid hu
  have hlw := HW.out.trans (hb1.mono HW.out.size)
  have hq1 := HQ.out.after hb1
  obtain ⟨k0, k1⟩ := hq1.cells
  replace HQ := Lib.hid hq1
  replace HC := Lib.hid (HC.out.after hb1)
  replace HR := Lib.hid (HR.out.after hb1)
  replace HO := Lib.hid (HO.out.after hb1)
  replace HW := Lib.hid hlw
  have HD := Lib.hid (HGG.out W1 _ hu)
  clear HU hu hb1 hlw hq1 HGG
  go_wp2_with (fail)
  refine HD.out.mono ?_
  rintro e W2 ⟨rfl, hb2⟩
  obtain ⟨V3, hs3, hk3, hb3, -⟩ := boxing W2 p
  have HNE : Hid (w.heap.size + 1 + 1 + 1 < W2.heap.size) := Nat.lt_of_lt_of_le HO.out.lt hb2.size
  have hw2 := HW.out.trans (hb2.mono HW.out.size)
  obtain ⟨V4, hs4, ha4, -, hb4⟩ := acting (show BoxA (V3.alloc (.cells (cellsA nothing) 36 (0, 0))) V3.heap.size nothing from heap_alloc_new _ _) nothing
  have hbel : Below V3.heap.size V3 V4 := hb4 _ _ ((Below.refl _ _).alloc (Nat.le_refl _) _) (Nat.le_refl _)
  have hb5 := hb3.trans (hbel.mono hb3.size)
  have hu2 := HUU.out.after hb2
  have hq4 := (HQ.out.after hb2).after hb5
  replace HQ := Lib.hid hq4
  replace HC := Lib.hid ((HC.out.after hb2).after hb5)
  replace HR := Lib.hid ((HR.out.after hb2).after hb5)
  replace HO := Lib.hid ((HO.out.after hb2).after hb5)
  replace HUU := Lib.hid ((HUU.out.after hb2).after hb5)
  replace HW := Lib.hid (hw2.trans (hb5.mono hw2.size))
  have HB := Lib.hid (hk3.after hbel)
  have HA := Lib.hid ha4
  have HTV := Lib.hid (HT.out.after HW.out)
  have HT0 := Lib.hid HT.out
  have HU3 := Lib.hid ((hu2 : ObjsIn W2 _ L).after hb3)
  have HV34 := Lib.hid hbel
  have HB3 : Hid (W2.heap.size < V3.heap.size) := hk3.lt
  clear k0 k1
  obtain ⟨k0, k1⟩ := hq4.cells
  clear HD hb2 hk3 hb3 hu2 hw2 ha4 hb4 hbel hb5 hq4 HT
  have HD := Lib.hid (HCC.out V4 _ HUU.out HTV.out)
  clear HCC
  go_wp2_with (first | (refine wpList_skip rfl (hs3 rfl rfl rfl) ?_) | (refine wpList_skip rfl (hs4 rfl rfl rfl) ?_) | ((with_reducible refine wpList_build_to rfl 36 _ rfl (cellsA nothing) ?_ ?_); exact built_act0'))
  refine HD.out.mono ?_
  rintro e W5 ⟨rfl, hb5⟩
  obtain ⟨V6, hs6, ha6, hx6, hb6⟩ := acting (HA.out.after hb5) A
  have HVN : Hid (W2.heap.size < V3.heap.size) := HB3.out
  have hlo : ∀ B X, Below B X V4 → B ≤ V3.heap.size → Below B X V6 := fun B X h1 h2 => hb6 B X (h1.trans (hb5.mono (Nat.le_trans h2 HV34.out.size))) h2
  have hcc : BoxC V6 (w.heap.size + 1) c := (hx6 _ (by have := HNE.out; have := HVN.out; omega)).trans (HC.out.after hb5)
  obtain ⟨c0, -⟩ := hcc.cells
  have hr6 : BoxR V6 (w.heap.size + 1 + 1) r := (hx6 _ (by have := HNE.out; have := HVN.out; omega)).trans (HR.out.after hb5)
  obtain ⟨r0, r1, r3⟩ := hr6.cells
  have ho6 : BoxA V6 (w.heap.size + 1 + 1 + 1) nothing := (hx6 _ (by have := HNE.out; have := HVN.out; omega)).trans (HO.out.after hb5)
  have hbb : BoxO V6 W2.heap.size p := (hx6 _ (by have := HVN.out; omega)).trans (HB.out.after hb5)
  have hw6 := hlo _ _ HW.out (by have := HNE.out; have := HVN.out; omega)
  have hu6 := (HU3.out.after (hlo _ _ HV34.out (Nat.le_refl _)))
  have ht6 := HT0.out.after hw6
  have a0 := ha6.kind
  have hca := ha6.callAt
  have HC := Lib.hid hcc
  replace HR := Lib.hid hr6
  replace HO := Lib.hid ho6
  replace HB := Lib.hid hbb
  replace HW := Lib.hid hw6
  have HU6 := Lib.hid hu6
  replace HTV := Lib.hid ht6
  clear HD hb5 ha6 hx6 hb6 hlo hr6 ho6 hbb hw6 hu6 ht6 HQ HUU HU3 HT0 HV34 HA k0 k1 hs3 hs4 HB3 HVN
  have HVV : Hid (x = nothing) := HXX.out.symm
  by_cases hA : A.act = 3
  · have e3 : (A.act == 3) = true := by simpa using hA
    have e3' : (A.act != 3) = false := by simpa using hA
    have hne : ¬ A.call = c := fun h => HEE.out (by rw [HPL.out hA, h])
    clear hA HXX
    obtain ⟨V8, hst8, ho8, -, hb8⟩ := acting HO.out nothing
    have HO8 := Lib.hid ho8
    have HX8 := Lib.hid (hb8 _ _ HW.out (by omega))
    clear ho8 hb8
    go_wp2_with (first | (refine wpList_skip rfl (hst8 rfl rfl rfl) ?_) | ((with_reducible refine wpList_build_to rfl 36 _ rfl (cellsA nothing) ?_ ?_); exact built_act0') | (refine wpList_skip rfl (hs6 rfl rfl rfl) ?_) | (refine wpList_got rfl (load_callAt hca rfl rfl) ?_) | (refine wpList_got rfl (load_call hcc rfl rfl) ?_) | (refine wpList_got rfl (exec_neq_diff hne rfl rfl rfl) ?_))
    refine bodyPost_ret (v := encA nothing) (results_cell_row rfl _ _ (w.heap.size + 1 + 1 + 1) 36 (cellsA nothing) (0, 0) _ rfl HO8.out undAct rfl sizeAct) rfl ?_
    exact ⟨by rw [HVV.out], HX8.out⟩
  · have e3 : (A.act == 3) = false := by simpa using hA
    have e3' : (A.act != 3) = true := by simpa using hA
    clear hA HXX
    obtain ⟨V8, hst8, ho8, -, hb8⟩ := acting HO.out nothing
    have HO8 := Lib.hid ho8
    have HX8 := Lib.hid (hb8 _ _ HW.out (by omega))
    clear ho8 hb8
    go_wp2_with (first | (refine wpList_skip rfl (hst8 rfl rfl rfl) ?_) | ((with_reducible refine wpList_build_to rfl 36 _ rfl (cellsA nothing) ?_ ?_); exact built_act0') | (refine wpList_skip rfl (hs6 rfl rfl rfl) ?_) | (refine wpList_got rfl (load_callAt hca rfl rfl) ?_) | (refine wpList_got rfl (load_call hcc rfl rfl) ?_))
    refine bodyPost_ret (v := encA nothing) (results_cell_row rfl _ _ (w.heap.size + 1 + 1 + 1) 36 (cellsA nothing) (0, 0) _ rfl HO8.out undAct rfl sizeAct) rfl ?_
    exact ⟨by rw [HVV.out], HX8.out⟩
set_option maxRecDepth 100000 in
set_option maxHeartbeats 8000000 in
theorem rafV_stale (l : List Obj) (v : Value) (ver : Int) (n : ByteArray) (c : Cl) (r : Rs) (w : World) (hl : ObjsIn w v l) (hlen : l.length < 100000) (ht : Tab w) (hall : ∀ s ∈ l, (0 ≤ s.born ∧ s.born ≤ 18446744073709551615) ∧ s.name.size ≤ 140737488351232) (p : Obj) (hg : getL l 4 n = some p) (he : volumeN l ver n = askA c) (h9 : r.err = 9) :
    Calls Tryd.prog 12 #[v, .int .u64 ver, encK 4 n, encC c, encR r] w fun e w' => e = .returned (encA (afterB l ver 4 n c r)) ∧ Below w.heap.size w w' := by
  obtain ⟨o, cp, rfl, -, -⟩ := id hl
  have HL := Lib.hid hl
  have HT := Lib.hid ht
  have HUN := Lib.hid (fun V (hV : ObjsIn V (.slice o l.length cp) l) => uniq_any l _ V hV hlen)
  have hul : (uniqL l).length < 100000 := Nat.lt_of_le_of_lt (uniq_len l) hlen
  have HGG := Lib.hid (fun (V : World) (u : Value) (hV : ObjsIn V u (uniqL l)) => show Calls _ _ _ V (fun e w' => e = .returned (.tuple #[encO ((getL l 4 n).getD O0), .bool (getL l 4 n).isSome]) ∧ Below V.heap.size V w') by rw [← uniq_get l 4 n]; exact rget_any (uniqL l) u 4 n V hV)
  have HCC := Lib.hid (fun (V : World) (u : Value) (hV : ObjsIn V u (uniqL l)) (hT : Tab V) => show Calls _ _ _ V (fun e w' => e = .returned (encA (volumeN l ver n)) ∧ Below V.heap.size V w') by rw [← volumeN_uniq l ver n]; exact rvolume_any (uniqL l) u ver n V hV hul hT (fun s hs => hall s (uniq_mem hs)))
  obtain ⟨x, hx⟩ : ∃ x, afterB l ver 4 n c r = x := ⟨_, rfl⟩
  rw [hx]
  rw [after_volume] at hx
  have hf : forN l 4 n = p := by unfold forN; rw [hg]; rfl
  rw [hf] at hx
  rw [hg] at HGG
  rw [if_pos he] at hx
  have hA : (volumeN l ver n).act = 3 := by rw [he]; rfl
  have hne0 : (volumeN l ver n).call = c := by rw [he]; rfl
  have HNA := Lib.hid hne0
  unfold docB at hx
  have HFh9 := Lib.hid h9
  clear h9
  generalize volumeN l ver n = A at *
  generalize uniqL l = L at *
  have HXX := Lib.hid hx
  clear hx hg hf he hne0
  clear hl ht hlen hall hul
  have HKE : Hid (encK 4 n = .agg #[.int .u8 4, .string n]) := rfl
  unfold encR
  rw [show encC c = .agg (cellsC c) from rfl, HKE.out]
  unfold cellsC
  go_enter Tryd.func12, Tryd.ntmps12
  go_upto_region 1 with (fail)
  refine wp_gen (fun V => BoxK V w.heap.size 4 n ∧ BoxC V (w.heap.size + 1) c ∧ BoxR V (w.heap.size + 1 + 1) r ∧ BoxA V (w.heap.size + 1 + 1 + 1) nothing ∧ Below w.heap.size w V) (chain4 w _ _ _ _) ?_
  rintro V ⟨hk, hc, hr, ho, hlw⟩
  have HU := Lib.hid (HUN.out V (HL.out.after hlw))
  have HQ := Lib.hid hk
  have HC := Lib.hid hc
  have HR := Lib.hid hr
  have HO := Lib.hid ho
  have HW := Lib.hid hlw
  clear hk hc hr ho hlw HUN HL HKE
  go_wp2_with (fail)
  refine HU.out.mono ?_
  rintro e W1 ⟨u, rfl, hu, hb1⟩
  obtain ⟨o1, c1, rfl, -, -⟩ := id hu
  have HUU := Lib.hid hu
  have hlw := HW.out.trans (hb1.mono HW.out.size)
  have hq1 := HQ.out.after hb1
  obtain ⟨k0, k1⟩ := hq1.cells
  replace HQ := Lib.hid hq1
  replace HC := Lib.hid (HC.out.after hb1)
  replace HR := Lib.hid (HR.out.after hb1)
  replace HO := Lib.hid (HO.out.after hb1)
  replace HW := Lib.hid hlw
  have HD := Lib.hid (HGG.out W1 _ hu)
  clear HU hu hb1 hlw hq1 HGG
  go_wp2_with (fail)
  refine HD.out.mono ?_
  rintro e W2 ⟨rfl, hb2⟩
  obtain ⟨V3, hs3, hk3, hb3, -⟩ := boxing W2 p
  have HNE : Hid (w.heap.size + 1 + 1 + 1 < W2.heap.size) := Nat.lt_of_lt_of_le HO.out.lt hb2.size
  have hw2 := HW.out.trans (hb2.mono HW.out.size)
  obtain ⟨V4, hs4, ha4, -, hb4⟩ := acting (show BoxA (V3.alloc (.cells (cellsA nothing) 36 (0, 0))) V3.heap.size nothing from heap_alloc_new _ _) nothing
  have hbel : Below V3.heap.size V3 V4 := hb4 _ _ ((Below.refl _ _).alloc (Nat.le_refl _) _) (Nat.le_refl _)
  have hb5 := hb3.trans (hbel.mono hb3.size)
  have hu2 := HUU.out.after hb2
  have hq4 := (HQ.out.after hb2).after hb5
  replace HQ := Lib.hid hq4
  replace HC := Lib.hid ((HC.out.after hb2).after hb5)
  replace HR := Lib.hid ((HR.out.after hb2).after hb5)
  replace HO := Lib.hid ((HO.out.after hb2).after hb5)
  replace HUU := Lib.hid ((HUU.out.after hb2).after hb5)
  replace HW := Lib.hid (hw2.trans (hb5.mono hw2.size))
  have HB := Lib.hid (hk3.after hbel)
  have HA := Lib.hid ha4
  have HTV := Lib.hid (HT.out.after HW.out)
  have HT0 := Lib.hid HT.out
  have HU3 := Lib.hid ((hu2 : ObjsIn W2 _ L).after hb3)
  have HV34 := Lib.hid hbel
  have HB3 : Hid (W2.heap.size < V3.heap.size) := hk3.lt
  clear k0 k1
  obtain ⟨k0, k1⟩ := hq4.cells
  clear HD hb2 hk3 hb3 hu2 hw2 ha4 hb4 hbel hb5 hq4 HT
  have HD := Lib.hid (HCC.out V4 _ HUU.out HTV.out)
  clear HCC
  go_wp2_with (first | (refine wpList_skip rfl (hs3 rfl rfl rfl) ?_) | (refine wpList_skip rfl (hs4 rfl rfl rfl) ?_) | ((with_reducible refine wpList_build_to rfl 36 _ rfl (cellsA nothing) ?_ ?_); exact built_act0'))
  refine HD.out.mono ?_
  rintro e W5 ⟨rfl, hb5⟩
  obtain ⟨V6, hs6, ha6, hx6, hb6⟩ := acting (HA.out.after hb5) A
  have HVN : Hid (W2.heap.size < V3.heap.size) := HB3.out
  have hlo : ∀ B X, Below B X V4 → B ≤ V3.heap.size → Below B X V6 := fun B X h1 h2 => hb6 B X (h1.trans (hb5.mono (Nat.le_trans h2 HV34.out.size))) h2
  have hcc : BoxC V6 (w.heap.size + 1) c := (hx6 _ (by have := HNE.out; have := HVN.out; omega)).trans (HC.out.after hb5)
  obtain ⟨c0, -⟩ := hcc.cells
  have hr6 : BoxR V6 (w.heap.size + 1 + 1) r := (hx6 _ (by have := HNE.out; have := HVN.out; omega)).trans (HR.out.after hb5)
  obtain ⟨r0, r1, r3⟩ := hr6.cells
  have ho6 : BoxA V6 (w.heap.size + 1 + 1 + 1) nothing := (hx6 _ (by have := HNE.out; have := HVN.out; omega)).trans (HO.out.after hb5)
  have hbb : BoxO V6 W2.heap.size p := (hx6 _ (by have := HVN.out; omega)).trans (HB.out.after hb5)
  have hw6 := hlo _ _ HW.out (by have := HNE.out; have := HVN.out; omega)
  have hu6 := (HU3.out.after (hlo _ _ HV34.out (Nat.le_refl _)))
  have ht6 := HT0.out.after hw6
  have a0 := ha6.kind
  have hca := ha6.callAt
  have HC := Lib.hid hcc
  replace HR := Lib.hid hr6
  replace HO := Lib.hid ho6
  replace HB := Lib.hid hbb
  replace HW := Lib.hid hw6
  have HU6 := Lib.hid hu6
  replace HTV := Lib.hid ht6
  clear HD hb5 ha6 hx6 hb6 hlo hr6 ho6 hbb hw6 hu6 ht6 HQ HUU HU3 HT0 HV34 HA k0 k1 hs3 hs4 HB3 HVN
  have e3 : (A.act == 3) = true := by simpa using hA
  have e3' : (A.act != 3) = false := by simpa using hA
  have hne := HNA.out
  clear hA HNA
  have h9 := HFh9.out
  clear HFh9
  have e9 : (r.err == 9) = true := by simpa using h9
  have HVV : Hid (x = writeA { p with num := up ver }) := HXX.out.symm.trans (if_pos h9)
  clear h9 HXX HU6 HTV
  have g18 := HB.out.free 18
  have b18 := HB.out.c18
  go_upto_region 13 with (first | (refine wpList_skip rfl (hs6 rfl rfl rfl) ?_) | (refine wpList_got rfl (load_callAt hca rfl rfl) ?_) | (refine wpList_got rfl (load_call hcc rfl rfl) ?_) | (refine wpList_got rfl (exec_neq_at hne rfl rfl rfl) ?_))
  refine wp_gen (fun V => BoxO V (W2.heap.size) { p with num := up ver } ∧ BoxA V (w.heap.size + 1 + 1 + 1) nothing ∧ Below w.heap.size w V) ⟨(HB.out.s18 (up ver)), ((heap_setCell_other _ ⟨W2.heap.size, 18, none⟩ (w.heap.size + 1 + 1 + 1) _ (by have := HNE.out; show w.heap.size + 1 + 1 + 1 ≠ W2.heap.size; omega)).trans HO.out), (HW.out.setCell (by have := HNE.out; show w.heap.size ≤ W2.heap.size; omega) _)⟩ ?_
  clear HB HO HW g18 b18 HR HC
  rintro V6 ⟨hbx, ho, hlw⟩
  have HO := Lib.hid ho
  have HW := Lib.hid hlw
  clear ho hlw
  clear a0 hca hcc c0 r0 r1 r3 hs6 hne e3 e3' e9
  have HCA := Lib.hid (rwrite_any { p with num := up ver } V6)
  go_wp2_with (first | ((with_reducible refine wpList_load_obj ?_ rfl ?_ hbx ?_); rfl; rfl))
  refine HCA.out.mono ?_
  rintro e W7 ⟨rfl, hb7⟩
  obtain ⟨V8, hst8, ho8, -, hb8⟩ := acting (HO.out.after hb7) (writeA { p with num := up ver })
  have HO8 := Lib.hid ho8
  have HX8 := Lib.hid (hb8 _ _ (HW.out.trans (hb7.mono HW.out.size)) (by omega))
  clear ho8 hb8 HCA HO HW hb7 hbx
  go_wp2_with (refine wpList_skip rfl (hst8 rfl rfl rfl) ?_)
  refine bodyPost_ret (v := encA (writeA { p with num := up ver })) (results_cell_row rfl _ _ (w.heap.size + 1 + 1 + 1) 36 (cellsA (writeA { p with num := up ver })) (0, 0) _ rfl HO8.out undAct rfl sizeAct) rfl ?_
  exact ⟨by rw [HVV.out], HX8.out⟩
end Go.Proofs.YtfpdchabknoklaaDoor.O.B
