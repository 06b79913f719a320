/- The document's After: of a claim that is there (back_some). -/
import Derived.Test.YtfpdchabknoklaaDoorBAf
import Derived.Test.YtfpdchabknoklaaDoorKOut
namespace Go.Proofs.YtfpdchabknoklaaDoor.O.B
open Go Go.RowKit Go.Shelf Go.Lib RangeMap KM
attribute [local go_sem] Oper.semAt_some

set_option maxRecDepth 100000 in
set_option maxHeartbeats 8000000 in
theorem rafC_made_none (l : List Obj) (v : Value) (ver : Int) (n : ByteArray) (c : Cl) (r : Rs) (w : World) (hl : ObjsIn w v l) (hlen : l.length < 100000) (ht : Tab w) (hall : ∀ s ∈ l, (0 ≤ s.born ∧ s.born ≤ 18446744073709551615) ∧ s.name.size ≤ 140737488351232) (p : Obj) (hg : getL l 3 n = some p) (he : claimN l ver n = askA c) (h9 : ¬ r.err = 9) (v2 : ¬ c.verb = 2) (h13 : ¬ r.err = 13) (hgc : getL l 1 p.cls = none) (h0 : r.err = 0) :
    Calls Tryd.prog 12 #[v, .int .u64 ver, encK 3 n, encC c, encR r] w fun e w' => e = .returned (encA (afterB l ver 3 n c r)) ∧ Below w.heap.size w w' := by
  obtain ⟨o, cp, rfl, -, -⟩ := id hl
  have HL := Lib.hid hl
  have HT := Lib.hid ht
  have HUN := Lib.hid (fun V (hV : ObjsIn V (.slice o l.length cp) l) => uniq_any l _ V hV hlen)
  have hul : (uniqL l).length < 100000 := Nat.lt_of_le_of_lt (uniq_len l) hlen
  have HGG := Lib.hid (fun (V : World) (u : Value) (hV : ObjsIn V u (uniqL l)) => show Calls _ _ _ V (fun e w' => e = .returned (.tuple #[encO ((getL l 3 n).getD O0), .bool (getL l 3 n).isSome]) ∧ Below V.heap.size V w') by rw [← uniq_get l 3 n]; exact rget_any (uniqL l) u 3 n V hV)
  have HCC := Lib.hid (fun (V : World) (u : Value) (hV : ObjsIn V u (uniqL l)) (hT : Tab V) => show Calls _ _ _ V (fun e w' => e = .returned (encA (claimN l ver n)) ∧ Below V.heap.size V w') by rw [← claimN_uniq l ver n]; exact rclaim_any (uniqL l) u ver n V hV hul hT (fun s hs => hall s (uniq_mem hs)))
  obtain ⟨x, hx⟩ : ∃ x, afterB l ver 3 n c r = x := ⟨_, rfl⟩
  rw [hx]
  rw [after_claim] at hx
  have hf : forN l 3 n = p := by unfold forN; rw [hg]; rfl
  rw [hf] at hx
  rw [hg] at HGG
  rw [if_pos he] at hx
  have hA : (claimN l ver n).act = 3 := by rw [he]; rfl
  have hne0 : (claimN l ver n).call = c := by rw [he]; rfl
  have HNA := Lib.hid hne0
  unfold docB at hx
  have hpb := hall p (List.mem_of_find?_eq_some hg)
  have HFF := Lib.hid (fun V (hV : Tab V) => rref_any p V hV hpb.1 hpb.2)
  obtain ⟨f, hff⟩ : ∃ f, refN p = f := ⟨_, rfl⟩
  rw [hff] at HFF
  have HRF := Lib.hid hff
  obtain ⟨tg, htg⟩ : ∃ tg, c.target = tg := ⟨_, rfl⟩
  have HTG := Lib.hid htg
  have HGX := Lib.hid (fun (V : World) (u : Value) (hV : ObjsIn V u (uniqL l)) => show Calls _ _ _ V (fun e w' => e = .returned (.tuple #[encO ((getL l 1 p.cls).getD O0), .bool (getL l 1 p.cls).isSome]) ∧ Below V.heap.size V w') by rw [← uniq_get l 1 p.cls]; exact rget_any (uniqL l) u 1 p.cls V hV)
  rw [hgc] at HGX
  have hkc : clsN l p = O0 := by unfold clsN; rw [hgc]; rfl
  rw [hkc] at hx
  have HFh9 := Lib.hid h9
  clear h9
  have HFv2 := Lib.hid v2
  clear v2
  have HFh13 := Lib.hid h13
  clear h13
  have HFh0 := Lib.hid h0
  clear h0
  generalize claimN l ver n = A at *
  generalize uniqL l = L at *
  have HXX := Lib.hid hx
  clear hx hg hf he hne0 hpb hff htg hgc hkc
  clear hl ht hlen hall hul
  have HKE : Hid (encK 3 n = .agg #[.int .u8 3, .string n]) := rfl
  unfold encR
  rw [show encC c = .agg (cellsC c) from rfl, HKE.out]
  unfold cellsC
  go_enter Tryd.func12, Tryd.ntmps12
  go_upto_region 1 with (fail)
  refine wp_gen (fun V => BoxK V w.heap.size 3 n ∧ BoxC V (w.heap.size + 1) c ∧ BoxR V (w.heap.size + 1 + 1) r ∧ BoxA V (w.heap.size + 1 + 1 + 1) nothing ∧ Below w.heap.size w V) (chain4 w _ _ _ _) ?_
  rintro V ⟨hk, hc, hr, ho, hlw⟩
  have HU := Lib.hid (HUN.out V (HL.out.after hlw))
  have HQ := Lib.hid hk
  have HC := Lib.hid hc
  have HR := Lib.hid hr
  have HO := Lib.hid ho
  have HW := Lib.hid hlw
  clear hk hc hr ho hlw HUN HL HKE
  go_wp2_with (fail)
  refine HU.out.mono ?_
  rintro e W1 ⟨u, rfl, hu, hb1⟩
  obtain ⟨o1, c1, rfl, -, -⟩ := id hu
  have HUU := Lib.hid hu
  have hlw := HW.out.trans (hb1.mono HW.out.size)
  have hq1 := HQ.out.after hb1
  obtain ⟨k0, k1⟩ := hq1.cells
  replace HQ := Lib.hid hq1
  replace HC := Lib.hid (HC.out.after hb1)
  replace HR := Lib.hid (HR.out.after hb1)
  replace HO := Lib.hid (HO.out.after hb1)
  replace HW := Lib.hid hlw
  have HD := Lib.hid (HGG.out W1 _ hu)
  clear HU hu hb1 hlw hq1 HGG
  go_wp2_with (fail)
  refine HD.out.mono ?_
  rintro e W2 ⟨rfl, hb2⟩
  obtain ⟨V3, hs3, hk3, hb3, -⟩ := boxing W2 p
  have HNE : Hid (w.heap.size + 1 + 1 + 1 < W2.heap.size) := Nat.lt_of_lt_of_le HO.out.lt hb2.size
  have hw2 := HW.out.trans (hb2.mono HW.out.size)
  obtain ⟨V4, hs4, ha4, -, hb4⟩ := acting (show BoxA (V3.alloc (.cells (cellsA nothing) 36 (0, 0))) V3.heap.size nothing from heap_alloc_new _ _) nothing
  have hbel : Below V3.heap.size V3 V4 := hb4 _ _ ((Below.refl _ _).alloc (Nat.le_refl _) _) (Nat.le_refl _)
  have hb5 := hb3.trans (hbel.mono hb3.size)
  have hu2 := HUU.out.after hb2
  have hq4 := (HQ.out.after hb2).after hb5
  replace HQ := Lib.hid hq4
  replace HC := Lib.hid ((HC.out.after hb2).after hb5)
  replace HR := Lib.hid ((HR.out.after hb2).after hb5)
  replace HO := Lib.hid ((HO.out.after hb2).after hb5)
  replace HUU := Lib.hid ((HUU.out.after hb2).after hb5)
  replace HW := Lib.hid (hw2.trans (hb5.mono hw2.size))
  have HB := Lib.hid (hk3.after hbel)
  have HA := Lib.hid ha4
  have HTV := Lib.hid (HT.out.after HW.out)
  have HT0 := Lib.hid HT.out
  have HU3 := Lib.hid ((hu2 : ObjsIn W2 _ L).after hb3)
  have HV34 := Lib.hid hbel
  have HB3 : Hid (W2.heap.size < V3.heap.size) := hk3.lt
  clear k0 k1
  obtain ⟨k0, k1⟩ := hq4.cells
  clear HD hb2 hk3 hb3 hu2 hw2 ha4 hb4 hbel hb5 hq4 HT
  have HD := Lib.hid (HCC.out V4 _ HUU.out HTV.out)
  clear HCC
  go_wp2_with (first | (refine wpList_skip rfl (hs3 rfl rfl rfl) ?_) | (refine wpList_skip rfl (hs4 rfl rfl rfl) ?_) | ((with_reducible refine wpList_build_to rfl 36 _ rfl (cellsA nothing) ?_ ?_); exact built_act0'))
  refine HD.out.mono ?_
  rintro e W5 ⟨rfl, hb5⟩
  obtain ⟨V6, hs6, ha6, hx6, hb6⟩ := acting (HA.out.after hb5) A
  have HVN : Hid (W2.heap.size < V3.heap.size) := HB3.out
  have hlo : ∀ B X, Below B X V4 → B ≤ V3.heap.size → Below B X V6 := fun B X h1 h2 => hb6 B X (h1.trans (hb5.mono (Nat.le_trans h2 HV34.out.size))) h2
  have hcc : BoxC V6 (w.heap.size + 1) c := (hx6 _ (by have := HNE.out; have := HVN.out; omega)).trans (HC.out.after hb5)
  obtain ⟨c0, -⟩ := hcc.cells
  have hr6 : BoxR V6 (w.heap.size + 1 + 1) r := (hx6 _ (by have := HNE.out; have := HVN.out; omega)).trans (HR.out.after hb5)
  obtain ⟨r0, r1, r3⟩ := hr6.cells
  have ho6 : BoxA V6 (w.heap.size + 1 + 1 + 1) nothing := (hx6 _ (by have := HNE.out; have := HVN.out; omega)).trans (HO.out.after hb5)
  have hbb : BoxO V6 W2.heap.size p := (hx6 _ (by have := HVN.out; omega)).trans (HB.out.after hb5)
  have hw6 := hlo _ _ HW.out (by have := HNE.out; have := HVN.out; omega)
  have hu6 := (HU3.out.after (hlo _ _ HV34.out (Nat.le_refl _)))
  have ht6 := HT0.out.after hw6
  have a0 := ha6.kind
  have hca := ha6.callAt
  have HC := Lib.hid hcc
  replace HR := Lib.hid hr6
  replace HO := Lib.hid ho6
  replace HB := Lib.hid hbb
  replace HW := Lib.hid hw6
  have HU6 := Lib.hid hu6
  replace HTV := Lib.hid ht6
  clear HD hb5 ha6 hx6 hb6 hlo hr6 ho6 hbb hw6 hu6 ht6 HQ HUU HU3 HT0 HV34 HA k0 k1 hs3 hs4 HB3 HVN
  have e3 : (A.act == 3) = true := by simpa using hA
  have e3' : (A.act != 3) = false := by simpa using hA
  have hne := HNA.out
  clear hA HNA
  have h9 := HFh9.out
  have v2 := HFv2.out
  have h13 := HFh13.out
  have h0 := HFh0.out
  clear HFh9 HFv2 HFh13 HFh0
  have e9 : (r.err == 9) = false := by simpa using h9
  have e2 : (c.verb == 2) = false := by simpa using v2
  have HX3 := Lib.hid (HXX.out.symm.trans ((if_neg h9).trans (if_neg v2)))
  clear h9 v2 HXX
  have e13 : (r.err == 13) = false := by simpa using h13
  have HX4 := Lib.hid ((if_neg h13).symm.trans HX3.out.symm)
  clear h13 HX3
  have n6 := HB.out.c6
  have HGV := Lib.hid (HGX.out V6 _ HU6.out)
  simp only [Option.getD_none, Option.isSome_none] at HGV
  clear HGX HU6
  go_wp2_with (first | (refine wpList_skip rfl (hs6 rfl rfl rfl) ?_) | (refine wpList_got rfl (load_callAt hca rfl rfl) ?_) | (refine wpList_got rfl (load_call hcc rfl rfl) ?_) | (refine wpList_got rfl (exec_neq_at hne rfl rfl rfl) ?_))
  refine HGV.out.mono ?_
  rintro e W7 ⟨rfl, hb7⟩
  clear r0 r1 r3 e9 e13
  obtain ⟨V7, hs7, hk7, hb8, -⟩ := boxing W7 O0
  have hw7 := HW.out.trans (hb7.mono HW.out.size)
  have hr7 := (HR.out.after hb7).after hb8
  obtain ⟨r0, r1, -⟩ := hr7.cells
  have HNX : Hid (W2.heap.size < W7.heap.size) := Nat.lt_of_lt_of_le HB.out.lt hb7.size
  replace HR := Lib.hid hr7
  replace HC := Lib.hid ((HC.out.after hb7).after hb8)
  replace HB := Lib.hid ((HB.out.after hb7).after hb8)
  replace HO := Lib.hid ((HO.out.after hb7).after hb8)
  replace HW := Lib.hid (hw7.trans (hb8.mono hw7.size))
  have HK := Lib.hid hk7
  replace HTV := Lib.hid ((HTV.out.after hb7).after hb8)
  clear HGV hb7 hk7 hb8 hw7 hr7 hca hcc hs6 a0 e3 e3' c0 e2
  have e0 : (r.err == 0) = true := by simpa using h0
  obtain ⟨q, hq⟩ : ∃ q, (⟨4, tg, 0, 0, false, false, p.cls, p.size, r.size, p.mode, false, false, r.zone, E0, f, E0, E0, 3, 0, 0⟩ : Obj) = q := ⟨_, rfl⟩
  have HVV : Hid (x = writeA (defO q)) := by
    show _ = _
    rw [HX4.out.symm.trans (if_pos h0)]
    unfold rawN
    rw [HRF.out, HTG.out, show O0.keep = false from rfl, hq]
  have HDD := Lib.hid (fun V => rdefault_any q V (by rw [← hq]) (by rw [← hq]))
  have HQQ := Lib.hid hq
  obtain ⟨z, hz⟩ : ∃ z, defO q = z := ⟨_, rfl⟩
  rw [hz] at HDD HVV
  have HWW := Lib.hid (fun V => rwrite_any z V)
  clear h0 HX4 hq hz
  go_upto_region 20 with (refine wpList_skip rfl (hs7 rfl rfl rfl) ?_)
  clear hs7 r0 r1 e0
  replace HO := Lib.hid (⟨_, HO.out⟩ : AnyA _ (w.heap.size + 1 + 1 + 1))
  refine wp_region_held_drew (S := fun V => BoxO V W2.heap.size p ∧ BoxC V (w.heap.size + 1) c ∧ BoxR V (w.heap.size + 1 + 1) r ∧ BoxO V W7.heap.size O0 ∧ AnyA V (w.heap.size + 1 + 1 + 1) ∧ Below w.heap.size w V ∧ Tab V) (by kernel_rfl) ⟨HB.out, HC.out, HR.out, HK.out, HO.out, HW.out.drew, HTV.out.drew⟩ (fun _ => ?_)
  refine HeldBy.gen (fun V => BoxO V W2.heap.size p ∧ BoxC V (w.heap.size + 1) c ∧ BoxR V (w.heap.size + 1 + 1) r ∧ BoxO V W7.heap.size O0 ∧ AnyA V (w.heap.size + 1 + 1 + 1) ∧ Below w.heap.size w V ∧ Tab V) ⟨HB.out, HC.out, HR.out, HK.out, HO.out, HW.out.drew, HTV.out.drew⟩ ?_
  clear HB HC HR HK HO HW HTV
  rintro U0 HS
  refine HeldBy.take (i := 0) rfl (by kernel_rfl) (by kernel_rfl) (by kernel_rfl) (fun _ _ _ h => h) (by rfl) (fun _ _ => by first | (go_simp; rfl) | (go_simp; done)) (by go_simp; rfl) HS ?_
  refine HeldBy.take (i := 1) (v := .string tg) rfl (by kernel_rfl) (by kernel_rfl) (by kernel_rfl) (fun _ _ _ h => h) (by rfl) (fun V hV => by have h1 := hV.2.1.cells.2; rw [HTG.out] at h1; first | (go_simp; rfl) | (go_simp; done)) (by go_simp; rfl) HS ?_
  refine HeldBy.take (i := 2) rfl (by kernel_rfl) (by kernel_rfl) (by kernel_rfl) (fun _ _ _ h => h) (by rfl) (fun _ _ => by first | (go_simp; rfl) | (go_simp; done)) (by go_simp; rfl) HS ?_
  refine HeldBy.take (i := 3) rfl (by kernel_rfl) (by kernel_rfl) (by kernel_rfl) (fun _ _ _ h => h) (by rfl) (fun V hV => by have hc := hV.1.c6; first | (go_simp; rfl) | (go_simp; done)) (by go_simp; rfl) HS ?_
  refine HeldBy.take (i := 4) rfl (by kernel_rfl) (by kernel_rfl) (by kernel_rfl) (fun _ _ _ h => h) (by rfl) (fun _ _ => by first | (go_simp; rfl) | (go_simp; done)) (by go_simp; rfl) HS ?_
  refine HeldBy.take (i := 5) rfl (by kernel_rfl) (by kernel_rfl) (by kernel_rfl) (fun _ _ _ h => h) (by rfl) (fun V hV => by have hc := hV.1.c7; first | (go_simp; rfl) | (go_simp; done)) (by go_simp; rfl) HS ?_
  refine HeldBy.take (i := 6) rfl (by kernel_rfl) (by kernel_rfl) (by kernel_rfl) (fun _ _ _ h => h) (by rfl) (fun _ _ => by first | (go_simp; rfl) | (go_simp; done)) (by go_simp; rfl) HS ?_
  refine HeldBy.take (i := 7) (v := .int .i64 r.size) rfl (by kernel_rfl) (by kernel_rfl) (by kernel_rfl) (fun _ _ _ h => h) (by rfl) (fun V hV => by have h1 := hV.2.2.1.cells.2.1; first | (go_simp; rfl) | (go_simp; done)) (by go_simp; rfl) HS ?_
  refine HeldBy.take (i := 8) rfl (by kernel_rfl) (by kernel_rfl) (by kernel_rfl) (fun _ _ _ h => h) (by rfl) (fun _ _ => by first | (go_simp; rfl) | (go_simp; done)) (by go_simp; rfl) HS ?_
  refine HeldBy.take (i := 9) rfl (by kernel_rfl) (by kernel_rfl) (by kernel_rfl) (fun _ _ _ h => h) (by rfl) (fun V hV => by have hc := hV.1.c9; first | (go_simp; rfl) | (go_simp; done)) (by go_simp; rfl) HS ?_
  refine HeldBy.take (i := 10) rfl (by kernel_rfl) (by kernel_rfl) (by kernel_rfl) (fun _ _ _ h => h) (by rfl) (fun _ _ => by first | (go_simp; rfl) | (go_simp; done)) (by go_simp; rfl) HS ?_
  refine HeldBy.take (i := 11) rfl (by kernel_rfl) (by kernel_rfl) (by kernel_rfl) (fun _ _ _ h => h) (by rfl) (fun _ _ => by first | (go_simp; rfl) | (go_simp; done)) (by go_simp; rfl) HS ?_
  refine HeldBy.skip (i := 12) rfl (by kernel_rfl) (by kernel_rfl) (by kernel_rfl) (fun _ _ _ h => h) (by rfl) (by go_simp; rfl) HS ?_
  refine HeldBy.skip (i := 13) rfl (by kernel_rfl) (by kernel_rfl) (by kernel_rfl) (fun _ _ _ h => h) (by rfl) (by go_simp; rfl) HS ?_
  refine HeldBy.take (i := 14) rfl (by kernel_rfl) (by kernel_rfl) (by kernel_rfl) (fun _ _ _ h => h) (by rfl) (fun _ _ => by first | (go_simp; rfl) | (go_simp; done)) (by go_simp; rfl) HS ?_
  refine HeldBy.take (i := 15) rfl (by kernel_rfl) (by kernel_rfl) (by kernel_rfl) (fun _ _ _ h => h) (by rfl) (fun _ _ => by first | (go_simp; rfl) | (go_simp; done)) (by go_simp; rfl) HS ?_
  refine HeldBy.take (i := 16) (v := .string r.zone) rfl (by kernel_rfl) (by kernel_rfl) (by kernel_rfl) (fun _ _ _ h => h) (by rfl) (fun V hV => by have h1 := hV.2.2.1.zone; first | (go_simp; rfl) | (go_simp; done)) (by go_simp; rfl) HS ?_
  refine HeldBy.take (i := 17) (v := encO p) rfl (by kernel_rfl) (by kernel_rfl) (by kernel_rfl) (fun _ _ _ h => h) (by rfl) (fun V hV => load_obj hV.1 rfl rfl) (by go_simp; rfl) HS ?_
  have HSS : ∀ w', Below U0.heap.size U0 w' → (BoxO w' W2.heap.size p ∧ BoxC w' (w.heap.size + 1) c ∧ BoxR w' (w.heap.size + 1 + 1) r ∧ BoxO w' W7.heap.size O0 ∧ AnyA w' (w.heap.size + 1 + 1 + 1) ∧ Below w.heap.size w w' ∧ Tab w') := fun w' hb => ⟨HS.1.after hb, HS.2.1.after hb, HS.2.2.1.after hb, HS.2.2.2.1.after hb, HS.2.2.2.2.1.after hb, HS.2.2.2.2.2.1.trans (hb.mono HS.2.2.2.2.2.1.size), HS.2.2.2.2.2.2.after hb⟩
  refine HeldBy.Goes.without (w0 := U0) (k := 20) (dk := some 17) (x := .cells (cellsO O0) 31 (0, 0)) ?_ U0 (Below.refl _ _)
  refine HeldBy.Goes.callS (i := 18) (v := .string f) rfl rfl rfl rfl (makes_o rfl) rfl (by kernel_rfl) (by kernel_rfl) rfl (by decide) (by kernel_rfl) (by intro w; first | (go_simp; done) | (go_simp; first | exact ⟨rfl, rfl⟩ | rfl)) (by first | (go_simp; rfl) | (go_simp; done)) HSS (fun _ HS => HFF.out _ HS.2.2.2.2.2.2) ?_
  refine HeldBy.Goes.take (i := 19) (v := encO q) rfl (by kernel_rfl) rfl (by kernel_rfl) (by kernel_rfl) (by kernel_rfl) (by kernel_rfl) (fun _ _ _ h => h) rfl (by decide) (by kernel_rfl) (fun _ _ => by have hq := HQQ.out; subst hq; exact exec_build 31 _ rfl _ (by exact built_raw tg f p.cls r.zone p.size r.size p.mode false)) (by first | (go_simp; rfl) | (go_simp; done)) HSS ?_
  refine HeldBy.Goes.nil rfl rfl (by kernel_rfl) rfl (makes_o rfl) HSS rfl (fun p => by unfold HeldBy.ptr; go_simp; rfl) ?_
  intro pt U1 hp hb hn
  obtain ⟨V9, hst9, hd9, hoth9, hbl9⟩ := storing (show BoxO U1 pt O0 from hn) q
  have hbel : Below U0.heap.size U0 V9 := hbl9 _ _ hb hp
  have HS9 : BoxO V9 W2.heap.size p ∧ BoxC V9 (w.heap.size + 1) c ∧ BoxR V9 (w.heap.size + 1 + 1) r ∧ BoxO V9 W7.heap.size O0 ∧ AnyA V9 (w.heap.size + 1 + 1 + 1) ∧ Below w.heap.size w V9 ∧ Tab V9 := HSS _ hbel
  refine HeldBy.store (i := 21) (w' := V9) rfl (by kernel_rfl) (by rfl) (hst9 rfl rfl rfl) (by first | (go_simp; rfl) | (go_simp; done)) HS9 ?_
  refine wpAnyH_done (by kernel_rfl) ?_ _
  have hbx := hd9
  obtain ⟨a9, ho9⟩ := HS9.2.2.2.2.1
  have HO := Lib.hid ho9
  have HW := Lib.hid HS9.2.2.2.2.2.1
  have HDV := Lib.hid (HDD.out V9)
  clear hst9 hd9 hoth9 hbl9 hbel HS9 HSS HS hp hb hn ho9 HDD
  go_wp2_with ((with_reducible refine wpList_load_obj ?_ rfl ?_ hbx ?_); rfl; rfl)
  refine HDV.out.mono ?_
  rintro e W10 ⟨rfl, hb10⟩
  have HO6 := Lib.hid (HO.out.after hb10)
  have HW6 := Lib.hid (HW.out.trans (hb10.mono HW.out.size))
  clear hb10 HDV HO HW hbx
  go_wp2_with (fail)
  refine (HWW.out _).mono ?_
  rintro e W11 ⟨rfl, hb11⟩
  obtain ⟨V8, hst8, ho8, -, hb8⟩ := acting (HO6.out.after hb11) (writeA z)
  have HO8 := Lib.hid ho8
  have HX8 := Lib.hid (hb8 _ _ (HW6.out.trans (hb11.mono HW6.out.size)) (by omega))
  clear ho8 hb8 HWW HO6 HW6 hb11
  go_wp2_with (refine wpList_skip rfl (hst8 rfl rfl rfl) ?_)
  refine bodyPost_ret (v := encA (writeA z)) (results_cell_row rfl _ _ (w.heap.size + 1 + 1 + 1) 36 (cellsA (writeA z)) (0, 0) _ rfl HO8.out undAct rfl sizeAct) rfl ?_
  exact ⟨by rw [HVV.out], HX8.out⟩
set_option maxRecDepth 100000 in
set_option maxHeartbeats 8000000 in
theorem rafC_back_none (l : List Obj) (v : Value) (ver : Int) (n : ByteArray) (c : Cl) (r : Rs) (w : World) (hl : ObjsIn w v l) (hlen : l.length < 100000) (ht : Tab w) (hall : ∀ s ∈ l, (0 ≤ s.born ∧ s.born ≤ 18446744073709551615) ∧ s.name.size ≤ 140737488351232) (p : Obj) (hg : getL l 3 n = some p) (he : claimN l ver n = askA c) (h9 : ¬ r.err = 9) (v2 : ¬ c.verb = 2) (h13 : ¬ r.err = 13) (hgc : getL l 1 p.cls = none) (h0 : ¬ r.err = 0) :
    Calls Tryd.prog 12 #[v, .int .u64 ver, encK 3 n, encC c, encR r] w fun e w' => e = .returned (encA (afterB l ver 3 n c r)) ∧ Below w.heap.size w w' := by
  obtain ⟨o, cp, rfl, -, -⟩ := id hl
  have HL := Lib.hid hl
  have HT := Lib.hid ht
  have HUN := Lib.hid (fun V (hV : ObjsIn V (.slice o l.length cp) l) => uniq_any l _ V hV hlen)
  have hul : (uniqL l).length < 100000 := Nat.lt_of_le_of_lt (uniq_len l) hlen
  have HGG := Lib.hid (fun (V : World) (u : Value) (hV : ObjsIn V u (uniqL l)) => show Calls _ _ _ V (fun e w' => e = .returned (.tuple #[encO ((getL l 3 n).getD O0), .bool (getL l 3 n).isSome]) ∧ Below V.heap.size V w') by rw [← uniq_get l 3 n]; exact rget_any (uniqL l) u 3 n V hV)
  have HCC := Lib.hid (fun (V : World) (u : Value) (hV : ObjsIn V u (uniqL l)) (hT : Tab V) => show Calls _ _ _ V (fun e w' => e = .returned (encA (claimN l ver n)) ∧ Below V.heap.size V w') by rw [← claimN_uniq l ver n]; exact rclaim_any (uniqL l) u ver n V hV hul hT (fun s hs => hall s (uniq_mem hs)))
  obtain ⟨x, hx⟩ : ∃ x, afterB l ver 3 n c r = x := ⟨_, rfl⟩
  rw [hx]
  rw [after_claim] at hx
  have hf : forN l 3 n = p := by unfold forN; rw [hg]; rfl
  rw [hf] at hx
  rw [hg] at HGG
  rw [if_pos he] at hx
  have hA : (claimN l ver n).act = 3 := by rw [he]; rfl
  have hne0 : (claimN l ver n).call = c := by rw [he]; rfl
  have HNA := Lib.hid hne0
  unfold docB at hx
  have hpb := hall p (List.mem_of_find?_eq_some hg)
  have HFF := Lib.hid (fun V (hV : Tab V) => rref_any p V hV hpb.1 hpb.2)
  obtain ⟨f, hff⟩ : ∃ f, refN p = f := ⟨_, rfl⟩
  rw [hff] at HFF
  have HRF := Lib.hid hff
  obtain ⟨tg, htg⟩ : ∃ tg, c.target = tg := ⟨_, rfl⟩
  have HTG := Lib.hid htg
  have HGX := Lib.hid (fun (V : World) (u : Value) (hV : ObjsIn V u (uniqL l)) => show Calls _ _ _ V (fun e w' => e = .returned (.tuple #[encO ((getL l 1 p.cls).getD O0), .bool (getL l 1 p.cls).isSome]) ∧ Below V.heap.size V w') by rw [← uniq_get l 1 p.cls]; exact rget_any (uniqL l) u 1 p.cls V hV)
  rw [hgc] at HGX
  have hkc : clsN l p = O0 := by unfold clsN; rw [hgc]; rfl
  rw [hkc] at hx
  have HFh9 := Lib.hid h9
  clear h9
  have HFv2 := Lib.hid v2
  clear v2
  have HFh13 := Lib.hid h13
  clear h13
  have HFh0 := Lib.hid h0
  clear h0
  generalize claimN l ver n = A at *
  generalize uniqL l = L at *
  have HXX := Lib.hid hx
  clear hx hg hf he hne0 hpb hff htg hgc hkc
  clear hl ht hlen hall hul
  have HKE : Hid (encK 3 n = .agg #[.int .u8 3, .string n]) := rfl
  unfold encR
  rw [show encC c = .agg (cellsC c) from rfl, HKE.out]
  unfold cellsC
  go_enter Tryd.func12, Tryd.ntmps12
  go_upto_region 1 with (fail)
  refine wp_gen (fun V => BoxK V w.heap.size 3 n ∧ BoxC V (w.heap.size + 1) c ∧ BoxR V (w.heap.size + 1 + 1) r ∧ BoxA V (w.heap.size + 1 + 1 + 1) nothing ∧ Below w.heap.size w V) (chain4 w _ _ _ _) ?_
  rintro V ⟨hk, hc, hr, ho, hlw⟩
  have HU := Lib.hid (HUN.out V (HL.out.after hlw))
  have HQ := Lib.hid hk
  have HC := Lib.hid hc
  have HR := Lib.hid hr
  have HO := Lib.hid ho
  have HW := Lib.hid hlw
  clear hk hc hr ho hlw HUN HL HKE
  go_wp2_with (fail)
  refine HU.out.mono ?_
  rintro e W1 ⟨u, rfl, hu, hb1⟩
  obtain ⟨o1, c1, rfl, -, -⟩ := id hu
  have HUU := Lib.hid hu
  have hlw := HW.out.trans (hb1.mono HW.out.size)
  have hq1 := HQ.out.after hb1
  obtain ⟨k0, k1⟩ := hq1.cells
  replace HQ := Lib.hid hq1
  replace HC := Lib.hid (HC.out.after hb1)
  replace HR := Lib.hid (HR.out.after hb1)
  replace HO := Lib.hid (HO.out.after hb1)
  replace HW := Lib.hid hlw
  have HD := Lib.hid (HGG.out W1 _ hu)
  clear HU hu hb1 hlw hq1 HGG
  go_wp2_with (fail)
  refine HD.out.mono ?_
  rintro e W2 ⟨rfl, hb2⟩
  obtain ⟨V3, hs3, hk3, hb3, -⟩ := boxing W2 p
  have HNE : Hid (w.heap.size + 1 + 1 + 1 < W2.heap.size) := Nat.lt_of_lt_of_le HO.out.lt hb2.size
  have hw2 := HW.out.trans (hb2.mono HW.out.size)
  obtain ⟨V4, hs4, ha4, -, hb4⟩ := acting (show BoxA (V3.alloc (.cells (cellsA nothing) 36 (0, 0))) V3.heap.size nothing from heap_alloc_new _ _) nothing
  have hbel : Below V3.heap.size V3 V4 := hb4 _ _ ((Below.refl _ _).alloc (Nat.le_refl _) _) (Nat.le_refl _)
  have hb5 := hb3.trans (hbel.mono hb3.size)
  have hu2 := HUU.out.after hb2
  have hq4 := (HQ.out.after hb2).after hb5
  replace HQ := Lib.hid hq4
  replace HC := Lib.hid ((HC.out.after hb2).after hb5)
  replace HR := Lib.hid ((HR.out.after hb2).after hb5)
  replace HO := Lib.hid ((HO.out.after hb2).after hb5)
  replace HUU := Lib.hid ((HUU.out.after hb2).after hb5)
  replace HW := Lib.hid (hw2.trans (hb5.mono hw2.size))
  have HB := Lib.hid (hk3.after hbel)
  have HA := Lib.hid ha4
  have HTV := Lib.hid (HT.out.after HW.out)
  have HT0 := Lib.hid HT.out
  have HU3 := Lib.hid ((hu2 : ObjsIn W2 _ L).after hb3)
  have HV34 := Lib.hid hbel
  have HB3 : Hid (W2.heap.size < V3.heap.size) := hk3.lt
  clear k0 k1
  obtain ⟨k0, k1⟩ := hq4.cells
  clear HD hb2 hk3 hb3 hu2 hw2 ha4 hb4 hbel hb5 hq4 HT
  have HD := Lib.hid (HCC.out V4 _ HUU.out HTV.out)
  clear HCC
  go_wp2_with (first | (refine wpList_skip rfl (hs3 rfl rfl rfl) ?_) | (refine wpList_skip rfl (hs4 rfl rfl rfl) ?_) | ((with_reducible refine wpList_build_to rfl 36 _ rfl (cellsA nothing) ?_ ?_); exact built_act0'))
  refine HD.out.mono ?_
  rintro e W5 ⟨rfl, hb5⟩
  obtain ⟨V6, hs6, ha6, hx6, hb6⟩ := acting (HA.out.after hb5) A
  have HVN : Hid (W2.heap.size < V3.heap.size) := HB3.out
  have hlo : ∀ B X, Below B X V4 → B ≤ V3.heap.size → Below B X V6 := fun B X h1 h2 => hb6 B X (h1.trans (hb5.mono (Nat.le_trans h2 HV34.out.size))) h2
  have hcc : BoxC V6 (w.heap.size + 1) c := (hx6 _ (by have := HNE.out; have := HVN.out; omega)).trans (HC.out.after hb5)
  obtain ⟨c0, -⟩ := hcc.cells
  have hr6 : BoxR V6 (w.heap.size + 1 + 1) r := (hx6 _ (by have := HNE.out; have := HVN.out; omega)).trans (HR.out.after hb5)
  obtain ⟨r0, r1, r3⟩ := hr6.cells
  have ho6 : BoxA V6 (w.heap.size + 1 + 1 + 1) nothing := (hx6 _ (by have := HNE.out; have := HVN.out; omega)).trans (HO.out.after hb5)
  have hbb : BoxO V6 W2.heap.size p := (hx6 _ (by have := HVN.out; omega)).trans (HB.out.after hb5)
  have hw6 := hlo _ _ HW.out (by have := HNE.out; have := HVN.out; omega)
  have hu6 := (HU3.out.after (hlo _ _ HV34.out (Nat.le_refl _)))
  have ht6 := HT0.out.after hw6
  have a0 := ha6.kind
  have hca := ha6.callAt
  have HC := Lib.hid hcc
  replace HR := Lib.hid hr6
  replace HO := Lib.hid ho6
  replace HB := Lib.hid hbb
  replace HW := Lib.hid hw6
  have HU6 := Lib.hid hu6
  replace HTV := Lib.hid ht6
  clear HD hb5 ha6 hx6 hb6 hlo hr6 ho6 hbb hw6 hu6 ht6 HQ HUU HU3 HT0 HV34 HA k0 k1 hs3 hs4 HB3 HVN
  have e3 : (A.act == 3) = true := by simpa using hA
  have e3' : (A.act != 3) = false := by simpa using hA
  have hne := HNA.out
  clear hA HNA
  have h9 := HFh9.out
  have v2 := HFv2.out
  have h13 := HFh13.out
  have h0 := HFh0.out
  clear HFh9 HFv2 HFh13 HFh0
  have e9 : (r.err == 9) = false := by simpa using h9
  have e2 : (c.verb == 2) = false := by simpa using v2
  have HX3 := Lib.hid (HXX.out.symm.trans ((if_neg h9).trans (if_neg v2)))
  clear h9 v2 HXX
  have e13 : (r.err == 13) = false := by simpa using h13
  have HX4 := Lib.hid ((if_neg h13).symm.trans HX3.out.symm)
  clear h13 HX3
  have n6 := HB.out.c6
  have HGV := Lib.hid (HGX.out V6 _ HU6.out)
  simp only [Option.getD_none, Option.isSome_none] at HGV
  clear HGX HU6
  go_wp2_with (first | (refine wpList_skip rfl (hs6 rfl rfl rfl) ?_) | (refine wpList_got rfl (load_callAt hca rfl rfl) ?_) | (refine wpList_got rfl (load_call hcc rfl rfl) ?_) | (refine wpList_got rfl (exec_neq_at hne rfl rfl rfl) ?_))
  refine HGV.out.mono ?_
  rintro e W7 ⟨rfl, hb7⟩
  clear r0 r1 r3 e9 e13
  obtain ⟨V7, hs7, hk7, hb8, -⟩ := boxing W7 O0
  have hw7 := HW.out.trans (hb7.mono HW.out.size)
  have hr7 := (HR.out.after hb7).after hb8
  obtain ⟨r0, r1, -⟩ := hr7.cells
  have HNX : Hid (W2.heap.size < W7.heap.size) := Nat.lt_of_lt_of_le HB.out.lt hb7.size
  replace HR := Lib.hid hr7
  replace HC := Lib.hid ((HC.out.after hb7).after hb8)
  replace HB := Lib.hid ((HB.out.after hb7).after hb8)
  replace HO := Lib.hid ((HO.out.after hb7).after hb8)
  replace HW := Lib.hid (hw7.trans (hb8.mono hw7.size))
  have HK := Lib.hid hk7
  replace HTV := Lib.hid ((HTV.out.after hb7).after hb8)
  clear HGV hb7 hk7 hb8 hw7 hr7 hca hcc hs6 a0 e3 e3' c0 e2
  have e0 : (r.err == 0) = false := by simpa using h0
  have HX5 := Lib.hid (HX4.out.symm.trans (if_neg h0))
  clear h0 HX4 HFF HTV HC HR r1 HTG HRF
  have hwt : O0.wait = false := rfl
  have HVV : Hid (x = writeA { p with phase := 1, zone := E0, node := p.node, num := up ver }) := by show _ = _; rw [HX5.out]; unfold backN; rw [if_neg (by rw [hwt]; decide)]
  clear HX5
  have g17 := HB.out.free 17
  have b17 := HB.out.c17
  have g12 := HB.out.free 12
  have b12 := HB.out.c12
  have g18 := HB.out.free 18
  have b18 := HB.out.c18
  go_upto_region 25 with (refine wpList_skip rfl (hs7 rfl rfl rfl) ?_)
  refine wp_gen (fun V => BoxO V (W2.heap.size) { p with phase := 1, zone := E0, node := p.node, num := up ver } ∧ BoxA V (w.heap.size + 1 + 1 + 1) nothing ∧ Below w.heap.size w V) ⟨(((HB.out.s17 (1)).s12 (E0)).s18 (up ver)), ((heap_setCell_other _ ⟨W2.heap.size, 18, none⟩ (w.heap.size + 1 + 1 + 1) _ (by have := HNE.out; show w.heap.size + 1 + 1 + 1 ≠ W2.heap.size; omega)).trans ((heap_setCell_other _ ⟨W2.heap.size, 12, none⟩ (w.heap.size + 1 + 1 + 1) _ (by have := HNE.out; show w.heap.size + 1 + 1 + 1 ≠ W2.heap.size; omega)).trans ((heap_setCell_other _ ⟨W2.heap.size, 17, none⟩ (w.heap.size + 1 + 1 + 1) _ (by have := HNE.out; show w.heap.size + 1 + 1 + 1 ≠ W2.heap.size; omega)).trans HO.out))), (((HW.out.setCell (by have := HNE.out; show w.heap.size ≤ W2.heap.size; omega) _).setCell (by have := HNE.out; show w.heap.size ≤ W2.heap.size; omega) _).setCell (by have := HNE.out; show w.heap.size ≤ W2.heap.size; omega) _)⟩ ?_
  clear HB HO HW g17 b17 g12 b12 g18 b18 HK
  rintro V6 ⟨hbx, ho, hlw⟩
  have HO := Lib.hid ho
  have HW := Lib.hid hlw
  clear ho hlw
  have HCA := Lib.hid (rwrite_any { p with phase := 1, zone := E0, node := p.node, num := up ver } V6)
  go_wp2_with (first | ((with_reducible refine wpList_load_obj ?_ rfl ?_ hbx ?_); rfl; rfl))
  refine HCA.out.mono ?_
  rintro e W7 ⟨rfl, hb7⟩
  obtain ⟨V8, hst8, ho8, -, hb8⟩ := acting (HO.out.after hb7) (writeA { p with phase := 1, zone := E0, node := p.node, num := up ver })
  have HO8 := Lib.hid ho8
  have HX8 := Lib.hid (hb8 _ _ (HW.out.trans (hb7.mono HW.out.size)) (by omega))
  clear ho8 hb8 HCA HO HW hb7 hbx
  go_wp2_with (refine wpList_skip rfl (hst8 rfl rfl rfl) ?_)
  refine bodyPost_ret (v := encA (writeA { p with phase := 1, zone := E0, node := p.node, num := up ver })) (results_cell_row rfl _ _ (w.heap.size + 1 + 1 + 1) 36 (cellsA (writeA { p with phase := 1, zone := E0, node := p.node, num := up ver })) (0, 0) _ rfl HO8.out undAct rfl sizeAct) rfl ?_
  exact ⟨by rw [HVV.out], HX8.out⟩
end Go.Proofs.YtfpdchabknoklaaDoor.O.B
namespace Go.Proofs.YtfpdchabknoklaaDoor.O.B
open Go Go.RowKit Go.Shelf Go.Lib RangeMap KM
attribute [local go_sem] Oper.semAt_some

set_option maxRecDepth 100000 in
set_option maxHeartbeats 8000000 in
theorem rafC_made_some (l : List Obj) (v : Value) (ver : Int) (n : ByteArray) (c : Cl) (r : Rs) (w : World) (hl : ObjsIn w v l) (hlen : l.length < 100000) (ht : Tab w) (hall : ∀ s ∈ l, (0 ≤ s.born ∧ s.born ≤ 18446744073709551615) ∧ s.name.size ≤ 140737488351232) (p : Obj) (hg : getL l 3 n = some p) (he : claimN l ver n = askA c) (h9 : ¬ r.err = 9) (v2 : ¬ c.verb = 2) (h13 : ¬ r.err = 13) (kc : Obj) (hgc : getL l 1 p.cls = some kc) (h0 : r.err = 0) :
    Calls Tryd.prog 12 #[v, .int .u64 ver, encK 3 n, encC c, encR r] w fun e w' => e = .returned (encA (afterB l ver 3 n c r)) ∧ Below w.heap.size w w' := by
  obtain ⟨o, cp, rfl, -, -⟩ := id hl
  have HL := Lib.hid hl
  have HT := Lib.hid ht
  have HUN := Lib.hid (fun V (hV : ObjsIn V (.slice o l.length cp) l) => uniq_any l _ V hV hlen)
  have hul : (uniqL l).length < 100000 := Nat.lt_of_le_of_lt (uniq_len l) hlen
  have HGG := Lib.hid (fun (V : World) (u : Value) (hV : ObjsIn V u (uniqL l)) => show Calls _ _ _ V (fun e w' => e = .returned (.tuple #[encO ((getL l 3 n).getD O0), .bool (getL l 3 n).isSome]) ∧ Below V.heap.size V w') by rw [← uniq_get l 3 n]; exact rget_any (uniqL l) u 3 n V hV)
  have HCC := Lib.hid (fun (V : World) (u : Value) (hV : ObjsIn V u (uniqL l)) (hT : Tab V) => show Calls _ _ _ V (fun e w' => e = .returned (encA (claimN l ver n)) ∧ Below V.heap.size V w') by rw [← claimN_uniq l ver n]; exact rclaim_any (uniqL l) u ver n V hV hul hT (fun s hs => hall s (uniq_mem hs)))
  obtain ⟨x, hx⟩ : ∃ x, afterB l ver 3 n c r = x := ⟨_, rfl⟩
  rw [hx]
  rw [after_claim] at hx
  have hf : forN l 3 n = p := by unfold forN; rw [hg]; rfl
  rw [hf] at hx
  rw [hg] at HGG
  rw [if_pos he] at hx
  have hA : (claimN l ver n).act = 3 := by rw [he]; rfl
  have hne0 : (claimN l ver n).call = c := by rw [he]; rfl
  have HNA := Lib.hid hne0
  unfold docB at hx
  have hpb := hall p (List.mem_of_find?_eq_some hg)
  have HFF := Lib.hid (fun V (hV : Tab V) => rref_any p V hV hpb.1 hpb.2)
  obtain ⟨f, hff⟩ : ∃ f, refN p = f := ⟨_, rfl⟩
  rw [hff] at HFF
  have HRF := Lib.hid hff
  obtain ⟨tg, htg⟩ : ∃ tg, c.target = tg := ⟨_, rfl⟩
  have HTG := Lib.hid htg
  have HGX := Lib.hid (fun (V : World) (u : Value) (hV : ObjsIn V u (uniqL l)) => show Calls _ _ _ V (fun e w' => e = .returned (.tuple #[encO ((getL l 1 p.cls).getD O0), .bool (getL l 1 p.cls).isSome]) ∧ Below V.heap.size V w') by rw [← uniq_get l 1 p.cls]; exact rget_any (uniqL l) u 1 p.cls V hV)
  rw [hgc] at HGX
  have hkc : clsN l p = kc := by unfold clsN; rw [hgc]; rfl
  rw [hkc] at hx
  have HFh9 := Lib.hid h9
  clear h9
  have HFv2 := Lib.hid v2
  clear v2
  have HFh13 := Lib.hid h13
  clear h13
  have HFh0 := Lib.hid h0
  clear h0
  generalize claimN l ver n = A at *
  generalize uniqL l = L at *
  have HXX := Lib.hid hx
  clear hx hg hf he hne0 hpb hff htg hgc hkc
  clear hl ht hlen hall hul
  have HKE : Hid (encK 3 n = .agg #[.int .u8 3, .string n]) := rfl
  unfold encR
  rw [show encC c = .agg (cellsC c) from rfl, HKE.out]
  unfold cellsC
  go_enter Tryd.func12, Tryd.ntmps12
  go_upto_region 1 with (fail)
  refine wp_gen (fun V => BoxK V w.heap.size 3 n ∧ BoxC V (w.heap.size + 1) c ∧ BoxR V (w.heap.size + 1 + 1) r ∧ BoxA V (w.heap.size + 1 + 1 + 1) nothing ∧ Below w.heap.size w V) (chain4 w _ _ _ _) ?_
  rintro V ⟨hk, hc, hr, ho, hlw⟩
  have HU := Lib.hid (HUN.out V (HL.out.after hlw))
  have HQ := Lib.hid hk
  have HC := Lib.hid hc
  have HR := Lib.hid hr
  have HO := Lib.hid ho
  have HW := Lib.hid hlw
  clear hk hc hr ho hlw HUN HL HKE
  go_wp2_with (fail)
  refine HU.out.mono ?_
  rintro e W1 ⟨u, rfl, hu, hb1⟩
  obtain ⟨o1, c1, rfl, -, -⟩ := id hu
  have HUU := Lib.hid hu
  have hlw := HW.out.trans (hb1.mono HW.out.size)
  have hq1 := HQ.out.after hb1
  obtain ⟨k0, k1⟩ := hq1.cells
  replace HQ := Lib.hid hq1
  replace HC := Lib.hid (HC.out.after hb1)
  replace HR := Lib.hid (HR.out.after hb1)
  replace HO := Lib.hid (HO.out.after hb1)
  replace HW := Lib.hid hlw
  have HD := Lib.hid (HGG.out W1 _ hu)
  clear HU hu hb1 hlw hq1 HGG
  go_wp2_with (fail)
  refine HD.out.mono ?_
  rintro e W2 ⟨rfl, hb2⟩
  obtain ⟨V3, hs3, hk3, hb3, -⟩ := boxing W2 p
  have HNE : Hid (w.heap.size + 1 + 1 + 1 < W2.heap.size) := Nat.lt_of_lt_of_le HO.out.lt hb2.size
  have hw2 := HW.out.trans (hb2.mono HW.out.size)
  obtain ⟨V4, hs4, ha4, -, hb4⟩ := acting (show BoxA (V3.alloc (.cells (cellsA nothing) 36 (0, 0))) V3.heap.size nothing from heap_alloc_new _ _) nothing
  have hbel : Below V3.heap.size V3 V4 := hb4 _ _ ((Below.refl _ _).alloc (Nat.le_refl _) _) (Nat.le_refl _)
  have hb5 := hb3.trans (hbel.mono hb3.size)
  have hu2 := HUU.out.after hb2
  have hq4 := (HQ.out.after hb2).after hb5
  replace HQ := Lib.hid hq4
  replace HC := Lib.hid ((HC.out.after hb2).after hb5)
  replace HR := Lib.hid ((HR.out.after hb2).after hb5)
  replace HO := Lib.hid ((HO.out.after hb2).after hb5)
  replace HUU := Lib.hid ((HUU.out.after hb2).after hb5)
  replace HW := Lib.hid (hw2.trans (hb5.mono hw2.size))
  have HB := Lib.hid (hk3.after hbel)
  have HA := Lib.hid ha4
  have HTV := Lib.hid (HT.out.after HW.out)
  have HT0 := Lib.hid HT.out
  have HU3 := Lib.hid ((hu2 : ObjsIn W2 _ L).after hb3)
  have HV34 := Lib.hid hbel
  have HB3 : Hid (W2.heap.size < V3.heap.size) := hk3.lt
  clear k0 k1
  obtain ⟨k0, k1⟩ := hq4.cells
  clear HD hb2 hk3 hb3 hu2 hw2 ha4 hb4 hbel hb5 hq4 HT
  have HD := Lib.hid (HCC.out V4 _ HUU.out HTV.out)
  clear HCC
  go_wp2_with (first | (refine wpList_skip rfl (hs3 rfl rfl rfl) ?_) | (refine wpList_skip rfl (hs4 rfl rfl rfl) ?_) | ((with_reducible refine wpList_build_to rfl 36 _ rfl (cellsA nothing) ?_ ?_); exact built_act0'))
  refine HD.out.mono ?_
  rintro e W5 ⟨rfl, hb5⟩
  obtain ⟨V6, hs6, ha6, hx6, hb6⟩ := acting (HA.out.after hb5) A
  have HVN : Hid (W2.heap.size < V3.heap.size) := HB3.out
  have hlo : ∀ B X, Below B X V4 → B ≤ V3.heap.size → Below B X V6 := fun B X h1 h2 => hb6 B X (h1.trans (hb5.mono (Nat.le_trans h2 HV34.out.size))) h2
  have hcc : BoxC V6 (w.heap.size + 1) c := (hx6 _ (by have := HNE.out; have := HVN.out; omega)).trans (HC.out.after hb5)
  obtain ⟨c0, -⟩ := hcc.cells
  have hr6 : BoxR V6 (w.heap.size + 1 + 1) r := (hx6 _ (by have := HNE.out; have := HVN.out; omega)).trans (HR.out.after hb5)
  obtain ⟨r0, r1, r3⟩ := hr6.cells
  have ho6 : BoxA V6 (w.heap.size + 1 + 1 + 1) nothing := (hx6 _ (by have := HNE.out; have := HVN.out; omega)).trans (HO.out.after hb5)
  have hbb : BoxO V6 W2.heap.size p := (hx6 _ (by have := HVN.out; omega)).trans (HB.out.after hb5)
  have hw6 := hlo _ _ HW.out (by have := HNE.out; have := HVN.out; omega)
  have hu6 := (HU3.out.after (hlo _ _ HV34.out (Nat.le_refl _)))
  have ht6 := HT0.out.after hw6
  have a0 := ha6.kind
  have hca := ha6.callAt
  have HC := Lib.hid hcc
  replace HR := Lib.hid hr6
  replace HO := Lib.hid ho6
  replace HB := Lib.hid hbb
  replace HW := Lib.hid hw6
  have HU6 := Lib.hid hu6
  replace HTV := Lib.hid ht6
  clear HD hb5 ha6 hx6 hb6 hlo hr6 ho6 hbb hw6 hu6 ht6 HQ HUU HU3 HT0 HV34 HA k0 k1 hs3 hs4 HB3 HVN
  have e3 : (A.act == 3) = true := by simpa using hA
  have e3' : (A.act != 3) = false := by simpa using hA
  have hne := HNA.out
  clear hA HNA
  have h9 := HFh9.out
  have v2 := HFv2.out
  have h13 := HFh13.out
  have h0 := HFh0.out
  clear HFh9 HFv2 HFh13 HFh0
  have e9 : (r.err == 9) = false := by simpa using h9
  have e2 : (c.verb == 2) = false := by simpa using v2
  have HX3 := Lib.hid (HXX.out.symm.trans ((if_neg h9).trans (if_neg v2)))
  clear h9 v2 HXX
  have e13 : (r.err == 13) = false := by simpa using h13
  have HX4 := Lib.hid ((if_neg h13).symm.trans HX3.out.symm)
  clear h13 HX3
  have n6 := HB.out.c6
  have HGV := Lib.hid (HGX.out V6 _ HU6.out)
  simp only [Option.getD_some, Option.isSome_some] at HGV
  clear HGX HU6
  go_wp2_with (first | (refine wpList_skip rfl (hs6 rfl rfl rfl) ?_) | (refine wpList_got rfl (load_callAt hca rfl rfl) ?_) | (refine wpList_got rfl (load_call hcc rfl rfl) ?_) | (refine wpList_got rfl (exec_neq_at hne rfl rfl rfl) ?_))
  refine HGV.out.mono ?_
  rintro e W7 ⟨rfl, hb7⟩
  clear r0 r1 r3 e9 e13
  obtain ⟨V7, hs7, hk7, hb8, -⟩ := boxing W7 kc
  have hw7 := HW.out.trans (hb7.mono HW.out.size)
  have hr7 := (HR.out.after hb7).after hb8
  obtain ⟨r0, r1, -⟩ := hr7.cells
  have HNX : Hid (W2.heap.size < W7.heap.size) := Nat.lt_of_lt_of_le HB.out.lt hb7.size
  replace HR := Lib.hid hr7
  replace HC := Lib.hid ((HC.out.after hb7).after hb8)
  replace HB := Lib.hid ((HB.out.after hb7).after hb8)
  replace HO := Lib.hid ((HO.out.after hb7).after hb8)
  replace HW := Lib.hid (hw7.trans (hb8.mono hw7.size))
  have HK := Lib.hid hk7
  replace HTV := Lib.hid ((HTV.out.after hb7).after hb8)
  clear HGV hb7 hk7 hb8 hw7 hr7 hca hcc hs6 a0 e3 e3' c0 e2
  have e0 : (r.err == 0) = true := by simpa using h0
  obtain ⟨q, hq⟩ : ∃ q, (⟨4, tg, 0, 0, false, false, p.cls, p.size, r.size, p.mode, kc.keep, false, r.zone, E0, f, E0, E0, 3, 0, 0⟩ : Obj) = q := ⟨_, rfl⟩
  have HVV : Hid (x = writeA (defO q)) := by
    show _ = _
    rw [HX4.out.symm.trans (if_pos h0)]
    unfold rawN
    rw [HRF.out, HTG.out, hq]
  have HDD := Lib.hid (fun V => rdefault_any q V (by rw [← hq]) (by rw [← hq]))
  have HQQ := Lib.hid hq
  obtain ⟨z, hz⟩ : ∃ z, defO q = z := ⟨_, rfl⟩
  rw [hz] at HDD HVV
  have HWW := Lib.hid (fun V => rwrite_any z V)
  clear h0 HX4 hq hz
  go_upto_region 20 with (refine wpList_skip rfl (hs7 rfl rfl rfl) ?_)
  clear hs7 r0 r1 e0
  replace HO := Lib.hid (⟨_, HO.out⟩ : AnyA _ (w.heap.size + 1 + 1 + 1))
  refine wp_region_held_drew (S := fun V => BoxO V W2.heap.size p ∧ BoxC V (w.heap.size + 1) c ∧ BoxR V (w.heap.size + 1 + 1) r ∧ BoxO V W7.heap.size kc ∧ AnyA V (w.heap.size + 1 + 1 + 1) ∧ Below w.heap.size w V ∧ Tab V) (by kernel_rfl) ⟨HB.out, HC.out, HR.out, HK.out, HO.out, HW.out.drew, HTV.out.drew⟩ (fun _ => ?_)
  refine HeldBy.gen (fun V => BoxO V W2.heap.size p ∧ BoxC V (w.heap.size + 1) c ∧ BoxR V (w.heap.size + 1 + 1) r ∧ BoxO V W7.heap.size kc ∧ AnyA V (w.heap.size + 1 + 1 + 1) ∧ Below w.heap.size w V ∧ Tab V) ⟨HB.out, HC.out, HR.out, HK.out, HO.out, HW.out.drew, HTV.out.drew⟩ ?_
  clear HB HC HR HK HO HW HTV
  rintro U0 HS
  refine HeldBy.take (i := 0) rfl (by kernel_rfl) (by kernel_rfl) (by kernel_rfl) (fun _ _ _ h => h) (by rfl) (fun _ _ => by first | (go_simp; rfl) | (go_simp; done)) (by go_simp; rfl) HS ?_
  refine HeldBy.take (i := 1) (v := .string tg) rfl (by kernel_rfl) (by kernel_rfl) (by kernel_rfl) (fun _ _ _ h => h) (by rfl) (fun V hV => by have h1 := hV.2.1.cells.2; rw [HTG.out] at h1; first | (go_simp; rfl) | (go_simp; done)) (by go_simp; rfl) HS ?_
  refine HeldBy.take (i := 2) rfl (by kernel_rfl) (by kernel_rfl) (by kernel_rfl) (fun _ _ _ h => h) (by rfl) (fun _ _ => by first | (go_simp; rfl) | (go_simp; done)) (by go_simp; rfl) HS ?_
  refine HeldBy.take (i := 3) rfl (by kernel_rfl) (by kernel_rfl) (by kernel_rfl) (fun _ _ _ h => h) (by rfl) (fun V hV => by have hc := hV.1.c6; first | (go_simp; rfl) | (go_simp; done)) (by go_simp; rfl) HS ?_
  refine HeldBy.take (i := 4) rfl (by kernel_rfl) (by kernel_rfl) (by kernel_rfl) (fun _ _ _ h => h) (by rfl) (fun _ _ => by first | (go_simp; rfl) | (go_simp; done)) (by go_simp; rfl) HS ?_
  refine HeldBy.take (i := 5) rfl (by kernel_rfl) (by kernel_rfl) (by kernel_rfl) (fun _ _ _ h => h) (by rfl) (fun V hV => by have hc := hV.1.c7; first | (go_simp; rfl) | (go_simp; done)) (by go_simp; rfl) HS ?_
  refine HeldBy.take (i := 6) rfl (by kernel_rfl) (by kernel_rfl) (by kernel_rfl) (fun _ _ _ h => h) (by rfl) (fun _ _ => by first | (go_simp; rfl) | (go_simp; done)) (by go_simp; rfl) HS ?_
  refine HeldBy.take (i := 7) (v := .int .i64 r.size) rfl (by kernel_rfl) (by kernel_rfl) (by kernel_rfl) (fun _ _ _ h => h) (by rfl) (fun V hV => by have h1 := hV.2.2.1.cells.2.1; first | (go_simp; rfl) | (go_simp; done)) (by go_simp; rfl) HS ?_
  refine HeldBy.take (i := 8) rfl (by kernel_rfl) (by kernel_rfl) (by kernel_rfl) (fun _ _ _ h => h) (by rfl) (fun _ _ => by first | (go_simp; rfl) | (go_simp; done)) (by go_simp; rfl) HS ?_
  refine HeldBy.take (i := 9) rfl (by kernel_rfl) (by kernel_rfl) (by kernel_rfl) (fun _ _ _ h => h) (by rfl) (fun V hV => by have hc := hV.1.c9; first | (go_simp; rfl) | (go_simp; done)) (by go_simp; rfl) HS ?_
  refine HeldBy.take (i := 10) rfl (by kernel_rfl) (by kernel_rfl) (by kernel_rfl) (fun _ _ _ h => h) (by rfl) (fun _ _ => by first | (go_simp; rfl) | (go_simp; done)) (by go_simp; rfl) HS ?_
  refine HeldBy.take (i := 11) rfl (by kernel_rfl) (by kernel_rfl) (by kernel_rfl) (fun _ _ _ h => h) (by rfl) (fun _ _ => by first | (go_simp; rfl) | (go_simp; done)) (by go_simp; rfl) HS ?_
  refine HeldBy.take (i := 12) rfl (by kernel_rfl) (by kernel_rfl) (by kernel_rfl) (fun _ _ _ h => h) (by rfl) (fun _ _ => by first | (go_simp; rfl) | (go_simp; done)) (by go_simp; rfl) HS ?_
  refine HeldBy.take (i := 13) rfl (by kernel_rfl) (by kernel_rfl) (by kernel_rfl) (fun _ _ _ h => h) (by rfl) (fun V hV => by have hc := hV.2.2.2.1.c10; first | (go_simp; rfl) | (go_simp; done)) (by go_simp; rfl) HS ?_
  refine HeldBy.take (i := 14) rfl (by kernel_rfl) (by kernel_rfl) (by kernel_rfl) (fun _ _ _ h => h) (by rfl) (fun _ _ => by first | (go_simp; rfl) | (go_simp; done)) (by go_simp; rfl) HS ?_
  refine HeldBy.take (i := 15) rfl (by kernel_rfl) (by kernel_rfl) (by kernel_rfl) (fun _ _ _ h => h) (by rfl) (fun _ _ => by first | (go_simp; rfl) | (go_simp; done)) (by go_simp; rfl) HS ?_
  refine HeldBy.take (i := 16) (v := .string r.zone) rfl (by kernel_rfl) (by kernel_rfl) (by kernel_rfl) (fun _ _ _ h => h) (by rfl) (fun V hV => by have h1 := hV.2.2.1.zone; first | (go_simp; rfl) | (go_simp; done)) (by go_simp; rfl) HS ?_
  refine HeldBy.take (i := 17) (v := encO p) rfl (by kernel_rfl) (by kernel_rfl) (by kernel_rfl) (fun _ _ _ h => h) (by rfl) (fun V hV => load_obj hV.1 rfl rfl) (by go_simp; rfl) HS ?_
  have HSS : ∀ w', Below U0.heap.size U0 w' → (BoxO w' W2.heap.size p ∧ BoxC w' (w.heap.size + 1) c ∧ BoxR w' (w.heap.size + 1 + 1) r ∧ BoxO w' W7.heap.size kc ∧ AnyA w' (w.heap.size + 1 + 1 + 1) ∧ Below w.heap.size w w' ∧ Tab w') := fun w' hb => ⟨HS.1.after hb, HS.2.1.after hb, HS.2.2.1.after hb, HS.2.2.2.1.after hb, HS.2.2.2.2.1.after hb, HS.2.2.2.2.2.1.trans (hb.mono HS.2.2.2.2.2.1.size), HS.2.2.2.2.2.2.after hb⟩
  refine HeldBy.Goes.without (w0 := U0) (k := 20) (dk := some 17) (x := .cells (cellsO O0) 31 (0, 0)) ?_ U0 (Below.refl _ _)
  refine HeldBy.Goes.callS (i := 18) (v := .string f) rfl rfl rfl rfl (makes_o rfl) rfl (by kernel_rfl) (by kernel_rfl) rfl (by decide) (by kernel_rfl) (by intro w; first | (go_simp; done) | (go_simp; first | exact ⟨rfl, rfl⟩ | rfl)) (by first | (go_simp; rfl) | (go_simp; done)) HSS (fun _ HS => HFF.out _ HS.2.2.2.2.2.2) ?_
  refine HeldBy.Goes.take (i := 19) (v := encO q) rfl (by kernel_rfl) rfl (by kernel_rfl) (by kernel_rfl) (by kernel_rfl) (by kernel_rfl) (fun _ _ _ h => h) rfl (by decide) (by kernel_rfl) (fun _ _ => by have hq := HQQ.out; subst hq; exact exec_build 31 _ rfl _ (by exact built_raw tg f p.cls r.zone p.size r.size p.mode kc.keep)) (by first | (go_simp; rfl) | (go_simp; done)) HSS ?_
  refine HeldBy.Goes.nil rfl rfl (by kernel_rfl) rfl (makes_o rfl) HSS rfl (fun p => by unfold HeldBy.ptr; go_simp; rfl) ?_
  intro pt U1 hp hb hn
  obtain ⟨V9, hst9, hd9, hoth9, hbl9⟩ := storing (show BoxO U1 pt O0 from hn) q
  have hbel : Below U0.heap.size U0 V9 := hbl9 _ _ hb hp
  have HS9 : BoxO V9 W2.heap.size p ∧ BoxC V9 (w.heap.size + 1) c ∧ BoxR V9 (w.heap.size + 1 + 1) r ∧ BoxO V9 W7.heap.size kc ∧ AnyA V9 (w.heap.size + 1 + 1 + 1) ∧ Below w.heap.size w V9 ∧ Tab V9 := HSS _ hbel
  refine HeldBy.store (i := 21) (w' := V9) rfl (by kernel_rfl) (by rfl) (hst9 rfl rfl rfl) (by first | (go_simp; rfl) | (go_simp; done)) HS9 ?_
  refine wpAnyH_done (by kernel_rfl) ?_ _
  have hbx := hd9
  obtain ⟨a9, ho9⟩ := HS9.2.2.2.2.1
  have HO := Lib.hid ho9
  have HW := Lib.hid HS9.2.2.2.2.2.1
  have HDV := Lib.hid (HDD.out V9)
  clear hst9 hd9 hoth9 hbl9 hbel HS9 HSS HS hp hb hn ho9 HDD
  go_wp2_with ((with_reducible refine wpList_load_obj ?_ rfl ?_ hbx ?_); rfl; rfl)
  refine HDV.out.mono ?_
  rintro e W10 ⟨rfl, hb10⟩
  have HO6 := Lib.hid (HO.out.after hb10)
  have HW6 := Lib.hid (HW.out.trans (hb10.mono HW.out.size))
  clear hb10 HDV HO HW hbx
  go_wp2_with (fail)
  refine (HWW.out _).mono ?_
  rintro e W11 ⟨rfl, hb11⟩
  obtain ⟨V8, hst8, ho8, -, hb8⟩ := acting (HO6.out.after hb11) (writeA z)
  have HO8 := Lib.hid ho8
  have HX8 := Lib.hid (hb8 _ _ (HW6.out.trans (hb11.mono HW6.out.size)) (by omega))
  clear ho8 hb8 HWW HO6 HW6 hb11
  go_wp2_with (refine wpList_skip rfl (hst8 rfl rfl rfl) ?_)
  refine bodyPost_ret (v := encA (writeA z)) (results_cell_row rfl _ _ (w.heap.size + 1 + 1 + 1) 36 (cellsA (writeA z)) (0, 0) _ rfl HO8.out undAct rfl sizeAct) rfl ?_
  exact ⟨by rw [HVV.out], HX8.out⟩
end Go.Proofs.YtfpdchabknoklaaDoor.O.B
namespace Go.Proofs.YtfpdchabknoklaaDoor.O.B
open Go Go.RowKit Go.Shelf Go.Lib RangeMap KM
attribute [local go_sem] Oper.semAt_some

set_option maxRecDepth 100000 in
set_option maxHeartbeats 8000000 in
theorem rafC_back_some (l : List Obj) (v : Value) (ver : Int) (n : ByteArray) (c : Cl) (r : Rs) (w : World) (hl : ObjsIn w v l) (hlen : l.length < 100000) (ht : Tab w) (hall : ∀ s ∈ l, (0 ≤ s.born ∧ s.born ≤ 18446744073709551615) ∧ s.name.size ≤ 140737488351232) (p : Obj) (hg : getL l 3 n = some p) (he : claimN l ver n = askA c) (h9 : ¬ r.err = 9) (v2 : ¬ c.verb = 2) (h13 : ¬ r.err = 13) (kc : Obj) (hgc : getL l 1 p.cls = some kc) (h0 : ¬ r.err = 0) :
    Calls Tryd.prog 12 #[v, .int .u64 ver, encK 3 n, encC c, encR r] w fun e w' => e = .returned (encA (afterB l ver 3 n c r)) ∧ Below w.heap.size w w' := by
  obtain ⟨o, cp, rfl, -, -⟩ := id hl
  have HL := Lib.hid hl
  have HT := Lib.hid ht
  have HUN := Lib.hid (fun V (hV : ObjsIn V (.slice o l.length cp) l) => uniq_any l _ V hV hlen)
  have hul : (uniqL l).length < 100000 := Nat.lt_of_le_of_lt (uniq_len l) hlen
  have HGG := Lib.hid (fun (V : World) (u : Value) (hV : ObjsIn V u (uniqL l)) => show Calls _ _ _ V (fun e w' => e = .returned (.tuple #[encO ((getL l 3 n).getD O0), .bool (getL l 3 n).isSome]) ∧ Below V.heap.size V w') by rw [← uniq_get l 3 n]; exact rget_any (uniqL l) u 3 n V hV)
  have HCC := Lib.hid (fun (V : World) (u : Value) (hV : ObjsIn V u (uniqL l)) (hT : Tab V) => show Calls _ _ _ V (fun e w' => e = .returned (encA (claimN l ver n)) ∧ Below V.heap.size V w') by rw [← claimN_uniq l ver n]; exact rclaim_any (uniqL l) u ver n V hV hul hT (fun s hs => hall s (uniq_mem hs)))
  obtain ⟨x, hx⟩ : ∃ x, afterB l ver 3 n c r = x := ⟨_, rfl⟩
  rw [hx]
  rw [after_claim] at hx
  have hf : forN l 3 n = p := by unfold forN; rw [hg]; rfl
  rw [hf] at hx
  rw [hg] at HGG
  rw [if_pos he] at hx
  have hA : (claimN l ver n).act = 3 := by rw [he]; rfl
  have hne0 : (claimN l ver n).call = c := by rw [he]; rfl
  have HNA := Lib.hid hne0
  unfold docB at hx
  have hpb := hall p (List.mem_of_find?_eq_some hg)
  have HFF := Lib.hid (fun V (hV : Tab V) => rref_any p V hV hpb.1 hpb.2)
  obtain ⟨f, hff⟩ : ∃ f, refN p = f := ⟨_, rfl⟩
  rw [hff] at HFF
  have HRF := Lib.hid hff
  obtain ⟨tg, htg⟩ : ∃ tg, c.target = tg := ⟨_, rfl⟩
  have HTG := Lib.hid htg
  have HGX := Lib.hid (fun (V : World) (u : Value) (hV : ObjsIn V u (uniqL l)) => show Calls _ _ _ V (fun e w' => e = .returned (.tuple #[encO ((getL l 1 p.cls).getD O0), .bool (getL l 1 p.cls).isSome]) ∧ Below V.heap.size V w') by rw [← uniq_get l 1 p.cls]; exact rget_any (uniqL l) u 1 p.cls V hV)
  rw [hgc] at HGX
  have hkc : clsN l p = kc := by unfold clsN; rw [hgc]; rfl
  rw [hkc] at hx
  have HFh9 := Lib.hid h9
  clear h9
  have HFv2 := Lib.hid v2
  clear v2
  have HFh13 := Lib.hid h13
  clear h13
  have HFh0 := Lib.hid h0
  clear h0
  generalize claimN l ver n = A at *
  generalize uniqL l = L at *
  have HXX := Lib.hid hx
  clear hx hg hf he hne0 hpb hff htg hgc hkc
  clear hl ht hlen hall hul
  have HKE : Hid (encK 3 n = .agg #[.int .u8 3, .string n]) := rfl
  unfold encR
  rw [show encC c = .agg (cellsC c) from rfl, HKE.out]
  unfold cellsC
  go_enter Tryd.func12, Tryd.ntmps12
  go_upto_region 1 with (fail)
  refine wp_gen (fun V => BoxK V w.heap.size 3 n ∧ BoxC V (w.heap.size + 1) c ∧ BoxR V (w.heap.size + 1 + 1) r ∧ BoxA V (w.heap.size + 1 + 1 + 1) nothing ∧ Below w.heap.size w V) (chain4 w _ _ _ _) ?_
  rintro V ⟨hk, hc, hr, ho, hlw⟩
  have HU := Lib.hid (HUN.out V (HL.out.after hlw))
  have HQ := Lib.hid hk
  have HC := Lib.hid hc
  have HR := Lib.hid hr
  have HO := Lib.hid ho
  have HW := Lib.hid hlw
  clear hk hc hr ho hlw HUN HL HKE
  go_wp2_with (fail)
  refine HU.out.mono ?_
  rintro e W1 ⟨u, rfl, hu, hb1⟩
  obtain ⟨o1, c1, rfl, -, -⟩ := id hu
  have HUU := Lib.hid hu
  have hlw := HW.out.trans (hb1.mono HW.out.size)
  have hq1 := HQ.out.after hb1
  obtain ⟨k0, k1⟩ := hq1.cells
  replace HQ := Lib.hid hq1
  replace HC := Lib.hid (HC.out.after hb1)
  replace HR := Lib.hid (HR.out.after hb1)
  replace HO := Lib.hid (HO.out.after hb1)
  replace HW := Lib.hid hlw
  have HD := Lib.hid (HGG.out W1 _ hu)
  clear HU hu hb1 hlw hq1 HGG
  go_wp2_with (fail)
  refine HD.out.mono ?_
  rintro e W2 ⟨rfl, hb2⟩
  obtain ⟨V3, hs3, hk3, hb3, -⟩ := boxing W2 p
  have HNE : Hid (w.heap.size + 1 + 1 + 1 < W2.heap.size) := Nat.lt_of_lt_of_le HO.out.lt hb2.size
  have hw2 := HW.out.trans (hb2.mono HW.out.size)
  obtain ⟨V4, hs4, ha4, -, hb4⟩ := acting (show BoxA (V3.alloc (.cells (cellsA nothing) 36 (0, 0))) V3.heap.size nothing from heap_alloc_new _ _) nothing
  have hbel : Below V3.heap.size V3 V4 := hb4 _ _ ((Below.refl _ _).alloc (Nat.le_refl _) _) (Nat.le_refl _)
  have hb5 := hb3.trans (hbel.mono hb3.size)
  have hu2 := HUU.out.after hb2
  have hq4 := (HQ.out.after hb2).after hb5
  replace HQ := Lib.hid hq4
  replace HC := Lib.hid ((HC.out.after hb2).after hb5)
  replace HR := Lib.hid ((HR.out.after hb2).after hb5)
  replace HO := Lib.hid ((HO.out.after hb2).after hb5)
  replace HUU := Lib.hid ((HUU.out.after hb2).after hb5)
  replace HW := Lib.hid (hw2.trans (hb5.mono hw2.size))
  have HB := Lib.hid (hk3.after hbel)
  have HA := Lib.hid ha4
  have HTV := Lib.hid (HT.out.after HW.out)
  have HT0 := Lib.hid HT.out
  have HU3 := Lib.hid ((hu2 : ObjsIn W2 _ L).after hb3)
  have HV34 := Lib.hid hbel
  have HB3 : Hid (W2.heap.size < V3.heap.size) := hk3.lt
  clear k0 k1
  obtain ⟨k0, k1⟩ := hq4.cells
  clear HD hb2 hk3 hb3 hu2 hw2 ha4 hb4 hbel hb5 hq4 HT
  have HD := Lib.hid (HCC.out V4 _ HUU.out HTV.out)
  clear HCC
  go_wp2_with (first | (refine wpList_skip rfl (hs3 rfl rfl rfl) ?_) | (refine wpList_skip rfl (hs4 rfl rfl rfl) ?_) | ((with_reducible refine wpList_build_to rfl 36 _ rfl (cellsA nothing) ?_ ?_); exact built_act0'))
  refine HD.out.mono ?_
  rintro e W5 ⟨rfl, hb5⟩
  obtain ⟨V6, hs6, ha6, hx6, hb6⟩ := acting (HA.out.after hb5) A
  have HVN : Hid (W2.heap.size < V3.heap.size) := HB3.out
  have hlo : ∀ B X, Below B X V4 → B ≤ V3.heap.size → Below B X V6 := fun B X h1 h2 => hb6 B X (h1.trans (hb5.mono (Nat.le_trans h2 HV34.out.size))) h2
  have hcc : BoxC V6 (w.heap.size + 1) c := (hx6 _ (by have := HNE.out; have := HVN.out; omega)).trans (HC.out.after hb5)
  obtain ⟨c0, -⟩ := hcc.cells
  have hr6 : BoxR V6 (w.heap.size + 1 + 1) r := (hx6 _ (by have := HNE.out; have := HVN.out; omega)).trans (HR.out.after hb5)
  obtain ⟨r0, r1, r3⟩ := hr6.cells
  have ho6 : BoxA V6 (w.heap.size + 1 + 1 + 1) nothing := (hx6 _ (by have := HNE.out; have := HVN.out; omega)).trans (HO.out.after hb5)
  have hbb : BoxO V6 W2.heap.size p := (hx6 _ (by have := HVN.out; omega)).trans (HB.out.after hb5)
  have hw6 := hlo _ _ HW.out (by have := HNE.out; have := HVN.out; omega)
  have hu6 := (HU3.out.after (hlo _ _ HV34.out (Nat.le_refl _)))
  have ht6 := HT0.out.after hw6
  have a0 := ha6.kind
  have hca := ha6.callAt
  have HC := Lib.hid hcc
  replace HR := Lib.hid hr6
  replace HO := Lib.hid ho6
  replace HB := Lib.hid hbb
  replace HW := Lib.hid hw6
  have HU6 := Lib.hid hu6
  replace HTV := Lib.hid ht6
  clear HD hb5 ha6 hx6 hb6 hlo hr6 ho6 hbb hw6 hu6 ht6 HQ HUU HU3 HT0 HV34 HA k0 k1 hs3 hs4 HB3 HVN
  have e3 : (A.act == 3) = true := by simpa using hA
  have e3' : (A.act != 3) = false := by simpa using hA
  have hne := HNA.out
  clear hA HNA
  have h9 := HFh9.out
  have v2 := HFv2.out
  have h13 := HFh13.out
  have h0 := HFh0.out
  clear HFh9 HFv2 HFh13 HFh0
  have e9 : (r.err == 9) = false := by simpa using h9
  have e2 : (c.verb == 2) = false := by simpa using v2
  have HX3 := Lib.hid (HXX.out.symm.trans ((if_neg h9).trans (if_neg v2)))
  clear h9 v2 HXX
  have e13 : (r.err == 13) = false := by simpa using h13
  have HX4 := Lib.hid ((if_neg h13).symm.trans HX3.out.symm)
  clear h13 HX3
  have n6 := HB.out.c6
  have HGV := Lib.hid (HGX.out V6 _ HU6.out)
  simp only [Option.getD_some, Option.isSome_some] at HGV
  clear HGX HU6
  go_wp2_with (first | (refine wpList_skip rfl (hs6 rfl rfl rfl) ?_) | (refine wpList_got rfl (load_callAt hca rfl rfl) ?_) | (refine wpList_got rfl (load_call hcc rfl rfl) ?_) | (refine wpList_got rfl (exec_neq_at hne rfl rfl rfl) ?_))
  refine HGV.out.mono ?_
  rintro e W7 ⟨rfl, hb7⟩
  clear r0 r1 r3 e9 e13
  obtain ⟨V7, hs7, hk7, hb8, -⟩ := boxing W7 kc
  have hw7 := HW.out.trans (hb7.mono HW.out.size)
  have hr7 := (HR.out.after hb7).after hb8
  obtain ⟨r0, r1, -⟩ := hr7.cells
  have HNX : Hid (W2.heap.size < W7.heap.size) := Nat.lt_of_lt_of_le HB.out.lt hb7.size
  replace HR := Lib.hid hr7
  replace HC := Lib.hid ((HC.out.after hb7).after hb8)
  replace HB := Lib.hid ((HB.out.after hb7).after hb8)
  replace HO := Lib.hid ((HO.out.after hb7).after hb8)
  replace HW := Lib.hid (hw7.trans (hb8.mono hw7.size))
  have HK := Lib.hid hk7
  replace HTV := Lib.hid ((HTV.out.after hb7).after hb8)
  clear HGV hb7 hk7 hb8 hw7 hr7 hca hcc hs6 a0 e3 e3' c0 e2
  have e0 : (r.err == 0) = false := by simpa using h0
  have HX5 := Lib.hid (HX4.out.symm.trans (if_neg h0))
  clear h0 HX4 HFF HTV HC HR r1 HTG HRF
  have HNZ := HNX.out
  by_cases hwt : kc.wait = true
  · have HVV : Hid (x = writeA { p with phase := 1, zone := E0, node := E0, num := up ver }) := by show _ = _; rw [HX5.out]; unfold backN; rw [if_pos hwt]
    clear HX5
    have k11 := HK.out.c11
    rw [hwt] at k11
    clear hwt
    have g17 := HB.out.free 17
    have b17 := HB.out.c17
    have g12 := HB.out.free 12
    have b12 := HB.out.c12
    have g18 := HB.out.free 18
    have b18 := HB.out.c18
    have g13 := HB.out.free 13
    have b13 := HB.out.c13
    go_upto_region 25 with (refine wpList_skip rfl (hs7 rfl rfl rfl) ?_)
    refine wp_gen (fun V => BoxO V (W2.heap.size) { p with phase := 1, zone := E0, node := E0, num := up ver } ∧ BoxA V (w.heap.size + 1 + 1 + 1) nothing ∧ Below w.heap.size w V) ⟨((((HB.out.s17 (1)).s12 (E0)).s18 (up ver)).s13 (E0)), ((heap_setCell_other _ ⟨W2.heap.size, 13, none⟩ (w.heap.size + 1 + 1 + 1) _ (by have := HNE.out; show w.heap.size + 1 + 1 + 1 ≠ W2.heap.size; omega)).trans ((heap_setCell_other _ ⟨W2.heap.size, 18, none⟩ (w.heap.size + 1 + 1 + 1) _ (by have := HNE.out; show w.heap.size + 1 + 1 + 1 ≠ W2.heap.size; omega)).trans ((heap_setCell_other _ ⟨W2.heap.size, 12, none⟩ (w.heap.size + 1 + 1 + 1) _ (by have := HNE.out; show w.heap.size + 1 + 1 + 1 ≠ W2.heap.size; omega)).trans ((heap_setCell_other _ ⟨W2.heap.size, 17, none⟩ (w.heap.size + 1 + 1 + 1) _ (by have := HNE.out; show w.heap.size + 1 + 1 + 1 ≠ W2.heap.size; omega)).trans HO.out)))), ((((HW.out.setCell (by have := HNE.out; show w.heap.size ≤ W2.heap.size; omega) _).setCell (by have := HNE.out; show w.heap.size ≤ W2.heap.size; omega) _).setCell (by have := HNE.out; show w.heap.size ≤ W2.heap.size; omega) _).setCell (by have := HNE.out; show w.heap.size ≤ W2.heap.size; omega) _)⟩ ?_
    clear HB HO HW g17 b17 g12 b12 g18 b18 g13 b13 HK k11
    rintro V6 ⟨hbx, ho, hlw⟩
    have HO := Lib.hid ho
    have HW := Lib.hid hlw
    clear ho hlw
    have HCA := Lib.hid (rwrite_any { p with phase := 1, zone := E0, node := E0, num := up ver } V6)
    go_wp2_with (first | ((with_reducible refine wpList_load_obj ?_ rfl ?_ hbx ?_); rfl; rfl))
    refine HCA.out.mono ?_
    rintro e W7 ⟨rfl, hb7⟩
    obtain ⟨V8, hst8, ho8, -, hb8⟩ := acting (HO.out.after hb7) (writeA { p with phase := 1, zone := E0, node := E0, num := up ver })
    have HO8 := Lib.hid ho8
    have HX8 := Lib.hid (hb8 _ _ (HW.out.trans (hb7.mono HW.out.size)) (by omega))
    clear ho8 hb8 HCA HO HW hb7 hbx
    go_wp2_with (refine wpList_skip rfl (hst8 rfl rfl rfl) ?_)
    refine bodyPost_ret (v := encA (writeA { p with phase := 1, zone := E0, node := E0, num := up ver })) (results_cell_row rfl _ _ (w.heap.size + 1 + 1 + 1) 36 (cellsA (writeA { p with phase := 1, zone := E0, node := E0, num := up ver })) (0, 0) _ rfl HO8.out undAct rfl sizeAct) rfl ?_
    exact ⟨by rw [HVV.out], HX8.out⟩
  · replace hwt : kc.wait = false := by simpa using hwt
    have HVV : Hid (x = writeA { p with phase := 1, zone := E0, node := p.node, num := up ver }) := by show _ = _; rw [HX5.out]; unfold backN; rw [if_neg (by rw [hwt]; decide)]
    clear HX5
    have k11 := HK.out.c11
    rw [hwt] at k11
    clear hwt
    have g17 := HB.out.free 17
    have b17 := HB.out.c17
    have g12 := HB.out.free 12
    have b12 := HB.out.c12
    have g18 := HB.out.free 18
    have b18 := HB.out.c18
    go_upto_region 25 with (refine wpList_skip rfl (hs7 rfl rfl rfl) ?_)
    refine wp_gen (fun V => BoxO V (W2.heap.size) { p with phase := 1, zone := E0, node := p.node, num := up ver } ∧ BoxA V (w.heap.size + 1 + 1 + 1) nothing ∧ Below w.heap.size w V) ⟨(((HB.out.s17 (1)).s12 (E0)).s18 (up ver)), ((heap_setCell_other _ ⟨W2.heap.size, 18, none⟩ (w.heap.size + 1 + 1 + 1) _ (by have := HNE.out; show w.heap.size + 1 + 1 + 1 ≠ W2.heap.size; omega)).trans ((heap_setCell_other _ ⟨W2.heap.size, 12, none⟩ (w.heap.size + 1 + 1 + 1) _ (by have := HNE.out; show w.heap.size + 1 + 1 + 1 ≠ W2.heap.size; omega)).trans ((heap_setCell_other _ ⟨W2.heap.size, 17, none⟩ (w.heap.size + 1 + 1 + 1) _ (by have := HNE.out; show w.heap.size + 1 + 1 + 1 ≠ W2.heap.size; omega)).trans HO.out))), (((HW.out.setCell (by have := HNE.out; show w.heap.size ≤ W2.heap.size; omega) _).setCell (by have := HNE.out; show w.heap.size ≤ W2.heap.size; omega) _).setCell (by have := HNE.out; show w.heap.size ≤ W2.heap.size; omega) _)⟩ ?_
    clear HB HO HW g17 b17 g12 b12 g18 b18 HK k11
    rintro V6 ⟨hbx, ho, hlw⟩
    have HO := Lib.hid ho
    have HW := Lib.hid hlw
    clear ho hlw
    have HCA := Lib.hid (rwrite_any { p with phase := 1, zone := E0, node := p.node, num := up ver } V6)
    go_wp2_with (first | ((with_reducible refine wpList_load_obj ?_ rfl ?_ hbx ?_); rfl; rfl))
    refine HCA.out.mono ?_
    rintro e W7 ⟨rfl, hb7⟩
    obtain ⟨V8, hst8, ho8, -, hb8⟩ := acting (HO.out.after hb7) (writeA { p with phase := 1, zone := E0, node := p.node, num := up ver })
    have HO8 := Lib.hid ho8
    have HX8 := Lib.hid (hb8 _ _ (HW.out.trans (hb7.mono HW.out.size)) (by omega))
    clear ho8 hb8 HCA HO HW hb7 hbx
    go_wp2_with (refine wpList_skip rfl (hst8 rfl rfl rfl) ?_)
    refine bodyPost_ret (v := encA (writeA { p with phase := 1, zone := E0, node := p.node, num := up ver })) (results_cell_row rfl _ _ (w.heap.size + 1 + 1 + 1) 36 (cellsA (writeA { p with phase := 1, zone := E0, node := p.node, num := up ver })) (0, 0) _ rfl HO8.out undAct rfl sizeAct) rfl ?_
    exact ⟨by rw [HVV.out], HX8.out⟩
end Go.Proofs.YtfpdchabknoklaaDoor.O.B
