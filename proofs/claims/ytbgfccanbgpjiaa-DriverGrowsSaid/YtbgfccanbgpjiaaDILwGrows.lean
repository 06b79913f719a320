/- Own work. -/
import Derived.Test.YtbgfccanbgpjiaaDILwAgain
import Derived.Test.YtbgfccanbgpjiaaDJISame
import Derived.Test.YtbgfccanbgpjiaaDJRangeMap
namespace Go.Proofs.Ytbgfccanbgpjiaa.O.I
open Go Go.RowKit Go.Lib KM
attribute [local go_sem] Oper.semAt_some
set_option maxRecDepth 100000 in
set_option maxHeartbeats 32000000 in
theorem grows_any (a b c : Int) (ha : U8 a) (hb : U8 b) (hc : U8 c) (u : Value) (l : List Dd) (x : Cl) (w : World) (hl : DeedsIn w u l) (hf : ∀ x ∈ l, FitC x.c) :
    Calls Try.prog 8 #[encN a b c, u, encC x] w fun e w' => e = .returned (.bool true) ∧ Below w.heap.size w w' := by
  have HL := Lib.hid hl
  have HF := Lib.hid hf
  have HA := Lib.hid ha
  have HBB := Lib.hid hb
  have HCC := Lib.hid hc
  clear hl hf ha hb hc
  rw [show encN a b c = .agg #[.int .u8 a, .int .u8 b, .int .u8 c] from rfl, show encC x = .agg (cellsC x) from rfl]
  go_enter Try.func8, Try.ntmps8
  go_upto_region 1 with (fail)
  refine wp_gen (fun V => BoxN V w.heap.size a b c ∧ BoxC V (w.heap.size + 1) x ∧ Below w.heap.size w V) ⟨(heap2 w _ _).1, (heap2 w _ _).2, below2 w _ _⟩ ?_
  rintro V1 ⟨hn1, hx1, hw1⟩
  have HX := Lib.hid hx1
  have HW := Lib.hid hw1
  clear hx1 hw1
  go_wp2_with (refine wpList_got rfl (loadN hn1 rfl rfl) ?_)
  clear hn1
  refine (play_any a b c HA.out HBB.out HCC.out u l V1 (HL.out.after HW.out) HF.out).mono ?_
  rintro e W1 ⟨d, r, v, s, n, B, R, q, S, rfl, hbo, hB, -, hpl, hb⟩
  replace HX := Lib.hid (HX.out.after hb)
  have HP := Lib.hid hbo.p
  have HO : Hid (w.heap.size ≤ B) := by have := HW.out.size; show _ ≤ _; omega
  replace HW := Lib.hid (HW.out.trans (hb.mono HW.out.size))
  have HG := Lib.hid hpl.good
  have HFW := Lib.hid hbo.few
  clear hbo hpl hb hB
  go_wp2_with (fail)
  refine (live_any W1).mono ?_
  rintro e W2 ⟨rfl, hb⟩
  replace HX := Lib.hid (HX.out.after hb)
  replace HP := Lib.hid (HP.out.after hb)
  replace HW := Lib.hid (HW.out.trans (hb.mono HW.out.size))
  clear hb
  go_wp2_with (fail)
  refine (pvols HP.out HG.out (by decide) (by have := HFW.out.1; omega)).mono ?_
  rintro e W3 ⟨sl1, K1, rfl, hv1, hK1, hb⟩
  replace HX := Lib.hid (HX.out.after hb)
  replace HP := Lib.hid (HP.out.after hb)
  replace HW := Lib.hid (HW.out.trans (hb.mono HW.out.size))
  have HV1 := Lib.hid hv1
  have HK1 := Lib.hid hK1
  clear hb hv1 hK1
  have hcx := HX.out
  go_wp2_with (refine wpList_got rfl (loadC hcx rfl rfl) ?_)
  clear hcx
  refine (do_model HP.out x).mono ?_
  rintro e W4 ⟨rfl, hp4, hb4, hc4⟩
  obtain ⟨T, hT⟩ : ∃ T, (doS S x).2 = T := ⟨_, rfl⟩
  obtain ⟨res, hres⟩ : ∃ res, (doS S x).1 = res := ⟨_, rfl⟩
  have hkp : ∀ y ∈ S.core.vols, KeepsV x res.err T.core.vols y := fun y hy => by
    rw [← hres, ← hT]
    exact do_keeps HP.out.inv x (vol_in HP.out.inv.vols hy)
  have hmr : T.core.vols.length ≤ S.core.vols.length + 1 := hT ▸ do_more S x
  have hgd : Good 61 T.core := hT ▸ HG.out.run x
  rw [hT] at hp4
  rw [hres]
  obtain ⟨V4, hs4, hb4', hl4⟩ := boxR W4 zeroR rfl res
  replace HX := Lib.hid ((show BoxC W4 (w.heap.size + 1) x from hc4 _ _ _ _ HX.out).after hl4)
  replace HV1 := Lib.hid ((VOwn.cells HV1.out hc4).after hl4)
  have HP4 := Lib.hid (hp4.after hl4)
  replace HW : Hid (Below w.heap.size w V4) := by
    have h1 := HW.out.trans (hb4.mono HO.out)
    exact h1.trans (hl4.mono h1.size)
  have HR := Lib.hid hb4'
  have HKP := Lib.hid hkp
  have HMR := Lib.hid hmr
  have HGT := Lib.hid hgd
  clear hp4 hb4 hc4 hT hres hmr hgd hb4' hl4 HP
  go_wp2_with (refine wpList_skip rfl (hs4 rfl rfl rfl) ?_)
  clear hs4
  refine (pvols HP4.out HGT.out (by decide) (by have := HFW.out.1; have := HMR.out; omega)).mono ?_
  rintro e W5 ⟨sl2, K2, rfl, hv2, hK2, hb⟩
  replace HX := Lib.hid (HX.out.after hb)
  replace HV1 := Lib.hid (HV1.out.after hb)
  replace HR := Lib.hid (HR.out.after hb)
  replace HW := Lib.hid (HW.out.trans (hb.mono HW.out.size))
  have HV2 := Lib.hid hv2
  have HK2 := Lib.hid hK2
  clear hb hv2 hK2 HP4
  obtain ⟨R1, hR1⟩ : ∃ R1, W2.heap.size = R1 := ⟨_, rfl⟩
  obtain ⟨R2, hR2⟩ : ∃ R2, V4.heap.size = R2 := ⟨_, rfl⟩
  obtain ⟨rb, hrb⟩ : ∃ rb, W4.heap.size = rb := ⟨_, rfl⟩
  rw [hR1] at HV1
  rw [hR2] at HV2
  rw [hrb] at HR ⊢
  clear hR1 hR2 hrb
  obtain ⟨o1, n1, c1⟩ := sl1
  obtain ⟨o2, n2, c2⟩ := sl2
  obtain rfl : n1 = K1.length := (own_view HV1.out.1).1
  obtain rfl : n2 = K2.length := (own_view HV2.out.1).1
  have hk1 : K1.length = S.core.vols.length := by rw [← HK1.out, List.length_map]
  have hk2 : K2.length = T.core.vols.length := by rw [← HK2.out, List.length_map]
  have hl1 : K1.length ≤ 64 := by have := HFW.out.1; omega
  have hl2 : K2.length ≤ K1.length + 1 := by have := HMR.out; omega
  clear hk1 hk2
  unfold encSl
  go_wp2
  go_loopw [13] (fun iv wr => ∃ i : Nat, iv = .int .i64 (i : Int) ∧ i ≤ K1.length ∧ Below W5.heap.size W5 wr) (fun iv _ => K1.length - (RowKit.intOf iv).toNat)
  case atStart => exact ⟨0, rfl, Nat.zero_le _, Below.refl _ _⟩
  case round =>
    obtain ⟨i, rfl, hi, hlow⟩ := hrel
    have HLW := Lib.hid hlow
    clear hlow
    by_cases hil : i < K1.length
    · have hil' : (i : Int) < (K1.length : Int) := by omega
      obtain ⟨⟨y, t⟩, hy⟩ : ∃ y, K1[i]? = some y := ⟨_, List.getElem?_eq_getElem hil⟩
      have hym : y ∈ S.core.vols := by rw [← HK1.out]; exact List.mem_map.2 ⟨(y, t), List.mem_of_getElem? hy, rfl⟩
      have hkp := HKP.out y hym
      obtain ⟨g1, k1, -, hr1, hst⟩ := vown_row (HV1.out.after HLW.out) hy
      dsimp only at k1 hr1 hst
      subst k1
      have HROW : Hid (∀ V, VOwn V R1 ⟨some ⟨g1, 0, none⟩, K1.length, c1⟩ K1 → World.rangeAt V g1 (i * 5) (cellsDV y t).toList) := fun V hV => by
        obtain ⟨g, k, -, h, -⟩ := vown_row hV hy
        cases k
        exact h
      have htn : t.n = y.nodes.length := hst.1
      have HTN := Lib.hid htn
      have y0 : wr.cell? ⟨g1, i * 5, none⟩ = some (.string y.name) := hr1 0 _ rfl
      have HFD := Lib.hid (find_any ⟨o2, K2.length, c2⟩ K2 R2 y.name wr (HV2.out.after HLW.out) (by omega))
      clear hy hym hr1 hst htn
      go_wp2_with (fail)
      clear y0
      refine HFD.out.mono ?_
      rintro e W6 ⟨z, f, rfl, hfd, hb6⟩
      have hlw6 := HLW.out.trans (hb6.mono HLW.out.size)
      obtain ⟨V6, hs6, hbz, hl6⟩ := boxY W6 zeroY rfl z
      have hlw := hlw6.trans (hl6.mono hlw6.size)
      have HLV := Lib.hid hlw
      have HZ := Lib.hid hbz
      have HX6 := Lib.hid (HX.out.after hlw)
      have HR6 := Lib.hid (HR.out.after hlw)
      have HV6 := Lib.hid (HV1.out.after hlw)
      unfold KeepsV at hkp
      rw [← HK2.out] at hkp
      cases hvo : volOf (K2.map (·.1)) y.name with
      | none =>
        rw [hvo] at hkp
        obtain ⟨k1, k2, k3, k4⟩ := hkp
        obtain ⟨rfl, rfl⟩ := finds_none hvo hfd
        have HQ1 := Lib.hid k1
        have HQ2 := Lib.hid k2
        have HQ3 := Lib.hid k3
        have HQ4 : Hid (t.n = 0) := by show _ = _; rw [HTN.out, k4]; rfl
        clear hvo hfd k1 k2 k3 k4 hb6 hlw6 hbz hl6 hlw HFD
        go_wp2_with (refine wpList_skip rfl (hs6 rfl rfl rfl) ?_)
        clear hs6
        go_upto_region 12 with (fail)
        refine wp_region_held_drew (S := fun V => BoxC V (w.heap.size + 1) x ∧ BoxR V rb res ∧ VOwn V R1 ⟨some ⟨g1, 0, none⟩, K1.length, c1⟩ K1 ∧ Below W5.heap.size W5 V) (by kernel_rfl) ⟨HX6.out, HR6.out, HV6.out, HLV.out.drew⟩ (fun _ => ?_)
        refine HeldBy.gen (fun V => BoxC V (w.heap.size + 1) x ∧ BoxR V rb res ∧ VOwn V R1 ⟨some ⟨g1, 0, none⟩, K1.length, c1⟩ K1 ∧ Below W5.heap.size W5 V) ⟨HX6.out, HR6.out, HV6.out, HLV.out.drew⟩ ?_
        clear HX6 HR6 HV6 HLV
        rintro U0 HS
        refine HeldBy.tn (i := 0) rfl HS ?_
        refine HeldBy.tk (i := 1) (v := .int .u8 2) rfl (fun V hV => by have hc := hV.1.c0; rw [HQ1.out] at hc; first | (go_simp; rfl) | (go_simp; done)) HS ?_
        refine HeldBy.tk (i := 2) (v := .bool false) rfl (fun _ _ => by first | (go_simp; rfl) | (go_simp; done)) HS ?_
        refine HeldBy.tn (i := 3) rfl HS ?_
        refine HeldBy.tn (i := 4) rfl HS ?_
        refine HeldBy.tk (i := 5) (v := .string y.name) rfl (fun V hV => by have hc := hV.1.c1; rw [HQ2.out] at hc; first | (go_simp; rfl) | (go_simp; done)) HS ?_
        refine HeldBy.tn (i := 6) rfl HS ?_
        refine HeldBy.tn (i := 7) rfl HS ?_
        refine HeldBy.tn (i := 8) rfl HS ?_
        refine HeldBy.tn (i := 9) rfl HS ?_
        refine HeldBy.tk (i := 10) (v := .string y.name) rfl (fun V hV => by have hc : V.cell? ⟨g1, i * 5, none⟩ = some (.string y.name) := HROW.out V hV.2.2.1 0 _ rfl; first | (go_simp; rfl) | (go_simp; done)) HS ?_
        refine HeldBy.tk (i := 11) (v := .bool false) rfl (fun _ _ => exec_neqT rfl rfl rfl (by simp)) HS ?_
        refine HeldBy.tn (i := 12) rfl HS ?_
        refine HeldBy.tn (i := 13) rfl HS ?_
        refine HeldBy.tn (i := 14) rfl HS ?_
        refine HeldBy.tk (i := 15) (v := .int .i64 0) rfl (fun V hV => by have hc := hV.2.1.c0; rw [HQ3.out] at hc; first | (go_simp; rfl) | (go_simp; done)) HS ?_
        refine HeldBy.tk (i := 16) (v := .bool false) rfl (fun _ _ => by first | (go_simp; rfl) | (go_simp; done)) HS ?_
        refine HeldBy.tn (i := 17) rfl HS ?_
        refine HeldBy.tn (i := 18) rfl HS ?_
        refine HeldBy.tn (i := 19) rfl HS ?_
        refine HeldBy.tn (i := 20) rfl HS ?_
        refine HeldBy.tn (i := 21) rfl HS ?_
        refine HeldBy.tn (i := 22) rfl HS ?_
        refine HeldBy.tk (i := 23) (v := .slice t.o 0 t.c) rfl (fun V hV => by have hc := HROW.out V hV.2.2.1 4 (.slice t.o t.n t.c) rfl; rw [HQ4.out] at hc; first | (go_simp; rfl) | (go_simp; done)) HS ?_
        refine HeldBy.tn (i := 24) rfl HS ?_
        refine HeldBy.tn (i := 25) rfl HS ?_
        refine HeldBy.tn (i := 26) rfl HS ?_
        refine wpAnyH_done (by kernel_rfl) ?_ _
        have HL7 := Lib.hid HS.2.2.2
        clear HS
        go_wp2
        go_roundw
        case rel => exact ⟨i + 1, by go_num, by omega, HL7.out⟩
        case measure => simp [RowKit.intOf]; omega
      | some y2 =>
        rw [hvo] at hkp
        obtain ⟨k1, k2, k3, k4⟩ := hkp
        obtain ⟨rfl, hz1, -⟩ := finds_some hvo hfd
        obtain ⟨z1, z2⟩ := z
        dsimp only at hz1
        subst hz1
        have HQ1 : Hid (decide (z1.size < y.size) = false) := decide_eq_false (by omega)
        have HQ2 := Lib.hid k2
        have HQ3 := Lib.hid k3
        have HQ4 := Lib.hid k4
        clear hvo hfd k1 k2 k3 k4 hb6 hlw6 hbz hl6 hlw HFD
        go_wp2_with (refine wpList_skip rfl (hs6 rfl rfl rfl) ?_)
        clear hs6
        go_upto_region 14 with (fail)
        by_cases hgt : y.size < z1.size
        · obtain ⟨q1, q2⟩ := HQ4.out hgt
          have HG1 : Hid (decide (y.size < z1.size) = true) := decide_eq_true hgt
          have HG2 := Lib.hid q1
          have HG3 := Lib.hid q2
          clear q1 q2 hgt HQ4
          refine wp_region_held_drew (S := fun V => BoxC V (w.heap.size + 1) x ∧ BoxY V W6.heap.size (z1, z2) ∧ VOwn V R1 ⟨some ⟨g1, 0, none⟩, K1.length, c1⟩ K1 ∧ Below W5.heap.size W5 V) (by kernel_rfl) ⟨HX6.out, HZ.out, HV6.out, HLV.out.drew⟩ (fun _ => ?_)
          refine HeldBy.gen (fun V => BoxC V (w.heap.size + 1) x ∧ BoxY V W6.heap.size (z1, z2) ∧ VOwn V R1 ⟨some ⟨g1, 0, none⟩, K1.length, c1⟩ K1 ∧ Below W5.heap.size W5 V) ⟨HX6.out, HZ.out, HV6.out, HLV.out.drew⟩ ?_
          clear HX6 HZ HV6 HLV
          rintro U0 HS
          refine HeldBy.tn (i := 0) rfl HS ?_
          refine HeldBy.tk (i := 1) (v := .int .i64 z1.size) rfl (fun V hV => by have hc := hV.2.1.c1; first | (go_simp; rfl) | (go_simp; done)) HS ?_
          refine HeldBy.tn (i := 2) rfl HS ?_
          refine HeldBy.tn (i := 3) rfl HS ?_
          refine HeldBy.tn (i := 4) rfl HS ?_
          refine HeldBy.tn (i := 5) rfl HS ?_
          refine HeldBy.tk (i := 6) (v := .int .i64 y.size) rfl (fun V hV => by have hc := HROW.out V hV.2.2.1 1 _ rfl; first | (go_simp; rfl) | (go_simp; done)) HS ?_
          refine HeldBy.tk (i := 7) (v := .bool false) rfl (fun _ _ => exec_ltI rfl rfl rfl HQ1.out) HS ?_
          refine HeldBy.tn (i := 8) rfl HS ?_
          refine HeldBy.tn (i := 9) rfl HS ?_
          refine HeldBy.tk (i := 10) (v := .string y.zone) rfl (fun V hV => by have hc := hV.2.1.c2; dsimp only at hc; rw [HQ2.out] at hc; first | (go_simp; rfl) | (go_simp; done)) HS ?_
          refine HeldBy.tn (i := 11) rfl HS ?_
          refine HeldBy.tn (i := 12) rfl HS ?_
          refine HeldBy.tn (i := 13) rfl HS ?_
          refine HeldBy.tn (i := 14) rfl HS ?_
          refine HeldBy.tk (i := 15) (v := .string y.zone) rfl (fun V hV => by have hc := HROW.out V hV.2.2.1 2 _ rfl; first | (go_simp; rfl) | (go_simp; done)) HS ?_
          refine HeldBy.tk (i := 16) (v := .bool false) rfl (fun _ _ => exec_neqT rfl rfl rfl (by simp)) HS ?_
          refine HeldBy.tn (i := 17) rfl HS ?_
          refine HeldBy.tn (i := 18) rfl HS ?_
          refine HeldBy.tn (i := 19) rfl HS ?_
          refine HeldBy.tk (i := 20) (v := .int .u64 y.tag) rfl (fun V hV => by have hc := hV.2.1.c3; dsimp only at hc; rw [HQ3.out] at hc; first | (go_simp; rfl) | (go_simp; done)) HS ?_
          refine HeldBy.tn (i := 21) rfl HS ?_
          refine HeldBy.tn (i := 22) rfl HS ?_
          refine HeldBy.tn (i := 23) rfl HS ?_
          refine HeldBy.tn (i := 24) rfl HS ?_
          refine HeldBy.tk (i := 25) (v := .int .u64 y.tag) rfl (fun V hV => by have hc := HROW.out V hV.2.2.1 3 _ rfl; first | (go_simp; rfl) | (go_simp; done)) HS ?_
          refine HeldBy.tk (i := 26) (v := .bool false) rfl (fun _ _ => exec_neqI Try.underlying25 rfl rfl rfl (by simp)) HS ?_
          refine HeldBy.tn (i := 27) rfl HS ?_
          refine HeldBy.tn (i := 28) rfl HS ?_
          refine HeldBy.tn (i := 29) rfl HS ?_
          refine HeldBy.tk (i := 30) (v := .int .i64 z1.size) rfl (fun V hV => by have hc := hV.2.1.c1; first | (go_simp; rfl) | (go_simp; done)) HS ?_
          refine HeldBy.tn (i := 31) rfl HS ?_
          refine HeldBy.tn (i := 32) rfl HS ?_
          refine HeldBy.tn (i := 33) rfl HS ?_
          refine HeldBy.tn (i := 34) rfl HS ?_
          refine HeldBy.tk (i := 35) (v := .int .i64 y.size) rfl (fun V hV => by have hc := HROW.out V hV.2.2.1 1 _ rfl; first | (go_simp; rfl) | (go_simp; done)) HS ?_
          refine HeldBy.tk (i := 36) (v := .bool true) rfl (fun _ _ => exec_gtI rfl rfl rfl HG1.out) HS ?_
          refine HeldBy.tn (i := 37) rfl HS ?_
          refine HeldBy.tn (i := 38) rfl HS ?_
          refine HeldBy.tk (i := 39) (v := .int .u8 5) rfl (fun V hV => by have hc := hV.1.c0; rw [HG2.out] at hc; first | (go_simp; rfl) | (go_simp; done)) HS ?_
          refine HeldBy.tk (i := 40) (v := .bool false) rfl (fun _ _ => by first | (go_simp; rfl) | (go_simp; done)) HS ?_
          refine HeldBy.tn (i := 41) rfl HS ?_
          refine HeldBy.tn (i := 42) rfl HS ?_
          refine HeldBy.tk (i := 43) (v := .int .i64 x.size) rfl (fun V hV => by have hc := hV.2.1.c1; dsimp only at hc; rw [HG3.out] at hc; first | (go_simp; rfl) | (go_simp; done)) HS ?_
          refine HeldBy.tn (i := 44) rfl HS ?_
          refine HeldBy.tk (i := 45) (v := .int .i64 x.size) rfl (fun V hV => by have hc := hV.1.c3; first | (go_simp; rfl) | (go_simp; done)) HS ?_
          refine HeldBy.tk (i := 46) (v := .bool false) rfl (fun _ _ => exec_neqI Try.underlying2 rfl rfl rfl (by simp)) HS ?_
          refine HeldBy.tn (i := 47) rfl HS ?_
          refine HeldBy.tn (i := 48) rfl HS ?_
          refine HeldBy.tn (i := 49) rfl HS ?_
          refine wpAnyH_done (by kernel_rfl) ?_ _
          have HL7 := Lib.hid HS.2.2.2
          clear HS
          go_wp2
          go_roundw
          case rel => exact ⟨i + 1, by go_num, by omega, HL7.out⟩
          case measure => simp [RowKit.intOf]; omega
        · have HG1 : Hid (decide (y.size < z1.size) = false) := decide_eq_false hgt
          clear hgt HQ4
          refine wp_region_held_drew (S := fun V => BoxC V (w.heap.size + 1) x ∧ BoxY V W6.heap.size (z1, z2) ∧ VOwn V R1 ⟨some ⟨g1, 0, none⟩, K1.length, c1⟩ K1 ∧ Below W5.heap.size W5 V) (by kernel_rfl) ⟨HX6.out, HZ.out, HV6.out, HLV.out.drew⟩ (fun _ => ?_)
          refine HeldBy.gen (fun V => BoxC V (w.heap.size + 1) x ∧ BoxY V W6.heap.size (z1, z2) ∧ VOwn V R1 ⟨some ⟨g1, 0, none⟩, K1.length, c1⟩ K1 ∧ Below W5.heap.size W5 V) ⟨HX6.out, HZ.out, HV6.out, HLV.out.drew⟩ ?_
          clear HX6 HZ HV6 HLV
          rintro U0 HS
          refine HeldBy.tn (i := 0) rfl HS ?_
          refine HeldBy.tk (i := 1) (v := .int .i64 z1.size) rfl (fun V hV => by have hc := hV.2.1.c1; first | (go_simp; rfl) | (go_simp; done)) HS ?_
          refine HeldBy.tn (i := 2) rfl HS ?_
          refine HeldBy.tn (i := 3) rfl HS ?_
          refine HeldBy.tn (i := 4) rfl HS ?_
          refine HeldBy.tn (i := 5) rfl HS ?_
          refine HeldBy.tk (i := 6) (v := .int .i64 y.size) rfl (fun V hV => by have hc := HROW.out V hV.2.2.1 1 _ rfl; first | (go_simp; rfl) | (go_simp; done)) HS ?_
          refine HeldBy.tk (i := 7) (v := .bool false) rfl (fun _ _ => exec_ltI rfl rfl rfl HQ1.out) HS ?_
          refine HeldBy.tn (i := 8) rfl HS ?_
          refine HeldBy.tn (i := 9) rfl HS ?_
          refine HeldBy.tk (i := 10) (v := .string y.zone) rfl (fun V hV => by have hc := hV.2.1.c2; dsimp only at hc; rw [HQ2.out] at hc; first | (go_simp; rfl) | (go_simp; done)) HS ?_
          refine HeldBy.tn (i := 11) rfl HS ?_
          refine HeldBy.tn (i := 12) rfl HS ?_
          refine HeldBy.tn (i := 13) rfl HS ?_
          refine HeldBy.tn (i := 14) rfl HS ?_
          refine HeldBy.tk (i := 15) (v := .string y.zone) rfl (fun V hV => by have hc := HROW.out V hV.2.2.1 2 _ rfl; first | (go_simp; rfl) | (go_simp; done)) HS ?_
          refine HeldBy.tk (i := 16) (v := .bool false) rfl (fun _ _ => exec_neqT rfl rfl rfl (by simp)) HS ?_
          refine HeldBy.tn (i := 17) rfl HS ?_
          refine HeldBy.tn (i := 18) rfl HS ?_
          refine HeldBy.tn (i := 19) rfl HS ?_
          refine HeldBy.tk (i := 20) (v := .int .u64 y.tag) rfl (fun V hV => by have hc := hV.2.1.c3; dsimp only at hc; rw [HQ3.out] at hc; first | (go_simp; rfl) | (go_simp; done)) HS ?_
          refine HeldBy.tn (i := 21) rfl HS ?_
          refine HeldBy.tn (i := 22) rfl HS ?_
          refine HeldBy.tn (i := 23) rfl HS ?_
          refine HeldBy.tn (i := 24) rfl HS ?_
          refine HeldBy.tk (i := 25) (v := .int .u64 y.tag) rfl (fun V hV => by have hc := HROW.out V hV.2.2.1 3 _ rfl; first | (go_simp; rfl) | (go_simp; done)) HS ?_
          refine HeldBy.tk (i := 26) (v := .bool false) rfl (fun _ _ => exec_neqI Try.underlying25 rfl rfl rfl (by simp)) HS ?_
          refine HeldBy.tn (i := 27) rfl HS ?_
          refine HeldBy.tn (i := 28) rfl HS ?_
          refine HeldBy.tn (i := 29) rfl HS ?_
          refine HeldBy.tk (i := 30) (v := .int .i64 z1.size) rfl (fun V hV => by have hc := hV.2.1.c1; first | (go_simp; rfl) | (go_simp; done)) HS ?_
          refine HeldBy.tn (i := 31) rfl HS ?_
          refine HeldBy.tn (i := 32) rfl HS ?_
          refine HeldBy.tn (i := 33) rfl HS ?_
          refine HeldBy.tn (i := 34) rfl HS ?_
          refine HeldBy.tk (i := 35) (v := .int .i64 y.size) rfl (fun V hV => by have hc := HROW.out V hV.2.2.1 1 _ rfl; first | (go_simp; rfl) | (go_simp; done)) HS ?_
          refine HeldBy.tk (i := 36) (v := .bool false) rfl (fun _ _ => exec_gtI rfl rfl rfl HG1.out) HS ?_
          refine HeldBy.tn (i := 37) rfl HS ?_
          refine HeldBy.skip (i := 38) rfl (by kernel_rfl) (by kernel_rfl) (by kernel_rfl) (fun _ _ _ h => h) (by rfl) (by go_simp; rfl) HS ?_
          refine HeldBy.skip (i := 39) rfl (by kernel_rfl) (by kernel_rfl) (by kernel_rfl) (fun _ _ _ h => h) (by rfl) (by go_simp; rfl) HS ?_
          refine HeldBy.skip (i := 40) rfl (by kernel_rfl) (by kernel_rfl) (by kernel_rfl) (fun _ _ _ h => h) (by rfl) (by go_simp; rfl) HS ?_
          refine HeldBy.skip (i := 41) rfl (by kernel_rfl) (by kernel_rfl) (by kernel_rfl) (fun _ _ _ h => h) (by rfl) (by go_simp; rfl) HS ?_
          refine HeldBy.skip (i := 42) rfl (by kernel_rfl) (by kernel_rfl) (by kernel_rfl) (fun _ _ _ h => h) (by rfl) (by go_simp; rfl) HS ?_
          refine HeldBy.skip (i := 43) rfl (by kernel_rfl) (by kernel_rfl) (by kernel_rfl) (fun _ _ _ h => h) (by rfl) (by go_simp; rfl) HS ?_
          refine HeldBy.skip (i := 44) rfl (by kernel_rfl) (by kernel_rfl) (by kernel_rfl) (fun _ _ _ h => h) (by rfl) (by go_simp; rfl) HS ?_
          refine HeldBy.skip (i := 45) rfl (by kernel_rfl) (by kernel_rfl) (by kernel_rfl) (fun _ _ _ h => h) (by rfl) (by go_simp; rfl) HS ?_
          refine HeldBy.skip (i := 46) rfl (by kernel_rfl) (by kernel_rfl) (by kernel_rfl) (fun _ _ _ h => h) (by rfl) (by go_simp; rfl) HS ?_
          refine HeldBy.skip (i := 47) rfl (by kernel_rfl) (by kernel_rfl) (by kernel_rfl) (fun _ _ _ h => h) (by rfl) (by go_simp; rfl) HS ?_
          refine HeldBy.tn (i := 48) rfl HS ?_
          refine HeldBy.tn (i := 49) rfl HS ?_
          refine wpAnyH_done (by kernel_rfl) ?_ _
          have HL7 := Lib.hid HS.2.2.2
          clear HS
          go_wp2
          go_roundw
          case rel => exact ⟨i + 1, by go_num, by omega, HL7.out⟩
          case measure => simp [RowKit.intOf]; omega
    · have hil' : ¬ (i : Int) < (K1.length : Int) := by omega
      have HXX := Lib.hid (HW.out.trans (HLW.out.mono HW.out.size))
      have hle : (K2.length : Int) ≤ (K1.length : Int) + 1 := by omega
      go_wp2
      go_ret
      refine ⟨?_, HXX.out⟩
      first | rfl | simp [hle]
end Go.Proofs.Ytbgfccanbgpjiaa.O.I
