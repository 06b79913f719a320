/- Own work. -/
import Derived.Test.YtbgfccanbgpjiaaDJIRFork
import Derived.Test.YtbgfccanbgpjiaaDJRangeMap
namespace Go.Proofs.Ytbgfccanbgpjiaa.O.I
open Go Go.RowKit Go.Lib KM
attribute [local go_sem] Oper.semAt_some
def BaseV (l : List DV) (k : ByteArray) (t z : Int) : Prop := (∃ x, volOf l k = some x ∧ t = x.tag ∧ z = x.size) ∨ (volOf l k = none ∧ t = 0 ∧ z = 0)
def BaseS (C : Core) (k : ByteArray) (i : Nat) (t z : Int) : Prop := ((∀ j y, j < i → C.snaps[j]? = some y → y.name ≠ k) ∧ BaseV C.vols k t z) ∨ ∃ y, snapOf C.snaps k = some y ∧ t = y.tag ∧ z = y.size
theorem baseS_src {j : Nat} {C : Core} (hg : Good j C) {k : ByteArray} {t z : Int} (h : BaseS C k C.snaps.length t z) {q : Ct} (hs : srcOf C k = some q) : t = q.tag ∧ z = q.size := by
  have nE : nm E0 = true → False := fun h => absurd h (by decide)
  unfold srcOf at hs
  by_cases hk : k = E0
  · rw [if_pos hk] at hs
    have e : zeroK = q := Option.some.inj hs
    subst e
    subst hk
    rcases h with ⟨-, ⟨x, hx, -, -⟩ | ⟨-, h1, h2⟩⟩ | ⟨y, hy, -, -⟩
    · exact (nE (volOf_name hx ▸ hg.nameV x (List.mem_of_find?_eq_some hx))).elim
    · exact ⟨h1, h2⟩
    · have h3 : y.name = E0 := by have := List.find?_some hy; simpa using this
      exact (nE (h3 ▸ hg.nameS y (List.mem_of_find?_eq_some hy))).elim
  · rw [if_neg hk] at hs
    rcases h with ⟨hn, hb⟩ | ⟨y, hy, h1, h2⟩
    · have h0 : snapOf C.snaps k = none := List.find?_eq_none.2 fun y hy => by
        obtain ⟨i, hi⟩ := List.getElem?_of_mem hy
        simpa using hn i y (set_at hi) hi
      rw [h0] at hs
      rcases hb with ⟨x, hx, h1, h2⟩ | ⟨hx, -, -⟩
      · have hs' : (volOf C.vols k).map (fun x => (⟨x.size, x.tag⟩ : Ct)) = some q := hs
        rw [hx] at hs'
        have e : (⟨x.size, x.tag⟩ : Ct) = q := Option.some.inj hs'
        subst e
        exact ⟨h1, h2⟩
      · have hs' : (volOf C.vols k).map (fun x => (⟨x.size, x.tag⟩ : Ct)) = some q := hs
        rw [hx] at hs'
        cases hs'
    · rw [hy] at hs
      have e : (⟨y.size, y.tag⟩ : Ct) = q := Option.some.inj hs
      subst e
      exact ⟨h1, h2⟩
set_option maxRecDepth 100000 in
set_option maxHeartbeats 64000000 in
theorem begins_any (a b c : Int) (ha : U8 a) (hb : U8 b) (hc : U8 c) (u : Value) (l : List Dd) (x : Cl) (w : World) (hl : DeedsIn w u l) (hf : ∀ x ∈ l, FitC x.c) :
    Calls Try.prog 9 #[encN a b c, u, encC x] w fun e w' => e = .returned (.bool true) ∧ Below w.heap.size w w' := by
  have HL := Lib.hid hl
  have HF := Lib.hid hf
  have HA := Lib.hid ha
  have HBB := Lib.hid hb
  have HCC := Lib.hid hc
  clear hl hf ha hb hc
  rw [show encN a b c = .agg #[.int .u8 a, .int .u8 b, .int .u8 c] from rfl, show encC x = .agg (cellsC x) from rfl]
  go_enter Try.func9, Try.ntmps9
  go_upto_region 1 with (fail)
  refine wp_gen (fun V => BoxN V w.heap.size a b c ∧ BoxC V (w.heap.size + 1) x ∧ Below w.heap.size w V) ⟨(heap2 w _ _).1, (heap2 w _ _).2, below2 w _ _⟩ ?_
  rintro V1 ⟨hn1, hx1, hw1⟩
  have HX := Lib.hid hx1
  have HW := Lib.hid hw1
  clear hx1 hw1
  go_wp2_with (refine wpList_got rfl (loadN hn1 rfl rfl) ?_)
  clear hn1
  refine (play_any a b c HA.out HBB.out HCC.out u l V1 (HL.out.after HW.out) HF.out).mono ?_
  rintro e W1 ⟨d, r, v, s, n, B, R, q, S, rfl, hbo, hB, -, hpl, hb⟩
  replace HX := Lib.hid (HX.out.after hb)
  have HP := Lib.hid hbo.p
  have HO : Hid (w.heap.size ≤ B) := by have := HW.out.size; show _ ≤ _; omega
  replace HW := Lib.hid (HW.out.trans (hb.mono HW.out.size))
  have HG := Lib.hid hpl.good
  have HFW := Lib.hid hbo.few
  have HSS := Lib.hid hpl.snap
  clear hbo hpl hb hB
  go_wp2_with (fail)
  refine (live_any W1).mono ?_
  rintro e W2 ⟨rfl, hb⟩
  replace HX := Lib.hid (HX.out.after hb)
  replace HP := Lib.hid (HP.out.after hb)
  replace HW := Lib.hid (HW.out.trans (hb.mono HW.out.size))
  clear hb
  obtain ⟨vb, tg, nu, si, zo, no, so⟩ := x
  have y0 : W2.cell? ⟨w.heap.size + 1, 0, none⟩ = some (.int .u8 vb) := HX.out.c0
  have f0 := HX.out.free 0
  obtain ⟨V3, hV3⟩ : ∃ V3, W2.setCell ⟨w.heap.size + 1, 0, none⟩ (.int .u8 1) = V3 := ⟨_, rfl⟩
  have hcb3 : BoxC V3 (w.heap.size + 1) ⟨1, tg, nu, si, zo, no, so⟩ := hV3 ▸ HX.out.s0 1
  have hw3 : Below w.heap.size w V3 := hV3 ▸ HW.out.setCell (Nat.le_succ _) _
  have hp3 : PAt d r v s n B V3 S := HP.out.cellset HX.out (fun g hg => by rw [← hV3]; exact heap_setCell_other _ ⟨w.heap.size + 1, 0, none⟩ g _ hg)
  have HC := Lib.hid hcb3
  replace HW := Lib.hid hw3
  replace HP := Lib.hid hp3
  have HV3 := Lib.hid hV3
  have HON := Lib.hid hp3.once
  have HINV := Lib.hid hp3.inv.snaps
  clear hcb3 hw3 hp3 hV3 HX
  go_upto_region 5 with (fail)
  rw [HV3.out]
  clear y0 f0 HV3
  go_wp2_with (fail)
  refine (pvols HP.out HG.out (by decide) (few_vols HFW.out)).mono ?_
  rintro e W3 ⟨sl, K, rfl, hv, hK, hb⟩
  replace HC := Lib.hid (HC.out.after hb)
  replace HP := Lib.hid (HP.out.after hb)
  replace HW := Lib.hid (HW.out.trans (hb.mono HW.out.size))
  obtain ⟨R3, hR3⟩ : ∃ R3, V3.heap.size = R3 := ⟨_, rfl⟩
  rw [hR3] at hv
  have HV := Lib.hid hv
  have HK := Lib.hid hK
  clear hv hK hb hR3
  go_wp2_with (fail)
  refine (psnaps HP.out HG.out (by have := HFW.out.2; omega)).mono ?_
  rintro e W4 ⟨s5, rfl, hs5, hb⟩
  replace HC := Lib.hid (HC.out.after hb)
  replace HP := Lib.hid (HP.out.after hb)
  replace HW := Lib.hid (HW.out.trans (hb.mono HW.out.size))
  replace HV := Lib.hid (VOwn.after HV.out hb)
  obtain ⟨R4, hR4⟩ : ∃ R4, W3.heap.size = R4 := ⟨_, rfl⟩
  rw [hR4] at hs5
  have HS5 := Lib.hid hs5
  clear hs5 hb hR4
  have c1 := HC.out.c1
  dsimp only at c1
  go_wp2_with (fail)
  clear c1
  refine (find_any sl K R3 tg W4 HV.out (by have h6 := congrArg List.length HK.out; rw [List.length_map] at h6; have := few_vols' HFW.out; omega)).mono ?_
  rintro e W5 ⟨y0, f0, rfl, hf6, hb⟩
  have HFD := Lib.hid (fnd_of (VOwn.after HV.out hb) HK.out hf6)
  replace HC := Lib.hid (HC.out.after hb)
  replace HP := Lib.hid (HP.out.after hb)
  replace HW := Lib.hid (HW.out.trans (hb.mono HW.out.size))
  replace HV := Lib.hid (VOwn.after HV.out hb)
  replace HS5 := Lib.hid (SOwn.after HS5.out hb)
  clear hf6 hb
  obtain ⟨V6, sy6, -, hl6⟩ := boxY W5 zeroY rfl y0
  replace HC := Lib.hid (HC.out.after hl6)
  replace HP := Lib.hid (HP.out.after hl6)
  replace HW := Lib.hid (HW.out.trans (hl6.mono HW.out.size))
  replace HV := Lib.hid (VOwn.after HV.out hl6)
  replace HS5 := Lib.hid (SOwn.after HS5.out hl6)
  clear hl6
  go_upto_region 7 with (refine wpList_skip rfl (sy6 rfl rfl rfl) ?_)
  clear sy6
  rcases HFD.out with ⟨rfl, -, -⟩ | ⟨rfl, hvo, -⟩
  · clear HFD HP HV HS5
    refine wp_region_held_drew (S := fun V => BoxC V (w.heap.size + 1) ⟨1, tg, nu, si, zo, no, so⟩) (by kernel_rfl) HC.out (fun _ => ?_)
    refine HeldBy.gen (fun V => (BoxC V (w.heap.size + 1) ⟨1, tg, nu, si, zo, no, so⟩) ∧ (Below w.heap.size w V)) ⟨HC.out, HW.out.drew⟩ ?_
    clear HC HW
    rintro U0 ⟨HS, HW⟩
    refine HeldBy.tn (i := 0) rfl HS ?_
    refine HeldBy.tn (i := 1) rfl HS ?_
    refine HeldBy.skip (i := 2) rfl (by kernel_rfl) (by kernel_rfl) (by kernel_rfl) (fun _ _ _ h => h) (by rfl) (by go_simp; rfl) HS ?_
    refine HeldBy.skip (i := 3) rfl (by kernel_rfl) (by kernel_rfl) (by kernel_rfl) (fun _ _ _ h => h) (by rfl) (by go_simp; rfl) HS ?_
    refine HeldBy.skip (i := 4) rfl (by kernel_rfl) (by kernel_rfl) (by kernel_rfl) (fun _ _ _ h => h) (by rfl) (by go_simp; rfl) HS ?_
    refine HeldBy.skip (i := 5) rfl (by kernel_rfl) (by kernel_rfl) (by kernel_rfl) (fun _ _ _ h => h) (by rfl) (by go_simp; rfl) HS ?_
    refine HeldBy.skip (i := 6) rfl (by kernel_rfl) (by kernel_rfl) (by kernel_rfl) (fun _ _ _ h => h) (by rfl) (by go_simp; rfl) HS ?_
    refine HeldBy.skip (i := 7) rfl (by kernel_rfl) (by kernel_rfl) (by kernel_rfl) (fun _ _ _ h => h) (by rfl) (by go_simp; rfl) HS ?_
    refine HeldBy.skip (i := 8) rfl (by kernel_rfl) (by kernel_rfl) (by kernel_rfl) (fun _ _ _ h => h) (by rfl) (by go_simp; rfl) HS ?_
    refine HeldBy.skip (i := 9) rfl (by kernel_rfl) (by kernel_rfl) (by kernel_rfl) (fun _ _ _ h => h) (by rfl) (by go_simp; rfl) HS ?_
    refine HeldBy.skip (i := 10) rfl (by kernel_rfl) (by kernel_rfl) (by kernel_rfl) (fun _ _ _ h => h) (by rfl) (by go_simp; rfl) HS ?_
    refine HeldBy.tn (i := 11) rfl HS ?_
    refine wpAnyH_done (by kernel_rfl) ?_ _
    have HX9 := Lib.hid HW
    clear HS HW
    go_wp2
    go_ret
    exact ⟨rfl, HX9.out⟩
  · have HVN := Lib.hid hvo
    obtain ⟨sn, hsn⟩ : ∃ y, seenN S 1 tg = y := ⟨_, rfl⟩
    have HSN := Lib.hid hsn
    obtain ⟨bg, hbg⟩ : ∃ b, decide (nu ≤ sn) = b := ⟨_, rfl⟩
    have HBG := Lib.hid hbg
    clear hvo hsn hbg HFD
    refine wp_region_held_drew (S := fun V => BoxC V (w.heap.size + 1) ⟨1, tg, nu, si, zo, no, so⟩) (by kernel_rfl) HC.out (fun _ => ?_)
    refine HeldBy.gen (fun V => (BoxC V (w.heap.size + 1) ⟨1, tg, nu, si, zo, no, so⟩) ∧ (PAt d r v s n B V S) ∧ (VOwn V R3 sl K) ∧ (SOwn V R4 s5 S.core.snaps) ∧ (Below w.heap.size w V)) ⟨HC.out, HP.out.drew, HV.out, HS5.out, HW.out.drew⟩ ?_
    clear HC HP HV HS5 HW
    rintro U0 ⟨HS, HP, HV, HS5, HW⟩
    refine HeldBy.tn (i := 0) rfl HS ?_
    refine HeldBy.tn (i := 1) rfl HS ?_
    refine HeldBy.tn (i := 2) rfl HS ?_
    refine HeldBy.tn (i := 3) rfl HS ?_
    refine HeldBy.tk (i := 4) (v := .int .u8 1) rfl (fun V hV => by have hc := hV.c0; first | (go_simp; rfl) | (go_simp; done)) HS ?_
    refine HeldBy.tn (i := 5) rfl HS ?_
    refine HeldBy.tk (i := 6) (v := .string tg) rfl (fun V hV => by have hc := hV.c1; first | (go_simp; rfl) | (go_simp; done)) HS ?_
    refine HeldBy.tn (i := 8) rfl HS ?_
    refine HeldBy.tk (i := 9) (v := .int .u64 nu) rfl (fun V hV => by have hc := hV.c2; first | (go_simp; rfl) | (go_simp; done)) HS ?_
    refine HeldBy.call (i := 7) (v := .int .u64 sn) rfl (by kernel_rfl) (by rfl) (by first | (go_simp; done) | (go_simp; first | exact ⟨rfl, rfl⟩ | rfl)) (by first | (go_simp; rfl) | (go_simp; done)) ?_
    refine (pseen HP 1 tg HSN.out).mono ?_
    rintro e U1 ⟨he, hb⟩
    have hs1 := HS.after hb
    have HP1 := Lib.hid (HP.after hb)
    have HV1 := Lib.hid (VOwn.after HV hb)
    have HS51 := Lib.hid (SOwn.after HS5 hb)
    have HW1 := Lib.hid (HW.trans (hb.mono HW.size))
    refine ⟨he, hs1, ?_⟩
    clear he HS HP HV HS5 HW hb
    refine HeldBy.tk (i := 10) (v := .bool bg) rfl (fun _ _ => exec_geU rfl rfl rfl HBG.out) hs1 ?_
    refine HeldBy.tn (i := 11) rfl hs1 ?_
    refine wpAnyH_done (by kernel_rfl) ?_ _
    cases bg with
    | true =>
      clear hs1 HP1 HV1 HS51
      go_wp2
      go_ret
      exact ⟨rfl, HW1.out⟩
    | false =>
      have hlt : seenN S 1 tg < nu := by have h1 := of_decide_eq_false HBG.out; rw [HSN.out]; omega
      have hcx := hs1
      have HC := Lib.hid hs1
      go_wp2_with (refine wpList_got rfl (loadC hcx rfl rfl) ?_)
      clear hcx hs1
      refine (do_model HP1.out ⟨1, tg, nu, si, zo, no, so⟩).mono ?_
      rintro e W7 ⟨rfl, hp4, hb4, hc4⟩
      have hmk : ((doS S ⟨1, tg, nu, si, zo, no, so⟩).1.err ≠ 0 ∧ volOf (doS S ⟨1, tg, nu, si, zo, no, so⟩).2.core.vols tg = none) ∨ ∃ k, srcOf S.core so = some k ∧ k.size ≤ si ∧ (doS S ⟨1, tg, nu, si, zo, no, so⟩).1 = ⟨0, si, zo, k.tag⟩ ∧ volOf (doS S ⟨1, tg, nu, si, zo, no, so⟩).2.core.vols tg = some ⟨tg, si, zo, k.tag, []⟩ := by
        rcases do_makes HON.out (c := ⟨1, tg, nu, si, zo, no, so⟩) rfl HVN.out hlt with h1 | ⟨k, h1, h2, -, h3, h4⟩
        · exact .inl h1
        · exact .inr ⟨k, h1, h2, h3, h4⟩
      obtain ⟨T, hT⟩ : ∃ T, (doS S ⟨1, tg, nu, si, zo, no, so⟩).2 = T := ⟨_, rfl⟩
      obtain ⟨res, hres⟩ : ∃ res, (doS S ⟨1, tg, nu, si, zo, no, so⟩).1 = res := ⟨_, rfl⟩
      have hgt : Good 61 T.core := hT ▸ HG.out.run ⟨1, tg, nu, si, zo, no, so⟩
      have hft := do_few HFW.out ⟨1, tg, nu, si, zo, no, so⟩
      rw [hT] at hp4 hmk hft
      rw [hres] at hmk ⊢
      obtain ⟨V8, hs8, hr8, hl8⟩ := boxR W7 zeroR rfl res
      replace HC := Lib.hid ((show BoxC W7 (w.heap.size + 1) ⟨1, tg, nu, si, zo, no, so⟩ from hc4 _ _ _ _ HC.out).after hl8)
      have HV := Lib.hid (VOwn.after (VOwn.cells HV1.out hc4) hl8)
      have HS5 := Lib.hid (SOwn.after (show SOwn W7 R4 s5 S.core.snaps from own_cells HS51.out hc4) hl8)
      have HP := Lib.hid (hp4.after hl8)
      have HW : Hid (Below w.heap.size w V8) := by
        have h1 := HW1.out.trans (hb4.mono HO.out)
        exact h1.trans (hl8.mono h1.size)
      have HR := Lib.hid hr8
      have HMK := Lib.hid hmk
      have HGT := Lib.hid hgt
      have HLV : Hid (T.core.vols.length ≤ 1000) := by have := hft.1; show _ ≤ _; omega
      clear hp4 hb4 hc4 hT hres hmk hgt hft hr8 hl8 HP1 HV1 HS51 HW1 hlt
      go_upto_region 10 with (refine wpList_skip rfl (hs8 rfl rfl rfl) ?_)
      clear hs8
      refine wp_region_held_drew (S := fun V => BoxC V (w.heap.size + 1) ⟨1, tg, nu, si, zo, no, so⟩ ∧ Below w.heap.size w V) (by kernel_rfl) ⟨HC.out, HW.out.drew⟩ (fun _ => ?_)
      refine HeldBy.gen (fun V => (BoxC V (w.heap.size + 1) ⟨1, tg, nu, si, zo, no, so⟩ ∧ Below w.heap.size w V) ∧ (PAt d r v s n B V T) ∧ (VOwn V R3 sl K) ∧ (SOwn V R4 s5 S.core.snaps) ∧ (BoxR V W7.heap.size res)) ⟨⟨HC.out, HW.out.drew⟩, HP.out.drew, HV.out, HS5.out, HR.out⟩ ?_
      clear HC HW HP HV HS5 HR
      rintro U0 ⟨HS, HP, HV, HS5, HR⟩
      refine HeldBy.tn (i := 0) rfl HS ?_
      refine HeldBy.tn (i := 2) rfl HS ?_
      refine HeldBy.tk (i := 3) (v := .string tg) rfl (fun V hV => by have hc := hV.1.c1; first | (go_simp; rfl) | (go_simp; done)) HS ?_
      have HSW : ∀ V, Below U0.heap.size U0 V → BoxC V (w.heap.size + 1) ⟨1, tg, nu, si, zo, no, so⟩ ∧ Below w.heap.size w V := fun V hb => ⟨HS.1.after hb, HS.2.trans (hb.mono HS.2.size)⟩
      refine with_actL (fun a0 ha0 => ?_)
      refine HeldBy.Flow1.bare (R := U0.heap.size) (f := flY 15) (A := fun a w' => a = a0 ∧ Below U0.heap.size U0 w') ?_ a0 U0 ⟨rfl, Below.refl _ _⟩
      refine HeldBy.Flow1.step (i := 1) (A' := fun a w' => ∃ v1, a = a0.put (some 64) v1 ∧ (∃ sl K R1, v1 = encSl sl ∧ VOwn w' R1 sl K ∧ K.map (·.1) = T.core.vols) ∧ Below U0.heap.size U0 w')
        rfl rfl rfl rfl rfl rfl (by kernel_rfl) (by kernel_rfl) (by decide) (by kernel_rfl) (fun a w _ => makes_y rfl a w) (fun a w h => ⟨h.1, h.2.alloc h.2.size _⟩) (fun a w h => HSW w h.2) (fun a w h => HSW w h.choose_spec.2.2) (fun a w h => h.2.size) ?s1 ?_
      case s1 =>
        rintro a w' ⟨ha, hb⟩
        subst ha
        refine .inr ⟨22, #[.pointer (some ⟨d, 0, none⟩)], ?_, (pvols (HP.after hb) HGT.out (by decide) HLV.out).mono ?_⟩
        · rw [ha0]
          first | (go_simp; done) | (go_simp; first | exact ⟨rfl, rfl⟩ | rfl)
        · rintro e w2 ⟨sl, K, rfl, hv, hK, hb2⟩
          exact ⟨_, rfl, ⟨_, rfl, ⟨sl, K, _, rfl, hv, hK⟩, hb.trans (hb2.mono hb.size)⟩, fun p' hp' hx' => (hb2.block p' (Array.getElem?_eq_some_iff.1 hx').1).trans hx'⟩
      refine HeldBy.Flow1.step (i := 4) (A' := fun a w' => ∃ v1 y f, a = (a0.put (some 64) v1).put (some 67) (.tuple #[encY y, .bool f]) ∧ Fnd w' T.core.vols tg y f ∧ Below U0.heap.size U0 w')
        rfl rfl rfl rfl rfl rfl (by kernel_rfl) (by kernel_rfl) (by decide) (by kernel_rfl) (fun a w _ => makes_y rfl a w) (fun a w h => ?a4) (fun a w h => HSW w h.choose_spec.2.2) (fun a w h => HSW w h.choose_spec.choose_spec.choose_spec.2.2) (fun a w h => h.choose_spec.2.2.size) ?s4 ?_
      case a4 =>
        obtain ⟨v1, h1, ⟨sl, K, R1, h2, h3, h4⟩, h5⟩ := h
        exact ⟨v1, h1, ⟨sl, K, R1, h2, h3.after ((Below.refl _ _).alloc (Nat.le_refl _) _), h4⟩, h5.alloc h5.size _⟩
      case s4 =>
        rintro a w' ⟨v1, h1, ⟨sl, K, R1, h2, h3, h4⟩, h5⟩
        subst h1
        subst h2
        refine .inr ⟨29, #[encSl sl, .string tg], ?_, (find_any sl K R1 tg w' h3 (by have h6 := congrArg List.length h4; rw [List.length_map] at h6; have := HLV.out; omega)).mono ?_⟩
        · rw [ha0]
          first | (go_simp; done) | (go_simp; first | exact ⟨rfl, rfl⟩ | rfl)
        · rintro e w2 ⟨y, f, rfl, hf, hb2⟩
          exact ⟨_, rfl, ⟨_, y, f, rfl, fnd_of (h3.after hb2) h4 hf, h5.trans (hb2.mono h5.size)⟩, fun p' hp' hx' => (hb2.block p' (Array.getElem?_eq_some_iff.1 hx').1).trans hx'⟩
      refine HeldBy.Flow1.step (i := 5) (A' := fun a w' => ∃ v1 y f, a = ((a0.put (some 64) v1).put (some 67) (.tuple #[encY y, .bool f])).put (some 62) (.tuple #[encY y, .bool f]) ∧ Fnd w' T.core.vols tg y f ∧ Below U0.heap.size U0 w')
        rfl rfl rfl rfl rfl rfl (by kernel_rfl) (by kernel_rfl) (by decide) (by kernel_rfl) (fun a w _ => makes_y rfl a w) (fun a w h => ?a5) (fun a w h => HSW w h.choose_spec.choose_spec.choose_spec.2.2) (fun a w h => HSW w h.choose_spec.choose_spec.choose_spec.2.2) (fun a w h => h.choose_spec.choose_spec.choose_spec.2.2.size) ?s5 ?_
      case a5 =>
        obtain ⟨v1, y, f, h1, h2, h3⟩ := h
        exact ⟨v1, y, f, h1, h2.after ((Below.refl _ _).alloc (Nat.le_refl _) _), h3.alloc h3.size _⟩
      case s5 =>
        rintro a w' ⟨v1, y, f, h1, h2, h3⟩
        subst h1
        exact .inl ⟨_, _, exec_move rfl (by rw [ha0]; rfl), ⟨v1, y, f, rfl, h2, h3⟩, fun p' _ hx' => hx'⟩
      refine HeldBy.Flow1.take (i := 6) (A' := fun a w' => ∃ v1 y f, a = (((a0.put (some 64) v1).put (some 67) (.tuple #[encY y, .bool f])).put (some 62) (.tuple #[encY y, .bool f])).put (some 68) (encY y) ∧ Fnd w' T.core.vols tg y f ∧ Below U0.heap.size U0 w')
        rfl rfl rfl (by kernel_rfl) (by kernel_rfl) (by kernel_rfl) (by kernel_rfl) (by kernel_rfl) (by decide) (by kernel_rfl) (fun _ _ _ _ h => h) (fun a w h => HSW w h.choose_spec.choose_spec.choose_spec.2.2) (fun a w h => ?t6) ?_
      case t6 =>
        obtain ⟨v1, y, f, h1, h2, h3⟩ := h
        subst h1
        exact ⟨_, fun _ _ => exec_extract rfl (by rw [ha0]; rfl) rfl, v1, y, f, rfl, h2, h3⟩
      refine HeldBy.Flow1.take (i := 7) (A' := fun a w' => ∃ v1 y f, a = ((((a0.put (some 64) v1).put (some 67) (.tuple #[encY y, .bool f])).put (some 62) (.tuple #[encY y, .bool f])).put (some 68) (encY y)).put (some 69) (.bool f) ∧ Fnd w' T.core.vols tg y f ∧ Below U0.heap.size U0 w')
        rfl rfl rfl (by kernel_rfl) (by kernel_rfl) (by kernel_rfl) (by kernel_rfl) (by kernel_rfl) (by decide) (by kernel_rfl) (fun _ _ _ _ h => h) (fun a w h => HSW w h.choose_spec.choose_spec.choose_spec.2.2) (fun a w h => ?t7) ?_
      case t7 =>
        obtain ⟨v1, y, f, h1, h2, h3⟩ := h
        subst h1
        exact ⟨_, fun _ _ => exec_extract rfl (by rw [ha0]; rfl) rfl, v1, y, f, rfl, h2, h3⟩
      refine HeldBy.Flow1.nil rfl rfl rfl (by kernel_rfl) (fun a w _ => makes_y rfl a w) (fun a w h => ?a8) (fun a w h => HSW w h.choose_spec.choose_spec.choose_spec.2.2) (fun a w h => h.choose_spec.choose_spec.choose_spec.2.2.size) rfl ?_
      case a8 =>
        obtain ⟨v1, y, f, h1, h2, h3⟩ := h
        exact ⟨v1, y, f, h1, h2.after ((Below.refl _ _).alloc (Nat.le_refl _) _), h3.alloc h3.size _⟩
      rintro a w0 p ⟨v1, y, f, h1, hfd, h3⟩ hp hx
      subst h1
      obtain ⟨Vf, stf, byf, ovf, lvf⟩ := stoY (show BoxY w0 p zeroY from hx) y
      have hbf := lvf _ _ h3 hp
      rw [ha0]
      refine HeldBy.store (i := 9) (w' := Vf) rfl (by kernel_rfl) (by rfl) (stf rfl rfl rfl) (by unfold flY HeldBy.ptr; first | (go_simp; rfl) | (go_simp; done)) (HSW Vf hbf) ?_
      refine HeldBy.tn (i := 10) rfl (HSW Vf hbf) ?_
      refine wpAnyH_done (by kernel_rfl) ?_ _
      have hfd2 : Fnd Vf T.core.vols tg y f := hfd.stay fun g cur hg => (ovf g fun e => by
        subst e
        rw [show w0.heap[g]? = _ from hx] at hg
        injection hg with hg
        injection hg with _ hg _
        exact absurd hg (by decide)).trans hg
      have HY := Lib.hid byf
      have HFD := Lib.hid hfd2
      have HC := Lib.hid (HSW Vf hbf).1
      have HW := Lib.hid (HSW Vf hbf).2
      replace HV := Lib.hid (VOwn.after HV (show Below U0.heap.size U0 Vf from hbf))
      replace HS5 := Lib.hid (SOwn.after HS5 (show Below U0.heap.size U0 Vf from hbf))
      replace HR := Lib.hid (HR.after (show Below U0.heap.size U0 Vf from hbf))
      obtain ⟨yb, hyb⟩ : ∃ yb, p = yb := ⟨_, rfl⟩
      subst hyb
      clear hfd2 hfd stf byf ovf lvf hbf hp hx h3 ha0 HSW HS HP
      rcases HMK.out with ⟨her, hno⟩ | ⟨k, hk1, hk2, hre, hvt⟩
      · obtain ⟨er, he⟩ : ∃ e, res.err = e := ⟨_, rfl⟩
        rw [he] at her
        have r0 : Vf.cell? ⟨W7.heap.size, 0, none⟩ = some (.int .i64 er) := by have h := HR.out.c0; rw [he] at h; exact h
        have hne2 : (er != 0) = true := by simp [her]
        have HX9 := HW
        rcases HFD.out with ⟨-, h1, -⟩ | ⟨rfl, -, -⟩
        · rw [hno] at h1
          cases h1
        · clear HMK HFD HY HC HV HS5 HR he hno
          go_wp2
          go_ret
          exact ⟨rfl, HX9.out⟩
      · subst hre
        rcases HFD.out with ⟨rfl, h1, hst⟩ | ⟨-, h1, -⟩
        · rw [hvt] at h1
          obtain ⟨y1, to, tn, tc⟩ := y
          have e1 := Option.some.inj h1
          dsimp only at e1 hst
          subst e1
          obtain rfl : tn = 0 := hst.1
          have HK1 := Lib.hid hk1
          have r0 : Vf.cell? ⟨W7.heap.size, 0, none⟩ = some (.int .i64 0) := HR.out.c0
          have c6 := HC.out.c6
          dsimp only at c6
          clear HMK HFD h1 hst hvt hk1
          go_wp2_with (fail)
          clear r0 c6
          refine (find_any sl K R3 so Vf HV.out (by have h6 := congrArg List.length HK.out; rw [List.length_map] at h6; have := few_vols' HFW.out; omega)).mono ?_
          rintro e W9 ⟨y9, f9, rfl, hf9, hb⟩
          have HFD := Lib.hid (fnd_of (VOwn.after HV.out hb) HK.out hf9)
          replace HC := Lib.hid (HC.out.after hb)
          replace HW := Lib.hid (HW.out.trans (hb.mono HW.out.size))
          replace HS5 := Lib.hid (SOwn.after HS5.out hb)
          replace HR := Lib.hid (HR.out.after hb)
          replace HY := Lib.hid (HY.out.after hb)
          clear hf9 hb HV
          obtain ⟨V10, sy, by9, hl⟩ := boxY W9 zeroY rfl y9
          replace HC := Lib.hid (HC.out.after hl)
          replace HW := Lib.hid (HW.out.trans (hl.mono HW.out.size))
          replace HS5 := Lib.hid (SOwn.after HS5.out hl)
          replace HR := Lib.hid (HR.out.after hl)
          replace HY := Lib.hid (HY.out.after hl)
          have HZ9 := Lib.hid by9
          clear by9 hl
          go_upto_region 15 with (refine wpList_skip rfl (sy rfl rfl rfl) ?_)
          clear sy
          rcases HFD.out with ⟨rfl, hv9, -⟩ | ⟨rfl, hv9, -⟩
          case' inl =>
            have HBV : Hid (BaseV S.core.vols so y9.1.tag y9.1.size) := .inl ⟨y9.1, hv9, rfl, rfl⟩
            clear HFD hv9
            go_upto_region 16 with (fail)
            refine wp_region_held_drew (S := fun V => BoxY V W9.heap.size y9) (by kernel_rfl) HZ9.out (fun _ => ?_)
            refine HeldBy.gen (fun V => (BoxY V W9.heap.size y9) ∧ (BoxC V (w.heap.size + 1) ⟨1, tg, nu, si, zo, no, so⟩) ∧ (BoxR V W7.heap.size ⟨0, si, zo, k.tag⟩) ∧ (BoxY V p (⟨tg, si, zo, k.tag, []⟩, ⟨to, 0, tc⟩)) ∧ (SOwn V R4 s5 S.core.snaps) ∧ (Below w.heap.size w V)) ⟨HZ9.out, HC.out, HR.out, HY.out, HS5.out, HW.out.drew⟩ ?_
            clear HZ9 HC HR HY HS5 HW
            rintro U0 ⟨HS, HC, HR, HY, HS5, HW⟩
            refine HeldBy.tn (i := 0) rfl HS ?_
            refine HeldBy.tk (i := 1) (v := .int .u64 y9.1.tag) rfl (fun V hV => by have hc := hV.c3; first | (go_simp; rfl) | (go_simp; done)) HS ?_
            refine HeldBy.tn (i := 2) rfl HS ?_
            refine HeldBy.tk (i := 3) (v := .int .i64 y9.1.size) rfl (fun V hV => by have hc := hV.c1; first | (go_simp; rfl) | (go_simp; done)) HS ?_
            refine HeldBy.tn (i := 4) rfl HS ?_
            refine HeldBy.tn (i := 5) rfl HS ?_
            refine wpAnyH_done (by kernel_rfl) ?_ _
            clear HS
            replace HC := Lib.hid HC
            replace HR := Lib.hid HR
            replace HY := Lib.hid HY
            replace HS5 := Lib.hid HS5
            replace HW := Lib.hid HW
            obtain ⟨Wj, hWj⟩ : ∃ U, U = U0 := ⟨_, rfl⟩
            subst hWj
            go_upto_region 17 with (fail)
          case' inr =>
            have HBV : Hid (BaseV S.core.vols so 0 0) := .inr ⟨hv9, rfl, rfl⟩
            clear HFD hv9 HZ9
            obtain ⟨Wj, hWj⟩ : ∃ U, U = V10 := ⟨_, rfl⟩
            subst hWj
            go_upto_region 17 with (fail)
          all_goals
            obtain ⟨o5, n5, c5⟩ := s5
            obtain rfl : n5 = S.core.snaps.length := (own_view HS5.out).1
            have hl5 : S.core.snaps.length ≤ 64 := by have := HFW.out.2; omega
            unfold encSl
            go_wp2
            go_loopw [17, 18, 21] (fun tv sv iv wr => ∃ (i : Nat) (bt bs : Int), iv = .int .i64 (i : Int) ∧ tv = .int .u64 bt ∧ sv = .int .i64 bs ∧ i ≤ S.core.snaps.length ∧ BaseS S.core so i bt bs ∧ Below Wj.heap.size Wj wr) (fun _ _ iv _ => S.core.snaps.length - (RowKit.intOf iv).toNat)
            case atStart => exact ⟨0, _, _, rfl, rfl, rfl, Nat.zero_le _, .inl ⟨fun k y hk => absurd hk (by omega), HBV.out⟩, Below.refl _ _⟩
            case round =>
              obtain ⟨i, bt, bs, rfl, rfl, rfl, hi, hbs, hlow⟩ := hrel
              have HBS := Lib.hid hbs
              clear hbs
              by_cases hil : i < S.core.snaps.length
              · have hil' : (i : Int) < (S.core.snaps.length : Int) := by omega
                obtain ⟨z, hz⟩ : ∃ z, S.core.snaps[i]? = some z := ⟨_, List.getElem?_eq_getElem hil⟩
                have q1 := SOwn.after HS5.out hlow
                obtain ⟨g1, k1, -, -⟩ := sown_row q1 hz
                dsimp only at k1
                subst k1
                have HZ : Hid (∀ V R g c, SOwn V R ⟨some ⟨g, 0, none⟩, S.core.snaps.length, c⟩ S.core.snaps → World.rangeAt V g (i * 3) (cellsDS z).toList) := fun V R g c hV => by
                  obtain ⟨g, k, -, h⟩ := sown_row hV hz
                  cases k
                  exact h
                have HZ2 := Lib.hid hz
                have HQ1 := Lib.hid q1
                have HC1 := Lib.hid (HC.out.after hlow)
                have HLW := Lib.hid hlow
                clear q1 hlow hz
                obtain ⟨bz, hbz⟩ : ∃ bz, decide (z.name = so) = bz := ⟨_, rfl⟩
                have HBZ := Lib.hid hbz
                clear hbz
                go_upto_region 20 with (fail)
                refine wp_region_held_drew (S := fun V => SOwn V R4 ⟨some ⟨g1, 0, none⟩, S.core.snaps.length, c5⟩ S.core.snaps ∧ BoxC V (w.heap.size + 1) ⟨1, tg, nu, si, zo, no, so⟩) (by kernel_rfl) ⟨HQ1.out, HC1.out⟩ (fun _ => ?_)
                refine HeldBy.gen (fun V => (SOwn V R4 ⟨some ⟨g1, 0, none⟩, S.core.snaps.length, c5⟩ S.core.snaps ∧ BoxC V (w.heap.size + 1) ⟨1, tg, nu, si, zo, no, so⟩) ∧ (Below Wj.heap.size Wj V)) ⟨⟨HQ1.out, HC1.out⟩, HLW.out.drew⟩ ?_
                clear HQ1 HC1 HLW
                rintro U0 ⟨HS, HLW⟩
                refine HeldBy.tn (i := 0) rfl HS ?_
                refine HeldBy.tn (i := 1) rfl HS ?_
                refine HeldBy.tn (i := 2) rfl HS ?_
                refine HeldBy.tn (i := 3) rfl HS ?_
                refine HeldBy.tk (i := 4) (v := .string z.name) rfl (fun V hV => by have hc : V.cell? ⟨g1, i * 3, none⟩ = some (.string z.name) := (HZ.out V _ _ _ hV.1) 0 (.string z.name) rfl; first | (go_simp; rfl) | (go_simp; done)) HS ?_
                refine HeldBy.tn (i := 5) rfl HS ?_
                refine HeldBy.tk (i := 6) (v := .string so) rfl (fun V hV => by have hc := hV.2.c6; first | (go_simp; rfl) | (go_simp; done)) HS ?_
                refine HeldBy.tk (i := 7) (v := .bool bz) rfl (fun _ _ => exec_eqS rfl rfl rfl HBZ.out) HS ?_
                refine wpAnyH_done (by kernel_rfl) ?_ _
                cases bz with
                | false =>
                  have HREL : Hid (∃ (i3 : Nat) (bt3 bs3 : Int), (Value.int .i64 ((i : Int) + 1)) = .int .i64 (i3 : Int) ∧ Value.int .u64 bt = .int .u64 bt3 ∧ Value.int .i64 bs = .int .i64 bs3 ∧ i3 ≤ S.core.snaps.length ∧ BaseS S.core so i3 bt3 bs3 ∧ Below Wj.heap.size Wj U0) := ⟨i + 1, bt, bs, by go_num, rfl, rfl, by omega, by
                    rcases HBS.out with ⟨h1, h2⟩ | h1
                    · refine .inl ⟨fun k y hk hy => ?_, h2⟩
                      by_cases hki : k = i
                      · subst hki
                        rw [HZ2.out] at hy
                        cases hy
                        exact of_decide_eq_false HBZ.out
                      · exact h1 k y (by omega) hy
                    · exact .inr h1, HLW⟩
                  clear HS HLW
                  go_wp2
                  go_roundw
                  case rel => exact HREL.out
                  case measure => simp [RowKit.intOf]; omega
                | true =>
                  have hzn : z.name = so := of_decide_eq_true HBZ.out
                  have h2 : snapOf S.core.snaps so = some z := hzn ▸ snap_in HINV.out (List.mem_of_getElem? HZ2.out)
                  replace HQ1 := Lib.hid HS.1
                  replace HLW := Lib.hid HLW
                  clear HS hzn
                  go_upto_region 21 with (fail)
                  refine wp_region_held_drew (S := fun V => SOwn V R4 ⟨some ⟨g1, 0, none⟩, S.core.snaps.length, c5⟩ S.core.snaps) (by kernel_rfl) HQ1.out (fun _ => ?_)
                  refine HeldBy.gen (fun V => (SOwn V R4 ⟨some ⟨g1, 0, none⟩, S.core.snaps.length, c5⟩ S.core.snaps) ∧ (Below Wj.heap.size Wj V)) ⟨HQ1.out, HLW.out.drew⟩ ?_
                  clear HQ1 HLW
                  rintro U0 ⟨HS, HLW⟩
                  refine HeldBy.tn (i := 0) rfl HS ?_
                  refine HeldBy.tn (i := 1) rfl HS ?_
                  refine HeldBy.tn (i := 2) rfl HS ?_
                  refine HeldBy.tn (i := 3) rfl HS ?_
                  refine HeldBy.tk (i := 4) (v := .int .u64 z.tag) rfl (fun V hV => by have hc := (HZ.out V _ _ _ hV) 2 (.int .u64 z.tag) rfl; first | (go_simp; rfl) | (go_simp; done)) HS ?_
                  refine HeldBy.tn (i := 5) rfl HS ?_
                  refine HeldBy.tn (i := 6) rfl HS ?_
                  refine HeldBy.tn (i := 7) rfl HS ?_
                  refine HeldBy.tn (i := 8) rfl HS ?_
                  refine HeldBy.tk (i := 9) (v := .int .i64 z.size) rfl (fun V hV => by have hc := (HZ.out V _ _ _ hV) 1 (.int .i64 z.size) rfl; first | (go_simp; rfl) | (go_simp; done)) HS ?_
                  refine HeldBy.tn (i := 10) rfl HS ?_
                  refine HeldBy.tn (i := 11) rfl HS ?_
                  refine wpAnyH_done (by kernel_rfl) ?_ _
                  have HREL : Hid (∃ (i3 : Nat) (bt3 bs3 : Int), (Value.int .i64 ((i : Int) + 1)) = .int .i64 (i3 : Int) ∧ Value.int .u64 z.tag = .int .u64 bt3 ∧ Value.int .i64 z.size = .int .i64 bs3 ∧ i3 ≤ S.core.snaps.length ∧ BaseS S.core so i3 bt3 bs3 ∧ Below Wj.heap.size Wj U0) := ⟨i + 1, z.tag, z.size, by go_num, rfl, rfl, by omega, .inr ⟨z, h2, rfl, rfl⟩, HLW⟩
                  clear HS HLW
                  go_wp2
                  go_roundw
                  case rel => exact HREL.out
                  case measure => simp [RowKit.intOf]; omega
              · have hil' : ¬ (i : Int) < (S.core.snaps.length : Int) := by omega
                have hie : i = S.core.snaps.length := by omega
                rw [hie] at HBS
                obtain ⟨rfl, rfl⟩ := baseS_src HG.out HBS.out HK1.out
                have hrx := HR.out.after hlow
                have hyx := HY.out.after hlow
                have q1 := hyx.c1
                have q2 := hyx.c2
                have q3 := hyx.c3
                have q4 := hyx.c4
                have hcx := HC.out.after hlow
                have p3 := hcx.c3
                have p4 := hcx.c4
                dsimp only at q1 q2 q3 q4 p3 p4
                have HX9 := Lib.hid (HW.out.trans (hlow.mono HW.out.size))
                clear hyx hcx hlow HBS
                go_wp2_with (first | ((with_reducible refine wpList_got ?_ (loadR hrx rfl ?_) ?_); rfl; rfl) | ((with_reducible refine wpList_build_to rfl 50 _ rfl (cellsR ⟨0, si, zo, k.tag⟩) ?_ ?_); exact built_rm _ _ _) | ((with_reducible refine wpList_got ?_ (exec_eqR (p := ⟨0, si, zo, k.tag⟩) (q := ⟨0, si, zo, k.tag⟩) rfl ?_ ?_ (decide_eq_true rfl)) ?_); rfl; rfl; rfl) | ((with_reducible refine wpList_got ?_ (exec_eqS rfl ?_ ?_ (decide_eq_true rfl)) ?_); rfl; rfl; rfl) | ((with_reducible refine wpList_got ?_ (exec_geI rfl ?_ ?_ (decide_eq_true hk2)) ?_); rfl; rfl; rfl))
                go_ret
                exact ⟨rfl, HX9.out⟩
        · rw [hvt] at h1
          cases h1
end Go.Proofs.Ytbgfccanbgpjiaa.O.I
