/- Own work. -/
import Derived.Test.YtbgfccanbgpjiaaDJIRFork
import Derived.Test.YtbgfccanbgpjiaaDJRangeMap
namespace Go.Proofs.Ytbgfccanbgpjiaa.O.I
open Go Go.RowKit Go.Lib KM
attribute [local go_sem] Oper.semAt_some
set_option maxRecDepth 100000 in
set_option maxHeartbeats 32000000 in
theorem cuts_any (a b c : Int) (ha : U8 a) (hb : U8 b) (hc : U8 c) (u : Value) (l : List Dd) (x : Dd) (w : World) (hl : DeedsIn w u l) (hf : ∀ x ∈ l, FitC x.c) (hx0 : 0 ≤ x.c.num) :
    Calls Try.prog 10 #[encN a b c, u, encX x] w fun e w' => e = .returned (.bool true) ∧ Below w.heap.size w w' := by
  have HL := Lib.hid hl
  have HF := Lib.hid hf
  have HA := Lib.hid ha
  have HBB := Lib.hid hb
  have HCC := Lib.hid hc
  have HX0 := Lib.hid hx0
  clear hl hf ha hb hc hx0
  rw [show encN a b c = .agg #[.int .u8 a, .int .u8 b, .int .u8 c] from rfl, show encX x = .agg (cellsX x) from rfl]
  go_enter Try.func10, Try.ntmps10
  go_upto_region 1 with (fail)
  refine wp_gen (fun V => BoxN V w.heap.size a b c ∧ BoxX V (w.heap.size + 1) x ∧ Below w.heap.size w V) ⟨(heap2 w _ _).1, (heap2 w _ _).2, below2 w _ _⟩ ?_
  rintro V1 ⟨hn1, hx1, hw1⟩
  have HX := Lib.hid hx1
  have HW := Lib.hid hw1
  clear hx1 hw1
  go_wp2_with (refine wpList_got rfl (loadN hn1 rfl rfl) ?_)
  clear hn1
  refine (play_any a b c HA.out HBB.out HCC.out u l V1 (HL.out.after HW.out) HF.out).mono ?_
  rintro e W1 ⟨d, r, v, s, n, B, R, q, S, rfl, hbo, hB, -, hpl, hb⟩
  replace HX := Lib.hid (HX.out.after hb)
  have HP := Lib.hid hbo.p
  have HO : Hid (w.heap.size ≤ B) := by have := HW.out.size; show _ ≤ _; omega
  replace HW := Lib.hid (HW.out.trans (hb.mono HW.out.size))
  have HG := Lib.hid hpl.good
  have HFW := Lib.hid hbo.few
  have HSS := Lib.hid hpl.snap
  clear hbo hpl hb hB
  go_wp2_with (fail)
  refine (live_any W1).mono ?_
  rintro e W2 ⟨rfl, hb⟩
  replace HX := Lib.hid (HX.out.after hb)
  replace HP := Lib.hid (HP.out.after hb)
  replace HW := Lib.hid (HW.out.trans (hb.mono HW.out.size))
  clear hb
  go_upto_region 4 with (fail)
  refine wp_region_held_drew (S := fun V => BoxX V (w.heap.size + 1) x ∧ Below w.heap.size w V) (by kernel_rfl) ⟨HX.out, HW.out.drew⟩ (fun _ => ?_)
  refine HeldBy.gen (fun V => (BoxX V (w.heap.size + 1) x ∧ Below w.heap.size w V) ∧ (PAt d r v s n B V S)) ⟨⟨HX.out, HW.out.drew⟩, HP.out.drew⟩ ?_
  clear HX HW HP
  rintro U0 ⟨HS, HP⟩
  refine HeldBy.tn (i := 0) rfl HS ?_
  refine HeldBy.tk (i := 1) (v := encC x.c) rfl (fun V hV => hV.1.call rfl rfl) HS ?_
  refine HeldBy.tn (i := 2) rfl HS ?_
  refine HeldBy.tk (i := 3) (v := .int .u64 x.tag) rfl (fun V hV => by have hc := hV.1.cell 7 (.int .u64 x.tag) rfl; first | (go_simp; rfl) | (go_simp; done)) HS ?_
  obtain ⟨cb, hcb⟩ : ∃ cb, U0.heap.size = cb := ⟨_, rfl⟩
  obtain ⟨V2, hs2, hb2, hl2⟩ := boxC U0 zeroC rfl x.c
  have hal : Below U0.heap.size U0 (U0.alloc (.cells (cellsC zeroC) 27 (0, 0))) := (Below.refl _ _).alloc (Nat.le_refl _) _
  have hSa : BoxX (U0.alloc (.cells (cellsC zeroC) 27 (0, 0))) (w.heap.size + 1) x ∧ Below w.heap.size w (U0.alloc (.cells (cellsC zeroC) 27 (0, 0))) := ⟨HS.1.after hal, HS.2.trans (hal.mono HS.2.size)⟩
  have hSb : BoxX V2 (w.heap.size + 1) x ∧ Below w.heap.size w V2 := ⟨HS.1.after hl2, HS.2.trans (hl2.mono HS.2.size)⟩
  rw [hcb] at hs2 hb2
  refine HeldBy.value (i := 4) (v := .pointer (some ⟨cb, 0, none⟩)) (w' := U0.alloc (.cells (cellsC zeroC) 27 (0, 0))) rfl (by kernel_rfl) (by rfl) ((makes_c rfl _ U0).trans (by rw [hcb])) (by first | (go_simp; rfl) | (go_simp; done)) hSa ?_
  refine HeldBy.store (i := 5) (w' := V2) rfl (by kernel_rfl) (by rfl) (hs2 rfl rfl rfl) (by first | (go_simp; rfl) | (go_simp; done)) hSb ?_
  refine HeldBy.tn (i := 6) rfl hSb ?_
  refine wpAnyH_done (by kernel_rfl) ?_ _
  obtain ⟨⟨vb, tg, nu, si, zo, no, so⟩, tag⟩ := x
  have y0 : V2.cell? ⟨cb, 0, none⟩ = some (.int .u8 vb) := hb2.c0
  have f0 := hb2.free 0
  obtain ⟨V3, hV3⟩ : ∃ V3, V2.setCell ⟨cb, 0, none⟩ (.int .u8 6) = V3 := ⟨_, rfl⟩
  have hcb3 : BoxC V3 cb ⟨6, tg, nu, si, zo, no, so⟩ := hV3 ▸ hb2.s0 6
  have hwc : w.heap.size ≤ cb := by rw [← hcb]; exact HS.2.size
  have hw3 : Below w.heap.size w V3 := hV3 ▸ hSb.2.setCell (show w.heap.size ≤ cb from hwc) _
  have hp3 : PAt d r v s n B V3 S := by
    have h1 : PAt d r v s n B V2 S := HP.after hl2
    have hnb : ∀ g, g ≠ cb → V3.heap[g]? = V2.heap[g]? := fun g hg => by rw [← hV3]; exact heap_setCell_other _ ⟨cb, 0, none⟩ g _ hg
    exact h1.cellset hb2 hnb
  have HC := Lib.hid hcb3
  have HW := Lib.hid hw3
  replace HP := Lib.hid hp3
  have HV3 := Lib.hid hV3
  have HON := Lib.hid hp3.once
  have HIN := Lib.hid hp3.inv
  clear hcb3 hw3 hp3 hV3 hs2 hb2 hl2 hal hSa hSb hwc hcb HS
  go_upto_region 6 with (fail)
  rw [HV3.out]
  clear y0 f0 HV3
  refine wp_region_held_drew (S := fun V => BoxC V cb ⟨6, tg, nu, si, zo, no, so⟩ ∧ Below w.heap.size w V) (by kernel_rfl) ⟨HC.out, HW.out.drew⟩ (fun _ => ?_)
  refine HeldBy.gen (fun V => (BoxC V cb ⟨6, tg, nu, si, zo, no, so⟩ ∧ Below w.heap.size w V) ∧ (PAt d r v s n B V S)) ⟨⟨HC.out, HW.out.drew⟩, HP.out.drew⟩ ?_
  clear HC HW HP
  rintro U0 ⟨HS, HP⟩
  refine HeldBy.tn (i := 0) rfl HS ?_
  refine HeldBy.tn (i := 2) rfl HS ?_
  refine HeldBy.tk (i := 3) (v := .string so) rfl (fun V hV => by have hc := hV.1.c6; first | (go_simp; rfl) | (go_simp; done)) HS ?_
  have HSW : ∀ V, Below U0.heap.size U0 V → BoxC V cb ⟨6, tg, nu, si, zo, no, so⟩ ∧ Below w.heap.size w V := fun V hb => ⟨HS.1.after hb, HS.2.trans (hb.mono HS.2.size)⟩
  refine with_actL (fun a0 ha0 => ?_)
  refine HeldBy.Flow1.bare (R := U0.heap.size) (f := flY 12) (A := fun a w' => a = a0 ∧ Below U0.heap.size U0 w') ?_ a0 U0 ⟨rfl, Below.refl _ _⟩
  refine HeldBy.Flow1.step (i := 1) (A' := fun a w' => ∃ v1, a = a0.put (some 38) v1 ∧ (∃ sl K R1, v1 = encSl sl ∧ VOwn w' R1 sl K ∧ K.map (·.1) = S.core.vols) ∧ Below U0.heap.size U0 w')
    rfl rfl rfl rfl rfl rfl (by kernel_rfl) (by kernel_rfl) (by decide) (by kernel_rfl) (fun a w _ => makes_y rfl a w) (fun a w h => ⟨h.1, h.2.alloc h.2.size _⟩) (fun a w h => HSW w h.2) (fun a w h => HSW w h.choose_spec.2.2) (fun a w h => h.2.size) ?s1 ?_
  case s1 =>
    rintro a w' ⟨ha, hb⟩
    subst ha
    refine .inr ⟨22, #[.pointer (some ⟨d, 0, none⟩)], ?_, (pvols (HP.after hb) HG.out (by decide) (few_vols HFW.out)).mono ?_⟩
    · rw [ha0]
      first | (go_simp; done) | (go_simp; first | exact ⟨rfl, rfl⟩ | rfl)
    · rintro e w2 ⟨sl, K, rfl, hv, hK, hb2⟩
      exact ⟨_, rfl, ⟨_, rfl, ⟨sl, K, _, rfl, hv, hK⟩, hb.trans (hb2.mono hb.size)⟩, fun p' hp' hx' => (hb2.block p' (Array.getElem?_eq_some_iff.1 hx').1).trans hx'⟩
  refine HeldBy.Flow1.step (i := 4) (A' := fun a w' => ∃ v1 y f, a = (a0.put (some 38) v1).put (some 41) (.tuple #[encY y, .bool f]) ∧ Fnd w' S.core.vols so y f ∧ Below U0.heap.size U0 w')
    rfl rfl rfl rfl rfl rfl (by kernel_rfl) (by kernel_rfl) (by decide) (by kernel_rfl) (fun a w _ => makes_y rfl a w) (fun a w h => ?a4) (fun a w h => HSW w h.choose_spec.2.2) (fun a w h => HSW w h.choose_spec.choose_spec.choose_spec.2.2) (fun a w h => h.choose_spec.2.2.size) ?s4 ?_
  case a4 =>
    obtain ⟨v1, h1, ⟨sl, K, R1, h2, h3, h4⟩, h5⟩ := h
    exact ⟨v1, h1, ⟨sl, K, R1, h2, h3.after ((Below.refl _ _).alloc (Nat.le_refl _) _), h4⟩, h5.alloc h5.size _⟩
  case s4 =>
    rintro a w' ⟨v1, h1, ⟨sl, K, R1, h2, h3, h4⟩, h5⟩
    subst h1
    subst h2
    refine .inr ⟨29, #[encSl sl, .string so], ?_, (find_any sl K R1 so w' h3 (by have h6 := congrArg List.length h4; rw [List.length_map] at h6; have := few_vols' HFW.out; omega)).mono ?_⟩
    · rw [ha0]
      first | (go_simp; done) | (go_simp; first | exact ⟨rfl, rfl⟩ | rfl)
    · rintro e w2 ⟨y, f, rfl, hf, hb2⟩
      exact ⟨_, rfl, ⟨_, y, f, rfl, fnd_of (h3.after hb2) h4 hf, h5.trans (hb2.mono h5.size)⟩, fun p' hp' hx' => (hb2.block p' (Array.getElem?_eq_some_iff.1 hx').1).trans hx'⟩
  refine HeldBy.Flow1.step (i := 5) (A' := fun a w' => ∃ v1 y f, a = ((a0.put (some 38) v1).put (some 41) (.tuple #[encY y, .bool f])).put (some 36) (.tuple #[encY y, .bool f]) ∧ Fnd w' S.core.vols so y f ∧ Below U0.heap.size U0 w')
    rfl rfl rfl rfl rfl rfl (by kernel_rfl) (by kernel_rfl) (by decide) (by kernel_rfl) (fun a w _ => makes_y rfl a w) (fun a w h => ?a5) (fun a w h => HSW w h.choose_spec.choose_spec.choose_spec.2.2) (fun a w h => HSW w h.choose_spec.choose_spec.choose_spec.2.2) (fun a w h => h.choose_spec.choose_spec.choose_spec.2.2.size) ?s5 ?_
  case a5 =>
    obtain ⟨v1, y, f, h1, h2, h3⟩ := h
    exact ⟨v1, y, f, h1, h2.after ((Below.refl _ _).alloc (Nat.le_refl _) _), h3.alloc h3.size _⟩
  case s5 =>
    rintro a w' ⟨v1, y, f, h1, h2, h3⟩
    subst h1
    exact .inl ⟨_, _, exec_move rfl (by rw [ha0]; rfl), ⟨v1, y, f, rfl, h2, h3⟩, fun p' _ hx' => hx'⟩
  refine HeldBy.Flow1.take (i := 6) (A' := fun a w' => ∃ v1 y f, a = (((a0.put (some 38) v1).put (some 41) (.tuple #[encY y, .bool f])).put (some 36) (.tuple #[encY y, .bool f])).put (some 42) (encY y) ∧ Fnd w' S.core.vols so y f ∧ Below U0.heap.size U0 w')
    rfl rfl rfl (by kernel_rfl) (by kernel_rfl) (by kernel_rfl) (by kernel_rfl) (by kernel_rfl) (by decide) (by kernel_rfl) (fun _ _ _ _ h => h) (fun a w h => HSW w h.choose_spec.choose_spec.choose_spec.2.2) (fun a w h => ?t6) ?_
  case t6 =>
    obtain ⟨v1, y, f, h1, h2, h3⟩ := h
    subst h1
    exact ⟨_, fun _ _ => exec_extract rfl (by rw [ha0]; rfl) rfl, v1, y, f, rfl, h2, h3⟩
  refine HeldBy.Flow1.take (i := 7) (A' := fun a w' => ∃ v1 y f, a = ((((a0.put (some 38) v1).put (some 41) (.tuple #[encY y, .bool f])).put (some 36) (.tuple #[encY y, .bool f])).put (some 42) (encY y)).put (some 43) (.bool f) ∧ Fnd w' S.core.vols so y f ∧ Below U0.heap.size U0 w')
    rfl rfl rfl (by kernel_rfl) (by kernel_rfl) (by kernel_rfl) (by kernel_rfl) (by kernel_rfl) (by decide) (by kernel_rfl) (fun _ _ _ _ h => h) (fun a w h => HSW w h.choose_spec.choose_spec.choose_spec.2.2) (fun a w h => ?t7) ?_
  case t7 =>
    obtain ⟨v1, y, f, h1, h2, h3⟩ := h
    subst h1
    exact ⟨_, fun _ _ => exec_extract rfl (by rw [ha0]; rfl) rfl, v1, y, f, rfl, h2, h3⟩
  refine HeldBy.Flow1.nil rfl rfl rfl (by kernel_rfl) (fun a w _ => makes_y rfl a w) (fun a w h => ?a8) (fun a w h => HSW w h.choose_spec.choose_spec.choose_spec.2.2) (fun a w h => h.choose_spec.choose_spec.choose_spec.2.2.size) rfl ?_
  case a8 =>
    obtain ⟨v1, y, f, h1, h2, h3⟩ := h
    exact ⟨v1, y, f, h1, h2.after ((Below.refl _ _).alloc (Nat.le_refl _) _), h3.alloc h3.size _⟩
  rintro a w0 p ⟨v1, y, f, h1, hfd, h3⟩ hp hx
  subst h1
  obtain ⟨Vf, stf, byf, ovf, lvf⟩ := stoY (show BoxY w0 p zeroY from hx) y
  have hbf := lvf _ _ h3 hp
  rw [ha0]
  refine HeldBy.store (i := 9) (w' := Vf) rfl (by kernel_rfl) (by rfl) (stf rfl rfl rfl) (by unfold flY HeldBy.ptr; first | (go_simp; rfl) | (go_simp; done)) (HSW Vf hbf) ?_
  refine HeldBy.tn (i := 10) rfl (HSW Vf hbf) ?_
  refine wpAnyH_done (by kernel_rfl) ?_ _
  have hfd2 : Fnd Vf S.core.vols so y f := hfd.stay fun g cur hg => (ovf g fun e => by
    subst e
    rw [show w0.heap[g]? = _ from hx] at hg
    injection hg with hg
    injection hg with _ hg _
    exact absurd hg (by decide)).trans hg
  have hPf : PAt d r v s n B Vf S := HP.after (show Below U0.heap.size U0 Vf from hbf)
  have HY := Lib.hid byf
  have HFD := Lib.hid hfd2
  have HC := Lib.hid (HSW Vf hbf).1
  have HW := Lib.hid (HSW Vf hbf).2
  replace HP := Lib.hid hPf
  obtain ⟨yb, hyb⟩ : ∃ yb, p = yb := ⟨_, rfl⟩
  subst hyb
  clear hPf hfd2 hfd stf byf ovf lvf hbf hp hx h3 ha0 HSW HS
  have c1 := HC.out.c1
  dsimp only at c1
  obtain ⟨sn, hsn⟩ : ∃ y, seenN S 6 tg = y := ⟨_, rfl⟩
  have HSN := Lib.hid hsn
  clear hsn
  go_wp2_with (fail)
  clear c1
  refine (pseen HP.out 6 tg HSN.out).mono ?_
  rintro e W3 ⟨rfl, hb⟩
  replace HY := Lib.hid (HY.out.after hb)
  replace HFD := Lib.hid (HFD.out.after hb)
  replace HC := Lib.hid (HC.out.after hb)
  replace HP := Lib.hid (HP.out.after hb)
  replace HW := Lib.hid (HW.out.trans (hb.mono HW.out.size))
  clear hb
  by_cases hs0 : sn = 0
  · rcases HFD.out with ⟨rfl, hvo, hst⟩ | ⟨rfl, -, -⟩
    · obtain ⟨x1, t1⟩ := y
      have HVO : Hid (volOf S.core.vols so = some x1) := hvo
      have HST : Hid (StrIn W3 t1 x1.nodes) := hst
      have HS0 : Hid (seenN S 6 tg = 0) := by show _ = _; rw [HSN.out, hs0]
      subst hs0
      clear hvo hst HFD
      have hcx := HC.out
      go_wp2_with (refine wpList_got rfl (loadC hcx rfl rfl) ?_)
      clear hcx
      refine (do_model HP.out ⟨6, tg, nu, si, zo, no, so⟩).mono ?_
      rintro e W4 ⟨rfl, hp4, hb4, hc4⟩
      have hcut := do_cuts HON.out HSS.out (c := ⟨6, tg, nu, si, zo, no, so⟩) rfl HS0.out HX0.out HVO.out
      obtain ⟨T, hT⟩ : ∃ T, (doS S ⟨6, tg, nu, si, zo, no, so⟩).2 = T := ⟨_, rfl⟩
      obtain ⟨res, hres⟩ : ∃ res, (doS S ⟨6, tg, nu, si, zo, no, so⟩).1 = res := ⟨_, rfl⟩
      have hgt : Good 61 T.core := hT ▸ HG.out.run ⟨6, tg, nu, si, zo, no, so⟩
      have hft := do_few HFW.out ⟨6, tg, nu, si, zo, no, so⟩
      rw [hT] at hp4 hcut hft
      rw [hres] at hcut ⊢
      obtain ⟨V4, hs4, hb4', hl4⟩ := boxR W4 zeroR rfl res
      replace HC := Lib.hid ((show BoxC W4 cb ⟨6, tg, nu, si, zo, no, so⟩ from hc4 _ _ _ _ HC.out).after hl4)
      replace HY := Lib.hid ((show BoxY W4 p (x1, t1) from hc4 _ _ _ _ HY.out).after hl4)
      replace HST : Hid (StrIn V4 t1 x1.nodes) := (HST.out.stay fun g _ hg => hc4 g _ _ _ hg).after hl4
      have HPT := Lib.hid (hp4.after hl4)
      replace HW : Hid (Below w.heap.size w V4) := by
        have h1 := HW.out.trans (hb4.mono HO.out)
        exact h1.trans (hl4.mono h1.size)
      have HR := Lib.hid hb4'
      have HCUT := Lib.hid hcut
      have HGT := Lib.hid hgt
      have HFT := Lib.hid hft
      clear hp4 hb4 hc4 hT hres hcut hgt hft hb4' hl4 HP
      rcases HCUT.out with he27 | ⟨hre, hvs, hsv⟩
      · obtain ⟨er, her⟩ : ∃ y, res.err = y := ⟨_, rfl⟩
        rw [her] at he27
        have r0 : V4.cell? ⟨W4.heap.size, 0, none⟩ = some (.int .i64 er) := by have h := HR.out.c0; rw [her] at h; exact h
        have hne : ¬ er = 0 := by omega
        have hne2 : (er != 0) = true := by simp [hne]
        have hne5 : ¬ er = 5 := by omega
        have hne52 : (er != 5) = true := by simp [hne5]
        have HER := Lib.hid her
        clear her he27
        go_wp2_with (refine wpList_skip rfl (hs4 rfl rfl rfl) ?_)
        clear r0
        refine (psnaps HPT.out HGT.out (by have := HFT.out.2; omega)).mono ?_
        rintro e W5 ⟨s5, rfl, hs5, hb⟩
        have r0 : W5.cell? ⟨W4.heap.size, 0, none⟩ = some (.int .i64 er) := by have h := (HR.out.after hb).c0; rw [HER.out] at h; exact h
        have HX5 := Lib.hid (HW.out.trans (hb.mono HW.out.size))
        obtain ⟨o5, n5, c5⟩ := s5
        obtain rfl : n5 = T.core.snaps.length := (own_view hs5).1
        obtain ⟨m5, hm5⟩ : ∃ m, T.core.snaps.length = m := ⟨_, rfl⟩
        rw [hm5]
        clear hb hs5 hm5 hs4
        unfold encSl
        by_cases hm : m5 = 0
        · subst hm
          go_wp2
          go_ret
          exact ⟨rfl, HX5.out⟩
        · have hm2 : ¬ (m5 : Int) = 0 := by omega
          go_wp2
          go_ret
          refine ⟨?_, HX5.out⟩
          first | rfl | simp [hne5]
      · have HRE := Lib.hid hre
        have HVS := Lib.hid hvs
        have HSV := Lib.hid hsv
        have htn : t1.n = x1.nodes.length := HST.out.1
        have r0 : V4.cell? ⟨W4.heap.size, 0, none⟩ = some (.int .i64 0) := by have h := HR.out.c0; rw [hre] at h; exact h
        obtain ⟨to, tn, tc⟩ := t1
        dsimp only at htn
        subst htn
        have hnl : x1.nodes.length ≤ 1000 := Nat.le_trans (HG.out.nodes x1 (List.mem_of_find?_eq_some HVO.out)).2.1 (by decide)
        clear hre hvs hsv
        go_wp2_with (refine wpList_skip rfl (hs4 rfl rfl rfl) ?_)
        clear r0 hs4
        have hvT : volOf T.core.vols so = some x1 := by rw [HVS.out]; exact HVO.out
        have hnm : x1.name = so := volOf_name HVO.out
        have HVT := Lib.hid hvT
        have HNM := Lib.hid hnm
        clear hvT hnm
        go_loopw [15] (fun iv wr => ∃ (i : Nat) (C : Core), iv = .int .i64 (i : Int) ∧ i ≤ x1.nodes.length ∧ PAt d r v s n B wr ⟨C, T.seen⟩ ∧ Good (61 + i) C ∧ C.snaps = T.core.snaps ∧ (∃ x2, volOf C.vols x1.name = some x2 ∧ x2.nodes = x1.nodes) ∧ Below B V4 wr ∧ CellsStay V4 wr) (fun iv _ => x1.nodes.length - (RowKit.intOf iv).toNat)
        case atStart => exact ⟨0, T.core, rfl, Nat.zero_le _, HPT.out, HGT.out, rfl, ⟨x1, by rw [HNM.out]; exact HVT.out, rfl⟩, Below.refl _ _, fun _ _ _ _ h => h⟩
        case round =>
          obtain ⟨i, C, rfl, hi, hpc, hgc, hsc, hvc, hbc, hcc⟩ := hrel
          have HPC := Lib.hid hpc
          have HGC := Lib.hid hgc
          have HSC := Lib.hid hsc
          have HVC := Lib.hid hvc
          have HBC := Lib.hid hbc
          have HCC2 := Lib.hid hcc
          have hyb := hcc _ _ _ _ HY.out
          have HYB : Hid (BoxY wr p (x1, ⟨to, x1.nodes.length, tc⟩)) := hyb
          clear hpc hgc hsc hvc hbc hcc hyb
          have y4 := HYB.out.c4
          dsimp only at y4
          by_cases hil : i < x1.nodes.length
          · have hil' : (i : Int) < (x1.nodes.length : Int) := by omega
            obtain ⟨nd, hnd⟩ : ∃ nd, x1.nodes[i]? = some nd := ⟨_, List.getElem?_eq_getElem hil⟩
            obtain ⟨g7, cur7, k7, q7, -⟩ := HST.out.at hnd
            dsimp only at k7
            subst k7
            have HCL : Hid (∀ V, CellsStay V4 V → V.cell? ⟨g7, i, none⟩ = some (.string nd)) := fun V hV => by
              obtain ⟨g, cu, k1, -, k3⟩ := (HST.out.stay fun g _ hg => hV g _ _ _ hg).at hnd
              cases k1
              exact k3
            obtain ⟨x2, hx2, hn2⟩ := HVC.out
            have hmem : memN nd x2.nodes = true := by rw [hn2, memN_iff]; exact List.mem_of_getElem? hnd
            have hput : putS C x1.name nd tag = (0, ⟨C.zones, modV x1.name (fun y => ⟨y.name, y.size, y.zone, tag, y.nodes⟩) C.vols, C.snaps⟩) := by
              unfold putS
              rw [hx2]
              exact if_pos hmem
            have hpm := put_model HPC.out x1.name nd tag
            have hgp := HGC.out.put x1.name nd tag
            rw [hput] at hpm hgp
            have HPM := Lib.hid hpm
            have HGP := Lib.hid hgp
            have HV2 : Hid (∃ x3, volOf (modV x1.name (fun y => ⟨y.name, y.size, y.zone, tag, y.nodes⟩) C.vols) x1.name = some x3 ∧ x3.nodes = x1.nodes) := by
              exact ⟨⟨x2.name, x2.size, x2.zone, tag, x2.nodes⟩, by rw [volOf_mod x1.name x1.name (fun y => ⟨y.name, y.size, y.zone, tag, y.nodes⟩) (fun _ => rfl) C.vols, if_pos rfl, hx2]; rfl, hn2⟩
            have HCY : Hid (CellsStay V4 wr) := HCC2.out
            have HPUT := Lib.hid hput
            clear hnd q7 hx2 hn2 hmem hput hgp HVC
            go_upto_region 15 with (fail)
            clear y4
            refine wp_region_held_drew (S := fun V => BoxY V p (x1, ⟨some ⟨g7, 0, none⟩, x1.nodes.length, tc⟩) ∧ CellsStay V4 V) (by kernel_rfl) ⟨HYB.out, HCY.out⟩ (fun _ => ?_)
            refine HeldBy.gen (fun V => (BoxY V p (x1, ⟨some ⟨g7, 0, none⟩, x1.nodes.length, tc⟩) ∧ CellsStay V4 V) ∧ (PAt d r v s n B V ⟨C, T.seen⟩) ∧ (Below B V4 V)) ⟨⟨HYB.out, HCY.out⟩, HPC.out.drew, HBC.out.drew⟩ ?_
            clear HYB HCY HPC HBC
            rintro U0 ⟨HS, HPC, HBC⟩
            refine HeldBy.tn (i := 0) rfl HS ?_
            refine HeldBy.tn (i := 1) rfl HS ?_
            refine HeldBy.tk (i := 2) (v := .string x1.name) rfl (fun V hV => by have hc := hV.1.c0; first | (go_simp; rfl) | (go_simp; done)) HS ?_
            refine HeldBy.tn (i := 3) rfl HS ?_
            refine HeldBy.tk (i := 4) (v := .slice (some ⟨g7, 0, none⟩) x1.nodes.length tc) rfl (fun V hV => by have hc := hV.1.c4; first | (go_simp; rfl) | (go_simp; done)) HS ?_
            refine HeldBy.tn (i := 5) rfl HS ?_
            refine HeldBy.tn (i := 6) rfl HS ?_
            refine HeldBy.tk (i := 7) (v := .string nd) rfl (fun V hV => by have hc := HCL.out V hV.2; first | (go_simp; rfl) | (go_simp; done)) HS ?_
            refine HeldBy.tn (i := 8) rfl HS ?_
            have hpm := put_model HPC x1.name nd tag
            rw [HPUT.out] at hpm
            refine HeldBy.call (i := 9) (v := .int .i64 0) rfl (by kernel_rfl) (by rfl) (by first | (go_simp; done) | (go_simp; first | exact ⟨rfl, rfl⟩ | rfl)) (by first | (go_simp; rfl) | (go_simp; done)) ?_
            refine hpm.mono ?_
            rintro e U1 ⟨he, hp1, hb1, hc1⟩
            have hs1 : BoxY U1 p (x1, ⟨some ⟨g7, 0, none⟩, x1.nodes.length, tc⟩) ∧ CellsStay V4 U1 := ⟨hc1 _ _ _ _ HS.1, fun g c t f hg => hc1 _ _ _ _ (HS.2 _ _ _ _ hg)⟩
            have HP1 := Lib.hid hp1
            have HB1 := Lib.hid (HBC.trans hb1)
            refine ⟨he, hs1, ?_⟩
            clear he HS HPC HBC hp1 hb1 hc1 hpm
            have HS1 := Lib.hid hs1
            clear hs1
            refine HeldBy.tk (i := 10) (v := .bool false) rfl (fun _ _ => by first | (go_simp; rfl) | (go_simp; done)) HS1.out ?_
            refine wpAnyH_done (by kernel_rfl) ?_ _
            go_wp2
            go_roundw
            case rel => exact ⟨i + 1, _, by go_num, by omega, HP1.out, HGP.out, HSC.out, HV2.out, HB1.out, HS1.out.2⟩
            case measure => simp [RowKit.intOf]; omega
          · have hil' : ¬ (i : Int) < (x1.nodes.length : Int) := by omega
            clear HVC
            go_wp2_with (fail)
            clear y4
            refine (psnaps HPC.out HGC.out (by have h1 := HSC.out; have := HFT.out.2; show C.snaps.length ≤ 1000; rw [h1]; omega)).mono ?_
            rintro e W5 ⟨s5, rfl, hs5, hb⟩
            have hwr := HW.out.trans (HBC.out.mono HO.out)
            have HWV := Lib.hid (hwr.trans (hb.mono hwr.size))
            obtain ⟨R5, hR5⟩ : ∃ R5, wr.heap.size = R5 := ⟨_, rfl⟩
            rw [hR5] at hs5
            have hs6 : SOwn W5 R5 s5 T.core.snaps := HSC.out ▸ hs5
            have HYV := Lib.hid (HYB.out.after hb)
            have HCV := Lib.hid ((show BoxC wr cb ⟨6, tg, nu, si, zo, no, so⟩ from HCC2.out _ _ _ _ HC.out).after hb)
            have HRV := Lib.hid ((show BoxR wr W4.heap.size res from HCC2.out _ _ _ _ HR.out).after hb)
            have HS6 := Lib.hid hs6
            obtain ⟨o5, n5, c5⟩ := s5
            obtain rfl : n5 = T.core.snaps.length := (own_view hs6).1
            have hl5 : T.core.snaps.length ≤ 65 := HFT.out.2
            obtain ⟨i6, hi6⟩ : ∃ (i6 : Nat) (z : DS), T.core.snaps[i6]? = some z ∧ z.name = tg := by
              have h1 := List.mem_of_find?_eq_some HSV.out
              obtain ⟨i6, h2⟩ := List.getElem?_of_mem h1
              exact ⟨i6, _, h2, rfl⟩
            have HI6 := Lib.hid hi6
            clear hb hs5 hs6 hwr hi6 hR5 HYB HPC HBC HCC2
            unfold encSl
            go_wp2
            go_loopw [17] (fun iv wz => ∃ i2 : Nat, iv = .int .i64 (i2 : Int) ∧ i2 ≤ T.core.snaps.length ∧ (∀ k y, k < i2 → T.core.snaps[k]? = some y → y.name ≠ tg) ∧ Below W5.heap.size W5 wz) (fun iv _ => T.core.snaps.length - (RowKit.intOf iv).toNat)
            case atStart => exact ⟨0, rfl, Nat.zero_le _, fun k y hk => absurd hk (by omega), Below.refl _ _⟩
            case round =>
              obtain ⟨i2, rfl, hi2, hno, hlow⟩ := hrel
              have HNO := Lib.hid hno
              clear hno
              by_cases hl2 : i2 < T.core.snaps.length
              · have hl2' : (i2 : Int) < (T.core.snaps.length : Int) := by omega
                obtain ⟨z, hz⟩ : ∃ z, T.core.snaps[i2]? = some z := ⟨_, List.getElem?_eq_getElem hl2⟩
                have q1 := SOwn.after HS6.out hlow
                obtain ⟨g1, k1, -, -⟩ := sown_row q1 hz
                dsimp only at k1
                subst k1
                have HZ : Hid (∀ V R g c, SOwn V R ⟨some ⟨g, 0, none⟩, T.core.snaps.length, c⟩ T.core.snaps → World.rangeAt V g (i2 * 3) (cellsDS z).toList) := fun V R g c hV => by
                  obtain ⟨g, k, -, h⟩ := sown_row hV hz
                  cases k
                  exact h
                have HZ2 := Lib.hid hz
                have HQ1 := Lib.hid q1
                have HC1 := Lib.hid (HCV.out.after hlow)
                have HY1 := Lib.hid (HYV.out.after hlow)
                have HR1 := Lib.hid (HRV.out.after hlow)
                have HLW := Lib.hid hlow
                clear q1 hlow hz
                obtain ⟨bz, hbz⟩ : ∃ bz, decide (z.name = tg) = bz := ⟨_, rfl⟩
                have HBZ := Lib.hid hbz
                go_upto_region 21 with (fail)
                clear hbz
                refine wp_region_held_drew (S := fun V => SOwn V R5 ⟨some ⟨g1, 0, none⟩, T.core.snaps.length, c5⟩ T.core.snaps ∧ BoxC V cb ⟨6, tg, nu, si, zo, no, so⟩) (by kernel_rfl) ⟨HQ1.out, HC1.out⟩ (fun _ => ?_)
                refine HeldBy.gen (fun V => (SOwn V R5 ⟨some ⟨g1, 0, none⟩, T.core.snaps.length, c5⟩ T.core.snaps ∧ BoxC V cb ⟨6, tg, nu, si, zo, no, so⟩) ∧ (BoxY V p (x1, ⟨to, x1.nodes.length, tc⟩)) ∧ (BoxR V W4.heap.size res) ∧ (Below W5.heap.size W5 V)) ⟨⟨HQ1.out, HC1.out⟩, HY1.out, HR1.out, HLW.out.drew⟩ ?_
                clear HQ1 HC1 HY1 HR1 HLW
                rintro U0 ⟨HS, HY1, HR1, HLW⟩
                refine HeldBy.tn (i := 0) rfl HS ?_
                refine HeldBy.tn (i := 1) rfl HS ?_
                refine HeldBy.tn (i := 2) rfl HS ?_
                refine HeldBy.tn (i := 3) rfl HS ?_
                refine HeldBy.tk (i := 4) (v := .string z.name) rfl (fun V hV => by have hc : V.cell? ⟨g1, i2 * 3, none⟩ = some (.string z.name) := (HZ.out V _ _ _ hV.1) 0 (.string z.name) rfl; first | (go_simp; rfl) | (go_simp; done)) HS ?_
                refine HeldBy.tn (i := 5) rfl HS ?_
                refine HeldBy.tk (i := 6) (v := .string tg) rfl (fun V hV => by have hc := hV.2.c1; first | (go_simp; rfl) | (go_simp; done)) HS ?_
                refine HeldBy.tk (i := 7) (v := .bool bz) rfl (fun _ _ => exec_eqS rfl rfl rfl HBZ.out) HS ?_
                refine wpAnyH_done (by kernel_rfl) ?_ _
                cases bz with
                | false =>
                  have hne : ¬ z.name = tg := of_decide_eq_false HBZ.out
                  have HREL : Hid (∃ i3 : Nat, (Value.int .i64 ((i2 : Int) + 1)) = .int .i64 (i3 : Int) ∧ i3 ≤ T.core.snaps.length ∧ (∀ k y, k < i3 → T.core.snaps[k]? = some y → y.name ≠ tg) ∧ Below W5.heap.size W5 U0) := ⟨i2 + 1, by go_num, by omega, fun k y hk hy => by
                    by_cases hki : k = i2
                    · subst hki
                      rw [HZ2.out] at hy
                      cases hy
                      exact hne
                    · exact HNO.out k y (by omega) hy, HLW⟩
                  clear HS HY1 HR1 HLW hne
                  go_wp2
                  go_roundw
                  case rel => exact HREL.out
                  case measure => simp [RowKit.intOf]; omega
                | true =>
                  have hzn : z.name = tg := of_decide_eq_true HBZ.out
                  have hzz : z = ⟨tg, x1.size, x1.tag⟩ := by
                    have h1 := HPT.out.inv.snaps
                    have h2 : snapOf T.core.snaps z.name = some z := snap_in h1 (List.mem_of_getElem? HZ2.out)
                    rw [hzn, HSV.out] at h2
                    exact (Option.some.inj h2).symm
                  subst hzz
                  have hrz : res = ⟨0, x1.size, E0, x1.tag⟩ := HRE.out
                  subst hrz
                  clear hzn
                  have HQ1 := Lib.hid HS.1
                  have HC1 := Lib.hid HS.2
                  replace HY1 := Lib.hid HY1
                  replace HR1 := Lib.hid HR1
                  replace HLW := Lib.hid HLW
                  clear HS
                  go_upto_region 22 with (fail)
                  refine wp_region_held_drew (S := fun V => SOwn V R5 ⟨some ⟨g1, 0, none⟩, T.core.snaps.length, c5⟩ T.core.snaps ∧ BoxY V p (x1, ⟨to, x1.nodes.length, tc⟩) ∧ BoxR V W4.heap.size ⟨0, x1.size, E0, x1.tag⟩) (by kernel_rfl) ⟨HQ1.out, HY1.out, HR1.out⟩ (fun _ => ?_)
                  refine HeldBy.gen (fun V => (SOwn V R5 ⟨some ⟨g1, 0, none⟩, T.core.snaps.length, c5⟩ T.core.snaps ∧ BoxY V p (x1, ⟨to, x1.nodes.length, tc⟩) ∧ BoxR V W4.heap.size ⟨0, x1.size, E0, x1.tag⟩) ∧ (Below W5.heap.size W5 V)) ⟨⟨HQ1.out, HY1.out, HR1.out⟩, HLW.out.drew⟩ ?_
                  clear HQ1 HY1 HR1 HLW
                  rintro U0 ⟨HS, HLW⟩
                  refine HeldBy.tn (i := 0) rfl HS ?_
                  refine HeldBy.tn (i := 1) rfl HS ?_
                  refine HeldBy.tn (i := 2) rfl HS ?_
                  refine HeldBy.tn (i := 3) rfl HS ?_
                  refine HeldBy.tk (i := 4) (v := .int .u64 x1.tag) rfl (fun V hV => by have hc := (HZ.out V _ _ _ hV.1) 2 (.int .u64 x1.tag) rfl; first | (go_simp; rfl) | (go_simp; done)) HS ?_
                  refine HeldBy.tn (i := 5) rfl HS ?_
                  refine HeldBy.tk (i := 6) (v := .int .u64 x1.tag) rfl (fun V hV => by have hc := hV.2.1.c3; first | (go_simp; rfl) | (go_simp; done)) HS ?_
                  refine HeldBy.tk (i := 7) (v := .bool true) rfl (fun _ _ => exec_eqU rfl rfl rfl (decide_eq_true rfl)) HS ?_
                  refine HeldBy.tn (i := 8) rfl HS ?_
                  refine HeldBy.tn (i := 9) rfl HS ?_
                  refine HeldBy.tn (i := 10) rfl HS ?_
                  refine HeldBy.tn (i := 11) rfl HS ?_
                  refine HeldBy.tn (i := 12) rfl HS ?_
                  refine HeldBy.tk (i := 13) (v := .int .i64 x1.size) rfl (fun V hV => by have hc := (HZ.out V _ _ _ hV.1) 1 (.int .i64 x1.size) rfl; first | (go_simp; rfl) | (go_simp; done)) HS ?_
                  refine HeldBy.tn (i := 14) rfl HS ?_
                  refine HeldBy.tk (i := 15) (v := .int .i64 x1.size) rfl (fun V hV => by have hc := hV.2.1.c1; first | (go_simp; rfl) | (go_simp; done)) HS ?_
                  refine HeldBy.tk (i := 16) (v := .bool true) rfl (fun _ _ => exec_eqI rfl rfl rfl (decide_eq_true rfl)) HS ?_
                  refine HeldBy.tn (i := 17) rfl HS ?_
                  refine HeldBy.tn (i := 18) rfl HS ?_
                  refine HeldBy.tk (i := 19) (v := encR ⟨0, x1.size, E0, x1.tag⟩) rfl (fun V hV => loadR hV.2.2 rfl rfl) HS ?_
                  refine HeldBy.tn (i := 20) rfl HS ?_
                  refine HeldBy.tk (i := 21) (v := .int .i64 x1.size) rfl (fun V hV => by have hc := hV.2.1.c1; first | (go_simp; rfl) | (go_simp; done)) HS ?_
                  refine HeldBy.tn (i := 22) rfl HS ?_
                  refine HeldBy.tk (i := 23) (v := .int .u64 x1.tag) rfl (fun V hV => by have hc := hV.2.1.c3; first | (go_simp; rfl) | (go_simp; done)) HS ?_
                  refine HeldBy.tk (i := 24) (v := encR ⟨0, x1.size, E0, x1.tag⟩) rfl (fun _ _ => exec_build 50 _ rfl _ (by exact built_rk _ _)) HS ?_
                  refine HeldBy.tk (i := 25) (v := .bool true) rfl (fun _ _ => exec_eqR rfl rfl rfl (decide_eq_true rfl)) HS ?_
                  refine HeldBy.tn (i := 26) rfl HS ?_
                  refine HeldBy.tn (i := 27) rfl HS ?_
                  refine wpAnyH_done (by kernel_rfl) ?_ _
                  have HX9 : Hid (Below w.heap.size w U0) := HWV.out.trans (HLW.mono HWV.out.size)
                  clear HS HLW
                  go_wp2
                  go_ret
                  exact ⟨rfl, HX9.out⟩
              · have hl2' : ¬ (i2 : Int) < (T.core.snaps.length : Int) := by omega
                obtain ⟨z6, hz6, hn6⟩ := HI6.out
                exact absurd hn6 (HNO.out _ _ (by have := set_at hz6; omega) hz6)
    · have hX := HW.out
      subst hs0
      go_wp2
      go_ret
      exact ⟨rfl, hX⟩
  · have hs2 : (sn != 0) = true := by simp [hs0]
    have HX2 := Lib.hid HW.out
    go_wp2
    go_ret
    exact ⟨rfl, HX2.out⟩
end Go.Proofs.Ytbgfccanbgpjiaa.O.I
