/- Own work. -/
import Derived.Test.YtbgfccanbgpjiaaDJIRWith
import Derived.Test.YtbgfccanbgpjiaaDJIRTop
import Derived.Test.YtbgfccanbgpjiaaDJ05
namespace Go.Proofs.Ytbgfccanbgpjiaa.O.I
open Go Go.RowKit Go.Lib KM
attribute [local go_sem] Oper.semAt_some
theorem vown_row {V : World} {R : Nat} {s : Sl} {K : List DVS} (h : VOwn V R s K) {j : Nat} {y : DVS} (hy : K[j]? = some y) : ∃ g, s.o = some ⟨g, 0, none⟩ ∧ g < V.heap.size ∧ World.rangeAt V g (j * 5) (cellsDV y.1 y.2).toList ∧ StrIn V y.2 y.1.nodes := by
  obtain ⟨hn, hv⟩ := own_view h.1
  have hlt := set_at hy
  obtain ⟨g, cur, h1, h2, h3, h4⟩ := hv (by omega)
  have e0 : K[j]'hlt = y := by rw [List.getElem?_eq_getElem hlt] at hy; exact Option.some.inj hy
  refine ⟨g, h1, (Array.getElem?_eq_some_iff.1 h3).1, fun i u hu => ?_, h.2 y (List.mem_of_getElem? hy)⟩
  have hi : i < 5 := (List.getElem?_eq_some_iff.1 hu).1
  have h6 := catW_at K j hlt i hi
  rw [e0] at h6
  exact h4 _ _ (h6.trans hu)
theorem sown_row {V : World} {R : Nat} {s : Sl} {K : List DS} (h : SOwn V R s K) {j : Nat} {y : DS} (hy : K[j]? = some y) : ∃ g, s.o = some ⟨g, 0, none⟩ ∧ g < V.heap.size ∧ World.rangeAt V g (j * 3) (cellsDS y).toList := by
  obtain ⟨hn, hv⟩ := own_view h
  have hlt := set_at hy
  obtain ⟨g, cur, h1, h2, h3, h4⟩ := hv (by omega)
  have e0 : K[j]'hlt = y := by rw [List.getElem?_eq_getElem hlt] at hy; exact Option.some.inj hy
  refine ⟨g, h1, (Array.getElem?_eq_some_iff.1 h3).1, fun i u hu => ?_⟩
  have hi : i < 3 := (List.getElem?_eq_some_iff.1 hu).1
  have h6 := catS_at K j hlt i hi
  rw [e0] at h6
  exact h4 _ _ (h6.trans hu)
theorem VOwn.drew {V : World} {R : Nat} {s : Sl} {K : List DVS} (h : VOwn V R s K) : VOwn V.drew R s K := ⟨h.1, fun p hp => h.2 p hp⟩
theorem makes_y {oi : Oper} (ho : oi.op = .alloc 58) : HeldBy.Makes Try.prog oi (.cells (cellsY zeroY) 58 (0, 0)) := by
  intro a w
  unfold execOp
  simp only [ho]
  kernel_rfl
set_option maxRecDepth 100000 in
set_option maxHeartbeats 8000000 in
theorem sameV_any (s1 s2 : Sl) (K1 K2 : List DVS) (R1 R2 : Nat) (w : World) (h1 : VOwn w R1 s1 K1) (h2 : VOwn w R2 s2 K2) (he : K1.map (·.1) = K2.map (·.1)) (hn : K1.length ≤ 1000) (hnd : ∀ p ∈ K1, p.1.nodes.length ≤ 1000) :
    Calls Try.prog 34 #[encSl s1, encSl s2] w fun e w' => e = .returned (.bool true) ∧ Below w.heap.size w w' := by
  obtain ⟨o1, n1, c1⟩ := s1
  obtain ⟨o2, n2, c2⟩ := s2
  have e1 : n1 = K1.length := (own_view h1.1).1
  have hlen : K2.length = K1.length := by have := congrArg List.length he; simpa using this.symm
  have e2 : n2 = K1.length := (own_view h2.1).1.trans hlen
  subst e1
  subst e2
  have H1 := Lib.hid h1
  have H2 := Lib.hid h2
  have HE := Lib.hid he
  have HL := Lib.hid hlen
  have HND := Lib.hid hnd
  clear h1 h2 he hnd hlen
  unfold encSl
  go_enter Try.func34, Try.ntmps34
  go_wp2
  go_loopw [5] (fun iv wr => ∃ j : Nat, iv = .int .i64 (j : Int) ∧ j ≤ K1.length ∧ Below w.heap.size w wr) (fun iv _ => K1.length - (RowKit.intOf iv).toNat)
  case atStart => exact ⟨0, rfl, Nat.zero_le _, Below.refl _ _⟩
  case round =>
    obtain ⟨j, rfl, hj, hlow⟩ := hrel
    by_cases hlt : j < K1.length
    · have hlt' : (j : Int) < (K1.length : Int) := by omega
      obtain ⟨y1, hy1⟩ : ∃ y, K1[j]? = some y := ⟨_, List.getElem?_eq_getElem hlt⟩
      obtain ⟨y2, hy2⟩ : ∃ y, K2[j]? = some y := ⟨_, List.getElem?_eq_getElem (by have := HL.out; omega)⟩
      obtain ⟨x, ⟨ao, an, ac⟩⟩ := y1
      obtain ⟨x2, ⟨bo, bn, bc⟩⟩ := y2
      have hxx : x2 = x := by
        have h := congrArg (fun l => l[j]?) HE.out
        simp only [List.getElem?_map, hy1, hy2, Option.map_some, Option.some.injEq] at h
        exact h.symm
      subst hxx
      obtain ⟨L, hL⟩ : ∃ L, x2.nodes = L := ⟨_, rfl⟩
      have hnl : L.length ≤ 1000 := hL ▸ HND.out _ (List.mem_of_getElem? hy1)
      have q1 := H1.out.after hlow
      have q2 := H2.out.after hlow
      obtain ⟨g1, k1, -, -, t1⟩ := vown_row q1 hy1
      obtain ⟨g2, k2, -, -, t2⟩ := vown_row q2 hy2
      dsimp only at k1 k2
      subst k1
      subst k2
      rw [hL] at t1 t2
      obtain rfl : an = L.length := t1.1
      obtain rfl : bn = L.length := t2.1
      have HR1 : Hid (∀ V, VOwn V R1 ⟨some ⟨g1, 0, none⟩, K1.length, c1⟩ K1 → World.rangeAt V g1 (j * 5) (cellsDV x2 ⟨ao, L.length, ac⟩).toList) := fun V hV => by
        obtain ⟨g, k, -, h, -⟩ := vown_row hV hy1
        cases k
        exact h
      have HR2 : Hid (∀ V, VOwn V R2 ⟨some ⟨g2, 0, none⟩, K1.length, c2⟩ K2 → World.rangeAt V g2 (j * 5) (cellsDV x2 ⟨bo, L.length, bc⟩).toList) := fun V hV => by
        obtain ⟨g, k, -, h, -⟩ := vown_row hV hy2
        cases k
        exact h
      have HA := Lib.hid q1
      have HB := Lib.hid q2
      have HT := Lib.hid t1
      have HU := Lib.hid t2
      have HW := Lib.hid hlow
      clear q1 q2 hlow hy1 hy2 t1 t2 hL
      go_upto_region 6 with (fail)
      refine wp_region_held_drew (S := fun V => VOwn V R1 ⟨some ⟨g1, 0, none⟩, K1.length, c1⟩ K1 ∧ VOwn V R2 ⟨some ⟨g2, 0, none⟩, K1.length, c2⟩ K2 ∧ StrIn V ⟨ao, L.length, ac⟩ L ∧ StrIn V ⟨bo, L.length, bc⟩ L ∧ Below w.heap.size w V) (by kernel_rfl) ⟨HA.out.drew, HB.out.drew, HT.out, HU.out, HW.out.drew⟩ (fun _ => ?_)
      refine HeldBy.gen (fun V => VOwn V R1 ⟨some ⟨g1, 0, none⟩, K1.length, c1⟩ K1 ∧ VOwn V R2 ⟨some ⟨g2, 0, none⟩, K1.length, c2⟩ K2 ∧ StrIn V ⟨ao, L.length, ac⟩ L ∧ StrIn V ⟨bo, L.length, bc⟩ L ∧ Below w.heap.size w V) ⟨HA.out.drew, HB.out.drew, HT.out, HU.out, HW.out.drew⟩ ?_
      clear HA HB HT HU HW
      rintro U0 HS
      refine HeldBy.tn (i := 0) rfl HS ?_
      refine HeldBy.tn (i := 1) rfl HS ?_
      refine HeldBy.tn (i := 2) rfl HS ?_
      refine HeldBy.tk (i := 3) (v := encY (x2, ⟨ao, L.length, ac⟩)) rfl (fun V hV => loadY_at (HR1.out V hV.1) rfl rfl) HS ?_
      refine HeldBy.tn (i := 4) rfl HS ?_
      refine HeldBy.tn (i := 5) rfl HS ?_
      refine HeldBy.tn (i := 6) rfl HS ?_
      refine HeldBy.tk (i := 7) (v := encY (x2, ⟨bo, L.length, bc⟩)) rfl (fun V hV => loadY_at (HR2.out V hV.2.1) rfl rfl) HS ?_
      have HSS : ∀ V, Below U0.heap.size U0 V → VOwn V R1 ⟨some ⟨g1, 0, none⟩, K1.length, c1⟩ K1 ∧ VOwn V R2 ⟨some ⟨g2, 0, none⟩, K1.length, c2⟩ K2 ∧ StrIn V ⟨ao, L.length, ac⟩ L ∧ StrIn V ⟨bo, L.length, bc⟩ L ∧ Below w.heap.size w V := fun V hb => ⟨HS.1.after hb, HS.2.1.after hb, HS.2.2.1.after hb, HS.2.2.2.1.after hb, HS.2.2.2.2.trans (hb.mono HS.2.2.2.2.size)⟩
      refine HeldBy.two_allocs (i := 8) (j := 9) (x := .cells (cellsY zeroY) 58 (0, 0)) (y := .cells (cellsY zeroY) 58 (0, 0)) (by kernel_rfl) (by kernel_rfl) (by kernel_rfl) rfl rfl rfl rfl (makes_y rfl) (makes_y rfl) rfl (by kernel_rfl) (fun p q => by unfold HeldBy.ptr; go_simp; rfl) (fun p q => by unfold HeldBy.ptr; go_simp; try rfl) (fun w' hb => HSS w' hb) ?_
      intro p q U1 hp hq hpq hbx hby hb
      obtain ⟨V1, st1, bx1, ov1, lv1⟩ := stoY (show BoxY U1 p zeroY from hbx) (x2, ⟨ao, L.length, ac⟩)
      obtain ⟨V2, st2, by2, ov2, lv2⟩ := stoY (show BoxY V1 q zeroY from (ov1 q (fun e => hpq e.symm)).trans hby) (x2, ⟨bo, L.length, bc⟩)
      have hb1 := lv1 _ _ hb hp
      have hb2 := lv2 _ _ hb1 hq
      have hbx2 : BoxY V2 p (x2, ⟨ao, L.length, ac⟩) := (ov2 p hpq).trans bx1
      refine HeldBy.store (i := 10) (w' := V1) rfl (by kernel_rfl) (by rfl) (st1 rfl rfl rfl) (by first | (go_simp; rfl) | (go_simp; done)) (HSS V1 hb1) ?_
      refine HeldBy.store (i := 11) (w' := V2) rfl (by kernel_rfl) (by rfl) (st2 rfl rfl rfl) (by first | (go_simp; rfl) | (go_simp; done)) (HSS V2 hb2) ?_
      refine wpAnyH_done (by kernel_rfl) ?_ _
      have HX := Lib.hid hbx2
      have HY := Lib.hid by2
      have HT := Lib.hid (HSS V2 hb2).2.2.1
      have HU := Lib.hid (HSS V2 hb2).2.2.2.1
      have HW := Lib.hid (HSS V2 hb2).2.2.2.2
      clear HSS HS hp hq hpq hbx hby hb st1 bx1 ov1 lv1 st2 by2 ov2 lv2 hb1 hb2 hbx2
      have x0 := HX.out.c0
      have x1 := HX.out.c1
      have x2' := HX.out.c2
      have x3 := HX.out.c3
      have x4 := HX.out.c4
      have y0 := HY.out.c0
      have y1 := HY.out.c1
      have y2' := HY.out.c2
      have y3 := HY.out.c3
      have y4 := HY.out.c4
      dsimp only at x0 x1 x2' x3 x4 y0 y1 y2' y3 y4
      go_upto_region 9 with (fail)
      refine wp_gen (fun V => BoxY V p (x2, ⟨ao, L.length, ac⟩) ∧ BoxY V q (x2, ⟨bo, L.length, bc⟩) ∧ StrIn V ⟨ao, L.length, ac⟩ L ∧ StrIn V ⟨bo, L.length, bc⟩ L ∧ Below w.heap.size w V) ⟨HX.out, HY.out, HT.out, HU.out, HW.out⟩ ?_
      clear HX HY HT HU HW x0 x1 x2' x3 x4 y0 y1 y2' y3 y4
      rintro Z ⟨z1, z2, z3, z4, z5⟩
      have HX := Lib.hid z1
      have HY := Lib.hid z2
      have HT := Lib.hid z3
      have HU := Lib.hid z4
      have HW := Lib.hid z5
      clear z1 z2 z3 z4 z5
      go_wp2
      go_loopw [8] (fun kv wr => ∃ k : Nat, kv = .int .i64 (k : Int) ∧ k ≤ L.length ∧ Below Z.heap.size Z wr) (fun kv _ => L.length - (RowKit.intOf kv).toNat)
      case atStart => exact ⟨0, rfl, Nat.zero_le _, Below.refl _ _⟩
      case round =>
        obtain ⟨k, rfl, hk, hlk⟩ := hrel
        have x4 := (HX.out.after hlk).c4
        dsimp only at x4
        have HWK := Lib.hid (HW.out.trans (hlk.mono HW.out.size))
        by_cases hlt2 : k < L.length
        · have hlt2' : (k : Int) < (L.length : Int) := by omega
          have h3 := HT.out.after hlk
          have h4 := HU.out.after hlk
          obtain ⟨s, hs⟩ : ∃ s, L[k]? = some s := ⟨_, List.getElem?_eq_getElem hlt2⟩
          obtain ⟨r1, -, k1, -, -⟩ := h3.at hs
          obtain ⟨r2, -, k2, -, -⟩ := h4.at hs
          dsimp only at k1 k2
          subst k1
          subst k2
          have hcell : ∀ (V : World) (r c : Nat), StrIn V ⟨some ⟨r, 0, none⟩, L.length, c⟩ L → V.cell? ⟨r, k, none⟩ = some (.string s) := fun V r c hV => by
            obtain ⟨r3, -, e8, -, h8⟩ := hV.at hs
            cases e8
            exact h8
          have HCELL := Lib.hid hcell
          have HTK := Lib.hid h3
          have HUK := Lib.hid h4
          have HXK := Lib.hid (HX.out.after hlk)
          have HYK := Lib.hid (HY.out.after hlk)
          have HLK := Lib.hid hlk
          clear h3 h4 hs hcell hlk
          go_upto_region 12 with (fail)
          clear x4
          refine wp_region_held_drew (S := fun V => BoxY V p (x2, ⟨some ⟨r1, 0, none⟩, L.length, ac⟩) ∧ BoxY V q (x2, ⟨some ⟨r2, 0, none⟩, L.length, bc⟩) ∧ StrIn V ⟨some ⟨r1, 0, none⟩, L.length, ac⟩ L ∧ StrIn V ⟨some ⟨r2, 0, none⟩, L.length, bc⟩ L ∧ Below Z.heap.size Z V) (by kernel_rfl) ⟨HXK.out, HYK.out, HTK.out, HUK.out, HLK.out.drew⟩ (fun _ => ?_)
          refine HeldBy.gen (fun V => BoxY V p (x2, ⟨some ⟨r1, 0, none⟩, L.length, ac⟩) ∧ BoxY V q (x2, ⟨some ⟨r2, 0, none⟩, L.length, bc⟩) ∧ StrIn V ⟨some ⟨r1, 0, none⟩, L.length, ac⟩ L ∧ StrIn V ⟨some ⟨r2, 0, none⟩, L.length, bc⟩ L ∧ Below Z.heap.size Z V) ⟨HXK.out, HYK.out, HTK.out, HUK.out, HLK.out.drew⟩ ?_
          clear HXK HYK HTK HUK HLK
          rintro U0 HS
          refine HeldBy.tn (i := 0) rfl HS ?_
          refine HeldBy.tk (i := 1) (v := .slice (some ⟨r1, 0, none⟩) L.length ac) rfl (fun V hV => by have h := hV.1.c4; first | (go_simp; rfl) | (go_simp; done)) HS ?_
          refine HeldBy.tn (i := 2) rfl HS ?_
          refine HeldBy.tn (i := 3) rfl HS ?_
          refine HeldBy.tk (i := 4) (v := .string s) rfl (fun V hV => by have h := HCELL.out V _ _ hV.2.2.1; first | (go_simp; rfl) | (go_simp; done)) HS ?_
          refine HeldBy.tn (i := 5) rfl HS ?_
          refine HeldBy.tk (i := 6) (v := .slice (some ⟨r2, 0, none⟩) L.length bc) rfl (fun V hV => by have h := hV.2.1.c4; first | (go_simp; rfl) | (go_simp; done)) HS ?_
          refine HeldBy.tn (i := 7) rfl HS ?_
          refine HeldBy.tn (i := 8) rfl HS ?_
          refine HeldBy.tk (i := 9) (v := .string s) rfl (fun V hV => by have h := HCELL.out V _ _ hV.2.2.2.1; first | (go_simp; rfl) | (go_simp; done)) HS ?_
          refine HeldBy.tk (i := 10) (v := .bool false) rfl (fun _ _ => by first | (go_simp; rfl) | (go_simp; done) | (go_simp; simp)) HS ?_
          refine wpAnyH_done (by kernel_rfl) ?_ _
          have HWQ := Lib.hid HS.2.2.2.2
          clear HS HCELL
          go_wp2
          go_roundw
          case rel => exact ⟨k + 1, by go_num, by omega, HWQ.out⟩
          case measure => simp [RowKit.intOf]; omega
        · have hlt2' : ¬ (k : Int) < (L.length : Int) := by omega
          clear hlk
          go_wp2
          go_roundw
          case rel => exact ⟨j + 1, by go_num, by omega, HWK.out⟩
          case measure => simp [RowKit.intOf]; omega
    · have hlt' : ¬ (j : Int) < (K1.length : Int) := by omega
      go_wp2
      go_ret
      exact ⟨rfl, hlow⟩
theorem neq_sameF {oi : Oper} {a : Act} {x y : Operand} {p : DS} {W : World} {t : TypeId} (ho : oi.op = .binOp .neq 63 x y t) (hx : a.eval x = encF p) (hy : a.eval y = encF p) :
    (execOp a.eval oi).run Try.prog W = .ok (.value (.bool false)) W := by
  have hq : (eqGuard .neq 63 x y (encF p) (encF p)).run Try.prog W = .ok () W := run_eqGuard_agg W .neq 63 x y (cellsF p) (cellsF p) (by kernel_rfl)
  have h : (binOp .neq 63 (encF p) (encF p)).run Try.prog W = .ok (.bool false) W := by
    unfold encF cellsF
    go_simp
  unfold execOp
  simp only [ho, hx, hy, Sem.run_bind, hq, Result.andThen_ok, h]
  rfl
set_option maxRecDepth 100000 in
set_option maxHeartbeats 4000000 in
theorem sameS_any (s1 s2 : Sl) (K : List DS) (R1 R2 : Nat) (w : World) (h1 : SOwn w R1 s1 K) (h2 : SOwn w R2 s2 K) (hn : K.length ≤ 1000) :
    Calls Try.prog 36 #[encSl s1, encSl s2] w fun e w' => e = .returned (.bool true) ∧ Below w.heap.size w w' := by
  obtain ⟨o1, n1, c1⟩ := s1
  obtain ⟨o2, n2, c2⟩ := s2
  have e1 : n1 = K.length := (own_view h1).1
  have e2 : n2 = K.length := (own_view h2).1
  subst e1
  subst e2
  have H1 := Lib.hid h1
  have H2 := Lib.hid h2
  clear h1 h2
  unfold encSl
  go_enter Try.func36, Try.ntmps36
  go_wp2
  go_loopw [5] (fun iv wr => ∃ j : Nat, iv = .int .i64 (j : Int) ∧ j ≤ K.length ∧ Below w.heap.size w wr) (fun iv _ => K.length - (RowKit.intOf iv).toNat)
  case atStart => exact ⟨0, rfl, Nat.zero_le _, Below.refl _ _⟩
  case round =>
    obtain ⟨j, rfl, hj, hlow⟩ := hrel
    by_cases hlt : j < K.length
    · have hlt' : (j : Int) < (K.length : Int) := by omega
      obtain ⟨x, hx⟩ : ∃ y, K[j]? = some y := ⟨_, List.getElem?_eq_getElem hlt⟩
      have q1 := SOwn.after H1.out hlow
      have q2 := SOwn.after H2.out hlow
      obtain ⟨g1, k1, -, -⟩ := sown_row q1 hx
      obtain ⟨g2, k2, -, -⟩ := sown_row q2 hx
      dsimp only at k1 k2
      subst k1
      subst k2
      have HR : Hid (∀ V R g c, SOwn V R ⟨some ⟨g, 0, none⟩, K.length, c⟩ K → World.rangeAt V g (j * 3) (cellsDS x).toList) := fun V R g c hV => by
        obtain ⟨g, k, -, h⟩ := sown_row hV hx
        cases k
        exact h
      have HA := Lib.hid q1
      have HB := Lib.hid q2
      have HW := Lib.hid hlow
      clear q1 q2 hlow hx
      go_upto_region 6 with (fail)
      refine wp_region_held_drew (S := fun V => SOwn V R1 ⟨some ⟨g1, 0, none⟩, K.length, c1⟩ K ∧ SOwn V R2 ⟨some ⟨g2, 0, none⟩, K.length, c2⟩ K ∧ Below w.heap.size w V) (by kernel_rfl) ⟨HA.out, HB.out, HW.out.drew⟩ (fun _ => ?_)
      refine HeldBy.gen (fun V => SOwn V R1 ⟨some ⟨g1, 0, none⟩, K.length, c1⟩ K ∧ SOwn V R2 ⟨some ⟨g2, 0, none⟩, K.length, c2⟩ K ∧ Below w.heap.size w V) ⟨HA.out, HB.out, HW.out.drew⟩ ?_
      clear HA HB HW
      rintro U0 HS
      refine HeldBy.tn (i := 0) rfl HS ?_
      refine HeldBy.tn (i := 1) rfl HS ?_
      refine HeldBy.tn (i := 2) rfl HS ?_
      refine HeldBy.tk (i := 3) (v := encF x) rfl (fun V hV => loadF_at (HR.out V _ _ _ hV.1) rfl rfl) HS ?_
      refine HeldBy.tn (i := 4) rfl HS ?_
      refine HeldBy.tn (i := 5) rfl HS ?_
      refine HeldBy.tn (i := 6) rfl HS ?_
      refine HeldBy.tk (i := 7) (v := encF x) rfl (fun V hV => loadF_at (HR.out V _ _ _ hV.2.1) rfl rfl) HS ?_
      refine HeldBy.tk (i := 8) (v := .bool false) rfl (fun V hV => neq_sameF rfl rfl rfl) HS ?_
      refine wpAnyH_done (by kernel_rfl) ?_ _
      have HW := Lib.hid HS.2.2
      clear HS HR
      go_wp2
      go_roundw
      case rel => exact ⟨j + 1, by go_num, by omega, HW.out⟩
      case measure => simp [RowKit.intOf]; omega
    · have hlt' : ¬ (j : Int) < (K.length : Int) := by omega
      go_wp2
      go_ret
      exact ⟨rfl, hlow⟩
end Go.Proofs.Ytbgfccanbgpjiaa.O.I
namespace Go.Proofs.Ytbgfccanbgpjiaa.O.I
open Go Go.RowKit Go.Lib KM
attribute [local go_sem] Oper.semAt_some
def Idle (S : St) (c : Cl) : Prop := rightB c = false ∨ (rightB c = true ∧ ∃ p, lastOf S.seen (snapV c.verb) c.target = some p ∧ c.num ≤ p.1.num) ∨ (rightB c = true ∧ lastOf S.seen (snapV c.verb) c.target = none ∧ 256 ≤ S.seen.length)
theorem idle_same {S : St} {c : Cl} (h : Idle S c) : (doS S c).2 = S := by
  rcases doS_cases S c with ⟨-, e⟩ | ⟨hr, ⟨p, -, -, e⟩ | ⟨p, -, -, e⟩ | ⟨p, -, -, -, e⟩ | ⟨-, -, e⟩ | ⟨hn, e⟩⟩
  · rw [e]
  · rw [e]
  · rw [e]
  · rw [e]
  · rw [e]
  · rcases h with h1 | ⟨-, p, hp, hle⟩ | ⟨-, hp, hl⟩
    · rw [hr] at h1; cases h1
    · have := hn p hp
      omega
    · unfold doS
      rw [if_neg (by rw [hr]; decide), hp]
      dsimp only
      rw [if_pos hl]
theorem idle_again {S : St} (ho : OnceL S.seen) (c : Cl) : Idle (doS S c).2 c := by
  rcases doS_cases S c with ⟨hr, e⟩ | ⟨hr, ⟨p, hp, hl, e⟩ | ⟨p, hp, he, e⟩ | ⟨p, hp, he, -, e⟩ | ⟨hp, hl, e⟩ | ⟨-, e⟩⟩
  · exact .inl hr
  · rw [e]; exact .inr (.inl ⟨hr, p, hp, by omega⟩)
  · rw [e]; exact .inr (.inl ⟨hr, p, hp, by rw [← he]; exact Int.le_refl _⟩)
  · rw [e]; exact .inr (.inl ⟨hr, p, hp, by omega⟩)
  · rw [e]; exact .inr (.inr ⟨hr, hp, hl⟩)
  · rw [e]; exact .inr (.inl ⟨hr, _, lastOf_done S ho c, Int.le_refl _⟩)
theorem idle_seen {S : St} {c : Cl} (hn : 0 ≤ c.num) (h : c.num ≤ seenN S c.verb c.target) : Idle S c := by
  cases hr : rightB c with
  | false => exact .inl hr
  | true =>
    cases hp : lastOf S.seen (snapV c.verb) c.target with
    | none =>
      rw [seenN_none hp] at h
      exact absurd (show c.num = 0 by omega) (right_numS hr)
    | some p =>
      rw [seenN_some hp] at h
      exact .inr (.inl ⟨hr, p, hp, h⟩)
theorem rright_is {c : Cl} (hf : FitC c) {b : Bool} (h : rightB c = b) (w : World) : Calls Try.prog 18 #[encC c] w fun e w' => e = .returned (.bool b) ∧ Below w.heap.size w w' := h ▸ rright_any c hf w
section
variable {d r v s n B : Nat} {W : World} {S : St}
theorem do_still (h : PAt d r v s n B W S) (c : Cl) (hi : Idle S c) : Calls Try.prog 24 #[.pointer (some ⟨d, 0, none⟩), encC c] W fun e V => e = .returned (encR (doS S c).1) ∧ Below W.heap.size W V := by
  obtain ⟨No, ms, ⟨Vo, So, hd, hv, hs⟩, hN⟩ := h.rel
  have hg := hN.get ⟨snapV c.verb, c.target⟩
  rcases hi with hri | ⟨hri, p, hp, hle⟩ | ⟨hri, hp, hl⟩
  · rw [show doS S c = (errR 2, S) by unfold doS; rw [if_pos hri]]
    exact d_bad d c W hri
  · have h0 : ¬ rightB c = false := by rw [hri]; decide
    have hg' : KM.get ⟨snapV c.verb, c.target⟩ No = some (encP ⟨p.1, p.2⟩) := by rw [hg]; show Option.map _ (lastOf S.seen (snapV c.verb) c.target) = _; rw [hp]; rfl
    by_cases h1 : c.num < p.1.num
    · rw [show doS S c = (errR 9, S) by unfold doS; rw [if_neg h0, hp]; exact if_pos h1]
      exact d_stale d r v s n _ Vo So No c _ W p.1 p.2 hd rfl hg' hri h1
    · have h2 : c.num = p.1.num := by omega
      by_cases h3 : c = p.1
      · rw [show doS S c = (p.2, S) by unfold doS; rw [if_neg h0, hp]; dsimp only; rw [if_neg h1, if_pos h2]; exact if_pos h3]
        rw [← h3] at hg'
        exact d_same d r v s n _ Vo So No c _ W p.2 hd rfl hg' hri
      · rw [show doS S c = (errR 6, S) by unfold doS; rw [if_neg h0, hp]; dsimp only; rw [if_neg h1, if_pos h2]; exact if_neg h3]
        exact d_conflict d r v s n _ Vo So No c _ W p.1 p.2 hd rfl hg' hri h2 h3
  · have hg' : KM.get ⟨snapV c.verb, c.target⟩ No = none := by rw [hg]; show Option.map _ (lastOf S.seen (snapV c.verb) c.target) = _; rw [hp]; rfl
    rw [show doS S c = (errR 7, S) by unfold doS; rw [if_neg (by rw [hri]; decide), hp]; exact if_pos hl]
    exact d_full d r v s n _ Vo So No c _ W hd rfl hg' hri (by rw [hN.len]; omega)
end
end Go.Proofs.Ytbgfccanbgpjiaa.O.I
namespace Go.Proofs.Ytbgfccanbgpjiaa.O.I
open Go Go.RowKit Go.Lib KM
attribute [local go_sem] Oper.semAt_some
theorem loadVarY {W : World} {b : Nat} {y : DVS} (h : BoxY W b y) : (loadVar 58 ⟨b, 0, none⟩).run Try.prog W = .ok (encY y) W := run_loadVar_row W b 58 58 (cellsY y) (0, 0) _ h undY rfl sizeY
theorem built_y0 : Try.prog.built 58 [] = some (cellsY zeroY) := by kernel_rfl
def Finds (K : List DVS) (k : ByteArray) (y : DVS) (f : Bool) : Prop := (f = true ∧ volOf (K.map (·.1)) k = some y.1 ∧ y ∈ K) ∨ (f = false ∧ volOf (K.map (·.1)) k = none ∧ y = zeroY)
def FindA (K : List DVS) (k : ByteArray) (w : World) (e : Ending) (w' : World) : Prop := ∃ y f, e = .returned (.tuple #[encY y, .bool f]) ∧ Finds K k y f ∧ Below w.heap.size w w'
theorem finds_some {K : List DVS} {k : ByteArray} {x : DV} (h : volOf (K.map (·.1)) k = some x) {y : DVS} {f : Bool} (hf : Finds K k y f) : f = true ∧ y.1 = x ∧ y ∈ K := by
  rcases hf with ⟨h1, h2, h3⟩ | ⟨-, h2, -⟩
  · rw [h] at h2
    exact ⟨h1, (Option.some.inj h2).symm, h3⟩
  · rw [h] at h2
    cases h2
theorem finds_none {K : List DVS} {k : ByteArray} (h : volOf (K.map (·.1)) k = none) {y : DVS} {f : Bool} (hf : Finds K k y f) : f = false ∧ y = zeroY := by
  rcases hf with ⟨-, h2, -⟩ | ⟨h1, -, h3⟩
  · rw [h] at h2
    cases h2
  · exact ⟨h1, h3⟩
set_option maxRecDepth 100000 in
set_option maxHeartbeats 4000000 in
theorem find_any (s : Sl) (K : List DVS) (R : Nat) (k : ByteArray) (w : World) (h : VOwn w R s K) (hn : K.length ≤ 1000) :
    Calls Try.prog 29 #[encSl s, .string k] w (FindA K k w) := by
  obtain ⟨o1, n1, c1⟩ := s
  have e1 : n1 = K.length := (own_view h.1).1
  subst e1
  have H1 := Lib.hid h
  clear h
  unfold encSl
  go_enter Try.func29, Try.ntmps29
  go_upto_region 1 with (fail)
  refine wp_gen (fun V => BoxY V w.heap.size zeroY ∧ Below w.heap.size w V) ⟨heap_alloc_new w _, (Below.refl _ _).alloc (Nat.le_refl _) _⟩ ?_
  rintro V1 ⟨hy1, hw1⟩
  have HY := Lib.hid hy1
  have HW := Lib.hid hw1
  clear hy1 hw1
  go_wp2
  go_loopw [6] (fun iv wr => ∃ j : Nat, iv = .int .i64 (j : Int) ∧ j ≤ K.length ∧ (∀ i y, i < j → K[i]? = some y → decide (y.1.name = k) = false) ∧ V1 = wr) (fun iv _ => K.length - (RowKit.intOf iv).toNat)
  case atStart => exact ⟨0, rfl, Nat.zero_le _, fun i _ hi => absurd hi (by omega), rfl⟩
  case round =>
    obtain ⟨j, rfl, hj, hno, rfl⟩ := hrel
    have HNO := Lib.hid hno
    clear hno
    by_cases hlt : j < K.length
    · have hlt' : (j : Int) < (K.length : Int) := by omega
      obtain ⟨y, hy⟩ : ∃ y, K[j]? = some y := ⟨_, List.getElem?_eq_getElem hlt⟩
      obtain ⟨g1, k1, -, hrow, -⟩ := vown_row (H1.out.after HW.out) hy
      dsimp only at k1
      subst k1
      have y0 : V1.cell? ⟨g1, j * 5, none⟩ = some (.string y.1.name) := hrow 0 _ rfl
      have HR := Lib.hid hrow
      have HYY := Lib.hid hy
      clear hrow hy
      by_cases hk : y.1.name = k
      · have e1 : (y.1.name.toList == k.toList) = true := by rw [hk]; exact beq_self_eq_true _
        obtain ⟨V2, hst, hb2, -, hl2⟩ := stoY HY.out y
        have HFD : Hid (Finds K k y true) := by
          refine .inl ⟨rfl, ?_, List.mem_of_getElem? HYY.out⟩
          refine found_find (i := j) ?_ (by simpa using hk) (fun i x hi hx => ?_)
          · rw [List.getElem?_map, HYY.out]; rfl
          · rw [List.getElem?_map] at hx
            obtain ⟨z, hz, rfl⟩ := Option.map_eq_some_iff.1 hx
            exact HNO.out i z hi hz
        have HB2 := Lib.hid hb2
        have HW2 := Lib.hid (hl2 _ _ HW.out (Nat.le_refl _))
        clear hb2 hl2
        go_wp2_with (first | (refine wpList_got rfl (loadY_at HR.out rfl rfl) ?_) | (refine wpList_skip rfl (hst rfl rfl rfl) ?_))
        refine bodyPost_ret (v := .tuple #[encY y, .bool true]) (results_ct rfl rfl rfl (loadVarY HB2.out)) rfl ?_
        exact ⟨_, _, rfl, HFD.out, HW2.out⟩
      · have e1 : (y.1.name.toList == k.toList) = false := by rw [eqB]; exact decide_eq_false hk
        have HN2 : Hid (∀ i x, i < j + 1 → K[i]? = some x → decide (x.1.name = k) = false) := found_more (p := fun x : DVS => decide (x.1.name = k)) HYY.out (by simpa using hk) HNO.out
        go_wp2
        go_roundw
        case rel => exact ⟨j + 1, by go_num, by omega, HN2.out, by first | trivial | rfl⟩
        case measure => simp [RowKit.intOf]; omega
    · have hlt' : ¬ (j : Int) < (K.length : Int) := by omega
      obtain ⟨V2, hst, hb2, -, hl2⟩ := stoY HY.out zeroY
      have HFD : Hid (Finds K k zeroY false) := by
        refine .inr ⟨rfl, ?_, rfl⟩
        refine List.find?_eq_none.2 fun x hx => ?_
        obtain ⟨z, hz, rfl⟩ := List.mem_map.1 hx
        obtain ⟨i, hi, hzi⟩ := List.getElem_of_mem hz
        have := HNO.out i z (by omega) (by rw [List.getElem?_eq_getElem hi, hzi])
        simpa using this
      have HB2 := Lib.hid hb2
      have HW2 := Lib.hid (hl2 _ _ HW.out (Nat.le_refl _))
      clear hb2 hl2
      go_wp2_with (first | ((with_reducible refine wpList_build_to rfl 58 _ rfl (cellsY zeroY) ?_ ?_); exact built_y0) | (refine wpList_skip rfl (hst rfl rfl rfl) ?_))
      refine bodyPost_ret (v := .tuple #[encY zeroY, .bool false]) (results_ct rfl rfl rfl (loadVarY HB2.out)) rfl ?_
      exact ⟨_, _, rfl, HFD.out, HW2.out⟩
end Go.Proofs.Ytbgfccanbgpjiaa.O.I
