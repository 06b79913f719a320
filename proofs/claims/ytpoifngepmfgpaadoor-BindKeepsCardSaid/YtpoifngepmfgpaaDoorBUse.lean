/- Whether a volume's claim is there, and whether it is in use; what is written of a volume that is given up. -/
import Derived.Test.YtpoifngepmfgpaaDoorBVolN
import Derived.Test.YtpoifngepmfgpaaDoorBEqs
import Derived.Test.YtpoifngepmfgpaaDoorBRef
namespace Go.Proofs.YtpoifngepmfgpaaDoor.O.B
open Go Go.RowKit Go.Shelf Go.Lib RangeMap KM
attribute [local go_sem] Oper.semAt_some

set_option maxRecDepth 100000 in
set_option maxHeartbeats 2000000 in
theorem claimed1_any (c v : Obj) (b : Nat) (W : World) (hb : BoxO W b v) (ht : Tab W) (hc : (0 ≤ c.born ∧ c.born ≤ 18446744073709551615) ∧ c.name.size ≤ 140737488351232) :
    Calls Tryd.prog 62 #[encO c, .pointer (some ⟨b, 0, none⟩)] W fun e W' => e = .returned (.bool (decide (refN c = v.claim))) ∧ Below W.heap.size W W' := by
  have HB := Lib.hid hb
  have HT := Lib.hid ht
  have HR := Lib.hid (fun V (hV : Tab V) => ref_any c V hV hc.1 hc.2)
  clear hb ht hc
  generalize refN c = r at *
  unfold encO
  go_enter Tryd.func62, Tryd.ntmps62
  go_upto_region 1 with (fail)
  refine wp_gen (fun V => BoxO V W.heap.size c ∧ Below W.heap.size W V ∧ BoxO V b v ∧ Tab V) ⟨BoxO.new W c, (Below.refl _ _).alloc (Nat.le_refl _) _, HB.out.alloc _, HT.out.after ((Below.refl _ _).alloc (Nat.le_refl _) _)⟩ ?_
  clear HB HT
  rintro V ⟨hbx, hl, hn, ht⟩
  have HO := Lib.hid hbx
  have HV := Lib.hid hn
  have HL := Lib.hid hl
  have HT := Lib.hid ht
  clear hbx hl hn ht
  refine wp_region_held_drew (S := fun V => BoxO V W.heap.size c ∧ BoxO V b v ∧ Below W.heap.size W V ∧ Tab V) (by kernel_rfl) ⟨HO.out, HV.out, HL.out.drew, HT.out.drew⟩ (fun _ => ?_)
  refine HeldBy.gen (fun V => BoxO V W.heap.size c ∧ BoxO V b v ∧ Below W.heap.size W V ∧ Tab V) ⟨HO.out, HV.out, HL.out.drew, HT.out.drew⟩ ?_
  clear HO HV HL HT
  rintro U0 HS
  refine HeldBy.take (i := 0) (v := encO c) rfl (by kernel_rfl) (by kernel_rfl) (by kernel_rfl) (fun _ _ _ h => h) (by rfl) (fun V hV => load_obj hV.1 rfl rfl) (by go_simp; rfl) HS ?_
  refine HeldBy.take (i := 2) rfl (by kernel_rfl) (by kernel_rfl) (by kernel_rfl) (fun _ _ _ h => h) (by rfl) (fun _ _ => by first | (go_simp; rfl) | (go_simp; done)) (by go_simp; rfl) HS ?_
  refine HeldBy.take (i := 3) (v := .string v.claim) rfl (by kernel_rfl) (by kernel_rfl) (by kernel_rfl) (fun _ _ _ h => h) (by rfl) (fun V hV => by have hc := hV.2.1.c14; first | (go_simp; rfl) | (go_simp; done)) (by go_simp; rfl) HS ?_
  refine HeldBy.call (i := 1) (v := .string r) rfl (by kernel_rfl) (by rfl) (by go_simp; exact ⟨rfl, rfl⟩) (by go_simp; rfl) ?_
  refine (HR.out _ HS.2.2.2).mono ?_
  rintro e U1 ⟨rfl, hb⟩
  replace HS : BoxO U1 W.heap.size c ∧ BoxO U1 b v ∧ Below W.heap.size W U1 ∧ Tab U1 := ⟨HS.1.after hb, HS.2.1.after hb, HS.2.2.1.trans (hb.mono HS.2.2.1.size), HS.2.2.2.after hb⟩
  refine ⟨rfl, HS, ?_⟩
  clear hb
  refine HeldBy.take (i := 4) (v := .bool (decide (r = v.claim))) rfl (by kernel_rfl) (by kernel_rfl) (by kernel_rfl) (fun _ _ _ h => h) (by rfl) (fun _ _ => exec_eql_str rfl rfl rfl rfl) (by go_simp; rfl) HS ?_
  refine HeldBy.take (i := 5) rfl (by kernel_rfl) (by kernel_rfl) (by kernel_rfl) (fun _ _ _ h => h) (by rfl) (fun _ _ => by first | (go_simp; rfl) | (go_simp; done)) (by go_simp; rfl) HS ?_
  refine wpAnyH_done (by kernel_rfl) ?_ _
  have HX := Lib.hid HS.2.2.1
  clear HS HR
  go_wp2
  go_ret
  exact ⟨rfl, HX.out⟩
theorem claimed1_enters : ∀ args w, (callFunc 62 args).run Tryd.prog w = .ok (.enter 62 args) w :=
  enters_of (P := Tryd.prog) Tryd.func62 (by kernel_rfl) rfl
set_option maxRecDepth 100000 in
set_option maxHeartbeats 2000000 in
theorem use1_any (o v : Obj) (b : Nat) (W : World) (hb : BoxO W b v) :
    Calls Tryd.prog 63 #[encO o, .pointer (some ⟨b, 0, none⟩)] W fun e W' => e = .returned (.bool (decide (o.volume = v.name))) ∧ Below W.heap.size W W' := by
  have HB := Lib.hid hb
  clear hb
  unfold encO
  go_enter Tryd.func63, Tryd.ntmps63
  go_upto_region 1 with (fail)
  refine wp_gen (fun V => BoxO V W.heap.size o ∧ Below W.heap.size W V ∧ BoxO V b v) ⟨BoxO.new W o, (Below.refl _ _).alloc (Nat.le_refl _) _, HB.out.alloc _⟩ ?_
  clear HB
  rintro V ⟨hbx, hl, hn⟩
  have c1 := hbx.c15
  have c2 := hn.c1
  have HL := Lib.hid hl
  clear hbx hl hn
  go_wp2
  go_ret
  refine ⟨?_, HL.out⟩
  show Ending.returned (.bool (o.volume.toList == v.name.toList)) = _
  rw [eqB]
theorem use1_enters : ∀ args w, (callFunc 63 args).run Tryd.prog w = .ok (.enter 63 args) w :=
  enters_of (P := Tryd.prog) Tryd.func63 (by kernel_rfl) rfl
set_option maxRecDepth 100000 in
set_option maxHeartbeats 2000000 in
theorem use2_any (o v : Obj) (b : Nat) (W : World) (hb : BoxO W b v) :
    Calls Tryd.prog 64 #[encO o, .pointer (some ⟨b, 0, none⟩)] W fun e W' => e = .returned (.bool (decide (o.volume = v.name) && (o.phase == 10))) ∧ Below W.heap.size W W' := by
  have HB := Lib.hid hb
  clear hb
  unfold encO
  go_enter Tryd.func64, Tryd.ntmps64
  go_upto_region 1 with (fail)
  refine wp_gen (fun V => BoxO V W.heap.size o ∧ Below W.heap.size W V ∧ BoxO V b v) ⟨BoxO.new W o, (Below.refl _ _).alloc (Nat.le_refl _) _, HB.out.alloc _⟩ ?_
  clear HB
  rintro V ⟨hbx, hl, hn⟩
  have c1 := hbx.c15
  have c2 := hn.c1
  have c3 := hbx.c17
  have HL := Lib.hid hl
  clear hbx hl hn
  cases e1 : (o.volume.toList == v.name.toList) with
  | false =>
    go_wp2
    go_ret
    exact ⟨by rw [← eqB, e1]; rfl, HL.out⟩
  | true =>
    go_wp2
    go_ret
    exact ⟨by rw [← eqB, e1]; rfl, HL.out⟩
theorem use2_enters : ∀ args w, (callFunc 64 args).run Tryd.prog w = .ok (.enter 64 args) w :=
  enters_of (P := Tryd.prog) Tryd.func64 (by kernel_rfl) rfl

set_option maxRecDepth 100000 in
set_option maxHeartbeats 2000000 in
theorem claimed_any (l : List Obj) (s : Value) (v : Obj) (w : World) (hl : ObjsIn w s l) (ht : Tab w) (hall : ∀ s ∈ l, (0 ≤ s.born ∧ s.born ≤ 18446744073709551615) ∧ s.name.size ≤ 140737488351232) :
    Calls Tryd.prog 39 #[s, encO v] w fun e w' => e = .returned (.bool (claimedN l v)) ∧ Below w.heap.size w w' := by
  obtain ⟨o, cp, rfl, -, -⟩ := id hl
  have HL := Lib.hid hl
  have HT := Lib.hid ht
  have H1 : Hid (∀ (V : World) (b : Nat), ObjsIn V (.slice o l.length cp) l → Tab V → BoxO V b v → Calls Tryd.prog 54 #[.slice o l.length cp, .int .u8 3, .func (.func 62) #[] #[.pointer (some ⟨b, 0, none⟩)]] V fun e w' => e = .returned (.bool (claimedN l v)) ∧ Below V.heap.size V w') := fun V b hV hT hb =>
    has_any l _ 3 _ _ _ V hV ⟨claimed1_enters, fun x hx W hW => claimed1_any x v b W (hb.after hW) (hT.after hW) (hall x hx)⟩
  clear hl ht hall
  generalize claimedN l v = p at *
  unfold encO
  go_enter Tryd.func39, Tryd.ntmps39
  go_upto_region 1 with (fail)
  refine wp_gen (fun V => BoxO V w.heap.size v ∧ Below w.heap.size w V) ⟨BoxO.new w v, (Below.refl _ _).alloc (Nat.le_refl _) _⟩ ?_
  rintro V ⟨h1, hlw⟩
  have HC := Lib.hid (H1.out V _ (HL.out.after hlw) (HT.out.after hlw) h1)
  have HW := Lib.hid hlw
  clear h1 hlw H1
  go_wp2_with (fail)
  refine HC.out.mono ?_
  rintro e W2 ⟨rfl, hb2⟩
  have HX := Lib.hid (HW.out.trans (hb2.mono HW.out.size))
  clear HC hb2 HW
  go_wp2
  go_ret
  exact ⟨rfl, HX.out⟩
set_option maxRecDepth 100000 in
set_option maxHeartbeats 2000000 in
theorem inUse_any (l : List Obj) (s : Value) (v : Obj) (w : World) (hl : ObjsIn w s l) :
    Calls Tryd.prog 41 #[s, encO v] w fun e w' => e = .returned (.bool (inUseN l v)) ∧ Below w.heap.size w w' := by
  obtain ⟨o, cp, rfl, -, -⟩ := id hl
  have HL := Lib.hid hl
  unfold inUseN
  have H1 : Hid (∀ (V : World) (b : Nat), ObjsIn V (.slice o l.length cp) l → BoxO V b v → Calls Tryd.prog 54 #[.slice o l.length cp, .int .u8 5, .func (.func 63) #[] #[.pointer (some ⟨b, 0, none⟩)]] V fun e w' => e = .returned (.bool (atN l v)) ∧ Below V.heap.size V w') := fun V b hV hb =>
    has_any l _ 5 _ _ _ V hV ⟨use1_enters, fun x _ W hW => use1_any x v b W (hb.after hW)⟩
  have H2 : Hid (∀ (V : World) (b : Nat), ObjsIn V (.slice o l.length cp) l → BoxO V b v → Calls Tryd.prog 54 #[.slice o l.length cp, .int .u8 7, .func (.func 64) #[] #[.pointer (some ⟨b, 0, none⟩)]] V fun e w' => e = .returned (.bool (cutN l v)) ∧ Below V.heap.size V w') := fun V b hV hb =>
    has_any l _ 7 _ _ _ V hV ⟨use2_enters, fun x _ W hW => use2_any x v b W (hb.after hW)⟩
  clear hl
  generalize atN l v = p at *
  generalize cutN l v = q at *
  unfold encO
  go_enter Tryd.func41, Tryd.ntmps41
  go_upto_region 1 with (fail)
  refine wp_gen (fun V => BoxO V w.heap.size v ∧ Below w.heap.size w V) ⟨BoxO.new w v, (Below.refl _ _).alloc (Nat.le_refl _) _⟩ ?_
  rintro V ⟨h1, hlw⟩
  have HC := Lib.hid (H1.out V _ (HL.out.after hlw) h1)
  have HB := Lib.hid h1
  have HW := Lib.hid hlw
  clear h1 hlw H1
  go_wp2_with (fail)
  refine HC.out.mono ?_
  rintro e W2 ⟨rfl, hb2⟩
  have hw2 := HW.out.trans (hb2.mono HW.out.size)
  have HC2 := Lib.hid (H2.out W2 _ (HL.out.after hw2) (HB.out.after hb2))
  have HW2 := Lib.hid hw2
  clear HC hb2 hw2 H2 HL HW HB
  cases p with
  | true =>
    clear HC2
    go_wp2
    go_ret
    exact ⟨rfl, HW2.out⟩
  | false =>
    go_wp2_with (fail)
    refine HC2.out.mono ?_
    rintro e W3 ⟨rfl, hb3⟩
    have HX := Lib.hid (HW2.out.trans (hb3.mono HW2.out.size))
    clear HC2 hb3 HW2
    go_wp2
    go_ret
    exact ⟨rfl, HX.out⟩

set_option maxRecDepth 100000 in
set_option maxHeartbeats 2000000 in
theorem erasing_any (v : Obj) (next : Int) (w : World) : Calls Tryd.prog 38 #[encO v, .int .u64 next] w fun e w' => e = .returned (encO (erasingN v next)) ∧ Below w.heap.size w w' := by
  obtain ⟨u, hu⟩ : ∃ u, erasingN v next = u := ⟨_, rfl⟩
  rw [hu]
  have HU := Lib.hid hu
  clear hu
  unfold encO
  go_enter Tryd.func38, Tryd.ntmps38
  go_upto_region 1 with (fail)
  refine wp_gen (fun V => BoxO V w.heap.size v ∧ BoxO V (w.heap.size + 1) O0 ∧ Below w.heap.size w V) (chain2 w _ _) ?_
  rintro V ⟨h1, h2, hl⟩
  have c17 := h1.c17
  have c18 := h1.c18
  have f17 := h1.free 17
  have f18 := h1.free 18
  have HA := Lib.hid h1
  have HO := Lib.hid h2
  have HL := Lib.hid hl
  clear h1 h2 hl
  go_upto_region 2 with (fail)
  refine wp_gen (fun V => BoxO V w.heap.size u ∧ BoxO V (w.heap.size + 1) O0 ∧ Below w.heap.size w V) ⟨by rw [← HU.out]; exact (HA.out.s17 6).s18 next, (HO.out.other (by show w.heap.size + 1 ≠ w.heap.size; omega) _).other (by show w.heap.size + 1 ≠ w.heap.size; omega) _, (HL.out.setCell (Nat.le_refl _) _).setCell (Nat.le_refl _) _⟩ ?_
  clear c17 c18 f17 f18 HA HO HL HU
  rintro V2 ⟨ha, ho, hl⟩
  obtain ⟨V6, hst, ho6, -, hb⟩ := storing ho u
  have HO6 := Lib.hid ho6
  have HX := Lib.hid (hb _ _ hl (by omega))
  clear ho6 hb ho hl
  go_wp2_with (first | (refine wpList_skip rfl (hst rfl rfl rfl) ?_) | ((with_reducible refine wpList_load_obj ?_ rfl ?_ ha ?_); rfl; rfl))
  refine bodyPost_ret (v := encO u) (results_cell_row rfl _ _ (w.heap.size + 1) 31 (cellsO u) (0, 0) _ rfl HO6.out undObj rfl sizeObj) rfl ?_
  exact ⟨rfl, HX.out⟩
set_option maxRecDepth 100000 in
set_option maxHeartbeats 2000000 in
theorem givenUp_any (v : Obj) (next : Int) (w : World) : Calls Tryd.prog 40 #[encO v, .int .u64 next] w fun e w' => e = .returned (encO (givenN v next)) ∧ Below w.heap.size w w' := by
  have HE := Lib.hid (fun V => erasing_any v next V)
  obtain ⟨u, hu⟩ : ∃ u, givenN v next = u := ⟨_, rfl⟩
  rw [hu]
  have HU := Lib.hid hu
  clear hu
  unfold encO
  go_enter Tryd.func40, Tryd.ntmps40
  go_upto_region 1 with (fail)
  refine wp_gen (fun V => BoxO V w.heap.size v ∧ BoxO V (w.heap.size + 1) O0 ∧ Below w.heap.size w V) (chain2 w _ _) ?_
  rintro V ⟨h1, h2, hl⟩
  have c10 := h1.c10
  cases hk : v.keep with
  | true =>
    have hg : ({ v with phase := 5 } : Obj) = u := by rw [← HU.out]; unfold givenN; rw [if_pos hk]
    rw [hk] at c10
    have HG := Lib.hid hg
    have c17 := h1.c17
    have f17 := h1.free 17
    have HA := Lib.hid h1
    have HO := Lib.hid h2
    have HL := Lib.hid hl
    clear h1 h2 hl HE hg
    go_upto_region 3 with (fail)
    refine wp_gen (fun V => BoxO V w.heap.size u ∧ BoxO V (w.heap.size + 1) O0 ∧ Below w.heap.size w V) ⟨by rw [← HG.out]; exact HA.out.s17 5, HO.out.other (by show w.heap.size + 1 ≠ w.heap.size; omega) _, HL.out.setCell (Nat.le_refl _) _⟩ ?_
    clear c10 c17 f17 HA HO HL HG HU
    rintro V2 ⟨ha, ho, hl⟩
    obtain ⟨V6, hst, ho6, -, hb⟩ := storing ho u
    have HO6 := Lib.hid ho6
    have HX := Lib.hid (hb _ _ hl (by omega))
    clear ho6 hb ho hl
    go_wp2_with (first | (refine wpList_skip rfl (hst rfl rfl rfl) ?_) | ((with_reducible refine wpList_load_obj ?_ rfl ?_ ha ?_); rfl; rfl))
    refine bodyPost_ret (v := encO u) (results_cell_row rfl _ _ (w.heap.size + 1) 31 (cellsO u) (0, 0) _ rfl HO6.out undObj rfl sizeObj) rfl ?_
    exact ⟨rfl, HX.out⟩
  | false =>
    have hg : erasingN v next = u := by rw [← HU.out]; unfold givenN; rw [if_neg (by rw [hk]; decide)]
    rw [hk] at c10
    rw [hg] at HE
    have HO := Lib.hid h2
    have HL := Lib.hid hl
    clear h2 hl hg
    go_wp2_with ((with_reducible refine wpList_load_obj ?_ rfl ?_ h1 ?_); rfl; rfl)
    refine (HE.out _).mono ?_
    rintro e W2 ⟨rfl, hb2⟩
    obtain ⟨V6, hst, ho6, -, hb⟩ := storing (HO.out.after hb2) u
    have HO6 := Lib.hid ho6
    have HX := Lib.hid (hb _ _ (HL.out.trans (hb2.mono HL.out.size)) (by omega))
    clear ho6 hb HO HL hb2 HE c10 h1
    go_wp2_with (refine wpList_skip rfl (hst rfl rfl rfl) ?_)
    refine bodyPost_ret (v := encO u) (results_cell_row rfl _ _ (w.heap.size + 1) 31 (cellsO u) (0, 0) _ rfl HO6.out undObj rfl sizeObj) rfl ?_
    exact ⟨rfl, HX.out⟩
end Go.Proofs.YtpoifngepmfgpaaDoor.O.B
