/- Own work. -/
import Derived.Test.YtbgfccanbgpjiaaDIRIs
import Derived.Test.YtbgfccanbgpjiaaDIRExp
namespace Go.Proofs.Ytbgfccanbgpjiaa.O.I
open Go Go.RowKit Go.Lib KM
attribute [local go_sem] Oper.semAt_some
def insP (y : DVS) : List DVS → List DVS
  | [] => [y]
  | z :: r => if Op.bytesLess y.1.name.toList z.1.name.toList then y :: z :: r else z :: insP y r
theorem insP_map (y : DVS) : ∀ l : List DVS, (insP y l).map (·.1) = insV y.1 (l.map (·.1))
  | [] => rfl
  | z :: r => by
    unfold insP
    rw [List.map_cons, show insV y.1 (z.1 :: r.map (·.1)) = if Op.bytesLess y.1.name.toList z.1.name.toList then y.1 :: z.1 :: r.map (·.1) else z.1 :: insV y.1 (r.map (·.1)) by rw [insV]]
    split
    · rfl
    · rw [List.map_cons, insP_map y r]
theorem insP_mem {y p : DVS} : ∀ {l : List DVS}, p ∈ insP y l → p = y ∨ p ∈ l
  | [], h => .inl (by simpa [insP] using h)
  | z :: r, h => by
    unfold insP at h
    split at h
    · rcases List.mem_cons.1 h with h | h
      · exact .inl h
      · exact .inr h
    · rcases List.mem_cons.1 h with h | h
      · exact .inr (h ▸ .head _)
      · rcases insP_mem h with h | h
        · exact .inl h
        · exact .inr (.tail _ h)
theorem insP_length (y : DVS) : ∀ l : List DVS, (insP y l).length = l.length + 1
  | [] => rfl
  | z :: r => by
    unfold insP
    split
    · rfl
    · rw [List.length_cons, insP_length y r, List.length_cons]
theorem fold_insP (y : DVS) : ∀ (r o : List DVS), ((r.foldl (stepG (fun z => Op.bytesLess y.1.name.toList z.1.name.toList) y) (o, false)).1 ++ if (r.foldl (stepG (fun z => Op.bytesLess y.1.name.toList z.1.name.toList) y) (o, false)).2 then [] else [y]) = o ++ insP y r
  | [], o => by unfold insP; simp
  | z :: r, o => by
    rw [List.foldl_cons]
    cases h : Op.bytesLess y.1.name.toList z.1.name.toList with
    | true =>
      rw [show stepG (fun z : DVS => Op.bytesLess y.1.name.toList z.1.name.toList) y (o, false) z = (o ++ [y] ++ [z], true) by unfold stepG; simp [h], fold_true]
      unfold insP
      rw [if_pos h]
      simp
    | false =>
      rw [show stepG (fun z : DVS => Op.bytesLess y.1.name.toList z.1.name.toList) y (o, false) z = (o ++ [z], false) by unfold stepG; simp [h], fold_insP y r]
      rw [show insP y (z :: r) = z :: insP y r by rw [insP]; exact if_neg (by rw [h]; decide)]
      simp
theorem built_dv4 (n z : ByteArray) (s t : Int) : Try.prog.built 58 [(0, .string n), (1, .int .i64 s), (2, .string z), (3, .int .u64 t)] = some (cellsY (⟨n, s, z, t, []⟩, nilS)) := by kernel_rfl
theorem built_rm (n t : Int) (z : ByteArray) : Try.prog.built 50 [(1, .int .i64 n), (2, .string z), (3, .int .u64 t)] = some (cellsR ⟨0, n, z, t⟩) := by kernel_rfl
theorem vol_no {l : List DV} {k : ByteArray} (h : volOf l k = none) : ∀ x ∈ l, decide (x.name = k) = false := fun x hx => by
  have := List.find?_eq_none.1 h x hx
  simpa using this
theorem zone_no {l : List Zn} {k : ByteArray} (h : zoneOf l k = none) : ∀ x ∈ l, decide (x.name = k) = false := fun x hx => by
  have := List.find?_eq_none.1 h x hx
  simpa using this
theorem snap_no {l : List DS} {k : ByteArray} (h : snapOf l k = none) : ∀ x ∈ l, decide (x.name = k) = false := fun x hx => by
  have := List.find?_eq_none.1 h x hx
  simpa using this
section
variable {R : Nat} {w : World} {q : Nat} {S : St} {rd : Rd} {L : List (DV × Sl)}
theorem RAt.vol_at2 (h : RAt R w q S rd L) {j : Nat} {z : DVS} (hz : L[j]? = some z) : ∃ g cur, rd.v.o = some ⟨g, 0, none⟩ ∧ R ≤ g ∧ w.heap[g]? = some (Go.Obj.cells cur 58 (0, 0)) ∧ World.rangeAt w g (j * 5) (cellsDV z.1 z.2).toList := by
  have hx : S.core.vols[j]? = some z.1 := by
    rw [← h.told, List.getElem?_map, hz]
    rfl
  obtain ⟨g, cur, s, h1, h2, h3, h4, h5, -⟩ := h.vol_at hx
  rw [hz] at h1
  have e : z.2 = s := by
    injection h1 with h1
    rw [h1]
  exact ⟨g, cur, h2, h3, h4, e ▸ h5⟩
variable (h : RAt R w q S rd L) (hR : R ≤ w.heap.size) (c : Cl)
include h hR
set_option maxRecDepth 100000 in
set_option maxHeartbeats 8000000 in
theorem rcreate_there (i : Nat) (x : DV) (hx : S.core.vols[i]? = some x) (hp : x.name = c.target) (hn : ∀ j y, j < i → S.core.vols[j]? = some y → decide (y.name = c.target) = false) :
    Calls Try.prog 88 #[.pointer (some ⟨q, 0, none⟩), encC c] w (RQ R w q (createC S.core c) S.seen) := by
  have HH := Lib.hid h
  have HRR := Lib.hid hR
  have hxo : volOf S.core.vols c.target = some x := found_find hx (by simpa using hp) hn
  have HXO := Lib.hid hxo
  have HFV : Hid (∀ u, Found (fun x : DV => decide (x.name = c.target)) S.core.vols u → u = .int .i64 (i : Int)) := fun u hu => found_at hx (by simpa using hp) hn hu
  have HXX := Lib.hid hx
  have hfew : S.core.vols.length ≤ 64 := h.few.2.1
  clear h hR hx hp hn hxo
  rw [show encC c = .agg (cellsC c) from rfl]
  go_enter Try.func88, Try.ntmps88
  go_upto_region 1 with (fail)
  refine wp_gen (fun V => BoxC V w.heap.size c ∧ BoxR V (w.heap.size + 1) zeroR ∧ Below w.heap.size w V) ⟨(heap2 w _ _).1, (heap2 w _ _).2, below2 w _ _⟩ ?_
  rintro V1 ⟨hc1, hr1, hw1⟩
  have HC := Lib.hid hc1
  have HR := Lib.hid hr1
  have HW := Lib.hid hw1
  have HA := Lib.hid (HH.out.after hw1)
  have HF1 := Lib.hid (rvol_v HA.out HFV.out)
  have c1 := hc1.c1
  clear hc1 hr1 hw1
  go_wp2_with (fail)
  clear c1
  refine HF1.out.mono ?_
  rintro e V2 ⟨rfl, hb⟩
  replace HC := Lib.hid (HC.out.after hb)
  replace HR := Lib.hid (HR.out.after hb)
  replace HA := Lib.hid (HA.out.after hb)
  replace HW := Lib.hid (HW.out.trans (hb.mono HW.out.size))
  clear hb HF1
  obtain ⟨g, cur, s, hL, h1, h2, h3, h4, h5, h6, h7⟩ := HA.out.vol_at HXX.out
  have c1 := HA.out.box.c1
  rw [h1, h7] at c1
  have hlt : (i : Int) < (S.core.vols.length : Int) := by omega
  obtain ⟨V3, sb, bb, lb⟩ := boxY V2 zeroY rfl (x, s)
  have k1 := bb.c1
  have k2 := bb.c2
  have k3 := bb.c3
  have c3 := (HC.out.after lb).c3
  have HLD : Hid (∀ {oi : Oper} {a : Act} {p : Operand}, oi.op = .load 58 p → a.eval p = .pointer (some ⟨g, i * 5, none⟩) → (execOp a.eval oi).run Try.prog V2 = .ok (.value (encY (x, s))) V2) := fun ho hx => loadY_at h4 ho hx
  replace HW := Lib.hid (HW.out.trans (lb.mono HW.out.size))
  replace HR := Lib.hid (HR.out.after lb)
  clear h1 h2 h3 h4 h5 h6 h7 hL bb lb
  by_cases hsm : x.size < c.size
  · have HCU : Hid (createC S.core c = (errR 12, S.core)) := by show _ = _; unfold createC; rw [HXO.out]; exact if_pos hsm
    go_wp2_with (first | (refine wpList_got rfl (HLD.out rfl rfl) ?_) | (refine wpList_skip rfl (sb rfl rfl rfl) ?_))
    refine (rfailed_any 12 _).mono ?_
    rintro e W6 ⟨rfl, hb6⟩
    obtain ⟨V7, hs7, hb7, -, hl7⟩ := stoR (HR.out.after hb6) (errR 12)
    have HV7 := Lib.hid hb7
    have HX : Hid (RQ R w q (createC S.core c) S.seen (.returned (encR (errR 12))) V7) := rq_sameX HH.out HCU.out (hl7 _ _ (HW.out.trans (hb6.mono HW.out.size)) (Nat.le_succ _)) HRR.out
    clear hb6 hb7 hl7
    go_wp2_with (refine wpList_skip rfl (hs7 rfl rfl rfl) ?_)
    refine bodyPost_ret (v := encR (errR 12)) (results_cell_row rfl _ _ (w.heap.size + 1) 50 (cellsR (errR 12)) (0, 0) _ rfl HV7.out undR rfl sizeR) rfl ?_
    exact HX.out
  · have HCU : Hid (createC S.core c = (⟨0, x.size, x.zone, x.tag⟩, S.core)) := by show _ = _; unfold createC; rw [HXO.out]; exact if_neg hsm
    obtain ⟨V7, hs7, hb7, -, hl7⟩ := stoR HR.out ⟨0, x.size, x.zone, x.tag⟩
    have HV7 := Lib.hid hb7
    have HX : Hid (RQ R w q (createC S.core c) S.seen (.returned (encR ⟨0, x.size, x.zone, x.tag⟩)) V7) := rq_sameX HH.out HCU.out (hl7 _ _ HW.out (Nat.le_succ _)) HRR.out
    clear hb7 hl7
    go_wp2_with (first | (refine wpList_got rfl (HLD.out rfl rfl) ?_) | (refine wpList_skip rfl (sb rfl rfl rfl) ?_) | ((with_reducible refine wpList_build_to rfl 50 _ rfl (cellsR ⟨0, x.size, x.zone, x.tag⟩) ?_ ?_); exact built_rm _ _ _) | (refine wpList_skip rfl (hs7 rfl rfl rfl) ?_))
    refine bodyPost_ret (v := encR ⟨0, x.size, x.zone, x.tag⟩) (results_cell_row rfl _ _ (w.heap.size + 1) 50 (cellsR ⟨0, x.size, x.zone, x.tag⟩) (0, 0) _ rfl HV7.out undR rfl sizeR) rfl ?_
    exact HX.out
set_option maxRecDepth 100000 in
set_option maxHeartbeats 8000000 in
theorem rcreate_nozone (hx : volOf S.core.vols c.target = none) (hz : zoneOf S.core.zones c.zone = none) :
    Calls Try.prog 88 #[.pointer (some ⟨q, 0, none⟩), encC c] w (RQ R w q (createC S.core c) S.seen) := by
  have HH := Lib.hid h
  have HRR := Lib.hid hR
  have HXO := Lib.hid hx
  have HFV : Hid (∀ u, Found (fun x : DV => decide (x.name = c.target)) S.core.vols u → u = .int .i64 (-1)) := fun u hu => found_not (vol_no hx) hu
  have HFZ : Hid (∀ u, Found (fun x : Zn => decide (x.name = c.zone)) S.core.zones u → u = .int .i64 (-1)) := fun u hu => found_not (zone_no hz) hu
  have HCU : Hid (createC S.core c = (errR 5, S.core)) := by show _ = _; unfold createC; rw [hx]; dsimp only; rw [hz]
  clear h hR hx hz
  rw [show encC c = .agg (cellsC c) from rfl]
  go_enter Try.func88, Try.ntmps88
  go_upto_region 1 with (fail)
  refine wp_gen (fun V => BoxC V w.heap.size c ∧ BoxR V (w.heap.size + 1) zeroR ∧ Below w.heap.size w V) ⟨(heap2 w _ _).1, (heap2 w _ _).2, below2 w _ _⟩ ?_
  rintro V1 ⟨hc1, hr1, hw1⟩
  have HC := Lib.hid hc1
  have HR := Lib.hid hr1
  have HW := Lib.hid hw1
  have HA := Lib.hid (HH.out.after hw1)
  have HF1 := Lib.hid (rvol_v HA.out HFV.out)
  have c1 := hc1.c1
  clear hc1 hr1 hw1
  go_wp2_with (fail)
  clear c1
  refine HF1.out.mono ?_
  rintro e V2 ⟨rfl, hb⟩
  replace HC := Lib.hid (HC.out.after hb)
  replace HR := Lib.hid (HR.out.after hb)
  replace HA := Lib.hid (HA.out.after hb)
  replace HW := Lib.hid (HW.out.trans (hb.mono HW.out.size))
  clear hb HF1
  have HF2 := Lib.hid (rzone_v HA.out HFZ.out)
  have c4 := HC.out.c4
  go_wp2_with (fail)
  clear c4
  refine HF2.out.mono ?_
  rintro e V3 ⟨rfl, hb⟩
  replace HC := Lib.hid (HC.out.after hb)
  replace HR := Lib.hid (HR.out.after hb)
  replace HA := Lib.hid (HA.out.after hb)
  replace HW := Lib.hid (HW.out.trans (hb.mono HW.out.size))
  clear hb HF2
  go_wp2_with (fail)
  refine (rfailed_any 5 _).mono ?_
  rintro e W6 ⟨rfl, hb6⟩
  obtain ⟨V7, hs7, hb7, -, hl7⟩ := stoR (HR.out.after hb6) (errR 5)
  have HV7 := Lib.hid hb7
  have HX : Hid (RQ R w q (createC S.core c) S.seen (.returned (encR (errR 5))) V7) := rq_sameX HH.out HCU.out (hl7 _ _ (HW.out.trans (hb6.mono HW.out.size)) (Nat.le_succ _)) HRR.out
  clear hb6 hb7 hl7
  go_wp2_with (refine wpList_skip rfl (hs7 rfl rfl rfl) ?_)
  refine bodyPost_ret (v := encR (errR 5)) (results_cell_row rfl _ _ (w.heap.size + 1) 50 (cellsR (errR 5)) (0, 0) _ rfl HV7.out undR rfl sizeR) rfl ?_
  exact HX.out
end
end Go.Proofs.Ytbgfccanbgpjiaa.O.I
namespace Go.Proofs.Ytbgfccanbgpjiaa.O.I
open Go Go.RowKit Go.Lib KM
attribute [local go_sem] Oper.semAt_some
section
variable {R : Nat} {w : World} {q : Nat} {S : St} {rd : Rd} {L : List (DV × Sl)} (h : RAt R w q S rd L) (hR : R ≤ w.heap.size) (c : Cl)
include h hR
set_option maxRecDepth 100000 in
set_option maxHeartbeats 8000000 in
theorem rcreate_nosrc (k : Nat) (z : Zn) (hx : volOf S.core.vols c.target = none) (hz : S.core.zones[k]? = some z) (hzp : z.name = c.zone) (hzk : ∀ j y, j < k → S.core.zones[j]? = some y → decide (y.name = c.zone) = false) (hs : c.source ≠ E0) (hsno : snapOf S.core.snaps c.source = none) (hvno : volOf S.core.vols c.source = none) :
    Calls Try.prog 88 #[.pointer (some ⟨q, 0, none⟩), encC c] w (RQ R w q (createC S.core c) S.seen) := by
  have HH := Lib.hid h
  have HRR := Lib.hid hR
  have HXO := Lib.hid hx
  have HFV : Hid (∀ u, Found (fun x : DV => decide (x.name = c.target)) S.core.vols u → u = .int .i64 (-1)) := fun u hu => found_not (vol_no hx) hu
  have hzo : zoneOf S.core.zones c.zone = some z := found_find hz (by simpa using hzp) hzk
  have HFZ : Hid (∀ u, Found (fun x : Zn => decide (x.name = c.zone)) S.core.zones u → u = .int .i64 (k : Int)) := fun u hu => found_at hz (by simpa using hzp) hzk hu
  have hfewz : S.core.zones.length ≤ 16 := h.few.1
  have hltz : (k : Int) < (S.core.zones.length : Int) := by have := set_at hz; omega
  have HNE : Hid (c.source ≠ E0) := hs
  have HFS : Hid (∀ u, Found (fun x : DS => decide (x.name = c.source)) S.core.snaps u → u = .int .i64 (-1)) := fun u hu => found_not (snap_no hsno) hu
  have HFW : Hid (∀ u, Found (fun x : DV => decide (x.name = c.source)) S.core.vols u → u = .int .i64 (-1)) := fun u hu => found_not (vol_no hvno) hu
  have HCU : Hid (createC S.core c = (errR 5, S.core)) := by
    show _ = _
    unfold createC srcOf
    rw [hx]
    dsimp only
    rw [hzo]
    dsimp only
    rw [if_neg hs, hsno, hvno]
    rfl
  clear h hR hx hz hzp hzk hzo hs hsno hvno
  rw [show encC c = .agg (cellsC c) from rfl]
  go_enter Try.func88, Try.ntmps88
  go_upto_region 1 with (fail)
  refine wp_gen (fun V => BoxC V w.heap.size c ∧ BoxR V (w.heap.size + 1) zeroR ∧ Below w.heap.size w V) ⟨(heap2 w _ _).1, (heap2 w _ _).2, below2 w _ _⟩ ?_
  rintro V1 ⟨hc1, hr1, hw1⟩
  have HC := Lib.hid hc1
  have HR := Lib.hid hr1
  have HW := Lib.hid hw1
  have HA := Lib.hid (HH.out.after hw1)
  have HF1 := Lib.hid (rvol_v HA.out HFV.out)
  have c1 := hc1.c1
  clear hc1 hr1 hw1
  go_wp2_with (fail)
  clear c1
  refine HF1.out.mono ?_
  rintro e V2 ⟨rfl, hb⟩
  replace HC := Lib.hid (HC.out.after hb)
  replace HR := Lib.hid (HR.out.after hb)
  replace HA := Lib.hid (HA.out.after hb)
  replace HW := Lib.hid (HW.out.trans (hb.mono HW.out.size))
  clear hb HF1
  have HF2 := Lib.hid (rzone_v HA.out HFZ.out)
  have c4 := HC.out.c4
  go_wp2_with (fail)
  clear c4
  refine HF2.out.mono ?_
  rintro e V3 ⟨rfl, hb⟩
  replace HC := Lib.hid (HC.out.after hb)
  replace HR := Lib.hid (HR.out.after hb)
  replace HA := Lib.hid (HA.out.after hb)
  replace HW := Lib.hid (HW.out.trans (hb.mono HW.out.size))
  clear hb HF2
  have c6 := HC.out.c6
  have e1 : ¬ c.source.toList = [] := fun h => HNE.out ((emp_iff _).1 h)
  have e2 : (c.source.toList == []) = false := by simp [e1]
  have e3 : c.source.toList.isEmpty = false := by simp [e1]
  go_upto_region 12 with (fail)
  clear c6 e1 e2 e3
  refine wp_region_held_drew (S := fun V => BoxC V w.heap.size c ∧ BoxR V (w.heap.size + 1) zeroR ∧ RAt R V q S rd L ∧ Below w.heap.size w V) (by kernel_rfl) ⟨HC.out, HR.out, HA.out.drew, HW.out.drew⟩ (fun _ => ?_)
  refine HeldBy.gen (fun V => BoxC V w.heap.size c ∧ BoxR V (w.heap.size + 1) zeroR ∧ RAt R V q S rd L ∧ Below w.heap.size w V) ⟨HC.out, HR.out, HA.out.drew, HW.out.drew⟩ ?_
  clear HC HR HA HW
  rintro U0 HS
  refine HeldBy.tn (i := 0) rfl HS ?_
  refine HeldBy.tn (i := 1) rfl HS ?_
  refine HeldBy.tk (i := 2) rfl (fun V hV => by have hc := hV.1.c6; first | (go_simp; rfl) | (go_simp; done)) HS ?_
  refine HeldBy.tn (i := 4) rfl HS ?_
  refine HeldBy.tn (i := 5) rfl HS ?_
  refine HeldBy.tk (i := 6) rfl (fun V hV => by have hc := hV.1.c6; first | (go_simp; rfl) | (go_simp; done)) HS ?_
  refine HeldBy.call (i := 3) (v := .int .i64 (-1)) rfl (by kernel_rfl) (by rfl) (by go_simp; exact ⟨rfl, rfl⟩) (by go_simp; rfl) ?_
  refine (rsnap_v HS.2.2.1 HFS.out).mono ?_
  rintro e U1 ⟨rfl, hb⟩
  replace HS : BoxC U1 w.heap.size c ∧ BoxR U1 (w.heap.size + 1) zeroR ∧ RAt R U1 q S rd L ∧ Below w.heap.size w U1 := ⟨HS.1.after hb, HS.2.1.after hb, HS.2.2.1.after hb, HS.2.2.2.trans (hb.mono HS.2.2.2.size)⟩
  refine ⟨rfl, HS, ?_⟩
  clear hb
  refine HeldBy.call (i := 7) (v := .int .i64 (-1)) rfl (by kernel_rfl) (by rfl) (by go_simp; exact ⟨rfl, rfl⟩) (by go_simp; rfl) ?_
  refine (rvol_v HS.2.2.1 HFW.out).mono ?_
  rintro e U2 ⟨rfl, hb⟩
  replace HS : BoxC U2 w.heap.size c ∧ BoxR U2 (w.heap.size + 1) zeroR ∧ RAt R U2 q S rd L ∧ Below w.heap.size w U2 := ⟨HS.1.after hb, HS.2.1.after hb, HS.2.2.1.after hb, HS.2.2.2.trans (hb.mono HS.2.2.2.size)⟩
  refine ⟨rfl, HS, ?_⟩
  clear hb
  refine HeldBy.tn (i := 8) rfl HS ?_
  refine HeldBy.tn (i := 9) rfl HS ?_
  refine wpAnyH_done (by kernel_rfl) ?_ _
  have HC := Lib.hid HS.1
  have HR := Lib.hid HS.2.1
  have HA := Lib.hid HS.2.2.1
  have HW := Lib.hid HS.2.2.2
  clear HS HFS HFW
  go_wp2_with (fail)
  refine (rfailed_any 5 _).mono ?_
  rintro e W6 ⟨rfl, hb6⟩
  obtain ⟨V7, hs7, hb7, -, hl7⟩ := stoR (HR.out.after hb6) (errR 5)
  have HV7 := Lib.hid hb7
  have HX : Hid (RQ R w q (createC S.core c) S.seen (.returned (encR (errR 5))) V7) := rq_sameX HH.out HCU.out (hl7 _ _ (HW.out.trans (hb6.mono HW.out.size)) (Nat.le_succ _)) HRR.out
  clear hb6 hb7 hl7
  go_wp2_with (refine wpList_skip rfl (hs7 rfl rfl rfl) ?_)
  refine bodyPost_ret (v := encR (errR 5)) (results_cell_row rfl _ _ (w.heap.size + 1) 50 (cellsR (errR 5)) (0, 0) _ rfl HV7.out undR rfl sizeR) rfl ?_
  exact HX.out
end
end Go.Proofs.Ytbgfccanbgpjiaa.O.I
namespace Go.HeldBy
open Go
theorem callE {P : Program} {ops : Array Oper} {Q : Exit → Act → World → Prop} {md : Region.Mode} {S : World → Prop} {i : Nat} {oi : Oper} {f : FuncId} {args : Array Value} {fuel : Nat} {listed : Array Bool} {a : Act} {a' : Value → Act} {w : World} (hi : ops[i]? = some oi) (hr : Region.ready md ops listed = [i]) (hw : Region.wanted oi (yielded ops a.tmps) = true)
    (hv : (execOp a.eval oi).run P w = .ok (.enter f args) w) (he : ∀ v, a.put oi.dst v = a' v)
    (h : Calls P f args w fun e w' => ∃ v, e = .returned v ∧ S w' ∧ wpAnyH P md ops Q S fuel (listed.setIfInBounds i true) (a' v) w') : wpAnyH P md ops Q S (fuel + 1) listed a w := by
  refine wpAnyH_all hr (by simp) fun j hj => ?_
  obtain rfl : j = i := by simpa using hj
  unfold wpOp
  simp only [hi, hw, if_true]
  refine .inl ?_
  unfold Oper.wp
  rw [hv]
  exact h.mono fun e w' ⟨v, h1, h2, h3⟩ => by subst h1; exact ⟨h2, he v ▸ h3⟩
end Go.HeldBy
namespace Go.Proofs.Ytbgfccanbgpjiaa.O.I
open Go Go.RowKit Go.Lib KM
attribute [local go_sem] Oper.semAt_some
theorem BoxR.doc {R b : Nat} {W V : World} {x : Rs} (h : BoxR W b x) (hd : DocStay R W V) : BoxR V b x := (hd.2 b h.lt (by
  rintro ⟨cs, t, f, h1, h2⟩
  rw [show W.heap[b]? = _ from h] at h1
  injection h1 with h1
  injection h1 with _ h1 _
  rw [← h1] at h2
  exact absurd h2 (by decide))).trans h
theorem BoxC.doc {R b : Nat} {W V : World} {x : Cl} (h : BoxC W b x) (hd : DocStay R W V) : BoxC V b x := (hd.2 b h.lt (by
  rintro ⟨cs, t, f, h1, h2⟩
  rw [show W.heap[b]? = _ from h] at h1
  injection h1 with h1
  injection h1 with _ h1 _
  rw [← h1] at h2
  exact absurd h2 (by decide))).trans h
theorem exec_app {o : Oper} {a : Act} {W W' : World} {v sl sr : Value} {t : TypeId} {s x : Operand}
    (hop : o.op = Op.call { callee := Callee.builtin Builtin.append, args := #[s, x], argTypes := #[t, t] }) (hrun : (Builtin.append_ #[t, t] o.type #[sl, sr]).run Try.prog W = .ok v W') (hs : a.eval s = sl) (hx : a.eval x = sr) :
    (execOp a.eval o).run Try.prog W = .ok (.value v) W' := by
  unfold execOp
  simp only [hop, resolve, invoke, builtin, Sem.run_bind, Sem.run_pure, Result.andThen_ok, List.map_toArray, List.map_cons, List.map_nil, hs, hx, hrun]
theorem exec_cut {W : World} {oi : Oper} {a : Act} {v : Value} {t : TypeId} {x : Operand} {lo hi mx : Option Operand} (ho : oi.op = .slice t x lo hi mx) (h : (Instr.sliceAt t (a.eval x) (lo.map a.eval) (hi.map a.eval) (mx.map a.eval)).run Try.prog W = .ok v W) : (execOp a.eval oi).run Try.prog W = .ok (.value v) W := by
  unfold execOp
  simp [ho, h, Result.andThen]
theorem add_zeroX (g off : Nat) : (⟨g, off, none⟩ : Addr).add 0 = ⟨g, off, none⟩ := rfl
theorem add_litX (g off n : Nat) : (⟨g, off, none⟩ : Addr).add n = ⟨g, off + n, none⟩ := by unfold Addr.add; split <;> simp_all
theorem size_dv (V : World) : (sizeOf 58).run Try.prog V = .ok 5 V := by kernel_rfl
theorem size_ds (V : World) : (sizeOf 63).run Try.prog V = .ok 3 V := by kernel_rfl
theorem elem_dv : Try.prog.elem 43 = 58 := by kernel_rfl
theorem elem_ds : Try.prog.elem 45 = 63 := by kernel_rfl
section
variable {t e : TypeId} {k : Nat} {z : Value}
theorem run_first (hr : Rowy t e k z) (hE : Try.prog.elem t = e) (hZ : ∀ V, (sizeOf e).run Try.prog V = .ok k V) (W : World) (g n c i : Nat) (hi : i ≤ c) :
    (Instr.sliceAt t (.slice (some ⟨g, 0, none⟩) n c) none (some (.int .i64 (i : Int))) none).run Try.prog W = .ok (.slice (some ⟨g, 0, none⟩) i c) W := by
  have hu : Try.prog.underlying t = some (.slice (Try.prog.elem t)) := by rw [hE]; exact hr.1
  rw [run_sliceAt_slice _ _ _ _ _ _ hu, run_slice_h W t (some ⟨g, 0, none⟩) n c hu .i64 (i : Int) (by omega) (by omega), hE, hZ]
  simp [Result.andThen, sliced, add_zeroX]
theorem run_rest (hr : Rowy t e k z) (hE : Try.prog.elem t = e) (hZ : ∀ V, (sizeOf e).run Try.prog V = .ok k V) (W : World) (g n c i : Nat) (u : Int) (hu : u = (i : Int)) (off : Nat) (ho : (if c = i then 0 else i * k) = off) (hi : i ≤ n) :
    (Instr.sliceAt t (.slice (some ⟨g, 0, none⟩) n c) (some (.int .i64 u)) none none).run Try.prog W = .ok (.slice (some ⟨g, off, none⟩) (n - i) (c - i)) W := by
  subst ho
  have hun : Try.prog.underlying t = some (.slice (Try.prog.elem t)) := by rw [hE]; exact hr.1
  subst hu
  rw [run_sliceAt_slice _ _ _ _ _ _ hun, run_slice_l W t (some ⟨g, 0, none⟩) n c hun .i64 (i : Int) (by omega) (by omega), hE, hZ]
  by_cases hc : c = i
  · simp [Result.andThen, sliced, hc]
  · simp [Result.andThen, sliced, hc, add_litX]
theorem erase_rows (hr : Rowy t e k z) {R n : Nat} {W : World} {s : Sl} {xs : List Value} (h : W.ownsRow R e k (encSl s) n xs) {i : Nat} (hi : i < n) (hn : n ≤ 1000) (h1 : ∀ u ∈ xs, u.oneCell' = true) (ty : TypeId) :
    ∃ (g : Nat) (v1 : Value) (W1 : World) (s2 : Sl) (W2 : World), s.o = some ⟨g, 0, none⟩ ∧ s.n = n ∧ n ≤ s.c ∧
      (Builtin.append_ #[t, t] ty #[.slice none 0 0, .slice (some ⟨g, 0, none⟩) i s.c]).run Try.prog W = .ok v1 W1 ∧
      (Builtin.append_ #[t, t] ty #[v1, .slice (some ⟨g, if s.c = i + 1 then 0 else (i + 1) * k, none⟩) (n - (i + 1)) (s.c - (i + 1))]).run Try.prog W1 = .ok (.slice s2.o s2.n s2.c) W2 ∧
      Below W.heap.size W W1 ∧ Below W.heap.size W W2 ∧ W2.ownsRow W.heap.size e k (encSl s2) (n - 1) (xs.take (i * k) ++ xs.drop ((i + 1) * k)) := by
  have hlen := h.1
  rcases h.2 with ⟨h2, h3⟩ | ⟨g, cap, cur, h2, h3, h4, h5, h6, h7, h8⟩
  · omega
  unfold encSl at h2
  injection h2 with ho hsn hsc
  have hcell : ∀ (V : World), Below W.heap.size W V → ∀ j u, xs[j]? = some u → V.cell? ⟨g, j, none⟩ = some u := fun V hb j u hu => by
    have hgl := (Array.getElem?_eq_some_iff.1 h4).1
    have hj := (List.getElem?_eq_some_iff.1 hu).1
    rw [cell_of_row V g j _ _ _ ((hb.block g hgl).trans h4), ← Array.getElem?_toList]
    have h9 := congrArg (fun l => l[j]?) h8
    simp only [List.getElem?_take] at h9
    rw [if_pos (by omega)] at h9
    exact h9.trans hu
  have hik : (i + 1) * k ≤ n * k := Nat.mul_le_mul_right k hi
  have hikk : (i + 1) * k = i * k + k := by rw [Nat.add_mul, Nat.one_mul]
  obtain ⟨v1, W1, r1, o1, b1, -⟩ := add_rows hr W.heap.size W (.slice none 0 0) 0 [] (own_none W _ e k) g 0 i s.c (xs.take (i * k)) (by rw [List.length_take]; omega)
    (fun j u hu => by
      rw [List.getElem?_take] at hu
      split at hu
      · rw [Nat.zero_add]
        exact hcell W (Below.refl _ _) j u hu
      · cases hu) (fun u hu => h1 u (List.mem_of_mem_take hu)) (by omega) (Nat.le_refl _) ty
  obtain ⟨v2, W2, r2, o2, b2, -⟩ := add_rows hr W.heap.size W1 v1 (0 + i) ([] ++ xs.take (i * k)) o1 g (if s.c = i + 1 then 0 else (i + 1) * k) (n - (i + 1)) (s.c - (i + 1)) (xs.drop ((i + 1) * k)) (by rw [List.length_drop, hlen, ← Nat.sub_mul])
    (fun j u hu => by
      rw [List.getElem?_drop] at hu
      have hj := (List.getElem?_eq_some_iff.1 hu).1
      split
      · rename_i hc
        exfalso
        have hn1 : n = i + 1 := by omega
        rw [hlen, hn1] at hj
        omega
      · exact hcell W1 b1 _ u hu) (fun u hu => h1 u (List.mem_of_mem_drop hu)) (by omega) b1.size ty
  obtain ⟨s2, hs2, -⟩ := own_sl o2
  rw [hs2] at r2 o2
  rw [List.nil_append] at o2
  refine ⟨g, v1, W1, s2, W2, ho, hsn, by omega, r1, r2, b1, b1.trans b2, ?_⟩
  rw [show n - 1 = 0 + i + (n - (i + 1)) by omega]
  exact o2
end
theorem own_cap {W : World} {R k n : Nat} {e : TypeId} {s : Sl} {xs : List Value} (h : W.ownsRow R e k (encSl s) n xs) (hn : 0 < n) : n ≤ s.c := by
  rcases h.2 with ⟨h1, h2⟩ | ⟨g, cap, cur, h1, h2, h3, h4, h5, h6, h7⟩
  · omega
  · unfold encSl at h1
    injection h1 with _ _ hc
    omega
theorem flat_take {α : Type} (f : α → List Value) (k : Nat) (hf : ∀ x, (f x).length = k) : ∀ (l : List α) (i : Nat), (l.flatMap f).take (i * k) = (l.take i).flatMap f
  | [], i => by simp
  | x :: r, 0 => by simp
  | x :: r, i + 1 => by
    rw [List.flatMap_cons, List.take_succ_cons, List.flatMap_cons, List.take_append, hf, List.take_of_length_le (by rw [hf, Nat.add_mul]; omega), show (i + 1) * k - k = i * k by rw [Nat.add_mul]; omega, flat_take f k hf r i]
theorem flat_drop {α : Type} (f : α → List Value) (k : Nat) (hf : ∀ x, (f x).length = k) : ∀ (l : List α) (i : Nat), (l.flatMap f).drop (i * k) = (l.drop i).flatMap f
  | [], i => by simp
  | x :: r, 0 => by simp
  | x :: r, i + 1 => by
    rw [List.flatMap_cons, List.drop_succ_cons, List.drop_append, hf, List.drop_eq_nil_of_le (by rw [hf, Nat.add_mul]; omega), List.nil_append, show (i + 1) * k - k = i * k by rw [Nat.add_mul]; omega, flat_drop f k hf r i]
section
variable {R : Nat} {W : World} {q : Nat} {S : St} {rd : Rd} {L : List (DV × Sl)}
theorem RAt.vols_without (h : RAt R W q S rd L) (hR : R ≤ W.heap.size) {i : Nat} (hi : i < S.core.vols.length) :
    ∃ (g : Nat) (v1 : Value) (W1 : World) (s2 : Sl) (W2 : World), rd.v.o = some ⟨g, 0, none⟩ ∧ rd.v.n = S.core.vols.length ∧ S.core.vols.length ≤ rd.v.c ∧
      (Builtin.append_ #[43, 43] 43 #[.slice none 0 0, .slice (some ⟨g, 0, none⟩) i rd.v.c]).run Try.prog W = .ok v1 W1 ∧
      (Builtin.append_ #[43, 43] 43 #[v1, .slice (some ⟨g, if rd.v.c = i + 1 then 0 else (i + 1) * 5, none⟩) (S.core.vols.length - (i + 1)) (rd.v.c - (i + 1))]).run Try.prog W1 = .ok (.slice s2.o s2.n s2.c) W2 ∧
      Below W.heap.size W W1 ∧ Below W.heap.size W W2 ∧ VOwn W2 R s2 (L.take i ++ L.drop (i + 1)) := by
  have hl := h.len
  have hf := h.few.2.1
  obtain ⟨g, v1, W1, s2, W2, h1, h2, h3, h4, h5, h6, h7, h8⟩ := erase_rows vol_rowy h.vols.1 (i := i) (by omega) (by omega) (fun u hu => by
    unfold catW at hu
    obtain ⟨p, -, h⟩ := List.mem_flatMap.1 hu
    exact one_cellsDV p.1 p.2 u h) 43
  rw [hl] at h2 h3 h5
  refine ⟨g, v1, W1, s2, W2, h1, h2, h3, h4, h5, h6, h7, ?_, fun p hp => ?_⟩
  · have e : catW (L.take i ++ L.drop (i + 1)) = (catW L).take (i * 5) ++ (catW L).drop ((i + 1) * 5) := by
      rw [catW_app]
      unfold catW
      rw [flat_take _ 5 (fun _ => rfl), flat_drop _ 5 (fun _ => rfl)]
    rw [e, List.length_append, List.length_take, List.length_drop, show min i L.length + (L.length - (i + 1)) = L.length - 1 by omega]
    refine ⟨h8.1, ?_⟩
    rcases h8.2 with h9 | ⟨g', cap, cur, h9, h10, h11⟩
    · exact .inl h9
    · exact .inr ⟨g', cap, cur, h9, by omega, h11⟩
  · rcases List.mem_append.1 hp with h9 | h9
    · exact (h.vols.2 p (List.mem_of_mem_take h9)).after h7
    · exact (h.vols.2 p (List.mem_of_mem_drop h9)).after h7
theorem RAt.snaps_without (h : RAt R W q S rd L) (hR : R ≤ W.heap.size) {i : Nat} (hi : i < S.core.snaps.length) :
    ∃ (g : Nat) (v1 : Value) (W1 : World) (s2 : Sl) (W2 : World), rd.s.o = some ⟨g, 0, none⟩ ∧ rd.s.n = S.core.snaps.length ∧ S.core.snaps.length ≤ rd.s.c ∧
      (Builtin.append_ #[45, 45] 45 #[.slice none 0 0, .slice (some ⟨g, 0, none⟩) i rd.s.c]).run Try.prog W = .ok v1 W1 ∧
      (Builtin.append_ #[45, 45] 45 #[v1, .slice (some ⟨g, if rd.s.c = i + 1 then 0 else (i + 1) * 3, none⟩) (S.core.snaps.length - (i + 1)) (rd.s.c - (i + 1))]).run Try.prog W1 = .ok (.slice s2.o s2.n s2.c) W2 ∧
      Below W.heap.size W W1 ∧ Below W.heap.size W W2 ∧ SOwn W2 R s2 (S.core.snaps.take i ++ S.core.snaps.drop (i + 1)) := by
  have hf := h.few.2.2.1
  obtain ⟨g, v1, W1, s2, W2, h1, h2, h3, h4, h5, h6, h7, h8⟩ := erase_rows snap_rowy h.snaps (i := i) hi (by omega) (fun u hu => by
    unfold catS at hu
    obtain ⟨p, -, h⟩ := List.mem_flatMap.1 hu
    exact one_cellsDS p u h) 45
  refine ⟨g, v1, W1, s2, W2, h1, h2, h3, h4, h5, h6, h7, ?_⟩
  have e : catS (S.core.snaps.take i ++ S.core.snaps.drop (i + 1)) = (catS S.core.snaps).take (i * 3) ++ (catS S.core.snaps).drop ((i + 1) * 3) := by
    rw [catS_app]
    unfold catS
    rw [flat_take _ 3 (fun _ => rfl), flat_drop _ 3 (fun _ => rfl)]
  unfold SOwn
  rw [e, List.length_append, List.length_take, List.length_drop, show min i S.core.snaps.length + (S.core.snaps.length - (i + 1)) = S.core.snaps.length - 1 by omega]
  refine ⟨h8.1, ?_⟩
  rcases h8.2 with h9 | ⟨g', cap, cur, h9, h10, h11⟩
  · exact .inl h9
  · exact .inr ⟨g', cap, cur, h9, by omega, h11⟩
end
theorem RQ.done {R : Nat} {w U : World} {q : Nat} {res : Rs × Core} {seen : List (Cl × Rs)} {rd : Rd} {L : List (DV × Sl)} (hA : RAt R U q ⟨res.2, seen⟩ rd L) (hD : DocStay R w U) (hr : BoxR U (w.heap.size + 1) zeroR) (hR : R ≤ w.heap.size) :
    ∃ V, (∀ {oi : Oper} {a : Act} {p q' : Operand}, oi.op = .store 50 p q' → a.eval p = .pointer (some ⟨w.heap.size + 1, 0, none⟩) → a.eval q' = encR res.1 → (execOp a.eval oi).run Try.prog U = .ok .skip V) ∧ BoxR V (w.heap.size + 1) res.1 ∧ RQ R w q res seen (.returned (encR res.1)) V := by
  obtain ⟨V, h1, h2, h3, h4⟩ := stoR hr res.1
  exact ⟨V, h1, h2, rfl, ⟨rd, L, hA.keep hr (by decide) h3⟩, hD.sto h3 h4 (Nat.le_succ _) hR⟩
end Go.Proofs.Ytbgfccanbgpjiaa.O.I
