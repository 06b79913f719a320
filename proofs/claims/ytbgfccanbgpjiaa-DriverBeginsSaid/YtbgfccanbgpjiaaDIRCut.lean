/- Own work. -/
import Derived.Test.YtbgfccanbgpjiaaDJIRWith
namespace Go.Proofs.Ytbgfccanbgpjiaa.O.I
open Go Go.RowKit Go.Lib KM
attribute [local go_sem] Oper.semAt_some
theorem exec_lss_str {W : World} {r s : ByteArray} {v : Bool} {oi : Oper} {a : Act} {x y : Operand} {t : TypeId} (ho : oi.op = .binOp .lss 9 x y t) (hx : a.eval x = .string r) (hy : a.eval y = .string s) (hv : Op.bytesLess r.toList s.toList = v) : (execOp a.eval oi).run Try.prog W = .ok (.value (.bool v)) W := by
  unfold execOp
  simp only [ho, hx, hy]
  subst hv
  kernel_rfl
def stepG {α : Type} (lt : α → Bool) (x : α) (q : List α × Bool) (y : α) : List α × Bool := (q.1 ++ (if !q.2 && lt y then [x] else []) ++ [y], q.2 || lt y)
theorem fold_true {α : Type} (lt : α → Bool) (x : α) : ∀ (r o : List α), r.foldl (stepG lt x) (o, true) = (o ++ r, true)
  | [], o => by simp
  | y :: r, o => by
    rw [List.foldl_cons, show stepG lt x (o, true) y = (o ++ [y], true) by unfold stepG; simp, fold_true lt x r]
    simp
theorem fold_insS (x : DS) : ∀ (r o : List DS), ((r.foldl (stepG (fun y => Op.bytesLess x.name.toList y.name.toList) x) (o, false)).1 ++ if (r.foldl (stepG (fun y => Op.bytesLess x.name.toList y.name.toList) x) (o, false)).2 then [] else [x]) = o ++ insS x r
  | [], o => by unfold insS; simp
  | y :: r, o => by
    rw [List.foldl_cons]
    cases h : Op.bytesLess x.name.toList y.name.toList with
    | true =>
      rw [show stepG (fun y : DS => Op.bytesLess x.name.toList y.name.toList) x (o, false) y = (o ++ [x] ++ [y], true) by unfold stepG; simp [h], fold_true]
      unfold insS
      rw [if_pos h]
      simp
    | false =>
      rw [show stepG (fun y : DS => Op.bytesLess x.name.toList y.name.toList) x (o, false) y = (o ++ [y], false) by unfold stepG; simp [h], fold_insS x r]
      rw [show insS x (y :: r) = y :: insS x r by rw [insS]; exact if_neg (by rw [h]; decide)]
      simp
theorem foldG_len {α : Type} (lt : α → Bool) (x : α) : ∀ (r : List α) (q : List α × Bool), (r.foldl (stepG lt x) q).1.length ≤ q.1.length + 2 * r.length
  | [], q => Nat.le_refl _
  | y :: r, q => by
    rw [List.foldl_cons]
    refine Nat.le_trans (foldG_len lt x r _) ?_
    unfold stepG
    dsimp only
    simp only [List.length_append, List.length_cons, List.length_nil]
    have h1 : (if (!q.2 && lt y) = true then [x] else []).length ≤ 1 := by split <;> simp
    omega
theorem foldG_next {α : Type} {lt : α → Bool} {x : α} {l : List α} {j : Nat} {y : α} (h : l[j]? = some y) : (l.take (j + 1)).foldl (stepG lt x) ([], false) = stepG lt x ((l.take j).foldl (stepG lt x) ([], false)) y := by
  have hj := set_at h
  rw [List.take_succ_eq_append_getElem hj, List.foldl_append]
  have : l[j] = y := by rw [List.getElem?_eq_getElem hj] at h; exact Option.some.inj h
  rw [this]
  rfl
theorem cell_same {W V : World} {g i : Nat} (h : V.heap[g]? = W.heap[g]?) : V.cell? ⟨g, i, none⟩ = W.cell? ⟨g, i, none⟩ := by
  unfold World.cell?
  rw [h]
def CellAt (W : World) (g i : Nat) (v : Value) : Prop := g < W.heap.size ∧ W.cell? ⟨g, i, none⟩ = some v
theorem CellAt.after {W V : World} {g i : Nat} {v : Value} (h : CellAt W g i v) (hb : Below W.heap.size W V) : CellAt V g i v := ⟨Nat.lt_of_lt_of_le h.1 hb.size, (cell_same (hb.block g h.1)).trans h.2⟩
theorem built_ds (n : ByteArray) (s t : Int) : Try.prog.built 63 [(0, .string n), (1, .int .i64 s), (2, .int .u64 t)] = some (cellsF ⟨n, s, t⟩) := by kernel_rfl
theorem built_rk (n t : Int) : Try.prog.built 50 [(1, .int .i64 n), (3, .int .u64 t)] = some (cellsR ⟨0, n, E0, t⟩) := by kernel_rfl
theorem makes_ds {oi : Oper} (ho : oi.op = .alloc 63) : HeldBy.Makes Try.prog oi (.cells (cellsF zeroF) 63 (0, 0)) := by
  intro a w
  unfold execOp
  simp only [ho]
  kernel_rfl
section
variable {R : Nat} {w : World} {q : Nat} {S : St} {rd : Rd} {L : List (DV × Sl)}
theorem snapOf_none_of {k : ByteArray} (hn : ∀ x ∈ S.core.snaps, decide (x.name = k) = false) : snapOf S.core.snaps k = none := List.find?_eq_none.2 fun x hx => by simpa using hn x hx
theorem volOf_none_of {k : ByteArray} (hn : ∀ x ∈ S.core.vols, decide (x.name = k) = false) : volOf S.core.vols k = none := List.find?_eq_none.2 fun x hx => by simpa using hn x hx
theorem rq_same {V : World} {r : Rs} {res : Rs × Core} (h : RAt R w q S rd L) (hres : res = (r, S.core)) (hb : Below w.heap.size w V) (hR : R ≤ w.heap.size) : RQ R w q res S.seen (.returned (encR r)) V := by
  subst hres
  exact ⟨rfl, ⟨rd, L, h.after hb⟩, DocStay.of_below hb hR⟩
variable (h : RAt R w q S rd L) (hR : R ≤ w.heap.size) (c : Cl)
include h hR
set_option maxRecDepth 100000 in
set_option maxHeartbeats 16000000 in
theorem rcut_any : Calls Try.prog 93 #[.pointer (some ⟨q, 0, none⟩), encC c] w (RQ R w q (cutC S.core c.target c.source) S.seen) := by
  have HH := Lib.hid h
  have HRR := Lib.hid hR
  clear h hR
  rw [show encC c = .agg (cellsC c) from rfl]
  go_enter Try.func93, Try.ntmps93
  go_upto_region 1 with (fail)
  refine wp_gen (fun V => BoxC V w.heap.size c ∧ BoxR V (w.heap.size + 1) zeroR ∧ Below w.heap.size w V) ⟨(heap2 w _ _).1, (heap2 w _ _).2, below2 w _ _⟩ ?_
  rintro V1 ⟨hc1, hr1, hw1⟩
  have HC := Lib.hid hc1
  have HR := Lib.hid hr1
  have HW := Lib.hid hw1
  have HA := Lib.hid (HH.out.after hw1)
  have HF1 := Lib.hid (rsnap_any HA.out c.target)
  have c1 := hc1.c1
  clear hc1 hr1 hw1
  go_wp2_with (fail)
  clear c1
  refine HF1.out.mono ?_
  rintro e w' ⟨v, rfl, hf, rfl⟩
  clear HF1
  rcases hf with ⟨i, k, rfl, hk, hp, hn⟩ | ⟨rfl, hn⟩
  · have hz : snapOf S.core.snaps c.target = some k := found_find hk hp hn
    have HCU : Hid (cutC S.core c.target c.source = (⟨0, k.size, E0, k.tag⟩, S.core)) := by show _ = _; unfold cutC; rw [hz]
    obtain ⟨g, cur, h1, h2, h3, h4, h5, h6⟩ := HA.out.snap_at hk
    have hlt : (i : Int) < (S.core.snaps.length : Int) := by omega
    have HS1 : Hid (V1.cell? ⟨g, i * 3 + 1, none⟩ = some (.int .i64 k.size)) := h4 1 _ rfl
    have HS2 : Hid (V1.cell? ⟨g, i * 3 + 2, none⟩ = some (.int .u64 k.tag)) := h4 2 _ rfl
    have HGL : Hid (g < w.heap.size) := by
      obtain ⟨g', _, k1, -, k3, -⟩ := HH.out.snap_at hk
      rw [h1] at k1
      cases k1
      exact (Array.getElem?_eq_some_iff.1 k3).1
    have HSL : Hid (rd.s.o = some ⟨g, 0, none⟩ ∧ rd.s.n = S.core.snaps.length) := ⟨h1, h6⟩
    have HB := Lib.hid HA.out.box
    have hfew : S.core.snaps.length ≤ 64 := HA.out.few.2.2.1
    clear h1 h2 h3 h4 h6 hk hp hn hz
    obtain ⟨V3, sr, br, or, lr⟩ := stoR HR.out ⟨0, k.size, E0, k.tag⟩
    clear br or lr sr V3
    go_upto_region 3 with (fail)
    refine wp_region_held_drew (S := fun V => BoxQ V q rd ∧ V.cell? ⟨g, i * 3 + 1, none⟩ = some (.int .i64 k.size) ∧ V.cell? ⟨g, i * 3 + 2, none⟩ = some (.int .u64 k.tag)) (by kernel_rfl) ⟨HB.out, HS1.out, HS2.out⟩ (fun _ => ?_)
    refine HeldBy.gen (fun V => (BoxQ V q rd ∧ V.cell? ⟨g, i * 3 + 1, none⟩ = some (.int .i64 k.size) ∧ V.cell? ⟨g, i * 3 + 2, none⟩ = some (.int .u64 k.tag)) ∧ (BoxR V (w.heap.size + 1) zeroR) ∧ (Below w.heap.size w V)) ⟨⟨HB.out, HS1.out, HS2.out⟩, HR.out, HW.out.drew⟩ ?_
    clear HB HS1 HS2 HR HW
    rintro U0 ⟨HS, HR, HW⟩
    refine HeldBy.tn (i := 0) rfl HS ?_
    refine HeldBy.tn (i := 1) rfl HS ?_
    refine HeldBy.tn (i := 2) rfl HS ?_
    refine HeldBy.tk (i := 3) (v := .slice (some ⟨g, 0, none⟩) S.core.snaps.length rd.s.c) rfl (fun V hV => by have hc := hV.1.c2; rw [HSL.out.1, HSL.out.2] at hc; first | (go_simp; rfl) | (go_simp; done)) HS ?_
    refine HeldBy.tn (i := 4) rfl HS ?_
    refine HeldBy.tn (i := 5) rfl HS ?_
    refine HeldBy.tn (i := 6) rfl HS ?_
    refine HeldBy.tk (i := 7) (v := .int .i64 k.size) rfl (fun V hV => by have hc := hV.2.1; first | (go_simp; rfl) | (go_simp; done)) HS ?_
    refine HeldBy.tn (i := 8) rfl HS ?_
    refine HeldBy.tn (i := 9) rfl HS ?_
    refine HeldBy.tn (i := 10) rfl HS ?_
    refine HeldBy.tk (i := 11) (v := .slice (some ⟨g, 0, none⟩) S.core.snaps.length rd.s.c) rfl (fun V hV => by have hc := hV.1.c2; rw [HSL.out.1, HSL.out.2] at hc; first | (go_simp; rfl) | (go_simp; done)) HS ?_
    refine HeldBy.tn (i := 12) rfl HS ?_
    refine HeldBy.tn (i := 13) rfl HS ?_
    refine HeldBy.tn (i := 14) rfl HS ?_
    refine HeldBy.tk (i := 15) (v := .int .u64 k.tag) rfl (fun V hV => by have hc := hV.2.2; first | (go_simp; rfl) | (go_simp; done)) HS ?_
    refine HeldBy.tk (i := 16) (v := encR ⟨0, k.size, E0, k.tag⟩) rfl (fun _ _ => exec_build 50 _ rfl _ (by exact built_rk _ _)) HS ?_
    obtain ⟨V3, sr, br, or, lr⟩ := stoR HR ⟨0, k.size, E0, k.tag⟩
    have HBR := Lib.hid br
    have HX : Hid (RQ R w q (cutC S.core c.target c.source) S.seen (.returned (encR ⟨0, k.size, E0, k.tag⟩)) V3) := rq_same HH.out HCU.out (lr _ _ HW (Nat.le_succ _)) HRR.out
    have hS3 : BoxQ V3 q rd ∧ V3.cell? ⟨g, i * 3 + 1, none⟩ = some (.int .i64 k.size) ∧ V3.cell? ⟨g, i * 3 + 2, none⟩ = some (.int .u64 k.tag) := by
      have hgl := HGL.out
      have hql := HH.out.box.lt
      exact ⟨(or q (by omega)).trans HS.1, (cell_same (or g (by omega))).trans HS.2.1, (cell_same (or g (by omega))).trans HS.2.2⟩
    refine HeldBy.store (i := 17) (w' := V3) rfl (by kernel_rfl) (by rfl) (sr rfl rfl rfl) (by first | (go_simp; rfl) | (go_simp; done)) hS3 ?_
    refine wpAnyH_done (by kernel_rfl) ?_ _
    go_wp2
    refine bodyPost_ret (v := encR ⟨0, k.size, E0, k.tag⟩) (results_cell_row rfl _ _ (w.heap.size + 1) 50 (cellsR ⟨0, k.size, E0, k.tag⟩) (0, 0) _ rfl HBR.out undR rfl sizeR) rfl ?_
    exact HX.out
  · have hz : snapOf S.core.snaps c.target = none := snapOf_none_of hn
    have HZ := Lib.hid hz
    have HF2 := Lib.hid (rvol_any HA.out c.source)
    have c6 := HC.out.c6
    clear hn hz
    go_wp2_with (fail)
    clear c6
    refine HF2.out.mono ?_
    rintro e w' ⟨v, rfl, hf, rfl⟩
    clear HF2
    rcases hf with ⟨i, x, rfl, hx, hp, hn⟩ | ⟨rfl, hn⟩
    · have hxo : volOf S.core.vols c.source = some x := found_find hx hp hn
      have HXO := Lib.hid hxo
      have c2 := HA.out.box.c2
      have hsn : rd.s.n = S.core.snaps.length := (own_view HA.out.snaps).1
      rw [hsn] at c2
      by_cases hl : 64 ≤ S.core.snaps.length
      · have hl' : (64 : Int) ≤ (S.core.snaps.length : Int) := by omega
        have HCU : Hid (cutC S.core c.target c.source = (errR 7, S.core)) := by show _ = _; unfold cutC; rw [HZ.out, HXO.out]; exact if_pos hl
        clear hx hp hn hxo hsn
        go_wp2_with (fail)
        refine (rfailed_any 7 _).mono ?_
        rintro e W6 ⟨rfl, hb6⟩
        obtain ⟨V7, hs7, hb7, -, hl7⟩ := stoR (HR.out.after hb6) (errR 7)
        have HV7 := Lib.hid hb7
        have HX : Hid (RQ R w q (cutC S.core c.target c.source) S.seen (.returned (encR (errR 7))) V7) := rq_same HH.out HCU.out (hl7 _ _ (HW.out.trans (hb6.mono HW.out.size)) (Nat.le_succ _)) HRR.out
        clear hb6 hb7 hl7
        go_wp2_with (refine wpList_skip rfl (hs7 rfl rfl rfl) ?_)
        refine bodyPost_ret (v := encR (errR 7)) (results_cell_row rfl _ _ (w.heap.size + 1) 50 (cellsR (errR 7)) (0, 0) _ rfl HV7.out undR rfl sizeR) rfl ?_
        exact HX.out
      · have hl' : ¬ (64 : Int) ≤ (S.core.snaps.length : Int) := by omega
        have hl2 : (S.core.snaps.length : Int) < 64 := by omega
        have HCU : Hid (cutC S.core c.target c.source = (⟨0, x.size, E0, x.tag⟩, ⟨S.core.zones, S.core.vols, insS ⟨c.target, x.size, x.tag⟩ S.core.snaps⟩)) := by show _ = _; unfold cutC; rw [HZ.out, HXO.out]; exact if_neg hl
        obtain ⟨g, cur, s, hL, h1, h2, h3, h4, h5, h6, h7⟩ := HA.out.vol_at hx
        have hlt : (i : Int) < (S.core.vols.length : Int) := by omega
        have hgl := (Array.getElem?_eq_some_iff.1 h3).1
        have HS1 : Hid (CellAt V1 g (i * 5 + 1) (.int .i64 x.size)) := ⟨hgl, h4 1 _ rfl⟩
        have HS2 : Hid (CellAt V1 g (i * 5 + 3) (.int .u64 x.tag)) := ⟨hgl, h4 3 _ rfl⟩
        have HSL : Hid (rd.v.o = some ⟨g, 0, none⟩ ∧ rd.v.n = S.core.vols.length) := ⟨h1, h7⟩
        have HB := Lib.hid HA.out.box
        have hfew : S.core.vols.length ≤ 64 := HA.out.few.2.1
        clear hgl h1 h2 h3 h4 h5 h6 h7 hL hx hp hn hxo hsn
        go_upto_region 9 with (fail)
        clear c2
        refine wp_region_held_drew (S := fun V => BoxQ V q rd ∧ CellAt V g (i * 5 + 1) (.int .i64 x.size) ∧ CellAt V g (i * 5 + 3) (.int .u64 x.tag) ∧ RAt R V q S rd L ∧ BoxC V w.heap.size c ∧ BoxR V (w.heap.size + 1) zeroR ∧ Below w.heap.size w V) (by kernel_rfl) ⟨HB.out, HS1.out, HS2.out, HA.out.drew, HC.out, HR.out, HW.out.drew⟩ (fun _ => ?_)
        refine HeldBy.gen (fun V => BoxQ V q rd ∧ CellAt V g (i * 5 + 1) (.int .i64 x.size) ∧ CellAt V g (i * 5 + 3) (.int .u64 x.tag) ∧ RAt R V q S rd L ∧ BoxC V w.heap.size c ∧ BoxR V (w.heap.size + 1) zeroR ∧ Below w.heap.size w V) ⟨HB.out, HS1.out, HS2.out, HA.out.drew, HC.out, HR.out, HW.out.drew⟩ ?_
        clear HB HS1 HS2 HA HC HR HW
        rintro U0 HS
        refine HeldBy.tn (i := 0) rfl HS ?_
        refine HeldBy.tk (i := 1) rfl (fun V hV => by have hc := hV.2.2.2.2.1.c1; first | (go_simp; rfl) | (go_simp; done)) HS ?_
        refine HeldBy.tn (i := 2) rfl HS ?_
        refine HeldBy.tn (i := 3) rfl HS ?_
        refine HeldBy.tn (i := 4) rfl HS ?_
        refine HeldBy.tk (i := 5) (v := .slice (some ⟨g, 0, none⟩) S.core.vols.length rd.v.c) rfl (fun V hV => by have hc := hV.1.c1; rw [HSL.out.1, HSL.out.2] at hc; first | (go_simp; rfl) | (go_simp; done)) HS ?_
        refine HeldBy.tn (i := 6) rfl HS ?_
        refine HeldBy.tn (i := 7) rfl HS ?_
        refine HeldBy.tn (i := 8) rfl HS ?_
        refine HeldBy.tk (i := 9) (v := .int .i64 x.size) rfl (fun V hV => by have hc := hV.2.1.2; first | (go_simp; rfl) | (go_simp; done)) HS ?_
        refine HeldBy.tn (i := 10) rfl HS ?_
        refine HeldBy.tn (i := 11) rfl HS ?_
        refine HeldBy.tn (i := 12) rfl HS ?_
        refine HeldBy.tk (i := 13) (v := .slice (some ⟨g, 0, none⟩) S.core.vols.length rd.v.c) rfl (fun V hV => by have hc := hV.1.c1; rw [HSL.out.1, HSL.out.2] at hc; first | (go_simp; rfl) | (go_simp; done)) HS ?_
        refine HeldBy.tn (i := 14) rfl HS ?_
        refine HeldBy.tn (i := 15) rfl HS ?_
        refine HeldBy.tn (i := 16) rfl HS ?_
        refine HeldBy.tk (i := 17) (v := .int .u64 x.tag) rfl (fun V hV => by have hc := hV.2.2.1.2; first | (go_simp; rfl) | (go_simp; done)) HS ?_
        refine HeldBy.tk (i := 18) (v := encF ⟨c.target, x.size, x.tag⟩) rfl (fun _ _ => exec_build 63 _ rfl _ (by exact built_ds _ _ _)) HS ?_
        have HSS : ∀ w', Below U0.heap.size U0 w' → (BoxQ w' q rd ∧ CellAt w' g (i * 5 + 1) (.int .i64 x.size) ∧ CellAt w' g (i * 5 + 3) (.int .u64 x.tag) ∧ RAt R w' q S rd L ∧ BoxC w' w.heap.size c ∧ BoxR w' (w.heap.size + 1) zeroR ∧ Below w.heap.size w w') := fun w' hb => ⟨HS.1.after hb, HS.2.1.after hb, HS.2.2.1.after hb, HS.2.2.2.1.after hb, HS.2.2.2.2.1.after hb, HS.2.2.2.2.2.1.after hb, HS.2.2.2.2.2.2.trans (hb.mono HS.2.2.2.2.2.2.size)⟩
        refine HeldBy.Goes.without (w0 := U0) (k := 19) (dk := some 7) (x := .cells (cellsF zeroF) 63 (0, 0)) ?_ U0 (Below.refl _ _)
        refine HeldBy.Goes.nil rfl rfl (by kernel_rfl) rfl (makes_ds rfl) HSS rfl (fun p => by unfold HeldBy.ptr; go_simp; rfl) ?_
        intro p U1 hp hb hn
        obtain ⟨V5, hs5, hb5, -, hl5⟩ := stoF (show BoxF U1 p zeroF from hn) ⟨c.target, x.size, x.tag⟩
        have hS5 := HSS V5 (hl5 _ _ hb hp)
        refine HeldBy.store (i := 20) (w' := V5) rfl (by kernel_rfl) (by rfl) (hs5 rfl rfl rfl) (by first | (go_simp; rfl) | (go_simp; done)) hS5 ?_
        refine wpAnyH_done (by kernel_rfl) ?_ _
        have HA5 := Lib.hid hS5.2.2.2.1
        have HR5 := Lib.hid hS5.2.2.2.2.2.1
        have HW5 := Lib.hid hS5.2.2.2.2.2.2
        have HX5 := Lib.hid hb5
        clear hs5 hb5 hl5 hS5 HSS HS hp hb hn HSL hlt HZ HXO
        obtain ⟨y, hy⟩ : ∃ y : DS, y = ⟨c.target, x.size, x.tag⟩ := ⟨_, rfl⟩
        rw [← hy] at HX5 HCU
        have HRS : Hid ((⟨0, x.size, E0, x.tag⟩ : Rs) = ⟨0, y.size, E0, y.tag⟩) := by show _ = _; rw [hy]
        rw [HRS.out] at HCU
        clear hy HRS
        go_wp2
        go_loopw [8, 9, 10] (fun lv pv iv wr => ∃ (j : Nat) (o : List DS) (b : Bool) (ov : Value), iv = .int .i64 (j : Int) ∧ pv = .bool b ∧ ov = lv ∧ j ≤ S.core.snaps.length ∧ (S.core.snaps.take j).foldl (stepG (fun z => Op.bytesLess y.name.toList z.name.toList) y) ([], false) = (o, b) ∧ wr.ownsRow V5.heap.size 63 3 ov o.length (catS o) ∧ Below V5.heap.size V5 wr) (fun _ _ iv _ => S.core.snaps.length - (RowKit.intOf iv).toNat)
        case atStart => exact ⟨0, [], false, _, rfl, rfl, rfl, Nat.zero_le _, rfl, own_none _ _ _ _, Below.refl _ _⟩
        case round =>
          obtain ⟨j, o, b, ov, rfl, rfl, rfl, hj, hq, hown, hlow⟩ := hrel
          have HO := Lib.hid hown
          have HLW := Lib.hid hlow
          have HQ := Lib.hid hq
          have HLN : Hid (o.length ≤ 200) := by
            have h1 := foldG_len (fun z : DS => Op.bytesLess y.name.toList z.name.toList) y (S.core.snaps.take j) ([], false)
            rw [hq, List.length_take] at h1
            have h2 : o.length ≤ 0 + 2 * min j S.core.snaps.length := h1
            show o.length ≤ 200
            omega
          have HAW := Lib.hid (HA5.out.after hlow)
          have HXW := Lib.hid (HX5.out.after hlow)
          have c2 := HAW.out.box.c2
          have hsn : rd.s.n = S.core.snaps.length := (own_view HAW.out.snaps).1
          rw [hsn] at c2
          have HSN := Lib.hid hsn
          clear hown hlow hq hsn
          by_cases hlj : j < S.core.snaps.length
          · have hlj' : (j : Int) < (S.core.snaps.length : Int) := by omega
            obtain ⟨z, hz⟩ : ∃ z, S.core.snaps[j]? = some z := ⟨_, List.getElem?_eq_getElem hlj⟩
            obtain ⟨gs, cur2, k1, -, k3, k4, -, -⟩ := HAW.out.snap_at hz
            have HGS := Lib.hid k1
            have HT := Lib.hid ((foldG_next (lt := fun z : DS => Op.bytesLess y.name.toList z.name.toList) (x := y) hz).trans (by rw [HQ.out]))
            have hgl2 := (Array.getElem?_eq_some_iff.1 k3).1
            have HN0 : Hid (CellAt wr gs (j * 3) (.string z.name)) := ⟨hgl2, k4 0 _ rfl⟩
            have HZR : Hid (∀ V, Below V5.heap.size V5 V → World.rangeAt V gs (j * 3) (cellsDS z).toList) := fun V hb => by
              obtain ⟨g', _, q1, -, -, q4, -, -⟩ := (HA5.out.after hb).snap_at hz
              rw [HGS.out] at q1
              cases q1
              exact q4
            rw [k1] at c2
            have HBX := Lib.hid HAW.out.box
            clear k1 k3 k4 hgl2 hz HQ
            have keep : Hid (∀ (W' : World) (v' : Value) (b' : Bool) (o' : List DS), stepG (fun z : DS => Op.bytesLess y.name.toList z.name.toList) y (o, b) z = (o', b') → W'.ownsRow V5.heap.size 63 3 v' o'.length (catS o') → Below V5.heap.size V5 W' → ∃ (j' : Nat) (o : List DS) (b : Bool) (ov : Value), (Value.int .i64 ((j : Int) + 1)) = .int .i64 (j' : Int) ∧ (Value.bool b') = .bool b ∧ ov = v' ∧ j' ≤ S.core.snaps.length ∧ (S.core.snaps.take j').foldl (stepG (fun z => Op.bytesLess y.name.toList z.name.toList) y) ([], false) = (o, b) ∧ W'.ownsRow V5.heap.size 63 3 ov o.length (catS o) ∧ Below V5.heap.size V5 W') := fun W' v' b' o' h1 h2 h3 => ⟨j + 1, o', b', v', by go_num, rfl, rfl, by omega, HT.out.trans h1, h2, h3⟩
            cases b with
            | true =>
              go_upto_region 15 with (fail)
              clear c2
              refine wp_region_held_drew (S := fun V => Below V5.heap.size V5 V) (by kernel_rfl) HLW.out.drew (fun _ => ?_)
              refine HeldBy.gen (fun V => (Below V5.heap.size V5 V) ∧ (V.ownsRow V5.heap.size 63 3 ov o.length (catS o)) ∧ (BoxQ V q rd)) ⟨HLW.out.drew, HO.out, HBX.out⟩ ?_
              clear HLW HO HBX
              rintro U0 ⟨HS, HO, HBX⟩
              refine HeldBy.tn (i := 0) rfl HS ?_
              refine HeldBy.tn (i := 1) rfl HS ?_
              refine HeldBy.tn (i := 2) rfl HS ?_
              refine HeldBy.skip (i := 3) rfl (by kernel_rfl) (by kernel_rfl) (by kernel_rfl) (fun _ _ _ h => h) (by rfl) (by go_simp; rfl) HS ?_
              refine HeldBy.skip (i := 4) rfl (by kernel_rfl) (by kernel_rfl) (by kernel_rfl) (fun _ _ _ h => h) (by rfl) (by go_simp; rfl) HS ?_
              refine HeldBy.skip (i := 5) rfl (by kernel_rfl) (by kernel_rfl) (by kernel_rfl) (fun _ _ _ h => h) (by rfl) (by go_simp; rfl) HS ?_
              refine HeldBy.skip (i := 6) rfl (by kernel_rfl) (by kernel_rfl) (by kernel_rfl) (fun _ _ _ h => h) (by rfl) (by go_simp; rfl) HS ?_
              refine HeldBy.skip (i := 7) rfl (by kernel_rfl) (by kernel_rfl) (by kernel_rfl) (fun _ _ _ h => h) (by rfl) (by go_simp; rfl) HS ?_
              refine HeldBy.skip (i := 8) rfl (by kernel_rfl) (by kernel_rfl) (by kernel_rfl) (fun _ _ _ h => h) (by rfl) (by go_simp; rfl) HS ?_
              refine HeldBy.skip (i := 9) rfl (by kernel_rfl) (by kernel_rfl) (by kernel_rfl) (fun _ _ _ h => h) (by rfl) (by go_simp; rfl) HS ?_
              refine HeldBy.skip (i := 10) rfl (by kernel_rfl) (by kernel_rfl) (by kernel_rfl) (fun _ _ _ h => h) (by rfl) (by go_simp; rfl) HS ?_
              refine HeldBy.skip (i := 11) rfl (by kernel_rfl) (by kernel_rfl) (by kernel_rfl) (fun _ _ _ h => h) (by rfl) (by go_simp; rfl) HS ?_
              refine HeldBy.skip (i := 12) rfl (by kernel_rfl) (by kernel_rfl) (by kernel_rfl) (fun _ _ _ h => h) (by rfl) (by go_simp; rfl) HS ?_
              refine HeldBy.skip (i := 13) rfl (by kernel_rfl) (by kernel_rfl) (by kernel_rfl) (fun _ _ _ h => h) (by rfl) (by go_simp; rfl) HS ?_
              refine HeldBy.tn (i := 14) rfl HS ?_
              refine wpAnyH_done (by kernel_rfl) ?_ _
              have HLW := Lib.hid HS
              replace HO := Lib.hid HO
              have c2 := HBX.c2
              rw [HSN.out, HGS.out] at c2
              have hzr := HZR.out U0 HS
              obtain ⟨v', W', hrun, hown2, hb2⟩ := add_snap V5.heap.size U0 ov o z HO.out HS.size (by have := HLN.out; omega)
              have HRUN := Lib.hid hrun
              have HSL := Lib.hid (run_ds1 U0 z)
              have HN := Lib.hid (keep.out W' v' true (o ++ [z]) (by unfold stepG; simp) hown2 (HS.trans hb2))
              clear hrun hown2 hb2 HS
              go_wp2_with (first | (refine wpList_got rfl (loadF_at hzr rfl rfl) ?_) | (refine wpList_got rfl (exec_slice0 HSL.out rfl rfl) ?_) | ((with_reducible refine wpList_app rfl rfl HRUN.out ?_ ?_ ?_); rfl; rfl))
              go_roundw
              case rel => exact HN.out
              case measure => simp [RowKit.intOf]; omega
            | false =>
              obtain ⟨m, hm⟩ : ∃ m, Op.bytesLess y.name.toList z.name.toList = m := ⟨_, rfl⟩
              have HM := Lib.hid hm
              clear hm
              go_upto_region 15 with (fail)
              clear c2
              refine wp_region_held_drew (S := fun V => Below V5.heap.size V5 V ∧ BoxQ V q rd ∧ BoxF V p y ∧ CellAt V gs (j * 3) (.string z.name)) (by kernel_rfl) ⟨HLW.out.drew, HBX.out, HXW.out, HN0.out⟩ (fun _ => ?_)
              refine HeldBy.gen (fun V => (Below V5.heap.size V5 V ∧ BoxQ V q rd ∧ BoxF V p y ∧ CellAt V gs (j * 3) (.string z.name)) ∧ (V.ownsRow V5.heap.size 63 3 ov o.length (catS o))) ⟨⟨HLW.out.drew, HBX.out, HXW.out, HN0.out⟩, HO.out⟩ ?_
              clear HLW HBX HXW HN0 HO
              rintro U0 ⟨HS, HO⟩
              refine HeldBy.tn (i := 0) rfl HS ?_
              refine HeldBy.tn (i := 1) rfl HS ?_
              refine HeldBy.tn (i := 2) rfl HS ?_
              refine HeldBy.tn (i := 3) rfl HS ?_
              refine HeldBy.tk (i := 4) rfl (fun V hV => by have hc := hV.2.2.1.c0; first | (go_simp; rfl) | (go_simp; done)) HS ?_
              refine HeldBy.tn (i := 5) rfl HS ?_
              refine HeldBy.tn (i := 6) rfl HS ?_
              refine HeldBy.tn (i := 7) rfl HS ?_
              refine HeldBy.tk (i := 8) (v := .slice (some ⟨gs, 0, none⟩) S.core.snaps.length rd.s.c) rfl (fun V hV => by have hc := hV.2.1.c2; rw [HSN.out, HGS.out] at hc; first | (go_simp; rfl) | (go_simp; done)) HS ?_
              refine HeldBy.tn (i := 9) rfl HS ?_
              refine HeldBy.tn (i := 10) rfl HS ?_
              refine HeldBy.tn (i := 11) rfl HS ?_
              refine HeldBy.tk (i := 12) (v := .string z.name) rfl (fun V hV => by have hc := hV.2.2.2.2; first | (go_simp; rfl) | (go_simp; done)) HS ?_
              refine HeldBy.tk (i := 13) (v := .bool m) rfl (fun _ _ => exec_lss_str rfl rfl rfl HM.out) HS ?_
              refine HeldBy.tn (i := 14) rfl HS ?_
              refine wpAnyH_done (by kernel_rfl) ?_ _
              have HLW := Lib.hid HS.1
              have c2 := HS.2.1.c2
              rw [HSN.out, HGS.out] at c2
              have hxw := HS.2.2.1
              cases m with
              | true =>
                obtain ⟨v1, W1, hrun1, hown1, hb1⟩ := add_snap V5.heap.size U0 ov o y HO HS.1.size (by have := HLN.out; omega)
                have hw1 := HS.1.trans hb1
                have hzr := HZR.out W1 hw1
                have c2b : W1.cell? ⟨q, 2, none⟩ = some (.slice (some ⟨gs, 0, none⟩) S.core.snaps.length rd.s.c) := by
                  have h := (HA5.out.after hw1).box.c2
                  rw [HSN.out, HGS.out] at h
                  exact h
                obtain ⟨v2, W2, hrun2, hown2, hb2⟩ := add_snap V5.heap.size W1 v1 (o ++ [y]) z hown1 hw1.size (by rw [List.length_append]; have := HLN.out; show o.length + 1 < _; omega)
                have HRUN1 := Lib.hid hrun1
                have HRUN2 := Lib.hid hrun2
                have HSL1 := Lib.hid (run_ds1 U0 y)
                have HSL2 := Lib.hid (run_ds1 W1 z)
                have HN := Lib.hid (keep.out W2 v2 true (o ++ [y] ++ [z]) (by unfold stepG; simp [HM.out]) hown2 (hw1.trans hb2))
                clear hrun1 hown1 hb1 hw1 hrun2 hown2 hb2 HS HO
                go_wp2_with (first | (refine wpList_got rfl (loadF hxw rfl rfl) ?_) | (refine wpList_got rfl (loadF_at hzr rfl rfl) ?_) | (refine wpList_got rfl (exec_slice0 HSL1.out rfl rfl) ?_) | ((with_reducible refine wpList_app rfl rfl HRUN1.out ?_ ?_ ?_); rfl; rfl) | (refine wpList_got rfl (exec_slice0 HSL2.out rfl rfl) ?_) | ((with_reducible refine wpList_app rfl rfl HRUN2.out ?_ ?_ ?_); rfl; rfl))
                go_roundw
                case rel => exact HN.out
                case measure => simp [RowKit.intOf]; omega
              | false =>
                have hzr := HZR.out U0 HS.1
                obtain ⟨v', W', hrun, hown2, hb2⟩ := add_snap V5.heap.size U0 ov o z HO HS.1.size (by have := HLN.out; omega)
                have HRUN := Lib.hid hrun
                have HSL := Lib.hid (run_ds1 U0 z)
                have HN := Lib.hid (keep.out W' v' false (o ++ [z]) (by unfold stepG; simp [HM.out]) hown2 (HS.1.trans hb2))
                clear hrun hown2 hb2 HS HO
                go_wp2_with (first | (refine wpList_got rfl (loadF_at hzr rfl rfl) ?_) | (refine wpList_got rfl (exec_slice0 HSL.out rfl rfl) ?_) | ((with_reducible refine wpList_app rfl rfl HRUN.out ?_ ?_ ?_); rfl; rfl))
                go_roundw
                case rel => exact HN.out
                case measure => simp [RowKit.intOf]; omega
          · have hlj' : ¬ (j : Int) < (S.core.snaps.length : Int) := by omega
            have hE : j = S.core.snaps.length := by omega
            rw [hE, List.take_length] at HQ
            have hfin := fold_insS y S.core.snaps []
            rw [HQ.out, List.nil_append] at hfin
            have HFIN : Hid ((o ++ if b then [] else [y]) = insS y S.core.snaps) := hfin
            clear hfin HQ hE
            -- what is left, once the row is whole
            have last : Hid (∀ (V : World) (sl : Sl), V.ownsRow V5.heap.size 63 3 (encSl sl) (insS y S.core.snaps).length (catS (insS y S.core.snaps)) → Below V5.heap.size V5 V → ∃ V9, (∀ {oi : Oper} {a : Act} {p q' : Operand}, oi.op = .store 50 p q' → a.eval p = .pointer (some ⟨w.heap.size + 1, 0, none⟩) → a.eval q' = encR ⟨0, y.size, E0, y.tag⟩ → (execOp a.eval oi).run Try.prog (V.setCell ⟨q, 2, none⟩ (.slice sl.o sl.n sl.c)) = .ok .skip V9) ∧ BoxR V9 (w.heap.size + 1) ⟨0, y.size, E0, y.tag⟩ ∧ RQ R w q (cutC S.core c.target c.source) S.seen (.returned (encR ⟨0, y.size, E0, y.tag⟩)) V9 ∧ BoxF (V.setCell ⟨q, 2, none⟩ (.slice sl.o sl.n sl.c)) p y) := fun V sl h1 h2 => by
              have hRW : R ≤ V5.heap.size := by have := HRR.out; have := HW5.out.size; omega
              have h3 : SOwn V R sl (insS y S.core.snaps) := ⟨h1.1, by
                rcases h1.2 with h4 | ⟨g', cap, cu, h4, h5, h6⟩
                · exact .inl h4
                · exact .inr ⟨g', cap, cu, h4, by omega, h6⟩⟩
              have hav := HA5.out.after h2
              have h4 := hav.snaps_new h3 (by rw [length_insS]; omega)
              have hrv : BoxR V (w.heap.size + 1) zeroR := HR5.out.after h2
              have hr4 : BoxR (V.setCell ⟨q, 2, none⟩ (.slice sl.o sl.n sl.c)) (w.heap.size + 1) zeroR := (heap_setCell_other _ ⟨q, 2, none⟩ _ _ (kind_neF hrv hav.box (by decide))).trans hrv
              obtain ⟨V9, sr, br, or, lr⟩ := stoR hr4 ⟨0, y.size, E0, y.tag⟩
              have hds : DocStay R w V := DocStay.of_below (HW5.out.trans (h2.mono HW5.out.size)) HRR.out
              refine ⟨V9, sr, br, ⟨by rw [HCU.out], ⟨⟨rd.z, rd.v, sl, rd.d⟩, L, ?_⟩, (hds.set hav.low hav.box.soft).sto or lr (Nat.le_succ _) HRR.out⟩, (heap_setCell_other _ ⟨q, 2, none⟩ _ _ (kind_neF (HX5.out.after h2) hav.box (by decide))).trans (HX5.out.after h2)⟩
              rw [HCU.out]
              exact h4.keep hr4 (by decide) or
            cases b with
            | true =>
              obtain ⟨sl, hsl, -⟩ := own_sl HO.out
              have hfin := HFIN.out
              simp only [if_true, List.append_nil] at hfin
              have ho := HO.out
              rw [hsl, hfin] at ho
              obtain ⟨V9, sr, br, hrq, hbx⟩ := last.out wr sl ho HLW.out
              have f2 := HAW.out.box.free 2
              have HBR := Lib.hid br
              have HX := Lib.hid hrq
              have x1 := hbx.c1
              have x2 := hbx.c2
              rw [hsl]
              clear hsl hfin ho br hrq hbx last HO HFIN
              go_wp2_with (first | ((with_reducible refine wpList_build_to rfl 50 _ rfl (cellsR ⟨0, y.size, E0, y.tag⟩) ?_ ?_); exact built_rk _ _) | (refine wpList_skip rfl (sr rfl rfl rfl) ?_))
              refine bodyPost_ret (v := encR ⟨0, y.size, E0, y.tag⟩) (results_cell_row rfl _ _ (w.heap.size + 1) 50 (cellsR ⟨0, y.size, E0, y.tag⟩) (0, 0) _ rfl HBR.out undR rfl sizeR) rfl ?_
              exact HX.out
            | false =>
              obtain ⟨v', W', hrun, hown2, hb2⟩ := add_snap V5.heap.size wr ov o y HO.out HLW.out.size (by have := HLN.out; omega)
              obtain ⟨sl, hsl, -⟩ := own_sl hown2
              have hfin : o ++ [y] = insS y S.core.snaps := HFIN.out
              rw [hsl, hfin] at hown2
              rw [hsl] at hrun
              change (Builtin.append_ _ _ _).run Try.prog _ = .ok (.slice sl.o sl.n sl.c) W' at hrun
              have hlw2 := HLW.out.trans hb2
              obtain ⟨V9, sr, br, hrq, hbx⟩ := last.out W' sl hown2 hlw2
              have hq2 := (HA5.out.after hlw2).box
              have c2b := hq2.c2
              have f2 := hq2.free 2
              have HBR := Lib.hid br
              have HX := Lib.hid hrq
              have x1 := hbx.c1
              have x2 := hbx.c2
              have hxw := HXW.out
              have HRUN := Lib.hid hrun
              have HSL := Lib.hid (run_ds1 wr y)
              clear hsl hfin hown2 hrun hb2 hlw2 hq2 br hrq hbx last HO HFIN
              go_wp2_with (first | (refine wpList_got rfl (loadF hxw rfl rfl) ?_) | (refine wpList_got rfl (exec_slice0 HSL.out rfl rfl) ?_) | ((with_reducible refine wpList_app rfl rfl HRUN.out ?_ ?_ ?_); rfl; rfl) | ((with_reducible refine wpList_build_to rfl 50 _ rfl (cellsR ⟨0, y.size, E0, y.tag⟩) ?_ ?_); exact built_rk _ _) | (refine wpList_skip rfl (sr rfl rfl rfl) ?_))
              refine bodyPost_ret (v := encR ⟨0, y.size, E0, y.tag⟩) (results_cell_row rfl _ _ (w.heap.size + 1) 50 (cellsR ⟨0, y.size, E0, y.tag⟩) (0, 0) _ rfl HBR.out undR rfl sizeR) rfl ?_
              exact HX.out
    · have hxo : volOf S.core.vols c.source = none := volOf_none_of hn
      have HCU : Hid (cutC S.core c.target c.source = (errR 5, S.core)) := by show _ = _; unfold cutC; rw [HZ.out, hxo]
      clear hn hxo
      go_wp2_with (fail)
      refine (rfailed_any 5 _).mono ?_
      rintro e W6 ⟨rfl, hb6⟩
      obtain ⟨V7, hs7, hb7, -, hl7⟩ := stoR (HR.out.after hb6) (errR 5)
      have HV7 := Lib.hid hb7
      have HX : Hid (RQ R w q (cutC S.core c.target c.source) S.seen (.returned (encR (errR 5))) V7) := rq_same HH.out HCU.out (hl7 _ _ (HW.out.trans (hb6.mono HW.out.size)) (Nat.le_succ _)) HRR.out
      clear hb6 hb7 hl7
      go_wp2_with (refine wpList_skip rfl (hs7 rfl rfl rfl) ?_)
      refine bodyPost_ret (v := encR (errR 5)) (results_cell_row rfl _ _ (w.heap.size + 1) 50 (cellsR (errR 5)) (0, 0) _ rfl HV7.out undR rfl sizeR) rfl ?_
      exact HX.out
end
end Go.Proofs.Ytbgfccanbgpjiaa.O.I
