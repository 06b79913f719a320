/- The law CodecChanges: its walk. Laid by mkback.py. The law CodecBack: its walk. Laid by mkback.py. -/
import Derived.Test.YtacbfpgknfcimaaCCalls
import Derived.Test.YtacbfpgknfcimaaCEvs
import Derived.Test.YtacbfpgknfcimaaORefRight
namespace Go.Proofs.Ytacbfpgknfcimaa.C
open Go.RowKit T O
open Go.Lib hiding intOf

theorem fits_of_wf {o : O.Obj} (h : WfO o ∧ rightB o = true) : Fits o := by
  have hs := say_of_right h.1 h.2
  have e : ∀ {n : Nat}, n ≤ 40 → n ≤ maxLen := fun h => Nat.le_trans h (by decide)
  exact ⟨e hs.name, e hs.cls, e hs.zone, e hs.node, e hs.claim, e hs.volume, e hs.source, hs.version, hs.born, hs.num, hs.tag⟩
theorem fits_of_wfE {e : Ev} (h : WfE e) : U64 e.version ∧ Fits e.object ∧ rightB e.object = true := ⟨h.1, fits_of_wf ⟨h.2.2.1, h.2.2.2⟩, h.2.2.2⟩

set_option maxRecDepth 100000 in
set_option maxHeartbeats 8000000 in
theorem codecChanges_any (x : Ev) (hv : U64 x.version) (hf : Fits x.object) (v : Value) (l : Bytes) (w : World) (h : BytesIn w v l) :
    Calls Try.prog 6 #[encE x, v] w fun e w' => e = .returned (.bool true) ∧ Below w.heap.size w w' := by
  have hB0 := Lib.hid (fun k hk => h.lt (k := k) hk)
  replace hB0 : Hid (∀ k, v.ownBlock = some k → k < w.heap.size) := hB0.out
  have HB := Lib.hid (h.alloc (.cells (cellsE x) 29 (0, 0)))
  clear h
  cases hr : rightB x.object with
  | false =>
    have HR := Lib.hid hr
    clear hr
    unfold encE
    go_enter Try.func6, Try.ntmps6
    go_upto_region 1 with (fail)
    refine wp_gen (fun W => BoxE W w.heap.size x ∧ BytesIn W v l ∧ Below w.heap.size w W) ⟨BoxE.new w x, HB.out, (Below.refl _ _).alloc (Nat.le_refl _) _⟩ ?_
    clear HB
    rintro W1 ⟨hb, hB, hlow⟩
    go_wp2_with ((with_reducible refine wpList_load_ev ?_ rfl ?_ hb ?_); rfl; rfl)
    refine (change_bad hv hf HR.out _).mono ?_
    rintro e W2 ⟨hb1, v1, rfl, -⟩
    replace hb := hb.after hb1
    replace hB := hB.after hb1
    replace hlow := hlow.trans (hb1.mono hlow.size)
    clear hb1
    clear hb HR
    go_upto_region 6 with (fail)
    cases hq : allR rdEv l with
    | none =>
      have HQ := Lib.hid hq
      clear hq
      go_wp2_with fail
      refine (readChange_bad hB HQ.out).mono ?_
      rintro e V1 ⟨rfl, hb1⟩
      replace hlow := hlow.trans (hb1.mono hlow.size)
      clear hb1 hB
      have hn := BoxE.new V1 Ev0
      have hz := hlow.size
      replace hlow := hlow.alloc hz (.cells (cellsE Ev0) 29 (0, 0))
      go_upto_region 7 with ((with_reducible refine wpList_store_rowTo rfl 29 _ _ rfl rfl V1.heap.size (cellsE Ev0) ?_ ?_ 29 (cellsE Ev0) ?_ ?_ ?_ ?_ ?_); rfl; rfl; exact hn; exact sizeEv; exact rfl; exact one_cellsE _)
      refine wp_gen (fun W => BoxE W V1.heap.size Ev0 ∧ Below w.heap.size w W) ⟨hn.setRow _, below_setRow hlow hz _⟩ ?_
      clear hz hn hlow
      rintro V2 ⟨hn, hlow⟩
      go_wp2_with fail
      refine (live_any _).mono ?_
      rintro e V3 ⟨rfl, hb1⟩
      replace hn := hn.after hb1
      replace hlow := hlow.trans (hb1.mono hlow.size)
      clear hb1
      go_wp2_with (first | ((with_reducible refine wpList_load_ev ?_ rfl ?_ hn ?_); rfl; rfl) | (refine wpList_known (v := .bool true) rfl (eql_evs rfl (p := Ev0) (q := Ev0) rfl rfl (by simp)) ?_))
      go_ret
      exact ⟨rfl, hlow⟩
    | some y =>
      have HY := Lib.hid (lawEv.all_only hq)
      have HQ := Lib.hid hq
      clear hq
      go_wp2_with fail
      refine (readChange_ok hB HQ.out).mono ?_
      rintro e V1 ⟨rfl, hb1⟩
      replace hB := hB.after hb1
      replace hlow := hlow.trans (hb1.mono hlow.size)
      clear hb1
      have hn := BoxE.new V1 Ev0
      have hz := hlow.size
      replace hlow := hlow.alloc hz (.cells (cellsE Ev0) 29 (0, 0))
      replace hB := (hB.alloc (.cells (cellsE Ev0) 29 (0, 0)))
      have hBl : ∀ k, v.ownBlock = some k → k < w.heap.size := hB0.out
      go_upto_region 7 with ((with_reducible refine wpList_store_rowTo rfl 29 _ _ rfl rfl V1.heap.size (cellsE y) ?_ ?_ 29 (cellsE Ev0) ?_ ?_ ?_ ?_ ?_); rfl; rfl; exact hn; exact sizeEv; exact rfl; exact one_cellsE _)
      refine wp_gen (fun W => BoxE W V1.heap.size y ∧ BytesIn W v l ∧ Below w.heap.size w W) ⟨hn.setRow _, hB.below (below_setRow (Below.refl _ _) hz _) hBl, below_setRow hlow hz _⟩ ?_
      clear hz hn hlow hB hBl
      rintro V2 ⟨hn, hB, hlow⟩
      go_wp2_with ((with_reducible refine wpList_load_ev ?_ rfl ?_ hn ?_); rfl; rfl)
      refine (change_ok (fits_of_wfE HY.out.1).1 (fits_of_wfE HY.out.1).2.1 (fits_of_wfE HY.out.1).2.2 _).mono ?_
      rintro e V3 ⟨hb1, v5, rfl, hH⟩
      replace hB := hB.after hb1
      replace hlow := hlow.trans (hb1.mono hlow.size)
      have hB5 : BytesIn V3 v5 l := by rw [HY.out.2]; exact hH.bytes
      clear hb1 hH hn
      go_wp2_with fail
      refine (live_any _).mono ?_
      rintro e V4 ⟨rfl, hb1⟩
      have c1 := (hB.after hb1).str 9 Try.underlying9
      have c2 := (hB5.after hb1).str 9 Try.underlying9
      replace hlow := hlow.trans (hb1.mono hlow.size)
      clear hb1 hB hB5 HY HQ
      generalize (⟨l.toArray⟩ : ByteArray) = S at *
      go_wp2
      go_ret
      exact ⟨rfl, hlow⟩
  | true =>
    have HR := Lib.hid hr
    clear hr
    have HX := Lib.hid (lawEv.all_back ⟨hv, trivial, (wf_fits hf HR.out).1, HR.out⟩)
    unfold encE
    go_enter Try.func6, Try.ntmps6
    go_upto_region 1 with (fail)
    refine wp_gen (fun W => BoxE W w.heap.size x ∧ BytesIn W v l ∧ Below w.heap.size w W) ⟨BoxE.new w x, HB.out, (Below.refl _ _).alloc (Nat.le_refl _) _⟩ ?_
    clear HB
    rintro W1 ⟨hb, hB, hlow⟩
    go_wp2_with ((with_reducible refine wpList_load_ev ?_ rfl ?_ hb ?_); rfl; rfl)
    refine (change_ok hv hf HR.out _).mono ?_
    rintro e W2 ⟨hb1, v1, rfl, hH⟩
    have hB1 := hH.bytes
    replace hb := hb.after hb1
    replace hB := hB.after hb1
    replace hlow := hlow.trans (hb1.mono hlow.size)
    clear hb1 hH
    go_wp2_with fail
    refine (readChange_ok hB1 HX.out).mono ?_
    rintro e W3 ⟨rfl, hb1⟩
    have hxz := (hb.after hb1).lt
    replace hb := (hb.after hb1).alloc (.cells (cellsE Ev0) 29 (0, 0))
    replace hB := (hB.after hb1).alloc (.cells (cellsE Ev0) 29 (0, 0))
    replace hlow := hlow.trans (hb1.mono hlow.size)
    clear hb1 hB1
    have hn := BoxE.new W3 Ev0
    have hz := hlow.size
    replace hlow := hlow.alloc hz (.cells (cellsE Ev0) 29 (0, 0))
    have hBl : ∀ k, v.ownBlock = some k → k < W3.heap.size := fun k hk => Nat.lt_of_lt_of_le (hB0.out k hk) hz
    go_upto_region 4 with ((with_reducible refine wpList_store_rowTo rfl 29 _ _ rfl rfl W3.heap.size (cellsE x) ?_ ?_ 29 (cellsE Ev0) ?_ ?_ ?_ ?_ ?_); rfl; rfl; exact hn; exact sizeEv; exact rfl; exact one_cellsE _)
    refine wp_gen (fun W => BoxE W W3.heap.size x ∧ BoxE W w.heap.size x ∧ BytesIn W v l ∧ Below w.heap.size w W) ⟨hn.setRow _, (below_setRow (Below.refl _ _) (Nat.le_refl _) _ : Below W3.heap.size _ _).block _ hxz |>.trans hb, hB.below (below_setRow (Below.refl _ _) (Nat.le_refl _) _) hBl, below_setRow hlow hz _⟩ ?_
    clear hz hn hlow hB hBl hb
    rintro W4 ⟨hn, hb, hB, hlow⟩
    go_upto_region 6 with (first | ((with_reducible refine wpList_load_ev ?_ rfl ?_ hn ?_); rfl; rfl) | ((with_reducible refine wpList_load_ev ?_ rfl ?_ hb ?_); rfl; rfl) | (refine wpList_known (v := .bool false) rfl (neq_evs rfl (p := x) (q := x) rfl rfl (by simp)) ?_))
    clear hn hb HX HR hxz
    cases hq : allR rdEv l with
    | none =>
      have HQ := Lib.hid hq
      clear hq
      go_wp2_with fail
      refine (readChange_bad hB HQ.out).mono ?_
      rintro e V1 ⟨rfl, hb1⟩
      replace hlow := hlow.trans (hb1.mono hlow.size)
      clear hb1 hB
      have hn := BoxE.new V1 Ev0
      have hz := hlow.size
      replace hlow := hlow.alloc hz (.cells (cellsE Ev0) 29 (0, 0))
      go_upto_region 7 with ((with_reducible refine wpList_store_rowTo rfl 29 _ _ rfl rfl V1.heap.size (cellsE Ev0) ?_ ?_ 29 (cellsE Ev0) ?_ ?_ ?_ ?_ ?_); rfl; rfl; exact hn; exact sizeEv; exact rfl; exact one_cellsE _)
      refine wp_gen (fun W => BoxE W V1.heap.size Ev0 ∧ Below w.heap.size w W) ⟨hn.setRow _, below_setRow hlow hz _⟩ ?_
      clear hz hn hlow
      rintro V2 ⟨hn, hlow⟩
      go_wp2_with fail
      refine (live_any _).mono ?_
      rintro e V3 ⟨rfl, hb1⟩
      replace hn := hn.after hb1
      replace hlow := hlow.trans (hb1.mono hlow.size)
      clear hb1
      go_wp2_with (first | ((with_reducible refine wpList_load_ev ?_ rfl ?_ hn ?_); rfl; rfl) | (refine wpList_known (v := .bool true) rfl (eql_evs rfl (p := Ev0) (q := Ev0) rfl rfl (by simp)) ?_))
      go_ret
      exact ⟨rfl, hlow⟩
    | some y =>
      have HY := Lib.hid (lawEv.all_only hq)
      have HQ := Lib.hid hq
      clear hq
      go_wp2_with fail
      refine (readChange_ok hB HQ.out).mono ?_
      rintro e V1 ⟨rfl, hb1⟩
      replace hB := hB.after hb1
      replace hlow := hlow.trans (hb1.mono hlow.size)
      clear hb1
      have hn := BoxE.new V1 Ev0
      have hz := hlow.size
      replace hlow := hlow.alloc hz (.cells (cellsE Ev0) 29 (0, 0))
      replace hB := (hB.alloc (.cells (cellsE Ev0) 29 (0, 0)))
      have hBl : ∀ k, v.ownBlock = some k → k < w.heap.size := hB0.out
      go_upto_region 7 with ((with_reducible refine wpList_store_rowTo rfl 29 _ _ rfl rfl V1.heap.size (cellsE y) ?_ ?_ 29 (cellsE Ev0) ?_ ?_ ?_ ?_ ?_); rfl; rfl; exact hn; exact sizeEv; exact rfl; exact one_cellsE _)
      refine wp_gen (fun W => BoxE W V1.heap.size y ∧ BytesIn W v l ∧ Below w.heap.size w W) ⟨hn.setRow _, hB.below (below_setRow (Below.refl _ _) hz _) hBl, below_setRow hlow hz _⟩ ?_
      clear hz hn hlow hB hBl
      rintro V2 ⟨hn, hB, hlow⟩
      go_wp2_with ((with_reducible refine wpList_load_ev ?_ rfl ?_ hn ?_); rfl; rfl)
      refine (change_ok (fits_of_wfE HY.out.1).1 (fits_of_wfE HY.out.1).2.1 (fits_of_wfE HY.out.1).2.2 _).mono ?_
      rintro e V3 ⟨hb1, v5, rfl, hH⟩
      replace hB := hB.after hb1
      replace hlow := hlow.trans (hb1.mono hlow.size)
      have hB5 : BytesIn V3 v5 l := by rw [HY.out.2]; exact hH.bytes
      clear hb1 hH hn
      go_wp2_with fail
      refine (live_any _).mono ?_
      rintro e V4 ⟨rfl, hb1⟩
      have c1 := (hB.after hb1).str 9 Try.underlying9
      have c2 := (hB5.after hb1).str 9 Try.underlying9
      replace hlow := hlow.trans (hb1.mono hlow.size)
      clear hb1 hB hB5 HY HQ
      generalize (⟨l.toArray⟩ : ByteArray) = S at *
      go_wp2
      go_ret
      exact ⟨rfl, hlow⟩
end Go.Proofs.Ytacbfpgknfcimaa.C
namespace Go.Proofs.Ytacbfpgknfcimaa.C
open Go.RowKit T O
open Go.Lib hiding intOf

theorem fit_of {o : O.Obj} (h : Fits o) : O.Fit o := ⟨h.name, h.cls, h.zone, h.node, h.claim, h.volume, h.source⟩

set_option maxRecDepth 100000 in
set_option maxHeartbeats 8000000 in
theorem codecBack_any (x : O.Obj) (hf : Fits x) (v : Value) (l : Bytes) (w : World) (h : BytesIn w v l) :
    Calls Try.prog 5 #[encO x, v] w fun e w' => e = .returned (.bool true) ∧ Below w.heap.size w w' := by
  have hB0 := Lib.hid (fun k hk => h.lt (k := k) hk)
  replace hB0 : Hid (∀ k, v.ownBlock = some k → k < w.heap.size) := hB0.out
  have HB := Lib.hid (h.alloc (.cells (cellsO x) 27 (0, 0)))
  clear h
  cases hr : rightB x with
  | false =>
    have HR := Lib.hid hr
    clear hr
    unfold encO
    go_enter Try.func5, Try.ntmps5
    go_upto_region 1 with (fail)
    refine wp_gen (fun W => BoxO W w.heap.size x ∧ BytesIn W v l ∧ Below w.heap.size w W) ⟨BoxO.new w x, HB.out, (Below.refl _ _).alloc (Nat.le_refl _) _⟩ ?_
    clear HB
    rintro W1 ⟨hb, hB, hlow⟩
    go_wp2_with ((with_reducible refine wpList_load_obj ?_ rfl ?_ hb ?_); rfl; rfl)
    refine (object_bad hf HR.out _).mono ?_
    rintro e W2 ⟨hb1, v1, rfl, -⟩
    replace hb := hb.after hb1
    replace hB := hB.after hb1
    replace hlow := hlow.trans (hb1.mono hlow.size)
    clear hb1
    have hF := Lib.hid (fit_of hf)
    go_wp2_with ((with_reducible refine wpList_load_obj ?_ rfl ?_ hb ?_); rfl; rfl)
    refine (refRight_any x _ hF.out).mono ?_
    rintro e W3 ⟨rfl, hb1⟩
    rw [HR.out]
    replace hB := hB.after hb1
    replace hlow := hlow.trans (hb1.mono hlow.size)
    clear hb1
    clear hb HR
    go_upto_region 8 with (fail)
    cases hq : allR rdObj l with
    | none =>
      have HQ := Lib.hid hq
      clear hq
      go_wp2_with fail
      refine (read_bad hB HQ.out).mono ?_
      rintro e V1 ⟨rfl, hb1⟩
      replace hlow := hlow.trans (hb1.mono hlow.size)
      clear hb1 hB
      have hn := BoxO.new V1 O0
      have hz := hlow.size
      replace hlow := hlow.alloc hz (.cells (cellsO O0) 27 (0, 0))
      go_upto_region 9 with ((with_reducible refine wpList_store_rowTo rfl 27 _ _ rfl rfl V1.heap.size (cellsO O0) ?_ ?_ 27 (cellsO O0) ?_ ?_ ?_ ?_ ?_); rfl; rfl; exact hn; exact sizeObj; exact sz_cells _ _; exact one_cells _)
      refine wp_gen (fun W => BoxO W V1.heap.size O0 ∧ Below w.heap.size w W) ⟨hn.setRow _, below_setRow hlow hz _⟩ ?_
      clear hz hn hlow
      rintro V2 ⟨hn, hlow⟩
      go_wp2_with fail
      refine (live_any _).mono ?_
      rintro e V3 ⟨rfl, hb1⟩
      replace hn := hn.after hb1
      replace hlow := hlow.trans (hb1.mono hlow.size)
      clear hb1
      go_wp2_with (first | ((with_reducible refine wpList_load_obj ?_ rfl ?_ hn ?_); rfl; rfl) | (refine wpList_known (v := .bool true) rfl (eql_objs rfl (p := O0) (q := O0) rfl rfl (by simp)) ?_))
      go_ret
      exact ⟨rfl, hlow⟩
    | some y =>
      have HY := Lib.hid (lawObj.all_only hq)
      have HQ := Lib.hid hq
      clear hq
      go_wp2_with fail
      refine (read_ok hB HQ.out).mono ?_
      rintro e V1 ⟨rfl, hb1⟩
      replace hB := hB.after hb1
      replace hlow := hlow.trans (hb1.mono hlow.size)
      clear hb1
      have hn := BoxO.new V1 O0
      have hz := hlow.size
      replace hlow := hlow.alloc hz (.cells (cellsO O0) 27 (0, 0))
      replace hB := (hB.alloc (.cells (cellsO O0) 27 (0, 0)))
      have hBl : ∀ k, v.ownBlock = some k → k < w.heap.size := hB0.out
      go_upto_region 9 with ((with_reducible refine wpList_store_rowTo rfl 27 _ _ rfl rfl V1.heap.size (cellsO y) ?_ ?_ 27 (cellsO O0) ?_ ?_ ?_ ?_ ?_); rfl; rfl; exact hn; exact sizeObj; exact sz_cells _ _; exact one_cells _)
      refine wp_gen (fun W => BoxO W V1.heap.size y ∧ BytesIn W v l ∧ Below w.heap.size w W) ⟨hn.setRow _, hB.below (below_setRow (Below.refl _ _) hz _) hBl, below_setRow hlow hz _⟩ ?_
      clear hz hn hlow hB hBl
      rintro V2 ⟨hn, hB, hlow⟩
      go_wp2_with ((with_reducible refine wpList_load_obj ?_ rfl ?_ hn ?_); rfl; rfl)
      refine (object_ok (fits_of_wf HY.out.1) HY.out.1.2 _).mono ?_
      rintro e V3 ⟨hb1, v5, rfl, hH⟩
      replace hB := hB.after hb1
      replace hlow := hlow.trans (hb1.mono hlow.size)
      have hB5 : BytesIn V3 v5 l := by rw [HY.out.2]; exact hH.bytes
      clear hb1 hH hn
      go_wp2_with fail
      refine (live_any _).mono ?_
      rintro e V4 ⟨rfl, hb1⟩
      have c1 := (hB.after hb1).str 9 Try.underlying9
      have c2 := (hB5.after hb1).str 9 Try.underlying9
      replace hlow := hlow.trans (hb1.mono hlow.size)
      clear hb1 hB hB5 HY HQ
      generalize (⟨l.toArray⟩ : ByteArray) = S at *
      go_wp2
      go_ret
      exact ⟨rfl, hlow⟩
  | true =>
    have HR := Lib.hid hr
    clear hr
    have HX := Lib.hid (lawObj.all_back (wf_fits hf HR.out))
    unfold encO
    go_enter Try.func5, Try.ntmps5
    go_upto_region 1 with (fail)
    refine wp_gen (fun W => BoxO W w.heap.size x ∧ BytesIn W v l ∧ Below w.heap.size w W) ⟨BoxO.new w x, HB.out, (Below.refl _ _).alloc (Nat.le_refl _) _⟩ ?_
    clear HB
    rintro W1 ⟨hb, hB, hlow⟩
    go_wp2_with ((with_reducible refine wpList_load_obj ?_ rfl ?_ hb ?_); rfl; rfl)
    refine (object_ok hf HR.out _).mono ?_
    rintro e W2 ⟨hb1, v1, rfl, hH⟩
    have hB1 := hH.bytes
    replace hb := hb.after hb1
    replace hB := hB.after hb1
    replace hlow := hlow.trans (hb1.mono hlow.size)
    clear hb1 hH
    go_wp2_with fail
    refine (read_ok hB1 HX.out).mono ?_
    rintro e W3 ⟨rfl, hb1⟩
    have hxz := (hb.after hb1).lt
    replace hb := (hb.after hb1).alloc (.cells (cellsO O0) 27 (0, 0))
    replace hB := (hB.after hb1).alloc (.cells (cellsO O0) 27 (0, 0))
    replace hlow := hlow.trans (hb1.mono hlow.size)
    clear hb1 hB1
    have hn := BoxO.new W3 O0
    have hz := hlow.size
    replace hlow := hlow.alloc hz (.cells (cellsO O0) 27 (0, 0))
    have hBl : ∀ k, v.ownBlock = some k → k < W3.heap.size := fun k hk => Nat.lt_of_lt_of_le (hB0.out k hk) hz
    go_upto_region 4 with ((with_reducible refine wpList_store_rowTo rfl 27 _ _ rfl rfl W3.heap.size (cellsO x) ?_ ?_ 27 (cellsO O0) ?_ ?_ ?_ ?_ ?_); rfl; rfl; exact hn; exact sizeObj; exact sz_cells _ _; exact one_cells _)
    refine wp_gen (fun W => BoxO W W3.heap.size x ∧ BoxO W w.heap.size x ∧ BytesIn W v l ∧ Below w.heap.size w W) ⟨hn.setRow _, (below_setRow (Below.refl _ _) (Nat.le_refl _) _ : Below W3.heap.size _ _).block _ hxz |>.trans hb, hB.below (below_setRow (Below.refl _ _) (Nat.le_refl _) _) hBl, below_setRow hlow hz _⟩ ?_
    clear hz hn hlow hB hBl hb
    rintro W4 ⟨hn, hb, hB, hlow⟩
    go_upto_region 8 with (first | ((with_reducible refine wpList_load_obj ?_ rfl ?_ hn ?_); rfl; rfl) | ((with_reducible refine wpList_load_obj ?_ rfl ?_ hb ?_); rfl; rfl) | (refine wpList_known (v := .bool false) rfl (neq_objs rfl (p := x) (q := x) rfl rfl (by simp)) ?_))
    clear hn hb HX HR hxz
    cases hq : allR rdObj l with
    | none =>
      have HQ := Lib.hid hq
      clear hq
      go_wp2_with fail
      refine (read_bad hB HQ.out).mono ?_
      rintro e V1 ⟨rfl, hb1⟩
      replace hlow := hlow.trans (hb1.mono hlow.size)
      clear hb1 hB
      have hn := BoxO.new V1 O0
      have hz := hlow.size
      replace hlow := hlow.alloc hz (.cells (cellsO O0) 27 (0, 0))
      go_upto_region 9 with ((with_reducible refine wpList_store_rowTo rfl 27 _ _ rfl rfl V1.heap.size (cellsO O0) ?_ ?_ 27 (cellsO O0) ?_ ?_ ?_ ?_ ?_); rfl; rfl; exact hn; exact sizeObj; exact sz_cells _ _; exact one_cells _)
      refine wp_gen (fun W => BoxO W V1.heap.size O0 ∧ Below w.heap.size w W) ⟨hn.setRow _, below_setRow hlow hz _⟩ ?_
      clear hz hn hlow
      rintro V2 ⟨hn, hlow⟩
      go_wp2_with fail
      refine (live_any _).mono ?_
      rintro e V3 ⟨rfl, hb1⟩
      replace hn := hn.after hb1
      replace hlow := hlow.trans (hb1.mono hlow.size)
      clear hb1
      go_wp2_with (first | ((with_reducible refine wpList_load_obj ?_ rfl ?_ hn ?_); rfl; rfl) | (refine wpList_known (v := .bool true) rfl (eql_objs rfl (p := O0) (q := O0) rfl rfl (by simp)) ?_))
      go_ret
      exact ⟨rfl, hlow⟩
    | some y =>
      have HY := Lib.hid (lawObj.all_only hq)
      have HQ := Lib.hid hq
      clear hq
      go_wp2_with fail
      refine (read_ok hB HQ.out).mono ?_
      rintro e V1 ⟨rfl, hb1⟩
      replace hB := hB.after hb1
      replace hlow := hlow.trans (hb1.mono hlow.size)
      clear hb1
      have hn := BoxO.new V1 O0
      have hz := hlow.size
      replace hlow := hlow.alloc hz (.cells (cellsO O0) 27 (0, 0))
      replace hB := (hB.alloc (.cells (cellsO O0) 27 (0, 0)))
      have hBl : ∀ k, v.ownBlock = some k → k < w.heap.size := hB0.out
      go_upto_region 9 with ((with_reducible refine wpList_store_rowTo rfl 27 _ _ rfl rfl V1.heap.size (cellsO y) ?_ ?_ 27 (cellsO O0) ?_ ?_ ?_ ?_ ?_); rfl; rfl; exact hn; exact sizeObj; exact sz_cells _ _; exact one_cells _)
      refine wp_gen (fun W => BoxO W V1.heap.size y ∧ BytesIn W v l ∧ Below w.heap.size w W) ⟨hn.setRow _, hB.below (below_setRow (Below.refl _ _) hz _) hBl, below_setRow hlow hz _⟩ ?_
      clear hz hn hlow hB hBl
      rintro V2 ⟨hn, hB, hlow⟩
      go_wp2_with ((with_reducible refine wpList_load_obj ?_ rfl ?_ hn ?_); rfl; rfl)
      refine (object_ok (fits_of_wf HY.out.1) HY.out.1.2 _).mono ?_
      rintro e V3 ⟨hb1, v5, rfl, hH⟩
      replace hB := hB.after hb1
      replace hlow := hlow.trans (hb1.mono hlow.size)
      have hB5 : BytesIn V3 v5 l := by rw [HY.out.2]; exact hH.bytes
      clear hb1 hH hn
      go_wp2_with fail
      refine (live_any _).mono ?_
      rintro e V4 ⟨rfl, hb1⟩
      have c1 := (hB.after hb1).str 9 Try.underlying9
      have c2 := (hB5.after hb1).str 9 Try.underlying9
      replace hlow := hlow.trans (hb1.mono hlow.size)
      clear hb1 hB hB5 HY HQ
      generalize (⟨l.toArray⟩ : ByteArray) = S at *
      go_wp2
      go_ret
      exact ⟨rfl, hlow⟩
end Go.Proofs.Ytacbfpgknfcimaa.C
