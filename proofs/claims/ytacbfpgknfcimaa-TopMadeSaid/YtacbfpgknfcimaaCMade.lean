/- The law TopMade: its walk. -/
import Derived.Test.YtacbfpgknfcimaaCCalls
import Derived.Test.YtacbfpgknfcimaaCEvs
import Derived.Test.YtacbfpgknfcimaaODefault
namespace Go.Proofs.Ytacbfpgknfcimaa.C
open Go.RowKit T O
open Go.Lib hiding intOf

/-- What is made; what it is by default. -/
def mkO (n c : ByteArray) (s : Int) : O.Obj := ⟨3, n, 0, 0, false, false, c, s, 0, 0, false, false, E0, E0, E0, E0, E0, 0, 0, 0⟩
def mdO (n c : ByteArray) (s : Int) : O.Obj := ⟨3, n, 0, 0, false, true, c, s, 0, 1, false, false, E0, E0, E0, E0, E0, 1, 0, 0⟩
theorem kd_mk (n c : ByteArray) (s : Int) : (mkO n c s).kind = 3 := rfl
theorem kd_md (n c : ByteArray) (s : Int) : (mdO n c s).kind = 3 := rfl
theorem def_mk (n c : ByteArray) (s : Int) : defO (mkO n c s) = mdO n c s := by unfold defO; rw [if_pos (kd_mk n c s)]; rfl
def goodB (n c : ByteArray) (s : Int) : Bool := nameB n.data.toList && (nameB c.data.toList && (decide (0 < s) && decide (s ≤ 1125899906842624)))
theorem ok_name (c : ByteArray) : (okT c && !emp c) = nameB c.data.toList := by
  unfold okT emp
  cases h : decide (c.data.toList = []) with
  | true =>
    have h := of_decide_eq_true h
    rw [h]
    decide
  | false => simp
theorem right_mk (n c : ByteArray) (s : Int) : rightB (mdO n c s) = goodB n c s := by
  have hb : decide (mdO n c s = bareO (mdO n c s)) = true := by
    unfold bareO
    rw [if_neg (by rw [kd_md]; decide), if_neg (by rw [kd_md]; decide), if_pos (kd_md n c s)]
    simp [mdO]
  have ht : textsB (mdO n c s) = okT c := by
    unfold textsB
    show (okT c && (okT E0 && (okT E0 && (okT E0 && (okT E0 && okT E0))))) = okT c
    rw [show okT E0 = true by decide]
    simp
  have hk : kindB (mdO n c s) = (!emp c && decide (s ≠ 0)) := by
    unfold kindB
    rw [if_neg (by rw [kd_md]; decide), if_neg (by rw [kd_md]; decide), if_pos (kd_md n c s)]
    unfold claimB
    show (!emp c && (decide (s ≠ 0) && (modeB 1 && (ph3 1 1 2 3 && ((!emp E0) == decide ((1 : Int) = 3)))))) = _
    rw [show modeB 1 = true by decide, show ph3 1 1 2 3 = true by decide, show ((!emp E0) == decide ((1 : Int) = 3)) = true by decide]
    simp
  unfold rightB goodB
  rw [hb, ht, hk, ← ok_name c]
  show (nameB n.data.toList && (true && (okT c && (inR s && (inR 0 && (!emp c && decide (s ≠ 0))))))) = _
  unfold inR
  rw [Bool.eq_iff_iff]
  simp only [Bool.and_eq_true, decide_eq_true_eq, Bool.true_and]
  constructor
  · rintro ⟨h1, h2, ⟨h3, h4⟩, -, h5, h6⟩
    exact ⟨h1, ⟨h2, h5⟩, by omega, h4⟩
  · rintro ⟨h1, ⟨h2, h5⟩, h3, h4⟩
    exact ⟨h1, h2, ⟨by omega, h4⟩, by decide, h5, by omega⟩
theorem user_mk (n c : ByteArray) (s : Int) : userB (mdO n c s) = goodB n c s := by
  unfold userB
  rw [right_mk]
  have h : (untouchedB (mdO n c s) && userK (mdO n c s)) = true := by
    have h1 : untouchedB (mdO n c s) = true := by unfold untouchedB mdO; simp
    have h2 : userK (mdO n c s) = true := by
      unfold userK
      rw [if_neg (by rw [kd_md]; decide), if_neg (by rw [kd_md]; decide), if_pos (kd_md n c s)]
      show (decide ((1 : Int) = 1) && ((emp E0 && (emp E0 && emp E0)) && decide ((0 : Int) = 0))) = true
      decide
    rw [h1, h2]; rfl
  rw [h, Bool.and_true]
theorem zero_u64 : U64 0 := ⟨by decide, by decide⟩
theorem fits_mk {n c : ByteArray} (hn : n.size ≤ 140737488351232) (hc : c.size ≤ 140737488351232) (s : Int) : Fits (mdO n c s) := by
  have e : ∀ {n : Nat}, n ≤ 140737488351232 → n ≤ maxLen := fun h => Nat.le_trans h (by decide)
  refine ⟨e hn, e hc, ?_, ?_, ?_, ?_, ?_, ?_, ?_, ?_, ?_⟩
  · show (0 : Nat) ≤ _; exact Nat.zero_le _
  · show (0 : Nat) ≤ _; exact Nat.zero_le _
  · show (0 : Nat) ≤ _; exact Nat.zero_le _
  · show (0 : Nat) ≤ _; exact Nat.zero_le _
  · show (0 : Nat) ≤ _; exact Nat.zero_le _
  all_goals exact zero_u64
theorem built_mk (n c : ByteArray) (s : Int) : Try.prog.built 27 [(0, .int .u8 3), (1, .string n), (6, .string c), (7, .int .i64 s)] = some (cellsO (mkO n c s)) := by kernel_rfl

set_option maxRecDepth 100000 in
set_option maxHeartbeats 8000000 in
theorem topMade_any (n c : ByteArray) (s : Int) (hn : n.size ≤ 140737488351232) (hc : c.size ≤ 140737488351232) (w : World) :
    Calls Try.prog 10 #[.string n, .string c, .int .i64 s] w fun e w' => e = .returned (.bool true) ∧ Below w.heap.size w w' := by
  have HF := Lib.hid (fits_mk hn hc s)
  clear hn hc
  go_enter Try.func10, Try.ntmps10
  go_wp2_with ((with_reducible refine wpList_build_to rfl 27 _ rfl (cellsO (mkO n c s)) ?_ ?_); exact built_mk n c s)
  refine (default_any (mkO n c s) _ ⟨Nat.zero_le _, Nat.zero_le _⟩).mono ?_
  rintro e W1 ⟨rfl, hb1⟩
  rw [def_mk]
  have hn := BoxO.new W1 O0
  have hz := hb1.size
  have hlow := hb1.alloc hz (.cells (cellsO O0) 27 (0, 0))
  clear hb1
  go_upto_region 2 with ((with_reducible refine wpList_store_rowTo rfl 27 _ _ rfl rfl W1.heap.size (cellsO (mdO n c s)) ?_ ?_ 27 (cellsO O0) ?_ ?_ ?_ ?_ ?_); rfl; rfl; exact hn; exact sizeObj; exact sz_cells _ _; exact one_cells _)
  refine wp_gen (fun W => BoxO W W1.heap.size (mdO n c s) ∧ Below w.heap.size w W) ⟨hn.setRow _, below_setRow hlow hz _⟩ ?_
  clear hn hlow
  rintro W2 ⟨hb, hlow⟩
  cases hg : goodB n c s with
  | false =>
    have HR := Lib.hid ((right_mk n c s).trans hg)
    have HU := Lib.hid ((user_mk n c s).trans hg)
    have HG := Lib.hid hg
    clear hg
    go_wp2_with ((with_reducible refine wpList_load_obj ?_ rfl ?_ hb ?_); rfl; rfl)
    refine (object_bad HF.out HR.out _).mono ?_
    rintro e W3 ⟨hb1, v, rfl, hv⟩
    have hv := hv.bytes
    replace hb := hb.after hb1
    replace hlow := hlow.trans (hb1.mono hlow.size)
    clear hb1
    go_wp2_with fail
    refine (name_any n _).mono ?_
    rintro e W4 ⟨rfl, hb1⟩
    replace hv := hv.after hb1
    replace hb := hb.after hb1
    replace hlow := hlow.trans (hb1.mono hlow.size)
    clear hb1
    cases h1 : nameB n.data.toList with
    | false =>
      clear HG h1
      go_upto_region 4 with (fail)
      go_wp2_with ((with_reducible refine wpList_load_obj ?_ rfl ?_ hb ?_); rfl; rfl)
      refine (user_any (mdO n c s) _).mono ?_
      rintro e W8 ⟨rfl, hb1⟩
      rw [HU.out]
      have hl := (hv.after hb1).len
      have c5 : W8.cell? ⟨W1.heap.size, 5, none⟩ = some (.bool true) := (hb.after hb1).c5
      replace hlow := hlow.trans (hb1.mono hlow.size)
      clear hb1 hb hv
      go_wp2
      go_ret
      exact ⟨rfl, hlow⟩
    | true =>
      have HG1 : Hid ((nameB c.data.toList && (decide (0 < s) && decide (s ≤ 1125899906842624))) = false) := by
        have := HG.out
        unfold goodB at this
        rwa [h1, Bool.true_and] at this
      clear HG h1
      go_wp2_with fail
      refine (name_any c _).mono ?_
      rintro e W5 ⟨rfl, hb1⟩
      replace hv := hv.after hb1
      replace hb := hb.after hb1
      replace hlow := hlow.trans (hb1.mono hlow.size)
      clear hb1
      cases h2 : nameB c.data.toList with
      | false =>
        clear HG1 h2
        go_upto_region 4 with (fail)
        go_wp2_with ((with_reducible refine wpList_load_obj ?_ rfl ?_ hb ?_); rfl; rfl)
        refine (user_any (mdO n c s) _).mono ?_
        rintro e W8 ⟨rfl, hb1⟩
        rw [HU.out]
        have hl := (hv.after hb1).len
        have c5 : W8.cell? ⟨W1.heap.size, 5, none⟩ = some (.bool true) := (hb.after hb1).c5
        replace hlow := hlow.trans (hb1.mono hlow.size)
        clear hb1 hb hv
        go_wp2
        go_ret
        exact ⟨rfl, hlow⟩
      | true =>
        have HG2 : Hid ((decide (0 < s) && decide (s ≤ 1125899906842624)) = false) := by
          have := HG1.out
          rwa [h2, Bool.true_and] at this
        clear HG1 h2
        by_cases h3 : 0 < s
        · have h4 : ¬ s ≤ 1125899906842624 := fun h => by have := HG2.out; simp [h3, h] at this
          have h4b : decide (s ≤ 1125899906842624) = false := decide_eq_false h4
          have h4c : 1125899906842624 < s := by omega
          clear HG2
          go_upto_region 4 with (fail)
          go_wp2_with ((with_reducible refine wpList_load_obj ?_ rfl ?_ hb ?_); rfl; rfl)
          refine (user_any (mdO n c s) _).mono ?_
          rintro e W8 ⟨rfl, hb1⟩
          rw [HU.out]
          have hl := (hv.after hb1).len
          have c5 : W8.cell? ⟨W1.heap.size, 5, none⟩ = some (.bool true) := (hb.after hb1).c5
          replace hlow := hlow.trans (hb1.mono hlow.size)
          clear hb1 hb hv
          go_wp2
          go_ret
          exact ⟨rfl, hlow⟩
        · clear HG2
          go_upto_region 4 with (fail)
          go_wp2_with ((with_reducible refine wpList_load_obj ?_ rfl ?_ hb ?_); rfl; rfl)
          refine (user_any (mdO n c s) _).mono ?_
          rintro e W8 ⟨rfl, hb1⟩
          rw [HU.out]
          have hl := (hv.after hb1).len
          have c5 : W8.cell? ⟨W1.heap.size, 5, none⟩ = some (.bool true) := (hb.after hb1).c5
          replace hlow := hlow.trans (hb1.mono hlow.size)
          clear hb1 hb hv
          go_wp2
          go_ret
          exact ⟨rfl, hlow⟩
  | true =>
    have HR := Lib.hid ((right_mk n c s).trans hg)
    have HU := Lib.hid ((user_mk n c s).trans hg)
    have hgg := hg
    unfold goodB at hgg
    simp only [Bool.and_eq_true, decide_eq_true_eq] at hgg
    obtain ⟨h1, h2, h3, h4⟩ := hgg
    have H1 := Lib.hid h1
    have H2 := Lib.hid h2
    have HX := Lib.hid (lawObj.all_back (wf_fits HF.out HR.out))
    clear hg h1 h2
    go_wp2_with ((with_reducible refine wpList_load_obj ?_ rfl ?_ hb ?_); rfl; rfl)
    refine (object_ok HF.out HR.out _).mono ?_
    rintro e W3 ⟨hb1, v, rfl, hv⟩
    have hv := hv.bytes
    replace hb := hb.after hb1
    replace hlow := hlow.trans (hb1.mono hlow.size)
    clear hb1
    go_wp2_with fail
    refine (name_any n _).mono ?_
    rintro e W4 ⟨rfl, hb1⟩
    rw [H1.out]
    replace hv := hv.after hb1
    replace hb := hb.after hb1
    replace hlow := hlow.trans (hb1.mono hlow.size)
    clear hb1
    go_wp2_with fail
    refine (name_any c _).mono ?_
    rintro e W5 ⟨rfl, hb1⟩
    rw [H2.out]
    replace hv := hv.after hb1
    replace hb := hb.after hb1
    replace hlow := hlow.trans (hb1.mono hlow.size)
    clear hb1
    go_upto_region 4 with (fail)
    clear h3 h4
    go_wp2_with fail
    refine (read_ok hv HX.out).mono ?_
    rintro e W6 ⟨rfl, hb1⟩
    have hxz := (hb.after hb1).lt
    replace hb := (hb.after hb1).alloc (.cells (cellsO O0) 27 (0, 0))
    replace hlow := hlow.trans (hb1.mono hlow.size)
    clear hb1 hv
    have hn := BoxO.new W6 O0
    have hz := hlow.size
    replace hlow := hlow.alloc hz (.cells (cellsO O0) 27 (0, 0))
    go_upto_region 7 with ((with_reducible refine wpList_store_rowTo rfl 27 _ _ rfl rfl W6.heap.size (cellsO (mdO n c s)) ?_ ?_ 27 (cellsO O0) ?_ ?_ ?_ ?_ ?_); rfl; rfl; exact hn; exact sizeObj; exact sz_cells _ _; exact one_cells _)
    refine wp_gen (fun W => BoxO W W6.heap.size (mdO n c s) ∧ BoxO W W1.heap.size (mdO n c s) ∧ Below w.heap.size w W) ⟨hn.setRow _, (below_setRow (Below.refl _ _) (Nat.le_refl _) _ : Below W6.heap.size _ _).block _ hxz |>.trans hb, below_setRow hlow hz _⟩ ?_
    clear hz hn hlow hb hxz
    rintro W7 ⟨hn, hb, hlow⟩
    go_wp2_with (first | ((with_reducible refine wpList_load_obj ?_ rfl ?_ hn ?_); rfl; rfl) | ((with_reducible refine wpList_load_obj ?_ rfl ?_ hb ?_); rfl; rfl) | (refine wpList_known (v := .bool true) rfl (eql_objs rfl (p := mdO n c s) (q := mdO n c s) rfl rfl (by simp)) ?_))
    refine (user_any (mdO n c s) _).mono ?_
    rintro e W8 ⟨rfl, hb1⟩
    rw [HU.out]
    replace hn := hn.after hb1
    replace hlow := hlow.trans (hb1.mono hlow.size)
    clear hb1 hb
    go_wp2_with ((with_reducible refine wpList_load_obj ?_ rfl ?_ hn ?_); rfl; rfl)
    refine (right_any (mdO n c s) _).mono ?_
    rintro e W9 ⟨rfl, hb1⟩
    rw [HR.out]
    replace hlow := hlow.trans (hb1.mono hlow.size)
    clear hb1 hn
    go_wp2
    go_ret
    exact ⟨rfl, hlow⟩
end Go.Proofs.Ytacbfpgknfcimaa.C
