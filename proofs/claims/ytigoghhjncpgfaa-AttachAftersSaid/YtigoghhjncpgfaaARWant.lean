/- The document: where a volume is wanted. -/
import Derived.Test.YtigoghhjncpgfaaARIns
import Derived.Test.YtigoghhjncpgfaaKUniq
namespace Go.Proofs.Ytigoghhjncpgfaa.O.B
open Go Go.RowKit Go.Shelf Go.Lib KM
attribute [local go_sem] Oper.semAt_some

/-- Does a pod ask for a volume at its node? -/
def podP (l : List Obj) (vol : ByteArray) (p : Obj) : Bool := decide (p.kind = 6) && (boundB l vol p.claim && (!p.node.toList.isEmpty && !p.deleting))
def accW (l : List Obj) (vol : ByteArray) (m : List Obj) : List ByteArray := ((m.filter (podP l vol)).map Obj.node).foldl insB []
theorem accW_app (l : List Obj) (vol : ByteArray) (m : List Obj) (x : Obj) : accW l vol (m ++ [x]) = if podP l vol x = true then insB (accW l vol m) x.node else accW l vol m := by
  unfold accW
  rw [List.filter_append, List.map_append, List.foldl_append]
  cases h : podP l vol x <;> simp [h]
theorem accW_len (l : List Obj) (vol : ByteArray) (m : List Obj) : (accW l vol m).length ≤ m.length := by
  unfold accW
  rw [ris_fold]
  refine Nat.le_trans (risB_len _) ?_
  rw [List.length_map]
  exact List.length_filter_le _ _
theorem accW_all (l : List Obj) (vol : ByteArray) : accW l vol (uniqL l) = risB (nodesL l vol) := by
  unfold accW nodesL
  rw [ris_fold, there_uniq, List.filter_filter]
  congr 2
  refine List.filter_congr fun p _ => ?_
  unfold podP
  rw [Bool.and_comm]

set_option maxRecDepth 100000 in
set_option maxHeartbeats 4000000 in
theorem rwant_any (l : List Obj) (v : Value) (vol : ByteArray) (w : World) (hl : ObjsIn w v l) (hn : l.length < 90000) :
    Calls Try.prog 15 #[v, .string vol] w (HandsS (· = wantL l vol) w) := by
  have HU := Lib.hid (uniq_any l v w hl (by omega))
  have hnL : (uniqL l).length < 90000 := Nat.lt_of_le_of_lt (uniq_len l) hn
  obtain ⟨o, cp, rfl, -, -⟩ := id hl
  obtain ⟨T, hT⟩ : ∃ T, wantL l vol = T := ⟨_, rfl⟩
  rw [hT]
  have hga := accW_all l vol
  obtain ⟨r, hr⟩ : ∃ r, getL l 4 vol = r := ⟨_, rfl⟩
  unfold wantL at hT
  rw [hr, ← hga] at hT
  have hg0 := uniq_get l 4 vol
  have hg1 : ∀ n, getL (uniqL l) 3 n = getL l 3 n := fun n => uniq_get l 3 n
  rw [hr] at hg0
  obtain ⟨U, hU⟩ : ∃ U, uniqL l = U := ⟨_, rfl⟩
  rw [hU] at HU hnL hT hg0 hg1
  have HG0 := Lib.hid (fun (V : World) (s : Value) (hV : ObjsIn V s U) => rget_any U s 4 vol V hV)
  have HG1 := Lib.hid (fun (n : ByteArray) (V : World) (s : Value) (hV : ObjsIn V s U) => rget_any U s 3 n V hV)
  have HGE := Lib.hid hg1
  rw [hg0] at HG0
  have HN := Lib.hid hnL
  clear hl hn hr hg0 hg1 hU hga hnL
  go_enter Try.func15, Try.ntmps15
  go_wp2_with (fail)
  refine HU.out.mono ?_
  rintro e W1 ⟨lv, rfl, hl1, hb1⟩
  have HW1 := Lib.hid hb1
  obtain ⟨o1, c1, rfl, hm, -⟩ := id hl1
  have HL1 := Lib.hid hl1
  have HGV := Lib.hid (HG0.out W1 _ hl1)
  clear HU HG0 hb1 hl1
  go_wp2_with (fail)
  refine HGV.out.mono ?_
  rintro e W2 ⟨rfl, hb2⟩
  obtain ⟨X, sx, ox, lx, -⟩ := boxing W2 (r.getD O0)
  have hwx := hb2.trans (lx.mono hb2.size)
  have HW := Lib.hid (HW1.out.trans (hwx.mono HW1.out.size))
  have HL := Lib.hid (HL1.out.after hwx)
  clear HGV hb2 lx hwx HW1 HL1
  cases r with
  | none =>
    obtain rfl : [] = T := hT
    have c17 : X.cell? ⟨W2.heap.size, 17, none⟩ = some (.int .u8 0) := ox.c17
    clear ox
    go_wp2_with (refine wpList_skip rfl (sx rfl rfl rfl) ?_)
    go_ret
    exact ⟨[], _, rfl, rfl, TxtIn.empty _ _, HW.out⟩
  | some x =>
    have hT' : (if x.phase = 3 then accW l vol U else []) = T := hT
    have c17 : X.cell? ⟨W2.heap.size, 17, none⟩ = some (.int .u8 x.phase) := ox.c17
    clear ox hT
    by_cases hp : x.phase = 3
    · rw [if_pos hp] at hT'
      have HT := Lib.hid hT'
      have hk : (x.phase != 3) = false := by simp [hp]
      clear hT' hp
      have hm' : U.length ≤ 9223372036854775807 := by have := HN.out; omega
      go_upto_region 6 with (refine wpList_skip rfl (sx rfl rfl rfl) ?_)
      clear c17 hk sx
      go_wp2
      go_loopw [8, 9] (fun ov iv wr => ∃ (j : Nat) (sv : Value), iv = .int .i64 (j : Int) ∧ sv = ov ∧ j ≤ U.length ∧ TxtIn wr w.heap.size sv (accW l vol (U.take j)) ∧ Below X.heap.size X wr) (fun _ iv _ => U.length - (RowKit.intOf iv).toNat)
      case atStart => exact ⟨0, _, rfl, rfl, Nat.zero_le _, TxtIn.empty _ _, Below.refl _ _⟩
      case round =>
        obtain ⟨j, sv, rfl, rfl, hj, hout, hlow⟩ := hrel
        have HOUT := Lib.hid hout
        have HLOW := Lib.hid hlow
        have HACC : Hid ((accW l vol (U.take j)).length < 99990) := by
          have h1 := accW_len l vol (U.take j)
          have h2 := HN.out
          rw [List.length_take] at h1
          show _ < _
          omega
        clear hout hlow
        by_cases hlt : j < U.length
        · have hlt' : (j : Int) < (U.length : Int) := by omega
          obtain ⟨o', c', he, -, hi⟩ := HL.out.after HLOW.out
          cases he
          obtain ⟨g, off, rfl, -, hrow⟩ := hi j hlt
          obtain ⟨p, hpe⟩ : ∃ p, U[j] = p := ⟨_, rfl⟩
          rw [hpe] at hrow
          have htk : accW l vol (U.take (j + 1)) = if podP l vol p = true then insB (accW l vol (U.take j)) p.node else accW l vol (U.take j) := by
            rw [List.take_succ_eq_append_getElem hlt, hpe, accW_app]
          have HTK := Lib.hid htk
          obtain ⟨Y, sy, oy, ly, -⟩ := boxing wr p
          have hwy := HLOW.out.trans (ly.mono HLOW.out.size)
          have HY := Lib.hid hwy
          have HOY := Lib.hid (HOUT.out.after ly)
          have HBY := Lib.hid oy
          have c0 := oy.c0
          have c13 := oy.c13
          have c4 := oy.c4
          have c14 := oy.c14
          have HSTOP : Hid (podP l vol p = false → ∃ (j_1 : Nat) (sv_1 : Value), (.int .i64 ((j : Int) + 1) : Value) = .int .i64 (j_1 : Int) ∧ sv_1 = sv ∧ j_1 ≤ U.length ∧ TxtIn Y w.heap.size sv_1 (accW l vol (U.take j_1)) ∧ Below X.heap.size X Y) := fun hf => ⟨j + 1, sv, by go_num, rfl, by omega, by rw [htk, hf]; exact HOY.out, hwy⟩
          have HPD : Hid (podP l vol p = (decide (p.kind = 6) && (boundB l vol p.claim && (!p.node.toList.isEmpty && !p.deleting)))) := rfl
          clear hi hpe ly hwy oy htk
          by_cases h0 : p.kind = 6
          · have h0' : (p.kind != 6) = false := by simp [h0]
            cases h1 : p.node.toList.isEmpty with
            | true =>
              have h1' : (p.node.toList == []) = true := by simpa using h1
              have h1s : p.node.toList = [] := by simpa using h1
              have HF : Hid (podP l vol p = false) := by show _ = _; rw [HPD.out, h1]; simp
              go_wp2_with (first | (refine wpList_got (v := encO p) rfl (load_mid hrow rfl rfl) ?_) | (refine wpList_skip rfl (sy rfl rfl rfl) ?_))
              go_roundw
              case rel => exact HSTOP.out HF.out
              case measure => simp [RowKit.intOf]; omega
            | false =>
              have h1' : (p.node.toList == []) = false := by simpa using h1
              have h1s : ¬ p.node.toList = [] := by simpa using h1
              cases h2 : p.deleting with
              | true =>
                have HF : Hid (podP l vol p = false) := by show _ = _; rw [HPD.out, h2]; simp
                rw [h2] at c4
                go_wp2_with (first | (refine wpList_got (v := encO p) rfl (load_mid hrow rfl rfl) ?_) | (refine wpList_skip rfl (sy rfl rfl rfl) ?_))
                go_roundw
                case rel => exact HSTOP.out HF.out
                case measure => simp [RowKit.intOf]; omega
              | false =>
                rw [h2] at c4
                have HPB : Hid (podP l vol p = boundB l vol p.claim) := by show _ = _; rw [HPD.out, h0, h1, h2]; simp
                obtain ⟨rc, hrc⟩ : ∃ rc, getL l 3 p.claim = rc := ⟨_, rfl⟩
                have hcon := HG1.out p.claim Y _ (HL.out.after HY.out)
                rw [HGE.out, hrc] at hcon
                have HCON := Lib.hid hcon
                have HRC := Lib.hid hrc
                clear hcon hrc HPD
                go_wp2_with (first | (refine wpList_got (v := encO p) rfl (load_mid hrow rfl rfl) ?_) | (refine wpList_skip rfl (sy rfl rfl rfl) ?_))
                refine HCON.out.mono ?_
                rintro e W3 ⟨rfl, hb3⟩
                obtain ⟨Z, sz, oz, lz, -⟩ := boxing W3 (rc.getD O0)
                have hyz := hb3.trans (lz.mono hb3.size)
                have HZ := Lib.hid (HY.out.trans (hyz.mono HY.out.size))
                have HOZ := Lib.hid (HOY.out.after hyz)
                have b13 := (HBY.out.after hyz).c13
                clear HCON hb3 lz hyz HOY HSTOP c0 c13 c4 c14 HBY hrow sy
                cases rc with
                | none =>
                  have HF : Hid (podP l vol p = false) := by show _ = _; rw [HPB.out]; unfold boundB; rw [HRC.out]; rfl
                  have z17 : Z.cell? ⟨W3.heap.size, 17, none⟩ = some (.int .u8 0) := oz.c17
                  clear oz
                  go_wp2_with (first | (refine wpList_skip rfl (sz rfl rfl rfl) ?_))
                  go_roundw
                  case rel => exact ⟨j + 1, sv, by go_num, rfl, by omega, by rw [HTK.out, HF.out]; exact HOZ.out, HZ.out⟩
                  case measure => simp [RowKit.intOf]; omega
                | some c =>
                  have z17 : Z.cell? ⟨W3.heap.size, 17, none⟩ = some (.int .u8 c.phase) := oz.c17
                  have z15 : Z.cell? ⟨W3.heap.size, 15, none⟩ = some (.string c.volume) := oz.c15
                  have HPC : Hid (podP l vol p = (decide (c.phase = 3) && decide (c.volume = vol))) := by show _ = _; rw [HPB.out]; unfold boundB; rw [HRC.out]; rfl
                  clear oz
                  by_cases h3 : c.phase = 3
                  · by_cases h4 : c.volume = vol
                    · have h4' := list_eq h4
                      have HF : Hid (podP l vol p = true) := by show _ = _; rw [HPC.out]; simp [h3, h4]
                      have HI := Lib.hid (insert_any (accW l vol (U.take j)) sv p.node w.heap.size Z HOZ.out HACC.out)
                      clear h4
                      go_wp2_with (first | (refine wpList_skip rfl (sz rfl rfl rfl) ?_))
                      refine HI.out.mono ?_
                      rintro e W4 ⟨v4, rfl, h5, hb4⟩
                      have hww : w.heap.size ≤ Z.heap.size := Nat.le_trans HW.out.size HZ.out.size
                      have HO4 := Lib.hid (txt_low h5 hww)
                      have HW4 := Lib.hid (HZ.out.trans (hb4.mono HZ.out.size))
                      clear h5 hb4 HI
                      go_wp2
                      go_roundw
                      case rel => exact ⟨j + 1, v4, by go_num, rfl, by omega, by rw [HTK.out, HF.out]; exact HO4.out, HW4.out⟩
                      case measure => simp [RowKit.intOf]; omega
                    · have h4' := list_ne h4
                      have HF : Hid (podP l vol p = false) := by show _ = _; rw [HPC.out]; simp [h4]
                      clear h4
                      go_wp2_with (first | (refine wpList_skip rfl (sz rfl rfl rfl) ?_))
                      go_roundw
                      case rel => exact ⟨j + 1, sv, by go_num, rfl, by omega, by rw [HTK.out, HF.out]; exact HOZ.out, HZ.out⟩
                      case measure => simp [RowKit.intOf]; omega
                  · have HF : Hid (podP l vol p = false) := by show _ = _; rw [HPC.out]; simp [h3]
                    go_wp2_with (first | (refine wpList_skip rfl (sz rfl rfl rfl) ?_))
                    go_roundw
                    case rel => exact ⟨j + 1, sv, by go_num, rfl, by omega, by rw [HTK.out, HF.out]; exact HOZ.out, HZ.out⟩
                    case measure => simp [RowKit.intOf]; omega
          · have h0' : (p.kind != 6) = true := by simpa using h0
            have HF : Hid (podP l vol p = false) := by show _ = _; rw [HPD.out]; simp [h0]
            go_wp2_with (first | (refine wpList_got (v := encO p) rfl (load_mid hrow rfl rfl) ?_) | (refine wpList_skip rfl (sy rfl rfl rfl) ?_))
            go_roundw
            case rel => exact HSTOP.out HF.out
            case measure => simp [RowKit.intOf]; omega
        · have hlt' : ¬ (j : Int) < (U.length : Int) := by omega
          have hE : U.take j = U := List.take_of_length_le (by omega)
          rw [hE] at HOUT
          have HX := Lib.hid (HW.out.trans (HLOW.out.mono HW.out.size))
          clear hE
          go_wp2
          go_ret
          exact ⟨_, _, HT.out, rfl, HOUT.out, HX.out⟩
    · rw [if_neg hp] at hT'
      subst hT'
      have hk : (x.phase != 3) = true := by simpa using hp
      clear hp
      go_wp2_with (refine wpList_skip rfl (sx rfl rfl rfl) ?_)
      go_ret
      exact ⟨[], _, rfl, rfl, TxtIn.empty _ _, HW.out⟩
end Go.Proofs.Ytigoghhjncpgfaa.O.B
