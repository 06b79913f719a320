/- The volume of nobody that a claim takes, as the document says it. -/
import Derived.Test.YtfpdchabknoklaaDoorBFits0
import Derived.Test.YtfpdchabknoklaaDoorKUniq
import Derived.Test.YtfpdchabknoklaaDoorKUniqT
namespace Go.Proofs.YtfpdchabknoklaaDoor.O.B
open Go Go.RowKit Go.Shelf Go.Lib RangeMap KM
attribute [local go_sem] Oper.semAt_some

/-- Whether one would do; the better one of two. -/
def fitK (c : Obj) (pl : Bool) (nd v : Obj) : Bool := decide (v.kind = 4) && fitB c pl nd v
theorem fold_kind (f : Obj → Bool) (g : Obj → Obj → Bool) : ∀ (L : List Obj) (acc : Option Obj), L.foldl (stepL (fun v => decide (v.kind = 4) && f v) g) acc = (L.filter fun o => decide (o.kind = 4)).foldl (stepL f g) acc
  | [], acc => rfl
  | o :: L, acc => by
    rw [List.foldl_cons, fold_kind f g L]
    by_cases h : o.kind = 4
    · rw [List.filter_cons_of_pos (by simp [h]), List.foldl_cons]
      congr 1
      unfold stepL
      simp [h]
    · rw [List.filter_cons_of_neg (by simp [h])]
      congr 1
      unfold stepL
      simp [h]
/-- The document's way, over all that is there, is the program's. -/
theorem best_uniq (l : List Obj) (c : Obj) : leastL (fitK c ((getL l 2 c.node).isSome && !decide (c.node = E0)) ((getL l 2 c.node).getD O0)) gotB (uniqL l) = bestN l c := by
  unfold bestN leastL
  rw [there_uniq]
  have h := fold_kind (fitB c ((getL l 2 c.node).isSome && !decide (c.node = E0)) ((getL l 2 c.node).getD O0)) gotB (uniqL l) none
  refine Eq.trans h ?_
  by_cases hn : c.node = E0
  · have h1 : nodeN l c = none := by unfold nodeN; rw [if_pos hn]
    have h2 : ∀ v nd, fitB c ((getL l 2 c.node).isSome && !decide (c.node = E0)) nd v = fitB c false O0 v := fun v nd => by
      rw [decide_eq_true hn]
      unfold fitB
      simp
    rw [h1]
    congr 1
    congr 1
    funext v
    exact h2 v _
  · have h1 : nodeN l c = getL l 2 c.node := by unfold nodeN; rw [if_neg hn]
    rw [h1, decide_eq_false hn]
    simp
theorem least_take (f : Obj → Bool) {L : List Obj} {j : Nat} (h : j < L.length) : leastL f gotB (L.take (j + 1)) = stepL f gotB (leastL f gotB (L.take j)) L[j] := by
  rw [List.take_succ_eq_append_getElem h, least_snoc]
theorem step_no {f : Obj → Bool} {g : Obj → Obj → Bool} {b : Option Obj} {x : Obj} (h : f x = false) : stepL f g b x = b := by
  unfold stepL
  rw [h]
  rfl
theorem step_new {f : Obj → Bool} {g : Obj → Obj → Bool} {x : Obj} (h : f x = true) : stepL f g none x = some x := by
  unfold stepL
  rw [h]
  rfl
theorem step_less {f : Obj → Bool} {g : Obj → Obj → Bool} {a x : Obj} (h : f x = true) (hg : g x a = true) : stepL f g (some a) x = some x := by
  unfold stepL
  rw [h]
  simp [hg]
theorem step_more {f : Obj → Bool} {g : Obj → Obj → Bool} {a x : Obj} (h : f x = true) (hg : g x a = false) : stepL f g (some a) x = some a := by
  unfold stepL
  rw [h]
  simp [hg]
theorem got_lt {a b : Obj} (h : a.got < b.got) : gotB a b = true := by unfold gotB; rw [if_pos h]
theorem got_gt {a b : Obj} (h : b.got < a.got) : gotB a b = false := by unfold gotB; rw [if_neg (by omega), if_pos h]
theorem got_eq {a b : Obj} (h : a.got = b.got) : gotB a b = Op.bytesLess a.name.toList b.name.toList := by unfold gotB; rw [if_neg (by omega), if_neg (by omega)]

set_option maxRecDepth 100000 in
set_option maxHeartbeats 8000000 in
theorem rbest_any (l : List Obj) (v : Value) (c : Obj) (w : World) (hl : ObjsIn w v l) (hn : l.length < 100000) :
    Calls Tryd.prog 68 #[v, encO c] w fun e w' => e = .returned (.tuple #[encO ((bestN l c).getD O0), .bool (bestN l c).isSome]) ∧ Below w.heap.size w w' := by
  have HU := Lib.hid (fun V (hV : ObjsIn V v l) => uniq_any l v V hV hn)
  obtain ⟨o, cp, rfl, -, -⟩ := id hl
  have HL0 := Lib.hid hl
  have hbu := best_uniq l c
  have hul := uniq_get l 2 c.node
  obtain ⟨R, hR⟩ : ∃ R, bestN l c = R := ⟨_, rfl⟩
  rw [hR] at hbu ⊢
  clear hl hR
  obtain ⟨nd, hnd⟩ : ∃ nd, getL l 2 c.node = nd := ⟨_, rfl⟩
  rw [hnd] at hbu hul
  generalize uniqL l = L at *
  obtain ⟨pl, hpl⟩ : ∃ pl, (nd.isSome && !decide (c.node = E0)) = pl := ⟨_, rfl⟩
  rw [hpl] at hbu
  obtain ⟨ndo, hndo⟩ : ∃ ndo, nd.getD O0 = ndo := ⟨_, rfl⟩
  rw [hndo] at hbu
  have HGN := Lib.hid (fun (V : World) (s : Value) (hV : ObjsIn V s L) => rget_any L s 2 c.node V hV)
  rw [hul, hndo] at HGN
  obtain ⟨is0, his0⟩ : ∃ is0, nd.isSome = is0 := ⟨_, rfl⟩
  rw [his0] at HGN hpl
  have HPL := Lib.hid hpl
  have HBU := Lib.hid hbu
  clear hbu hul hnd hpl hndo his0 hn
  unfold encO
  go_enter Tryd.func68, Tryd.ntmps68
  go_upto_region 1 with (fail)
  refine wp_gen (fun V => BoxO V w.heap.size c ∧ BoxO V (w.heap.size + 1) O0 ∧ Below w.heap.size w V) (chain2 w _ _) ?_
  rintro V0 ⟨hc0, ho0, hlw0⟩
  have HC0 := Lib.hid hc0
  have HO0 := Lib.hid ho0
  have HW0 := Lib.hid hlw0
  have HUV := Lib.hid (HU.out V0 (HL0.out.after hlw0))
  clear hc0 ho0 hlw0 HU HL0
  go_wp2_with (fail)
  refine HUV.out.mono ?_
  rintro e W1 ⟨lv, rfl, hl1, hb1⟩
  have HC1 := Lib.hid (HC0.out.after hb1)
  have HO1 := Lib.hid (HO0.out.after hb1)
  have HW1 := Lib.hid (HW0.out.trans (hb1.mono HW0.out.size))
  obtain ⟨o1, c1, rfl, hm, -⟩ := id hl1
  have HL := Lib.hid hl1
  have HGV := Lib.hid (HGN.out W1 _ hl1)
  have c13' := HC1.out.c13
  clear HUV HC0 HO0 HW0 hb1 hl1 HGN
  go_wp2_with (fail)
  refine HGV.out.mono ?_
  rintro e W2 ⟨rfl, hb2⟩
  clear c13'
  obtain ⟨X, sx, ox, lx, -⟩ := boxing W2 ndo
  have hwx := hb2.trans (lx.mono hb2.size)
  have HCX := Lib.hid (HC1.out.after hwx)
  have HOX := Lib.hid (HO1.out.after hwx)
  have HNX := Lib.hid ox
  have HWX := Lib.hid (HW1.out.trans (hwx.mono HW1.out.size))
  have HLX := Lib.hid (HL.out.after hwx)
  have c13 := HCX.out.c13
  clear HGV hb2 ox lx hwx HC1 HO1 HW1 HL
  cases is0 with
  | false =>
    have hp : pl = false := HPL.out.symm
    subst hp
    clear HPL
    go_upto_region 5 with (refine wpList_skip rfl (sx rfl rfl rfl) ?_)
    refine wp_gen (fun V => BoxO V X.heap.size O0 ∧ Below X.heap.size X V) ⟨heap_alloc_new _ _, (Below.refl _ _).alloc (Nat.le_refl _) _⟩ ?_
    rintro Y ⟨hb0, hly⟩
    have HB0 := Lib.hid hb0
    have HLY := Lib.hid hly
    clear hb0 hly sx c13
    go_wp2_with (fail)
    go_loopw [10, 11] (fun fv iv wr => ∃ (j : Nat) (best : Option Obj) (fd : Bool), fv = .bool fd ∧ iv = .int .i64 (j : Int) ∧ j ≤ L.length ∧ Hid (best.isSome = fd) ∧ Hid (leastL (fitK c false ndo) gotB (L.take j) = best) ∧ BoxO wr X.heap.size (best.getD O0) ∧ Below X.heap.size X wr) (fun _ iv _ => L.length - (RowKit.intOf iv).toNat)
    case atStart => exact ⟨0, none, false, rfl, rfl, Nat.zero_le _, rfl, rfl, HB0.out, HLY.out⟩
    case round =>
      obtain ⟨j, best, fd, rfl, rfl, hj, HFD, HBT, hbb, hlow⟩ := hrel
      have HLOW := Lib.hid hlow
      have HBB := Lib.hid hbb
      clear hlow hbb HB0 HLY
      by_cases hlt : j < L.length
      · have hlt' : (j : Int) < (L.length : Int) := by omega
        have hobj := HLX.out.after HLOW.out
        obtain ⟨o', c', he, -, hi⟩ := id hobj
        cases he
        obtain ⟨g, off, rfl, -, hrow⟩ := hi j hlt
        obtain ⟨x, hx⟩ : ∃ x, L[j] = x := ⟨_, rfl⟩
        rw [hx] at hrow
        have HROW := Lib.hid hrow
        have htk := least_take (fitK c false ndo) hlt
        rw [hx, HBT.out] at htk
        have HTK := Lib.hid htk
        obtain ⟨Z, sz, oz, lz, -⟩ := boxing _ x
        have HWZ := Lib.hid (HLOW.out.trans (lz.mono HLOW.out.size))
        have HOZ := Lib.hid oz
        have HBZ := Lib.hid (HBB.out.after lz)
        clear hi hx hrow hobj htk HLOW HBB lz oz HBT
        go_upto_region 10 with (first | (refine wpList_got rfl (load_mid HROW.out rfl rfl) ?_) | (refine wpList_skip rfl (sz rfl rfl rfl) ?_))
        have x0 := HOZ.out.c0
        have x17 := HOZ.out.c17
        have x4 := HOZ.out.c4
        have x6 := HOZ.out.c6
        have x9 := HOZ.out.c9
        have x8 := HOZ.out.c8
        have x12 := HOZ.out.c12
        have x1 := HOZ.out.c1
        have hcz := HCX.out.after HWZ.out
        have d6 := hcz.c6
        have d9 := hcz.c9
        have d7 := hcz.c7
        have n12 := (HNX.out.after HWZ.out).c12
        have b8 := HBZ.out.c8
        have b1 := HBZ.out.c1
        clear sz HROW hcz
        cases e1 : (x.kind == 4) with
        | false =>
          have e1n : (x.kind != 4) = true := by simpa using e1
          have e1d : decide (x.kind = 4) = false := e1
          have HF : Hid (fitK c false ndo x = false) := by show _ = _; unfold fitK fitB; rw [e1d]; rfl
          have HT2 : Hid (leastL (fitK c false ndo) gotB (L.take (j + 1)) = best) := by show _ = _; rw [HTK.out, step_no HF.out]
          clear HF HTK
          go_wp2
          go_roundw
          case rel => exact ⟨j + 1, best, fd, rfl, by go_num, by omega, HFD, HT2, HBZ.out, HWZ.out⟩
          case measure => simp [RowKit.intOf]; omega
        | true =>
          have e1n : (x.kind != 4) = false := by simpa using e1
          cases e2 : (x.phase == 4) with
          | false =>
            have e2n : (x.phase != 4) = true := by simpa using e2
            have HF : Hid (fitK c false ndo x = false) := by show _ = _; unfold fitK fitB; simp [e2]
            have HT2 : Hid (leastL (fitK c false ndo) gotB (L.take (j + 1)) = best) := by show _ = _; rw [HTK.out, step_no HF.out]
            clear HF HTK
            go_wp2
            go_roundw
            case rel => exact ⟨j + 1, best, fd, rfl, by go_num, by omega, HFD, HT2, HBZ.out, HWZ.out⟩
            case measure => simp [RowKit.intOf]; omega
          | true =>
            have e2n : (x.phase != 4) = false := by simpa using e2
            cases e3 : x.deleting with
            | true =>
              rw [e3] at x4
              have HF : Hid (fitK c false ndo x = false) := by show _ = _; unfold fitK fitB; simp [e3]
              have HT2 : Hid (leastL (fitK c false ndo) gotB (L.take (j + 1)) = best) := by show _ = _; rw [HTK.out, step_no HF.out]
              clear HF HTK
              go_wp2
              go_roundw
              case rel => exact ⟨j + 1, best, fd, rfl, by go_num, by omega, HFD, HT2, HBZ.out, HWZ.out⟩
              case measure => simp [RowKit.intOf]; omega
            | false =>
              rw [e3] at x4
              cases e4 : (x.cls.toList == c.cls.toList) with
              | false =>
                have HF : Hid (fitK c false ndo x = false) := by show _ = _; unfold fitK fitB; rw [e4]; simp
                have HT2 : Hid (leastL (fitK c false ndo) gotB (L.take (j + 1)) = best) := by show _ = _; rw [HTK.out, step_no HF.out]
                clear HF HTK
                go_wp2
                go_roundw
                case rel => exact ⟨j + 1, best, fd, rfl, by go_num, by omega, HFD, HT2, HBZ.out, HWZ.out⟩
                case measure => simp [RowKit.intOf]; omega
              | true =>
                cases e5 : (x.mode == c.mode) with
                | false =>
                  have e5n : (x.mode != c.mode) = true := by simpa using e5
                  have HF : Hid (fitK c false ndo x = false) := by show _ = _; unfold fitK fitB; simp [e5]
                  have HT2 : Hid (leastL (fitK c false ndo) gotB (L.take (j + 1)) = best) := by show _ = _; rw [HTK.out, step_no HF.out]
                  clear HF HTK
                  go_wp2
                  go_roundw
                  case rel => exact ⟨j + 1, best, fd, rfl, by go_num, by omega, HFD, HT2, HBZ.out, HWZ.out⟩
                  case measure => simp [RowKit.intOf]; omega
                | true =>
                  have e5n : (x.mode != c.mode) = false := by simpa using e5
                  cases e6 : decide (c.size ≤ x.got) with
                  | false =>
                    have e6n : x.got < c.size := by have := of_decide_eq_false e6; omega
                    have HF : Hid (fitK c false ndo x = false) := by show _ = _; unfold fitK fitB; rw [e6]; simp
                    have HT2 : Hid (leastL (fitK c false ndo) gotB (L.take (j + 1)) = best) := by show _ = _; rw [HTK.out, step_no HF.out]
                    clear HF HTK
                    go_wp2
                    go_roundw
                    case rel => exact ⟨j + 1, best, fd, rfl, by go_num, by omega, HFD, HT2, HBZ.out, HWZ.out⟩
                    case measure => simp [RowKit.intOf]; omega
                  | true =>
                    have e6n : ¬ x.got < c.size := by have := of_decide_eq_true e6; omega
                    have HF : Hid (fitK c false ndo x = true) := by
                      show _ = _
                      have e1d : decide (x.kind = 4) = true := e1
                      unfold fitK fitB
                      rw [e1d, e2, e3, e4, e5, e6]
                      rfl
                    go_upto_region 11 with (fail)
                    clear x0 x17 x4 x6 x9 x12 d6 d9 d7 n12 e1 e1n e2 e2n e3 e4 e5 e5n e6 e6n
                    obtain ⟨V9, st9, o9, -, l9⟩ := storing HBZ.out x
                    have HV9 := Lib.hid (l9 _ _ HWZ.out (Nat.le_refl _))
                    have HO9 := Lib.hid o9
                    clear o9 l9
                    cases best with
                    | none =>
                      have hfd : fd = false := HFD.out.symm
                      subst hfd
                      have HT2 : Hid (leastL (fitK c false ndo) gotB (L.take (j + 1)) = some x) := by show _ = _; rw [HTK.out, step_new HF.out]
                      clear HTK HF b8 b1
                      go_upto_region 12 with (fail)
                      have hoz := HOZ.out
                      go_wp2_with (first | ((with_reducible refine wpList_load_obj ?_ rfl ?_ hoz ?_); rfl; rfl) | (refine wpList_skip rfl (st9 rfl rfl rfl) ?_))
                      go_roundw
                      case rel => exact ⟨j + 1, some x, true, rfl, by go_num, by omega, rfl, HT2, HO9.out, HV9.out⟩
                      case measure => simp [RowKit.intOf]; omega
                    | some b =>
                      have hfd : fd = true := HFD.out.symm
                      subst hfd
                      have y8 : Z.cell? ⟨X.heap.size, 8, none⟩ = some (.int .i64 b.got) := b8
                      have y1 : Z.cell? ⟨X.heap.size, 1, none⟩ = some (.string b.name) := b1
                      clear b8 b1
                      by_cases g1 : x.got < b.got
                      · have HT2 : Hid (leastL (fitK c false ndo) gotB (L.take (j + 1)) = some x) := by show _ = _; rw [HTK.out, step_less HF.out (got_lt g1)]
                        clear HTK HF
                        go_upto_region 12 with (fail)
                        have hoz := HOZ.out
                        go_wp2_with (first | ((with_reducible refine wpList_load_obj ?_ rfl ?_ hoz ?_); rfl; rfl) | (refine wpList_skip rfl (st9 rfl rfl rfl) ?_))
                        go_roundw
                        case rel => exact ⟨j + 1, some x, true, rfl, by go_num, by omega, rfl, HT2, HO9.out, HV9.out⟩
                        case measure => simp [RowKit.intOf]; omega
                      · cases g2 : (x.got == b.got) with
                        | false =>
                          have hgt : b.got < x.got := by have : x.got ≠ b.got := by simpa using g2
                                                         omega
                          have HT2 : Hid (leastL (fitK c false ndo) gotB (L.take (j + 1)) = some b) := by show _ = _; rw [HTK.out, step_more HF.out (got_gt hgt)]
                          clear HTK HF hgt
                          go_wp2
                          go_roundw
                          case rel => exact ⟨j + 1, some b, true, rfl, by go_num, by omega, rfl, HT2, HBZ.out, HWZ.out⟩
                          case measure => simp [RowKit.intOf]; omega
                        | true =>
                          have heq : x.got = b.got := by simpa using g2
                          cases g3 : Op.bytesLess x.name.toList b.name.toList with
                          | false =>
                            have HT2 : Hid (leastL (fitK c false ndo) gotB (L.take (j + 1)) = some b) := by show _ = _; rw [HTK.out, step_more HF.out ((got_eq heq).trans g3)]
                            clear HTK HF heq
                            go_wp2
                            go_roundw
                            case rel => exact ⟨j + 1, some b, true, rfl, by go_num, by omega, rfl, HT2, HBZ.out, HWZ.out⟩
                            case measure => simp [RowKit.intOf]; omega
                          | true =>
                            have HT2 : Hid (leastL (fitK c false ndo) gotB (L.take (j + 1)) = some x) := by show _ = _; rw [HTK.out, step_less HF.out ((got_eq heq).trans g3)]
                            clear HTK HF heq
                            go_upto_region 12 with (fail)
                            have hoz := HOZ.out
                            go_wp2_with (first | ((with_reducible refine wpList_load_obj ?_ rfl ?_ hoz ?_); rfl; rfl) | (refine wpList_skip rfl (st9 rfl rfl rfl) ?_))
                            go_roundw
                            case rel => exact ⟨j + 1, some x, true, rfl, by go_num, by omega, rfl, HT2, HO9.out, HV9.out⟩
                            case measure => simp [RowKit.intOf]; omega
      · have hlt' : ¬ (j : Int) < (L.length : Int) := by omega
        have hR : best = R := by
          have h1 := HBT.out
          rw [List.take_of_length_le (by omega)] at h1
          exact h1.symm.trans HBU.out
        subst hR
        have hfd : best.isSome = fd := HFD.out
        obtain ⟨V9, st9, o9, -, l9⟩ := storing (HOX.out.after HLOW.out) (best.getD O0)
        have HV9 := Lib.hid (l9 _ _ (HWX.out.trans (HLOW.out.mono HWX.out.size)) (by omega))
        have HO9 := Lib.hid o9
        clear o9 l9 HBT HFD
        have hbz := HBB.out
        go_wp2_with (first | ((with_reducible refine wpList_load_obj ?_ rfl ?_ hbz ?_); rfl; rfl) | (refine wpList_skip rfl (st9 rfl rfl rfl) ?_))
        refine bodyPost_ret (v := .tuple #[encO (best.getD O0), .bool fd]) (results_ct rfl rfl rfl (loadVar_obj HO9.out)) rfl ?_
        exact ⟨by first | rfl | (rw [hfd]; rfl), HV9.out⟩
  | true =>
    by_cases hn : c.node = E0
    · have hp : pl = false := by rw [← HPL.out, decide_eq_true hn]; rfl
      subst hp
      have n1 : c.node.toList = [] := (emp_iff _).2 hn
      have n2 : (c.node.toList == []) = true := by simp [n1]
      have n3 : c.node.toList.isEmpty = true := by simp [n1]
      clear HPL hn
      go_upto_region 5 with (refine wpList_skip rfl (sx rfl rfl rfl) ?_)
      refine wp_gen (fun V => BoxO V X.heap.size O0 ∧ Below X.heap.size X V) ⟨heap_alloc_new _ _, (Below.refl _ _).alloc (Nat.le_refl _) _⟩ ?_
      rintro Y ⟨hb0, hly⟩
      have HB0 := Lib.hid hb0
      have HLY := Lib.hid hly
      clear hb0 hly sx c13
      go_wp2_with (fail)
      go_loopw [10, 11] (fun fv iv wr => ∃ (j : Nat) (best : Option Obj) (fd : Bool), fv = .bool fd ∧ iv = .int .i64 (j : Int) ∧ j ≤ L.length ∧ Hid (best.isSome = fd) ∧ Hid (leastL (fitK c false ndo) gotB (L.take j) = best) ∧ BoxO wr X.heap.size (best.getD O0) ∧ Below X.heap.size X wr) (fun _ iv _ => L.length - (RowKit.intOf iv).toNat)
      case atStart => exact ⟨0, none, false, rfl, rfl, Nat.zero_le _, rfl, rfl, HB0.out, HLY.out⟩
      case round =>
        obtain ⟨j, best, fd, rfl, rfl, hj, HFD, HBT, hbb, hlow⟩ := hrel
        have HLOW := Lib.hid hlow
        have HBB := Lib.hid hbb
        clear hlow hbb HB0 HLY
        by_cases hlt : j < L.length
        · have hlt' : (j : Int) < (L.length : Int) := by omega
          have hobj := HLX.out.after HLOW.out
          obtain ⟨o', c', he, -, hi⟩ := id hobj
          cases he
          obtain ⟨g, off, rfl, -, hrow⟩ := hi j hlt
          obtain ⟨x, hx⟩ : ∃ x, L[j] = x := ⟨_, rfl⟩
          rw [hx] at hrow
          have HROW := Lib.hid hrow
          have htk := least_take (fitK c false ndo) hlt
          rw [hx, HBT.out] at htk
          have HTK := Lib.hid htk
          obtain ⟨Z, sz, oz, lz, -⟩ := boxing _ x
          have HWZ := Lib.hid (HLOW.out.trans (lz.mono HLOW.out.size))
          have HOZ := Lib.hid oz
          have HBZ := Lib.hid (HBB.out.after lz)
          clear hi hx hrow hobj htk HLOW HBB lz oz HBT
          go_upto_region 10 with (first | (refine wpList_got rfl (load_mid HROW.out rfl rfl) ?_) | (refine wpList_skip rfl (sz rfl rfl rfl) ?_))
          have x0 := HOZ.out.c0
          have x17 := HOZ.out.c17
          have x4 := HOZ.out.c4
          have x6 := HOZ.out.c6
          have x9 := HOZ.out.c9
          have x8 := HOZ.out.c8
          have x12 := HOZ.out.c12
          have x1 := HOZ.out.c1
          have hcz := HCX.out.after HWZ.out
          have d6 := hcz.c6
          have d9 := hcz.c9
          have d7 := hcz.c7
          have n12 := (HNX.out.after HWZ.out).c12
          have b8 := HBZ.out.c8
          have b1 := HBZ.out.c1
          clear sz HROW hcz
          cases e1 : (x.kind == 4) with
          | false =>
            have e1n : (x.kind != 4) = true := by simpa using e1
            have e1d : decide (x.kind = 4) = false := e1
            have HF : Hid (fitK c false ndo x = false) := by show _ = _; unfold fitK fitB; rw [e1d]; rfl
            have HT2 : Hid (leastL (fitK c false ndo) gotB (L.take (j + 1)) = best) := by show _ = _; rw [HTK.out, step_no HF.out]
            clear HF HTK
            go_wp2
            go_roundw
            case rel => exact ⟨j + 1, best, fd, rfl, by go_num, by omega, HFD, HT2, HBZ.out, HWZ.out⟩
            case measure => simp [RowKit.intOf]; omega
          | true =>
            have e1n : (x.kind != 4) = false := by simpa using e1
            cases e2 : (x.phase == 4) with
            | false =>
              have e2n : (x.phase != 4) = true := by simpa using e2
              have HF : Hid (fitK c false ndo x = false) := by show _ = _; unfold fitK fitB; simp [e2]
              have HT2 : Hid (leastL (fitK c false ndo) gotB (L.take (j + 1)) = best) := by show _ = _; rw [HTK.out, step_no HF.out]
              clear HF HTK
              go_wp2
              go_roundw
              case rel => exact ⟨j + 1, best, fd, rfl, by go_num, by omega, HFD, HT2, HBZ.out, HWZ.out⟩
              case measure => simp [RowKit.intOf]; omega
            | true =>
              have e2n : (x.phase != 4) = false := by simpa using e2
              cases e3 : x.deleting with
              | true =>
                rw [e3] at x4
                have HF : Hid (fitK c false ndo x = false) := by show _ = _; unfold fitK fitB; simp [e3]
                have HT2 : Hid (leastL (fitK c false ndo) gotB (L.take (j + 1)) = best) := by show _ = _; rw [HTK.out, step_no HF.out]
                clear HF HTK
                go_wp2
                go_roundw
                case rel => exact ⟨j + 1, best, fd, rfl, by go_num, by omega, HFD, HT2, HBZ.out, HWZ.out⟩
                case measure => simp [RowKit.intOf]; omega
              | false =>
                rw [e3] at x4
                cases e4 : (x.cls.toList == c.cls.toList) with
                | false =>
                  have HF : Hid (fitK c false ndo x = false) := by show _ = _; unfold fitK fitB; rw [e4]; simp
                  have HT2 : Hid (leastL (fitK c false ndo) gotB (L.take (j + 1)) = best) := by show _ = _; rw [HTK.out, step_no HF.out]
                  clear HF HTK
                  go_wp2
                  go_roundw
                  case rel => exact ⟨j + 1, best, fd, rfl, by go_num, by omega, HFD, HT2, HBZ.out, HWZ.out⟩
                  case measure => simp [RowKit.intOf]; omega
                | true =>
                  cases e5 : (x.mode == c.mode) with
                  | false =>
                    have e5n : (x.mode != c.mode) = true := by simpa using e5
                    have HF : Hid (fitK c false ndo x = false) := by show _ = _; unfold fitK fitB; simp [e5]
                    have HT2 : Hid (leastL (fitK c false ndo) gotB (L.take (j + 1)) = best) := by show _ = _; rw [HTK.out, step_no HF.out]
                    clear HF HTK
                    go_wp2
                    go_roundw
                    case rel => exact ⟨j + 1, best, fd, rfl, by go_num, by omega, HFD, HT2, HBZ.out, HWZ.out⟩
                    case measure => simp [RowKit.intOf]; omega
                  | true =>
                    have e5n : (x.mode != c.mode) = false := by simpa using e5
                    cases e6 : decide (c.size ≤ x.got) with
                    | false =>
                      have e6n : x.got < c.size := by have := of_decide_eq_false e6; omega
                      have HF : Hid (fitK c false ndo x = false) := by show _ = _; unfold fitK fitB; rw [e6]; simp
                      have HT2 : Hid (leastL (fitK c false ndo) gotB (L.take (j + 1)) = best) := by show _ = _; rw [HTK.out, step_no HF.out]
                      clear HF HTK
                      go_wp2
                      go_roundw
                      case rel => exact ⟨j + 1, best, fd, rfl, by go_num, by omega, HFD, HT2, HBZ.out, HWZ.out⟩
                      case measure => simp [RowKit.intOf]; omega
                    | true =>
                      have e6n : ¬ x.got < c.size := by have := of_decide_eq_true e6; omega
                      have HF : Hid (fitK c false ndo x = true) := by
                        show _ = _
                        have e1d : decide (x.kind = 4) = true := e1
                        unfold fitK fitB
                        rw [e1d, e2, e3, e4, e5, e6]
                        rfl
                      go_upto_region 11 with (fail)
                      clear x0 x17 x4 x6 x9 x12 d6 d9 d7 n12 e1 e1n e2 e2n e3 e4 e5 e5n e6 e6n
                      obtain ⟨V9, st9, o9, -, l9⟩ := storing HBZ.out x
                      have HV9 := Lib.hid (l9 _ _ HWZ.out (Nat.le_refl _))
                      have HO9 := Lib.hid o9
                      clear o9 l9
                      cases best with
                      | none =>
                        have hfd : fd = false := HFD.out.symm
                        subst hfd
                        have HT2 : Hid (leastL (fitK c false ndo) gotB (L.take (j + 1)) = some x) := by show _ = _; rw [HTK.out, step_new HF.out]
                        clear HTK HF b8 b1
                        go_upto_region 12 with (fail)
                        have hoz := HOZ.out
                        go_wp2_with (first | ((with_reducible refine wpList_load_obj ?_ rfl ?_ hoz ?_); rfl; rfl) | (refine wpList_skip rfl (st9 rfl rfl rfl) ?_))
                        go_roundw
                        case rel => exact ⟨j + 1, some x, true, rfl, by go_num, by omega, rfl, HT2, HO9.out, HV9.out⟩
                        case measure => simp [RowKit.intOf]; omega
                      | some b =>
                        have hfd : fd = true := HFD.out.symm
                        subst hfd
                        have y8 : Z.cell? ⟨X.heap.size, 8, none⟩ = some (.int .i64 b.got) := b8
                        have y1 : Z.cell? ⟨X.heap.size, 1, none⟩ = some (.string b.name) := b1
                        clear b8 b1
                        by_cases g1 : x.got < b.got
                        · have HT2 : Hid (leastL (fitK c false ndo) gotB (L.take (j + 1)) = some x) := by show _ = _; rw [HTK.out, step_less HF.out (got_lt g1)]
                          clear HTK HF
                          go_upto_region 12 with (fail)
                          have hoz := HOZ.out
                          go_wp2_with (first | ((with_reducible refine wpList_load_obj ?_ rfl ?_ hoz ?_); rfl; rfl) | (refine wpList_skip rfl (st9 rfl rfl rfl) ?_))
                          go_roundw
                          case rel => exact ⟨j + 1, some x, true, rfl, by go_num, by omega, rfl, HT2, HO9.out, HV9.out⟩
                          case measure => simp [RowKit.intOf]; omega
                        · cases g2 : (x.got == b.got) with
                          | false =>
                            have hgt : b.got < x.got := by have : x.got ≠ b.got := by simpa using g2
                                                           omega
                            have HT2 : Hid (leastL (fitK c false ndo) gotB (L.take (j + 1)) = some b) := by show _ = _; rw [HTK.out, step_more HF.out (got_gt hgt)]
                            clear HTK HF hgt
                            go_wp2
                            go_roundw
                            case rel => exact ⟨j + 1, some b, true, rfl, by go_num, by omega, rfl, HT2, HBZ.out, HWZ.out⟩
                            case measure => simp [RowKit.intOf]; omega
                          | true =>
                            have heq : x.got = b.got := by simpa using g2
                            cases g3 : Op.bytesLess x.name.toList b.name.toList with
                            | false =>
                              have HT2 : Hid (leastL (fitK c false ndo) gotB (L.take (j + 1)) = some b) := by show _ = _; rw [HTK.out, step_more HF.out ((got_eq heq).trans g3)]
                              clear HTK HF heq
                              go_wp2
                              go_roundw
                              case rel => exact ⟨j + 1, some b, true, rfl, by go_num, by omega, rfl, HT2, HBZ.out, HWZ.out⟩
                              case measure => simp [RowKit.intOf]; omega
                            | true =>
                              have HT2 : Hid (leastL (fitK c false ndo) gotB (L.take (j + 1)) = some x) := by show _ = _; rw [HTK.out, step_less HF.out ((got_eq heq).trans g3)]
                              clear HTK HF heq
                              go_upto_region 12 with (fail)
                              have hoz := HOZ.out
                              go_wp2_with (first | ((with_reducible refine wpList_load_obj ?_ rfl ?_ hoz ?_); rfl; rfl) | (refine wpList_skip rfl (st9 rfl rfl rfl) ?_))
                              go_roundw
                              case rel => exact ⟨j + 1, some x, true, rfl, by go_num, by omega, rfl, HT2, HO9.out, HV9.out⟩
                              case measure => simp [RowKit.intOf]; omega
        · have hlt' : ¬ (j : Int) < (L.length : Int) := by omega
          have hR : best = R := by
            have h1 := HBT.out
            rw [List.take_of_length_le (by omega)] at h1
            exact h1.symm.trans HBU.out
          subst hR
          have hfd : best.isSome = fd := HFD.out
          obtain ⟨V9, st9, o9, -, l9⟩ := storing (HOX.out.after HLOW.out) (best.getD O0)
          have HV9 := Lib.hid (l9 _ _ (HWX.out.trans (HLOW.out.mono HWX.out.size)) (by omega))
          have HO9 := Lib.hid o9
          clear o9 l9 HBT HFD
          have hbz := HBB.out
          go_wp2_with (first | ((with_reducible refine wpList_load_obj ?_ rfl ?_ hbz ?_); rfl; rfl) | (refine wpList_skip rfl (st9 rfl rfl rfl) ?_))
          refine bodyPost_ret (v := .tuple #[encO (best.getD O0), .bool fd]) (results_ct rfl rfl rfl (loadVar_obj HO9.out)) rfl ?_
          exact ⟨by first | rfl | (rw [hfd]; rfl), HV9.out⟩
    · have hp : pl = true := by rw [← HPL.out, decide_eq_false hn]; rfl
      subst hp
      have n1 : c.node.toList ≠ [] := fun e => hn ((emp_iff _).1 e)
      have n2 : (c.node.toList == []) = false := by simpa using n1
      have n3 : c.node.toList.isEmpty = false := by simpa using n1
      clear HPL hn
      go_upto_region 5 with (refine wpList_skip rfl (sx rfl rfl rfl) ?_)
      refine wp_gen (fun V => BoxO V X.heap.size O0 ∧ Below X.heap.size X V) ⟨heap_alloc_new _ _, (Below.refl _ _).alloc (Nat.le_refl _) _⟩ ?_
      rintro Y ⟨hb0, hly⟩
      have HB0 := Lib.hid hb0
      have HLY := Lib.hid hly
      clear hb0 hly sx c13
      go_wp2_with (fail)
      go_loopw [10, 11] (fun fv iv wr => ∃ (j : Nat) (best : Option Obj) (fd : Bool), fv = .bool fd ∧ iv = .int .i64 (j : Int) ∧ j ≤ L.length ∧ Hid (best.isSome = fd) ∧ Hid (leastL (fitK c true ndo) gotB (L.take j) = best) ∧ BoxO wr X.heap.size (best.getD O0) ∧ Below X.heap.size X wr) (fun _ iv _ => L.length - (RowKit.intOf iv).toNat)
      case atStart => exact ⟨0, none, false, rfl, rfl, Nat.zero_le _, rfl, rfl, HB0.out, HLY.out⟩
      case round =>
        obtain ⟨j, best, fd, rfl, rfl, hj, HFD, HBT, hbb, hlow⟩ := hrel
        have HLOW := Lib.hid hlow
        have HBB := Lib.hid hbb
        clear hlow hbb HB0 HLY
        by_cases hlt : j < L.length
        · have hlt' : (j : Int) < (L.length : Int) := by omega
          have hobj := HLX.out.after HLOW.out
          obtain ⟨o', c', he, -, hi⟩ := id hobj
          cases he
          obtain ⟨g, off, rfl, -, hrow⟩ := hi j hlt
          obtain ⟨x, hx⟩ : ∃ x, L[j] = x := ⟨_, rfl⟩
          rw [hx] at hrow
          have HROW := Lib.hid hrow
          have htk := least_take (fitK c true ndo) hlt
          rw [hx, HBT.out] at htk
          have HTK := Lib.hid htk
          obtain ⟨Z, sz, oz, lz, -⟩ := boxing _ x
          have HWZ := Lib.hid (HLOW.out.trans (lz.mono HLOW.out.size))
          have HOZ := Lib.hid oz
          have HBZ := Lib.hid (HBB.out.after lz)
          clear hi hx hrow hobj htk HLOW HBB lz oz HBT
          go_upto_region 10 with (first | (refine wpList_got rfl (load_mid HROW.out rfl rfl) ?_) | (refine wpList_skip rfl (sz rfl rfl rfl) ?_))
          have x0 := HOZ.out.c0
          have x17 := HOZ.out.c17
          have x4 := HOZ.out.c4
          have x6 := HOZ.out.c6
          have x9 := HOZ.out.c9
          have x8 := HOZ.out.c8
          have x12 := HOZ.out.c12
          have x1 := HOZ.out.c1
          have hcz := HCX.out.after HWZ.out
          have d6 := hcz.c6
          have d9 := hcz.c9
          have d7 := hcz.c7
          have n12 := (HNX.out.after HWZ.out).c12
          have b8 := HBZ.out.c8
          have b1 := HBZ.out.c1
          clear sz HROW hcz
          cases e1 : (x.kind == 4) with
          | false =>
            have e1n : (x.kind != 4) = true := by simpa using e1
            have e1d : decide (x.kind = 4) = false := e1
            have HF : Hid (fitK c true ndo x = false) := by show _ = _; unfold fitK fitB; rw [e1d]; rfl
            have HT2 : Hid (leastL (fitK c true ndo) gotB (L.take (j + 1)) = best) := by show _ = _; rw [HTK.out, step_no HF.out]
            clear HF HTK
            go_wp2
            go_roundw
            case rel => exact ⟨j + 1, best, fd, rfl, by go_num, by omega, HFD, HT2, HBZ.out, HWZ.out⟩
            case measure => simp [RowKit.intOf]; omega
          | true =>
            have e1n : (x.kind != 4) = false := by simpa using e1
            cases e2 : (x.phase == 4) with
            | false =>
              have e2n : (x.phase != 4) = true := by simpa using e2
              have HF : Hid (fitK c true ndo x = false) := by show _ = _; unfold fitK fitB; simp [e2]
              have HT2 : Hid (leastL (fitK c true ndo) gotB (L.take (j + 1)) = best) := by show _ = _; rw [HTK.out, step_no HF.out]
              clear HF HTK
              go_wp2
              go_roundw
              case rel => exact ⟨j + 1, best, fd, rfl, by go_num, by omega, HFD, HT2, HBZ.out, HWZ.out⟩
              case measure => simp [RowKit.intOf]; omega
            | true =>
              have e2n : (x.phase != 4) = false := by simpa using e2
              cases e3 : x.deleting with
              | true =>
                rw [e3] at x4
                have HF : Hid (fitK c true ndo x = false) := by show _ = _; unfold fitK fitB; simp [e3]
                have HT2 : Hid (leastL (fitK c true ndo) gotB (L.take (j + 1)) = best) := by show _ = _; rw [HTK.out, step_no HF.out]
                clear HF HTK
                go_wp2
                go_roundw
                case rel => exact ⟨j + 1, best, fd, rfl, by go_num, by omega, HFD, HT2, HBZ.out, HWZ.out⟩
                case measure => simp [RowKit.intOf]; omega
              | false =>
                rw [e3] at x4
                cases e4 : (x.cls.toList == c.cls.toList) with
                | false =>
                  have HF : Hid (fitK c true ndo x = false) := by show _ = _; unfold fitK fitB; rw [e4]; simp
                  have HT2 : Hid (leastL (fitK c true ndo) gotB (L.take (j + 1)) = best) := by show _ = _; rw [HTK.out, step_no HF.out]
                  clear HF HTK
                  go_wp2
                  go_roundw
                  case rel => exact ⟨j + 1, best, fd, rfl, by go_num, by omega, HFD, HT2, HBZ.out, HWZ.out⟩
                  case measure => simp [RowKit.intOf]; omega
                | true =>
                  cases e5 : (x.mode == c.mode) with
                  | false =>
                    have e5n : (x.mode != c.mode) = true := by simpa using e5
                    have HF : Hid (fitK c true ndo x = false) := by show _ = _; unfold fitK fitB; simp [e5]
                    have HT2 : Hid (leastL (fitK c true ndo) gotB (L.take (j + 1)) = best) := by show _ = _; rw [HTK.out, step_no HF.out]
                    clear HF HTK
                    go_wp2
                    go_roundw
                    case rel => exact ⟨j + 1, best, fd, rfl, by go_num, by omega, HFD, HT2, HBZ.out, HWZ.out⟩
                    case measure => simp [RowKit.intOf]; omega
                  | true =>
                    have e5n : (x.mode != c.mode) = false := by simpa using e5
                    cases e6 : decide (c.size ≤ x.got) with
                    | false =>
                      have e6n : x.got < c.size := by have := of_decide_eq_false e6; omega
                      have HF : Hid (fitK c true ndo x = false) := by show _ = _; unfold fitK fitB; rw [e6]; simp
                      have HT2 : Hid (leastL (fitK c true ndo) gotB (L.take (j + 1)) = best) := by show _ = _; rw [HTK.out, step_no HF.out]
                      clear HF HTK
                      go_wp2
                      go_roundw
                      case rel => exact ⟨j + 1, best, fd, rfl, by go_num, by omega, HFD, HT2, HBZ.out, HWZ.out⟩
                      case measure => simp [RowKit.intOf]; omega
                    | true =>
                      have e6n : ¬ x.got < c.size := by have := of_decide_eq_true e6; omega
                      cases e7 : (x.zone.toList == ndo.zone.toList) with
                      | false =>
                        have HF : Hid (fitK c true ndo x = false) := by show _ = _; unfold fitK fitB; rw [e7]; simp
                        have HT2 : Hid (leastL (fitK c true ndo) gotB (L.take (j + 1)) = best) := by show _ = _; rw [HTK.out, step_no HF.out]
                        clear HF HTK
                        go_wp2
                        go_roundw
                        case rel => exact ⟨j + 1, best, fd, rfl, by go_num, by omega, HFD, HT2, HBZ.out, HWZ.out⟩
                        case measure => simp [RowKit.intOf]; omega
                      | true =>
                        have HF : Hid (fitK c true ndo x = true) := by
                          show _ = _
                          have e1d : decide (x.kind = 4) = true := e1
                          unfold fitK fitB
                          rw [e1d, e2, e3, e4, e5, e6]
                          rw [e7]; rfl
                        go_upto_region 11 with (fail)
                        clear x0 x17 x4 x6 x9 x12 d6 d9 d7 n12 e1 e1n e2 e2n e3 e4 e5 e5n e6 e6n e7
                        obtain ⟨V9, st9, o9, -, l9⟩ := storing HBZ.out x
                        have HV9 := Lib.hid (l9 _ _ HWZ.out (Nat.le_refl _))
                        have HO9 := Lib.hid o9
                        clear o9 l9
                        cases best with
                        | none =>
                          have hfd : fd = false := HFD.out.symm
                          subst hfd
                          have HT2 : Hid (leastL (fitK c true ndo) gotB (L.take (j + 1)) = some x) := by show _ = _; rw [HTK.out, step_new HF.out]
                          clear HTK HF b8 b1
                          go_upto_region 12 with (fail)
                          have hoz := HOZ.out
                          go_wp2_with (first | ((with_reducible refine wpList_load_obj ?_ rfl ?_ hoz ?_); rfl; rfl) | (refine wpList_skip rfl (st9 rfl rfl rfl) ?_))
                          go_roundw
                          case rel => exact ⟨j + 1, some x, true, rfl, by go_num, by omega, rfl, HT2, HO9.out, HV9.out⟩
                          case measure => simp [RowKit.intOf]; omega
                        | some b =>
                          have hfd : fd = true := HFD.out.symm
                          subst hfd
                          have y8 : Z.cell? ⟨X.heap.size, 8, none⟩ = some (.int .i64 b.got) := b8
                          have y1 : Z.cell? ⟨X.heap.size, 1, none⟩ = some (.string b.name) := b1
                          clear b8 b1
                          by_cases g1 : x.got < b.got
                          · have HT2 : Hid (leastL (fitK c true ndo) gotB (L.take (j + 1)) = some x) := by show _ = _; rw [HTK.out, step_less HF.out (got_lt g1)]
                            clear HTK HF
                            go_upto_region 12 with (fail)
                            have hoz := HOZ.out
                            go_wp2_with (first | ((with_reducible refine wpList_load_obj ?_ rfl ?_ hoz ?_); rfl; rfl) | (refine wpList_skip rfl (st9 rfl rfl rfl) ?_))
                            go_roundw
                            case rel => exact ⟨j + 1, some x, true, rfl, by go_num, by omega, rfl, HT2, HO9.out, HV9.out⟩
                            case measure => simp [RowKit.intOf]; omega
                          · cases g2 : (x.got == b.got) with
                            | false =>
                              have hgt : b.got < x.got := by have : x.got ≠ b.got := by simpa using g2
                                                             omega
                              have HT2 : Hid (leastL (fitK c true ndo) gotB (L.take (j + 1)) = some b) := by show _ = _; rw [HTK.out, step_more HF.out (got_gt hgt)]
                              clear HTK HF hgt
                              go_wp2
                              go_roundw
                              case rel => exact ⟨j + 1, some b, true, rfl, by go_num, by omega, rfl, HT2, HBZ.out, HWZ.out⟩
                              case measure => simp [RowKit.intOf]; omega
                            | true =>
                              have heq : x.got = b.got := by simpa using g2
                              cases g3 : Op.bytesLess x.name.toList b.name.toList with
                              | false =>
                                have HT2 : Hid (leastL (fitK c true ndo) gotB (L.take (j + 1)) = some b) := by show _ = _; rw [HTK.out, step_more HF.out ((got_eq heq).trans g3)]
                                clear HTK HF heq
                                go_wp2
                                go_roundw
                                case rel => exact ⟨j + 1, some b, true, rfl, by go_num, by omega, rfl, HT2, HBZ.out, HWZ.out⟩
                                case measure => simp [RowKit.intOf]; omega
                              | true =>
                                have HT2 : Hid (leastL (fitK c true ndo) gotB (L.take (j + 1)) = some x) := by show _ = _; rw [HTK.out, step_less HF.out ((got_eq heq).trans g3)]
                                clear HTK HF heq
                                go_upto_region 12 with (fail)
                                have hoz := HOZ.out
                                go_wp2_with (first | ((with_reducible refine wpList_load_obj ?_ rfl ?_ hoz ?_); rfl; rfl) | (refine wpList_skip rfl (st9 rfl rfl rfl) ?_))
                                go_roundw
                                case rel => exact ⟨j + 1, some x, true, rfl, by go_num, by omega, rfl, HT2, HO9.out, HV9.out⟩
                                case measure => simp [RowKit.intOf]; omega
        · have hlt' : ¬ (j : Int) < (L.length : Int) := by omega
          have hR : best = R := by
            have h1 := HBT.out
            rw [List.take_of_length_le (by omega)] at h1
            exact h1.symm.trans HBU.out
          subst hR
          have hfd : best.isSome = fd := HFD.out
          obtain ⟨V9, st9, o9, -, l9⟩ := storing (HOX.out.after HLOW.out) (best.getD O0)
          have HV9 := Lib.hid (l9 _ _ (HWX.out.trans (HLOW.out.mono HWX.out.size)) (by omega))
          have HO9 := Lib.hid o9
          clear o9 l9 HBT HFD
          have hbz := HBB.out
          go_wp2_with (first | ((with_reducible refine wpList_load_obj ?_ rfl ?_ hbz ?_); rfl; rfl) | (refine wpList_skip rfl (st9 rfl rfl rfl) ?_))
          refine bodyPost_ret (v := .tuple #[encO (best.getD O0), .bool fd]) (results_ct rfl rfl rfl (loadVar_obj HO9.out)) rfl ?_
          exact ⟨by first | rfl | (rw [hfd]; rfl), HV9.out⟩
end Go.Proofs.YtfpdchabknoklaaDoor.O.B
