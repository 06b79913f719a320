/- Of a volume of one node there is never more than one attachment. -/
import Derived.Test.YtigoghhjncpgfaaALive
namespace Go.Proofs.Ytigoghhjncpgfaa.O.B
open Go Go.RowKit Go.Shelf Go.Lib KM
attribute [local go_sem] Oper.semAt_some

theorem go_write {a : Obj} {b : Bool} {next : Int} (h : (goN a b next).act = 1) : b = false ∧ goN a b next = writeA { a with phase := 9, num := next } := by
  unfold goN at *
  by_cases h9 : a.phase = 9
  · rw [if_pos h9] at h
    exact absurd h (by show ¬ (3 : Int) = 1; decide)
  · rw [if_neg h9] at h ⊢
    cases b with
    | false => exact ⟨rfl, if_pos rfl⟩
    | true =>
      rw [if_neg (by simp)] at h
      by_cases h7 : a.phase = 7
      · rw [if_pos h7] at h
        exact absurd h (by show ¬ (3 : Int) = 1; decide)
      · rw [if_neg h7] at h
        exact absurd h (by show ¬ (0 : Int) = 1; decide)
theorem vol_cases {l : List Obj} {ver : Int} {name : ByteArray} (h : (volumeA l ver name).act = 1) : ∃ v, getL l 4 name = some v ∧
    ((∃ a ∈ attsL l name, memB a.node (wantL l name) = false ∧ volumeA l ver name = writeA { a with phase := 9, num := up ver }) ∨
     (∃ s, besideL (wantL l name) (risB ((attsL l name).map Obj.node)) = some s ∧ ¬ (v.mode = 1 ∧ attsL l name ≠ []) ∧ nameB (attachN v.name s).data.toList = true ∧ volumeA l ver name = writeA (defO (newA v.name s (up ver))))) := by
  unfold volumeA at *
  cases hg : getL l 4 name with
  | none =>
    rw [hg] at h
    exact absurd h (by show ¬ (0 : Int) = 1; decide)
  | some v =>
    rw [hg] at h
    refine ⟨v, rfl, ?_⟩
    dsimp only at *
    cases hf : (attsL l name).find? fun a => decide ((stepA l ver name a).act ≠ 0) with
    | some a =>
      rw [hf] at h
      dsimp only at *
      obtain ⟨h1, h2⟩ := go_write (show (goN a (memB a.node (wantL l name)) (up ver)).act = 1 from h)
      exact .inl ⟨a, List.mem_of_find?_eq_some hf, h1, h2⟩
    | none =>
      rw [hf] at h
      dsimp only at *
      unfold beginN at *
      cases hb : besideL (wantL l name) (risB ((attsL l name).map Obj.node)) with
      | none =>
        rw [hb] at h
        exact absurd h (by show ¬ (0 : Int) = 1; decide)
      | some s =>
        rw [hb] at h
        dsimp only at *
        refine .inr ⟨s, rfl, ?_⟩
        by_cases hm : v.mode = 1 ∧ attsL l name ≠ []
        · rw [if_pos hm] at h
          exact absurd h (by show ¬ (0 : Int) = 1; decide)
        · rw [if_neg hm] at h ⊢
          cases hn : nameB (attachN v.name s).data.toList with
          | false =>
            rw [hn, if_pos rfl] at h
            exact absurd h (by show ¬ (0 : Int) = 1; decide)
          | true => exact ⟨hm, rfl, if_neg (by simp)⟩
theorem getL_take {l : List Obj} {k : Int} {n : ByteArray} {i : Nat} (h : i < l.length) : getL (l.take (i + 1)) k n = (getL (l.take i) k n).or (if l[i].kind = k ∧ l[i].name = n then some l[i] else none) := by
  unfold getL
  rw [List.take_succ_eq_append_getElem h, List.find?_append]
  congr 1
  by_cases hp : l[i].kind = k ∧ l[i].name = n
  · rw [if_pos hp, List.find?_cons_of_pos (by simp [hp.1, hp.2])]
  · rw [if_neg hp, List.find?_cons_of_neg (by simpa using hp)]
    rfl
theorem all_take {α : Type} {q : α → Bool} {l : List α} {i : Nat} (h : i < l.length) : (l.take (i + 1)).all q = ((l.take i).all q && q l[i]) := by
  rw [List.take_succ_eq_append_getElem h, List.all_append]
  simp
set_option maxRecDepth 100000 in
set_option maxHeartbeats 16000000 in
theorem one_any (l : List Obj) (v : Value) (ver : Int) (name : ByteArray) (w : World) (hl : ObjsIn w v l) (hc : ∀ o n c, v = .slice o n c → n ≤ c) (hz : ∀ o ∈ l, o.name.size ≤ 140737488351232 ∧ o.node.size ≤ 140737488351232) :
    Calls Try.prog 6 #[v, .int .u64 ver, .string name] w fun e w' => e = .returned (.bool true) ∧ Below w.heap.size w w' := by
  have HF := Lib.hid (few_any l v w hl hc)
  have HZ := Lib.hid (fun o (ho : o ∈ l.take 24) => hz o (List.mem_of_mem_take ho))
  have hq : (l.take 24).length < 100000 := by rw [List.length_take]; omega
  obtain ⟨o, cp, rfl, -, -⟩ := id hl
  clear hl hc hz
  go_enter Try.func6, Try.ntmps6
  go_wp2_with (fail)
  refine HF.out.mono ?_
  rintro e W1 ⟨v1, rfl, hl1, rfl⟩
  clear HF
  generalize l.take 24 = q at *
  obtain ⟨o1, c1, rfl, hq63, -⟩ := id hl1
  have HL := Lib.hid hl1
  have HQ := Lib.hid hq
  have HC := Lib.hid (volA_any q _ ver name W1 hl1 hq HZ.out)
  have HCS := Lib.hid (fun h => vol_cases (l := q) (ver := ver) (name := name) h)
  clear hl1 hq HZ
  obtain ⟨G, hG⟩ : ∃ G, volumeA q ver name = G := ⟨_, rfl⟩
  rw [hG] at HC HCS
  clear hG
  go_wp2_with (fail)
  refine HC.out.mono ?_
  rintro e W2 ⟨rfl, hb2⟩
  obtain ⟨X, sx, ax, lx⟩ := actbox W2 G
  have hlw := hb2.trans (lx.mono hb2.size)
  have HW := Lib.hid hlw
  have HA := Lib.hid ax
  have a0 : X.cell? ⟨W2.heap.size, 0, none⟩ = some (.int .u8 G.act) := (cell_of_row X _ 0 _ _ _ ax).trans rfl
  have a3 : X.cell? ⟨W2.heap.size, 3, none⟩ = some (.int .u64 G.obj.version) := (cell_of_row X _ 3 _ _ _ ax).trans rfl
  have HLV := Lib.hid (live_any X)
  clear HC hb2 lx hlw ax
  by_cases h1 : G.act = 1
  · have e1 : (G.act != 1) = false := by simp [h1]
    by_cases h2 : G.obj.version = 0
    · have e2 : (G.obj.version != 0) = false := by simp [h2]
      obtain ⟨vo, hv1, hv2⟩ := HCS.out h1
      have HV1 := Lib.hid hv1
      have HV2 : Hid ((∃ a ∈ attsL q name, a.name = G.obj.name) ∨ ¬ (vo.mode = 1 ∧ attsL q name ≠ [])) := by
        rcases hv2 with ⟨a, ha, -, hg⟩ | ⟨s, -, hm, -, -⟩
        · exact .inl ⟨a, ha, by rw [hg]; rfl⟩
        · exact .inr hm
      clear hv1 hv2 h1 h2 HCS HLV
      go_upto_region 6 with (refine wpList_skip rfl (sx rfl rfl rfl) ?_)
      refine wp_gen (fun V => BoxO V X.heap.size O0 ∧ Below X.heap.size X V) ⟨BoxO.new X O0, (Below.refl _ _).alloc (Nat.le_refl _) _⟩ ?_
      clear sx a0 a3
      rintro V0 ⟨hbx, hlw⟩
      have HLX := Lib.hid (HL.out.after HW.out)
      have HB0 := Lib.hid hbx
      have HW0 := Lib.hid hlw
      have HXX := Lib.hid (HW.out.size)
      have HWX := Lib.hid HA.out.lt
      clear hbx hlw HL
      go_wp2_with (fail)
      go_loopw [9, 10] (fun fv iv wr => ∃ i : Nat, iv = .int .i64 (i : Int) ∧ i ≤ q.length ∧ fv = .bool (getL (q.take i) 4 name).isSome ∧ BoxO wr X.heap.size ((getL (q.take i) 4 name).getD O0) ∧ Below X.heap.size X wr) (fun _ iv _ => q.length - (RowKit.intOf iv).toNat)
      case atStart => exact ⟨0, rfl, Nat.zero_le _, rfl, HB0.out, HW0.out⟩
      case round =>
        obtain ⟨i, rfl, hi, rfl, hbx, hlw⟩ := hrel
        obtain ⟨R, hR⟩ : ∃ R, getL (q.take i) 4 name = R := ⟨_, rfl⟩
        rw [hR] at hbx ⊢
        have HRR := Lib.hid hR
        have HB := Lib.hid hbx
        have HLW := Lib.hid hlw
        clear hR hbx hlw HB0 HW0
        by_cases hlt : i < q.length
        · have hlt' : (i : Int) < (q.length : Int) := by omega
          cases R with
          | some y =>
            have HT : Hid (getL (q.take (i + 1)) 4 name = some y) := by
              show _ = _
              rw [getL_take hlt, HRR.out]
              rfl
            go_wp2
            go_roundw
            case rel => exact ⟨i + 1, by go_num, by omega, by first | (rw [HT.out]; done) | (rw [HT.out]; rfl), by rw [HT.out]; exact HB.out, HLW.out⟩
            case measure => simp [RowKit.intOf]; omega
          | none =>
            obtain ⟨o', c', he, -, hx⟩ := HLX.out.after HLW.out
            cases he
            obtain ⟨g, off, rfl, -, hrow⟩ := hx i hlt
            obtain ⟨x, hxe⟩ : ∃ x, q[i] = x := ⟨_, rfl⟩
            rw [hxe] at hrow
            have c0 := row_cell hrow 0 _ rfl
            have c1 := row_cell hrow 1 _ rfl
            rw [Nat.add_zero] at c0
            have HXE := Lib.hid hxe
            have HIL := Lib.hid hlt
            clear hx hxe
            cases e1 : (x.kind == 4) with
            | false =>
              have HT : Hid (getL (q.take (i + 1)) 4 name = none) := by
                show _ = _
                rw [getL_take HIL.out, HRR.out, HXE.out, if_neg (fun h => by rw [h.1] at e1; cases e1)]
                rfl
              go_wp2
              go_roundw
              case rel => exact ⟨i + 1, by go_num, by omega, by first | (rw [HT.out]; done) | (rw [HT.out]; rfl), by rw [HT.out]; exact HB.out, HLW.out⟩
              case measure => simp [RowKit.intOf]; omega
            | true =>
              cases e2 : (x.name.toList == name.toList) with
              | false =>
                have HT : Hid (getL (q.take (i + 1)) 4 name = none) := by
                  show _ = _
                  rw [getL_take HIL.out, HRR.out, HXE.out, if_neg (fun h => by rw [h.2] at e2; simp at e2)]
                  rfl
                go_wp2
                go_roundw
                case rel => exact ⟨i + 1, by go_num, by omega, by first | (rw [HT.out]; done) | (rw [HT.out]; rfl), by rw [HT.out]; exact HB.out, HLW.out⟩
                case measure => simp [RowKit.intOf]; omega
              | true =>
                have HT : Hid (getL (q.take (i + 1)) 4 name = some x) := by
                  show _ = _
                  rw [getL_take HIL.out, HRR.out, HXE.out, if_pos ⟨by simpa using e1, by rw [eqB] at e2; simpa using e2⟩]
                  rfl
                obtain ⟨V5, hst5, hb5, -, hl5⟩ := storing HB.out x
                have HB5 := Lib.hid hb5
                have HL5 := Lib.hid (hl5 _ _ HLW.out (Nat.le_refl _))
                clear hb5 hl5
                go_wp2_with (first | (refine wpList_got (v := encO x) rfl (load_mid hrow rfl rfl) ?_) | (refine wpList_skip rfl (hst5 rfl rfl rfl) ?_))
                go_roundw
                case rel => exact ⟨i + 1, by go_num, by omega, by first | (rw [HT.out]; done) | (rw [HT.out]; rfl), by rw [HT.out]; exact HB5.out, HL5.out⟩
                case measure => simp [RowKit.intOf]; omega
        · have hlt' : ¬ (i : Int) < (q.length : Int) := by omega
          obtain rfl : R = some vo := by
            rw [← HRR.out, List.take_of_length_le (by omega)]
            exact HV1.out
          have HWW := Lib.hid (HW.out.trans (HLW.out.mono HXX.out))
          have HAC := Lib.hid (atts_any q (.slice o1 q.length c1) name wr (HLX.out.after HLW.out) HQ.out)
          clear hi hlt HLX HRR HV1
          go_wp2_with (fail)
          refine HAC.out.mono ?_
          rintro e W5 ⟨A, av, rfl, rfl, hA5, hb5⟩
          have HB5 := Lib.hid (HB.out.after hb5)
          have HG5 := Lib.hid ((HA.out.after HLW.out).after hb5)
          have HW5 := Lib.hid (HWW.out.trans (hb5.mono HWW.out.size))
          have HNA := Lib.hid (Nat.lt_of_le_of_lt (atts_len q name) HQ.out)
          obtain ⟨A, hAe⟩ : ∃ A, attsL q name = A := ⟨_, rfl⟩
          rw [hAe] at hA5 HNA HV2
          have HA5 := Lib.hid hA5
          obtain ⟨o2, c2, rfl, hA63, -⟩ := hA5.objs (by have := HNA.out; omega)
          clear hb5 hA5 hAe HAC HB HLW HA HWW HQ
          go_wp2_with (fail)
          go_loopw [12, 13] (fun mv iv wr => ∃ i : Nat, iv = .int .i64 (i : Int) ∧ i ≤ A.length ∧ mv = .bool ((A.take i).all fun a => !decide (a.name = G.obj.name)) ∧ Below W5.heap.size W5 wr) (fun _ iv _ => A.length - (RowKit.intOf iv).toNat)
          case atStart => exact ⟨0, rfl, Nat.zero_le _, rfl, Below.refl _ _⟩
          case round =>
            obtain ⟨i, rfl, hi, rfl, hlw⟩ := hrel
            obtain ⟨T, hT⟩ : ∃ T, ((A.take i).all fun a => !decide (a.name = G.obj.name)) = T := ⟨_, rfl⟩
            rw [hT]
            have HTT := Lib.hid hT
            clear hT
            by_cases hlt : i < A.length
            · have hlt' : (i : Int) < (A.length : Int) := by omega
              obtain ⟨o', c', he, -, hx⟩ := (HA5.out.after hlw).objs (by have := HNA.out; omega)
              cases he
              obtain ⟨g, off, rfl, -, hrow⟩ := hx i hlt
              obtain ⟨x, hxe⟩ : ∃ x, A[i] = x := ⟨_, rfl⟩
              rw [hxe] at hrow
              have c1 := row_cell hrow 1 _ rfl
              have a2 : wr.cell? ⟨W2.heap.size, 2, none⟩ = some (.string G.obj.name) := (cell_of_row wr _ 2 _ _ _ (HG5.out.after hlw)).trans rfl
              have HALL : Hid (((A.take (i + 1)).all fun a => !decide (a.name = G.obj.name)) = (T && !decide (x.name = G.obj.name))) := by
                show _ = _
                rw [all_take hlt, HTT.out, hxe]
              have HC1 := Lib.hid c1
              have HC2 := Lib.hid a2
              have HBL := Lib.hid hlw
              have HIL := Lib.hid hlt
              clear hx hxe hrow c1 a2 hlw hlt
              go_wp2_with (fail)
              cases T with
              | false =>
                refine wp_region_held_drew (S := fun V => V.cell? ⟨g, off + i * 20 + 1, none⟩ = some (.string x.name) ∧ Below W5.heap.size W5 V) (by kernel_rfl) ⟨HC1.out, HBL.out.drew⟩ (fun _ => ?_)
                refine HeldBy.gen (fun V => V.cell? ⟨g, off + i * 20 + 1, none⟩ = some (.string x.name) ∧ Below W5.heap.size W5 V) ⟨HC1.out, HBL.out.drew⟩ ?_
                clear HC1 HBL
                rintro U0 HS
                refine HeldBy.take (i := 0) rfl (by kernel_rfl) (by kernel_rfl) (by kernel_rfl) (fun _ _ _ h => h) (by rfl) (fun _ _ => by first | (go_simp; rfl) | (go_simp; done)) (by go_simp; rfl) HS ?_
                refine HeldBy.take (i := 1) rfl (by kernel_rfl) (by kernel_rfl) (by kernel_rfl) (fun _ _ _ h => h) (by rfl) (fun _ _ => by first | (go_simp; rfl) | (go_simp; done)) (by go_simp; rfl) HS ?_
                refine HeldBy.skip (i := 2) rfl (by kernel_rfl) (by kernel_rfl) (by kernel_rfl) (fun _ _ _ h => h) (by rfl) (by go_simp; rfl) HS ?_
                refine HeldBy.skip (i := 3) rfl (by kernel_rfl) (by kernel_rfl) (by kernel_rfl) (fun _ _ _ h => h) (by rfl) (by go_simp; rfl) HS ?_
                refine HeldBy.skip (i := 4) rfl (by kernel_rfl) (by kernel_rfl) (by kernel_rfl) (fun _ _ _ h => h) (by rfl) (by go_simp; rfl) HS ?_
                refine HeldBy.skip (i := 5) rfl (by kernel_rfl) (by kernel_rfl) (by kernel_rfl) (fun _ _ _ h => h) (by rfl) (by go_simp; rfl) HS ?_
                refine HeldBy.skip (i := 6) rfl (by kernel_rfl) (by kernel_rfl) (by kernel_rfl) (fun _ _ _ h => h) (by rfl) (by go_simp; rfl) HS ?_
                refine HeldBy.skip (i := 7) rfl (by kernel_rfl) (by kernel_rfl) (by kernel_rfl) (fun _ _ _ h => h) (by rfl) (by go_simp; rfl) HS ?_
                refine HeldBy.skip (i := 8) rfl (by kernel_rfl) (by kernel_rfl) (by kernel_rfl) (fun _ _ _ h => h) (by rfl) (by go_simp; rfl) HS ?_
                refine HeldBy.skip (i := 9) rfl (by kernel_rfl) (by kernel_rfl) (by kernel_rfl) (fun _ _ _ h => h) (by rfl) (by go_simp; rfl) HS ?_
                refine HeldBy.skip (i := 10) rfl (by kernel_rfl) (by kernel_rfl) (by kernel_rfl) (fun _ _ _ h => h) (by rfl) (by go_simp; rfl) HS ?_
                refine HeldBy.take (i := 11) rfl (by kernel_rfl) (by kernel_rfl) (by kernel_rfl) (fun _ _ _ h => h) (by rfl) (fun _ _ => by first | (go_simp; rfl) | (go_simp; done)) (by go_simp; rfl) HS ?_
                refine HeldBy.take (i := 12) rfl (by kernel_rfl) (by kernel_rfl) (by kernel_rfl) (fun _ _ _ h => h) (by rfl) (fun _ _ => by first | (go_simp; rfl) | (go_simp; done)) (by go_simp; rfl) HS ?_
                refine wpAnyH_done (by kernel_rfl) ?_ _
                have HBU := Lib.hid HS.2
                clear HS
                go_wp2
                go_roundw
                case rel => exact ⟨i + 1, by go_num, by have := HIL.out; omega, by rw [HALL.out]; rfl, HBU.out⟩
                case measure => have := HIL.out; simp [RowKit.intOf]; omega
              | true =>
                refine wp_region_held_drew (S := fun V => V.cell? ⟨g, off + i * 20 + 1, none⟩ = some (.string x.name) ∧ V.cell? ⟨W2.heap.size, 2, none⟩ = some (.string G.obj.name) ∧ Below W5.heap.size W5 V) (by kernel_rfl) ⟨HC1.out, HC2.out, HBL.out.drew⟩ (fun _ => ?_)
                refine HeldBy.gen (fun V => V.cell? ⟨g, off + i * 20 + 1, none⟩ = some (.string x.name) ∧ V.cell? ⟨W2.heap.size, 2, none⟩ = some (.string G.obj.name) ∧ Below W5.heap.size W5 V) ⟨HC1.out, HC2.out, HBL.out.drew⟩ ?_
                clear HC1 HC2 HBL
                rintro U0 HS
                refine HeldBy.take (i := 0) rfl (by kernel_rfl) (by kernel_rfl) (by kernel_rfl) (fun _ _ _ h => h) (by rfl) (fun _ _ => by first | (go_simp; rfl) | (go_simp; done)) (by go_simp; rfl) HS ?_
                refine HeldBy.take (i := 1) rfl (by kernel_rfl) (by kernel_rfl) (by kernel_rfl) (fun _ _ _ h => h) (by rfl) (fun _ _ => by first | (go_simp; rfl) | (go_simp; done)) (by go_simp; rfl) HS ?_
                refine HeldBy.take (i := 2) rfl (by kernel_rfl) (by kernel_rfl) (by kernel_rfl) (fun _ _ _ h => h) (by rfl) (fun _ _ => by first | (go_simp; rfl) | (go_simp; done)) (by go_simp; rfl) HS ?_
                refine HeldBy.take (i := 3) rfl (by kernel_rfl) (by kernel_rfl) (by kernel_rfl) (fun _ _ _ h => h) (by rfl) (fun _ _ => by first | (go_simp; rfl) | (go_simp; done)) (by go_simp; rfl) HS ?_
                refine HeldBy.take (i := 4) rfl (by kernel_rfl) (by kernel_rfl) (by kernel_rfl) (fun _ _ _ h => h) (by rfl) (fun _ _ => by first | (go_simp; rfl) | (go_simp; done)) (by go_simp; rfl) HS ?_
                refine HeldBy.take (i := 5) rfl (by kernel_rfl) (by kernel_rfl) (by kernel_rfl) (fun _ _ _ h => h) (by rfl) (fun _ _ => by first | (go_simp; rfl) | (go_simp; done)) (by go_simp; rfl) HS ?_
                refine HeldBy.take (i := 6) (v := .string x.name) rfl (by kernel_rfl) (by kernel_rfl) (by kernel_rfl) (fun _ _ _ h => h) (by rfl) (fun V hV => by have hc := hV.1; first | (go_simp; rfl) | (go_simp; done)) (by go_simp; rfl) HS ?_
                refine HeldBy.take (i := 7) rfl (by kernel_rfl) (by kernel_rfl) (by kernel_rfl) (fun _ _ _ h => h) (by rfl) (fun _ _ => by first | (go_simp; rfl) | (go_simp; done)) (by go_simp; rfl) HS ?_
                refine HeldBy.take (i := 8) rfl (by kernel_rfl) (by kernel_rfl) (by kernel_rfl) (fun _ _ _ h => h) (by rfl) (fun _ _ => by first | (go_simp; rfl) | (go_simp; done)) (by go_simp; rfl) HS ?_
                refine HeldBy.take (i := 9) (v := .string G.obj.name) rfl (by kernel_rfl) (by kernel_rfl) (by kernel_rfl) (fun _ _ _ h => h) (by rfl) (fun V hV => by have hc := hV.2.1; first | (go_simp; rfl) | (go_simp; done)) (by go_simp; rfl) HS ?_
                refine HeldBy.take (i := 10) rfl (by kernel_rfl) (by kernel_rfl) (by kernel_rfl) (fun _ _ _ h => h) (by rfl) (fun _ _ => by first | (go_simp; rfl) | (go_simp; done)) (by go_simp; rfl) HS ?_
                refine HeldBy.take (i := 11) rfl (by kernel_rfl) (by kernel_rfl) (by kernel_rfl) (fun _ _ _ h => h) (by rfl) (fun _ _ => by first | (go_simp; rfl) | (go_simp; done)) (by go_simp; rfl) HS ?_
                refine HeldBy.take (i := 12) rfl (by kernel_rfl) (by kernel_rfl) (by kernel_rfl) (fun _ _ _ h => h) (by rfl) (fun _ _ => by first | (go_simp; rfl) | (go_simp; done)) (by go_simp; rfl) HS ?_
                refine wpAnyH_done (by kernel_rfl) ?_ _
                have HBU := Lib.hid HS.2.2
                clear HS
                have HE : Hid ((x.name.toList != G.obj.name.toList) = (true && !decide (x.name = G.obj.name))) := by
                  show _ = _
                  rw [← eqB]
                  rfl
                go_wp2
                go_roundw
                case rel => exact ⟨i + 1, by go_num, by have := HIL.out; omega, by rw [HALL.out, ← HE.out]; rfl, HBU.out⟩
                case measure => have := HIL.out; simp [RowKit.intOf]; omega
            · have hlt' : ¬ (i : Int) < (A.length : Int) := by omega
              have HTA : Hid ((A.all fun a => !decide (a.name = G.obj.name)) = T) := by
                show _ = _
                rw [← HTT.out, List.take_of_length_le (by omega)]
              have HLI := Lib.hid (live_any wr)
              have HBX := Lib.hid (HB5.out.after hlw)
              have HWL := Lib.hid (HW5.out.trans (hlw.mono HW5.out.size))
              clear hlw hlt hi HTT HA5 HG5 HB5 HW5
              go_wp2_with (fail)
              refine HLI.out.mono ?_
              rintro e W7 ⟨rfl, hb7⟩
              have m9 := (HBX.out.after hb7).c9
              have HX := Lib.hid (HWL.out.trans (hb7.mono HWL.out.size))
              clear hb7 HLI HBX HWL
              cases T with
              | false =>
                clear m9
                go_wp2
                go_ret
                exact ⟨rfl, HX.out⟩
              | true =>
                have hno : ¬ ∃ a ∈ A, a.name = G.obj.name := by
                  rintro ⟨a, ha, hn⟩
                  have := List.all_eq_true.1 HTA.out a ha
                  rw [hn] at this
                  simp at this
                have hm := HV2.out.resolve_left hno
                by_cases h1 : vo.mode = 1
                · have hA0 : A = [] := by
                    cases A with
                    | nil => rfl
                    | cons a r => exact absurd ⟨h1, by simp⟩ hm
                  have q1 : (vo.mode != 1) = false := by simp [h1]
                  subst hA0
                  clear hno hm h1
                  go_wp2
                  go_ret
                  exact ⟨rfl, HX.out⟩
                · have q1 : (vo.mode != 1) = true := by simpa using h1
                  clear hno hm h1
                  go_wp2
                  go_ret
                  exact ⟨rfl, HX.out⟩
    · have e2 : (G.obj.version != 0) = true := by simpa using h2
      clear HCS h1 h2 HL HQ
      go_wp2_with (refine wpList_skip rfl (sx rfl rfl rfl) ?_)
      refine HLV.out.mono ?_
      rintro e W3 ⟨rfl, hb3⟩
      have HX := Lib.hid (HW.out.trans (hb3.mono HW.out.size))
      clear HLV hb3 HW HA sx a0 a3
      go_wp2
      go_ret
      exact ⟨rfl, HX.out⟩
  · have e1 : (G.act != 1) = true := by simpa using h1
    clear HCS h1 HL HQ a3
    go_wp2_with (refine wpList_skip rfl (sx rfl rfl rfl) ?_)
    refine HLV.out.mono ?_
    rintro e W3 ⟨rfl, hb3⟩
    have HX := Lib.hid (HW.out.trans (hb3.mono HW.out.size))
    clear HLV hb3 HW HA sx a0
    go_wp2
    go_ret
    exact ⟨rfl, HX.out⟩
end Go.Proofs.Ytigoghhjncpgfaa.O.B
