/- The document: what is done next for a volume. -/
import Derived.Test.YtigoghhjncpgfaaARVol0
import Derived.Test.YtigoghhjncpgfaaARWant
import Derived.Test.YtigoghhjncpgfaaARAtts
import Derived.Test.YtigoghhjncpgfaaKRef
namespace Go.Proofs.Ytigoghhjncpgfaa.O.B
open Go Go.RowKit Go.Shelf Go.Lib RangeMap KM T
attribute [local go_sem] Oper.semAt_some

theorem get_name {l : List Obj} {k : Int} {n : ByteArray} {o : Obj} (h : getL l k n = some o) : o.name = n := by
  have := List.find?_some h
  simp only [Bool.and_eq_true, decide_eq_true_eq] at this
  exact this.2
theorem attach_size (v n : ByteArray) (hv : v.size ≤ 140737488351232) (hn : n.size ≤ 140737488351232) : (attachN v n).size ≤ 9223372036854775807 := by
  have e : (attachN v n).data.toList.length = (attachN v n).size := size_list _
  rw [attachN_list, List.length_append, List.length_cons, size_list, size_list] at e
  omega
theorem any_mem (s : ByteArray) (A : List Obj) : (A.any fun o => decide (o.node = s)) = memB s (risB (A.map Obj.node)) := by
  rw [Bool.eq_iff_iff, mem_iff, (risB_spec _).2 s, List.any_eq_true, List.mem_map]
  simp

set_option maxRecDepth 100000 in
set_option maxHeartbeats 16000000 in
theorem rvol_any (l : List Obj) (v : Value) (ver : Int) (name : ByteArray) (w : World) (hl : ObjsIn w v l) (hn : l.length < 90000) (hz : ∀ o ∈ l, o.name.size ≤ 140737488351232 ∧ o.node.size ≤ 140737488351232) :
    Calls Try.prog 20 #[v, .int .u64 ver, .string name] w fun e w' => e = .returned (encA (volumeA l ver name)) ∧ Below w.heap.size w w' := by
  obtain ⟨o, c, rfl, -, -⟩ := id hl
  have HL := Lib.hid hl
  have HN := Lib.hid hn
  have HZ := Lib.hid hz
  have hg := rget_any l (.slice o l.length c) 4 name
  obtain ⟨x, hx⟩ : ∃ x, volumeA l ver name = x := ⟨_, rfl⟩
  rw [hx]
  obtain ⟨r, hr⟩ : ∃ r, getL l 4 name = r := ⟨_, rfl⟩
  rw [hr] at hg
  unfold volumeA at hx
  rw [hr] at hx
  have HXX := Lib.hid hx
  have HG := Lib.hid hg
  have HRR := Lib.hid hr
  clear hl hn hz hg hx hr
  go_enter Try.func20, Try.ntmps20
  go_upto_region 1 with (fail)
  refine wp_gen (fun V => BoxA V w.heap.size nothing ∧ Below w.heap.size w V) ⟨heap_alloc_new w _, (Below.refl _ _).alloc (Nat.le_refl _) _⟩ ?_
  rintro V0 ⟨ho, hlw⟩
  have HO := Lib.hid ho
  have HW := Lib.hid hlw
  have HGC := Lib.hid (HG.out V0 (HL.out.after hlw))
  clear ho hlw HG
  go_wp2_with (fail)
  refine HGC.out.mono ?_
  rintro e W1 ⟨rfl, hb1⟩
  obtain ⟨V, hst, hbx, hlw, -⟩ := boxing W1 (r.getD O0)
  have HO1 := Lib.hid ((HO.out.after hb1).after hlw)
  have HW1 := Lib.hid ((HW.out.trans (hb1.mono HW.out.size)).trans (hlw.mono (HW.out.trans (hb1.mono HW.out.size)).size))
  clear HGC HO HW hb1 hlw
  cases r with
  | none =>
    have HVV : Hid (x = nothing) := HXX.out.symm
    clear HXX hbx
    obtain ⟨V8, hst8, ho8, -, hb8⟩ := acting (HO1.out) (nothing)
    have HO8 := Lib.hid ho8
    have HX8 := Lib.hid (hb8 _ _ (HW1.out) (Nat.le_refl _))
    clear ho8 hb8 
    go_wp2_with (first | (refine wpList_skip rfl (hst8 rfl rfl rfl) ?_) | (refine wpList_skip rfl (hst rfl rfl rfl) ?_) | ((with_reducible refine wpList_build_to rfl 42 _ rfl (cellsA nothing) ?_ ?_); exact built_act0))
    refine bodyPost_ret (v := encA (nothing)) (results_cell_row rfl _ _ w.heap.size 42 (cellsA (nothing)) (0, 0) _ rfl HO8.out undAct rfl sizeAct) rfl ?_
    exact ⟨by rw [HVV.out], HX8.out⟩
  | some vo =>
    have HX1 : Hid ((match (attsL l name).find? fun a => decide ((stepA l ver name a).act ≠ 0) with | some a => stepA l ver name a | none => beginN vo (wantL l name) (attsL l name) (up ver)) = x) := HXX.out
    have HVN : Hid (vo.name = name) := get_name HRR.out
    have HVS : Hid (name.size ≤ 140737488351232) := by
      show _ ≤ _
      rw [← HVN.out]
      exact (HZ.out vo (List.mem_of_find?_eq_some HRR.out)).1
    have HPH : Hid (vo.phase ≠ 3 → wantL l name = []) := fun hp => by
      unfold wantL
      rw [HRR.out]
      exact if_neg hp
    have HBX : Hid (BoxO V W1.heap.size vo) := hbx
    have HC := Lib.hid (rwant_any l (.slice o l.length c) name V (HL.out.after HW1.out) HN.out)
    clear HXX hbx HRR
    obtain ⟨NX, hNX⟩ : ∃ NX, up ver = NX := ⟨_, rfl⟩
    have hNX' : IntKind.u64.wrap (ver + 1) = NX := hNX
    have HNX := Lib.hid hNX
    clear hNX
    go_wp2_with (refine wpList_skip rfl (hst rfl rfl rfl) ?_)
    refine HC.out.mono ?_
    rintro e W2 ⟨L, wv, rfl, rfl, hT2, hb2⟩
    have HB2 := Lib.hid (HBX.out.after hb2)
    have HO2 := Lib.hid (HO1.out.after hb2)
    have HW2 := Lib.hid (HW1.out.trans (hb2.mono HW1.out.size))
    have HT2 := Lib.hid (txt_low hT2 HW1.out.size)
    have HAC := Lib.hid (ratts_any l (.slice o l.length c) name W2 (HL.out.after HW2.out) HN.out)
    clear hT2 hb2 HBX HO1 HW1 HC
    go_wp2_with (fail)
    refine HAC.out.mono ?_
    rintro e W3 ⟨A, av, rfl, rfl, hA3, hb3⟩
    have HB3 := Lib.hid (HB2.out.after hb3)
    have HO3 := Lib.hid (HO2.out.after hb3)
    have HW3 := Lib.hid (HW2.out.trans (hb3.mono HW2.out.size))
    have HT3 := Lib.hid (HT2.out.after hb3)
    have HA3 := Lib.hid (out_low hA3 HW2.out.size)
    have HNA := Lib.hid (Nat.lt_of_le_of_lt (atts_len l name) HN.out)
    have HNW := Lib.hid (Nat.lt_of_le_of_lt (want_len l name) HN.out)
    have HWS : Hid (∀ s ∈ wantL l name, s.size ≤ 140737488351232) := fun s hs => by
      obtain ⟨p, hp, rfl⟩ := want_mem hs
      exact (HZ.out p hp).2
    have HAV : Hid (∀ a ∈ attsL l name, a.volume = name) := fun a ha => (att_mem ha).2.2
    obtain ⟨A, hAe⟩ : ∃ A, attsL l name = A := ⟨_, rfl⟩
    obtain ⟨L, hLe⟩ : ∃ L, wantL l name = L := ⟨_, rfl⟩
    have HST : Hid (∀ a, stepA l ver name a = goN a (memB a.node L) NX) := fun a => by
      unfold stepA
      rw [hLe, HNX.out]
    rw [hAe] at HX1 HA3 HNA HAV
    rw [hLe] at HX1 HT3 HNW HWS HPH
    rw [HNX.out] at HX1
    clear hA3 hb3 HB2 HO2 HW2 HT2 HAC hAe hLe HZ HN HL
    obtain ⟨o2, c2, rfl, hA63, -⟩ := HA3.out.objs (by have := HNA.out; omega)
    obtain ⟨o3, c3, rfl, -⟩ := HT3.out.cells
    have hL63 : L.length ≤ 9223372036854775807 := by have := HNW.out; omega
    go_wp2_with (fail)
    go_loopw [11] (fun iv wr => ∃ i : Nat, iv = .int .i64 (i : Int) ∧ i ≤ A.length ∧ Hid (∀ j (hj : j < A.length), j < i → (stepA l ver name A[j]).act = 0) ∧ Below W3.heap.size W3 wr) (fun iv _ => A.length - (RowKit.intOf iv).toNat)
    case atStart => exact ⟨0, rfl, Nat.zero_le _, fun j _ h => absurd h (by omega), Below.refl _ _⟩
    case round =>
      obtain ⟨i, rfl, hi, hall, hb⟩ := hrel
      by_cases hlt : i < A.length
      · have hlt' : (i : Int) < (A.length : Int) := by omega
        obtain ⟨o', c', he, -, hxr⟩ := (HA3.out.after hb).objs (by have := HNA.out; omega)
        cases he
        obtain ⟨g, off, rfl, hgl, hrow⟩ := hxr i hlt
        obtain ⟨a, hae⟩ : ∃ a, A[i] = a := ⟨_, rfl⟩
        rw [hae] at hrow
        have HFN : Hid (∀ G, stepA l ver name a = G → G.act ≠ 0 → x = G) := fun G hG h0 => by
          rw [← HX1.out, findG_at (p := fun a => decide ((stepA l ver name a).act ≠ 0)) hlt (fun j hj hji => by rw [hall.out j hj hji]; rfl) (by rw [hae, hG]; exact decide_eq_true h0), hae]
          exact hG
        have HNO : Hid (stepA l ver name a = nothing → ∀ j (hj : j < A.length), j < i + 1 → (stepA l ver name A[j]).act = 0) := fun hG j hj hji => by
          by_cases e : j = i
          · subst e
            rw [hae, hG]
            rfl
          · exact hall.out j hj (by omega)
        have HAVA : Hid (a.volume = name) := HAV.out a (by rw [← hae]; exact List.getElem_mem hlt)
        have HSA := Lib.hid (HST.out a)
        obtain ⟨V4, hst4, hbx4, hlw4, hs4⟩ := boxing wr a
        have HA := Lib.hid hbx4
        have HO := Lib.hid ((HO3.out.after hb).after hlw4)
        have HT := Lib.hid ((HT3.out.after hb).after hlw4)
        have HB := Lib.hid (hb.trans (hlw4.mono hb.size))
        have HWW := Lib.hid (HW3.out.trans (HB.out.mono HW3.out.size))
        have HSZ := Lib.hid (show w.heap.size < wr.heap.size from by have h1 := HO3.out.lt; have h2 := hb.size; omega)
        have c17 := hbx4.c17
        have c18 := hbx4.c18
        have c13 := hbx4.c13
        clear hxr hae hbx4 hlw4 hs4 hb hall HX1
        by_cases h9 : a.phase = 9
        · have q9 : (a.phase == 9) = true := by simpa using h9
          have HVV : Hid (x = askA ⟨4, name, a.num, 0, E0, a.node, E0⟩) := by
            refine HFN.out _ ?_ (by show (3 : Int) ≠ 0; decide)
            rw [HSA.out, ← HAVA.out]
            exact if_pos h9
          have HBU := Lib.hid (built_callN 4 a.num name a.node)
          obtain ⟨C, hC⟩ : ∃ C : Cl, ⟨4, name, a.num, 0, E0, a.node, E0⟩ = C := ⟨_, rfl⟩
          rw [hC] at HVV HBU
          have HCA := Lib.hid (rask_any C V4)
          unfold encC at HCA
          clear hC h9 HFN HNO HSA
          go_wp2_with (first | (refine wpList_got (v := encO a) rfl (load_mid hrow rfl rfl) ?_) | (refine wpList_skip rfl (hst4 rfl rfl rfl) ?_) | ((with_reducible refine wpList_build_to rfl 40 _ rfl (cellsC C) ?_ ?_); exact HBU.out))
          refine HCA.out.mono ?_
          rintro e W7 ⟨rfl, hb7⟩
          obtain ⟨V8, hst8, ho8, -, hb8⟩ := acting (HO.out.after hb7) (askA C)
          have HO8 := Lib.hid ho8
          have HX8 := Lib.hid (hb8 _ _ (HWW.out.trans (hb7.mono HWW.out.size)) (Nat.le_refl _))
          clear ho8 hb8 hb7 HCA hrow c17 c18 c13
          go_wp2_with (first | (refine wpList_skip rfl (hst8 rfl rfl rfl) ?_))
          refine bodyPost_ret (v := encA (askA C)) (results_cell_row rfl _ _ w.heap.size 42 (cellsA (askA C)) (0, 0) _ rfl HO8.out undAct rfl sizeAct) rfl ?_
          exact ⟨by rw [HVV.out], HX8.out⟩
        · have q9 : (a.phase == 9) = false := by simpa using h9
          have HSB : Hid (stepA l ver name a = if memB a.node L = false then writeA { a with phase := 9, num := NX } else if a.phase = 7 then askU 3 a else nothing) := HSA.out.trans (if_neg h9)
          have HHA := Lib.hid (has_any L (.slice o3 L.length c3) a.node _ V4 HT.out (by have := HNW.out; omega))
          clear h9 HSA
          cases hm : memB a.node L with
          | false =>
            rw [hm] at HHA
            have HVV : Hid (x = writeA { a with phase := 9, num := NX }) := HFN.out _ (HSB.out.trans (if_pos hm)) (by show (1 : Int) ≠ 0; decide)
            clear hm HSB HFN HNO
            go_wp2_with (first | (refine wpList_got (v := encO a) rfl (load_mid hrow rfl rfl) ?_) | (refine wpList_skip rfl (hst4 rfl rfl rfl) ?_))
            refine HHA.out.mono ?_
            rintro e W5 ⟨rfl, hb5⟩
            have HA5 := Lib.hid (HA.out.after hb5)
            have HO5 := Lib.hid (HO.out.after hb5)
            have HW5 := Lib.hid (HWW.out.trans (hb5.mono HWW.out.size))
            have g17 := HA5.out.free 17
            have g18 := HA5.out.free 18
            have b17 := HA5.out.c17
            have b18 := HA5.out.c18
            clear hb5 HHA hrow c17 c18 c13 hst4
            go_upto_region 13 with (fail)
            refine wp_gen (fun V => BoxO V wr.heap.size { a with phase := 9, num := NX } ∧ BoxA V w.heap.size nothing ∧ Below w.heap.size w V) ⟨((HA5.out.s17 9).s18 NX), ((heap_setCell_other _ ⟨wr.heap.size, 18, none⟩ w.heap.size _ (by have := HSZ.out; show w.heap.size ≠ wr.heap.size; omega)).trans ((heap_setCell_other _ ⟨wr.heap.size, 17, none⟩ w.heap.size _ (by have := HSZ.out; show w.heap.size ≠ wr.heap.size; omega)).trans HO5.out)), ((HW5.out.setCell (by have := HSZ.out; show w.heap.size ≤ wr.heap.size; omega) _).setCell (by have := HSZ.out; show w.heap.size ≤ wr.heap.size; omega) _)⟩ ?_
            clear HA5 HO5 HW5 g17 g18 b17 b18
            rintro V6 ⟨hbx, ho, hlw⟩
            have HO6 := Lib.hid ho
            have HW6 := Lib.hid hlw
            clear ho hlw
            have HCA := Lib.hid (rwrite_any { a with phase := 9, num := NX } V6)
            go_wp2_with (first | ((with_reducible refine wpList_load_obj ?_ rfl ?_ hbx ?_); rfl; rfl))
            refine HCA.out.mono ?_
            rintro e W7 ⟨rfl, hb7⟩
            obtain ⟨V8, hst8, ho8, -, hb8⟩ := acting (HO6.out.after hb7) (writeA { a with phase := 9, num := NX })
            have HO8 := Lib.hid ho8
            have HX8 := Lib.hid (hb8 _ _ (HW6.out.trans (hb7.mono HW6.out.size)) (Nat.le_refl _))
            clear ho8 hb8 hb7 HCA hbx
            go_wp2_with (first | (refine wpList_skip rfl (hst8 rfl rfl rfl) ?_))
            refine bodyPost_ret (v := encA (writeA { a with phase := 9, num := NX })) (results_cell_row rfl _ _ w.heap.size 42 (cellsA (writeA { a with phase := 9, num := NX })) (0, 0) _ rfl HO8.out undAct rfl sizeAct) rfl ?_
            exact ⟨by rw [HVV.out], HX8.out⟩
          | true =>
            rw [hm] at HHA
            have HSC : Hid (stepA l ver name a = if a.phase = 7 then askU 3 a else nothing) := HSB.out.trans (if_neg (by rw [hm]; simp))
            clear hm HSB
            by_cases h7 : a.phase = 7
            · have q7 : (a.phase == 7) = true := by simpa using h7
              have HVV : Hid (x = askA ⟨3, name, a.num, 0, E0, a.node, E0⟩) := by
                refine HFN.out _ ?_ (by show (3 : Int) ≠ 0; decide)
                rw [HSC.out, ← HAVA.out]
                exact if_pos h7
              have HBU := Lib.hid (built_callN 3 a.num name a.node)
              obtain ⟨C, hC⟩ : ∃ C : Cl, ⟨3, name, a.num, 0, E0, a.node, E0⟩ = C := ⟨_, rfl⟩
              rw [hC] at HVV HBU
              clear hC h7 HFN HNO HSC
              go_wp2_with (first | (refine wpList_got (v := encO a) rfl (load_mid hrow rfl rfl) ?_) | (refine wpList_skip rfl (hst4 rfl rfl rfl) ?_))
              refine HHA.out.mono ?_
              rintro e W5 ⟨rfl, hb5⟩
              have d17 := (HA.out.after hb5).c17
              have d18 := (HA.out.after hb5).c18
              have d13 := (HA.out.after hb5).c13
              have HO5 := Lib.hid (HO.out.after hb5)
              have HW5 := Lib.hid (HWW.out.trans (hb5.mono HWW.out.size))
              have HCA := Lib.hid (rask_any C W5)
              unfold encC at HCA
              clear hb5 HHA hrow c17 c18 c13 hst4
              go_wp2_with (first | ((with_reducible refine wpList_build_to rfl 40 _ rfl (cellsC C) ?_ ?_); exact HBU.out))
              refine HCA.out.mono ?_
              rintro e W7 ⟨rfl, hb7⟩
              obtain ⟨V8, hst8, ho8, -, hb8⟩ := acting (HO5.out.after hb7) (askA C)
              have HO8 := Lib.hid ho8
              have HX8 := Lib.hid (hb8 _ _ (HW5.out.trans (hb7.mono HW5.out.size)) (Nat.le_refl _))
              clear ho8 hb8 hb7 HCA d17 d18 d13
              go_wp2_with (first | (refine wpList_skip rfl (hst8 rfl rfl rfl) ?_))
              refine bodyPost_ret (v := encA (askA C)) (results_cell_row rfl _ _ w.heap.size 42 (cellsA (askA C)) (0, 0) _ rfl HO8.out undAct rfl sizeAct) rfl ?_
              exact ⟨by rw [HVV.out], HX8.out⟩
            · have q7 : (a.phase == 7) = false := by simpa using h7
              have HALL := Lib.hid (HNO.out (HSC.out.trans (if_neg h7)))
              clear h7 HSC HFN HNO
              go_wp2_with (first | (refine wpList_got (v := encO a) rfl (load_mid hrow rfl rfl) ?_) | (refine wpList_skip rfl (hst4 rfl rfl rfl) ?_))
              refine HHA.out.mono ?_
              rintro e W5 ⟨rfl, hb5⟩
              have d17 := (HA.out.after hb5).c17
              have HB5 := Lib.hid (HB.out.trans (hb5.mono HB.out.size))
              clear hb5 HHA hrow c17 c18 c13 hst4
              go_wp2
              go_roundw
              case rel => exact ⟨i + 1, by go_num, by omega, HALL, HB5.out⟩
              case measure => simp [RowKit.intOf]; omega
      · have hlt' : ¬ (i : Int) < (A.length : Int) := by omega
        have HX2 : Hid (beginN vo L A NX = x) := by
          show _ = _
          rw [← HX1.out, findG_no (fun j hj => by rw [hall.out j hj (by omega)]; rfl)]
        have hbx := HB3.out.after hb
        have d17 := hbx.c17
        have HO5 := Lib.hid (HO3.out.after hb)
        have HW5 := Lib.hid (HW3.out.trans (hb.mono HW3.out.size))
        have HTX := Lib.hid (HT3.out.after hb)
        have HAX := Lib.hid (HA3.out.after hb)
        have HBX := Lib.hid hbx
        clear hb hall HX1 hbx HST HAV
        by_cases hp : vo.phase = 3
        · have qp : (vo.phase != 3) = false := by simp [hp]
          clear hp HPH
          go_upto_region 18 with (fail)
          refine wp_gen (fun V => BoxO V W1.heap.size vo ∧ BoxA V w.heap.size nothing ∧ TxtIn V w.heap.size (.slice o3 L.length c3) L ∧ OutIn V w.heap.size (.slice o2 A.length c2) A ∧ Below w.heap.size w V) ⟨HBX.out, HO5.out, HTX.out, HAX.out, HW5.out⟩ ?_
          clear HBX HO5 HTX HAX HW5 d17
          rintro X ⟨hx1, hx2, hx3, hx4, hx5⟩
          have HB6 := Lib.hid hx1
          have HO6 := Lib.hid hx2
          have HT6 := Lib.hid hx3
          have HA6 := Lib.hid hx4
          have HW6 := Lib.hid hx5
          clear hx1 hx2 hx3 hx4 hx5 HB3 HO3 HT3 HA3 HW3
          go_wp2
          go_loopw [13] (fun iv wr => ∃ i : Nat, iv = .int .i64 (i : Int) ∧ i ≤ L.length ∧ Hid (∀ j (hj : j < L.length), j < i → memB L[j] (risB (A.map Obj.node)) = true) ∧ Below X.heap.size X wr) (fun iv _ => L.length - (RowKit.intOf iv).toNat)
          case atStart => exact ⟨0, rfl, Nat.zero_le _, fun j _ h => absurd h (by omega), Below.refl _ _⟩
          case round =>
            obtain ⟨i2, rfl, hi2, hall, hb⟩ := hrel
            by_cases hlt2 : i2 < L.length
            · have hlt2' : (i2 : Int) < (L.length : Int) := by omega
              obtain ⟨o', c', he, hxr⟩ := (HT6.out.after hb).cells
              cases he
              obtain ⟨g, rfl, hgl, hcl⟩ := hxr i2 hlt2
              obtain ⟨s, hse⟩ : ∃ s, L[i2] = s := ⟨_, rfl⟩
              have hcell : ∀ V : World, TxtIn V w.heap.size (.slice (some ⟨g, 0, none⟩) L.length c3) L → V.cell? ⟨g, i2, none⟩ = some (.string s) := fun V hV => by
                obtain ⟨o4, c4, e4, h4⟩ := hV.cells
                cases e4
                obtain ⟨g5, e5, -, h5⟩ := h4 i2 hlt2
                cases e5
                rw [← hse]
                exact h5
              have HCELL := Lib.hid hcell
              have HFB : Hid (memB s (risB (A.map Obj.node)) = false → besideL L (risB (A.map Obj.node)) = some s) := fun hm => by
                unfold besideL
                rw [findG_at hlt2 (fun j hj hji => by rw [hall.out j hj hji]; rfl) (by rw [hse, hm]; rfl), hse]
              have HNB : Hid (memB s (risB (A.map Obj.node)) = true → ∀ j (hj : j < L.length), j < i2 + 1 → memB L[j] (risB (A.map Obj.node)) = true) := fun hm j hj hji => by
                by_cases e : j = i2
                · subst e
                  rw [hse]
                  exact hm
                · exact hall.out j hj (by omega)
              have HSS : Hid (s.size ≤ 140737488351232) := HWS.out s (by rw [← hse]; exact List.getElem_mem hlt2)
              have HT7 := Lib.hid (HT6.out.after hb)
              have HA7 := Lib.hid (HA6.out.after hb)
              have HB7 := Lib.hid hb
              clear hxr hse hcl hcell hb hall
              go_upto_region 21 with (fail)
              refine wp_gen (fun V => TxtIn V w.heap.size (.slice (some ⟨g, 0, none⟩) L.length c3) L ∧ OutIn V w.heap.size (.slice o2 A.length c2) A ∧ Below X.heap.size X V) ⟨HT7.out, HA7.out, HB7.out⟩ ?_
              clear HT7 HA7 HB7
              rintro Z ⟨hz1, hz2, hz3⟩
              have HT7 := Lib.hid hz1
              have HA7 := Lib.hid hz2
              have HB7 := Lib.hid hz3
              clear hz1 hz2 hz3
              go_wp2
              go_loopw [14, 15] (fun tv kv wr => ∃ (k : Nat) (t : Bool), kv = .int .i64 (k : Int) ∧ tv = .bool t ∧ t = (A.take k).any (fun o => decide (o.node = s)) ∧ k ≤ A.length ∧ Below Z.heap.size Z wr) (fun _ kv _ => A.length - (RowKit.intOf kv).toNat)
              case atStart => exact ⟨0, false, rfl, rfl, rfl, Nat.zero_le _, Below.refl _ _⟩
              case round =>
                obtain ⟨k, t, rfl, rfl, ht, hk, hlk⟩ := hrel
                by_cases hlt3 : k < A.length
                · have hlt3' : (k : Int) < (A.length : Int) := by omega
                  have hsk := (HA7.out.after hlk).objs (by have := HNA.out; omega)
                  obtain ⟨o4, c4, he, -, hi4⟩ := id hsk
                  cases he
                  obtain ⟨g2, off2, rfl, -, -⟩ := hi4 k hlt3
                  obtain ⟨y, hye⟩ : ∃ y, A[k] = y := ⟨_, rfl⟩
                  have hrows : ∀ V : World, ObjsIn V (.slice (some ⟨g2, off2, none⟩) A.length c2) A → V.rangeAt g2 (off2 + k * 20) (cellsO y).toList := fun V hV => by
                    obtain ⟨o5, c5, e5, -, h5⟩ := hV
                    cases e5
                    obtain ⟨g6, off6, e6, -, h6⟩ := h5 k hlt3
                    cases e6
                    rw [← hye]
                    exact h6
                  have HROWS := Lib.hid hrows
                  have htk : (A.take (k + 1)).any (fun o => decide (o.node = s)) = (t || decide (y.node = s)) := by
                    rw [List.take_succ_eq_append_getElem hlt3, hye, ht]
                    simp
                  have HTK := Lib.hid htk
                  have HSL := Lib.hid hsk
                  have HTL := Lib.hid (HT7.out.after hlk)
                  have HWK := Lib.hid hlk
                  clear hi4 hye hrows htk hsk hlk ht
                  go_upto_region 25 with (fail)
                  refine wp_region_held_drew (S := fun V => TxtIn V w.heap.size (.slice (some ⟨g, 0, none⟩) L.length c3) L ∧ ObjsIn V (.slice (some ⟨g2, off2, none⟩) A.length c2) A ∧ Below Z.heap.size Z V) (by kernel_rfl) ⟨HTL.out, HSL.out, HWK.out.drew⟩ (fun _ => ?_)
                  refine HeldBy.gen (fun V => TxtIn V w.heap.size (.slice (some ⟨g, 0, none⟩) L.length c3) L ∧ ObjsIn V (.slice (some ⟨g2, off2, none⟩) A.length c2) A ∧ Below Z.heap.size Z V) ⟨HTL.out, HSL.out, HWK.out.drew⟩ ?_
                  clear HTL HSL HWK
                  rintro U0 HS
                  cases t with
                  | true =>
                    refine HeldBy.take (i := 0) rfl (by kernel_rfl) (by kernel_rfl) (by kernel_rfl) (fun _ _ _ h => h) (by rfl) (fun _ _ => by first | (go_simp; rfl) | (go_simp; done)) (by go_simp; rfl) HS ?_
                    refine HeldBy.take (i := 1) rfl (by kernel_rfl) (by kernel_rfl) (by kernel_rfl) (fun _ _ _ h => h) (by rfl) (fun _ _ => by first | (go_simp; rfl) | (go_simp; done)) (by go_simp; rfl) HS ?_
                    refine HeldBy.skip (i := 2) rfl (by kernel_rfl) (by kernel_rfl) (by kernel_rfl) (fun _ _ _ h => h) (by rfl) (by go_simp; rfl) HS ?_
                    refine HeldBy.skip (i := 3) rfl (by kernel_rfl) (by kernel_rfl) (by kernel_rfl) (fun _ _ _ h => h) (by rfl) (by go_simp; rfl) HS ?_
                    refine HeldBy.skip (i := 4) rfl (by kernel_rfl) (by kernel_rfl) (by kernel_rfl) (fun _ _ _ h => h) (by rfl) (by go_simp; rfl) HS ?_
                    refine HeldBy.skip (i := 5) rfl (by kernel_rfl) (by kernel_rfl) (by kernel_rfl) (fun _ _ _ h => h) (by rfl) (by go_simp; rfl) HS ?_
                    refine HeldBy.skip (i := 6) rfl (by kernel_rfl) (by kernel_rfl) (by kernel_rfl) (fun _ _ _ h => h) (by rfl) (by go_simp; rfl) HS ?_
                    refine HeldBy.skip (i := 7) rfl (by kernel_rfl) (by kernel_rfl) (by kernel_rfl) (fun _ _ _ h => h) (by rfl) (by go_simp; rfl) HS ?_
                    refine HeldBy.skip (i := 8) rfl (by kernel_rfl) (by kernel_rfl) (by kernel_rfl) (fun _ _ _ h => h) (by rfl) (by go_simp; rfl) HS ?_
                    refine HeldBy.skip (i := 9) rfl (by kernel_rfl) (by kernel_rfl) (by kernel_rfl) (fun _ _ _ h => h) (by rfl) (by go_simp; rfl) HS ?_
                    refine HeldBy.skip (i := 10) rfl (by kernel_rfl) (by kernel_rfl) (by kernel_rfl) (fun _ _ _ h => h) (by rfl) (by go_simp; rfl) HS ?_
                    refine HeldBy.skip (i := 11) rfl (by kernel_rfl) (by kernel_rfl) (by kernel_rfl) (fun _ _ _ h => h) (by rfl) (by go_simp; rfl) HS ?_
                    refine HeldBy.take (i := 12) rfl (by kernel_rfl) (by kernel_rfl) (by kernel_rfl) (fun _ _ _ h => h) (by rfl) (fun _ _ => by first | (go_simp; rfl) | (go_simp; done)) (by go_simp; rfl) HS ?_
                    refine HeldBy.take (i := 13) rfl (by kernel_rfl) (by kernel_rfl) (by kernel_rfl) (fun _ _ _ h => h) (by rfl) (fun _ _ => by first | (go_simp; rfl) | (go_simp; done)) (by go_simp; rfl) HS ?_
                    refine wpAnyH_done (by kernel_rfl) ?_ _
                    have HW9 := Lib.hid HS.2.2
                    clear HS HROWS
                    go_wp2
                    go_roundw
                    case rel => exact ⟨k + 1, true, by go_num, rfl, by rw [HTK.out]; rfl, by omega, HW9.out⟩
                    case measure => simp [RowKit.intOf]; omega
                  | false =>
                    by_cases hys : y.node = s
                    · have hyl := list_eq hys
                      have HT9 : Hid ((A.take (k + 1)).any (fun o => decide (o.node = s)) = true) := by show _ = _; rw [HTK.out]; simp [hys]
                      clear hys
                      refine HeldBy.take (i := 0) rfl (by kernel_rfl) (by kernel_rfl) (by kernel_rfl) (fun _ _ _ h => h) (by rfl) (fun _ _ => by first | (go_simp; rfl) | (go_simp; done)) (by go_simp; rfl) HS ?_
                      refine HeldBy.take (i := 1) rfl (by kernel_rfl) (by kernel_rfl) (by kernel_rfl) (fun _ _ _ h => h) (by rfl) (fun _ _ => by first | (go_simp; rfl) | (go_simp; done)) (by go_simp; rfl) HS ?_
                      refine HeldBy.take (i := 2) rfl (by kernel_rfl) (by kernel_rfl) (by kernel_rfl) (fun _ _ _ h => h) (by rfl) (fun _ _ => by first | (go_simp; rfl) | (go_simp; done)) (by go_simp; rfl) HS ?_
                      refine HeldBy.take (i := 3) rfl (by kernel_rfl) (by kernel_rfl) (by kernel_rfl) (fun _ _ _ h => h) (by rfl) (fun _ _ => by first | (go_simp; rfl) | (go_simp; done)) (by go_simp; rfl) HS ?_
                      refine HeldBy.take (i := 4) rfl (by kernel_rfl) (by kernel_rfl) (by kernel_rfl) (fun _ _ _ h => h) (by rfl) (fun _ _ => by first | (go_simp; rfl) | (go_simp; done)) (by go_simp; rfl) HS ?_
                      refine HeldBy.take (i := 5) rfl (by kernel_rfl) (by kernel_rfl) (by kernel_rfl) (fun _ _ _ h => h) (by rfl) (fun _ _ => by first | (go_simp; rfl) | (go_simp; done)) (by go_simp; rfl) HS ?_
                      refine HeldBy.take (i := 6) (v := .string y.node) rfl (by kernel_rfl) (by kernel_rfl) (by kernel_rfl) (fun _ _ _ h => h) (by rfl) (fun V hV => by have h := row_cell (HROWS.out V hV.2.1) 13 _ rfl; first | (go_simp; rfl) | (go_simp; done)) (by go_simp; rfl) HS ?_
                      refine HeldBy.take (i := 7) rfl (by kernel_rfl) (by kernel_rfl) (by kernel_rfl) (fun _ _ _ h => h) (by rfl) (fun _ _ => by first | (go_simp; rfl) | (go_simp; done)) (by go_simp; rfl) HS ?_
                      refine HeldBy.take (i := 8) rfl (by kernel_rfl) (by kernel_rfl) (by kernel_rfl) (fun _ _ _ h => h) (by rfl) (fun _ _ => by first | (go_simp; rfl) | (go_simp; done)) (by go_simp; rfl) HS ?_
                      refine HeldBy.take (i := 9) rfl (by kernel_rfl) (by kernel_rfl) (by kernel_rfl) (fun _ _ _ h => h) (by rfl) (fun _ _ => by first | (go_simp; rfl) | (go_simp; done)) (by go_simp; rfl) HS ?_
                      refine HeldBy.take (i := 10) (v := .string s) rfl (by kernel_rfl) (by kernel_rfl) (by kernel_rfl) (fun _ _ _ h => h) (by rfl) (fun V hV => by have h := HCELL.out V hV.1; first | (go_simp; rfl) | (go_simp; done)) (by go_simp; rfl) HS ?_
                      refine HeldBy.take (i := 11) rfl (by kernel_rfl) (by kernel_rfl) (by kernel_rfl) (fun _ _ _ h => h) (by rfl) (fun _ _ => by first | (go_simp; rfl) | (go_simp; done)) (by go_simp; rfl) HS ?_
                      refine HeldBy.take (i := 12) rfl (by kernel_rfl) (by kernel_rfl) (by kernel_rfl) (fun _ _ _ h => h) (by rfl) (fun _ _ => by first | (go_simp; rfl) | (go_simp; done)) (by go_simp; rfl) HS ?_
                      refine HeldBy.take (i := 13) rfl (by kernel_rfl) (by kernel_rfl) (by kernel_rfl) (fun _ _ _ h => h) (by rfl) (fun _ _ => by first | (go_simp; rfl) | (go_simp; done)) (by go_simp; rfl) HS ?_
                      refine wpAnyH_done (by kernel_rfl) ?_ _
                      have HW9 := Lib.hid HS.2.2
                      clear HS HROWS
                      go_wp2
                      go_roundw
                      case rel => exact ⟨k + 1, true, by go_num, rfl, HT9.out.symm, by omega, HW9.out⟩
                      case measure => simp [RowKit.intOf]; omega
                    · have hyl := list_ne hys
                      have HT9 : Hid ((A.take (k + 1)).any (fun o => decide (o.node = s)) = false) := by show _ = _; rw [HTK.out]; simp [hys]
                      clear hys
                      refine HeldBy.take (i := 0) rfl (by kernel_rfl) (by kernel_rfl) (by kernel_rfl) (fun _ _ _ h => h) (by rfl) (fun _ _ => by first | (go_simp; rfl) | (go_simp; done)) (by go_simp; rfl) HS ?_
                      refine HeldBy.take (i := 1) rfl (by kernel_rfl) (by kernel_rfl) (by kernel_rfl) (fun _ _ _ h => h) (by rfl) (fun _ _ => by first | (go_simp; rfl) | (go_simp; done)) (by go_simp; rfl) HS ?_
                      refine HeldBy.take (i := 2) rfl (by kernel_rfl) (by kernel_rfl) (by kernel_rfl) (fun _ _ _ h => h) (by rfl) (fun _ _ => by first | (go_simp; rfl) | (go_simp; done)) (by go_simp; rfl) HS ?_
                      refine HeldBy.take (i := 3) rfl (by kernel_rfl) (by kernel_rfl) (by kernel_rfl) (fun _ _ _ h => h) (by rfl) (fun _ _ => by first | (go_simp; rfl) | (go_simp; done)) (by go_simp; rfl) HS ?_
                      refine HeldBy.take (i := 4) rfl (by kernel_rfl) (by kernel_rfl) (by kernel_rfl) (fun _ _ _ h => h) (by rfl) (fun _ _ => by first | (go_simp; rfl) | (go_simp; done)) (by go_simp; rfl) HS ?_
                      refine HeldBy.take (i := 5) rfl (by kernel_rfl) (by kernel_rfl) (by kernel_rfl) (fun _ _ _ h => h) (by rfl) (fun _ _ => by first | (go_simp; rfl) | (go_simp; done)) (by go_simp; rfl) HS ?_
                      refine HeldBy.take (i := 6) (v := .string y.node) rfl (by kernel_rfl) (by kernel_rfl) (by kernel_rfl) (fun _ _ _ h => h) (by rfl) (fun V hV => by have h := row_cell (HROWS.out V hV.2.1) 13 _ rfl; first | (go_simp; rfl) | (go_simp; done)) (by go_simp; rfl) HS ?_
                      refine HeldBy.take (i := 7) rfl (by kernel_rfl) (by kernel_rfl) (by kernel_rfl) (fun _ _ _ h => h) (by rfl) (fun _ _ => by first | (go_simp; rfl) | (go_simp; done)) (by go_simp; rfl) HS ?_
                      refine HeldBy.take (i := 8) rfl (by kernel_rfl) (by kernel_rfl) (by kernel_rfl) (fun _ _ _ h => h) (by rfl) (fun _ _ => by first | (go_simp; rfl) | (go_simp; done)) (by go_simp; rfl) HS ?_
                      refine HeldBy.take (i := 9) rfl (by kernel_rfl) (by kernel_rfl) (by kernel_rfl) (fun _ _ _ h => h) (by rfl) (fun _ _ => by first | (go_simp; rfl) | (go_simp; done)) (by go_simp; rfl) HS ?_
                      refine HeldBy.take (i := 10) (v := .string s) rfl (by kernel_rfl) (by kernel_rfl) (by kernel_rfl) (fun _ _ _ h => h) (by rfl) (fun V hV => by have h := HCELL.out V hV.1; first | (go_simp; rfl) | (go_simp; done)) (by go_simp; rfl) HS ?_
                      refine HeldBy.take (i := 11) rfl (by kernel_rfl) (by kernel_rfl) (by kernel_rfl) (fun _ _ _ h => h) (by rfl) (fun _ _ => by first | (go_simp; rfl) | (go_simp; done)) (by go_simp; rfl) HS ?_
                      refine HeldBy.take (i := 12) rfl (by kernel_rfl) (by kernel_rfl) (by kernel_rfl) (fun _ _ _ h => h) (by rfl) (fun _ _ => by first | (go_simp; rfl) | (go_simp; done)) (by go_simp; rfl) HS ?_
                      refine HeldBy.take (i := 13) rfl (by kernel_rfl) (by kernel_rfl) (by kernel_rfl) (fun _ _ _ h => h) (by rfl) (fun _ _ => by first | (go_simp; rfl) | (go_simp; done)) (by go_simp; rfl) HS ?_
                      refine wpAnyH_done (by kernel_rfl) ?_ _
                      have HW9 := Lib.hid HS.2.2
                      clear HS HROWS
                      go_wp2
                      go_roundw
                      case rel => exact ⟨k + 1, false, by go_num, rfl, HT9.out.symm, by omega, HW9.out⟩
                      case measure => simp [RowKit.intOf]; omega
                · have hlt3' : ¬ (k : Int) < (A.length : Int) := by omega
                  rw [List.take_of_length_le (by omega), any_mem] at ht
                  have HBZ := Lib.hid (HB7.out.trans (hlk.mono HB7.out.size))
                  cases t with
                  | true =>
                    have HALL := Lib.hid (HNB.out ht.symm)
                    clear ht hlk
                    go_wp2
                    go_roundw
                    case rel => exact ⟨i2 + 1, by go_num, by omega, HALL, HBZ.out⟩
                    case measure => simp [RowKit.intOf]; omega
                  | false =>
                    have hcs := HCELL.out _ (HT7.out.after hlk)
                    have HBE : Hid (beginN vo L A NX = if vo.mode = 1 ∧ A ≠ [] then nothing else if nameB (attachN name s).data.toList = false then nothing else writeA (defO (newA name s NX))) := by
                      show _ = _
                      unfold beginN
                      rw [HFB.out ht.symm, HVN.out]
                    have HX3 := Lib.hid (HBE.out.symm.trans HX2.out)
                    have HO9 := Lib.hid (HO6.out.after HBZ.out)
                    have HV9 := Lib.hid (HB6.out.after HBZ.out)
                    have HW9 := Lib.hid (HW6.out.trans (HBZ.out.mono HW6.out.size))
                    clear ht hlk HBE HX2 HFB HNB HBZ HB7 HT7 HA7
                    have HBU := Lib.hid (built_newA name s NX)
                    have HDE := Lib.hid (rdefault_5 (newA name s NX) wr rfl rfl ⟨HVS.out, HSS.out⟩)
                    have HDN : Hid ((defO (newA name s NX)).name = attachN name s) := rfl
                    obtain ⟨D, hD⟩ : ∃ D, defO (newA name s NX) = D := ⟨_, rfl⟩
                    rw [hD] at HDE HX3 HDN
                    obtain ⟨N, hN⟩ : ∃ N, newA name s NX = N := ⟨_, rfl⟩
                    rw [hN] at HDE HBU
                    unfold encO at HDE
                    clear hD hN
                    go_wp2_with (first | ((with_reducible refine wpList_build_to rfl 37 _ rfl (cellsO N) ?_ ?_); exact HBU.out))
                    refine HDE.out.mono ?_
                    rintro e W5 ⟨rfl, hb5⟩
                    obtain ⟨Y, sy, oy, ly, -⟩ := boxing W5 D
                    unfold encO at sy
                    have hyy := hb5.trans (ly.mono hb5.size)
                    have HOY := Lib.hid (HO9.out.after hyy)
                    have HWY := Lib.hid (HW9.out.trans (hyy.mono HW9.out.size))
                    have HBY := Lib.hid oy
                    have m9 := (HV9.out.after hyy).c9
                    have n1 := oy.c1
                    rw [HDN.out] at n1
                    have HNM := Lib.hid (refName_any (attachN name s) Y (attach_size name s HVS.out HSS.out))
                    clear hb5 ly hyy oy HDE HBU HO9 HW9 HV9 HDN hcs
                    by_cases hA0 : A = []
                    · have HX4 : Hid ((if nameB (attachN name s).data.toList = false then nothing else writeA D) = x) := (if_neg (fun h => h.2 hA0)).symm.trans HX3.out
                      have hk0 : A.length = 0 := by rw [hA0]; rfl
                      rw [hk0]
                      clear HX3 hA0
                      by_cases hm : vo.mode = 1
                      · have q1 : (vo.mode == 1) = true := by simpa using hm
                        clear hm
                        cases hnm : nameB (attachN name s).data.toList with
                        | false =>
                          have HVV : Hid (x = nothing) := HX4.out.symm.trans (if_pos hnm)
                          rw [hnm] at HNM
                          clear hnm HX4
                          go_wp2_with (first | (refine wpList_skip rfl (sy rfl rfl rfl) ?_))
                          refine HNM.out.mono ?_
                          rintro e w' ⟨rfl, rfl⟩
                          obtain ⟨V8, hst8, ho8, -, hb8⟩ := acting (HOY.out) (nothing)
                          have HO8 := Lib.hid ho8
                          have HX8 := Lib.hid (hb8 _ _ (HWY.out) (Nat.le_refl _))
                          clear ho8 hb8 HNM
                          go_wp2_with (first | (refine wpList_skip rfl (hst8 rfl rfl rfl) ?_) | ((with_reducible refine wpList_build_to rfl 42 _ rfl (cellsA nothing) ?_ ?_); exact built_act0))
                          refine bodyPost_ret (v := encA (nothing)) (results_cell_row rfl _ _ w.heap.size 42 (cellsA (nothing)) (0, 0) _ rfl HO8.out undAct rfl sizeAct) rfl ?_
                          exact ⟨by rw [HVV.out], HX8.out⟩
                        | true =>
                          have HVV : Hid (x = writeA D) := HX4.out.symm.trans (if_neg (by rw [hnm]; simp))
                          rw [hnm] at HNM
                          clear hnm HX4
                          go_wp2_with (first | (refine wpList_skip rfl (sy rfl rfl rfl) ?_))
                          refine HNM.out.mono ?_
                          rintro e w' ⟨rfl, rfl⟩
                          have hbd := HBY.out
                          have HCA := Lib.hid (rwrite_any D Y)
                          go_wp2_with (first | ((with_reducible refine wpList_load_obj ?_ rfl ?_ hbd ?_); rfl; rfl))
                          refine HCA.out.mono ?_
                          rintro e W7 ⟨rfl, hb7⟩
                          obtain ⟨V8, hst8, ho8, -, hb8⟩ := acting (HOY.out.after hb7) (writeA D)
                          have HO8 := Lib.hid ho8
                          have HX8 := Lib.hid (hb8 _ _ (HWY.out.trans (hb7.mono HWY.out.size)) (Nat.le_refl _))
                          clear ho8 hb8 HNM HCA hb7 hbd
                          go_wp2_with (first | (refine wpList_skip rfl (hst8 rfl rfl rfl) ?_))
                          refine bodyPost_ret (v := encA (writeA D)) (results_cell_row rfl _ _ w.heap.size 42 (cellsA (writeA D)) (0, 0) _ rfl HO8.out undAct rfl sizeAct) rfl ?_
                          exact ⟨by rw [HVV.out], HX8.out⟩
                      · have q1 : (vo.mode == 1) = false := by simpa using hm
                        clear hm
                        cases hnm : nameB (attachN name s).data.toList with
                        | false =>
                          have HVV : Hid (x = nothing) := HX4.out.symm.trans (if_pos hnm)
                          rw [hnm] at HNM
                          clear hnm HX4
                          go_wp2_with (first | (refine wpList_skip rfl (sy rfl rfl rfl) ?_))
                          refine HNM.out.mono ?_
                          rintro e w' ⟨rfl, rfl⟩
                          obtain ⟨V8, hst8, ho8, -, hb8⟩ := acting (HOY.out) (nothing)
                          have HO8 := Lib.hid ho8
                          have HX8 := Lib.hid (hb8 _ _ (HWY.out) (Nat.le_refl _))
                          clear ho8 hb8 HNM
                          go_wp2_with (first | (refine wpList_skip rfl (hst8 rfl rfl rfl) ?_) | ((with_reducible refine wpList_build_to rfl 42 _ rfl (cellsA nothing) ?_ ?_); exact built_act0))
                          refine bodyPost_ret (v := encA (nothing)) (results_cell_row rfl _ _ w.heap.size 42 (cellsA (nothing)) (0, 0) _ rfl HO8.out undAct rfl sizeAct) rfl ?_
                          exact ⟨by rw [HVV.out], HX8.out⟩
                        | true =>
                          have HVV : Hid (x = writeA D) := HX4.out.symm.trans (if_neg (by rw [hnm]; simp))
                          rw [hnm] at HNM
                          clear hnm HX4
                          go_wp2_with (first | (refine wpList_skip rfl (sy rfl rfl rfl) ?_))
                          refine HNM.out.mono ?_
                          rintro e w' ⟨rfl, rfl⟩
                          have hbd := HBY.out
                          have HCA := Lib.hid (rwrite_any D Y)
                          go_wp2_with (first | ((with_reducible refine wpList_load_obj ?_ rfl ?_ hbd ?_); rfl; rfl))
                          refine HCA.out.mono ?_
                          rintro e W7 ⟨rfl, hb7⟩
                          obtain ⟨V8, hst8, ho8, -, hb8⟩ := acting (HOY.out.after hb7) (writeA D)
                          have HO8 := Lib.hid ho8
                          have HX8 := Lib.hid (hb8 _ _ (HWY.out.trans (hb7.mono HWY.out.size)) (Nat.le_refl _))
                          clear ho8 hb8 HNM HCA hb7 hbd
                          go_wp2_with (first | (refine wpList_skip rfl (hst8 rfl rfl rfl) ?_))
                          refine bodyPost_ret (v := encA (writeA D)) (results_cell_row rfl _ _ w.heap.size 42 (cellsA (writeA D)) (0, 0) _ rfl HO8.out undAct rfl sizeAct) rfl ?_
                          exact ⟨by rw [HVV.out], HX8.out⟩
                    · have hpos : 0 < A.length := List.length_pos_iff.2 hA0
                      by_cases hm : vo.mode = 1
                      · have q1 : (vo.mode == 1) = true := by simpa using hm
                        have HVV : Hid (x = nothing) := HX3.out.symm.trans (if_pos ⟨hm, hA0⟩)
                        clear HX3 hA0 hm
                        obtain ⟨kk, hkk⟩ : ∃ kk, A.length = kk := ⟨_, rfl⟩
                        rw [hkk] at hpos hA63 ⊢
                        have hpos' : (0 : Int) < (kk : Int) := by omega
                        obtain ⟨V8, hst8, ho8, -, hb8⟩ := acting (HOY.out) (nothing)
                        have HO8 := Lib.hid ho8
                        have HX8 := Lib.hid (hb8 _ _ (HWY.out) (Nat.le_refl _))
                        clear ho8 hb8 
                        go_wp2_with (first | (refine wpList_skip rfl (hst8 rfl rfl rfl) ?_) | (refine wpList_skip rfl (sy rfl rfl rfl) ?_) | ((with_reducible refine wpList_build_to rfl 42 _ rfl (cellsA nothing) ?_ ?_); exact built_act0))
                        refine bodyPost_ret (v := encA (nothing)) (results_cell_row rfl _ _ w.heap.size 42 (cellsA (nothing)) (0, 0) _ rfl HO8.out undAct rfl sizeAct) rfl ?_
                        exact ⟨by rw [HVV.out], HX8.out⟩
                      · have q1 : (vo.mode == 1) = false := by simpa using hm
                        have HX4 : Hid ((if nameB (attachN name s).data.toList = false then nothing else writeA D) = x) := (if_neg (fun h => hm h.1)).symm.trans HX3.out
                        clear HX3 hA0 hm hpos
                        cases hnm : nameB (attachN name s).data.toList with
                        | false =>
                          have HVV : Hid (x = nothing) := HX4.out.symm.trans (if_pos hnm)
                          rw [hnm] at HNM
                          clear hnm HX4
                          go_wp2_with (first | (refine wpList_skip rfl (sy rfl rfl rfl) ?_))
                          refine HNM.out.mono ?_
                          rintro e w' ⟨rfl, rfl⟩
                          obtain ⟨V8, hst8, ho8, -, hb8⟩ := acting (HOY.out) (nothing)
                          have HO8 := Lib.hid ho8
                          have HX8 := Lib.hid (hb8 _ _ (HWY.out) (Nat.le_refl _))
                          clear ho8 hb8 HNM
                          go_wp2_with (first | (refine wpList_skip rfl (hst8 rfl rfl rfl) ?_) | ((with_reducible refine wpList_build_to rfl 42 _ rfl (cellsA nothing) ?_ ?_); exact built_act0))
                          refine bodyPost_ret (v := encA (nothing)) (results_cell_row rfl _ _ w.heap.size 42 (cellsA (nothing)) (0, 0) _ rfl HO8.out undAct rfl sizeAct) rfl ?_
                          exact ⟨by rw [HVV.out], HX8.out⟩
                        | true =>
                          have HVV : Hid (x = writeA D) := HX4.out.symm.trans (if_neg (by rw [hnm]; simp))
                          rw [hnm] at HNM
                          clear hnm HX4
                          go_wp2_with (first | (refine wpList_skip rfl (sy rfl rfl rfl) ?_))
                          refine HNM.out.mono ?_
                          rintro e w' ⟨rfl, rfl⟩
                          have hbd := HBY.out
                          have HCA := Lib.hid (rwrite_any D Y)
                          go_wp2_with (first | ((with_reducible refine wpList_load_obj ?_ rfl ?_ hbd ?_); rfl; rfl))
                          refine HCA.out.mono ?_
                          rintro e W7 ⟨rfl, hb7⟩
                          obtain ⟨V8, hst8, ho8, -, hb8⟩ := acting (HOY.out.after hb7) (writeA D)
                          have HO8 := Lib.hid ho8
                          have HX8 := Lib.hid (hb8 _ _ (HWY.out.trans (hb7.mono HWY.out.size)) (Nat.le_refl _))
                          clear ho8 hb8 HNM HCA hb7 hbd
                          go_wp2_with (first | (refine wpList_skip rfl (hst8 rfl rfl rfl) ?_))
                          refine bodyPost_ret (v := encA (writeA D)) (results_cell_row rfl _ _ w.heap.size 42 (cellsA (writeA D)) (0, 0) _ rfl HO8.out undAct rfl sizeAct) rfl ?_
                          exact ⟨by rw [HVV.out], HX8.out⟩
            · have hlt2' : ¬ (i2 : Int) < (L.length : Int) := by omega
              have HVV : Hid (x = nothing) := by
                show _ = _
                rw [← HX2.out]
                unfold beginN
                rw [show besideL L (risB (A.map Obj.node)) = none from findG_no (fun j hj => by rw [hall.out j hj (by omega)]; rfl)]
              have HO9 := Lib.hid (HO6.out.after hb)
              have HW9 := Lib.hid (HW6.out.trans (hb.mono HW6.out.size))
              clear hb hall HX2
              obtain ⟨V8, hst8, ho8, -, hb8⟩ := acting (HO9.out) (nothing)
              have HO8 := Lib.hid ho8
              have HX8 := Lib.hid (hb8 _ _ (HW9.out) (Nat.le_refl _))
              clear ho8 hb8 
              go_wp2_with (first | (refine wpList_skip rfl (hst8 rfl rfl rfl) ?_) | ((with_reducible refine wpList_build_to rfl 42 _ rfl (cellsA nothing) ?_ ?_); exact built_act0))
              refine bodyPost_ret (v := encA (nothing)) (results_cell_row rfl _ _ w.heap.size 42 (cellsA (nothing)) (0, 0) _ rfl HO8.out undAct rfl sizeAct) rfl ?_
              exact ⟨by rw [HVV.out], HX8.out⟩
        · have qp : (vo.phase != 3) = true := by simpa using hp
          have HVV : Hid (x = nothing) := by
            show _ = _
            rw [← HX2.out, HPH.out hp]
            rfl
          clear hp HPH HX2
          obtain ⟨V8, hst8, ho8, -, hb8⟩ := acting (HO5.out) (nothing)
          have HO8 := Lib.hid ho8
          have HX8 := Lib.hid (hb8 _ _ (HW5.out) (Nat.le_refl _))
          clear ho8 hb8 
          go_wp2_with (first | (refine wpList_skip rfl (hst8 rfl rfl rfl) ?_) | ((with_reducible refine wpList_build_to rfl 42 _ rfl (cellsA nothing) ?_ ?_); exact built_act0))
          refine bodyPost_ret (v := encA (nothing)) (results_cell_row rfl _ _ w.heap.size 42 (cellsA (nothing)) (0, 0) _ rfl HO8.out undAct rfl sizeAct) rfl ?_
          exact ⟨by rw [HVV.out], HX8.out⟩
end Go.Proofs.Ytigoghhjncpgfaa.O.B
