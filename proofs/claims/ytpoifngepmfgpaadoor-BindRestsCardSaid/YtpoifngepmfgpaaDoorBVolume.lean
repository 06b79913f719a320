/- What is done next for a volume. -/
import Derived.Test.YtpoifngepmfgpaaDoorBUse
namespace Go.Proofs.YtpoifngepmfgpaaDoor.O.B
open Go Go.RowKit Go.Shelf Go.Lib RangeMap KM
attribute [local go_sem] Oper.semAt_some

theorem built_act0' : Tryd.prog.built 36 [] = some (cellsA nothing) := by kernel_rfl
theorem built_give (h : ByteArray) (n : Int) : Tryd.prog.built 34 [(0, .int .u8 2), (1, .string h), (2, .int .u64 n)] = some (cellsC ⟨2, h, n, 0, E0, E0, E0⟩) := by kernel_rfl

set_option maxRecDepth 100000 in
set_option maxHeartbeats 8000000 in
theorem volume_any (l : List Obj) (v : Value) (ver : Int) (name : ByteArray) (w : World) (hl : ObjsIn w v l) (ht : Tab w) (hall : ∀ s ∈ l, (0 ≤ s.born ∧ s.born ≤ 18446744073709551615) ∧ s.name.size ≤ 140737488351232) :
    Calls Tryd.prog 12 #[v, .int .u64 ver, .string name] w fun e w' => e = .returned (encA (volumeN l ver name)) ∧ Below w.heap.size w w' := by
  obtain ⟨o, cp, rfl, -, -⟩ := id hl
  have HL := Lib.hid hl
  have HT := Lib.hid ht
  have HG := Lib.hid (fun V (hV : ObjsIn V (.slice o l.length cp) l) => get_any l _ 4 name V hV)
  have HCL := Lib.hid (fun V (u : Obj) (hV : ObjsIn V (.slice o l.length cp) l) (hT : Tab V) => claimed_any l _ u V hV hT hall)
  have HIU := Lib.hid (fun V (u : Obj) (hV : ObjsIn V (.slice o l.length cp) l) => inUse_any l _ u V hV)
  clear hl ht hall
  obtain ⟨r, hr⟩ : ∃ r, getL l 4 name = r := ⟨_, rfl⟩
  obtain ⟨x, hx⟩ : ∃ x, volumeN l ver name = x := ⟨_, rfl⟩
  rw [hx]
  unfold volumeN at hx
  rw [hr] at hx HG
  have HXX := Lib.hid hx
  clear hx hr
  go_enter Tryd.func12, Tryd.ntmps12
  go_upto_region 1 with (fail)
  refine wp_gen (fun V => BoxA V w.heap.size nothing ∧ Below w.heap.size w V) ⟨heap_alloc_new _ _, (Below.refl _ _).alloc (Nat.le_refl _) _⟩ ?_
  rintro V ⟨ho, hl⟩
  have HO := Lib.hid ho
  have HW := Lib.hid hl
  have HC := Lib.hid (HG.out V (HL.out.after hl))
  clear ho hl HG
  go_wp2_with (fail)
  refine HC.out.mono ?_
  rintro e W2 ⟨rfl, hb2⟩
  obtain ⟨V2, hst, hk, hb, -⟩ := boxing W2 (r.getD O0)
  have hw2 := HW.out.trans (hb2.mono HW.out.size)
  replace HO := Lib.hid ((HO.out.after hb2).after hb)
  replace HW := Lib.hid (hw2.trans (hb.mono hw2.size))
  clear HC hb2 hb hw2
  cases r with
  | none =>
    have HVV : Hid (x = nothing) := HXX.out.symm
    obtain ⟨V8, hst8, ho, -, hb⟩ := acting HO.out nothing
    have HO8 := Lib.hid ho
    have HX8 := Lib.hid (hb _ _ HW.out (Nat.le_refl _))
    clear ho hb HXX hk HCL HIU
    go_wp2_with (first | (refine wpList_skip rfl (hst rfl rfl rfl) ?_) | (refine wpList_skip rfl (hst8 rfl rfl rfl) ?_))
    refine bodyPost_ret (v := encA nothing) (results_cell_row rfl _ _ w.heap.size 36 (cellsA nothing) (0, 0) _ rfl HO8.out undAct rfl sizeAct) rfl ?_
    exact ⟨by rw [HVV.out], HX8.out⟩
  | some vo =>
    replace hk : BoxO V2 W2.heap.size vo := hk
    have hxx : (if vo.phase = 4 ∧ vo.deleting = true ∧ vo.keep = false then writeA (erasingN vo (IntKind.u64.wrap (ver + 1))) else if vo.phase = 3 ∧ claimedN l vo = false then writeA (givenN vo (IntKind.u64.wrap (ver + 1))) else if vo.phase = 6 ∧ inUseN l vo = false then askA ⟨2, vo.name, vo.num, 0, E0, E0, E0⟩ else nothing) = x := HXX.out
    have HX2 := Lib.hid hxx
    have v17 := hk.c17
    have v4 := hk.c4
    have v10 := hk.c10
    have HK := Lib.hid hk
    clear hxx HXX hk
    go_upto_region 5 with (refine wpList_skip rfl (hst rfl rfl rfl) ?_)
    clear hst
    have write6 : ∀ (u : Obj), Hid (x = writeA u) → Hid (∀ V, Calls Tryd.prog 25 #[encO u] V fun e w' => e = .returned (encA x) ∧ Below V.heap.size V w') := fun u h => by
      have h' := h.out
      subst h'
      exact fun V => write_any u V
    by_cases h1 : vo.phase = 4 ∧ vo.deleting = true ∧ vo.keep = false
    · have HVV : Hid (x = writeA (erasingN vo (IntKind.u64.wrap (ver + 1)))) := by show _ = _; rw [← HX2.out, if_pos h1]
      obtain ⟨k1, k2, k3⟩ := h1
      rw [k1] at v17
      rw [k2] at v4
      rw [k3] at v10
      have HE := Lib.hid (fun V => erasing_any vo (IntKind.u64.wrap (ver + 1)) V)
      have HWR := write6 _ HVV
      clear k1 k2 k3 HX2 HCL HIU write6
      generalize erasingN vo (IntKind.u64.wrap (ver + 1)) = u at *
      go_upto_region 6 with (fail)
      have hkk := HK.out
      go_wp2_with ((with_reducible refine wpList_load_obj ?_ rfl ?_ hkk ?_); rfl; rfl)
      refine (HE.out _).mono ?_
      rintro e W4 ⟨rfl, hb4⟩
      have HO4 := Lib.hid (HO.out.after hb4)
      have HW4 := Lib.hid (HW.out.trans (hb4.mono HW.out.size))
      clear HE hb4 hkk HK v17 v4 v10
      go_wp2_with (fail)
      refine (HWR.out _).mono ?_
      rintro e W5 ⟨rfl, hb5⟩
      obtain ⟨V8, hst8, ho, -, hb⟩ := acting (HO4.out.after hb5) x
      have HO8 := Lib.hid ho
      have HX8 := Lib.hid (hb _ _ (HW4.out.trans (hb5.mono HW4.out.size)) (Nat.le_refl _))
      clear ho hb HWR hb5
      go_wp2_with (refine wpList_skip rfl (hst8 rfl rfl rfl) ?_)
      refine bodyPost_ret (v := encA x) (results_cell_row rfl _ _ w.heap.size 36 (cellsA x) (0, 0) _ rfl HO8.out undAct rfl sizeAct) rfl ?_
      exact ⟨rfl, HX8.out⟩
    · have HN1 := Lib.hid (HX2.out.symm.trans (if_neg h1))
      clear HX2
      have HKK := HK
      have goes : ∀ (t : Bool), Hid (t = false) → True := fun _ _ => trivial
      clear goes
      by_cases p4 : vo.phase = 4
      · -- phase 4, but not given up
        have HVV : Hid (x = nothing) := by
          show _ = _
          rw [HN1.out, if_neg (fun h => by rw [p4] at h; exact absurd h.1 (by decide)), if_neg (fun h => by rw [p4] at h; exact absurd h.1 (by decide))]
        rw [p4] at v17
        obtain ⟨V8, hst8, ho, -, hb⟩ := acting HO.out nothing
        have HO8 := Lib.hid ho
        have HX8 := Lib.hid (hb _ _ HW.out (Nat.le_refl _))
        clear ho hb HN1 HCL HIU write6 HK HKK
        cases hd : vo.deleting with
        | false =>
          rw [hd] at v4
          clear h1 hd p4
          go_wp2_with (first | (refine wpList_skip rfl (hst8 rfl rfl rfl) ?_) | ((with_reducible refine wpList_build_to rfl 36 _ rfl (cellsA nothing) ?_ ?_); exact built_act0'))
          refine bodyPost_ret (v := encA nothing) (results_cell_row rfl _ _ w.heap.size 36 (cellsA nothing) (0, 0) _ rfl HO8.out undAct rfl sizeAct) rfl ?_
          exact ⟨by rw [HVV.out], HX8.out⟩
        | true =>
          have hkp : vo.keep = true := by
            cases hk2 : vo.keep with
            | true => rfl
            | false => exact absurd ⟨p4, hd, hk2⟩ h1
          rw [hd] at v4
          rw [hkp] at v10
          clear h1 hd p4 hkp
          go_wp2_with (first | (refine wpList_skip rfl (hst8 rfl rfl rfl) ?_) | ((with_reducible refine wpList_build_to rfl 36 _ rfl (cellsA nothing) ?_ ?_); exact built_act0'))
          refine bodyPost_ret (v := encA nothing) (results_cell_row rfl _ _ w.heap.size 36 (cellsA nothing) (0, 0) _ rfl HO8.out undAct rfl sizeAct) rfl ?_
          exact ⟨by rw [HVV.out], HX8.out⟩
      · have e4 : (vo.phase == 4) = false := by simpa using p4
        clear h1
        by_cases p3 : vo.phase = 3
        · have e3 : (vo.phase == 3) = true := by simpa using p3
          have HCC := Lib.hid (HCL.out V2 vo (HL.out.after HW.out) (HT.out.after HW.out))
          obtain ⟨cb, hcb⟩ : ∃ cb, claimedN l vo = cb := ⟨_, rfl⟩
          rw [hcb] at HCC
          have HCB := Lib.hid hcb
          clear hcb HCL HIU
          go_upto_region 7 with (fail)
          have hkk := HK.out
          go_wp2_with ((with_reducible refine wpList_load_obj ?_ rfl ?_ hkk ?_); rfl; rfl)
          refine HCC.out.mono ?_
          rintro e W4 ⟨rfl, hb4⟩
          have HO4 := Lib.hid (HO.out.after hb4)
          have HW4 := Lib.hid (HW.out.trans (hb4.mono HW.out.size))
          have hk4 := HK.out.after hb4
          clear HCC hb4 hkk HK HKK v17 v4 v10 HO HW
          cases cb with
          | true =>
            have HVV : Hid (x = nothing) := by
              show _ = _
              rw [HN1.out, if_neg (fun h => by rw [HCB.out] at h; cases h.2), if_neg (fun h => by rw [p3] at h; exact absurd h.1 (by decide))]
            have e6 : (vo.phase == 6) = false := by rw [p3]; rfl
            have v17 := hk4.c17
            obtain ⟨V8, hst8, ho, -, hb⟩ := acting HO4.out nothing
            have HO8 := Lib.hid ho
            have HX8 := Lib.hid (hb _ _ HW4.out (Nat.le_refl _))
            clear ho hb HN1 HCB write6 hk4 p3 p4
            go_wp2_with (first | (refine wpList_skip rfl (hst8 rfl rfl rfl) ?_) | ((with_reducible refine wpList_build_to rfl 36 _ rfl (cellsA nothing) ?_ ?_); exact built_act0'))
            refine bodyPost_ret (v := encA nothing) (results_cell_row rfl _ _ w.heap.size 36 (cellsA nothing) (0, 0) _ rfl HO8.out undAct rfl sizeAct) rfl ?_
            exact ⟨by rw [HVV.out], HX8.out⟩
          | false =>
            have HVV : Hid (x = writeA (givenN vo (IntKind.u64.wrap (ver + 1)))) := by show _ = _; rw [HN1.out, if_pos ⟨p3, HCB.out⟩]
            have HE := Lib.hid (fun V => givenUp_any vo (IntKind.u64.wrap (ver + 1)) V)
            have HWR := write6 _ HVV
            clear HN1 HCB write6 p3 p4 HVV
            generalize givenN vo (IntKind.u64.wrap (ver + 1)) = u at *
            go_upto_region 8 with (fail)
            clear e3 e4
            go_wp2_with ((with_reducible refine wpList_load_obj ?_ rfl ?_ hk4 ?_); rfl; rfl)
            refine (HE.out _).mono ?_
            rintro e W5 ⟨rfl, hb5⟩
            have HO5 := Lib.hid (HO4.out.after hb5)
            have HW5 := Lib.hid (HW4.out.trans (hb5.mono HW4.out.size))
            clear HE hb5 hk4 HO4 HW4
            go_wp2_with (fail)
            refine (HWR.out _).mono ?_
            rintro e W6 ⟨rfl, hb6⟩
            obtain ⟨V8, hst8, ho, -, hb⟩ := acting (HO5.out.after hb6) x
            have HO8 := Lib.hid ho
            have HX8 := Lib.hid (hb _ _ (HW5.out.trans (hb6.mono HW5.out.size)) (Nat.le_refl _))
            clear ho hb HWR hb6
            go_wp2_with (refine wpList_skip rfl (hst8 rfl rfl rfl) ?_)
            refine bodyPost_ret (v := encA x) (results_cell_row rfl _ _ w.heap.size 36 (cellsA x) (0, 0) _ rfl HO8.out undAct rfl sizeAct) rfl ?_
            exact ⟨rfl, HX8.out⟩
        · have e3 : (vo.phase == 3) = false := by simpa using p3
          have HN2 : Hid (x = if vo.phase = 6 ∧ inUseN l vo = false then askA ⟨2, vo.name, vo.num, 0, E0, E0, E0⟩ else nothing) := by
            show _ = _
            rw [HN1.out, if_neg (fun h => p3 h.1)]
          clear HN1 HCL
          by_cases p6 : vo.phase = 6
          · have e6 : (vo.phase == 6) = true := by simpa using p6
            have HUU := Lib.hid (HIU.out V2 vo (HL.out.after HW.out))
            obtain ⟨ub, hub⟩ : ∃ ub, inUseN l vo = ub := ⟨_, rfl⟩
            rw [hub] at HUU
            have HUB := Lib.hid hub
            clear hub HIU
            go_upto_region 9 with (fail)
            have hkk := HK.out
            go_wp2_with ((with_reducible refine wpList_load_obj ?_ rfl ?_ hkk ?_); rfl; rfl)
            refine HUU.out.mono ?_
            rintro e W4 ⟨rfl, hb4⟩
            have HO4 := Lib.hid (HO.out.after hb4)
            have HW4 := Lib.hid (HW.out.trans (hb4.mono HW.out.size))
            have hk4 := HK.out.after hb4
            clear HUU hb4 hkk HK HKK v17 v4 v10 HO HW
            cases ub with
            | true =>
              have HVV : Hid (x = nothing) := by
                show _ = _
                rw [HN2.out, if_neg (fun h => by rw [HUB.out] at h; cases h.2)]
              obtain ⟨V8, hst8, ho, -, hb⟩ := acting HO4.out nothing
              have HO8 := Lib.hid ho
              have HX8 := Lib.hid (hb _ _ HW4.out (Nat.le_refl _))
              clear ho hb HN2 HUB write6 hk4 p3 p4 p6
              go_wp2_with (first | (refine wpList_skip rfl (hst8 rfl rfl rfl) ?_) | ((with_reducible refine wpList_build_to rfl 36 _ rfl (cellsA nothing) ?_ ?_); exact built_act0'))
              refine bodyPost_ret (v := encA nothing) (results_cell_row rfl _ _ w.heap.size 36 (cellsA nothing) (0, 0) _ rfl HO8.out undAct rfl sizeAct) rfl ?_
              exact ⟨by rw [HVV.out], HX8.out⟩
            | false =>
              have HVV : Hid (x = askA ⟨2, vo.name, vo.num, 0, E0, E0, E0⟩) := by show _ = _; rw [HN2.out, if_pos ⟨p6, HUB.out⟩]
              have HBG := Lib.hid (built_give vo.name vo.num)
              obtain ⟨k, hkc⟩ : ∃ k : Cl, (⟨2, vo.name, vo.num, 0, E0, E0, E0⟩ : Cl) = k := ⟨_, rfl⟩
              rw [hkc] at HVV HBG
              have HAS := Lib.hid (fun V => ask_any k V)
              have v1 := hk4.c1
              have v18 := hk4.c18
              clear HN2 HUB write6 p3 p4 p6 hkc hk4
              go_upto_region 10 with (fail)
              clear e3 e4 e6
              go_wp2_with ((with_reducible refine wpList_build_to rfl 34 _ rfl (cellsC k) ?_ ?_); exact HBG.out)
              refine (HAS.out _).mono ?_
              rintro e W6 ⟨rfl, hb6⟩
              obtain ⟨V8, hst8, ho, -, hb⟩ := acting (HO4.out.after hb6) (askA k)
              have HO8 := Lib.hid ho
              have HX8 := Lib.hid (hb _ _ (HW4.out.trans (hb6.mono HW4.out.size)) (Nat.le_refl _))
              clear ho hb HAS hb6 v1 v18
              go_wp2_with (refine wpList_skip rfl (hst8 rfl rfl rfl) ?_)
              refine bodyPost_ret (v := encA (askA k)) (results_cell_row rfl _ _ w.heap.size 36 (cellsA (askA k)) (0, 0) _ rfl HO8.out undAct rfl sizeAct) rfl ?_
              exact ⟨by rw [HVV.out], HX8.out⟩
          · have e6 : (vo.phase == 6) = false := by simpa using p6
            have HVV : Hid (x = nothing) := by show _ = _; rw [HN2.out, if_neg (fun h => p6 h.1)]
            obtain ⟨V8, hst8, ho, -, hb⟩ := acting HO.out nothing
            have HO8 := Lib.hid ho
            have HX8 := Lib.hid (hb _ _ HW.out (Nat.le_refl _))
            clear ho hb HN2 HIU write6 HK HKK p3 p4 p6
            go_wp2_with (first | (refine wpList_skip rfl (hst8 rfl rfl rfl) ?_) | ((with_reducible refine wpList_build_to rfl 36 _ rfl (cellsA nothing) ?_ ?_); exact built_act0'))
            refine bodyPost_ret (v := encA nothing) (results_cell_row rfl _ _ w.heap.size 36 (cellsA nothing) (0, 0) _ rfl HO8.out undAct rfl sizeAct) rfl ?_
            exact ⟨by rw [HVV.out], HX8.out⟩
end Go.Proofs.YtpoifngepmfgpaaDoor.O.B
