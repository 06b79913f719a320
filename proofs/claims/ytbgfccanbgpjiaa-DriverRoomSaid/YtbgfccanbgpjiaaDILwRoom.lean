/- Own work. -/
import Derived.Test.YtbgfccanbgpjiaaDILSame
import Derived.Test.YtbgfccanbgpjiaaDJIRTold
namespace Go.Proofs.Ytbgfccanbgpjiaa.O.I
open Go Go.RowKit Go.Lib KM
attribute [local go_sem] Oper.semAt_some
theorem zonesN_of {a b c : Int} {j : Nat} {z : Zn} (h : (zonesN a b c)[j]? = some z) : zoneOf (zonesN a b c) z.name = some z := by
  unfold zonesN at h ⊢
  match j, h with
  | 0, h => cases h; rfl
  | 1, h => cases h; rfl
  | 2, h => cases h; rfl
theorem znIn_at {V : World} {o : Option Addr} {n c : Nat} {l : List Zn} (h : ZonesIn V (.slice o n c) l) {j : Nat} {z : Zn} (hz : l[j]? = some z) : ∃ g off, o = some ⟨g, off, none⟩ ∧ V.cell? ⟨g, off + j * 2, none⟩ = some (.string z.name) ∧ V.cell? ⟨g, off + j * 2 + 1, none⟩ = some (.int .i64 z.room) := by
  obtain ⟨o2, c2, e, -, hi⟩ := h
  cases e
  have hj := (List.getElem?_eq_some_iff.1 hz).1
  obtain ⟨g, off, h1, -, h2⟩ := hi j hj
  have e0 : l[j] = z := by rw [List.getElem?_eq_getElem hj] at hz; exact Option.some.inj hz
  rw [e0] at h2
  exact ⟨g, off, h1, h2 0 _ rfl, h2 1 _ rfl⟩
theorem sumV_mono (k : ByteArray) : ∀ (l : List DV) (j : Nat), (∀ x ∈ l, 0 ≤ x.size) → 0 ≤ sumV k (l.take j) ∧ sumV k (l.take j) ≤ sumV k l
  | [], j, _ => by simp [sumV]
  | y :: r, 0, h => ⟨Int.le_refl _, sumV_pos k _ h⟩
  | y :: r, j + 1, h => by
    have ih := sumV_mono k r j fun x hx => h x (.tail _ hx)
    have h0 := h y (.head _)
    rw [List.take_succ_cons]
    unfold sumV
    split <;> omega
section
variable {d r v s n B : Nat} {w : World} {S : St}
theorem proom (hp : PAt d r v s n B w S) {k : ByteArray} {y : Zn} (hy : zoneOf S.core.zones k = some y) : Calls Try.prog 21 #[.pointer (some ⟨d, 0, none⟩), .string k] w fun e w' => e = .returned (.tuple #[.int .i64 y.room, .bool true]) ∧ Below w.heap.size w w' := by
  have h := room_model hp k
  rw [hy] at h
  exact h
end
set_option maxRecDepth 100000 in
set_option maxHeartbeats 16000000 in
theorem droom_any (a b c : Int) (ha : U8 a) (hb : U8 b) (hc : U8 c) (u : Value) (l : List Dd) (w : World) (hl : DeedsIn w u l) (hf : ∀ x ∈ l, FitC x.c) :
    Calls Try.prog 7 #[encN a b c, u] w fun e w' => e = .returned (.bool true) ∧ Below w.heap.size w w' := by
  have HL := Lib.hid hl
  have HF := Lib.hid hf
  have HA := Lib.hid ha
  have HBB := Lib.hid hb
  have HCC := Lib.hid hc
  clear hl hf ha hb hc
  rw [show encN a b c = .agg #[.int .u8 a, .int .u8 b, .int .u8 c] from rfl]
  go_enter Try.func7, Try.ntmps7
  go_upto_region 1 with (fail)
  refine wp_gen (fun V => BoxN V w.heap.size a b c ∧ Below w.heap.size w V) ⟨heap_alloc_new w _, (Below.refl _ _).alloc (Nat.le_refl _) _⟩ ?_
  rintro V1 ⟨hn1, hw1⟩
  have HN := Lib.hid hn1
  have HW := Lib.hid hw1
  clear hw1
  go_wp2_with (refine wpList_got rfl (loadN hn1 rfl rfl) ?_)
  clear hn1
  refine (play_any a b c HA.out HBB.out HCC.out u l V1 (HL.out.after HW.out) HF.out).mono ?_
  rintro e W1 ⟨d, r, v, s, n, B, R, q, S, rfl, hbo, -, -, hpl, hb⟩
  replace HN := Lib.hid (HN.out.after hb)
  replace HW := Lib.hid (HW.out.trans (hb.mono HW.out.size))
  have HP := Lib.hid hbo.p
  have HG := Lib.hid hpl.good
  have HFW := Lib.hid hbo.few
  have HRM := Lib.hid hpl.room
  have HSZ := Lib.hid (vols_size hbo.p.inv)
  clear hbo hpl hb
  go_wp2_with (fail)
  refine (live_any W1).mono ?_
  rintro e W2 ⟨rfl, hb⟩
  replace HN := Lib.hid (HN.out.after hb)
  replace HP := Lib.hid (HP.out.after hb)
  replace HW := Lib.hid (HW.out.trans (hb.mono HW.out.size))
  clear hb
  have hnx := HN.out
  go_wp2_with (refine wpList_got rfl (loadN hnx rfl rfl) ?_)
  clear hnx
  refine (lzones_any a b c HA.out HBB.out HCC.out W2).mono ?_
  rintro e W3 ⟨rfl, hz3, hb⟩
  obtain ⟨gz, hgz⟩ : ∃ gz, W2.heap.size + 1 = gz := ⟨_, rfl⟩
  rw [hgz] at hz3
  rw [hgz]
  replace HP := Lib.hid (HP.out.after hb)
  replace HW := Lib.hid (HW.out.trans (hb.mono HW.out.size))
  have HZ := Lib.hid hz3
  clear hb hz3 hgz HN
  go_wp2
  go_loopw [9] (fun iv wr => ∃ j : Nat, iv = .int .i64 (j : Int) ∧ j ≤ 3 ∧ Below W3.heap.size W3 wr) (fun iv _ => 3 - (RowKit.intOf iv).toNat)
  case atStart => exact ⟨0, rfl, Nat.zero_le _, Below.refl _ _⟩
  case round =>
    obtain ⟨j, rfl, hj, hlow⟩ := hrel
    have HLW := Lib.hid hlow
    clear hlow
    by_cases hlt : j < 3
    · have hlt' : (j : Int) < 3 := by omega
      obtain ⟨z, hz⟩ : ∃ z, (zonesN a b c)[j]? = some z := ⟨_, List.getElem?_eq_getElem (show j < (zonesN a b c).length from hlt)⟩
      have hzo := zonesN_of hz
      obtain ⟨y, hy⟩ := Option.isSome_iff_exists.1 (HRM.out.there z.name (by rw [hzo]; rfl))
      obtain ⟨z0, hz0, hy0, hsum⟩ := HRM.out.back z.name y hy
      rw [hzo] at hz0
      cases hz0
      have hfew := HRM.out.few z.name z hzo
      have HZA : Hid (∀ V, ZonesIn V (.slice (some ⟨gz, 0, none⟩) 3 3) (zonesN a b c) → V.cell? ⟨gz, j * 2, none⟩ = some (.string z.name) ∧ V.cell? ⟨gz, j * 2 + 1, none⟩ = some (.int .i64 z.room)) := fun V hV => by
        obtain ⟨g, off, e, h1, h2⟩ := znIn_at hV hz
        cases e
        rw [Nat.zero_add] at h1 h2
        exact ⟨h1, h2⟩
      have hzz := HZ.out.after HLW.out
      have HRO := Lib.hid (proom (HP.out.after HLW.out) hy)
      obtain ⟨tot, htot⟩ : ∃ t, sumV z.name S.core.vols = t := ⟨_, rfl⟩
      rw [htot] at hsum
      have HTOT := Lib.hid htot
      obtain ⟨y1, y2⟩ := HZA.out wr hzz
      clear hz hzo hy htot hzz
      go_wp2_with (fail)
      clear y1 y2
      refine HRO.out.mono ?_
      rintro e W4 ⟨rfl, hb4⟩
      have HW4 := Lib.hid (HLW.out.trans (hb4.mono HLW.out.size))
      clear hb4 HRO
      go_wp2_with (fail)
      refine (pvols (HP.out.after HW4.out) HG.out (by decide) (by have := HFW.out.1; omega)).mono ?_
      rintro e W5 ⟨sl, K, rfl, hv, hK, hb5⟩
      obtain ⟨o5, n5, c5⟩ := sl
      obtain rfl : n5 = K.length := (own_view hv.1).1
      have hkl : K.length ≤ 64 := by
        have h1 := congrArg List.length hK
        rw [List.length_map] at h1
        have := HFW.out.1
        omega
      have HV := Lib.hid hv
      have HKK := Lib.hid hK
      have HW5 := Lib.hid (HW4.out.trans (hb5.mono HW4.out.size))
      clear hv hK hb5
      unfold encSl
      go_wp2
      go_loopw [12, 14] (fun sv kv wr2 => ∃ (i : Nat) (t : Int), kv = .int .i64 (i : Int) ∧ sv = .int .i64 t ∧ i ≤ K.length ∧ y.room + sumV z.name (S.core.vols.take i) = t ∧ Below W5.heap.size W5 wr2) (fun _ kv _ => K.length - (RowKit.intOf kv).toNat)
      case atStart => exact ⟨0, y.room, rfl, rfl, Nat.zero_le _, by rw [List.take_zero]; unfold sumV; omega, Below.refl _ _⟩
      case round =>
        obtain ⟨i, t, rfl, rfl, hi, ht, hlk⟩ := hrel
        have HT := Lib.hid ht
        have hmo := sumV_mono z.name S.core.vols i HSZ.out
        rw [HTOT.out] at hmo
        have htb : 0 ≤ t ∧ t ≤ 1125899906842624 := by omega
        have HLK := Lib.hid hlk
        clear ht hlk hmo
        by_cases hil : i < K.length
        · have hil' : (i : Int) < (K.length : Int) := by omega
          obtain ⟨x, hx⟩ : ∃ x, K[i]? = some x := ⟨_, List.getElem?_eq_getElem hil⟩
          have hxv : S.core.vols[i]? = some x.1 := by rw [← HKK.out, List.getElem?_map, hx]; rfl
          have hst := sumV_take (k := z.name) hxv
          have hmo := sumV_mono z.name S.core.vols (i + 1) HSZ.out
          rw [HTOT.out] at hmo
          have hxs := HSZ.out x.1 (List.mem_of_getElem? hxv)
          obtain ⟨g5, k5, -, -, -⟩ := vown_row (HV.out.after HLK.out) hx
          dsimp only at k5
          subst k5
          have HROW : Hid (∀ V, VOwn V W4.heap.size ⟨some ⟨g5, 0, none⟩, K.length, c5⟩ K → World.rangeAt V g5 (i * 5) (cellsDV x.1 x.2).toList) := fun V hV => by
            obtain ⟨g, k, -, h, -⟩ := vown_row hV hx
            cases k
            exact h
          obtain ⟨bb, hbb⟩ : ∃ b, decide (x.1.zone = z.name) = b := ⟨_, rfl⟩
          have HBQ := Lib.hid hbb
          have HVK := Lib.hid (HV.out.after HLK.out)
          have HZK := Lib.hid ((HZ.out.after HW5.out).after HLK.out)
          have HST := Lib.hid hst
          have HMO := Lib.hid hmo
          have HXS := Lib.hid hxs
          clear hx hxv hbb hst hmo hxs
          go_upto_region 14 with (fail)
          refine wp_region_held_drew (S := fun V => VOwn V W4.heap.size ⟨some ⟨g5, 0, none⟩, K.length, c5⟩ K ∧ ZonesIn V (.slice (some ⟨gz, 0, none⟩) 3 3) (zonesN a b c) ∧ Below W5.heap.size W5 V) (by kernel_rfl) ⟨HVK.out, HZK.out, HLK.out.drew⟩ (fun _ => ?_)
          refine HeldBy.gen (fun V => VOwn V W4.heap.size ⟨some ⟨g5, 0, none⟩, K.length, c5⟩ K ∧ ZonesIn V (.slice (some ⟨gz, 0, none⟩) 3 3) (zonesN a b c) ∧ Below W5.heap.size W5 V) ⟨HVK.out, HZK.out, HLK.out.drew⟩ ?_
          clear HVK HZK HLK
          rintro U0 HS
          refine HeldBy.tn (i := 0) rfl HS ?_
          refine HeldBy.tn (i := 1) rfl HS ?_
          refine HeldBy.tn (i := 2) rfl HS ?_
          refine HeldBy.tn (i := 3) rfl HS ?_
          refine HeldBy.tk (i := 4) (v := .string x.1.zone) rfl (fun V hV => by have hc := HROW.out V hV.1 2 _ rfl; first | (go_simp; rfl) | (go_simp; done)) HS ?_
          refine HeldBy.tn (i := 5) rfl HS ?_
          refine HeldBy.tn (i := 6) rfl HS ?_
          refine HeldBy.tn (i := 7) rfl HS ?_
          refine HeldBy.tn (i := 8) rfl HS ?_
          refine HeldBy.tk (i := 9) (v := .string z.name) rfl (fun V hV => by have hc := (HZA.out V hV.2.1).1; first | (go_simp; rfl) | (go_simp; done)) HS ?_
          refine HeldBy.tk (i := 10) (v := .bool bb) rfl (fun _ _ => exec_eqS rfl rfl rfl HBQ.out) HS ?_
          refine wpAnyH_done (by kernel_rfl) ?_ _
          have hlk := HS.2.2
          cases bb with
          | false =>
            have hne : ¬ x.1.zone = z.name := of_decide_eq_false HBQ.out
            have HN2 : Hid (y.room + sumV z.name (S.core.vols.take (i + 1)) = t) := by show _ = _; rw [HST.out, if_neg hne, Int.add_zero]; exact HT.out
            have HLK2 := Lib.hid hlk
            clear HS hlk hne
            go_wp2
            go_roundw
            case rel => exact ⟨i + 1, t, by go_num, rfl, by omega, HN2.out, HLK2.out⟩
            case measure => simp [RowKit.intOf]; omega
          | true =>
            have heq : x.1.zone = z.name := of_decide_eq_true HBQ.out
            have hnx : y.room + sumV z.name (S.core.vols.take (i + 1)) = t + x.1.size := by rw [HST.out, if_pos heq, ← HT.out]; omega
            have hbn : 0 ≤ t + x.1.size ∧ t + x.1.size ≤ 1125899906842624 := by have := HMO.out; have := HXS.out; omega
            have hwr : IntKind.i64.wrap (t + x.1.size) = t + x.1.size := wrap_in _ (by omega)
            have HN2 := Lib.hid hnx
            have HLK2 := Lib.hid hlk
            have y1 : U0.cell? ⟨g5, i * 5 + 1, none⟩ = some (.int .i64 x.1.size) := HROW.out U0 HS.1 1 _ rfl
            clear HS hlk heq hnx
            go_wp2
            go_roundw
            case rel => exact ⟨i + 1, t + x.1.size, by go_num, by first | rfl | rw [hwr], by omega, HN2.out, HLK2.out⟩
            case measure => simp [RowKit.intOf]; omega
        · have hil' : ¬ (i : Int) < (K.length : Int) := by omega
          have htt : t = z.room := by
            have h1 := HT.out
            have h2 := congrArg List.length HKK.out
            rw [List.length_map] at h2
            rw [List.take_of_length_le (by omega), HTOT.out] at h1
            omega
          have hWf := HW5.out.trans (HLK.out.mono HW5.out.size)
          have hzf := HZ.out.after hWf
          have y2 := (HZA.out wr hzf).2
          have hy0' : ¬ y.room < 0 := by omega
          have HWF := Lib.hid hWf
          subst htt
          clear hWf hzf htb HT hsum hfew
          go_wp2
          go_roundw
          case rel => exact ⟨j + 1, by go_num, by omega, HWF.out⟩
          case measure => simp [RowKit.intOf]; omega
    · have hlt' : ¬ (j : Int) < 3 := by omega
      have HX := Lib.hid (HW.out.trans (HLW.out.mono HW.out.size))
      go_wp2
      go_ret
      exact ⟨rfl, HX.out⟩
end Go.Proofs.Ytbgfccanbgpjiaa.O.I
