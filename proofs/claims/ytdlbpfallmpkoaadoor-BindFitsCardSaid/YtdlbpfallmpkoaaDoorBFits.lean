/- The volume that a claim takes is free, of its class and mode, great enough, and none that would do is smaller: the law's walk. -/
import Derived.Test.YtdlbpfallmpkoaaDoorBLive
import Derived.Test.YtdlbpfallmpkoaaDoorBFits0
import Derived.Test.YtdlbpfallmpkoaaDoorBFirst
namespace Go.Proofs.YtdlbpfallmpkoaaDoor.O.B
open Go Go.RowKit Go.Shelf Go.Lib RangeMap KM
attribute [local go_sem] Oper.semAt_some

set_option maxRecDepth 100000 in
set_option maxHeartbeats 8000000 in
theorem fits_law_any (l : List Obj) (v : Value) (c : Obj) (w : World) (hl : ObjsIn w v l) (hcp : ∀ o n c, v = .slice o n c → n ≤ c) (ht : Tab w) :
    Calls Tryd.prog 4 #[v, encO c] w fun e w' => e = .returned (.bool true) ∧ Below w.heap.size w w' := by
  have HT := Lib.hid ht
  have HF := Lib.hid (fun V (hV : ObjsIn V v l) => few12_any l v V hV hcp)
  obtain ⟨o, cp, rfl, -, -⟩ := id hl
  have HL0 := Lib.hid hl
  have hq24 : (l.take 24).length ≤ 24 := by rw [List.length_take]; omega
  clear ht hl hcp
  unfold encO
  go_enter Tryd.func4, Tryd.ntmps4
  go_upto_region 1 with (fail)
  refine wp_gen (fun V => BoxO V w.heap.size c ∧ Below w.heap.size w V) ⟨BoxO.new w c, (Below.refl _ _).alloc (Nat.le_refl _) _⟩ ?_
  rintro V0 ⟨hc0, hlw0⟩
  have HC0 := Lib.hid hc0
  have HW0 := Lib.hid hlw0
  have HFV := Lib.hid (HF.out V0 (HL0.out.after hlw0))
  clear hc0 hlw0 HF HL0
  go_wp2_with (fail)
  refine HFV.out.mono ?_
  rintro e W1 ⟨v1, rfl, hl1, rfl⟩
  clear HFV
  generalize l.take 24 = q at *
  obtain ⟨o1, c1, rfl, hm, -⟩ := id hl1
  have HL := Lib.hid hl1
  have HQ := Lib.hid hq24
  have HB := Lib.hid (best_any q _ c W1 hl1)
  have HB1 : Hid (∀ v, bestN q c = some v → v.phase = 4 ∧ v.deleting = false ∧ v.cls = c.cls ∧ v.mode = c.mode ∧ c.size ≤ v.got) := fun v h => best_fits h
  have HB2 : Hid (∀ i (h : i < q.length), c.node = E0 → q[i].kind = 4 → q[i].phase = 4 → q[i].deleting = false → q[i].cls = c.cls → q[i].mode = c.mode → c.size ≤ q[i].got → (∀ j (hj : j < i), ¬ (q[j].kind = q[i].kind ∧ q[j].name = q[i].name)) → ∃ v, bestN q c = some v ∧ v.got ≤ q[i].got) :=
    fun i h h1 h2 h3 h4 h5 h6 h7 h8 => best_least h h1 h2 h3 h4 h5 h6 h7 h8
  obtain ⟨r, hr⟩ : ∃ r, bestN q c = r := ⟨_, rfl⟩
  rw [hr] at HB HB1 HB2
  obtain ⟨bv, hbv⟩ : ∃ bv, r.getD O0 = bv := ⟨_, rfl⟩
  obtain ⟨ok, hok⟩ : ∃ ok, r.isSome = ok := ⟨_, rfl⟩
  rw [hbv, hok] at HB
  have HBK : Hid (ok = true → bv.phase = 4 ∧ bv.deleting = false ∧ bv.cls = c.cls ∧ bv.mode = c.mode ∧ c.size ≤ bv.got) := by
    show _ → _
    intro h
    cases r with
    | none => rw [← hok] at h; cases h
    | some v =>
      have e : v = bv := hbv
      rw [← e]
      exact HB1.out v rfl
  have HBL : Hid (∀ i (h : i < q.length), c.node = E0 → q[i].kind = 4 → q[i].phase = 4 → q[i].deleting = false → q[i].cls = c.cls → q[i].mode = c.mode → c.size ≤ q[i].got → (∀ j (hj : j < i), ¬ (q[j].kind = q[i].kind ∧ q[j].name = q[i].name)) → ok = true ∧ bv.got ≤ q[i].got) := by
    show ∀ _ _, _
    intro i h h1 h2 h3 h4 h5 h6 h7 h8
    obtain ⟨v, hv, hle⟩ := HB2.out i h h1 h2 h3 h4 h5 h6 h7 h8
    subst hv
    have e : v = bv := hbv
    rw [← e]
    exact ⟨hok.symm, hle⟩
  clear hr hl1 hq24 hbv hok HB1 HB2
  have HC1 := HC0
  have hcb := HC1.out
  go_wp2_with (refine wpList_got rfl (load_obj hcb rfl rfl) ?_)
  refine HB.out.mono ?_
  rintro e W2 ⟨rfl, hb2⟩
  obtain ⟨Y, sy, oy, ly, -⟩ := boxing W2 bv
  have hwy := hb2.trans (ly.mono hb2.size)
  have HCY := Lib.hid (HC1.out.after hwy)
  have HVY := Lib.hid oy
  have HWY := Lib.hid (HW0.out.trans (hwy.mono HW0.out.size))
  have HLY := Lib.hid (HL.out.after hwy)
  have HTY := Lib.hid (HT.out.after HWY.out)
  clear HB hb2 oy ly hwy hcb HC0 HC1 HW0 HL HT
  go_wp2_with (refine wpList_skip rfl (sy rfl rfl rfl) ?_)
  clear sy
  go_loopw [7] (fun i wr => ∃ j : Nat, i = .int .i64 (j : Int) ∧ j ≤ q.length ∧ Below Y.heap.size Y wr) (fun i _ => q.length - (RowKit.intOf i).toNat)
  case atStart => exact ⟨0, rfl, Nat.zero_le _, Below.refl _ _⟩
  case round =>
    obtain ⟨j, rfl, hj, hlow⟩ := hrel
    have HLOW := Lib.hid hlow
    clear hlow
    by_cases hlt : j < q.length
    · have hlt' : (j : Int) < (q.length : Int) := by omega
      have hobj := HLY.out.after HLOW.out
      obtain ⟨o', c', he, -, hi⟩ := id hobj
      cases he
      obtain ⟨g, off, rfl, -, hrow⟩ := hi j hlt
      obtain ⟨x, hx⟩ : ∃ x, q[j] = x := ⟨_, rfl⟩
      rw [hx] at hrow
      have HB3 := Lib.hid (HBL.out j hlt)
      rw [hx] at HB3
      have HROW := Lib.hid hrow
      obtain ⟨Z, sz, oz, lz, -⟩ := boxing _ x
      have HWZ := Lib.hid (HLOW.out.trans (lz.mono HLOW.out.size))
      have HOZ := Lib.hid oz
      have hcz := HCY.out.after HWZ.out
      have hvz := HVY.out.after HWZ.out
      have HFI : Hid (Calls Tryd.prog 16 #[.slice (some ⟨g, off, none⟩) q.length c1, .int .i64 j] Z fun e w' => FirstA q j hlt e ∧ Below Z.heap.size Z w') := first12_any q _ j hlt Z (HLY.out.after HWZ.out) HQ.out
      have HXX := Lib.hid hx
      clear hi hx hrow hobj HLOW lz oz
      go_upto_region 7 with (first | (refine wpList_got rfl (load_mid HROW.out rfl rfl) ?_) | (refine wpList_skip rfl (sz rfl rfl rfl) ?_))
      have x0 := HOZ.out.c0
      have x17 := HOZ.out.c17
      have x4 := HOZ.out.c4
      have x6 := HOZ.out.c6
      have x9 := HOZ.out.c9
      have x8 := HOZ.out.c8
      have d6 := hcz.c6
      have d9 := hcz.c9
      have d7 := hcz.c7
      have HCZ := Lib.hid hcz
      have HVZ := Lib.hid hvz
      clear sz HROW hcz hvz
      cases e1 : (x.kind == 4) with
      | false =>
        clear HB3 HFI HOZ HVZ HCZ
        go_wp2
        go_roundw
        case rel => exact ⟨j + 1, by go_num, by omega, HWZ.out⟩
        case measure => simp [RowKit.intOf]; omega
      | true =>
        cases e2 : (x.phase == 4) with
        | false =>
          clear HB3 HFI HOZ HVZ HCZ
          go_wp2
          go_roundw
          case rel => exact ⟨j + 1, by go_num, by omega, HWZ.out⟩
          case measure => simp [RowKit.intOf]; omega
        | true =>
          cases e3 : x.deleting with
          | true =>
            rw [e3] at x4
            clear HB3 HFI HOZ HVZ HCZ
            go_wp2
            go_roundw
            case rel => exact ⟨j + 1, by go_num, by omega, HWZ.out⟩
            case measure => simp [RowKit.intOf]; omega
          | false =>
            rw [e3] at x4
            cases e4 : (x.cls.toList == c.cls.toList) with
            | false =>
              clear HB3 HFI HOZ HVZ HCZ
              go_wp2
              go_roundw
              case rel => exact ⟨j + 1, by go_num, by omega, HWZ.out⟩
              case measure => simp [RowKit.intOf]; omega
            | true =>
              cases e5 : (x.mode == c.mode) with
              | false =>
                clear HB3 HFI HOZ HVZ HCZ
                go_wp2
                go_roundw
                case rel => exact ⟨j + 1, by go_num, by omega, HWZ.out⟩
                case measure => simp [RowKit.intOf]; omega
              | true =>
                cases e6 : decide (c.size ≤ x.got) with
                | false =>
                  clear HB3 HFI HOZ HVZ HCZ
                  go_wp2
                  go_roundw
                  case rel => exact ⟨j + 1, by go_num, by omega, HWZ.out⟩
                  case measure => simp [RowKit.intOf]; omega
                | true =>
                  have f1 : x.kind = 4 := by simpa using e1
                  have f2 : x.phase = 4 := by simpa using e2
                  have f4 : x.cls = c.cls := eqT.1 (by simpa using e4)
                  have f5 : x.mode = c.mode := by simpa using e5
                  have f6 : c.size ≤ x.got := of_decide_eq_true e6
                  have HB4 := Lib.hid (fun h => HB3.out h f1 f2 e3 f4 f5 f6)
                  clear HB3 f1 f2 f4 f5
                  go_wp2_with (fail)
                  refine HFI.out.mono ?_
                  rintro e W3 ⟨⟨b, rfl, hb⟩, hb3⟩
                  have HBB : Hid (b = true → ∀ p (hp : p < j), ¬ (q[p].kind = x.kind ∧ q[p].name = x.name)) := by rw [← HXX.out]; exact hb
                  have hx3 := HOZ.out.after hb3
                  have hc3 := HCZ.out.after hb3
                  have hv3 := HVZ.out.after hb3
                  have HW3 := Lib.hid (HWZ.out.trans (hb3.mono HWZ.out.size))
                  have y8 := hx3.c8
                  have c13 := hc3.c13
                  have v8 := hv3.c8
                  clear hb hb3 hx3 hc3 hv3 HFI HOZ HVZ HCZ HWZ x0 x17 x4 x6 x9 x8 d6 d9 d7 e1 e2 e3 e4 e5 e6 f6
                  cases b with
                  | false =>
                    clear HBB HB4
                    go_wp2
                    go_roundw
                    case rel => exact ⟨j + 1, by go_num, by omega, HW3.out⟩
                    case measure => simp [RowKit.intOf]; omega
                  | true =>
                    by_cases hn : c.node = E0
                    · obtain ⟨hok, hle⟩ := HB4.out hn (HBB.out rfl)
                      have n1 : c.node.toList = [] := (emp_iff _).2 hn
                      have n2 : (c.node.toList == []) = true := by simp [n1]
                      have n3 : c.node.toList.isEmpty = true := by simp [n1]
                      have hlt2 : ¬ x.got < bv.got := by omega
                      clear hn hle HB4 HBB
                      subst hok
                      go_wp2
                      go_roundw
                      case rel => exact ⟨j + 1, by go_num, by omega, HW3.out⟩
                      case measure => simp [RowKit.intOf]; omega
                    · have n1 : c.node.toList ≠ [] := fun e => hn ((emp_iff _).1 e)
                      have n2 : (c.node.toList == []) = false := by simpa using n1
                      have n3 : c.node.toList.isEmpty = false := by simpa using n1
                      clear hn HB4 HBB
                      go_wp2
                      go_roundw
                      case rel => exact ⟨j + 1, by go_num, by omega, HW3.out⟩
                      case measure => simp [RowKit.intOf]; omega
    · have hlt' : ¬ (j : Int) < (q.length : Int) := by omega
      have HV := Lib.hid (live_any _ (HTY.out.after HLOW.out))
      have hcz := HCY.out.after HLOW.out
      have hvz := HVY.out.after HLOW.out
      have HW := Lib.hid (HWY.out.trans (HLOW.out.mono HWY.out.size))
      have HCZ := Lib.hid hcz
      have HVZ := Lib.hid hvz
      clear hcz hvz HLOW HBL
      go_wp2_with (fail)
      refine HV.out.mono ?_
      rintro e W4 ⟨rfl, hb4⟩
      have HX := Lib.hid (HW.out.trans (hb4.mono HW.out.size))
      cases ok with
      | false =>
        clear HV hb4 HW HCZ HVZ HBK
        go_wp2
        go_ret
        exact ⟨rfl, HX.out⟩
      | true =>
        obtain ⟨f1, f2, f3, f4, f5⟩ := HBK.out rfl
        have hv : BoxO W4 W2.heap.size bv := HVZ.out.after hb4
        have hc := HCZ.out.after hb4
        have v17 := hv.c17
        have v4 := hv.c4
        have v6 := hv.c6
        have v9 := hv.c9
        have v8 := hv.c8
        have d6 := hc.c6
        have d9 := hc.c9
        have d7 := hc.c7
        rw [f1] at v17
        rw [f2] at v4
        rw [f3] at v6
        rw [f4] at v9
        have g5 : decide (c.size ≤ bv.got) = true := decide_eq_true f5
        clear HV hb4 HW HCZ HVZ HBK hv hc f1 f2 f3 f4
        go_wp2
        go_ret
        exact ⟨by first | rfl | simp [g5], HX.out⟩
end Go.Proofs.YtdlbpfallmpkoaaDoor.O.B
