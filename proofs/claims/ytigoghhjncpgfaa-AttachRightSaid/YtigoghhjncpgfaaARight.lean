/- What is written is right, if all that is there is: the walk. -/
import Derived.Test.YtigoghhjncpgfaaARight0
import Derived.Test.YtigoghhjncpgfaaR3Right
import Derived.Test.YtigoghhjncpgfaaALive
namespace Go.Proofs.Ytigoghhjncpgfaa.O.B
open Go Go.RowKit Go.Shelf Go.Lib KM T
attribute [local go_sem] Oper.semAt_some

theorem fit_right {o : Obj} (h : rightB o = true) : Fit o := by
  unfold rightB textsB at h
  simp only [Bool.and_eq_true] at h
  obtain ⟨h0, -, ⟨h1, h2, h3, h4, h5, h6⟩, -⟩ := h
  have := (nameB_le h0).2
  have := okT_le h1
  have := okT_le h2
  have := okT_le h3
  have := okT_le h4
  have := okT_le h5
  have := okT_le h6
  constructor <;> omega

set_option maxRecDepth 100000 in
set_option maxHeartbeats 16000000 in
theorem rightA_any (l : List Obj) (v : Value) (ver : Int) (name : ByteArray) (w : World) (hl : ObjsIn w v l) (hc : ∀ o n c, v = .slice o n c → n ≤ c) (hz : ∀ o ∈ l, o.name.size ≤ 140737488351232 ∧ o.node.size ≤ 140737488351232) (hfit : ∀ o ∈ l, Fit o) :
    Calls Try.prog 8 #[v, .int .u64 ver, .string name] w fun e w' => e = .returned (.bool true) ∧ Below w.heap.size w w' := by
  have HF := Lib.hid (few_any l v w hl hc)
  have HZ := Lib.hid (fun o (ho : o ∈ l.take 24) => hz o (List.mem_of_mem_take ho))
  have HFIT : Hid (∀ o ∈ l.take 24, Fit o) := fun o ho => hfit o (List.mem_of_mem_take ho)
  have hq : (l.take 24).length < 90000 := by rw [List.length_take]; omega
  obtain ⟨o, cp, rfl, -, -⟩ := id hl
  clear hl hc hz hfit
  go_enter Try.func8, Try.ntmps8
  go_wp2_with (fail)
  refine HF.out.mono ?_
  rintro e W1 ⟨v1, rfl, hl1, hw1⟩
  subst hw1
  clear HF
  generalize l.take 24 = q at *
  obtain ⟨o1, c1, rfl, hq63, -⟩ := id hl1
  have HL := Lib.hid hl1
  have HQ := Lib.hid hq
  clear hl1 hq
  go_wp2
  go_loopw [7] (fun i wr => ∃ j : Nat, i = .int .i64 (j : Int) ∧ j ≤ q.length ∧ Hid (AllR (q.take j)) ∧ Below W1.heap.size W1 wr) (fun i _ => q.length - (RowKit.intOf i).toNat)
  case atStart => exact ⟨0, rfl, Nat.zero_le _, by show AllR _; intro o ho; simp at ho, Below.refl _ _⟩
  case round =>
    obtain ⟨j, rfl, hj, hR, hlow⟩ := hrel
    have HLOW := Lib.hid hlow
    clear hlow
    by_cases hlt : j < q.length
    · have hlt' : (j : Int) < (q.length : Int) := by omega
      obtain ⟨o', c', he, -, hi⟩ := HL.out.after HLOW.out
      cases he
      obtain ⟨g, off, rfl, -, hrow⟩ := hi j hlt
      obtain ⟨x, hx⟩ : ∃ x, q[j] = x := ⟨_, rfl⟩
      rw [hx] at hrow
      have HROW := Lib.hid hrow
      have hfx := HFIT.out q[j] (List.getElem_mem hlt)
      rw [hx] at hfx
      have HRX := Lib.hid (fun V => refRight_any x V hfx)
      have HNX : Hid (rightB x = true → AllR (q.take (j + 1))) := by
        show _ → _
        intro hr o ho
        rw [List.take_succ_eq_append_getElem hlt, List.mem_append] at ho
        rcases ho with ho | ho
        · exact hR.out o ho
        · have : o = x := by simpa [hx] using ho
          rw [this]
          exact hr
      obtain ⟨rb, hrb⟩ : ∃ rb, rightB x = rb := ⟨_, rfl⟩
      rw [hrb] at HRX HNX
      clear hi hx hrow hfx hrb hR
      go_wp2_with (refine wpList_got rfl (load_mid HROW.out rfl rfl) ?_)
      refine (HRX.out _).mono ?_
      rintro e W2 ⟨rfl, hb2⟩
      have HW := Lib.hid (HLOW.out.trans (hb2.mono HLOW.out.size))
      clear hb2 HLOW HRX HROW
      cases rb with
      | false =>
        have HV := Lib.hid (live_any W2)
        clear HNX
        go_wp2_with (fail)
        refine HV.out.mono ?_
        rintro e W3 ⟨rfl, hb3⟩
        have HX := Lib.hid (HW.out.trans (hb3.mono HW.out.size))
        clear HV hb3
        go_wp2
        go_ret
        exact ⟨rfl, HX.out⟩
      | true =>
        have HN := Lib.hid (HNX.out rfl)
        clear HNX
        go_wp2
        go_roundw
        case rel => exact ⟨j + 1, by go_num, by omega, HN, HW.out⟩
        case measure => simp [RowKit.intOf]; omega
    · have hlt' : ¬ (j : Int) < (q.length : Int) := by omega
      have HALL : Hid (AllR q) := by
        show AllR q
        have h := hR.out
        rw [List.take_of_length_le (by omega)] at h
        exact h
      have HVR := Lib.hid (vol_right q ver name HALL.out)
      have HVN := Lib.hid (vol_node q ver name HZ.out)
      have HC := Lib.hid (volA_any q _ ver name wr (HL.out.after HLOW.out) (by have := HQ.out; omega) HZ.out)
      obtain ⟨G, hG⟩ : ∃ G, volumeA q ver name = G := ⟨_, rfl⟩
      rw [hG] at HC HVR HVN
      clear hG hR HALL HL HZ HFIT
      go_wp2_with (fail)
      refine HC.out.mono ?_
      rintro e W2 ⟨rfl, hb2⟩
      obtain ⟨X, sx, ax, lx⟩ := actbox W2 G
      have hb := hb2.trans (lx.mono hb2.size)
      have HW := Lib.hid (HLOW.out.trans (hb.mono HLOW.out.size))
      have HA := Lib.hid ax
      have a0 : X.cell? ⟨W2.heap.size, 0, none⟩ = some (.int .u8 G.act) := (cell_of_row X _ 0 _ _ _ ax).trans rfl
      have a3 : X.cell? ⟨W2.heap.size, 3, none⟩ = some (.int .u64 G.obj.version) := (cell_of_row X _ 3 _ _ _ ax).trans rfl
      have a14 : X.cell? ⟨W2.heap.size, 14, none⟩ = some (.string G.obj.node) := (cell_of_row X _ 14 _ _ _ ax).trans rfl
      have HLV := Lib.hid (live_any X)
      clear HC hb2 lx hb ax
      by_cases h1 : G.act = 1
      · have e1 : (G.act == 1) = true := by simpa using h1
        have n1 : (G.act != 1) = false := by simp [h1]
        have HVS := Lib.hid (HVR.out h1)
        clear HVR
        by_cases h2 : G.obj.version = 0
        · have e2 : (G.obj.version == 0) = true := by simpa using h2
          have HVT : Hid (noSl G.obj.node = true → rightB G.obj = true) := fun h => HVS.out (fun _ => h)
          have hss := HVN.out h1
          clear HVS h1 h2
          obtain ⟨s, hs⟩ : ∃ s, G.obj.node = s := ⟨_, rfl⟩
          rw [hs] at a14 HVT hss
          have hs63 : s.size ≤ 9223372036854775807 := by omega
          clear hs
          go_upto_region 9 with (refine wpList_skip rfl (sx rfl rfl rfl) ?_)
          clear sx
          go_wp2
          go_loop [9] (fun i => ∃ k : Nat, k ≤ s.size ∧ i = .int .i64 k ∧ Hid ((47 : UInt8) ∉ s.data.toList.take k)) (fun i => s.size - (intOf i).toNat)
          case atStart => exact ⟨0, Nat.zero_le _, rfl, by show ¬ _; simp⟩
          case round =>
            obtain ⟨k, hk, rfl, hd⟩ := hrel
            by_cases hp : k < s.size
            · by_cases hcc : s[k] = 47
              · have e47 := beq_yes (a := (s[k].toNat : Int)) (b := 47) (by rw [hcc]; rfl)
                clear hd hcc
                go_wp2_with (fail)
                refine HLV.out.mono ?_
                rintro e W3 ⟨rfl, hb3⟩
                have HX := Lib.hid (HW.out.trans (hb3.mono HW.out.size))
                clear hb3 a0 a3 a14
                go_wp2
                go_ret
                exact ⟨rfl, HX.out⟩
              · have hd' := Lib.hid (noSl_snoc hp hd.out hcc)
                have e47 := beq_no (a := (s[k].toNat : Int)) (b := 47) (fun e => hcc (UInt8.toNat_inj.1 (by simp; omega)))
                clear hd hcc
                go_wp2
                go_round
                case rel => exact ⟨k + 1, by omega, by go_num, hd'⟩
                case measure => simp [intOf]; omega
            · have HRB : Hid (rightB G.obj = true) := by
                show _ = _
                have := hd.out
                rw [List.take_of_length_le (by rw [size_list]; omega)] at this
                exact HVT.out (noSl_of this)
              clear hd HVT a3 e2
              go_wp2_with (fail)
              refine HLV.out.mono ?_
              rintro e W3 ⟨rfl, hb3⟩
              have b0 : W3.cell? ⟨W2.heap.size, 0, none⟩ = some (.int .u8 G.act) := (cell_of_row W3 _ 0 _ _ _ (HA.out.after hb3)).trans rfl
              have hrow := (HA.out.after hb3).obj
              have HX := Lib.hid (HW.out.trans (hb3.mono HW.out.size))
              have HRR := Lib.hid (refRight_any G.obj W3 (fit_right HRB.out))
              rw [HRB.out] at HRR
              clear hb3 a0 a14 HLV
              go_wp2_with (first | (refine wpList_got rfl (load_mid hrow rfl rfl) ?_))
              refine HRR.out.mono ?_
              rintro e W4 ⟨rfl, hb4⟩
              have HY := Lib.hid (HX.out.trans (hb4.mono HX.out.size))
              clear hb4 HRR b0 hrow
              go_wp2
              go_ret
              exact ⟨rfl, HY.out⟩
        · have e2 : (G.obj.version == 0) = false := by simpa using h2
          have HRB : Hid (rightB G.obj = true) := HVS.out (fun h => absurd h h2)
          clear HVS h1 h2
          go_wp2_with (first | (refine wpList_skip rfl (sx rfl rfl rfl) ?_))
          refine HLV.out.mono ?_
          rintro e W3 ⟨rfl, hb3⟩
          have b0 : W3.cell? ⟨W2.heap.size, 0, none⟩ = some (.int .u8 G.act) := (cell_of_row W3 _ 0 _ _ _ (HA.out.after hb3)).trans rfl
          have hrow := (HA.out.after hb3).obj
          have HX := Lib.hid (HW.out.trans (hb3.mono HW.out.size))
          have HRR := Lib.hid (refRight_any G.obj W3 (fit_right HRB.out))
          rw [HRB.out] at HRR
          clear hb3 a0 a3 a14 HLV
          go_wp2_with (first | (refine wpList_got rfl (load_mid hrow rfl rfl) ?_))
          refine HRR.out.mono ?_
          rintro e W4 ⟨rfl, hb4⟩
          have HY := Lib.hid (HX.out.trans (hb4.mono HX.out.size))
          clear hb4 HRR b0 hrow
          go_wp2
          go_ret
          exact ⟨rfl, HY.out⟩
      · have e1 : (G.act == 1) = false := by simpa using h1
        have n1 : (G.act != 1) = true := by simpa using h1
        clear HVR h1
        go_wp2_with (first | (refine wpList_skip rfl (sx rfl rfl rfl) ?_))
        refine HLV.out.mono ?_
        rintro e W3 ⟨rfl, hb3⟩
        have b0 : W3.cell? ⟨W2.heap.size, 0, none⟩ = some (.int .u8 G.act) := (cell_of_row W3 _ 0 _ _ _ (HA.out.after hb3)).trans rfl
        have HX := Lib.hid (HW.out.trans (hb3.mono HW.out.size))
        clear hb3 a0 a3 a14 HLV
        go_wp2
        go_ret
        exact ⟨rfl, HX.out⟩
end Go.Proofs.Ytigoghhjncpgfaa.O.B
