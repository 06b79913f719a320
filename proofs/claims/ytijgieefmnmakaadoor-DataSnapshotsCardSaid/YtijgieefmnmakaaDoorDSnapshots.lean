/- What is done next for a snapshot, and what it is called at the driver, is what the document says. -/
import Derived.Test.YtijgieefmnmakaaDoorDFew
import Derived.Test.YtijgieefmnmakaaDoorDStep
import Derived.Test.YtijgieefmnmakaaDoorDRSnap
import Derived.Test.YtijgieefmnmakaaDoorKOpen
namespace Go.Proofs.YtijgieefmnmakaaDoor.O.B
open Go Go.RowKit Go.Shelf Go.Lib RangeMap KM
attribute [local go_sem] Oper.semAt_some

theorem fits_of {l : List Obj} (hf : ∀ o ∈ l, FitO o) (hl : ∀ o ∈ l, LenO o) : ∀ s ∈ l, (0 ≤ s.born ∧ s.born ≤ 18446744073709551615) ∧ s.name.size ≤ 140737488351232 := fun s hs => ⟨(hf s hs).born, (hl s hs).name⟩

set_option maxRecDepth 100000 in
set_option maxHeartbeats 4000000 in
theorem snapshots_any (l : List Obj) (v : Value) (ver : Int) (n : ByteArray) (w : World) (hl : ObjsIn w v l) (hcp : ∀ o n c, v = .slice o n c → n ≤ c) (ht : Tab w) (hall : ∀ s ∈ l, (0 ≤ s.born ∧ s.born ≤ 18446744073709551615) ∧ s.name.size ≤ 140737488351232) :
    Calls Tryd.prog 4 #[v, .int .u64 ver, .string n] w fun e w' => e = .returned (.bool true) ∧ Below w.heap.size w w' := by
  have HT := Lib.hid ht
  have HF := Lib.hid (few_any l v w hl hcp)
  obtain ⟨o, cp, rfl, -, -⟩ := id hl
  have hq : (l.take 24).length < 100000 := by rw [List.length_take]; omega
  have hall2 : ∀ s ∈ l.take 24, (0 ≤ s.born ∧ s.born ≤ 18446744073709551615) ∧ s.name.size ≤ 140737488351232 := fun s hs => hall s (List.mem_of_mem_take hs)
  clear ht hl hcp hall
  go_enter Tryd.func4, Tryd.ntmps4
  go_wp2_with (fail)
  refine HF.out.mono ?_
  rintro e W1 ⟨v1, rfl, hl1, rfl⟩
  clear HF
  generalize l.take 24 = q at *
  obtain ⟨o1, c1, rfl, hm, -⟩ := id hl1
  have HL := Lib.hid hl1
  have HQ := Lib.hid hq
  have HALL := Lib.hid hall2
  clear hl1 hq hall2
  go_wp2_with (fail)
  go_loopw [7] (fun i wr => ∃ j : Nat, i = .int .i64 (j : Int) ∧ j ≤ q.length ∧ Below W1.heap.size W1 wr) (fun i _ => q.length - (RowKit.intOf i).toNat)
  case atStart => exact ⟨0, rfl, Nat.zero_le _, Below.refl _ _⟩
  case round =>
    obtain ⟨j, rfl, hj, hlow⟩ := hrel
    have HLOW := Lib.hid hlow
    clear hlow
    by_cases hlt : j < q.length
    · have hlt' : (j : Int) < (q.length : Int) := by omega
      obtain ⟨o', c', he, -, hi⟩ := HL.out
      cases he
      obtain ⟨g, off, rfl, -, -⟩ := hi j hlt
      obtain ⟨x, hx⟩ : ∃ x, q[j] = x := ⟨_, rfl⟩
      have hin := HALL.out q[j] (List.getElem_mem hlt)
      rw [hx] at hin
      have hrows : ∀ V : World, ObjsIn V (.slice (some ⟨g, off, none⟩) q.length c1) q → V.rangeAt g (off + j * 20) (cellsO x).toList := fun V hV => by
        obtain ⟨o2, c2, e2, -, h2⟩ := hV
        cases e2
        obtain ⟨g3, off3, e3, -, h3⟩ := h2 j hlt
        cases e3
        rw [← hx]
        exact h3
      have HROWS := Lib.hid hrows
      have HH1 := Lib.hid (fun V (hV : Tab V) => handleD_any x V hV hin.1 hin.2)
      have HH2 := Lib.hid (fun V (hV : Tab V) => rhandle_any x V hV hin.1 hin.2)
      obtain ⟨h, hh⟩ : ∃ h, handleD x = h := ⟨_, rfl⟩
      rw [hh] at HH1 HH2
      have HLL := Lib.hid (HL.out.after HLOW.out)
      have HTT := Lib.hid (HT.out.after HLOW.out)
      have HW := HLOW
      clear hi hx hin hrows hh HLOW
      go_upto_region 5 with (fail)
      refine wp_region_held_drew (S := fun V => ObjsIn V (.slice (some ⟨g, off, none⟩) q.length c1) q ∧ Below W1.heap.size W1 V ∧ Tab V) (by kernel_rfl) ⟨HLL.out, HW.out.drew, HTT.out.drew⟩ (fun _ => ?_)
      refine HeldBy.gen (fun V => ObjsIn V (.slice (some ⟨g, off, none⟩) q.length c1) q ∧ Below W1.heap.size W1 V ∧ Tab V) ⟨HLL.out, HW.out.drew, HTT.out.drew⟩ ?_
      clear HLL HW HTT
      rintro U0 HS
      refine HeldBy.take (i := 0) rfl (by kernel_rfl) (by kernel_rfl) (by kernel_rfl) (fun _ _ _ h => h) (by rfl) (fun _ _ => by first | (go_simp; rfl) | (go_simp; done)) (by go_simp; rfl) HS ?_
      refine HeldBy.take (i := 1) rfl (by kernel_rfl) (by kernel_rfl) (by kernel_rfl) (fun _ _ _ h => h) (by rfl) (fun _ _ => by first | (go_simp; rfl) | (go_simp; done)) (by go_simp; rfl) HS ?_
      refine HeldBy.take (i := 2) rfl (by kernel_rfl) (by kernel_rfl) (by kernel_rfl) (fun _ _ _ h => h) (by rfl) (fun _ _ => by first | (go_simp; rfl) | (go_simp; done)) (by go_simp; rfl) HS ?_
      refine HeldBy.take (i := 3) (v := encO x) rfl (by kernel_rfl) (by kernel_rfl) (by kernel_rfl) (fun _ _ _ h => h) (by rfl) (fun V hV => load_mid (HROWS.out V hV.1) rfl rfl) (by go_simp; rfl) HS ?_
      refine HeldBy.take (i := 5) rfl (by kernel_rfl) (by kernel_rfl) (by kernel_rfl) (fun _ _ _ h => h) (by rfl) (fun _ _ => by first | (go_simp; rfl) | (go_simp; done)) (by go_simp; rfl) HS ?_
      refine HeldBy.take (i := 6) rfl (by kernel_rfl) (by kernel_rfl) (by kernel_rfl) (fun _ _ _ h => h) (by rfl) (fun _ _ => by first | (go_simp; rfl) | (go_simp; done)) (by go_simp; rfl) HS ?_
      refine HeldBy.take (i := 7) rfl (by kernel_rfl) (by kernel_rfl) (by kernel_rfl) (fun _ _ _ h => h) (by rfl) (fun _ _ => by first | (go_simp; rfl) | (go_simp; done)) (by go_simp; rfl) HS ?_
      refine HeldBy.take (i := 8) (v := encO x) rfl (by kernel_rfl) (by kernel_rfl) (by kernel_rfl) (fun _ _ _ h => h) (by rfl) (fun V hV => load_mid (HROWS.out V hV.1) rfl rfl) (by go_simp; rfl) HS ?_
      refine HeldBy.call (i := 4) (v := .string h) rfl (by kernel_rfl) (by rfl) (by go_simp; exact ⟨rfl, rfl⟩) (by go_simp; rfl) ?_
      refine (HH1.out _ HS.2.2).mono ?_
      rintro e U1 ⟨rfl, hb⟩
      replace HS : ObjsIn U1 (.slice (some ⟨g, off, none⟩) q.length c1) q ∧ Below W1.heap.size W1 U1 ∧ Tab U1 := ⟨HS.1.after hb, HS.2.1.trans (hb.mono HS.2.1.size), HS.2.2.after hb⟩
      refine ⟨rfl, HS, ?_⟩
      clear hb
      refine HeldBy.call (i := 9) (v := .string h) rfl (by kernel_rfl) (by rfl) (by go_simp; exact ⟨rfl, rfl⟩) (by go_simp; rfl) ?_
      refine (HH2.out _ HS.2.2).mono ?_
      rintro e U2 ⟨rfl, hb⟩
      replace HS : ObjsIn U2 (.slice (some ⟨g, off, none⟩) q.length c1) q ∧ Below W1.heap.size W1 U2 ∧ Tab U2 := ⟨HS.1.after hb, HS.2.1.trans (hb.mono HS.2.1.size), HS.2.2.after hb⟩
      refine ⟨rfl, HS, ?_⟩
      clear hb
      refine HeldBy.take (i := 10) (v := .bool false) rfl (by kernel_rfl) (by kernel_rfl) (by kernel_rfl) (fun _ _ _ h => h) (by rfl) (fun V _ => by first | (go_simp; rfl) | (go_simp; simp) | (go_simp; done)) (by go_simp; rfl) HS ?_
      refine wpAnyH_done (by kernel_rfl) ?_ _
      have HW5 := Lib.hid HS.2.1
      clear HS HROWS HH1 HH2
      go_wp2
      go_roundw
      case rel => exact ⟨j + 1, by go_num, by omega, HW5.out⟩
      case measure => simp [RowKit.intOf]; omega
    · have hlt' : ¬ (j : Int) < (q.length : Int) := by omega
      have HW := HLOW
      have HV := Lib.hid (live_any _ (HT.out.after HLOW.out))
      clear HLOW
      go_wp2_with (fail)
      refine HV.out.mono ?_
      rintro e W2 ⟨rfl, hb2⟩
      have hlw := HW.out.trans (hb2.mono HW.out.size)
      have HC := Lib.hid (snapAll_any q _ ver n W2 (HL.out.after hlw) (HT.out.after hlw) HALL.out)
      replace HW := Lib.hid hlw
      clear HV hb2 hlw
      obtain ⟨a, ha⟩ : ∃ a, snapD q ver n = a := ⟨_, rfl⟩
      rw [ha] at HC
      have HAA := Lib.hid ha
      clear ha
      go_wp2_with (fail)
      refine HC.out.mono ?_
      rintro e W3 ⟨rfl, hb3⟩
      have hlw := HW.out.trans (hb3.mono HW.out.size)
      have HC2 := Lib.hid (rsnapD_any q _ ver n W3 (HL.out.after hlw) HQ.out (HT.out.after hlw) HALL.out)
      rw [HAA.out] at HC2
      replace HW := Lib.hid hlw
      clear HC hb3 hlw HAA
      go_wp2_with (fail)
      refine HC2.out.mono ?_
      rintro e W4 ⟨rfl, hb4⟩
      have HX := Lib.hid (HW.out.trans (hb4.mono HW.out.size))
      clear HC2 hb4 HW HL
      go_wp2_with (refine wpList_got rfl (exec_eql_same (A := a) rfl rfl rfl) ?_)
      go_ret
      exact ⟨rfl, HX.out⟩
end Go.Proofs.YtijgieefmnmakaaDoor.O.B
