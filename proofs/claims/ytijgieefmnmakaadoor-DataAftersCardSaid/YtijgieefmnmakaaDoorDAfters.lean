/- What is done behind a call is what the document says. -/
import Derived.Test.YtijgieefmnmakaaDoorDFew
import Derived.Test.YtijgieefmnmakaaDoorDAskY
import Derived.Test.YtijgieefmnmakaaDoorDRAfter
import Derived.Test.YtijgieefmnmakaaDoorKOpen
namespace Go.Proofs.YtijgieefmnmakaaDoor.O.B
open Go Go.RowKit Go.Shelf Go.Lib RangeMap KM
attribute [local go_sem] Oper.semAt_some

theorem fits_of' {l : List Obj} (hf : ∀ o ∈ l, FitO o) (hl : ∀ o ∈ l, LenO o) : ∀ s ∈ l, (0 ≤ s.born ∧ s.born ≤ 18446744073709551615) ∧ s.name.size ≤ 140737488351232 := fun s hs => ⟨(hf s hs).born, (hl s hs).name⟩

set_option maxRecDepth 100000 in
set_option maxHeartbeats 4000000 in
theorem afters_any (l : List Obj) (v : Value) (ver : Int) (y : Rep) (w : World) (hl : ObjsIn w v l) (hcp : ∀ o n c, v = .slice o n c → n ≤ c) (ht : Tab w) (hall : ∀ s ∈ l, (0 ≤ s.born ∧ s.born ≤ 18446744073709551615) ∧ s.name.size ≤ 140737488351232) :
    Calls Tryd.prog 5 #[v, .int .u64 ver, encY y] w fun e w' => e = .returned (.bool true) ∧ Below w.heap.size w w' := by
  have HT0 := Lib.hid ht
  have HFF := Lib.hid (fun V (hV : ObjsIn V v l) => few_any l v V hV hcp)
  have HL0 := Lib.hid hl
  obtain ⟨o, cp, rfl, -, -⟩ := id hl
  have hq : (l.take 24).length < 100000 := by rw [List.length_take]; omega
  have hall2 : ∀ s ∈ l.take 24, (0 ≤ s.born ∧ s.born ≤ 18446744073709551615) ∧ s.name.size ≤ 140737488351232 := fun s hs => hall s (List.mem_of_mem_take hs)
  clear ht hl hcp hall
  have HYE : Hid (encY y = .agg (cellsY y)) := rfl
  rw [HYE.out]
  unfold cellsY
  go_enter Tryd.func5, Tryd.ntmps5
  go_upto_region 1 with (fail)
  refine wp_gen (fun V => BoxY V w.heap.size y ∧ Below w.heap.size w V) ⟨heap_alloc_new _ _, (Below.refl _ _).alloc (Nat.le_refl _) _⟩ ?_
  rintro V ⟨hy, hlw⟩
  have HF := Lib.hid (HFF.out V (HL0.out.after hlw))
  have HY := Lib.hid hy
  have HW := Lib.hid hlw
  have HT := Lib.hid (HT0.out.after hlw)
  clear hy hlw HFF HL0 HT0 HYE
  go_wp2_with (fail)
  refine HF.out.mono ?_
  rintro e W1 ⟨v1, rfl, hl1, hww⟩
  subst hww
  clear HF
  generalize l.take 24 = q at *
  obtain ⟨o1, c1, rfl, -, -⟩ := id hl1
  have HL := Lib.hid hl1
  have hyb := HY.out
  have HK := Lib.hid (askedY_any q _ ver y W1 hl1 hq HT.out hall2)
  have HE1 := Lib.hid (fun (c : Cl) V (hV : ObjsIn V (.slice o1 q.length c1) q) (hT : Tab V) => afterD_any q _ ver y.k y.n c y.r V hV hT hall2)
  have HE2 := Lib.hid (fun (c : Cl) V (hV : ObjsIn V (.slice o1 q.length c1) q) (hT : Tab V) => rafterD_any q _ ver y.k y.n c y.r V hV hq hT hall2)
  clear hl1 hq hall2
  generalize askedY q ver y = c at *
  go_wp2_with (refine wpList_got rfl (load_rep hyb rfl rfl) ?_)
  refine HK.out.mono ?_
  rintro e W2 ⟨rfl, hb2⟩
  obtain ⟨V3, hs3, hc3, -, hb3⟩ := calling (show BoxC (W2.alloc (.cells (cellsC N0) 34 (0, 0))) W2.heap.size N0 from heap_alloc_new _ _) c
  have hbel : Below W2.heap.size W2 V3 := hb3 _ _ ((Below.refl _ _).alloc (Nat.le_refl _) _) (Nat.le_refl _)
  have hlw2 := HW.out.trans (hb2.mono HW.out.size)
  have hlw3 := hlw2.trans (hbel.mono hlw2.size)
  replace HY := Lib.hid ((HY.out.after hb2).after hbel)
  replace HL := Lib.hid ((HL.out.after hb2).after hbel)
  replace HT := Lib.hid ((HT.out.after hb2).after hbel)
  replace HW := Lib.hid hlw3
  have HC := Lib.hid hc3
  have HA1 := Lib.hid (HE1.out c)
  have HA2 := Lib.hid (HE2.out c)
  obtain ⟨a, ha⟩ : ∃ a, afterD q ver y.k y.n c y.r = a := ⟨_, rfl⟩
  rw [ha] at HA1 HA2
  clear HK HE1 HE2 hb2 hc3 hb3 hbel hlw2 hlw3 ha hyb
  go_upto_region 3 with (refine wpList_skip rfl (hs3 rfl rfl rfl) ?_)
  clear hs3
  refine wp_region_held_drew (S := fun V => BoxY V w.heap.size y ∧ BoxC V W2.heap.size c ∧ ObjsIn V (.slice o1 q.length c1) q ∧ Below w.heap.size w V ∧ Tab V) (by kernel_rfl) ⟨HY.out, HC.out, HL.out, HW.out.drew, HT.out.drew⟩ (fun _ => ?_)
  refine HeldBy.gen (fun V => BoxY V w.heap.size y ∧ BoxC V W2.heap.size c ∧ ObjsIn V (.slice o1 q.length c1) q ∧ Below w.heap.size w V ∧ Tab V) ⟨HY.out, HC.out, HL.out, HW.out.drew, HT.out.drew⟩ ?_
  clear HY HC HL HW HT
  rintro U0 HS
  refine HeldBy.call (i := 0) (v := .bool true) rfl (by kernel_rfl) (by rfl) (by go_simp; exact ⟨rfl, rfl⟩) (by go_simp; rfl) ?_
  refine (live_any _ HS.2.2.2.2).mono ?_
  rintro e U1 ⟨rfl, hb⟩
  replace HS : BoxY U1 w.heap.size y ∧ BoxC U1 W2.heap.size c ∧ ObjsIn U1 (.slice o1 q.length c1) q ∧ Below w.heap.size w U1 ∧ Tab U1 := ⟨HS.1.after hb, HS.2.1.after hb, HS.2.2.1.after hb, HS.2.2.2.1.trans (hb.mono HS.2.2.2.1.size), HS.2.2.2.2.after hb⟩
  refine ⟨rfl, HS, ?_⟩
  clear hb
  refine HeldBy.take (i := 1) rfl (by kernel_rfl) (by kernel_rfl) (by kernel_rfl) (fun _ _ _ h => h) (by rfl) (fun _ _ => by first | (go_simp; rfl) | (go_simp; done)) (by go_simp; rfl) HS ?_
  refine HeldBy.take (i := 2) rfl (by kernel_rfl) (by kernel_rfl) (by kernel_rfl) (fun _ _ _ h => h) (by rfl) (fun _ _ => by first | (go_simp; rfl) | (go_simp; done)) (by go_simp; rfl) HS ?_
  refine HeldBy.take (i := 3) rfl (by kernel_rfl) (by kernel_rfl) (by kernel_rfl) (fun _ _ _ h => h) (by rfl) (fun _ _ => by first | (go_simp; rfl) | (go_simp; done)) (by go_simp; rfl) HS ?_
  refine HeldBy.take (i := 4) rfl (by kernel_rfl) (by kernel_rfl) (by kernel_rfl) (fun _ _ _ h => h) (by rfl) (fun _ _ => by first | (go_simp; rfl) | (go_simp; done)) (by go_simp; rfl) HS ?_
  refine HeldBy.take (i := 5) (v := encK y.k y.n) rfl (by kernel_rfl) (by kernel_rfl) (by kernel_rfl) (fun _ _ _ h => h) (by rfl) (fun V hV => load_keyAt hV.1 rfl rfl) (by go_simp; rfl) HS ?_
  refine HeldBy.take (i := 6) (v := encC c) rfl (by kernel_rfl) (by kernel_rfl) (by kernel_rfl) (fun _ _ _ h => h) (by rfl) (fun V hV => load_call hV.2.1 rfl rfl) (by go_simp; rfl) HS ?_
  refine HeldBy.take (i := 7) rfl (by kernel_rfl) (by kernel_rfl) (by kernel_rfl) (fun _ _ _ h => h) (by rfl) (fun _ _ => by first | (go_simp; rfl) | (go_simp; done)) (by go_simp; rfl) HS ?_
  refine HeldBy.take (i := 8) (v := encR y.r) rfl (by kernel_rfl) (by kernel_rfl) (by kernel_rfl) (fun _ _ _ h => h) (by rfl) (fun V hV => load_resAt hV.1 rfl rfl) (by go_simp; rfl) HS ?_
  refine HeldBy.take (i := 10) rfl (by kernel_rfl) (by kernel_rfl) (by kernel_rfl) (fun _ _ _ h => h) (by rfl) (fun _ _ => by first | (go_simp; rfl) | (go_simp; done)) (by go_simp; rfl) HS ?_
  refine HeldBy.take (i := 11) rfl (by kernel_rfl) (by kernel_rfl) (by kernel_rfl) (fun _ _ _ h => h) (by rfl) (fun _ _ => by first | (go_simp; rfl) | (go_simp; done)) (by go_simp; rfl) HS ?_
  refine HeldBy.take (i := 12) rfl (by kernel_rfl) (by kernel_rfl) (by kernel_rfl) (fun _ _ _ h => h) (by rfl) (fun _ _ => by first | (go_simp; rfl) | (go_simp; done)) (by go_simp; rfl) HS ?_
  refine HeldBy.take (i := 13) (v := encK y.k y.n) rfl (by kernel_rfl) (by kernel_rfl) (by kernel_rfl) (fun _ _ _ h => h) (by rfl) (fun V hV => load_keyAt hV.1 rfl rfl) (by go_simp; rfl) HS ?_
  refine HeldBy.take (i := 14) (v := encC c) rfl (by kernel_rfl) (by kernel_rfl) (by kernel_rfl) (fun _ _ _ h => h) (by rfl) (fun V hV => load_call hV.2.1 rfl rfl) (by go_simp; rfl) HS ?_
  refine HeldBy.take (i := 15) rfl (by kernel_rfl) (by kernel_rfl) (by kernel_rfl) (fun _ _ _ h => h) (by rfl) (fun _ _ => by first | (go_simp; rfl) | (go_simp; done)) (by go_simp; rfl) HS ?_
  refine HeldBy.take (i := 16) (v := encR y.r) rfl (by kernel_rfl) (by kernel_rfl) (by kernel_rfl) (fun _ _ _ h => h) (by rfl) (fun V hV => load_resAt hV.1 rfl rfl) (by go_simp; rfl) HS ?_
  refine HeldBy.call (i := 9) (v := encA a) rfl (by kernel_rfl) (by rfl) (by go_simp; exact ⟨rfl, rfl⟩) (by go_simp; rfl) ?_
  refine (HA1.out _ HS.2.2.1 HS.2.2.2.2).mono ?_
  rintro e U2 ⟨rfl, hb⟩
  replace HS : BoxY U2 w.heap.size y ∧ BoxC U2 W2.heap.size c ∧ ObjsIn U2 (.slice o1 q.length c1) q ∧ Below w.heap.size w U2 ∧ Tab U2 := ⟨HS.1.after hb, HS.2.1.after hb, HS.2.2.1.after hb, HS.2.2.2.1.trans (hb.mono HS.2.2.2.1.size), HS.2.2.2.2.after hb⟩
  refine ⟨rfl, HS, ?_⟩
  clear hb
  refine HeldBy.call (i := 17) (v := encA a) rfl (by kernel_rfl) (by rfl) (by go_simp; exact ⟨rfl, rfl⟩) (by go_simp; rfl) ?_
  refine (HA2.out _ HS.2.2.1 HS.2.2.2.2).mono ?_
  rintro e U3 ⟨rfl, hb⟩
  replace HS : BoxY U3 w.heap.size y ∧ BoxC U3 W2.heap.size c ∧ ObjsIn U3 (.slice o1 q.length c1) q ∧ Below w.heap.size w U3 ∧ Tab U3 := ⟨HS.1.after hb, HS.2.1.after hb, HS.2.2.1.after hb, HS.2.2.2.1.trans (hb.mono HS.2.2.2.1.size), HS.2.2.2.2.after hb⟩
  refine ⟨rfl, HS, ?_⟩
  clear hb
  refine HeldBy.take (i := 18) (v := .bool true) rfl (by kernel_rfl) (by kernel_rfl) (by kernel_rfl) (fun _ _ _ h => h) (by rfl) (fun V _ => exec_eql_same (A := a) rfl rfl rfl) (by go_simp; rfl) HS ?_
  refine HeldBy.take (i := 19) rfl (by kernel_rfl) (by kernel_rfl) (by kernel_rfl) (fun _ _ _ h => h) (by rfl) (fun _ _ => by first | (go_simp; rfl) | (go_simp; done)) (by go_simp; rfl) HS ?_
  refine HeldBy.take (i := 20) rfl (by kernel_rfl) (by kernel_rfl) (by kernel_rfl) (fun _ _ _ h => h) (by rfl) (fun _ _ => by first | (go_simp; rfl) | (go_simp; done)) (by go_simp; rfl) HS ?_
  refine wpAnyH_done (by kernel_rfl) ?_ _
  have HX := Lib.hid HS.2.2.2.1
  clear HS HA1 HA2
  go_wp2
  go_ret
  exact ⟨rfl, HX.out⟩
end Go.Proofs.YtijgieefmnmakaaDoor.O.B
