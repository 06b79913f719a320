/- Own work. -/
import Derived.Test.YtbgfccanbgpjiaaDJISnSeqN
namespace Go.Proofs.Ytbgfccanbgpjiaa.O.I
open Go Go.RowKit Go.Lib KM
attribute [local go_sem] Oper.semAt_some
set_option maxRecDepth 100000 in
set_option maxHeartbeats 16000000 in
theorem rr_1_src (tg : ByteArray) (nu si : Int) (zo no so : ByteArray) (w : World) (hft : FitT tg) (ht : nm tg = true) (h0 : ¬ nu = 0) (hs : 0 ≤ si) (hs2 : si ≤ 1125899906842624) (hd : eqC ⟨1, tg, nu, si, zo, no, so⟩ ⟨1, tg, nu, si, zo, E0, so⟩ = true) (hz : 0 < si) (hfz : FitT zo) (hnz : nm zo = true) (hes : decide (so = E0) = false) (hfs : FitT so) (b : Bool) (hns : nm so = b) : Calls Try.prog 18 #[encC ⟨1, tg, nu, si, zo, no, so⟩] w fun e w' => e = .returned (.bool b) ∧ Below w.heap.size w w' := by
  rw [show encC ⟨1, tg, nu, si, zo, no, so⟩ = .agg (cellsC ⟨1, tg, nu, si, zo, no, so⟩) from rfl]
  have HES := Lib.hid hes
  have HFS := Lib.hid hfs
  have HNS := Lib.hid hns
  clear hes hfs hns
  have HFZ := Lib.hid hfz
  have HNZ := Lib.hid hnz
  clear hfz hnz
  have HD := Lib.hid hd
  clear hd
  have HT : Hid (nm tg = true) := ht
  have HFT := Lib.hid hft
  clear ht hft
  go_enter Try.func18, Try.ntmps18
  go_upto_region 1 with (fail)
  refine wp_gen (fun V => BoxC V w.heap.size ⟨1, tg, nu, si, zo, no, so⟩ ∧ Below w.heap.size w V) ⟨heap_alloc_new _ _, (Below.refl _ _).alloc (Nat.le_refl _) _⟩ ?_
  rintro V ⟨hc, hlw⟩
  have c0 := hc.c0
  have c1 := hc.c1
  have c2 := hc.c2
  have c3 := hc.c3
  have HC := Lib.hid hc
  have HW := Lib.hid hlw
  have HB : Hid (w.heap.size < V.heap.size) := hc.lt
  clear hc hlw
  go_wp2_with (fail)
  refine (refname_is HT.out HFT.out _).mono ?_
  rintro e V2 ⟨rfl, rfl⟩
  have h0b : (nu == 0) = false := by simp [h0]
  have hs3 : ¬ si < 0 := by omega
  have hs4 : ¬ 1125899906842624 < si := by omega
  obtain ⟨V1, hs1, hb1, hl1⟩ := boxC V zeroC rfl ⟨1, tg, nu, 0, E0, E0, E0⟩
  have d0 := (HC.out.after hl1).c0
  replace HC := Lib.hid (HC.out.after hl1)
  have HN := Lib.hid hb1
  replace HW := Lib.hid (HW.out.trans (hl1.mono HW.out.size))
  clear hb1 hl1
  go_upto_region 6 with (first | ((with_reducible refine wpList_build_to rfl 27 _ rfl (cellsC ⟨1, tg, nu, 0, E0, E0, E0⟩) ?_ ?_); exact built_c3 _ _ _) | (refine wpList_skip rfl (hs1 rfl rfl rfl) ?_))
  clear hs1 d0 c0 c1 c2 c3
  refine wp_region_held_drew (S := fun X => BoxC X w.heap.size ⟨1, tg, nu, si, zo, no, so⟩) (by kernel_rfl) HC.out (fun _ => ?_)
  refine HeldBy.gen (fun X => (BoxC X w.heap.size ⟨1, tg, nu, si, zo, no, so⟩) ∧ BoxC X V.heap.size ⟨1, tg, nu, 0, E0, E0, E0⟩ ∧ Below w.heap.size w X) ⟨HC.out, HN.out, HW.out.drew⟩ ?_
  clear HC HN HW
  rintro U0 ⟨HS, HN, HW⟩
  refine HeldBy.tn (i := 0) rfl HS ?_
  refine HeldBy.tk (i := 1) rfl (fun X hX => by have h1 := hX.c3; first | (go_simp; rfl) | (go_simp; done)) HS ?_
  refine HeldBy.tn (i := 2) rfl HS ?_
  refine HeldBy.tk (i := 3) rfl (fun X hX => by have h1 := hX.c4; first | (go_simp; rfl) | (go_simp; done)) HS ?_
  refine HeldBy.tn (i := 4) rfl HS ?_
  refine HeldBy.tk (i := 5) rfl (fun X hX => by have h1 := hX.c6; first | (go_simp; rfl) | (go_simp; done)) HS ?_
  refine HeldBy.tn (i := 6) rfl HS ?_
  have x3 := HN.c3
  have f3 := HN.free 3
  obtain ⟨U1, hU1⟩ : ∃ U, U0.setCell ⟨V.heap.size, 3, none⟩ (.int .i64 si) = U := ⟨_, rfl⟩
  have hS1 : BoxC U1 w.heap.size ⟨1, tg, nu, si, zo, no, so⟩ := hU1 ▸ HS.other (by have := HB.out; omega)
  have hW1 : Below w.heap.size w U1 := hU1 ▸ HW.setCell (show w.heap.size ≤ V.heap.size from Nat.le_of_lt HB.out) _
  have hN1 := HN.s3 si
  rw [hU1] at hN1
  refine HeldBy.store (i := 7) (w' := U1) rfl (by kernel_rfl) (by rfl) (by rw [← hU1]; first | (go_simp; done) | (go_simp; rfl)) (by first | (go_simp; rfl) | (go_simp; done)) hS1 ?_
  clear HS HW HN x3 f3 hU1
  have HS := hS1
  have HW := hW1
  have HN := hN1
  clear hS1 hW1 hN1
  refine HeldBy.tn (i := 8) rfl HS ?_
  have x4 := HN.c4
  have f4 := HN.free 4
  obtain ⟨U2, hU2⟩ : ∃ U, U1.setCell ⟨V.heap.size, 4, none⟩ (.string zo) = U := ⟨_, rfl⟩
  have hS2 : BoxC U2 w.heap.size ⟨1, tg, nu, si, zo, no, so⟩ := hU2 ▸ HS.other (by have := HB.out; omega)
  have hW2 : Below w.heap.size w U2 := hU2 ▸ HW.setCell (show w.heap.size ≤ V.heap.size from Nat.le_of_lt HB.out) _
  have hN2 := HN.s4 zo
  rw [hU2] at hN2
  refine HeldBy.store (i := 9) (w' := U2) rfl (by kernel_rfl) (by rfl) (by rw [← hU2]; first | (go_simp; done) | (go_simp; rfl)) (by first | (go_simp; rfl) | (go_simp; done)) hS2 ?_
  clear HS HW HN x4 f4 hU2
  have HS := hS2
  have HW := hW2
  have HN := hN2
  clear hS2 hW2 hN2
  refine HeldBy.tn (i := 10) rfl HS ?_
  have x6 := HN.c6
  have f6 := HN.free 6
  obtain ⟨U3, hU3⟩ : ∃ U, U2.setCell ⟨V.heap.size, 6, none⟩ (.string so) = U := ⟨_, rfl⟩
  have hS3 : BoxC U3 w.heap.size ⟨1, tg, nu, si, zo, no, so⟩ := hU3 ▸ HS.other (by have := HB.out; omega)
  have hW3 : Below w.heap.size w U3 := hU3 ▸ HW.setCell (show w.heap.size ≤ V.heap.size from Nat.le_of_lt HB.out) _
  have hN3 := HN.s6 so
  rw [hU3] at hN3
  refine HeldBy.store (i := 11) (w' := U3) rfl (by kernel_rfl) (by rfl) (by rw [← hU3]; first | (go_simp; done) | (go_simp; rfl)) (by first | (go_simp; rfl) | (go_simp; done)) hS3 ?_
  clear HS HW HN x6 f6 hU3
  have HS := hS3
  have HW := hW3
  have HN := hN3
  clear hS3 hW3 hN3
  refine wpAnyH_done (by kernel_rfl) ?_ _
  have c3 := HS.c3
  have c4 := HS.c4
  have c6 := HS.c6
  have HX := Lib.hid HW
  clear HW
  go_wp2_with (first | ((with_reducible show wpList _ _ _ (Oper.mk _ (Op.load 27 _) _ _ _ none :: _) _ _); refine wpList_got rfl (loadC HS rfl rfl) ?_) | ((with_reducible show wpList _ _ _ (Oper.mk _ (Op.load 27 _) _ _ _ none :: _) _ _); refine wpList_got rfl (loadC HN rfl rfl) ?_) | ((with_reducible show wpList _ _ _ (Oper.mk _ (Op.binOp BinOp.eql 27 _ _ _) _ _ _ none :: _) _ _); refine wpList_got rfl (exec_eqN rfl rfl rfl HD.out) ?_))
  refine (refname_is HNZ.out HFZ.out _).mono ?_
  rintro e V3 ⟨rfl, rfl⟩
  go_wp2_with (first | ((with_reducible show wpList _ _ _ (Oper.mk _ (Op.load 27 _) _ _ _ none :: _) _ _); refine wpList_got rfl (loadC HS rfl rfl) ?_) | ((with_reducible show wpList _ _ _ (Oper.mk _ (Op.load 27 _) _ _ _ none :: _) _ _); refine wpList_got rfl (loadC HN rfl rfl) ?_) | ((with_reducible show wpList _ _ _ (Oper.mk _ (Op.binOp BinOp.eql 27 _ _ _) _ _ _ none :: _) _ _); refine wpList_got rfl (exec_eqN rfl rfl rfl HD.out) ?_) | ((with_reducible show wpList _ _ _ (Oper.mk _ (Op.binOp BinOp.eql 9 _ _ _) _ _ _ _ :: _) _ _); refine wpList_got rfl (exec_eqS rfl rfl rfl HES.out) ?_))
  refine (refname_is HNS.out HFS.out _).mono ?_
  rintro e V4 ⟨rfl, rfl⟩
  go_wp2
  go_ret
  exact ⟨rfl, HX.out⟩
end Go.Proofs.Ytbgfccanbgpjiaa.O.I
