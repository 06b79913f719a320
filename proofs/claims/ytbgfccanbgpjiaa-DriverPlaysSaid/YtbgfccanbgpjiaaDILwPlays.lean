/- Own work. -/
import Derived.Test.YtbgfccanbgpjiaaDILSame
import Derived.Test.YtbgfccanbgpjiaaDJIRTold
import Derived.Test.YtbgfccanbgpjiaaDJISame
namespace Go.Proofs.Ytbgfccanbgpjiaa.O.I
open Go Go.RowKit Go.Lib KM
attribute [local go_sem] Oper.semAt_some
set_option maxRecDepth 100000 in
set_option maxHeartbeats 8000000 in
theorem plays_any (a b c : Int) (ha : U8 a) (hb : U8 b) (hc : U8 c) (u : Value) (l : List Dd) (x : Cl) (w : World) (hl : DeedsIn w u l) (hf : ∀ x ∈ l, FitC x.c) (hx : FitC x) :
    Calls Try.prog 3 #[encN a b c, u, encC x] w fun e w' => e = .returned (.bool true) ∧ Below w.heap.size w w' := by
  have HL := Lib.hid hl
  have HF := Lib.hid hf
  have HA := Lib.hid ha
  have HBB := Lib.hid hb
  have HCC := Lib.hid hc
  have HFX := Lib.hid hx
  obtain ⟨rb, hrb⟩ : ∃ rb, rightB x = rb := ⟨_, rfl⟩
  have HRB := Lib.hid hrb
  clear hl hf ha hb hc hx hrb
  rw [show encN a b c = .agg #[.int .u8 a, .int .u8 b, .int .u8 c] from rfl, show encC x = .agg (cellsC x) from rfl]
  go_enter Try.func3, Try.ntmps3
  go_upto_region 1 with (fail)
  refine wp_gen (fun V => BoxN V w.heap.size a b c ∧ BoxC V (w.heap.size + 1) x ∧ Below w.heap.size w V) ⟨(heap2 w _ _).1, (heap2 w _ _).2, below2 w _ _⟩ ?_
  rintro V1 ⟨hn1, hx1, hw1⟩
  have HX := Lib.hid hx1
  have HW := Lib.hid hw1
  clear hx1 hw1
  go_wp2_with (refine wpList_got rfl (loadN hn1 rfl rfl) ?_)
  clear hn1
  refine (play_any a b c HA.out HBB.out HCC.out u l V1 (HL.out.after HW.out) HF.out).mono ?_
  rintro e W1 ⟨d, r, v, s, n, B, R, q, S, rfl, hbo, -, -, hpl, hb⟩
  replace HX := Lib.hid (HX.out.after hb)
  replace HW := Lib.hid (HW.out.trans (hb.mono HW.out.size))
  have HB := Lib.hid hbo
  have HG := Lib.hid hpl.good
  clear hbo hpl hb
  go_upto_region 2 with (fail)
  refine wp_region_held_drew (S := fun V => BoxC V (w.heap.size + 1) x ∧ Both d r v s n B R q V S ∧ Below w.heap.size w V) (by kernel_rfl) ⟨HX.out, HB.out.drew, HW.out.drew⟩ (fun _ => ?_)
  refine HeldBy.gen (fun V => BoxC V (w.heap.size + 1) x ∧ Both d r v s n B R q V S ∧ Below w.heap.size w V) ⟨HX.out, HB.out.drew, HW.out.drew⟩ ?_
  clear HX HB HW
  rintro U0 HS
  refine HeldBy.call (i := 0) (v := .bool true) rfl (by kernel_rfl) (by rfl) (by first | (go_simp; done) | (go_simp; first | exact ⟨rfl, rfl⟩ | rfl)) (by first | (go_simp; rfl) | (go_simp; done)) ?_
  refine (live_any _).mono ?_
  rintro e U1 ⟨rfl, hb⟩
  replace HS : BoxC U1 (w.heap.size + 1) x ∧ Both d r v s n B R q U1 S ∧ Below w.heap.size w U1 := ⟨HS.1.after hb, HS.2.1.after hb, HS.2.2.trans (hb.mono HS.2.2.size)⟩
  refine ⟨rfl, HS, ?_⟩
  clear hb
  refine HeldBy.tn (i := 1) rfl HS ?_
  refine HeldBy.tn (i := 2) rfl HS ?_
  refine HeldBy.tn (i := 3) rfl HS ?_
  refine HeldBy.tn (i := 4) rfl HS ?_
  refine HeldBy.tn (i := 5) rfl HS ?_
  refine HeldBy.tn (i := 6) rfl HS ?_
  refine HeldBy.tk (i := 7) (v := encC x) rfl (fun V hV => loadC hV.1 rfl rfl) HS ?_
  refine HeldBy.call (i := 8) (v := .bool true) rfl (by kernel_rfl) (by rfl) (by first | (go_simp; done) | (go_simp; first | exact ⟨rfl, rfl⟩ | rfl)) (by first | (go_simp; rfl) | (go_simp; done)) ?_
  refine (same_any HS.2.1 HG.out (by decide) x).mono ?_
  rintro e U2 ⟨rfl, hb⟩
  replace HS : BoxC U2 (w.heap.size + 1) x ∧ Both d r v s n B R q U2 S ∧ Below w.heap.size w U2 := ⟨HS.1.after hb, HS.2.1.after hb, HS.2.2.trans (hb.mono HS.2.2.size)⟩
  refine ⟨rfl, HS, ?_⟩
  clear hb
  refine HeldBy.tn (i := 9) rfl HS ?_
  refine HeldBy.tn (i := 10) rfl HS ?_
  refine HeldBy.tk (i := 11) (v := encC x) rfl (fun V hV => loadC hV.1 rfl rfl) HS ?_
  refine HeldBy.tk (i := 13) (v := encC x) rfl (fun V hV => loadC hV.1 rfl rfl) HS ?_
  refine HeldBy.call (i := 12) (v := .bool rb) rfl (by kernel_rfl) (by rfl) (by first | (go_simp; done) | (go_simp; first | exact ⟨rfl, rfl⟩ | rfl)) (by first | (go_simp; rfl) | (go_simp; done)) ?_
  refine (right_is HRB.out _).mono ?_
  rintro e U3 ⟨rfl, hb⟩
  replace HS : BoxC U3 (w.heap.size + 1) x ∧ Both d r v s n B R q U3 S ∧ Below w.heap.size w U3 := ⟨HS.1.after hb, HS.2.1.after hb, HS.2.2.trans (hb.mono HS.2.2.size)⟩
  refine ⟨rfl, HS, ?_⟩
  clear hb
  refine HeldBy.call (i := 14) (v := .bool rb) rfl (by kernel_rfl) (by rfl) (by first | (go_simp; done) | (go_simp; first | exact ⟨rfl, rfl⟩ | rfl)) (by first | (go_simp; rfl) | (go_simp; done)) ?_
  refine (rright_is HFX.out HRB.out _).mono ?_
  rintro e U4 ⟨rfl, hb⟩
  replace HS : BoxC U4 (w.heap.size + 1) x ∧ Both d r v s n B R q U4 S ∧ Below w.heap.size w U4 := ⟨HS.1.after hb, HS.2.1.after hb, HS.2.2.trans (hb.mono HS.2.2.size)⟩
  refine ⟨rfl, HS, ?_⟩
  clear hb
  refine HeldBy.tk (i := 15) (v := .bool true) rfl (fun _ _ => by first | (go_simp; rfl) | (go_simp; done) | (go_simp; simp)) HS ?_
  refine HeldBy.tn (i := 16) rfl HS ?_
  refine HeldBy.tn (i := 17) rfl HS ?_
  refine wpAnyH_done (by kernel_rfl) ?_ _
  have HX2 := Lib.hid HS.2.2
  clear HS
  go_wp2
  go_ret
  exact ⟨rfl, HX2.out⟩
end Go.Proofs.Ytbgfccanbgpjiaa.O.I
