/- The law CodecCuts: its walk. -/
import Derived.Test.YtacbfpgknfcimaaCLaws
import Derived.Test.YtacbfpgknfcimaaCAppB
namespace Go.Proofs.Ytacbfpgknfcimaa.C
open Go.RowKit T O
open Go.Lib hiding intOf

/-- What stands: an object's bytes, a change's bytes. -/
structure Cut (w : World) (va vb : Value) (la lb : Bytes) (W : World) : Prop where
  a : BytesIn W va la
  b : BytesIn W vb lb
  low : Below w.heap.size w W
theorem Cut.after {w : World} {va vb : Value} {la lb : Bytes} {W W1 : World} (h : Cut w va vb la lb W) (hb : Below W.heap.size W W1) : Cut w va vb la lb W1 := ⟨h.a.after hb, h.b.after hb, h.low.trans (hb.mono h.low.size)⟩
theorem below_allocSet (W : World) (x : Go.Obj) (cs : Array Value) : Below W.heap.size W ((W.alloc x).setRow W.heap.size cs) := below_setRow ((Below.refl _ _).alloc (Nat.le_refl _) _) (Nat.le_refl _) _

set_option maxRecDepth 100000 in
set_option maxHeartbeats 8000000 in
theorem codecCuts_any (x : Ev) (hv : U64 x.version) (hf : Fits x.object) (n : Nat) (hn : n < 65536) (w : World) :
    Calls Try.prog 7 #[encE x, .int .u16 (n : Int)] w fun e w' => e = .returned (.bool true) ∧ Below w.heap.size w w' := by
  cases hr : rightB x.object with
  | false =>
    have HR := Lib.hid hr
    clear hr
    unfold encE
    go_enter Try.func7, Try.ntmps7
    go_upto_region 1 with (fail)
    refine wp_gen (fun W => BoxE W w.heap.size x ∧ Below w.heap.size w W) ⟨BoxE.new w x, (Below.refl _ _).alloc (Nat.le_refl _) _⟩ ?_
    rintro W1 ⟨hb, hlow⟩
    go_wp2_with ((with_reducible refine wpList_load_evo ?_ rfl ?_ hb ?_); rfl; rfl)
    refine (object_bad hf HR.out _).mono ?_
    rintro e W2 ⟨hb1, va, rfl, -⟩
    replace hb := hb.after hb1
    replace hlow := hlow.trans (hb1.mono hlow.size)
    clear hb1
    go_wp2_with ((with_reducible refine wpList_load_ev ?_ rfl ?_ hb ?_); rfl; rfl)
    refine (change_bad hv hf HR.out _).mono ?_
    rintro e W3 ⟨hb1, vb, rfl, -⟩
    replace hlow := hlow.trans (hb1.mono hlow.size)
    clear hb1 hb
    go_wp2_with fail
    refine (live_any _).mono ?_
    rintro e W4 ⟨rfl, hb1⟩
    replace hlow := hlow.trans (hb1.mono hlow.size)
    clear hb1
    go_wp2
    go_ret
    exact ⟨rfl, hlow⟩
  | true =>
    have HR := Lib.hid hr
    have HO := Lib.hid (wf_fits hf hr)
    have HE : Hid (WfE x) := ⟨hv, trivial, (wf_fits hf hr).1, hr⟩
    have hla := objB_len HO.out.1 HO.out.2
    have hlb := evB_len HE.out
    clear hr
    unfold encE
    go_enter Try.func7, Try.ntmps7
    go_upto_region 1 with (fail)
    refine wp_gen (fun W => BoxE W w.heap.size x ∧ Below w.heap.size w W) ⟨BoxE.new w x, (Below.refl _ _).alloc (Nat.le_refl _) _⟩ ?_
    rintro W1 ⟨hb, hlow⟩
    go_wp2_with ((with_reducible refine wpList_load_evo ?_ rfl ?_ hb ?_); rfl; rfl)
    refine (object_ok hf HR.out _).mono ?_
    rintro e W2 ⟨hb1, va, rfl, hva⟩
    have hva := hva.bytes
    replace hb := hb.after hb1
    replace hlow := hlow.trans (hb1.mono hlow.size)
    clear hb1
    go_wp2_with ((with_reducible refine wpList_load_ev ?_ rfl ?_ hb ?_); rfl; rfl)
    refine (change_ok hv hf HR.out _).mono ?_
    rintro e W3 ⟨hb1, vb, rfl, hvb⟩
    have HC : Cut w va vb (objB x.object) (evB x) W3 := ⟨hva.after hb1, hvb.bytes, hlow.trans (hb1.mono hlow.size)⟩
    clear hb1 hb hlow hva hvb
    have la := HC.a.len
    have lb := HC.b.len
    have HLA := Lib.hid hla
    have HLB := Lib.hid hlb
    generalize hA : (objB x.object).length = A at *
    generalize hB : (evB x).length = B at *
    have HA := Lib.hid hA
    have HB := Lib.hid hB
    clear hA hB
    have a0 : ((A : Int) == 0) = false := by simp; omega
    have b0 : ((B : Int) == 0) = false := by simp; omega
    have ra : ((n : Int).tmod (A : Int)) = ((n % A : Nat) : Int) := by rw [Int.ofNat_tmod]
    have rb : ((n : Int).tmod (B : Int)) = ((n % B : Nat) : Int) := by rw [Int.ofNat_tmod]
    go_upto_region 5 with (fail)
    clear ra rb a0 b0
    obtain ⟨v5, hs5, hB5, -⟩ := HC.a.head (n := n % A) (by rw [HA.out]; exact Nat.le_of_lt (Nat.mod_lt _ (by have := HLA.out; omega))) .i64
    have HX5 := Lib.hid (lawObj.cut HO.out (k := n % A) (by rw [HA.out]; exact Nat.mod_lt _ (by have := HLA.out; omega)))
    have em : ((n % A : Nat) : Int) = (n : Int) % (A : Int) := by simp
    rw [em] at hs5
    clear em
    go_wp2_with fail
    refine (read_bad hB5 HX5.out).mono ?_
    rintro e W5 ⟨rfl, hb1⟩
    replace HC := HC.after hb1
    have hn := BoxO.new W5 O0
    clear hb1 hB5 hs5 HX5
    go_upto_region 6 with ((with_reducible refine wpList_store_rowTo rfl 27 _ _ rfl rfl W5.heap.size (cellsO O0) ?_ ?_ 27 (cellsO O0) ?_ ?_ ?_ ?_ ?_); rfl; rfl; exact hn; exact sizeObj; exact sz_cells _ _; exact one_cells _)
    refine wp_gen (fun W => Cut w va vb (objB x.object) (evB x) W) (HC.after (below_allocSet _ _ _)) ?_
    clear HC hn
    rintro V5 HC
    have la := HC.a.len
    have lb := HC.b.len
    rw [HA.out] at la
    rw [HB.out] at lb
    obtain ⟨v6, hs6, hB6, -⟩ := HC.b.head (n := n % B) (by rw [HB.out]; exact Nat.le_of_lt (Nat.mod_lt _ (by have := HLB.out; omega))) .i64
    have HX6 := Lib.hid (lawEv.cut HE.out (k := n % B) (by rw [HB.out]; exact Nat.mod_lt _ (by have := HLB.out; omega)))
    have em : ((n % B : Nat) : Int) = (n : Int) % (B : Int) := by simp
    rw [em] at hs6
    clear em
    go_wp2_with fail
    refine (readChange_bad hB6 HX6.out).mono ?_
    rintro e W6 ⟨rfl, hb1⟩
    replace HC := HC.after hb1
    have hn := BoxE.new W6 Ev0
    clear hb1 hB6 hs6 HX6
    go_upto_region 7 with ((with_reducible refine wpList_store_rowTo rfl 29 _ _ rfl rfl W6.heap.size (cellsE Ev0) ?_ ?_ 29 (cellsE Ev0) ?_ ?_ ?_ ?_ ?_); rfl; rfl; exact hn; exact sizeEv; exact rfl; exact one_cellsE _)
    refine wp_gen (fun W => Cut w va vb (objB x.object) (evB x) W) (HC.after (below_allocSet _ _ _)) ?_
    clear HC hn
    rintro V6 HC
    have la := HC.a.len
    have lb := HC.b.len
    rw [HA.out] at la
    rw [HB.out] at lb
    have HX := Lib.hid (lawObj.more HO.out (r := [0]) (by simp))
    have hy := HC.a.alloc (.cells #[] 5 (0, 0))
    have HY : Hid (([] : Bytes).length + (objB x.object).length ≤ 140737488355328) := by show _ ≤ _; rw [HA.out]; have := HLA.out; simp; omega
    have HY2 : Hid ((([] : Bytes) ++ objB x.object).length + 1 ≤ 1000000000000) := by show _ ≤ _; rw [List.nil_append, HA.out]; have := HLA.out; omega
    have H0 : Hid (Held (V6.alloc (.cells #[] 5 (0, 0))) V6.heap.size (.slice (some ⟨V6.heap.size, 0, none⟩) 0 0) []) := World.ownsRow_made V6 #[] 0 (Nat.le_refl _) (by decide) rfl
    clear la lb
    go_wp2_with (first | (at_builtin; refine wpList_append_bytes rfl (.tmp 77) (.tmp 78) rfl V6.heap.size (.slice (some ⟨V6.heap.size, 0, none⟩) 0 0) [] ?_ H0.out va (objB x.object) ?_ hy HY.out ?_ ?_; rfl; rfl; (focus (simp)); intro u1 X1 hH1 hG1) | (at_builtin; refine wpList_append_one rfl (.tmp 79) (.tmp 80) rfl V6.heap.size u1 _ ?_ (hH1.alloc _) X1.heap.size 1 (0 : UInt8) ?_ ?_ ?_ ?_ ?_; rfl; rfl; (focus exact (cell_one_new _ _ _ 0 _ rfl).trans rfl); exact HY2.out; (focus (have := hG1.by_.size; simp at this ⊢; omega)); intro u2 X2 hH2 hG2))
    rw [List.nil_append] at hH2
    have hz1 : V6.heap.size ≤ X1.heap.size := by have := hG1.by_.size; simp at this; omega
    have hbX : Below V6.heap.size V6 X2 := ((Below.refl _ _).alloc (Nat.le_refl _) _).trans ((hG1.below H0.out (by simp)).trans (hG2.alloc.below hH1 hz1))
    replace HC := HC.after hbX
    refine (read_bad hH2.bytes HX.out).mono ?_
    rintro e W7 ⟨rfl, hb1⟩
    replace HC := HC.after hb1
    have hn := BoxO.new W7 O0
    clear hb1 hH1 hG1 hH2 hG2 hz1 hbX HX hy HY HY2 H0
    go_upto_region 8 with ((with_reducible refine wpList_store_rowTo rfl 27 _ _ rfl rfl W7.heap.size (cellsO O0) ?_ ?_ 27 (cellsO O0) ?_ ?_ ?_ ?_ ?_); rfl; rfl; exact hn; exact sizeObj; exact sz_cells _ _; exact one_cells _)
    refine wp_gen (fun W => Cut w va vb (objB x.object) (evB x) W) (HC.after (below_allocSet _ _ _)) ?_
    clear HC hn
    rintro V7 HC
    have HX := Lib.hid (lawEv.more HE.out (r := [0]) (by simp))
    have hy := HC.b.alloc (.cells #[] 5 (0, 0))
    have HY : Hid (([] : Bytes).length + (evB x).length ≤ 140737488355328) := by show _ ≤ _; rw [HB.out]; have := HLB.out; simp; omega
    have HY2 : Hid ((([] : Bytes) ++ evB x).length + 1 ≤ 1000000000000) := by show _ ≤ _; rw [List.nil_append, HB.out]; have := HLB.out; omega
    have H0 : Hid (Held (V7.alloc (.cells #[] 5 (0, 0))) V7.heap.size (.slice (some ⟨V7.heap.size, 0, none⟩) 0 0) []) := World.ownsRow_made V7 #[] 0 (Nat.le_refl _) (by decide) rfl
    go_wp2_with (first | (at_builtin; refine wpList_append_bytes rfl (.tmp 86) (.tmp 87) rfl V7.heap.size (.slice (some ⟨V7.heap.size, 0, none⟩) 0 0) [] ?_ H0.out vb (evB x) ?_ hy HY.out ?_ ?_; rfl; rfl; (focus (simp)); intro u1 X1 hH1 hG1) | (at_builtin; refine wpList_append_one rfl (.tmp 88) (.tmp 89) rfl V7.heap.size u1 _ ?_ (hH1.alloc _) X1.heap.size 1 (0 : UInt8) ?_ ?_ ?_ ?_ ?_; rfl; rfl; (focus exact (cell_one_new _ _ _ 0 _ rfl).trans rfl); exact HY2.out; (focus (have := hG1.by_.size; simp at this ⊢; omega)); intro u2 X2 hH2 hG2))
    rw [List.nil_append] at hH2
    have hz1 : V7.heap.size ≤ X1.heap.size := by have := hG1.by_.size; simp at this; omega
    have hbX : Below V7.heap.size V7 X2 := ((Below.refl _ _).alloc (Nat.le_refl _) _).trans ((hG1.below H0.out (by simp)).trans (hG2.alloc.below hH1 hz1))
    replace HC := HC.after hbX
    refine (readChange_bad hH2.bytes HX.out).mono ?_
    rintro e W8 ⟨rfl, hb1⟩
    replace HC := HC.after hb1
    have hn := BoxE.new W8 Ev0
    clear hb1 hH1 hG1 hH2 hG2 hz1 hbX HX hy HY HY2 H0
    go_upto_region 9 with ((with_reducible refine wpList_store_rowTo rfl 29 _ _ rfl rfl W8.heap.size (cellsE Ev0) ?_ ?_ 29 (cellsE Ev0) ?_ ?_ ?_ ?_ ?_); rfl; rfl; exact hn; exact sizeEv; exact rfl; exact one_cellsE _)
    refine wp_gen (fun W => Cut w va vb (objB x.object) (evB x) W) (HC.after (below_allocSet _ _ _)) ?_
    clear HC hn
    rintro V8 HC
    have hlow := HC.low
    clear HC
    go_wp2_with fail
    refine (live_any _).mono ?_
    rintro e W9 ⟨rfl, hb1⟩
    replace hlow := hlow.trans (hb1.mono hlow.size)
    clear hb1
    go_wp2
    go_ret
    exact ⟨rfl, hlow⟩
theorem codecCuts_int (x : Ev) (hv : U64 x.version) (hf : Fits x.object) (m : Int) (hm : (Lit.int .u16 m).wf = true) (w : World) :
    Calls Try.prog 7 #[encE x, .int .u16 m] w fun e w' => e = .returned (.bool true) ∧ Below w.heap.size w w' := by
  have h := bounds_u16 hm
  obtain ⟨n, rfl⟩ := Int.eq_ofNat_of_zero_le h.1
  exact codecCuts_any x hv hf n (by omega) w
end Go.Proofs.Ytacbfpgknfcimaa.C
