/- Own work. -/
import Derived.Test.YtbgfccanbgpjiaaDJ05
import Derived.RangeFuncLeaves
import Derived.Laws.AppendOwn
import Derived.Great.BuildSlice
import Derived.Test.YtbgfccanbgpjiaaDJIRBase
namespace Go.Proofs.Ytbgfccanbgpjiaa.O.I
open Go Go.RowKit Go.Lib KM
attribute [local go_sem] Oper.semAt_some
section
variable (d B : Nat) (c : Cl) (w : World) (T : Rs → World → Prop) (D : Nat → Prop)
set_option maxRecDepth 100000 in
set_option maxHeartbeats 4000000 in
theorem perf_1 (hv : c.verb = 1) (hop : ∀ V1, Below w.heap.size w V1 → w.heap.size + 1 < V1.heap.size → Calls Try.prog 68 #[.pointer (some ⟨d, 0, none⟩), encC c] V1 fun e V => ∃ r, e = .returned (encR r) ∧ T r V ∧ Fr D B V1 V)
    (hD : ∀ g, D g → g < w.heap.size) (hB : B ≤ w.heap.size) (hT : ∀ r V V', T r V → (∀ g, g ≠ w.heap.size + 1 → V'.heap[g]? = V.heap[g]?) → T r V') :
    Calls Try.prog 50 #[.pointer (some ⟨d, 0, none⟩), encC c] w fun e V => ∃ r, e = .returned (encR r) ∧ T r V ∧ Fr D B w V := by
  have HV := Lib.hid hv
  have HOP := Lib.hid hop
  have HDD := Lib.hid hD
  have HT := Lib.hid hT
  have HBB := Lib.hid hB
  clear hv hop hD hT hB
  rw [show encC c = .agg (cellsC c) from rfl]
  go_enter Try.func50, Try.ntmps50
  go_upto_region 1 with (fail)
  refine wp_gen (fun V => BoxC V w.heap.size c ∧ BoxR V (w.heap.size + 1) zeroR ∧ Below w.heap.size w V) ⟨(heap2 w _ _).1, (heap2 w _ _).2, below2 w _ _⟩ ?_
  rintro V1 ⟨hc1, hr1, hw1⟩
  have c0 := hc1.c0
  rw [HV.out] at c0
  have c1 := hc1.c1
  have c3 := hc1.c3
  have c5 := hc1.c5
  have c6 := hc1.c6
  have hcb := hc1
  have HR := Lib.hid hr1
  have HW := Lib.hid hw1
  have HO := Lib.hid (HOP.out V1 hw1 hr1.lt)
  clear hc1 hr1 hw1 HOP HV
  go_wp2_with (refine wpList_got rfl (loadC hcb rfl rfl) ?_)
  clear c0 c1 c3 c5 c6 hcb
  refine HO.out.mono ?_
  rintro e W2 ⟨rs, rfl, ht2, hf2⟩
  have hr2 : BoxR W2 (w.heap.size + 1) zeroR := (hf2.1 _ HR.out.lt (fun hd => by have := HDD.out _ hd; omega)).trans HR.out
  obtain ⟨V3, sr, br, or, lr⟩ := stoR hr2 rs
  have HBR := Lib.hid br
  have HRES : Hid (T rs V3 ∧ Fr D B w V3) := ⟨HT.out rs W2 V3 ht2 or, ((Fr.of_below HW.out HBB.out).trans hf2).sto or lr (Nat.le_succ _) HBB.out⟩
  clear ht2 hf2 hr2 br or lr HO HT HDD
  go_wp2_with (refine wpList_skip rfl (sr rfl rfl rfl) ?_)
  refine bodyPost_ret (v := encR rs) (results_cell_row rfl _ _ (w.heap.size + 1) 50 (cellsR rs) (0, 0) _ rfl HBR.out undR rfl sizeR) rfl ?_
  exact ⟨rs, rfl, HRES.out.1, HRES.out.2⟩
set_option maxRecDepth 100000 in
set_option maxHeartbeats 4000000 in
theorem perf_2 (hv : c.verb = 2) (hop : ∀ V1, Below w.heap.size w V1 → w.heap.size + 1 < V1.heap.size → Calls Try.prog 69 #[.pointer (some ⟨d, 0, none⟩), .string c.target] V1 fun e V => ∃ r, e = .returned (encR r) ∧ T r V ∧ Fr D B V1 V)
    (hD : ∀ g, D g → g < w.heap.size) (hB : B ≤ w.heap.size) (hT : ∀ r V V', T r V → (∀ g, g ≠ w.heap.size + 1 → V'.heap[g]? = V.heap[g]?) → T r V') :
    Calls Try.prog 50 #[.pointer (some ⟨d, 0, none⟩), encC c] w fun e V => ∃ r, e = .returned (encR r) ∧ T r V ∧ Fr D B w V := by
  have HV := Lib.hid hv
  have HOP := Lib.hid hop
  have HDD := Lib.hid hD
  have HT := Lib.hid hT
  have HBB := Lib.hid hB
  clear hv hop hD hT hB
  rw [show encC c = .agg (cellsC c) from rfl]
  go_enter Try.func50, Try.ntmps50
  go_upto_region 1 with (fail)
  refine wp_gen (fun V => BoxC V w.heap.size c ∧ BoxR V (w.heap.size + 1) zeroR ∧ Below w.heap.size w V) ⟨(heap2 w _ _).1, (heap2 w _ _).2, below2 w _ _⟩ ?_
  rintro V1 ⟨hc1, hr1, hw1⟩
  have c0 := hc1.c0
  rw [HV.out] at c0
  have c1 := hc1.c1
  have c3 := hc1.c3
  have c5 := hc1.c5
  have c6 := hc1.c6
  have hcb := hc1
  have HR := Lib.hid hr1
  have HW := Lib.hid hw1
  have HO := Lib.hid (HOP.out V1 hw1 hr1.lt)
  clear hc1 hr1 hw1 HOP HV
  go_wp2_with (fail)
  clear c0 c1 c3 c5 c6 hcb
  refine HO.out.mono ?_
  rintro e W2 ⟨rs, rfl, ht2, hf2⟩
  have hr2 : BoxR W2 (w.heap.size + 1) zeroR := (hf2.1 _ HR.out.lt (fun hd => by have := HDD.out _ hd; omega)).trans HR.out
  obtain ⟨V3, sr, br, or, lr⟩ := stoR hr2 rs
  have HBR := Lib.hid br
  have HRES : Hid (T rs V3 ∧ Fr D B w V3) := ⟨HT.out rs W2 V3 ht2 or, ((Fr.of_below HW.out HBB.out).trans hf2).sto or lr (Nat.le_succ _) HBB.out⟩
  clear ht2 hf2 hr2 br or lr HO HT HDD
  go_wp2_with (refine wpList_skip rfl (sr rfl rfl rfl) ?_)
  refine bodyPost_ret (v := encR rs) (results_cell_row rfl _ _ (w.heap.size + 1) 50 (cellsR rs) (0, 0) _ rfl HBR.out undR rfl sizeR) rfl ?_
  exact ⟨rs, rfl, HRES.out.1, HRES.out.2⟩
set_option maxRecDepth 100000 in
set_option maxHeartbeats 4000000 in
theorem perf_3 (hv : c.verb = 3) (hop : ∀ V1, Below w.heap.size w V1 → w.heap.size + 1 < V1.heap.size → Calls Try.prog 70 #[.pointer (some ⟨d, 0, none⟩), .string c.target, .string c.node] V1 fun e V => ∃ r, e = .returned (encR r) ∧ T r V ∧ Fr D B V1 V)
    (hD : ∀ g, D g → g < w.heap.size) (hB : B ≤ w.heap.size) (hT : ∀ r V V', T r V → (∀ g, g ≠ w.heap.size + 1 → V'.heap[g]? = V.heap[g]?) → T r V') :
    Calls Try.prog 50 #[.pointer (some ⟨d, 0, none⟩), encC c] w fun e V => ∃ r, e = .returned (encR r) ∧ T r V ∧ Fr D B w V := by
  have HV := Lib.hid hv
  have HOP := Lib.hid hop
  have HDD := Lib.hid hD
  have HT := Lib.hid hT
  have HBB := Lib.hid hB
  clear hv hop hD hT hB
  rw [show encC c = .agg (cellsC c) from rfl]
  go_enter Try.func50, Try.ntmps50
  go_upto_region 1 with (fail)
  refine wp_gen (fun V => BoxC V w.heap.size c ∧ BoxR V (w.heap.size + 1) zeroR ∧ Below w.heap.size w V) ⟨(heap2 w _ _).1, (heap2 w _ _).2, below2 w _ _⟩ ?_
  rintro V1 ⟨hc1, hr1, hw1⟩
  have c0 := hc1.c0
  rw [HV.out] at c0
  have c1 := hc1.c1
  have c3 := hc1.c3
  have c5 := hc1.c5
  have c6 := hc1.c6
  have hcb := hc1
  have HR := Lib.hid hr1
  have HW := Lib.hid hw1
  have HO := Lib.hid (HOP.out V1 hw1 hr1.lt)
  clear hc1 hr1 hw1 HOP HV
  go_wp2_with (fail)
  clear c0 c1 c3 c5 c6 hcb
  refine HO.out.mono ?_
  rintro e W2 ⟨rs, rfl, ht2, hf2⟩
  have hr2 : BoxR W2 (w.heap.size + 1) zeroR := (hf2.1 _ HR.out.lt (fun hd => by have := HDD.out _ hd; omega)).trans HR.out
  obtain ⟨V3, sr, br, or, lr⟩ := stoR hr2 rs
  have HBR := Lib.hid br
  have HRES : Hid (T rs V3 ∧ Fr D B w V3) := ⟨HT.out rs W2 V3 ht2 or, ((Fr.of_below HW.out HBB.out).trans hf2).sto or lr (Nat.le_succ _) HBB.out⟩
  clear ht2 hf2 hr2 br or lr HO HT HDD
  go_wp2_with (refine wpList_skip rfl (sr rfl rfl rfl) ?_)
  refine bodyPost_ret (v := encR rs) (results_cell_row rfl _ _ (w.heap.size + 1) 50 (cellsR rs) (0, 0) _ rfl HBR.out undR rfl sizeR) rfl ?_
  exact ⟨rs, rfl, HRES.out.1, HRES.out.2⟩
set_option maxRecDepth 100000 in
set_option maxHeartbeats 4000000 in
theorem perf_4 (hv : c.verb = 4) (hop : ∀ V1, Below w.heap.size w V1 → w.heap.size + 1 < V1.heap.size → Calls Try.prog 71 #[.pointer (some ⟨d, 0, none⟩), .string c.target, .string c.node] V1 fun e V => ∃ r, e = .returned (encR r) ∧ T r V ∧ Fr D B V1 V)
    (hD : ∀ g, D g → g < w.heap.size) (hB : B ≤ w.heap.size) (hT : ∀ r V V', T r V → (∀ g, g ≠ w.heap.size + 1 → V'.heap[g]? = V.heap[g]?) → T r V') :
    Calls Try.prog 50 #[.pointer (some ⟨d, 0, none⟩), encC c] w fun e V => ∃ r, e = .returned (encR r) ∧ T r V ∧ Fr D B w V := by
  have HV := Lib.hid hv
  have HOP := Lib.hid hop
  have HDD := Lib.hid hD
  have HT := Lib.hid hT
  have HBB := Lib.hid hB
  clear hv hop hD hT hB
  rw [show encC c = .agg (cellsC c) from rfl]
  go_enter Try.func50, Try.ntmps50
  go_upto_region 1 with (fail)
  refine wp_gen (fun V => BoxC V w.heap.size c ∧ BoxR V (w.heap.size + 1) zeroR ∧ Below w.heap.size w V) ⟨(heap2 w _ _).1, (heap2 w _ _).2, below2 w _ _⟩ ?_
  rintro V1 ⟨hc1, hr1, hw1⟩
  have c0 := hc1.c0
  rw [HV.out] at c0
  have c1 := hc1.c1
  have c3 := hc1.c3
  have c5 := hc1.c5
  have c6 := hc1.c6
  have hcb := hc1
  have HR := Lib.hid hr1
  have HW := Lib.hid hw1
  have HO := Lib.hid (HOP.out V1 hw1 hr1.lt)
  clear hc1 hr1 hw1 HOP HV
  go_wp2_with (fail)
  clear c0 c1 c3 c5 c6 hcb
  refine HO.out.mono ?_
  rintro e W2 ⟨rs, rfl, ht2, hf2⟩
  have hr2 : BoxR W2 (w.heap.size + 1) zeroR := (hf2.1 _ HR.out.lt (fun hd => by have := HDD.out _ hd; omega)).trans HR.out
  obtain ⟨V3, sr, br, or, lr⟩ := stoR hr2 rs
  have HBR := Lib.hid br
  have HRES : Hid (T rs V3 ∧ Fr D B w V3) := ⟨HT.out rs W2 V3 ht2 or, ((Fr.of_below HW.out HBB.out).trans hf2).sto or lr (Nat.le_succ _) HBB.out⟩
  clear ht2 hf2 hr2 br or lr HO HT HDD
  go_wp2_with (refine wpList_skip rfl (sr rfl rfl rfl) ?_)
  refine bodyPost_ret (v := encR rs) (results_cell_row rfl _ _ (w.heap.size + 1) 50 (cellsR rs) (0, 0) _ rfl HBR.out undR rfl sizeR) rfl ?_
  exact ⟨rs, rfl, HRES.out.1, HRES.out.2⟩
set_option maxRecDepth 100000 in
set_option maxHeartbeats 4000000 in
theorem perf_5 (hv : c.verb = 5) (hop : ∀ V1, Below w.heap.size w V1 → w.heap.size + 1 < V1.heap.size → Calls Try.prog 72 #[.pointer (some ⟨d, 0, none⟩), .string c.target, .int .i64 c.size] V1 fun e V => ∃ r, e = .returned (encR r) ∧ T r V ∧ Fr D B V1 V)
    (hD : ∀ g, D g → g < w.heap.size) (hB : B ≤ w.heap.size) (hT : ∀ r V V', T r V → (∀ g, g ≠ w.heap.size + 1 → V'.heap[g]? = V.heap[g]?) → T r V') :
    Calls Try.prog 50 #[.pointer (some ⟨d, 0, none⟩), encC c] w fun e V => ∃ r, e = .returned (encR r) ∧ T r V ∧ Fr D B w V := by
  have HV := Lib.hid hv
  have HOP := Lib.hid hop
  have HDD := Lib.hid hD
  have HT := Lib.hid hT
  have HBB := Lib.hid hB
  clear hv hop hD hT hB
  rw [show encC c = .agg (cellsC c) from rfl]
  go_enter Try.func50, Try.ntmps50
  go_upto_region 1 with (fail)
  refine wp_gen (fun V => BoxC V w.heap.size c ∧ BoxR V (w.heap.size + 1) zeroR ∧ Below w.heap.size w V) ⟨(heap2 w _ _).1, (heap2 w _ _).2, below2 w _ _⟩ ?_
  rintro V1 ⟨hc1, hr1, hw1⟩
  have c0 := hc1.c0
  rw [HV.out] at c0
  have c1 := hc1.c1
  have c3 := hc1.c3
  have c5 := hc1.c5
  have c6 := hc1.c6
  have hcb := hc1
  have HR := Lib.hid hr1
  have HW := Lib.hid hw1
  have HO := Lib.hid (HOP.out V1 hw1 hr1.lt)
  clear hc1 hr1 hw1 HOP HV
  go_wp2_with (fail)
  clear c0 c1 c3 c5 c6 hcb
  refine HO.out.mono ?_
  rintro e W2 ⟨rs, rfl, ht2, hf2⟩
  have hr2 : BoxR W2 (w.heap.size + 1) zeroR := (hf2.1 _ HR.out.lt (fun hd => by have := HDD.out _ hd; omega)).trans HR.out
  obtain ⟨V3, sr, br, or, lr⟩ := stoR hr2 rs
  have HBR := Lib.hid br
  have HRES : Hid (T rs V3 ∧ Fr D B w V3) := ⟨HT.out rs W2 V3 ht2 or, ((Fr.of_below HW.out HBB.out).trans hf2).sto or lr (Nat.le_succ _) HBB.out⟩
  clear ht2 hf2 hr2 br or lr HO HT HDD
  go_wp2_with (refine wpList_skip rfl (sr rfl rfl rfl) ?_)
  refine bodyPost_ret (v := encR rs) (results_cell_row rfl _ _ (w.heap.size + 1) 50 (cellsR rs) (0, 0) _ rfl HBR.out undR rfl sizeR) rfl ?_
  exact ⟨rs, rfl, HRES.out.1, HRES.out.2⟩
set_option maxRecDepth 100000 in
set_option maxHeartbeats 4000000 in
theorem perf_6 (hv : c.verb = 6) (hop : ∀ V1, Below w.heap.size w V1 → w.heap.size + 1 < V1.heap.size → Calls Try.prog 73 #[.pointer (some ⟨d, 0, none⟩), .string c.target, .string c.source] V1 fun e V => ∃ r, e = .returned (encR r) ∧ T r V ∧ Fr D B V1 V)
    (hD : ∀ g, D g → g < w.heap.size) (hB : B ≤ w.heap.size) (hT : ∀ r V V', T r V → (∀ g, g ≠ w.heap.size + 1 → V'.heap[g]? = V.heap[g]?) → T r V') :
    Calls Try.prog 50 #[.pointer (some ⟨d, 0, none⟩), encC c] w fun e V => ∃ r, e = .returned (encR r) ∧ T r V ∧ Fr D B w V := by
  have HV := Lib.hid hv
  have HOP := Lib.hid hop
  have HDD := Lib.hid hD
  have HT := Lib.hid hT
  have HBB := Lib.hid hB
  clear hv hop hD hT hB
  rw [show encC c = .agg (cellsC c) from rfl]
  go_enter Try.func50, Try.ntmps50
  go_upto_region 1 with (fail)
  refine wp_gen (fun V => BoxC V w.heap.size c ∧ BoxR V (w.heap.size + 1) zeroR ∧ Below w.heap.size w V) ⟨(heap2 w _ _).1, (heap2 w _ _).2, below2 w _ _⟩ ?_
  rintro V1 ⟨hc1, hr1, hw1⟩
  have c0 := hc1.c0
  rw [HV.out] at c0
  have c1 := hc1.c1
  have c3 := hc1.c3
  have c5 := hc1.c5
  have c6 := hc1.c6
  have hcb := hc1
  have HR := Lib.hid hr1
  have HW := Lib.hid hw1
  have HO := Lib.hid (HOP.out V1 hw1 hr1.lt)
  clear hc1 hr1 hw1 HOP HV
  go_wp2_with (fail)
  clear c0 c1 c3 c5 c6 hcb
  refine HO.out.mono ?_
  rintro e W2 ⟨rs, rfl, ht2, hf2⟩
  have hr2 : BoxR W2 (w.heap.size + 1) zeroR := (hf2.1 _ HR.out.lt (fun hd => by have := HDD.out _ hd; omega)).trans HR.out
  obtain ⟨V3, sr, br, or, lr⟩ := stoR hr2 rs
  have HBR := Lib.hid br
  have HRES : Hid (T rs V3 ∧ Fr D B w V3) := ⟨HT.out rs W2 V3 ht2 or, ((Fr.of_below HW.out HBB.out).trans hf2).sto or lr (Nat.le_succ _) HBB.out⟩
  clear ht2 hf2 hr2 br or lr HO HT HDD
  go_wp2_with (refine wpList_skip rfl (sr rfl rfl rfl) ?_)
  refine bodyPost_ret (v := encR rs) (results_cell_row rfl _ _ (w.heap.size + 1) 50 (cellsR rs) (0, 0) _ rfl HBR.out undR rfl sizeR) rfl ?_
  exact ⟨rs, rfl, HRES.out.1, HRES.out.2⟩
set_option maxRecDepth 100000 in
set_option maxHeartbeats 4000000 in
theorem perf_7 (hv : c.verb = 7) (hop : ∀ V1, Below w.heap.size w V1 → w.heap.size + 1 < V1.heap.size → Calls Try.prog 74 #[.pointer (some ⟨d, 0, none⟩), .string c.target] V1 fun e V => ∃ r, e = .returned (encR r) ∧ T r V ∧ Fr D B V1 V)
    (hD : ∀ g, D g → g < w.heap.size) (hB : B ≤ w.heap.size) (hT : ∀ r V V', T r V → (∀ g, g ≠ w.heap.size + 1 → V'.heap[g]? = V.heap[g]?) → T r V') :
    Calls Try.prog 50 #[.pointer (some ⟨d, 0, none⟩), encC c] w fun e V => ∃ r, e = .returned (encR r) ∧ T r V ∧ Fr D B w V := by
  have HV := Lib.hid hv
  have HOP := Lib.hid hop
  have HDD := Lib.hid hD
  have HT := Lib.hid hT
  have HBB := Lib.hid hB
  clear hv hop hD hT hB
  rw [show encC c = .agg (cellsC c) from rfl]
  go_enter Try.func50, Try.ntmps50
  go_upto_region 1 with (fail)
  refine wp_gen (fun V => BoxC V w.heap.size c ∧ BoxR V (w.heap.size + 1) zeroR ∧ Below w.heap.size w V) ⟨(heap2 w _ _).1, (heap2 w _ _).2, below2 w _ _⟩ ?_
  rintro V1 ⟨hc1, hr1, hw1⟩
  have c0 := hc1.c0
  rw [HV.out] at c0
  have c1 := hc1.c1
  have c3 := hc1.c3
  have c5 := hc1.c5
  have c6 := hc1.c6
  have hcb := hc1
  have HR := Lib.hid hr1
  have HW := Lib.hid hw1
  have HO := Lib.hid (HOP.out V1 hw1 hr1.lt)
  clear hc1 hr1 hw1 HOP HV
  go_wp2_with (fail)
  clear c0 c1 c3 c5 c6 hcb
  refine HO.out.mono ?_
  rintro e W2 ⟨rs, rfl, ht2, hf2⟩
  have hr2 : BoxR W2 (w.heap.size + 1) zeroR := (hf2.1 _ HR.out.lt (fun hd => by have := HDD.out _ hd; omega)).trans HR.out
  obtain ⟨V3, sr, br, or, lr⟩ := stoR hr2 rs
  have HBR := Lib.hid br
  have HRES : Hid (T rs V3 ∧ Fr D B w V3) := ⟨HT.out rs W2 V3 ht2 or, ((Fr.of_below HW.out HBB.out).trans hf2).sto or lr (Nat.le_succ _) HBB.out⟩
  clear ht2 hf2 hr2 br or lr HO HT HDD
  go_wp2_with (refine wpList_skip rfl (sr rfl rfl rfl) ?_)
  refine bodyPost_ret (v := encR rs) (results_cell_row rfl _ _ (w.heap.size + 1) 50 (cellsR rs) (0, 0) _ rfl HBR.out undR rfl sizeR) rfl ?_
  exact ⟨rs, rfl, HRES.out.1, HRES.out.2⟩
end
end Go.Proofs.Ytbgfccanbgpjiaa.O.I
namespace Go.Proofs.Ytbgfccanbgpjiaa.O.I
open Go Go.RowKit Go.Lib KM
attribute [local go_sem] Oper.semAt_some
theorem zero_U (w : World) : (zeroValue 100).run Try.prog w = .ok (.agg #[]) w := by kernel_rfl
theorem stoU (W : World) : ∃ V, (∀ {oi : Oper} {a : Act} {p q : Operand}, oi.op = .store 100 p q → a.eval p = .pointer (some ⟨W.heap.size, 0, none⟩) → a.eval q = .agg #[] → (execOp a.eval oi).run Try.prog (W.alloc (.cells #[] 100 (0, 0))) = .ok .skip V) ∧ Below W.heap.size W V := by
  refine ⟨(W.alloc (.cells #[] 100 (0, 0))).setRow W.heap.size #[], fun {oi a p q} ho hp hq => ?_, below_setRow ((Below.refl _ _).alloc (Nat.le_refl _) _) (Nat.le_refl _) _⟩
  have h1 := run_storeVar_row (P := Try.prog) (W.alloc (.cells #[] 100 (0, 0))) W.heap.size 100 100 #[] #[] (heap_alloc_new W _) (by kernel_rfl) rfl (by simp)
  unfold execOp
  simp [ho, hp, hq, Instr.storeAt, Instr.sureAddr, h1, Result.andThen]
section
variable (B d r v s n : Nat) (Ro Vo So : List (ByteArray × Value)) (No : List (Tg × Value)) (t node : ByteArray) (tag : Int) (w : World)
set_option maxRecDepth 100000 in
set_option maxHeartbeats 4000000 in
theorem put_none (hd : DrAt w d r v s n Ro Vo So No) (hV : KM.get t Vo = none) :
    Calls Try.prog 30 #[.pointer (some ⟨d, 0, none⟩), .string t, .string node, .int .u64 tag] w fun e w' => e = .returned (.int .i64 5) ∧ Below w.heap.size w w' := by
  have HV := Lib.hid hV
  have c1 := hd.box.c1
  obtain ⟨V1, sv, bv, lv⟩ := boxV w zeroV rfl zeroV
  have HDV := Lib.hid hd.vols
  have HX := Lib.hid lv
  clear hd hV bv lv
  go_enter Try.func30, Try.ntmps30
  go_wp2_with (first | (refine wpList_got rfl (exec_look2 und_V (zero_V _) HDV.out none HV.out rfl rfl rfl) ?_) | (refine wpList_skip rfl (sv rfl rfl rfl) ?_))
  go_ret
  exact ⟨rfl, HX.out⟩
set_option maxRecDepth 100000 in
set_option maxHeartbeats 4000000 in
theorem put_busy (x : Vl) (m : Nat) (M : List (ByteArray × Value)) (hd : DrAt w d r v s n Ro Vo So No) (hV : KM.get t Vo = some (encV x)) (hx : x.nodes = some m) (hm : IsMap encS w m M) (hn : KM.get node M = none) :
    Calls Try.prog 30 #[.pointer (some ⟨d, 0, none⟩), .string t, .string node, .int .u64 tag] w fun e w' => e = .returned (.int .i64 10) ∧ Below w.heap.size w w' := by
  have HV := Lib.hid hV
  have HN := Lib.hid hn
  have c1 := hd.box.c1
  obtain ⟨V1, sv, bv, lv⟩ := boxV w zeroV rfl x
  have c3 := bv.c3
  rw [hx] at c3
  have HMM := Lib.hid (hm.after lv)
  obtain ⟨V2, su, lu⟩ := stoU V1
  have HDV := Lib.hid hd.vols
  have HX := Lib.hid (lv.trans (lu.mono lv.size))
  clear hd hV bv lv hx hm hn lu
  go_enter Try.func30, Try.ntmps30
  go_wp2_with (first | (refine wpList_got rfl (exec_look2 und_V (zero_V _) HDV.out (some (encV x)) HV.out rfl rfl rfl) ?_) | (refine wpList_skip rfl (sv rfl rfl rfl) ?_) | (refine wpList_got rfl (exec_look2 und_N (zero_U _) HMM.out none HN.out rfl rfl rfl) ?_) | (refine wpList_skip rfl (su rfl rfl rfl) ?_))
  go_ret
  exact ⟨rfl, HX.out⟩
set_option maxRecDepth 100000 in
set_option maxHeartbeats 8000000 in
theorem put_ok (x : Vl) (m : Nat) (M : List (ByteArray × Value)) (hd : DrAt w d r v s n Ro Vo So No) (hf : Five d r v s n) (hV : KM.get t Vo = some (encV x)) (hx : x.nodes = some m) (hm : IsMap encS w m M) (hn : KM.get node M = some (.agg #[])) (hB : B ≤ v ∧ B ≤ w.heap.size) :
    Calls Try.prog 30 #[.pointer (some ⟨d, 0, none⟩), .string t, .string node, .int .u64 tag] w fun e w' => e = .returned (.int .i64 0) ∧ DrAt w' d r v s n Ro (KM.put t (encV ⟨x.size, tag, x.zone, x.nodes⟩) Vo) So No ∧ Fr (fun g => g = v) B w w' := by
  have HV := Lib.hid hV
  have HN := Lib.hid hn
  have HF := Lib.hid hf
  have HBB := Lib.hid hB
  have HLT := Lib.hid hd.lt
  have c1 := hd.box.c1
  obtain ⟨V1, sv, bv, lv⟩ := boxV w zeroV rfl x
  have c3 := bv.c3
  rw [hx] at c3
  have HMM := Lib.hid (hm.after lv)
  obtain ⟨V2, su, lu⟩ := stoU V1
  have bv2 := bv.after lu
  have HX := Lib.hid bv2
  have s1 := bv2.c1
  have f1 := bv2.free 1
  have HDV := Lib.hid hd.vols
  have HD := Lib.hid ((hd.after lv).after lu)
  have HW := Lib.hid (lv.trans (lu.mono lv.size))
  clear hd hV bv bv2 lv hx hm hn lu hf hB
  go_enter Try.func30, Try.ntmps30
  go_upto_region 10 with (first | (refine wpList_got rfl (exec_look2 und_V (zero_V _) HDV.out (some (encV x)) HV.out rfl rfl rfl) ?_) | (refine wpList_skip rfl (sv rfl rfl rfl) ?_) | (refine wpList_got rfl (exec_look2 und_N (zero_U _) HMM.out (some (.agg #[])) HN.out rfl rfl rfl) ?_) | (refine wpList_skip rfl (su rfl rfl rfl) ?_))
  refine wp_gen (fun V => DrAt V d r v s n Ro Vo So No ∧ BoxV V w.heap.size ⟨x.size, tag, x.zone, x.nodes⟩ ∧ Below w.heap.size w V) ?_ ?_
  · have hlt := HLT.out
    refine ⟨HD.out.keep (b := w.heap.size) (fun g hg => heap_setCell_other _ ⟨w.heap.size, 1, none⟩ g _ hg) (by omega), ?_, HW.out.setCell (Nat.le_refl _) _⟩
    exact (heap_setCell_same _ w.heap.size 1 _ _ (.int .u64 tag) HX.out).trans rfl
  clear s1 f1 HD HX HW sv su c1 c3 HMM HDV
  rintro V3 ⟨hd3, hx3, hw3⟩
  have HD := Lib.hid hd3
  have HB := Lib.hid hd3.box
  have HX := Lib.hid hx3
  have HW := Lib.hid hw3
  clear hd3 hx3 hw3
  refine wp_region_held_drew (S := fun V => BoxD V d ⟨some r, some v, some s, some n⟩ ∧ BoxV V w.heap.size ⟨x.size, tag, x.zone, x.nodes⟩) (by kernel_rfl) ⟨HB.out, HX.out⟩ (fun _ => ?_)
  refine HeldBy.gen (fun V => (BoxD V d ⟨some r, some v, some s, some n⟩ ∧ BoxV V w.heap.size ⟨x.size, tag, x.zone, x.nodes⟩) ∧ (DrAt V d r v s n Ro Vo So No) ∧ (Below w.heap.size w V)) ⟨⟨HB.out, HX.out⟩, HD.out, HW.out.drew⟩ ?_
  clear HB HX HD HW
  rintro U0 ⟨HS, HD, HW⟩
  refine HeldBy.tn (i := 0) rfl HS ?_
  refine HeldBy.tn (i := 1) rfl HS ?_
  refine HeldBy.tn (i := 2) rfl HS ?_
  refine HeldBy.tk (i := 3) (v := .map (some v)) rfl (fun V hV => by have hc := hV.1.c1; first | (go_simp; rfl) | (go_simp; done)) HS ?_
  refine HeldBy.tn (i := 4) rfl HS ?_
  refine HeldBy.tk (i := 5) (v := encV ⟨x.size, tag, x.zone, x.nodes⟩) rfl (fun V hV => loadV hV.2 rfl rfl) HS ?_
  obtain ⟨V6, hs6, hm6, ht6, hst6⟩ := exec_upds und_V HD.vols HD.stamp t (encV ⟨x.size, tag, x.zone, x.nodes⟩)
  have hlt := HLT.out
  have hBB := HBB.out
  obtain ⟨f1, f2, f3, f4, f5, f6, f7, f8, f9, f10⟩ := HF.out
  have hS6 : BoxD V6 d ⟨some r, some v, some s, some n⟩ ∧ BoxV V6 w.heap.size ⟨x.size, tag, x.zone, x.nodes⟩ := ⟨HS.1.turned ht6 f2, Turned.other ht6 (by omega) HS.2⟩
  refine HeldBy.store (i := 6) (w' := V6) rfl (by kernel_rfl) (by rfl) (hs6 rfl rfl rfl rfl) (by first | (go_simp; rfl) | (go_simp; done)) hS6 ?_
  refine wpAnyH_done (by kernel_rfl) ?_ _
  have HRES : Hid (DrAt V6 d r v s n Ro (KM.put t (encV ⟨x.size, tag, x.zone, x.nodes⟩) Vo) So No ∧ Fr (fun g => g = v) B w V6) := by
    show _ ∧ _
    exact ⟨HD.putVols HF.out ht6 hm6 hst6, (Fr.of_below HW hBB.2).trans (Fr.turned (D := fun g => g = v) ht6 rfl hBB.1)⟩
  clear hs6 hm6 ht6 hst6 hlt hBB f1 f2 f3 f4 f5 f6 f7 f8 f9 f10 hS6 HS HD HW
  go_wp2
  go_ret
  exact ⟨rfl, HRES.out.1, HRES.out.2⟩
end
end Go.Proofs.Ytbgfccanbgpjiaa.O.I
namespace Go.Proofs.Ytbgfccanbgpjiaa.O.I
open Go Go.RowKit Go.Lib KM
attribute [local go_sem] Oper.semAt_some
theorem exec_lookD1 {W : World} {oi : Oper} {a : Act} {p r : Operand} {b : Nat} {x : Tg} {d : List (Tg × Value)} (h : IsMap encT W b d) (y : Option Value) (hx : KM.get x d = y) (ho : oi.op = .lookup tD p r false) (hm : a.eval p = .map (some b)) (hk : a.eval r = encT x) :
    (execOp a.eval oi).run Try.prog W = .ok (.value (y.getD (encP zeroP))) W := by
  unfold execOp
  cases y with
  | none => simp [ho, hm, hk, run_lookup1_no tgtT und_D (zero_D W) h x hx, Result.andThen]
  | some v => simp [ho, hm, hk, run_lookup1_ok tgtT und_D h x hx, Result.andThen]
theorem exec_pcall {W : World} {y : Pc} {oi : Oper} {a : Act} {x : Operand} (ho : oi.op = .field 109 x 0) (hx : a.eval x = encP y) : (execOp a.eval oi).run Try.prog W = .ok (.value (encC y.call)) W := by
  unfold execOp
  simp only [ho, hx]
  kernel_rfl
theorem exec_cnum {W : World} {y : Cl} {oi : Oper} {a : Act} {x : Operand} (ho : oi.op = .field 27 x 2) (hx : a.eval x = encC y) : (execOp a.eval oi).run Try.prog W = .ok (.value (.int .u64 y.num)) W := by
  unfold execOp
  simp only [ho, hx]
  kernel_rfl
set_option maxRecDepth 100000 in
set_option maxHeartbeats 4000000 in
theorem seen_any (d r v s n : Nat) (Ro Vo So : List (ByteArray × Value)) (No : List (Tg × Value)) (vb : Int) (t : ByteArray) (y : Pc) (hy : (KM.get ⟨snapV vb, t⟩ No).getD (encP zeroP) = encP y) (w : World) (hd : DrAt w d r v s n Ro Vo So No) :
    Calls Try.prog 27 #[.pointer (some ⟨d, 0, none⟩), .int .u8 vb, .string t] w fun e w' => e = .returned (.int .u64 y.call.num) ∧ Below w.heap.size w w' := by
  have HD := Lib.hid hd
  have HY := Lib.hid hy
  have HW := Lib.hid (Below.refl w.heap.size w)
  clear hd hy
  go_enter Try.func27, Try.ntmps27
  go_upto_region 3 with (fail)
  refine wp_region_held_drew (S := fun V => DrAt V d r v s n Ro Vo So No ∧ Below w.heap.size w V) (by kernel_rfl) ⟨HD.out, HW.out.drew⟩ (fun _ => ?_)
  refine HeldBy.gen (fun V => DrAt V d r v s n Ro Vo So No ∧ Below w.heap.size w V) ⟨HD.out, HW.out.drew⟩ ?_
  clear HD HW
  rintro U0 HS
  refine HeldBy.tn (i := 0) rfl HS ?_
  refine HeldBy.tn (i := 1) rfl HS ?_
  refine HeldBy.tn (i := 2) rfl HS ?_
  refine HeldBy.tk (i := 3) (v := .map (some n)) rfl (fun V hV => by have hc := hV.1.box.c3; first | (go_simp; rfl) | (go_simp; done)) HS ?_
  refine HeldBy.tn (i := 4) rfl HS ?_
  refine HeldBy.tn (i := 5) rfl HS ?_
  refine HeldBy.call (i := 6) (v := encT ⟨snapV vb, t⟩) rfl (by kernel_rfl) (by rfl) (by go_simp; exact ⟨rfl, rfl⟩) (by go_simp; rfl) ?_
  refine (targetOf_any vb t _).mono ?_
  rintro e U1 ⟨rfl, hb⟩
  replace HS : DrAt U1 d r v s n Ro Vo So No ∧ Below w.heap.size w U1 := ⟨HS.1.after hb, HS.2.trans (hb.mono HS.2.size)⟩
  refine ⟨rfl, HS, ?_⟩
  clear hb
  refine HeldBy.tk (i := 7) (v := encP y) rfl (fun V hV => HY.out ▸ exec_lookD1 hV.1.done _ rfl rfl rfl rfl) HS ?_
  refine HeldBy.tk (i := 8) (v := encC y.call) rfl (fun _ _ => exec_pcall rfl rfl) HS ?_
  refine HeldBy.tk (i := 9) (v := .int .u64 y.call.num) rfl (fun _ _ => exec_cnum rfl rfl) HS ?_
  refine HeldBy.tn (i := 10) rfl HS ?_
  refine wpAnyH_done (by kernel_rfl) ?_ _
  have HX := Lib.hid HS.2
  clear HS
  go_wp2
  go_ret
  exact ⟨rfl, HX.out⟩
end Go.Proofs.Ytbgfccanbgpjiaa.O.I
namespace Go.Proofs.Ytbgfccanbgpjiaa.O.I
open Go Go.RowKit Go.Lib Go.Shelf RangeMap KM
attribute [local go_sem] Oper.semAt_some
def Mark (W : World) (D : Nat) : Prop := W.heap[D]? = some (.deferred (some []))
theorem leave_mark {F : Fence} {n : Nat} {P : Program} {fn : Func} {R : Ending → World → Prop} {a : Act} {W : World} {D : Nat} (hd : a.defers = [{ target := .collected D, args := #[] }]) (hk : Mark W D)
    (h : ∃ v, (results fn a.tmps).run P (W.putObj D (.deferred none)) = .ok v (W.putObj D (.deferred none)) ∧ R (.returned v) (W.putObj D (.deferred none))) : bodyPostM F n P fn R .ret a W := by
  show LeavesInM F n P fn a.tmps R a.defers FrameMode.returning W
  rw [hd]
  exact ⟨by simp, .inl ⟨_, _, rfl, run_takeDeferred hk, h⟩⟩
def cellsW (x : Vl) (k : ByteArray) (l : Value) : Array Value := #[.string k, .int .i64 x.size, .string x.zone, .int .u64 x.tag, l]
theorem exec_slice {T : TypeId} {n : Nat} {W W' : World} {v : Value} {vs : Array (Nat × Value)} (hr : (Instr.buildSlice T n vs).run Try.prog W = .ok v W') {oi : Oper} {a : Act} {parts : Array (Nat × Operand)} (ho : oi.op = .buildSlice T n parts)
    (hp : (parts.toList.map fun (i, x) => (i, a.eval x)) = vs.toList) : (execOp a.eval oi).run Try.prog W = .ok (.value v) W' := by
  have hp' : (parts.map fun (i, x) => (i, a.eval x)) = vs := by
    apply Array.toList_inj.1
    rw [Array.toList_map]
    exact hp
  subst hp'
  unfold execOp
  simp only [ho, Sem.run_bind, hr, Result.andThen_ok]
  rfl
theorem wpListIn_append_run {F : Fence} {n : Nat} {P : Program} {w w' : World} {ops : Array Oper} {rest : List Oper} {o : Oper} {a : Act} {Q : Exit → Act → World → Prop} {v sl sr : Value}
    (hg : o.guard = none) (s x : Operand) (t : TypeId) (hop : o.op = Op.call { callee := Callee.builtin Builtin.append, args := #[s, x], argTypes := #[t, t] }) (hs : a.eval s = sl) (hx : a.eval x = sr)
    (hrun : (Builtin.append_ #[t, t] o.type #[sl, sr]).run P w = .ok v w') (hn : wpListIn F n P ops Q rest (a.put o.dst v) w') : wpListIn F n P ops Q (o :: rest) a w := by
  refine wpListIn_plain hg fun K hK' => ?_
  unfold Oper.wpIn
  refine ⟨?_, ?_⟩
  · simp [Oper.about, hop, resolve, Target.leads, Sem.run_pure]
  · rw [Oper.semAt_plain F _ _ (by rw [hop]; intro c hc'; cases hc')]
    simp [execOp, hop, resolve, invoke, builtin, hs, hx, hrun, Result.andThen]
    exact hK' _ _ hn
theorem dv_info : ∃ i, Try.prog.info? 58 = some i ∧ i.zero = some (.agg (cellsW zeroV E0 (.slice none 0 0))) ∧ i.size = 5 ∧ i.bytes ≤ 1000 := by
  have h : (Try.prog.info? 58).map (fun i => (i.zero, i.size, decide (i.bytes ≤ 1000))) = some (some (.agg (cellsW zeroV E0 (.slice none 0 0))), 5, true) := by kernel_rfl
  cases hi : Try.prog.info? 58 with
  | none => rw [hi] at h; cases h
  | some i =>
    rw [hi] at h
    simp only [Option.map_some, Option.some.injEq, Prod.mk.injEq] at h
    exact ⟨i, rfl, h.1, h.2.1, of_decide_eq_true h.2.2⟩
theorem keys_map (m : Nat) (w : World) : Calls Try.prog 46 #[.map (some m)] w fun e w' => e = .returned (.func (.func 65) #[] #[.pointer (some ⟨w.heap.size, 0, none⟩)]) ∧ w' = w.alloc (.cells #[.map (some m)] tN) :=
  callsIn_wide.1 (Try.maps_Keys_46 (some m) w)
def Lst (c j : Nat) (W : World) : Prop := if j = 0 then Boxed W c 43 (.slice none 0 0) else ∃ g cp, Boxed W c 43 (.slice (some ⟨g, 0, none⟩) j cp)
theorem cells_own {B : Nat} {W W' : World} {row : Option Nat} (hg : W.grownBy W' row) (hr : ∀ r, row = some r → B ≤ r ∧ ∃ o : Go.Obj, W.heap[r]? = some o ∧ o.isCells = false) {b : Nat} {cs : Array Value} {t : TypeId} {f : Nat × Nat} (h : W.heap[b]? = some (.cells cs t f)) : W'.heap[b]? = some (.cells cs t f) := by
  refine (hg.block b (Array.getElem?_eq_some_iff.1 h).1 (fun e => ?_)).trans h
  obtain ⟨-, o, ho, hc⟩ := hr b e.symm
  rw [h] at ho
  cases ho
  cases hc
theorem Lst.own {B c j : Nat} {W W' : World} {row : Option Nat} (hg : W.grownBy W' row) (hr : ∀ r, row = some r → B ≤ r ∧ ∃ o : Go.Obj, W.heap[r]? = some o ∧ o.isCells = false) (h : Lst c j W) : Lst c j W' := by
  unfold Lst at *
  split at h
  · rename_i h0
    rw [if_pos h0]
    exact cells_own hg hr h
  · rename_i h0
    rw [if_neg h0]
    obtain ⟨g, cp, h⟩ := h
    exact ⟨g, cp, cells_own hg hr h⟩
theorem Lst.after {c j : Nat} {W W' : World} (h : Lst c j W) (hb : Below W.heap.size W W') : Lst c j W' := by
  unfold Lst at *
  split at h
  · rename_i h0
    rw [if_pos h0]
    exact (hb.block c h.lt).trans h
  · rename_i h0
    rw [if_neg h0]
    obtain ⟨g, cp, h⟩ := h
    exact ⟨g, cp, (hb.block c h.lt).trans h⟩
end Go.Proofs.Ytbgfccanbgpjiaa.O.I
namespace Go.Proofs.Ytbgfccanbgpjiaa.O.I
open Go Go.RowKit Go.Lib Go.Shelf RangeMap KM
attribute [local go_sem] Oper.semAt_some
def LstM (c q j : Nat) (W : World) : Prop := if j = 0 then Boxed W c 43 (.slice none 0 0) else ∃ g cp cur o k, Boxed W c 43 (.slice (some ⟨g, 0, none⟩) j cp) ∧ W.heap[g]? = some (.cells cur 58 (0, 0)) ∧ cur[4]? = some (.slice o q k)
theorem LstM.own {B c q j : Nat} {W W' : World} {row : Option Nat} (hg : W.grownBy W' row) (hr : ∀ r, row = some r → B ≤ r ∧ ∃ o : Go.Obj, W.heap[r]? = some o ∧ o.isCells = false) (h : LstM c q j W) : LstM c q j W' := by
  unfold LstM at *
  split at h
  · rename_i h0
    rw [if_pos h0]
    exact cells_own hg hr h
  · rename_i h0
    rw [if_neg h0]
    obtain ⟨g, cp, cur, o, k, h, h2, h3⟩ := h
    exact ⟨g, cp, cur, o, k, cells_own hg hr h, cells_own hg hr h2, h3⟩
theorem LstM.after {c q j : Nat} {W W' : World} (h : LstM c q j W) (hb : Below W.heap.size W W') : LstM c q j W' := by
  unfold LstM at *
  split at h
  · rename_i h0
    rw [if_pos h0]
    exact (hb.block c h.lt).trans h
  · rename_i h0
    rw [if_neg h0]
    obtain ⟨g, cp, cur, o, k, h, h2, h3⟩ := h
    exact ⟨g, cp, cur, o, k, (hb.block c h.lt).trans h, (hb.block g (Array.getElem?_eq_some_iff.1 h2).1).trans h2, h3⟩
end Go.Proofs.Ytbgfccanbgpjiaa.O.I
