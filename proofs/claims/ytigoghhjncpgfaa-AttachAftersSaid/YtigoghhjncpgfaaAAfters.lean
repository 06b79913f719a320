/- What is done behind a call: as the document says. -/
import Derived.Test.YtigoghhjncpgfaaARAfter
import Derived.Test.YtigoghhjncpgfaaAReply
namespace Go.Proofs.Ytigoghhjncpgfaa.O.B
open Go Go.RowKit Go.Shelf Go.Lib KM
attribute [local go_sem] Oper.semAt_some

theorem callbox (W : World) (x : Cl) : ∃ V, (∀ {oi : Oper} {a : Act} {r q : Operand}, oi.op = .store 40 r q → a.eval r = .pointer (some ⟨W.heap.size, 0, none⟩) → a.eval q = encC x → (execOp a.eval oi).run Try.prog (W.alloc (.cells (cellsC N0) 40 (0, 0))) = .ok .skip V) ∧
    BoxC V W.heap.size x ∧ Below W.heap.size W V := by
  obtain ⟨V, h1, h2, -, h4⟩ := calling (show BoxC (W.alloc (.cells (cellsC N0) 40 (0, 0))) W.heap.size N0 from heap_alloc_new _ _) x
  exact ⟨V, h1, h2, h4 _ _ ((Below.refl _ _).alloc (Nat.le_refl _) _) (Nat.le_refl _)⟩

set_option maxRecDepth 100000 in
set_option maxHeartbeats 8000000 in
theorem afters_any (l : List Obj) (v : Value) (ver : Int) (y : Rep) (w : World) (hl : ObjsIn w v l) (hc : ∀ o n c, v = .slice o n c → n ≤ c) (hz : ∀ o ∈ l, o.name.size ≤ 140737488351232 ∧ o.node.size ≤ 140737488351232) :
    Calls Try.prog 5 #[v, .int .u64 ver, encY y] w fun e w' => e = .returned (.bool true) ∧ Below w.heap.size w w' := by
  have HF := Lib.hid (fun V (hV : ObjsIn V v l) => few_any l v V hV hc)
  have HZ := Lib.hid (fun o (ho : o ∈ l.take 24) => hz o (List.mem_of_mem_take ho))
  have hq : (l.take 24).length < 90000 := by rw [List.length_take]; omega
  have HL0 := Lib.hid hl
  obtain ⟨o, cp, rfl, -, -⟩ := id hl
  clear hl hc hz
  have HYE : Hid (encY y = .agg (cellsY y)) := rfl
  rw [HYE.out]
  unfold cellsY
  go_enter Try.func5, Try.ntmps5
  go_upto_region 1 with (fail)
  refine wp_gen (fun V => BoxY V w.heap.size y ∧ Below w.heap.size w V) ⟨heap_alloc_new _ _, (Below.refl _ _).alloc (Nat.le_refl _) _⟩ ?_
  rintro V0 ⟨hy, hlw⟩
  have HY0 := Lib.hid hy
  have HV0 := Lib.hid hlw
  have HFV := Lib.hid (HF.out V0 (HL0.out.after hlw))
  clear hy hlw HF HL0 HYE
  go_wp2_with (fail)
  refine HFV.out.mono ?_
  rintro e W1 ⟨v1, rfl, hl1, hw1⟩
  subst hw1
  clear HFV
  generalize l.take 24 = q at *
  obtain ⟨o1, c1, rfl, hq63, -⟩ := id hl1
  have HL := Lib.hid hl1
  have HQ := Lib.hid hq
  obtain ⟨X, sx, bx, lx⟩ := callbox W1 y.c
  have hca := HY0.out.callAt
  have hyx := HY0.out.after lx
  obtain ⟨y0, y8⟩ := hyx.cells
  have HYX := Lib.hid hyx
  have HWX := Lib.hid lx
  have HBX := Lib.hid bx
  clear hl1 hq hyx lx bx
  cases ho : y.own with
  | false =>
    rw [ho] at y8
    clear ho
    go_upto_region 5 with (first | (refine wpList_got rfl (load_callAt hca rfl rfl) ?_) | (refine wpList_skip rfl (sx rfl rfl rfl) ?_))
    obtain ⟨cb, hcb⟩ : ∃ cb, W1.heap.size = cb := ⟨_, rfl⟩
    rw [hcb] at HBX ⊢
    obtain ⟨c, hcy⟩ : ∃ c, y.c = c := ⟨_, rfl⟩
    rw [hcy] at HBX
    clear hca y0 y8 sx hcb hcy
    have HY := HYX
    have HC := HBX
    have HW := HWX
    clear HYX HBX HWX HY0
    have HAF := Lib.hid (fun V (hV : ObjsIn V (.slice o1 q.length c1) q) => after_any q _ ver c y.r V hV (by have := HQ.out; omega) HZ.out)
    have HRF := Lib.hid (fun V (hV : ObjsIn V (.slice o1 q.length c1) q) => rafter_any q _ ver c y.r V hV HQ.out HZ.out)
    obtain ⟨G, hG⟩ : ∃ G, afterA q ver c y.r = G := ⟨_, rfl⟩
    rw [hG] at HAF HRF
    clear hG
    refine wp_region_held_drew (S := fun V => BoxY V w.heap.size y ∧ BoxC V cb c ∧ Below W1.heap.size W1 V) (by kernel_rfl) ⟨HY.out, HC.out, HW.out.drew⟩ (fun _ => ?_)
    refine HeldBy.gen (fun V => BoxY V w.heap.size y ∧ BoxC V cb c ∧ Below W1.heap.size W1 V) ⟨HY.out, HC.out, HW.out.drew⟩ ?_
    clear HY HC HW
    rintro U0 HS
    refine HeldBy.call (i := 0) (v := .bool true) rfl (by kernel_rfl) (by rfl) (by first | (go_simp; done) | (go_simp; first | exact ⟨rfl, rfl⟩ | rfl)) (by go_simp; rfl) ?_
    refine (live_any _).mono ?_
    rintro e U1 ⟨rfl, hb⟩
    replace HS : BoxY U1 w.heap.size y ∧ BoxC U1 cb c ∧ Below W1.heap.size W1 U1 := ⟨HS.1.after hb, HS.2.1.after hb, HS.2.2.trans (hb.mono HS.2.2.size)⟩
    refine ⟨rfl, HS, ?_⟩
    clear hb
    refine HeldBy.take (i := 1) rfl (by kernel_rfl) (by kernel_rfl) (by kernel_rfl) (fun _ _ _ h => h) (by rfl) (fun _ _ => by first | (go_simp; rfl) | (go_simp; done)) (by go_simp; rfl) HS ?_
    refine HeldBy.take (i := 2) rfl (by kernel_rfl) (by kernel_rfl) (by kernel_rfl) (fun _ _ _ h => h) (by rfl) (fun _ _ => by first | (go_simp; rfl) | (go_simp; done)) (by go_simp; rfl) HS ?_
    refine HeldBy.take (i := 3) rfl (by kernel_rfl) (by kernel_rfl) (by kernel_rfl) (fun _ _ _ h => h) (by rfl) (fun _ _ => by first | (go_simp; rfl) | (go_simp; done)) (by go_simp; rfl) HS ?_
    refine HeldBy.take (i := 4) (v := encC c) rfl (by kernel_rfl) (by kernel_rfl) (by kernel_rfl) (fun _ _ _ h => h) (by rfl) (fun V hV => load_call hV.2.1 rfl rfl) (by go_simp; rfl) HS ?_
    refine HeldBy.take (i := 5) rfl (by kernel_rfl) (by kernel_rfl) (by kernel_rfl) (fun _ _ _ h => h) (by rfl) (fun _ _ => by first | (go_simp; rfl) | (go_simp; done)) (by go_simp; rfl) HS ?_
    refine HeldBy.take (i := 6) (v := encR y.r) rfl (by kernel_rfl) (by kernel_rfl) (by kernel_rfl) (fun _ _ _ h => h) (by rfl) (fun V hV => load_resAt hV.1 rfl rfl) (by go_simp; rfl) HS ?_
    refine HeldBy.take (i := 8) rfl (by kernel_rfl) (by kernel_rfl) (by kernel_rfl) (fun _ _ _ h => h) (by rfl) (fun _ _ => by first | (go_simp; rfl) | (go_simp; done)) (by go_simp; rfl) HS ?_
    refine HeldBy.take (i := 9) rfl (by kernel_rfl) (by kernel_rfl) (by kernel_rfl) (fun _ _ _ h => h) (by rfl) (fun _ _ => by first | (go_simp; rfl) | (go_simp; done)) (by go_simp; rfl) HS ?_
    refine HeldBy.take (i := 10) (v := encC c) rfl (by kernel_rfl) (by kernel_rfl) (by kernel_rfl) (fun _ _ _ h => h) (by rfl) (fun V hV => load_call hV.2.1 rfl rfl) (by go_simp; rfl) HS ?_
    refine HeldBy.take (i := 11) rfl (by kernel_rfl) (by kernel_rfl) (by kernel_rfl) (fun _ _ _ h => h) (by rfl) (fun _ _ => by first | (go_simp; rfl) | (go_simp; done)) (by go_simp; rfl) HS ?_
    refine HeldBy.take (i := 12) (v := encR y.r) rfl (by kernel_rfl) (by kernel_rfl) (by kernel_rfl) (fun _ _ _ h => h) (by rfl) (fun V hV => load_resAt hV.1 rfl rfl) (by go_simp; rfl) HS ?_
    refine HeldBy.call (i := 7) (v := encA G) rfl (by kernel_rfl) (by rfl) (by first | (go_simp; done) | (go_simp; first | exact ⟨rfl, rfl⟩ | rfl)) (by go_simp; rfl) ?_
    refine (HAF.out _ (HL.out.after HS.2.2)).mono ?_
    rintro e U2 ⟨rfl, hb⟩
    replace HS : BoxY U2 w.heap.size y ∧ BoxC U2 cb c ∧ Below W1.heap.size W1 U2 := ⟨HS.1.after hb, HS.2.1.after hb, HS.2.2.trans (hb.mono HS.2.2.size)⟩
    refine ⟨rfl, HS, ?_⟩
    clear hb
    refine HeldBy.call (i := 13) (v := encA G) rfl (by kernel_rfl) (by rfl) (by first | (go_simp; done) | (go_simp; first | exact ⟨rfl, rfl⟩ | rfl)) (by go_simp; rfl) ?_
    refine (HRF.out _ (HL.out.after HS.2.2)).mono ?_
    rintro e U3 ⟨rfl, hb⟩
    replace HS : BoxY U3 w.heap.size y ∧ BoxC U3 cb c ∧ Below W1.heap.size W1 U3 := ⟨HS.1.after hb, HS.2.1.after hb, HS.2.2.trans (hb.mono HS.2.2.size)⟩
    refine ⟨rfl, HS, ?_⟩
    clear hb
    refine HeldBy.take (i := 14) (v := .bool true) rfl (by kernel_rfl) (by kernel_rfl) (by kernel_rfl) (fun _ _ _ h => h) (by rfl) (fun _ _ => exec_eql_same rfl rfl rfl) (by go_simp; rfl) HS ?_
    refine HeldBy.take (i := 15) rfl (by kernel_rfl) (by kernel_rfl) (by kernel_rfl) (fun _ _ _ h => h) (by rfl) (fun _ _ => by first | (go_simp; rfl) | (go_simp; done)) (by go_simp; rfl) HS ?_
    refine HeldBy.take (i := 16) rfl (by kernel_rfl) (by kernel_rfl) (by kernel_rfl) (fun _ _ _ h => h) (by rfl) (fun _ _ => by first | (go_simp; rfl) | (go_simp; done)) (by go_simp; rfl) HS ?_
    refine wpAnyH_done (by kernel_rfl) ?_ _
    have HX := Lib.hid (HV0.out.trans (HS.2.2.mono HV0.out.size))
    clear HS
    go_wp2
    go_ret
    exact ⟨rfl, HX.out⟩
  | true =>
    rw [ho] at y8
    clear ho
    have HRV := Lib.hid (rvol_any q _ ver y.n X (HL.out.after HWX.out) HQ.out HZ.out)
    obtain ⟨D, hD⟩ : ∃ D, volumeA q ver y.n = D := ⟨_, rfl⟩
    rw [hD] at HRV
    clear hD
    go_wp2_with (first | (refine wpList_got rfl (load_callAt hca rfl rfl) ?_) | (refine wpList_skip rfl (sx rfl rfl rfl) ?_))
    refine HRV.out.mono ?_
    rintro e W3 ⟨rfl, hb3⟩
    obtain ⟨X2, sx2, bx2, ov2, lx2⟩ := calling (show BoxC W3 W1.heap.size y.c from HBX.out.after hb3) D.call
    have hw3 := HWX.out.trans (hb3.mono HWX.out.size)
    have HW := Lib.hid (lx2 _ _ hw3 (Nat.le_refl _))
    have HY := Lib.hid (HY0.out.after (lx2 _ _ hw3 (Nat.le_refl _)))
    have HC := Lib.hid bx2
    go_upto_region 5 with (first | (refine wpList_got rfl (exec_actcall (A := D) rfl rfl) ?_) | (refine wpList_skip rfl (sx2 rfl rfl rfl) ?_))
    obtain ⟨cb, hcb⟩ : ∃ cb, W1.heap.size = cb := ⟨_, rfl⟩
    rw [hcb] at HC ⊢
    obtain ⟨c, hcy⟩ : ∃ c, D.call = c := ⟨_, rfl⟩
    rw [hcy] at HC
    clear hca y0 y8 sx hcb hcy HRV hb3 sx2 bx2 ov2 lx2 hw3 HYX HBX HWX HY0
    have HAF := Lib.hid (fun V (hV : ObjsIn V (.slice o1 q.length c1) q) => after_any q _ ver c y.r V hV (by have := HQ.out; omega) HZ.out)
    have HRF := Lib.hid (fun V (hV : ObjsIn V (.slice o1 q.length c1) q) => rafter_any q _ ver c y.r V hV HQ.out HZ.out)
    obtain ⟨G, hG⟩ : ∃ G, afterA q ver c y.r = G := ⟨_, rfl⟩
    rw [hG] at HAF HRF
    clear hG
    refine wp_region_held_drew (S := fun V => BoxY V w.heap.size y ∧ BoxC V cb c ∧ Below W1.heap.size W1 V) (by kernel_rfl) ⟨HY.out, HC.out, HW.out.drew⟩ (fun _ => ?_)
    refine HeldBy.gen (fun V => BoxY V w.heap.size y ∧ BoxC V cb c ∧ Below W1.heap.size W1 V) ⟨HY.out, HC.out, HW.out.drew⟩ ?_
    clear HY HC HW
    rintro U0 HS
    refine HeldBy.call (i := 0) (v := .bool true) rfl (by kernel_rfl) (by rfl) (by first | (go_simp; done) | (go_simp; first | exact ⟨rfl, rfl⟩ | rfl)) (by go_simp; rfl) ?_
    refine (live_any _).mono ?_
    rintro e U1 ⟨rfl, hb⟩
    replace HS : BoxY U1 w.heap.size y ∧ BoxC U1 cb c ∧ Below W1.heap.size W1 U1 := ⟨HS.1.after hb, HS.2.1.after hb, HS.2.2.trans (hb.mono HS.2.2.size)⟩
    refine ⟨rfl, HS, ?_⟩
    clear hb
    refine HeldBy.take (i := 1) rfl (by kernel_rfl) (by kernel_rfl) (by kernel_rfl) (fun _ _ _ h => h) (by rfl) (fun _ _ => by first | (go_simp; rfl) | (go_simp; done)) (by go_simp; rfl) HS ?_
    refine HeldBy.take (i := 2) rfl (by kernel_rfl) (by kernel_rfl) (by kernel_rfl) (fun _ _ _ h => h) (by rfl) (fun _ _ => by first | (go_simp; rfl) | (go_simp; done)) (by go_simp; rfl) HS ?_
    refine HeldBy.take (i := 3) rfl (by kernel_rfl) (by kernel_rfl) (by kernel_rfl) (fun _ _ _ h => h) (by rfl) (fun _ _ => by first | (go_simp; rfl) | (go_simp; done)) (by go_simp; rfl) HS ?_
    refine HeldBy.take (i := 4) (v := encC c) rfl (by kernel_rfl) (by kernel_rfl) (by kernel_rfl) (fun _ _ _ h => h) (by rfl) (fun V hV => load_call hV.2.1 rfl rfl) (by go_simp; rfl) HS ?_
    refine HeldBy.take (i := 5) rfl (by kernel_rfl) (by kernel_rfl) (by kernel_rfl) (fun _ _ _ h => h) (by rfl) (fun _ _ => by first | (go_simp; rfl) | (go_simp; done)) (by go_simp; rfl) HS ?_
    refine HeldBy.take (i := 6) (v := encR y.r) rfl (by kernel_rfl) (by kernel_rfl) (by kernel_rfl) (fun _ _ _ h => h) (by rfl) (fun V hV => load_resAt hV.1 rfl rfl) (by go_simp; rfl) HS ?_
    refine HeldBy.take (i := 8) rfl (by kernel_rfl) (by kernel_rfl) (by kernel_rfl) (fun _ _ _ h => h) (by rfl) (fun _ _ => by first | (go_simp; rfl) | (go_simp; done)) (by go_simp; rfl) HS ?_
    refine HeldBy.take (i := 9) rfl (by kernel_rfl) (by kernel_rfl) (by kernel_rfl) (fun _ _ _ h => h) (by rfl) (fun _ _ => by first | (go_simp; rfl) | (go_simp; done)) (by go_simp; rfl) HS ?_
    refine HeldBy.take (i := 10) (v := encC c) rfl (by kernel_rfl) (by kernel_rfl) (by kernel_rfl) (fun _ _ _ h => h) (by rfl) (fun V hV => load_call hV.2.1 rfl rfl) (by go_simp; rfl) HS ?_
    refine HeldBy.take (i := 11) rfl (by kernel_rfl) (by kernel_rfl) (by kernel_rfl) (fun _ _ _ h => h) (by rfl) (fun _ _ => by first | (go_simp; rfl) | (go_simp; done)) (by go_simp; rfl) HS ?_
    refine HeldBy.take (i := 12) (v := encR y.r) rfl (by kernel_rfl) (by kernel_rfl) (by kernel_rfl) (fun _ _ _ h => h) (by rfl) (fun V hV => load_resAt hV.1 rfl rfl) (by go_simp; rfl) HS ?_
    refine HeldBy.call (i := 7) (v := encA G) rfl (by kernel_rfl) (by rfl) (by first | (go_simp; done) | (go_simp; first | exact ⟨rfl, rfl⟩ | rfl)) (by go_simp; rfl) ?_
    refine (HAF.out _ (HL.out.after HS.2.2)).mono ?_
    rintro e U2 ⟨rfl, hb⟩
    replace HS : BoxY U2 w.heap.size y ∧ BoxC U2 cb c ∧ Below W1.heap.size W1 U2 := ⟨HS.1.after hb, HS.2.1.after hb, HS.2.2.trans (hb.mono HS.2.2.size)⟩
    refine ⟨rfl, HS, ?_⟩
    clear hb
    refine HeldBy.call (i := 13) (v := encA G) rfl (by kernel_rfl) (by rfl) (by first | (go_simp; done) | (go_simp; first | exact ⟨rfl, rfl⟩ | rfl)) (by go_simp; rfl) ?_
    refine (HRF.out _ (HL.out.after HS.2.2)).mono ?_
    rintro e U3 ⟨rfl, hb⟩
    replace HS : BoxY U3 w.heap.size y ∧ BoxC U3 cb c ∧ Below W1.heap.size W1 U3 := ⟨HS.1.after hb, HS.2.1.after hb, HS.2.2.trans (hb.mono HS.2.2.size)⟩
    refine ⟨rfl, HS, ?_⟩
    clear hb
    refine HeldBy.take (i := 14) (v := .bool true) rfl (by kernel_rfl) (by kernel_rfl) (by kernel_rfl) (fun _ _ _ h => h) (by rfl) (fun _ _ => exec_eql_same rfl rfl rfl) (by go_simp; rfl) HS ?_
    refine HeldBy.take (i := 15) rfl (by kernel_rfl) (by kernel_rfl) (by kernel_rfl) (fun _ _ _ h => h) (by rfl) (fun _ _ => by first | (go_simp; rfl) | (go_simp; done)) (by go_simp; rfl) HS ?_
    refine HeldBy.take (i := 16) rfl (by kernel_rfl) (by kernel_rfl) (by kernel_rfl) (fun _ _ _ h => h) (by rfl) (fun _ _ => by first | (go_simp; rfl) | (go_simp; done)) (by go_simp; rfl) HS ?_
    refine wpAnyH_done (by kernel_rfl) ?_ _
    have HX := Lib.hid (HV0.out.trans (HS.2.2.mono HV0.out.size))
    clear HS
    go_wp2
    go_ret
    exact ⟨rfl, HX.out⟩
end Go.Proofs.Ytigoghhjncpgfaa.O.B
