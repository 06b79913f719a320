/- topo.SameTerms. -/
import Derived.Test.YtneogmcmkbhnaaaTEq
namespace Go.Proofs.Ytneogmcmkbhnaaa.T
open Go.RowKit Go.Lib

/-- Two terms in their boxes. -/
def TwoT (w : World) (ka : List UInt8) (va : Value) (la : List (List UInt8)) (kb : List UInt8) (vb : Value) (lb : List (List UInt8)) (V : World) : Prop :=
  (V.cell? ⟨w.heap.size, 0, none⟩ = some (encS ka) ∧ V.cell? ⟨w.heap.size, 1, none⟩ = some va) ∧ (V.cell? ⟨w.heap.size + 1, 0, none⟩ = some (encS kb) ∧ V.cell? ⟨w.heap.size + 1, 1, none⟩ = some vb) ∧ StrsIn V va la ∧ StrsIn V vb lb ∧ Below w.heap.size w V
set_option maxRecDepth 100000 in
set_option maxHeartbeats 2000000 in
theorem sameT1_any (ka : List UInt8) (va : Value) (la : List (List UInt8)) (kb : List UInt8) (vb : Value) (lb : List (List UInt8)) (w : World) (hA : StrsIn w va la) (hB : StrsIn w vb lb) :
    Calls Try.prog 42 #[.agg (cellsT ka va), .agg (cellsT kb vb)] w fun e w' => e = .returned (.bool (decide ((ka, la) = (kb, lb)))) ∧ Below w.heap.size w w' := by
  have hb1 : Below w.heap.size w (w.alloc (.cells (cellsT ka va) 60 (0, 0))) := (Below.refl _ _).alloc (Nat.le_refl _) _
  have hb : Below w.heap.size w ((w.alloc (.cells (cellsT ka va) 60 (0, 0))).alloc (.cells (cellsT kb vb) 60 (0, 0))) := hb1.alloc hb1.size _
  have hX : BoxT (w.alloc (.cells (cellsT ka va) 60 (0, 0))) w.heap.size ka va := heap_alloc_new w _
  replace hX : BoxT ((w.alloc (.cells (cellsT ka va) 60 (0, 0))).alloc (.cells (cellsT kb vb) 60 (0, 0))) w.heap.size ka va := hX.after ((Below.refl _ _).alloc (Nat.le_refl _) _)
  have hY : BoxT ((w.alloc (.cells (cellsT ka va) 60 (0, 0))).alloc (.cells (cellsT kb vb) 60 (0, 0))) (w.heap.size + 1) kb vb := by
    have := heap_alloc_new (w.alloc (.cells (cellsT ka va) 60 (0, 0))) (.cells (cellsT kb vb) 60 (0, 0))
    rwa [show (w.alloc (.cells (cellsT ka va) 60 (0, 0))).heap.size = w.heap.size + 1 by show (w.heap.push _).size = _; rw [Array.size_push]] at this
  have hF : TwoT w ka va la kb vb lb
      ((w.alloc (.cells (cellsT ka va) 60 (0, 0))).alloc (.cells (cellsT kb vb) 60 (0, 0))) :=
    ⟨⟨(cell_of_row _ _ 0 _ _ _ hX).trans rfl, (cell_of_row _ _ 1 _ _ _ hX).trans rfl⟩, ⟨(cell_of_row _ _ 0 _ _ _ hY).trans rfl, (cell_of_row _ _ 1 _ _ _ hY).trans rfl⟩, hA.after hb, hB.after hb, hb⟩
  have HF := Lib.hid hF
  clear hF hX hY hb hb1 hA hB
  by_cases he : ka = kb
  · subst he
    have HA : Hid (decide ((ka, la) = (ka, lb)) = decide (la = lb)) := by show _ = _; simp
    rw [HA.out]
    have h0 := fun V h1 h2 => equalS_any va vb la lb V h1 h2
    clear HA
    generalize decide (la = lb) = R at *
    have H0 := Lib.hid h0
    clear h0
    go_enter Try.func42, Try.ntmps42
    go_upto_region 1 with (fail)
    refine wp_gen (TwoT w ka va la ka vb lb) HF.out ?_
    clear HF
    rintro V ⟨⟨x0, x1⟩, ⟨y0, y1⟩, hA, hB, hb⟩
    have HC := Lib.hid (H0.out V hA hB)
    have HB := Lib.hid hb
    clear hA hB H0 hb
    unfold encS at *
    go_wp2_with fail
    refine HC.out.mono ?_
    rintro e W1 ⟨rfl, hb1⟩
    replace HB := Lib.hid (HB.out.trans (hb1.mono HB.out.size))
    clear HC hb1
    go_wp2
    go_ret
    exact ⟨rfl, HB.out⟩
  · have HA : Hid (decide ((ka, la) = (kb, lb)) = false) := by show _ = _; simp [he]
    rw [HA.out]
    go_enter Try.func42, Try.ntmps42
    go_upto_region 1 with (fail)
    refine wp_gen (TwoT w ka va la kb vb lb) HF.out ?_
    clear HF
    rintro V ⟨⟨x0, x1⟩, ⟨y0, y1⟩, hA, hB, hb⟩
    have HB := Lib.hid hb
    have he2 : (ka == kb) = false := by simpa using he
    have he3 : decide (ka = kb) = false := by simpa using he
    clear hb hA hB
    unfold encS at *
    go_wp2
    go_ret
    exact ⟨rfl, HB.out⟩

theorem same_fst {a b : List TB} {n : Nat} (ha : n = a.length) (hb : n = b.length) (h : ∀ j (ha : j < a.length) (hb : j < b.length), j < n → a[j].1 = b[j].1) : decide (a.map Prod.fst = b.map Prod.fst) = true :=
  same_yes (n := n) (by rw [List.length_map]; exact ha) (by rw [List.length_map]; exact hb) fun j h1 h2 h3 => by
    rw [List.getElem_map, List.getElem_map]
    exact h j (by simpa using h1) (by simpa using h2) h3
theorem same_fst_no {a b : List TB} {k : Nat} (ha : k < a.length) (hb : k < b.length) (h : a[k].1 ≠ b[k].1) : decide (a.map Prod.fst = b.map Prod.fst) = false :=
  same_no (k := k) (by rw [List.length_map]; exact ha) (by rw [List.length_map]; exact hb) (by rw [List.getElem_map, List.getElem_map]; exact h)

set_option maxRecDepth 100000 in
set_option maxHeartbeats 4000000 in
theorem equalF_any (va vb : Value) (a b : List TB) (w : World) (h1 : TermsIn w va a) (h2 : TermsIn w vb b) :
    Calls Try.prog 41 #[va, vb, .func (.func 42) #[] #[]] w fun e w' => e = .returned (.bool (decide (a.map Prod.fst = b.map Prod.fst))) ∧ Below w.heap.size w w' := by
  have H1 := Lib.hid h1
  have H2 := Lib.hid h2
  have hm := h1.len
  have hn := h2.len
  obtain ⟨o, c, rfl⟩ := h1.shape
  obtain ⟨p, d, rfl⟩ := h2.shape
  clear h1 h2
  obtain ⟨R, hR⟩ : ∃ R, decide (a.map Prod.fst = b.map Prod.fst) = R := ⟨_, rfl⟩
  rw [hR]
  have HR := Lib.hid hR
  clear hR
  obtain ⟨N, hN⟩ : ∃ N, N = a.length := ⟨_, rfl⟩
  rw [← hN] at H1 hm ⊢
  have HN := Lib.hid hN
  obtain ⟨M, hM⟩ : ∃ M, M = b.length := ⟨_, rfl⟩
  rw [← hM] at H2 hn ⊢
  have HM := Lib.hid hM
  clear hN hM
  by_cases hl : N = M
  · subst hl
    go_enter Try.func41, Try.ntmps41
    go_wp2
    go_loopw [17] (fun i wr => ∃ k : Nat, i = .int .i64 (k : Int) ∧ k ≤ N ∧ (∀ j (ha : j < a.length) (hb : j < b.length), j < k → a[j].1 = b[j].1) ∧ Below w.heap.size w wr) (fun i _ => (N - intOf i).toNat)
    case atStart => exact ⟨0, rfl, Nat.zero_le _, fun j _ _ h => by omega, Below.refl _ _⟩
    case round =>
      obtain ⟨k, rfl, hk, hno, hlow⟩ := hrel
      have HNo := Lib.hid hno
      have HLow := Lib.hid hlow
      clear hno hlow
      by_cases hkl : k < N
      · have hka : k < a.length := by rw [← HN.out]; exact hkl
        have hkb : k < b.length := by rw [← HM.out]; exact hkl
        obtain ⟨g, off, rfl, -, -, -, -⟩ := H1.out.at k hka
        obtain ⟨pg, pf, rfl, -, -, -, -⟩ := H2.out.at k hkb
        have HC : Hid (∀ V, Below w.heap.size w V → V.cell? ⟨g, off + k * 2, none⟩ = some (encS a[k].1.1) ∧ V.cell? ⟨g, off + k * 2 + 1, none⟩ = some a[k].2 ∧ StrsIn V a[k].2 a[k].1.2) := fun V hV => by
          obtain ⟨g', off', h1, -, h2, h3, h4⟩ := (H1.out.after hV).at k hka
          cases h1
          exact ⟨h2, h3, h4⟩
        have HD : Hid (∀ V, Below w.heap.size w V → V.cell? ⟨pg, pf + k * 2, none⟩ = some (encS b[k].1.1) ∧ V.cell? ⟨pg, pf + k * 2 + 1, none⟩ = some b[k].2 ∧ StrsIn V b[k].2 b[k].1.2) := fun V hV => by
          obtain ⟨g', off', h1, -, h2, h3, h4⟩ := (H2.out.after hV).at k hkb
          cases h1
          exact ⟨h2, h3, h4⟩
        have hcase : decide (a[k].1 = b[k].1) = true ∧ Hid (∀ j (ha : j < a.length) (hb : j < b.length), j < k + 1 → a[j].1 = b[j].1) ∨ decide (a[k].1 = b[k].1) = false ∧ Hid (R = false) := by
          by_cases he : a[k].1 = b[k].1
          · refine .inl ⟨by simp [he], ?_⟩
            show ∀ j (ha : j < a.length) (hb : j < b.length), j < k + 1 → a[j].1 = b[j].1
            intro j ha hb hj
            by_cases hjk : j < k
            · exact HNo.out j ha hb hjk
            · obtain rfl : j = k := by omega
              exact he
          · refine .inr ⟨by simp [he], ?_⟩
            show _ = _
            rw [← HR.out, same_fst_no hka hkb he]
        clear HNo
        generalize a[k] = x at HC hcase
        generalize b[k] = y at HD hcase
        obtain ⟨⟨kx, lx⟩, vx⟩ := x
        obtain ⟨⟨ky, ly⟩, vy⟩ := y
        dsimp only at HC HD hcase
        have hcase := Lib.hid hcase
        have hc1 := (HC.out wr HLow.out).1
        have hc2 := (HC.out wr HLow.out).2.1
        have hone : (cellsT kx vx).all (·.oneCell') = true := by
          obtain ⟨o, n, c, e⟩ := (HC.out wr HLow.out).2.2.shape
          rw [e]
          exact one_cellsT _
        have hn0 : BoxT (wr.alloc (.cells (cellsT [] noV) 60 (0, 0))) wr.heap.size [] noV := heap_alloc_new wr _
        go_upto_region 6 with (first | (refine wpList_known (v := .agg (cellsT kx vx)) rfl (exec_load_term_at hc1 hc2 rfl rfl) ?_) | ((with_reducible refine wpList_store_rowTo rfl 60 _ _ rfl rfl wr.heap.size (cellsT kx vx) ?_ ?_ 60 (cellsT [] noV) ?_ ?_ ?_ ?_ ?_); rfl; rfl; exact hn0; exact sizeTerm; exact rfl; exact hone))
        have hbb : Below wr.heap.size wr ((wr.alloc (.cells (cellsT [] noV) 60 (0, 0))).setRow wr.heap.size (cellsT kx vx)) := below_setRow ((Below.refl _ _).alloc (Nat.le_refl _) _) (Nat.le_refl _) _
        refine wp_gen (fun V => BoxT V wr.heap.size kx vx ∧ Below w.heap.size w V) ⟨hn0.setRow _ _, HLow.out.trans (hbb.mono HLow.out.size)⟩ ?_
        clear hn0 hbb HLow hc1 hc2 hone
        rintro V ⟨hX, hlow⟩
        have HLow := Lib.hid hlow
        have HX := Lib.hid hX
        clear hlow hX
        have hc1 := (HD.out V HLow.out).1
        have hc2 := (HD.out V HLow.out).2.1
        have hone : (cellsT ky vy).all (·.oneCell') = true := by
          obtain ⟨o, n, c, e⟩ := (HD.out V HLow.out).2.2.shape
          rw [e]
          exact one_cellsT _
        have hn0 : BoxT (V.alloc (.cells (cellsT [] noV) 60 (0, 0))) V.heap.size [] noV := heap_alloc_new V _
        go_upto_region 7 with (first | (refine wpList_known (v := .agg (cellsT ky vy)) rfl (exec_load_term_at hc1 hc2 rfl rfl) ?_) | ((with_reducible refine wpList_store_rowTo rfl 60 _ _ rfl rfl V.heap.size (cellsT ky vy) ?_ ?_ 60 (cellsT [] noV) ?_ ?_ ?_ ?_ ?_); rfl; rfl; exact hn0; exact sizeTerm; exact rfl; exact hone))
        have hbb : Below V.heap.size V ((V.alloc (.cells (cellsT [] noV) 60 (0, 0))).setRow V.heap.size (cellsT ky vy)) := below_setRow ((Below.refl _ _).alloc (Nat.le_refl _) _) (Nat.le_refl _) _
        refine wp_gen (fun U => BoxT U wr.heap.size kx vx ∧ BoxT U V.heap.size ky vy ∧ Below w.heap.size w U) ⟨HX.out.after hbb, hn0.setRow _ _, HLow.out.trans (hbb.mono HLow.out.size)⟩ ?_
        clear hn0 hbb HLow HX hc1 hc2 hone
        rintro U ⟨hX, hY, hlow⟩
        have HCa := Lib.hid (sameT1_any kx vx lx ky vy ly U (HC.out U hlow).2.2 (HD.out U hlow).2.2)
        have HLow := Lib.hid hlow
        clear HC HD hlow
        go_wp2_with (first | (refine wpList_known (v := .agg (cellsT kx vx)) rfl (exec_load_term hX rfl rfl) ?_) | (refine wpList_known (v := .agg (cellsT ky vy)) rfl (exec_load_term hY rfl rfl) ?_) | fail)
        refine HCa.out.mono ?_
        rintro e W1 ⟨rfl, hb1⟩
        replace HLow := Lib.hid (HLow.out.trans (hb1.mono HLow.out.size))
        clear HCa hb1 hX hY
        rcases hcase.out with ⟨hc, hno2⟩ | ⟨hc, HF⟩
        · rw [hc]
          clear hcase hc
          go_wp2
          go_roundw
          case rel => exact ⟨k + 1, rfl, by omega, hno2.out, HLow.out⟩
          case measure => simp [intOf]; omega
        · rw [hc]
          clear hcase hc
          go_wp2
          go_ret
          exact ⟨by rw [HF.out]; rfl, HLow.out⟩
      · have HF : Hid (R = true) := by show _ = _; rw [← HR.out, same_fst HN.out HM.out fun j h1 h2 _ => HNo.out j h1 h2 (by have := HN.out; omega)]
        clear HNo
        go_wp2
        go_ret
        exact ⟨by rw [HF.out]; rfl, HLow.out⟩
  · have HF : Hid (R = false) := by show _ = _; rw [← HR.out, same_len (n := N) (m := M) (by rw [List.length_map]; exact HN.out) (by rw [List.length_map]; exact HM.out) hl]
    have hl2 : ¬ (N : Int) = M := by omega
    go_enter Try.func41, Try.ntmps41
    go_wp2
    go_ret
    exact ⟨by rw [HF.out]; rfl, Below.refl _ _⟩

set_option maxRecDepth 100000 in
theorem sameTerms_any (va vb : Value) (a b : List TB) (w : World) (h1 : TermsIn w va a) (h2 : TermsIn w vb b) :
    Calls Try.prog 20 #[va, vb] w fun e w' => e = .returned (.bool (decide (a.map Prod.fst = b.map Prod.fst))) ∧ Below w.heap.size w w' := by
  have H1 := Lib.hid (equalF_any va vb a b w h1 h2)
  clear h1 h2
  generalize decide (a.map Prod.fst = b.map Prod.fst) = R at H1 ⊢
  go_enter Try.func20, Try.ntmps20
  go_wp2_with fail
  refine H1.out.mono ?_
  rintro e W1 ⟨rfl, hb⟩
  have HB := Lib.hid hb
  clear hb
  go_wp2
  go_ret
  exact ⟨rfl, HB.out⟩
end Go.Proofs.Ytneogmcmkbhnaaa.T
