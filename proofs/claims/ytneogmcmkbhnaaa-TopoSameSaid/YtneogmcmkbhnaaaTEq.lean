/- Texts and labels held against each other: slices.Equal, SameLabels, the document's SameLabels. Laid by mksame.py. -/
import Derived.Test.YtneogmcmkbhnaaaTMatchR
namespace Go.Proofs.Ytneogmcmkbhnaaa.T
open Go.RowKit Go.Lib

theorem StrsIn.slen {W : World} {v : Value} {l : List (List UInt8)} (h : StrsIn W v l) : l.length ≤ 9223372036854775807 := by
  rcases h with ⟨o, c, rfl, rfl⟩ | ⟨g, off, cap, rfl, h, -⟩
  · simp
  · exact h
theorem StrsIn.at {W : World} {o : Option Addr} {n c : Nat} {l : List (List UInt8)} (h : StrsIn W (.slice o n c) l) (k : Nat) (hk : k < l.length) : ∃ g off, o = some ⟨g, off, none⟩ ∧ W.cell? ⟨g, off + k, none⟩ = some (encS l[k]) := by
  rcases h with ⟨o, c, h1, rfl⟩ | ⟨g, off, cap, h1, h2, h3, -⟩
  · cases hk
  · cases h1
    exact ⟨g, off, rfl, h3 k hk⟩
theorem same_yes {α : Type} [DecidableEq α] {a b : List α} {n : Nat} (ha : n = a.length) (hb : n = b.length) (h : ∀ j (ha : j < a.length) (hb : j < b.length), j < n → a[j] = b[j]) : decide (a = b) = true := by
  rw [decide_eq_true_eq]
  exact List.ext_getElem (by omega) fun j h1 h2 => h j h1 h2 (by omega)
theorem same_no {α : Type} [DecidableEq α] {a b : List α} {k : Nat} (ha : k < a.length) (hb : k < b.length) (h : a[k] ≠ b[k]) : decide (a = b) = false := by
  rw [decide_eq_false_iff_not]
  rintro rfl
  exact h rfl
theorem same_len {α : Type} [DecidableEq α] {a b : List α} {n m : Nat} (ha : n = a.length) (hb : m = b.length) (h : ¬ n = m) : decide (a = b) = false := by
  rw [decide_eq_false_iff_not]
  rintro rfl
  exact h (ha.trans hb.symm)
theorem neq_dec (t : TypeId) (a b : List UInt8) : binOp .neq t (encS a) (encS b) = pure (.bool !decide (a = b)) := by
  rw [neq_any]
  congr 3
  rw [Bool.eq_iff_iff]
  simp

set_option maxRecDepth 100000 in
set_option maxHeartbeats 2000000 in
theorem equalS_any (va vb : Value) (a b : List (List UInt8)) (w : World) (h1 : StrsIn w va a) (h2 : StrsIn w vb b) :
    Calls Try.prog 43 #[va, vb] w fun e w' => e = .returned (.bool (decide (a = b))) ∧ Below w.heap.size w w' := by
  have H1 := Lib.hid h1
  have H2 := Lib.hid h2
  have hm := h1.slen
  have hn := h2.slen
  obtain ⟨o, c, rfl⟩ := h1.len
  obtain ⟨p, d, rfl⟩ := h2.len
  clear h1 h2
  obtain ⟨R, hR⟩ : ∃ R, decide (a = b) = R := ⟨_, rfl⟩
  rw [hR]
  have HR := Lib.hid hR
  clear hR
  obtain ⟨N, hN⟩ : ∃ N, N = a.length := ⟨_, rfl⟩
  rw [← hN] at H1 hm ⊢
  have HN := Lib.hid hN
  obtain ⟨M, hM⟩ : ∃ M, M = b.length := ⟨_, rfl⟩
  rw [← hM] at H2 hn ⊢
  have HM := Lib.hid hM
  clear hN hM
  by_cases hl : N = M
  · subst hl
    go_enter Try.func43, Try.ntmps43
    go_wp2
    go_loopw [13] (fun i wr => ∃ k : Nat, i = .int .i64 (k : Int) ∧ k ≤ N ∧ (∀ j (ha : j < a.length) (hb : j < b.length), j < k → a[j] = b[j]) ∧ Below w.heap.size w wr) (fun i _ => (N - intOf i).toNat)
    case atStart => exact ⟨0, rfl, Nat.zero_le _, fun j _ _ h => by omega, Below.refl _ _⟩
    case round =>
      obtain ⟨k, rfl, hk, hno, hlow⟩ := hrel
      have HNo := Lib.hid hno
      have HLow := Lib.hid hlow
      clear hno hlow
      by_cases hkl : k < N
      · have hka : k < a.length := by rw [← HN.out]; exact hkl
        have hkb : k < b.length := by rw [← HM.out]; exact hkl
        obtain ⟨g, off, rfl, -⟩ := H1.out.at k hka
        obtain ⟨pg, pf, rfl, -⟩ := H2.out.at k hkb
        have HC : Hid (∀ V, Below w.heap.size w V → V.cell? ⟨g, off + k, none⟩ = some (encS a[k])) := fun V hV => by
          obtain ⟨g', off', h1, h2⟩ := (H1.out.after hV).at k hka
          cases h1
          exact h2
        have HD : Hid (∀ V, Below w.heap.size w V → V.cell? ⟨pg, pf + k, none⟩ = some (encS b[k])) := fun V hV => by
          obtain ⟨g', off', h1, h2⟩ := (H2.out.after hV).at k hkb
          cases h1
          exact h2
        have hcase : (!decide (a[k] = b[k])) = false ∧ Hid (∀ j (ha : j < a.length) (hb : j < b.length), j < k + 1 → a[j] = b[j]) ∨ (!decide (a[k] = b[k])) = true ∧ Hid (R = false) := by
          by_cases he : a[k] = b[k]
          · refine .inl ⟨by simp [he], ?_⟩
            show ∀ j (ha : j < a.length) (hb : j < b.length), j < k + 1 → a[j] = b[j]
            intro j ha hb hj
            by_cases hjk : j < k
            · exact HNo.out j ha hb hjk
            · obtain rfl : j = k := by omega
              exact he
          · refine .inr ⟨by simp [he], ?_⟩
            show _ = _
            rw [← HR.out, same_no hka hkb he]
        clear HNo
        generalize a[k] = x at HC hcase
        generalize b[k] = y at HD hcase
        go_upto_region 6 with (fail)
        refine wp_region_held_drew (S := fun V => Below w.heap.size w V) (by kernel_rfl) HLow.out.drew (fun _ => ?_)
        refine HeldBy.gen (fun V => Below w.heap.size w V) HLow.out.drew ?_
        clear HLow
        rintro U HS
        refine HeldBy.take (i := 0) rfl (by kernel_rfl) (by kernel_rfl) (by kernel_rfl) (fun _ _ _ h => h) (by rfl) (fun _ _ => by first | (go_simp; rfl) | (go_simp; done)) (by go_simp; rfl) HS ?_
        refine HeldBy.take (i := 1) rfl (by kernel_rfl) (by kernel_rfl) (by kernel_rfl) (fun _ _ _ h => h) (by rfl) (fun _ _ => by first | (go_simp; rfl) | (go_simp; done)) (by go_simp; rfl) HS ?_
        refine HeldBy.take (i := 2) (v := .pointer (some ⟨g, off + k, none⟩)) rfl (by kernel_rfl) (by kernel_rfl) (by kernel_rfl) (fun _ _ _ h => h) (by rfl) (fun _ _ => by go_simp) (by go_simp; rfl) HS ?_
        refine HeldBy.take (i := 3) rfl (by kernel_rfl) (by kernel_rfl) (by kernel_rfl) (fun _ _ _ h => h) (by rfl) (fun V h => by have c := HC.out V h; go_simp; rfl) (by go_simp; rfl) HS ?_
        refine HeldBy.take (i := 4) rfl (by kernel_rfl) (by kernel_rfl) (by kernel_rfl) (fun _ _ _ h => h) (by rfl) (fun _ _ => by first | (go_simp; rfl) | (go_simp; done)) (by go_simp; rfl) HS ?_
        refine HeldBy.take (i := 5) rfl (by kernel_rfl) (by kernel_rfl) (by kernel_rfl) (fun _ _ _ h => h) (by rfl) (fun _ _ => by first | (go_simp; rfl) | (go_simp; done)) (by go_simp; rfl) HS ?_
        refine HeldBy.take (i := 6) (v := .pointer (some ⟨pg, pf + k, none⟩)) rfl (by kernel_rfl) (by kernel_rfl) (by kernel_rfl) (fun _ _ _ h => h) (by rfl) (fun _ _ => by go_simp) (by go_simp; rfl) HS ?_
        refine HeldBy.take (i := 7) rfl (by kernel_rfl) (by kernel_rfl) (by kernel_rfl) (fun _ _ _ h => h) (by rfl) (fun V h => by have c := HD.out V h; go_simp; rfl) (by go_simp; rfl) HS ?_
        rcases hcase with ⟨hc, hno2⟩ | ⟨hc, HF⟩
        · refine HeldBy.take (i := 8) (v := .bool false) rfl (by kernel_rfl) (by kernel_rfl) (by kernel_rfl) (fun _ _ _ h => h) (by rfl) (fun _ _ => by go_simp; rw [neq_dec, hc]; unfold encS; go_simp) (by go_simp; rfl) HS ?_
          refine wpAnyH_done (by kernel_rfl) ?_ _
          have HS := Lib.hid HS
          clear HC HD hc
          go_wp2
          go_roundw
          case rel => exact ⟨k + 1, rfl, by omega, hno2.out, HS.out⟩
          case measure => simp [intOf]; omega
        · refine HeldBy.take (i := 8) (v := .bool true) rfl (by kernel_rfl) (by kernel_rfl) (by kernel_rfl) (fun _ _ _ h => h) (by rfl) (fun _ _ => by go_simp; rw [neq_dec, hc]; unfold encS; go_simp) (by go_simp; rfl) HS ?_
          refine wpAnyH_done (by kernel_rfl) ?_ _
          have HS := Lib.hid HS
          clear HC HD hc
          go_wp2
          go_ret
          exact ⟨by rw [HF.out]; rfl, HS.out⟩
      · have HF : Hid (R = true) := by show _ = _; rw [← HR.out, same_yes HN.out HM.out fun j h1 h2 _ => HNo.out j h1 h2 (by have := HN.out; omega)]
        clear HNo
        go_wp2
        go_ret
        exact ⟨by rw [HF.out]; rfl, HLow.out⟩
  · have HF : Hid (R = false) := by show _ = _; rw [← HR.out, same_len HN.out HM.out hl]
    have hl2 : ¬ (N : Int) = M := by omega
    go_enter Try.func43, Try.ntmps43
    go_wp2
    go_ret
    exact ⟨by rw [HF.out]; rfl, Below.refl _ _⟩

theorem und_l : Try.prog.underlying 70 = some (.struct (Try.prog.fieldsOf 70)) := by kernel_rfl
theorem size_l : (Try.prog.info? 70).map (·.size) = some 2 := by kernel_rfl
theorem load_at_l {W : World} {g o : Nat} {a b : List UInt8} (h1 : W.cell? ⟨g, o, none⟩ = some (encS a)) (h2 : W.cell? ⟨g, o + 1, none⟩ = some (encS b)) {oi : Oper} {c : Act} {x : Operand} (ho : oi.op = .load 70 x) (hx : c.eval x = .pointer (some ⟨g, o, none⟩)) :
    (execOp c.eval oi).run Try.prog W = .ok (.value (.agg (cellsL a b))) W := by
  have hr : W.rangeAt g o [encS a, encS b] := fun j v hj => by
    match j, hj with
    | 0, hj => cases hj; exact h1
    | 1, hj => cases hj; exact h2
    | j + 2, hj => simp at hj
  have hl := run_loadVar_mid W g o 70 [encS a, encS b] _ hr und_l rfl size_l
  unfold execOp
  simp only [ho, hx, Instr.loadAt, Instr.sureAddr, Sem.run_bind, Sem.run_pure, Result.andThen_ok, hl]
  rfl
set_option maxRecDepth 100000 in
set_option maxHeartbeats 1000000 in
theorem neq_lab_l (x y : LB) (w : World) : (binOp .neq 70 (.agg (cellsL x.1 x.2)) (.agg (cellsL y.1 y.2))).run Try.prog w = .ok (.bool (!decide (x = y))) w := by
  obtain ⟨a, b⟩ := x
  obtain ⟨c, d⟩ := y
  unfold cellsL encS
  dsimp only
  go_simp
  by_cases h1 : a = c <;> by_cases h2 : b = d <;> simp [h1, h2]
theorem neq_l {oi : Oper} {a : Act} {x y : Operand} {p q : LB} {v : Bool} {W : World} (ho : oi.op = .binOp .neq 70 x y 70) (hx : a.eval x = .agg (cellsL p.1 p.2)) (hy : a.eval y = .agg (cellsL q.1 q.2)) (hv : (!decide (p = q)) = v) :
    (execOp a.eval oi).run Try.prog W = .ok (.value (.bool v)) W := by
  have hq : (eqGuard .neq 70 x y (.agg (cellsL p.1 p.2)) (.agg (cellsL q.1 q.2))).run Try.prog W = .ok () W := run_eqGuard_agg W .neq 70 x y (cellsL p.1 p.2) (cellsL q.1 q.2) (by kernel_rfl)
  unfold execOp
  simp only [ho, hx, hy, Sem.run_bind, hq, Result.andThen_ok, neq_lab_l, hv, Sem.run_pure]

set_option maxRecDepth 100000 in
set_option maxHeartbeats 2000000 in
theorem equalL_any (va vb : Value) (a b : List LB) (w : World) (h1 : LabsIn w va a) (h2 : LabsIn w vb b) :
    Calls Try.prog 46 #[va, vb] w fun e w' => e = .returned (.bool (decide (a = b))) ∧ Below w.heap.size w w' := by
  have H1 := Lib.hid h1
  have H2 := Lib.hid h2
  have hm := h1.len
  have hn := h2.len
  obtain ⟨o, c, rfl⟩ := h1.shape
  obtain ⟨p, d, rfl⟩ := h2.shape
  clear h1 h2
  obtain ⟨R, hR⟩ : ∃ R, decide (a = b) = R := ⟨_, rfl⟩
  rw [hR]
  have HR := Lib.hid hR
  clear hR
  obtain ⟨N, hN⟩ : ∃ N, N = a.length := ⟨_, rfl⟩
  rw [← hN] at H1 hm ⊢
  have HN := Lib.hid hN
  obtain ⟨M, hM⟩ : ∃ M, M = b.length := ⟨_, rfl⟩
  rw [← hM] at H2 hn ⊢
  have HM := Lib.hid hM
  clear hN hM
  by_cases hl : N = M
  · subst hl
    go_enter Try.func46, Try.ntmps46
    go_wp2
    go_loopw [13] (fun i wr => ∃ k : Nat, i = .int .i64 (k : Int) ∧ k ≤ N ∧ (∀ j (ha : j < a.length) (hb : j < b.length), j < k → a[j] = b[j]) ∧ Below w.heap.size w wr) (fun i _ => (N - intOf i).toNat)
    case atStart => exact ⟨0, rfl, Nat.zero_le _, fun j _ _ h => by omega, Below.refl _ _⟩
    case round =>
      obtain ⟨k, rfl, hk, hno, hlow⟩ := hrel
      have HNo := Lib.hid hno
      have HLow := Lib.hid hlow
      clear hno hlow
      by_cases hkl : k < N
      · have hka : k < a.length := by rw [← HN.out]; exact hkl
        have hkb : k < b.length := by rw [← HM.out]; exact hkl
        obtain ⟨g, off, rfl, -, -, -⟩ := H1.out.at k hka
        obtain ⟨pg, pf, rfl, -, -, -⟩ := H2.out.at k hkb
        have HC : Hid (∀ V, Below w.heap.size w V → V.cell? ⟨g, off + k * 2, none⟩ = some (encS a[k].1) ∧ V.cell? ⟨g, off + k * 2 + 1, none⟩ = some (encS a[k].2)) := fun V hV => by
          obtain ⟨g', off', h1, -, h2, h3⟩ := (H1.out.after hV).at k hka
          cases h1
          exact ⟨h2, h3⟩
        have HD : Hid (∀ V, Below w.heap.size w V → V.cell? ⟨pg, pf + k * 2, none⟩ = some (encS b[k].1) ∧ V.cell? ⟨pg, pf + k * 2 + 1, none⟩ = some (encS b[k].2)) := fun V hV => by
          obtain ⟨g', off', h1, -, h2, h3⟩ := (H2.out.after hV).at k hkb
          cases h1
          exact ⟨h2, h3⟩
        have hcase : (!decide (a[k] = b[k])) = false ∧ Hid (∀ j (ha : j < a.length) (hb : j < b.length), j < k + 1 → a[j] = b[j]) ∨ (!decide (a[k] = b[k])) = true ∧ Hid (R = false) := by
          by_cases he : a[k] = b[k]
          · refine .inl ⟨by simp [he], ?_⟩
            show ∀ j (ha : j < a.length) (hb : j < b.length), j < k + 1 → a[j] = b[j]
            intro j ha hb hj
            by_cases hjk : j < k
            · exact HNo.out j ha hb hjk
            · obtain rfl : j = k := by omega
              exact he
          · refine .inr ⟨by simp [he], ?_⟩
            show _ = _
            rw [← HR.out, same_no hka hkb he]
        clear HNo
        generalize a[k] = x at HC hcase
        generalize b[k] = y at HD hcase
        go_upto_region 6 with (fail)
        refine wp_region_held_drew (S := fun V => Below w.heap.size w V) (by kernel_rfl) HLow.out.drew (fun _ => ?_)
        refine HeldBy.gen (fun V => Below w.heap.size w V) HLow.out.drew ?_
        clear HLow
        rintro U HS
        refine HeldBy.take (i := 0) rfl (by kernel_rfl) (by kernel_rfl) (by kernel_rfl) (fun _ _ _ h => h) (by rfl) (fun _ _ => by first | (go_simp; rfl) | (go_simp; done)) (by go_simp; rfl) HS ?_
        refine HeldBy.take (i := 1) rfl (by kernel_rfl) (by kernel_rfl) (by kernel_rfl) (fun _ _ _ h => h) (by rfl) (fun _ _ => by first | (go_simp; rfl) | (go_simp; done)) (by go_simp; rfl) HS ?_
        refine HeldBy.take (i := 2) (v := .pointer (some ⟨g, off + k * 2, none⟩)) rfl (by kernel_rfl) (by kernel_rfl) (by kernel_rfl) (fun _ _ _ h => h) (by rfl) (fun _ _ => by go_simp) (by go_simp; rfl) HS ?_
        refine HeldBy.take (i := 3) rfl (by kernel_rfl) (by kernel_rfl) (by kernel_rfl) (fun _ _ _ h => h) (by rfl) (fun V h => load_at_l (HC.out V h).1 (HC.out V h).2 rfl rfl) (by go_simp; rfl) HS ?_
        refine HeldBy.take (i := 4) rfl (by kernel_rfl) (by kernel_rfl) (by kernel_rfl) (fun _ _ _ h => h) (by rfl) (fun _ _ => by first | (go_simp; rfl) | (go_simp; done)) (by go_simp; rfl) HS ?_
        refine HeldBy.take (i := 5) rfl (by kernel_rfl) (by kernel_rfl) (by kernel_rfl) (fun _ _ _ h => h) (by rfl) (fun _ _ => by first | (go_simp; rfl) | (go_simp; done)) (by go_simp; rfl) HS ?_
        refine HeldBy.take (i := 6) (v := .pointer (some ⟨pg, pf + k * 2, none⟩)) rfl (by kernel_rfl) (by kernel_rfl) (by kernel_rfl) (fun _ _ _ h => h) (by rfl) (fun _ _ => by go_simp) (by go_simp; rfl) HS ?_
        refine HeldBy.take (i := 7) rfl (by kernel_rfl) (by kernel_rfl) (by kernel_rfl) (fun _ _ _ h => h) (by rfl) (fun V h => load_at_l (HD.out V h).1 (HD.out V h).2 rfl rfl) (by go_simp; rfl) HS ?_
        rcases hcase with ⟨hc, hno2⟩ | ⟨hc, HF⟩
        · refine HeldBy.take (i := 8) (v := .bool false) rfl (by kernel_rfl) (by kernel_rfl) (by kernel_rfl) (fun _ _ _ h => h) (by rfl) (fun _ _ => neq_l rfl rfl rfl hc) (by go_simp; rfl) HS ?_
          refine wpAnyH_done (by kernel_rfl) ?_ _
          have HS := Lib.hid HS
          clear HC HD hc
          go_wp2
          go_roundw
          case rel => exact ⟨k + 1, rfl, by omega, hno2.out, HS.out⟩
          case measure => simp [intOf]; omega
        · refine HeldBy.take (i := 8) (v := .bool true) rfl (by kernel_rfl) (by kernel_rfl) (by kernel_rfl) (fun _ _ _ h => h) (by rfl) (fun _ _ => neq_l rfl rfl rfl hc) (by go_simp; rfl) HS ?_
          refine wpAnyH_done (by kernel_rfl) ?_ _
          have HS := Lib.hid HS
          clear HC HD hc
          go_wp2
          go_ret
          exact ⟨by rw [HF.out]; rfl, HS.out⟩
      · have HF : Hid (R = true) := by show _ = _; rw [← HR.out, same_yes HN.out HM.out fun j h1 h2 _ => HNo.out j h1 h2 (by have := HN.out; omega)]
        clear HNo
        go_wp2
        go_ret
        exact ⟨by rw [HF.out]; rfl, HLow.out⟩
  · have HF : Hid (R = false) := by show _ = _; rw [← HR.out, same_len HN.out HM.out hl]
    have hl2 : ¬ (N : Int) = M := by omega
    go_enter Try.func46, Try.ntmps46
    go_wp2
    go_ret
    exact ⟨by rw [HF.out]; rfl, Below.refl _ _⟩

theorem und_r : Try.prog.underlying 74 = some (.struct (Try.prog.fieldsOf 74)) := by kernel_rfl
theorem size_r : (Try.prog.info? 74).map (·.size) = some 2 := by kernel_rfl
theorem load_at_r {W : World} {g o : Nat} {a b : List UInt8} (h1 : W.cell? ⟨g, o, none⟩ = some (encS a)) (h2 : W.cell? ⟨g, o + 1, none⟩ = some (encS b)) {oi : Oper} {c : Act} {x : Operand} (ho : oi.op = .load 74 x) (hx : c.eval x = .pointer (some ⟨g, o, none⟩)) :
    (execOp c.eval oi).run Try.prog W = .ok (.value (.agg (cellsL a b))) W := by
  have hr : W.rangeAt g o [encS a, encS b] := fun j v hj => by
    match j, hj with
    | 0, hj => cases hj; exact h1
    | 1, hj => cases hj; exact h2
    | j + 2, hj => simp at hj
  have hl := run_loadVar_mid W g o 74 [encS a, encS b] _ hr und_r rfl size_r
  unfold execOp
  simp only [ho, hx, Instr.loadAt, Instr.sureAddr, Sem.run_bind, Sem.run_pure, Result.andThen_ok, hl]
  rfl
set_option maxRecDepth 100000 in
set_option maxHeartbeats 1000000 in
theorem neq_lab_r (x y : LB) (w : World) : (binOp .neq 74 (.agg (cellsL x.1 x.2)) (.agg (cellsL y.1 y.2))).run Try.prog w = .ok (.bool (!decide (x = y))) w := by
  obtain ⟨a, b⟩ := x
  obtain ⟨c, d⟩ := y
  unfold cellsL encS
  dsimp only
  go_simp
  by_cases h1 : a = c <;> by_cases h2 : b = d <;> simp [h1, h2]
theorem neq_r {oi : Oper} {a : Act} {x y : Operand} {p q : LB} {v : Bool} {W : World} (ho : oi.op = .binOp .neq 74 x y 74) (hx : a.eval x = .agg (cellsL p.1 p.2)) (hy : a.eval y = .agg (cellsL q.1 q.2)) (hv : (!decide (p = q)) = v) :
    (execOp a.eval oi).run Try.prog W = .ok (.value (.bool v)) W := by
  have hq : (eqGuard .neq 74 x y (.agg (cellsL p.1 p.2)) (.agg (cellsL q.1 q.2))).run Try.prog W = .ok () W := run_eqGuard_agg W .neq 74 x y (cellsL p.1 p.2) (cellsL q.1 q.2) (by kernel_rfl)
  unfold execOp
  simp only [ho, hx, hy, Sem.run_bind, hq, Result.andThen_ok, neq_lab_r, hv, Sem.run_pure]

set_option maxRecDepth 100000 in
set_option maxHeartbeats 2000000 in
theorem sameLabelsR_any (va vb : Value) (a b : List LB) (w : World) (h1 : LabsIn w va a) (h2 : LabsIn w vb b) :
    Calls Try.prog 28 #[va, vb] w fun e w' => e = .returned (.bool (decide (a = b))) ∧ Below w.heap.size w w' := by
  have H1 := Lib.hid h1
  have H2 := Lib.hid h2
  have hm := h1.len
  have hn := h2.len
  obtain ⟨o, c, rfl⟩ := h1.shape
  obtain ⟨p, d, rfl⟩ := h2.shape
  clear h1 h2
  obtain ⟨R, hR⟩ : ∃ R, decide (a = b) = R := ⟨_, rfl⟩
  rw [hR]
  have HR := Lib.hid hR
  clear hR
  obtain ⟨N, hN⟩ : ∃ N, N = a.length := ⟨_, rfl⟩
  rw [← hN] at H1 hm ⊢
  have HN := Lib.hid hN
  obtain ⟨M, hM⟩ : ∃ M, M = b.length := ⟨_, rfl⟩
  rw [← hM] at H2 hn ⊢
  have HM := Lib.hid hM
  clear hN hM
  by_cases hl : N = M
  · subst hl
    go_enter Try.func28, Try.ntmps28
    go_wp2
    go_loopw [5] (fun i wr => ∃ k : Nat, i = .int .i64 (k : Int) ∧ k ≤ N ∧ (∀ j (ha : j < a.length) (hb : j < b.length), j < k → a[j] = b[j]) ∧ Below w.heap.size w wr) (fun i _ => (N - intOf i).toNat)
    case atStart => exact ⟨0, rfl, Nat.zero_le _, fun j _ _ h => by omega, Below.refl _ _⟩
    case round =>
      obtain ⟨k, rfl, hk, hno, hlow⟩ := hrel
      have HNo := Lib.hid hno
      have HLow := Lib.hid hlow
      clear hno hlow
      by_cases hkl : k < N
      · have hka : k < a.length := by rw [← HN.out]; exact hkl
        have hkb : k < b.length := by rw [← HM.out]; exact hkl
        obtain ⟨g, off, rfl, -, -, -⟩ := H1.out.at k hka
        obtain ⟨pg, pf, rfl, -, -, -⟩ := H2.out.at k hkb
        have HC : Hid (∀ V, Below w.heap.size w V → V.cell? ⟨g, off + k * 2, none⟩ = some (encS a[k].1) ∧ V.cell? ⟨g, off + k * 2 + 1, none⟩ = some (encS a[k].2)) := fun V hV => by
          obtain ⟨g', off', h1, -, h2, h3⟩ := (H1.out.after hV).at k hka
          cases h1
          exact ⟨h2, h3⟩
        have HD : Hid (∀ V, Below w.heap.size w V → V.cell? ⟨pg, pf + k * 2, none⟩ = some (encS b[k].1) ∧ V.cell? ⟨pg, pf + k * 2 + 1, none⟩ = some (encS b[k].2)) := fun V hV => by
          obtain ⟨g', off', h1, -, h2, h3⟩ := (H2.out.after hV).at k hkb
          cases h1
          exact ⟨h2, h3⟩
        have hcase : (!decide (a[k] = b[k])) = false ∧ Hid (∀ j (ha : j < a.length) (hb : j < b.length), j < k + 1 → a[j] = b[j]) ∨ (!decide (a[k] = b[k])) = true ∧ Hid (R = false) := by
          by_cases he : a[k] = b[k]
          · refine .inl ⟨by simp [he], ?_⟩
            show ∀ j (ha : j < a.length) (hb : j < b.length), j < k + 1 → a[j] = b[j]
            intro j ha hb hj
            by_cases hjk : j < k
            · exact HNo.out j ha hb hjk
            · obtain rfl : j = k := by omega
              exact he
          · refine .inr ⟨by simp [he], ?_⟩
            show _ = _
            rw [← HR.out, same_no hka hkb he]
        clear HNo
        generalize a[k] = x at HC hcase
        generalize b[k] = y at HD hcase
        go_upto_region 6 with (fail)
        refine wp_region_held_drew (S := fun V => Below w.heap.size w V) (by kernel_rfl) HLow.out.drew (fun _ => ?_)
        refine HeldBy.gen (fun V => Below w.heap.size w V) HLow.out.drew ?_
        clear HLow
        rintro U HS
        refine HeldBy.take (i := 0) rfl (by kernel_rfl) (by kernel_rfl) (by kernel_rfl) (fun _ _ _ h => h) (by rfl) (fun _ _ => by first | (go_simp; rfl) | (go_simp; done)) (by go_simp; rfl) HS ?_
        refine HeldBy.take (i := 1) rfl (by kernel_rfl) (by kernel_rfl) (by kernel_rfl) (fun _ _ _ h => h) (by rfl) (fun _ _ => by first | (go_simp; rfl) | (go_simp; done)) (by go_simp; rfl) HS ?_
        refine HeldBy.take (i := 2) (v := .pointer (some ⟨g, off + k * 2, none⟩)) rfl (by kernel_rfl) (by kernel_rfl) (by kernel_rfl) (fun _ _ _ h => h) (by rfl) (fun _ _ => by go_simp) (by go_simp; rfl) HS ?_
        refine HeldBy.take (i := 3) rfl (by kernel_rfl) (by kernel_rfl) (by kernel_rfl) (fun _ _ _ h => h) (by rfl) (fun V h => load_at_r (HC.out V h).1 (HC.out V h).2 rfl rfl) (by go_simp; rfl) HS ?_
        refine HeldBy.take (i := 4) rfl (by kernel_rfl) (by kernel_rfl) (by kernel_rfl) (fun _ _ _ h => h) (by rfl) (fun _ _ => by first | (go_simp; rfl) | (go_simp; done)) (by go_simp; rfl) HS ?_
        refine HeldBy.take (i := 5) rfl (by kernel_rfl) (by kernel_rfl) (by kernel_rfl) (fun _ _ _ h => h) (by rfl) (fun _ _ => by first | (go_simp; rfl) | (go_simp; done)) (by go_simp; rfl) HS ?_
        refine HeldBy.take (i := 6) (v := .pointer (some ⟨pg, pf + k * 2, none⟩)) rfl (by kernel_rfl) (by kernel_rfl) (by kernel_rfl) (fun _ _ _ h => h) (by rfl) (fun _ _ => by go_simp) (by go_simp; rfl) HS ?_
        refine HeldBy.take (i := 7) rfl (by kernel_rfl) (by kernel_rfl) (by kernel_rfl) (fun _ _ _ h => h) (by rfl) (fun V h => load_at_r (HD.out V h).1 (HD.out V h).2 rfl rfl) (by go_simp; rfl) HS ?_
        rcases hcase with ⟨hc, hno2⟩ | ⟨hc, HF⟩
        · refine HeldBy.take (i := 8) (v := .bool false) rfl (by kernel_rfl) (by kernel_rfl) (by kernel_rfl) (fun _ _ _ h => h) (by rfl) (fun _ _ => neq_r rfl rfl rfl hc) (by go_simp; rfl) HS ?_
          refine wpAnyH_done (by kernel_rfl) ?_ _
          have HS := Lib.hid HS
          clear HC HD hc
          go_wp2
          go_roundw
          case rel => exact ⟨k + 1, rfl, by omega, hno2.out, HS.out⟩
          case measure => simp [intOf]; omega
        · refine HeldBy.take (i := 8) (v := .bool true) rfl (by kernel_rfl) (by kernel_rfl) (by kernel_rfl) (fun _ _ _ h => h) (by rfl) (fun _ _ => neq_r rfl rfl rfl hc) (by go_simp; rfl) HS ?_
          refine wpAnyH_done (by kernel_rfl) ?_ _
          have HS := Lib.hid HS
          clear HC HD hc
          go_wp2
          go_ret
          exact ⟨by rw [HF.out]; rfl, HS.out⟩
      · have HF : Hid (R = true) := by show _ = _; rw [← HR.out, same_yes HN.out HM.out fun j h1 h2 _ => HNo.out j h1 h2 (by have := HN.out; omega)]
        clear HNo
        go_wp2
        go_ret
        exact ⟨by rw [HF.out]; rfl, HLow.out⟩
  · have HF : Hid (R = false) := by show _ = _; rw [← HR.out, same_len HN.out HM.out hl]
    have hl2 : ¬ (N : Int) = M := by omega
    go_enter Try.func28, Try.ntmps28
    go_wp2
    go_ret
    exact ⟨by rw [HF.out]; rfl, Below.refl _ _⟩

set_option maxRecDepth 100000 in
theorem sameLabels_any (va vb : Value) (a b : List LB) (w : World) (h1 : LabsIn w va a) (h2 : LabsIn w vb b) :
    Calls Try.prog 22 #[va, vb] w fun e w' => e = .returned (.bool (decide (a = b))) ∧ Below w.heap.size w w' := by
  have H1 := Lib.hid (equalL_any va vb a b w h1 h2)
  clear h1 h2
  generalize decide (a = b) = R at H1 ⊢
  go_enter Try.func22, Try.ntmps22
  go_wp2_with fail
  refine H1.out.mono ?_
  rintro e W1 ⟨rfl, hb⟩
  have HB := Lib.hid hb
  clear hb
  go_wp2
  go_ret
  exact ⟨rfl, HB.out⟩
end Go.Proofs.Ytneogmcmkbhnaaa.T
