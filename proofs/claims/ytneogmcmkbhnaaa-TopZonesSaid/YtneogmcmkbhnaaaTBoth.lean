/- topo.both. -/
import Derived.Test.YtneogmcmkbhnaaaTBothB
import Derived.Test.YtneogmcmkbhnaaaHeldAlloc
namespace Go.Proofs.Ytneogmcmkbhnaaa.T
open Go.RowKit
open Go.Lib hiding intOf

theorem makes_term {oi : Oper} (ho : oi.op = .alloc 60) : HeldBy.Makes Try.prog oi (.cells (cellsT [] noV) 60) := by
  intro a w
  unfold execOp
  simp only [ho]
  kernel_rfl
theorem then_gen {K : Act → World → Prop} {Q : Exit → Act → World → Prop} {e : Exit} {a : Act} {W : World} (F : World → Prop) (hF : F W) (h : ∀ W1, F W1 → Exit.then K Q e a W1) : Exit.then K Q e a W := h W hF
theorem exec_tail {W : World} {oi : Oper} {a : Act} {x : Operand} {g off n c : Nat} {v : Value} (ho : oi.op = .slice 22 x (some (.const (.int .i64 1))) none none) (hx : a.eval x = .slice (some ⟨g, off, none⟩) (n + 1) c) (h1 : v = .slice (if c = 1 then some ⟨g, off, none⟩ else some ⟨g, off + 2, none⟩) n (c - 1)) (_h : True = True) :
    (execOp a.eval oi).run Try.prog W = .ok (.value v) W := by
  subst h1
  unfold execOp
  simp only [ho, hx]
  go_simp
  intro h
  exact absurd h (by omega)
theorem exec_lss {W : World} {oi : Oper} {c : Act} {x y : Operand} {t : TypeId} (a b : List UInt8) {v : Bool} (hv : ltB a b = v) (ho : oi.op = .binOp .lss t x y t) (hx : c.eval x = encS a) (hy : c.eval y = encS b) : (execOp c.eval oi).run Try.prog W = .ok (.value (.bool v)) W := by
  have h5 : (eqGuard .lss t x y (encS a) (encS b)).run Try.prog W = .ok () W := rfl
  have h4 : binOp .lss t (encS a) (encS b) = pure (.bool v) := by
    rw [← hv]
    unfold encS ltB
    rw [binOp_string_lss]
    simp [Lib.toList_data]
  unfold execOp
  simp only [ho, hx, hy, Sem.run_bind, h5, Result.andThen_ok, h4, Sem.run_pure]
theorem exec_gtr {W : World} {oi : Oper} {c : Act} {x y : Operand} {t : TypeId} (a b : List UInt8) {v : Bool} (hv : (!leB a b) = v) (ho : oi.op = .binOp .gtr t x y t) (hx : c.eval x = encS a) (hy : c.eval y = encS b) : (execOp c.eval oi).run Try.prog W = .ok (.value (.bool v)) W := by
  have h5 : (eqGuard .gtr t x y (encS a) (encS b)).run Try.prog W = .ok () W := rfl
  have h4 : binOp .gtr t (encS a) (encS b) = pure (.bool v) := by
    rw [← hv]
    unfold encS leB
    rw [binOp_string_gtr]
    simp [Lib.toList_data]
  unfold execOp
  simp only [ho, hx, hy, Sem.run_bind, h5, Result.andThen_ok, h4, Sem.run_pure]
theorem less_list (x : List UInt8) : ∀ y : List UInt8, Op.bytesLess x y = decide (x < y) := by
  induction x with
  | nil => intro y; cases y <;> simp [Op.bytesLess]
  | cons a x ih =>
    intro y
    cases y with
    | nil => simp [Op.bytesLess]
    | cons b y =>
      rw [Op.bytesLess, ih y, Bool.eq_iff_iff]
      simp only [List.cons_lt_cons_iff, Bool.or_eq_true, Bool.and_eq_true, decide_eq_true_eq, beq_iff_eq]
theorem gt_yes {a b : List UInt8} (h : ltB b a = true) : (!leB a b) = true := by
  unfold ltB at h
  unfold leB
  rw [less_list] at h ⊢
  have h1 : b < a := by simpa using h
  have h2 : ¬ a < b := List.lt_asymm h1
  have h3 : a ≠ b := fun e => List.lt_irrefl a (e ▸ h1)
  simp [h2, h3]
theorem gt_no {a b : List UInt8} (h : ltB a b = false) (h2 : ltB b a = false) : (!leB a b) = false := by
  unfold ltB at h h2
  unfold leB
  rw [less_list] at h h2 ⊢
  have h1 : ¬ a < b := by simpa using h
  have h3 : ¬ b < a := by simpa using h2
  have h4 : a = b := List.le_antisymm h3 h1
  simp [h4]
/-- Between two rounds: what is left of both, and what is made. -/
structure BR (w : World) (R : Option (List PT)) (va vb out : Value) (A B O : List TB) (W : World) : Prop where
  ta : TermsIn w va A
  tb : TermsIn w vb B
  ca : CapOk va
  cb : CapOk vb
  fa : ∀ x ∈ A, x.1.2.length ≤ 1000
  fb : ∀ x ∈ B, x.1.2.length ≤ 1000
  len : O.length + A.length + B.length ≤ 100
  ro : RO w out O W
  all : (bothB (A.map Prod.fst) (B.map Prod.fst)).map (O.map Prod.fst ++ ·) = R
theorem lenV_terms {w : World} {v : Value} {A : List TB} (h : TermsIn w v A) : lenV v = A.length := by
  obtain ⟨o, c, rfl⟩ := h.shape
  rfl

set_option maxRecDepth 100000 in
set_option maxHeartbeats 8000000 in
theorem both_any (va vb : Value) (A B : List TB) (w : World) (hA : TermsIn w va A) (hB : TermsIn w vb B) (ca : CapOk va) (cb : CapOk vb) (fa : ∀ x ∈ A, x.1.2.length ≤ 1000) (fb : ∀ x ∈ B, x.1.2.length ≤ 1000) (hl : A.length + B.length ≤ 100) :
    Calls Try.prog 52 #[va, vb] w (BothPost w (bothB (A.map Prod.fst) (B.map Prod.fst))) := by
  obtain ⟨R, hR⟩ : ∃ R, bothB (A.map Prod.fst) (B.map Prod.fst) = R := ⟨_, rfl⟩
  rw [hR]
  have H0 : Hid (BR w R va vb (.slice none 0 0) A B [] w) := ⟨hA, hB, ca, cb, fa, fb, by simpa using hl, RO.start w, by rw [hR]; cases R <;> simp⟩
  obtain ⟨o, c, rfl⟩ := hA.shape
  obtain ⟨p, d, rfl⟩ := hB.shape
  clear hA hB ca cb fa fb hl hR
  generalize A.length = na at H0
  generalize B.length = nb at H0
  go_enter Try.func52, Try.ntmps52
  go_wp2
  go_loopw [0, 1, 6] (fun va vb out wr => ∃ A B O, BR w R va vb out A B O wr) (fun va vb _ _ => lenV va + lenV vb)
  case atStart => exact ⟨A, B, [], H0.out⟩
  case round =>
    clear H0 A B
    obtain ⟨A, B, O, h⟩ := hrel
    have HLen := Lib.hid (And.intro (lenV_terms h.ta) (lenV_terms h.tb))
    obtain ⟨o0, c0, rfl⟩ := h.ta.shape
    obtain ⟨o1, c1, rfl⟩ := h.tb.shape
    cases A with
    | nil =>
      have HR2 : Hid (R = some (O.map Prod.fst ++ ([] : List TB).map Prod.fst ++ B.map Prod.fst)) := by
        show _ = _
        rw [← h.all]
        show (bothB [] _).map _ = _
        rw [bothB_left]
        simp
      have H := Lib.hid h
      clear h HLen
      have HTb := Lib.hid H.out.tb
      have HFb := Lib.hid H.out.fb
      have HRO := Lib.hid H.out.ro
      have hlen3 := H.out.len
      clear H
      obtain ⟨nb, hnb⟩ : ∃ n, n = B.length := ⟨_, rfl⟩
      rw [List.length_nil] at hlen3 ⊢
      rw [← hnb] at HTb hlen3
      rw [← hnb]
      have HNb := Lib.hid hnb
      clear hnb
      go_wp2
      go_loopw [6, 75] (fun out i wr => ∃ O1 : List TB, i = .int .i64 0 ∧ RO w out O1 wr ∧ O1.map Prod.fst = O.map Prod.fst ++ ([] : List TB).map Prod.fst ∧ O1.length ≤ O.length) (fun _ _ _ => 0)
      case atStart => exact ⟨_, rfl, HRO.out, by simp, Nat.le_refl _⟩
      case round =>
          clear HRO
          obtain ⟨O1, rfl, hro, hO1, hlO⟩ := hrel
          have HRO := Lib.hid hro
          have HO1 := Lib.hid hO1
          clear hro hO1
          obtain ⟨O2, hO2⟩ : ∃ O2, O2 = O1 := ⟨_, rfl⟩
          rw [← hO2] at HRO HO1 hlO
          clear hO2
          have HO2 := Lib.hid HO1.out
          clear HO1
          go_wp2
          go_loopw [6, 87] (fun out i wr => ∃ (k : Nat) (O1 : List TB), i = .int .i64 (k : Int) ∧ k ≤ nb ∧ RO w out O1 wr ∧ O1.map Prod.fst = O2.map Prod.fst ++ (B.take k).map Prod.fst ∧ O1.length ≤ O2.length + k) (fun _ i _ => (nb - intOf i).toNat)
          case atStart => exact ⟨0, _, rfl, Nat.zero_le _, HRO.out, by simp, by simp⟩
          case round =>
            clear HRO
            obtain ⟨k, O1, rfl, hk, hro, hO1, hlO⟩ := hrel
            have HRO := Lib.hid hro
            have HO1 := Lib.hid hO1
            clear hro hO1
            by_cases hkl : k < nb
            · have hkl' : k < B.length := by rw [← HNb.out]; exact hkl
              obtain ⟨g, off, rfl, -, -, -, -⟩ := HTb.out.at k hkl'
              have hcv : wr.cell? ⟨g, off + k * 2, none⟩ = some (encS B[k].1.1) ∧ wr.cell? ⟨g, off + k * 2 + 1, none⟩ = some B[k].2 ∧ StrsIn wr B[k].2 B[k].1.2 := by
                obtain ⟨g', off', h1, -, h2, h3, h4⟩ := (HTb.out.after HRO.out.low).at k hkl'
                cases h1
                exact ⟨h2, h3, h4⟩
              have HFz := Lib.hid (HFb.out B[k] (List.getElem_mem hkl'))
              have HTk : Hid ((B.take (k + 1)).map Prod.fst = (B.take k).map Prod.fst ++ [B[k].1]) := by
                show _ = _
                rw [List.take_succ_eq_append_getElem hkl', List.map_append]
                rfl
              generalize B[k] = z at hcv HFz HTk
              obtain ⟨⟨kz, lz⟩, zv⟩ := z
              dsimp only at hcv HFz HTk
              obtain ⟨zo, zn, zc, rfl⟩ := hcv.2.2.shape
              have hc1 := hcv.1
              have hc2 := hcv.2.1
              have HSz := Lib.hid hcv.2.2
              clear hcv
              have hn0 : BoxT (wr.alloc (.cells (cellsT [] noV) 60 (0, 0))) wr.heap.size [] noV := heap_alloc_new wr _
              go_upto_region 23 with (first | (refine wpList_known (v := .agg (cellsT kz (.slice zo zn zc))) rfl (exec_load_term_at hc1 hc2 rfl rfl) ?_) | ((with_reducible refine wpList_store_rowTo rfl 60 _ _ rfl rfl wr.heap.size (cellsT kz (.slice zo zn zc)) ?_ ?_ 60 (cellsT [] noV) ?_ ?_ ?_ ?_ ?_); rfl; rfl; exact hn0; exact sizeTerm; exact rfl; exact one_cellsT _))
              have hbb : Below wr.heap.size wr ((wr.alloc (.cells (cellsT [] noV) 60 (0, 0))).setRow wr.heap.size (cellsT kz (.slice zo zn zc))) := below_setRow ((Below.refl _ _).alloc (Nat.le_refl _) _) (Nat.le_refl _) _
              refine wp_gen (fun V => BoxT V wr.heap.size kz (.slice zo zn zc) ∧ StrsIn V (.slice zo zn zc) lz ∧ RO w u6 O1 V) ⟨hn0.setRow _ _, HSz.out.after hbb, HRO.out.after hbb⟩ ?_
              clear hn0 hbb hc1 hc2 HSz HRO
              rintro V0 ⟨hX, hS, hro⟩
              have HCl := Lib.hid (cloned_any kz (.slice zo zn zc) lz V0 hS HFz.out)
              have HRO := Lib.hid hro
              clear hS hro
              go_wp2_with (first | (refine wpList_known (v := .agg (cellsT kz (.slice zo zn zc))) rfl (exec_load_term hX rfl rfl) ?_) | fail)
              refine HCl.out.mono ?_
              rintro e V3 ⟨v', rfl, hrow, hb⟩
              clear HCl hX
              obtain ⟨vo, vn, vc, rfl⟩ : ∃ vo vn vc, v' = .slice vo vn vc := by
                rcases hrow.2 with ⟨rfl, -⟩ | ⟨g, cap, cur, rfl, -⟩
                · exact ⟨_, _, _, rfl⟩
                · exact ⟨_, _, _, rfl⟩
              have hro2 := (HRO.out.after hb).alloc (.cells #[.string ⟨kz.toArray⟩, .slice vo vn vc] 60 (0, 0))
              have hrow2 := (ownsRow_base hrow HRO.out.low.size).alloc (.cells #[.string ⟨kz.toArray⟩, .slice vo vn vc] 60 (0, 0))
              have hsz := hro2.low.size
              obtain ⟨i0, hi, hz0, hz1, hz2⟩ := info_parts infoTerm
              have HR3 := Lib.hid hro2
              have HW3 := Lib.hid hrow2
              clear hrow hb hro2 hrow2
              unfold cellsT encS
              go_wp2_with (at_builtin; refine wpList_append_own _ rfl (.tmp 91) (.tmp 94) 22 rfl w.heap.size 60 i0 (.agg #[.string ⟨#[]⟩, .slice none 0 0]) 2 40 undTerms hi hz0 hz1 hz2 rfl (by decide) u6 O1.length _ rfl HR3.out.row ⟨V3.heap.size, 0, none⟩ 1 1 [.string ⟨kz.toArray⟩, .slice vo vn vc] rfl rfl (cell_two_new _ _ _ _) (by simp [Value.oneCell']) (by simp only [maxLen]; omega) (by omega) hsz ?_; intro v3 w3 hown3 hg3 hnil3)
              have hro3 : Hid (RO w v3 (O1 ++ [((kz, lz), Value.slice vo vn vc)]) w3) := RO.snoc ((kz, lz), Value.slice vo vn vc) HR3.out HW3.out hown3 hg3
              clear HR3 HW3 hown3 hg3 hnil3
              go_roundw
              case rel => exact ⟨k + 1, _, rfl, by omega, hro3.out, by rw [List.map_append, HO1.out, HTk.out]; simp, by rw [List.length_append]; simp; omega⟩
              case measure => simp [intOf]; omega
            · obtain rfl : k = nb := by omega
              rw [List.take_of_length_le (by rw [HNb.out]; exact Nat.le_refl _)] at HO1

              have hX : R = some (O1.map Prod.fst) := by rw [HR2.out, HO1.out, HO2.out]
              have HRO2 := Lib.hid HRO.out
              clear HRO HO1 HO2 HR2
              subst hX
              go_wp2
              go_ret2
              exact ⟨_, O1, rfl, HRO2.out, rfl⟩
    | cons x A =>
      cases B with
      | nil =>
        have HR2 : Hid (R = some (O.map Prod.fst ++ (x :: A).map Prod.fst ++ ([] : List TB).map Prod.fst)) := by
          show _ = _
          rw [← h.all]
          show (bothB _ []).map _ = _
          rw [bothB_nil]
          simp
        have H := Lib.hid h
        clear h HLen
        obtain ⟨A, hAA⟩ : ∃ A2, A2 = x :: A := ⟨_, rfl⟩
        rw [← hAA] at H HR2
        have hpos : 0 < A.length := by rw [hAA]; simp
        rw [← hAA]
        clear hAA
        have HTa := Lib.hid H.out.ta
        have HFa := Lib.hid H.out.fa
        have HRO := Lib.hid H.out.ro
        have hlen3 := H.out.len
        clear H
        obtain ⟨na, hna⟩ : ∃ n, n = A.length := ⟨_, rfl⟩
        rw [← hna] at HTa hlen3
        rw [List.length_nil] at hlen3 ⊢
        rw [← hna]
        rw [← hna] at hpos
        have HNa := Lib.hid hna
        clear hna
        go_wp2
        clear hpos
        go_loopw [6, 75] (fun out i wr => ∃ (k : Nat) (O1 : List TB), i = .int .i64 (k : Int) ∧ k ≤ na ∧ RO w out O1 wr ∧ O1.map Prod.fst = O.map Prod.fst ++ (A.take k).map Prod.fst ∧ O1.length ≤ O.length + k) (fun _ i _ => (na - intOf i).toNat)
        case atStart => exact ⟨0, _, rfl, Nat.zero_le _, HRO.out, by simp, by simp⟩
        case round =>
          clear HRO
          obtain ⟨k, O1, rfl, hk, hro, hO1, hlO⟩ := hrel
          have HRO := Lib.hid hro
          have HO1 := Lib.hid hO1
          clear hro hO1
          by_cases hkl : k < na
          · have hkl' : k < A.length := by rw [← HNa.out]; exact hkl
            obtain ⟨g, off, rfl, -, -, -, -⟩ := HTa.out.at k hkl'
            have hcv : wr.cell? ⟨g, off + k * 2, none⟩ = some (encS A[k].1.1) ∧ wr.cell? ⟨g, off + k * 2 + 1, none⟩ = some A[k].2 ∧ StrsIn wr A[k].2 A[k].1.2 := by
              obtain ⟨g', off', h1, -, h2, h3, h4⟩ := (HTa.out.after HRO.out.low).at k hkl'
              cases h1
              exact ⟨h2, h3, h4⟩
            have HFz := Lib.hid (HFa.out A[k] (List.getElem_mem hkl'))
            have HTk : Hid ((A.take (k + 1)).map Prod.fst = (A.take k).map Prod.fst ++ [A[k].1]) := by
              show _ = _
              rw [List.take_succ_eq_append_getElem hkl', List.map_append]
              rfl
            generalize A[k] = z at hcv HFz HTk
            obtain ⟨⟨kz, lz⟩, zv⟩ := z
            dsimp only at hcv HFz HTk
            obtain ⟨zo, zn, zc, rfl⟩ := hcv.2.2.shape
            have hc1 := hcv.1
            have hc2 := hcv.2.1
            have HSz := Lib.hid hcv.2.2
            clear hcv
            have hn0 : BoxT (wr.alloc (.cells (cellsT [] noV) 60 (0, 0))) wr.heap.size [] noV := heap_alloc_new wr _
            go_upto_region 18 with (first | (refine wpList_known (v := .agg (cellsT kz (.slice zo zn zc))) rfl (exec_load_term_at hc1 hc2 rfl rfl) ?_) | ((with_reducible refine wpList_store_rowTo rfl 60 _ _ rfl rfl wr.heap.size (cellsT kz (.slice zo zn zc)) ?_ ?_ 60 (cellsT [] noV) ?_ ?_ ?_ ?_ ?_); rfl; rfl; exact hn0; exact sizeTerm; exact rfl; exact one_cellsT _))
            have hbb : Below wr.heap.size wr ((wr.alloc (.cells (cellsT [] noV) 60 (0, 0))).setRow wr.heap.size (cellsT kz (.slice zo zn zc))) := below_setRow ((Below.refl _ _).alloc (Nat.le_refl _) _) (Nat.le_refl _) _
            refine wp_gen (fun V => BoxT V wr.heap.size kz (.slice zo zn zc) ∧ StrsIn V (.slice zo zn zc) lz ∧ RO w u6 O1 V) ⟨hn0.setRow _ _, HSz.out.after hbb, HRO.out.after hbb⟩ ?_
            clear hn0 hbb hc1 hc2 HSz HRO
            rintro V0 ⟨hX, hS, hro⟩
            have HCl := Lib.hid (cloned_any kz (.slice zo zn zc) lz V0 hS HFz.out)
            have HRO := Lib.hid hro
            clear hS hro
            go_wp2_with (first | (refine wpList_known (v := .agg (cellsT kz (.slice zo zn zc))) rfl (exec_load_term hX rfl rfl) ?_) | fail)
            refine HCl.out.mono ?_
            rintro e V3 ⟨v', rfl, hrow, hb⟩
            clear HCl hX
            obtain ⟨vo, vn, vc, rfl⟩ : ∃ vo vn vc, v' = .slice vo vn vc := by
              rcases hrow.2 with ⟨rfl, -⟩ | ⟨g, cap, cur, rfl, -⟩
              · exact ⟨_, _, _, rfl⟩
              · exact ⟨_, _, _, rfl⟩
            have hro2 := (HRO.out.after hb).alloc (.cells #[.string ⟨kz.toArray⟩, .slice vo vn vc] 60 (0, 0))
            have hrow2 := (ownsRow_base hrow HRO.out.low.size).alloc (.cells #[.string ⟨kz.toArray⟩, .slice vo vn vc] 60 (0, 0))
            have hsz := hro2.low.size
            obtain ⟨i0, hi, hz0, hz1, hz2⟩ := info_parts infoTerm
            have HR3 := Lib.hid hro2
            have HW3 := Lib.hid hrow2
            clear hrow hb hro2 hrow2
            unfold cellsT encS
            go_wp2_with (at_builtin; refine wpList_append_own _ rfl (.tmp 79) (.tmp 82) 22 rfl w.heap.size 60 i0 (.agg #[.string ⟨#[]⟩, .slice none 0 0]) 2 40 undTerms hi hz0 hz1 hz2 rfl (by decide) u6 O1.length _ rfl HR3.out.row ⟨V3.heap.size, 0, none⟩ 1 1 [.string ⟨kz.toArray⟩, .slice vo vn vc] rfl rfl (cell_two_new _ _ _ _) (by simp [Value.oneCell']) (by simp only [maxLen]; omega) (by omega) hsz ?_; intro v3 w3 hown3 hg3 hnil3)
            have hro3 : Hid (RO w v3 (O1 ++ [((kz, lz), Value.slice vo vn vc)]) w3) := RO.snoc ((kz, lz), Value.slice vo vn vc) HR3.out HW3.out hown3 hg3
            clear HR3 HW3 hown3 hg3 hnil3
            go_roundw
            case rel => exact ⟨k + 1, _, rfl, by omega, hro3.out, by rw [List.map_append, HO1.out, HTk.out]; simp, by rw [List.length_append]; simp; omega⟩
            case measure => simp [intOf]; omega
          · obtain rfl : k = na := by omega
            rw [List.take_of_length_le (by rw [HNa.out]; exact Nat.le_refl _)] at HO1
            obtain ⟨O2, hO2⟩ : ∃ O2, O2 = O1 := ⟨_, rfl⟩
            rw [← hO2] at HRO HO1 hlO
            clear hO2
            have HO2 := Lib.hid HO1.out
            clear HO1
            go_wp2
            go_loopw [6, 87] (fun out i wr => ∃ O1 : List TB, i = .int .i64 0 ∧ RO w out O1 wr ∧ O1.map Prod.fst = O2.map Prod.fst ++ ([] : List TB).map Prod.fst ∧ O1.length ≤ O2.length) (fun _ _ _ => 0)
            case atStart => exact ⟨_, rfl, HRO.out, by simp, Nat.le_refl _⟩
            case round =>
                clear HRO
                obtain ⟨O1, rfl, hro, hO1, hlO1⟩ := hrel
                have HRO := Lib.hid hro
                have HO1 := Lib.hid hO1
                clear hro hO1
                have hX : R = some (O1.map Prod.fst) := by rw [HR2.out, HO1.out, HO2.out]
                have HRO2 := Lib.hid HRO.out
                clear HRO HO1 HO2 HR2
                subst hX
                go_wp2
                go_ret2
                exact ⟨_, O1, rfl, HRO2.out, rfl⟩
      | cons y B =>
        have H := Lib.hid h
        obtain ⟨g, off, rfl, hg, -, -, -⟩ := h.ta.at 0 (by simp)
        obtain ⟨pg, pf, rfl, hpg, -, -, -⟩ := h.tb.at 0 (by simp)
        have HC : Hid (∀ V, Below w.heap.size w V → V.cell? ⟨g, off, none⟩ = some (encS x.1.1) ∧ V.cell? ⟨g, off + 1, none⟩ = some x.2 ∧ StrsIn V x.2 x.1.2) := fun V hV => by
          obtain ⟨g', off', h1, -, h2, h3, h4⟩ := (H.out.ta.after hV).at 0 (by simp)
          cases h1
          exact ⟨h2, h3, h4⟩
        have HD : Hid (∀ V, Below w.heap.size w V → V.cell? ⟨pg, pf, none⟩ = some (encS y.1.1) ∧ V.cell? ⟨pg, pf + 1, none⟩ = some y.2 ∧ StrsIn V y.2 y.1.2) := fun V hV => by
          obtain ⟨g', off', h1, -, h2, h3, h4⟩ := (H.out.tb.after hV).at 0 (by simp)
          cases h1
          exact ⟨h2, h3, h4⟩
        obtain ⟨xo, xn, xc, hx2⟩ := (HC.out wr h.ro.low).2.2.shape
        obtain ⟨yo, yn, yc, hy2⟩ := (HD.out wr h.ro.low).2.2.shape
        have HFx := Lib.hid (h.fa x (by simp))
        have HFy := Lib.hid (h.fb y (by simp))
        have HTa : Hid (TermsIn w (.slice (if c0 = 1 then some ⟨g, off, none⟩ else some ⟨g, off + 2, none⟩) A.length (c0 - 1)) A ∧ CapOk (.slice (if c0 = 1 then some ⟨g, off, none⟩ else some ⟨g, off + 2, none⟩) A.length (c0 - 1)) ∧ ∀ x ∈ A, x.1.2.length ≤ 1000) := by
          obtain ⟨o, n, c, h1, h2⟩ := h.ca
          cases h1
          exact ⟨tail_terms h.ta h2, ⟨_, _, _, rfl, by rw [List.length_cons] at h2; omega⟩, fun z hz => h.fa z (List.mem_cons_of_mem _ hz)⟩
        have HTb : Hid (TermsIn w (.slice (if c1 = 1 then some ⟨pg, pf, none⟩ else some ⟨pg, pf + 2, none⟩) B.length (c1 - 1)) B ∧ CapOk (.slice (if c1 = 1 then some ⟨pg, pf, none⟩ else some ⟨pg, pf + 2, none⟩) B.length (c1 - 1)) ∧ ∀ x ∈ B, x.1.2.length ≤ 1000) := by
          obtain ⟨o, n, c, h1, h2⟩ := h.cb
          cases h1
          exact ⟨tail_terms h.tb h2, ⟨_, _, _, rfl, by rw [List.length_cons] at h2; omega⟩, fun z hz => h.fb z (List.mem_cons_of_mem _ hz)⟩
        have HRO := Lib.hid h.ro
        have hlen3 := h.len
        have hA1 : (x :: A).length = A.length + 1 := rfl
        have hB1 : (y :: B).length = B.length + 1 := rfl
        rw [hA1, hB1] at hlen3
        rw [hA1, hB1] at H
        rw [hA1, hB1]
        clear h HLen
        obtain ⟨na, hna⟩ : ∃ n, n = A.length := ⟨_, rfl⟩
        obtain ⟨nb, hnb⟩ : ∃ n, n = B.length := ⟨_, rfl⟩
        rw [← hna, ← hnb] at H hlen3
        rw [← hna] at HTa
        rw [← hnb] at HTb
        rw [← hna, ← hnb]
        have HNa := Lib.hid hna
        have HNb := Lib.hid hnb
        clear hna hnb hA1 hB1
        obtain ⟨⟨ka, la⟩, xv⟩ := x
        obtain ⟨⟨kb, lb⟩, yv⟩ := y
        dsimp only at HC HD hx2 hy2 HFx HFy
        subst hx2
        subst hy2
        have HW : Hid (∀ V, Below wr.heap.size wr V → Below w.heap.size w V) := fun V hV => HRO.out.low.trans (hV.mono HRO.out.low.size)
        go_upto_region 3 with (fail)
        refine wp_region_held_drew (S := fun V => Below wr.heap.size wr V) (by kernel_rfl) (Below.refl _ _).drew (fun _ => ?_)
        refine HeldBy.gen (fun V => Below wr.heap.size wr V) (Below.refl _ _).drew ?_
        rintro U HS
        refine HeldBy.take (i := 0) rfl (by kernel_rfl) (by kernel_rfl) (by kernel_rfl) (fun _ _ _ h => h) (by rfl) (fun _ _ => by first | (go_simp; rfl) | (go_simp; done)) (by go_simp; rfl) HS ?_
        refine HeldBy.take (i := 1) (v := .pointer (some ⟨g, off, none⟩)) rfl (by kernel_rfl) (by kernel_rfl) (by kernel_rfl) (fun _ _ _ h => h) (by rfl) (fun _ _ => by go_simp) (by go_simp; rfl) HS ?_
        refine HeldBy.take (i := 2) rfl (by kernel_rfl) (by kernel_rfl) (by kernel_rfl) (fun _ _ _ h => h) (by rfl) (fun V h => exec_load_term_at (HC.out V (HW.out V h)).1 (HC.out V (HW.out V h)).2.1 rfl rfl) (by go_simp; rfl) HS ?_
        refine HeldBy.take (i := 3) rfl (by kernel_rfl) (by kernel_rfl) (by kernel_rfl) (fun _ _ _ h => h) (by rfl) (fun _ _ => by first | (go_simp; rfl) | (go_simp; done)) (by go_simp; rfl) HS ?_
        refine HeldBy.take (i := 4) (v := .pointer (some ⟨pg, pf, none⟩)) rfl (by kernel_rfl) (by kernel_rfl) (by kernel_rfl) (fun _ _ _ h => h) (by rfl) (fun _ _ => by go_simp) (by go_simp; rfl) HS ?_
        refine HeldBy.take (i := 5) rfl (by kernel_rfl) (by kernel_rfl) (by kernel_rfl) (fun _ _ _ h => h) (by rfl) (fun V h => exec_load_term_at (HD.out V (HW.out V h)).1 (HD.out V (HW.out V h)).2.1 rfl rfl) (by go_simp; rfl) HS ?_
        refine HeldBy.two_allocs (i := 6) (j := 7) (x := .cells (cellsT [] noV) 60) (y := .cells (cellsT [] noV) 60) (by kernel_rfl) (by kernel_rfl) (by kernel_rfl) rfl rfl rfl rfl (makes_term rfl) (makes_term rfl) rfl (by kernel_rfl) (fun p q => by unfold HeldBy.ptr; go_simp; rfl) (fun p q => by unfold HeldBy.ptr; go_simp; try rfl) (fun w' hb => HS.trans (hb.mono HS.size)) ?_
        intro p q V1 hp hq hpq xp xq hb
        have yp : BoxT V1 p [] noV := xp
        have yq : BoxT V1 q [] noV := xq
        have hp0 : wr.heap.size ≤ p := Nat.le_trans HS.size hp
        have hq0 : wr.heap.size ≤ q := Nat.le_trans HS.size hq
        replace HS := HS.trans (hb.mono HS.size)
        clear xp xq hb hp hq
        refine HeldBy.store (i := 8) rfl (by kernel_rfl) (by rfl) (store_term (k := ka) (vo := xo) (vn := xn) (vc := xc) yp rfl (by go_simp) (by go_simp)) (by go_simp; rfl) (below_setRow HS hp0 _) ?_
        replace HS := below_setRow HS hp0 (cellsT ka (.slice xo xn xc))
        replace yp := yp.setRow ka (.slice xo xn xc)
        replace yq : BoxT (V1.setRow p (cellsT ka (.slice xo xn xc))) q [] noV := ((grownBy_setRow V1 p (cellsT ka (.slice xo xn xc))).block _ yq.lt (by simp; omega)).trans yq
        refine HeldBy.store (i := 9) rfl (by kernel_rfl) (by rfl) (store_term (k := kb) (vo := yo) (vn := yn) (vc := yc) yq rfl (by go_simp) (by go_simp)) (by go_simp; rfl) (below_setRow HS hq0 _) ?_
        have yp2 : BoxT ((V1.setRow p (cellsT ka (.slice xo xn xc))).setRow q (cellsT kb (.slice yo yn yc))) p ka (.slice xo xn xc) := ((grownBy_setRow (V1.setRow p (cellsT ka (.slice xo xn xc))) q (cellsT kb (.slice yo yn yc))).block _ yp.lt (by simp; omega)).trans yp
        replace HS := below_setRow HS hq0 (cellsT kb (.slice yo yn yc))
        replace yq := yq.setRow kb (.slice yo yn yc)
        refine wpAnyH_done (by kernel_rfl) ?_ _
        refine then_gen (fun V => BoxT V p ka (.slice xo xn xc) ∧ BoxT V q kb (.slice yo yn yc) ∧ Below wr.heap.size wr V) ⟨yp2, yq, HS⟩ ?_
        clear yp yq yp2 HS hp0 hq0
        rintro V2 ⟨hX, hY, hlow⟩
        have HX := Lib.hid hX
        have HY := Lib.hid hY
        have HLow := Lib.hid hlow
        clear hX hY hlow
        have x0 := HX.out.c0
        have y0 := HY.out.c0
        cases hlt : ltB ka kb with
        | true =>
          go_upto_region 10 with (refine wpList_known (v := .bool true) rfl (exec_lss ka kb hlt rfl rfl rfl) ?_)
          have HCl := Lib.hid (cloned_any ka (.slice xo xn xc) la V2 (HC.out V2 (HW.out V2 HLow.out)).2.2 HFx.out)
          have hX := HX.out
          go_wp2_with (first | (refine wpList_known (v := .agg (cellsT ka (.slice xo xn xc))) rfl (exec_load_term hX rfl rfl) ?_) | fail)
          refine HCl.out.mono ?_
          rintro e V3 ⟨v', rfl, hrow, hb⟩
          clear HCl hX x0 y0 HX HY
          have hro0 := HRO.out.after HLow.out
          obtain ⟨vo, vn, vc, rfl⟩ : ∃ vo vn vc, v' = .slice vo vn vc := by
            rcases hrow.2 with ⟨rfl, -⟩ | ⟨g, cap, cur, rfl, -⟩
            · exact ⟨_, _, _, rfl⟩
            · exact ⟨_, _, _, rfl⟩
          have hro2 := (hro0.after hb).alloc (.cells #[.string ⟨ka.toArray⟩, .slice vo vn vc] 60 (0, 0))
          have hrow2 := (ownsRow_base hrow hro0.low.size).alloc (.cells #[.string ⟨ka.toArray⟩, .slice vo vn vc] 60 (0, 0))
          have hsz := hro2.low.size
          obtain ⟨i0, hi, hz0, hz1, hz2⟩ := info_parts infoTerm
          have HR3 := Lib.hid hro2
          have HW3 := Lib.hid hrow2
          clear hrow hb hro2 hrow2
          unfold cellsT encS
          go_wp2_with (at_builtin; refine wpList_append_own _ rfl (.tmp 53) (.tmp 56) 22 rfl w.heap.size 60 i0 (.agg #[.string ⟨#[]⟩, .slice none 0 0]) 2 40 undTerms hi hz0 hz1 hz2 rfl (by decide) u6 O.length _ rfl HR3.out.row ⟨V3.heap.size, 0, none⟩ 1 1 [.string ⟨ka.toArray⟩, .slice vo vn vc] rfl rfl (cell_two_new _ _ _ _) (by simp [Value.oneCell']) (by simp only [maxLen]; omega) (by omega) hsz ?_; intro v3 w3 hown3 hg3 hnil3)
          have hro3 : Hid (RO w v3 (O ++ [((ka, la), Value.slice vo vn vc)]) w3) := RO.snoc ((ka, la), Value.slice vo vn vc) HR3.out HW3.out hown3 hg3
          clear HR3 HW3 hown3 hg3 hnil3
          have hal : Hid ((bothB (A.map Prod.fst) ((((kb, lb), Value.slice yo yn yc) :: B).map Prod.fst)).map ((O ++ [((ka, la), Value.slice vo vn vc)]).map Prod.fst ++ ·) = R) := by
            show _ = _
            rw [← H.out.all, List.map_append]
            exact (both_lt (x := (ka, la)) (y := (kb, lb)) hlt).symm
          go_wp2_with (refine wpList_known (v := .slice (if c0 = 1 then some ⟨g, off, none⟩ else some ⟨g, off + 2, none⟩) na (c0 - 1)) rfl (exec_tail rfl rfl rfl rfl) ?_)
          go_roundw
          case rel => exact ⟨A, ((kb, lb), Value.slice yo yn yc) :: B, _, ⟨HTa.out.1, H.out.tb, HTa.out.2.1, H.out.cb, HTa.out.2.2, H.out.fb, by have e1 := HNa.out; have e2 := HNb.out; simp only [List.length_append, List.length_cons, List.length_nil]; omega, hro3.out, hal.out⟩⟩
          case measure => simp [lenV]
        | false =>
          go_upto_region 12 with (refine wpList_known (v := .bool false) rfl (exec_lss ka kb hlt rfl rfl rfl) ?_)
          cases hgt : ltB kb ka with
          | true =>
            have hgv : (!leB ka kb) = true := gt_yes hgt
            go_upto_region 13 with (refine wpList_known (v := .bool true) rfl (exec_gtr ka kb hgv rfl rfl rfl) ?_)
            have HCl := Lib.hid (cloned_any kb (.slice yo yn yc) lb V2 (HD.out V2 (HW.out V2 HLow.out)).2.2 HFy.out)
            have hY := HY.out
            go_wp2_with (first | (refine wpList_known (v := .agg (cellsT kb (.slice yo yn yc))) rfl (exec_load_term hY rfl rfl) ?_) | fail)
            refine HCl.out.mono ?_
            rintro e V3 ⟨v', rfl, hrow, hb⟩
            clear HCl hY x0 y0 HX HY
            have hro0 := HRO.out.after HLow.out
            obtain ⟨vo, vn, vc, rfl⟩ : ∃ vo vn vc, v' = .slice vo vn vc := by
              rcases hrow.2 with ⟨rfl, -⟩ | ⟨g, cap, cur, rfl, -⟩
              · exact ⟨_, _, _, rfl⟩
              · exact ⟨_, _, _, rfl⟩
            have hro2 := (hro0.after hb).alloc (.cells #[.string ⟨kb.toArray⟩, .slice vo vn vc] 60 (0, 0))
            have hrow2 := (ownsRow_base hrow hro0.low.size).alloc (.cells #[.string ⟨kb.toArray⟩, .slice vo vn vc] 60 (0, 0))
            have hsz := hro2.low.size
            obtain ⟨i0, hi, hz0, hz1, hz2⟩ := info_parts infoTerm
            have HR3 := Lib.hid hro2
            have HW3 := Lib.hid hrow2
            clear hrow hb hro2 hrow2
            unfold cellsT encS
            go_wp2_with (at_builtin; refine wpList_append_own _ rfl (.tmp 66) (.tmp 69) 22 rfl w.heap.size 60 i0 (.agg #[.string ⟨#[]⟩, .slice none 0 0]) 2 40 undTerms hi hz0 hz1 hz2 rfl (by decide) u6 O.length _ rfl HR3.out.row ⟨V3.heap.size, 0, none⟩ 1 1 [.string ⟨kb.toArray⟩, .slice vo vn vc] rfl rfl (cell_two_new _ _ _ _) (by simp [Value.oneCell']) (by simp only [maxLen]; omega) (by omega) hsz ?_; intro v3 w3 hown3 hg3 hnil3)
            have hro3 : Hid (RO w v3 (O ++ [((kb, lb), Value.slice vo vn vc)]) w3) := RO.snoc ((kb, lb), Value.slice vo vn vc) HR3.out HW3.out hown3 hg3
            clear HR3 HW3 hown3 hg3 hnil3
            have hal : Hid ((bothB ((((ka, la), Value.slice xo xn xc) :: A).map Prod.fst) (B.map Prod.fst)).map ((O ++ [((kb, lb), Value.slice vo vn vc)]).map Prod.fst ++ ·) = R) := by
              show _ = _
              rw [← H.out.all, List.map_append]
              exact (both_gt (x := (ka, la)) (y := (kb, lb)) hlt hgt).symm
            go_wp2_with (refine wpList_known (v := .slice (if c1 = 1 then some ⟨pg, pf, none⟩ else some ⟨pg, pf + 2, none⟩) nb (c1 - 1)) rfl (exec_tail rfl rfl rfl rfl) ?_)
            go_roundw
            case rel => exact ⟨((ka, la), Value.slice xo xn xc) :: A, B, _, ⟨H.out.ta, HTb.out.1, H.out.ca, HTb.out.2.1, H.out.fa, HTb.out.2.2, by have e1 := HNa.out; have e2 := HNb.out; simp only [List.length_append, List.length_cons, List.length_nil]; omega, hro3.out, hal.out⟩⟩
            case measure => simp [lenV]
          | false =>
            have hgv : (!leB ka kb) = false := gt_no hlt hgt
            have x1 := HX.out.c1
            have y1 := HY.out.c1
            have HCo := Lib.hid (common_any (.slice xo xn xc) (.slice yo yn yc) la lb V2 (HC.out V2 (HW.out V2 HLow.out)).2.2 (HD.out V2 (HW.out V2 HLow.out)).2.2 HFx.out)
            have HLc : Hid ((commonB la lb).length ≤ 1000) := Nat.le_trans (List.length_filter_le _ _) HFx.out
            go_wp2_with (first | (refine wpList_known (v := .bool false) rfl (exec_gtr ka kb hgv rfl rfl rfl) ?_) | fail)
            refine HCo.out.mono ?_
            rintro e V3 ⟨v', rfl, hrow, hb⟩
            have x0' := (HX.out.after hb).c0
            have hro0 := HRO.out.after HLow.out
            clear HCo x0 y0 x1 y1 HX HY
            cases hcm : commonB la lb with
            | nil =>
              have hX : R = none := by rw [← H.out.all]; exact both_none (x := (ka, la)) (y := (kb, lb)) hlt hgt hcm
              subst hX
              rw [hcm] at hrow
              obtain ⟨vo, vc, rfl⟩ : ∃ vo vc, v' = .slice vo 0 vc := by
                rcases hrow.2 with ⟨rfl, -⟩ | ⟨g, cap, cur, rfl, -⟩
                · exact ⟨_, _, rfl⟩
                · exact ⟨_, _, rfl⟩
              have HL := Lib.hid (hro0.after hb).low
              clear hrow hb hro0 x0'
              go_wp2
              go_ret2
              exact ⟨HL.out, rfl⟩
            | cons c0' cs =>
              have hne : commonB la lb ≠ [] := by rw [hcm]; simp
              have hpos : 0 < (commonB la lb).length := by rw [hcm]; simp
              clear hcm
              obtain ⟨cm, hcm⟩ : ∃ cm, commonB la lb = cm := ⟨_, rfl⟩
              have hal : Hid ((bothB (A.map Prod.fst) (B.map Prod.fst)).map ((O.map Prod.fst) ++ [(ka, cm)] ++ ·) = R) := by
                show _ = _
                rw [← H.out.all, ← hcm]
                exact (both_eq (x := (ka, la)) (y := (kb, lb)) hlt hgt hne).symm
              rw [hcm] at hrow hpos
              clear hcm hne
              obtain ⟨m, hm⟩ : ∃ m, m = cm.length := ⟨_, rfl⟩
              obtain ⟨vo, vc, rfl⟩ : ∃ vo vc, v' = .slice vo m vc := by
                rw [hm]
                rcases hrow.2 with ⟨rfl, h0⟩ | ⟨g, cap, cur, rfl, -⟩
                · exact ⟨none, 0, by rw [h0]⟩
                · exact ⟨_, _, rfl⟩
              rw [← hm] at hrow hpos
              have HMm := Lib.hid hm
              clear hm
              have hro2 := (hro0.after hb).alloc (.cells #[.string ⟨ka.toArray⟩, .slice vo m vc] 60 (0, 0))
              have hrow2 := (ownsRow_base hrow hro0.low.size).alloc (.cells #[.string ⟨ka.toArray⟩, .slice vo m vc] 60 (0, 0))
              have hsz := hro2.low.size
              obtain ⟨i0, hi, hz0, hz1, hz2⟩ := info_parts infoTerm
              have HR3 := Lib.hid hro2
              have HW3 := Lib.hid hrow2
              clear hrow hb hro2 hrow2 hro0
              have hm0 : ¬ (m : Int) = 0 := by omega
              unfold encS at x0'
              go_upto_region 8 with (at_builtin; refine wpList_append_own _ rfl (.tmp 36) (.tmp 41) 22 rfl w.heap.size 60 i0 (.agg #[.string ⟨#[]⟩, .slice none 0 0]) 2 40 undTerms hi hz0 hz1 hz2 rfl (by decide) u6 O.length _ rfl HR3.out.row ⟨V3.heap.size, 0, none⟩ 1 1 [.string ⟨ka.toArray⟩, .slice vo m vc] rfl rfl (cell_two_new _ _ _ _) (by simp [Value.oneCell']) (by simp only [maxLen]; omega) (by omega) hsz ?_; intro v3 w3 hown3 hg3 hnil3)
              have hro3 : RO w v3 (O ++ [((ka, cm), Value.slice vo m vc)]) w3 := RO.snoc ((ka, cm), Value.slice vo m vc) HR3.out (by show World.ownsRow _ _ _ _ _ cm.length _; rw [← HMm.out]; exact HW3.out) hown3 hg3
              clear HR3 HW3 hown3 hg3 hnil3
              refine wp_region_held_drew (S := fun V => RO w v3 (O ++ [((ka, cm), Value.slice vo m vc)]) V) (by kernel_rfl) hro3.drew (fun _ => ?_)
              refine HeldBy.gen (fun V => RO w v3 (O ++ [((ka, cm), Value.slice vo m vc)]) V) hro3.drew ?_
              clear hro3
              rintro U5 HS
              refine HeldBy.take (i := 0) rfl (by kernel_rfl) (by kernel_rfl) (by kernel_rfl) (fun _ _ _ h => h) (by rfl) (fun _ _ => by first | (go_simp; rfl) | (go_simp; done)) (by go_simp; rfl) HS ?_
              refine HeldBy.take (i := 1) (v := .slice (if c0 = 1 then some ⟨g, off, none⟩ else some ⟨g, off + 2, none⟩) na (c0 - 1)) rfl (by kernel_rfl) (by kernel_rfl) (by kernel_rfl) (fun _ _ _ h => h) (by rfl) (fun _ _ => exec_tail rfl rfl rfl rfl) (by go_simp; rfl) HS ?_
              refine HeldBy.take (i := 2) rfl (by kernel_rfl) (by kernel_rfl) (by kernel_rfl) (fun _ _ _ h => h) (by rfl) (fun _ _ => by first | (go_simp; rfl) | (go_simp; done)) (by go_simp; rfl) HS ?_
              refine HeldBy.take (i := 3) (v := .slice (if c1 = 1 then some ⟨pg, pf, none⟩ else some ⟨pg, pf + 2, none⟩) nb (c1 - 1)) rfl (by kernel_rfl) (by kernel_rfl) (by kernel_rfl) (fun _ _ _ h => h) (by rfl) (fun _ _ => exec_tail rfl rfl rfl rfl) (by go_simp; rfl) HS ?_
              refine HeldBy.take (i := 4) rfl (by kernel_rfl) (by kernel_rfl) (by kernel_rfl) (fun _ _ _ h => h) (by rfl) (fun _ _ => by first | (go_simp; rfl) | (go_simp; done)) (by go_simp; rfl) HS ?_
              refine HeldBy.take (i := 5) rfl (by kernel_rfl) (by kernel_rfl) (by kernel_rfl) (fun _ _ _ h => h) (by rfl) (fun _ _ => by first | (go_simp; rfl) | (go_simp; done)) (by go_simp; rfl) HS ?_
              refine wpAnyH_done (by kernel_rfl) ?_ _
              have HRo5 := Lib.hid HS
              clear HS
              go_wp2
              go_roundw
              case rel => exact ⟨A, B, _, ⟨HTa.out.1, HTb.out.1, HTa.out.2.1, HTb.out.2.1, HTa.out.2.2, HTb.out.2.2, by have e1 := HNa.out; have e2 := HNb.out; simp only [List.length_append, List.length_cons, List.length_nil]; omega, HRo5.out, by rw [List.map_append]; exact hal.out⟩⟩
              case measure => simp [lenV]; omega
end Go.Proofs.Ytneogmcmkbhnaaa.T
