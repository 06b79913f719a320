/- printLabel, printTerm. -/
import Derived.Test.YtneogmcmkbhnaaaTPrintS
namespace Go.Proofs.Ytneogmcmkbhnaaa.T
open Go.RowKit
open Go.Lib hiding intOf

theorem exec_add {W : World} {oi : Oper} {c : Act} {x y : Operand} {t : TypeId} (a b : List UInt8) {s : List UInt8} (hs : a ++ b = s) (ho : oi.op = .binOp .add t x y t) (hx : c.eval x = encS a) (hy : c.eval y = encS b) (h : a.length + b.length ≤ 1000000) :
    (execOp c.eval oi).run Try.prog W = .ok (.value (encS s)) W := by
  subst hs
  have h1 : (⟨a.toArray⟩ : ByteArray).size = a.length := rfl
  have h2 : (⟨b.toArray⟩ : ByteArray).size = b.length := rfl
  have h3 : (⟨a.toArray⟩ ++ ⟨b.toArray⟩ : ByteArray) = ⟨(a ++ b).toArray⟩ := by
    apply ByteArray.ext
    simp
  have h4 : binOp .add t (encS a) (encS b) = pure (encS (a ++ b)) := by
    unfold encS
    rw [binOp_string_add]
    unfold Op.stringOp
    dsimp only
    rw [if_neg (by rw [h1, h2]; show ¬ ((a.length + b.length : Nat) : Int) > 9223372036854775807; omega), h3]
  have h5 : (eqGuard .add t x y (encS a) (encS b)).run Try.prog W = .ok () W := rfl
  unfold execOp
  simp only [ho, hx, hy, Sem.run_bind, h5, Result.andThen_ok, h4, Sem.run_pure]
def prLabel (x : LB) : Option (List UInt8) := if wordB x.1 = true then if wordB x.2 = true then some (x.1 ++ [61] ++ x.2) else none else none
theorem BoxL.c0 {W : World} {k : Nat} {a b : List UInt8} (h : BoxL W k a b) : W.cell? ⟨k, 0, none⟩ = some (encS a) := (cell_of_row _ k 0 _ _ _ h).trans rfl
theorem BoxL.c1 {W : World} {k : Nat} {a b : List UInt8} (h : BoxL W k a b) : W.cell? ⟨k, 1, none⟩ = some (encS b) := (cell_of_row _ k 1 _ _ _ h).trans rfl
theorem BoxT.c0 {W : World} {k : Nat} {a : List UInt8} {b : Value} (h : BoxT W k a b) : W.cell? ⟨k, 0, none⟩ = some (encS a) := (cell_of_row _ k 0 _ _ _ h).trans rfl
theorem BoxT.c1 {W : World} {k : Nat} {a : List UInt8} {b : Value} (h : BoxT W k a b) : W.cell? ⟨k, 1, none⟩ = some b := (cell_of_row _ k 1 _ _ _ h).trans rfl
theorem wordB_len {l : List UInt8} (h : wordB l = true) : l.length ≤ 24 ∧ 1 ≤ l.length := by
  unfold wordB at h
  simp only [Bool.and_eq_true, decide_eq_true_eq] at h
  exact ⟨h.1.2, h.1.1⟩

set_option maxRecDepth 100000 in
set_option maxHeartbeats 2000000 in
theorem printLabel_any (a b : List UInt8) (w : World) : Calls Try.prog 36 #[.agg (cellsL a b)] w (PrintPost w (prLabel (a, b))) := by
  have hX : BoxL (w.alloc (.cells (cellsL a b) 70 (0, 0))) w.heap.size a b := heap_alloc_new w _
  have hb : Below w.heap.size w (w.alloc (.cells (cellsL a b) 70 (0, 0))) := (Below.refl _ _).alloc (Nat.le_refl _) _
  have HF : Hid (BoxL (w.alloc (.cells (cellsL a b) 70 (0, 0))) w.heap.size a b ∧ Below w.heap.size w (w.alloc (.cells (cellsL a b) 70 (0, 0)))) := ⟨hX, hb⟩
  clear hX hb
  obtain ⟨R, hR⟩ : ∃ R, prLabel (a, b) = R := ⟨_, rfl⟩
  rw [hR]
  have HR := Lib.hid hR
  clear hR
  go_enter Try.func36, Try.ntmps36
  go_upto_region 1 with (fail)
  refine wp_gen (fun V => BoxL V w.heap.size a b ∧ Below w.heap.size w V) HF.out ?_
  clear HF
  rintro V ⟨hX, hb⟩
  have HX := Lib.hid hX
  have HB := Lib.hid hb
  have c0 := hX.c0
  clear hX hb
  go_wp2_with fail
  refine (word_enc a V).mono ?_
  rintro e W1 ⟨rfl, hb⟩
  replace HX := Lib.hid (HX.out.after hb)
  replace HB := Lib.hid (HB.out.trans (hb.mono HB.out.size))
  clear hb c0
  have c0 := HX.out.c0
  have c1 := HX.out.c1
  cases h1 : wordB a with
  | false =>
    have hN : R = none := by rw [← HR.out]; unfold prLabel; simp [h1]
    subst hN
    clear h1 HX c0 c1
    go_wp2
    go_ret2
    exact ⟨HB.out, rfl⟩
  | true =>
    have HZ1 := Lib.hid (wordB_len h1)
    have HW1 := Lib.hid h1
    clear h1
    go_wp2_with fail
    refine (word_enc b W1).mono ?_
    rintro e W2 ⟨rfl, hb⟩
    replace HX := Lib.hid (HX.out.after hb)
    replace HB := Lib.hid (HB.out.trans (hb.mono HB.out.size))
    clear hb c0 c1
    have c0 := HX.out.c0
    have c1 := HX.out.c1
    cases h2 : wordB b with
    | false =>
      have hN : R = none := by rw [← HR.out]; unfold prLabel; simp [HW1.out, h2]
      subst hN
      clear h2 HX c0 c1
      go_wp2
      go_ret2
      exact ⟨HB.out, rfl⟩
    | true =>
      have hN : R = some (a ++ [61] ++ b) := by rw [← HR.out]; unfold prLabel; simp [HW1.out, h2]
      have hz2 := wordB_len h2
      have hz1 := HZ1.out
      have hl1 : a.length + [(61 : UInt8)].length ≤ 1000000 := by simp; omega
      have hl2 : (a ++ [61]).length + b.length ≤ 1000000 := by simp; omega
      obtain ⟨p, hp⟩ : ∃ p, a ++ [61] = p := ⟨_, rfl⟩
      rw [hp] at hl2 hN
      obtain ⟨q, hq⟩ : ∃ q, p ++ b = q := ⟨_, rfl⟩
      rw [hq] at hN
      have HL1 := Lib.hid hl1
      have HL2 := Lib.hid hl2
      have HP := Lib.hid hp
      have HQ := Lib.hid hq
      clear h2 hl1 hl2 hz1 hz2 hp hq
      subst hN
      go_wp2_with (first | (refine wpList_known (v := encS p) rfl (exec_add a [61] HP.out rfl rfl rfl HL1.out) ?_) | (refine wpList_known (v := encS q) rfl (exec_add p b HQ.out rfl rfl rfl HL2.out) ?_))
      go_ret2
      exact ⟨HB.out, rfl⟩

/-- A term's text. -/
noncomputable def prTerm (t : List UInt8 × List (List UInt8)) : Option (List UInt8) :=
  if wordB t.1 = true then if t.2 = [] then none else (printAll rdWord keyWord 124 t.2).map fun s => t.1 ++ [61] ++ s else none
theorem printAll_len {l : List (List UInt8)} {s : List UInt8} (h : printAll rdWord keyWord 124 l = some s) : s.length ≤ 200 := by
  obtain ⟨hp, rfl⟩ := print_some _ _ h
  have key : ∀ k, k ≤ l.length → (joinB 124 (texts rdWord (l.take k))).length ≤ k * 25 := fun k => by
    induction k with
    | zero => intro _; simp [texts, joinB]
    | succ k ih =>
      intro hk
      have hs := hp.all.has k (by omega) (by omega)
      obtain ⟨s, hs⟩ := Option.isSome_iff_exists.1 hs
      have hz : s.length ≤ 24 := by
        unfold rdWord at hs
        split at hs
        · cases hs; exact (wordB_len ‹_›).1
        · cases hs
      have h0 := ih (by omega)
      rcases Nat.eq_zero_or_pos k with rfl | hpos
      · rw [join_first rdWord (by omega) hs, List.length_append]
        omega
      · rw [join_next rdWord (by omega) hpos hs, List.length_append, List.length_append]
        simp
        omega
  have := key l.length (Nat.le_refl _)
  rw [List.take_length] at this
  have := hp.len
  omega

set_option maxRecDepth 100000 in
set_option maxHeartbeats 2000000 in
theorem printTerm_any (a : List UInt8) (v : Value) (l : List (List UInt8)) (w : World) (hS : StrsIn w v l) : Calls Try.prog 31 #[.agg (cellsT a v)] w (PrintPost w (prTerm (a, l))) := by
  obtain ⟨vo, vc, rfl⟩ := hS.len
  have hX : BoxT (w.alloc (.cells (cellsT a (.slice vo l.length vc)) 60 (0, 0))) w.heap.size a (.slice vo l.length vc) := heap_alloc_new w _
  have hb : Below w.heap.size w (w.alloc (.cells (cellsT a (.slice vo l.length vc)) 60 (0, 0))) := (Below.refl _ _).alloc (Nat.le_refl _) _
  have HF : Hid (BoxT (w.alloc (.cells (cellsT a (.slice vo l.length vc)) 60 (0, 0))) w.heap.size a (.slice vo l.length vc) ∧ Below w.heap.size w (w.alloc (.cells (cellsT a (.slice vo l.length vc)) 60 (0, 0)))) := ⟨hX, hb⟩
  have HS := Lib.hid hS
  have hn := hS.slen
  clear hX hb hS
  obtain ⟨R, hR⟩ : ∃ R, prTerm (a, l) = R := ⟨_, rfl⟩
  rw [hR]
  have HR := Lib.hid hR
  clear hR
  obtain ⟨N, hN⟩ : ∃ N, N = l.length := ⟨_, rfl⟩
  rw [← hN] at HF HS hn ⊢
  have HN := Lib.hid hN
  clear hN
  go_enter Try.func31, Try.ntmps31
  go_upto_region 1 with (fail)
  refine wp_gen (fun V => BoxT V w.heap.size a (.slice vo N vc) ∧ Below w.heap.size w V) HF.out ?_
  clear HF
  rintro V ⟨hX, hb⟩
  have HX := Lib.hid hX
  have HB := Lib.hid hb
  have c0 := hX.c0
  clear hX hb
  go_wp2_with fail
  refine (word_enc a V).mono ?_
  rintro e W1 ⟨rfl, hb⟩
  replace HX := Lib.hid (HX.out.after hb)
  replace HB := Lib.hid (HB.out.trans (hb.mono HB.out.size))
  clear hb c0
  have c0 := HX.out.c0
  have c1 := HX.out.c1
  cases h1 : wordB a with
  | false =>
    have hN : R = none := by rw [← HR.out]; unfold prTerm; simp [h1]
    subst hN
    clear h1 HX c0 c1
    go_wp2
    go_ret2
    exact ⟨HB.out, rfl⟩
  | true =>
    have HZ1 := Lib.hid (wordB_len h1)
    have HW1 := Lib.hid h1
    clear h1
    by_cases h0 : N = 0
    · have hN : R = none := by
        have : l = [] := List.length_eq_zero_iff.1 (by rw [← HN.out]; exact h0)
        rw [← HR.out]; unfold prTerm; simp [this]
      subst hN
      subst h0
      clear HX
      go_wp2
      go_ret2
      exact ⟨HB.out, rfl⟩
    · have hne : l ≠ [] := fun e => h0 (by rw [HN.out, e]; rfl)
      have HT : Hid (R = (printAll rdWord keyWord 124 l).map fun s => a ++ [61] ++ s) := by
        show _ = _
        rw [← HR.out]; unfold prTerm; simp [HW1.out, hne]
      have h0i : ¬ (N : Int) = 0 := by omega
      clear hne
      go_wp2_with fail
      refine (printS_any (.slice vo N vc) l 124 (by decide) W1 (HS.out.after HB.out)).mono ?_
      rintro e W2 ⟨hb, he⟩
      replace HX := Lib.hid (HX.out.after hb)
      replace HB := Lib.hid (HB.out.trans (hb.mono HB.out.size))
      clear hb c0 c1
      have c0 := HX.out.c0
      cases hp : printAll rdWord keyWord 124 l with
      | none =>
        rw [hp] at he
        obtain rfl := he
        have hN : R = none := by rw [HT.out, hp]; rfl
        subst hN
        clear hp HX c0
        go_wp2
        go_ret2
        exact ⟨HB.out, rfl⟩
      | some s =>
        rw [hp] at he
        obtain rfl := he
        have hz2 := printAll_len hp
        have hN : R = some (a ++ [61] ++ s) := by rw [HT.out, hp]; rfl
        have hz1 := HZ1.out
        have hl1 : a.length + [(61 : UInt8)].length ≤ 1000000 := by simp; omega
        have hl2 : (a ++ [61]).length + s.length ≤ 1000000 := by simp; omega
        obtain ⟨p, hp2⟩ : ∃ p, a ++ [61] = p := ⟨_, rfl⟩
        rw [hp2] at hl2 hN
        obtain ⟨q, hq⟩ : ∃ q, p ++ s = q := ⟨_, rfl⟩
        rw [hq] at hN
        have HL1 := Lib.hid hl1
        have HL2 := Lib.hid hl2
        have HP := Lib.hid hp2
        have HQ := Lib.hid hq
        clear hp hl1 hl2 hz1 hz2 hp2 hq
        subst hN
        go_wp2_with (first | (refine wpList_known (v := encS p) rfl (exec_add a [61] HP.out rfl rfl rfl HL1.out) ?_) | (refine wpList_known (v := encS q) rfl (exec_add p s HQ.out rfl rfl rfl HL2.out) ?_))
        go_ret2
        exact ⟨HB.out, rfl⟩
end Go.Proofs.Ytneogmcmkbhnaaa.T
