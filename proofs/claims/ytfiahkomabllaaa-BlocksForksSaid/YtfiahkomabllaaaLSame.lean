/- Rows of bytes, wherever they lie: are two the same; is one the beginning of another? -/
import Derived.Test.YtfiahkomabllaaaLNone
namespace Go.Proofs.Ytfiahkomabllaaa.L
open Go Go.RowKit
open Go.Lib

/-- An element of a row of bytes. -/
def ElAt (W : World) (g k : Nat) (x : Value) (l : Bytes) : Prop := g < W.heap.size ∧ W.cell? ⟨g, k, none⟩ = some x ∧ BytesIn W x l
theorem ElAt.after {W W' : World} {g k : Nat} {x : Value} {l : Bytes} (h : ElAt W g k x l) (hb : Below W.heap.size W W') : ElAt W' g k x l :=
  ⟨Nat.lt_of_lt_of_le h.1 hb.size, (hb.cell (p := ⟨g, k, none⟩) h.1).trans h.2.1, h.2.2.after hb⟩
/-- Rows of bytes. -/
def RowsAt (W : World) (a : Option Addr) (c : Nat) (A : List Bytes) : Prop :=
  A.length ≤ c ∧ c ≤ maxLen ∧ ((a = none ∧ A = []) ∨ ∃ g off, a = some ⟨g, off, none⟩ ∧ ∃ xs : Nat → Value, ∀ i (h : i < A.length), ElAt W g (off + i) (xs i) A[i])
theorem RowsAt.after {W W' : World} {a : Option Addr} {c : Nat} {A : List Bytes} (h : RowsAt W a c A) (hb : Below W.heap.size W W') : RowsAt W' a c A := by
  obtain ⟨h1, h2, h3⟩ := h
  refine ⟨h1, h2, ?_⟩
  rcases h3 with h3 | ⟨g, off, e, xs, h4⟩
  · exact .inl h3
  · exact .inr ⟨g, off, e, xs, fun i hi => (h4 i hi).after hb⟩
theorem RowsAt.at {W : World} {a : Option Addr} {c : Nat} {A : List Bytes} (h : RowsAt W a c A) {i : Nat} (hi : i < A.length) : ∃ g off x, a = some ⟨g, off, none⟩ ∧ ElAt W g (off + i) x A[i] := by
  obtain ⟨-, -, h3⟩ := h
  rcases h3 with ⟨-, rfl⟩ | ⟨g, off, e, xs, h4⟩
  · simp at hi
  · exact ⟨g, off, xs i, e, h4 i hi⟩
theorem RowsAt.of_recs {W : World} {B : Nat} {v : Value} {A : List Bytes} (h : RecsIn W B v A) : ∃ a c, v = .slice a A.length c ∧ RowsAt W a c A := by
  obtain ⟨xs, rfl, h1, h2⟩ := h
  have hcells := fun g (hg : v.ownBlock = some g) => World.ownsRow.cells (g := g) h1 hg
  rcases h1.2 with ⟨rfl, h0⟩ | ⟨g, cap, cur, rfl, -, hg, hnc, hcm, -⟩
  · rw [List.length_map] at h0
    obtain rfl : xs = [] := List.length_eq_zero_iff.1 h0
    exact ⟨none, 0, rfl, Nat.le_refl _, Nat.zero_le _, .inl ⟨rfl, rfl⟩⟩
  · rw [List.length_map] at hnc ⊢
    refine ⟨some ⟨g, 0, none⟩, cap, by rw [List.length_map], by rw [List.length_map]; exact hnc, hcm, .inr ⟨g, 0, rfl, fun i => (xs.map (·.1)).getD i default, fun i hi => ?_⟩⟩
    rw [List.length_map] at hi
    have e : (xs.map (·.1)).getD i default = xs[i].1 := by rw [List.getD_eq_getElem?_getD, List.getElem?_map, List.getElem?_eq_getElem hi]; rfl
    have := hcells g rfl i xs[i].1 (by rw [List.getElem?_map, List.getElem?_eq_getElem hi]; rfl)
    rw [add_lit'] at this
    have e2 : ElAt W g (0 + i) xs[i].1 (xs.map (·.2))[i] := by
      refine ⟨(Array.getElem?_eq_some_iff.1 hg).1, this, ?_⟩
      rw [List.getElem_map]
      exact (h2 xs[i] (List.getElem_mem hi)).bytes
    rw [← e] at e2
    exact e2
theorem RowsAt.head {W : World} {a : Option Addr} {c : Nat} {A : List Bytes} (h : RowsAt W a c A) {n : Nat} (hn : n ≤ A.length) : RowsAt W a c (A.take n) := by
  obtain ⟨h1, h2, h3⟩ := h
  refine ⟨by rw [List.length_take]; omega, h2, ?_⟩
  rcases h3 with ⟨h3, rfl⟩ | ⟨g, off, e, xs, h4⟩
  · exact .inl ⟨h3, by simp⟩
  · refine .inr ⟨g, off, e, xs, fun i hi => ?_⟩
    rw [List.length_take] at hi
    rw [List.getElem_take]
    exact h4 i (by omega)
theorem sizeRow (w : World) : (sizeOf (Try.prog.elem tRs)).run Try.prog w = .ok 1 w := by kernel_rfl
theorem sliceRow : Try.prog.underlying tRs = some (.slice (Try.prog.elem tRs)) := by kernel_rfl
theorem run_head {a : Option Addr} {k c n : Nat} (hn : n ≤ c) (ha : ∀ x, a = some x → x.spot = none) (w : World) : (Instr.slice tRs (.slice a k c) none (some (.int .i64 (n : Nat))) none).run Try.prog w = .ok (.slice a n c) w := by
  rw [run_slice_h w tRs a k c sliceRow .i64 n (by omega) (by omega), sizeRow]
  cases a with
  | none => simp [Result.andThen, sliced]
  | some x =>
    obtain ⟨g, off, sp⟩ := x
    obtain rfl : sp = none := ha _ rfl
    simp [Result.andThen, sliced, add_zero']
theorem strs_eq {a b : Bytes} : (⟨a.toArray⟩ : ByteArray) = ⟨b.toArray⟩ ↔ a = b := by
  constructor
  · intro h
    have h2 : a.toArray = b.toArray := congrArg ByteArray.data h
    simpa using congrArg Array.toList h2
  · rintro rfl
    rfl
theorem ba_beq (r s : Bytes) : ((⟨r.toArray⟩ : ByteArray) == ⟨s.toArray⟩) = (r == s) := by
  show (r.toArray == s.toArray) = _
  simp
theorem exec_neq_str {W : World} {r s : Bytes} {v : Bool} {oi : Oper} {a : Act} {x y : Operand} {t : TypeId} (ho : oi.op = .binOp .neq 9 x y t) (hx : a.eval x = .string ⟨r.toArray⟩) (hy : a.eval y = .string ⟨s.toArray⟩) (hv : (!decide (r = s)) = v) :
    (execOp a.eval oi).run Try.prog W = .ok (.value (.bool v)) W := by
  subst hv
  unfold execOp
  simp only [ho, hx, hy]
  go_simp
  exact Bool.eq_iff_iff.2 (by simp)
theorem exec_eql_str {W : World} {r s : Bytes} {v : Bool} {oi : Oper} {a : Act} {x y : Operand} {t : TypeId} (ho : oi.op = .binOp .eql 9 x y t) (hx : a.eval x = .string ⟨r.toArray⟩) (hy : a.eval y = .string ⟨s.toArray⟩) (hv : decide (r = s) = v) :
    (execOp a.eval oi).run Try.prog W = .ok (.value (.bool v)) W := by
  subst hv
  unfold execOp
  simp only [ho, hx, hy]
  go_simp
  exact Bool.eq_iff_iff.2 (by simp)
/-- Bytes that become a text. -/
theorem exec_str {W : World} {v : Value} {l : Bytes} (h : BytesIn W v l) {oi : Oper} {a : Act} {x : Operand} (ho : oi.op = .convert tR 9 x) (hx : a.eval x = v) :
    (execOp a.eval oi).run Try.prog W = .ok (.value (.string ⟨l.toArray⟩)) W := by
  unfold execOp
  simp only [ho, hx, Sem.run_bind, h.str 9 Try.underlying9, Result.andThen_ok, Sem.run_pure]
theorem exec_el {W : World} {g k : Nat} {v : Value} {l : Bytes} (h : ElAt W g k v l) {oi : Oper} {a : Act} {x : Operand} (ho : oi.op = .load tR x) (hx : a.eval x = .pointer (some ⟨g, k, none⟩)) (hs : ∃ p n c, v = .slice p n c) :
    (execOp a.eval oi).run Try.prog W = .ok (.value v) W := by
  obtain ⟨p, n, c, rfl⟩ := hs
  have hc := h.2.1
  unfold execOp
  simp only [ho, hx]
  first | (go_simp; rfl) | (go_simp; done)
theorem take_step {A B : List Bytes} {i : Nat} (hA : i < A.length) (hB : i < B.length) (h : A.take i = B.take i) (e : A[i] = B[i]) : A.take (i + 1) = B.take (i + 1) := by
  rw [List.take_add_one, List.take_add_one, h, List.getElem?_eq_getElem hA, List.getElem?_eq_getElem hB, e]
set_option maxRecDepth 100000 in
set_option maxHeartbeats 400000 in
theorem same_any (a1 a2 : Option Addr) (c1 c2 : Nat) (A B : List Bytes) (w : World) (h1 : RowsAt w a1 c1 A) (h2 : RowsAt w a2 c2 B) :
    Calls Try.prog 23 #[.slice a1 A.length c1, .slice a2 B.length c2] w fun e w' => e = .returned (.bool (decide (A = B))) ∧ Below w.heap.size w w' := by
  have hm : maxLen = 9223372036854775807 := rfl
  have hsm : A.length ≤ 9223372036854775807 := by have := h1.1; have := h1.2.1; omega
  have HV1 := Lib.hid h1
  have HV2 := Lib.hid h2
  clear h1 h2
  by_cases hk : A.length = B.length
  · have HK := Lib.hid hk
    obtain ⟨n, hn⟩ : ∃ n, n = A.length := ⟨_, rfl⟩
    have HN := Lib.hid hn
    rw [← hk, ← hn]
    rw [← hn] at hsm
    clear hk hn
    go_enter Try.func23, Try.ntmps23
    go_wp2
    go_loopw [5] (fun iv wr => ∃ i : Nat, i ≤ n ∧ iv = .int .i64 (i : Int) ∧ Below w.heap.size w wr ∧ A.take i = B.take i) (fun iv _ => n - (RowKit.intOf iv).toNat)
    case atStart => exact ⟨0, Nat.zero_le _, rfl, Below.refl _ _, by simp⟩
    case round =>
      obtain ⟨i, hi, rfl, hB, hE⟩ := hrel
      have HB := Lib.hid hB
      have HE := Lib.hid hE
      clear hB hE
      by_cases hp : i < n
      · have hp' : (i : Int) < (n : Int) := by omega
        have HiA : Hid (i < A.length) := by have := HN.out; show i < A.length; omega
        have HiB : Hid (i < B.length) := by have := HN.out; have := HK.out; show i < B.length; omega
        obtain ⟨g1, o1, x1, he1, hA1⟩ := (HV1.out.after HB.out).at HiA.out
        obtain ⟨g2, o2, x2, he2, hA2⟩ := (HV2.out.after HB.out).at HiB.out
        subst he1 he2
        obtain ⟨l1, hl1⟩ : ∃ l, A[i]'HiA.out = l := ⟨_, rfl⟩
        obtain ⟨l2, hl2⟩ : ∃ l, B[i]'HiB.out = l := ⟨_, rfl⟩
        have HX1 := Lib.hid (hA1.2.2.shape)
        have HX2 := Lib.hid (hA2.2.2.shape)
        rw [hl1] at hA1
        rw [hl2] at hA2
        have HC1 := Lib.hid hA1
        have HC2 := Lib.hid hA2
        have HL1 := Lib.hid hl1
        have HL2 := Lib.hid hl2
        clear hA1 hA2 hl1 hl2
        obtain ⟨bb, hbb⟩ : ∃ bb, bb = decide (l1 = l2) := ⟨_, rfl⟩
        have HBB := Lib.hid hbb
        clear hbb
        go_wp2
        refine wp_region_held_drew (S := fun V => Below w.heap.size w V ∧ ElAt V g1 (o1 + i) x1 l1 ∧ ElAt V g2 (o2 + i) x2 l2) (by kernel_rfl) ⟨HB.out.drew, HC1.out, HC2.out⟩ (fun _ => ?_)
        refine HeldBy.gen (fun V => Below w.heap.size w V ∧ ElAt V g1 (o1 + i) x1 l1 ∧ ElAt V g2 (o2 + i) x2 l2) ⟨HB.out.drew, HC1.out, HC2.out⟩ ?_
        clear HB HC1 HC2
        rintro U0 HS
        refine HeldBy.take (i := 0) rfl (by kernel_rfl) (by kernel_rfl) (by kernel_rfl) (fun _ _ _ h => h) (by rfl) (fun _ _ => by first | (go_simp; rfl) | (go_simp; done)) (by go_simp; rfl) HS ?_
        refine HeldBy.take (i := 1) rfl (by kernel_rfl) (by kernel_rfl) (by kernel_rfl) (fun _ _ _ h => h) (by rfl) (fun _ _ => by first | (go_simp; rfl) | (go_simp; done)) (by go_simp; rfl) HS ?_
        refine HeldBy.take (i := 2) rfl (by kernel_rfl) (by kernel_rfl) (by kernel_rfl) (fun _ _ _ h => h) (by rfl) (fun _ _ => by first | (go_simp; rfl) | (go_simp; done)) (by go_simp; rfl) HS ?_
        refine HeldBy.take (i := 3) (v := x1) rfl (by kernel_rfl) (by kernel_rfl) (by kernel_rfl) (fun _ _ _ h => h) (by rfl) (fun V hV => exec_el hV.2.1 rfl rfl HX1.out) (by go_simp; rfl) HS ?_
        refine HeldBy.take (i := 4) (v := .string ⟨l1.toArray⟩) rfl (by kernel_rfl) (by kernel_rfl) (by kernel_rfl) (fun _ _ _ h => h) (by rfl) (fun V hV => exec_str hV.2.1.2.2 rfl rfl) (by go_simp; rfl) HS ?_
        refine HeldBy.take (i := 5) rfl (by kernel_rfl) (by kernel_rfl) (by kernel_rfl) (fun _ _ _ h => h) (by rfl) (fun _ _ => by first | (go_simp; rfl) | (go_simp; done)) (by go_simp; rfl) HS ?_
        refine HeldBy.take (i := 6) rfl (by kernel_rfl) (by kernel_rfl) (by kernel_rfl) (fun _ _ _ h => h) (by rfl) (fun _ _ => by first | (go_simp; rfl) | (go_simp; done)) (by go_simp; rfl) HS ?_
        refine HeldBy.take (i := 7) rfl (by kernel_rfl) (by kernel_rfl) (by kernel_rfl) (fun _ _ _ h => h) (by rfl) (fun _ _ => by first | (go_simp; rfl) | (go_simp; done)) (by go_simp; rfl) HS ?_
        refine HeldBy.take (i := 8) (v := x2) rfl (by kernel_rfl) (by kernel_rfl) (by kernel_rfl) (fun _ _ _ h => h) (by rfl) (fun V hV => exec_el hV.2.2 rfl rfl HX2.out) (by go_simp; rfl) HS ?_
        refine HeldBy.take (i := 9) (v := .string ⟨l2.toArray⟩) rfl (by kernel_rfl) (by kernel_rfl) (by kernel_rfl) (fun _ _ _ h => h) (by rfl) (fun V hV => exec_str hV.2.2.2.2 rfl rfl) (by go_simp; rfl) HS ?_
        refine HeldBy.take (i := 10) (v := .bool (!bb)) rfl (by kernel_rfl) (by kernel_rfl) (by kernel_rfl) (fun _ _ _ h => h) (by rfl) (fun V hV => exec_neq_str rfl rfl rfl (by rw [HBB.out])) (by go_simp; rfl) HS ?_
        refine wpAnyH_done (by kernel_rfl) ?_ _
        have HBN : Hid (Below w.heap.size w U0) := HS.1
        clear HS
        cases bb with
        | true =>
          have HE2 : Hid (A.take (i + 1) = B.take (i + 1)) := take_step HiA.out HiB.out HE.out (by rw [HL1.out, HL2.out]; exact of_decide_eq_true HBB.out.symm)
          go_wp2
          exact ⟨⟨i + 1, by omega, by go_num, HBN.out, HE2.out⟩, by simp [RowKit.intOf]; omega⟩
        | false =>
          have HQ : Hid (decide (A = B) = false) := decide_eq_false fun e => of_decide_eq_false HBB.out.symm (by rw [← HL1.out, ← HL2.out]; subst e; rfl)
          go_wp2
          go_ret
          exact ⟨by rw [HQ.out]; rfl, HBN.out⟩
      · have hp' : ¬ (i : Int) < (n : Int) := by omega
        obtain rfl : i = n := by omega
        have HQ : Hid (decide (A = B) = true) := by
          have h0 := HE.out
          have h1 := HN.out
          have h2 := HK.out
          rw [List.take_of_length_le (by omega), List.take_of_length_le (by omega)] at h0
          exact decide_eq_true h0
        go_wp2
        go_ret
        exact ⟨by rw [HQ.out]; rfl, HB.out⟩
  · have hk' : ¬ (A.length : Int) = (B.length : Int) := by omega
    have HQ : Hid (decide (A = B) = false) := decide_eq_false fun e => hk (by rw [e])
    go_enter Try.func23, Try.ntmps23
    go_wp2
    go_ret
    exact ⟨by rw [HQ.out]; rfl, Below.refl _ _⟩
set_option maxRecDepth 100000 in
set_option maxHeartbeats 400000 in
theorem begins_any (a1 a2 : Option Addr) (c1 c2 : Nat) (A B : List Bytes) (w : World) (h1 : RowsAt w a1 c1 A) (h2 : RowsAt w a2 c2 B) :
    Calls Try.prog 24 #[.slice a1 A.length c1, .slice a2 B.length c2] w fun e w' => e = .returned (.bool (decide (A = B.take A.length))) ∧ Below w.heap.size w w' := by
  have hm : maxLen = 9223372036854775807 := rfl
  have hsA : A.length ≤ 9223372036854775807 := by have := h1.1; have := h1.2.1; omega
  have hsB : B.length ≤ c2 := h2.1
  have hc2 : c2 ≤ 9223372036854775807 := h2.2.1
  by_cases hk : A.length ≤ B.length
  · have hk' : (A.length : Int) ≤ (B.length : Int) := by omega
    have HSM := Lib.hid (same_any a1 a2 c1 c2 A (B.take A.length) w h1 (h2.head hk))
    have hl : (B.take A.length).length = A.length := by rw [List.length_take]; omega
    rw [hl] at HSM
    have hs : ∀ w, (Instr.slice tRs (.slice a2 B.length c2) none (some (.int .i64 (A.length : Int))) none).run Try.prog w = .ok (.slice a2 A.length c2) w := fun w => run_head (by omega) (fun x e => by
      rcases h2.2.2 with ⟨h, -⟩ | ⟨g, off, h, -⟩
      · rw [h] at e; cases e
      · rw [h] at e; cases e; rfl) w
    clear h1 h2 hl
    go_enter Try.func24, Try.ntmps24
    go_wp2_with (go_at_call 23; refine HSM.out.mono ?_; rintro e w' ⟨rfl, hb⟩)
    go_ret
    exact ⟨rfl, hb⟩
  · have hk' : ¬ (A.length : Int) ≤ (B.length : Int) := by omega
    have HQ : Hid (decide (A = B.take A.length) = false) := decide_eq_false fun e => hk (by have := congrArg List.length e; rw [List.length_take] at this; omega)
    clear h1 h2
    go_enter Try.func24, Try.ntmps24
    go_wp2
    go_ret
    exact ⟨by rw [HQ.out]; rfl, Below.refl _ _⟩
end Go.Proofs.Ytfiahkomabllaaa.L
