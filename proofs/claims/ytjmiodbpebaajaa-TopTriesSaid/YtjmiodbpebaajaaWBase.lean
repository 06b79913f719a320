/- Queues in memory; delays, times, lengths. -/
import Derived.Test.YtjmiodbpebaajaaWPlain
import Derived.Test.YtjmiodbpebaajaaHeldBy
import Derived.Laws.AppendOwn
import Derived.Outline
import Derived.Deep.Cut
import Derived.OwnWalk
import Derived.Laws.Tables
import Derived.BigQuiet
import Derived.Deep.QuietTactic
import Derived.Great.BuildSlice
namespace Go.Proofs.Ytjmiodbpebaajaa.W
open Go Go.RowKit KM

abbrev tU : TypeId := 62
abbrev tI : TypeId := 63
theorem und_tU : Try.prog.underlying tU = some (.map 25 32) := Try.underlying62
theorem und_tI : Try.prog.underlying tI = some (.map 25 3) := Try.underlying63
theorem zero_u (w : World) : (zeroValue 32).run Try.prog w = .ok (.int .u64 0) w := by kernel_rfl
theorem zero_i (w : World) : (zeroValue 3).run Try.prog w = .ok (.int .i64 0) w := by kernel_rfl

def QAt (W : World) (q : Nat) (sl : Value) (bd bf : Nat) : Prop := W.heap[q]? = some (.cells #[sl, .map (some bd), .map (some bf)] 65 (0, 0))
def KAt (W : World) (b : Nat) (k : Ky) : Prop := W.heap[b]? = some (.cells #[.int .u8 k.k, .string k.n] 25 (0, 0))
section
variable {W W' : World} {q b : Nat} {sl : Value} {bd bf : Nat} {k : Ky}
theorem QAt.lt (h : QAt W q sl bd bf) : q < W.heap.size := (Array.getElem?_eq_some_iff.1 h).1
theorem QAt.c0 (h : QAt W q sl bd bf) : W.cell? ⟨q, 0, none⟩ = some sl := (cell_of_row W q 0 _ _ _ h).trans rfl
theorem QAt.c1 (h : QAt W q sl bd bf) : W.cell? ⟨q, 1, none⟩ = some (.map (some bd)) := (cell_of_row W q 1 _ _ _ h).trans rfl
theorem QAt.c2 (h : QAt W q sl bd bf) : W.cell? ⟨q, 2, none⟩ = some (.map (some bf)) := (cell_of_row W q 2 _ _ _ h).trans rfl
theorem QAt.free (h : QAt W q sl bd bf) (i : Nat) : W.frozen? ⟨q, i, none⟩ = false := frozen_of_row W q i _ _ h
theorem QAt.of_heap (h : QAt W q sl bd bf) (he : W'.heap[q]? = W.heap[q]?) : QAt W' q sl bd bf := he.trans h
theorem QAt.after (h : QAt W q sl bd bf) (hb : Below W.heap.size W W') : QAt W' q sl bd bf := h.of_heap (hb.block q h.lt)
theorem QAt.s0 (h : QAt W q sl bd bf) (v : Value) : QAt (W.setCell ⟨q, 0, none⟩ v) q v bd bf := (heap_setCell_same W q 0 _ _ v h).trans rfl
theorem KAt.lt (h : KAt W b k) : b < W.heap.size := (Array.getElem?_eq_some_iff.1 h).1
theorem KAt.c0 (h : KAt W b k) : W.cell? ⟨b, 0, none⟩ = some (.int .u8 k.k) := (cell_of_row W b 0 _ _ _ h).trans rfl
theorem KAt.c1 (h : KAt W b k) : W.cell? ⟨b, 1, none⟩ = some (.string k.n) := (cell_of_row W b 1 _ _ _ h).trans rfl
theorem KAt.of_heap (h : KAt W b k) (he : W'.heap[b]? = W.heap[b]?) : KAt W' b k := he.trans h
theorem KAt.after (h : KAt W b k) (hb : Below W.heap.size W W') : KAt W' b k := h.of_heap (hb.block b h.lt)
end

theorem exec_lookup_ok {W : World} {oi : Oper} {a : Act} {p r : Operand} {t e : TypeId} {b : Nat} {m : List (Ky × Value)} {k : Ky} {v : Value} (ho : oi.op = .lookup t p r true) (ht : Try.prog.underlying t = some (.map 25 e)) (hm : a.eval p = .map (some b)) (hk : a.eval r = encK k)
    (h : IsMap encK W b m) (hv : KM.get k m = some v) : (execOp a.eval oi).run Try.prog W = .ok (.value (.tuple #[v, .bool true])) W := by
  unfold execOp
  simp [ho, hm, hk, run_lookup_ok keyT ht h k hv, Result.andThen]
theorem exec_lookup_no {W : World} {oi : Oper} {a : Act} {p r : Operand} {t e : TypeId} {b : Nat} {m : List (Ky × Value)} {k : Ky} {z : Value} (ho : oi.op = .lookup t p r true) (ht : Try.prog.underlying t = some (.map 25 e)) (hz : ∀ w, (zeroValue e).run Try.prog w = .ok z w) (hm : a.eval p = .map (some b)) (hk : a.eval r = encK k)
    (h : IsMap encK W b m) (hv : KM.get k m = none) : (execOp a.eval oi).run Try.prog W = .ok (.value (.tuple #[z, .bool false])) W := by
  unfold execOp
  simp [ho, hm, hk, run_lookup_no keyT ht (hz W) h k hv, Result.andThen]
theorem exec_lookup1_ok {W : World} {oi : Oper} {a : Act} {p r : Operand} {t e : TypeId} {b : Nat} {m : List (Ky × Value)} {k : Ky} {v : Value} (ho : oi.op = .lookup t p r false) (ht : Try.prog.underlying t = some (.map 25 e)) (hm : a.eval p = .map (some b)) (hk : a.eval r = encK k)
    (h : IsMap encK W b m) (hv : KM.get k m = some v) : (execOp a.eval oi).run Try.prog W = .ok (.value v) W := by
  unfold execOp
  simp [ho, hm, hk, run_lookup1_ok keyT ht h k hv, Result.andThen]
theorem exec_lookup1_no {W : World} {oi : Oper} {a : Act} {p r : Operand} {t e : TypeId} {b : Nat} {m : List (Ky × Value)} {k : Ky} {z : Value} (ho : oi.op = .lookup t p r false) (ht : Try.prog.underlying t = some (.map 25 e)) (hz : ∀ w, (zeroValue e).run Try.prog w = .ok z w) (hm : a.eval p = .map (some b)) (hk : a.eval r = encK k)
    (h : IsMap encK W b m) (hv : KM.get k m = none) : (execOp a.eval oi).run Try.prog W = .ok (.value z) W := by
  unfold execOp
  simp [ho, hm, hk, run_lookup1_no keyT ht (hz W) h k hv, Result.andThen]
theorem exec_update {W : World} {b : Nat} {m : List (Ky × Value)} (h : IsMap encK W b m) (k : Ky) (v : Value) {t e : TypeId} (ht : Try.prog.underlying t = some (.map 25 e)) :
    ∃ W', (∀ {oi : Oper} {a : Act} {p r s : Operand}, oi.op = .mapUpdate t p r s → a.eval p = .map (some b) → a.eval r = encK k → a.eval s = v → (execOp a.eval oi).run Try.prog W = .ok .skip W') ∧ IsMap encK W' b (KM.put k v m) ∧ Turned W W' b := by
  obtain ⟨W', h1, h2, h3⟩ := run_update keyT ht h k v
  refine ⟨W', fun ho hm hk hv => ?_, h2, h3⟩
  unfold execOp
  simp [ho, hm, hk, hv, h1, Result.andThen]

theorem len_any (q : Nat) (sl : Value) (n : Nat) (bd bf : Nat) (w : World) (h : QAt w q sl bd bf) (hn : sl = .slice none 0 0 ∧ n = 0 ∨ ∃ a c, sl = .slice (some a) n c) :
    Calls Try.prog 21 #[.pointer (some ⟨q, 0, none⟩)] w fun e w' => e = .returned (.int .i64 (n : Int)) ∧ w = w' := by
  have c0 := h.c0
  clear h
  rcases hn with ⟨rfl, rfl⟩ | ⟨a, c, rfl⟩
  all_goals
    go_enter Try.func21, Try.ntmps21
    go_wp2
    go_ret
    exact ⟨rfl, rfl⟩
theorem delay_any (f : Int) (w : World) (h0 : -9223372036854775808 ≤ f) (h1 : f ≤ 9223372036854775807) :
    Calls Try.prog 15 #[.int .i64 f] w fun e w' => e = .returned (.int .u64 (delayN f)) ∧ w = w' := by
  have hc : f ≤ 0 ∨ f = 1 ∨ f = 2 ∨ f = 3 ∨ f = 4 ∨ f = 5 ∨ f = 6 ∨ f = 7 ∨ 8 ≤ f := by omega
  rcases hc with h | rfl | rfl | rfl | rfl | rfl | rfl | rfl | h
  · have hd : delayN f = 0 := by unfold delayN; rw [if_pos h]
    rw [hd]
    clear hd
    go_enter Try.func15, Try.ntmps15
    go_wp2
    go_ret
    exact ⟨rfl, rfl⟩
  any_goals
    go_enter Try.func15, Try.ntmps15
    go_wp2
    go_ret
    exact ⟨rfl, rfl⟩
  · have hd : delayN f = 64 := by
      unfold delayN
      rw [if_neg (by omega), show min (f - 1) 6 = 6 by omega]
      rfl
    rw [hd]
    clear hd
    have hlt : 6 < f - 1 := by omega
    have hle : ¬ (f - 1 ≤ 6) := by omega
    go_enter Try.func15, Try.ntmps15
    go_wp2
    go_ret
    exact ⟨rfl, rfl⟩
theorem later_any (n d : Int) (w : World) (hn : 0 ≤ n ∧ n ≤ 18446744073709551615) (hd : 0 ≤ d ∧ d ≤ 64) :
    Calls Try.prog 46 #[.int .u64 n, .int .u64 d] w fun e w' => e = .returned (.int .u64 (n + min d (18446744073709551615 - n))) ∧ w = w' := by
  obtain ⟨hn0, hn1⟩ := hn
  obtain ⟨hd0, hd1⟩ := hd
  by_cases h : d ≤ 18446744073709551615 - n
  · rw [show min d (18446744073709551615 - n) = d by omega]
    go_enter Try.func46, Try.ntmps46
    go_wp2
    go_ret
    exact ⟨rfl, rfl⟩
  · rw [show min d (18446744073709551615 - n) = 18446744073709551615 - n by omega]
    have h' : 18446744073709551615 - n < d := by omega
    go_enter Try.func46, Try.ntmps46
    go_wp2
    go_ret
    exact ⟨rfl, rfl⟩
end Go.Proofs.Ytjmiodbpebaajaa.W
