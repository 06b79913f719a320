/- What comes in: deeds. -/
import Derived.Test.YtfiahkomabllaaaRDo
import Derived.Deep.MidRow
namespace Go.Proofs.Ytfiahkomabllaaa.L
open Go.ChangeShapes Go.WideShapes Go.RowKit Go.Deep

/-- Deeds as they lie. -/
def DeedsAt (W : World) (a : Option Addr) (m : Nat) : Prop := ∀ i, i < m → ∃ g off kd kp tn sv l, a = some ⟨g, off, none⟩ ∧ g < W.heap.size ∧ W.rangeAt g (off + i * 4) [.int .i64 kd, .int .i64 kp, .int .i64 tn, sv] ∧ ArgB W sv l
theorem DeedsAt.after {W W' : World} {a : Option Addr} {m : Nat} (h : DeedsAt W a m) (hb : Below W.heap.size W W') : DeedsAt W' a m := fun i hi => by
  obtain ⟨g, off, kd, kp, tn, sv, l, h1, h2, h3, h4⟩ := h i hi
  exact ⟨g, off, kd, kp, tn, sv, l, h1, Nat.lt_of_lt_of_le h2 hb.size, fun j u hu => (hb.cell (p := ⟨g, off + i * 4 + j, none⟩) h2).trans (h3 j u hu), h4.after hb⟩
section
variable {H : Type} {enc : TypeId × Value → H} {w : World} {base : Nat} {spare : Nat → Bool} {held : Bool}
set_option maxRecDepth 100000 in
theorem deed_of_trod {fuel : Nat} {l : List Value} {x : DataW H × List MemPlace} (hf : DataW.trod enc Try.prog w base spare held fuel tD l = some x) (hl0 : l.length = 4) :
    ∃ kd kp tn sv b, l = [.int .i64 kd, .int .i64 kp, .int .i64 tn, sv] ∧ ArgB w sv b := by
  obtain ⟨xs, n, -, hx, -, hlen, hg⟩ := DataW.trod_struct deedUnd hf
  obtain ⟨u0, l0, rfl, hl1⟩ := list_cons' hl0
  obtain ⟨u1, l1, rfl, hl2⟩ := list_cons' hl1
  obtain ⟨u2, l2, rfl, hl3⟩ := list_cons' hl2
  obtain ⟨u3, l3, rfl, hl4⟩ := list_cons' hl3
  obtain rfl := list_nil' hl4
  obtain ⟨f0, hf0, ht0⟩ := type_at deedF0
  obtain ⟨y0, -, hr0⟩ := field_at' deedOne hlen hg 0 f0 hf0 u0 rfl
  rw [ht0] at hr0
  obtain ⟨x0, hc0, -, -⟩ := DataW.trod_int Try.underlying3 hr0
  obtain ⟨f1, hf1, ht1⟩ := type_at deedF1
  obtain ⟨y1, -, hr1⟩ := field_at' deedOne hlen hg 1 f1 hf1 u1 rfl
  rw [ht1] at hr1
  obtain ⟨x1, hc1, -, -⟩ := DataW.trod_int Try.underlying3 hr1
  obtain ⟨f2, hf2, ht2⟩ := type_at deedF2
  obtain ⟨y2, -, hr2⟩ := field_at' deedOne hlen hg 2 f2 hf2 u2 rfl
  rw [ht2] at hr2
  obtain ⟨x2, hc2, -, -⟩ := DataW.trod_int Try.underlying3 hr2
  obtain ⟨f3, hf3, ht3⟩ := type_at deedF3
  obtain ⟨y3, -, hr3⟩ := field_at' deedOne hlen hg 3 f3 hf3 u3 rfl
  rw [ht3] at hr3
  obtain ⟨b, hb⟩ := bytes_of_trod hr3
  obtain rfl := List.head_eq_of_cons_eq hc0
  obtain rfl := List.head_eq_of_cons_eq hc1
  obtain rfl := List.head_eq_of_cons_eq hc2
  exact ⟨x0, x1, x2, u3, b, rfl, hb⟩
set_option maxRecDepth 100000 in
theorem open_deeds5 {r : Reach} {b0 : Nat} {v : Value} {d : DataW H} {p : List MemPlace} (hv : Value.okWide Try.prog w r b0 22 v) (h : DataW.Trod enc Try.prog w base spare held 22 v d p) :
    ∃ a m c, v = .slice a m c ∧ m ≤ 9223372036854775807 ∧ DeedsAt w a m := by
  obtain ⟨a0, len, cap, rfl⟩ := okWide_slice Try.underlying22 hv
  obtain ⟨fuel, hf⟩ := h
  rcases Go.Deep.open_slice Try.underlying22 hf with ⟨hcs, -⟩ | ⟨a, len', cap', m, n, D, Pl, hcs, -, hl, hm, hmm, -, hx⟩
  · have e0 : (Value.slice a0 len cap) = .slice none 0 0 := by simpa [Value.cells] using hcs
    cases e0
    exact ⟨none, 0, 0, rfl, by omega, fun i hi => absurd hi (by omega)⟩
  · have e0 : (Value.slice a0 len cap) = .slice (some a) len' cap' := by simpa [Value.cells] using hcs
    cases e0
    have hmx : maxLen = 9223372036854775807 := rfl
    have hlm : len ≤ m := by rw [hmm]; split <;> omega
    refine ⟨some a, len, cap, rfl, by omega, fun i hi => ?_⟩
    obtain ⟨b, off, spot⟩ := a
    obtain rfl : spot = none := by
      obtain ⟨cs, h1, h2⟩ := hx 0 (by omega)
      rw [deedCells] at h1
      obtain ⟨-, hlen, hcell⟩ := World.cells?_some h1
      have h3 := hcell 0 (by omega)
      rw [List.getElem?_eq_getElem (by omega)] at h3
      exact addr_none (i := 0) h3 rfl
    obtain ⟨cs, h1, h2⟩ := hx i (by omega)
    rw [deedCells] at h1
    obtain ⟨-, hlen, hcell⟩ := World.cells?_some h1
    obtain ⟨kd, kp, tn, sv, l, rfl, hb⟩ := deed_of_trod h2 hlen
    have hrange : w.rangeAt b (off + i * 4) [.int .i64 kd, .int .i64 kp, .int .i64 tn, sv] := fun j u hu => by
      have hj : j < 4 := by
        have := (List.getElem?_eq_some_iff.1 hu).1
        simpa using this
      have h3 := (hcell j hj).trans hu
      have add_add : ((⟨b, off, none⟩ : Addr).add (i * 4)).add j = ⟨b, off + i * 4 + j, none⟩ := by
        rw [Addr.add_mid, Addr.add_mid]
      rwa [add_add] at h3
    exact ⟨b, off, kd, kp, tn, sv, l, rfl, cell_lt (hrange 0 _ rfl), hrange, hb⟩
end
theorem deedSize : (Try.prog.info? tD).map (·.size) = some 4 := by kernel_rfl
theorem load_deed {W : World} {g off : Nat} {kd kp tn : Int} {sv : Value} (h : W.rangeAt g off [.int .i64 kd, .int .i64 kp, .int .i64 tn, sv]) {oi : Oper} {a : Act} {x : Operand} (ho : oi.op = .load tD x) (hx : a.eval x = .pointer (some ⟨g, off, none⟩)) :
    (execOp a.eval oi).run Try.prog W = .ok (.value (.agg #[.int .i64 kd, .int .i64 kp, .int .i64 tn, sv])) W := by
  unfold execOp
  simp only [ho, hx, Instr.loadAt, Instr.sureAddr, Sem.run_bind, Sem.run_pure, Result.andThen_ok, run_loadVar_mid W g off tD _ _ h deedUnd rfl deedSize]
theorem wpList_load_deed {ops : Array Oper} {rest : List Oper} {oi : Oper} {a : Act} {W : World} {Q : Exit → Act → World → Prop} {g off : Nat} {kd kp tn : Int} {sv : Value} {x : Operand} (hg : oi.guard = none) (ho : oi.op = .load tD x) (hx : a.eval x = .pointer (some ⟨g, off, none⟩))
    (h : W.rangeAt g off [.int .i64 kd, .int .i64 kp, .int .i64 tn, sv]) (hn : wpList Try.prog ops Q rest (a.put oi.dst (.agg #[.int .i64 kd, .int .i64 kp, .int .i64 tn, sv])) W) : wpList Try.prog ops Q (oi :: rest) a W :=
  wpList_plain hg fun K hK => by
    unfold Oper.wp
    rw [load_deed h ho hx]
    exact hK _ _ hn
end Go.Proofs.Ytfiahkomabllaaa.L
