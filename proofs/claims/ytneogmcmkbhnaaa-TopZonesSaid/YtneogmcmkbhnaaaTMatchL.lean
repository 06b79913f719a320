/- topo.Match: slices.IndexFunc, ContainsFunc at labels, with what Match asks. -/
import Derived.Test.YtneogmcmkbhnaaaTMatch
namespace Go.Proofs.Ytneogmcmkbhnaaa.T
open Go.RowKit Go.Lib

theorem wpList_known {ops : Array Oper} {rest : List Oper} {oi : Oper} {a : Act} {W : World} {Q : Exit → Act → World → Prop} {v : Value} (hw : Region.wanted oi (yielded ops a.tmps) = true)
    (hv : (execOp a.eval oi).run Try.prog W = .ok (.value v) W) (hn : wpList Try.prog ops Q rest (a.put oi.dst v) W) : wpList Try.prog ops Q (oi :: rest) a W := by
  unfold wpList
  rw [if_pos hw]
  refine .inl ?_
  unfold Oper.wp
  rw [hv]
  exact hn
/-- What stands between two questions. -/
structure MS (w : World) (v : Value) (l : List LB) (t : List UInt8 × List (List UInt8)) (val : Value) (bt : Nat) (W : World) : Prop where
  labs : LabsIn W v l
  term : BoxT W bt t.1 val
  vals : StrsIn W val t.2
  low : Below w.heap.size w W
theorem MS.after {w W W1 : World} {v : Value} {l : List LB} {t : List UInt8 × List (List UInt8)} {val : Value} {bt : Nat} (h : MS w v l t val bt W) (hb : Below W.heap.size W W1) : MS w v l t val bt W1 :=
  ⟨h.labs.after hb, h.term.after hb, h.vals.after hb, h.low.trans (hb.mono h.low.size)⟩
theorem any_yes {l : List LB} {t : List UInt8 × List (List UInt8)} {k : Nat} (hk : k < l.length) (h : askB t l[k] = true) : l.any (askB t) = true := List.any_eq_true.2 ⟨_, List.getElem_mem hk, h⟩
theorem any_no {l : List LB} {t : List UInt8 × List (List UInt8)} (h : ∀ j (hj : j < l.length), askB t l[j] = false) : l.any (askB t) = false := by
  rw [List.any_eq_false]
  intro x hx
  obtain ⟨j, hj, rfl⟩ := List.getElem_of_mem hx
  simp [h j hj]
def AnyPost (w : World) (R : Bool) (e : Ending) (W' : World) : Prop := (∃ n : Int, e = .returned (.int .i64 n) ∧ decide (0 ≤ n) = R) ∧ Below w.heap.size w W'

set_option maxRecDepth 100000 in
set_option maxHeartbeats 1000000 in
theorem indexL_any (v : Value) (l : List LB) (t : List UInt8 × List (List UInt8)) (val : Value) (bt : Nat) (W : World) (h : MS W v l t val bt W) :
    Calls Try.prog 68 #[v, .func (.func 47) #[] #[.pointer (some ⟨bt, 0, none⟩)]] W (AnyPost W (l.any (askB t))) := by
  rcases h.labs with ⟨c, rfl, rfl⟩ | ⟨g, off, cap, rfl, hm, hg, -⟩
  · have HF : Hid (AnyPost W (([] : List LB).any (askB t)) (.returned (.int .i64 (-1))) W) := ⟨⟨-1, rfl, rfl⟩, Below.refl _ _⟩
    clear h
    go_enter Try.func68, Try.ntmps68
    go_wp2
    go_loopw [8] (fun i wr => i = .int .i64 0 ∧ wr = W) (fun _ _ => 0)
    case atStart => exact ⟨rfl, rfl⟩
    case round =>
      obtain ⟨rfl, rfl⟩ := hrel
      go_wp2
      go_ret
      exact HF.out
  · obtain ⟨R, hR⟩ : ∃ R, l.any (askB t) = R := ⟨_, rfl⟩
    rw [hR]
    have HR := Lib.hid hR
    clear hR
    have H := Lib.hid h
    clear h
    obtain ⟨L, hL⟩ : ∃ L, L = l.length := ⟨_, rfl⟩
    rw [← hL] at hm H ⊢
    have HL := Lib.hid hL
    clear hL hg
    go_enter Try.func68, Try.ntmps68
    go_wp2
    go_loopw [8] (fun i wr => ∃ k : Nat, i = .int .i64 (k : Int) ∧ k ≤ L ∧ (∀ j (h : j < l.length), j < k → askB t l[j] = false) ∧ MS W (.slice (some ⟨g, off, none⟩) L cap) l t val bt wr) (fun i _ => (L - intOf i).toNat)
    case atStart => exact ⟨0, rfl, Nat.zero_le _, fun j _ h => by omega, H.out⟩
    case round =>
      obtain ⟨k, rfl, hk, hno, hS⟩ := hrel
      have HN := Lib.hid hno
      have HS := Lib.hid hS
      clear hno hS
      by_cases hkl : k < L
      · have hkl' : k < l.length := by rw [← HL.out]; exact hkl
        have hcells : wr.cell? ⟨g, off + k * 2, none⟩ = some (encS l[k].1) ∧ wr.cell? ⟨g, off + k * 2 + 1, none⟩ = some (encS l[k].2) := by
          rcases HS.out.labs with ⟨c, h1, h2⟩ | ⟨g', off', cap', h1, -, -, h3⟩
          · rw [h2] at hkl'; cases hkl'
          · cases h1
            exact h3 k hkl'
        go_wp2_with (refine wpList_known (v := .agg (cellsL l[k].1 l[k].2)) rfl (exec_load_label_at hcells.1 hcells.2 rfl rfl) ?_)
        refine (ask_any t val l[k] bt wr HS.out.term HS.out.vals).mono ?_
        rintro e W1 ⟨rfl, hb⟩
        have HS1 := Lib.hid (HS.out.after hb)
        clear hb hcells HS
        cases hask : askB t l[k] with
        | true =>
          have HF : Hid (AnyPost W R (.returned (.int .i64 (k : Int))) W1) := ⟨⟨k, rfl, by rw [← HR.out, any_yes hkl' hask]; simp⟩, HS1.out.low⟩
          clear hask
          go_wp2
          go_ret
          exact HF.out
        | false =>
          have hno2 : Hid (∀ j (h : j < l.length), j < k + 1 → askB t l[j] = false) := fun j h1 h2 => by
            by_cases hjk : j < k
            · exact HN.out j h1 hjk
            · obtain rfl : j = k := by omega
              exact hask
          clear hask HN
          go_wp2
          go_roundw
          case rel => exact ⟨k + 1, rfl, by omega, hno2.out, HS1.out⟩
          case measure => simp [intOf]; omega
      · have HF : Hid (AnyPost W R (.returned (.int .i64 (-1))) wr) := ⟨⟨-1, rfl, by rw [← HR.out, any_no fun j h1 => HN.out j h1 (by have := HL.out; omega)]; rfl⟩, HS.out.low⟩
        clear HN HS
        go_wp2
        go_ret
        exact HF.out
theorem containsL_any (v : Value) (l : List LB) (t : List UInt8 × List (List UInt8)) (val : Value) (bt : Nat) (W : World) (h : MS W v l t val bt W) :
    Calls Try.prog 49 #[v, .func (.func 47) #[] #[.pointer (some ⟨bt, 0, none⟩)]] W fun e w' => e = .returned (.bool (l.any (askB t))) ∧ Below W.heap.size W w' := by
  have h0 := indexL_any v l t val bt W h
  generalize l.any (askB t) = R at *
  have H := Lib.hid h0
  clear h0 h
  go_enter Try.func49, Try.ntmps49
  go_wp2_with fail
  refine H.out.mono ?_
  rintro e W1 ⟨⟨n, rfl, hn⟩, hb⟩
  have HB := Lib.hid hb
  clear hb H
  subst hn
  go_wp2
  go_ret
  exact ⟨rfl, HB.out⟩
end Go.Proofs.Ytneogmcmkbhnaaa.T
