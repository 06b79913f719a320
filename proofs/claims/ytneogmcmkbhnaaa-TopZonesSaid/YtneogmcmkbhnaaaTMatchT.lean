/- topo.Match. -/
import Derived.Test.YtneogmcmkbhnaaaTMatchL
namespace Go.Proofs.Ytneogmcmkbhnaaa.T
open Go.RowKit Go.Lib

/-- A slice whose elements are these terms. -/
def TermsIn (W : World) (v : Value) (acc : List TB) : Prop :=
  (∀ x ∈ acc, StrsIn W x.2 x.1.2) ∧ ((∃ c, v = .slice none 0 c ∧ acc = []) ∨ ∃ g off cap, v = .slice (some ⟨g, off, none⟩) acc.length cap ∧ acc.length ≤ 9223372036854775807 ∧ g < W.heap.size ∧ ∀ i (h : i < acc.length), W.cell? ⟨g, off + i * 2, none⟩ = some (encS acc[i].1.1) ∧ W.cell? ⟨g, off + i * 2 + 1, none⟩ = some acc[i].2)
theorem TermsIn.after {W W' : World} {v : Value} {acc : List TB} (h : TermsIn W v acc) (hb : Below W.heap.size W W') : TermsIn W' v acc := by
  refine ⟨fun x hx => (h.1 x hx).after hb, ?_⟩
  rcases h.2 with h | ⟨g, off, cap, hv, hl, hg, hc⟩
  · exact .inl h
  · exact .inr ⟨g, off, cap, hv, hl, Nat.lt_of_lt_of_le hg hb.size, fun i hi => by rw [cell_after hg hb, cell_after hg hb]; exact hc i hi⟩
theorem TermsIn.rowPart {W : World} {nb : Nat} {te : TypeId} {v : Value} {l : List TB} (h : W.ownsRow nb te 2 v l.length (encTs l)) :
    (∃ c, v = .slice none 0 c ∧ l = []) ∨ ∃ g off cap, v = .slice (some ⟨g, off, none⟩) l.length cap ∧ l.length ≤ 9223372036854775807 ∧ g < W.heap.size ∧ ∀ i (h : i < l.length), W.cell? ⟨g, off + i * 2, none⟩ = some (encS l[i].1.1) ∧ W.cell? ⟨g, off + i * 2 + 1, none⟩ = some l[i].2 := by
  rcases h.2 with ⟨rfl, h0⟩ | ⟨g, cap, cur, rfl, -, hg, hn, hm, hs, ht⟩
  · exact .inl ⟨0, rfl, List.length_eq_zero_iff.1 h0⟩
  · have at' : ∀ i (hi : i < l.length) j, j < 2 → W.cell? ⟨g, i * 2 + j, none⟩ = (encTs l)[i * 2 + j]? := fun i hi j hj => by
      rw [cell_of_row W g _ _ _ _ hg, ← ht, List.getElem?_take, if_pos (by omega), Array.getElem?_toList]
    have enc_at : ∀ (l : List TB) i (hi : i < l.length), (encTs l)[i * 2]? = some (encS l[i].1.1) ∧ (encTs l)[i * 2 + 1]? = some l[i].2 := fun l => by
      induction l with
      | nil => intro i hi; cases hi
      | cons y l ih =>
        intro i hi
        cases i with
        | zero => exact ⟨rfl, rfl⟩
        | succ i =>
          have := ih i (by simpa using hi)
          have e : (i + 1) * 2 = i * 2 + 1 + 1 := by omega
          rw [e]
          exact this
    refine .inr ⟨g, 0, cap, rfl, Nat.le_trans hn hm, (Array.getElem?_eq_some_iff.1 hg).1, fun i hi => ?_⟩
    rw [Nat.zero_add]
    have h0 := at' i hi 0 (by omega)
    rw [Nat.add_zero] at h0
    exact ⟨h0.trans (enc_at l i hi).1, (at' i hi 1 (by omega)).trans (enc_at l i hi).2⟩
theorem TermsIn.ofRow {W : World} {nb nb' : Nat} {te : TypeId} {v : Value} {l : List TB} (h : W.ownsRow nb te 2 v l.length (encTs l)) (hv : ∀ x ∈ l, W.ownsRow nb' 9 1 x.2 x.1.2.length (x.1.2.map encS)) : TermsIn W v l := ⟨fun x hx => StrsIn.ofRow (hv x hx), TermsIn.rowPart h⟩
theorem StrsIn.shape {W : World} {v : Value} {l : List (List UInt8)} (h : StrsIn W v l) : ∃ o n c, v = .slice o n c := by
  rcases h with ⟨o, c, rfl, -⟩ | ⟨g, off, cap, rfl, -⟩
  · exact ⟨o, 0, c, rfl⟩
  · exact ⟨_, _, _, rfl⟩
/-- Are labels as terms ask? -/
def matchB (ts : List (List UInt8 × List (List UInt8))) (l : List LB) : Bool := ts.all fun t => l.any (askB t)
theorem all_yes {acc : List TB} {l : List LB} (h : ∀ j (hj : j < acc.length), l.any (askB acc[j].1) = true) : matchB (acc.map Prod.fst) l = true := by
  unfold matchB
  rw [List.all_eq_true]
  intro t ht
  obtain ⟨x, hx, rfl⟩ := List.mem_map.1 ht
  obtain ⟨j, hj, rfl⟩ := List.getElem_of_mem hx
  exact h j hj
theorem all_no {acc : List TB} {l : List LB} {k : Nat} (hk : k < acc.length) (h : l.any (askB acc[k].1) = false) : matchB (acc.map Prod.fst) l = false := by
  unfold matchB
  rw [List.all_eq_false]
  exact ⟨acc[k].1, List.mem_map.2 ⟨_, List.getElem_mem hk, rfl⟩, by simp [h]⟩
/-- What stands between two terms. -/
structure MT (w : World) (sel : Value) (acc : List TB) (v : Value) (l : List LB) (W : World) : Prop where
  terms : TermsIn W sel acc
  labs : LabsIn W v l
  low : Below w.heap.size w W
theorem MT.after {w W W1 : World} {sel v : Value} {l : List LB} {acc : List TB} (h : MT w sel acc v l W) (hb : Below W.heap.size W W1) : MT w sel acc v l W1 := ⟨h.terms.after hb, h.labs.after hb, h.low.trans (hb.mono h.low.size)⟩

set_option maxRecDepth 100000 in
set_option maxHeartbeats 2000000 in
theorem match_any (sel : Value) (acc : List TB) (v : Value) (l : List LB) (W : World) (hT : TermsIn W sel acc) (hL : LabsIn W v l) :
    Calls Try.prog 23 #[sel, v] W fun e w' => e = .returned (.bool (matchB (acc.map Prod.fst) l)) ∧ Below W.heap.size W w' := by
  have hmf : ∀ (fn : Fn) (first cap : Array Value) (w : World), (Instr.makeFunc fn first cap).run Try.prog w = .ok (.func fn first cap) w := fun _ _ _ _ => rfl
  have h : MT W sel acc v l W := ⟨hT, hL, Below.refl _ _⟩
  clear hL
  rcases hT.2 with ⟨c, rfl, rfl⟩ | ⟨g, off, cap, rfl, hm, hg, -⟩
  · have HF : Hid (matchB (([] : List TB).map Prod.fst) l = true) := rfl
    rw [HF.out]
    clear h hT
    go_enter Try.func23, Try.ntmps23
    go_wp2
    go_loopw [10] (fun i wr => i = .int .i64 0 ∧ wr = W) (fun _ _ => 0)
    case atStart => exact ⟨rfl, rfl⟩
    case round =>
      obtain ⟨rfl, rfl⟩ := hrel
      go_wp2
      go_ret
      exact ⟨rfl, Below.refl _ _⟩
  · obtain ⟨R, hR⟩ : ∃ R, matchB (acc.map Prod.fst) l = R := ⟨_, rfl⟩
    rw [hR]
    have HR := Lib.hid hR
    have H := Lib.hid h
    clear hR h hT hg
    obtain ⟨L, hL⟩ : ∃ L, L = acc.length := ⟨_, rfl⟩
    rw [← hL] at hm H ⊢
    have HL := Lib.hid hL
    clear hL
    go_enter Try.func23, Try.ntmps23
    go_wp2
    go_loopw [10] (fun i wr => ∃ k : Nat, i = .int .i64 (k : Int) ∧ k ≤ L ∧ (∀ j (h : j < acc.length), j < k → l.any (askB acc[j].1) = true) ∧ MT W (.slice (some ⟨g, off, none⟩) L cap) acc v l wr) (fun i _ => (L - intOf i).toNat)
    case atStart => exact ⟨0, rfl, Nat.zero_le _, fun j _ h => by omega, H.out⟩
    case round =>
      obtain ⟨k, rfl, hk, hno, hS⟩ := hrel
      have HN := Lib.hid hno
      have HS := Lib.hid hS
      clear hno hS
      by_cases hkl : k < L
      · have hkl' : k < acc.length := by rw [← HL.out]; exact hkl
        have hcells : wr.cell? ⟨g, off + k * 2, none⟩ = some (encS acc[k].1.1) ∧ wr.cell? ⟨g, off + k * 2 + 1, none⟩ = some acc[k].2 := by
          rcases HS.out.terms.2 with ⟨c, h1, h2⟩ | ⟨g', off', cap', h1, -, -, h3⟩
          · rw [h2] at hkl'; cases hkl'
          · cases h1
            exact h3 k hkl'
        have hvals := HS.out.terms.1 acc[k] (List.getElem_mem hkl')
        have hone : (cellsT acc[k].1.1 acc[k].2).all (·.oneCell') = true := by
          obtain ⟨o, n, c, e⟩ := hvals.shape
          rw [e]
          exact one_cellsT _
        have hn : BoxT (wr.alloc (.cells (cellsT [] noV) 60 (0, 0))) wr.heap.size [] noV := heap_alloc_new wr _
        go_upto_region 4 with (first | (refine wpList_known (v := .agg (cellsT acc[k].1.1 acc[k].2)) rfl (exec_load_term_at hcells.1 hcells.2 rfl rfl) ?_) | ((with_reducible refine wpList_store_rowTo rfl 60 _ _ rfl rfl wr.heap.size (cellsT acc[k].1.1 acc[k].2) ?_ ?_ 60 (cellsT [] noV) ?_ ?_ ?_ ?_ ?_); rfl; rfl; exact hn; exact sizeTerm; exact rfl; exact hone))
        have hbb : Below wr.heap.size wr ((wr.alloc (.cells (cellsT [] noV) 60 (0, 0))).setRow wr.heap.size (cellsT acc[k].1.1 acc[k].2)) := below_setRow ((Below.refl _ _).alloc (Nat.le_refl _) _) (Nat.le_refl _) _
        refine wp_gen (fun V => BoxT V wr.heap.size acc[k].1.1 acc[k].2 ∧ MT W (.slice (some ⟨g, off, none⟩) L cap) acc v l V) ⟨hn.setRow _ _, HS.out.after hbb⟩ ?_
        clear hcells hvals hone hn hbb HS
        rintro V ⟨hbx, hS⟩
        have hMS : MS V v l acc[k].1 acc[k].2 wr.heap.size V := ⟨hS.labs, hbx, hS.terms.1 acc[k] (List.getElem_mem hkl'), Below.refl _ _⟩
        have HS := Lib.hid hS
        have HM := Lib.hid hMS
        clear hS hMS hbx
        go_wp2_with fail
        refine (containsL_any v l acc[k].1 acc[k].2 wr.heap.size V HM.out).mono ?_
        rintro e W1 ⟨rfl, hb⟩
        have HS1 := Lib.hid (HS.out.after hb)
        clear hb HS HM
        cases hask : l.any (askB acc[k].1) with
        | false =>
          have HF : Hid (R = false) := by show _ = _; rw [← HR.out, all_no hkl' hask]
          clear hask
          go_wp2
          go_ret
          exact ⟨by rw [HF.out]; rfl, HS1.out.low⟩
        | true =>
          have hno2 : Hid (∀ j (h : j < acc.length), j < k + 1 → l.any (askB acc[j].1) = true) := fun j h1 h2 => by
            by_cases hjk : j < k
            · exact HN.out j h1 hjk
            · obtain rfl : j = k := by omega
              exact hask
          clear hask HN
          go_wp2
          go_roundw
          case rel => exact ⟨k + 1, rfl, by omega, hno2.out, HS1.out⟩
          case measure => simp [intOf]; omega
      · have HF : Hid (R = true) := by show _ = _; rw [← HR.out, all_yes fun j h1 => HN.out j h1 (by have := HL.out; omega)]
        have HLow := Lib.hid HS.out.low
        clear HN HS
        go_wp2
        go_ret
        exact ⟨by rw [HF.out]; rfl, HLow.out⟩
end Go.Proofs.Ytneogmcmkbhnaaa.T
