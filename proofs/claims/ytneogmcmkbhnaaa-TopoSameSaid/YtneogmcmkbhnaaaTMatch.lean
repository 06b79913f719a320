/- topo.Match: what is asked of one label; whether one of some is so. -/
import Derived.Test.YtneogmcmkbhnaaaTSlices
namespace Go.Proofs.Ytneogmcmkbhnaaa.T
open Go.RowKit Go.Lib

/-- Is a label as a term asks? -/
def askB (t : List UInt8 × List (List UInt8)) (x : LB) : Bool := (x.1 == t.1) && t.2.contains x.2

set_option maxRecDepth 100000 in
set_option maxHeartbeats 1000000 in
theorem ask_any (t : List UInt8 × List (List UInt8)) (val : Value) (x : LB) (bt : Nat) (W : World) (hT : BoxT W bt t.1 val) (hS : StrsIn W val t.2) :
    Calls Try.prog 47 #[.agg (cellsL x.1 x.2), .pointer (some ⟨bt, 0, none⟩)] W fun e w' => e = .returned (.bool (askB t x)) ∧ Below W.heap.size W w' := by
  obtain ⟨k, vs⟩ := t
  obtain ⟨a, b⟩ := x
  dsimp only at *
  have hb : Below W.heap.size W (W.alloc (.cells (cellsL a b) 70 (0, 0))) := (Below.refl _ _).alloc (Nat.le_refl _) _
  have hT1 := hT.after hb
  have hS1 := hS.after hb
  have hX : BoxL (W.alloc (.cells (cellsL a b) 70 (0, 0))) W.heap.size a b := heap_alloc_new W _
  have x0 : (W.alloc (.cells (cellsL a b) 70 (0, 0))).cell? ⟨W.heap.size, 0, none⟩ = some (encS a) := (cell_of_row _ W.heap.size 0 _ _ _ hX).trans rfl
  have x1 : (W.alloc (.cells (cellsL a b) 70 (0, 0))).cell? ⟨W.heap.size, 1, none⟩ = some (encS b) := (cell_of_row _ W.heap.size 1 _ _ _ hX).trans rfl
  have t0 : (W.alloc (.cells (cellsL a b) 70 (0, 0))).cell? ⟨bt, 0, none⟩ = some (encS k) := (cell_of_row _ bt 0 _ _ _ hT1).trans rfl
  have t1 : (W.alloc (.cells (cellsL a b) 70 (0, 0))).cell? ⟨bt, 1, none⟩ = some val := (cell_of_row _ bt 1 _ _ _ hT1).trans rfl
  have HS := Lib.hid hS1
  have HB := Lib.hid hb
  clear hT hS hT1 hS1 hX hb
  by_cases he : a = k
  · subst he
    have HA : Hid (askB (a, vs) (a, b) = vs.contains b) := by show _ = _; unfold askB; simp
    rw [HA.out]
    have h0 := fun V h => containsS_any val vs b V h
    clear HA
    generalize vs.contains b = R at *
    have H0 := Lib.hid h0
    clear h0
    go_enter Try.func47, Try.ntmps47
    go_upto_region 1 with (fail)
    refine wp_gen (fun V => V.cell? ⟨W.heap.size, 0, none⟩ = some (encS a) ∧ V.cell? ⟨W.heap.size, 1, none⟩ = some (encS b) ∧ V.cell? ⟨bt, 0, none⟩ = some (encS a) ∧ V.cell? ⟨bt, 1, none⟩ = some val ∧ StrsIn V val vs ∧ Below W.heap.size W V) ⟨x0, x1, t0, t1, HS.out, HB.out⟩ ?_
    clear x0 x1 t0 t1 HS HB
    rintro V ⟨x0, x1, t0, t1, hS, hb⟩
    have HC := Lib.hid (H0.out V hS)
    clear hS H0
    unfold encS at *
    go_wp2_with fail
    refine HC.out.mono ?_
    rintro e W1 ⟨rfl, rfl⟩
    have HB := Lib.hid hb
    clear HC hb
    go_wp2
    go_ret
    exact ⟨rfl, HB.out⟩
  · have HA : Hid (askB (k, vs) (a, b) = false) := by show _ = _; unfold askB; simp [he]
    rw [HA.out]
    go_enter Try.func47, Try.ntmps47
    go_upto_region 1 with (fail)
    refine wp_gen (fun V => V.cell? ⟨W.heap.size, 0, none⟩ = some (encS a) ∧ V.cell? ⟨bt, 0, none⟩ = some (encS k) ∧ Below W.heap.size W V) ⟨x0, t0, HB.out⟩ ?_
    clear x0 x1 t0 t1 HS HB
    rintro V ⟨x0, t0, hb⟩
    have HB := Lib.hid hb
    have he2 : (a == k) = false := by simpa using he
    have he3 : decide (a = k) = false := by simpa using he
    clear hb
    unfold encS at *
    go_wp2
    go_ret
    exact ⟨rfl, HB.out⟩

/-- A slice whose elements are these labels. -/
def LabsIn (W : World) (v : Value) (l : List LB) : Prop :=
  (∃ c, v = .slice none 0 c ∧ l = []) ∨ ∃ g off cap, v = .slice (some ⟨g, off, none⟩) l.length cap ∧ l.length ≤ 9223372036854775807 ∧ g < W.heap.size ∧ ∀ i (h : i < l.length), W.cell? ⟨g, off + i * 2, none⟩ = some (encS l[i].1) ∧ W.cell? ⟨g, off + i * 2 + 1, none⟩ = some (encS l[i].2)
theorem cell_after {W W' : World} {g j : Nat} (hg : g < W.heap.size) (hb : Below W.heap.size W W') : W'.cell? ⟨g, j, none⟩ = W.cell? ⟨g, j, none⟩ := by
  unfold World.cell?
  rw [hb.block g hg]
theorem LabsIn.after {W W' : World} {v : Value} {l : List LB} (h : LabsIn W v l) (hb : Below W.heap.size W W') : LabsIn W' v l := by
  rcases h with h | ⟨g, off, cap, hv, hl, hg, hc⟩
  · exact .inl h
  · exact .inr ⟨g, off, cap, hv, hl, Nat.lt_of_lt_of_le hg hb.size, fun i hi => by rw [cell_after hg hb, cell_after hg hb]; exact hc i hi⟩
theorem LabsIn.ofRow {W : World} {nb : Nat} {te : TypeId} {v : Value} {l : List LB} (h : W.ownsRow nb te 2 v l.length (encLs l)) : LabsIn W v l := by
  rcases h.2 with ⟨rfl, h0⟩ | ⟨g, cap, cur, rfl, -, hg, hn, hm, hs, ht⟩
  · exact .inl ⟨0, rfl, List.length_eq_zero_iff.1 h0⟩
  · have at' : ∀ i (hi : i < l.length) j, j < 2 → W.cell? ⟨g, i * 2 + j, none⟩ = (encLs l)[i * 2 + j]? := fun i hi j hj => by
      rw [cell_of_row W g _ _ _ _ hg, ← ht, List.getElem?_take, if_pos (by omega), Array.getElem?_toList]
    have enc_at : ∀ (l : List LB) i (hi : i < l.length), (encLs l)[i * 2]? = some (encS l[i].1) ∧ (encLs l)[i * 2 + 1]? = some (encS l[i].2) := fun l => by
      induction l with
      | nil => intro i hi; cases hi
      | cons y l ih =>
        intro i hi
        cases i with
        | zero => exact ⟨rfl, rfl⟩
        | succ i =>
          have := ih i (by simpa using hi)
          have e : (i + 1) * 2 = i * 2 + 1 + 1 := by omega
          rw [e]
          exact this
    refine .inr ⟨g, 0, cap, rfl, Nat.le_trans hn hm, (Array.getElem?_eq_some_iff.1 hg).1, fun i hi => ?_⟩
    rw [Nat.zero_add]
    have h0 := at' i hi 0 (by omega)
    rw [Nat.add_zero] at h0
    exact ⟨h0.trans (enc_at l i hi).1, (at' i hi 1 (by omega)).trans (enc_at l i hi).2⟩
end Go.Proofs.Ytneogmcmkbhnaaa.T
