/- topo.pair in one, topo.readLabel, topo.labelKey. -/
import Derived.Test.YtneogmcmkbhnaaaTPair
import Derived.Test.YtneogmcmkbhnaaaTReadStrs
import Derived.Great.BuildSlice
import Derived.Laws.Tables
import Derived.Laws.CopyOwn
import Derived.Laws.Rows
import Derived.Deep.Cut
namespace Go.Proofs.Ytneogmcmkbhnaaa.T
open Go.RowKit Go.Lib

/-- What stands ahead of the first mark =, and behind it. -/
def cutEq (l : List UInt8) : Option (List UInt8 × List UInt8) := (eqAt l).map fun k => (l.take k, l.drop (k + 1))
theorem cutEq_len {l : List UInt8} {x : List UInt8 × List UInt8} (h : cutEq l = some x) : x.1.length ≤ l.length ∧ x.2.length ≤ l.length := by
  unfold cutEq at h
  cases hk : eqAt l with
  | none => rw [hk] at h; cases h
  | some k =>
    rw [hk] at h
    cases h
    simp
    omega
/-- What pair answers. -/
def pairV (l : List UInt8) : Value := match cutEq l with
  | none => .tuple #[encS [], encS [], .bool false]
  | some x => .tuple #[encS x.1, encS x.2, .bool true]
theorem pair_any (l : List UInt8) (hl : l.length ≤ 9223372036854775807) (w : World) :
    Calls Try.prog 64 #[encS l] w fun e w' => e = .returned (pairV l) ∧ Below w.heap.size w w' := by
  obtain ⟨s, rfl⟩ : ∃ s : ByteArray, l = s.data.toList := ⟨⟨l.toArray⟩, rfl⟩
  rw [encS_self]
  unfold pairV cutEq
  cases hk : eqAt s.data.toList with
  | none =>
    refine (pair_none s w fun hm => ?_).mono fun e w' h => h
    have := List.findIdx?_eq_none_iff.1 hk _ hm
    simp at this
  | some k =>
    obtain ⟨h1, h2, h3⟩ := List.findIdx?_eq_some_iff_getElem.1 hk
    have hks : k < s.size := by rw [← size_list]; exact h1
    have h61 : s[k] = 61 := by rw [← get_list s k hks]; simpa using h2
    refine (pair_some s w (by rw [← size_list]; exact hl) k hks h61 fun hm => ?_).mono ?_
    · obtain ⟨j, hj, e⟩ := List.mem_take_iff_getElem.1 hm
      have := h3 j (by omega)
      rw [e] at this
      simp at this
    · rintro e w' ⟨rfl, hb⟩
      refine ⟨?_, hb⟩
      show _ = Ending.returned (.tuple #[encS (s.data.toList.take k), encS (s.data.toList.drop (k + 1)), .bool true])
      rw [encS_rest]
      have := encS_extract s 0 k
      simp only [List.drop_zero, Nat.sub_zero] at this
      rw [this]
theorem word_enc (l : List UInt8) (w : World) :
    Calls Try.prog 29 #[encS l] w fun e w' => e = .returned (.bool (wordB l)) ∧ Below w.heap.size w w' := by
  obtain ⟨s, rfl⟩ : ∃ s : ByteArray, l = s.data.toList := ⟨⟨l.toArray⟩, rfl⟩
  rw [encS_self]
  exact word_any s w

section
variable {P : Program} {fn : Func} {p q : Tmp} {ty : TypeId} {tmps : Array Value} {w : World} {g : Nat} {x y : Value}
theorem results_ct (h : fn.results = #[.cell p ty, .tmp q]) (hp : tmps.getD p undef = .pointer (some ⟨g, 0, none⟩)) (hq : tmps.getD q undef = y)
    (h1 : (loadVar ty ⟨g, 0, none⟩).run P w = .ok x w) : (results fn tmps).run P w = .ok (.tuple #[x, y]) w := by
  have hp' : tmps[p]?.getD undef = .pointer (some ⟨g, 0, none⟩) := by simpa using hp
  have hq' : tmps[q]?.getD undef = y := by simpa using hq
  simp [results, h, hp', hq', asAddr, h1]
end

theorem wp_gen {P : Program} {c : Code} {Q : Exit → Act → World → Prop} {a : Act} {W : World} (F : World → Prop) (hF : F W) (h : ∀ W1, F W1 → Code.wp P c Q a W1) : Code.wp P c Q a W := h W hF
/-- A label's cells, and its block. -/
def cellsL (a b : List UInt8) : Array Value := #[encS a, encS b]
def BoxL (W : World) (k : Nat) (a b : List UInt8) : Prop := W.heap[k]? = some (.cells (cellsL a b) 70 (0, 0))
theorem undLabel : Try.prog.underlying 70 = some (.struct (Try.prog.fieldsOf 70)) := by kernel_rfl
theorem sizeLabel : (Try.prog.info? 70).map (·.size) = some 2 := by kernel_rfl
theorem one_cellsL (a b : List UInt8) : (cellsL a b).all (·.oneCell') = true := by simp [cellsL, encS, Value.oneCell']
/-- What is read of a label. -/
def rdLabel (l : List UInt8) : Option (List UInt8 × List UInt8) := (cutEq l).bind fun x => if wordB x.1 = true then if wordB x.2 = true then some x else none else none
def labelV (r : Option (List UInt8 × List UInt8)) : Value := match r with
  | none => .tuple #[.agg (cellsL [] []), .bool false]
  | some x => .tuple #[.agg (cellsL x.1 x.2), .bool true]
theorem BoxL.lt {W : World} {k : Nat} {a b : List UInt8} (h : BoxL W k a b) : k < W.heap.size := (Array.getElem?_eq_some_iff.1 h).1
theorem BoxL.after {W W1 : World} {k : Nat} {a b : List UInt8} (h : BoxL W k a b) (hb : Below W.heap.size W W1) : BoxL W1 k a b := (hb.block k h.lt).trans h
theorem BoxL.setRow {W : World} {k : Nat} {a b : List UInt8} (h : BoxL W k a b) (a' b' : List UInt8) : BoxL (W.setRow k (cellsL a' b')) k a' b' := setRow_heap W k _ _ _ _ h
theorem load_label {W : World} {k : Nat} {a b : List UInt8} (h : BoxL W k a b) : (loadVar 70 ⟨k, 0, none⟩).run Try.prog W = .ok (.agg (cellsL a b)) W := run_loadVar_row W k 70 70 (cellsL a b) (0, 0) _ h undLabel rfl sizeLabel

set_option maxRecDepth 100000 in
set_option maxHeartbeats 2000000 in
theorem readLabel_none (l : List UInt8) (hl : l.length ≤ 9223372036854775807) (w : World) (R : Value) (HP : Hid (pairV l = .tuple #[encS [], encS [], .bool false])) (HR : Hid (R = .tuple #[.agg (cellsL [] []), .bool false])) :
    Calls Try.prog 45 #[encS l] w fun e w' => e = .returned R ∧ Below w.heap.size w w' := by
  go_enter Try.func45, Try.ntmps45
  go_upto_region 1 with (fail)
  refine wp_gen (fun W => BoxL W w.heap.size [] [] ∧ Below w.heap.size w W) ⟨heap_alloc_new w _, (Below.refl _ _).alloc (Nat.le_refl _) _⟩ ?_
  rintro W0 ⟨hb, hlow⟩
  go_wp2_with fail
  refine (pair_any l hl _).mono ?_
  rintro e W1 ⟨rfl, hb1⟩
  rw [HP.out]
  replace hb := hb.after hb1
  replace hlow := hlow.trans (hb1.mono hlow.size)
  clear hb1
  go_wp2_with ((with_reducible refine wpList_store_rowTo rfl 70 _ _ rfl rfl w.heap.size (cellsL [] []) ?_ ?_ 70 (cellsL [] []) ?_ ?_ ?_ ?_ ?_); rfl; rfl; exact hb; exact sizeLabel; exact rfl; exact one_cellsL _ _)
  exact bodyPost_ret (results_ct rfl rfl rfl (load_label (hb.setRow [] []))) rfl ⟨HR.out.symm ▸ rfl, below_setRow hlow (Nat.le_refl _) _⟩
set_option maxRecDepth 100000 in
set_option maxHeartbeats 2000000 in
theorem readLabel_key (l : List UInt8) (hl : l.length ≤ 9223372036854775807) (w : World) (R : Value) (a b : List UInt8) (HP : Hid (pairV l = .tuple #[encS a, encS b, .bool true])) (HA : Hid (wordB a = false)) (HR : Hid (R = .tuple #[.agg (cellsL [] []), .bool false])) :
    Calls Try.prog 45 #[encS l] w fun e w' => e = .returned R ∧ Below w.heap.size w w' := by
  go_enter Try.func45, Try.ntmps45
  go_upto_region 1 with (fail)
  refine wp_gen (fun W => BoxL W w.heap.size [] [] ∧ Below w.heap.size w W) ⟨heap_alloc_new w _, (Below.refl _ _).alloc (Nat.le_refl _) _⟩ ?_
  rintro W0 ⟨hb, hlow⟩
  go_wp2_with fail
  refine (pair_any l hl _).mono ?_
  rintro e W1 ⟨rfl, hb1⟩
  rw [HP.out]
  replace hb := hb.after hb1
  replace hlow := hlow.trans (hb1.mono hlow.size)
  clear hb1
  go_wp2_with fail
  refine (word_enc a _).mono ?_
  rintro e W2 ⟨rfl, hb1⟩
  rw [HA.out]
  replace hb := hb.after hb1
  replace hlow := hlow.trans (hb1.mono hlow.size)
  clear hb1
  go_wp2_with ((with_reducible refine wpList_store_rowTo rfl 70 _ _ rfl rfl w.heap.size (cellsL [] []) ?_ ?_ 70 (cellsL [] []) ?_ ?_ ?_ ?_ ?_); rfl; rfl; exact hb; exact sizeLabel; exact rfl; exact one_cellsL _ _)
  exact bodyPost_ret (results_ct rfl rfl rfl (load_label (hb.setRow [] []))) rfl ⟨HR.out.symm ▸ rfl, below_setRow hlow (Nat.le_refl _) _⟩
set_option maxRecDepth 100000 in
set_option maxHeartbeats 2000000 in
theorem readLabel_value (l : List UInt8) (hl : l.length ≤ 9223372036854775807) (w : World) (R : Value) (a b : List UInt8) (HP : Hid (pairV l = .tuple #[encS a, encS b, .bool true])) (HA : Hid (wordB a = true)) (HB : Hid (wordB b = false)) (HR : Hid (R = .tuple #[.agg (cellsL [] []), .bool false])) :
    Calls Try.prog 45 #[encS l] w fun e w' => e = .returned R ∧ Below w.heap.size w w' := by
  go_enter Try.func45, Try.ntmps45
  go_upto_region 1 with (fail)
  refine wp_gen (fun W => BoxL W w.heap.size [] [] ∧ Below w.heap.size w W) ⟨heap_alloc_new w _, (Below.refl _ _).alloc (Nat.le_refl _) _⟩ ?_
  rintro W0 ⟨hb, hlow⟩
  go_wp2_with fail
  refine (pair_any l hl _).mono ?_
  rintro e W1 ⟨rfl, hb1⟩
  rw [HP.out]
  replace hb := hb.after hb1
  replace hlow := hlow.trans (hb1.mono hlow.size)
  clear hb1
  go_wp2_with fail
  refine (word_enc a _).mono ?_
  rintro e W2 ⟨rfl, hb1⟩
  rw [HA.out]
  replace hb := hb.after hb1
  replace hlow := hlow.trans (hb1.mono hlow.size)
  clear hb1
  go_wp2_with fail
  refine (word_enc b _).mono ?_
  rintro e W3 ⟨rfl, hb1⟩
  rw [HB.out]
  replace hb := hb.after hb1
  replace hlow := hlow.trans (hb1.mono hlow.size)
  clear hb1
  go_wp2_with ((with_reducible refine wpList_store_rowTo rfl 70 _ _ rfl rfl w.heap.size (cellsL [] []) ?_ ?_ 70 (cellsL [] []) ?_ ?_ ?_ ?_ ?_); rfl; rfl; exact hb; exact sizeLabel; exact rfl; exact one_cellsL _ _)
  exact bodyPost_ret (results_ct rfl rfl rfl (load_label (hb.setRow [] []))) rfl ⟨HR.out.symm ▸ rfl, below_setRow hlow (Nat.le_refl _) _⟩
set_option maxRecDepth 100000 in
set_option maxHeartbeats 2000000 in
theorem readLabel_both (l : List UInt8) (hl : l.length ≤ 9223372036854775807) (w : World) (R : Value) (a b : List UInt8) (HP : Hid (pairV l = .tuple #[encS a, encS b, .bool true])) (HA : Hid (wordB a = true)) (HB : Hid (wordB b = true)) (HR : Hid (R = .tuple #[.agg (cellsL a b), .bool true])) :
    Calls Try.prog 45 #[encS l] w fun e w' => e = .returned R ∧ Below w.heap.size w w' := by
  go_enter Try.func45, Try.ntmps45
  go_upto_region 1 with (fail)
  refine wp_gen (fun W => BoxL W w.heap.size [] [] ∧ Below w.heap.size w W) ⟨heap_alloc_new w _, (Below.refl _ _).alloc (Nat.le_refl _) _⟩ ?_
  rintro W0 ⟨hb, hlow⟩
  go_wp2_with fail
  refine (pair_any l hl _).mono ?_
  rintro e W1 ⟨rfl, hb1⟩
  rw [HP.out]
  replace hb := hb.after hb1
  replace hlow := hlow.trans (hb1.mono hlow.size)
  clear hb1
  go_wp2_with fail
  refine (word_enc a _).mono ?_
  rintro e W2 ⟨rfl, hb1⟩
  rw [HA.out]
  replace hb := hb.after hb1
  replace hlow := hlow.trans (hb1.mono hlow.size)
  clear hb1
  go_wp2_with fail
  refine (word_enc b _).mono ?_
  rintro e W3 ⟨rfl, hb1⟩
  rw [HB.out]
  replace hb := hb.after hb1
  replace hlow := hlow.trans (hb1.mono hlow.size)
  clear hb1
  unfold encS
  go_wp2_with ((with_reducible refine wpList_store_rowTo rfl 70 _ _ rfl rfl w.heap.size (cellsL a b) ?_ ?_ 70 (cellsL [] []) ?_ ?_ ?_ ?_ ?_); rfl; rfl; exact hb; exact sizeLabel; exact rfl; exact one_cellsL _ _)
  exact bodyPost_ret (results_ct rfl rfl rfl (load_label (hb.setRow a b))) rfl ⟨HR.out.symm ▸ rfl, below_setRow hlow (Nat.le_refl _) _⟩
theorem readLabel_any (l : List UInt8) (hl : l.length ≤ 9223372036854775807) (w : World) :
    Calls Try.prog 45 #[encS l] w fun e w' => e = .returned (labelV (rdLabel l)) ∧ Below w.heap.size w w' := by
  cases hc : cutEq l with
  | none => exact readLabel_none l hl w _ (by show _ = _; unfold pairV; rw [hc]) (by show _ = _; unfold rdLabel; rw [hc]; rfl)
  | some x =>
    obtain ⟨a, b⟩ := x
    have hp : Hid (pairV l = .tuple #[encS a, encS b, .bool true]) := by show _ = _; unfold pairV; rw [hc]
    cases ha : wordB a with
    | false => exact readLabel_key l hl w _ a b hp ha (by show _ = _; unfold rdLabel; rw [hc]; simp [ha, labelV])
    | true =>
      cases hb : wordB b with
      | false => exact readLabel_value l hl w _ a b hp ha hb (by show _ = _; unfold rdLabel; rw [hc]; simp [ha, hb, labelV])
      | true => exact readLabel_both l hl w _ a b hp ha hb (by show _ = _; unfold rdLabel; rw [hc]; simp [ha, hb, labelV])
theorem labelKey_any (a b : List UInt8) (w : World) :
    Calls Try.prog 37 #[.agg (cellsL a b)] w fun e w' => e = .returned (encS a) ∧ Below w.heap.size w w' := by
  unfold cellsL encS
  go_enter Try.func37, Try.ntmps37
  have hlow : Below w.heap.size w (w.alloc (.cells #[.string ⟨a.toArray⟩, .string ⟨b.toArray⟩] 70 (0, 0))) := (Below.refl _ _).alloc (Nat.le_refl _) _
  go_wp2
  go_ret
  exact ⟨rfl, hlow⟩
end Go.Proofs.Ytneogmcmkbhnaaa.T
