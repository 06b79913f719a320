/- One key out of the line; Take. -/
import Derived.Test.YtjmiodbpebaajaaWFirst
import Derived.Test.YtjmiodbpebaajaaRowSet
import Derived.ArgAppend
namespace Go.Proofs.Ytjmiodbpebaajaa.W
open Go Go.RowKit KM
open Go.Lib RowSet

/-- The block of a line: its cells, and how much room. -/
structure BlkAt (W : World) (g cap : Nat) (cur : Array Value) (line : List Ky) : Prop where
  at_ : W.heap[g]? = some (.cells cur 25 (0, 0))
  le : line.length ≤ cap
  max : cap ≤ maxLen
  size : cur.size = cap * 2
  take : cur.toList.take (line.length * 2) = flat line
theorem BlkAt.lt {W : World} {g cap : Nat} {cur : Array Value} {line : List Ky} (h : BlkAt W g cap cur line) : g < W.heap.size := (Array.getElem?_eq_some_iff.1 h.at_).1
theorem BlkAt.of_heap {W W' : World} {g cap : Nat} {cur : Array Value} {line : List Ky} (h : BlkAt W g cap cur line) (he : W'.heap[g]? = W.heap[g]?) : BlkAt W' g cap cur line := ⟨he.trans h.at_, h.le, h.max, h.size, h.take⟩
theorem BlkAt.after {W W' : World} {g cap : Nat} {cur : Array Value} {line : List Ky} (h : BlkAt W g cap cur line) (hb : Below W.heap.size W W') : BlkAt W' g cap cur line := h.of_heap (hb.block g h.lt)
theorem BlkAt.owns {R : Nat} {W : World} {g cap : Nat} {cur : Array Value} {line : List Ky} (h : BlkAt W g cap cur line) (hR : R ≤ g) : W.ownsRow R 25 2 (.slice (some ⟨g, 0, none⟩) line.length cap) line.length (flat line) := by
  refine ⟨?_, .inr ⟨g, cap, cur, rfl, hR, h.at_, h.le, h.max, h.size, h.take⟩⟩
  rw [← h.take]
  have := h.size
  have := h.le
  simp
  omega
theorem blk_of {R : Nat} {W : World} {sl : Value} {line : List Ky} (hr : W.ownsRow R 25 2 sl line.length (flat line)) (hn : 0 < line.length) : ∃ g cap cur, sl = .slice (some ⟨g, 0, none⟩) line.length cap ∧ R ≤ g ∧ BlkAt W g cap cur line := by
  rcases hr.2 with ⟨-, h⟩ | ⟨g, cap, cur, rfl, h2, hg, h4, h5, h6, hc⟩
  · omega
  · exact ⟨g, cap, cur, rfl, h2, hg, h4, h5, h6, hc⟩
theorem flat_len (l : List Ky) : (flat l).length = l.length * 2 := by
  induction l with
  | nil => rfl
  | cons x l ih =>
    have e : flat (x :: l) = cellsK x ++ flat l := rfl
    rw [e, List.length_append, ih]
    simp [cellsK]
    omega
theorem flat_take : ∀ (l : List Ky) (i : Nat), (flat l).take (i * 2) = flat (l.take i)
  | [], _ => by simp [flat]
  | x :: l, 0 => by simp [flat]
  | x :: l, i + 1 => by
    have e : flat (x :: l) = cellsK x ++ flat l := rfl
    have e2 : flat ((x :: l).take (i + 1)) = cellsK x ++ flat (l.take i) := rfl
    rw [e, e2, show (i + 1) * 2 = (cellsK x).length + i * 2 by simp [cellsK]; omega, List.take_length_add_append, flat_take l i]
theorem flat_drop : ∀ (l : List Ky) (i : Nat), (flat l).drop (i * 2) = flat (l.drop i)
  | [], _ => by simp [flat]
  | x :: l, 0 => by simp
  | x :: l, i + 1 => by
    have e : flat (x :: l) = cellsK x ++ flat l := rfl
    rw [e, show (i + 1) * 2 = (cellsK x).length + i * 2 by simp [cellsK]; omega, List.drop_length_add_append, flat_drop l i]
    rfl
theorem flat_append (a b : List Ky) : flat (a ++ b) = flat a ++ flat b := by simp [flat]
theorem erase_flat (l : List Ky) (i : Nat) : (flat l).take (i * 2) ++ (flat l).drop ((i + 1) * 2) = flat (l.eraseIdx i) := by
  rw [flat_take, flat_drop, ← flat_append, List.eraseIdx_eq_take_drop_succ]
theorem erase_len {l : List Ky} {i : Nat} (h : i < l.length) : (l.eraseIdx i).length = l.length - 1 := by rw [List.length_eraseIdx, if_pos h]
/-- The cells when one has gone: the others move, and behind them stands nothing. -/
def gone (cur : Array Value) (line : List Ky) (i : Nat) : Array Value :=
  setAll (setAll cur (i * 2) ((flat line).drop ((i + 1) * 2))) ((line.length - 1) * 2) [.int .u8 0, .string ⟨#[]⟩]
theorem BlkAt.moved {W W1 W2 : World} {g cap : Nat} {cur : Array Value} {line : List Ky} {i : Nat} (h : BlkAt W g cap cur line) (hi : i < line.length) (h1 : W1.heap[g]? = (W.setCells g (i * 2) ((flat line).drop ((i + 1) * 2))).heap[g]?)
    (h2 : W2.heap[g]? = (W1.setCells g ((line.length - 1) * 2) [.int .u8 0, .string ⟨#[]⟩]).heap[g]?) : BlkAt W2 g cap (gone cur line i) (line.eraseIdx i) := by
  have e1 := heap_set g 25 ((flat line).drop ((i + 1) * 2)) (i * 2) W cur h.at_
  have e2 := heap_set g 25 [.int .u8 0, .string ⟨#[]⟩] ((line.length - 1) * 2) W1 _ (h1.trans e1)
  have hl := h.le
  have hs := h.size
  refine ⟨h2.trans e2, by rw [erase_len hi]; omega, h.max, by unfold gone; rw [setAll_size, setAll_size]; exact h.size, ?_⟩
  rw [erase_len hi, ← erase_flat, ← h.take, ← take_moved cur i 2 line.length hi (by omega)]
  rw [h.take]
  unfold gone
  apply List.ext_getElem?
  intro j
  rw [List.getElem?_take, List.getElem?_take]
  by_cases hj : j < (line.length - 1) * 2
  · rw [if_pos hj, if_pos hj, Array.getElem?_toList, Array.getElem?_toList, setAll_get _ _ _ (by rw [setAll_size]; simp; omega), if_neg (by omega)]
  · rw [if_neg hj, if_neg hj]

theorem exec_slice {W : World} {oi : Oper} {a : Act} {v : Value} {t : TypeId} {x : Operand} {lo hi mx : Option Operand} (ho : oi.op = .slice t x lo hi mx) (h : (Instr.sliceAt t (a.eval x) (lo.map a.eval) (hi.map a.eval) (mx.map a.eval)).run Try.prog W = .ok v W) : (execOp a.eval oi).run Try.prog W = .ok (.value v) W := by
  unfold execOp
  simp [ho, h, Result.andThen]

/-- All but one block stays. -/
structure KeptDrew (w : World) (g : Nat) (W : World) : Prop where
  other : ∀ b, b ≠ g → W.heap[b]? = w.heap[b]?
  low : ∀ B, B ≤ g → Below B w W
theorem KeptDrew.drew {w : World} {g : Nat} {W : World} (h : KeptDrew w g W) : KeptDrew w g W.drew := ⟨h.other, fun B hB => (h.low B hB).drew⟩
theorem KeptDrew.refl (w : World) (g : Nat) : KeptDrew w g w := ⟨fun _ _ => rfl, fun _ _ => Below.refl _ _⟩
theorem KeptDrew.set {w : World} {g : Nat} {W : World} (h : KeptDrew w g W) (vs : List Value) (o : Nat) : KeptDrew w g (W.setCells g o vs) :=
  ⟨fun b hb => (heap_set_other g b hb vs o W).trans (h.other b hb), fun B hB => (h.low B hB).trans (below_set hB vs o W)⟩
theorem zero_key (w : World) : (zeroValue 25).run Try.prog w = .ok (.agg #[.int .u8 0, .string ⟨#[]⟩]) w := by kernel_rfl
theorem run_clear_key (w : World) (ty : TypeId) (b o c : Nat) (hc : ∀ j, j < 2 → (w.cell? ⟨b, o + j, none⟩).isSome = true) (hf : ∀ j, j < 2 → w.frozen? ⟨b, o + j, none⟩ = false) :
    (Builtin.clear_ #[37] ty #[.slice (some ⟨b, o, none⟩) 1 c]).run Try.prog w = .ok (.tuple #[]) (w.setCells b o [.int .u8 0, .string ⟨#[]⟩]) := by
  have hst := run_storeCells_cells (P := Try.prog) b o [.int .u8 0, .string ⟨#[]⟩] 0 w (by simpa using hc) (by simpa using hf) (by intro v hv; simp at hv; rcases hv with rfl | rfl <;> rfl)
  simp only [Nat.add_zero] at hst
  have hz : (Builtin.zeroCells (Value.agg #[.int .u8 0, .string ⟨#[]⟩]).cells 1).toList = [.int .u8 0, .string ⟨#[]⟩] := by kernel_rfl
  simp [Builtin.clear_, run_underlying Try.underlying37, zero_key, hz, hst]

set_option maxRecDepth 100000 in
set_option maxHeartbeats 4000000 in
theorem del_any (g cap : Nat) (cur : Array Value) (line : List Ky) (i m : Nat) (w : World) (h : BlkAt w g cap cur line) (hn : line.length = i + 1 + m) (hm : line.length ≤ 256) :
    Calls Try.prog 43 #[.slice (some ⟨g, 0, none⟩) (i + 1 + m) cap, .int .i64 i, .int .i64 (i + 1 : Int)] w fun e w' =>
      e = .returned (.slice (some ⟨g, 0, none⟩) (i + m) cap) ∧ BlkAt w' g cap (gone cur line i) (line.eraseIdx i) ∧ (∀ b, b ≠ g → w'.heap[b]? = w.heap[b]?) ∧ (∀ B, B ≤ g → Below B w w') := by
  have H := Lib.hid h
  have hle : i + 1 + m ≤ cap := by rw [← hn]; exact h.le
  have hmx := h.max
  have hsz := h.size
  have hmx2 : cap ≤ 9223372036854775807 := by unfold maxLen at hmx; omega
  rw [hn] at hm
  have HN := Lib.hid hn
  obtain ⟨news, hnews⟩ : ∃ news, (flat line).drop ((i + 1) * 2) = news := ⟨_, rfl⟩
  have hlen : news.length = m * 2 := by rw [← hnews, List.length_drop, flat_len, hn]; omega
  have hcur : ∀ j, j < (i + 1 + m) * 2 → cur[j]? = (flat line)[j]? := fun j hj => by
    rw [← h.take, List.getElem?_take, if_pos (by rw [hn]; exact hj), Array.getElem?_toList]
  have hone : ∀ u ∈ news, u.oneCell' = true := by
    intro u hu
    rw [← hnews] at hu
    have := List.mem_of_mem_drop hu
    simp only [flat, List.mem_flatMap, cellsK, List.mem_cons, List.not_mem_nil, or_false] at this
    obtain ⟨x, -, rfl | rfl⟩ := this <;> rfl
  obtain ⟨A, hA, hsrc⟩ : ∃ A : Addr, (if cap = i + 1 then (some ⟨g, 0, none⟩ : Option Addr) else some ⟨g, (i + 1) * 2, none⟩) = some A ∧ ∀ (V : World), V.heap[g]? = some (.cells cur 25 (0, 0)) → ∀ j u, news[j]? = some u → V.cell? (A.add j) = some u := by
    by_cases hc : cap = i + 1
    · refine ⟨⟨g, 0, none⟩, by rw [if_pos hc], fun V hV j u hu => ?_⟩
      have h0 : news.length = 0 := by rw [hlen]; omega
      rw [List.length_eq_zero_iff.1 h0] at hu
      simp at hu
    · refine ⟨⟨g, (i + 1) * 2, none⟩, by rw [if_neg hc], fun V hV j u hu => ?_⟩
      have hj : j < m * 2 := by have := (List.getElem?_eq_some_iff.1 hu).1; rwa [hlen] at this
      rw [Addr.add_lit]
      refine (cell_of_row V g _ _ _ _ hV).trans ?_
      rw [hcur _ (by omega), ← hu, ← hnews, List.getElem?_drop]
  have HA := Lib.hid hA
  have HSRC := Lib.hid hsrc
  have HONE := Lib.hid hone
  have HLEN := Lib.hid hlen
  have HNEWS := Lib.hid hnews
  have HK := Lib.hid h.at_
  clear h hmx hcur hA hsrc hone hlen hnews hn
  have hi0 : (i : Int) ≤ i + 1 := by omega
  have hi3 : i ≤ cap := by omega
  have hi4 : i + 1 ≤ cap := by omega
  have hi5 : i + 1 ≤ i + 1 + m := by omega
  have hi1 : (i : Int) + 1 ≤ i + 1 + m := by omega
  have hi2 : (i : Int) + 1 + m ≤ cap := by omega
  go_enter Try.func43, Try.ntmps43
  go_upto_region 5 with (fail)
  have HT : Hid True := trivial
  have HL : Hid (KeptDrew w g w) := KeptDrew.refl w g
  refine wp_region_held_drew (S := fun V => True) (by kernel_rfl) HT.out (fun _ => ?_)
  refine HeldBy.gen (fun V => (True) ∧ (V.heap[g]? = some (.cells cur 25 (0, 0))) ∧ (KeptDrew w g V)) ⟨HT.out, HK.out, HL.out.drew⟩ ?_
  clear HT HK HL
  rintro U0 ⟨HS, HK, HL⟩
  refine HeldBy.take (i := 0) rfl (by kernel_rfl) (by kernel_rfl) (by kernel_rfl) (fun _ _ _ h => h) (by rfl) (fun _ _ => by first | (go_simp; rfl) | (go_simp; done)) (by first | (go_simp; rfl) | (go_simp; done)) HS ?_
  refine HeldBy.take (i := 1) rfl (by kernel_rfl) (by kernel_rfl) (by kernel_rfl) (fun _ _ _ h => h) (by rfl) (fun _ _ => by first | (go_simp; rfl) | (go_simp; done)) (by first | (go_simp; rfl) | (go_simp; done)) HS ?_
  refine HeldBy.take (i := 2) (v := .slice (some ⟨g, 0, none⟩) i cap) rfl (by kernel_rfl) (by kernel_rfl) (by kernel_rfl) (fun _ _ _ h => h) (by rfl) (fun _ _ => by go_simp) (by first | (go_simp; rfl) | (go_simp; done)) HS ?_
  refine HeldBy.take (i := 3) rfl (by kernel_rfl) (by kernel_rfl) (by kernel_rfl) (fun _ _ _ h => h) (by rfl) (fun _ _ => by first | (go_simp; rfl) | (go_simp; done)) (by first | (go_simp; rfl) | (go_simp; done)) HS ?_
  refine HeldBy.take (i := 4) rfl (by kernel_rfl) (by kernel_rfl) (by kernel_rfl) (fun _ _ _ h => h) (by rfl) (fun _ _ => by first | (go_simp; rfl) | (go_simp; done)) (by first | (go_simp; rfl) | (go_simp; done)) HS ?_
  refine HeldBy.take (i := 5) (v := .slice (some A) m (cap - (i + 1))) rfl (by kernel_rfl) (by kernel_rfl) (by kernel_rfl) (fun _ _ _ h => h) (by rfl) (fun _ _ => by go_simp; rw [if_pos (by omega), HA.out]) (by first | (go_simp; rfl) | (go_simp; done)) HS ?_
  obtain ⟨i0, hinf, -, hisz, -⟩ := key_info
  have hrun := run_append_room_cells (P := Try.prog) U0 37 37 25 i0 Try.underlying37 hinf g 0 i cap A m (cap - (i + 1)) news (by rw [hisz]; exact HLEN.out) (HSRC.out U0 HK) HONE.out (by omega)
    (fun j hj => by
      rw [HLEN.out] at hj
      rw [hisz, cell_of_row U0 g _ _ _ _ HK, Array.getElem?_eq_getElem (by omega)]
      rfl) (fun j _ => frozen_of_row U0 g _ _ _ HK)
  rw [hisz, Nat.zero_add] at hrun
  refine HeldBy.value (i := 6) (v := .slice (some ⟨g, 0, none⟩) (i + m) cap) (w' := U0.setCells g (i * 2) news) rfl (by kernel_rfl) (by rfl) (exec_append rfl rfl rfl hrun) (by go_simp; rfl) trivial ?_
  refine HeldBy.take (i := 7) rfl (by kernel_rfl) (by kernel_rfl) (by kernel_rfl) (fun _ _ _ h => h) (by rfl) (fun _ _ => by first | (go_simp; rfl) | (go_simp; done)) (by go_simp; rfl) trivial ?_
  refine wpAnyH_done (by kernel_rfl) ?_ _
  have hat1 := heap_set g 25 news (i * 2) U0 cur HK
  refine then_gen (fun V => V.heap[g]? = some (.cells (setAll cur (i * 2) news) 25 (0, 0)) ∧ KeptDrew w g V) ⟨hat1, HL.set news (i * 2)⟩ ?_
  clear hrun hat1 HK HS HSRC HL
  rintro W1 hK1
  have HK1 := Lib.hid hK1
  have hi6 : i + m ≤ cap := by omega
  have hi7 : ¬ cap = i + m := by omega
  have hi8 : i + 1 + m - (i + m) = 1 := by omega
  have hi9 : (i : Int) + m ≤ i + 1 + m := by omega
  have hcl : ∀ ty c, (Builtin.clear_ #[37] ty #[.slice (some ⟨g, (i + m) * 2, none⟩) 1 c]).run Try.prog W1 = .ok (.tuple #[]) (W1.setCells g ((i + m) * 2) [.int .u8 0, .string ⟨#[]⟩]) := fun ty c =>
    run_clear_key W1 ty g ((i + m) * 2) c (fun j hj => by
      rw [cell_of_row W1 g _ _ _ _ hK1.1, Array.getElem?_eq_getElem (by rw [setAll_size]; omega)]
      rfl) (fun j _ => frozen_of_row W1 g _ _ _ hK1.1)
  clear hK1 HA HLEN HONE
  go_wp2
  go_ret
  refine ⟨rfl, BlkAt.moved (W1 := W1) H.out (by rw [HN.out]; omega) ?_ ?_, (HK1.out.2.set _ _).other, (HK1.out.2.set _ _).low⟩
  · rw [HNEWS.out]
    exact HK1.out.1.trans (heap_set g 25 news (i * 2) w cur H.out.at_).symm
  · rw [HN.out, show i + 1 + m - 1 = i + m by omega]
end Go.Proofs.Ytjmiodbpebaajaa.W
