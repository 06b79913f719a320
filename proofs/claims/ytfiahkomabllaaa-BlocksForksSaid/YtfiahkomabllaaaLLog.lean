/- A log in memory; what only reads it, and what is new. -/
import Derived.Test.YtfiahkomabllaaaLWhole
import Derived.Test.YtfiahkomabllaaaHeldBy
namespace Go.Proofs.Ytfiahkomabllaaa.L
open Go Go.RowKit
open Go.Lib

/-- A log: what blocks it has, how many of them last, how many it may have. -/
structure Lg where
  most : Nat
  last : Nat
  b : Bytes
def cellsL (most : Nat) (v : Value) (last wh en : Nat) : Array Value := #[.int .i64 most, v, .int .i64 last, .int .i64 wh, .int .i64 en]
/-- The box of a log. -/
def LogAt (W : World) (q : Nat) (most : Nat) (v : Value) (last wh en : Nat) : Prop := W.heap[q]? = some (.cells (cellsL most v last wh en) 59 (0, 0))
section
variable {W W' : World} {q most last wh en : Nat} {v : Value}
theorem LogAt.lt (h : LogAt W q most v last wh en) : q < W.heap.size := (Array.getElem?_eq_some_iff.1 h).1
theorem LogAt.of_heap (h : LogAt W q most v last wh en) (he : W'.heap[q]? = W.heap[q]?) : LogAt W' q most v last wh en := he.trans h
theorem LogAt.after (h : LogAt W q most v last wh en) (hb : Below W.heap.size W W') : LogAt W' q most v last wh en := h.of_heap (hb.block q h.lt)
theorem LogAt.drew (h : LogAt W q most v last wh en) : LogAt W.drew q most v last wh en := h
theorem LogAt.c0 (h : LogAt W q most v last wh en) : W.cell? ⟨q, 0, none⟩ = some (.int .i64 most) := (cell_of_row W q 0 _ _ _ h).trans rfl
theorem LogAt.c1 (h : LogAt W q most v last wh en) : W.cell? ⟨q, 1, none⟩ = some v := (cell_of_row W q 1 _ _ _ h).trans rfl
theorem LogAt.c2 (h : LogAt W q most v last wh en) : W.cell? ⟨q, 2, none⟩ = some (.int .i64 last) := (cell_of_row W q 2 _ _ _ h).trans rfl
theorem LogAt.c3 (h : LogAt W q most v last wh en) : W.cell? ⟨q, 3, none⟩ = some (.int .i64 wh) := (cell_of_row W q 3 _ _ _ h).trans rfl
theorem LogAt.c4 (h : LogAt W q most v last wh en) : W.cell? ⟨q, 4, none⟩ = some (.int .i64 en) := (cell_of_row W q 4 _ _ _ h).trans rfl
theorem LogAt.free (h : LogAt W q most v last wh en) (i : Nat) : W.frozen? ⟨q, i, none⟩ = false := frozen_of_row W q i _ _ h
theorem LogAt.s1 (h : LogAt W q most v last wh en) (x : Value) : LogAt (W.setCell ⟨q, 1, none⟩ x) q most x last wh en := (heap_setCell_same W q 1 _ _ x h).trans rfl
theorem LogAt.s2 (h : LogAt W q most v last wh en) (x : Nat) : LogAt (W.setCell ⟨q, 2, none⟩ (.int .i64 x)) q most v x wh en := (heap_setCell_same W q 2 _ _ _ h).trans rfl
theorem LogAt.s3 (h : LogAt W q most v last wh en) (x : Nat) : LogAt (W.setCell ⟨q, 3, none⟩ (.int .i64 x)) q most v last x en := (heap_setCell_same W q 3 _ _ _ h).trans rfl
theorem LogAt.s4 (h : LogAt W q most v last wh en) (x : Nat) : LogAt (W.setCell ⟨q, 4, none⟩ (.int .i64 x)) q most v last wh x := (heap_setCell_same W q 4 _ _ _ h).trans rfl
/-- A log's row is no log's box. -/
theorem Row.ne_log {B k : Nat} {u : Value} {l : Bytes} (h : Row W B u k l) (hq : LogAt W q most v last wh en) {g : Nat} (hg : u.ownBlock = some g) : g ≠ q := by
  rintro rfl
  rcases h.2 with ⟨rfl, -⟩ | ⟨g2, cap, cur, rfl, -, h2, -⟩
  · cases hg
  · obtain rfl : g2 = g := by simpa [Value.ownBlock] using hg
    have h3 : W.heap[g2]? = _ := hq
    rw [h2] at h3
    simp only [Option.some.injEq, Obj.cells.injEq] at h3
    exact absurd h3.2.1 (by decide)
end
/-- The log s lies at q, its blocks at og, both at B or beyond. -/
structure IsLog (B : Nat) (W : World) (q : Nat) (og : Option Nat) (s : Lg) : Prop where
  at_ : ∃ v k, LogAt W q s.most v s.last (recs s.b).length (blks (recs s.b)) ∧ Row W B v k s.b ∧ v.ownBlock = og ∧ k ≤ s.most ∧ s.last ≤ k
  most : s.most ≤ 4096
  low : B ≤ q
/-- What a deed on the log leaves: all but its box and its blocks stays. -/
structure Turn (B : Nat) (w w' : World) (q : Nat) (og og' : Option Nat) : Prop where
  below : Below B w w'
  keep : ∀ g, g < w.heap.size → g ≠ q → some g ≠ og → w'.heap[g]? = w.heap[g]?
  at_ : ∀ g, og' = some g → og = some g ∨ w.heap.size ≤ g
theorem Turn.of_below {B : Nat} {w w' : World} {q : Nat} {og : Option Nat} (h : Below w.heap.size w w') (hB : B ≤ w.heap.size) : Turn B w w' q og og :=
  ⟨h.mono hB, fun g hg _ _ => h.block g hg, fun _ hg => .inl hg⟩
theorem Turn.trans {B : Nat} {w w1 w2 : World} {q : Nat} {og og1 og2 : Option Nat} (h : Turn B w w1 q og og1) (k : Turn B w1 w2 q og1 og2) : Turn B w w2 q og og2 := by
  have hs := h.below.size
  refine ⟨h.below.trans k.below, fun g hg hq hne => (k.keep g (by omega) hq (fun e => ?_)).trans (h.keep g hg hq hne), fun g hg => ?_⟩
  · rcases h.at_ g e.symm with h1 | h1
    · exact hne h1.symm
    · omega
  · rcases k.at_ g hg with h1 | h1
    · exact h.at_ g h1
    · exact .inr (by omega)
theorem IsLog.lt {B : Nat} {W : World} {q : Nat} {og : Option Nat} {s : Lg} (h : IsLog B W q og s) : q < W.heap.size := by
  obtain ⟨v, k, h1, -⟩ := h.at_
  exact h1.lt
theorem IsLog.own {B : Nat} {W : World} {q : Nat} {og : Option Nat} {s : Lg} (h : IsLog B W q og s) {g : Nat} (hg : og = some g) : g < W.heap.size ∧ B ≤ g ∧ g ≠ q := by
  obtain ⟨v, k, h1, h2, rfl, -⟩ := h.at_
  exact ⟨h2.lt hg, h2.low hg, h2.ne_log h1 hg⟩
theorem IsLog.of_heap {B : Nat} {W W' : World} {q : Nat} {og : Option Nat} {s : Lg} (h : IsLog B W q og s) (hq : W'.heap[q]? = W.heap[q]?) (hg : ∀ g, og = some g → W'.heap[g]? = W.heap[g]?) : IsLog B W' q og s := by
  obtain ⟨v, k, h1, h2, h3, h4⟩ := h.at_
  exact ⟨⟨v, k, h1.of_heap hq, h2.of_heap fun g e => hg g (h3 ▸ e), h3, h4⟩, h.most, h.low⟩
theorem IsLog.after {B : Nat} {W W' : World} {q : Nat} {og : Option Nat} {s : Lg} (h : IsLog B W q og s) (hb : Below W.heap.size W W') : IsLog B W' q og s := h.of_heap (hb.block q h.lt) fun g hg => hb.block g (h.own hg).1

theorem Turn.set {B : Nat} {w : World} {q : Nat} (og : Option Nat) (hB : B ≤ q) (i : Nat) (x : Value) : Turn B w (w.setCell ⟨q, i, none⟩ x) q og og :=
  ⟨(Below.refl _ _).setCell (p := ⟨q, i, none⟩) hB x, fun g _ hq _ => heap_setCell_other _ ⟨q, i, none⟩ g _ hq, fun _ hg => .inl hg⟩
theorem Row.set {W : World} {B k most last wh en q : Nat} {u v : Value} {l : Bytes} (h : Row W B u k l) (hq : LogAt W q most v last wh en) (i : Nat) (x : Value) : Row (W.setCell ⟨q, i, none⟩ x) B u k l :=
  h.of_heap fun g hg => heap_setCell_other _ ⟨q, i, none⟩ g _ (h.ne_log hq hg)
/-! What is new; what only reads. -/
theorem wrap_id {z : Int} (h1 : -9223372036854775808 ≤ z) (h2 : z ≤ 9223372036854775807) : IntKind.i64.wrap z = z := by
  simp only [IntKind.wrap, IntKind.bits, IntKind.signed]
  go_num
theorem recs_nil : recs [] = [] := rfl
theorem new_no (n : Int) (w : World) (h : n < 1 ∨ 4096 < n) : Calls Try.prog 27 #[.int .i64 n] w fun e w' => e = .returned (.pointer none) ∧ w' = w := by
  by_cases h1 : n < 1
  · go_enter Try.func27, Try.ntmps27
    go_wp2
    go_ret
    exact ⟨rfl, rfl⟩
  · have h2 : 4096 < n := by omega
    go_enter Try.func27, Try.ntmps27
    go_wp2
    go_ret
    exact ⟨rfl, rfl⟩
theorem new_any (n : Nat) (w : World) (h1 : 1 ≤ n) (h2 : n ≤ 4096) : Calls Try.prog 27 #[.int .i64 (n : Int)] w fun e w' => e = .returned (.pointer (some ⟨w.heap.size, 0, none⟩)) ∧ IsLog w.heap.size w' w.heap.size none ⟨n, 0, []⟩ ∧ Below w.heap.size w w' := by
  have h3 : ¬ (n : Int) < 1 := by omega
  have h4 : ¬ (4096 : Int) < (n : Int) := by omega
  go_enter Try.func27, Try.ntmps27
  go_wp2
  go_ret
  refine ⟨rfl, ⟨⟨.slice none 0 0, 0, heap_alloc_new w _, Row.nil _ _, rfl, Nat.zero_le _, Nat.le_refl _⟩, h2, Nat.le_refl _⟩, (Below.refl _ _).alloc (Nat.le_refl _) _⟩
theorem free_any (B q : Nat) (og : Option Nat) (s : Lg) (w : World) (h : IsLog B w q og s) : Calls Try.prog 26 #[.pointer (some ⟨q, 0, none⟩)] w fun e w' => e = .returned (.int .i64 ((s.most : Int) - ((s.b.length / 64 : Nat) : Int))) ∧ Below w.heap.size w w' := by
  obtain ⟨v, k, h1, h2, h3, h4, h5⟩ := h.at_
  have hm := h.most
  have hk : s.b.length / 64 = k := by rw [h2.1]; omega
  obtain ⟨a, c, rfl⟩ := h2.blks.shape
  have HQ := Lib.hid h1
  have HB : Hid (Below w.heap.size w w) := Below.refl _ _
  rw [hk]
  generalize (recs s.b).length = wh at *
  generalize blks (recs s.b) = en at *
  clear h h1 h2 h3 h5 hk
  go_enter Try.func26, Try.ntmps26
  go_wp2
  refine wp_region_held_drew (S := fun V => LogAt V q s.most (.slice a k c) s.last wh en ∧ Below w.heap.size w V) (by kernel_rfl) ⟨HQ.out, HB.out.drew⟩ (fun _ => ?_)
  refine HeldBy.gen (fun V => LogAt V q s.most (.slice a k c) s.last wh en ∧ Below w.heap.size w V) ⟨HQ.out, HB.out.drew⟩ ?_
  clear HQ HB
  rintro U0 HS
  refine HeldBy.take (i := 0) rfl (by kernel_rfl) (by kernel_rfl) (by kernel_rfl) (fun _ _ _ h => h) (by rfl) (fun _ _ => by first | (go_simp; rfl) | (go_simp; done)) (by go_simp; rfl) HS ?_
  refine HeldBy.take (i := 1) rfl (by kernel_rfl) (by kernel_rfl) (by kernel_rfl) (fun _ _ _ h => h) (by rfl) (fun _ _ => by first | (go_simp; rfl) | (go_simp; done)) (by go_simp; rfl) HS ?_
  refine HeldBy.take (i := 2) rfl (by kernel_rfl) (by kernel_rfl) (by kernel_rfl) (fun _ _ _ h => h) (by rfl) (fun _ _ => by first | (go_simp; rfl) | (go_simp; done)) (by go_simp; rfl) HS ?_
  refine HeldBy.take (i := 3) rfl (by kernel_rfl) (by kernel_rfl) (by kernel_rfl) (fun _ _ _ h => h) (by rfl) (fun V hV => by have hc := hV.1.c0; first | (go_simp; rfl) | (go_simp; done)) (by go_simp; rfl) HS ?_
  refine HeldBy.take (i := 4) rfl (by kernel_rfl) (by kernel_rfl) (by kernel_rfl) (fun _ _ _ h => h) (by rfl) (fun _ _ => by first | (go_simp; rfl) | (go_simp; done)) (by go_simp; rfl) HS ?_
  refine HeldBy.take (i := 5) rfl (by kernel_rfl) (by kernel_rfl) (by kernel_rfl) (fun _ _ _ h => h) (by rfl) (fun _ _ => by first | (go_simp; rfl) | (go_simp; done)) (by go_simp; rfl) HS ?_
  refine HeldBy.take (i := 6) rfl (by kernel_rfl) (by kernel_rfl) (by kernel_rfl) (fun _ _ _ h => h) (by rfl) (fun _ _ => by first | (go_simp; rfl) | (go_simp; done)) (by go_simp; rfl) HS ?_
  refine HeldBy.take (i := 7) rfl (by kernel_rfl) (by kernel_rfl) (by kernel_rfl) (fun _ _ _ h => h) (by rfl) (fun V hV => by have hc := hV.1.c1; first | (go_simp; rfl) | (go_simp; done)) (by go_simp; rfl) HS ?_
  refine HeldBy.take (i := 8) rfl (by kernel_rfl) (by kernel_rfl) (by kernel_rfl) (fun _ _ _ h => h) (by rfl) (fun _ _ => by first | (go_simp; rfl) | (go_simp; done)) (by go_simp; rfl) HS ?_
  refine HeldBy.take (i := 9) rfl (by kernel_rfl) (by kernel_rfl) (by kernel_rfl) (fun _ _ _ h => h) (by rfl) (fun _ _ => by first | (go_simp; rfl) | (go_simp; done)) (by go_simp; rfl) HS ?_
  refine HeldBy.take (i := 10) rfl (by kernel_rfl) (by kernel_rfl) (by kernel_rfl) (fun _ _ _ h => h) (by rfl) (fun _ _ => by first | (go_simp; rfl) | (go_simp; done)) (by go_simp; rfl) HS ?_
  refine wpAnyH_done (by kernel_rfl) ?_ _
  have HBN := Lib.hid HS.2
  clear HS
  go_wp2
  go_ret
  refine ⟨?_, HBN.out⟩
  show Ending.returned (.int .i64 (IntKind.i64.wrap ((s.most : Int) - (k : Int)))) = _
  rw [wrap_id (by omega) (by omega)]
theorem sync_any (B q : Nat) (og : Option Nat) (s : Lg) (w : World) (h : IsLog B w q og s) : Calls Try.prog 18 #[.pointer (some ⟨q, 0, none⟩)] w fun e w' => e = .returned (.int .i64 0) ∧ IsLog B w' q og ⟨s.most, s.b.length / 64, s.b⟩ ∧ Turn B w w' q og og := by
  obtain ⟨v, k, h1, h2, h3, h4, h5⟩ := h.at_
  have hm := h.most
  have hk : s.b.length / 64 = k := by rw [h2.1]; omega
  obtain ⟨a, c, rfl⟩ := h2.blks.shape
  have HL := Lib.hid h
  have H1 := Lib.hid h1
  have H2 := Lib.hid h2
  have H3 := Lib.hid h3
  have H4 : Hid (k ≤ s.most) := h4
  have c1 := h1.c1
  have f2 := h1.free 2
  have c2 := h1.c2
  rw [hk]
  clear h h1 h2 h3 h4 h5
  go_enter Try.func18, Try.ntmps18
  go_wp2
  go_ret
  refine ⟨rfl, ⟨⟨_, k, H1.out.s2 k, H2.out.set H1.out 2 _, H3.out, H4.out, Nat.le_refl _⟩, hm, HL.out.low⟩, Turn.set _ HL.out.low 2 _⟩
theorem bytes_any (B q : Nat) (og : Option Nat) (s : Lg) (w : World) (h : IsLog B w q og s) : Calls Try.prog 20 #[.pointer (some ⟨q, 0, none⟩)] w fun e w' => ∃ r, e = .returned r ∧ Held w' w.heap.size r s.b ∧ Below w.heap.size w w' := by
  obtain ⟨v, k, h1, h2, h3, h4, h5⟩ := h.at_
  have hm := h.most
  have c1 := h1.c1
  have H2 := Lib.hid (joined_any v k s.b w h2.blks (by omega))
  clear h1 h2 h h3 h4 h5
  go_enter Try.func20, Try.ntmps20
  go_wp2_with (go_at_call 36; refine H2.out.mono ?_; rintro e w' ⟨r, rfl, hr, hb⟩)
  go_ret
  exact ⟨_, rfl, hr, hb⟩
end Go.Proofs.Ytfiahkomabllaaa.L
