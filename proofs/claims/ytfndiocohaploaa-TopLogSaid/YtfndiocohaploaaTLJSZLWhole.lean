/- Own work. -/
import Derived.Handy
import Derived.LoopIn
import Derived.LoopNIn
import Derived.OwnWalkIn
import Derived.Test.YtfndiocohaploaaTLSZLFirst
import Derived.Test.YtfndiocohaploaaTLJSZRangeRow
import Derived.Test.YtfndiocohaploaaTLJSZHeldBy
import Derived.RangeFuncKeeps
import Derived.Shelf.Abstract
import Derived.Test.YtfndiocohaploaaTLJSZLWrit0
namespace Go.Proofs.Ytfndiocohaploaa.L
open Go Go.RowKit
open Go.Lib
attribute [local go_sem] Oper.semAt_some
def Boxed (W : World) (b : Nat) (t : TypeId) (v : Value) : Prop := W.heap[b]? = some (.cells #[v] t (0, 0))
section
variable {W W' : World} {b : Nat} {t : TypeId} {v : Value}
theorem Boxed.lt (h : Boxed W b t v) : b < W.heap.size := (Array.getElem?_eq_some_iff.1 h).1
theorem Boxed.cell (h : Boxed W b t v) : W.cell? ⟨b, 0, none⟩ = some v := (cell_of_row W b 0 _ _ _ h).trans rfl
theorem Boxed.frozen (h : Boxed W b t v) : W.frozen? ⟨b, 0, none⟩ = false := frozen_of_row W b 0 _ _ h
theorem Boxed.of_heap (h : Boxed W b t v) (he : W'.heap[b]? = W.heap[b]?) : Boxed W' b t v := he.trans h
theorem Boxed.after (h : Boxed W b t v) (hb : Below W.heap.size W W') : Boxed W' b t v := h.of_heap (hb.block b h.lt)
theorem Boxed.set (h : Boxed W b t v) (x : Value) : Boxed (W.setCell ⟨b, 0, none⟩ x) b t x := (heap_setCell_same W b 0 _ _ x h).trans rfl
theorem Boxed.new (W : World) (t : TypeId) (v : Value) : Boxed (W.alloc (.cells #[v] t (0, 0))) W.heap.size t v := heap_alloc_new W _
end
abbrev tBs : TypeId := 68
theorem whole_any (a : Option Addr) (k c : Nat) (n : Int) (w : World) : Calls Try.prog 24 #[.slice a k c, .int .i64 n] w fun e w' => e = .returned (.func (.func 44) #[] #[.pointer (some ⟨w.heap.size, 0, none⟩), .pointer (some ⟨w.heap.size + 1, 0, none⟩)]) ∧
    (w.alloc (.cells #[.slice a k c] tBs)).alloc (.cells #[.int .i64 n] 3) = w' := by
  go_enter Try.func24, Try.ntmps24
  go_wp2
  go_ret
  exact ⟨rfl, rfl⟩
abbrev Rec := Value × Bytes
def encR (x : Rec) : Array Value := #[x.1]
def Seen (x : Rec) (W : World) : Prop := BytesU W x.1 x.2
def AllOf (l : Bytes) (n : Nat) (xs : List Rec) : Prop := All (xs.map (·.2)) l n
theorem own_below {α : Type} {B : Nat} {J : α → World → Prop} (hJ : OwnFrom B J) {s : α} {A W : World} (h : J s A) (hb : Below A.heap.size A W) : J s W :=
  hJ s A W none h (grown_of_below hb none) (fun r e => by cases e)
def lenV : Value → Nat
  | .slice _ n _ => n
  | _ => 0
structure At (k : Nat) (l : Bytes) (n : Nat) (og : Option Nat) (J : List Rec → World → Prop) (xs : List Rec) (r : Value) (W : World) : Prop where
  left : BlksIn W r (k - blks (xs.map (·.2))) (l.drop (blks (xs.map (·.2)) * 64))
  told : Begin (xs.map (·.2)) l n
  own : r.ownBlock = og
  inv : J xs W
set_option maxRecDepth 100000 in
set_option maxHeartbeats 4000000 in
theorem whole_seq (m : Nat) (hm : 3 ≤ m) (a : Option Addr) (k c : Nat) (l : Bytes) (n Ba Bn lo hi N0 : Nat) (E : TypeId) (w : World) (hv : BlksIn w (.slice a k c) k l) (hba : Boxed w Ba tBs (.slice a k c)) (hbn : Boxed w Bn 3 (.int .i64 (n : Int))) (hk : k ≤ 1000000) (hn : n ≤ 100000000000)
    (hN : w.heap.size ≤ N0) (hx : ∀ g, (Value.slice a k c).ownBlock = some g → ¬ (lo ≤ g ∧ g < hi)) :
    RangeSeen.Seq Fence.wide m Try.prog 44 #[.pointer (some ⟨Ba, 0, none⟩), .pointer (some ⟨Bn, 0, none⟩)] encR lo hi N0 E Seen (AllOf l n) (fun _ => True) k w := fun L J Jx W hW hL hLW hJ hJx hY h0 => by
  have HV := Lib.hid (hv.after hW)
  have HLT : Hid (∀ g, (Value.slice a k c).ownBlock = some g → g < w.heap.size) := fun g hg => hv.lt hg
  have HX := Lib.hid hx
  have HJ := Lib.hid hJ
  have HY := Lib.hid hY
  have H0 := Lib.hid h0
  have HLL : Hid (l.length = k * 64) := hv.1
  have hWW := hW.size
  have c1 := (hba.after hW).cell
  have c2 := (hbn.after hW).cell
  have HLW : Hid (w.heap.size ≤ L) := hL
  clear hv hba hbn hx hW hJ hJx hY h0 hL
  obtain ⟨og, hog⟩ : ∃ o, (Value.slice a k c).ownBlock = o := ⟨_, rfl⟩
  rw [hog] at HLT HX
  have HA0 : Hid (At k l n og J [] (.slice a k c) W) := ⟨by simpa [blks] using HV.out, trivial, hog, H0.out⟩
  refine callsIn_of_wp Try.func44 rfl trivial ?_ rfl
  simp only [Try.ntmps44, List.size_toArray, List.length_cons, List.length_nil, Nat.reduceAdd, Nat.reduceSub, Array.replicate_succ, Array.replicate_zero, List.push_toArray, List.append_toArray, List.nil_append, List.cons_append]
  gi_wp2
  gi_loopw [4, 5] (fun r nv wr => ∃ (xs : List Rec) (nn : Nat), nn = n + xs.length ∧ nv = .int .i64 (nn : Int) ∧ At k l n og J xs r wr ∧ w.heap.size ≤ wr.heap.size) (fun r _ _ => lenV r)
  case atStart => exact ⟨[], n, rfl, rfl, HA0.out, hWW⟩
  case round =>
    clear HA0 H0 HV c1 c2
    obtain ⟨xs, nn, hnn0, rfl, hat, hsz⟩ := hrel
    have HAT := Lib.hid hat
    have hle := hat.told.le
    have hpos := hat.told.pos
    rw [List.length_map] at hpos
    have hnn : nn ≤ 1000000000000 := by have := HLL.out; omega
    have HNN := Lib.hid hnn0
    have HFI : Hid (CallsIn Fence.wide (m - 1) Try.prog 45 #[u4, .int .i64 (nn : Int)] wr fun e w' => FirstA wr (first (l.drop (blks (xs.map (·.2)) * 64)) nn) e w') := callsIn_wide.2 (first_any _ _ _ nn wr hat.left hnn)
    clear hat hnn0
    cases hf : first (l.drop (blks (xs.map (·.2)) * 64)) nn with
    | none =>
      have HF := Lib.hid hf
      rw [hf] at HFI
      clear hf
      gi_wp2_with fail
      refine ⟨trivial, fun h => (by cases h), HFI.out.mono ?_⟩
      rintro e W2 ⟨hb2, rfl⟩
      have HJ2 := Lib.hid (own_below HJ.out HAT.out.inv hb2)
      clear hb2
      gi_wp2
      refine ⟨fun f h => (by cases h), ?_⟩
      gi_wp2
      refine bodyPost_ret (results_none rfl _ _ _) rfl ?_
      exact ⟨⟨_, rfl⟩, .inl ⟨xs, ⟨HAT.out.told, by rw [List.length_map, ← HNN.out]; exact HF.out⟩, HJ2.out⟩⟩
    | some rec =>
      have HF := Lib.hid hf
      rw [hf] at HFI
      obtain ⟨hn1, -, hn3, -⟩ := first_some hf
      rw [List.length_drop] at hn3
      have hrm := need_room hn1
      clear hf
      gi_wp2_with fail
      refine ⟨trivial, fun h => (by cases h), HFI.out.mono ?_⟩
      rintro e W2 ⟨hb2, v, rfl, hv2⟩
      have hlen : xs.length < k := by have := HLL.out; omega
      obtain ⟨fn, tmps, assign, body, hy, hR⟩ := HY.out xs (v, rec) W2 (own_below HJ.out HAT.out.inv hb2) hv2 hlen
      change Sem.run Try.prog (Instr.yield L #[v]) _ = _ at hy
      have HR := Lib.hid hR
      have HLF : Hid (BlksIn W2 u4 (k - blks (xs.map (·.2))) (l.drop (blks (xs.map (·.2)) * 64))) := HAT.out.left.after hb2
      obtain ⟨va, vk, vc, rfl⟩ := hv2.bytes.shape
      obtain rfl : vk = rec.length := by obtain ⟨_, _, _, _, h, -⟩ := hv2; cases h; rfl
      have hb2s := hb2.size
      clear hb2 hv2 hR
      gi_wp2
      refine ⟨fun h => (by cases h), HR.out.mono ?_⟩
      have HND : Hid (∀ W, CallsIn Fence.wide (m - 1) Try.prog 31 #[.int .i64 (rec.length : Int)] W fun e w' => e = .returned (.int .i64 (need rec.length : Nat)) ∧ w' = W) := fun W => callsIn_wide.2 (by
        have := need_any (rec.length : Int) W (by omega)
        rwa [Int.toNat_natCast] at this)
      rintro e W3 (⟨rfl, hJ3, hk3⟩ | ⟨rfl, hJ3, hk3⟩)
      · have hog := HAT.out.own
        have hL3 : BlksIn W3 u4 (k - blks (xs.map (·.2))) (l.drop (blks (xs.map (·.2)) * 64)) := HLF.out.of_heap hk3.1 fun g hg => by
          have h1 := HLT.out g (by rw [← hg, hog])
          exact hk3.2 g (HLF.out.lt hg) (by have := HLW.out; omega) (HX.out g (by rw [← hg, hog])) (.inl (by omega))
        obtain ⟨v5, hs5, hv5, ho5⟩ := hL3.tail (n := need rec.length) (by have := HLL.out; omega) .i64
        have e1 : k - blks (xs.map (·.2)) - need rec.length = k - blks ((xs ++ [((.slice va rec.length vc, rec) : Rec)]).map (·.2)) := by
          rw [List.map_append, blks_append]
          simp only [List.map_cons, List.map_nil, blks]
          omega
        have e2 : (l.drop (blks (xs.map (·.2)) * 64)).drop (need rec.length * 64) = l.drop (blks ((xs ++ [((.slice va rec.length vc, rec) : Rec)]).map (·.2)) * 64) := by
          rw [List.drop_drop, List.map_append, blks_append]
          congr 1
          simp only [List.map_cons, List.map_nil, blks]
          omega
        have HN : Hid (At k l n og J (xs ++ [((.slice va rec.length vc, rec) : Rec)]) v5 W3) := ⟨by rw [← e1, ← e2]; exact hv5, by rw [List.map_append]; exact HAT.out.told.snoc (by rw [List.length_map, ← HNN.out]; exact HF.out), ho5.trans hog, hJ3⟩
        obtain ⟨a5, c5, rfl⟩ := hv5.shape
        obtain ⟨a4, c4, rfl⟩ := HLF.out.shape
        have HSZ : Hid (w.heap.size ≤ W3.heap.size) := Nat.le_trans (Nat.le_trans hsz hb2s) hk3.1
        have HLL2 : Hid (nn + 1 = n + (xs ++ [((.slice va rec.length vc, rec) : Rec)]).length) := by show _ = _; rw [List.length_append, HNN.out]; rfl
        have hnz : 1 ≤ need rec.length := by omega
        have hkk : need rec.length ≤ k - blks (xs.map (·.2)) := by have := HLL.out; omega
        clear hJ3 hk3 hL3 hv5 ho5 e1 e2 hog hy
        gi_wp2
        refine ⟨trivial, fun h => (by cases h), (HND.out _).mono ?_⟩
        rintro e W4 ⟨rfl, rfl⟩
        gi_wp2
        exact ⟨⟨_, nn + 1, HLL2.out, by go_num, HN.out, HSZ.out⟩, by simp [lenV]; omega⟩
      · have HJ4 := Lib.hid hJ3
        clear hJ3 hk3 hy
        gi_wp2
        refine bodyPost_ret (results_none rfl _ _ _) rfl ?_
        exact ⟨⟨_, rfl⟩, .inr ⟨_, trivial, HJ4.out⟩⟩
end Go.Proofs.Ytfndiocohaploaa.L
namespace Go.Proofs.Ytfndiocohaploaa.L
open Go Go.RowKit
open Go.Lib
structure Lg where
  most : Nat
  last : Nat
  b : Bytes
def cellsL (most : Nat) (v : Value) (last wh en : Nat) : Array Value := #[.int .i64 most, v, .int .i64 last, .int .i64 wh, .int .i64 en]
def LogAt (W : World) (q : Nat) (most : Nat) (v : Value) (last wh en : Nat) : Prop := W.heap[q]? = some (.cells (cellsL most v last wh en) 70 (0, 0))
section
variable {W W' : World} {q most last wh en : Nat} {v : Value}
theorem LogAt.lt (h : LogAt W q most v last wh en) : q < W.heap.size := (Array.getElem?_eq_some_iff.1 h).1
theorem LogAt.of_heap (h : LogAt W q most v last wh en) (he : W'.heap[q]? = W.heap[q]?) : LogAt W' q most v last wh en := he.trans h
theorem LogAt.after (h : LogAt W q most v last wh en) (hb : Below W.heap.size W W') : LogAt W' q most v last wh en := h.of_heap (hb.block q h.lt)
theorem LogAt.drew (h : LogAt W q most v last wh en) : LogAt W.drew q most v last wh en := h
theorem LogAt.c0 (h : LogAt W q most v last wh en) : W.cell? ⟨q, 0, none⟩ = some (.int .i64 most) := (cell_of_row W q 0 _ _ _ h).trans rfl
theorem LogAt.c1 (h : LogAt W q most v last wh en) : W.cell? ⟨q, 1, none⟩ = some v := (cell_of_row W q 1 _ _ _ h).trans rfl
theorem LogAt.c2 (h : LogAt W q most v last wh en) : W.cell? ⟨q, 2, none⟩ = some (.int .i64 last) := (cell_of_row W q 2 _ _ _ h).trans rfl
theorem LogAt.c3 (h : LogAt W q most v last wh en) : W.cell? ⟨q, 3, none⟩ = some (.int .i64 wh) := (cell_of_row W q 3 _ _ _ h).trans rfl
theorem LogAt.c4 (h : LogAt W q most v last wh en) : W.cell? ⟨q, 4, none⟩ = some (.int .i64 en) := (cell_of_row W q 4 _ _ _ h).trans rfl
theorem LogAt.free (h : LogAt W q most v last wh en) (i : Nat) : W.frozen? ⟨q, i, none⟩ = false := frozen_of_row W q i _ _ h
theorem LogAt.s1 (h : LogAt W q most v last wh en) (x : Value) : LogAt (W.setCell ⟨q, 1, none⟩ x) q most x last wh en := (heap_setCell_same W q 1 _ _ x h).trans rfl
theorem LogAt.s2 (h : LogAt W q most v last wh en) (x : Nat) : LogAt (W.setCell ⟨q, 2, none⟩ (.int .i64 x)) q most v x wh en := (heap_setCell_same W q 2 _ _ _ h).trans rfl
theorem LogAt.s3 (h : LogAt W q most v last wh en) (x : Nat) : LogAt (W.setCell ⟨q, 3, none⟩ (.int .i64 x)) q most v last x en := (heap_setCell_same W q 3 _ _ _ h).trans rfl
theorem LogAt.s4 (h : LogAt W q most v last wh en) (x : Nat) : LogAt (W.setCell ⟨q, 4, none⟩ (.int .i64 x)) q most v last wh x := (heap_setCell_same W q 4 _ _ _ h).trans rfl
theorem Row.ne_log {B k : Nat} {u : Value} {l : Bytes} (h : Row W B u k l) (hq : LogAt W q most v last wh en) {g : Nat} (hg : u.ownBlock = some g) : g ≠ q := by
  rintro rfl
  rcases h.2 with ⟨rfl, -⟩ | ⟨g2, cap, cur, rfl, -, h2, -⟩
  · cases hg
  · obtain rfl : g2 = g := by simpa [Value.ownBlock] using hg
    have h3 : W.heap[g2]? = _ := hq
    rw [h2] at h3
    simp only [Option.some.injEq, Obj.cells.injEq] at h3
    exact absurd h3.2.1 (by decide)
end
structure IsLog (B : Nat) (W : World) (q : Nat) (og : Option Nat) (s : Lg) : Prop where
  at_ : ∃ v k, LogAt W q s.most v s.last (recs s.b).length (blks (recs s.b)) ∧ Row W B v k s.b ∧ v.ownBlock = og ∧ k ≤ s.most ∧ s.last ≤ k
  most : s.most ≤ 4096
  low : B ≤ q
structure Turn (B : Nat) (w w' : World) (q : Nat) (og og' : Option Nat) : Prop where
  below : Below B w w'
  keep : ∀ g, g < w.heap.size → g ≠ q → some g ≠ og → w'.heap[g]? = w.heap[g]?
  at_ : ∀ g, og' = some g → og = some g ∨ w.heap.size ≤ g
theorem Turn.of_below {B : Nat} {w w' : World} {q : Nat} {og : Option Nat} (h : Below w.heap.size w w') (hB : B ≤ w.heap.size) : Turn B w w' q og og :=
  ⟨h.mono hB, fun g hg _ _ => h.block g hg, fun _ hg => .inl hg⟩
theorem Turn.trans {B : Nat} {w w1 w2 : World} {q : Nat} {og og1 og2 : Option Nat} (h : Turn B w w1 q og og1) (k : Turn B w1 w2 q og1 og2) : Turn B w w2 q og og2 := by
  have hs := h.below.size
  refine ⟨h.below.trans k.below, fun g hg hq hne => (k.keep g (by omega) hq (fun e => ?_)).trans (h.keep g hg hq hne), fun g hg => ?_⟩
  · rcases h.at_ g e.symm with h1 | h1
    · exact hne h1.symm
    · omega
  · rcases k.at_ g hg with h1 | h1
    · exact h.at_ g h1
    · exact .inr (by omega)
theorem IsLog.lt {B : Nat} {W : World} {q : Nat} {og : Option Nat} {s : Lg} (h : IsLog B W q og s) : q < W.heap.size := by
  obtain ⟨v, k, h1, -⟩ := h.at_
  exact h1.lt
theorem IsLog.own {B : Nat} {W : World} {q : Nat} {og : Option Nat} {s : Lg} (h : IsLog B W q og s) {g : Nat} (hg : og = some g) : g < W.heap.size ∧ B ≤ g ∧ g ≠ q := by
  obtain ⟨v, k, h1, h2, rfl, -⟩ := h.at_
  exact ⟨h2.lt hg, h2.low hg, h2.ne_log h1 hg⟩
theorem IsLog.of_heap {B : Nat} {W W' : World} {q : Nat} {og : Option Nat} {s : Lg} (h : IsLog B W q og s) (hq : W'.heap[q]? = W.heap[q]?) (hg : ∀ g, og = some g → W'.heap[g]? = W.heap[g]?) : IsLog B W' q og s := by
  obtain ⟨v, k, h1, h2, h3, h4⟩ := h.at_
  exact ⟨⟨v, k, h1.of_heap hq, h2.of_heap fun g e => hg g (h3 ▸ e), h3, h4⟩, h.most, h.low⟩
theorem IsLog.after {B : Nat} {W W' : World} {q : Nat} {og : Option Nat} {s : Lg} (h : IsLog B W q og s) (hb : Below W.heap.size W W') : IsLog B W' q og s := h.of_heap (hb.block q h.lt) fun g hg => hb.block g (h.own hg).1
theorem Turn.set {B : Nat} {w : World} {q : Nat} (og : Option Nat) (hB : B ≤ q) (i : Nat) (x : Value) : Turn B w (w.setCell ⟨q, i, none⟩ x) q og og :=
  ⟨(Below.refl _ _).setCell (p := ⟨q, i, none⟩) hB x, fun g _ hq _ => heap_setCell_other _ ⟨q, i, none⟩ g _ hq, fun _ hg => .inl hg⟩
theorem Row.set {W : World} {B k most last wh en q : Nat} {u v : Value} {l : Bytes} (h : Row W B u k l) (hq : LogAt W q most v last wh en) (i : Nat) (x : Value) : Row (W.setCell ⟨q, i, none⟩ x) B u k l :=
  h.of_heap fun g hg => heap_setCell_other _ ⟨q, i, none⟩ g _ (h.ne_log hq hg)
theorem wrap_id {z : Int} (h1 : -9223372036854775808 ≤ z) (h2 : z ≤ 9223372036854775807) : IntKind.i64.wrap z = z := by
  simp only [IntKind.wrap, IntKind.bits, IntKind.signed]
  go_num
theorem new_any (n : Nat) (w : World) (h1 : 1 ≤ n) (h2 : n ≤ 4096) : Calls Try.prog 15 #[.int .i64 (n : Int)] w fun e w' => e = .returned (.pointer (some ⟨w.heap.size, 0, none⟩)) ∧ IsLog w.heap.size w' w.heap.size none ⟨n, 0, []⟩ ∧ Below w.heap.size w w' := by
  have h3 : ¬ (n : Int) < 1 := by omega
  have h4 : ¬ (4096 : Int) < (n : Int) := by omega
  go_enter Try.func15, Try.ntmps15
  go_wp2
  go_ret
  refine ⟨rfl, ⟨⟨.slice none 0 0, 0, heap_alloc_new w _, Row.nil _ _, rfl, Nat.zero_le _, Nat.le_refl _⟩, h2, Nat.le_refl _⟩, (Below.refl _ _).alloc (Nat.le_refl _) _⟩
theorem free_any (B q : Nat) (og : Option Nat) (s : Lg) (w : World) (h : IsLog B w q og s) : Calls Try.prog 32 #[.pointer (some ⟨q, 0, none⟩)] w fun e w' => e = .returned (.int .i64 ((s.most : Int) - ((s.b.length / 64 : Nat) : Int))) ∧ Below w.heap.size w w' := by
  obtain ⟨v, k, h1, h2, h3, h4, h5⟩ := h.at_
  have hm := h.most
  have hk : s.b.length / 64 = k := by rw [h2.1]; omega
  obtain ⟨a, c, rfl⟩ := h2.blks.shape
  have HQ := Lib.hid h1
  have HB : Hid (Below w.heap.size w w) := Below.refl _ _
  rw [hk]
  generalize (recs s.b).length = wh at *
  generalize blks (recs s.b) = en at *
  clear h h1 h2 h3 h5 hk
  go_enter Try.func32, Try.ntmps32
  go_wp2
  refine wp_region_held_drew (S := fun V => LogAt V q s.most (.slice a k c) s.last wh en ∧ Below w.heap.size w V) (by kernel_rfl) ⟨HQ.out, HB.out.drew⟩ (fun _ => ?_)
  refine HeldBy.gen (fun V => LogAt V q s.most (.slice a k c) s.last wh en ∧ Below w.heap.size w V) ⟨HQ.out, HB.out.drew⟩ ?_
  clear HQ HB
  rintro U0 HS
  refine HeldBy.take (i := 0) rfl (by kernel_rfl) (by kernel_rfl) (by kernel_rfl) (fun _ _ _ h => h) (by rfl) (fun _ _ => by first | (go_simp; rfl) | (go_simp; done)) (by go_simp; rfl) HS ?_
  refine HeldBy.take (i := 1) rfl (by kernel_rfl) (by kernel_rfl) (by kernel_rfl) (fun _ _ _ h => h) (by rfl) (fun _ _ => by first | (go_simp; rfl) | (go_simp; done)) (by go_simp; rfl) HS ?_
  refine HeldBy.take (i := 2) rfl (by kernel_rfl) (by kernel_rfl) (by kernel_rfl) (fun _ _ _ h => h) (by rfl) (fun _ _ => by first | (go_simp; rfl) | (go_simp; done)) (by go_simp; rfl) HS ?_
  refine HeldBy.take (i := 3) rfl (by kernel_rfl) (by kernel_rfl) (by kernel_rfl) (fun _ _ _ h => h) (by rfl) (fun V hV => by have hc := hV.1.c0; first | (go_simp; rfl) | (go_simp; done)) (by go_simp; rfl) HS ?_
  refine HeldBy.take (i := 4) rfl (by kernel_rfl) (by kernel_rfl) (by kernel_rfl) (fun _ _ _ h => h) (by rfl) (fun _ _ => by first | (go_simp; rfl) | (go_simp; done)) (by go_simp; rfl) HS ?_
  refine HeldBy.take (i := 5) rfl (by kernel_rfl) (by kernel_rfl) (by kernel_rfl) (fun _ _ _ h => h) (by rfl) (fun _ _ => by first | (go_simp; rfl) | (go_simp; done)) (by go_simp; rfl) HS ?_
  refine HeldBy.take (i := 6) rfl (by kernel_rfl) (by kernel_rfl) (by kernel_rfl) (fun _ _ _ h => h) (by rfl) (fun _ _ => by first | (go_simp; rfl) | (go_simp; done)) (by go_simp; rfl) HS ?_
  refine HeldBy.take (i := 7) rfl (by kernel_rfl) (by kernel_rfl) (by kernel_rfl) (fun _ _ _ h => h) (by rfl) (fun V hV => by have hc := hV.1.c1; first | (go_simp; rfl) | (go_simp; done)) (by go_simp; rfl) HS ?_
  refine HeldBy.take (i := 8) rfl (by kernel_rfl) (by kernel_rfl) (by kernel_rfl) (fun _ _ _ h => h) (by rfl) (fun _ _ => by first | (go_simp; rfl) | (go_simp; done)) (by go_simp; rfl) HS ?_
  refine HeldBy.take (i := 9) rfl (by kernel_rfl) (by kernel_rfl) (by kernel_rfl) (fun _ _ _ h => h) (by rfl) (fun _ _ => by first | (go_simp; rfl) | (go_simp; done)) (by go_simp; rfl) HS ?_
  refine HeldBy.take (i := 10) rfl (by kernel_rfl) (by kernel_rfl) (by kernel_rfl) (fun _ _ _ h => h) (by rfl) (fun _ _ => by first | (go_simp; rfl) | (go_simp; done)) (by go_simp; rfl) HS ?_
  refine wpAnyH_done (by kernel_rfl) ?_ _
  have HBN := Lib.hid HS.2
  clear HS
  go_wp2
  go_ret
  refine ⟨?_, HBN.out⟩
  show Ending.returned (.int .i64 (IntKind.i64.wrap ((s.most : Int) - (k : Int)))) = _
  rw [wrap_id (by omega) (by omega)]
theorem sync_any (B q : Nat) (og : Option Nat) (s : Lg) (w : World) (h : IsLog B w q og s) : Calls Try.prog 41 #[.pointer (some ⟨q, 0, none⟩)] w fun e w' => e = .returned (.int .i64 0) ∧ IsLog B w' q og ⟨s.most, s.b.length / 64, s.b⟩ ∧ Turn B w w' q og og := by
  obtain ⟨v, k, h1, h2, h3, h4, h5⟩ := h.at_
  have hm := h.most
  have hk : s.b.length / 64 = k := by rw [h2.1]; omega
  obtain ⟨a, c, rfl⟩ := h2.blks.shape
  have HL := Lib.hid h
  have H1 := Lib.hid h1
  have H2 := Lib.hid h2
  have H3 := Lib.hid h3
  have H4 : Hid (k ≤ s.most) := h4
  have c1 := h1.c1
  have f2 := h1.free 2
  have c2 := h1.c2
  rw [hk]
  clear h h1 h2 h3 h4 h5
  go_enter Try.func41, Try.ntmps41
  go_wp2
  go_ret
  refine ⟨rfl, ⟨⟨_, k, H1.out.s2 k, H2.out.set H1.out 2 _, H3.out, H4.out, Nat.le_refl _⟩, hm, HL.out.low⟩, Turn.set _ HL.out.low 2 _⟩
end Go.Proofs.Ytfndiocohaploaa.L
namespace Go.Proofs.Ytfndiocohaploaa.L
open Go Go.RowKit
open Go.Lib
attribute [local go_sem] Oper.semAt_some
abbrev tR : TypeId := 48
abbrev tRs : TypeId := 37
theorem cells_own {B : Nat} {W W' : World} {row : Option Nat} (hg : W.grownBy W' row) (hr : ∀ r, row = some r → B ≤ r ∧ ∃ o : Go.Obj, W.heap[r]? = some o ∧ o.isCells = false) {b : Nat} {cs : Array Value} {t : TypeId} {f : Nat × Nat} (h : W.heap[b]? = some (.cells cs t f)) : W'.heap[b]? = some (.cells cs t f) := by
  refine (hg.block b (Array.getElem?_eq_some_iff.1 h).1 (fun e => ?_)).trans h
  obtain ⟨-, o, ho, hc⟩ := hr b e.symm
  rw [h] at ho
  cases ho
  cases hc
theorem wpIn_gen {F : Fence} {n : Nat} {P : Program} {c : Code} {Q : Exit → Act → World → Prop} {a : Act} {W : World} (G : World → Prop) (hG : G W) (h : ∀ W1, G W1 → Code.wpIn F n P c Q a W1) : Code.wpIn F n P c Q a W := h W hG
def RowsIn (W : World) (B : Nat) (v : Value) (l : List Value) : Prop := W.ownsRow B tR 1 v l.length l
theorem RowsIn.empty (W : World) (B : Nat) : RowsIn W B (.slice none 0 0) [] := ⟨rfl, .inl ⟨rfl, rfl⟩⟩
theorem RowsIn.of {W W' : World} {B : Nat} {v : Value} {l : List Value} (h : RowsIn W B v l) (hb : ∀ g cs, W.heap[g]? = some (.cells cs tR (0, 0)) → v.ownBlock = some g → W'.heap[g]? = W.heap[g]?) : RowsIn W' B v l := by
  refine ⟨h.1, ?_⟩
  rcases h.2 with h1 | ⟨g, cap, cur, rfl, h2, h3, h4⟩
  · exact .inl h1
  · exact .inr ⟨g, cap, cur, rfl, h2, (hb g cur h3 rfl).trans h3, h4⟩
theorem RowsIn.rebase {W : World} {B C : Nat} {v : Value} {l : List Value} (h : RowsIn W B v l) (hC : C ≤ B) : RowsIn W C v l := by
  refine ⟨h.1, ?_⟩
  rcases h.2 with h1 | ⟨g, cap, cur, rfl, h2, h3⟩
  · exact .inl h1
  · exact .inr ⟨g, cap, cur, rfl, Nat.le_trans hC h2, h3⟩
theorem RowsIn.after {W W' : World} {B : Nat} {v : Value} {l : List Value} (h : RowsIn W B v l) (hb : Below W.heap.size W W') : RowsIn W' B v l := h.of fun g _ hg _ => hb.block g (Array.getElem?_eq_some_iff.1 hg).1
theorem rows_own {B0 B : Nat} {W W' : World} {row : Option Nat} {v : Value} {l : List Value} (hg : W.grownBy W' row) (hr : ∀ r, row = some r → B ≤ r ∧ ∃ o : Go.Obj, W.heap[r]? = some o ∧ o.isCells = false) (h : RowsIn W B0 v l) : RowsIn W' B0 v l :=
  h.of fun _ _ hc _ => (cells_own hg hr hc).trans hc.symm
theorem bytes_own {B : Nat} {W W' : World} {row : Option Nat} {v : Value} {l : Bytes} (hg : W.grownBy W' row) (hr : ∀ r, row = some r → B ≤ r ∧ ∃ o : Go.Obj, W.heap[r]? = some o ∧ o.isCells = false) (h : BytesU W v l) : BytesU W' v l :=
  h.of fun _ _ hc _ => (cells_own hg hr hc).trans hc.symm
theorem RowsIn.ne {W : World} {B b : Nat} {v u : Value} {l : List Value} {t : TypeId} (h : RowsIn W B v l) (hb : Boxed W b t u) (ht : t ≠ tR) : some b ≠ v.ownBlock := by
  rcases h.2 with ⟨rfl, -⟩ | ⟨g, cap, cur, rfl, -, hh, -⟩
  · simp [Value.ownBlock]
  · intro e
    obtain rfl : b = g := by simpa [Value.ownBlock] using e
    have h2 : W.heap[b]? = some (.cells #[u] t (0, 0)) := hb
    rw [h2] at hh
    simp only [Option.some.injEq, Obj.cells.injEq] at hh
    exact ht hh.2.1
theorem rows_cons {W : World} {B : Nat} {v : Value} {l : List Value} {x : Value} (h : RowsIn W B v (l ++ [x])) : ∃ g cap, v = .slice (some ⟨g, 0, none⟩) (l.length + 1) cap ∧ B ≤ g := by
  rcases h.2 with ⟨-, h0⟩ | ⟨g, cap, cur, rfl, hB, -⟩
  · simp at h0
  · exact ⟨g, cap, by rw [List.length_append]; rfl, hB⟩
theorem row_info : ∃ i, Try.prog.info? tR = some i ∧ i.zero = some (.slice none 0 0) ∧ i.size = 1 ∧ i.bytes ≤ 1000 := by
  have h : (Try.prog.info? tR).map (fun i => (i.zero, i.size, decide (i.bytes ≤ 1000))) = some (some (.slice none 0 0), 1, true) := by kernel_rfl
  cases hi : Try.prog.info? tR with
  | none => rw [hi] at h; cases h
  | some i =>
    rw [hi] at h
    simp only [Option.map_some, Option.some.injEq, Prod.mk.injEq] at h
    exact ⟨i, rfl, h.1, h.2.1, of_decide_eq_true h.2.2⟩
theorem add_row (R : Nat) (W : World) (sl : Value) (l : List Value) (a : Option Addr) (k c : Nat) (ty : TypeId) (hr : RowsIn W R sl l) (hB : R ≤ W.heap.size) (hn : l.length < 2000000) :
    ∃ v' W', (Builtin.append_ #[tRs, tRs] ty #[sl, .slice (some ⟨W.heap.size, 0, none⟩) 1 1]).run Try.prog (W.alloc (.cells #[.slice a k c] tR (0, 0))) = .ok v' W' ∧
      RowsIn W' R v' (l ++ [.slice a k c]) ∧ Below R W W' ∧ ∀ b, b < W.heap.size → some b ≠ sl.ownBlock → W'.heap[b]? = W.heap[b]? := by
  obtain ⟨i, hi, hz, hs, hb⟩ := row_info
  have hba : Below W.heap.size W (W.alloc (.cells #[.slice a k c] tR (0, 0))) := (Below.refl _ _).alloc (Nat.le_refl _) _
  have hr1 := hr.after hba
  have h1 : ∀ u ∈ [Value.slice a k c], u.oneCell' = true := fun u hu => by
    rw [List.mem_singleton.1 hu]
    rfl
  have hnews : ∀ j u, [Value.slice a k c][j]? = some u → (W.alloc (.cells #[.slice a k c] tR (0, 0))).cell? ((⟨W.heap.size, 0, none⟩ : Addr).add j) = some u := fun j u hu => by
    rw [add_lit', Nat.zero_add, cell_of_row _ _ _ _ _ _ (heap_alloc_new W _), ← Array.getElem?_toList]
    exact hu
  obtain ⟨v', W', h2, h3, h4, -⟩ := run_append_own (P := Try.prog) (W.alloc (.cells #[.slice a k c] tR (0, 0))) R tRs ty tR i (.slice none 0 0) 1 i.bytes Try.underlying37 hi hz hs rfl rfl (by decide) sl l.length _ hr1 ⟨W.heap.size, 0, none⟩ 1 1 [Value.slice a k c] rfl hnews h1 (by unfold maxLen; omega) (Nat.le_trans (Nat.mul_le_mul (show l.length + 1 ≤ 2000000 by omega) hb) (by omega)) (by simp; omega)
  refine ⟨v', W', h2, ?_, ?_, ?_⟩
  · show W'.ownsRow R _ 1 v' _ _
    rw [List.length_append]
    exact h3
  · refine (hba.mono hB).grown h4 (by simp; omega) ?_
    intro r e
    rcases hr.2 with ⟨rfl, -⟩ | ⟨g, cap, cur, rfl, hg, -⟩
    · cases e
    · cases e
      exact hg
  · intro b hb hne
    exact (h4.block b (by simp; omega) hne).trans (hba.block b hb)
def RecsIn (W : World) (B : Nat) (v : Value) (L : List Bytes) : Prop := ∃ xs : List Rec, xs.map (·.2) = L ∧ RowsIn W B v (xs.map (·.1)) ∧ ∀ x ∈ xs, BytesU W x.1 x.2
def Coll (w : World) (z k : Nat) (pre : List Rec) (V : World) : Prop := ∃ sv, Boxed V z tRs sv ∧ RowsIn V (z + 1 + 1 + 1) sv (pre.map (·.1)) ∧ Below z w V ∧ pre.length ≤ k ∧ ∀ x ∈ pre, BytesU V x.1 x.2
set_option maxRecDepth 100000 in
set_option maxHeartbeats 4000000 in
theorem records_any (B q : Nat) (og : Option Nat) (s : Lg) (w : World) (h : IsLog B w q og s) : Calls Try.prog 9 #[.pointer (some ⟨q, 0, none⟩)] w fun e w' => ∃ v, e = .returned v ∧ RecsIn w' w.heap.size v (recs s.b) ∧ Below w.heap.size w w' := by
  obtain ⟨v, k, h1, h2, h3, h4, h5⟩ := h.at_
  have hm := h.most
  obtain ⟨a, c, rfl⟩ := h2.blks.shape
  have c1 : (w.alloc (.cells #[.slice none 0 0] tRs)).cell? ⟨q, 1, none⟩ = some (.slice a k c) := (h1.after ((Below.refl _ _).alloc (Nat.le_refl _) _)).c1
  have HV := Lib.hid h2.blks
  clear h h1 h2 h3 h5
  refine callsIn_wide.1 (callsIn_of_wp_marks (n := 5) Try.func9 rfl trivial ?_ rfl)
  simp only [Try.ntmps9, List.size_toArray, List.length_cons, List.length_nil, Nat.reduceAdd, Nat.reduceSub, Array.replicate_succ, Array.replicate_zero, List.push_toArray, List.append_toArray, List.nil_append, List.cons_append]
  gi_wp2
  refine ⟨trivial, (callsIn_wide.2 (whole_any a k c 1 _)).mono ?_⟩
  rintro e W1 ⟨rfl, rfl⟩
  gi_wp2
  obtain ⟨z, hz⟩ : ∃ z, w.heap.size = z := ⟨_, rfl⟩
  refine wpIn_gen (fun V => V.heap.size = z + 1 + 1 + 1 ∧ Boxed V z tRs (.slice none 0 0) ∧ Boxed V (z + 1) tBs (.slice a k c) ∧ Boxed V (z + 1 + 1) 3 (.int .i64 ((1 : Nat) : Int)) ∧ Below w.heap.size w V) ?_ ?_
  · subst hz
    refine ⟨by simp, ?_, ?_, ?_, (((Below.refl _ _).alloc (Nat.le_refl _) _).alloc (by simp) _).alloc (by simp; omega) _⟩
    · exact ((Boxed.new w tRs (.slice none 0 0)).after ((Below.refl _ _).alloc (Nat.le_refl _) _)).after ((Below.refl _ _).alloc (Nat.le_refl _) _)
    · have := (Boxed.new (w.alloc (.cells #[.slice none 0 0] tRs)) tBs (.slice a k c)).after ((Below.refl _ _).alloc (Nat.le_refl _) (.cells #[.int .i64 ((1 : Nat) : Int)] 3))
      rwa [World.size_alloc] at this
    · have := Boxed.new ((w.alloc (.cells #[.slice none 0 0] tRs)).alloc (.cells #[.slice a k c] tBs)) 3 (.int .i64 ((1 : Nat) : Int))
      rwa [World.size_alloc, World.size_alloc] at this
  rintro W0 ⟨hsz, h1, h2, h3, hlw⟩
  have HS := Lib.hid hsz
  have HLW := Lib.hid hlw
  have hk : k ≤ 1000000 := by omega
  have HVZ : Hid (∀ g, (Value.slice a k c).ownBlock = some g → g < z) := fun g hg => hz ▸ HV.out.lt hg
  have hseq := whole_seq 4 (by omega) a k c s.b 1 (z + 1) (z + 1 + 1) z (z + 1) (z + 1 + 1 + 1) tR W0 (HV.out.after hlw) h2 h3 hk (by omega) (by rw [hsz]; exact Nat.le_refl _) (fun g hg => by have := HVZ.out g hg; omega)
  have ef := enters_of (P := Try.prog) Try.func44 (by kernel_rfl) rfl
  clear hsz hlw h2 h3 c1
  rw [hz]
  rw [hz] at HLW
  refine RangeSeen.range (F := Fence.wide) (n := 5) rfl (by omega) (gf := 44) (lb := #[.pointer (some ⟨z + 1, 0, none⟩), .pointer (some ⟨z + 1 + 1, 0, none⟩)]) rfl trivial ef (encs := encR) (lo := z) (hi := z + 1) (N0 := z + 1 + 1 + 1) (E := tR) (by rw [HS.out]; omega)
    hseq (fun _ => rfl)
    (fun pre V => Coll w z k pre V)
    (fun _ _ _ => False)
    ?_ ?_ ⟨_, h1, RowsIn.empty _ _, HLW.out, Nat.zero_le _, by simp⟩
    (fun pre x a1 V => Coll w z k pre V ∧ BytesU V x.1 x.2 ∧
      a1 = { tmps := #[.pointer (some ⟨q, 0, none⟩), undef, .slice none 0 0, .pointer (some ⟨z, 0, none⟩), x.1, .pointer (some ⟨q, 0, none⟩), .bool false, .pointer (some ⟨q, 0, none⟩), .pointer (some ⟨q, 0, none⟩), .pointer (some ⟨q, 1, none⟩), .slice a k c, .func (.func 44) #[] #[.pointer (some ⟨z + 1, 0, none⟩), .pointer (some ⟨z + 1 + 1, 0, none⟩)], x.1, undef, undef, undef, undef, undef], defers := [] })
    ?_ ?_ ?_ ?_ ?_
  · intro pre A B row ⟨sv, h1, h2, h3, h4, h5⟩ hg hr
    exact ⟨sv, cells_own hg hr h1, rows_own hg hr h2, ownFrom_below (β := Unit) (n₀ := z) (B := W0.heap.size) (by omega) (by rw [HS.out]; omega) () A B row h3 hg hr, h4, fun x hx => bytes_own hg hr (h5 x hx)⟩
  · intro _ _ _ _ _ h
    exact h.elim
  · intro x a1 pre A B row ⟨⟨sv, h1, h2, h3, h4, h5⟩, h6, h7⟩ hg hr
    exact ⟨⟨sv, cells_own hg hr h1, rows_own hg hr h2, ownFrom_below (β := Unit) (n₀ := z) (B := W0.heap.size) (by omega) (by rw [HS.out]; omega) () A B row h3 hg hr, h4, fun x hx => bytes_own hg hr (h5 x hx)⟩, bytes_own hg hr h6, h7⟩
  · intro lp pre x V hI hx _ hsz
    have HI := Lib.hid hI
    have HX : Hid (BytesU V x.1 x.2) := hx
    clear hI hx h1
    obtain ⟨xv, xl⟩ := x
    simp only [encR]
    gi_wp2
    exact ⟨RangeRow.Stays.refl _ _ _ _ _, HI.out, HX.out⟩
  · rintro lp pre x a1 V ⟨⟨sv, h2, h3, h4, h5, h6⟩, h7, rfl⟩ hlen hsz
    have ca := h2.cell
    obtain ⟨xv, xl⟩ := x
    obtain ⟨xa, xk, xc, hxs⟩ := h7.bytes.shape
    have hxs' : xv = .slice xa xk xc := hxs
    subst hxs'
    obtain ⟨v', W', hap, ho', hb', hk'⟩ := add_row (z + 1 + 1 + 1) V sv (pre.map (·.1)) xa xk xc tRs h3 (by have := HS.out; omega) (by rw [List.length_map]; omega)
    obtain ⟨g, cap, rfl, hzg⟩ := rows_cons ho'
    have hne : some z ≠ sv.ownBlock := h3.ne h2 (by decide)
    have ha' : Boxed W' z tRs sv := (hk' z h2.lt hne).trans h2
    have cw := ha'.cell
    have fw := ha'.frozen
    rw [List.length_map] at hap
    have hkeep : ∀ u l, BytesU V u l → BytesU (W'.setCell ⟨z, 0, none⟩ (.slice (some ⟨g, 0, none⟩) (pre.length + 1) cap)) u l := fun u l hu => by
      refine (hu.of (W' := W') fun g2 cs hc _ => hk' g2 (Array.getElem?_eq_some_iff.1 hc).1 (fun e => ?_)).of fun g2 cs hc _ => heap_setCell_other _ ⟨z, 0, none⟩ g2 _ (fun e => ?_)
      · rcases h3.2 with ⟨rfl, -⟩ | ⟨g3, cap3, cur3, rfl, -, hh, -⟩
        · simp [Value.ownBlock] at e
        · obtain rfl : g2 = g3 := by simpa [Value.ownBlock] using e
          rw [hc] at hh
          simp only [Option.some.injEq, Obj.cells.injEq] at hh
          exact absurd hh.2.1 (by decide)
      · have e' : g2 = z := e
        subst e'
        have h9 : W'.heap[g2]? = some (.cells #[sv] tRs (0, 0)) := ha'
        rw [h9] at hc
        simp only [Option.some.injEq, Obj.cells.injEq] at hc
        exact absurd hc.2.1 (by decide)
    have HNX : Hid (RangeRow.Stays z (z + 1) (z + 1 + 1 + 1) tR V (W'.setCell ⟨z, 0, none⟩ (.slice (some ⟨g, 0, none⟩) (pre.length + 1) cap)) ∧
        Boxed (W'.setCell ⟨z, 0, none⟩ (.slice (some ⟨g, 0, none⟩) (pre.length + 1) cap)) z tRs (.slice (some ⟨g, 0, none⟩) (pre.length + 1) cap) ∧
        RowsIn (W'.setCell ⟨z, 0, none⟩ (.slice (some ⟨g, 0, none⟩) (pre.length + 1) cap)) (z + 1 + 1 + 1) (.slice (some ⟨g, 0, none⟩) (pre.length + 1) cap) (pre.map (·.1) ++ [.slice xa xk xc]) ∧
        Below z w (W'.setCell ⟨z, 0, none⟩ (.slice (some ⟨g, 0, none⟩) (pre.length + 1) cap)) ∧
        ∀ x ∈ pre ++ [((.slice xa xk xc, xl) : Rec)], BytesU (W'.setCell ⟨z, 0, none⟩ (.slice (some ⟨g, 0, none⟩) (pre.length + 1) cap)) x.1 x.2) := by
      show _ ∧ _
      rw [List.length_map] at ho'
      refine ⟨⟨Nat.le_trans hb'.size (by simp), fun q hq hx hr => ?_⟩, ha'.set _, ?_, (h4.trans (hb'.mono (by omega))).setCell (by show z ≤ z; omega) _, fun x hx => ?_⟩
      · rw [heap_setCell_other _ ⟨z, 0, none⟩ q _ (by show q ≠ z; omega)]
        rcases hr with hr | hr
        · exact hb'.block q hr
        · refine hk' q hq (fun e => ?_)
          rcases h3.2 with ⟨rfl, -⟩ | ⟨g2, cap2, cur2, rfl, -, hh, -⟩
          · simp [Value.ownBlock] at e
          · obtain rfl : q = g2 := by simpa [Value.ownBlock] using e
            exact hr _ _ hh
      · refine ho'.of (fun g2 cs hc _ => heap_setCell_other _ ⟨z, 0, none⟩ g2 _ (fun e => ?_))
        have e' : g2 = z := e
        subst e'
        have h9 : W'.heap[g2]? = some (.cells #[sv] tRs (0, 0)) := ha'
        rw [h9] at hc
        simp only [Option.some.injEq, Obj.cells.injEq] at hc
        exact absurd hc.2.1 (by decide)
      · rcases List.mem_append.1 hx with hx | hx
        · exact hkeep _ _ (h6 x hx)
        · rw [List.mem_singleton.1 hx]
          exact hkeep _ _ h7
    have HD : Hid ((pre ++ [((.slice xa xk xc, xl) : Rec)]).length ≤ k) := by show _ ≤ _; rw [List.length_append]; exact hlen
    have HCL : Hid (Coll w z k (pre ++ [((.slice xa xk xc, xl) : Rec)]) (W'.setCell ⟨z, 0, none⟩ (.slice (some ⟨g, 0, none⟩) (pre.length + 1) cap))) := ⟨_, HNX.out.2.1, by rw [List.map_append]; exact HNX.out.2.2.1, HNX.out.2.2.2.1, HD.out, HNX.out.2.2.2.2⟩
    clear h2 h3 h4 h5 h6 h7 ho' hb' hk' hne ha' h1 hzg hxs hkeep
    gi_wp2_with (gi_at_builtin; refine KnownIn.appends rfl _ _ tRs rfl rfl rfl hap ?_)
    exact ⟨HNX.out.1, HCL.out⟩
  · rintro D xs V hD hS ⟨sv, h2, h3, h4, h5, h6⟩ hK
    have ca := h2.cell
    have HB := Lib.hid h3
    have HC := Lib.hid h4
    have HD := Lib.hid h6
    have HK := Lib.hid hK
    have HXS : Hid (xs.map (·.2) = recs s.b) := recs_of hS
    clear h2 h3 h4 h5 h6 hK hS h1
    gi_wp2
    refine ⟨by simp, .inl ⟨_, _, rfl, run_takeDeferred HK.out, ?_⟩⟩
    have hot : ∀ (g2 : Nat) (cs : Array Value) (t : TypeId), V.heap[g2]? = some (Go.Obj.cells cs t (0, 0)) → (V.putObj D (.deferred none)).heap[g2]? = V.heap[g2]? := fun g2 cs t hc => World.putObj_heap_other (fun e => by
        subst e
        rw [HK.out] at hc
        simp at hc)
    refine ⟨sv, (results_tmp (t := 2) rfl _ _ _).trans rfl, sv, rfl, ⟨xs, HXS.out, ?_, fun x hx => (HD.out x hx).of fun g cs hc _ => hot g cs _ hc⟩, ?_⟩ <;> rw [hz]
    · exact (HB.out.of (fun g cs hc _ => hot g cs _ hc)).rebase (by omega)
    · exact HC.out.trans (belowK_b (w := w) (by omega) _ D _ _ (by rw [HS.out] at hD; omega) HK.out rfl rfl)
  · intro _ _ _ _ _ _ h _
    exact h.elim
end Go.Proofs.Ytfndiocohaploaa.L
namespace Go.Proofs.Ytfndiocohaploaa.L
open Go Go.RowKit
open Go.Lib
attribute [local go_sem] Oper.semAt_some
abbrev tPL : TypeId := 38
theorem LogAt.s3' {W : World} {q most last wh en : Nat} {v : Value} (h : LogAt W q most v last wh en) {z : Int} {x : Nat} (hz : z = (x : Int)) : LogAt (W.setCell ⟨q, 3, none⟩ (.int .i64 z)) q most v last x en := hz ▸ h.s3 x
theorem LogAt.s4' {W : World} {q most last wh en : Nat} {v : Value} (h : LogAt W q most v last wh en) {z : Int} {x : Nat} (hz : z = (x : Int)) : LogAt (W.setCell ⟨q, 4, none⟩ (.int .i64 z)) q most v last wh x := hz ▸ h.s4 x
theorem log_own {B : Nat} {W W' : World} {row : Option Nat} {q most last wh en : Nat} {v : Value} (hg : W.grownBy W' row) (hr : ∀ r, row = some r → B ≤ r ∧ ∃ o : Go.Obj, W.heap[r]? = some o ∧ o.isCells = false) (h : LogAt W q most v last wh en) : LogAt W' q most v last wh en := cells_own hg hr h
theorem Begin.all {L M : List Bytes} {b : Bytes} {n : Nat} (h : Begin L b n) (hm : All M (b.drop (blks L * 64)) (n + L.length)) : All (L ++ M) b n := by
  refine ⟨h.app hm.1, ?_⟩
  have := hm.2
  rw [List.drop_drop] at this
  rw [blks_append, List.length_append, ← Nat.add_assoc, Nat.add_mul]
  exact this
structure Counted (w : World) (B q z most last wh en : Nat) (v : Value) (k : Nat) (pre : List Rec) (V : World) : Prop where
  at_ : LogAt V q most v last (wh + pre.length) (en + blks (pre.map (·.2)))
  box : Boxed V z tPL (.pointer (some ⟨q, 0, none⟩))
  below : Below B w V
  keep : ∀ g, g < z → g ≠ q → V.heap[g]? = w.heap[g]?
  small : pre.length ≤ k ∧ blks (pre.map (·.2)) ≤ 17 * pre.length
theorem Counted.own {w : World} {B q z most last wh en k B0 : Nat} {v : Value} {pre : List Rec} {A W : World} {row : Option Nat} (h : Counted w B q z most last wh en v k pre A) (hz : w.heap.size = z) (hB0 : z ≤ B0) (hBz : B ≤ z)
    (hg : A.grownBy W row) (hr : ∀ r, row = some r → B0 ≤ r ∧ ∃ o : Go.Obj, A.heap[r]? = some o ∧ o.isCells = false) : Counted w B q z most last wh en v k pre W where
  at_ := log_own hg hr h.at_
  box := cells_own hg hr h.box
  below := h.below.grown hg (by have := h.below.size; omega) (fun r e => by have := (hr r e).1; omega)
  keep := fun g hg1 hne => (hg.block g (by have := h.below.size; omega) (fun e => by have := (hr g e.symm).1; omega)).trans (h.keep g hg1 hne)
  small := h.small
structure MidDrew (w V0 : World) (B q z N0 : Nat) (V : World) : Prop where
  box : Boxed V z tPL (.pointer (some ⟨q, 0, none⟩))
  below : Below B w V
  keep : ∀ g, g < z → g ≠ q → V.heap[g]? = w.heap[g]?
  stays : RangeRow.Stays q (q + 1) N0 48 V0 V
theorem MidDrew.drew {w V0 : World} {B q z N0 : Nat} {V : World} (h : MidDrew w V0 B q z N0 V) : MidDrew w V0 B q z N0 V.drew := ⟨h.box, h.below.drew, h.keep, h.stays⟩
theorem MidDrew.set {w V0 : World} {B q z N0 : Nat} {V : World} (h : MidDrew w V0 B q z N0 V) (hq : q < z) (hB : B ≤ q) (i : Nat) (x : Value) : MidDrew w V0 B q z N0 (V.setCell ⟨q, i, none⟩ x) where
  box := h.box.of_heap (heap_setCell_other _ ⟨q, i, none⟩ z _ (by show z ≠ q; omega))
  below := h.below.setCell (p := ⟨q, i, none⟩) hB x
  keep := fun g hg hne => (heap_setCell_other _ ⟨q, i, none⟩ g _ hne).trans (h.keep g hg hne)
  stays := ⟨by have := h.stays.1; simpa using this, fun g hg hx hr => (heap_setCell_other _ ⟨q, i, none⟩ g _ (by show g ≠ q; omega)).trans (h.stays.2 g hg hx hr)⟩
set_option maxRecDepth 100000 in
set_option maxHeartbeats 300000 in
theorem countOn_any (B q most last k : Nat) (v : Value) (b : Bytes) (L : List Bytes) (w : World) (h : LogAt w q most v last L.length (blks L)) (hv : BlksIn w v k b) (hne : ∀ g, v.ownBlock = some g → g ≠ q) (hL : Begin L b 1) (hk : k ≤ 1000000) (hB : B ≤ q) :
    Calls Try.prog 34 #[.pointer (some ⟨q, 0, none⟩)] w fun e w' => (∃ r, e = .returned r) ∧ LogAt w' q most v last (recs b).length (blks (recs b)) ∧ Below B w w' ∧ ∀ g, g < w.heap.size → g ≠ q → w'.heap[g]? = w.heap[g]? := by
  obtain ⟨a, c, rfl⟩ := hv.shape
  have hle := hL.le
  have hpos := hL.pos
  have hbk := hv.1
  obtain ⟨r0, hs0, hr0, ho0⟩ := hv.tail (n := blks L) (by omega) .i64
  obtain ⟨a0, c0, rfl⟩ := hr0.shape
  have HQ := Lib.hid h
  have HV := Lib.hid hv
  have HR := Lib.hid hr0
  have HO := Lib.hid ho0
  have HL := Lib.hid hL
  have HNE := Lib.hid hne
  generalize hwh : L.length = wh at *
  generalize hen : blks L = en at *
  have hwb : wh ≤ 1000000 := by omega
  have heb : en ≤ 1000000 := by omega
  have HWH := Lib.hid hwh
  have HEN := Lib.hid hen
  clear h hv hr0 ho0 hL hne hwh hen
  refine callsIn_wide.1 (callsIn_of_wp_marks (n := 5) Try.func34 rfl trivial ?_ rfl)
  simp only [Try.ntmps34, List.size_toArray, List.length_cons, List.length_nil, Nat.reduceAdd, Nat.reduceSub, Array.replicate_succ, Array.replicate_zero, List.push_toArray, List.append_toArray, List.nil_append, List.cons_append]
  gi_wp2
  obtain ⟨z, hz⟩ : ∃ z, w.heap.size = z := ⟨_, rfl⟩
  refine wpIn_gen (fun V => V.heap.size = z + 1 ∧ Boxed V z tPL (.pointer (some ⟨q, 0, none⟩)) ∧ LogAt V q most (.slice a k c) last wh en ∧ Below z w V) ⟨by simp [hz], by rw [← hz]; exact Boxed.new w _ _, by exact HQ.out.after ((Below.refl _ _).alloc (Nat.le_refl _) _), by rw [← hz]; exact (Below.refl _ _).alloc (Nat.le_refl _) _⟩ ?_
  rintro W0 ⟨hsz, h1, h2, h3⟩
  have hqz : q < z := hz ▸ HQ.out.lt
  have HZ := Lib.hid h1
  have HL2 := Lib.hid h2
  have HB := Lib.hid h3
  have HSZ : Hid (W0.heap.size = z + 1) := hsz
  rw [hz]
  clear h1 h2 h3 hsz
  refine RoundReg.region_drawn0 (fun V => Boxed V z tPL (.pointer (some ⟨q, 0, none⟩)) ∧ LogAt V q most (.slice a k c) last wh en ∧ Below z w V) (by kernel_rfl) (by kernel_rfl) ⟨HZ.out, HL2.out, HB.out.drew⟩ (fun _ => ?_)
  refine HeldBy.gen (fun V => (Boxed V z tPL (.pointer (some ⟨q, 0, none⟩)) ∧ LogAt V q most (.slice a k c) last wh en ∧ Below z w V) ∧ (V.heap.size = z + 1)) ⟨⟨HZ.out, HL2.out, HB.out.drew⟩, HSZ.out⟩ ?_
  clear HZ HL2 HB HSZ
  rintro U0 ⟨HS, HSZ⟩
  refine HeldBy.take (i := 0) rfl (by kernel_rfl) (by kernel_rfl) (by kernel_rfl) (fun _ _ _ h => h) (by rfl) (fun V hV => by have hc := hV.1.cell; first | (go_simp; rfl) | (go_simp; done)) (by first | (go_simp; rfl) | (go_simp; done)) HS ?_
  refine HeldBy.take (i := 1) rfl (by kernel_rfl) (by kernel_rfl) (by kernel_rfl) (fun _ _ _ h => h) (by rfl) (fun _ _ => by first | (go_simp; rfl) | (go_simp; done)) (by first | (go_simp; rfl) | (go_simp; done)) HS ?_
  refine HeldBy.take (i := 2) rfl (by kernel_rfl) (by kernel_rfl) (by kernel_rfl) (fun _ _ _ h => h) (by rfl) (fun _ _ => by first | (go_simp; rfl) | (go_simp; done)) (by first | (go_simp; rfl) | (go_simp; done)) HS ?_
  refine HeldBy.take (i := 3) rfl (by kernel_rfl) (by kernel_rfl) (by kernel_rfl) (fun _ _ _ h => h) (by rfl) (fun V hV => by have hc := hV.2.1.c1; first | (go_simp; rfl) | (go_simp; done)) (by first | (go_simp; rfl) | (go_simp; done)) HS ?_
  refine HeldBy.take (i := 4) rfl (by kernel_rfl) (by kernel_rfl) (by kernel_rfl) (fun _ _ _ h => h) (by rfl) (fun V hV => by have hc := hV.1.cell; first | (go_simp; rfl) | (go_simp; done)) (by first | (go_simp; rfl) | (go_simp; done)) HS ?_
  refine HeldBy.take (i := 5) rfl (by kernel_rfl) (by kernel_rfl) (by kernel_rfl) (fun _ _ _ h => h) (by rfl) (fun _ _ => by first | (go_simp; rfl) | (go_simp; done)) (by first | (go_simp; rfl) | (go_simp; done)) HS ?_
  refine HeldBy.take (i := 6) rfl (by kernel_rfl) (by kernel_rfl) (by kernel_rfl) (fun _ _ _ h => h) (by rfl) (fun _ _ => by first | (go_simp; rfl) | (go_simp; done)) (by first | (go_simp; rfl) | (go_simp; done)) HS ?_
  refine HeldBy.take (i := 7) rfl (by kernel_rfl) (by kernel_rfl) (by kernel_rfl) (fun _ _ _ h => h) (by rfl) (fun V hV => by have hc := hV.2.1.c4; first | (go_simp; rfl) | (go_simp; done)) (by first | (go_simp; rfl) | (go_simp; done)) HS ?_
  refine HeldBy.take (i := 8) rfl (by kernel_rfl) (by kernel_rfl) (by kernel_rfl) (fun _ _ _ h => h) (by rfl) (fun _ _ => by first | (go_simp; rfl) | (go_simp; done)) (by first | (go_simp; rfl) | (go_simp; done)) HS ?_
  refine HeldBy.take (i := 9) rfl (by kernel_rfl) (by kernel_rfl) (by kernel_rfl) (fun _ _ _ h => h) (by rfl) (fun V hV => by have hc := hV.1.cell; first | (go_simp; rfl) | (go_simp; done)) (by first | (go_simp; rfl) | (go_simp; done)) HS ?_
  refine HeldBy.take (i := 10) rfl (by kernel_rfl) (by kernel_rfl) (by kernel_rfl) (fun _ _ _ h => h) (by rfl) (fun _ _ => by first | (go_simp; rfl) | (go_simp; done)) (by first | (go_simp; rfl) | (go_simp; done)) HS ?_
  refine HeldBy.take (i := 11) rfl (by kernel_rfl) (by kernel_rfl) (by kernel_rfl) (fun _ _ _ h => h) (by rfl) (fun _ _ => by first | (go_simp; rfl) | (go_simp; done)) (by first | (go_simp; rfl) | (go_simp; done)) HS ?_
  refine HeldBy.take (i := 12) rfl (by kernel_rfl) (by kernel_rfl) (by kernel_rfl) (fun _ _ _ h => h) (by rfl) (fun V hV => by have hc := hV.2.1.c3; first | (go_simp; rfl) | (go_simp; done)) (by first | (go_simp; rfl) | (go_simp; done)) HS ?_
  refine HeldBy.take (i := 13) (v := .int .i64 ((wh : Int) + 1)) rfl (by kernel_rfl) (by kernel_rfl) (by kernel_rfl) (fun _ _ _ h => h) (by rfl) (fun _ _ => by go_simp; exact wrap_id (by omega) (by omega)) (by first | (go_simp; rfl) | (go_simp; done)) HS ?_
  refine HeldBy.call (i := 14) (v := .func (.func 44) #[] #[.pointer (some ⟨z + 1, 0, none⟩), .pointer (some ⟨z + 1 + 1, 0, none⟩)]) (f := 24) (args := #[.slice a0 (k - en) c0, .int .i64 ((wh : Int) + 1)]) rfl (by kernel_rfl) (by rfl) (by first | (go_simp; done) | (go_simp; first | exact ⟨rfl, rfl⟩ | rfl)) (by first | (go_simp; rfl) | (go_simp; done)) ?_
  refine (whole_any a0 (k - en) c0 ((wh : Int) + 1) U0).mono ?_
  rintro e W1 ⟨rfl, hw1⟩
  have hzU : z ≤ U0.heap.size := by rw [HSZ]; omega
  have hw : Below U0.heap.size U0 W1 := hw1 ▸ ((Below.refl _ _).alloc (Nat.le_refl _) _).alloc (by simp) _
  refine ⟨by rw [HSZ], ⟨HS.1.after hw, HS.2.1.after hw, HS.2.2.trans (hw.mono hzU)⟩, ?_⟩
  have H2 : Hid (W1.heap.size = z + 1 + 1 + 1 ∧ Boxed W1 (z + 1) tBs (.slice a0 (k - en) c0) ∧ Boxed W1 (z + 1 + 1) 3 (.int .i64 ((wh + 1 : Nat) : Int))) := by
    rw [← hw1]
    refine ⟨by simp [HSZ], ?_, ?_⟩
    · have := (Boxed.new U0 tBs (.slice a0 (k - en) c0)).after ((Below.refl _ _).alloc (Nat.le_refl _) (.cells #[.int .i64 ((wh : Int) + 1)] 3))
      rwa [HSZ] at this
    · have := Boxed.new (U0.alloc (.cells #[.slice a0 (k - en) c0] tBs)) 3 (.int .i64 ((wh : Int) + 1))
      rw [World.size_alloc, HSZ] at this
      exact this
  have HC0 : Hid (Counted w B q z most last wh en (.slice a k c) k [] W1) := ⟨by simpa [blks] using HS.2.1.after hw, HS.1.after hw, (HS.2.2.trans (hw.mono hzU)).mono (by omega), fun g hg _ => (hw.block g (by rw [HSZ]; omega)).trans (HS.2.2.block g hg), Nat.zero_le _, Nat.le_refl _⟩
  have HBL : Hid (Below z w W1) := HS.2.2.trans (hw.mono hzU)
  clear HS HSZ hw hw1 hzU
  refine wpAnyH_done (by kernel_rfl) ?_ _
  refine RoundReg.only_normal (Q := Exit.then _ _) ?_
  gi_wp2
  have hz2 := HBL.out.size
  have hseq := whole_seq 4 (by omega) a0 (k - en) c0 (b.drop (en * 64)) (wh + 1) (z + 1) (z + 1 + 1) q (q + 1) (z + 1 + 1 + 1) 48 W1 ((HR.out.after (by rw [hz]; exact HBL.out))) H2.out.2.1 H2.out.2.2 (by omega) (by omega) (by rw [H2.out.1]; exact Nat.le_refl _)
    (fun g hg => by have := HNE.out g (by rw [← HO.out]; exact hg); omega)
  have ef := enters_of (P := Try.prog) Try.func44 (by kernel_rfl) rfl
  refine RangeSeen.range (F := Fence.wide) (n := 5) rfl (by omega) (gf := 44) (lb := #[.pointer (some ⟨z + 1, 0, none⟩), .pointer (some ⟨z + 1 + 1, 0, none⟩)]) rfl trivial ef (encs := encR) (lo := q) (hi := q + 1) (N0 := z + 1 + 1 + 1) (E := 48) (by rw [H2.out.1]; omega)
    hseq (fun _ => rfl)
    (fun pre V => Counted w B q z most last wh en (.slice a k c) k pre V)
    (fun _ _ _ => False)
    ?_ ?_ HC0.out
    (fun pre x a1 V => Counted w B q z most last wh en (.slice a k c) k pre V ∧ BytesU V x.1 x.2 ∧
      a1 = { tmps := #[.pointer (some ⟨q, 0, none⟩), .pointer (some ⟨z, 0, none⟩), x.1, .pointer (some ⟨q, 0, none⟩), .pointer (some ⟨q, 0, none⟩), .pointer (some ⟨q, 1, none⟩), .slice a k c, .pointer (some ⟨q, 0, none⟩), .pointer (some ⟨q, 0, none⟩), .pointer (some ⟨q, 4, none⟩), .int .i64 (en : Int), .slice a0 (k - en) c0,
        .pointer (some ⟨q, 0, none⟩), .pointer (some ⟨q, 0, none⟩), .pointer (some ⟨q, 3, none⟩), .int .i64 (wh : Int), .int .i64 ((wh : Int) + 1), .func (.func 44) #[] #[.pointer (some ⟨z + 1, 0, none⟩), .pointer (some ⟨z + 1 + 1, 0, none⟩)], x.1, undef, undef, undef, undef, undef, undef, undef, undef, undef, undef, undef, undef, undef, undef, undef, undef, undef], defers := [] })
    ?_ ?_ ?_ ?_ ?_
  · intro pre A B1 row hC hg hr
    exact hC.own hz (by have := H2.out.1; omega) (by omega) hg hr
  · intro _ _ _ _ _ h
    exact h.elim
  · intro x a1 pre A B1 row ⟨hC, h6, h7⟩ hg hr
    exact ⟨hC.own hz (by have := H2.out.1; omega) (by omega) hg hr, bytes_own hg hr h6, h7⟩
  · intro lp pre x V hI hx _ hsz
    have HI := Lib.hid hI
    have HX : Hid (BytesU V x.1 x.2) := hx
    clear hI hx
    obtain ⟨xv, xl⟩ := x
    simp only [encR]
    gi_wp2
    exact ⟨RangeRow.Stays.refl _ _ _ _ _, HI.out, HX.out⟩
  · rintro lp pre x a1 Y ⟨hC, h7, rfl⟩ hlen hsz
    obtain ⟨xv, xl⟩ := x
    replace h7 : BytesU Y xv xl := h7
    obtain ⟨xa, xk, xc, hxs⟩ := h7.bytes.shape
    subst hxs
    obtain rfl : xk = xl.length := by obtain ⟨_, _, _, _, h, -⟩ := h7; cases h; rfl
    have hxn : xl.length ≤ 9223372036854775807 := h7.bytes.small
    obtain ⟨n3, hn3⟩ : ∃ n, wh + pre.length = n := ⟨_, rfl⟩
    obtain ⟨n4, hn4⟩ : ∃ n, en + blks (pre.map (·.2)) = n := ⟨_, rfl⟩
    have hat := hC.at_
    rw [hn3, hn4] at hat
    have hs1 := hC.small.1
    have hs2 := hC.small.2
    have hb3 : n3 ≤ 3000000 := by omega
    have hb4 : n4 ≤ 30000000 := by omega
    have c0 := hC.box.cell
    have c3 := hat.c3
    have f3 := hat.free 3
    have HM0 : Hid (MidDrew w Y B q z (z + 1 + 1 + 1) Y) := ⟨hC.box, hC.below, hC.keep, RangeRow.Stays.refl _ _ _ _ _⟩
    have HN3 := Lib.hid hn3
    have HN4 := Lib.hid hn4
    have HS1 : Hid (pre.length < k - en) := hlen
    have HS2 := Lib.hid hs2
    have HAT := Lib.hid hat
    clear hC h7 hat hs1 hs2 hn3 hn4 hlen
    gi_wp2
    refine wpIn_gen (fun V3 => LogAt V3 q most (.slice a k c) last (n3 + 1) n4 ∧ MidDrew w Y B q z (z + 1 + 1 + 1) V3) ⟨HAT.out.s3' (by omega), HM0.out.set hqz hB 3 _⟩ ?_
    rintro V3 ⟨g1, g2⟩
    have HG := Lib.hid g1
    have HM := Lib.hid g2
    have HND : Hid (∀ W, Calls Try.prog 31 #[.int .i64 (xl.length : Int)] W fun e w' => e = .returned (.int .i64 (need xl.length : Nat)) ∧ w' = W) := fun W => by
      have := need_any (xl.length : Int) W (by omega)
      rwa [Int.toNat_natCast] at this
    have hn17 := need_le xl.length
    generalize hnd : need xl.length = nd at *
    have HD := Lib.hid hnd
    clear g1 g2 HM0 HAT c0 c3 f3 hnd
    refine RoundReg.region_drawn (fun V => MidDrew w Y B q z (z + 1 + 1 + 1) V) (by kernel_rfl) (by kernel_rfl) HM.out.drew (fun _ => ?_)
    refine HeldBy.gen (fun V => (MidDrew w Y B q z (z + 1 + 1 + 1) V) ∧ (LogAt V q most (.slice a k c) last (n3 + 1) n4)) ⟨HM.out.drew, HG.out⟩ ?_
    clear HM HG
    rintro U0 ⟨HS, HG⟩
    refine HeldBy.take (i := 0) rfl (by kernel_rfl) (by kernel_rfl) (by kernel_rfl) (fun _ _ _ h => h) (by rfl) (fun V hV => by have hc := hV.box.cell; first | (go_simp; rfl) | (go_simp; done)) (by first | (go_simp; rfl) | (go_simp; done)) HS ?_
    refine HeldBy.take (i := 1) rfl (by kernel_rfl) (by kernel_rfl) (by kernel_rfl) (fun _ _ _ h => h) (by rfl) (fun _ _ => by first | (go_simp; rfl) | (go_simp; done)) (by first | (go_simp; rfl) | (go_simp; done)) HS ?_
    refine HeldBy.take (i := 2) rfl (by kernel_rfl) (by kernel_rfl) (by kernel_rfl) (fun _ _ _ h => h) (by rfl) (fun _ _ => by first | (go_simp; rfl) | (go_simp; done)) (by first | (go_simp; rfl) | (go_simp; done)) HS ?_
    refine HeldBy.take (i := 4) rfl (by kernel_rfl) (by kernel_rfl) (by kernel_rfl) (fun _ _ _ h => h) (by rfl) (fun _ _ => by first | (go_simp; rfl) | (go_simp; done)) (by first | (go_simp; rfl) | (go_simp; done)) HS ?_
    refine HeldBy.take (i := 5) rfl (by kernel_rfl) (by kernel_rfl) (by kernel_rfl) (fun _ _ _ h => h) (by rfl) (fun _ _ => by first | (go_simp; rfl) | (go_simp; done)) (by first | (go_simp; rfl) | (go_simp; done)) HS ?_
    refine HeldBy.load_call (i := 3) (k := 6) (u := .int .i64 (n4 : Int)) (v := .int .i64 (nd : Int)) (f := 31) (args := #[.int .i64 (xl.length : Int)]) (by kernel_rfl) (by kernel_rfl) (by kernel_rfl) rfl rfl rfl rfl (by have hc := HG.c4; first | (go_simp; rfl) | (go_simp; done)) (by first | (go_simp; done) | (go_simp; first | exact ⟨rfl, rfl⟩ | rfl)) (by first | (go_simp; done) | (go_simp; first | exact ⟨rfl, rfl⟩ | rfl)) (by have hc := HG.c4; first | (go_simp; rfl) | (go_simp; done)) (HND.out U0) HS (by first | (go_simp; rfl) | (go_simp; done)) (by first | (go_simp; rfl) | (go_simp; done)) rfl rfl ?_
    refine HeldBy.take (i := 7) (v := .int .i64 ((n4 : Int) + (nd : Int))) rfl (by kernel_rfl) (by kernel_rfl) (by kernel_rfl) (fun _ _ _ h => h) (by rfl) (fun _ _ => by go_simp; exact wrap_id (by omega) (by omega)) (by first | (go_simp; rfl) | (go_simp; done)) HS ?_
    refine HeldBy.take (i := 8) rfl (by kernel_rfl) (by kernel_rfl) (by kernel_rfl) (fun _ _ _ h => h) (by rfl) (fun _ _ => by first | (go_simp; rfl) | (go_simp; done)) (by first | (go_simp; rfl) | (go_simp; done)) HS ?_
    refine HeldBy.take (i := 9) rfl (by kernel_rfl) (by kernel_rfl) (by kernel_rfl) (fun _ _ _ h => h) (by rfl) (fun _ _ => by first | (go_simp; rfl) | (go_simp; done)) (by first | (go_simp; rfl) | (go_simp; done)) HS ?_
    refine HeldBy.store (i := 10) (w' := U0.setCell ⟨q, 4, none⟩ (.int .i64 ((n4 : Int) + (nd : Int)))) rfl (by kernel_rfl) (by rfl) (by have hc := HG.c4; have hf := HG.free 4; first | (go_simp; done) | (go_simp; rfl)) (by first | (go_simp; rfl) | (go_simp; done)) (HS.set hqz hB 4 _) ?_
    have hst := (HS.set hqz hB 4 (.int .i64 ((n4 : Int) + (nd : Int))))
    have hcn : Counted w B q z most last wh en (.slice a k c) k (pre ++ [((.slice xa xl.length xc, xl) : Rec)]) (U0.setCell ⟨q, 4, none⟩ (.int .i64 ((n4 : Int) + (nd : Int)))) := by
      refine ⟨?_, hst.box, hst.below, hst.keep, ?_⟩
      · have e1 : n3 + 1 = wh + (pre ++ [((.slice xa xl.length xc, xl) : Rec)]).length := by rw [List.length_append, ← HN3.out]; rfl
        have e2 : n4 + nd = en + blks ((pre ++ [((.slice xa xl.length xc, xl) : Rec)]).map (·.2)) := by
          rw [List.map_append, blks_append, ← HN4.out, ← HD.out]
          simp only [List.map_cons, List.map_nil, blks]
          omega
        rw [← e1, ← e2]
        exact HG.s4' (by omega)
      · rw [List.map_append, blks_append, List.length_append]
        simp only [List.map_cons, List.map_nil, blks, List.length_cons, List.length_nil]
        have := HS1.out
        have := HS2.out
        rw [HD.out]
        omega
    refine wpAnyH_done (by kernel_rfl) ?_ _
    exact ⟨hst.stays, hcn⟩
  · rintro D xs V hD hS hC hK
    have HC := Lib.hid hC
    have HK := Lib.hid hK
    have HXS : Hid (L ++ xs.map (·.2) = recs b) := recs_of (HL.out.all (by rw [HEN.out, HWH.out, Nat.add_comm 1 wh]; exact hS))
    clear hC hK hS
    gi_wp2
    refine ⟨by simp, .inl ⟨_, _, rfl, run_takeDeferred HK.out, ?_⟩⟩
    have hDz : z < D := by have := H2.out.1; omega
    refine ⟨_, results_none rfl _ _ _, ⟨_, rfl⟩, ?_, HC.out.below.trans (belowK_b (w := W1) (n₀ := B) (by omega) _ D _ _ hD HK.out rfl rfl), fun g hg hne => (World.putObj_heap_other (by omega)).trans (HC.out.keep g (by omega) hne)⟩
    have e1 : (recs b).length = wh + xs.length := by rw [← HXS.out, List.length_append, List.length_map, HWH.out]
    have e2 : blks (recs b) = en + blks (xs.map (·.2)) := by rw [← HXS.out, blks_append, HEN.out]
    rw [e1, e2]
    exact HC.out.at_.of_heap (World.putObj_heap_other (by omega))
  · intro _ _ _ _ _ _ h _
    exact h.elim
end Go.Proofs.Ytfndiocohaploaa.L
