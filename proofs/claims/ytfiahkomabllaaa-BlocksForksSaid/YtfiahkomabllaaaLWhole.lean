/- blocks.wholeRecords: the iterator over the whole records. -/
import Derived.Test.YtfiahkomabllaaaLFirst
import Derived.Test.YtfiahkomabllaaaRangeSeen
import Derived.Test.YtfiahkomabllaaaKnownIn
import Derived.Handy
import Derived.LoopIn
import Derived.LoopNIn
import Derived.OwnWalkIn
namespace Go.Proofs.Ytfiahkomabllaaa.L
open Go Go.RowKit
open Go.Lib
attribute [local go_sem] Oper.semAt_some

def Boxed (W : World) (b : Nat) (t : TypeId) (v : Value) : Prop := W.heap[b]? = some (.cells #[v] t (0, 0))
section
variable {W W' : World} {b : Nat} {t : TypeId} {v : Value}
theorem Boxed.lt (h : Boxed W b t v) : b < W.heap.size := (Array.getElem?_eq_some_iff.1 h).1
theorem Boxed.cell (h : Boxed W b t v) : W.cell? ⟨b, 0, none⟩ = some v := (cell_of_row W b 0 _ _ _ h).trans rfl
theorem Boxed.frozen (h : Boxed W b t v) : W.frozen? ⟨b, 0, none⟩ = false := frozen_of_row W b 0 _ _ h
theorem Boxed.of_heap (h : Boxed W b t v) (he : W'.heap[b]? = W.heap[b]?) : Boxed W' b t v := he.trans h
theorem Boxed.after (h : Boxed W b t v) (hb : Below W.heap.size W W') : Boxed W' b t v := h.of_heap (hb.block b h.lt)
theorem Boxed.set (h : Boxed W b t v) (x : Value) : Boxed (W.setCell ⟨b, 0, none⟩ x) b t x := (heap_setCell_same W b 0 _ _ x h).trans rfl
theorem Boxed.new (W : World) (t : TypeId) (v : Value) : Boxed (W.alloc (.cells #[v] t (0, 0))) W.heap.size t v := heap_alloc_new W _
end
abbrev tBs : TypeId := 57
theorem whole_any (a : Option Addr) (k c : Nat) (n : Int) (w : World) : Calls Try.prog 35 #[.slice a k c, .int .i64 n] w fun e w' => e = .returned (.func (.func 46) #[] #[.pointer (some ⟨w.heap.size, 0, none⟩), .pointer (some ⟨w.heap.size + 1, 0, none⟩)]) ∧
    (w.alloc (.cells #[.slice a k c] tBs)).alloc (.cells #[.int .i64 n] 3) = w' := by
  go_enter Try.func35, Try.ntmps35
  go_wp2
  go_ret
  exact ⟨rfl, rfl⟩
abbrev Rec := Value × Bytes
def encR (x : Rec) : Array Value := #[x.1]
def Seen (x : Rec) (W : World) : Prop := BytesU W x.1 x.2
def AllOf (l : Bytes) (n : Nat) (xs : List Rec) : Prop := All (xs.map (·.2)) l n
theorem own_below {α : Type} {B : Nat} {J : α → World → Prop} (hJ : OwnFrom B J) {s : α} {A W : World} (h : J s A) (hb : Below A.heap.size A W) : J s W :=
  hJ s A W none h (grown_of_below hb none) (fun r e => by cases e)
def lenV : Value → Nat
  | .slice _ n _ => n
  | _ => 0
/-- Where the iterator is: so many records it has told; what is left. -/
structure At (k : Nat) (l : Bytes) (n : Nat) (og : Option Nat) (J : List Rec → World → Prop) (xs : List Rec) (r : Value) (W : World) : Prop where
  left : BlksIn W r (k - blks (xs.map (·.2))) (l.drop (blks (xs.map (·.2)) * 64))
  told : Begin (xs.map (·.2)) l n
  own : r.ownBlock = og
  inv : J xs W
set_option maxRecDepth 100000 in
set_option maxHeartbeats 4000000 in
theorem whole_seq (m : Nat) (hm : 3 ≤ m) (a : Option Addr) (k c : Nat) (l : Bytes) (n Ba Bn lo hi N0 : Nat) (E : TypeId) (w : World) (hv : BlksIn w (.slice a k c) k l) (hba : Boxed w Ba tBs (.slice a k c)) (hbn : Boxed w Bn 3 (.int .i64 (n : Int))) (hk : k ≤ 1000000) (hn : n ≤ 100000000000)
    (hN : w.heap.size ≤ N0) (hx : ∀ g, (Value.slice a k c).ownBlock = some g → ¬ (lo ≤ g ∧ g < hi)) :
    RangeSeen.Seq Fence.wide m Try.prog 46 #[.pointer (some ⟨Ba, 0, none⟩), .pointer (some ⟨Bn, 0, none⟩)] encR lo hi N0 E Seen (AllOf l n) (fun _ => True) k w := fun L J Jx W hW hL hLW hJ hJx hY h0 => by
  have HV := Lib.hid (hv.after hW)
  have HLT : Hid (∀ g, (Value.slice a k c).ownBlock = some g → g < w.heap.size) := fun g hg => hv.lt hg
  have HX := Lib.hid hx
  have HJ := Lib.hid hJ
  have HY := Lib.hid hY
  have H0 := Lib.hid h0
  have HLL : Hid (l.length = k * 64) := hv.1
  have hWW := hW.size
  have c1 := (hba.after hW).cell
  have c2 := (hbn.after hW).cell
  have HLW : Hid (w.heap.size ≤ L) := hL
  clear hv hba hbn hx hW hJ hJx hY h0 hL
  obtain ⟨og, hog⟩ : ∃ o, (Value.slice a k c).ownBlock = o := ⟨_, rfl⟩
  rw [hog] at HLT HX
  have HA0 : Hid (At k l n og J [] (.slice a k c) W) := ⟨by simpa [blks] using HV.out, trivial, hog, H0.out⟩
  refine callsIn_of_wp Try.func46 rfl trivial ?_ rfl
  simp only [Try.ntmps46, List.size_toArray, List.length_cons, List.length_nil, Nat.reduceAdd, Nat.reduceSub, Array.replicate_succ, Array.replicate_zero, List.push_toArray, List.append_toArray, List.nil_append, List.cons_append]
  gi_wp2
  gi_loopw [4, 5] (fun r nv wr => ∃ (xs : List Rec) (nn : Nat), nn = n + xs.length ∧ nv = .int .i64 (nn : Int) ∧ At k l n og J xs r wr ∧ w.heap.size ≤ wr.heap.size) (fun r _ _ => lenV r)
  case atStart => exact ⟨[], n, rfl, rfl, HA0.out, hWW⟩
  case round =>
    clear HA0 H0 HV c1 c2
    obtain ⟨xs, nn, hnn0, rfl, hat, hsz⟩ := hrel
    have HAT := Lib.hid hat
    have hle := hat.told.le
    have hpos := hat.told.pos
    rw [List.length_map] at hpos
    have hnn : nn ≤ 1000000000000 := by have := HLL.out; omega
    have HNN := Lib.hid hnn0
    have HFI : Hid (CallsIn Fence.wide (m - 1) Try.prog 47 #[u4, .int .i64 (nn : Int)] wr fun e w' => FirstA wr (first (l.drop (blks (xs.map (·.2)) * 64)) nn) e w') := callsIn_wide.2 (first_any _ _ _ nn wr hat.left hnn)
    clear hat hnn0
    cases hf : first (l.drop (blks (xs.map (·.2)) * 64)) nn with
    | none =>
      have HF := Lib.hid hf
      rw [hf] at HFI
      clear hf
      gi_wp2_with fail
      refine ⟨trivial, fun h => (by cases h), HFI.out.mono ?_⟩
      rintro e W2 ⟨hb2, rfl⟩
      have HJ2 := Lib.hid (own_below HJ.out HAT.out.inv hb2)
      clear hb2
      gi_wp2
      refine ⟨fun f h => (by cases h), ?_⟩
      gi_wp2
      refine bodyPost_ret (results_none rfl _ _ _) rfl ?_
      exact ⟨⟨_, rfl⟩, .inl ⟨xs, ⟨HAT.out.told, by rw [List.length_map, ← HNN.out]; exact HF.out⟩, HJ2.out⟩⟩
    | some rec =>
      have HF := Lib.hid hf
      rw [hf] at HFI
      obtain ⟨hn1, -, hn3, -⟩ := first_some hf
      rw [List.length_drop] at hn3
      have hrm := need_room hn1
      clear hf
      gi_wp2_with fail
      refine ⟨trivial, fun h => (by cases h), HFI.out.mono ?_⟩
      rintro e W2 ⟨hb2, v, rfl, hv2⟩
      have hlen : xs.length < k := by have := HLL.out; omega
      obtain ⟨fn, tmps, assign, body, hy, hR⟩ := HY.out xs (v, rec) W2 (own_below HJ.out HAT.out.inv hb2) hv2 hlen
      change Sem.run Try.prog (Instr.yield L #[v]) _ = _ at hy
      have HR := Lib.hid hR
      have HLF : Hid (BlksIn W2 u4 (k - blks (xs.map (·.2))) (l.drop (blks (xs.map (·.2)) * 64))) := HAT.out.left.after hb2
      obtain ⟨va, vk, vc, rfl⟩ := hv2.bytes.shape
      obtain rfl : vk = rec.length := by obtain ⟨_, _, _, _, h, -⟩ := hv2; cases h; rfl
      have hb2s := hb2.size
      clear hb2 hv2 hR
      gi_wp2
      refine ⟨fun h => (by cases h), HR.out.mono ?_⟩
      have HND : Hid (∀ W, CallsIn Fence.wide (m - 1) Try.prog 16 #[.int .i64 (rec.length : Int)] W fun e w' => e = .returned (.int .i64 (need rec.length : Nat)) ∧ w' = W) := fun W => callsIn_wide.2 (by
        have := need_any (rec.length : Int) W (by omega)
        rwa [Int.toNat_natCast] at this)
      rintro e W3 (⟨rfl, hJ3, hk3⟩ | ⟨rfl, hJ3, hk3⟩)
      · have hog := HAT.out.own
        have hL3 : BlksIn W3 u4 (k - blks (xs.map (·.2))) (l.drop (blks (xs.map (·.2)) * 64)) := HLF.out.of_heap hk3.1 fun g hg => by
          have h1 := HLT.out g (by rw [← hg, hog])
          exact hk3.2 g (HLF.out.lt hg) (by have := HLW.out; omega) (HX.out g (by rw [← hg, hog])) (.inl (by omega))
        obtain ⟨v5, hs5, hv5, ho5⟩ := hL3.tail (n := need rec.length) (by have := HLL.out; omega) .i64
        have e1 : k - blks (xs.map (·.2)) - need rec.length = k - blks ((xs ++ [((.slice va rec.length vc, rec) : Rec)]).map (·.2)) := by
          rw [List.map_append, blks_append]
          simp only [List.map_cons, List.map_nil, blks]
          omega
        have e2 : (l.drop (blks (xs.map (·.2)) * 64)).drop (need rec.length * 64) = l.drop (blks ((xs ++ [((.slice va rec.length vc, rec) : Rec)]).map (·.2)) * 64) := by
          rw [List.drop_drop, List.map_append, blks_append]
          congr 1
          simp only [List.map_cons, List.map_nil, blks]
          omega
        have HN : Hid (At k l n og J (xs ++ [((.slice va rec.length vc, rec) : Rec)]) v5 W3) := ⟨by rw [← e1, ← e2]; exact hv5, by rw [List.map_append]; exact HAT.out.told.snoc (by rw [List.length_map, ← HNN.out]; exact HF.out), ho5.trans hog, hJ3⟩
        obtain ⟨a5, c5, rfl⟩ := hv5.shape
        obtain ⟨a4, c4, rfl⟩ := HLF.out.shape
        have HSZ : Hid (w.heap.size ≤ W3.heap.size) := Nat.le_trans (Nat.le_trans hsz hb2s) hk3.1
        have HLL2 : Hid (nn + 1 = n + (xs ++ [((.slice va rec.length vc, rec) : Rec)]).length) := by show _ = _; rw [List.length_append, HNN.out]; rfl
        have hnz : 1 ≤ need rec.length := by omega
        have hkk : need rec.length ≤ k - blks (xs.map (·.2)) := by have := HLL.out; omega
        clear hJ3 hk3 hL3 hv5 ho5 e1 e2 hog hy
        gi_wp2
        refine ⟨trivial, fun h => (by cases h), (HND.out _).mono ?_⟩
        rintro e W4 ⟨rfl, rfl⟩
        gi_wp2
        exact ⟨⟨_, nn + 1, HLL2.out, by go_num, HN.out, HSZ.out⟩, by simp [lenV]; omega⟩
      · have HJ4 := Lib.hid hJ3
        clear hJ3 hk3 hy
        gi_wp2
        refine bodyPost_ret (results_none rfl _ _ _) rfl ?_
        exact ⟨⟨_, rfl⟩, .inr ⟨_, trivial, HJ4.out⟩⟩
end Go.Proofs.Ytfiahkomabllaaa.L
