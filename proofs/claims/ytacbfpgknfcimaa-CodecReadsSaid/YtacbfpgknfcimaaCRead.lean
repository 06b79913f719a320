/- A drawn region walked by hand: a call that may panic. Of no program. Bytes that lie in memory, and a reader's box over them. Bytes as they come in. codec's readers: giveUp, take, one, end. codec's reader of numbers. codec's readers: end, text, size, flags, gone. -/
import Derived.Test.YtacbfpgknfcimaaHeldBy
import Derived.Test.YtacbfpgknfcimaaCPut
import Derived.Test.YtacbfpgknfcimaaCBase
import Derived.Test.YtacbfpgknfcimaaOBox
import Derived.Laws.IdiomStrings
import Derived.Deep.AppendLies
import Derived.Test.YtacbfpgknfcimaaORow
import Derived.OpenShut
import Derived.SizedLaws
import Derived.WalkArith
import Derived.WalkLawsBesides
import Derived.RangeFuncBox
import Derived.Outline
import Derived.Deep.RegionHeld3
import Derived.Deep.Cut
namespace Go.HeldBy
open Go

section
variable {P : Program} {ops : Array Oper} {Q : Exit → Act → World → Prop} {md : Region.Mode} {S : World → Prop}

/-- It alone may come up, and is a call, which may panic. -/
theorem callE {i : Nat} {oi : Oper} {f : FuncId} {args : Array Value} {fuel : Nat} {listed : Array Bool} {a : Act} {mk : Value → Act} {w : World} (hi : ops[i]? = some oi) (hr : Region.ready md ops listed = [i]) (hw : Region.wanted oi (yielded ops a.tmps) = true)
    (hv : (execOp a.eval oi).run P w = .ok (.enter f args) w) (he : ∀ v, a.put oi.dst v = mk v)
    (h : Calls P f args w fun e w' => (∃ v, e = .returned v ∧ S w' ∧ wpAnyH P md ops Q S fuel (listed.setIfInBounds i true) (mk v) w') ∨ ∃ c, e = .panicked c ∧ Q (.panic c) a w') : wpAnyH P md ops Q S (fuel + 1) listed a w := by
  refine wpAnyH_all hr (by simp) fun j hj => ?_
  obtain rfl : j = i := by simpa using hj
  unfold wpOp
  simp only [hi, hw, if_true]
  refine .inl ?_
  unfold Oper.wp
  rw [hv]
  refine h.mono fun e w' hh => ?_
  rcases hh with ⟨v, rfl, h2, h3⟩ | ⟨c, rfl, h2⟩
  · exact ⟨h2, (he v).symm ▸ h3⟩
  · exact h2
end
end Go.HeldBy
namespace Go.Proofs.Ytacbfpgknfcimaa.C
open Go.RowKit T O

/-- v are the bytes l, wherever they lie. -/
def BytesIn (W : World) (v : Value) (l : Bytes) : Prop :=
  (∃ c, v = .slice none 0 c ∧ l = []) ∨ ∃ g off cap, v = .slice (some ⟨g, off, none⟩) l.length cap ∧ l.length ≤ cap ∧ cap ≤ maxLen ∧ g < W.heap.size ∧ ∀ i (h : i < l.length), W.cell? ⟨g, off + i, none⟩ = some (bv l[i])
section
variable {W W' : World} {v : Value} {l : Bytes} {B r : Nat}
theorem BytesIn.kept (h : BytesIn W v l) {row : Option Nat} (hg : W.grownBy W' row) (hne : v.ownBlock = none ∨ v.ownBlock ≠ row) : BytesIn W' v l := by
  rcases h with h | ⟨g, off, cap, rfl, h1, h2, h3, h4⟩
  · exact .inl h
  · exact .inr ⟨g, off, cap, rfl, h1, h2, Nat.lt_of_lt_of_le h3 hg.size, fun i hi => hg.cell (h4 i hi) (by simpa [Value.ownBlock] using hne)⟩
theorem BytesIn.lt (h : BytesIn W v l) {k : Nat} (hk : v.ownBlock = some k) : k < W.heap.size := by
  rcases h with ⟨c, rfl, -⟩ | ⟨g, off, cap, rfl, h1, h2, h3, h4⟩
  · cases hk
  · simp [Value.ownBlock] at hk
    omega
theorem BytesIn.below (h : BytesIn W v l) (hb : Below B W W') (hB : ∀ k, v.ownBlock = some k → k < B) : BytesIn W' v l := by
  rcases h with h | ⟨g, off, cap, rfl, h1, h2, h3, h4⟩
  · exact .inl h
  · exact .inr ⟨g, off, cap, rfl, h1, h2, Nat.lt_of_lt_of_le h3 hb.size, fun i hi => (hb.cell (p := ⟨g, off + i, none⟩) (hB g rfl)).trans (h4 i hi)⟩
theorem BytesIn.after (h : BytesIn W v l) (hb : Below W.heap.size W W') : BytesIn W' v l := h.below hb (fun _ hk => h.lt hk)
theorem BytesIn.shape (h : BytesIn W v l) : ∃ a k c, v = .slice a k c := by
  rcases h with ⟨c, rfl, -⟩ | ⟨g, off, cap, rfl, -⟩
  · exact ⟨_, _, _, rfl⟩
  · exact ⟨_, _, _, rfl⟩
theorem BytesIn.alloc (h : BytesIn W v l) (x : Go.Obj) : BytesIn (W.alloc x) v l := h.kept (World.grownBy_alloc W x none) (by cases v.ownBlock <;> simp)
theorem Held.bytes (h : Held W B v l) : BytesIn W v l := by
  have hcells := fun g (hg : v.ownBlock = some g) => World.ownsRow.cells (g := g) h hg
  obtain ⟨h1, h2⟩ := h
  rcases h2 with ⟨rfl, hn⟩ | ⟨g, cap, cur, rfl, hb, hg, hnc, hcm, hcs, ht⟩
  · exact .inl ⟨0, rfl, List.length_eq_zero_iff.1 hn⟩
  · refine .inr ⟨g, 0, cap, rfl, hnc, hcm, (Array.getElem?_eq_some_iff.1 hg).1, fun i hi => ?_⟩
    have := hcells g rfl i (bv l[i]) (by rw [List.getElem?_map, List.getElem?_eq_getElem hi]; rfl)
    have hadd : (⟨g, 0, none⟩ : Addr).add i = ⟨g, 0 + i, none⟩ := by unfold Addr.add; split <;> simp_all
    rw [hadd] at this
    exact this
/-- The bytes as a text. -/
theorem BytesIn.str (h : BytesIn W v l) (dst : TypeId) (hd : Try.prog.underlying dst = some .string) : (convert 30 dst v).run Try.prog W = .ok (.string ⟨l.toArray⟩) W := by
  rcases h with ⟨c, rfl, rfl⟩ | ⟨g, off, cap, rfl, h1, h2, h3, h4⟩
  · exact run_convert_bytes_nil W 30 5 Try.underlying30 Try.underlying5 0 c dst hd
  · refine run_convert_bytes_back W 30 dst 5 ⟨g, off, none⟩ cap l Try.underlying30 Try.underlying5 hd fun j hj => ?_
    have hadd : (⟨g, off, none⟩ : Addr).add j = ⟨g, off + j, none⟩ := by unfold Addr.add; split <;> simp_all
    rw [hadd]
    exact h4 j hj
end

theorem sizeByte (w : World) : (sizeOf (Try.prog.elem 30)).run Try.prog w = .ok 1 w := by kernel_rfl
theorem sliceByte : Try.prog.underlying 30 = some (.slice (Try.prog.elem 30)) := by kernel_rfl
theorem add_zero' (g off : Nat) : (⟨g, off, none⟩ : Addr).add 0 = ⟨g, off, none⟩ := rfl
theorem add_lit' (g off n : Nat) : (⟨g, off, none⟩ : Addr).add n = ⟨g, off + n, none⟩ := by unfold Addr.add; split <;> simp_all
section
variable {W W' : World} {v : Value} {l : Bytes}
/-- The first n bytes. -/
theorem BytesIn.head (h : BytesIn W v l) {n : Nat} (hn : n ≤ l.length) (k : IntKind) :
    ∃ v1, (∀ w, (Instr.slice 30 v none (some (.int k n)) none).run Try.prog w = .ok v1 w) ∧ BytesIn W v1 (l.take n) ∧ v1.ownBlock = v.ownBlock := by
  rcases h with ⟨c, rfl, rfl⟩ | ⟨g, off, cap, rfl, h1, h2, h3, h4⟩
  · obtain rfl : n = 0 := by simpa using hn
    refine ⟨.slice none 0 c, fun w => ?_, .inl ⟨c, rfl, rfl⟩, rfl⟩
    rw [run_slice_h w 30 none 0 c sliceByte k (0 : Nat) (by omega) (by omega), sizeByte]
    simp [Result.andThen, sliced]
  · have hl : (l.take n).length = n := by rw [List.length_take]; omega
    refine ⟨.slice (some ⟨g, off, none⟩) n cap, fun w => ?_, .inr ⟨g, off, cap, by rw [hl], by omega, h2, h3, fun i hi => ?_⟩, rfl⟩
    · rw [run_slice_h w 30 (some ⟨g, off, none⟩) l.length cap sliceByte k n (by omega) (by omega), sizeByte]
      simp [Result.andThen, sliced, add_zero']
    · rw [h4 i (by omega)]
      simp
/-- What is behind the first n bytes. -/
theorem BytesIn.tail (h : BytesIn W v l) {n : Nat} (hn : n ≤ l.length) (k : IntKind) :
    ∃ v1, (∀ w, (Instr.slice 30 v (some (.int k n)) none none).run Try.prog w = .ok v1 w) ∧ BytesIn W v1 (l.drop n) ∧ v1.ownBlock = v.ownBlock := by
  rcases h with ⟨c, rfl, rfl⟩ | ⟨g, off, cap, rfl, h1, h2, h3, h4⟩
  · obtain rfl : n = 0 := by simpa using hn
    refine ⟨.slice none 0 c, fun w => ?_, .inl ⟨c, rfl, rfl⟩, rfl⟩
    rw [run_slice_l w 30 none 0 c sliceByte k (0 : Nat) (by omega) (by omega), sizeByte]
    simp [Result.andThen, sliced]
  · have hl : (l.drop n).length = l.length - n := List.length_drop
    by_cases hc : cap = n
    · refine ⟨.slice (some ⟨g, off, none⟩) (l.length - n) (cap - n), fun w => ?_, .inr ⟨g, off, cap - n, by rw [hl], by omega, by omega, h3, fun i hi => by omega⟩, rfl⟩
      rw [run_slice_l w 30 (some ⟨g, off, none⟩) l.length cap sliceByte k n (by omega) (by omega), sizeByte]
      simp [Result.andThen, sliced, hc]
    · refine ⟨.slice (some ⟨g, off + n, none⟩) (l.length - n) (cap - n), fun w => ?_, .inr ⟨g, off + n, cap - n, by rw [hl], by omega, by omega, h3, fun i hi => ?_⟩, rfl⟩
      · rw [run_slice_l w 30 (some ⟨g, off, none⟩) l.length cap sliceByte k n (by omega) (by omega), sizeByte]
        simp [Result.andThen, sliced, hc, add_lit']
      · have := h4 (n + i) (by omega)
        rw [show off + n + i = off + (n + i) by omega, this]
        simp
theorem BytesIn.len (h : BytesIn W v l) (ty : TypeId) (w : World) : (Builtin.len_ #[30] ty #[v]).run Try.prog w = .ok (goInt l.length) w := by
  rcases h with ⟨c, rfl, rfl⟩ | ⟨g, off, cap, rfl, -⟩
  · simp [go_sem, Builtin.len_, run_underlying sliceByte]
  · simp [go_sem, Builtin.len_, run_underlying sliceByte]
theorem BytesIn.small (h : BytesIn W v l) : l.length ≤ maxLen := by
  rcases h with ⟨c, rfl, rfl⟩ | ⟨g, off, cap, rfl, h1, h2, -⟩
  · simp
  · omega
end

/-- What v holds lies below block r. -/
def Under (v : Value) (r : Nat) : Prop := ∀ k, v.ownBlock = some k → k < r
theorem Under.ne {v : Value} {r : Nat} (h : Under v r) : v.ownBlock ≠ some r := fun e => by have := h r e; omega
theorem Under.of {v u : Value} {r : Nat} (h : Under v r) (e : u.ownBlock = v.ownBlock) : Under u r := fun k hk => h k (e ▸ hk)
/-- A reader's box: what is left. -/
def Left (W : World) (r : Nat) (l : Bytes) : Prop := ∃ v, W.heap[r]? = some (.cells #[v] 82 (0, 0)) ∧ BytesIn W v l ∧ Under v r
/-- The document's reader's box: what is left, and whether it is bad. -/
def RLeft (W : World) (r : Nat) (bad : Bool) (l : Bytes) : Prop := ∃ v, W.heap[r]? = some (.cells #[v, .bool bad] 60 (0, 0)) ∧ BytesIn W v l ∧ Under v r
/-- The value that a reader panics with. -/
def wrongV : Value := .iface 77 (.agg #[])
abbrev gaveUp : Ending := .panicked [{ v := wrongV, recovered := false }]
end Go.Proofs.Ytacbfpgknfcimaa.C
namespace Go.Proofs.Ytacbfpgknfcimaa.C
open Go.ChangeShapes Go.WideShapes Go.RowKit T O

set_option maxRecDepth 100000 in
theorem open_bytes {H : Type} {enc : TypeId × Value → H} {w : World} {base : Nat} {spare : Nat → Bool} {held : Bool} {r : Reach} {b0 : Nat} {v : Value} {d : DataW H} {p : List MemPlace}
    (hv : Value.okWide Try.prog w r b0 30 v) (h : DataW.Trod enc Try.prog w base spare held 30 v d p) : ∃ l, BytesIn w v l := by
  have hv2 := hv
  obtain ⟨a0, len, cap, rfl⟩ := okWide_slice Try.underlying30 hv
  obtain ⟨fuel, hf⟩ := h
  rcases open_ints Try.underlying30 Try.underlying5 (by kernel_rfl) hf with ⟨hcs, -⟩ | ⟨a, len', cap', zs, hcs, -, hl, hm, hz, -, hcell, hwz⟩
  · refine ⟨[], .inl ⟨0, ?_, rfl⟩⟩
    simpa [Value.cells] using hcs
  · have e : (Value.slice a0 len cap) = .slice (some a) len' cap' := by simpa [Value.cells] using hcs
    cases e
    unfold Value.okWide at hv2
    rw [Try.underlying30] at hv2
    unfold Cell.okWide Cell.ok at hv2
    rw [Try.underlying30] at hv2
    obtain ⟨-, -, -, hsp, row, cells, hsh, -⟩ := hv2
    have hlt : a.block < w.heap.size := by
      unfold World.shape? at hsh
      rcases Nat.lt_or_ge a.block w.heap.size with hh | hh
      · exact hh
      · rw [Array.getElem?_eq_none hh] at hsh; cases hsh
    obtain ⟨b, off, spot⟩ := a
    obtain rfl : spot = none := hsp
    have hzl : len ≤ zs.length := by
      rw [hz]
      split <;> omega
    have hll : ((zs.take len).map (fun n => UInt8.ofNat n.toNat)).length = len := by rw [List.length_map, List.length_take]; omega
    refine ⟨(zs.take len).map (fun n => UInt8.ofNat n.toNat), .inr ⟨b, off, cap, by rw [hll], by omega, hm, hlt, fun i hi => ?_⟩⟩
    rw [hll] at hi
    have hc := hcell i (by omega)
    have hadd : (⟨b, off, none⟩ : Addr).add i = ⟨b, off + i, none⟩ := add_lit' b off i
    rw [hadd] at hc
    rw [hc]
    have hb := bounds_u8 (hwz zs[i] (List.getElem_mem (by omega)))
    have hg : zs.getD i 0 = zs[i] := by simp [List.getD, List.getElem?_eq_getElem (show i < zs.length by omega)]
    rw [hg]
    simp only [List.getElem_map, List.getElem_take]
    unfold bv
    rw [toNat_ofNat (by omega), Int.toNat_of_nonneg hb.1]
end Go.Proofs.Ytacbfpgknfcimaa.C
namespace Go.Proofs.Ytacbfpgknfcimaa.C
open Go.RowKit T O
open Go.Lib hiding intOf

theorem giveUp_any (w : World) : Calls Try.prog 65 #[] w fun e w' => e = gaveUp ∧ w = w' := by
  go_enter Try.func65, Try.ntmps65
  go_wp2
  exact ⟨rfl, rfl, rfl⟩

section
variable {W W' : World} {r : Nat} {l : Bytes}
theorem Left.lt (h : Left W r l) : r < W.heap.size := by
  obtain ⟨v, hb, -⟩ := h
  exact (Array.getElem?_eq_some_iff.1 hb).1
theorem Left.kept (h : Left W r l) {row : Option Nat} (hg : W.grownBy W' row) (hne : some r ≠ row) (hb : ∀ v, W.heap[r]? = some (.cells #[v] 82 (0, 0)) → v.ownBlock = none ∨ v.ownBlock ≠ row) : Left W' r l := by
  obtain ⟨v, h1, h2, h3⟩ := h
  exact ⟨v, (hg.block r (Array.getElem?_eq_some_iff.1 h1).1 hne).trans h1, h2.kept hg (hb v h1), h3⟩
theorem Left.after (h : Left W r l) (hb : Below W.heap.size W W') : Left W' r l := by
  obtain ⟨v, h1, h2, h3⟩ := h
  exact ⟨v, (hb.block r (Array.getElem?_eq_some_iff.1 h1).1).trans h1, h2.after hb, h3⟩
theorem Left.small (h : Left W r l) : l.length ≤ maxLen := by
  obtain ⟨v, h1, h2, h3⟩ := h
  exact h2.small
/-- What lies above the box may turn. -/
theorem Left.above (h : Left W r l) {B : Nat} (hb : Below B W W') (hB : r < B) : Left W' r l := by
  obtain ⟨v, h1, h2, h3⟩ := h
  exact ⟨v, (hb.block r hB).trans h1, h2.below hb (fun k hk => by have := h3 k hk; omega), h3⟩
theorem Left.drew (h : Left W r l) : Left W.drew r l := by
  obtain ⟨v, h1, h2, h3⟩ := h
  exact ⟨v, h1, h2.after ⟨rfl, rfl, rfl, Nat.le_refl _, fun _ _ => rfl⟩, h3⟩
/-- What take answers. -/
def Takes (r n : Nat) (l : Bytes) (W : World) (e : Ending) (W' : World) : Prop :=
  W.grownBy W' (some r) ∧ ((n ≤ l.length ∧ ∃ v, e = .returned v ∧ BytesIn W' v (l.take n) ∧ Under v r ∧ Left W' r (l.drop n)) ∨ (l.length < n ∧ e = gaveUp))
end
theorem heap_set0 {W : World} {r : Nat} {cs : Array Value} {t : TypeId} (h : W.heap[r]? = some (.cells cs t (0, 0))) (v : Value) : (W.setCell ⟨r, 0, none⟩ v).heap[r]? = some (.cells (cs.setIfInBounds 0 v) t (0, 0)) := heap_setCell_same W r 0 cs t v h

set_option maxRecDepth 100000 in
set_option maxHeartbeats 1000000 in
theorem take_any (r : Nat) (l : Bytes) (n : Nat) (W : World) (h : Left W r l) :
    Calls Try.prog 78 #[.pointer (some ⟨r, 0, none⟩), .int .u64 n] W (Takes r n l W) := by
  obtain ⟨v, hbox, hB, hne⟩ := h
  have hcell : W.cell? ⟨r, 0, none⟩ = some v := (cell_of_row W r 0 _ _ _ hbox).trans rfl
  have hfz : W.frozen? ⟨r, 0, none⟩ = false := frozen_of_row W r 0 _ _ hbox
  have hl := hB.len
  have hm := hB.small
  unfold maxLen at hm
  by_cases hn : n ≤ l.length
  · obtain ⟨v1, hs1, hB1, ho1⟩ := hB.head hn .u64
    obtain ⟨v2, hs2, hB2, ho2⟩ := hB.tail hn .u64
    obtain ⟨a2, k2, c2, rfl⟩ := hB2.shape
    have HF : Hid (Takes r n l W (.returned v1) (W.setCell ⟨r, 0, none⟩ (.slice a2 k2 c2))) := by
      have hg := grownBy_setCell' W r (.slice a2 k2 c2)
      refine ⟨hg, .inl ⟨hn, v1, rfl, hB1.kept hg (.inr (hne.of ho1).ne), hne.of ho1, _, (heap_set0 hbox _).trans rfl, hB2.kept hg (.inr (hne.of ho2).ne), hne.of ho2⟩⟩
    have h1 : decide (l.length < n) = false := by simpa using hn
    clear hB hB1 hB2 ho1 ho2 hne hbox hn
    go_enter Try.func78, Try.ntmps78
    go_wp2
    go_ret
    exact HF.out
  · have HF : Hid (Takes r n l W gaveUp W) := ⟨World.grownBy.refl _ _, .inr ⟨by omega, rfl⟩⟩
    have h1 : decide (l.length < n) = true := by simpa using hn
    clear hB hne hbox hn
    go_enter Try.func78, Try.ntmps78
    go_wp2_with (go_at_call 65; refine (giveUp_any _).mono ?_; rintro e w' ⟨rfl, rfl⟩)
    exact ⟨rfl, HF.out⟩

/-- What a reader answers: what is read and what is left, or it gives up. -/
def Reads {α : Type} (r : Nat) (P : Rd α) (enc : α → Value) (l : Bytes) (W : World) (e : Ending) (W' : World) : Prop :=
  W.grownBy W' (some r) ∧ ((∃ x l', P l = some (x, l') ∧ e = .returned (enc x) ∧ Left W' r l') ∨ (P l = none ∧ e = gaveUp))

set_option maxRecDepth 100000 in
set_option maxHeartbeats 1000000 in
theorem one_any (r : Nat) (l : Bytes) (W : World) (h : Left W r l) :
    Calls Try.prog 60 #[.pointer (some ⟨r, 0, none⟩)] W (Reads r rdByte bv l W) := by
  go_enter Try.func60, Try.ntmps60
  go_wp2_with fail
  refine (take_any r l 1 W h).mono ?_
  rintro e W1 ⟨hg, ⟨hn, v, rfl, hB, hne, hL⟩ | ⟨hn, rfl⟩⟩
  · obtain ⟨b, l', rfl⟩ : ∃ b l', l = b :: l' := by
      cases l with
      | nil => simp at hn
      | cons b l' => exact ⟨b, l', rfl⟩
    have HF : Hid (Reads r rdByte bv (b :: l') W (.returned (bv b)) W1) := ⟨hg, .inl ⟨b, l', rfl, rfl, hL⟩⟩
    obtain ⟨c, -, hx⟩ | ⟨g, off, cap, hv, h1, h2, h3, h4⟩ := hB
    · cases hx
    · have hc : W1.cell? ⟨g, off, none⟩ = some (bv b) := h4 0 (by simp)
      have hv' : v = .slice (some ⟨g, off, none⟩) 1 cap := hv
      subst hv'
      clear hg hL hne hn h4 hv h1 h2 h3
      go_wp2
      go_ret
      exact HF.out
  · have HF : Hid (Reads r rdByte bv l W gaveUp W1) := ⟨hg, .inr ⟨by cases l with
      | nil => rfl
      | cons b l' => simp at hn, rfl⟩⟩
    clear hg hn
    go_wp2
    exact ⟨rfl, HF.out⟩
end Go.Proofs.Ytacbfpgknfcimaa.C
namespace Go.Proofs.Ytacbfpgknfcimaa.C
open Go.RowKit T O
open Go.Lib hiding intOf

/-- How far a number is read. -/
def NumAt (r : Nat) (l : Bytes) (W : World) (n i : Value) (wr : World) : Prop :=
  ∃ (k acc : Nat) (l' : Bytes), i = .int .i64 ((7 * k : Nat) : Int) ∧ n = .int .u64 (acc : Int) ∧ k ≤ 9 ∧ acc < 2 ^ (7 * k) ∧ Left wr r l' ∧ W.grownBy wr (some r) ∧ rdNum l = rdN k acc l'
/-- A byte more of a number. -/
structure NumIn (l l2 : Bytes) (b : UInt8) (k acc : Nat) : Prop where
  step : rdNum l = if badAt k b then none else if b.toNat < 128 then some (acc + b.toNat * 2 ^ (7 * k), l2) else rdN (k + 1) (acc + b.toNat % 128 * 2 ^ (7 * k)) l2
  acc : acc < 2 ^ (7 * k)
  le : k ≤ 9
theorem num_in {l l' l2 : Bytes} {b : UInt8} {k acc : Nat} (hb : rdByte l' = some (b, l2)) (hr : rdNum l = rdN k acc l') (ha : acc < 2 ^ (7 * k)) (hk : k ≤ 9) : NumIn l l2 b k acc := by
  cases l' with
  | nil => cases hb
  | cons c cs =>
    simp only [rdByte, Option.some.injEq, Prod.mk.injEq] at hb
    obtain ⟨rfl, rfl⟩ := hb
    exact ⟨hr, ha, hk⟩
abbrev encN (n : Nat) : Value := .int .u64 (n : Int)
/-- What is reckoned of a byte. -/
abbrev orN (acc : Nat) (b : UInt8) (sh : Int) : Int := bits .or .u64 (acc : Int) (IntKind.u64.wrap (IntKind.u64.wrap (bits .andNot .u8 (b.toNat : Int) 128) * 2 ^ sh.toNat))
theorem orN_eq {l l2 : Bytes} {b : UInt8} {k acc : Nat} (h : NumIn l l2 b k acc) (hn : badAt k b = false) {sh : Int} (hs : ((7 * k : Nat) : Int) = sh) :
    orN acc b sh = ((acc + b.toNat % 128 * 2 ^ (7 * k) : Nat) : Int) ∧ acc + b.toNat % 128 * 2 ^ (7 * k) < 2 ^ 64 ∧ (k < 9 → acc + b.toNat % 128 * 2 ^ (7 * k) < 2 ^ (7 * (k + 1))) := by
  unfold orN
  have hb := b.toNat_lt
  rw [andNot_byte _ hb]
  refine or_shift h.acc h.le (Nat.mod_lt _ (by decide)) (fun h9 => ?_) hs
  unfold badAt at hn
  simp [h9] at hn
  omega
theorem num_done {r : Nat} {l l2 : Bytes} {W W1 : World} {b : UInt8} {k acc : Nat} (h : NumIn l l2 b k acc) (hn : badAt k b = false) {sh : Int} (hs : ((7 * k : Nat) : Int) = sh) (hL : Left W1 r l2) (hg : W.grownBy W1 (some r)) (h128 : (b.toNat : Int) < 128) :
    Reads r rdNum encN l W (.returned (.int .u64 (orN acc b sh))) W1 := by
  refine ⟨hg, .inl ⟨acc + b.toNat * 2 ^ (7 * k), l2, ?_, ?_, hL⟩⟩
  · rw [h.step, hn, if_neg (by simp), if_pos (by omega)]
  · rw [(orN_eq h hn hs).1, Nat.mod_eq_of_lt (by omega)]
theorem num_next {r : Nat} {l l2 : Bytes} {W W1 : World} {b : UInt8} {k acc : Nat} (h : NumIn l l2 b k acc) (hn : badAt k b = false) {sh : Int} (hs : ((7 * k : Nat) : Int) = sh) (hL : Left W1 r l2) (hg : W.grownBy W1 (some r)) (h128 : ¬ (b.toNat : Int) < 128) :
    NumAt r l W (.int .u64 (orN acc b sh)) (.int .i64 (sh + 7)) W1 := by
  have hk : k < 9 := by
    have := h.le
    by_cases h9 : k = 9
    · unfold badAt at hn
      simp [h9] at hn
      omega
    · omega
  have ho := orN_eq h hn hs
  refine ⟨k + 1, acc + b.toNat % 128 * 2 ^ (7 * k), l2, by rw [← hs]; exact congrArg (Value.int .i64) (by omega), by rw [ho.1], by omega, ho.2.2 hk, hL, hg, ?_⟩
  rw [h.step, hn, if_neg (by simp), if_neg (by omega)]
theorem num_bad {r : Nat} {l l2 : Bytes} {W W1 : World} {b : UInt8} {k acc : Nat} (h : NumIn l l2 b k acc) (hn : badAt k b = true) (hg : W.grownBy W1 (some r)) : Reads r rdNum encN l W gaveUp W1 :=
  ⟨hg, .inr ⟨by rw [h.step, hn, if_pos rfl], rfl⟩⟩
theorem num_end {r : Nat} {l l' : Bytes} {W W1 : World} {k acc : Nat} (hb : rdByte l' = none) (hr : rdNum l = rdN k acc l') (hg : W.grownBy W1 (some r)) : Reads r rdNum encN l W gaveUp W1 := by
  cases l' with
  | nil => exact ⟨hg, .inr ⟨hr, rfl⟩⟩
  | cons c cs => cases hb
theorem bad_no {k : Nat} {b : UInt8} (h1 : k = 0 ∨ ¬ (b.toNat : Int) = 0) (h2 : ¬ k = 9 ∨ ¬ 1 < (b.toNat : Int)) : badAt k b = false := by
  unfold badAt
  simp
  omega
theorem bad_yes {k : Nat} {b : UInt8} (h : (0 < k ∧ (b.toNat : Int) = 0) ∨ (k = 9 ∧ 1 < (b.toNat : Int))) : badAt k b = true := by
  unfold badAt
  simp
  omega

set_option maxRecDepth 100000 in
set_option maxHeartbeats 2000000 in
theorem number_any (r : Nat) (l : Bytes) (W : World) (h : Left W r l) :
    Calls Try.prog 62 #[.pointer (some ⟨r, 0, none⟩)] W (Reads r rdNum encN l W) := by
  have H := Lib.hid h
  clear h
  go_enter Try.func62, Try.ntmps62
  go_wp2
  go_loopw [3, 4] (fun n i wr => NumAt r l W n i wr) (fun _ i _ => (70 - intOf i).toNat)
  case atStart => exact ⟨0, 0, l, rfl, rfl, by omega, by simp, H.out, World.grownBy.refl _ _, rfl⟩
  case round =>
    obtain ⟨k, acc, l', rfl, rfl, hk, ha, hL, hg, hr⟩ := hrel
    have HL := Lib.hid hL
    have HR := Lib.hid hr
    have HG := Lib.hid hg
    have HA := Lib.hid ha
    clear hL hr hg ha
    go_wp2_with fail
    refine (one_any r l' _ HL.out).mono ?_
    rintro e W1 ⟨hg1, ⟨b, l2, hb, rfl, hL2⟩ | ⟨hb, rfl⟩⟩
    · have HN := Lib.hid (num_in hb HR.out HA.out hk)
      have HL2 := Lib.hid hL2
      have HG1 := Lib.hid (HG.out.trans hg1)
      clear hb hL2 hg1 HL HR HG HA
      unfold bv
      have hbl : (b.toNat : Int) < 256 := by have := b.toNat_lt; omega
      by_cases hk0 : k = 0
      · subst hk0
        by_cases h128 : (b.toNat : Int) < 128
        · have HF := Lib.hid (num_done HN.out (bad_no (.inl rfl) (.inl (by decide))) (sh := 0) rfl HL2.out HG1.out h128)
          go_wp2_with fail
          go_ret
          have := HF.out
          unfold orN at this
          rw [show (2 : Int) ^ (0 : Int).toNat = 1 from rfl, Int.mul_one] at this
          exact this
        · have HF := Lib.hid (num_next HN.out (bad_no (.inl rfl) (.inl (by decide))) (sh := 0) rfl HL2.out HG1.out h128)
          go_wp2_with fail
          go_roundw
          case rel =>
            have := HF.out
            unfold orN at this
            rw [show (2 : Int) ^ (0 : Int).toNat = 1 from rfl, Int.mul_one] at this
            exact this
          case measure => simp [intOf]
      · have hk1 : (0 : Int) < ((7 * k : Nat) : Int) := by omega
        have hk2 : (((7 * k : Nat) : Int) == 63) = decide (k = 9) := by rw [Bool.eq_iff_iff]; simp; omega
        have hk3 : (0 : Int) ≤ ((7 * k : Nat) : Int) := by omega
        have hk4 : ((7 * k : Nat) : Int) ≤ 63 := by omega
        generalize hsh : ((7 * k : Nat) : Int) = sh at *
        have HSH := Lib.hid hsh
        clear hsh
        by_cases hz : (b.toNat : Int) = 0
        · have HF := Lib.hid (num_bad HN.out (bad_yes (.inl ⟨by omega, hz⟩)) HG1.out)
          clear hk2
          have hz' : ((b.toNat : Int) == 0) = true := by simpa using hz
          clear hz
          go_wp2_with (go_at_call 65; refine (giveUp_any _).mono ?_; rintro e w' ⟨rfl, rfl⟩)
          exact ⟨rfl, HF.out⟩
        · by_cases h9 : k = 9
          · have h9' : decide (k = 9) = true := by simpa using h9
            rw [h9'] at hk2
            clear h9'
            by_cases h1 : 1 < (b.toNat : Int)
            · have HF := Lib.hid (num_bad HN.out (bad_yes (.inr ⟨h9, h1⟩)) HG1.out)
              clear h9
              go_wp2_with (go_at_call 65; refine (giveUp_any _).mono ?_; rintro e w' ⟨rfl, rfl⟩)
              exact ⟨rfl, HF.out⟩
            · have h128 : (b.toNat : Int) < 128 := by omega
              have HF := Lib.hid (num_done HN.out (bad_no (.inr hz) (.inr h1)) HSH.out HL2.out HG1.out h128)
              have hz1 : ((b.toNat : Int) == 0) = false := by simpa using hz
              have h1b : decide (1 < (b.toNat : Int)) = false := by simpa using h1
              clear h9
              go_wp2_with fail
              go_ret
              exact HF.out
          · have h9' : decide (k = 9) = false := by simpa using h9
            rw [h9'] at hk2
            clear h9'
            by_cases h128 : (b.toNat : Int) < 128
            · have HF := Lib.hid (num_done HN.out (bad_no (.inr hz) (.inl h9)) HSH.out HL2.out HG1.out h128)
              go_wp2_with fail
              go_ret
              exact HF.out
            · have HF := Lib.hid (num_next HN.out (bad_no (.inr hz) (.inl h9)) HSH.out HL2.out HG1.out h128)
              go_wp2_with fail
              go_roundw
              case rel => exact HF.out
              case measure => have := HSH.out; simp [intOf]; omega
    · have HF := Lib.hid (num_end hb HR.out (HG.out.trans hg1))
      clear hb hg1 HR HG HA HL
      go_wp2_with fail
      exact ⟨rfl, HF.out⟩
end Go.Proofs.Ytacbfpgknfcimaa.C
namespace Go.Proofs.Ytacbfpgknfcimaa.C
open Go.RowKit T O
open Go.Lib hiding intOf

/-- A reader's box in which n bytes are left. -/
def LenAt (W : World) (r n : Nat) : Prop := (∃ a c, W.heap[r]? = some (.cells #[.slice a n c] 82 (0, 0))) ∧ n ≤ maxLen
theorem Left.len {W : World} {r : Nat} {l : Bytes} (h : Left W r l) : LenAt W r l.length := by
  obtain ⟨v, h1, h2, -⟩ := h
  refine ⟨?_, h2.small⟩
  rcases h2 with ⟨c, rfl, rfl⟩ | ⟨g, off, cap, rfl, -⟩
  · exact ⟨_, _, h1⟩
  · exact ⟨_, _, h1⟩
theorem LenAt.of {W W1 : World} {r n : Nat} (h : LenAt W r n) (e : W1.heap[r]? = W.heap[r]?) : LenAt W1 r n := by
  obtain ⟨⟨a, c, h1⟩, h2⟩ := h
  exact ⟨⟨a, c, e.trans h1⟩, h2⟩
/-- Nothing may be left. -/
def Ends (n : Nat) (W : World) (e : Ending) (W' : World) : Prop := W = W' ∧ ((n = 0 ∧ e = .returned (.tuple #[])) ∨ (n ≠ 0 ∧ e = gaveUp))

set_option maxRecDepth 100000 in
set_option maxHeartbeats 1000000 in
theorem end_any (r n : Nat) (W : World) (h : LenAt W r n) :
    Calls Try.prog 59 #[.pointer (some ⟨r, 0, none⟩)] W (Ends n W) := by
  obtain ⟨⟨a, c, hbox⟩, hm⟩ := h
  have hcell : W.cell? ⟨r, 0, none⟩ = some (.slice a n c) := (cell_of_row W r 0 _ _ _ hbox).trans rfl
  unfold maxLen at hm
  by_cases hn : 0 < n
  · have HF : Hid (Ends n W gaveUp W) := ⟨rfl, .inr ⟨by omega, rfl⟩⟩
    clear hbox
    go_enter Try.func59, Try.ntmps59
    go_wp2_with (go_at_call 65; refine (giveUp_any _).mono ?_; rintro e w' ⟨rfl, rfl⟩)
    exact ⟨rfl, HF.out⟩
  · obtain rfl : n = 0 := by omega
    have HF : Hid (Ends 0 W (.returned (.tuple #[])) W) := ⟨rfl, .inl ⟨rfl, rfl⟩⟩
    clear hbox hn
    go_enter Try.func59, Try.ntmps59
    go_wp2
    go_end0
    exact HF.out

set_option maxRecDepth 100000 in
set_option maxHeartbeats 1000000 in
theorem size_any (r : Nat) (l : Bytes) (W : World) (h : Left W r l) :
    Calls Try.prog 64 #[.pointer (some ⟨r, 0, none⟩)] W (Reads r rdSize (fun n => .int .i64 n) l W) := by
  go_enter Try.func64, Try.ntmps64
  go_wp2_with fail
  refine (number_any r l W h).mono ?_
  rintro e W1 ⟨hg, ⟨n, l', hp, rfl, hL⟩ | ⟨hp, rfl⟩⟩
  · have hb := (lawNum.only l n l' hp).1
    by_cases hn : (n : Int) ≤ 1125899906842624
    · have HF : Hid (Reads r rdSize (fun n => .int .i64 n) l W (.returned (.int .i64 (n : Int))) W1) := ⟨hg, .inl ⟨(n : Int), l', by simp [rdSize, keepR, rdU64, mapR, hp, hn], rfl, hL⟩⟩
      clear hp hg hL hb h
      go_wp2
      go_ret
      exact HF.out
    · have HF : Hid (Reads r rdSize (fun n => .int .i64 n) l W gaveUp W1) := ⟨hg, .inr ⟨by simp [rdSize, keepR, rdU64, mapR, hp, hn], rfl⟩⟩
      clear hp hg hL hb h
      go_wp2_with (go_at_call 65; refine (giveUp_any _).mono ?_; rintro e w' ⟨rfl, rfl⟩)
      exact ⟨rfl, HF.out⟩
  · have HF : Hid (Reads r rdSize (fun n => .int .i64 n) l W gaveUp W1) := ⟨hg, .inr ⟨by simp [rdSize, keepR, rdU64, mapR, hp], rfl⟩⟩
    clear hp hg h
    go_wp2
    exact ⟨rfl, HF.out⟩

set_option maxRecDepth 100000 in
set_option maxHeartbeats 1000000 in
theorem gone_any (r : Nat) (l : Bytes) (W : World) (h : Left W r l) :
    Calls Try.prog 69 #[.pointer (some ⟨r, 0, none⟩)] W (Reads r rdGone (fun g => .bool g) l W) := by
  go_enter Try.func69, Try.ntmps69
  go_wp2_with fail
  refine (one_any r l W h).mono ?_
  rintro e W1 ⟨hg, ⟨b, l', hp, rfl, hL⟩ | ⟨hp, rfl⟩⟩
  · unfold bv
    by_cases hn : (b.toNat : Int) ≤ 1
    · have HF : Hid (Reads r rdGone (fun g => .bool g) l W (.returned (.bool ((b.toNat : Int) == 1))) W1) := ⟨hg, .inl ⟨(b.toNat : Int) == 1, l', by
        have : b.toNat ≤ 1 := by omega
        simp [rdGone, keepR, mapR, hp, this]
        rw [Bool.eq_iff_iff]; simp; omega, rfl, hL⟩⟩
      clear hp hg hL h
      go_wp2
      go_ret
      exact HF.out
    · have HF : Hid (Reads r rdGone (fun g => .bool g) l W gaveUp W1) := ⟨hg, .inr ⟨by
        have : ¬ b.toNat ≤ 1 := by omega
        simp [rdGone, keepR, mapR, hp, this], rfl⟩⟩
      clear hp hg hL h
      go_wp2_with (go_at_call 65; refine (giveUp_any _).mono ?_; rintro e w' ⟨rfl, rfl⟩)
      exact ⟨rfl, HF.out⟩
  · have HF : Hid (Reads r rdGone (fun g => .bool g) l W gaveUp W1) := ⟨hg, .inr ⟨by simp [rdGone, keepR, mapR, hp], rfl⟩⟩
    clear hp hg h
    go_wp2
    exact ⟨rfl, HF.out⟩

/-- Four bits as a value. -/
def encF (x : Bool × Bool × Bool × Bool) : Value := .tuple #[.bool x.1, .bool x.2.1, .bool x.2.2.1, .bool x.2.2.2]
theorem bit_test : ∀ n : Nat, n < 16 → (((bits .and .u8 (n : Int) 1) != 0) = decide (n % 2 = 1)) ∧ (((bits .and .u8 (n : Int) 2) != 0) = decide (n / 2 % 2 = 1)) ∧ (((bits .and .u8 (n : Int) 4) != 0) = decide (n / 4 % 2 = 1)) ∧ (((bits .and .u8 (n : Int) 8) != 0) = decide (n / 8 % 2 = 1)) := by decide +kernel
set_option maxRecDepth 100000 in
set_option maxHeartbeats 1000000 in
theorem flagsR_any (r : Nat) (l : Bytes) (W : World) (h : Left W r l) :
    Calls Try.prog 63 #[.pointer (some ⟨r, 0, none⟩)] W (Reads r rdFlags encF l W) := by
  go_enter Try.func63, Try.ntmps63
  go_wp2_with fail
  refine (one_any r l W h).mono ?_
  rintro e W1 ⟨hg, ⟨b, l', hp, rfl, hL⟩ | ⟨hp, rfl⟩⟩
  · unfold bv
    by_cases hn : (b.toNat : Int) < 16
    · have hn' : b.toNat < 16 := by omega
      have HF : Hid (Reads r rdFlags encF l W (.returned (encF (flagsOf b))) W1) := ⟨hg, .inl ⟨flagsOf b, l', by simp [rdFlags, keepR, mapR, hp, hn'], rfl, hL⟩⟩
      have HB := Lib.hid (bit_test b.toNat hn')
      clear hp hg hL h hn'
      go_wp2
      have := HF.out
      refine bodyPost_ret (v := encF (flagsOf b)) ?_ rfl this
      unfold encF flagsOf
      simp [results, Try.results63, go_sem]
      exact HB.out
    · have HF : Hid (Reads r rdFlags encF l W gaveUp W1) := ⟨hg, .inr ⟨by
        have : ¬ b.toNat < 16 := by omega
        simp [rdFlags, keepR, mapR, hp, this], rfl⟩⟩
      clear hp hg hL h
      go_wp2_with (go_at_call 65; refine (giveUp_any _).mono ?_; rintro e w' ⟨rfl, rfl⟩)
      exact ⟨rfl, HF.out⟩
  · have HF : Hid (Reads r rdFlags encF l W gaveUp W1) := ⟨hg, .inr ⟨by simp [rdFlags, keepR, mapR, hp], rfl⟩⟩
    clear hp hg h
    go_wp2
    exact ⟨rfl, HF.out⟩

set_option maxRecDepth 100000 in
set_option maxHeartbeats 1000000 in
theorem text_any (r : Nat) (l : Bytes) (W : World) (h : Left W r l) :
    Calls Try.prog 61 #[.pointer (some ⟨r, 0, none⟩)] W (Reads r rdTxt (fun s => .string s) l W) := by
  have H := Lib.hid h.drew
  clear h
  go_enter Try.func61, Try.ntmps61
  go_upto_region 1 with (fail)
  refine wp_region_held_drew (S := fun _ => True) (by kernel_rfl) trivial (fun _ => ?_)
  refine HeldBy.take (i := 0) rfl (by kernel_rfl) (by kernel_rfl) (by kernel_rfl) (fun _ _ _ h => h) (by rfl) (fun _ _ => by go_simp; rfl) (by go_simp; rfl) trivial ?_
  refine HeldBy.take (i := 1) rfl (by kernel_rfl) (by kernel_rfl) (by kernel_rfl) (fun _ _ _ h => h) (by rfl) (fun _ _ => by go_simp; rfl) (by go_simp; rfl) trivial ?_
  refine HeldBy.take (i := 2) rfl (by kernel_rfl) (by kernel_rfl) (by kernel_rfl) (fun _ _ _ h => h) (by rfl) (fun _ _ => by go_simp; rfl) (by go_simp; rfl) trivial ?_
  refine HeldBy.take (i := 3) rfl (by kernel_rfl) (by kernel_rfl) (by kernel_rfl) (fun _ _ _ h => h) (by rfl) (fun _ _ => by go_simp; rfl) (by go_simp; rfl) trivial ?_
  refine HeldBy.callE (i := 4) rfl (by kernel_rfl) (by rfl) (by go_simp; exact ⟨rfl, rfl⟩) (by intro v; go_simp; rfl) ?_
  refine (number_any r l _ H.out).mono ?_
  rintro e W1 ⟨hg, ⟨n, l', hp, rfl, hL⟩ | ⟨hp, rfl⟩⟩
  · refine .inl ⟨_, rfl, trivial, ?_⟩
    refine HeldBy.callE (i := 5) rfl (by kernel_rfl) (by rfl) (by go_simp; exact ⟨rfl, rfl⟩) (by intro v; go_simp; rfl) ?_
    refine (take_any r l' n _ hL).mono ?_
    rintro e W2 ⟨hg2, ⟨hn, v, rfl, hB, hne, hL2⟩ | ⟨hn, rfl⟩⟩
    · have HF : Hid (Reads r rdTxt (fun s => .string s) l W (.returned (.string ⟨(l'.take n).toArray⟩)) W2) := ⟨(show W.grownBy W1 (some r) from ⟨hg.os, hg.tape, hg.output, hg.size, hg.block⟩).trans hg2, .inl ⟨_, l'.drop n, by simp [rdTxt, hp, hn], rfl, hL2⟩⟩
      have hs := hB.str 9 Try.underlying9
      refine .inl ⟨_, rfl, trivial, ?_⟩
      refine HeldBy.value (i := 6) (v := .string ⟨(l'.take n).toArray⟩) rfl (by kernel_rfl) (by rfl) (by go_simp; rfl) (by go_simp; rfl) trivial ?_
      refine HeldBy.take (i := 7) rfl (by kernel_rfl) (by kernel_rfl) (by kernel_rfl) (fun _ _ _ h => h) (by rfl) (fun _ _ => by go_simp; rfl) (by go_simp; rfl) trivial ?_
      refine wpAnyH_done (by kernel_rfl) ?_ _
      clear hp hg hL hg2 hB hL2 hn hne hs
      go_wp2
      go_ret
      exact HF.out
    · refine .inr ⟨_, rfl, ?_⟩
      exact ⟨rfl, (show W.grownBy W1 (some r) from ⟨hg.os, hg.tape, hg.output, hg.size, hg.block⟩).trans hg2, .inr ⟨by simp [rdTxt, hp]; omega, rfl⟩⟩
  · refine .inr ⟨_, rfl, ?_⟩
    exact ⟨rfl, (show W.grownBy W1 (some r) from ⟨hg.os, hg.tape, hg.output, hg.size, hg.block⟩), .inr ⟨by simp [rdTxt, hp], rfl⟩⟩
end Go.Proofs.Ytacbfpgknfcimaa.C
