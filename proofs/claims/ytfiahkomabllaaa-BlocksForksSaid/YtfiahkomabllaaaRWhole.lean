/- The document's log in memory; its whole records. -/
import Derived.Test.YtfiahkomabllaaaRRec
import Derived.Test.YtfiahkomabllaaaHeldBy
import Derived.Test.YtfiahkomabllaaaHeldLate
namespace Go.Proofs.Ytfiahkomabllaaa.L
open Go Go.RowKit
open Go.Lib

abbrev tRL : TypeId := 70
def cellsR (most : Nat) (v : Value) (last : Nat) : Array Value := #[v, .int .i64 last, .int .i64 most]
/-- The box of the document's log; last in bytes. -/
def RLAt (W : World) (q most : Nat) (v : Value) (last : Nat) : Prop := W.heap[q]? = some (.cells (cellsR most v last) tRL (0, 0))
section
variable {W W' : World} {q most last : Nat} {v : Value}
theorem RLAt.lt (h : RLAt W q most v last) : q < W.heap.size := (Array.getElem?_eq_some_iff.1 h).1
theorem RLAt.of_heap (h : RLAt W q most v last) (he : W'.heap[q]? = W.heap[q]?) : RLAt W' q most v last := he.trans h
theorem RLAt.after (h : RLAt W q most v last) (hb : Below W.heap.size W W') : RLAt W' q most v last := h.of_heap (hb.block q h.lt)
theorem RLAt.c0 (h : RLAt W q most v last) : W.cell? ⟨q, 0, none⟩ = some v := (cell_of_row W q 0 _ _ _ h).trans rfl
theorem RLAt.c1 (h : RLAt W q most v last) : W.cell? ⟨q, 1, none⟩ = some (.int .i64 last) := (cell_of_row W q 1 _ _ _ h).trans rfl
theorem RLAt.c2 (h : RLAt W q most v last) : W.cell? ⟨q, 2, none⟩ = some (.int .i64 most) := (cell_of_row W q 2 _ _ _ h).trans rfl
theorem RLAt.free (h : RLAt W q most v last) (i : Nat) : W.frozen? ⟨q, i, none⟩ = false := frozen_of_row W q i _ _ h
theorem RLAt.s0 (h : RLAt W q most v last) (x : Value) : RLAt (W.setCell ⟨q, 0, none⟩ x) q most x last := (heap_setCell_same W q 0 _ _ x h).trans rfl
theorem RLAt.s1 (h : RLAt W q most v last) (x : Nat) : RLAt (W.setCell ⟨q, 1, none⟩ (.int .i64 x)) q most v x := (heap_setCell_same W q 1 _ _ _ h).trans rfl
end
theorem BytesIn.mid {W : World} {v : Value} {l : Bytes} (h : BytesIn W v l) {n m : Nat} (hn : n ≤ m) (hm : m ≤ l.length) (k1 k2 : IntKind) :
    ∃ p c, (∀ w, (Instr.slice 30 v (some (.int k1 n)) (some (.int k2 m)) none).run Try.prog w = .ok (.slice p (m - n) c) w) ∧ BytesIn W (.slice p (m - n) c) ((l.drop n).take (m - n)) := by
  rcases h with ⟨c, rfl, rfl⟩ | ⟨g, off, cap, rfl, h1, h2, h3, h4⟩
  · obtain rfl : m = 0 := by simpa using hm
    obtain rfl : n = 0 := by omega
    refine ⟨none, c, fun w => ?_, .inl ⟨c, rfl, rfl⟩⟩
    rw [run_slice_lh w 30 none 0 c sliceByte k1 k2 (0 : Nat) (0 : Nat) (by omega) (by omega) (by omega), sizeByte]
    simp [Result.andThen, sliced]
  · have hl : ((l.drop n).take (m - n)).length = m - n := by rw [List.length_take, List.length_drop]; omega
    by_cases hc : cap = n
    · refine ⟨some ⟨g, off, none⟩, cap - n, fun w => ?_, .inr ⟨g, off, cap - n, by rw [hl], by omega, by omega, h3, fun i hi => by omega⟩⟩
      rw [run_slice_lh w 30 (some ⟨g, off, none⟩) l.length cap sliceByte k1 k2 n m (by omega) (by omega) (by omega), sizeByte]
      simp [Result.andThen, sliced, hc]
    · refine ⟨some ⟨g, off + n, none⟩, cap - n, fun w => ?_, .inr ⟨g, off + n, cap - n, by rw [hl], by omega, by omega, h3, fun i hi => ?_⟩⟩
      · rw [run_slice_lh w 30 (some ⟨g, off, none⟩) l.length cap sliceByte k1 k2 n m (by omega) (by omega) (by omega), sizeByte]
        simp [Result.andThen, sliced, hc, add_lit']
      · have := h4 (n + i) (by omega)
        rw [show off + n + i = off + (n + i) by omega, this]
        simp
theorem BytesIn.cellB {W : World} {g off k cap : Nat} {l : Bytes} (h : BytesIn W (.slice (some ⟨g, off, none⟩) k cap) l) {i : Nat} (hi : i < l.length) {x : Nat} (hx : l[i].toNat = x) : W.cell? ⟨g, off + i, none⟩ = some (.int .u8 (x : Int)) := by
  rcases h with ⟨c, h, -⟩ | ⟨g2, off2, cap2, h, -, -, -, h4⟩
  · cases h
  · cases h
    rw [h4 i hi, ← hx]
    rfl
theorem Held.toU {W : World} {B : Nat} {v : Value} {l : Bytes} (h : Held W B v l) (hne : l ≠ []) : BytesU W v l := by
  rcases h.2 with ⟨rfl, h0⟩ | ⟨g, cap, cur, rfl, -, hg, h1, h2, h3, h4⟩
  · exact absurd (List.length_eq_zero_iff.1 h0) hne
  · refine ⟨g, 0, cap, cur, rfl, h1, h2, hg, fun i hi => ?_⟩
    have h5 := congrArg (fun z => z[i]?) h4
    simp only [List.getElem?_take, List.getElem?_map, Array.getElem?_toList] at h5
    rw [if_pos (by omega), List.getElem?_eq_getElem hi] at h5
    rw [Nat.zero_add, h5]
    rfl
theorem recs_snoc (R : Nat) (W : World) (sl : Value) (L : List Bytes) (a : Option Addr) (k c : Nat) (r : Bytes) (ty : TypeId) (hr : RecsIn W R sl L) (hx : BytesU W (.slice a k c) r) (hB : R ≤ W.heap.size) (hn : L.length < 2000000) :
    ∃ v' W', (Builtin.append_ #[tRs, tRs] ty #[sl, .slice (some ⟨W.heap.size, 0, none⟩) 1 1]).run Try.prog (W.alloc (.cells #[.slice a k c] tR (0, 0))) = .ok v' W' ∧ RecsIn W' R v' (L ++ [r]) ∧ Below R W W' := by
  obtain ⟨xs, rfl, h1, h2⟩ := hr
  rw [List.length_map] at hn
  obtain ⟨v', W', h3, h4, h5, h6⟩ := add_row R W sl (xs.map (·.1)) a k c ty h1 hB (by rw [List.length_map]; exact hn)
  have hkeep : ∀ u l, BytesU W u l → BytesU W' u l := fun u l hu => hu.of (W' := W') fun g2 cs hc _ => h6 g2 (Array.getElem?_eq_some_iff.1 hc).1 (fun e => by
    rcases h1.2 with ⟨rfl, -⟩ | ⟨g3, cap3, cur3, rfl, -, hh, -⟩
    · simp [Value.ownBlock] at e
    · obtain rfl : g2 = g3 := by simpa [Value.ownBlock] using e
      rw [hc] at hh
      simp only [Option.some.injEq, Obj.cells.injEq] at hh
      exact absurd hh.2.1 (by decide))
  refine ⟨v', W', h3, ⟨xs ++ [(.slice a k c, r)], by simp, by rw [List.map_append]; exact h4, fun x hx2 => ?_⟩, h5⟩
  rcases List.mem_append.1 hx2 with hx2 | hx2
  · exact hkeep _ _ (h2 x hx2)
  · rw [List.mem_singleton.1 hx2]
    exact hkeep _ _ hx
theorem wpList_appends {ops : Array Oper} {rest : List Oper} {o : Oper} {a : Act} {W W' : World} {Q : Exit → Act → World → Prop} (hgd : o.guard = none) (s x : Operand) (t : TypeId)
    (ho : o.op = .call { callee := .builtin .append, args := #[s, x], argTypes := #[t, t] }) {v y v' : Value} (hs : a.eval s = v) (hy : a.eval x = y)
    (hr : (Builtin.append_ #[t, t] o.type #[v, y]).run Try.prog W = .ok v' W') (h : wpList Try.prog ops Q rest (a.put o.dst v') W') : wpList Try.prog ops Q (o :: rest) a W := by
  refine wpList_plain hgd fun _ hK => ?_
  unfold Oper.wp execOp
  simp only [ho, resolve, invoke, builtin, Sem.run_bind, Sem.run_pure, Result.andThen_ok, List.map_toArray, List.map_cons, List.map_nil, hs, hy]
  rw [hr]
  exact hK _ _ h
theorem first_none {D : Bytes} {n : Nat} (h : D.length = 0 ∨ need (lenOf D) = 0 ∨ D.length < need (lenOf D) * 64) : first D n = none := by unfold first; rw [if_pos h]
theorem first_of {D : Bytes} {n : Nat} (h : ¬ (D.length = 0 ∨ need (lenOf D) = 0 ∨ D.length < need (lenOf D) * 64)) : first D n = if laid ((D.drop 8).take (lenOf D)) n = D.take (need (lenOf D) * 64) then some ((D.drop 8).take (lenOf D)) else none := by unfold first; rw [if_neg h]
theorem RecsIn.stay {C : Nat} {W W' : World} {v : Value} {L : List Bytes} (h : RecsIn W C v L) (hb : Below W.heap.size W W') : RecsIn W' C v L := by
  obtain ⟨xs, e, h1, h2⟩ := h
  exact ⟨xs, e, h1.after hb, fun x hx => (h2 x hx).after hb⟩
theorem begin_same {L M : List Bytes} {b : Bytes} {n : Nat} (h : Begin L b n) (k : Begin M b n) (e : blks L = blks M) : L = M := by
  induction L generalizing M b n with
  | nil =>
    cases M with
    | nil => rfl
    | cons y M =>
      have h1 := (first_some k.1).1
      rw [blks_cons] at e
      simp [blks] at e
      omega
  | cons x L ih =>
    cases M with
    | nil =>
      have h1 := (first_some h.1).1
      rw [blks_cons] at e
      simp [blks] at e
      omega
    | cons y M =>
      have h1 : first b n = some x := h.1
      have h2 : first b n = some y := k.1
      obtain rfl : x = y := Option.some.inj (h1.symm.trans h2)
      rw [ih h.2 k.2 (by rw [blks_cons, blks_cons] at e; omega)]
/-- So far: the records that are collected, and where they end. -/
def WholeI (w : World) (b : Bytes) (v : Value) (p : Nat) (wr : World) : Prop := ∃ L, Begin L b 1 ∧ p = blks L * 64 ∧ RecsIn wr w.heap.size v L ∧ Below w.heap.size w wr
def WholeA (w : World) (b : Bytes) (e : Ending) (w' : World) : Prop := ∃ rv, e = .returned (.tuple #[rv, .int .i64 (blks (recs b) * 64 : Nat)]) ∧ RecsIn w' w.heap.size rv (recs b) ∧ Below w.heap.size w w'
theorem whole_end {w : World} {b : Bytes} {v : Value} {p : Nat} {wr : World} (h : WholeI w b v p wr) (hf : ∀ L : List Bytes, Begin L b 1 → p = blks L * 64 → first (b.drop p) (1 + L.length) = none) : p = blks (recs b) * 64 ∧ RecsIn wr w.heap.size v (recs b) ∧ Below w.heap.size w wr := by
  obtain ⟨L, h1, h2, h3, h4⟩ := h
  have hL : L = recs b := recs_of ⟨h1, by rw [← h2]; exact hf L h1 h2⟩
  rw [← hL]
  exact ⟨h2, h3, h4⟩
theorem lenOf_drop {b : Bytes} {p : Nat} (h : p + 1 < b.length) : lenOf (b.drop p) = b[p].toNat * 256 + b[p + 1].toNat := by
  unfold lenOf
  simp [List.getD, List.getElem?_eq_getElem (show p < b.length by omega), List.getElem?_eq_getElem (show p + 1 < b.length by omega)]
set_option maxRecDepth 100000 in
set_option maxHeartbeats 2000000 in
theorem rwhole_any (q most last k : Nat) (v : Value) (b : Bytes) (w : World) (h : RLAt w q most v last) (hv : BytesIn w v b) (hk : b.length = k * 64) (hk2 : k ≤ 5000) :
    Calls Try.prog 45 #[.pointer (some ⟨q, 0, none⟩)] w (WholeA w b) := by
  obtain ⟨a, kk, c, rfl⟩ := hv.shape
  obtain rfl : kk = b.length := by rcases hv with ⟨c, h, rfl⟩ | ⟨g, off, cap, h, -⟩ <;> cases h <;> rfl
  have HQ := Lib.hid h
  have HV := Lib.hid hv
  have HK := Lib.hid hk
  have hlen : b.length ≤ 320000 := by omega
  have HND := Lib.hid (fun (n : Nat) W (hn : n ≤ 9223372036854775807) => by
    have := rneed_any (n : Int) W (by omega)
    rwa [Int.toNat_natCast] at this)
  have HI : Hid (WholeI w b (.slice none 0 0) 0 w) := ⟨[], trivial, rfl, ⟨[], rfl, RowsIn.empty _ _, by simp⟩, Below.refl _ _⟩
  clear h hv hk
  go_enter Try.func45, Try.ntmps45
  go_wp2
  go_loopw [4, 5] (fun v iv wr => ∃ p : Nat, iv = .int .i64 (p : Int) ∧ WholeI w b v p wr) (fun _ iv _ => b.length - (RowKit.intOf iv).toNat)
  case atStart => exact ⟨0, rfl, HI.out⟩
  case round =>
    clear HI
    obtain ⟨p, rfl, hI⟩ := hrel
    have HI := Lib.hid hI
    obtain ⟨L, h1, h2, h3, h4⟩ := hI
    have hle := h1.le
    have hpos := h1.pos
    have hLk : L.length ≤ 5000 := by have := HK.out; omega
    have HBG := Lib.hid h1
    have HP := Lib.hid h2
    have HR := Lib.hid h3
    have HB := Lib.hid h4
    have HQ1 := Lib.hid (HQ.out.after h4)
    have HV1 := Lib.hid (HV.out.after h4)
    have hpl : p ≤ b.length := by omega
    have hp64 : p % 64 = 0 := by omega
    have c0 := HQ1.out.c0
    obtain ⟨a4, n4, c4, rfl⟩ : ∃ a4 n4 c4, u4 = .slice a4 n4 c4 := by
      obtain ⟨a5, c5, e⟩ := h3.shape
      exact ⟨a5, _, c5, e⟩
    have hn4 : n4 = L.length := by
      obtain ⟨a5, c5, e⟩ := h3.shape
      cases e
      rfl
    have HN4 := Lib.hid hn4
    have hn45 : n4 ≤ 5000 := by omega
    clear h1 h2 h3 h4 hle hpos hn4
    by_cases hp : p < b.length
    · have hp' : (p : Int) < (b.length : Int) := by omega
      have hp1 : p + 1 < b.length := by have := HK.out; omega
      have hp1' : (p : Int) + 1 < (b.length : Int) := by omega
      obtain ⟨g, off, rfl⟩ : ∃ g off, a = some ⟨g, off, none⟩ := by
        rcases HV.out with ⟨c2, e, h0⟩ | ⟨g, off, cap, e, -⟩
        · rw [h0] at hp; simp at hp
        · cases e; exact ⟨g, off, rfl⟩
      have HLN := lenOf_drop hp1
      have hx0 := b[p].toNat_lt
      have hx1 := b[p + 1].toNat_lt
      obtain ⟨x0, e0⟩ : ∃ x, b[p].toNat = x := ⟨_, rfl⟩
      obtain ⟨x1, e1⟩ : ∃ x, b[p + 1].toNat = x := ⟨_, rfl⟩
      rw [e0] at hx0 HLN
      rw [e1] at hx1 HLN
      have HE0 := Lib.hid e0
      have HE1 := Lib.hid e1
      have HX : Hid (x0 < 256 ∧ x1 < 256) := ⟨hx0, hx1⟩
      obtain ⟨n, hn⟩ : ∃ n, lenOf (b.drop p) = n := ⟨_, rfl⟩
      rw [hn] at HLN
      have HLE := Lib.hid HLN
      have HN := Lib.hid hn
      clear e0 e1 hx0 hx1 HLN hn
      go_wp2
      refine wp_region_held_drew (S := fun V => Below w.heap.size w V ∧ RLAt V q most (.slice (some ⟨g, off, none⟩) b.length c) last ∧ RecsIn V w.heap.size (.slice a4 n4 c4) L ∧ BytesIn V (.slice (some ⟨g, off, none⟩) b.length c) b) (by kernel_rfl) ⟨HB.out.drew, HQ1.out, HR.out, HV1.out⟩ (fun _ => ?_)
      refine HeldBy.gen (fun V => Below w.heap.size w V ∧ RLAt V q most (.slice (some ⟨g, off, none⟩) b.length c) last ∧ RecsIn V w.heap.size (.slice a4 n4 c4) L ∧ BytesIn V (.slice (some ⟨g, off, none⟩) b.length c) b) ⟨HB.out.drew, HQ1.out, HR.out, HV1.out⟩ ?_
      clear HB HQ1 HR HV1
      rintro U0 HS
      refine HeldBy.take (i := 0) rfl (by kernel_rfl) (by kernel_rfl) (by kernel_rfl) (fun _ _ _ h => h) (by rfl) (fun _ _ => by first | (go_simp; rfl) | (go_simp; done)) (by go_simp; rfl) HS ?_
      refine HeldBy.take (i := 1) rfl (by kernel_rfl) (by kernel_rfl) (by kernel_rfl) (fun _ _ _ h => h) (by rfl) (fun _ _ => by first | (go_simp; rfl) | (go_simp; done)) (by go_simp; rfl) HS ?_
      refine HeldBy.take (i := 2) rfl (by kernel_rfl) (by kernel_rfl) (by kernel_rfl) (fun _ _ _ h => h) (by rfl) (fun _ _ => by first | (go_simp; rfl) | (go_simp; done)) (by go_simp; rfl) HS ?_
      refine HeldBy.take (i := 3) rfl (by kernel_rfl) (by kernel_rfl) (by kernel_rfl) (fun _ _ _ h => h) (by rfl) (fun V hV => by have hc := hV.2.1.c0; first | (go_simp; rfl) | (go_simp; done)) (by go_simp; rfl) HS ?_
      refine HeldBy.take (i := 4) rfl (by kernel_rfl) (by kernel_rfl) (by kernel_rfl) (fun _ _ _ h => h) (by rfl) (fun _ _ => by first | (go_simp; rfl) | (go_simp; done)) (by go_simp; rfl) HS ?_
      refine HeldBy.take (i := 5) rfl (by kernel_rfl) (by kernel_rfl) (by kernel_rfl) (fun _ _ _ h => h) (by rfl) (fun _ _ => by first | (go_simp; rfl) | (go_simp; done)) (by go_simp; rfl) HS ?_
      refine HeldBy.take (i := 6) (v := .int .u8 (x0 : Int)) rfl (by kernel_rfl) (by kernel_rfl) (by kernel_rfl) (fun _ _ _ h => h) (by rfl) (fun V hV => by have hc := hV.2.2.2.cellB hp HE0.out; first | (go_simp; rfl) | (go_simp; done)) (by go_simp; rfl) HS ?_
      refine HeldBy.take (i := 7) (v := .int .i64 (x0 : Int)) rfl (by kernel_rfl) (by kernel_rfl) (by kernel_rfl) (fun _ _ _ h => h) (by rfl) (fun _ _ => by have := HX.out; first | (go_simp; done) | (go_simp; exact wrap_id (by omega) (by omega))) (by go_simp; rfl) HS ?_
      refine HeldBy.take (i := 8) (v := .int .i64 ((x0 : Int) * 256)) rfl (by kernel_rfl) (by kernel_rfl) (by kernel_rfl) (fun _ _ _ h => h) (by rfl) (fun _ _ => by have := HX.out; first | (go_simp; done) | (go_simp; exact wrap_id (by omega) (by omega))) (by go_simp; rfl) HS ?_
      refine HeldBy.take (i := 9) rfl (by kernel_rfl) (by kernel_rfl) (by kernel_rfl) (fun _ _ _ h => h) (by rfl) (fun _ _ => by first | (go_simp; rfl) | (go_simp; done)) (by go_simp; rfl) HS ?_
      refine HeldBy.take (i := 10) rfl (by kernel_rfl) (by kernel_rfl) (by kernel_rfl) (fun _ _ _ h => h) (by rfl) (fun _ _ => by first | (go_simp; rfl) | (go_simp; done)) (by go_simp; rfl) HS ?_
      refine HeldBy.take (i := 11) rfl (by kernel_rfl) (by kernel_rfl) (by kernel_rfl) (fun _ _ _ h => h) (by rfl) (fun _ _ => by first | (go_simp; rfl) | (go_simp; done)) (by go_simp; rfl) HS ?_
      refine HeldBy.take (i := 12) rfl (by kernel_rfl) (by kernel_rfl) (by kernel_rfl) (fun _ _ _ h => h) (by rfl) (fun V hV => by have hc := hV.2.1.c0; first | (go_simp; rfl) | (go_simp; done)) (by go_simp; rfl) HS ?_
      refine HeldBy.take (i := 13) rfl (by kernel_rfl) (by kernel_rfl) (by kernel_rfl) (fun _ _ _ h => h) (by rfl) (fun _ _ => by first | (go_simp; rfl) | (go_simp; done)) (by go_simp; rfl) HS ?_
      refine HeldBy.take (i := 14) (v := .int .i64 ((p : Int) + 1)) rfl (by kernel_rfl) (by kernel_rfl) (by kernel_rfl) (fun _ _ _ h => h) (by rfl) (fun _ _ => by go_simp; exact wrap_id (by omega) (by omega)) (by go_simp; rfl) HS ?_
      refine HeldBy.take (i := 15) rfl (by kernel_rfl) (by kernel_rfl) (by kernel_rfl) (fun _ _ _ h => h) (by rfl) (fun _ _ => by first | (go_simp; rfl) | (go_simp; done)) (by go_simp; rfl) HS ?_
      refine HeldBy.take (i := 16) (v := .int .u8 (x1 : Int)) rfl (by kernel_rfl) (by kernel_rfl) (by kernel_rfl) (fun _ _ _ h => h) (by rfl) (fun V hV => by have hc : V.cell? ⟨g, off + (p + 1), none⟩ = some (.int .u8 (x1 : Int)) := hV.2.2.2.cellB hp1 HE1.out; first | (go_simp; rfl) | (go_simp; done)) (by go_simp; rfl) HS ?_
      refine HeldBy.take (i := 17) (v := .int .i64 (x1 : Int)) rfl (by kernel_rfl) (by kernel_rfl) (by kernel_rfl) (fun _ _ _ h => h) (by rfl) (fun _ _ => by have := HX.out; first | (go_simp; done) | (go_simp; exact wrap_id (by omega) (by omega))) (by go_simp; rfl) HS ?_
      refine HeldBy.take (i := 18) (v := .int .i64 (n : Nat)) rfl (by kernel_rfl) (by kernel_rfl) (by kernel_rfl) (fun _ _ _ h => h) (by rfl) (fun _ _ => by have h3 := i64_join x0 x1 HX.out.1 HX.out.2; rw [← HLE.out] at h3; first | (go_simp; done) | (go_simp; exact h3)) (by go_simp; rfl) HS ?_
      refine HeldBy.take (i := 19) rfl (by kernel_rfl) (by kernel_rfl) (by kernel_rfl) (fun _ _ _ h => h) (by rfl) (fun _ _ => by first | (go_simp; rfl) | (go_simp; done)) (by go_simp; rfl) HS ?_
      refine wpAnyH_done (by kernel_rfl) ?_ _
      have HB2 : Hid (Below w.heap.size w U0) := HS.1
      have HQ2 : Hid (RLAt U0 q most (.slice (some ⟨g, off, none⟩) b.length c) last) := HS.2.1
      have HR2 : Hid (RecsIn U0 w.heap.size (.slice a4 n4 c4) L) := HS.2.2.1
      have HV2 : Hid (BytesIn U0 (.slice (some ⟨g, off, none⟩) b.length c) b) := HS.2.2.2
      have HI2 : Hid (WholeI w b (.slice a4 n4 c4) p U0) := ⟨L, HBG.out, HP.out, HR2.out, HB2.out⟩
      clear HS c0
      have c0 := HQ2.out.c0
      have hnd17 := need_le n
      have hnmax : n ≤ 65535 := by have := HLE.out; have := HX.out; omega
      have HNN := Lib.hid (HND.out n · (by omega))
      have hroom := @need_room n
      obtain ⟨nd, hnd⟩ : ∃ z, need n = z := ⟨_, rfl⟩
      rw [hnd] at hnd17 hroom HNN
      have HDL : Hid ((b.drop p).length = b.length - p) := List.length_drop
      have HND2 := Lib.hid hnd
      have HROOM := Lib.hid hroom
      clear hnd hroom
      by_cases hz : nd = 0
      · have hz' : (nd : Int) * 64 = 0 := by omega
        have hz2 : ((nd : Int) * 64 == 0) = true := beq_iff_eq.2 hz'
        obtain ⟨z1, z2, z3⟩ := whole_end HI2.out fun L _ _ => first_none (by rw [HN.out, HND2.out]; omega)
        have HZ := Lib.hid z1
        have HZ2 : Hid (RecsIn U0 w.heap.size (.slice a4 n4 c4) (recs b) ∧ Below w.heap.size w U0) := ⟨z2, z3⟩
        clear z1 z2 z3
        go_wp2_with (go_at_call 17; refine (HNN.out _).mono ?_; rintro e _ ⟨rfl, rfl⟩)
        go_ret2
        exact ⟨_, by rw [← HZ.out]; rfl, HZ2.out⟩
      have hz' : ¬ (nd : Int) * 64 = 0 := by omega
      have hz2 : ((nd : Int) * 64 == 0) = false := beq_eq_false_iff_ne.2 hz'
      by_cases hs : b.length < p + nd * 64
      · have hs' : (b.length : Int) < (p : Int) + (nd : Int) * 64 := by omega
        obtain ⟨z1, z2, z3⟩ := whole_end HI2.out fun L _ _ => first_none (by rw [HN.out, HND2.out, HDL.out]; omega)
        have HZ := Lib.hid z1
        have HZ2 : Hid (RecsIn U0 w.heap.size (.slice a4 n4 c4) (recs b) ∧ Below w.heap.size w U0) := ⟨z2, z3⟩
        clear z1 z2 z3
        go_wp2_with (go_at_call 17; refine (HNN.out _).mono ?_; rintro e _ ⟨rfl, rfl⟩)
        go_ret2
        exact ⟨_, by rw [← HZ.out]; rfl, HZ2.out⟩
      have hs' : ¬ (b.length : Int) < (p : Int) + (nd : Int) * 64 := by omega
      obtain ⟨hn1, hn1024, hn8, hn72⟩ := HROOM.out hz
      obtain ⟨p1, k1, hs1, hv1⟩ := HV2.out.mid (n := p + 8) (m := p + 8 + n) (by omega) (by omega) .i64 .i64
      obtain ⟨p2, k2, hs2, hv2⟩ := HV2.out.mid (n := p) (m := p + nd * 64) (by omega) (by omega) .i64 .i64
      rw [Nat.add_sub_cancel_left] at hv1 hv2
      have hs1' : ∀ w, (Instr.slice 30 (.slice (some ⟨g, off, none⟩) b.length c) (some (.int .i64 ((p : Int) + 8))) (some (.int .i64 ((p : Int) + 8 + (n : Int)))) none).run Try.prog w = .ok (.slice p1 n k1) w := fun w => by
        have := hs1 w
        rw [Nat.add_sub_cancel_left] at this
        exact this
      have hs2' : ∀ w, (Instr.slice 30 (.slice (some ⟨g, off, none⟩) b.length c) (some (.int .i64 (p : Int))) (some (.int .i64 ((p : Int) + (nd : Int) * 64))) none).run Try.prog w = .ok (.slice p2 (nd * 64) k2) w := fun w => by
        have := hs2 w
        rw [Nat.add_sub_cancel_left] at this
        exact this
      obtain ⟨D1, hD1⟩ : ∃ D, (b.drop (p + 8)).take n = D := ⟨_, rfl⟩
      obtain ⟨D2, hD2⟩ : ∃ D, (b.drop p).take (nd * 64) = D := ⟨_, rfl⟩
      rw [hD1] at hv1
      rw [hD2] at hv2
      have hl1 : D1.length = n := by rw [← hD1, List.length_take, List.length_drop]; omega
      have HF : Hid (first (b.drop p) (1 + L.length) = if laid D1 (1 + L.length) = D2 then some D1 else none) := by
        show _ = _
        rw [first_of (by rw [HN.out, HND2.out, HDL.out]; omega), HN.out, HND2.out, List.drop_drop, hD1, hD2]
      have HL1 := Lib.hid hl1
      have HV3 := Lib.hid hv1
      have HV4 := Lib.hid hv2
      clear hD1 hD2 hv1 hv2 hs1 hs2 hl1
      go_wp2_with (go_at_call 17; refine (HNN.out _).mono ?_; rintro e _ ⟨rfl, rfl⟩)
      refine wp_region_held_drew (S := fun V => Below w.heap.size w V ∧ RLAt V q most (.slice (some ⟨g, off, none⟩) b.length c) last ∧ RecsIn V w.heap.size (.slice a4 n4 c4) L ∧ BytesIn V (.slice p1 n k1) D1 ∧ BytesIn V (.slice p2 (nd * 64) k2) D2) (by kernel_rfl) ⟨HB2.out.drew, HQ2.out, HR2.out, HV3.out, HV4.out⟩ (fun _ => ?_)
      refine HeldBy.gen (fun V => Below w.heap.size w V ∧ RLAt V q most (.slice (some ⟨g, off, none⟩) b.length c) last ∧ RecsIn V w.heap.size (.slice a4 n4 c4) L ∧ BytesIn V (.slice p1 n k1) D1 ∧ BytesIn V (.slice p2 (nd * 64) k2) D2) ⟨HB2.out.drew, HQ2.out, HR2.out, HV3.out, HV4.out⟩ ?_
      clear HB2 HQ2 HR2 HV3 HV4
      rintro U0 HS
      refine HeldBy.take (i := 0) rfl (by kernel_rfl) (by kernel_rfl) (by kernel_rfl) (fun _ _ _ h => h) (by rfl) (fun _ _ => by first | (go_simp; rfl) | (go_simp; done)) (by first | (go_simp; rfl) | (go_simp; done)) HS ?_
      refine HeldBy.take (i := 1) rfl (by kernel_rfl) (by kernel_rfl) (by kernel_rfl) (fun _ _ _ h => h) (by rfl) (fun _ _ => by first | (go_simp; rfl) | (go_simp; done)) (by first | (go_simp; rfl) | (go_simp; done)) HS ?_
      refine HeldBy.take (i := 2) rfl (by kernel_rfl) (by kernel_rfl) (by kernel_rfl) (fun _ _ _ h => h) (by rfl) (fun _ _ => by first | (go_simp; rfl) | (go_simp; done)) (by first | (go_simp; rfl) | (go_simp; done)) HS ?_
      refine HeldBy.take (i := 3) (v := .int .i64 ((n4 : Int) + 1)) rfl (by kernel_rfl) (by kernel_rfl) (by kernel_rfl) (fun _ _ _ h => h) (by rfl) (fun _ _ => by go_simp; exact wrap_id (by omega) (by omega)) (by first | (go_simp; rfl) | (go_simp; done)) HS ?_
      refine HeldBy.take (i := 4) (v := .int .i64 ((n4 : Int) + 1)) rfl (by kernel_rfl) (by kernel_rfl) (by kernel_rfl) (fun _ _ _ h => h) (by rfl) (fun _ _ => by go_simp; exact Int.tmod_eq_of_lt (by omega) (by omega)) (by first | (go_simp; rfl) | (go_simp; done)) HS ?_
      refine HeldBy.take (i := 7) rfl (by kernel_rfl) (by kernel_rfl) (by kernel_rfl) (fun _ _ _ h => h) (by rfl) (fun _ _ => by first | (go_simp; rfl) | (go_simp; done)) (by first | (go_simp; rfl) | (go_simp; done)) HS ?_
      refine HeldBy.take (i := 8) rfl (by kernel_rfl) (by kernel_rfl) (by kernel_rfl) (fun _ _ _ h => h) (by rfl) (fun _ _ => by first | (go_simp; rfl) | (go_simp; done)) (by first | (go_simp; rfl) | (go_simp; done)) HS ?_
      refine HeldBy.take (i := 9) rfl (by kernel_rfl) (by kernel_rfl) (by kernel_rfl) (fun _ _ _ h => h) (by rfl) (fun _ _ => by first | (go_simp; rfl) | (go_simp; done)) (by first | (go_simp; rfl) | (go_simp; done)) HS ?_
      refine HeldBy.take (i := 10) rfl (by kernel_rfl) (by kernel_rfl) (by kernel_rfl) (fun _ _ _ h => h) (by rfl) (fun V hV => by have hc := hV.2.1.c0; first | (go_simp; rfl) | (go_simp; done)) (by first | (go_simp; rfl) | (go_simp; done)) HS ?_
      refine HeldBy.take (i := 11) rfl (by kernel_rfl) (by kernel_rfl) (by kernel_rfl) (fun _ _ _ h => h) (by rfl) (fun _ _ => by first | (go_simp; rfl) | (go_simp; done)) (by first | (go_simp; rfl) | (go_simp; done)) HS ?_
      refine HeldBy.take (i := 12) rfl (by kernel_rfl) (by kernel_rfl) (by kernel_rfl) (fun _ _ _ h => h) (by rfl) (fun _ _ => by first | (go_simp; rfl) | (go_simp; done)) (by first | (go_simp; rfl) | (go_simp; done)) HS ?_
      refine HeldBy.take (i := 13) rfl (by kernel_rfl) (by kernel_rfl) (by kernel_rfl) (fun _ _ _ h => h) (by rfl) (fun _ _ => by first | (go_simp; rfl) | (go_simp; done)) (by first | (go_simp; rfl) | (go_simp; done)) HS ?_
      refine HeldBy.take (i := 14) (v := .int .i64 ((p : Int) + (nd : Int) * 64)) rfl (by kernel_rfl) (by kernel_rfl) (by kernel_rfl) (fun _ _ _ h => h) (by rfl) (fun _ _ => by go_simp; exact wrap_id (by omega) (by omega)) (by first | (go_simp; rfl) | (go_simp; done)) HS ?_
      refine HeldBy.take (i := 15) rfl (by kernel_rfl) (by kernel_rfl) (by kernel_rfl) (fun _ _ _ h => h) (by rfl) (fun _ _ => by first | (go_simp; rfl) | (go_simp; done)) (by first | (go_simp; rfl) | (go_simp; done)) HS ?_
      refine HeldBy.take (i := 16) (v := .string ⟨D2.toArray⟩) rfl (by kernel_rfl) (by kernel_rfl) (by kernel_rfl) (fun _ _ _ h => h) (by rfl) (fun V hV => exec_str hV.2.2.2.2 rfl rfl) (by first | (go_simp; rfl) | (go_simp; done)) HS ?_
      have hneD : need D1.length ≠ 0 := by rw [HL1.out, HND2.out]; exact hz
      have HRC : Calls Try.prog 49 #[.slice p1 n k1, .int .i64 ((n4 : Int) + 1)] U0 fun e W2 => ∃ x, e = .returned x ∧ (Held W2 U0.heap.size x (laid D1 (n4 + 1)) ∧ Below U0.heap.size U0 W2) := record_any _ D1 (n4 + 1) U0 HS.2.2.2.1 hneD (by omega)
      refine HeldBy.callE (i := 5) rfl (by kernel_rfl) rfl (by first | (go_simp; done) | (go_simp; first | exact ⟨rfl, rfl⟩ | rfl)) HRC ?_
      rintro x W2 ⟨hx, hb2⟩
      have HS2 : Below w.heap.size w W2 ∧ RLAt W2 q most (.slice (some ⟨g, off, none⟩) b.length c) last ∧ RecsIn W2 w.heap.size (.slice a4 n4 c4) L ∧ BytesIn W2 (.slice p1 n k1) D1 ∧ BytesIn W2 (.slice p2 (nd * 64) k2) D2 :=
        ⟨HS.1.trans (hb2.mono HS.1.size), HS.2.1.after hb2, HS.2.2.1.stay hb2, HS.2.2.2.1.after hb2, HS.2.2.2.2.after hb2⟩
      refine ⟨HS2, ?_⟩
      obtain ⟨bb, hbb⟩ : ∃ bb, bb = decide (laid D1 (n4 + 1) = D2) := ⟨_, rfl⟩
      have HBB := Lib.hid hbb
      clear hbb
      refine HeldBy.value (i := 6) (v := .string ⟨(laid D1 (n4 + 1)).toArray⟩) rfl (by kernel_rfl) (by rfl) (exec_str hx.bytes rfl rfl) (by first | (go_simp; rfl) | (go_simp; done)) HS2 ?_
      refine HeldBy.take (i := 17) (v := .bool (!bb)) rfl (by kernel_rfl) (by kernel_rfl) (by kernel_rfl) (fun _ _ _ h => h) (by rfl) (fun _ _ => exec_neq_str rfl rfl rfl (by rw [HBB.out])) (by first | (go_simp; rfl) | (go_simp; done)) HS2 ?_
      refine wpAnyH_done (by kernel_rfl) ?_ _
      refine then_gen (fun V => Below w.heap.size w V ∧ RecsIn V w.heap.size (.slice a4 n4 c4) L ∧ BytesIn V (.slice p1 n k1) D1) ⟨HS2.1, HS2.2.2.1, HS2.2.2.2.1⟩ ?_
      rintro U2 ⟨g1, g2, g3⟩
      have HB5 := Lib.hid g1
      have HR5 := Lib.hid g2
      have HV5 := Lib.hid g3
      clear HS HS2 hx hb2 HRC g1 g2 g3 HV2
      have hnum : 1 + L.length = n4 + 1 := by have := HN4.out; omega
      cases bb with
      | false =>
        have hF2 : first (b.drop p) (1 + L.length) = none := by rw [HF.out, hnum, if_neg (of_decide_eq_false HBB.out.symm)]
        have HI5 : Hid (WholeI w b (.slice a4 n4 c4) p U2) := ⟨L, HBG.out, HP.out, HR5.out, HB5.out⟩
        obtain ⟨z1, z2, z3⟩ := whole_end HI5.out fun M m1 m2 => by
          have e : M.length = L.length := by
            have q1 := m1.pos
            have q2 : blks M = blks L := by have := HP.out; omega
            exact congrArg List.length (begin_same m1 HBG.out q2)
          rw [e]
          exact hF2
        have HZ := Lib.hid z1
        have HZ2 : Hid (RecsIn U2 w.heap.size (.slice a4 n4 c4) (recs b) ∧ Below w.heap.size w U2) := ⟨z2, z3⟩
        clear z1 z2 z3 hF2
        go_wp2
        go_ret2
        exact ⟨_, by rw [← HZ.out]; rfl, HZ2.out⟩
      | true =>
        have hF2 : first (b.drop p) (1 + L.length) = some D1 := by rw [HF.out, hnum, if_pos (of_decide_eq_true HBB.out.symm)]
        have HF3 := Lib.hid hF2
        clear hF2
        go_wp2_with (refine wpList_lit rfl 0 _ rfl #[] [] ?_ rfl rfl (by omega) ?_; (focus exact lit0 _))
        intro W3 v3 hh3 hb3
        have HH3 := Lib.hid hh3
        have HV6 := Lib.hid (HV5.out.after hb3)
        have HR6 := Lib.hid (HR5.out.stay hb3)
        have HB6 : Hid (Below w.heap.size w W3) := HB5.out.trans (hb3.mono HB5.out.size)
        have HLE6 : Hid (([] : Bytes).length + D1.length ≤ 140737488355328) := by show _ ≤ _; rw [HL1.out]; simp; omega
        have HSZ : Hid (U2.heap.size ≤ W3.heap.size) := hb3.size
        have HB7 : Hid (Below U2.heap.size U2 W3) := hb3
        clear hh3 hb3
        go_wp2_with (at_builtin; refine wpList_append_bytes rfl _ _ rfl U2.heap.size _ _ rfl HH3.out _ _ rfl HV6.out HLE6.out HSZ.out ?_)
        intro v5 W5 hh5 hg5
        have HH5 : Hid (Held W5 U2.heap.size v5 D1) := hh5
        have HU5 := Lib.hid (HH5.out.toU (fun e => by have h1 := HL1.out; rw [e] at h1; simp at h1; omega))
        have hb5 : Below W3.heap.size W3 W5 → Below w.heap.size w W5 := fun h => HB6.out.trans (h.mono HB6.out.size)
        have HG5 := Lib.hid (hg5.below HH3.out HSZ.out)
        have HRR5 : Hid (RecsIn W5 w.heap.size (.slice a4 n4 c4) L ∧ Below w.heap.size w W5) := by
          have hbl : Below U2.heap.size W3 W5 := HG5.out
          have hU : w.heap.size ≤ U2.heap.size := HB5.out.size
          refine ⟨?_, HB6.out.trans (hbl.mono hU)⟩
          obtain ⟨xs, e, r1, r2⟩ := HR5.out
          have hall : Below U2.heap.size U2 W5 := HB7.out.trans hbl
          exact RecsIn.stay ⟨xs, e, r1, r2⟩ hall
        obtain ⟨a5, k5, c5, rfl⟩ := HH5.out.bytes.shape
        obtain ⟨v8, W8, hap, hr8, hb8⟩ := recs_snoc w.heap.size W5 (.slice a4 n4 c4) L a5 k5 c5 D1 tRs HRR5.out.1 HU5.out HRR5.out.2.size (by omega)
        have hI8 : WholeI w b v8 (p + nd * 64) W8 := by
          refine ⟨L ++ [D1], HBG.out.snoc (by rw [← HP.out]; exact HF3.out), ?_, hr8, HRR5.out.2.trans hb8⟩
          rw [blks_append]
          have h1 := HP.out
          have h2 := HND2.out
          simp only [blks]
          rw [HL1.out, h2]
          omega
        have HI8 := Lib.hid hI8
        obtain ⟨a8, c8, hv8⟩ := hr8.shape
        subst hv8
        clear hh5 hg5 hb5 hI8 hr8 hb8 HRR5 HU5 HH5
        go_wp2_with (at_builtin; refine wpList_appends rfl _ _ tRs rfl rfl rfl hap ?_)
        exact ⟨⟨p + nd * 64, by go_num, by have h := HI8.out; rw [List.length_append] at h; exact h⟩, by simp [RowKit.intOf]; omega⟩
    · have hp' : ¬ (p : Int) < (b.length : Int) := by omega
      have HDL : Hid ((b.drop p).length = b.length - p) := List.length_drop
      obtain ⟨z1, z2, z3⟩ := whole_end HI.out fun L _ _ => first_none (by rw [HDL.out]; omega)
      have HZ := Lib.hid z1
      have HZ2 : Hid (RecsIn wr w.heap.size (.slice a4 n4 c4) (recs b) ∧ Below w.heap.size w wr) := ⟨z2, z3⟩
      clear z1 z2 z3
      go_wp2
      go_ret2
      exact ⟨_, by rw [← HZ.out]; rfl, HZ2.out⟩
end Go.Proofs.Ytfiahkomabllaaa.L
