/- Bytes in memory, wherever they lie; bytes that a slice owns, and what an append leaves of them. -/
import Derived.Test.YtfiahkomabllaaaLPlain
import Derived.Laws.IdiomStrings
import Derived.Deep.AppendLies
import Derived.Laws.AppendOwn
import Derived.OwnWalk
import Derived.Outline
import Derived.WalkKit
import Derived.WalkSpells
import Derived.WalkLawsBesides
import Derived.KernelRfl
import Derived.Lib.Hide
import Derived.Deep.RegionHeld3
import Derived.BigRegion
import Derived.Laws.Tables
import Derived.Deep.WholeRow
import Derived.Deep.MidRow
import Derived.Laws.CopyOwn
import Derived.Laws.OwnMore
import Derived.Laws.MakeOwn
import Derived.Great.BuildSlice
import Derived.ChangeKeysEq
import Derived.Deep.Cut
import Derived.Test.YtfiahkomabllaaaProg
namespace Go.Proofs.Ytfiahkomabllaaa.L
open Go Go.RowKit
open Go.Lib

theorem wp_gen {P : Program} {c : Code} {Q : Exit → Act → World → Prop} {a : Act} {W : World} (F : World → Prop) (hF : F W) (h : ∀ W1, F W1 → Code.wp P c Q a W1) : Code.wp P c Q a W := h W hF
theorem then_gen {K : Act → World → Prop} {Q : Exit → Act → World → Prop} {e : Exit} {a : Act} {W : World} (F : World → Prop) (hF : F W) (h : ∀ W1, F W1 → Exit.then K Q e a W1) : Exit.then K Q e a W := h W hF

/-- A byte's cell. -/
def bv (b : UInt8) : Value := .int .u8 b.toNat
/-- v holds the bytes l, in a row of its own among the blocks from B on. -/
def Held (W : World) (B : Nat) (v : Value) (l : Bytes) : Prop := W.ownsRow B 5 1 v l.length (l.map bv)
theorem Held.nil (W : World) (B : Nat) : Held W B (.slice none 0 0) [] := World.ownsRow_nil W B _ _
/-- What grew from v to v': nothing else has turned; v' lies where v lay, or is new. -/
structure Grew (W : World) (v : Value) (W' : World) (v' : Value) : Prop where
  by_ : W.grownBy W' v.ownBlock
  at_ : v'.ownBlock = v.ownBlock ∨ ∃ k, v'.ownBlock = some k ∧ W.heap.size ≤ k
theorem Grew.refl (W : World) (v : Value) : Grew W v W v := ⟨⟨rfl, rfl, rfl, Nat.le_refl _, fun _ _ _ => rfl⟩, .inl rfl⟩
theorem Grew.trans {W W1 W2 : World} {v v1 v2 : Value} (h : Grew W v W1 v1) (k : Grew W1 v1 W2 v2) : Grew W v W2 v2 where
  by_ := by
    refine ⟨k.by_.os.trans h.by_.os, k.by_.tape.trans h.by_.tape, k.by_.output.trans h.by_.output, Nat.le_trans h.by_.size k.by_.size, fun j hj hne => ?_⟩
    have hs := h.by_.size
    refine (k.by_.block j (by omega) ?_).trans (h.by_.block j hj hne)
    rcases h.at_ with e | ⟨m, e, hm⟩
    · rw [e]; exact hne
    · rw [e]; intro hx; cases hx; omega
  at_ := by
    have hs := h.by_.size
    rcases k.at_ with e | ⟨m, e, hm⟩
    · rw [e]; exact h.at_
    · exact .inr ⟨m, e, by omega⟩
/-- What lies below B stays. -/
theorem Grew.below {W W' : World} {v v' : Value} {B : Nat} {l : Bytes} (h : Grew W v W' v') (hH : Held W B v l) (hB : B ≤ W.heap.size) : Below B W W' :=
  ⟨h.by_.os, h.by_.tape, h.by_.output, h.by_.size, fun k hk => h.by_.block k (by omega) (fun e => by have := World.ownsRow.lt hH k e.symm; omega)⟩
theorem Held.alloc {W : World} {B : Nat} {v : Value} {l : Bytes} (h : Held W B v l) (x : Go.Obj) : Held (W.alloc x) B v l := World.ownsRow.alloc h x
/-- Whatever turned elsewhere, the bytes stay. -/
theorem Held.kept {W W' : World} {B : Nat} {v u : Value} {l : Bytes} (h : Held W B v l) {u' : Value} (hg : Grew W u W' u') (hne : v.ownBlock = none ∨ v.ownBlock ≠ u.ownBlock) : Held W' B v l := World.ownsRow.kept h hg.by_ hne
theorem Held.rebase {W : World} {B : Nat} {v : Value} {l : Bytes} (h : Held W B v l) {C : Nat} (hC : ∀ k, v.ownBlock = some k → C ≤ k) : Held W C v l := by
  refine ⟨h.1, ?_⟩
  rcases h.2 with hn | ⟨g, cap, cur, hv, -, rest⟩
  · exact .inl hn
  · exact .inr ⟨g, cap, cur, hv, hC g (by rw [hv]; rfl), rest⟩

theorem infoByte : (Try.prog.info? 5).map (fun i => (i.zero, i.size, i.bytes)) = some (some (.int .u8 0), 1, 1) := by kernel_rfl


/-- v are the bytes l, wherever they lie. -/
def BytesIn (W : World) (v : Value) (l : Bytes) : Prop :=
  (∃ c, v = .slice none 0 c ∧ l = []) ∨ ∃ g off cap, v = .slice (some ⟨g, off, none⟩) l.length cap ∧ l.length ≤ cap ∧ cap ≤ maxLen ∧ g < W.heap.size ∧ ∀ i (h : i < l.length), W.cell? ⟨g, off + i, none⟩ = some (bv l[i])
section
variable {W W' : World} {v : Value} {l : Bytes} {B r : Nat}
theorem BytesIn.kept (h : BytesIn W v l) {row : Option Nat} (hg : W.grownBy W' row) (hne : v.ownBlock = none ∨ v.ownBlock ≠ row) : BytesIn W' v l := by
  rcases h with h | ⟨g, off, cap, rfl, h1, h2, h3, h4⟩
  · exact .inl h
  · exact .inr ⟨g, off, cap, rfl, h1, h2, Nat.lt_of_lt_of_le h3 hg.size, fun i hi => hg.cell (h4 i hi) (by simpa [Value.ownBlock] using hne)⟩
theorem BytesIn.lt (h : BytesIn W v l) {k : Nat} (hk : v.ownBlock = some k) : k < W.heap.size := by
  rcases h with ⟨c, rfl, -⟩ | ⟨g, off, cap, rfl, h1, h2, h3, h4⟩
  · cases hk
  · simp [Value.ownBlock] at hk
    omega
theorem BytesIn.below (h : BytesIn W v l) (hb : Below B W W') (hB : ∀ k, v.ownBlock = some k → k < B) : BytesIn W' v l := by
  rcases h with h | ⟨g, off, cap, rfl, h1, h2, h3, h4⟩
  · exact .inl h
  · exact .inr ⟨g, off, cap, rfl, h1, h2, Nat.lt_of_lt_of_le h3 hb.size, fun i hi => (hb.cell (p := ⟨g, off + i, none⟩) (hB g rfl)).trans (h4 i hi)⟩
theorem BytesIn.after (h : BytesIn W v l) (hb : Below W.heap.size W W') : BytesIn W' v l := h.below hb (fun _ hk => h.lt hk)
theorem BytesIn.shape (h : BytesIn W v l) : ∃ a k c, v = .slice a k c := by
  rcases h with ⟨c, rfl, -⟩ | ⟨g, off, cap, rfl, -⟩
  · exact ⟨_, _, _, rfl⟩
  · exact ⟨_, _, _, rfl⟩
theorem BytesIn.alloc (h : BytesIn W v l) (x : Go.Obj) : BytesIn (W.alloc x) v l := h.kept (World.grownBy_alloc W x none) (by cases v.ownBlock <;> simp)
theorem Held.bytes (h : Held W B v l) : BytesIn W v l := by
  have hcells := fun g (hg : v.ownBlock = some g) => World.ownsRow.cells (g := g) h hg
  obtain ⟨h1, h2⟩ := h
  rcases h2 with ⟨rfl, hn⟩ | ⟨g, cap, cur, rfl, hb, hg, hnc, hcm, hcs, ht⟩
  · exact .inl ⟨0, rfl, List.length_eq_zero_iff.1 hn⟩
  · refine .inr ⟨g, 0, cap, rfl, hnc, hcm, (Array.getElem?_eq_some_iff.1 hg).1, fun i hi => ?_⟩
    have := hcells g rfl i (bv l[i]) (by rw [List.getElem?_map, List.getElem?_eq_getElem hi]; rfl)
    have hadd : (⟨g, 0, none⟩ : Addr).add i = ⟨g, 0 + i, none⟩ := by unfold Addr.add; split <;> simp_all
    rw [hadd] at this
    exact this
/-- The bytes as a text. -/
theorem BytesIn.str (h : BytesIn W v l) (dst : TypeId) (hd : Try.prog.underlying dst = some .string) : (convert 30 dst v).run Try.prog W = .ok (.string ⟨l.toArray⟩) W := by
  rcases h with ⟨c, rfl, rfl⟩ | ⟨g, off, cap, rfl, h1, h2, h3, h4⟩
  · exact run_convert_bytes_nil W 30 5 Try.underlying30 Try.underlying5 0 c dst hd
  · refine run_convert_bytes_back W 30 dst 5 ⟨g, off, none⟩ cap l Try.underlying30 Try.underlying5 hd fun j hj => ?_
    have hadd : (⟨g, off, none⟩ : Addr).add j = ⟨g, off + j, none⟩ := by unfold Addr.add; split <;> simp_all
    rw [hadd]
    exact h4 j hj
end

theorem sizeByte (w : World) : (sizeOf (Try.prog.elem 30)).run Try.prog w = .ok 1 w := by kernel_rfl
theorem sliceByte : Try.prog.underlying 30 = some (.slice (Try.prog.elem 30)) := by kernel_rfl
theorem add_zero' (g off : Nat) : (⟨g, off, none⟩ : Addr).add 0 = ⟨g, off, none⟩ := rfl
theorem add_lit' (g off n : Nat) : (⟨g, off, none⟩ : Addr).add n = ⟨g, off + n, none⟩ := by unfold Addr.add; split <;> simp_all
section
variable {W W' : World} {v : Value} {l : Bytes}
/-- The first n bytes. -/
theorem BytesIn.head (h : BytesIn W v l) {n : Nat} (hn : n ≤ l.length) (k : IntKind) :
    ∃ v1, (∀ w, (Instr.slice 30 v none (some (.int k n)) none).run Try.prog w = .ok v1 w) ∧ BytesIn W v1 (l.take n) ∧ v1.ownBlock = v.ownBlock := by
  rcases h with ⟨c, rfl, rfl⟩ | ⟨g, off, cap, rfl, h1, h2, h3, h4⟩
  · obtain rfl : n = 0 := by simpa using hn
    refine ⟨.slice none 0 c, fun w => ?_, .inl ⟨c, rfl, rfl⟩, rfl⟩
    rw [run_slice_h w 30 none 0 c sliceByte k (0 : Nat) (by omega) (by omega), sizeByte]
    simp [Result.andThen, sliced]
  · have hl : (l.take n).length = n := by rw [List.length_take]; omega
    refine ⟨.slice (some ⟨g, off, none⟩) n cap, fun w => ?_, .inr ⟨g, off, cap, by rw [hl], by omega, h2, h3, fun i hi => ?_⟩, rfl⟩
    · rw [run_slice_h w 30 (some ⟨g, off, none⟩) l.length cap sliceByte k n (by omega) (by omega), sizeByte]
      simp [Result.andThen, sliced, add_zero']
    · rw [h4 i (by omega)]
      simp
/-- What is behind the first n bytes. -/
theorem BytesIn.tail (h : BytesIn W v l) {n : Nat} (hn : n ≤ l.length) (k : IntKind) :
    ∃ v1, (∀ w, (Instr.slice 30 v (some (.int k n)) none none).run Try.prog w = .ok v1 w) ∧ BytesIn W v1 (l.drop n) ∧ v1.ownBlock = v.ownBlock := by
  rcases h with ⟨c, rfl, rfl⟩ | ⟨g, off, cap, rfl, h1, h2, h3, h4⟩
  · obtain rfl : n = 0 := by simpa using hn
    refine ⟨.slice none 0 c, fun w => ?_, .inl ⟨c, rfl, rfl⟩, rfl⟩
    rw [run_slice_l w 30 none 0 c sliceByte k (0 : Nat) (by omega) (by omega), sizeByte]
    simp [Result.andThen, sliced]
  · have hl : (l.drop n).length = l.length - n := List.length_drop
    by_cases hc : cap = n
    · refine ⟨.slice (some ⟨g, off, none⟩) (l.length - n) (cap - n), fun w => ?_, .inr ⟨g, off, cap - n, by rw [hl], by omega, by omega, h3, fun i hi => by omega⟩, rfl⟩
      rw [run_slice_l w 30 (some ⟨g, off, none⟩) l.length cap sliceByte k n (by omega) (by omega), sizeByte]
      simp [Result.andThen, sliced, hc]
    · refine ⟨.slice (some ⟨g, off + n, none⟩) (l.length - n) (cap - n), fun w => ?_, .inr ⟨g, off + n, cap - n, by rw [hl], by omega, by omega, h3, fun i hi => ?_⟩, rfl⟩
      · rw [run_slice_l w 30 (some ⟨g, off, none⟩) l.length cap sliceByte k n (by omega) (by omega), sizeByte]
        simp [Result.andThen, sliced, hc, add_lit']
      · have := h4 (n + i) (by omega)
        rw [show off + n + i = off + (n + i) by omega, this]
        simp
theorem BytesIn.len (h : BytesIn W v l) (ty : TypeId) (w : World) : (Builtin.len_ #[30] ty #[v]).run Try.prog w = .ok (goInt l.length) w := by
  rcases h with ⟨c, rfl, rfl⟩ | ⟨g, off, cap, rfl, -⟩
  · simp [go_sem, Builtin.len_, run_underlying sliceByte]
  · simp [go_sem, Builtin.len_, run_underlying sliceByte]
theorem BytesIn.small (h : BytesIn W v l) : l.length ≤ maxLen := by
  rcases h with ⟨c, rfl, rfl⟩ | ⟨g, off, cap, rfl, h1, h2, -⟩
  · simp
  · omega
end


/-- An append of bytes that lie elsewhere. -/
theorem run_append_heldB (W : World) (ty : TypeId) (B : Nat) (v : Value) (l : Bytes) (hH : Held W B v l) (ad : Addr) (c : Nat) (m : Bytes) (hm : ∀ j u, (m.map bv)[j]? = some u → W.cell? (ad.add j) = some u)
    (hlen : l.length + m.length ≤ 140737488355328) (hB : B ≤ W.heap.size) :
    ∃ v' W', (Builtin.append_ #[30, 30] ty #[v, .slice (some ad) m.length c]).run Try.prog W = .ok v' W' ∧ Held W' B v' (l ++ m) ∧ Grew W v W' v' := by
  obtain ⟨i, hi, hz, hs, hb⟩ := info_parts infoByte
  have hl : (m.map bv).length = m.length * 1 := by simp
  have h1 : ∀ u ∈ m.map bv, u.oneCell' = true := by
    intro u hu
    obtain ⟨b, -, rfl⟩ := List.mem_map.1 hu
    rfl
  have h63 : l.length + m.length ≤ maxLen := by unfold maxLen; omega
  obtain ⟨v', W', hr, hown, hgrow, hnil⟩ := run_append_own (P := Try.prog) W B 30 ty 5 i (.int .u8 0) 1 1 Try.underlying30 hi hz hs hb rfl (by decide) v l.length (l.map bv) hH ad m.length c (m.map bv) hl hm h1 h63 (by omega) hB
  refine ⟨v', W', hr, by unfold Held; rw [List.length_append, List.map_append]; exact hown, hgrow, ?_⟩
  rcases hH.2 with ⟨rfl, hn⟩ | ⟨g, cap, cur, rfl, hbg, hg, hnc, hcm, hcs, htake⟩
  · by_cases h0 : m.length = 0
    · rw [hnil.2 ⟨rfl, h0⟩]
      exact .inl rfl
    · have hr2 := run_append_nil (P := Try.prog) W 30 ty 5 i (.int .u8 0) Try.underlying30 hi hz ad m.length c (m.map bv) (by rw [hs]; exact hl) hm (by omega) (by omega) (by rw [hb]; omega)
      rw [hr2] at hr
      cases hr
      exact .inr ⟨_, rfl, Nat.le_refl _⟩
  · by_cases hroom : l.length + m.length ≤ cap
    · have hr2 := run_append_room (P := Try.prog) W 30 ty 5 i Try.underlying30 hi g l.length cap cur hg ad m.length c (m.map bv) (by rw [hs]; exact hl) hm h1 hroom (by rw [hs, hl, hcs]; omega)
      rw [hr2] at hr
      cases hr
      exact .inl rfl
    · have hr2 := run_append_grow (P := Try.prog) W 30 ty 5 i (.int .u8 0) Try.underlying30 hi hz ⟨g, 0, none⟩ l.length cap (l.map bv) (by rw [hs]; exact hH.1) (World.ownsRow.cells (g := g) hH rfl) ad m.length c (m.map bv) (by rw [hs]; exact hl) hm (by omega) (by omega) (growslice_fits (by omega) (by rw [hb]; omega))
      rw [hr2] at hr
      cases hr
      exact .inr ⟨_, rfl, Nat.le_refl _⟩
theorem run_append_none (W : World) (ty : TypeId) (B : Nat) (v : Value) (l : Bytes) (hH : Held W B v l) (c : Nat) : (Builtin.append_ #[30, 30] ty #[v, .slice none 0 c]).run Try.prog W = .ok v W := by
  obtain ⟨i, hi, hz, hs, hb⟩ := info_parts infoByte
  rcases hH.2 with ⟨rfl, hn⟩ | ⟨g, cap, cur, rfl, hbg, hg, hnc, hcm, hcs, htake⟩
  · simp [Builtin.append_, run_underlying (P := Try.prog) Try.underlying30, sizeOf, typeInfo, hi, Builtin.lenOf, Builtin.firstCells]
  · simp [Builtin.append_, run_underlying (P := Try.prog) Try.underlying30, sizeOf, typeInfo, hi, hs, Builtin.lenOf, Builtin.firstCells, hnc]
    rfl
theorem run_append_bytes (W : World) (ty : TypeId) (B : Nat) (v : Value) (l : Bytes) (hH : Held W B v l) (x : Value) (m : Bytes) (hx : BytesIn W x m) (hlen : l.length + m.length ≤ 140737488355328) (hB : B ≤ W.heap.size) :
    ∃ v' W', (Builtin.append_ #[30, 30] ty #[v, x]).run Try.prog W = .ok v' W' ∧ Held W' B v' (l ++ m) ∧ Grew W v W' v' := by
  rcases hx with ⟨c, rfl, rfl⟩ | ⟨g, off, cap, rfl, h1, h2, h3, h4⟩
  · exact ⟨v, W, run_append_none W ty B v l hH c, by rw [List.append_nil]; exact hH, Grew.refl _ _⟩
  · refine run_append_heldB W ty B v l hH ⟨g, off, none⟩ cap m (fun j u hj => ?_) hlen hB
    obtain ⟨hj1, hj2⟩ := List.getElem?_eq_some_iff.1 hj
    rw [add_lit', h4 j (by simpa using hj1), ← hj2]
    simp
theorem wpList_append_bytes {ops : Array Oper} {rest : List Oper} {o : Oper} {a : Act} {W : World} {Q : Exit → Act → World → Prop} (hgd : o.guard = none) (s x : Operand)
    (ho : o.op = .call { callee := .builtin .append, args := #[s, x], argTypes := #[30, 30] })
    (B : Nat) (v : Value) (l : Bytes) (hs : a.eval s = v) (hH : Held W B v l) (y : Value) (m : Bytes) (hy : a.eval x = y) (hx : BytesIn W y m)
    (hlen : l.length + m.length ≤ 140737488355328) (hB : B ≤ W.heap.size) (h : ∀ v' W', Held W' B v' (l ++ m) → Grew W v W' v' → wpList Try.prog ops Q rest (a.put o.dst v') W') : wpList Try.prog ops Q (o :: rest) a W := by
  obtain ⟨v', W', hr, hH', hG⟩ := run_append_bytes W o.type B v l hH y m hx hlen hB
  refine wpList_plain hgd fun _ hK => ?_
  unfold Oper.wp execOp
  simp only [ho, resolve, invoke, builtin, Sem.run_bind, Sem.run_pure, Result.andThen_ok, List.map_toArray, List.map_cons, List.map_nil, hs, hy]
  rw [hr]
  exact hK _ _ (h v' W' hH' hG)
end Go.Proofs.Ytfiahkomabllaaa.L
