/- (*blocks.Log).Records: all whole records. -/
import Derived.Test.YtfiahkomabllaaaLLog
import Derived.Test.YtfiahkomabllaaaGivesIn
import Derived.RangeFuncKeeps
import Derived.Shelf.Abstract
namespace Go.Proofs.Ytfiahkomabllaaa.L
open Go Go.RowKit
open Go.Lib
attribute [local go_sem] Oper.semAt_some

abbrev tR : TypeId := 30
abbrev tRs : TypeId := 39
theorem cells_own {B : Nat} {W W' : World} {row : Option Nat} (hg : W.grownBy W' row) (hr : ∀ r, row = some r → B ≤ r ∧ ∃ o : Go.Obj, W.heap[r]? = some o ∧ o.isCells = false) {b : Nat} {cs : Array Value} {t : TypeId} {f : Nat × Nat} (h : W.heap[b]? = some (.cells cs t f)) : W'.heap[b]? = some (.cells cs t f) := by
  refine (hg.block b (Array.getElem?_eq_some_iff.1 h).1 (fun e => ?_)).trans h
  obtain ⟨-, o, ho, hc⟩ := hr b e.symm
  rw [h] at ho
  cases ho
  cases hc
theorem wpIn_gen {F : Fence} {n : Nat} {P : Program} {c : Code} {Q : Exit → Act → World → Prop} {a : Act} {W : World} (G : World → Prop) (hG : G W) (h : ∀ W1, G W1 → Code.wpIn F n P c Q a W1) : Code.wpIn F n P c Q a W := h W hG
/-- Rows of bytes in a slice of the call's own. -/
def RowsIn (W : World) (B : Nat) (v : Value) (l : List Value) : Prop := W.ownsRow B tR 1 v l.length l
theorem RowsIn.empty (W : World) (B : Nat) : RowsIn W B (.slice none 0 0) [] := ⟨rfl, .inl ⟨rfl, rfl⟩⟩
theorem RowsIn.of {W W' : World} {B : Nat} {v : Value} {l : List Value} (h : RowsIn W B v l) (hb : ∀ g cs, W.heap[g]? = some (.cells cs tR (0, 0)) → v.ownBlock = some g → W'.heap[g]? = W.heap[g]?) : RowsIn W' B v l := by
  refine ⟨h.1, ?_⟩
  rcases h.2 with h1 | ⟨g, cap, cur, rfl, h2, h3, h4⟩
  · exact .inl h1
  · exact .inr ⟨g, cap, cur, rfl, h2, (hb g cur h3 rfl).trans h3, h4⟩
theorem RowsIn.rebase {W : World} {B C : Nat} {v : Value} {l : List Value} (h : RowsIn W B v l) (hC : C ≤ B) : RowsIn W C v l := by
  refine ⟨h.1, ?_⟩
  rcases h.2 with h1 | ⟨g, cap, cur, rfl, h2, h3⟩
  · exact .inl h1
  · exact .inr ⟨g, cap, cur, rfl, Nat.le_trans hC h2, h3⟩
theorem RowsIn.after {W W' : World} {B : Nat} {v : Value} {l : List Value} (h : RowsIn W B v l) (hb : Below W.heap.size W W') : RowsIn W' B v l := h.of fun g _ hg _ => hb.block g (Array.getElem?_eq_some_iff.1 hg).1
theorem rows_own {B0 B : Nat} {W W' : World} {row : Option Nat} {v : Value} {l : List Value} (hg : W.grownBy W' row) (hr : ∀ r, row = some r → B ≤ r ∧ ∃ o : Go.Obj, W.heap[r]? = some o ∧ o.isCells = false) (h : RowsIn W B0 v l) : RowsIn W' B0 v l :=
  h.of fun _ _ hc _ => (cells_own hg hr hc).trans hc.symm
theorem bytes_own {B : Nat} {W W' : World} {row : Option Nat} {v : Value} {l : Bytes} (hg : W.grownBy W' row) (hr : ∀ r, row = some r → B ≤ r ∧ ∃ o : Go.Obj, W.heap[r]? = some o ∧ o.isCells = false) (h : BytesU W v l) : BytesU W' v l :=
  h.of fun _ _ hc _ => (cells_own hg hr hc).trans hc.symm
theorem RowsIn.ne {W : World} {B b : Nat} {v u : Value} {l : List Value} {t : TypeId} (h : RowsIn W B v l) (hb : Boxed W b t u) (ht : t ≠ tR) : some b ≠ v.ownBlock := by
  rcases h.2 with ⟨rfl, -⟩ | ⟨g, cap, cur, rfl, -, hh, -⟩
  · simp [Value.ownBlock]
  · intro e
    obtain rfl : b = g := by simpa [Value.ownBlock] using e
    have h2 : W.heap[b]? = some (.cells #[u] t (0, 0)) := hb
    rw [h2] at hh
    simp only [Option.some.injEq, Obj.cells.injEq] at hh
    exact ht hh.2.1
theorem rows_cons {W : World} {B : Nat} {v : Value} {l : List Value} {x : Value} (h : RowsIn W B v (l ++ [x])) : ∃ g cap, v = .slice (some ⟨g, 0, none⟩) (l.length + 1) cap ∧ B ≤ g := by
  rcases h.2 with ⟨-, h0⟩ | ⟨g, cap, cur, rfl, hB, -⟩
  · simp at h0
  · exact ⟨g, cap, by rw [List.length_append]; rfl, hB⟩
theorem row_info : ∃ i, Try.prog.info? tR = some i ∧ i.zero = some (.slice none 0 0) ∧ i.size = 1 ∧ i.bytes ≤ 1000 := by
  have h : (Try.prog.info? tR).map (fun i => (i.zero, i.size, decide (i.bytes ≤ 1000))) = some (some (.slice none 0 0), 1, true) := by kernel_rfl
  cases hi : Try.prog.info? tR with
  | none => rw [hi] at h; cases h
  | some i =>
    rw [hi] at h
    simp only [Option.map_some, Option.some.injEq, Prod.mk.injEq] at h
    exact ⟨i, rfl, h.1, h.2.1, of_decide_eq_true h.2.2⟩
theorem add_row (R : Nat) (W : World) (sl : Value) (l : List Value) (a : Option Addr) (k c : Nat) (ty : TypeId) (hr : RowsIn W R sl l) (hB : R ≤ W.heap.size) (hn : l.length < 2000000) :
    ∃ v' W', (Builtin.append_ #[tRs, tRs] ty #[sl, .slice (some ⟨W.heap.size, 0, none⟩) 1 1]).run Try.prog (W.alloc (.cells #[.slice a k c] tR (0, 0))) = .ok v' W' ∧
      RowsIn W' R v' (l ++ [.slice a k c]) ∧ Below R W W' ∧ ∀ b, b < W.heap.size → some b ≠ sl.ownBlock → W'.heap[b]? = W.heap[b]? := by
  obtain ⟨i, hi, hz, hs, hb⟩ := row_info
  have hba : Below W.heap.size W (W.alloc (.cells #[.slice a k c] tR (0, 0))) := (Below.refl _ _).alloc (Nat.le_refl _) _
  have hr1 := hr.after hba
  have h1 : ∀ u ∈ [Value.slice a k c], u.oneCell' = true := fun u hu => by
    rw [List.mem_singleton.1 hu]
    rfl
  have hnews : ∀ j u, [Value.slice a k c][j]? = some u → (W.alloc (.cells #[.slice a k c] tR (0, 0))).cell? ((⟨W.heap.size, 0, none⟩ : Addr).add j) = some u := fun j u hu => by
    rw [add_lit', Nat.zero_add, cell_of_row _ _ _ _ _ _ (heap_alloc_new W _), ← Array.getElem?_toList]
    exact hu
  obtain ⟨v', W', h2, h3, h4, -⟩ := run_append_own (P := Try.prog) (W.alloc (.cells #[.slice a k c] tR (0, 0))) R tRs ty tR i (.slice none 0 0) 1 i.bytes Try.underlying39 hi hz hs rfl rfl (by decide) sl l.length _ hr1 ⟨W.heap.size, 0, none⟩ 1 1 [Value.slice a k c] rfl hnews h1 (by unfold maxLen; omega) (Nat.le_trans (Nat.mul_le_mul (show l.length + 1 ≤ 2000000 by omega) hb) (by omega)) (by simp; omega)
  refine ⟨v', W', h2, ?_, ?_, ?_⟩
  · show W'.ownsRow R _ 1 v' _ _
    rw [List.length_append]
    exact h3
  · refine (hba.mono hB).grown h4 (by simp; omega) ?_
    intro r e
    rcases hr.2 with ⟨rfl, -⟩ | ⟨g, cap, cur, rfl, hg, -⟩
    · cases e
    · cases e
      exact hg
  · intro b hb hne
    exact (h4.block b (by simp; omega) hne).trans (hba.block b hb)
/-- Records in memory: each where it lies. -/
def RecsIn (W : World) (B : Nat) (v : Value) (L : List Bytes) : Prop := ∃ xs : List Rec, xs.map (·.2) = L ∧ RowsIn W B v (xs.map (·.1)) ∧ ∀ x ∈ xs, BytesU W x.1 x.2
/-- What is collected so far: the box at z holds it. -/
def Coll (w : World) (z k : Nat) (pre : List Rec) (V : World) : Prop := ∃ sv, Boxed V z tRs sv ∧ RowsIn V (z + 1 + 1 + 1) sv (pre.map (·.1)) ∧ Below z w V ∧ pre.length ≤ k ∧ ∀ x ∈ pre, BytesU V x.1 x.2

set_option maxRecDepth 100000 in
set_option maxHeartbeats 4000000 in
theorem records_any (B q : Nat) (og : Option Nat) (s : Lg) (w : World) (h : IsLog B w q og s) : Calls Try.prog 19 #[.pointer (some ⟨q, 0, none⟩)] w fun e w' => ∃ v, e = .returned v ∧ RecsIn w' w.heap.size v (recs s.b) ∧ Below w.heap.size w w' := by
  obtain ⟨v, k, h1, h2, h3, h4, h5⟩ := h.at_
  have hm := h.most
  obtain ⟨a, c, rfl⟩ := h2.blks.shape
  have c1 : (w.alloc (.cells #[.slice none 0 0] tRs)).cell? ⟨q, 1, none⟩ = some (.slice a k c) := (h1.after ((Below.refl _ _).alloc (Nat.le_refl _) _)).c1
  have HV := Lib.hid h2.blks
  clear h h1 h2 h3 h5
  refine callsIn_wide.1 (callsIn_of_wp_marks (n := 5) Try.func19 rfl trivial ?_ rfl)
  simp only [Try.ntmps19, List.size_toArray, List.length_cons, List.length_nil, Nat.reduceAdd, Nat.reduceSub, Array.replicate_succ, Array.replicate_zero, List.push_toArray, List.append_toArray, List.nil_append, List.cons_append]
  gi_wp2
  refine ⟨trivial, (callsIn_wide.2 (whole_any a k c 1 _)).mono ?_⟩
  rintro e W1 ⟨rfl, rfl⟩
  gi_wp2
  obtain ⟨z, hz⟩ : ∃ z, w.heap.size = z := ⟨_, rfl⟩
  refine wpIn_gen (fun V => V.heap.size = z + 1 + 1 + 1 ∧ Boxed V z tRs (.slice none 0 0) ∧ Boxed V (z + 1) tBs (.slice a k c) ∧ Boxed V (z + 1 + 1) 3 (.int .i64 ((1 : Nat) : Int)) ∧ Below w.heap.size w V) ?_ ?_
  · subst hz
    refine ⟨by simp, ?_, ?_, ?_, (((Below.refl _ _).alloc (Nat.le_refl _) _).alloc (by simp) _).alloc (by simp; omega) _⟩
    · exact ((Boxed.new w tRs (.slice none 0 0)).after ((Below.refl _ _).alloc (Nat.le_refl _) _)).after ((Below.refl _ _).alloc (Nat.le_refl _) _)
    · have := (Boxed.new (w.alloc (.cells #[.slice none 0 0] tRs)) tBs (.slice a k c)).after ((Below.refl _ _).alloc (Nat.le_refl _) (.cells #[.int .i64 ((1 : Nat) : Int)] 3))
      rwa [World.size_alloc] at this
    · have := Boxed.new ((w.alloc (.cells #[.slice none 0 0] tRs)).alloc (.cells #[.slice a k c] tBs)) 3 (.int .i64 ((1 : Nat) : Int))
      rwa [World.size_alloc, World.size_alloc] at this
  rintro W0 ⟨hsz, h1, h2, h3, hlw⟩
  have HS := Lib.hid hsz
  have HLW := Lib.hid hlw
  have hk : k ≤ 1000000 := by omega
  have HVZ : Hid (∀ g, (Value.slice a k c).ownBlock = some g → g < z) := fun g hg => hz ▸ HV.out.lt hg
  have hseq := whole_seq 4 (by omega) a k c s.b 1 (z + 1) (z + 1 + 1) z (z + 1) (z + 1 + 1 + 1) tR W0 (HV.out.after hlw) h2 h3 hk (by omega) (by rw [hsz]; exact Nat.le_refl _) (fun g hg => by have := HVZ.out g hg; omega)
  have ef := enters_of (P := Try.prog) Try.func46 (by kernel_rfl) rfl
  clear hsz hlw h2 h3 c1
  rw [hz]
  rw [hz] at HLW
  refine RangeSeen.range (F := Fence.wide) (n := 5) rfl (by omega) (gf := 46) (lb := #[.pointer (some ⟨z + 1, 0, none⟩), .pointer (some ⟨z + 1 + 1, 0, none⟩)]) rfl trivial ef (encs := encR) (lo := z) (hi := z + 1) (N0 := z + 1 + 1 + 1) (E := tR) (by rw [HS.out]; omega)
    hseq (fun _ => rfl)
    (fun pre V => Coll w z k pre V)
    (fun _ _ _ => False)
    ?_ ?_ ⟨_, h1, RowsIn.empty _ _, HLW.out, Nat.zero_le _, by simp⟩
    (fun pre x a1 V => Coll w z k pre V ∧ BytesU V x.1 x.2 ∧
      a1 = { tmps := #[.pointer (some ⟨q, 0, none⟩), undef, .slice none 0 0, .pointer (some ⟨z, 0, none⟩), x.1, .pointer (some ⟨q, 0, none⟩), .bool false, .pointer (some ⟨q, 0, none⟩), .pointer (some ⟨q, 0, none⟩), .pointer (some ⟨q, 1, none⟩), .slice a k c, .func (.func 46) #[] #[.pointer (some ⟨z + 1, 0, none⟩), .pointer (some ⟨z + 1 + 1, 0, none⟩)], x.1, undef, undef, undef, undef, undef], defers := [] })
    ?_ ?_ ?_ ?_ ?_
  · intro pre A B row ⟨sv, h1, h2, h3, h4, h5⟩ hg hr
    exact ⟨sv, cells_own hg hr h1, rows_own hg hr h2, ownFrom_below (β := Unit) (n₀ := z) (B := W0.heap.size) (by omega) (by rw [HS.out]; omega) () A B row h3 hg hr, h4, fun x hx => bytes_own hg hr (h5 x hx)⟩
  · intro _ _ _ _ _ h
    exact h.elim
  · intro x a1 pre A B row ⟨⟨sv, h1, h2, h3, h4, h5⟩, h6, h7⟩ hg hr
    exact ⟨⟨sv, cells_own hg hr h1, rows_own hg hr h2, ownFrom_below (β := Unit) (n₀ := z) (B := W0.heap.size) (by omega) (by rw [HS.out]; omega) () A B row h3 hg hr, h4, fun x hx => bytes_own hg hr (h5 x hx)⟩, bytes_own hg hr h6, h7⟩
  · intro lp pre x V hI hx _ hsz
    have HI := Lib.hid hI
    have HX : Hid (BytesU V x.1 x.2) := hx
    clear hI hx h1
    obtain ⟨xv, xl⟩ := x
    simp only [encR]
    gi_wp2
    exact ⟨RangeRow.Stays.refl _ _ _ _ _, HI.out, HX.out⟩
  · rintro lp pre x a1 V ⟨⟨sv, h2, h3, h4, h5, h6⟩, h7, rfl⟩ hlen hsz
    have ca := h2.cell
    obtain ⟨xv, xl⟩ := x
    obtain ⟨xa, xk, xc, hxs⟩ := h7.bytes.shape
    have hxs' : xv = .slice xa xk xc := hxs
    subst hxs'
    obtain ⟨v', W', hap, ho', hb', hk'⟩ := add_row (z + 1 + 1 + 1) V sv (pre.map (·.1)) xa xk xc tRs h3 (by have := HS.out; omega) (by rw [List.length_map]; omega)
    obtain ⟨g, cap, rfl, hzg⟩ := rows_cons ho'
    have hne : some z ≠ sv.ownBlock := h3.ne h2 (by decide)
    have ha' : Boxed W' z tRs sv := (hk' z h2.lt hne).trans h2
    have cw := ha'.cell
    have fw := ha'.frozen
    rw [List.length_map] at hap
    have hkeep : ∀ u l, BytesU V u l → BytesU (W'.setCell ⟨z, 0, none⟩ (.slice (some ⟨g, 0, none⟩) (pre.length + 1) cap)) u l := fun u l hu => by
      refine (hu.of (W' := W') fun g2 cs hc _ => hk' g2 (Array.getElem?_eq_some_iff.1 hc).1 (fun e => ?_)).of fun g2 cs hc _ => heap_setCell_other _ ⟨z, 0, none⟩ g2 _ (fun e => ?_)
      · rcases h3.2 with ⟨rfl, -⟩ | ⟨g3, cap3, cur3, rfl, -, hh, -⟩
        · simp [Value.ownBlock] at e
        · obtain rfl : g2 = g3 := by simpa [Value.ownBlock] using e
          rw [hc] at hh
          simp only [Option.some.injEq, Obj.cells.injEq] at hh
          exact absurd hh.2.1 (by decide)
      · have e' : g2 = z := e
        subst e'
        have h9 : W'.heap[g2]? = some (.cells #[sv] tRs (0, 0)) := ha'
        rw [h9] at hc
        simp only [Option.some.injEq, Obj.cells.injEq] at hc
        exact absurd hc.2.1 (by decide)
    have HNX : Hid (RangeRow.Stays z (z + 1) (z + 1 + 1 + 1) tR V (W'.setCell ⟨z, 0, none⟩ (.slice (some ⟨g, 0, none⟩) (pre.length + 1) cap)) ∧
        Boxed (W'.setCell ⟨z, 0, none⟩ (.slice (some ⟨g, 0, none⟩) (pre.length + 1) cap)) z tRs (.slice (some ⟨g, 0, none⟩) (pre.length + 1) cap) ∧
        RowsIn (W'.setCell ⟨z, 0, none⟩ (.slice (some ⟨g, 0, none⟩) (pre.length + 1) cap)) (z + 1 + 1 + 1) (.slice (some ⟨g, 0, none⟩) (pre.length + 1) cap) (pre.map (·.1) ++ [.slice xa xk xc]) ∧
        Below z w (W'.setCell ⟨z, 0, none⟩ (.slice (some ⟨g, 0, none⟩) (pre.length + 1) cap)) ∧
        ∀ x ∈ pre ++ [((.slice xa xk xc, xl) : Rec)], BytesU (W'.setCell ⟨z, 0, none⟩ (.slice (some ⟨g, 0, none⟩) (pre.length + 1) cap)) x.1 x.2) := by
      show _ ∧ _
      rw [List.length_map] at ho'
      refine ⟨⟨Nat.le_trans hb'.size (by simp), fun q hq hx hr => ?_⟩, ha'.set _, ?_, (h4.trans (hb'.mono (by omega))).setCell (by show z ≤ z; omega) _, fun x hx => ?_⟩
      · rw [heap_setCell_other _ ⟨z, 0, none⟩ q _ (by show q ≠ z; omega)]
        rcases hr with hr | hr
        · exact hb'.block q hr
        · refine hk' q hq (fun e => ?_)
          rcases h3.2 with ⟨rfl, -⟩ | ⟨g2, cap2, cur2, rfl, -, hh, -⟩
          · simp [Value.ownBlock] at e
          · obtain rfl : q = g2 := by simpa [Value.ownBlock] using e
            exact hr _ _ hh
      · refine ho'.of (fun g2 cs hc _ => heap_setCell_other _ ⟨z, 0, none⟩ g2 _ (fun e => ?_))
        have e' : g2 = z := e
        subst e'
        have h9 : W'.heap[g2]? = some (.cells #[sv] tRs (0, 0)) := ha'
        rw [h9] at hc
        simp only [Option.some.injEq, Obj.cells.injEq] at hc
        exact absurd hc.2.1 (by decide)
      · rcases List.mem_append.1 hx with hx | hx
        · exact hkeep _ _ (h6 x hx)
        · rw [List.mem_singleton.1 hx]
          exact hkeep _ _ h7
    have HD : Hid ((pre ++ [((.slice xa xk xc, xl) : Rec)]).length ≤ k) := by show _ ≤ _; rw [List.length_append]; exact hlen
    have HCL : Hid (Coll w z k (pre ++ [((.slice xa xk xc, xl) : Rec)]) (W'.setCell ⟨z, 0, none⟩ (.slice (some ⟨g, 0, none⟩) (pre.length + 1) cap))) := ⟨_, HNX.out.2.1, by rw [List.map_append]; exact HNX.out.2.2.1, HNX.out.2.2.2.1, HD.out, HNX.out.2.2.2.2⟩
    clear h2 h3 h4 h5 h6 h7 ho' hb' hk' hne ha' h1 hzg hxs hkeep
    gi_wp2_with (gi_at_builtin; refine KnownIn.appends rfl _ _ tRs rfl rfl rfl hap ?_)
    exact ⟨HNX.out.1, HCL.out⟩
  · rintro D xs V hD hS ⟨sv, h2, h3, h4, h5, h6⟩ hK
    have ca := h2.cell
    have HB := Lib.hid h3
    have HC := Lib.hid h4
    have HD := Lib.hid h6
    have HK := Lib.hid hK
    have HXS : Hid (xs.map (·.2) = recs s.b) := recs_of hS
    clear h2 h3 h4 h5 h6 hK hS h1
    gi_wp2
    refine ⟨by simp, .inl ⟨_, _, rfl, run_takeDeferred HK.out, ?_⟩⟩
    have hot : ∀ (g2 : Nat) (cs : Array Value) (t : TypeId), V.heap[g2]? = some (Go.Obj.cells cs t (0, 0)) → (V.putObj D (.deferred none)).heap[g2]? = V.heap[g2]? := fun g2 cs t hc => World.putObj_heap_other (fun e => by
        subst e
        rw [HK.out] at hc
        simp at hc)
    refine ⟨sv, (results_tmp (t := 2) rfl _ _ _).trans rfl, sv, rfl, ⟨xs, HXS.out, ?_, fun x hx => (HD.out x hx).of fun g cs hc _ => hot g cs _ hc⟩, ?_⟩ <;> rw [hz]
    · exact (HB.out.of (fun g cs hc _ => hot g cs _ hc)).rebase (by omega)
    · exact HC.out.trans (belowK_b (w := w) (by omega) _ D _ _ (by rw [HS.out] at hD; omega) HK.out rfl rfl)
  · intro _ _ _ _ _ _ h _
    exact h.elim
end Go.Proofs.Ytfiahkomabllaaa.L
