/- (*blocks.Log).Crash. -/
import Derived.Test.YtfiahkomabllaaaLTorn
namespace Go.Proofs.Ytfiahkomabllaaa.L
open Go Go.RowKit
open Go.Lib

theorem fold_get (l : List Value) : ∀ (k : Nat) (c : Array Value), k + l.length ≤ c.size → ∀ i, ((l.zipIdx k).foldl (fun (cs : Array Value) (x : Value × Nat) => cs.setIfInBounds x.2 x.1) c)[i]? = if k ≤ i ∧ i < k + l.length then l[i - k]? else c[i]? := by
  induction l with
  | nil =>
    intro k c _ i
    rw [if_neg (by rw [List.length_nil]; omega)]
    rfl
  | cons x l ih =>
    intro k c h i
    rw [List.length_cons] at h
    rw [List.zipIdx_cons, List.foldl_cons, ih (k + 1) _ (by rw [Array.size_setIfInBounds]; omega), List.length_cons]
    by_cases h1 : i = k
    · subst h1
      rw [if_neg (by omega), if_pos (by omega), Nat.sub_self]
      simp [Array.getElem?_setIfInBounds_self_of_lt (show i < c.size by omega)]
    · by_cases h2 : k + 1 ≤ i ∧ i < k + 1 + l.length
      · rw [if_pos h2, if_pos (by omega), show i - k = i - (k + 1) + 1 by omega, List.getElem?_cons_succ]
      · rw [if_neg h2, if_neg (by omega), Array.getElem?_setIfInBounds_ne (by omega)]
theorem fill_one {c T : Array Value} (hc : c.size = 64) (hT : T.size = 64) : Instr.fill (fun i => some (i * 64, 64)) c [(0, .agg T)] = some T := by
  have h1 : (T.zipIdx).foldl (fun (cs : Array Value) (x : Value × Nat) => cs.setIfInBounds (0 * 64 + x.2) x.1) c = T := by
    apply Array.ext_getElem?
    intro i
    rw [← Array.foldl_toList, Array.toList_zipIdx]
    have := fold_get T.toList 0 c (by simp; omega) i
    simp only [Nat.zero_mul, Nat.zero_add] at this ⊢
    rw [this]
    by_cases hi : i < T.size
    · rw [if_pos (by simpa using hi), Nat.sub_zero]
      simp
    · rw [if_neg (by simpa using hi), Array.getElem?_eq_none (by omega), Array.getElem?_eq_none (by omega)]
  unfold Instr.fill
  simp only [Value.cells, hT, hc]
  exact congrArg some h1
theorem run_blk1 (W : World) (T : Bytes) (hT : T.length = 64) : (Instr.buildSlice tBs 1 #[(0, encA T)]).run Try.prog W = .ok (.slice (some ⟨W.heap.size, 0, none⟩) 1 1) (W.alloc (.cells (T.map bv).toArray t64)) := by
  obtain ⟨i, hi, hz, hs, hb⟩ := info_parts infoBlk
  refine run_buildSlice (P := Try.prog) W tBs t64 1 _ (T.map bv).toArray i _ sliceBlk' hi hz (by rw [hs]; decide) (by rw [hs]; decide) ?_
  rw [hs]
  unfold encA
  exact fill_one (by simp) (by rw [List.size_toArray, List.length_map, hT])
theorem wpList_build1 {ops : Array Oper} {rest : List Oper} {o : Oper} {a : Act} {W : World} {Q : Exit → Act → World → Prop} (hg : o.guard = none) (x : Operand) (ho : o.op = .buildSlice tBs 1 #[(0, x)]) (T : Bytes) (hT : T.length = 64) (hx : a.eval x = encA T)
    (h : ∀ W2, BoxB W2 W.heap.size t64 T → Below W.heap.size W W2 → wpList Try.prog ops Q rest (a.put o.dst (.slice (some ⟨W.heap.size, 0, none⟩) 1 1)) W2) : wpList Try.prog ops Q (o :: rest) a W := by
  refine wpList_plain hg fun K hK => ?_
  unfold Oper.wp execOp
  simp only [ho, Sem.run_bind, List.map_toArray, List.map_cons, List.map_nil, hx, run_blk1 W T hT, Result.andThen_ok, Sem.run_pure]
  exact hK _ _ (h _ (heap_alloc_new W _) ((Below.refl _ _).alloc (Nat.le_refl _) _))
theorem BoxB.blks1 {W : World} {b : Nat} {T : Bytes} (h : BoxB W b t64 T) (hT : T.length = 64) : BlksIn W (.slice (some ⟨b, 0, none⟩) 1 1) 1 T := ⟨by rw [hT], .inr ⟨b, 0, 1, rfl, Nat.le_refl _, by decide, h.lt, h.lies⟩⟩
/-- How many blocks stay. -/
def stayN (s : Lg) (keep : Int) : Nat := s.last + min keep.toNat (s.b.length / 64 - s.last)
def leftB (s : Lg) (keep torn : Int) : Bytes := s.b.take (stayN s keep * 64) ++ if stayN s keep < s.b.length / 64 ∧ 0 < torn then tornB (blk s.b (stayN s keep)) torn.toNat else []
/-- What a Crash answers, and leaves. -/
def crashS (s : Lg) (keep torn : Int) : Int × Lg :=
  if keep < 0 ∨ torn < 0 ∨ 64 < torn then (3, s) else (0, ⟨s.most, (leftB s keep torn).length / 64, leftB s keep torn⟩)
theorem crash_no (B q : Nat) (og : Option Nat) (s : Lg) (keep torn : Int) (w : World) (h : IsLog B w q og s) (hb : keep < 0 ∨ torn < 0 ∨ 64 < torn) :
    Calls Try.prog 22 #[.pointer (some ⟨q, 0, none⟩), .int .i64 keep, .int .i64 torn] w (DeedA B q og w (crashS s keep torn)) := by
  have HA : Hid (crashS s keep torn = (3, s)) := if_pos hb
  have HL := Lib.hid h
  have hlt := h.lt
  have hlow := h.low
  clear h
  by_cases h1 : keep < 0
  · go_enter Try.func22, Try.ntmps22
    go_wp2
    go_ret
    rw [HA.out]
    exact ⟨rfl, og, HL.out, Turn.of_below (Below.refl _ _) (by omega)⟩
  · by_cases h2 : torn < 0
    · go_enter Try.func22, Try.ntmps22
      go_wp2
      go_ret
      rw [HA.out]
      exact ⟨rfl, og, HL.out, Turn.of_below (Below.refl _ _) (by omega)⟩
    · have h3 : 64 < torn := by omega
      clear hb
      go_enter Try.func22, Try.ntmps22
      go_wp2
      go_ret
      rw [HA.out]
      exact ⟨rfl, og, HL.out, Turn.of_below (Below.refl _ _) (by omega)⟩
set_option maxRecDepth 100000 in
set_option maxHeartbeats 400000 in
theorem crash_ok (B q : Nat) (og : Option Nat) (s : Lg) (keep torn : Int) (w : World) (h : IsLog B w q og s) (hk0 : 0 ≤ keep) (ht0 : 0 ≤ torn) (ht64 : torn ≤ 64) :
    Calls Try.prog 22 #[.pointer (some ⟨q, 0, none⟩), .int .i64 keep, .int .i64 torn] w (DeedA B q og w (crashS s keep torn)) := by
  have HA : Hid (crashS s keep torn = (0, ⟨s.most, (leftB s keep torn).length / 64, leftB s keep torn⟩)) := if_neg (by omega)
  obtain ⟨tn, rfl⟩ := Int.eq_ofNat_of_zero_le ht0
  obtain ⟨v, k, l1, l2, l3, l4, l5⟩ := h.at_
  have hmost := h.most
  have hlow := h.low
  have hlt := h.lt
  have hkk : s.b.length / 64 = k := by rw [l2.1]; omega
  have hkl : s.b.length = k * 64 := l2.1
  obtain ⟨mv, hmv⟩ : ∃ mv : Nat, mv = min keep.toNat (k - s.last) := ⟨_, rfl⟩
  obtain ⟨st, hst⟩ : ∃ st : Nat, st = s.last + mv := ⟨_, rfl⟩
  have HMV : Hid ((if (k : Int) - (s.last : Int) < keep then (k : Int) - s.last else keep) = (mv : Int)) := by
    show _ = _
    split <;> omega
  have hstk : st ≤ k := by omega
  have HLB : Hid (leftB s keep (tn : Int) = s.b.take (st * 64) ++ if st < k ∧ 0 < (tn : Int) then tornB (blk s.b st) (tn : Int).toNat else []) := by
    show _ = _
    unfold leftB stayN
    rw [hkk, ← hmv, ← hst]
  obtain ⟨a, c, rfl⟩ := l2.blks.shape
  have HQ := Lib.hid l1
  have HR := Lib.hid l2
  have HO := Lib.hid l3
  have HB : Hid (Below w.heap.size w w) := Below.refl _ _
  obtain ⟨x1, hs1, hx1, ho1⟩ := l2.head3 hstk .i64 .i64
  obtain ⟨a1, c1', rfl⟩ := hx1.blks.shape
  have HX1 := Lib.hid hx1
  have HO1 : Hid ((Value.slice a1 st c1').ownBlock = og) := ho1.trans l3
  have HCO : Hid (∀ (V : World) (x : Value) (n : Nat) (l : Bytes), LogAt V q s.most x n 0 0 → Row V B x n l → n ≤ 4096 → Calls Try.prog 38 #[.pointer (some ⟨q, 0, none⟩)] V fun e w' => (∃ r, e = .returned r) ∧ LogAt w' q s.most x n (recs l).length (blks (recs l)) ∧ Below B V w' ∧ ∀ g, g < V.heap.size → g ≠ q → w'.heap[g]? = V.heap[g]?) :=
    fun V x n l g1 g2 g3 => countOn_any B q s.most n n x l [] V g1 g2.blks (fun g hg => g2.ne_log g1 hg) trivial (by omega) hlow
  generalize (recs s.b).length = wh at *
  generalize blks (recs s.b) = en at *
  have hkb : ¬ keep < 0 := by omega
  have htb : ¬ (tn : Int) < 0 := by omega
  have htc : ¬ 64 < (tn : Int) := by omega
  have hlast : s.last ≤ 4096 := by omega
  have HST : Hid (st = s.last + mv) := hst
  have HM2 : Hid (mv ≤ 5000) := by show _ ≤ _; omega
  have hst5 : st ≤ 4096 := by omega
  clear h l1 l2 l3 hx1 ho1 hkk hmv hst
  go_enter Try.func22, Try.ntmps22
  go_wp2
  refine wp_region_held_drew (S := fun V => LogAt V q s.most (.slice a k c) s.last wh en ∧ Below w.heap.size w V) (by kernel_rfl) ⟨HQ.out, HB.out.drew⟩ (fun _ => ?_)
  refine HeldBy.gen (fun V => LogAt V q s.most (.slice a k c) s.last wh en ∧ Below w.heap.size w V) ⟨HQ.out, HB.out.drew⟩ ?_
  clear HQ HB
  rintro U0 HS
  refine HeldBy.take (i := 0) rfl (by kernel_rfl) (by kernel_rfl) (by kernel_rfl) (fun _ _ _ h => h) (by rfl) (fun _ _ => by first | (go_simp; rfl) | (go_simp; done)) (by go_simp; rfl) HS ?_
  refine HeldBy.take (i := 1) rfl (by kernel_rfl) (by kernel_rfl) (by kernel_rfl) (fun _ _ _ h => h) (by rfl) (fun _ _ => by first | (go_simp; rfl) | (go_simp; done)) (by go_simp; rfl) HS ?_
  refine HeldBy.take (i := 2) rfl (by kernel_rfl) (by kernel_rfl) (by kernel_rfl) (fun _ _ _ h => h) (by rfl) (fun _ _ => by first | (go_simp; rfl) | (go_simp; done)) (by go_simp; rfl) HS ?_
  refine HeldBy.take (i := 3) rfl (by kernel_rfl) (by kernel_rfl) (by kernel_rfl) (fun _ _ _ h => h) (by rfl) (fun V hV => by have hc := hV.1.c2; first | (go_simp; rfl) | (go_simp; done)) (by go_simp; rfl) HS ?_
  refine HeldBy.take (i := 4) rfl (by kernel_rfl) (by kernel_rfl) (by kernel_rfl) (fun _ _ _ h => h) (by rfl) (fun _ _ => by first | (go_simp; rfl) | (go_simp; done)) (by go_simp; rfl) HS ?_
  refine HeldBy.take (i := 5) rfl (by kernel_rfl) (by kernel_rfl) (by kernel_rfl) (fun _ _ _ h => h) (by rfl) (fun _ _ => by first | (go_simp; rfl) | (go_simp; done)) (by go_simp; rfl) HS ?_
  refine HeldBy.take (i := 6) rfl (by kernel_rfl) (by kernel_rfl) (by kernel_rfl) (fun _ _ _ h => h) (by rfl) (fun _ _ => by first | (go_simp; rfl) | (go_simp; done)) (by go_simp; rfl) HS ?_
  refine HeldBy.take (i := 7) rfl (by kernel_rfl) (by kernel_rfl) (by kernel_rfl) (fun _ _ _ h => h) (by rfl) (fun _ _ => by first | (go_simp; rfl) | (go_simp; done)) (by go_simp; rfl) HS ?_
  refine HeldBy.take (i := 8) rfl (by kernel_rfl) (by kernel_rfl) (by kernel_rfl) (fun _ _ _ h => h) (by rfl) (fun V hV => by have hc := hV.1.c1; first | (go_simp; rfl) | (go_simp; done)) (by go_simp; rfl) HS ?_
  refine HeldBy.take (i := 9) rfl (by kernel_rfl) (by kernel_rfl) (by kernel_rfl) (fun _ _ _ h => h) (by rfl) (fun _ _ => by first | (go_simp; rfl) | (go_simp; done)) (by go_simp; rfl) HS ?_
  refine HeldBy.take (i := 10) rfl (by kernel_rfl) (by kernel_rfl) (by kernel_rfl) (fun _ _ _ h => h) (by rfl) (fun _ _ => by first | (go_simp; rfl) | (go_simp; done)) (by go_simp; rfl) HS ?_
  refine HeldBy.take (i := 11) rfl (by kernel_rfl) (by kernel_rfl) (by kernel_rfl) (fun _ _ _ h => h) (by rfl) (fun _ _ => by first | (go_simp; rfl) | (go_simp; done)) (by go_simp; rfl) HS ?_
  refine HeldBy.take (i := 12) rfl (by kernel_rfl) (by kernel_rfl) (by kernel_rfl) (fun _ _ _ h => h) (by rfl) (fun _ _ => by first | (go_simp; rfl) | (go_simp; done)) (by go_simp; rfl) HS ?_
  refine HeldBy.take (i := 13) rfl (by kernel_rfl) (by kernel_rfl) (by kernel_rfl) (fun _ _ _ h => h) (by rfl) (fun V hV => by have hc := hV.1.c2; first | (go_simp; rfl) | (go_simp; done)) (by go_simp; rfl) HS ?_
  refine HeldBy.take (i := 14) (v := .int .i64 ((k : Int) - (s.last : Int))) rfl (by kernel_rfl) (by kernel_rfl) (by kernel_rfl) (fun _ _ _ h => h) (by rfl) (fun _ _ => by go_simp; exact wrap_id (by omega) (by omega)) (by go_simp; rfl) HS ?_
  refine HeldBy.take (i := 15) (v := .int .i64 (mv : Int)) rfl (by kernel_rfl) (by kernel_rfl) (by kernel_rfl) (fun _ _ _ h => h) (by rfl) (fun _ _ => by go_simp; exact HMV.out) (by go_simp; rfl) HS ?_
  refine HeldBy.take (i := 16) (v := .int .i64 (st : Int)) rfl (by kernel_rfl) (by kernel_rfl) (by kernel_rfl) (fun _ _ _ h => h) (by rfl) (fun _ _ => by go_simp; have := HST.out; have := HM2.out; exact (wrap_id (by omega) (by omega)).trans (by omega)) (by go_simp; rfl) HS ?_
  refine HeldBy.take (i := 17) rfl (by kernel_rfl) (by kernel_rfl) (by kernel_rfl) (fun _ _ _ h => h) (by rfl) (fun _ _ => by first | (go_simp; rfl) | (go_simp; done)) (by go_simp; rfl) HS ?_
  refine wpAnyH_done (by kernel_rfl) ?_ _
  have HBU := Lib.hid HS.2
  have HRU : Hid (Row U0 B (.slice a1 st c1') st (s.b.take (st * 64))) := HX1.out.after HS.2
  have HVU : Hid (BlksIn U0 (.slice a k c) k s.b) := (HR.out.after HS.2).blks
  have HQU := Lib.hid HS.1
  have d1 := HS.1.c1
  clear HS HX1
  by_cases hcase : st < k ∧ 0 < (tn : Int)
  · obtain ⟨hc1, hc2⟩ := hcase
    have hc1' : (st : Int) < (k : Int) := by omega
    have HLE : Hid (leftB s keep (tn : Int) = s.b.take (st * 64) ++ tornB (blk s.b st) tn) := by
      show _ = _
      rw [HLB.out, if_pos ⟨hc1, hc2⟩, Int.toNat_natCast]
    obtain ⟨g, off, cap, he, hg, hA⟩ := HVU.out.at hc1
    obtain ⟨rfl, rfl⟩ : a = some ⟨g, off, none⟩ ∧ c = cap := by cases he; exact ⟨rfl, rfl⟩
    have HAU := Lib.hid hA
    have HL64 : Hid ((blk s.b st).length = 64) := blk_length hkl hc1
    have HTO := Lib.hid (fun W => torn_any (blk s.b st) tn W HL64.out (by omega))
    have HTL : Hid ((tornB (blk s.b st) tn).length = 64) := tornB_length HL64.out (by omega)
    generalize tornB (blk s.b st) tn = T at *
    clear he hg hA
    go_wp2_with (first | refine wpList_load_blk rfl rfl rfl HAU.out HL64.out ?_ | (go_at_call 39; refine (HTO.out U0).mono ?_; rintro e W1 ⟨rfl, hb1⟩) | refine wpList_build1 rfl _ rfl T HTL.out rfl ?_)
    intro W2 hx2 hb2
    have hB2 : B ≤ W2.heap.size := by have := HBU.out.size; have := hb1.size; have := hb2.size; omega
    have hBW2 : Below w.heap.size w W2 := (HBU.out.trans (hb1.mono HBU.out.size)).trans (hb2.mono (by have := HBU.out.size; have := hb1.size; omega))
    have HR2 := Lib.hid ((HRU.out.after hb1).after hb2)
    have HQ2 := Lib.hid ((HQU.out.after hb1).after hb2)
    have HX2 : Hid (BlksIn W2 (.slice (some ⟨W1.heap.size, 0, none⟩) 1 1) 1 T) := hx2.blks1 HTL.out
    have HT2 : Hid (Turn B w W2 q og og) := Turn.of_below hBW2 (by omega)
    have hst1 : st + 1 ≤ 1000000000000 := by omega
    clear hx2 hb1 hb2 hBW2
    go_wp2_with (at_builtin; refine wpList_append_row rfl _ _ rfl B _ st (s.b.take (st * 64)) rfl HR2.out _ 1 T rfl HX2.out hst1 hB2 ?_)
    intro v3 W3 hr3 hG
    obtain ⟨a3, c3, rfl⟩ := hr3.blks.shape
    have HR3 := Lib.hid hr3
    have HQ3 : Hid (LogAt W3 q s.most (.slice (some ⟨g, off, none⟩) k c) s.last wh en) := HQ2.out.of_heap (hG.by_.block q HQ2.out.lt (fun e => HR2.out.ne_log HQ2.out e.symm rfl))
    have HT3 : Hid (Turn B w W3 q og (Value.slice a3 (st + 1) c3).ownBlock) := HT2.out.trans (by have := Turn.grew (q := q) HR2.out hG hB2; rw [HO1.out] at this; exact this)
    have HLT0 : Hid ((s.b.take (st * 64) ++ T).length / 64 = st + 1) := by
      show _ = _
      rw [List.length_append, List.length_take, HTL.out]
      omega
    have f1 := HQ3.out.free 1
    have f2 := HQ3.out.free 2
    have f3 := HQ3.out.free 3
    have f4 := HQ3.out.free 4
    have d1' := HQ3.out.c1
    have d2 := HQ3.out.c2
    have d3 := HQ3.out.c3
    have d4 := HQ3.out.c4
    clear hr3 hG d1 HT2 HX2 HQ2 HR2 hst1
    go_wp2_with fail
    refine (HCO.out _ (.slice a3 (st + 1) c3) (st + 1) (s.b.take (st * 64) ++ T) ((((HQ3.out.s1 (.slice a3 (st + 1) c3)).s2 (st + 1)).s3 0).s4 0) ((((HR3.out.set HQ3.out 1 (.slice a3 (st + 1) c3)).set (HQ3.out.s1 (.slice a3 (st + 1) c3)) 2 (.int .i64 ((st + 1) : Nat))).set ((HQ3.out.s1 (.slice a3 (st + 1) c3)).s2 (st + 1)) 3 (.int .i64 (0 : Nat))).set (((HQ3.out.s1 (.slice a3 (st + 1) c3)).s2 (st + 1)).s3 0) 4 (.int .i64 (0 : Nat))) (by omega)).mono ?_
    rintro e w5 ⟨⟨_, rfl⟩, hl5, hb5, hk5⟩
    have HRR := ((((HR3.out.set HQ3.out 1 (.slice a3 (st + 1) c3)).set (HQ3.out.s1 (.slice a3 (st + 1) c3)) 2 (.int .i64 ((st + 1) : Nat))).set ((HQ3.out.s1 (.slice a3 (st + 1) c3)).s2 (st + 1)) 3 (.int .i64 (0 : Nat))).set (((HQ3.out.s1 (.slice a3 (st + 1) c3)).s2 (st + 1)).s3 0) 4 (.int .i64 (0 : Nat)))
    have HQQ := ((((HQ3.out.s1 (.slice a3 (st + 1) c3)).s2 (st + 1)).s3 0).s4 0)
    have hr5 : Row w5 B (.slice a3 (st + 1) c3) (st + 1) (s.b.take (st * 64) ++ T) := HRR.of_heap fun g hg => hk5 g (HRR.lt hg) (HRR.ne_log HQQ hg)
    have hT := ((((HT3.out.trans (Turn.set _ hlow 1 (.slice a3 (st + 1) c3))).trans (Turn.set _ hlow 2 (.int .i64 ((st + 1) : Nat)))).trans (Turn.set _ hlow 3 (.int .i64 (0 : Nat)))).trans (Turn.set _ hlow 4 (.int .i64 (0 : Nat)))).trans (Turn.kept _ hb5 hk5)
    clear f1 f2 f3 f4 d1' d2 d3 d4
    go_wp2
    go_ret
    rw [HA.out, HLE.out]
    exact ⟨rfl, _, ⟨⟨_, st + 1, by rw [HLT0.out]; exact hl5, hr5, rfl, by show st + 1 ≤ s.most; omega, by show _ / 64 ≤ st + 1; rw [HLT0.out]; exact Nat.le_refl _⟩, hmost, hlow⟩, hT⟩
  · have HLE : Hid (leftB s keep (tn : Int) = s.b.take (st * 64)) := by
      show _ = _
      rw [HLB.out, if_neg hcase, List.append_nil]
    have hlt0 : (s.b.take (st * 64)).length / 64 = st := by rw [List.length_take]; omega
    have HLT0 := Lib.hid hlt0
    have hcs : ¬ (st : Int) < (k : Int) ∨ ((st : Int) < (k : Int) ∧ ¬ 0 < (tn : Int)) := by omega
    have f1 := HQU.out.free 1
    have f2 := HQU.out.free 2
    have f3 := HQU.out.free 3
    have f4 := HQU.out.free 4
    have d2 := HQU.out.c2
    have d3 := HQU.out.c3
    have d4 := HQU.out.c4
    clear hlt0
    rcases hcs with hcs | ⟨hcs, hcs2⟩
    all_goals
      go_wp2_with fail
      refine (HCO.out _ (.slice a1 st c1') st (s.b.take (st * 64)) ((((HQU.out.s1 (.slice a1 st c1')).s2 st).s3 0).s4 0) ((((HRU.out.set HQU.out 1 (.slice a1 st c1')).set (HQU.out.s1 (.slice a1 st c1')) 2 (.int .i64 (st : Nat))).set ((HQU.out.s1 (.slice a1 st c1')).s2 st) 3 (.int .i64 (0 : Nat))).set (((HQU.out.s1 (.slice a1 st c1')).s2 st).s3 0) 4 (.int .i64 (0 : Nat))) (by omega)).mono ?_
      rintro e w5 ⟨⟨_, rfl⟩, hl5, hb5, hk5⟩
      have HRR := ((((HRU.out.set HQU.out 1 (.slice a1 st c1')).set (HQU.out.s1 (.slice a1 st c1')) 2 (.int .i64 (st : Nat))).set ((HQU.out.s1 (.slice a1 st c1')).s2 st) 3 (.int .i64 (0 : Nat))).set (((HQU.out.s1 (.slice a1 st c1')).s2 st).s3 0) 4 (.int .i64 (0 : Nat)))
      have HQQ := ((((HQU.out.s1 (.slice a1 st c1')).s2 st).s3 0).s4 0)
      have hr5 : Row w5 B (.slice a1 st c1') st (s.b.take (st * 64)) := HRR.of_heap fun g hg => hk5 g (HRR.lt hg) (HRR.ne_log HQQ hg)
      have hT := (((((Turn.of_below (q := q) (og := og) HBU.out (by omega : B ≤ w.heap.size)).trans (Turn.set _ hlow 1 (.slice a1 st c1'))).trans (Turn.set _ hlow 2 (.int .i64 (st : Nat)))).trans (Turn.set _ hlow 3 (.int .i64 (0 : Nat)))).trans (Turn.set _ hlow 4 (.int .i64 (0 : Nat)))).trans (Turn.kept _ hb5 hk5)
      clear f1 f2 f3 f4 d1 d2 d3 d4
      go_wp2
      go_ret
      rw [HA.out, HLE.out]
      exact ⟨rfl, og, ⟨⟨_, st, by rw [HLT0.out]; exact hl5, hr5, HO1.out, by show st ≤ s.most; omega, by show _ / 64 ≤ st; rw [HLT0.out]; exact Nat.le_refl _⟩, hmost, hlow⟩, hT⟩
end Go.Proofs.Ytfiahkomabllaaa.L
