/- Of the objects of a kind that fit the one that stands ahead of the others. -/
import Derived.Test.YtfpdchabknoklaaDoorKFind
import Derived.Test.YtfpdchabknoklaaDoorHeldBy
namespace Go.Proofs.YtfpdchabknoklaaDoor.O.B
open Go Go.RowKit Go.Shelf Go.Lib RangeMap KM
attribute [local go_sem] Oper.semAt_some

theorem boxo_at (W : World) (o : Obj) (B : Nat) (h : B = W.heap.size) : BoxO (W.alloc (.cells (cellsO o) 31)) B o := h ▸ BoxO.new W o
theorem chain7 (w : World) (a b c d e f g : Go.Obj) :
    (((((((w.alloc a).alloc b).alloc c).alloc d).alloc e).alloc f).alloc g).heap[w.heap.size]? = some a ∧ (((((((w.alloc a).alloc b).alloc c).alloc d).alloc e).alloc f).alloc g).heap[w.heap.size + 1]? = some b ∧
    (((((((w.alloc a).alloc b).alloc c).alloc d).alloc e).alloc f).alloc g).heap[w.heap.size + 1 + 1]? = some c ∧ (((((((w.alloc a).alloc b).alloc c).alloc d).alloc e).alloc f).alloc g).heap[w.heap.size + 1 + 1 + 1]? = some d ∧
    (((((((w.alloc a).alloc b).alloc c).alloc d).alloc e).alloc f).alloc g).heap[w.heap.size + 1 + 1 + 1 + 1]? = some e ∧ (((((((w.alloc a).alloc b).alloc c).alloc d).alloc e).alloc f).alloc g).heap[w.heap.size + 1 + 1 + 1 + 1 + 1]? = some f ∧
    (((((((w.alloc a).alloc b).alloc c).alloc d).alloc e).alloc f).alloc g).heap[w.heap.size + 1 + 1 + 1 + 1 + 1 + 1]? = some g ∧ (((((((w.alloc a).alloc b).alloc c).alloc d).alloc e).alloc f).alloc g).heap.size = w.heap.size + 7 ∧
    Below w.heap.size w (((((((w.alloc a).alloc b).alloc c).alloc d).alloc e).alloc f).alloc g) := by
  have k : ∀ (W : World) (o : Go.Obj) (b : Nat) (v : Go.Obj), W.heap[b]? = some v → (W.alloc o).heap[b]? = some v := fun W o b v h => (Below.heap_alloc W o b (Array.getElem?_eq_some_iff.1 h).1).trans h
  have n : ∀ (W : World) (o : Go.Obj) (b : Nat), W.heap.size = b → (W.alloc o).heap[b]? = some o := fun W o b h => by subst h; exact heap_alloc_new W o
  have s : ∀ (W : World) (o : Go.Obj) (m : Nat), W.heap.size = m → (W.alloc o).heap.size = m + 1 := fun W o m h => by rw [World.size_alloc, h]
  have bl : ∀ (W : World) (o : Go.Obj), w.heap.size ≤ W.heap.size → Below w.heap.size w W → Below w.heap.size w (W.alloc o) := fun W o h hb => hb.alloc h o
  have s1 := s w a _ rfl
  have s2 := s _ b _ s1
  have s3 := s _ c _ s2
  have s4 := s _ d _ s3
  have s5 := s _ e _ s4
  have s6 := s _ f _ s5
  have s7 := s _ g _ s6
  refine ⟨k _ _ _ _ (k _ _ _ _ (k _ _ _ _ (k _ _ _ _ (k _ _ _ _ (k _ _ _ _ (n _ _ _ rfl)))))), k _ _ _ _ (k _ _ _ _ (k _ _ _ _ (k _ _ _ _ (k _ _ _ _ (n _ _ _ s1))))), k _ _ _ _ (k _ _ _ _ (k _ _ _ _ (k _ _ _ _ (n _ _ _ s2)))), k _ _ _ _ (k _ _ _ _ (k _ _ _ _ (n _ _ _ s3))), k _ _ _ _ (k _ _ _ _ (n _ _ _ s4)), k _ _ _ _ (n _ _ _ s5), n _ _ _ s6, by omega, ?_⟩
  exact bl _ _ (by omega) (bl _ _ (by omega) (bl _ _ (by omega) (bl _ _ (by omega) (bl _ _ (by omega) (bl _ _ (by omega) (bl _ _ (by omega) (Below.refl _ _)))))))
/-- A function that tells which of two stands ahead. -/
structure Orders (gid : FuncId) (less : Obj → Obj → Bool) : Prop where
  enters : ∀ args w, (callFunc gid args).run Tryd.prog w = .ok (.enter gid args) w
  orders : ∀ (a b : Obj) (W : World), ∃ n : Int, decide (n < 0) = less a b ∧ Calls Tryd.prog gid #[encO a, encO b] W fun e W' => e = .returned (.int .i64 n) ∧ Below W.heap.size W W'

set_option maxRecDepth 100000 in
set_option maxHeartbeats 8000000 in
theorem least_in (l : List Obj) (v : Value) (k : Int) (fid gid : FuncId) (caps : Array Value) (p : Obj → Bool) (less : Obj → Obj → Bool) (w : World) (hl0 : ObjsIn w v l) (hf : Tells w l fid caps p) (hg : Orders gid less) :
    CallsIn Fence.wide 3 Tryd.prog 55 #[v, .int .u8 k, .func (.func fid) #[] caps, .func (.func gid) #[] #[]] w fun e w' =>
      e = .returned (.tuple #[encO ((leastL p less (thereL k l)).getD O0), .bool (leastL p less (thereL k l)).isSome]) ∧ Below w.heap.size w w' := by
  obtain ⟨o, c, rfl, -, -⟩ := id hl0
  have HL := Lib.hid hl0
  have HLA : Hid (∀ g off, (∃ c', Value.slice o l.length c = .slice (some ⟨g, off, none⟩) l.length c') → 0 < l.length → g < w.heap.size) := fun g off ⟨c', hv⟩ hl => by
    obtain ⟨o1, c1, e1, -, hi⟩ := hl0
    obtain ⟨g1, off1, e2, hg, -⟩ := hi 0 hl
    cases e1
    subst e2
    cases hv
    exact hg
  have ef := hf.enters
  have eg := hg.enters
  have HF := Lib.hid hf
  have HGO := Lib.hid hg
  clear hl0 hf hg
  have ef2 := enters_of (P := Tryd.prog) Tryd.func83 (by kernel_rfl) rfl
  refine callsIn_of_wp_marks Tryd.func55 rfl trivial ?_ rfl
  simp only [Tryd.ntmps55, List.size_toArray, List.length_cons, List.length_nil, Nat.reduceAdd, Nat.reduceSub, Array.replicate_succ, Array.replicate_zero, List.push_toArray, List.append_toArray, List.nil_append, List.cons_append]
  gi_wp2_with fail
  refine ⟨trivial, (callsIn_wide.2 (there_any _ _ _ _ _)).mono ?_⟩
  rintro e w' ⟨rfl, rfl⟩
  gi_wp2_with fail
  refine wpIn_gen (fun V => V.heap.size = w.heap.size + 7 ∧ Boxed V w.heap.size 50 (.func (.func fid) #[] caps) ∧ Boxed V (w.heap.size + 1) 73 (.func (.func gid) #[] #[]) ∧ BoxO V (w.heap.size + 1 + 1) O0 ∧ BoxO V (w.heap.size + 1 + 1 + 1) O0 ∧ Boxed V (w.heap.size + 1 + 1 + 1 + 1) 4 (.bool false) ∧ Reads V (.slice o l.length c) l k (w.heap.size + 1 + 1 + 1 + 1 + 1) (w.heap.size + 1 + 1 + 1 + 1 + 1 + 1) ∧ Below w.heap.size w V) ?_ ?_
  · obtain ⟨h0, h1, h2, h3, h4, h5, h6, hsz, hlow⟩ := chain7 w _ _ _ _ _ _ _
    exact ⟨hsz, h0, h1, h2, h3, h4, ⟨HL.out.after hlow, h5, h6⟩, hlow⟩
  clear HL
  rintro W0 ⟨hs, h1, h2, h3, h5, h6, h4, hlow⟩
  have HS := Lib.hid hs
  have H1 := Lib.hid h1
  have H2 := Lib.hid h2
  have H3 := Lib.hid h3
  have H5 := Lib.hid h5
  have H6 := Lib.hid h6
  have H4 := Lib.hid h4
  have HLO := Lib.hid hlow
  have hclear : Clear (.slice o l.length c) l (w.heap.size + 1 + 1 + 1 + 1 + 1) (w.heap.size + 1 + 1 + 1 + 1 + 1 + 1) (w.heap.size + 3) (w.heap.size + 5) := by
    refine ⟨by omega, by omega, fun g off hv hl => ?_⟩
    have := HLA.out g off hv hl
    omega
  clear h1 h2 h3 h4 h5 h6 hlow hs
  obtain ⟨z, hz⟩ : ∃ z, w.heap.size = z := ⟨_, rfl⟩
  rw [hz] at HS H1 H2 H3 H4 H5 H6 HLO hclear ⊢
  refine RangeMap.range (F := Fence.wide) (n := 3) rfl (by omega) (gf := 83) (lb := #[.pointer (some ⟨z + 1 + 1 + 1 + 1 + 1, 0, none⟩), .pointer (some ⟨z + 1 + 1 + 1 + 1 + 1 + 1, 0, none⟩)]) rfl trivial ef2 (encs := encE (l := l)) (lo := z + 3) (hi := z + 5) (by rw [HS.out]; omega)
    (there_seq l (.slice o l.length c) k _ _ _ _ 2 W0 H4.out hclear (by rw [HS.out]; omega)) (fun _ => rfl)
    (fun pre W => Boxed W z 50 (.func (.func fid) #[] caps) ∧ Boxed W (z + 1) 73 (.func (.func gid) #[] #[]) ∧ BoxO W (z + 1 + 1) O0 ∧ Below z w W ∧ BoxO W (z + 1 + 1 + 1) ((leastL p less (pre.map Subtype.val)).getD O0) ∧ Boxed W (z + 1 + 1 + 1 + 1) 4 (.bool (leastL p less (pre.map Subtype.val)).isSome))
    (fun _ _ _ => False)
    ?_ (fun _ _ _ _ _ h => h.elim) ⟨H1.out, H2.out, H3.out, HLO.out, H5.out, H6.out⟩
    (fun pre x a1 W => Boxed W z 50 (.func (.func fid) #[] caps) ∧ Boxed W (z + 1) 73 (.func (.func gid) #[] #[]) ∧ BoxO W (z + 1 + 1) O0 ∧ Below z w W ∧ BoxO W (z + 1 + 1 + 1) ((leastL p less (pre.map Subtype.val)).getD O0) ∧ Boxed W (z + 1 + 1 + 1 + 1) 4 (.bool (leastL p less (pre.map Subtype.val)).isSome) ∧ ∃ ob, W0.heap.size ≤ ob ∧ BoxO W ob x.1 ∧
      a1 = { tmps := #[.slice o l.length c, .int .u8 k, .func (.func fid) #[] caps, .func (.func gid) #[] #[], undef, undef, .pointer (some ⟨z, 0, none⟩), .pointer (some ⟨z + 1, 0, none⟩), .pointer (some ⟨z + 1 + 1, 0, none⟩), .bool false, .pointer (some ⟨z + 1 + 1 + 1, 0, none⟩), .pointer (some ⟨z + 1 + 1 + 1 + 1, 0, none⟩), .pointer (some ⟨ob, 0, none⟩), .slice o l.length c, .int .u8 k, .func (.func 83) #[] #[.pointer (some ⟨z + 1 + 1 + 1 + 1 + 1, 0, none⟩), .pointer (some ⟨z + 1 + 1 + 1 + 1 + 1 + 1, 0, none⟩)], encO x.1, undef, undef, undef, undef, undef, undef, undef, undef, undef, undef, undef, undef, undef, undef, undef, undef, undef], defers := [] })
    ?_ ?_ ?_ ?_ (fun _ _ _ _ _ _ h => h.elim)
  · intro pre A B row ⟨a, b, c, d, e, f⟩ hg hr
    exact ⟨cells_own hg hr a, cells_own hg hr b, cells_own hg hr c, ownFrom_below (β := Unit) (n₀ := z) (B := W0.heap.size) (by omega) (by rw [HS.out]; omega) () A B row d hg hr, cells_own hg hr e, cells_own hg hr f⟩
  · intro x a1 pre A B row ⟨a, b, c, d, e, f, ob, g, h, i⟩ hg hr
    exact ⟨cells_own hg hr a, cells_own hg hr b, cells_own hg hr c, ownFrom_below (β := Unit) (n₀ := z) (B := W0.heap.size) (by omega) (by rw [HS.out]; omega) () A B row d hg hr, cells_own hg hr e, cells_own hg hr f, ob, g, cells_own hg hr h, i⟩
  · intro lp pre x W ⟨a, b, c, d, e, f⟩ _ hsz
    obtain ⟨V, hst, hbx, hlw, -⟩ := boxing W x.1
    have HA := Lib.hid a
    have HB := Lib.hid b
    have HC := Lib.hid c
    have HD := Lib.hid d
    have HE := Lib.hid e
    have HFF := Lib.hid f
    have HX := Lib.hid hbx
    have HW := Lib.hid hlw
    clear a b c d e f hbx hlw
    simp only [encE]
    gi_wp2_with (refine KnownIn.skip rfl (by intro c e; cases e) rfl (hst rfl rfl rfl) ?_)
    exact ⟨Stays.of_below HW.out, (HW.out.block _ HA.out.lt).trans HA.out, (HW.out.block _ HB.out.lt).trans HB.out, HC.out.after HW.out, HD.out.trans (HW.out.mono (by have := HD.out.size; omega)), HE.out.after HW.out, (HW.out.block _ HFF.out.lt).trans HFF.out, W.heap.size, hsz, HX.out, rfl⟩
  · rintro lp pre x a1 W ⟨a, b, c, d, e, f, ob, hob, hbx, rfl⟩ _ hsz
    have hmap : (pre ++ [x]).map Subtype.val = pre.map Subtype.val ++ [x.1] := by simp
    have hsn := least_snoc p less (pre.map Subtype.val) x.1
    rw [← hmap] at hsn
    obtain ⟨best, hbest⟩ : ∃ b, leastL p less (pre.map Subtype.val) = b := ⟨_, rfl⟩
    rw [hbest] at e f hsn
    have HSN := Lib.hid hsn
    have HA := Lib.hid a
    have HB := Lib.hid b
    have HC := Lib.hid c
    have HD := Lib.hid d
    have HE := Lib.hid e
    have HFF := Lib.hid f
    have ca := a.cell
    clear a b c d e f hsn hmap hbest
    gi_wp2_with (refine KnownIn.valueW ?_ rfl (load_obj hbx rfl rfl) ?_; rfl)
    refine ⟨trivial, ((callsIn_wide.2 (HF.out.tells x.1 x.2 W (by rw [hz]; exact HD.out))).inRound lp).mono ?_⟩
    rintro e W2 ⟨rfl, hb2⟩
    have hd2 : Below z w W2 := HD.out.trans (hb2.mono (by have := HD.out.size; omega))
    have hbx2 := hbx.after hb2
    have hf2 := (hb2.block _ HFF.out.lt).trans HFF.out
    have he2 := HE.out.after hb2
    have ho2 := HC.out.after hb2
    have ha2 := (hb2.block _ HA.out.lt).trans HA.out
    have hg2 := (hb2.block _ HB.out.lt).trans HB.out
    clear HD HFF HE HC HA HB ca hbx
    cases hpx : p x.1 with
    | false =>
      have HN : Hid (leastL p less ((pre ++ [x]).map Subtype.val) = best) := by show _ = _; rw [HSN.out]; unfold stepL; rw [hpx]; rfl
      have HX2 := Lib.hid (show Stays (z + 3) (z + 5) W W2 ∧ Boxed W2 z 50 (.func (.func fid) #[] caps) ∧ Boxed W2 (z + 1) 73 (.func (.func gid) #[] #[]) ∧ BoxO W2 (z + 1 + 1) O0 ∧ Below z w W2 ∧ BoxO W2 (z + 1 + 1 + 1) (best.getD O0) ∧ Boxed W2 (z + 1 + 1 + 1 + 1) 4 (.bool best.isSome) from ⟨Stays.of_below hb2, ha2, hg2, ho2, hd2, he2, hf2⟩)
      clear hb2 hd2 hf2 he2 ho2 ha2 hg2 hpx HSN
      gi_wp2_with (refine wpListIn_skip (by rfl) (by rfl) ?_)
      obtain ⟨q1, q2, q3, q4, q5, q6, q7⟩ := HX2.out
      exact ⟨q1, q2, q3, q4, q5, by rw [HN.out]; exact q6, by rw [HN.out]; exact q7⟩
    | true =>
     cases best with
     | none =>
      have HN : Hid (leastL p less ((pre ++ [x]).map Subtype.val) = some x.1) := by show _ = _; rw [HSN.out]; unfold stepL; rw [hpx]; rfl
      have cf : W2.cell? ⟨z + 1 + 1 + 1 + 1, 0, none⟩ = some (.bool false) := Boxed.cell hf2
      obtain ⟨V2, hV2⟩ : ∃ V2, W2.setRow (z + 1 + 1 + 1) (cellsO x.1) = V2 := ⟨_, rfl⟩
      have hst : ∀ {oi : Oper} {a : Act} {p q : Operand}, oi.op = .store 31 p q → a.eval p = .pointer (some ⟨z + 1 + 1 + 1, 0, none⟩) → a.eval q = encO x.1 → (execOp a.eval oi).run Tryd.prog W2 = .ok .skip V2 := fun h1 h2 h3 => by
        rw [← hV2]
        exact exec_store_obj he2 h1 h2 h3
      have hf3 : Boxed V2 (z + 1 + 1 + 1 + 1) 4 (.bool false) := by rw [← hV2]; exact boxed_row hf2 (by omega) _
      have he3 : BoxO V2 (z + 1 + 1 + 1) x.1 := by rw [← hV2]; exact he2.setRow x.1
      have hs3 : Stays (z + 3) (z + 5) W V2 := by rw [← hV2]; exact stays_row (Stays.of_below hb2) (by omega) _
      have hl3 : Below z w V2 := by rw [← hV2]; exact below_setRow hd2 (by omega) _
      have ho3 : BoxO V2 (z + 1 + 1) O0 := by rw [← hV2]; exact ho2.row (by omega) _
      have ha3 : Boxed V2 z 50 (.func (.func fid) #[] caps) := by rw [← hV2]; exact boxed_row ha2 (by omega) _
      have hg3 : Boxed V2 (z + 1) 73 (.func (.func gid) #[] #[]) := by rw [← hV2]; exact boxed_row hg2 (by omega) _
      have f3 := hf3.frozen
      have c3 := hf3.cell
      have HS3 := Lib.hid (stays_cell hs3 (b := z + 1 + 1 + 1 + 1) (by omega) (.bool true))
      have HF3 := Lib.hid (hf3.set (.bool true))
      have HE3 := Lib.hid (he3.other (p := ⟨z + 1 + 1 + 1 + 1, 0, none⟩) (by show z + 1 + 1 + 1 ≠ z + 1 + 1 + 1 + 1; omega) (.bool true))
      have HO3 := Lib.hid (ho3.other (p := ⟨z + 1 + 1 + 1 + 1, 0, none⟩) (by show z + 1 + 1 ≠ z + 1 + 1 + 1 + 1; omega) (.bool true))
      have HA3 := Lib.hid (ha3.other (by show z ≠ z + 1 + 1 + 1 + 1; omega) (.bool true))
      have HG3 := Lib.hid (hg3.other (by show z + 1 ≠ z + 1 + 1 + 1 + 1; omega) (.bool true))
      have HL3 := Lib.hid (hl3.setCell (p := ⟨z + 1 + 1 + 1 + 1, 0, none⟩) (by show z ≤ z + 1 + 1 + 1 + 1; omega) (.bool true))
      clear hV2 hf3 he3 hs3 hl3 ho3 ha3 hg3 hb2 hd2 hf2 he2 ho2 ha2 hg2
      clear hpx HSN
      gi_wp2_with (first | (refine wpListIn_skip (by rfl) (by rfl) ?_) | (refine KnownIn.valueW ?_ rfl (load_obj hbx2 rfl rfl) ?_; rfl) | (refine KnownIn.skip rfl (by intro c e; cases e) rfl (hst rfl rfl rfl) ?_))
      exact ⟨HS3.out, HA3.out, HG3.out, HO3.out, HL3.out, by rw [HN.out]; exact HE3.out, by rw [HN.out]; exact HF3.out⟩
     | some b0 =>
      have cf : W2.cell? ⟨z + 1 + 1 + 1 + 1, 0, none⟩ = some (.bool true) := Boxed.cell hf2
      have cg : W2.cell? ⟨z + 1, 0, none⟩ = some (.func (.func gid) #[] #[]) := Boxed.cell hg2
      obtain ⟨n, hn, hcall⟩ := HGO.out.orders x.1 b0 W2
      have HCALL := Lib.hid hcall
      have HNN := Lib.hid hn
      clear hn hcall
      have he2' : BoxO W2 (z + 1 + 1 + 1) b0 := he2
      gi_wp2_with (first | (refine KnownIn.valueW ?_ rfl (load_obj hbx2 rfl rfl) ?_; rfl) | (refine KnownIn.valueW ?_ rfl (load_obj he2' rfl rfl) ?_; rfl))
      refine ⟨trivial, ((callsIn_wide.2 HCALL.out).inRound lp).mono ?_⟩
      rintro e W3 ⟨rfl, hb3⟩
      replace hd2 : Below z w W3 := hd2.trans (hb3.mono (by have := hd2.size; omega))
      replace hf2 := (hb3.block _ (Array.getElem?_eq_some_iff.1 hf2).1).trans hf2
      replace he2 : BoxO W3 (z + 1 + 1 + 1) b0 := he2'.after hb3
      replace ho2 := ho2.after hb3
      replace ha2 := (hb3.block _ (Array.getElem?_eq_some_iff.1 ha2).1).trans ha2
      replace hg2 := (hb3.block _ (Array.getElem?_eq_some_iff.1 hg2).1).trans hg2
      replace hbx2 := hbx2.after hb3
      replace hb2 : Below W.heap.size W W3 := hb2.trans (hb3.mono hb2.size)
      clear HCALL he2' cf cg hb3
      cases hls : less x.1 b0 with
      | false =>
       have HN : Hid (leastL p less ((pre ++ [x]).map Subtype.val) = some b0) := by show _ = _; rw [HSN.out]; unfold stepL; simp [hpx, hls]
       have hn0 : ¬ n < 0 := by have h := HNN.out; rw [hls] at h; simpa using h
       have HX2 := Lib.hid (show Stays (z + 3) (z + 5) W W3 ∧ Boxed W3 z 50 (.func (.func fid) #[] caps) ∧ Boxed W3 (z + 1) 73 (.func (.func gid) #[] #[]) ∧ BoxO W3 (z + 1 + 1) O0 ∧ Below z w W3 ∧ BoxO W3 (z + 1 + 1 + 1) (b0) ∧ Boxed W3 (z + 1 + 1 + 1 + 1) 4 (.bool true) from ⟨Stays.of_below hb2, ha2, hg2, ho2, hd2, he2, hf2⟩)
       clear hb2 hd2 hf2 he2 ho2 ha2 hg2 hpx hls HSN HNN
       gi_wp2
       obtain ⟨q1, q2, q3, q4, q5, q6, q7⟩ := HX2.out
       exact ⟨q1, q2, q3, q4, q5, by rw [HN.out]; exact q6, by rw [HN.out]; exact q7⟩
      | true =>
       have HN : Hid (leastL p less ((pre ++ [x]).map Subtype.val) = some x.1) := by show _ = _; rw [HSN.out]; unfold stepL; simp [hpx, hls]
       have hn0 : n < 0 := by have h := HNN.out; rw [hls] at h; simpa using h
       obtain ⟨V2, hV2⟩ : ∃ V2, W3.setRow (z + 1 + 1 + 1) (cellsO x.1) = V2 := ⟨_, rfl⟩
       have hst : ∀ {oi : Oper} {a : Act} {p q : Operand}, oi.op = .store 31 p q → a.eval p = .pointer (some ⟨z + 1 + 1 + 1, 0, none⟩) → a.eval q = encO x.1 → (execOp a.eval oi).run Tryd.prog W3 = .ok .skip V2 := fun h1 h2 h3 => by
         rw [← hV2]
         exact exec_store_obj he2 h1 h2 h3
       have hf3 : Boxed V2 (z + 1 + 1 + 1 + 1) 4 (.bool true) := by rw [← hV2]; exact boxed_row hf2 (by omega) _
       have he3 : BoxO V2 (z + 1 + 1 + 1) x.1 := by rw [← hV2]; exact he2.setRow x.1
       have hs3 : Stays (z + 3) (z + 5) W V2 := by rw [← hV2]; exact stays_row (Stays.of_below hb2) (by omega) _
       have hl3 : Below z w V2 := by rw [← hV2]; exact below_setRow hd2 (by omega) _
       have ho3 : BoxO V2 (z + 1 + 1) O0 := by rw [← hV2]; exact ho2.row (by omega) _
       have ha3 : Boxed V2 z 50 (.func (.func fid) #[] caps) := by rw [← hV2]; exact boxed_row ha2 (by omega) _
       have hg3 : Boxed V2 (z + 1) 73 (.func (.func gid) #[] #[]) := by rw [← hV2]; exact boxed_row hg2 (by omega) _
       have f3 := hf3.frozen
       have c3 := hf3.cell
       have HS3 := Lib.hid (stays_cell hs3 (b := z + 1 + 1 + 1 + 1) (by omega) (.bool true))
       have HF3 := Lib.hid (hf3.set (.bool true))
       have HE3 := Lib.hid (he3.other (p := ⟨z + 1 + 1 + 1 + 1, 0, none⟩) (by show z + 1 + 1 + 1 ≠ z + 1 + 1 + 1 + 1; omega) (.bool true))
       have HO3 := Lib.hid (ho3.other (p := ⟨z + 1 + 1 + 1 + 1, 0, none⟩) (by show z + 1 + 1 ≠ z + 1 + 1 + 1 + 1; omega) (.bool true))
       have HA3 := Lib.hid (ha3.other (by show z ≠ z + 1 + 1 + 1 + 1; omega) (.bool true))
       have HG3 := Lib.hid (hg3.other (by show z + 1 ≠ z + 1 + 1 + 1 + 1; omega) (.bool true))
       have HL3 := Lib.hid (hl3.setCell (p := ⟨z + 1 + 1 + 1 + 1, 0, none⟩) (by show z ≤ z + 1 + 1 + 1 + 1; omega) (.bool true))
       clear hV2 hf3 he3 hs3 hl3 ho3 ha3 hg3 hb2 hd2 hf2 he2 ho2 ha2 hg2

       clear hpx hls HSN HNN
       gi_wp2_with (first | (refine KnownIn.valueW ?_ rfl (load_obj hbx2 rfl rfl) ?_; rfl) | (refine KnownIn.skip rfl (by intro c e; cases e) rfl (hst rfl rfl rfl) ?_))
       exact ⟨HS3.out, HA3.out, HG3.out, HO3.out, HL3.out, by rw [HN.out]; exact HE3.out, by rw [HN.out]; exact HF3.out⟩
  · rintro D xs W hD hS ⟨a, b, c, d, e, f⟩ hK
    rw [hS] at e f
    obtain ⟨best, hbest⟩ : ∃ b, leastL p less (thereL k l) = b := ⟨_, rfl⟩
    have HNN := Lib.hid hbest
    rw [hbest] at e f
    have HO3 := Lib.hid b
    have HA3 := Lib.hid c
    have HE3 := Lib.hid e
    have HF3 := Lib.hid f
    have HL3 := Lib.hid d
    have HK3 := Lib.hid hK
    clear hbest hS a b c d e f hK
    gi_wp2
    refine wpIn_wide.2 (wp_normal ?_)
    refine wp_region_held_drew (S := fun V => BoxO V (z + 1 + 1 + 1) (best.getD O0) ∧ Boxed V (z + 1 + 1 + 1 + 1) 4 (.bool best.isSome)) (by kernel_rfl) ⟨HE3.out, HF3.out⟩ (fun _ => ?_)
    refine HeldBy.gen (fun V => (BoxO V (z + 1 + 1 + 1) (best.getD O0) ∧ Boxed V (z + 1 + 1 + 1 + 1) 4 (.bool best.isSome)) ∧ BoxO V (z + 1 + 1) O0 ∧ Below z w V ∧ V.heap[D]? = some (.deferred (some []))) ⟨⟨HE3.out, HF3.out⟩, HA3.out, HL3.out.drew, HK3.out⟩ ?_
    clear HE3 HF3 HA3 HL3 HK3 HO3
    rintro U ⟨HS0, ho, hlo, hk⟩
    obtain ⟨V2, hV2⟩ : ∃ V2, U.setRow (z + 1 + 1) (cellsO (best.getD O0)) = V2 := ⟨_, rfl⟩
    have hst : ∀ {oi : Oper} {a : Act} {p q : Operand}, oi.op = .store 31 p q → a.eval p = .pointer (some ⟨z + 1 + 1, 0, none⟩) → a.eval q = encO (best.getD O0) → (execOp a.eval oi).run Tryd.prog U = .ok .skip V2 := fun h1 h2 h3 => by
      rw [← hV2]
      exact exec_store_obj ho h1 h2 h3
    have HS1 : BoxO V2 (z + 1 + 1 + 1) (best.getD O0) ∧ Boxed V2 (z + 1 + 1 + 1 + 1) 4 (.bool best.isSome) := by rw [← hV2]; exact ⟨HS0.1.row (by omega) _, boxed_row HS0.2 (by omega) _⟩
    have HO3 : Hid (BoxO V2 (z + 1 + 1) (best.getD O0)) := by show BoxO _ _ _; rw [← hV2]; exact ho.setRow _
    have HL3 : Hid (Below z w V2) := by show Below _ _ _; rw [← hV2]; exact below_setRow hlo (by omega) _
    have hDz : z + 7 ≤ D := by rw [HS.out] at hD; exact hD
    have HK3 : Hid (V2.heap[D]? = some (.deferred (some []))) := by show _ = _; rw [← hV2]; exact (setRow_other U (z + 1 + 1) D _ (by omega)).trans hk
    clear hV2 ho hlo hk
    refine HeldBy.take (i := 0) rfl (by kernel_rfl) (by kernel_rfl) (by kernel_rfl) (fun _ _ _ h => by cases h.1) (by rfl) (fun V hV => load_obj hV.1 rfl rfl) (by go_simp; rfl) HS0 ?_
    refine HeldBy.take (i := 1) rfl (by kernel_rfl) (by kernel_rfl) (by kernel_rfl) (fun _ _ _ h => by cases h.1) (by rfl) (fun V hV => by have hc := hV.2.cell; first | (go_simp; rfl) | (go_simp; done)) (by go_simp; rfl) HS0 ?_
    refine HeldBy.store (i := 2) (w' := V2) rfl (by kernel_rfl) (by rfl) (hst rfl rfl rfl) (by first | (go_simp; rfl) | (go_simp; done)) HS1 ?_
    refine HeldBy.value (i := 3) (v := .bool best.isSome) rfl (by kernel_rfl) (by rfl) (by first | (go_simp; rfl) | (go_simp; done)) (by first | (go_simp; rfl) | (go_simp; done)) HS1 ?_
    refine wpAnyH_done (by kernel_rfl) ⟨rfl, ?_⟩ _
    clear hst HS0 HS1
    gi_wp2
    refine ⟨by simp, .inl ⟨_, _, rfl, run_takeDeferred HK3.out, ?_⟩⟩
    have r1 := loadVar_obj (show BoxO (World.putObj _ D (.deferred none)) (z + 1 + 1) (best.getD O0) from (World.putObj_heap_other (by omega)).trans HO3.out)
    refine ⟨.tuple #[encO (best.getD O0), .bool best.isSome], results_ct rfl rfl rfl r1, ?_, ?_⟩
    · rw [HNN.out]
    · rw [hz]
      exact HL3.out.trans (belowK_b (w := w) (by omega) _ D _ _ (by omega) HK3.out rfl rfl)
theorem least_any (l : List Obj) (v : Value) (k : Int) (fid gid : FuncId) (caps : Array Value) (p : Obj → Bool) (less : Obj → Obj → Bool) (w : World) (hl : ObjsIn w v l) (hf : Tells w l fid caps p) (hg : Orders gid less) :
    Calls Tryd.prog 55 #[v, .int .u8 k, .func (.func fid) #[] caps, .func (.func gid) #[] #[]] w fun e w' =>
      e = .returned (.tuple #[encO ((leastL p less (thereL k l)).getD O0), .bool (leastL p less (thereL k l)).isSome]) ∧ Below w.heap.size w w' := callsIn_wide.1 (least_in l v k fid gid caps p less w hl hf hg)
end Go.Proofs.YtfpdchabknoklaaDoor.O.B
