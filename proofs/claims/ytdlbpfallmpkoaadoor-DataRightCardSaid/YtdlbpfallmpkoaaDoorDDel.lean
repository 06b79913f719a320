/- What is done next for a snapshot that is on its way out. -/
import Derived.Test.YtdlbpfallmpkoaaDoorDSnap
import Derived.RangeFuncLeaves
namespace Go.Proofs.YtdlbpfallmpkoaaDoor.O.B
open Go Go.RowKit Go.Shelf Go.Lib RangeMap KM
attribute [local go_sem] Oper.semAt_some

/-- The mark of a range over a function. -/
def Mark (W : World) (D : Nat) : Prop := W.heap[D]? = some (.deferred (some []))
theorem Mark.after {W W' : World} {D : Nat} (h : Mark W D) (hb : Below W.heap.size W W') : Mark W' D := (hb.block D (Array.getElem?_eq_some_iff.1 h).1).trans h
theorem leave_mark {F : Fence} {n : Nat} {P : Program} {fn : Func} {R : Ending → World → Prop} {a : Act} {W : World} {D : Nat} (hd : a.defers = [{ target := .collected D, args := #[] }]) (hk : Mark W D)
    (h : ∃ v, (results fn a.tmps).run P (W.putObj D (.deferred none)) = .ok v (W.putObj D (.deferred none)) ∧ R (.returned v) (W.putObj D (.deferred none))) : bodyPostM F n P fn R .ret a W := by
  show LeavesInM F n P fn a.tmps R a.defers FrameMode.returning W
  rw [hd]
  exact ⟨by simp, .inl ⟨_, _, rfl, run_takeDeferred hk, h⟩⟩
/-- A volume is being made of it. -/
def madeB (s c : Obj) : Bool := (c.phase == 2) && decide (c.source = s.name)


set_option maxRecDepth 100000 in
set_option maxHeartbeats 8000000 in
theorem snapD_del (l : List Obj) (v : Value) (ver : Int) (n : ByteArray) (w : World) (hl : ObjsIn w v l) (ht : Tab w) (hall : ∀ s ∈ l, (0 ≤ s.born ∧ s.born ≤ 18446744073709551615) ∧ s.name.size ≤ 140737488351232) (s : Obj) (hs : getL l 7 n = some s) (hh : handleD s ≠ E0) (hd : s.deleting = true) :
    Calls Tryd.prog 21 #[v, .int .u64 ver, .string n] w fun e w' => e = .returned (encA (goN l s (up ver))) ∧ Below w.heap.size w w' := by
  obtain ⟨o, cp, rfl, -, -⟩ := id hl
  have HL := Lib.hid hl
  clear hl
  have hin := hall s (List.mem_of_find?_eq_some hs)
  have HT := Lib.hid ht
  have HBD := Lib.hid hin
  have HHH := Lib.hid (fun V (hV : Tab V) => handleD_any s V hV hin.1 hin.2)
  clear ht hall hin
  have HGE : Hid (∀ V : World, ObjsIn V (.slice o l.length cp) l → Calls Tryd.prog 43 #[.slice o l.length cp, .int .u8 7, .string n] V fun e w' => e = .returned (.tuple #[encO s, .bool true]) ∧ Below V.heap.size V w') := fun V hV => by
    have h := get_any l _ 7 n V hV
    rw [hs] at h
    exact h
  clear hs
  have hn' : (handleD s).toList ≠ [] := fun e => hh ((emp_iff _).1 e)
  have hn2 : ((handleD s).toList == []) = false := by simpa using hn'
  have hn3 : (handleD s).toList.isEmpty = false := by simpa using hn'
  clear hh
  have ef2 := enters_of (P := Tryd.prog) Tryd.func58 (by kernel_rfl) rfl
  obtain ⟨x, hx⟩ : ∃ x, goN l s (up ver) = x := ⟨_, rfl⟩
  rw [hx]
  unfold goN dropN madeOf at hx
  rw [if_pos hd] at hx
  obtain ⟨h, hh⟩ : ∃ h, handleD s = h := ⟨_, rfl⟩
  rw [hh] at hx HHH hn' hn2 hn3
  have HXX := Lib.hid hx
  clear hx hh
  refine callsIn_wide.1 (callsIn_of_wp_marks (n := 3) Tryd.func21 rfl trivial (wpIn_wide.2 ?_) rfl)
  simp only [Tryd.ntmps21, List.size_toArray, List.length_cons, List.length_nil, Nat.reduceAdd, Nat.reduceSub, Array.replicate_succ, Array.replicate_zero, List.push_toArray, List.append_toArray, List.nil_append, List.cons_append]
  go_wp2_with (fail)
  refine wp_scope_once ?_
  go_hide hQ
  have HQ := Lib.hid hQ
  clear hQ
  refine wp_gen (fun V => BoxA V w.heap.size nothing ∧ Below w.heap.size w V) ⟨heap_alloc_new _ _, (Below.refl _ _).alloc (Nat.le_refl _) _⟩ ?_
  rintro V ⟨ho, hlw⟩
  have HO := Lib.hid ho
  have HW := Lib.hid hlw
  have HG := Lib.hid (HGE.out V (HL.out.after hlw))
  clear ho hlw HGE
  go_wp2_with (fail)
  refine HG.out.mono ?_
  rintro e W2 ⟨rfl, hb2⟩
  obtain ⟨V2, hst, hk, hb, -⟩ := boxing W2 s
  have hw2 := HW.out.trans (hb2.mono HW.out.size)
  have HNE : Hid (w.heap.size < W2.heap.size) := Nat.lt_of_lt_of_le HO.out.lt hb2.size
  replace HO := Lib.hid ((HO.out.after hb2).after hb)
  replace HW := Lib.hid (hw2.trans (hb.mono hw2.size))
  have HB := Lib.hid hk
  clear HG hb2 hb hw2
  have hbx := hk
  have HC := Lib.hid (HHH.out V2 (HT.out.after HW.out))
  clear hk
  go_wp2_with (first | (refine wpList_skip rfl (hst rfl rfl rfl) ?_) | ((with_reducible refine wpList_load_obj ?_ rfl ?_ hbx ?_); rfl; rfl))
  refine HC.out.mono ?_
  rintro e W3 ⟨rfl, hb3⟩
  have hw3 := HW.out.trans (hb3.mono HW.out.size)
  replace HO := Lib.hid (HO.out.after hb3)
  replace HW := Lib.hid hw3
  replace HB := Lib.hid (HB.out.after hb3)
  clear HC hst hb3 hw3 hbx
  have c4 := HB.out.c4
  rw [hd] at c4
  clear hd hn'
  go_wp2_with fail
  go_step3
  go_wp2_with fail
  refine (there_any _ _ _ _ _).mono ?_
  rintro e w' ⟨rfl, rfl⟩
  go_wp2_with fail
  refine wp_gen (fun V => V.heap.size = W3.heap.size + 2 ∧ BoxA V w.heap.size nothing ∧ BoxO V W2.heap.size s ∧ Reads V (.slice o l.length cp) l 3 W3.heap.size (W3.heap.size + 1) ∧ Below w.heap.size w V) ?_ ?_
  · have hz2 : (W3.alloc (.cells #[.slice o l.length cp] 22)).heap.size = W3.heap.size + 1 := World.size_alloc _ _
    have hb2 : Below W3.heap.size W3 ((W3.alloc (.cells #[.slice o l.length cp] 22)).alloc (.cells #[.int .u8 3] 23)) := ((Below.refl _ _).alloc (Nat.le_refl _) _).alloc (by omega) _
    refine ⟨by rw [World.size_alloc, World.size_alloc], HO.out.after hb2, HB.out.after hb2, ⟨HL.out.after (HW.out.trans (hb2.mono HW.out.size)), ?_, ?_⟩, HW.out.trans (hb2.mono HW.out.size)⟩
    · exact (boxed_at W3 _ _ _ rfl).alloc _
    · exact boxed_at _ _ _ _ hz2.symm
  have HAS : Hid (w.heap.size < W2.heap.size ∧ W2.heap.size < W3.heap.size) := ⟨HNE.out, HB.out.lt⟩
  clear HO HB HW HL c4
  rintro W0 ⟨hs0, ho, hb, hrd, hlw⟩
  have HS := Lib.hid hs0
  have HO := Lib.hid ho
  have HB := Lib.hid hb
  have HRD := Lib.hid hrd
  have HW := Lib.hid hlw
  clear hs0 ho hb hrd hlw
  refine wpIn_wide.1 (RangeMap.range (F := Fence.wide) (n := 3) rfl (by omega) (gf := 58) (lb := #[.pointer (some ⟨W3.heap.size, 0, none⟩), .pointer (some ⟨W3.heap.size + 1, 0, none⟩)]) rfl trivial ef2 (encs := encE (l := l)) (lo := 0) (hi := 0) (Nat.zero_le _)
    (there_seq l (.slice o l.length cp) 3 _ _ _ _ 2 W0 HRD.out ⟨by omega, by omega, fun _ _ _ _ => by omega⟩ (Nat.zero_le _)) (fun _ => rfl)
    (fun pre W => BoxA W w.heap.size nothing ∧ BoxO W W2.heap.size s ∧ Below w.heap.size w W ∧ ∀ y ∈ pre, madeB s y.1 = false)
    (fun cd pre W => cd = .exit 0 ∧ BoxA W w.heap.size nothing ∧ BoxO W W2.heap.size s ∧ Below w.heap.size w W ∧ ∃ pre0 x, pre = pre0 ++ [x] ∧ (∀ y ∈ pre0, madeB s y.1 = false) ∧ madeB s x.1 = true)
    ?_ ?_ ⟨HO.out, HB.out, HW.out, fun y hy => by cases hy⟩
    (fun pre x a1 W => BoxA W w.heap.size nothing ∧ BoxO W W2.heap.size s ∧ Below w.heap.size w W ∧ (∀ y ∈ pre, madeB s y.1 = false) ∧ ∃ ob, W0.heap.size ≤ ob ∧ BoxO W ob x.1 ∧
      a1 = { tmps := #[.slice o l.length cp, .int .u64 ver, .string n, undef, undef, undef, .pointer (some ⟨w.heap.size, 0, none⟩), .pointer (some ⟨W2.heap.size, 0, none⟩), .bool true, .pointer (some ⟨ob, 0, none⟩), undef, undef, undef, .tuple #[encO s, .bool true], .slice o l.length cp, .string n, .tuple #[encO s, .bool true], encO s, .bool true, .bool true, .bool false, .bool false, encO s, .string h, .bool false, .bool false, undef, .bool true, .pointer (some ⟨W2.heap.size, 4, none⟩), .bool true, .slice o l.length cp, .func (.func 58) #[] #[.pointer (some ⟨W3.heap.size, 0, none⟩), .pointer (some ⟨W3.heap.size + 1, 0, none⟩)], encO x.1, undef, undef, undef, undef, undef, undef, undef, undef, undef, undef, undef, undef, undef, undef, undef, undef, undef, undef, undef, undef, undef, undef, undef, undef, undef, undef, undef, undef, undef, undef, undef, undef, undef, undef, undef, undef, undef, undef, undef, undef, undef, undef, undef, undef, undef, undef, undef, undef, undef, undef, undef, undef, undef, undef, undef, undef, undef, undef, undef, undef], defers := [] })
    ?_ ?_ ?_ ?_ ?_)
  · intro pre A B row ⟨a, b, c, d⟩ hg hr
    exact ⟨cells_own hg hr a, cells_own hg hr b, ownFrom_below (β := Unit) (n₀ := w.heap.size) (B := W0.heap.size) (Nat.le_refl _) (by have := HAS.out; have := HS.out; omega) () A B row c hg hr, d⟩
  · intro cd pre A B row ⟨a, b, c, d, e⟩ hg hr
    exact ⟨a, cells_own hg hr b, cells_own hg hr c, ownFrom_below (β := Unit) (n₀ := w.heap.size) (B := W0.heap.size) (Nat.le_refl _) (by have := HAS.out; have := HS.out; omega) () A B row d hg hr, e⟩
  · intro x a1 pre A B row ⟨a, b, c, d, ob, e, f, g⟩ hg hr
    exact ⟨cells_own hg hr a, cells_own hg hr b, ownFrom_below (β := Unit) (n₀ := w.heap.size) (B := W0.heap.size) (Nat.le_refl _) (by have := HAS.out; have := HS.out; omega) () A B row c hg hr, d, ob, e, cells_own hg hr f, g⟩
  · intro lp pre x W ⟨a, b, c, d⟩ _ hsz
    obtain ⟨V, hst, hbx, hlw, -⟩ := boxing W x.1
    have HA := Lib.hid a
    have HBB := Lib.hid b
    have HCC := Lib.hid c
    have HD := Lib.hid d
    have HX := Lib.hid hbx
    have HWW := Lib.hid hlw
    clear a b c d hbx hlw
    simp only [encE]
    gi_wp2_with (refine KnownIn.skip rfl (by intro c e; cases e) rfl (hst rfl rfl rfl) ?_)
    exact ⟨Stays.of_below HWW.out, HA.out.after HWW.out, HBB.out.after HWW.out, HCC.out.trans (HWW.out.mono HCC.out.size), HD.out, W.heap.size, hsz, HX.out, rfl⟩
  · rintro lp pre x a1 W ⟨a, b, c, d, ob, hob, hbx, rfl⟩ _ hsz
    have k17 := hbx.c17
    have k16 := hbx.c16
    have k1 := b.c1
    have HA := Lib.hid a
    have HBB := Lib.hid b
    have HCC := Lib.hid c
    have HD := Lib.hid d
    clear a b c d hbx
    cases e2 : (x.1.phase == 2) with
    | false =>
      have HP : Hid (∀ y ∈ pre ++ [x], madeB s y.1 = false) := fun y hy => by
        rcases List.mem_append.1 hy with h | h
        · exact HD.out y h
        · simp at h
          subst h
          unfold madeB
          rw [e2]
          rfl
      gi_wp2
      exact ⟨Stays.refl _ _ _, HA.out, HBB.out, HCC.out, HP.out⟩
    | true =>
      cases e3 : (x.1.source.toList == s.name.toList) with
      | false =>
        have HP : Hid (∀ y ∈ pre ++ [x], madeB s y.1 = false) := fun y hy => by
          rcases List.mem_append.1 hy with h | h
          · exact HD.out y h
          · simp at h
            subst h
            unfold madeB
            rw [e2, ← eqB, e3]
            rfl
        gi_wp2
        exact ⟨Stays.refl _ _ _, HA.out, HBB.out, HCC.out, HP.out⟩
      | true =>
        have HP : Hid (madeB s x.1 = true) := by
          show _ = _
          unfold madeB
          rw [e2, ← eqB, e3]
          rfl
        gi_wp2
        exact ⟨Stays.refl _ _ _, rfl, HA.out, HBB.out, HCC.out, pre, x, rfl, HD.out, HP.out⟩
  · rintro D xs W hD hS ⟨a, b, c, d⟩ hK
    have hnone : ((thereL 3 l).find? fun c => (c.phase == 2) && decide (c.source = s.name)) = none := by
      rw [← hS, List.find?_eq_none]
      intro y hy
      obtain ⟨y', hy', rfl⟩ := List.mem_map.1 hy
      have h1 := d y' hy'
      unfold madeB at h1
      simp [h1]
    have hxx := HXX.out
    rw [hnone] at hxx
    rw [if_neg (by decide)] at hxx
    have HDD : Hid (W3.heap.size < D) := by show _ < _; have := HS.out; omega
    have c17 := b.c17
    have f17 := b.free 17
    have HO := Lib.hid a
    have HB := Lib.hid b
    have HW := Lib.hid c
    have HK := Lib.hid hK
    clear hS a b c d hK hnone HXX HRD
    by_cases h6 : s.phase = 6
    · have e6 : (s.phase == 6) = true := by simpa using h6
      rw [if_pos h6] at hxx
      obtain ⟨k, hk⟩ : ∃ k : Cl, (⟨7, h, s.num, 0, E0, E0, E0⟩ : Cl) = k := ⟨_, rfl⟩
      rw [hk] at hxx
      have HVV : Hid (x = askA k) := hxx.symm
      have HKK := Lib.hid hk
      clear hxx hk h6
      go_wp2_with fail
      go_step3
      rw [← HQ.out]
      refine Exit.once_jump (by exact rfl) ?_
      clear HQ
      go_upto_region 18 with (fail)
      have HT0 := HT
      have HA := HB
      have HL := HW
      have HT := Lib.hid (HT0.out.after HW.out)
      have HO := Lib.hid (⟨_, HO.out⟩ : AnyA W w.heap.size)
      clear c17 f17 HB HW
      refine wp_normal ?_
      refine wp_region_held_drew (S := fun V => BoxO V W2.heap.size s ∧ AnyA V w.heap.size ∧ Below w.heap.size w V ∧ Tab V ∧ Mark V D) (by kernel_rfl) ⟨HA.out, HO.out, HL.out.drew, HT.out.drew, HK.out⟩ (fun _ => ?_)
      refine HeldBy.gen (fun V => BoxO V W2.heap.size s ∧ AnyA V w.heap.size ∧ Below w.heap.size w V ∧ Tab V ∧ Mark V D) ⟨HA.out, HO.out, HL.out.drew, HT.out.drew, HK.out⟩ ?_
      clear HA HO HL HT HK
      rintro U0 HS
      refine HeldBy.take (i := 0) (v := encO s) rfl (by kernel_rfl) (by kernel_rfl) (by kernel_rfl) (fun _ _ _ h => nomatch h.1) (by rfl) (fun V hV => load_obj hV.1 rfl rfl) (by first | (go_simp; rfl) | (go_simp; done)) HS ?_
      refine HeldBy.take (i := 2) rfl (by kernel_rfl) (by kernel_rfl) (by kernel_rfl) (fun _ _ _ h => nomatch h.1) (by rfl) (fun _ _ => by first | (go_simp; rfl) | (go_simp; done)) (by first | (go_simp; rfl) | (go_simp; done)) HS ?_
      refine HeldBy.take (i := 3) rfl (by kernel_rfl) (by kernel_rfl) (by kernel_rfl) (fun _ _ _ h => nomatch h.1) (by rfl) (fun V hV => by have hc := hV.1.c18; first | (go_simp; rfl) | (go_simp; done)) (by first | (go_simp; rfl) | (go_simp; done)) HS ?_
      refine HeldBy.call (i := 1) (v := .string h) rfl (by kernel_rfl) (by rfl) (by first | (go_simp; done) | (go_simp; first | exact ⟨rfl, rfl⟩ | rfl)) (by first | (go_simp; rfl) | (go_simp; done)) ?_
      refine (HHH.out _ HS.2.2.2.1).mono ?_
      rintro e U1 ⟨rfl, hb⟩
      replace HS : BoxO U1 W2.heap.size s ∧ AnyA U1 w.heap.size ∧ Below w.heap.size w U1 ∧ Tab U1 ∧ Mark U1 D := ⟨HS.1.after hb, HS.2.1.after hb, HS.2.2.1.trans (hb.mono HS.2.2.1.size), HS.2.2.2.1.after hb, HS.2.2.2.2.after hb⟩
      refine ⟨rfl, HS, ?_⟩
      clear hb
      refine HeldBy.take (i := 4) (v := encC k) rfl (by kernel_rfl) (by kernel_rfl) (by kernel_rfl) (fun _ _ _ h => nomatch h.1) (by rfl) (fun _ _ => by have hk := HKK.out; subst hk; exact exec_build 42 _ rfl _ (by exact built_drop h s.num)) (by first | (go_simp; rfl) | (go_simp; done)) HS ?_
      refine HeldBy.call (i := 5) (v := encA (askA k)) rfl (by kernel_rfl) (by rfl) (by first | (go_simp; done) | (go_simp; first | exact ⟨rfl, rfl⟩ | rfl)) (by first | (go_simp; rfl) | (go_simp; done)) ?_
      refine (ask_any k _).mono ?_
      rintro e U2 ⟨rfl, hb⟩
      replace HS : BoxO U2 W2.heap.size s ∧ AnyA U2 w.heap.size ∧ Below w.heap.size w U2 ∧ Tab U2 ∧ Mark U2 D := ⟨HS.1.after hb, HS.2.1.after hb, HS.2.2.1.trans (hb.mono HS.2.2.1.size), HS.2.2.2.1.after hb, HS.2.2.2.2.after hb⟩
      refine ⟨rfl, HS, ?_⟩
      clear hb
      obtain ⟨p0, hp0⟩ := HS.2.1
      obtain ⟨V6, hst6, ho6, hoth6, hb6⟩ := acting hp0 (askA k)
      have hz := HDD.out
      have hz2 := HAS.out
      have HS6 : BoxO V6 W2.heap.size s ∧ AnyA V6 w.heap.size ∧ Below w.heap.size w V6 ∧ Tab V6 ∧ Mark V6 D := ⟨(hoth6 _ (by omega)).trans HS.1, ⟨_, ho6⟩, hb6 _ _ HS.2.2.1 (by omega), HT0.out.after (hb6 _ _ HS.2.2.1 (by omega)), (hoth6 _ (by omega)).trans HS.2.2.2.2⟩
      refine HeldBy.store (i := 6) (w' := V6) rfl (by kernel_rfl) (by rfl) (hst6 rfl rfl rfl) (by first | (go_simp; rfl) | (go_simp; done)) HS6 ?_
      refine wpAnyH_done (by kernel_rfl) ⟨rfl, ?_⟩ _
      have HO6 := Lib.hid ho6
      have HX := Lib.hid HS6.2.2.1
      have HK6 := Lib.hid HS6.2.2.2.2
      clear hst6 ho6 hoth6 hb6 HS HS6 hp0 HT0
      go_wp2
      rw [Exit.noGoto_ret]
      refine leave_mark rfl HK6.out ⟨encA (askA k), results_cell_row rfl _ _ w.heap.size 44 (cellsA (askA k)) (0, 0) _ rfl ((World.putObj_heap_other (by omega)).trans HO6.out) undAct rfl sizeAct, by rw [HVV.out], ?_⟩
      exact HX.out.trans (belowK_b (w := w) (by omega) _ D _ _ (by omega) HK6.out rfl rfl)
    · have e6 : (s.phase == 6) = false := by simpa using h6
      rw [if_neg h6] at hxx
      have HVV : Hid (x = writeA { s with phase := 6, num := up ver }) := hxx.symm
      clear hxx h6
      go_wp2_with fail
      go_step3
      rw [← HQ.out]
      refine Exit.once_jump (by exact rfl) ?_
      clear HQ
      have hz := HDD.out
      have hz2 := HAS.out
      refine wp_gen (fun V => BoxO V W2.heap.size { s with phase := 6 } ∧ BoxA V w.heap.size nothing ∧ Below w.heap.size w V ∧ Mark V D) ⟨HB.out.s17 6, (heap_setCell_other _ ⟨W2.heap.size, 17, none⟩ w.heap.size _ (by show w.heap.size ≠ W2.heap.size; omega)).trans HO.out, HW.out.setCell (by show w.heap.size ≤ W2.heap.size; omega) _, (heap_setCell_other _ ⟨W2.heap.size, 17, none⟩ D _ (by show D ≠ W2.heap.size; omega)).trans HK.out⟩ ?_
      clear HB HO HW HK c17 f17
      rintro V3 ⟨hb3, ho3, hl3, hk3⟩
      have c18 := hb3.c18
      have f18 := hb3.free 18
      have HB := Lib.hid hb3
      have HO := Lib.hid ho3
      have HW := Lib.hid hl3
      have HK := Lib.hid hk3
      have HZ := Lib.hid hz
      have HZ2 := Lib.hid hz2
      clear hb3 ho3 hl3 hk3 hz hz2
      go_upto_region 20 with (fail)
      have hz := HZ.out
      have hz2 := HZ2.out
      refine wp_gen (fun V => BoxO V W2.heap.size { s with phase := 6, num := up ver } ∧ BoxA V w.heap.size nothing ∧ Below w.heap.size w V ∧ Mark V D) ⟨HB.out.s18 (up ver), (heap_setCell_other _ ⟨W2.heap.size, 18, none⟩ w.heap.size _ (by show w.heap.size ≠ W2.heap.size; omega)).trans HO.out, HW.out.setCell (by show w.heap.size ≤ W2.heap.size; omega) _, (heap_setCell_other _ ⟨W2.heap.size, 18, none⟩ D _ (by show D ≠ W2.heap.size; omega)).trans HK.out⟩ ?_
      clear HB HO HW HK c18 f18 hz hz2
      rintro V4 ⟨hbx, ho, hlw, hk4⟩
      have HCA := Lib.hid (write_any { s with phase := 6, num := up ver } V4)
      have HO := Lib.hid ho
      have HW := Lib.hid hlw
      have HK := Lib.hid hk4
      clear ho hlw hk4
      go_wp2_with ((with_reducible refine wpList_load_obj ?_ rfl ?_ hbx ?_); rfl; rfl)
      refine HCA.out.mono ?_
      rintro e W6 ⟨rfl, hb6⟩
      obtain ⟨V8, hst8, ho8, hoth8, hb8⟩ := acting (HO.out.after hb6) (writeA { s with phase := 6, num := up ver })
      have hz := HZ.out
      have hz2 := HZ2.out
      have HO8 := Lib.hid ho8
      have HX8 := Lib.hid (hb8 _ _ (HW.out.trans (hb6.mono HW.out.size)) (by omega))
      have HK8 : Hid (Mark V8 D) := (hoth8 D (by omega)).trans ((hb6.block D (Array.getElem?_eq_some_iff.1 HK.out).1).trans HK.out)
      clear ho8 hoth8 hb8 hb6 HCA HO HW HK hbx hz hz2
      go_wp2_with (refine wpList_skip rfl (hst8 rfl rfl rfl) ?_)
      rw [Exit.noGoto_ret]
      have hz := HZ.out
      have hz2 := HZ2.out
      refine leave_mark rfl HK8.out ⟨encA (writeA { s with phase := 6, num := up ver }), results_cell_row rfl _ _ w.heap.size 44 (cellsA (writeA { s with phase := 6, num := up ver })) (0, 0) _ rfl ((World.putObj_heap_other (by omega)).trans HO8.out) undAct rfl sizeAct, by rw [HVV.out], ?_⟩
      exact HX8.out.trans (belowK_b (w := w) (by omega) _ D _ _ (by omega) HK8.out rfl rfl)
  · rintro D cd pre W hD hSp ⟨rfl, a, b, c, pre0, y, rfl, h1, h2⟩ hK
    have hsome : ((thereL 3 l).find? fun c => (c.phase == 2) && decide (c.source = s.name)) = some y.1 := by
      obtain ⟨t, ht⟩ := hSp
      rw [← ht, List.map_append, List.append_assoc, List.find?_append]
      have h3 : ((pre0.map Subtype.val).find? fun c => (c.phase == 2) && decide (c.source = s.name)) = none := by
        rw [List.find?_eq_none]
        intro z hz
        obtain ⟨z', hz', rfl⟩ := List.mem_map.1 hz
        have h4 := h1 z' hz'
        unfold madeB at h4
        simp [h4]
      unfold madeB at h2
      rw [h3]
      simp [h2]
    have hxx := HXX.out
    rw [hsome, if_pos (show (some y.1).isSome = true from rfl)] at hxx
    have HVV : Hid (x = nothing) := hxx.symm
    have HDD : Hid (W3.heap.size < D) := by show _ < _; have := HS.out; omega
    obtain ⟨V8, hst8, ho8, hoth8, hb8⟩ := acting a nothing
    have HO8 := Lib.hid ho8
    have HX8 := Lib.hid (hb8 _ _ c (Nat.le_refl _))
    have HK8 : Hid (Mark V8 D) := (hoth8 D (by have := HAS.out; have := HDD.out; omega)).trans hK
    clear hsome hxx hSp a b c h1 h2 hK ho8 hoth8 hb8 HXX HRD
    refine wpIn_wide.2 ?_
    go_wp2_with (refine wpList_skip rfl (hst8 rfl rfl rfl) ?_)
    rw [← HQ.out, Exit.once_ret]
    have hz := HDD.out
    have hz2 := HAS.out
    refine leave_mark rfl HK8.out ⟨encA nothing, results_cell_row rfl _ _ w.heap.size 44 (cellsA nothing) (0, 0) _ rfl ((World.putObj_heap_other (by omega)).trans HO8.out) undAct rfl sizeAct, by rw [HVV.out], ?_⟩
    exact HX8.out.trans (belowK_b (w := w) (by omega) _ D _ _ (by omega) HK8.out rfl rfl)
end Go.Proofs.YtdlbpfallmpkoaaDoor.O.B
