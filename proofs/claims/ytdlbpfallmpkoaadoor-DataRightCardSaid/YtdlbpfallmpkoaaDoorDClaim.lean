/- What is done next for a claim that grows. -/
import Derived.Test.YtdlbpfallmpkoaaDoorDBound
import Derived.Test.YtdlbpfallmpkoaaDoorScopeOnce
namespace Go.Proofs.YtdlbpfallmpkoaaDoor.O.B
open Go Go.RowKit Go.Shelf Go.Lib RangeMap KM
attribute [local go_sem] Oper.semAt_some

/-- Two boxes of their own for two objects. -/
theorem boxing2 (W : World) (x y : Obj) : ∃ V1 V2, (∀ {oi : Oper} {a : Act} {p q : Operand}, oi.op = .store 28 p q → a.eval p = .pointer (some ⟨W.heap.size, 0, none⟩) → a.eval q = encO x → (execOp a.eval oi).run Tryd.prog ((W.alloc (.cells (cellsO O0) 28 (0, 0))).alloc (.cells (cellsO O0) 28 (0, 0))) = .ok .skip V1) ∧
    (∀ {oi : Oper} {a : Act} {p q : Operand}, oi.op = .store 28 p q → a.eval p = .pointer (some ⟨W.heap.size + 1, 0, none⟩) → a.eval q = encO y → (execOp a.eval oi).run Tryd.prog V1 = .ok .skip V2) ∧
    BoxO V2 W.heap.size x ∧ BoxO V2 (W.heap.size + 1) y ∧ Below W.heap.size W V2 ∧ V2.heap.size = W.heap.size + 2 := by
  obtain ⟨h1, h2, h3⟩ := chain2 W (.cells (cellsO O0) 28 (0, 0)) (.cells (cellsO O0) 28 (0, 0))
  obtain ⟨V1, s1, b1, o1, l1⟩ := storing (show BoxO _ W.heap.size O0 from h1) x
  obtain ⟨V2, s2, b2, o2, l2⟩ := storing (show BoxO V1 (W.heap.size + 1) O0 from (o1 _ (by omega)).trans h2) y
  have hb1 := l1 _ _ h3 (Nat.le_refl _)
  have hb2 := l2 _ _ hb1 (by omega)
  refine ⟨V1, V2, s1, s2, (o2 _ (by omega)).trans b1, b2, hb2, ?_⟩
  have hn : ∀ k, V2.heap[k]? = none ↔ ((W.alloc (.cells (cellsO O0) 28 (0, 0))).alloc (.cells (cellsO O0) 28 (0, 0))).heap[k]? = none := fun k => by
    by_cases e1 : k = W.heap.size + 1
    · subst e1
      rw [b2, h2]
      simp
    · rw [o2 k e1]
      by_cases e0 : k = W.heap.size
      · subst e0
        rw [b1, h1]
        simp
      · rw [o1 k e0]
  have hs : ((W.alloc (.cells (cellsO O0) 28 (0, 0))).alloc (.cells (cellsO O0) 28 (0, 0))).heap.size = W.heap.size + 2 := by rw [World.size_alloc, World.size_alloc]
  have k1 := (hn V2.heap.size).1 (by simp)
  have k2 := (hn (W.heap.size + 2)).2 (by rw [Array.getElem?_eq_none_iff]; omega)
  rw [Array.getElem?_eq_none_iff] at k1 k2
  omega
theorem built_expand (h : ByteArray) (n s : Int) : Tryd.prog.built 42 [(0, .int .u8 5), (1, .string h), (2, .int .u64 n), (3, .int .i64 s)] = some (cellsC ⟨5, h, n, s, E0, E0, E0⟩) := by kernel_rfl

set_option maxRecDepth 100000 in
set_option maxHeartbeats 4000000 in
theorem claimD_any (l : List Obj) (v : Value) (ver : Int) (n : ByteArray) (w : World) (hl : ObjsIn w v l) :
    Calls Tryd.prog 20 #[v, .int .u64 ver, .string n] w fun e w' => e = .returned (encA (claimD l ver n)) ∧ Below w.heap.size w w' := by
  obtain ⟨o, cp, rfl, -, -⟩ := id hl
  have HL := Lib.hid hl
  clear hl
  have HC : Hid (∀ V : World, ObjsIn V (.slice o l.length cp) l → Calls Tryd.prog 40 #[.slice o l.length cp, .string n] V fun e w' => e = .returned (.tuple #[encO (clD l n), encO (voD l n), .bool (okD l n)]) ∧ Below V.heap.size V w') := fun V hV => bound_any l _ n V hV
  obtain ⟨x, hx⟩ : ∃ x, claimD l ver n = x := ⟨_, rfl⟩
  rw [hx]
  unfold claimD at hx
  generalize clD l n = c at *
  generalize voD l n = p at *
  generalize okD l n = k at *
  have HXX := Lib.hid hx
  clear hx
  go_enter Tryd.func20, Tryd.ntmps20
  go_wp2_with (fail)
  refine wp_scope_once ?_
  go_hide hQ
  have HQ := Lib.hid hQ
  clear hQ
  refine wp_gen (fun V => BoxA V w.heap.size nothing ∧ Below w.heap.size w V) ⟨heap_alloc_new _ _, (Below.refl _ _).alloc (Nat.le_refl _) _⟩ ?_
  rintro V ⟨ho, hl⟩
  have HO := Lib.hid ho
  have HW := Lib.hid hl
  have HG := Lib.hid (HC.out V (HL.out.after hl))
  clear ho hl HC HL
  go_wp2_with (fail)
  refine HG.out.mono ?_
  rintro e W2 ⟨rfl, hb2⟩
  obtain ⟨V1, V2, s1, s2, hc, hp, hb, hsz⟩ := boxing2 W2 c p
  have hw2 := HW.out.trans (hb2.mono HW.out.size)
  have HO2 := Lib.hid ((HO.out.after hb2).after hb)
  have HW2 := Lib.hid (hw2.trans (hb.mono hw2.size))
  have HC := Lib.hid hc
  have HP := Lib.hid hp
  have HS := Lib.hid (show w.heap.size ≤ W2.heap.size from hw2.size)
  have HNE : Hid (w.heap.size ≠ W2.heap.size) := Nat.ne_of_lt (Nat.lt_of_lt_of_le HO.out.lt hb2.size)
  have c8 := hp.c8
  have d7 := hc.c7
  have d8 := hc.c8
  have c7 := hp.c7
  have c18 := hp.c18
  have c1 := hp.c1
  have f7 := hp.free 7
  have f18 := hp.free 18
  have g8 := hc.free 8
  clear HG HO HW hb2 hb hw2 hc hp hsz
  cases k with
  | false =>
    have HVV : Hid (x = nothing) := HXX.out.symm
    clear HXX
    obtain ⟨V8, hst8, ho, -, hb⟩ := acting (HO2.out) (nothing)
    have HO8 := Lib.hid ho
    have HX8 := Lib.hid (hb _ _ (HW2.out) (by omega))
    clear ho hb
    go_wp2_with (first | (refine wpList_skip rfl (s1 rfl rfl rfl) ?_) | (refine wpList_skip rfl (s2 rfl rfl rfl) ?_) | (refine wpList_skip rfl (hst8 rfl rfl rfl) ?_))
    rw [← HQ.out, Exit.once_ret]
    refine bodyPost_ret (v := encA (nothing)) (results_cell_row rfl _ _ w.heap.size 44 (cellsA (nothing)) (0, 0) _ rfl HO8.out undAct rfl sizeAct) rfl ?_
    exact ⟨by rw [HVV.out], HX8.out⟩
  | true =>
    have hxx := HXX.out
    rw [if_pos rfl] at hxx
    unfold growN at hxx
    clear HXX
    by_cases hg : p.got < c.size
    · rw [if_pos hg] at hxx
      have HXX := Lib.hid hxx
      clear hxx
      by_cases hs : c.size ≤ p.size ∧ p.num ≠ 0
      · obtain ⟨hs1, hs2⟩ := hs
        have hn : (p.num != 0) = true := by simpa using hs2
        have hn2 : (p.num == 0) = false := by simpa using hs2
        have HVV : Hid (x = askA ⟨5, p.name, p.num, p.size, E0, E0, E0⟩) := by show _ = _; rw [← HXX.out, if_pos ⟨hs1, hs2⟩]
        clear HXX hs2
        go_wp2_with (first | (refine wpList_skip rfl (s1 rfl rfl rfl) ?_) | (refine wpList_skip rfl (s2 rfl rfl rfl) ?_))
        go_step3
        rw [← HQ.out]
        refine Exit.once_jump (by exact rfl) ?_
        clear HQ s1 s2
        obtain ⟨q, hq⟩ : ∃ q : Cl, (⟨5, p.name, p.num, p.size, E0, E0, E0⟩ : Cl) = q := ⟨_, rfl⟩
        rw [hq] at HVV
        have hbu := built_expand p.name p.num p.size
        rw [hq] at hbu
        have HCA := Lib.hid (ask_any q V2)
        unfold encC at HCA
        have HBU := Lib.hid hbu
        clear hq hbu
        go_wp2_with ((with_reducible refine wpList_build_to rfl 42 _ rfl (cellsC q) ?_ ?_); exact HBU.out)
        refine HCA.out.mono ?_
        rintro e W6 ⟨rfl, hb6⟩
        obtain ⟨V8, hst8, ho, -, hb⟩ := acting (HO2.out.after hb6) (askA q)
        have HO8 := Lib.hid ho
        have HX8 := Lib.hid (hb _ _ (HW2.out.trans (hb6.mono HW2.out.size)) (by omega))
        clear ho hb
        go_wp2_with (refine wpList_skip rfl (hst8 rfl rfl rfl) ?_)
        rw [Exit.noGoto_ret]
        refine bodyPost_ret (v := encA (askA q)) (results_cell_row rfl _ _ w.heap.size 44 (cellsA (askA q)) (0, 0) _ rfl HO8.out undAct rfl sizeAct) rfl ?_
        exact ⟨by rw [HVV.out], HX8.out⟩
      · rw [if_neg hs] at HXX
        by_cases hs1 : p.size < c.size
        · have hs3 : ¬ c.size ≤ p.size := by omega
          have HVV : Hid (x = writeA { p with size := max p.size c.size, num := up ver }) := HXX.out.symm
          clear HXX hs
          go_wp2_with (first | (refine wpList_skip rfl (s1 rfl rfl rfl) ?_) | (refine wpList_skip rfl (s2 rfl rfl rfl) ?_))
          go_step3
          rw [← HQ.out]
          refine Exit.once_jump (by exact rfl) ?_
          clear HQ s1 s2
          go_upto_region 12 with (fail)
          refine wp_gen (fun V => BoxO V (W2.heap.size + 1) { p with size := max p.size c.size, num := up ver } ∧ BoxA V w.heap.size nothing ∧ Below w.heap.size w V) ⟨(HP.out.s7 (max p.size c.size)).s18 (up ver), (heap_setCell_other _ ⟨W2.heap.size + 1, 18, none⟩ w.heap.size _ (by have := HS.out; show w.heap.size ≠ W2.heap.size + 1; omega)).trans ((heap_setCell_other _ ⟨W2.heap.size + 1, 7, none⟩ w.heap.size _ (by have := HS.out; show w.heap.size ≠ W2.heap.size + 1; omega)).trans HO2.out), (HW2.out.setCell (by have := HS.out; show w.heap.size ≤ W2.heap.size + 1; omega) _).setCell (by have := HS.out; show w.heap.size ≤ W2.heap.size + 1; omega) _⟩ ?_
          clear HO2 HW2 HC HP c8 d7 d8 c7 c18 c1 f7 f18 g8
          rintro V4 ⟨hbx, ho, hl⟩
          have HCA := Lib.hid (write_any { p with size := max p.size c.size, num := up ver } V4)
          have HO := Lib.hid ho
          have HW := Lib.hid hl
          clear ho hl
          go_wp2_with ((with_reducible refine wpList_load_obj ?_ rfl ?_ hbx ?_); rfl; rfl)
          refine HCA.out.mono ?_
          rintro e W6 ⟨rfl, hb6⟩
          obtain ⟨V8, hst8, ho, -, hb⟩ := acting (HO.out.after hb6) (writeA { p with size := max p.size c.size, num := up ver })
          have HO8 := Lib.hid ho
          have HX8 := Lib.hid (hb _ _ (HW.out.trans (hb6.mono HW.out.size)) (by omega))
          clear ho hb
          go_wp2_with (refine wpList_skip rfl (hst8 rfl rfl rfl) ?_)
          rw [Exit.noGoto_ret]
          refine bodyPost_ret (v := encA (writeA { p with size := max p.size c.size, num := up ver })) (results_cell_row rfl _ _ w.heap.size 44 (cellsA (writeA { p with size := max p.size c.size, num := up ver })) (0, 0) _ rfl HO8.out undAct rfl sizeAct) rfl ?_
          exact ⟨by rw [HVV.out], HX8.out⟩
        · have hs3 : c.size ≤ p.size := by omega
          have hn0 : p.num = 0 := Classical.byContradiction fun e => hs ⟨hs3, e⟩
          have hn : (p.num != 0) = false := by simpa using hn0
          have hn2 : (p.num == 0) = true := by simpa using hn0
          have HVV : Hid (x = writeA { p with size := max p.size c.size, num := up ver }) := HXX.out.symm
          clear HXX hs hn0
          go_wp2_with (first | (refine wpList_skip rfl (s1 rfl rfl rfl) ?_) | (refine wpList_skip rfl (s2 rfl rfl rfl) ?_))
          go_step3
          rw [← HQ.out]
          refine Exit.once_jump (by exact rfl) ?_
          clear HQ s1 s2
          go_upto_region 12 with (fail)
          refine wp_gen (fun V => BoxO V (W2.heap.size + 1) { p with size := max p.size c.size, num := up ver } ∧ BoxA V w.heap.size nothing ∧ Below w.heap.size w V) ⟨(HP.out.s7 (max p.size c.size)).s18 (up ver), (heap_setCell_other _ ⟨W2.heap.size + 1, 18, none⟩ w.heap.size _ (by have := HS.out; show w.heap.size ≠ W2.heap.size + 1; omega)).trans ((heap_setCell_other _ ⟨W2.heap.size + 1, 7, none⟩ w.heap.size _ (by have := HS.out; show w.heap.size ≠ W2.heap.size + 1; omega)).trans HO2.out), (HW2.out.setCell (by have := HS.out; show w.heap.size ≤ W2.heap.size + 1; omega) _).setCell (by have := HS.out; show w.heap.size ≤ W2.heap.size + 1; omega) _⟩ ?_
          clear HO2 HW2 HC HP c8 d7 d8 c7 c18 c1 f7 f18 g8
          rintro V4 ⟨hbx, ho, hl⟩
          have HCA := Lib.hid (write_any { p with size := max p.size c.size, num := up ver } V4)
          have HO := Lib.hid ho
          have HW := Lib.hid hl
          clear ho hl
          go_wp2_with ((with_reducible refine wpList_load_obj ?_ rfl ?_ hbx ?_); rfl; rfl)
          refine HCA.out.mono ?_
          rintro e W6 ⟨rfl, hb6⟩
          obtain ⟨V8, hst8, ho, -, hb⟩ := acting (HO.out.after hb6) (writeA { p with size := max p.size c.size, num := up ver })
          have HO8 := Lib.hid ho
          have HX8 := Lib.hid (hb _ _ (HW.out.trans (hb6.mono HW.out.size)) (by omega))
          clear ho hb
          go_wp2_with (refine wpList_skip rfl (hst8 rfl rfl rfl) ?_)
          rw [Exit.noGoto_ret]
          refine bodyPost_ret (v := encA (writeA { p with size := max p.size c.size, num := up ver })) (results_cell_row rfl _ _ w.heap.size 44 (cellsA (writeA { p with size := max p.size c.size, num := up ver })) (0, 0) _ rfl HO8.out undAct rfl sizeAct) rfl ?_
          exact ⟨by rw [HVV.out], HX8.out⟩
    · rw [if_neg hg] at hxx
      have HXX := Lib.hid hxx
      clear hxx
      by_cases he : c.got = p.got
      · have HVV : Hid (x = nothing) := by show _ = _; rw [← HXX.out, if_pos he]
        have he2 : (c.got == p.got) = true := by simpa using he
        clear HXX he
        obtain ⟨V8, hst8, ho, -, hb⟩ := acting (HO2.out) (nothing)
        have HO8 := Lib.hid ho
        have HX8 := Lib.hid (hb _ _ (HW2.out) (by omega))
        clear ho hb
        go_wp2_with (first | (refine wpList_skip rfl (s1 rfl rfl rfl) ?_) | (refine wpList_skip rfl (s2 rfl rfl rfl) ?_) | (refine wpList_skip rfl (hst8 rfl rfl rfl) ?_))
        rw [← HQ.out, Exit.once_ret]
        refine bodyPost_ret (v := encA (nothing)) (results_cell_row rfl _ _ w.heap.size 44 (cellsA (nothing)) (0, 0) _ rfl HO8.out undAct rfl sizeAct) rfl ?_
        exact ⟨by rw [HVV.out], HX8.out⟩
      · have HVV : Hid (x = writeA { c with got := p.got }) := by show _ = _; rw [← HXX.out, if_neg he]
        have he2 : (c.got == p.got) = false := by simpa using he
        clear HXX he
        go_upto_region 8 with (first | (refine wpList_skip rfl (s1 rfl rfl rfl) ?_) | (refine wpList_skip rfl (s2 rfl rfl rfl) ?_))
        refine wp_gen (fun V => BoxO V W2.heap.size { c with got := p.got } ∧ BoxA V w.heap.size nothing ∧ Below w.heap.size w V) ⟨HC.out.s8 p.got, (heap_setCell_other _ ⟨W2.heap.size, 8, none⟩ w.heap.size _ (by have := HNE.out; exact this)).trans HO2.out, HW2.out.setCell HS.out _⟩ ?_
        clear HO2 HW2 HC HP c8 d7 d8 c7 c18 c1 f7 f18 g8 s1 s2
        rintro V4 ⟨hbx, ho, hl⟩
        have HCA := Lib.hid (write_any { c with got := p.got } V4)
        have HO := Lib.hid ho
        have HW := Lib.hid hl
        clear ho hl
        go_wp2_with ((with_reducible refine wpList_load_obj ?_ rfl ?_ hbx ?_); rfl; rfl)
        refine HCA.out.mono ?_
        rintro e W6 ⟨rfl, hb6⟩
        obtain ⟨V8, hst8, ho, -, hb⟩ := acting (HO.out.after hb6) (writeA { c with got := p.got })
        have HO8 := Lib.hid ho
        have HX8 := Lib.hid (hb _ _ (HW.out.trans (hb6.mono HW.out.size)) (by omega))
        clear ho hb
        go_wp2_with (refine wpList_skip rfl (hst8 rfl rfl rfl) ?_)
        rw [← HQ.out, Exit.once_ret]
        refine bodyPost_ret (v := encA (writeA { c with got := p.got })) (results_cell_row rfl _ _ w.heap.size 44 (cellsA (writeA { c with got := p.got })) (0, 0) _ rfl HO8.out undAct rfl sizeAct) rfl ?_
        exact ⟨by rw [HVV.out], HX8.out⟩
end Go.Proofs.YtdlbpfallmpkoaaDoor.O.B
