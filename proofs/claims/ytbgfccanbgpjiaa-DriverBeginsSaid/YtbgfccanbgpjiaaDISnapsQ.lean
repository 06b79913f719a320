/- Own work. -/
import Derived.Test.YtbgfccanbgpjiaaDJIModOp
import Derived.Test.YtbgfccanbgpjiaaDJIRBase
import Derived.Test.YtbgfccanbgpjiaaDIZero
namespace Go.Proofs.Ytbgfccanbgpjiaa.O.I
open Go Go.RowKit Go.Lib Go.Shelf RangeRow KM
attribute [local go_sem] Oper.semAt_some
def cellsDS (x : DS) : Array Value := #[.string x.name, .int .i64 x.size, .int .u64 x.tag]
def catS (l : List DS) : List Value := l.flatMap fun x => (cellsDS x).toList
theorem catS_at : ∀ (l : List DS) (i : Nat) (h : i < l.length) (j : Nat), j < 3 → (catS l)[i * 3 + j]? = (cellsDS l[i]).toList[j]?
  | z :: r, 0, _, j, hj => by
    unfold catS
    rw [List.flatMap_cons, List.getElem?_append_left (by show 0 * 3 + j < 3; omega), Nat.zero_mul, Nat.zero_add]
    rfl
  | z :: r, i + 1, h, j, hj => by
    have ih := catS_at r i (by simpa using h) j hj
    unfold catS at ih ⊢
    rw [List.flatMap_cons, List.getElem?_append_right (by show 3 ≤ _; omega)]
    show (List.flatMap (fun x => (cellsDS x).toList) r)[(i + 1) * 3 + j - 3]? = _
    rw [show (i + 1) * 3 + j - 3 = i * 3 + j by omega]
    exact ih
theorem catS_app (L K : List DS) : catS (L ++ K) = catS L ++ catS K := by
  unfold catS
  rw [List.flatMap_append]
theorem snap_rowy : Rowy 45 63 3 (.agg (cellsDS ⟨E0, 0, 0⟩)) := by
  refine ⟨Try.underlying45, by rfl, by decide, ?_⟩
  have h : (Try.prog.info? 63).map (fun i => (i.zero, i.size, decide (i.bytes ≤ 1000))) = some (some (.agg (cellsDS ⟨E0, 0, 0⟩)), 3, true) := by kernel_rfl
  cases hi : Try.prog.info? 63 with
  | none => rw [hi] at h; cases h
  | some i =>
    rw [hi] at h
    simp only [Option.map_some, Option.some.injEq, Prod.mk.injEq] at h
    exact ⟨i, rfl, h.1, h.2.1, of_decide_eq_true h.2.2⟩
theorem one_cellsDS (x : DS) : ∀ u ∈ (cellsDS x).toList, u.oneCell' = true := fun u hu => by
  have h' : u ∈ [Value.string x.name, .int .i64 x.size, .int .u64 x.tag] := hu
  simp only [List.mem_cons, List.not_mem_nil, or_false] at h'
  rcases h' with rfl | rfl | rfl <;> rfl
def SOwn (W : World) (R : Nat) (s : Sl) (l : List DS) : Prop := W.ownsRow R 63 3 (encSl s) l.length (catS l)
theorem run_bds (W : World) (x : DS) : (Instr.buildSlice 45 1 #[(0, .agg (cellsDS x))]).run Try.prog W = .ok (.slice (some ⟨W.heap.size, 0, none⟩) 1 1) (W.alloc (.cells (cellsDS x) 63 (0, 0))) := by kernel_rfl
def snapTold {m : List (ByteArray × Ct)} (y : Qs.El m) : DS := ⟨y.1.1, y.1.2.size, y.1.2.tag⟩
def LstS (c R : Nat) {m : List (ByteArray × Ct)} (pre : List (Qs.El m)) (W : World) : Prop := ∃ s, Boxed W c 45 (encSl s) ∧ SOwn W R s (pre.map snapTold)
theorem LstS.own {c R : Nat} {m : List (ByteArray × Ct)} {pre : List (Qs.El m)} {B : Nat} {W W' : World} {row : Option Nat} (hg : W.grownBy W' row) (hr : ∀ r, row = some r → B ≤ r ∧ ∃ o : Go.Obj, W.heap[r]? = some o ∧ o.isCells = false) (h : LstS c R pre W) : LstS c R pre W' := by
  obtain ⟨s, h1, h2⟩ := h
  refine ⟨s, cells_own hg hr h1, ⟨h2.1, ?_⟩⟩
  rcases h2.2 with h4 | ⟨g, cap, cur, h4, h5, h6, h7⟩
  · exact .inl h4
  · exact .inr ⟨g, cap, cur, h4, h5, cells_own hg hr h6, h7⟩
theorem LstS.after {c R : Nat} {m : List (ByteArray × Ct)} {pre : List (Qs.El m)} {W W' : World} (h : LstS c R pre W) (hb : Below W.heap.size W W') : LstS c R pre W' := by
  obtain ⟨s, h1, h2⟩ := h
  exact ⟨s, (hb.block c h1.lt).trans h1, own_after h2 hb⟩
theorem snaps_seqA (n : Nat) (hn : n = 6) (m : List (ByteArray × Ct)) (hk : ∀ p ∈ m, p.1.size ≤ maxLen) (hlen : m.length ≤ 1000000) (hon : (m.map (·.1)).Nodup) (b mb lo hi N0 : Nat) (w : World) (hlh : hi ≤ w.heap.size ∧ ¬ (lo ≤ b ∧ b < hi) ∧ ¬ (lo ≤ mb ∧ mb < hi)) (hbox : Boxed w b tS (.map (some mb))) (hm : IsMap encS w mb (Qs.held m)) (hst : Stamp w mb) :
    Seq Fence.wide n Try.prog 66 #[.pointer (some ⟨b, 0, none⟩)] (Qs.encM m) lo hi N0 63 (Qs.Whole m) (Qs.Part m) m.length w := by
  by_cases hne : m = []
  · subst hne
    exact Qs.snaps_seq0 n hn b mb lo hi N0 w hbox hm
  · exact Qs.snaps_seqN n hn m hk hlen hne hon b mb lo hi N0 w hlh hbox hm hst
set_option maxRecDepth 100000 in
set_option maxHeartbeats 2000000 in
theorem snaps_any (d r v s n : Nat) (Ro Vo : List (ByteArray × Value)) (No : List (Tg × Value)) (m : List (ByteArray × Ct)) (hk : ∀ p ∈ m, p.1.size ≤ maxLen) (hlen : m.length ≤ 1000000) (hon : (m.map (·.1)).Nodup) (w : World) (hd : DrAt w d r v s n Ro Vo (Qs.held m) No) :
    Calls Try.prog 23 #[.pointer (some ⟨d, 0, none⟩)] w fun e w' => ∃ s xs, e = .returned (encSl s) ∧ SOwn w' w.heap.size s (xs.map (snapTold (m := m))) ∧ Qs.Whole m xs ∧ Below w.heap.size w w' := by
  have HD := Lib.hid hd
  have HK := Lib.hid hk
  have HLN : Hid (m.length ≤ 1000000) := hlen
  have HON := Lib.hid hon
  have HLT := Lib.hid hd.lt
  have g1 := (hd.after ((Below.refl _ _).alloc (Nat.le_refl _) (.cells #[.slice none 0 0] 45))).box.c2
  have ef2 := enters_of (P := Try.prog) Try.func66 (by kernel_rfl) rfl
  clear hd hk hlen hon
  refine callsIn_wide.1 (callsIn_of_wp_marks (n := 7) Try.func23 rfl trivial (wpIn_wide.2 ?_) rfl)
  simp only [Try.ntmps23, List.size_toArray, List.length_cons, List.length_nil, Nat.reduceAdd, Nat.reduceSub, Array.replicate_succ, Array.replicate_zero, List.push_toArray, List.append_toArray, List.nil_append, List.cons_append]
  go_wp2_with fail
  refine (Sn.inOrder_any _ _).mono ?_
  rintro e w' ⟨rfl, rfl⟩
  go_wp2_with fail
  refine wp_gen (fun V => V.heap.size = w.heap.size + 2 ∧ Boxed V w.heap.size 45 (.slice none 0 0) ∧ Boxed V (w.heap.size + 1) tS (.map (some s)) ∧ IsMap encS V s (Qs.held m) ∧ Stamp V s ∧ Below w.heap.size w V) ?_ ?_
  · have hb2 := below2 w (.cells #[.slice none 0 0] 45) (.cells #[.map (some s)] tS)
    exact ⟨by simp, (heap2 w _ _).1, (heap2 w _ _).2, HD.out.snaps.after hb2, HD.out.stampS.of_heap (hb2.block s HLT.out.2.2.2.1), hb2⟩
  clear g1 HD
  rintro W0 ⟨hs0, hl0, hbx, hvm, hst, hlw⟩
  have HS := Lib.hid hs0
  refine wpIn_wide.1 (RangeRow.range (F := Fence.wide) (n := 7) rfl (by omega) (gf := 66) (lb := #[.pointer (some ⟨w.heap.size + 1, 0, none⟩)]) rfl trivial ef2 (encs := Qs.encM m) (lo := w.heap.size) (hi := w.heap.size + 1) (N0 := W0.heap.size) (E := 63) (by omega)
    (snaps_seqA 6 rfl m HK.out HLN.out HON.out (w.heap.size + 1) s w.heap.size (w.heap.size + 1) W0.heap.size W0 ⟨by omega, by omega, by have := HLT.out; omega⟩ hbx hvm hst) (fun _ => rfl)
    (fun pre W => LstS w.heap.size W0.heap.size pre W ∧ Below w.heap.size w W)
    (fun _ _ _ => False) ?_ ?_ ⟨⟨nilS, hl0, own_none _ _ _ _⟩, hlw⟩
    (fun pre y a1 W => LstS w.heap.size W0.heap.size pre W ∧ Below w.heap.size w W ∧ ∃ ob, W0.heap.size ≤ ob ∧ BoxK W ob y.1.2 ∧
      a1 = { tmps := #[.pointer (some ⟨d, 0, none⟩), undef, .slice none 0 0, .pointer (some ⟨w.heap.size, 0, none⟩), .string y.1.1, .pointer (some ⟨ob, 0, none⟩), .pointer (some ⟨d, 0, none⟩), .bool false, .pointer (some ⟨d, 0, none⟩), .pointer (some ⟨d, 0, none⟩), .pointer (some ⟨d, 2, none⟩), .map (some s), .func (.func 66) #[] #[.pointer (some ⟨w.heap.size + 1, 0, none⟩)], .string y.1.1, encK y.1.2, undef, undef, undef, undef, undef, undef, undef, undef, undef, undef], defers := [] })
    ?_ ?_ ?_ ?_ ?_)
  · intro pre A B row ⟨a, c⟩ hg hr
    exact ⟨a.own hg hr, ownFrom_below (β := Unit) (n₀ := w.heap.size) (B := W0.heap.size) (Nat.le_refl _) (by omega) () A B row c hg hr⟩
  · intro _ _ _ _ _ h
    exact h.elim
  · intro y a1 pre A B row ⟨a, c, ob, e, f, g⟩ hg hr
    exact ⟨a.own hg hr, ownFrom_below (β := Unit) (n₀ := w.heap.size) (B := W0.heap.size) (Nat.le_refl _) (by omega) () A B row c hg hr, ob, e, cells_own hg hr f, g⟩
  · intro lp pre y W ⟨a, c⟩ _ hsz
    obtain ⟨⟨k, x⟩, hmem⟩ := y
    obtain ⟨V, hst, hbx, hlw⟩ := boxK W zeroK rfl x
    have HA := Lib.hid a
    have HC := Lib.hid c
    have HBX := Lib.hid hbx
    have HWW := Lib.hid hlw
    clear a c hbx hlw
    simp only [Qs.encM]
    gi_wp2_with (refine KnownIn.skip rfl (by intro c e; cases e) rfl (hst rfl rfl rfl) ?_)
    exact ⟨Stays.of_below HWW.out, HA.out.after HWW.out, HC.out.trans (HWW.out.mono HC.out.size), W.heap.size, hsz, HBX.out, rfl⟩
  · rintro lp pre ⟨⟨k, x⟩, hmem⟩ a1 W ⟨a, c, ob, hob, hbx, rfl⟩ hlen hsz
    obtain ⟨sl, hbl, hown⟩ := a
    have hbx' : BoxK W ob x := hbx
    have c0 := hbx'.c0
    have c1 := hbx'.c1
    obtain ⟨lv, hlv⟩ : ∃ lv, lv = encSl sl := ⟨_, rfl⟩
    have l0 : W.cell? ⟨w.heap.size, 0, none⟩ = some lv := by rw [hlv]; exact hbl.cell
    have hba : Below W.heap.size W (W.alloc (.cells (cellsDS ⟨k, x.size, x.tag⟩) 63 (0, 0))) := (Below.refl _ _).alloc (Nat.le_refl _) _
    have ho2 := own_after hown hba
    obtain ⟨v', W3, hap, hown3, hb3, hst3⟩ := add_rowsK snap_rowy W0.heap.size _ (encSl sl) _ _ ho2 W.heap.size 0 1 1 (cellsDS ⟨k, x.size, x.tag⟩).toList rfl
      (fun j u hu => by
        rw [Nat.zero_add, cell_of_row _ _ _ _ _ _ (heap_alloc_new W _), ← Array.getElem?_toList]
        exact hu) (one_cellsDS ⟨k, x.size, x.tag⟩) (by
          rw [List.length_map]
          have := HLN.out
          omega) (by simp only [World.size_alloc]; omega) 45
    obtain ⟨s3, rfl, hs3⟩ := own_sl hown3
    rw [← hlv] at hap
    change (Builtin.append_ _ _ #[lv, _]).run Try.prog _ = .ok (.slice s3.o s3.n s3.c) W3 at hap
    have hl3 : Boxed W3 w.heap.size 45 (encSl sl) := (hst3 w.heap.size (by simp only [World.size_alloc]; have := hbl.lt; omega) (.inl (by have := HS.out; omega))).trans ((hba.block _ hbl.lt).trans hbl)
    have l3 : W3.cell? ⟨w.heap.size, 0, none⟩ = some lv := by rw [hlv]; exact hl3.cell
    have f3 := hl3.frozen
    have HN : Hid (Stays w.heap.size (w.heap.size + 1) W0.heap.size 63 W (W3.setCell ⟨w.heap.size, 0, none⟩ (encSl s3)) ∧ LstS w.heap.size W0.heap.size (pre ++ [(⟨(k, x), hmem⟩ : Qs.El m)]) (W3.setCell ⟨w.heap.size, 0, none⟩ (encSl s3)) ∧ Below w.heap.size w (W3.setCell ⟨w.heap.size, 0, none⟩ (encSl s3))) := by
      show _ ∧ _
      have hS := HS.out
      have hsz3 := hb3.size
      simp only [World.size_alloc] at hsz3
      have hlW := hbl.lt
      refine ⟨⟨Nat.le_trans (show W.heap.size ≤ W3.heap.size by omega) (by simp), fun q hq hx hor => ?_⟩, ⟨s3, hl3.set _, ?_⟩, ?_⟩
      · have e1 : (W.alloc (.cells (cellsDS ⟨k, x.size, x.tag⟩) 63 (0, 0))).heap[q]? = W.heap[q]? := hba.block q hq
        rw [heap_setCell_other _ ⟨w.heap.size, 0, none⟩ q _ (fun e => hx ⟨by show w.heap.size ≤ q; have : q = w.heap.size := e; omega, by have : q = w.heap.size := e; omega⟩), hst3 q (by simp only [World.size_alloc]; omega) (hor.imp id (fun h cs f => by rw [e1]; exact h cs f)), e1]
      · have h1 : W3.ownsRow W0.heap.size 63 3 (encSl s3) ((pre ++ [(⟨(k, x), hmem⟩ : Qs.El m)]).map snapTold).length (catS ((pre ++ [(⟨(k, x), hmem⟩ : Qs.El m)]).map snapTold)) := by
          rw [List.map_append, List.length_append, catS_app, show catS ([(⟨(k, x), hmem⟩ : Qs.El m)].map snapTold) = (cellsDS ⟨k, x.size, x.tag⟩).toList by unfold catS snapTold; simp]
          exact hown3
        refine ⟨h1.1, ?_⟩
        rcases h1.2 with h4 | ⟨g, cap, cur, h4, h5, h6, h7⟩
        · exact .inl h4
        · exact .inr ⟨g, cap, cur, h4, h5, (heap_setCell_other _ ⟨w.heap.size, 0, none⟩ g _ (by show g ≠ w.heap.size; omega)).trans h6, h7⟩
      · exact ((c.trans (hba.mono c.size)).trans (hb3.mono (by omega))).setCell (Nat.le_refl _) _
    have HAP := Lib.hid hap
    have HBB := Lib.hid (run_bds W ⟨k, x.size, x.tag⟩)
    clear hbx hbx' hl3 hb3 hst3 hown3 hs3 ho2 hba c hbl hown hap hlv hlen
    gi_wp2_with (first | (refine KnownIn.value rfl rfl (exec_slice HBB.out rfl rfl) ?_) | (gi_at_builtin; refine wpListIn_append_run rfl _ _ 45 rfl rfl rfl HAP.out ?_))
    exact ⟨HN.out.1, HN.out.2.1, HN.out.2.2⟩
  · rintro D xs W hD hWh ⟨⟨sl, hl, hown⟩, c⟩ hK
    have l0 : W.cell? ⟨w.heap.size, 0, none⟩ = some (.slice sl.o sl.n sl.c) := hl.cell
    have HKK := Lib.hid hK
    have HC := Lib.hid c
    have HDD : Hid (w.heap.size < D) := by show _ < _; have := HS.out; omega
    have HWH := Lib.hid hWh
    have HRES : Hid (SOwn (W.putObj D (.deferred none)) w.heap.size sl (xs.map snapTold)) := by
      have ne : ∀ g cs t f, W.heap[g]? = some (Go.Obj.cells cs t f) → D ≠ g := fun g cs t f hg e => by
        subst e
        have hk1 : _ = _ := hK
        rw [hg] at hk1
        cases hk1
      refine ⟨hown.1, ?_⟩
      rcases hown.2 with h4 | ⟨g, cap, cur, h4, h5, h6, h7⟩
      · exact .inl h4
      · exact .inr ⟨g, cap, cur, h4, by have := HS.out; omega, (World.putObj_heap_other (by first | exact ne g _ _ _ h6 | exact Ne.symm (ne g _ _ _ h6))).trans h6, h7⟩
    clear c hl hK hown hWh
    go_wp2
    refine leave_mark rfl HKK.out ⟨.slice sl.o sl.n sl.c, (results_tmp (t := 2) rfl _ _ _).trans rfl, sl, xs, rfl, HRES.out, HWH.out, ?_⟩
    have hdd := HDD.out
    exact HC.out.trans (belowK_b (w := w) (by omega) _ D _ _ (by omega) HKK.out rfl rfl)
  · intro _ _ _ _ _ _ h _
    exact h.elim
end Go.Proofs.Ytbgfccanbgpjiaa.O.I
