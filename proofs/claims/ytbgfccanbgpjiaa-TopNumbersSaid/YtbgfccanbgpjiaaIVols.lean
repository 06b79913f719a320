/- Volumes, where there is one, published nowhere. -/
import Derived.Test.YtbgfccanbgpjiaaISeq
import Derived.Test.YtbgfccanbgpjiaaIDo
import Derived.RangeFuncLeaves
import Derived.Laws.AppendOwn
import Derived.Great.BuildSlice
namespace Go.Proofs.Ytbgfccanbgpjiaa.O.I
open Go Go.RowKit Go.Lib Go.Shelf RangeMap KM
attribute [local go_sem] Oper.semAt_some

def Mark (W : World) (D : Nat) : Prop := W.heap[D]? = some (.deferred (some []))
theorem leave_mark {F : Fence} {n : Nat} {P : Program} {fn : Func} {R : Ending → World → Prop} {a : Act} {W : World} {D : Nat} (hd : a.defers = [{ target := .collected D, args := #[] }]) (hk : Mark W D)
    (h : ∃ v, (results fn a.tmps).run P (W.putObj D (.deferred none)) = .ok v (W.putObj D (.deferred none)) ∧ R (.returned v) (W.putObj D (.deferred none))) : bodyPostM F n P fn R .ret a W := by
  show LeavesInM F n P fn a.tmps R a.defers FrameMode.returning W
  rw [hd]
  exact ⟨by simp, .inl ⟨_, _, rfl, run_takeDeferred hk, h⟩⟩
/-- A volume as it is told. -/
def cellsW (x : Vl) (k : ByteArray) (l : Value) : Array Value := #[.string k, .int .i64 x.size, .string x.zone, .int .u64 x.tag, l]
theorem built_w (x : Vl) (k : ByteArray) : Try.prog.built 58 [(0, .string k), (1, .int .i64 x.size), (2, .string x.zone), (3, .int .u64 x.tag), (4, .slice none 0 0)] = some (cellsW x k (.slice none 0 0)) := by kernel_rfl
theorem exec_bw {o : Oper} {a : Act} {w : World} {parts : Array (Nat × Operand)} {x : Vl} {k : ByteArray} (ho : o.op = .build 58 parts)
    (hp : (parts.toList.map fun (i, x) => (i, a.eval x)) = [(0, .string k), (1, .int .i64 x.size), (2, .string x.zone), (3, .int .u64 x.tag), (4, .slice none 0 0)]) : (execOp a.eval o).run Try.prog w = .ok (.value (.agg (cellsW x k (.slice none 0 0)))) w :=
  exec_build _ _ ho _ (by rw [hp]; exact built_w x k)
theorem run_dv1 (W : World) (x : Vl) (k : ByteArray) : (Instr.buildSlice 43 1 #[(0, .agg (cellsW x k (.slice none 0 0)))]).run Try.prog W = .ok (.slice (some ⟨W.heap.size, 0, none⟩) 1 1) (W.alloc (.cells (cellsW x k (.slice none 0 0)) 58 (0, 0))) := by kernel_rfl
theorem exec_slice {T : TypeId} {n : Nat} {W W' : World} {v : Value} {vs : Array (Nat × Value)} (hr : (Instr.buildSlice T n vs).run Try.prog W = .ok v W') {oi : Oper} {a : Act} {parts : Array (Nat × Operand)} (ho : oi.op = .buildSlice T n parts)
    (hp : (parts.toList.map fun (i, x) => (i, a.eval x)) = vs.toList) : (execOp a.eval oi).run Try.prog W = .ok (.value v) W' := by
  have hp' : (parts.map fun (i, x) => (i, a.eval x)) = vs := by
    apply Array.toList_inj.1
    rw [Array.toList_map]
    exact hp
  subst hp'
  unfold execOp
  simp only [ho, Sem.run_bind, hr, Result.andThen_ok]
  rfl
theorem wpListIn_append_run {F : Fence} {n : Nat} {P : Program} {w w' : World} {ops : Array Oper} {rest : List Oper} {o : Oper} {a : Act} {Q : Exit → Act → World → Prop} {v sl sr : Value}
    (hg : o.guard = none) (s x : Operand) (t : TypeId) (hop : o.op = Op.call { callee := Callee.builtin Builtin.append, args := #[s, x], argTypes := #[t, t] }) (hs : a.eval s = sl) (hx : a.eval x = sr)
    (hrun : (Builtin.append_ #[t, t] o.type #[sl, sr]).run P w = .ok v w') (hn : wpListIn F n P ops Q rest (a.put o.dst v) w') : wpListIn F n P ops Q (o :: rest) a w := by
  refine wpListIn_plain hg fun K hK' => ?_
  unfold Oper.wpIn
  refine ⟨?_, ?_⟩
  · simp [Oper.about, hop, resolve, Target.leads, Sem.run_pure]
  · rw [Oper.semAt_plain F _ _ (by rw [hop]; intro c hc'; cases hc')]
    simp [execOp, hop, resolve, invoke, builtin, hs, hx, hrun, Result.andThen]
    exact hK' _ _ hn
theorem dv_info : ∃ i, Try.prog.info? 58 = some i ∧ i.zero = some (.agg (cellsW zeroV E0 (.slice none 0 0))) ∧ i.size = 5 ∧ i.bytes ≤ 1000 := by
  have h : (Try.prog.info? 58).map (fun i => (i.zero, i.size, decide (i.bytes ≤ 1000))) = some (some (.agg (cellsW zeroV E0 (.slice none 0 0))), 5, true) := by kernel_rfl
  cases hi : Try.prog.info? 58 with
  | none => rw [hi] at h; cases h
  | some i =>
    rw [hi] at h
    simp only [Option.map_some, Option.some.injEq, Prod.mk.injEq] at h
    exact ⟨i, rfl, h.1, h.2.1, of_decide_eq_true h.2.2⟩
/-- One volume, behind none. -/
theorem add_dv (W : World) (x : Vl) (k : ByteArray) (ty : TypeId) :
    ∃ g c W', (Builtin.append_ #[43, 43] ty #[.slice none 0 0, .slice (some ⟨W.heap.size, 0, none⟩) 1 1]).run Try.prog (W.alloc (.cells (cellsW x k (.slice none 0 0)) 58 (0, 0))) = .ok (.slice (some ⟨g, 0, none⟩) 1 c) W' ∧
      Below W.heap.size W W' := by
  obtain ⟨i, hi, hz, hs, hb⟩ := dv_info
  have hba : Below W.heap.size W (W.alloc (.cells (cellsW x k (.slice none 0 0)) 58 (0, 0))) := (Below.refl _ _).alloc (Nat.le_refl _) _
  have h1 : ∀ u ∈ (cellsW x k (.slice none 0 0)).toList, u.oneCell' = true := fun u hu => by
    simp [cellsW] at hu
    rcases hu with rfl | rfl | rfl | rfl | rfl <;> rfl
  have hnews : ∀ j u, (cellsW x k (.slice none 0 0)).toList[j]? = some u → (W.alloc (.cells (cellsW x k (.slice none 0 0)) 58 (0, 0))).cell? ((⟨W.heap.size, 0, none⟩ : Addr).add j) = some u := fun j u hu => by
    have e : (⟨W.heap.size, 0, none⟩ : Addr).add j = ⟨W.heap.size, j, none⟩ := by unfold Addr.add; split <;> simp_all
    rw [e, cell_of_row _ _ _ _ _ _ (heap_alloc_new W _), ← Array.getElem?_toList]
    exact hu
  have hr1 : (W.alloc (.cells (cellsW x k (.slice none 0 0)) 58 (0, 0))).ownsRow W.heap.size 58 5 (.slice none 0 0) 0 [] := ⟨rfl, .inl ⟨rfl, rfl⟩⟩
  obtain ⟨v', W', h2, h3, h4, -⟩ := run_append_own (P := Try.prog) (W.alloc (.cells (cellsW x k (.slice none 0 0)) 58 (0, 0))) W.heap.size 43 ty 58 i (.agg (cellsW zeroV E0 (.slice none 0 0))) 5 i.bytes Try.underlying43 hi hz hs rfl rfl (by decide) (.slice none 0 0) 0 _ hr1 ⟨W.heap.size, 0, none⟩ 1 1 (cellsW x k (.slice none 0 0)).toList rfl hnews h1 (by unfold maxLen; omega) (Nat.le_trans (Nat.mul_le_mul (show 0 + 1 ≤ 1 by omega) hb) (by omega)) (by simp)
  rcases h3.2 with ⟨-, h0⟩ | ⟨g, cap, cur, rfl, -, -, -, -, -, -⟩
  · exact absurd h0 (by decide)
  · exact ⟨g, cap, W', h2, hba.grown h4 (by simp) (fun r e => by cases e)⟩
theorem keys_none (m : Nat) (w : World) (hm : IsMap encS w m []) : Calls Try.prog 45 #[.func (.func 65) #[] #[.pointer (some ⟨w.heap.size, 0, none⟩)]] (w.alloc (.cells #[.map (some m)] tN)) fun e w' => e = .returned (.slice none 0 0) ∧ Below w.heap.size w w' := by
  have hown : w.ownsMap Try.prog 9 (fun _ => some ((DataW.nil : DataW Unit), [])) m 0 (.map []) := by
    obtain ⟨es, clock, hb, hh⟩ := hm
    obtain ⟨l⟩ := es
    cases l with
    | cons e r => unfold Holds at hh; simp at hh
    | nil => exact ⟨#[], clock, hb, ⟨by simp, MapKept.stamped_empty clock, by simp⟩, Nat.le_refl _, rfl⟩
  refine (callsIn_wide.1 (Try.slices_Sorted_keys_45_46 m 0 _ _ w hown (by show 0 ≤ maxLen; omega) (by show 0 * 16 ≤ 140737488355328; omega))).mono ?_
  rintro e W2 ⟨v, ss, rfl, hS, -, hnil, hb⟩
  have hss : ss = [] := List.perm_nil.1 hS
  exact ⟨by rw [hnil.2 hss], ((Below.refl _ _).alloc (Nat.le_refl _) _).trans (hb.mono (by simp))⟩
theorem keys_map (m : Nat) (w : World) : Calls Try.prog 46 #[.map (some m)] w fun e w' => e = .returned (.func (.func 65) #[] #[.pointer (some ⟨w.heap.size, 0, none⟩)]) ∧ w' = w.alloc (.cells #[.map (some m)] tN) :=
  callsIn_wide.1 (Try.maps_Keys_46 (some m) w)
/-- What the list's cell holds. -/
def Lst (c j : Nat) (W : World) : Prop := if j = 0 then Boxed W c 43 (.slice none 0 0) else ∃ g cp, Boxed W c 43 (.slice (some ⟨g, 0, none⟩) j cp)
theorem cells_own {B : Nat} {W W' : World} {row : Option Nat} (hg : W.grownBy W' row) (hr : ∀ r, row = some r → B ≤ r ∧ ∃ o : Go.Obj, W.heap[r]? = some o ∧ o.isCells = false) {b : Nat} {cs : Array Value} {t : TypeId} {f : Nat × Nat} (h : W.heap[b]? = some (.cells cs t f)) : W'.heap[b]? = some (.cells cs t f) := by
  refine (hg.block b (Array.getElem?_eq_some_iff.1 h).1 (fun e => ?_)).trans h
  obtain ⟨-, o, ho, hc⟩ := hr b e.symm
  rw [h] at ho
  cases ho
  cases hc
theorem map_own {B : Nat} {W W' : World} {row : Option Nat} (hg : W.grownBy W' row) (hr : ∀ r, row = some r → B ≤ r ∧ ∃ o : Go.Obj, W.heap[r]? = some o ∧ o.isCells = false) {m : Nat} {M : List (ByteArray × Value)} (h : IsMap encS W m M) (hB : m < B) : IsMap encS W' m M :=
  h.of_heap (hg.block m h.lt (fun e => by have := (hr m e.symm).1; omega))
theorem Lst.own {B c j : Nat} {W W' : World} {row : Option Nat} (hg : W.grownBy W' row) (hr : ∀ r, row = some r → B ≤ r ∧ ∃ o : Go.Obj, W.heap[r]? = some o ∧ o.isCells = false) (h : Lst c j W) : Lst c j W' := by
  unfold Lst at *
  split at h
  · rename_i h0
    rw [if_pos h0]
    exact cells_own hg hr h
  · rename_i h0
    rw [if_neg h0]
    obtain ⟨g, cp, h⟩ := h
    exact ⟨g, cp, cells_own hg hr h⟩
theorem Lst.after {c j : Nat} {W W' : World} (h : Lst c j W) (hb : Below W.heap.size W W') : Lst c j W' := by
  unfold Lst at *
  split at h
  · rename_i h0
    rw [if_pos h0]
    exact (hb.block c h.lt).trans h
  · rename_i h0
    rw [if_neg h0]
    obtain ⟨g, cp, h⟩ := h
    exact ⟨g, cp, (hb.block c h.lt).trans h⟩
set_option maxRecDepth 100000 in
set_option maxHeartbeats 1000000 in
theorem volumes_one (d r v s n m : Nat) (Ro So : List (ByteArray × Value)) (No : List (Tg × Value)) (k : ByteArray) (x : Vl) (hk : k.size ≤ maxLen) (hx : x.nodes = some m) (w : World) (hd : DrAt w d r v s n Ro [(k, encV x)] So No) (hm : IsMap encS w m []) :
    Calls Try.prog 22 #[.pointer (some ⟨d, 0, none⟩)] w fun e w' => (∃ g cp, e = .returned (.slice (some ⟨g, 0, none⟩) 1 cp)) ∧ Below w.heap.size w w' := by
  have HD := Lib.hid hd
  have HM := Lib.hid hm
  have HX := Lib.hid hx
  have HK := Lib.hid hk
  have HLT := Lib.hid hd.lt
  have HML := Lib.hid hm.lt
  have g1 := (hd.after ((Below.refl _ _).alloc (Nat.le_refl _) (.cells #[.slice none 0 0] 43))).box.c1
  have ef2 := enters_of (P := Try.prog) Try.func61 (by kernel_rfl) rfl
  clear hd hm hx hk
  refine callsIn_wide.1 (callsIn_of_wp_marks (n := 7) Try.func22 rfl trivial (wpIn_wide.2 ?_) rfl)
  simp only [Try.ntmps22, List.size_toArray, List.length_cons, List.length_nil, Nat.reduceAdd, Nat.reduceSub, Array.replicate_succ, Array.replicate_zero, List.push_toArray, List.append_toArray, List.nil_append, List.cons_append]
  go_wp2_with fail
  refine (inOrder_any _ _).mono ?_
  rintro e w' ⟨rfl, rfl⟩
  go_wp2_with fail
  refine wp_gen (fun V => V.heap.size = w.heap.size + 2 ∧ Boxed V w.heap.size 43 (.slice none 0 0) ∧ Boxed V (w.heap.size + 1) tV (.map (some v)) ∧ IsMap encS V v [(k, encV x)] ∧ Stamp V v ∧ IsMap encS V m [] ∧ Below w.heap.size w V) ?_ ?_
  · have hb2 := below2 w (.cells #[.slice none 0 0] 43) (.cells #[.map (some v)] tV)
    exact ⟨by simp, (heap2 w _ _).1, (heap2 w _ _).2, HD.out.vols.after hb2, HD.out.stamp.of_heap (hb2.block v HLT.out.2.2.1), HM.out.after hb2, hb2⟩
  clear g1 HD HM
  rintro W0 ⟨hs0, hl0, hbx, hvm, hst, hmm, hlw⟩
  have HS := Lib.hid hs0
  have HML2 : Hid (m < W0.heap.size) := hmm.lt
  refine wpIn_wide.1 (RangeMap.range (F := Fence.wide) (n := 7) rfl (by omega) (gf := 61) (lb := #[.pointer (some ⟨w.heap.size + 1, 0, none⟩)]) rfl trivial ef2 (encs := encKV k x) (lo := w.heap.size) (hi := w.heap.size + 1) (by omega)
    (vols_seq 6 rfl k x HK.out (w.heap.size + 1) v w.heap.size (w.heap.size + 1) W0 ⟨by omega, by omega, by have := HLT.out; omega⟩ hbx hvm hst) (fun _ => rfl)
    (fun pre W => Lst w.heap.size pre.length W ∧ IsMap encS W m [] ∧ Below w.heap.size w W)
    (fun _ _ _ => False) ?_ ?_ ⟨hl0, hmm, hlw⟩
    (fun pre _ a1 W => Lst w.heap.size pre.length W ∧ IsMap encS W m [] ∧ Below w.heap.size w W ∧ ∃ ob, W0.heap.size ≤ ob ∧ BoxV W ob x ∧
      a1 = { tmps := #[.pointer (some ⟨d, 0, none⟩), undef, .slice none 0 0, .pointer (some ⟨w.heap.size, 0, none⟩), .string k, .pointer (some ⟨ob, 0, none⟩), undef, .pointer (some ⟨d, 0, none⟩), .bool false, .pointer (some ⟨d, 0, none⟩), .pointer (some ⟨d, 0, none⟩), .pointer (some ⟨d, 1, none⟩), .map (some v), .func (.func 61) #[] #[.pointer (some ⟨w.heap.size + 1, 0, none⟩)], .string k, encV x, undef, undef, undef, undef, undef, undef, undef, undef, undef, undef, undef, undef, undef, undef, undef, undef, undef, undef, undef], defers := [] })
    ?_ ?_ ?_ ?_ ?_)
  · intro pre A B row ⟨a, b, c⟩ hg hr
    exact ⟨Lst.own hg hr a, map_own hg hr b HML2.out, ownFrom_below (β := Unit) (n₀ := w.heap.size) (B := W0.heap.size) (Nat.le_refl _) (by omega) () A B row c hg hr⟩
  · intro _ _ _ _ _ h
    exact h.elim
  · intro y a1 pre A B row ⟨a, b, c, ob, e, f, g⟩ hg hr
    exact ⟨Lst.own hg hr a, map_own hg hr b HML2.out, ownFrom_below (β := Unit) (n₀ := w.heap.size) (B := W0.heap.size) (Nat.le_refl _) (by omega) () A B row c hg hr, ob, e, cells_own hg hr f, g⟩
  · intro lp pre y W ⟨a, b, c⟩ _ hsz
    obtain ⟨V, hst, hbx, hlw⟩ := boxV W zeroV rfl x
    have HA := Lib.hid a
    have HB := Lib.hid b
    have HC := Lib.hid c
    have HBX := Lib.hid hbx
    have HWW := Lib.hid hlw
    clear a b c hbx hlw
    simp only [encKV]
    gi_wp2_with (refine KnownIn.skip rfl (by intro c e; cases e) rfl (hst rfl rfl rfl) ?_)
    exact ⟨Stays.of_below HWW.out, HA.out.after HWW.out, HB.out.after HWW.out, HC.out.trans (HWW.out.mono HC.out.size), W.heap.size, hsz, HBX.out, rfl⟩
  · rintro lp pre y a1 W ⟨a, b, c, ob, hob, hbx, rfl⟩ hlen hsz
    obtain rfl : pre = [] := by
      cases pre with
      | nil => rfl
      | cons _ _ => simp at hlen
    have a0 : Boxed W w.heap.size 43 (.slice none 0 0) := a
    have k3 := hbx.c3
    rw [HX.out] at k3
    have HB := Lib.hid b
    have HC := Lib.hid c
    have HBX := Lib.hid hbx
    have HA := Lib.hid a0
    clear a b c hbx a0
    gi_wp2_with fail
    refine ⟨trivial, ((callsIn_wide.2 (keys_map m _)).inRound lp).mono ?_⟩
    rintro e w' ⟨rfl, rfl⟩
    gi_wp2_with fail
    refine ⟨trivial, ((callsIn_wide.2 (keys_none m W HB.out)).inRound lp).mono ?_⟩
    rintro e W2 ⟨rfl, hb⟩
    have hbx2 := HBX.out.after hb
    have c0 := hbx2.c0
    have c1 := hbx2.c1
    have c2 := hbx2.c2
    have hl2 : Boxed W2 w.heap.size 43 (.slice none 0 0) := (hb.block _ HA.out.lt).trans HA.out
    have l0 := hl2.cell
    obtain ⟨g, cp, W3, hap, hb3⟩ := add_dv W2 x k 43
    have hl3 : Boxed W3 w.heap.size 43 (.slice none 0 0) := (hb3.block _ hl2.lt).trans hl2
    have l3 := hl3.cell
    have f3 := hl3.frozen
    have HN : Hid (Stays w.heap.size (w.heap.size + 1) W (W3.setCell ⟨w.heap.size, 0, none⟩ (.slice (some ⟨g, 0, none⟩) 1 cp)) ∧ Lst w.heap.size 1 (W3.setCell ⟨w.heap.size, 0, none⟩ (.slice (some ⟨g, 0, none⟩) 1 cp)) ∧ IsMap encS (W3.setCell ⟨w.heap.size, 0, none⟩ (.slice (some ⟨g, 0, none⟩) 1 cp)) m [] ∧ Below w.heap.size w (W3.setCell ⟨w.heap.size, 0, none⟩ (.slice (some ⟨g, 0, none⟩) 1 cp))) := by
      show _ ∧ _
      have hbw := hb.trans (hb3.mono hb.size)
      have hml := HML.out
      refine ⟨⟨Nat.le_trans hbw.size (by simp), fun q hq hn => ?_⟩, ⟨g, cp, hl3.set _⟩, (HB.out.after hbw).of_heap (heap_setCell_other _ _ _ _ (by show m ≠ w.heap.size; omega)), (HC.out.trans (hbw.mono HC.out.size)).setCell (Nat.le_refl _) _⟩
      rw [heap_setCell_other _ ⟨w.heap.size, 0, none⟩ q _ (by show q ≠ w.heap.size; omega), hbw.block q hq]
    clear hb hbx2 hl2 hl3 hb3 HA HB HC HBX k3
    gi_wp2_with (first | (refine KnownIn.value rfl rfl (exec_bw (x := x) (k := k) rfl rfl) ?_) | (refine KnownIn.value rfl rfl (exec_slice (run_dv1 W2 x k) rfl rfl) ?_) | (gi_at_builtin; refine wpListIn_append_run rfl _ _ 43 rfl rfl rfl hap ?_))
    exact ⟨HN.out.1, HN.out.2.1, HN.out.2.2.1, HN.out.2.2.2⟩
  · rintro D xs W hD hS ⟨a, b, c⟩ hK
    subst hS
    obtain ⟨g, cp, hl⟩ : ∃ g cp, Boxed W w.heap.size 43 (.slice (some ⟨g, 0, none⟩) 1 cp) := a
    have l0 := hl.cell
    have HK := Lib.hid hK
    have HC := Lib.hid c
    have HDD : Hid (w.heap.size < D) := by show _ < _; have := HS.out; omega
    clear b c hl hK
    go_wp2
    refine leave_mark rfl HK.out ⟨.slice (some ⟨g, 0, none⟩) 1 cp, (results_tmp (t := 2) rfl _ _ _).trans rfl, ⟨g, cp, rfl⟩, ?_⟩
    have hdd := HDD.out
    exact HC.out.trans (belowK_b (w := w) (by omega) _ D _ _ (by omega) HK.out rfl rfl)
  · intro _ _ _ _ _ _ h _
    exact h.elim
end Go.Proofs.Ytbgfccanbgpjiaa.O.I
