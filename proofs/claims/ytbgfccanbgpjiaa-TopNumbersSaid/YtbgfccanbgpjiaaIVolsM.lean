/- Volumes, where there is one, published at any nodes. -/
import Derived.Test.YtbgfccanbgpjiaaIVols
import Derived.Test.YtbgfccanbgpjiaaIOwn
namespace Go.Proofs.Ytbgfccanbgpjiaa.O.I
open Go Go.RowKit Go.Lib Go.Shelf RangeMap KM
attribute [local go_sem] Oper.semAt_some

theorem built_wM (x : Vl) (k : ByteArray) (o : Option Addr) (j c : Nat) : Try.prog.built 58 [(0, .string k), (1, .int .i64 x.size), (2, .string x.zone), (3, .int .u64 x.tag), (4, .slice o j c)] = some (cellsW x k (.slice o j c)) := by kernel_rfl
theorem exec_bwM {o : Oper} {a : Act} {w : World} {parts : Array (Nat × Operand)} {x : Vl} {k : ByteArray} {ro : Option Addr} {j c : Nat} (ho : o.op = .build 58 parts)
    (hp : (parts.toList.map fun (i, x) => (i, a.eval x)) = [(0, .string k), (1, .int .i64 x.size), (2, .string x.zone), (3, .int .u64 x.tag), (4, .slice ro j c)]) : (execOp a.eval o).run Try.prog w = .ok (.value (.agg (cellsW x k (.slice ro j c)))) w :=
  exec_build _ _ ho _ (by rw [hp]; exact built_wM x k ro j c)
theorem run_dvM (W : World) (x : Vl) (k : ByteArray) (o : Option Addr) (j c : Nat) : (Instr.buildSlice 43 1 #[(0, .agg (cellsW x k (.slice o j c)))]).run Try.prog W = .ok (.slice (some ⟨W.heap.size, 0, none⟩) 1 1) (W.alloc (.cells (cellsW x k (.slice o j c)) 58 (0, 0))) := by kernel_rfl
/-- One volume, behind none. -/
theorem add_dvM (W : World) (x : Vl) (k : ByteArray) (o : Option Addr) (j c : Nat) (ty : TypeId) :
    ∃ g cp W' cur, (Builtin.append_ #[43, 43] ty #[.slice none 0 0, .slice (some ⟨W.heap.size, 0, none⟩) 1 1]).run Try.prog (W.alloc (.cells (cellsW x k (.slice o j c)) 58 (0, 0))) = .ok (.slice (some ⟨g, 0, none⟩) 1 cp) W' ∧
      Below W.heap.size W W' ∧ W'.heap[g]? = some (.cells cur 58 (0, 0)) ∧ cur[4]? = some (.slice o j c) ∧ W.heap.size ≤ g := by
  obtain ⟨i, hi, hz, hs, hb⟩ := dv_info
  have hba : Below W.heap.size W (W.alloc (.cells (cellsW x k (.slice o j c)) 58 (0, 0))) := (Below.refl _ _).alloc (Nat.le_refl _) _
  have h1 : ∀ u ∈ (cellsW x k (.slice o j c)).toList, u.oneCell' = true := fun u hu => by
    simp [cellsW] at hu
    rcases hu with rfl | rfl | rfl | rfl | rfl <;> rfl
  have hnews : ∀ j' u, (cellsW x k (.slice o j c)).toList[j']? = some u → (W.alloc (.cells (cellsW x k (.slice o j c)) 58 (0, 0))).cell? ((⟨W.heap.size, 0, none⟩ : Addr).add j') = some u := fun j' u hu => by
    have e : (⟨W.heap.size, 0, none⟩ : Addr).add j' = ⟨W.heap.size, j', none⟩ := by unfold Addr.add; split <;> simp_all
    rw [e, cell_of_row _ _ _ _ _ _ (heap_alloc_new W _), ← Array.getElem?_toList]
    exact hu
  have hr1 : (W.alloc (.cells (cellsW x k (.slice o j c)) 58 (0, 0))).ownsRow W.heap.size 58 5 (.slice none 0 0) 0 [] := ⟨rfl, .inl ⟨rfl, rfl⟩⟩
  obtain ⟨v', W', h2, h3, h4, -⟩ := run_append_own (P := Try.prog) (W.alloc (.cells (cellsW x k (.slice o j c)) 58 (0, 0))) W.heap.size 43 ty 58 i (.agg (cellsW zeroV E0 (.slice none 0 0))) 5 i.bytes Try.underlying43 hi hz hs rfl rfl (by decide) (.slice none 0 0) 0 _ hr1 ⟨W.heap.size, 0, none⟩ 1 1 (cellsW x k (.slice o j c)).toList rfl hnews h1 (by unfold maxLen; omega) (Nat.le_trans (Nat.mul_le_mul (show 0 + 1 ≤ 1 by omega) hb) (by omega)) (by simp)
  rcases h3.2 with ⟨-, h0⟩ | ⟨g, cap, cur, rfl, hg, hh, -, -, -, ht⟩
  · exact absurd h0 (by decide)
  · refine ⟨g, cap, W', cur, h2, hba.grown h4 (by simp) (fun r e => by cases e), hh, ?_, hg⟩
    have h5 := congrArg (fun l => l[4]?) ht
    simp only [List.getElem?_take] at h5
    rw [if_pos (by decide)] at h5
    rw [← Array.getElem?_toList, h5]
    rfl
/-- The keys of a volume's nodes, in order: how many they are. -/
theorem keys_any (m : Nat) (w : World) (M : List (ByteArray × Value)) (hk : ∀ p ∈ M, p.1.size ≤ maxLen) (hlen : M.length ≤ 1000000) (hm : IsMap encS w m M) (hst : Stamp w m) : Calls Try.prog 45 #[.func (.func 65) #[] #[.pointer (some ⟨w.heap.size, 0, none⟩)]] (w.alloc (.cells #[.map (some m)] tN)) fun e w' => (∃ o cp, e = .returned (.slice o M.length cp)) ∧ Below w.heap.size w w' := by
  have hown := owns_any (m := M) hk (Nat.le_trans hlen (by decide)) hm hst
  have hsz : Maps.size (datum M) = M.length := datum_size M
  refine (callsIn_wide.1 (Try.slices_Sorted_keys_45_46 m _ _ _ w hown (by rw [hsz]; exact Nat.le_trans hlen (by decide)) (by rw [hsz]; omega))).mono ?_
  rintro e W2 ⟨v, ss, rfl, hS, hrow, -, hb⟩
  have hl : ss.length = M.length := (hS.trans (datum_keys M)).length_eq.trans (List.length_map ..)
  refine ⟨?_, ((Below.refl _ _).alloc (Nat.le_refl _) _).trans (hb.mono (by simp))⟩
  rcases hrow.2 with ⟨rfl, h0⟩ | ⟨g, cap, cur, rfl, -⟩
  · exact ⟨none, 0, by rw [← hl, h0]⟩
  · exact ⟨_, cap, by rw [← hl]⟩
/-- What the list's cell holds, and how many nodes its volume has. -/
def LstM (c q j : Nat) (W : World) : Prop := if j = 0 then Boxed W c 43 (.slice none 0 0) else ∃ g cp cur o k, Boxed W c 43 (.slice (some ⟨g, 0, none⟩) j cp) ∧ W.heap[g]? = some (.cells cur 58 (0, 0)) ∧ cur[4]? = some (.slice o q k)
theorem LstM.own {B c q j : Nat} {W W' : World} {row : Option Nat} (hg : W.grownBy W' row) (hr : ∀ r, row = some r → B ≤ r ∧ ∃ o : Go.Obj, W.heap[r]? = some o ∧ o.isCells = false) (h : LstM c q j W) : LstM c q j W' := by
  unfold LstM at *
  split at h
  · rename_i h0
    rw [if_pos h0]
    exact cells_own hg hr h
  · rename_i h0
    rw [if_neg h0]
    obtain ⟨g, cp, cur, o, k, h, h2, h3⟩ := h
    exact ⟨g, cp, cur, o, k, cells_own hg hr h, cells_own hg hr h2, h3⟩
theorem LstM.after {c q j : Nat} {W W' : World} (h : LstM c q j W) (hb : Below W.heap.size W W') : LstM c q j W' := by
  unfold LstM at *
  split at h
  · rename_i h0
    rw [if_pos h0]
    exact (hb.block c h.lt).trans h
  · rename_i h0
    rw [if_neg h0]
    obtain ⟨g, cp, cur, o, k, h, h2, h3⟩ := h
    exact ⟨g, cp, cur, o, k, (hb.block c h.lt).trans h, (hb.block g (Array.getElem?_eq_some_iff.1 h2).1).trans h2, h3⟩
theorem stamp_own {B : Nat} {W W' : World} {row : Option Nat} (hg : W.grownBy W' row) (hr : ∀ r, row = some r → B ≤ r ∧ ∃ o : Go.Obj, W.heap[r]? = some o ∧ o.isCells = false) {m : Nat} (h : Stamp W m) (hl : m < W.heap.size) (hB : m < B) : Stamp W' m :=
  h.of_heap (hg.block m hl (fun e => by have := (hr m e.symm).1; omega))

set_option maxRecDepth 100000 in
set_option maxHeartbeats 1000000 in
theorem volumes_oneM (d r v s n m : Nat) (Ro So : List (ByteArray × Value)) (No : List (Tg × Value)) (k : ByteArray) (x : Vl) (hk : k.size ≤ maxLen) (hx : x.nodes = some m) (w : World) (hd : DrAt w d r v s n Ro [(k, encV x)] So No) (M : List (ByteArray × Value)) (hkM : ∀ p ∈ M, p.1.size ≤ maxLen) (hlM : M.length ≤ 1000000) (hm : IsMap encS w m M) (hsm : Stamp w m) :
    Calls Try.prog 22 #[.pointer (some ⟨d, 0, none⟩)] w fun e w' => (∃ g cp cur o k, e = .returned (.slice (some ⟨g, 0, none⟩) 1 cp) ∧ w'.heap[g]? = some (.cells cur 58 (0, 0)) ∧ cur[4]? = some (.slice o M.length k)) ∧ Below w.heap.size w w' := by
  have HD := Lib.hid hd
  have HM := Lib.hid hm
  have HX := Lib.hid hx
  have HK := Lib.hid hk
  have HLT := Lib.hid hd.lt
  have HML := Lib.hid hm.lt
  have g1 := (hd.after ((Below.refl _ _).alloc (Nat.le_refl _) (.cells #[.slice none 0 0] 43))).box.c1
  have ef2 := enters_of (P := Try.prog) Try.func61 (by kernel_rfl) rfl
  have HSM := Lib.hid hsm
  have HKM := Lib.hid hkM
  have HLM : Hid (M.length ≤ 1000000) := hlM
  clear hd hm hx hk hsm hkM hlM
  refine callsIn_wide.1 (callsIn_of_wp_marks (n := 7) Try.func22 rfl trivial (wpIn_wide.2 ?_) rfl)
  simp only [Try.ntmps22, List.size_toArray, List.length_cons, List.length_nil, Nat.reduceAdd, Nat.reduceSub, Array.replicate_succ, Array.replicate_zero, List.push_toArray, List.append_toArray, List.nil_append, List.cons_append]
  go_wp2_with fail
  refine (inOrder_any _ _).mono ?_
  rintro e w' ⟨rfl, rfl⟩
  go_wp2_with fail
  refine wp_gen (fun V => V.heap.size = w.heap.size + 2 ∧ Boxed V w.heap.size 43 (.slice none 0 0) ∧ Boxed V (w.heap.size + 1) tV (.map (some v)) ∧ IsMap encS V v [(k, encV x)] ∧ Stamp V v ∧ (IsMap encS V m M ∧ Stamp V m) ∧ Below w.heap.size w V) ?_ ?_
  · have hb2 := below2 w (.cells #[.slice none 0 0] 43) (.cells #[.map (some v)] tV)
    exact ⟨by simp, (heap2 w _ _).1, (heap2 w _ _).2, HD.out.vols.after hb2, HD.out.stamp.of_heap (hb2.block v HLT.out.2.2.1), ⟨HM.out.after hb2, HSM.out.of_heap (hb2.block m HML.out)⟩, hb2⟩
  clear g1 HD HM HSM
  rintro W0 ⟨hs0, hl0, hbx, hvm, hst, ⟨hmm, hsm⟩, hlw⟩
  have HS := Lib.hid hs0
  have HML2 : Hid (m < W0.heap.size) := hmm.lt
  refine wpIn_wide.1 (RangeMap.range (F := Fence.wide) (n := 7) rfl (by omega) (gf := 61) (lb := #[.pointer (some ⟨w.heap.size + 1, 0, none⟩)]) rfl trivial ef2 (encs := encKV k x) (lo := w.heap.size) (hi := w.heap.size + 1) (by omega)
    (vols_seq 6 rfl k x HK.out (w.heap.size + 1) v w.heap.size (w.heap.size + 1) W0 ⟨by omega, by omega, by have := HLT.out; omega⟩ hbx hvm hst) (fun _ => rfl)
    (fun pre W => LstM w.heap.size M.length pre.length W ∧ (IsMap encS W m M ∧ Stamp W m) ∧ Below w.heap.size w W)
    (fun _ _ _ => False) ?_ ?_ ⟨hl0, ⟨hmm, hsm⟩, hlw⟩
    (fun pre _ a1 W => LstM w.heap.size M.length pre.length W ∧ (IsMap encS W m M ∧ Stamp W m) ∧ Below w.heap.size w W ∧ ∃ ob, W0.heap.size ≤ ob ∧ BoxV W ob x ∧
      a1 = { tmps := #[.pointer (some ⟨d, 0, none⟩), undef, .slice none 0 0, .pointer (some ⟨w.heap.size, 0, none⟩), .string k, .pointer (some ⟨ob, 0, none⟩), undef, .pointer (some ⟨d, 0, none⟩), .bool false, .pointer (some ⟨d, 0, none⟩), .pointer (some ⟨d, 0, none⟩), .pointer (some ⟨d, 1, none⟩), .map (some v), .func (.func 61) #[] #[.pointer (some ⟨w.heap.size + 1, 0, none⟩)], .string k, encV x, undef, undef, undef, undef, undef, undef, undef, undef, undef, undef, undef, undef, undef, undef, undef, undef, undef, undef, undef], defers := [] })
    ?_ ?_ ?_ ?_ ?_)
  · intro pre A B row ⟨a, b, c⟩ hg hr
    exact ⟨LstM.own hg hr a, ⟨map_own hg hr b.1 HML2.out, stamp_own hg hr b.2 b.1.lt HML2.out⟩, ownFrom_below (β := Unit) (n₀ := w.heap.size) (B := W0.heap.size) (Nat.le_refl _) (by omega) () A B row c hg hr⟩
  · intro _ _ _ _ _ h
    exact h.elim
  · intro y a1 pre A B row ⟨a, b, c, ob, e, f, g⟩ hg hr
    exact ⟨LstM.own hg hr a, ⟨map_own hg hr b.1 HML2.out, stamp_own hg hr b.2 b.1.lt HML2.out⟩, ownFrom_below (β := Unit) (n₀ := w.heap.size) (B := W0.heap.size) (Nat.le_refl _) (by omega) () A B row c hg hr, ob, e, cells_own hg hr f, g⟩
  · intro lp pre y W ⟨a, b, c⟩ _ hsz
    obtain ⟨V, hst, hbx, hlw⟩ := boxV W zeroV rfl x
    have HA := Lib.hid a
    have HB := Lib.hid b
    have HC := Lib.hid c
    have HBX := Lib.hid hbx
    have HWW := Lib.hid hlw
    clear a b c hbx hlw
    simp only [encKV]
    gi_wp2_with (refine KnownIn.skip rfl (by intro c e; cases e) rfl (hst rfl rfl rfl) ?_)
    exact ⟨Stays.of_below HWW.out, HA.out.after HWW.out, ⟨HB.out.1.after HWW.out, HB.out.2.of_heap (HWW.out.block m HB.out.1.lt)⟩, HC.out.trans (HWW.out.mono HC.out.size), W.heap.size, hsz, HBX.out, rfl⟩
  · rintro lp pre y a1 W ⟨a, b, c, ob, hob, hbx, rfl⟩ hlen hsz
    obtain rfl : pre = [] := by
      cases pre with
      | nil => rfl
      | cons _ _ => simp at hlen
    have a0 : Boxed W w.heap.size 43 (.slice none 0 0) := a
    have k3 := hbx.c3
    rw [HX.out] at k3
    have HB := Lib.hid b
    have HC := Lib.hid c
    have HBX := Lib.hid hbx
    have HA := Lib.hid a0
    clear a b c hbx a0
    gi_wp2_with fail
    refine ⟨trivial, ((callsIn_wide.2 (keys_map m _)).inRound lp).mono ?_⟩
    rintro e w' ⟨rfl, rfl⟩
    gi_wp2_with fail
    refine ⟨trivial, ((callsIn_wide.2 (keys_any m W M HKM.out HLM.out HB.out.1 HB.out.2)).inRound lp).mono ?_⟩
    rintro e W2 ⟨⟨ro, rc, rfl⟩, hb⟩
    have hbx2 := HBX.out.after hb
    have c0 := hbx2.c0
    have c1 := hbx2.c1
    have c2 := hbx2.c2
    have hl2 : Boxed W2 w.heap.size 43 (.slice none 0 0) := (hb.block _ HA.out.lt).trans HA.out
    have l0 := hl2.cell
    obtain ⟨g, cp, W3, cur, hap, hb3, hrw3, hcu3, hgw3⟩ := add_dvM W2 x k ro M.length rc 43
    have hl3 : Boxed W3 w.heap.size 43 (.slice none 0 0) := (hb3.block _ hl2.lt).trans hl2
    have l3 := hl3.cell
    have f3 := hl3.frozen
    have HN : Hid (Stays w.heap.size (w.heap.size + 1) W (W3.setCell ⟨w.heap.size, 0, none⟩ (.slice (some ⟨g, 0, none⟩) 1 cp)) ∧ LstM w.heap.size M.length 1 (W3.setCell ⟨w.heap.size, 0, none⟩ (.slice (some ⟨g, 0, none⟩) 1 cp)) ∧ (IsMap encS (W3.setCell ⟨w.heap.size, 0, none⟩ (.slice (some ⟨g, 0, none⟩) 1 cp)) m M ∧ Stamp (W3.setCell ⟨w.heap.size, 0, none⟩ (.slice (some ⟨g, 0, none⟩) 1 cp)) m) ∧ Below w.heap.size w (W3.setCell ⟨w.heap.size, 0, none⟩ (.slice (some ⟨g, 0, none⟩) 1 cp))) := by
      show _ ∧ _
      have hbw := hb.trans (hb3.mono hb.size)
      have hml := HML.out
      have hlw := hl2.lt
      refine ⟨⟨Nat.le_trans hbw.size (by simp), fun q hq hn => ?_⟩, ⟨g, cp, cur, ro, rc, hl3.set _, (heap_setCell_other _ ⟨w.heap.size, 0, none⟩ g _ (by show g ≠ w.heap.size; omega)).trans hrw3, hcu3⟩, ⟨(HB.out.1.after hbw).of_heap (heap_setCell_other _ ⟨w.heap.size, 0, none⟩ m _ (by show m ≠ w.heap.size; omega)), HB.out.2.of_heap ((heap_setCell_other _ ⟨w.heap.size, 0, none⟩ m _ (by show m ≠ w.heap.size; omega)).trans (hbw.block m HB.out.1.lt))⟩, (HC.out.trans (hbw.mono HC.out.size)).setCell (Nat.le_refl _) _⟩
      rw [heap_setCell_other _ ⟨w.heap.size, 0, none⟩ q _ (by show q ≠ w.heap.size; omega), hbw.block q hq]
    clear hb hbx2 hl2 hl3 hb3 hrw3 hcu3 hgw3 HA HB HC HBX k3
    gi_wp2_with (first | (refine KnownIn.value rfl rfl (exec_bwM (x := x) (k := k) (ro := ro) (j := M.length) (c := rc) rfl rfl) ?_) | (refine KnownIn.value rfl rfl (exec_slice (run_dvM W2 x k ro M.length rc) rfl rfl) ?_) | (gi_at_builtin; refine wpListIn_append_run rfl _ _ 43 rfl rfl rfl hap ?_))
    exact ⟨HN.out.1, HN.out.2.1, HN.out.2.2.1, HN.out.2.2.2⟩
  · rintro D xs W hD hS ⟨a, b, c⟩ hK
    subst hS
    obtain ⟨g, cp, cur, ro, rc, hl, hrw, hcu⟩ : ∃ g cp cur o k, Boxed W w.heap.size 43 (.slice (some ⟨g, 0, none⟩) 1 cp) ∧ W.heap[g]? = some (.cells cur 58 (0, 0)) ∧ cur[4]? = some (.slice o M.length k) := by
      have a' : LstM w.heap.size M.length 1 W := a
      unfold LstM at a'
      rw [if_neg (by decide)] at a'
      exact a'
    have HRW := Lib.hid hrw
    have HCU := Lib.hid hcu
    have HKD : Hid (D ≠ g) := fun e => by subst e; have hk1 : _ = _ := hK; rw [hrw] at hk1; cases hk1
    have l0 := hl.cell
    have HK := Lib.hid hK
    have HC := Lib.hid c
    have HDD : Hid (w.heap.size < D) := by show _ < _; have := HS.out; omega
    clear b c hl hK hrw hcu
    go_wp2
    refine leave_mark rfl HK.out ⟨.slice (some ⟨g, 0, none⟩) 1 cp, (results_tmp (t := 2) rfl _ _ _).trans rfl, ⟨g, cp, cur, ro, rc, rfl, (World.putObj_heap_other (by first | exact HKD.out | exact Ne.symm HKD.out)).trans HRW.out, HCU.out⟩, ?_⟩
    have hdd := HDD.out
    exact HC.out.trans (belowK_b (w := w) (by omega) _ D _ _ (by omega) HK.out rfl rfl)
  · intro _ _ _ _ _ _ h _
    exact h.elim
end Go.Proofs.Ytbgfccanbgpjiaa.O.I
