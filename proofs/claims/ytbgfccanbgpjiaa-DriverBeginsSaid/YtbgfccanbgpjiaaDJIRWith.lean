/- Own work. -/
import Derived.Test.YtbgfccanbgpjiaaDIRSet
import Derived.Test.YtbgfccanbgpjiaaDJISnSeqN
namespace Go.Proofs.Ytbgfccanbgpjiaa.O.I
open Go Go.RowKit Go.Lib KM
attribute [local go_sem] Oper.semAt_some
def SW (W : World) (R : Nat) (v : Value) (l : List ByteArray) : Prop := W.ownsRow R 9 1 v l.length (l.map .string)
theorem str_rowy : Rowy 56 9 1 (.string E0) := by
  refine ⟨Try.underlying56, by rfl, by decide, ?_⟩
  have h : (Try.prog.info? 9).map (fun i => (i.zero, i.size, decide (i.bytes ≤ 1000))) = some (some (.string E0), 1, true) := by kernel_rfl
  cases hi : Try.prog.info? 9 with
  | none => rw [hi] at h; cases h
  | some i =>
    rw [hi] at h
    simp only [Option.map_some, Option.some.injEq, Prod.mk.injEq] at h
    exact ⟨i, rfl, h.1, h.2.1, of_decide_eq_true h.2.2⟩
theorem run_str1 (W : World) (y : ByteArray) : (Instr.buildSlice 56 1 #[(0, .string y)]).run Try.prog W = .ok (.slice (some ⟨W.heap.size, 0, none⟩) 1 1) (W.alloc (.cells #[.string y] 9 (0, 0))) := by kernel_rfl
theorem add_str (R : Nat) (W : World) (v : Value) (l : List ByteArray) (y : ByteArray) (h : SW W R v l) (hR : R ≤ W.heap.size) (hl : l.length < 1000000) :
    ∃ v' W', (Builtin.append_ #[56, 56] 56 #[v, .slice (some ⟨W.heap.size, 0, none⟩) 1 1]).run Try.prog (W.alloc (.cells #[.string y] 9 (0, 0))) = .ok v' W' ∧ SW W' R v' (l ++ [y]) ∧ Below R W W' := by
  have hba : Below W.heap.size W (W.alloc (.cells #[.string y] 9 (0, 0))) := (Below.refl _ _).alloc (Nat.le_refl _) _
  obtain ⟨v', W', h1, h2, h3, -⟩ := add_rows str_rowy R _ v l.length (l.map .string) (own_after h hba) W.heap.size 0 1 1 [.string y] rfl
    (fun j u hu => by
      rw [Nat.zero_add, cell_of_row _ _ _ _ _ _ (heap_alloc_new W _), ← Array.getElem?_toList]
      exact hu) (fun u hu => by
        obtain rfl : u = .string y := by simpa using hu
        rfl) (by omega) (by simp only [World.size_alloc]; omega) 56
  refine ⟨v', W', h1, ?_, (hba.mono hR).trans h3⟩
  unfold SW
  rw [List.length_append, List.map_append]
  exact h2
theorem SW.strIn {W : World} {R : Nat} {s : Sl} {l : List ByteArray} (h : SW W R (encSl s) l) : StrIn W s l := by
  refine ⟨(own_view h).1, ?_⟩
  rcases h.2 with ⟨h1, h2⟩ | ⟨g, cap, cur, h1, h2, h3, h4, h5, h6, h7⟩
  · exact .inl (List.length_eq_zero_iff.1 h2)
  · unfold encSl at h1
    injection h1 with ho hn _
    exact .inr ⟨g, cur, ho, h3, by rw [← h7, Nat.mul_one]⟩
def stepW (s : ByteArray) (q : List ByteArray × Bool) (y : ByteArray) : List ByteArray × Bool := (q.1 ++ (if !q.2 && leB s y then [s] else []) ++ (if y = s then [] else [y]), q.2 || leB s y)
theorem fold_with (s : ByteArray) : ∀ (r : List ByteArray) (q : List ByteArray × Bool), (r.foldl (stepW s) q).1 ++ (if (r.foldl (stepW s) q).2 then [] else [s]) = q.1 ++ withN s q.2 r
  | [], q => by
    unfold withN
    rfl
  | y :: r, q => by
    rw [List.foldl_cons, fold_with s r]
    unfold stepW
    dsimp only
    rw [withN]
    simp only [List.append_assoc]
theorem fold_len (s : ByteArray) : ∀ (r : List ByteArray) (q : List ByteArray × Bool), (r.foldl (stepW s) q).1.length ≤ q.1.length + 2 * r.length
  | [], q => Nat.le_refl _
  | y :: r, q => by
    rw [List.foldl_cons]
    refine Nat.le_trans (fold_len s r _) ?_
    unfold stepW
    dsimp only
    rw [List.length_append, List.length_append, List.length_cons]
    have h1 : (if (!q.2 && leB s y) = true then [s] else []).length ≤ 1 := by split <;> simp
    have h2 : (if y = s then [] else [y]).length ≤ 1 := by split <;> simp
    omega
theorem fold_next {s : ByteArray} {l : List ByteArray} {j : Nat} {y : ByteArray} (h : l[j]? = some y) : (l.take (j + 1)).foldl (stepW s) ([], false) = stepW s ((l.take j).foldl (stepW s) ([], false)) y := by
  have hj := set_at h
  rw [List.take_succ_eq_append_getElem hj, List.foldl_append]
  have : l[j] = y := by rw [List.getElem?_eq_getElem hj] at h; exact Option.some.inj h
  rw [this]
  rfl
set_option maxRecDepth 100000 in
set_option maxHeartbeats 4000000 in
theorem rwithout_any (x : ByteArray) (s : Sl) (l : List ByteArray) (w : World) (hs : StrIn w s l) (hlen : l.length ≤ 1000) : Calls Try.prog 91 #[.slice s.o s.n s.c, .string x] w fun e w' => ∃ s' : Sl, e = .returned (.slice s'.o s'.n s'.c) ∧ StrIn w' s' (withoutN x l) ∧ Below w.heap.size w w' := by
  have HS := Lib.hid hs
  rw [hs.1]
  clear hs
  go_enter Try.func91, Try.ntmps91
  go_wp2
  go_loopw [5, 6] (fun lv iv wr => ∃ (j : Nat) (ov : Value), iv = .int .i64 (j : Int) ∧ ov = lv ∧ j ≤ l.length ∧ SW wr w.heap.size ov (withoutN x (l.take j)) ∧ Below w.heap.size w wr) (fun _ iv _ => l.length - (RowKit.intOf iv).toNat)
  case atStart => exact ⟨0, _, rfl, rfl, Nat.zero_le _, own_none _ _ _ _, Below.refl _ _⟩
  case round =>
    obtain ⟨j, ov, rfl, rfl, hj, hown, hlow⟩ := hrel
    have HO := Lib.hid hown
    have HW := Lib.hid hlow
    clear hown hlow
    by_cases hlt : j < l.length
    · have hlt' : (j : Int) < (l.length : Int) := by omega
      obtain ⟨y, hy⟩ : ∃ y, l[j]? = some y := ⟨_, List.getElem?_eq_getElem hlt⟩
      obtain ⟨g, cur, h1, -, h3⟩ := (HS.out.after HW.out).at hy
      rw [h1]
      have htk : l.take (j + 1) = l.take j ++ [y] := by
        rw [List.take_succ_eq_append_getElem hlt]
        rw [List.getElem?_eq_getElem hlt] at hy
        rw [Option.some.inj hy]
      have HT := Lib.hid htk
      clear htk hy h1
      by_cases hyx : y = x
      · have e1 : (y.toList == x.toList) = true := by rw [hyx]; exact beq_self_eq_true _
        have HN : Hid (SW wr w.heap.size ov (withoutN x (l.take (j + 1)))) := by
          show SW _ _ _ _
          rw [HT.out]
          unfold withoutN
          rw [List.filter_append, List.filter_cons_of_neg (by simpa using hyx), List.filter_nil, List.append_nil]
          exact HO.out
        go_wp2
        go_roundw
        case rel => exact ⟨j + 1, ov, by go_num, rfl, by omega, HN.out, HW.out⟩
        case measure => simp [RowKit.intOf]; omega
      · have e1 : (y.toList == x.toList) = false := by rw [eqB]; exact decide_eq_false hyx
        obtain ⟨v', W', hrun, hown2, hb2⟩ := add_str w.heap.size wr ov _ y HO.out HW.out.size (by
          have : (withoutN x (l.take j)).length ≤ (l.take j).length := List.length_filter_le _ _
          rw [List.length_take] at this
          omega)
        have HRUN := Lib.hid hrun
        have HSL := Lib.hid (run_str1 wr y)
        have HN : Hid (SW W' w.heap.size v' (withoutN x (l.take (j + 1)))) := by
          show SW _ _ _ _
          rw [HT.out]
          unfold withoutN
          rw [List.filter_append, List.filter_cons_of_pos (by simpa using hyx), List.filter_nil]
          exact hown2
        have HW2 := Lib.hid (HW.out.trans hb2)
        clear hrun hown2 hb2
        go_wp2_with (first | (refine wpList_got rfl (exec_slice0 HSL.out rfl rfl) ?_) | ((with_reducible refine wpList_app rfl rfl HRUN.out ?_ ?_ ?_); rfl; rfl))
        go_roundw
        case rel => exact ⟨j + 1, v', by go_num, rfl, by omega, HN.out, HW2.out⟩
        case measure => simp [RowKit.intOf]; omega
    · have hlt' : ¬ (j : Int) < (l.length : Int) := by omega
      have hE : j = l.length := by omega
      rw [hE, List.take_length] at HO
      obtain ⟨s', hs', -⟩ := own_sl HO.out
      have HX : Hid (ov = .slice s'.o s'.n s'.c ∧ StrIn wr s' (withoutN x l)) := by
        have h := HO.out
        rw [hs'] at h
        exact ⟨hs', SW.strIn h⟩
      clear hs' HO
      go_wp2
      go_ret
      exact ⟨s', by rw [← HX.out.1]; rfl, HX.out.2, HW.out⟩
set_option maxRecDepth 100000 in
set_option maxHeartbeats 8000000 in
theorem rwith_any (x : ByteArray) (s : Sl) (l : List ByteArray) (w : World) (hs : StrIn w s l) (hlen : l.length ≤ 1000) : Calls Try.prog 90 #[.slice s.o s.n s.c, .string x] w fun e w' => ∃ s' : Sl, e = .returned (.slice s'.o s'.n s'.c) ∧ StrIn w' s' (withN x false l) ∧ Below w.heap.size w w' := by
  have HS := Lib.hid hs
  rw [hs.1]
  clear hs
  go_enter Try.func90, Try.ntmps90
  go_wp2
  go_loopw [5, 6, 7] (fun lv pv iv wr => ∃ (j : Nat) (o : List ByteArray) (p : Bool) (ov : Value), iv = .int .i64 (j : Int) ∧ pv = .bool p ∧ ov = lv ∧ j ≤ l.length ∧ (l.take j).foldl (stepW x) ([], false) = (o, p) ∧ SW wr w.heap.size ov o ∧ Below w.heap.size w wr) (fun _ _ iv _ => l.length - (RowKit.intOf iv).toNat)
  case atStart => exact ⟨0, [], false, _, rfl, rfl, rfl, Nat.zero_le _, rfl, own_none _ _ _ _, Below.refl _ _⟩
  case round =>
    obtain ⟨j, o, p, ov, rfl, rfl, rfl, hj, hq, hown, hlow⟩ := hrel
    have HO := Lib.hid hown
    have HW := Lib.hid hlow
    have HQ := Lib.hid hq
    have HLN : Hid (o.length ≤ 2000) := by
      have h1 := fold_len x (l.take j) ([], false)
      rw [hq, List.length_take] at h1
      show o.length ≤ 2000
      have h2 : o.length ≤ 0 + 2 * min j l.length := h1
      omega
    clear hown hlow hq
    by_cases hlt : j < l.length
    · have hlt' : (j : Int) < (l.length : Int) := by omega
      obtain ⟨y, hy⟩ : ∃ y, l[j]? = some y := ⟨_, List.getElem?_eq_getElem hlt⟩
      obtain ⟨g, cur, h1, -, h3⟩ := (HS.out.after HW.out).at hy
      have HG := Lib.hid h1
      have HY := Lib.hid hy
      rw [h1]
      have HT := Lib.hid ((fold_next (s := x) hy).trans (by rw [HQ.out]))
      clear hy h1 HQ
      have HC : Hid (∀ W', Below w.heap.size w W' → W'.cell? ⟨g, j, none⟩ = some (.string y)) := fun W' hb => by
        obtain ⟨g', _, k1, -, k3⟩ := (HS.out.after hb).at HY.out
        rw [HG.out] at k1
        cases k1
        exact k3
      have keep : Hid (∀ (W' : World) (v' : Value) (b : Bool) (o' : List ByteArray), stepW x (o, p) y = (o', b) → SW W' w.heap.size v' o' → Below w.heap.size w W' → ∃ (j' : Nat) (o : List ByteArray) (p : Bool) (ov : Value), (Value.int .i64 ((j : Int) + 1)) = .int .i64 (j' : Int) ∧ (Value.bool b) = .bool p ∧ ov = v' ∧ j' ≤ l.length ∧ (l.take j').foldl (stepW x) ([], false) = (o, p) ∧ SW W' w.heap.size ov o ∧ Below w.heap.size w W') := fun W' v' b o' h1 h2 h3 => ⟨j + 1, o', b, v', by go_num, rfl, rfl, by omega, HT.out.trans h1, h2, h3⟩
      cases p with
      | true =>
        by_cases hyx : y = x
        · have e1 : (y.toList == x.toList) = true := by rw [hyx]; exact beq_self_eq_true _
          have HN := Lib.hid (keep.out wr ov true o (by unfold stepW; simp [hyx]) HO.out HW.out)
          go_wp2
          go_roundw
          case rel => exact HN.out
          case measure => simp [RowKit.intOf]; omega
        · have e1 : (y.toList == x.toList) = false := by rw [eqB]; exact decide_eq_false hyx
          obtain ⟨v', W', hrun, hown2, hb2⟩ := add_str w.heap.size wr ov _ y HO.out HW.out.size (by have := HLN.out; omega)
          have HRUN := Lib.hid hrun
          have HSL := Lib.hid (run_str1 wr y)
          have HN := Lib.hid (keep.out W' v' true (o ++ [y]) (by unfold stepW; simp [hyx]) hown2 (HW.out.trans hb2))
          clear hrun hown2 hb2
          go_wp2_with (first | (refine wpList_got rfl (exec_slice0 HSL.out rfl rfl) ?_) | ((with_reducible refine wpList_app rfl rfl HRUN.out ?_ ?_ ?_); rfl; rfl))
          go_roundw
          case rel => exact HN.out
          case measure => simp [RowKit.intOf]; omega
      | false =>
        cases hle : leB x y with
        | true =>
          obtain ⟨v1, W1, hrun1, hown1, hb1⟩ := add_str w.heap.size wr ov _ x HO.out HW.out.size (by have := HLN.out; omega)
          have hw1 := HW.out.trans hb1
          have c2 := HC.out W1 hw1
          have HRUN1 := Lib.hid hrun1
          have HSL1 := Lib.hid (run_str1 wr x)
          have hle2 : (Op.bytesLess x.toList y.toList || (x.toList == y.toList)) = true := hle
          by_cases hyx : y = x
          · have e1 : (y.toList == x.toList) = true := by rw [hyx]; exact beq_self_eq_true _
            have e2 : (x.toList == y.toList) = true := by rw [hyx]; exact beq_self_eq_true _
            have HN := Lib.hid (keep.out W1 v1 true (o ++ [x]) (by unfold stepW; simp [hyx]; rw [← hyx]; exact hyx ▸ hle) hown1 hw1)
            clear hrun1 hown1 hb1 hw1
            go_wp2_with (first | (refine wpList_got rfl (exec_slice0 HSL1.out rfl rfl) ?_) | ((with_reducible refine wpList_app rfl rfl HRUN1.out ?_ ?_ ?_); rfl; rfl))
            go_roundw
            case rel => exact HN.out
            case measure => simp [RowKit.intOf]; omega
          · have e1 : (y.toList == x.toList) = false := by rw [eqB]; exact decide_eq_false hyx
            have e2 : (x.toList == y.toList) = false := by rw [eqB]; exact decide_eq_false (fun e => hyx e.symm)
            have e3 : Op.bytesLess x.toList y.toList = true := by
              rw [e2, Bool.or_false] at hle2
              exact hle2
            obtain ⟨v2, W2, hrun2, hown2, hb2⟩ := add_str w.heap.size W1 v1 _ y hown1 hw1.size (by rw [List.length_append]; have := HLN.out; show o.length + 1 < _; omega)
            have HRUN2 := Lib.hid hrun2
            have HSL2 := Lib.hid (run_str1 W1 y)
            have HN := Lib.hid (keep.out W2 v2 true (o ++ [x] ++ [y]) (by unfold stepW; simp [hyx, hle]) hown2 (hw1.trans hb2))
            clear hrun1 hown1 hb1 hw1 hrun2 hown2 hb2 hle2
            go_wp2_with (first | (refine wpList_got rfl (exec_slice0 HSL1.out rfl rfl) ?_) | ((with_reducible refine wpList_app rfl rfl HRUN1.out ?_ ?_ ?_); rfl; rfl) | (refine wpList_got rfl (exec_slice0 HSL2.out rfl rfl) ?_) | ((with_reducible refine wpList_app rfl rfl HRUN2.out ?_ ?_ ?_); rfl; rfl))
            go_roundw
            case rel => exact HN.out
            case measure => simp [RowKit.intOf]; omega
        | false =>
          have hle2 : (Op.bytesLess x.toList y.toList || (x.toList == y.toList)) = false := hle
          have e3 : Op.bytesLess x.toList y.toList = false := (Bool.or_eq_false_iff.1 hle2).1
          have e2 : (x.toList == y.toList) = false := (Bool.or_eq_false_iff.1 hle2).2
          have hyx : ¬ y = x := fun e => by
            rw [e] at e2
            simp at e2
          have e1 : (y.toList == x.toList) = false := by rw [eqB]; exact decide_eq_false hyx
          obtain ⟨v', W', hrun, hown2, hb2⟩ := add_str w.heap.size wr ov _ y HO.out HW.out.size (by have := HLN.out; omega)
          have HRUN := Lib.hid hrun
          have HSL := Lib.hid (run_str1 wr y)
          have HN := Lib.hid (keep.out W' v' false (o ++ [y]) (by unfold stepW; simp [hyx, hle]) hown2 (HW.out.trans hb2))
          clear hrun hown2 hb2 hle2
          go_wp2_with (first | (refine wpList_got rfl (exec_slice0 HSL.out rfl rfl) ?_) | ((with_reducible refine wpList_app rfl rfl HRUN.out ?_ ?_ ?_); rfl; rfl))
          go_roundw
          case rel => exact HN.out
          case measure => simp [RowKit.intOf]; omega
    · have hlt' : ¬ (j : Int) < (l.length : Int) := by omega
      have hE : j = l.length := by omega
      rw [hE, List.take_length] at HQ
      have hfin := fold_with x l ([], false)
      rw [HQ.out] at hfin
      have hfin' : o ++ (if p then [] else [x]) = withN x false l := hfin
      cases p with
      | true =>
        obtain ⟨s', hs', -⟩ := own_sl HO.out
        have HX : Hid (ov = .slice s'.o s'.n s'.c ∧ StrIn wr s' (withN x false l)) := by
          have h := HO.out
          rw [hs'] at h
          have h5 : o = withN x false l := by rw [← hfin']; simp
          rw [h5] at h
          exact ⟨hs', SW.strIn h⟩
        clear hs' HO hfin hfin' HQ hE
        go_wp2
        go_ret
        exact ⟨s', by rw [← HX.out.1]; rfl, HX.out.2, HW.out⟩
      | false =>
        obtain ⟨v', W', hrun, hown2, hb2⟩ := add_str w.heap.size wr ov _ x HO.out HW.out.size (by have := HLN.out; omega)
        have HRUN := Lib.hid hrun
        have HSL := Lib.hid (run_str1 wr x)
        obtain ⟨s', hs', -⟩ := own_sl hown2
        have HX : Hid (v' = .slice s'.o s'.n s'.c ∧ StrIn W' s' (withN x false l)) := by
          have h := hown2
          rw [hs'] at h
          have h5 : o ++ [x] = withN x false l := hfin'
          rw [h5] at h
          exact ⟨hs', SW.strIn h⟩
        have HW2 := Lib.hid (HW.out.trans hb2)
        clear hs' HO hfin hfin' HQ hE hrun hown2 hb2
        go_wp2_with (first | (refine wpList_got rfl (exec_slice0 HSL.out rfl rfl) ?_) | ((with_reducible refine wpList_app rfl rfl HRUN.out ?_ ?_ ?_); rfl; rfl))
        go_ret
        exact ⟨s', by rw [← HX.out.1]; rfl, HX.out.2, HW2.out⟩
end Go.Proofs.Ytbgfccanbgpjiaa.O.I
namespace Go.Proofs.Ytbgfccanbgpjiaa.O.I
open Go Go.RowKit Go.Lib KM
attribute [local go_sem] Oper.semAt_some
def cellsF (x : DS) : Array Value := #[.string x.name, .int .i64 x.size, .int .u64 x.tag]
def encF (x : DS) : Value := .agg (cellsF x)
def BoxF (W : World) (b : Nat) (x : DS) : Prop := W.heap[b]? = some (.cells (cellsF x) 63 (0, 0))
theorem undF : Try.prog.underlying 63 = some (.struct (Try.prog.fieldsOf 63)) := by kernel_rfl
theorem sizeF : (Try.prog.info? 63).map (·.size) = some 3 := by kernel_rfl
theorem one_cellsF (x : DS) : (cellsF x).all (·.oneCell') = true := by simp [cellsF, Value.oneCell']
section
variable {W W' : World} {b : Nat} {x : DS}
theorem BoxF.lt (h : BoxF W b x) : b < W.heap.size := (Array.getElem?_eq_some_iff.1 h).1
theorem BoxF.after (h : BoxF W b x) (hb : Below W.heap.size W W') : BoxF W' b x := (hb.block b h.lt).trans h
theorem BoxF.c0 (h : BoxF W b x) : W.cell? ⟨b, 0, none⟩ = some (.string x.name) := (cell_of_row W b 0 _ _ _ h).trans rfl
theorem BoxF.c1 (h : BoxF W b x) : W.cell? ⟨b, 1, none⟩ = some (.int .i64 x.size) := (cell_of_row W b 1 _ _ _ h).trans rfl
theorem BoxF.c2 (h : BoxF W b x) : W.cell? ⟨b, 2, none⟩ = some (.int .u64 x.tag) := (cell_of_row W b 2 _ _ _ h).trans rfl
theorem BoxF.free (h : BoxF W b x) (i : Nat) : W.frozen? ⟨b, i, none⟩ = false := frozen_of_row W b i _ _ h
theorem loadF (h : BoxF W b x) {oi : Oper} {a : Act} {p : Operand} (ho : oi.op = .load 63 p) (hx : a.eval p = .pointer (some ⟨b, 0, none⟩)) : (execOp a.eval oi).run Try.prog W = .ok (.value (encF x)) W := by
  unfold execOp
  simp only [ho, hx, Instr.loadAt, Instr.sureAddr, Sem.run_bind, Sem.run_pure, Result.andThen_ok, run_loadVar_row W b 63 63 (cellsF x) (0, 0) _ h undF rfl sizeF]
  rfl
end
theorem stoF {W : World} {b : Nat} {p : DS} (h0 : BoxF W b p) (x : DS) : ∃ V, (∀ {oi : Oper} {a : Act} {p q : Operand}, oi.op = .store 63 p q → a.eval p = .pointer (some ⟨b, 0, none⟩) → a.eval q = encF x → (execOp a.eval oi).run Try.prog W = .ok .skip V) ∧
    BoxF V b x ∧ (∀ g, g ≠ b → V.heap[g]? = W.heap[g]?) ∧ (∀ B A, Below B A W → B ≤ b → Below B A V) := by
  refine ⟨W.setRow b (cellsF x), fun {oi a p q} ho hp hq => ?_, setRow_heap _ _ _ _ _ _ h0, fun g hg => setRow_other W b g _ hg, fun _ _ h1 h2 => below_setRow h1 h2 _⟩
  have h1 := run_storeVar_row (P := Try.prog) W b 63 63 _ (cellsF x) h0 sizeF rfl (one_cellsF x)
  unfold execOp
  have hq' : a.eval q = .agg (cellsF x) := hq
  simp [ho, hp, hq', Instr.storeAt, Instr.sureAddr, h1, Result.andThen]
abbrev DVS := DV × Sl
def cellsY (x : DVS) : Array Value := #[.string x.1.name, .int .i64 x.1.size, .string x.1.zone, .int .u64 x.1.tag, .slice x.2.o x.2.n x.2.c]
def encY (x : DVS) : Value := .agg (cellsY x)
def BoxY (W : World) (b : Nat) (x : DVS) : Prop := W.heap[b]? = some (.cells (cellsY x) 58 (0, 0))
theorem undY : Try.prog.underlying 58 = some (.struct (Try.prog.fieldsOf 58)) := by kernel_rfl
theorem sizeY : (Try.prog.info? 58).map (·.size) = some 5 := by kernel_rfl
theorem one_cellsY (x : DVS) : (cellsY x).all (·.oneCell') = true := by simp [cellsY, Value.oneCell']
section
variable {W W' : World} {b : Nat} {x : DVS}
theorem BoxY.lt (h : BoxY W b x) : b < W.heap.size := (Array.getElem?_eq_some_iff.1 h).1
theorem BoxY.after (h : BoxY W b x) (hb : Below W.heap.size W W') : BoxY W' b x := (hb.block b h.lt).trans h
theorem BoxY.c0 (h : BoxY W b x) : W.cell? ⟨b, 0, none⟩ = some (.string x.1.name) := (cell_of_row W b 0 _ _ _ h).trans rfl
theorem BoxY.c1 (h : BoxY W b x) : W.cell? ⟨b, 1, none⟩ = some (.int .i64 x.1.size) := (cell_of_row W b 1 _ _ _ h).trans rfl
theorem BoxY.c2 (h : BoxY W b x) : W.cell? ⟨b, 2, none⟩ = some (.string x.1.zone) := (cell_of_row W b 2 _ _ _ h).trans rfl
theorem BoxY.c3 (h : BoxY W b x) : W.cell? ⟨b, 3, none⟩ = some (.int .u64 x.1.tag) := (cell_of_row W b 3 _ _ _ h).trans rfl
theorem BoxY.c4 (h : BoxY W b x) : W.cell? ⟨b, 4, none⟩ = some (.slice x.2.o x.2.n x.2.c) := (cell_of_row W b 4 _ _ _ h).trans rfl
theorem BoxY.free (h : BoxY W b x) (i : Nat) : W.frozen? ⟨b, i, none⟩ = false := frozen_of_row W b i _ _ h
theorem loadY (h : BoxY W b x) {oi : Oper} {a : Act} {p : Operand} (ho : oi.op = .load 58 p) (hx : a.eval p = .pointer (some ⟨b, 0, none⟩)) : (execOp a.eval oi).run Try.prog W = .ok (.value (encY x)) W := by
  unfold execOp
  simp only [ho, hx, Instr.loadAt, Instr.sureAddr, Sem.run_bind, Sem.run_pure, Result.andThen_ok, run_loadVar_row W b 58 58 (cellsY x) (0, 0) _ h undY rfl sizeY]
  rfl
end
theorem stoY {W : World} {b : Nat} {p : DVS} (h0 : BoxY W b p) (x : DVS) : ∃ V, (∀ {oi : Oper} {a : Act} {p q : Operand}, oi.op = .store 58 p q → a.eval p = .pointer (some ⟨b, 0, none⟩) → a.eval q = encY x → (execOp a.eval oi).run Try.prog W = .ok .skip V) ∧
    BoxY V b x ∧ (∀ g, g ≠ b → V.heap[g]? = W.heap[g]?) ∧ (∀ B A, Below B A W → B ≤ b → Below B A V) := by
  refine ⟨W.setRow b (cellsY x), fun {oi a p q} ho hp hq => ?_, setRow_heap _ _ _ _ _ _ h0, fun g hg => setRow_other W b g _ hg, fun _ _ h1 h2 => below_setRow h1 h2 _⟩
  have h1 := run_storeVar_row (P := Try.prog) W b 58 58 _ (cellsY x) h0 sizeY rfl (one_cellsY x)
  unfold execOp
  have hq' : a.eval q = .agg (cellsY x) := hq
  simp [ho, hp, hq', Instr.storeAt, Instr.sureAddr, h1, Result.andThen]
theorem boxY (W : World) {z : Array Value} (y : DVS) (hz : z = cellsY y) (x : DVS) : ∃ V, (∀ {oi : Oper} {a : Act} {p q : Operand}, oi.op = .store 58 p q → a.eval p = .pointer (some ⟨W.heap.size, 0, none⟩) → a.eval q = encY x → (execOp a.eval oi).run Try.prog (W.alloc (.cells z 58 (0, 0))) = .ok .skip V) ∧
    BoxY V W.heap.size x ∧ Below W.heap.size W V := by
  subst hz
  obtain ⟨V, h1, h2, -, h3⟩ := stoY (show BoxY (W.alloc (.cells (cellsY y) 58 (0, 0))) W.heap.size y from heap_alloc_new W _) x
  exact ⟨V, h1, h2, h3 _ _ ((Below.refl _ _).alloc (Nat.le_refl _) _) (Nat.le_refl _)⟩
def zeroF : DS := ⟨E0, 0, 0⟩
def zeroY : DVS := (⟨E0, 0, E0, 0, []⟩, nilS)
section
variable {R : Nat} {W V : World} {q : Nat} {S : St} {rd : Rd} {L : List (DV × Sl)}
theorem RAt.drew (h : RAt R W q S rd L) : RAt R W.drew q S rd L := ⟨h.low, h.box, h.zones, ⟨h.vols.1, fun p hp => h.vols.2 p hp⟩, h.told, h.snaps, h.seen, h.few⟩
theorem own_keep {R k n b : Nat} {e t : TypeId} {v : Value} {xs : List Value} {c : Array Value} {f : Nat × Nat} (h : W.ownsRow R e k v n xs) (hb : W.heap[b]? = some (Go.Obj.cells c t f)) (hne : t ≠ e) (hk : ∀ g, g ≠ b → V.heap[g]? = W.heap[g]?) : V.ownsRow R e k v n xs := by
  refine ⟨h.1, ?_⟩
  rcases h.2 with h1 | ⟨g', cap, cur, h1, h2, h3, h4⟩
  · exact .inl h1
  · exact .inr ⟨g', cap, cur, h1, h2, (hk g' (kind_neF h3 hb (Ne.symm hne))).trans h3, h4⟩
theorem StrIn.keep {b : Nat} {t : TypeId} {s : Sl} {l : List ByteArray} {c : Array Value} {f : Nat × Nat} (h : StrIn W s l) (hb : W.heap[b]? = some (Go.Obj.cells c t f)) (hne : t ≠ 9) (hk : ∀ g, g ≠ b → V.heap[g]? = W.heap[g]?) : StrIn V s l :=
  h.stay fun g _ hg => (hk g (kind_neF hg hb (Ne.symm hne))).trans hg
theorem RAt.keep (h : RAt R W q S rd L) {b : Nat} {c : Array Value} {t : TypeId} {f : Nat × Nat} (hb : W.heap[b]? = some (Go.Obj.cells c t f)) (ht : t ≠ 42 ∧ t ≠ 58 ∧ t ≠ 63 ∧ t ≠ 121 ∧ t ≠ 9 ∧ t ≠ 87) (hk : ∀ g, g ≠ b → V.heap[g]? = W.heap[g]?) : RAt R V q S rd L :=
  ⟨h.low, (hk q (kind_neF h.box hb (Ne.symm ht.2.2.2.2.2))).trans h.box, own_keep h.zones hb ht.1 hk, ⟨own_keep h.vols.1 hb ht.2.1 hk, fun p hp => (h.vols.2 p hp).keep hb ht.2.2.2.2.1 hk⟩, h.told, own_keep h.snaps hb ht.2.2.1 hk, own_keep h.seen hb ht.2.2.2.1 hk, h.few⟩
theorem DocStay.sto {U : World} {b : Nat} (h : DocStay R W V) (hk : ∀ g, g ≠ b → U.heap[g]? = V.heap[g]?) (hl : ∀ B A, Below B A V → B ≤ b → Below B A U) (hb : W.heap.size ≤ b) (hR : R ≤ W.heap.size) : DocStay R W U :=
  ⟨hl _ _ h.1 (by omega), fun g hg hs => (hk g (by omega)).trans (h.2 g hg hs)⟩
theorem DocStay.after {U : World} (h : DocStay R W V) (hb : Below V.heap.size V U) (hR : R ≤ W.heap.size) : DocStay R W U := h.trans (DocStay.of_below hb (by have := h.1.size; omega))
end
theorem loadF_at {W : World} {g k : Nat} {x : DS} (h : World.rangeAt W g k (cellsDS x).toList) {oi : Oper} {a : Act} {p : Operand} (ho : oi.op = .load 63 p) (hx : a.eval p = .pointer (some ⟨g, k, none⟩)) : (execOp a.eval oi).run Try.prog W = .ok (.value (encF x)) W := by
  have h1 := run_loadAt_mid (P := Try.prog) W g k 63 (cellsDS x).toList _ h undF rfl sizeF
  unfold execOp
  simp only [ho, hx, Sem.run_bind, h1, Result.andThen_ok, Sem.run_pure]
  rfl
theorem loadY_at {W : World} {g k : Nat} {x : DV} {s : Sl} (h : World.rangeAt W g k (cellsDV x s).toList) {oi : Oper} {a : Act} {p : Operand} (ho : oi.op = .load 58 p) (hx : a.eval p = .pointer (some ⟨g, k, none⟩)) : (execOp a.eval oi).run Try.prog W = .ok (.value (encY (x, s))) W := by
  have h1 := run_loadAt_mid (P := Try.prog) W g k 58 (cellsDV x s).toList _ h undY rfl sizeY
  unfold execOp
  simp only [ho, hx, Sem.run_bind, h1, Result.andThen_ok, Sem.run_pure]
  rfl
theorem undE : Try.prog.underlying 121 = some (.struct (Try.prog.fieldsOf 121)) := by kernel_rfl
theorem sizeE : (Try.prog.info? 121).map (·.size) = some 11 := by kernel_rfl
theorem loadE_at {W : World} {g k : Nat} {x : Cl × Rs} (h : World.rangeAt W g k (cellsE x).toList) {oi : Oper} {a : Act} {p : Operand} (ho : oi.op = .load 121 p) (hx : a.eval p = .pointer (some ⟨g, k, none⟩)) : (execOp a.eval oi).run Try.prog W = .ok (.value (.agg (cellsE x))) W := by
  have h1 := run_loadAt_mid (P := Try.prog) W g k 121 (cellsE x).toList _ h undE rfl sizeE
  unfold execOp
  simp only [ho, hx, Sem.run_bind, h1, Result.andThen_ok, Sem.run_pure]
theorem add_snap (R : Nat) (W : World) (v : Value) (l : List DS) (y : DS) (h : W.ownsRow R 63 3 v l.length (catS l)) (hR : R ≤ W.heap.size) (hl : l.length < 1000000) :
    ∃ v' W', (Builtin.append_ #[45, 45] 45 #[v, .slice (some ⟨W.heap.size, 0, none⟩) 1 1]).run Try.prog (W.alloc (.cells (cellsDS y) 63 (0, 0))) = .ok v' W' ∧ W'.ownsRow R 63 3 v' (l ++ [y]).length (catS (l ++ [y])) ∧ Below R W W' := by
  have hba : Below W.heap.size W (W.alloc (.cells (cellsDS y) 63 (0, 0))) := (Below.refl _ _).alloc (Nat.le_refl _) _
  obtain ⟨v', W', h1, h2, h3, -⟩ := add_rows snap_rowy R _ v l.length (catS l) (own_after h hba) W.heap.size 0 1 1 (cellsDS y).toList rfl
    (fun j u hu => by
      rw [Nat.zero_add, cell_of_row _ _ _ _ _ _ (heap_alloc_new W _), ← Array.getElem?_toList]
      exact hu) (one_cellsDS y) (by omega) (by simp only [World.size_alloc]; omega) 45
  refine ⟨v', W', h1, ?_, (hba.mono hR).trans h3⟩
  rw [List.length_append, catS_app, show catS [y] = (cellsDS y).toList by unfold catS; simp]
  exact h2
theorem add_vol (R : Nat) (W : World) (v : Value) (l : List DVS) (y : DVS) (h : W.ownsRow R 58 5 v l.length (catW l)) (hR : R ≤ W.heap.size) (hl : l.length < 1000000) :
    ∃ v' W', (Builtin.append_ #[43, 43] 43 #[v, .slice (some ⟨W.heap.size, 0, none⟩) 1 1]).run Try.prog (W.alloc (.cells (cellsY y) 58 (0, 0))) = .ok v' W' ∧ W'.ownsRow R 58 5 v' (l ++ [y]).length (catW (l ++ [y])) ∧ Below R W W' := by
  have hba : Below W.heap.size W (W.alloc (.cells (cellsY y) 58 (0, 0))) := (Below.refl _ _).alloc (Nat.le_refl _) _
  obtain ⟨v', W', h1, h2, h3, -⟩ := add_rows vol_rowy R _ v l.length (catW l) (own_after h hba) W.heap.size 0 1 1 (cellsY y).toList rfl
    (fun j u hu => by
      rw [Nat.zero_add, cell_of_row _ _ _ _ _ _ (heap_alloc_new W _), ← Array.getElem?_toList]
      exact hu) (one_cellsDV y.1 y.2) (by omega) (by simp only [World.size_alloc]; omega) 43
  refine ⟨v', W', h1, ?_, (hba.mono hR).trans h3⟩
  rw [List.length_append, catW_app, show catW [y] = (cellsY y).toList by unfold catW cellsY cellsDV; simp]
  exact h2
theorem done_rowy : Rowy 85 121 11 (.agg (cellsE (zeroC, zeroR))) := by
  refine ⟨Try.underlying85, by rfl, by decide, ?_⟩
  have h : (Try.prog.info? 121).map (fun i => (i.zero, i.size, decide (i.bytes ≤ 1000))) = some (some (.agg (cellsE (zeroC, zeroR))), 11, true) := by kernel_rfl
  cases hi : Try.prog.info? 121 with
  | none => rw [hi] at h; cases h
  | some i =>
    rw [hi] at h
    simp only [Option.map_some, Option.some.injEq, Prod.mk.injEq] at h
    exact ⟨i, rfl, h.1, h.2.1, of_decide_eq_true h.2.2⟩
theorem one_cellsE (x : Cl × Rs) : ∀ u ∈ (cellsE x).toList, u.oneCell' = true := fun u hu => by
  have h' : u ∈ [Value.int .u8 x.1.verb, .string x.1.target, .int .u64 x.1.num, .int .i64 x.1.size, .string x.1.zone, .string x.1.node, .string x.1.source, .int .i64 x.2.err, .int .i64 x.2.size, .string x.2.zone, .int .u64 x.2.tag] := hu
  simp only [List.mem_cons, List.not_mem_nil, or_false] at h'
  rcases h' with rfl | rfl | rfl | rfl | rfl | rfl | rfl | rfl | rfl | rfl | rfl <;> rfl
theorem add_done (R : Nat) (W : World) (v : Value) (l : List (Cl × Rs)) (y : Cl × Rs) (h : W.ownsRow R 121 11 v l.length (catE l)) (hR : R ≤ W.heap.size) (hl : l.length < 1000000) :
    ∃ v' W', (Builtin.append_ #[85, 85] 85 #[v, .slice (some ⟨W.heap.size, 0, none⟩) 1 1]).run Try.prog (W.alloc (.cells (cellsE y) 121 (0, 0))) = .ok v' W' ∧ W'.ownsRow R 121 11 v' (l ++ [y]).length (catE (l ++ [y])) ∧ Below R W W' := by
  have hba : Below W.heap.size W (W.alloc (.cells (cellsE y) 121 (0, 0))) := (Below.refl _ _).alloc (Nat.le_refl _) _
  obtain ⟨v', W', h1, h2, h3, -⟩ := add_rows done_rowy R _ v l.length (catE l) (own_after h hba) W.heap.size 0 1 1 (cellsE y).toList rfl
    (fun j u hu => by
      rw [Nat.zero_add, cell_of_row _ _ _ _ _ _ (heap_alloc_new W _), ← Array.getElem?_toList]
      exact hu) (one_cellsE y) (by omega) (by simp only [World.size_alloc]; omega) 85
  refine ⟨v', W', h1, ?_, (hba.mono hR).trans h3⟩
  rw [List.length_append, catE_app, show catE [y] = (cellsE y).toList by unfold catE; simp]
  exact h2
theorem run_ds1 (W : World) (y : DS) : (Instr.buildSlice 45 1 #[(0, encF y)]).run Try.prog W = .ok (.slice (some ⟨W.heap.size, 0, none⟩) 1 1) (W.alloc (.cells (cellsDS y) 63 (0, 0))) := by kernel_rfl
theorem run_y1 (W : World) (y : DVS) : (Instr.buildSlice 43 1 #[(0, encY y)]).run Try.prog W = .ok (.slice (some ⟨W.heap.size, 0, none⟩) 1 1) (W.alloc (.cells (cellsY y) 58 (0, 0))) := by kernel_rfl
theorem run_e1 (W : World) (y : Cl × Rs) : (Instr.buildSlice 85 1 #[(0, .agg (cellsE y))]).run Try.prog W = .ok (.slice (some ⟨W.heap.size, 0, none⟩) 1 1) (W.alloc (.cells (cellsE y) 121 (0, 0))) := by kernel_rfl
def RQ (R : Nat) (W : World) (q : Nat) (res : Rs × Core) (seen : List (Cl × Rs)) (e : Ending) (V : World) : Prop := e = .returned (encR res.1) ∧ (∃ rd' L', RAt R V q ⟨res.2, seen⟩ rd' L') ∧ DocStay R W V
end Go.Proofs.Ytbgfccanbgpjiaa.O.I
