/- The document's insert: one text more among some that rise; its has. -/
import Derived.Test.YtigoghhjncpgfaaAVl
namespace Go.Proofs.Ytigoghhjncpgfaa.O.B
open Go Go.RowKit Go.Shelf Go.Lib KM
attribute [local go_sem] Oper.semAt_some

def ltB (a b : ByteArray) : Bool := decide (a.data.toList < b.data.toList)
theorem ltB_irr (a : ByteArray) : ltB a a = false := decide_eq_false (List.lt_irrefl _)
/-- One text more, as the document puts it in. -/
def insB (L : List ByteArray) (s : ByteArray) : List ByteArray := L.takeWhile (fun x => ltB x s) ++ s :: (L.dropWhile fun x => ltB x s).filter fun x => decide (x ≠ s)
/-- Is its place found? -/
def plc (L : List ByteArray) (s : ByteArray) : Bool := L.any fun x => !ltB x s
def outI (L : List ByteArray) (s : ByteArray) : List ByteArray := if plc L s = true then insB L s else L
theorem insB_cons (y : ByteArray) (r : List ByteArray) (s : ByteArray) : insB (y :: r) s = if ltB y s = true then y :: insB r s else s :: (y :: r).filter fun x => decide (x ≠ s) := by
  unfold insB
  rw [List.takeWhile_cons, List.dropWhile_cons]
  cases ltB y s <;> rfl
theorem insB_low : ∀ (L : List ByteArray) (s : ByteArray), plc L s = false → insB L s = L ++ [s]
  | [], s, _ => rfl
  | y :: r, s, h => by
    unfold plc at h
    rw [List.any_cons, Bool.or_eq_false_iff] at h
    have h1 : ltB y s = true := by simpa using h.1
    rw [insB_cons, if_pos h1, insB_low r s h.2]
    rfl
theorem insB_app : ∀ (L : List ByteArray) (s x : ByteArray), insB (L ++ [x]) s = if plc L s = true then insB L s ++ [x].filter (fun y => decide (y ≠ s)) else if ltB x s = true then L ++ [x, s] else L ++ (s :: [x].filter fun y => decide (y ≠ s))
  | [], s, x => by
    rw [List.nil_append, insB_cons]
    cases ltB x s <;> rfl
  | y :: r, s, x => by
    rw [List.cons_append, insB_cons]
    have hp : plc (y :: r) s = (!ltB y s || plc r s) := rfl
    rw [hp, insB_cons, insB_app r s x]
    cases ltB y s with
    | false => simp [List.filter_cons]; split <;> simp_all
    | true => cases plc r s <;> cases ltB x s <;> simp
theorem plc_app (L : List ByteArray) (s x : ByteArray) : plc (L ++ [x]) s = (plc L s || !ltB x s) := by simp [plc]
theorem out_lt {L : List ByteArray} {s x : ByteArray} (h : plc L s = false) (hx : ltB x s = true) : plc (L ++ [x]) s = false ∧ outI (L ++ [x]) s = outI L s ++ [x] := by
  have e := plc_app L s x
  rw [h, hx] at e
  refine ⟨e, ?_⟩
  unfold outI
  rw [h, show plc (L ++ [x]) s = false from e]
  rfl
theorem out_at {L : List ByteArray} {s x : ByteArray} (h : plc L s = false) (hx : ltB x s = false) : plc (L ++ [x]) s = true ∧ outI (L ++ [x]) s = (outI L s ++ [s]) ++ [x].filter fun y => decide (y ≠ s) := by
  have e := plc_app L s x
  rw [h, hx] at e
  refine ⟨e, ?_⟩
  unfold outI
  rw [h, show plc (L ++ [x]) s = true from e, if_pos rfl, insB_app, h, hx]
  simp
theorem out_past {L : List ByteArray} {s x : ByteArray} (h : plc L s = true) : plc (L ++ [x]) s = true ∧ outI (L ++ [x]) s = outI L s ++ [x].filter fun y => decide (y ≠ s) := by
  have e := plc_app L s x
  rw [h] at e
  refine ⟨e, ?_⟩
  unfold outI
  rw [h, show plc (L ++ [x]) s = true from e, if_pos rfl, if_pos rfl, insB_app, h, if_pos rfl]
theorem outI_len (L : List ByteArray) (s : ByteArray) : (outI L s).length ≤ L.length + 1 := by
  unfold outI
  split
  · unfold insB
    have h := List.takeWhile_append_dropWhile (p := fun x => ltB x s) (l := L)
    have h2 := congrArg List.length h
    rw [List.length_append] at h2
    rw [List.length_append, List.length_cons]
    have := List.length_filter_le (fun x => decide (x ≠ s)) (L.dropWhile fun x => ltB x s)
    omega
  · omega
theorem keys_ins (L : List ByteArray) (s : ByteArray) : keysB (insB L s) = insS (keysB L) s.data.toList := by
  unfold insB insS keysB
  rw [List.map_append, List.map_cons, List.takeWhile_map, List.dropWhile_map, List.filter_map]
  congr 2
  congr 1
  refine List.filter_congr fun x _ => ?_
  show decide (x ≠ s) = decide (x.data.toList ≠ s.data.toList)
  rw [decide_eq_decide]
  exact not_congr ⟨fun e => by rw [e], fun e => ba_ext e⟩
theorem mk_keys (L : List ByteArray) : (keysB L).map mkB = L := by
  unfold keysB
  rw [List.map_map]
  exact (List.map_congr_left (fun a _ => mkB_key a)).trans (List.map_id' L)
theorem fold_ins (xs : List ByteArray) : ∀ acc : List ByteArray, keysB (xs.foldl insB acc) = (keysB xs).foldl insS (keysB acc) := by
  induction xs with
  | nil => intro acc; rfl
  | cons x r ih => intro acc; rw [List.foldl_cons, ih, keys_ins]; rfl
/-- All put in, one behind the other: texts that rise, each once. -/
theorem ris_fold (xs : List ByteArray) : xs.foldl insB [] = risB xs := by
  rw [← mk_keys (xs.foldl insB []), fold_ins]
  rfl
theorem list_ne {x s : ByteArray} (h : x ≠ s) : (x.toList == s.toList) = false := by
  rw [beq_eq_false_iff_ne]
  intro e
  rw [Lib.toList_data, Lib.toList_data] at e
  exact h (ba_ext e)
theorem list_eq {x s : ByteArray} (h : x = s) : (x.toList == s.toList) = true := by rw [h]; exact beq_self_eq_true _
theorem wpList_addS {ops : Array Oper} {rest : List Oper} {oi : Oper} {a : Act} {W W' : World} {sl v : Value} {m c : Nat} {ad : Addr} {p r : Operand} {Q : Exit → Act → World → Prop} (hg : oi.guard = none) (ho : oi.op = .call { callee := .builtin .append, args := #[p, r], argTypes := #[26, 26] })
    (h : (Builtin.append_ #[26, 26] oi.type #[sl, .slice (some ad) m c]).run Try.prog W = .ok v W') (hp : a.eval p = sl) (hr : a.eval r = .slice (some ad) m c) (hn : wpList Try.prog ops Q rest (a.put oi.dst v) W') : wpList Try.prog ops Q (oi :: rest) a W := by
  refine wpList_runs hg ?_ hn
  unfold execOp
  simp [ho, resolve, invoke, builtin, hp, hr, h, Result.andThen]

set_option maxRecDepth 100000 in
set_option maxHeartbeats 4000000 in
theorem insert_any (L : List ByteArray) (v : Value) (s : ByteArray) (B : Nat) (w : World) (h : TxtIn w B v L) (hn : L.length < 99990) :
    Calls Try.prog 32 #[v, .string s] w fun e w' => ∃ v', e = .returned v' ∧ TxtIn w' w.heap.size v' (insB L s) ∧ Below w.heap.size w w' := by
  have HH := Lib.hid h
  obtain ⟨o, c, rfl, -⟩ := h.cells
  have HN := Lib.hid hn
  have hn' : L.length ≤ 9223372036854775807 := by omega
  clear h hn
  go_enter Try.func32, Try.ntmps32
  go_wp2
  go_loopw [5, 6, 7] (fun ov pv iv wr => ∃ (j : Nat) (p : Bool) (sv : Value), iv = .int .i64 (j : Int) ∧ pv = .bool p ∧ sv = ov ∧ p = plc (L.take j) s ∧ j ≤ L.length ∧ TxtIn wr w.heap.size sv (outI (L.take j) s) ∧ Below w.heap.size w wr) (fun _ _ iv _ => L.length - (RowKit.intOf iv).toNat)
  case atStart => exact ⟨0, false, _, rfl, rfl, rfl, rfl, Nat.zero_le _, TxtIn.empty _ _, Below.refl _ _⟩
  case round =>
    obtain ⟨j, p, sv, rfl, rfl, rfl, hp, hj, hout, hlow⟩ := hrel
    have HOUT := Lib.hid hout
    have HLOW := Lib.hid hlow
    have HP := Lib.hid hp.symm
    have HLEN : Hid ((outI (L.take j) s).length + 1 < 100000) := by
      have h1 := outI_len (L.take j) s
      have h2 := HN.out
      rw [List.length_take] at h1
      show _ < _
      omega
    clear hp hout hlow
    by_cases hlt : j < L.length
    · have hlt' : (j : Int) < (L.length : Int) := by omega
      obtain ⟨o', c', he, hx⟩ := (HH.out.after HLOW.out).cells
      cases he
      obtain ⟨g, rfl, hg, hc⟩ := hx j hlt
      obtain ⟨x, hxe⟩ : ∃ x, L[j] = x := ⟨_, rfl⟩
      rw [hxe] at hc
      have HC := Lib.hid hc
      have htk : L.take (j + 1) = L.take j ++ [x] := by rw [List.take_succ_eq_append_getElem hlt, hxe]
      have HTK := Lib.hid htk
      have HX := Lib.hid hxe
      clear hx hxe hc htk
      obtain ⟨acc, hacc⟩ : ∃ acc, L.take j = acc := ⟨_, rfl⟩
      rw [hacc] at HTK HLEN HOUT HP
      clear hacc
      have hk := less_keys s x
      have hg' := hg
      cases hpl : p with
      | true =>
        subst hpl
        obtain ⟨q1, q2⟩ := out_past (x := x) HP.out
        have Q1 := Lib.hid q1
        have Q2 := Lib.hid q2
        clear q1 q2 hk HP
        by_cases hxs : x = s
        · have hxs' := list_eq hxs
          have hxt := list_eq (Eq.symm hxs)
          have hf : [x].filter (fun y => decide (y ≠ s)) = [] := by simp [hxs]
          rw [hf, List.append_nil] at Q2
          have hc := HC.out
          go_wp2
          go_roundw
          case rel => exact ⟨j + 1, true, _, by go_num, rfl, rfl, by rw [HTK.out]; exact Q1.out.symm, by omega, by rw [HTK.out, Q2.out]; exact HOUT.out, HLOW.out⟩
          case measure => simp [RowKit.intOf]; omega
        · have hxs' := list_ne hxs
          have hxt := list_ne fun e => hxs (Eq.symm e)
          have hf : [x].filter (fun y => decide (y ≠ s)) = [x] := by simp [hxs]
          rw [hf] at Q2
          have hc := HC.out
          obtain ⟨v1, W1, hrun1, ho1, hb1, -⟩ := add_txt w.heap.size wr sv (outI acc s) x 26 HOUT.out HLOW.out.size (by have := HLEN.out; omega)
          have HO1 := Lib.hid ho1
          have HW1 := Lib.hid (HLOW.out.trans hb1)
          have HRUN1 := Lib.hid hrun1
          clear ho1 hb1 hrun1
          go_wp2_with (first | ((with_reducible refine wpList_addS rfl rfl HRUN1.out ?_ ?_ ?_); rfl; rfl))
          go_roundw
          case rel => exact ⟨j + 1, _, _, by go_num, rfl, rfl, by rw [HTK.out]; exact Q1.out.symm, by omega, by rw [HTK.out, Q2.out]; exact HO1.out, HW1.out⟩
          case measure => simp [RowKit.intOf]; omega
      | false =>
        subst hpl
        cases hlx : ltB x s with
        | true =>
          obtain ⟨q1, q2⟩ := out_lt HP.out hlx
          have Q1 := Lib.hid q1
          have Q2 := Lib.hid q2
          have hxs : x ≠ s := fun e => by rw [e, ltB_irr] at hlx; cases hlx
          have hxs' := list_ne hxs
          have hxt := list_ne fun e => hxs (Eq.symm e)
          have hk2 : Op.bytesLess s.toList x.toList = false := hk.trans (decide_eq_false (List.lt_asymm (of_decide_eq_true hlx)))
          clear q1 q2 hk HP
          have hc := HC.out
          obtain ⟨v1, W1, hrun1, ho1, hb1, -⟩ := add_txt w.heap.size wr sv (outI acc s) x 26 HOUT.out HLOW.out.size (by have := HLEN.out; omega)
          have HO1 := Lib.hid ho1
          have HW1 := Lib.hid (HLOW.out.trans hb1)
          have HRUN1 := Lib.hid hrun1
          clear ho1 hb1 hrun1
          go_wp2_with (first | ((with_reducible refine wpList_addS rfl rfl HRUN1.out ?_ ?_ ?_); rfl; rfl))
          go_roundw
          case rel => exact ⟨j + 1, _, _, by go_num, rfl, rfl, by rw [HTK.out]; exact Q1.out.symm, by omega, by rw [HTK.out, Q2.out]; exact HO1.out, HW1.out⟩
          case measure => simp [RowKit.intOf]; omega
        | false =>
          obtain ⟨q1, q2⟩ := out_at HP.out hlx
          have Q1 := Lib.hid q1
          have Q2 := Lib.hid q2
          clear q1 q2 HP
          by_cases hxs : x = s
          · have hf : [x].filter (fun y => decide (y ≠ s)) = [] := by simp [hxs]
            rw [hf, List.append_nil] at Q2
            have hk2 : Op.bytesLess s.toList x.toList = false := hk.trans (by rw [hxs]; exact decide_eq_false (List.lt_irrefl _))
            clear hk
            have hxs' := list_eq hxs
            have hxt := list_eq (Eq.symm hxs)
            have hc := HC.out
            obtain ⟨v0, W0, hrun0, ho0, hb0, -⟩ := add_txt w.heap.size wr sv (outI acc s) s 26 HOUT.out HLOW.out.size (by have := HLEN.out; omega)
            have hw0 := HLOW.out.trans hb0
            obtain ⟨o2, c2, he2, hx2⟩ := (HH.out.after hw0).cells
            cases he2
            obtain ⟨g2, e2, -, hc2⟩ := hx2 j hlt
            cases e2
            rw [HX.out] at hc2
            have HO1 := Lib.hid ho0
            have HW1 := Lib.hid hw0
            have HRUN0 := Lib.hid hrun0
            clear ho0 hb0 hrun0 hw0 hx2
            go_wp2_with (first | ((with_reducible refine wpList_addS rfl rfl HRUN0.out ?_ ?_ ?_); rfl; rfl))
            go_roundw
            case rel => exact ⟨j + 1, _, _, by go_num, rfl, rfl, by rw [HTK.out]; exact Q1.out.symm, by omega, by rw [HTK.out, Q2.out]; exact HO1.out, HW1.out⟩
            case measure => simp [RowKit.intOf]; omega
          · have hxs' := list_ne hxs
            have hxt := list_ne fun e => hxs (Eq.symm e)
            have hf : [x].filter (fun y => decide (y ≠ s)) = [x] := by simp [hxs]
            rw [hf] at Q2
            have hk2 : Op.bytesLess s.toList x.toList = true := hk.trans (decide_eq_true (by
              rcases le_cases (List.not_lt.1 (of_decide_eq_false hlx)) with e | e
              · exact e
              · exact absurd (ba_ext e).symm hxs))
            clear hk
            have hc := HC.out
            obtain ⟨v0, W0, hrun0, ho0, hb0, -⟩ := add_txt w.heap.size wr sv (outI acc s) s 26 HOUT.out HLOW.out.size (by have := HLEN.out; omega)
            have hw0 := HLOW.out.trans hb0
            obtain ⟨o2, c2, he2, hx2⟩ := (HH.out.after hw0).cells
            cases he2
            obtain ⟨g2, e2, -, hc2⟩ := hx2 j hlt
            cases e2
            rw [HX.out] at hc2
            obtain ⟨v1, W1, hrun1, ho1, hb1, -⟩ := add_txt w.heap.size W0 v0 (outI acc s ++ [s]) x 26 ho0 hw0.size (by have := HLEN.out; rw [List.length_append]; show _ + 1 < _; omega)
            have HO1 := Lib.hid ho1
            have HW1 := Lib.hid (hw0.trans hb1)
            have HRUN1 := Lib.hid hrun1
            have HRUN0 := Lib.hid hrun0
            clear ho1 hb1 hrun1 ho0 hb0 hrun0 hw0 hx2
            go_wp2_with (first | ((with_reducible refine wpList_addS rfl rfl HRUN0.out ?_ ?_ ?_); rfl; rfl) | ((with_reducible refine wpList_addS rfl rfl HRUN1.out ?_ ?_ ?_); rfl; rfl))
            go_roundw
            case rel => exact ⟨j + 1, _, _, by go_num, rfl, rfl, by rw [HTK.out]; exact Q1.out.symm, by omega, by rw [HTK.out, Q2.out]; exact HO1.out, HW1.out⟩
            case measure => simp [RowKit.intOf]; omega
    · have hlt' : ¬ (j : Int) < (L.length : Int) := by omega
      have hE : L.take j = L := List.take_of_length_le (by omega)
      rw [hE] at HOUT HP HLEN
      cases hpl : p with
      | true =>
        subst hpl
        have hq : outI L s = insB L s := by unfold outI; rw [HP.out]; rfl
        rw [hq] at HOUT
        clear hE hq HP
        go_wp2
        go_ret
        exact ⟨_, rfl, HOUT.out, HLOW.out⟩
      | false =>
        subst hpl
        have hq : outI L s = L := by unfold outI; rw [HP.out]; rfl
        have hq2 := insB_low L s HP.out
        rw [hq] at HOUT HLEN
        have HQ2 := Lib.hid hq2
        obtain ⟨v1, W1, hrun1, ho1, hb1, -⟩ := add_txt w.heap.size wr sv L s 26 HOUT.out HLOW.out.size (by have := HLEN.out; omega)
        have HO1 := Lib.hid ho1
        have HW1 := Lib.hid (HLOW.out.trans hb1)
        have HRUN1 := Lib.hid hrun1
        clear hE hq hq2 HP ho1 hb1 hrun1
        go_wp2_with (first | ((with_reducible refine wpList_addS rfl rfl HRUN1.out ?_ ?_ ?_); rfl; rfl))
        go_ret
        exact ⟨_, rfl, by rw [HQ2.out]; exact HO1.out, HW1.out⟩
end Go.Proofs.Ytigoghhjncpgfaa.O.B
