/- Own work. -/
import Derived.Test.YtfndiocohaploaaTLJSZHeldBy
import Derived.Test.YtfndiocohaploaaTLJSZRangeRow
namespace Go.Proofs.Ytfndiocohaploaa.L
open Go Go.RowKit
open Go.Lib
def fill (D : Bytes) (k i : Nat) : Bytes := D.take (i * 64) ++ zs (k * 64 - (D.take (i * 64)).length)
theorem fill_length (D : Bytes) (k i : Nat) (h : i ≤ k) : (fill D k i).length = k * 64 := by
  unfold fill
  rw [List.length_append, zs_length, List.length_take]
  omega
theorem fill_zero (D : Bytes) (k : Nat) : fill D k 0 = zs (k * 64) := by simp [fill]
theorem fill_all (D : Bytes) (k : Nat) (h : D.length ≤ k * 64) : fill D k k = D ++ zs (k * 64 - D.length) := by
  unfold fill
  rw [List.take_of_length_le h]
theorem fill_step (D : Bytes) (k i : Nat) (hi : i < k) (h1 : i * 64 ≤ D.length) (h2 : D.length ≤ k * 64) : splice (fill D k i) (i * 64) ((D.drop (i * 64)).take 64) = fill D k (i + 1) := by
  have ht : (D.take (i * 64)).length = i * 64 := by rw [List.length_take]; omega
  have e3 : D.take ((i + 1) * 64) = D.take (i * 64) ++ (D.drop (i * 64)).take 64 := by rw [Nat.succ_mul, List.take_add]
  have hs : ((D.drop (i * 64)).take 64).length ≤ 64 := by rw [List.length_take]; omega
  unfold splice fill
  rw [e3, List.length_append, ht]
  generalize (D.drop (i * 64)).take 64 = C at *
  have e1 : (D.take (i * 64) ++ zs (k * 64 - i * 64)).take (i * 64) = D.take (i * 64) := by
    rw [List.take_append_of_le_length (by omega), List.take_of_length_le (by omega)]
  have e2 : (D.take (i * 64) ++ zs (k * 64 - i * 64)).drop (i * 64 + C.length) = zs (k * 64 - (i * 64 + C.length)) := by
    rw [List.drop_append, List.drop_of_length_le (by omega), List.nil_append, ht]
    unfold zs
    rw [List.drop_replicate]
    congr 1
    omega
  rw [e1, e2, List.append_assoc]
theorem fill_laid (l : Bytes) (n : Nat) (h : need l.length ≠ 0) : fill (head l n ++ l) (need l.length) (need l.length) = laid l n := by
  have := need_room h
  rw [fill_all _ _ (by rw [List.length_append, head_length]; omega)]
  unfold laid zs
  rw [List.length_append, head_length]
theorem splice_map {α β : Type} (f : α → β) (L : List α) (o : Nat) (C : List α) : splice (L.map f) o (C.map f) = (splice L o C).map f := by
  unfold splice
  rw [List.map_append, List.map_append, List.map_take, List.map_drop, List.length_map]
theorem make_blks (W : World) (n : Nat) (hn : n ≤ 1000) : ∃ W', (Instr.makeSlice 68 (.int .i64 (n : Int)) (.int .i64 (n : Int))).run Try.prog W = .ok (.slice (some ⟨W.heap.size, 0, none⟩) n n) W' ∧ BoxB W' W.heap.size t64 (zs (n * 64)) ∧ Below W.heap.size W W' := by
  obtain ⟨i, hi, hz, hs, hb⟩ := info_parts infoBlk
  have hmx : maxLen = 9223372036854775807 := rfl
  have hr := run_makeSlice (P := Try.prog) W 68 88 i _ sliceBlk' hi hz .i64 .i64 (n : Int) (n : Int) (by omega) (Int.le_refl _) (by rw [hs]; omega) (by rw [hb]; omega) (by omega)
  simp only [Int.toNat_natCast, hs] at hr
  have ez : ∀ n j : Nat, j < n → ((List.replicate n (0 : UInt8)).map bv).toArray[j]! = bv 0 := fun n j hj => by simp [hj]
  have e : madeCells (Value.agg ((List.replicate 64 (0 : UInt8)).map bv).toArray).cells (n * 64) = ((zs (n * 64)).map bv).toArray := by
    apply Array.ext_getElem?
    intro j
    unfold madeCells
    by_cases hj : j < n * 64
    · have h64 : j % 64 < 64 := Nat.mod_lt _ (by decide)
      have e1 := ez 64 (j % 64) h64
      have e0 : ((List.replicate 64 (0 : UInt8)).map bv).toArray.size = 64 := by rw [List.size_toArray, List.length_map, List.length_replicate]
      simp only [Value.cells]
      generalize ((List.replicate 64 (0 : UInt8)).map bv).toArray = Z at *
      simp [zs, hj, e0, e1]
    · simp only [Value.cells]
      simp [zs, hj]
  rw [e] at hr
  exact ⟨_, hr, heap_alloc_new W _, (Below.refl _ _).alloc (Nat.le_refl _) _⟩
theorem wpList_make_blks {ops : Array Oper} {rest : List Oper} {o : Oper} {a : Act} {W : World} {Q : Exit → Act → World → Prop} (hg : o.guard = none) (p q : Operand) (ho : o.op = .makeSlice 68 p q) (n : Nat) (hn : n ≤ 1000) (hp : a.eval p = .int .i64 (n : Int)) (hq : a.eval q = .int .i64 (n : Int))
    (h : ∀ W2, BoxB W2 W.heap.size t64 (zs (n * 64)) → Below W.heap.size W W2 → wpList Try.prog ops Q rest (a.put o.dst (.slice (some ⟨W.heap.size, 0, none⟩) n n)) W2) : wpList Try.prog ops Q (o :: rest) a W := by
  obtain ⟨W2, h1, h2, h3⟩ := make_blks W n hn
  refine wpList_plain hg fun K hK => ?_
  unfold Oper.wp execOp
  simp only [ho, hp, hq, Sem.run_bind, h1, Result.andThen_ok, Sem.run_pure]
  exact hK _ _ (h _ h2 h3)
theorem run_append_new (W : World) (ty : TypeId) (g off n cap : Nat) (l : Bytes) (hl : l.length = n) (hA : LiesA W g off l) (x : Value) (m : Bytes) (hx : BytesIn W x m) (hm : cap < n + m.length) (hm0 : 0 < m.length) (hlen : n + m.length ≤ 1000000000) :
    ∃ v' W', (Builtin.append_ #[48, 48] ty #[.slice (some ⟨g, off, none⟩) n cap, x]).run Try.prog W = .ok v' W' ∧ Held W' W.heap.size v' (l ++ m) ∧ Below W.heap.size W W' := by
  obtain ⟨i, hi, hz, hs, hb⟩ := info_parts infoByte
  subst hl
  rcases hx with ⟨c, rfl, rfl⟩ | ⟨gx, ox, cx, rfl, h1, h2, h3, h4⟩
  · exact absurd hm0 (by decide)
  have hr := run_append_grow (P := Try.prog) W 48 ty 5 i (.int .u8 0) Try.underlying48 hi hz ⟨g, off, none⟩ l.length cap (l.map bv) (by rw [List.length_map, hs, Nat.mul_one]) (fun j u hj => by rw [add_lit']; exact hA.range j u hj) ⟨gx, ox, none⟩ m.length cx (m.map bv) (by rw [List.length_map, hs, Nat.mul_one])
    (fun j u hj => by rw [add_lit']; exact (show LiesA W gx ox m from h4).range j u hj) hm (by omega) (growslice_fits (by omega) (by rw [hb]; omega))
  have hge := grownCap_ge W (l.length + m.length) cap 5
  have hcm : grownCap W (l.length + m.length) cap 5 ≤ maxLen := grownCap_le_maxLen W _ cap 5 (by have : maxLen = 9223372036854775807 := rfl; omega)
  refine ⟨_, _, hr, ⟨by simp, .inr ⟨W.heap.size, _, _, by rw [List.length_append], Nat.le_refl _, heap_alloc_new W.drew _, by rw [List.length_append]; exact hge, hcm, ?_, ?_⟩⟩, ⟨rfl, rfl, rfl, by simp, fun k hk => Go.heap_alloc_old W.drew _ hk⟩⟩
  · simp only [Array.size_append, List.size_toArray, size_zeroCells, List.length_map, Value.cells]
    simp
    omega
  · simp only [Array.toList_append, List.append_assoc]
    rw [← List.append_assoc, ← List.map_append, Nat.mul_one]
    rw [show (l ++ m).length = ((l ++ m).map bv).length from (List.length_map _).symm]
    exact List.take_left
theorem wpList_append_new {ops : Array Oper} {rest : List Oper} {o : Oper} {a : Act} {W : World} {Q : Exit → Act → World → Prop} (hgd : o.guard = none) (s x : Operand)
    (ho : o.op = .call { callee := .builtin .append, args := #[s, x], argTypes := #[48, 48] })
    (g off n cap : Nat) (l : Bytes) (hs : a.eval s = .slice (some ⟨g, off, none⟩) n cap) (hl : l.length = n) (hA : LiesA W g off l) (y : Value) (m : Bytes) (hy : a.eval x = y) (hx : BytesIn W y m) (hm : cap < n + m.length) (hm0 : 0 < m.length) (hlen : n + m.length ≤ 1000000000)
    (h : ∀ v' W', Held W' W.heap.size v' (l ++ m) → Below W.heap.size W W' → wpList Try.prog ops Q rest (a.put o.dst v') W') : wpList Try.prog ops Q (o :: rest) a W := by
  obtain ⟨v', W', hr, hH', hG⟩ := run_append_new W o.type g off n cap l hl hA y m hx hm hm0 hlen
  refine wpList_plain hgd fun _ hK => ?_
  unfold Oper.wp execOp
  simp only [ho, resolve, invoke, builtin, Sem.run_bind, Sem.run_pure, Result.andThen_ok, List.map_toArray, List.map_cons, List.map_nil, hs, hy]
  rw [hr]
  exact hK _ _ (h v' W' hH' hG)
end Go.Proofs.Ytfndiocohaploaa.L
namespace Go.Proofs.Ytfndiocohaploaa.L
open Go Go.RowKit
open Go.Lib
structure Filled (w : World) (gb : Nat) (D : Bytes) (k i : Nat) (r : Value) (W : World) : Prop where
  row : BoxB W gb t64 (fill D k i)
  left : BytesIn W r (D.drop (i * 64))
  ne : ∀ g, r.ownBlock = some g → g ≠ gb
  low : w.heap.size ≤ gb
  base : Below w.heap.size w W
theorem drop_min (D : Bytes) (i m : Nat) (h : m = min 64 (D.length - i * 64)) : (D.drop (i * 64)).drop m = D.drop ((i + 1) * 64) := by
  rw [List.drop_drop, Nat.succ_mul]
  by_cases h64 : 64 ≤ D.length - i * 64
  · rw [h, Nat.min_eq_left h64]
  · rw [List.drop_of_length_le (by omega), List.drop_of_length_le (by omega)]
theorem wpList_copy_fill {ops : Array Oper} {rest : List Oper} {o : Oper} {a : Act} {W w : World} {Q : Exit → Act → World → Prop} {gb k i : Nat} {D : Bytes} {r : Value} (hgd : o.guard = none) (d s : Operand) (ho : o.op = .call { callee := .builtin .copy, args := #[d, s], argTypes := #[48, 48] })
    (hd : a.eval d = .slice (some ⟨gb, i * 64, none⟩) 64 64) (hs : a.eval s = r) (hF : Filled w gb D k i r W) (hi : i < k) (h1 : i * 64 < D.length) (h2 : D.length ≤ k * 64)
    (h : ∀ W' v1 m, Hid (m = min 64 (D.length - i * 64)) → Hid (∀ u, (Instr.slice 48 r (some (.int .i64 (m : Nat))) none none).run Try.prog u = .ok v1 u) → Filled w gb D k (i + 1) v1 W' → wpList Try.prog ops Q rest (a.put o.dst (.int .i64 (m : Nat))) W') : wpList Try.prog ops Q (o :: rest) a W := by
  have hlen : (D.drop (i * 64)).length = D.length - i * 64 := List.length_drop
  have hm : (((D.drop (i * 64)).take 64).map bv).length = min 64 (D.length - i * 64) := by rw [List.length_map, List.length_take, hlen]
  have hfl := fill_length D k i (by omega)
  obtain ⟨v1, hv1, hv2, hv3⟩ := hF.left.tail (n := min 64 (D.length - i * 64)) (by omega) .i64
  rcases hF.left with ⟨c, hr, e⟩ | ⟨g, off, cap, hr, hc1, hc2, hg, h4⟩
  · rw [e] at hlen
    exact absurd hlen (by simp; omega)
  have h5 : LiesA W g off (D.drop (i * 64)) := h4
  have hne : g ≠ gb := hF.ne g (by rw [hr]; rfl)
  refine wpList_copy_own hgd d s 48 48 ho 5 Try.underlying48 (by kernel_rfl) gb (i * 64) 64 64 ⟨g, off, none⟩ (D.drop (i * 64)).length cap hd (hs.trans hr) ((fill D k i).map bv).toArray t64 hF.row (((D.drop (i * 64)).take 64).map bv)
    (by rw [hm, hlen]; exact Nat.min_comm _ _) (fun j u hj => ?_) (by rw [hm, List.size_toArray, List.length_map, hfl]; omega) (one_bv _) ?_
  · rw [add_lit']
    have := (h5.part 0 64).range j u hj
    rwa [Nat.add_zero] at this
  · rw [hm]
    have hrow : BoxB (W.setRow gb ((((fill D k i).map bv).toArray.toList.take (i * 64) ++ (((D.drop (i * 64)).take 64).map bv ++ ((fill D k i).map bv).toArray.toList.drop (i * 64 + min 64 (D.length - i * 64)))).toArray)) gb t64 (fill D k (i + 1)) := by
      rw [← fill_step D k i hi (by omega) h2]
      have e2 : (splice (fill D k i) (i * 64) ((D.drop (i * 64)).take 64)).map bv = ((fill D k i).map bv).toArray.toList.take (i * 64) ++ (((D.drop (i * 64)).take 64).map bv ++ ((fill D k i).map bv).toArray.toList.drop (i * 64 + min 64 (D.length - i * 64))) := by
        rw [← splice_map]
        unfold splice
        rw [hm]
      unfold BoxB
      rw [e2]
      exact setRow_heap _ _ _ _ _ _ hF.row
    refine h _ v1 _ (Lib.hid rfl) (Lib.hid hv1) ⟨hrow, ?_, fun g hg => hF.ne g (hv3 ▸ hg), hF.low, below_setRow hF.base hF.low _⟩
    rw [← drop_min D i _ rfl]
    rcases hv2 with h6 | ⟨g2, off2, cap2, hr2, h7, h8, h9, h10⟩
    · exact .inl h6
    · have hg2 : g2 ≠ gb := by
        have e3 := hv3
        rw [hr2, hr] at e3
        simp [Value.ownBlock] at e3
        omega
      exact .inr ⟨g2, off2, cap2, hr2, h7, h8, by rw [setRow_size]; exact h9, fun j hj => (cell_setRow_other _ _ _ _ hg2).trans (h10 j hj)⟩
set_option maxRecDepth 100000 in
set_option maxHeartbeats 400000 in
theorem written_any (v : Value) (l : Bytes) (n : Nat) (w : World) (hv : BytesIn w v l) (hne : need l.length ≠ 0) (hn : n ≤ 1000000000000) :
    Calls Try.prog 33 #[v, .int .i64 (n : Int)] w fun e w' => ∃ r, e = .returned r ∧ BlksIn w' r (need l.length) (laid l n) ∧ Below w.heap.size w w' := by
  obtain ⟨hl1, hl2, hl3, hl4⟩ := need_room hne
  have hk17 := need_le l.length
  have HLA : Hid (fill (head l n ++ l) (need l.length) (need l.length) = laid l n) := fill_laid l n hne
  have HNE := need_any (l.length : Int) w (by omega)
  rw [Int.toNat_natCast] at HNE
  have HND := Lib.hid HNE
  have HLN : Hid ((laid l n).length = need l.length * 64) := laid_length hne n
  have hdl : (head l n ++ l).length = 8 + l.length := by rw [List.length_append, head_length]
  obtain ⟨a, kk, c, rfl⟩ := hv.shape
  obtain rfl : kk = l.length := by rcases hv with ⟨c, h, rfl⟩ | ⟨g, off, cap, h, -⟩ <;> cases h <;> rfl
  have HV := Lib.hid hv
  clear HNE hv
  generalize hk : need l.length = k at *
  have HHD := fun W (h : BytesIn W (.slice a l.length c) l) => headOf_any _ l n W h (by omega) hn
  have h8 : (head l n).length = 8 := rfl
  generalize head l n = hd at *
  have HD8 := Lib.hid h8
  have HHH : Hid (∀ W, BytesIn W (.slice a l.length c) l → Calls Try.prog 54 #[.slice a l.length c, .int .i64 (n : Int)] W fun e w' => e = .returned (encA hd) ∧ Below W.heap.size W w') := HHD
  clear HHD h8
  go_enter Try.func33, Try.ntmps33
  go_wp2_with (first | (go_at_call 31; refine HND.out.mono ?_; rintro e w' ⟨rfl, rfl⟩) | refine wpList_make_blks rfl _ _ rfl k (by omega) rfl rfl ?_)
  intro W2 hx2 hb2
  have HX2 := Lib.hid hx2
  have HB2 := Lib.hid hb2
  clear hx2 hb2 HND
  go_wp2_with (first | (go_at_call 54; refine (HHH.out W2 (HV.out.after HB2.out)).mono ?_; rintro e W3 ⟨rfl, hb3⟩) | refine wpList_alloc_box rfl t8 rfl (zs 8) zero8 ?_)
  intro W4 hx4 hb4
  have HX4 := Lib.hid hx4
  have HB4 : Hid (Below w'.heap.size w' W4) := HB2.out.trans ((hb3.mono HB2.out.size).trans (hb4.mono (Nat.le_trans HB2.out.size hb3.size)))
  have HR4 := Lib.hid ((HX2.out.after hb3).after hb4)
  have HS4 : Hid (w'.heap.size < W3.heap.size) := Nat.lt_of_lt_of_le HX2.out.lt hb3.size
  clear hx4 hb4 hb3 HHH HX2 HB2
  go_wp2_with (refine wpList_store_box rfl t8 _ _ rfl W3.heap.size (zs 8) hd rfl rfl HX4.out (by rw [HD8.out]; rfl) (by rw [HD8.out]; exact size8) ?_)
  intro W5 hx5 ho5 hb5
  have HX5 := Lib.hid hx5
  have HB5 : Hid (Below w'.heap.size w' W5) := hb5 _ _ HB4.out (Nat.le_of_lt HS4.out)
  have HR5 : Hid (BoxB W5 w'.heap.size t64 (zs (k * 64))) := HR4.out.of_heap (ho5 _ (by have := HS4.out; omega))
  have HV5 := Lib.hid (HV.out.after HB5.out)
  clear hx5 ho5 hb5 HX4 HR4 HB4
  have hm1 : 8 < 8 + l.length := by omega
  have hm2 : 8 + l.length ≤ 1000000000 := by omega
  go_wp2_with (at_builtin; refine wpList_append_new rfl _ _ rfl W3.heap.size 0 8 8 hd rfl HD8.out HX5.out.lies _ l rfl HV5.out hm1 hl1 hm2 ?_)
  intro r0 W6 hH6 hb6
  have HF0 : Hid (Filled w' w'.heap.size (hd ++ l) k 0 r0 W6) := ⟨by rw [fill_zero]; exact HR5.out.after hb6, by rw [Nat.zero_mul, List.drop_zero]; exact hH6.bytes, fun g hg e => by have := hH6.low hg; have := HR5.out.lt; omega, Nat.le_refl _, HB5.out.trans (hb6.mono HB5.out.size)⟩
  clear hH6 hb6 HX5 HR5 HV5 HB5 HS4 hm1 hm2
  go_wp2
  go_loopw [7, 22] (fun r iv wr => ∃ i : Nat, i ≤ k ∧ iv = .int .i64 (i : Int) ∧ Filled w' w'.heap.size (hd ++ l) k i r wr) (fun _ iv _ => k - (RowKit.intOf iv).toNat)
  case atStart => exact ⟨0, Nat.zero_le _, rfl, HF0.out⟩
  case round =>
    clear HF0
    obtain ⟨i, hi, rfl, hF⟩ := hrel
    have HF := Lib.hid hF
    clear hF
    by_cases hp : i < k
    · have hp' : (i : Int) < (k : Int) := by omega
      have hd1 : i * 64 < (hd ++ l).length := by omega
      have hd2 : (hd ++ l).length ≤ k * 64 := by omega
      go_wp2_with (refine wpList_copy_fill rfl _ _ rfl rfl rfl HF.out hp hd1 hd2 ?_)
      intro W' v1 m hm HSL hF2
      have hsl := HSL.out
      have HF2 := Lib.hid hF2
      clear hF2 HF hm hd1 hd2
      go_wp2
      exact ⟨⟨i + 1, by omega, by go_num, HF2.out⟩, by simp [RowKit.intOf]; omega⟩
    · have hp' : ¬ (i : Int) < (k : Int) := by omega
      obtain rfl : i = k := by omega
      go_wp2
      go_ret
      have hF := HF.out
      have hr := hF.row
      rw [HLA.out] at hr
      exact ⟨_, rfl, ⟨HLN.out, .inr ⟨_, 0, _, rfl, Nat.le_refl _, by have : maxLen = 9223372036854775807 := rfl; omega, hr.lt, hr.lies⟩⟩, hF.base⟩
end Go.Proofs.Ytfndiocohaploaa.L
namespace Go.HeldBy
open Go
section
variable {P : Program} {ops : Array Oper} {Q : Exit → Act → World → Prop} {md : Region.Mode} {S : World → Prop}
theorem wanted_free {oi : Oper} (h : oi.guard = none) (y : Nat → Option Bool) : Region.wanted oi y = true := by
  unfold Region.wanted
  rw [h]
end
end Go.HeldBy
namespace Go.HeldBy
open Go
section
variable {P : Program} {ops : Array Oper} {Q : Exit → Act → World → Prop} {md : Region.Mode} {S : World → Prop}
theorem load_call {i k : Nat} {oi ok : Oper} {u v : Value} {f : FuncId} {args : Array Value} {fuel : Nat} {L L2 : Array Bool} {a a' : Act} {w : World} (hr : Region.ready md ops L = [i, k]) (h1 : Region.ready md ops (L.setIfInBounds i true) = [k]) (h2 : Region.ready md ops (L.setIfInBounds k true) = [i])
    (hi : ops[i]? = some oi) (hk : ops[k]? = some ok) (gi : oi.guard = none) (gk : ok.guard = none)
    (hvi : (execOp a.eval oi).run P w = .ok (.value u) w) (hvk : (execOp a.eval ok).run P w = .ok (.enter f args) w) (hvk' : (execOp (a.put oi.dst u).eval ok).run P w = .ok (.enter f args) w) (hvi' : (execOp (a.put ok.dst v).eval oi).run P w = .ok (.value u) w)
    (hc : Calls P f args w fun e w' => e = .returned v ∧ w' = w)
    (hS : S w) (ha1 : (a.put oi.dst u).put ok.dst v = a') (ha2 : (a.put ok.dst v).put oi.dst u = a') (hl1 : (L.setIfInBounds i true).setIfInBounds k true = L2) (hl2 : (L.setIfInBounds k true).setIfInBounds i true = L2)
    (h : wpAnyH P md ops Q S fuel L2 a' w) : wpAnyH P md ops Q S (fuel + 2) L a w := by
  refine two hr ?_ ?_
  · refine op_value hi (wanted_free gi _) hvi rfl ⟨hS, ?_⟩
    refine call hk h1 (wanted_free gk _) hvk' ha1 (hc.mono ?_)
    rintro e w' ⟨rfl, rfl⟩
    refine ⟨rfl, hS, ?_⟩
    rw [hl1]
    exact h
  · refine op_call (v := v) (a' := a.put ok.dst v) hk (wanted_free gk _) hvk rfl (hc.mono ?_)
    rintro e w' ⟨rfl, rfl⟩
    refine ⟨rfl, hS, ?_⟩
    refine value hi h2 (wanted_free gi _) hvi' ha2 hS ?_
    rw [hl2]
    exact h
end
end Go.HeldBy
namespace Go.HeldBy
open Go
section
variable {P : Program} {ops : Array Oper} {Q : Exit → Act → World → Prop} {md : Region.Mode} {S : World → Prop}
theorem callL {i : Nat} {oi : Oper} {f : FuncId} {args : Array Value} {R : Value → World → Prop} {fuel : Nat} {listed : Array Bool} {a : Act} {w : World} (hi : ops[i]? = some oi) (hr : Region.ready md ops listed = [i]) (hg : oi.guard = none)
    (hv : (execOp a.eval oi).run P w = .ok (.enter f args) w) (hc : Calls P f args w fun e w' => ∃ v, e = .returned v ∧ R v w')
    (h : ∀ v w', R v w' → S w' ∧ wpAnyH P md ops Q S fuel (listed.setIfInBounds i true) (a.put oi.dst v) w') : wpAnyH P md ops Q S (fuel + 1) listed a w := by
  refine wpAnyH_all hr (by simp) fun j hj => ?_
  obtain rfl : j = i := by simpa using hj
  unfold wpOp
  simp only [hi, wanted_free hg, if_true]
  refine .inl ?_
  unfold Oper.wp
  rw [hv]
  exact hc.mono fun e w' ⟨v, h1, h2⟩ => by subst h1; exact h v w' h2
theorem op_callL {i : Nat} {oi : Oper} {f : FuncId} {args : Array Value} {R : Value → World → Prop} {K : Act → World → Prop} {a : Act} {w : World} (hi : ops[i]? = some oi) (hg : oi.guard = none)
    (hv : (execOp a.eval oi).run P w = .ok (.enter f args) w) (hc : Calls P f args w fun e w' => ∃ v, e = .returned v ∧ R v w') (h : ∀ v w', R v w' → K (a.put oi.dst v) w') : wpOp P ops Q i K a w := by
  unfold wpOp
  simp only [hi, wanted_free hg, if_true]
  refine .inl ?_
  unfold Oper.wp
  rw [hv]
  exact hc.mono fun e w' ⟨v, h1, h2⟩ => by subst h1; exact h v w' h2
theorem late_load {i j c k : Nat} {oi oj oc ok : Oper} {u x z : Value} {f : FuncId} {args : Array Value} {R : Value → World → Prop} {fuel : Nat} {L L2 : Array Bool} {a : Act} {A : Value → Act} {w : World}
    (hs : Region.noSelect ops = true) (r0 : Region.ready md ops L = [i, j]) (r1 : Region.ready md ops (L.setIfInBounds i true) = [j])
    (f1 : Region.free md ops ((L.setIfInBounds i true).setIfInBounds j true) c = true) (g1 : (Region.ready md ops ((L.setIfInBounds i true).setIfInBounds j true)).contains c = true) (r2 : Region.ready md ops (((L.setIfInBounds i true).setIfInBounds j true).setIfInBounds c true) = [k])
    (f2 : Region.free md ops (L.setIfInBounds j true) c = true) (g2 : (Region.ready md ops (L.setIfInBounds j true)).contains c = true) (r3 : Region.ready md ops ((L.setIfInBounds j true).setIfInBounds c true) = [i, k])
    (r4 : Region.ready md ops (((L.setIfInBounds j true).setIfInBounds c true).setIfInBounds i true) = [k]) (r5 : Region.ready md ops (((L.setIfInBounds j true).setIfInBounds c true).setIfInBounds k true) = [i])
    (hi : ops[i]? = some oi) (hj : ops[j]? = some oj) (hc : ops[c]? = some oc) (hk : ops[k]? = some ok) (gi : oi.guard = none) (gj : oj.guard = none) (gc : oc.guard = none) (gk : ok.guard = none)
    (hQ : ∀ d a w, Q (.panic d) (a.put oc.dst z) w → Q (.panic d) a w)
    (vi0 : (execOp a.eval oi).run P w = .ok (.value u) w) (vi2 : (execOp ((a.put oj.dst x).put oc.dst z).eval oi).run P w = .ok (.value u) w) (vi3 : ∀ v w', R v w' → (execOp (((a.put oj.dst x).put oc.dst z).put ok.dst v).eval oi).run P w' = .ok (.value u) w')
    (vj0 : (execOp a.eval oj).run P w = .ok (.value x) w) (vj1 : (execOp (a.put oi.dst u).eval oj).run P w = .ok (.value x) w)
    (vc1 : ∀ w, S w → (execOp ((a.put oi.dst u).put oj.dst x).eval oc).run P w = .ok (.value z) w) (vc2 : ∀ w, S w → (execOp (a.put oj.dst x).eval oc).run P w = .ok (.value z) w)
    (vk1 : (execOp (((a.put oi.dst u).put oj.dst x).put oc.dst z).eval ok).run P w = .ok (.enter f args) w) (vk2 : (execOp ((a.put oj.dst x).put oc.dst z).eval ok).run P w = .ok (.enter f args) w) (vk3 : (execOp (((a.put oj.dst x).put oc.dst z).put oi.dst u).eval ok).run P w = .ok (.enter f args) w)
    (hcall : Calls P f args w fun e w' => ∃ v, e = .returned v ∧ R v w') (hS : S w) (hS' : ∀ v w', R v w' → S w')
    (e1 : ∀ v, (((a.put oi.dst u).put oj.dst x).put oc.dst z).put ok.dst v = A v) (e2 : ∀ v, (((a.put oj.dst x).put oc.dst z).put oi.dst u).put ok.dst v = A v) (e3 : ∀ v, (((a.put oj.dst x).put oc.dst z).put ok.dst v).put oi.dst u = A v)
    (l1 : (((L.setIfInBounds i true).setIfInBounds j true).setIfInBounds c true).setIfInBounds k true = L2) (l2 : (((L.setIfInBounds j true).setIfInBounds c true).setIfInBounds i true).setIfInBounds k true = L2) (l3 : (((L.setIfInBounds j true).setIfInBounds c true).setIfInBounds k true).setIfInBounds i true = L2)
    (h : ∀ v w', R v w' → wpAnyH P md ops Q S fuel L2 (A v) w') : wpAnyH P md ops Q S (fuel + 4) L a w := by
  refine two r0 ?_ ?_
  · refine op_value hi (wanted_free gi _) vi0 rfl ⟨hS, ?_⟩
    refine value hj r1 (wanted_free gj _) vj1 rfl hS ?_
    refine take hc hs f1 g1 hQ (wanted_free gc _) vc1 rfl hS ?_
    refine callL hk r2 gk vk1 hcall fun v w' hR => ⟨hS' v w' hR, ?_⟩
    rw [e1, l1]
    exact h v w' hR
  · refine op_value hj (wanted_free gj _) vj0 rfl ⟨hS, ?_⟩
    refine take hc hs f2 g2 hQ (wanted_free gc _) vc2 rfl hS ?_
    refine two r3 ?_ ?_
    · refine op_value hi (wanted_free gi _) vi2 rfl ⟨hS, ?_⟩
      refine callL hk r4 gk vk3 hcall fun v w' hR => ⟨hS' v w' hR, ?_⟩
      rw [e2, l2]
      exact h v w' hR
    · refine op_callL hk gk vk2 hcall fun v w' hR => ⟨hS' v w' hR, ?_⟩
      refine value hi r5 (wanted_free gi _) (vi3 v w' hR) (e3 v) (hS' v w' hR) ?_
      rw [l3]
      exact h v w' hR
end
end Go.HeldBy
