/- Of one key the first object counts, as the document finds it. -/
import Derived.Test.YtijgieefmnmakaaDoorKRef
import Derived.Test.YtijgieefmnmakaaDoorKUniqP
import Derived.Test.YtijgieefmnmakaaDoorHeldChain
namespace Go.Proofs.YtijgieefmnmakaaDoor.O.B
open Go Go.RowKit Go.Shelf Go.Lib RangeMap KM
attribute [local go_sem] Oper.semAt_some

theorem obj_info : ∃ i, Tryd.prog.info? 31 = some i ∧ i.zero = some (encO O0) ∧ i.size = 20 ∧ i.bytes ≤ 1000 := by
  have h : (Tryd.prog.info? 31).map (fun i => (i.zero, i.size, decide (i.bytes ≤ 1000))) = some (some (encO O0), 20, true) := by kernel_rfl
  cases hi : Tryd.prog.info? 31 with
  | none => rw [hi] at h; cases h
  | some i =>
    rw [hi] at h
    simp only [Option.map_some, Option.some.injEq, Prod.mk.injEq] at h
    exact ⟨i, rfl, h.1, h.2.1, of_decide_eq_true h.2.2⟩
theorem makes_o {oi : Oper} (ho : oi.op = .alloc 31) : HeldBy.Makes Tryd.prog oi (.cells (cellsO O0) 31 (0, 0)) := by
  intro a w
  unfold execOp
  simp only [ho]
  kernel_rfl
/-- Objects in a slice of the call's own, that grows. -/
def OutIn (W : World) (B : Nat) (v : Value) (l : List Obj) : Prop := W.ownsRow B 31 20 v l.length (catO l).toList
theorem catO_snoc (l : List Obj) (x : Obj) : (catO (l ++ [x])).toList = (catO l).toList ++ (cellsO x).toList := by
  show ((l ++ [x]).flatMap fun o => (cellsO o).toList) = (l.flatMap fun o => (cellsO o).toList) ++ _
  rw [List.flatMap_append]
  simp
theorem OutIn.empty (W : World) (B : Nat) : OutIn W B (.slice none 0 0) [] := ⟨rfl, .inl ⟨rfl, rfl⟩⟩
theorem OutIn.of {W W' : World} {B : Nat} {v : Value} {l : List Obj} (h : OutIn W B v l) (hb : ∀ g cs, W.heap[g]? = some (.cells cs 31 (0, 0)) → v.ownBlock = some g → W'.heap[g]? = W.heap[g]?) : OutIn W' B v l := by
  refine ⟨h.1, ?_⟩
  rcases h.2 with h1 | ⟨g, cap, cur, rfl, h2, h3, h4⟩
  · exact .inl h1
  · exact .inr ⟨g, cap, cur, rfl, h2, (hb g cur h3 rfl).trans h3, h4⟩
theorem OutIn.after {W W' : World} {B : Nat} {v : Value} {l : List Obj} (h : OutIn W B v l) (hb : Below W.heap.size W W') : OutIn W' B v l := h.of fun g _ hg _ => hb.block g (Array.getElem?_eq_some_iff.1 hg).1
theorem OutIn.objs {W : World} {B : Nat} {v : Value} {l : List Obj} (h : OutIn W B v l) (hn : l.length ≤ 9223372036854775807) : ObjsIn W v l := by
  rcases h.2 with ⟨rfl, h1⟩ | ⟨g, cap, cur, rfl, h2, h3, -, -, -, h4⟩
  · have : l = [] := List.length_eq_zero_iff.1 h1
    subst this
    exact ⟨none, 0, rfl, by simp, fun i hi => absurd hi (by simp)⟩
  · refine ⟨_, cap, rfl, hn, fun i hi => ⟨g, 0, rfl, (Array.getElem?_eq_some_iff.1 h3).1, fun j u hu => ?_⟩⟩
    have hj : j < 20 := (List.getElem?_eq_some_iff.1 hu).1
    rw [cell_of_row W g _ _ _ _ h3, Nat.zero_add]
    have h5 : (catO l).toList[i * 20 + j]? = cur.toList[i * 20 + j]? := by
      rw [← h4, List.getElem?_take, if_pos (by omega)]
    rw [← Array.getElem?_toList, ← h5, Array.getElem?_toList, catO_at l i hi j hj]
    exact hu
theorem add_obj (R : Nat) (W : World) (sl : Value) (l : List Obj) (x : Obj) (ty : TypeId) (hr : OutIn W R sl l) (hB : R ≤ W.heap.size) (hn : l.length < 100000) :
    ∃ v' W', (Builtin.append_ #[22, 22] ty #[sl, .slice (some ⟨W.heap.size, 0, none⟩) 1 1]).run Tryd.prog (W.alloc (.cells (catO [x]) 31 (0, 0))) = .ok v' W' ∧
      OutIn W' R v' (l ++ [x]) ∧ Below R W W' ∧ ∀ b, b < W.heap.size → some b ≠ sl.ownBlock → W'.heap[b]? = W.heap[b]? := by
  obtain ⟨i, hi, hz, hs, hb⟩ := obj_info
  have hba : Below W.heap.size W (W.alloc (.cells (catO [x]) 31 (0, 0))) := (Below.refl _ _).alloc (Nat.le_refl _) _
  have hr1 := hr.after hba
  have h1 : ∀ u ∈ (cellsO x).toList, u.oneCell' = true := fun u hu => Array.all_eq_true_iff_forall_mem.1 (one_cells x) u (by simpa using hu)
  have hnews : ∀ j u, (cellsO x).toList[j]? = some u → (W.alloc (.cells (catO [x]) 31 (0, 0))).cell? ((⟨W.heap.size, 0, none⟩ : Addr).add j) = some u := fun j u hu => by
    have e : (⟨W.heap.size, 0, none⟩ : Addr).add j = ⟨W.heap.size, j, none⟩ := by unfold Addr.add; split <;> simp_all
    rw [e, cell_of_row _ _ _ _ _ _ (heap_alloc_new W _), ← Array.getElem?_toList]
    have e2 : (catO [x]).toList = (cellsO x).toList := by show ([x].flatMap fun o => (cellsO o).toList) = _; simp
    rw [e2]
    exact hu
  obtain ⟨v', W', h2, h3, h4, -⟩ := run_append_own (P := Tryd.prog) (W.alloc (.cells (catO [x]) 31 (0, 0))) R 22 ty 31 i (encO O0) 20 i.bytes Tryd.underlying22 hi hz hs rfl rfl (by decide) sl l.length _ hr1 ⟨W.heap.size, 0, none⟩ 1 1 (cellsO x).toList rfl hnews h1 (by unfold maxLen; omega) (Nat.le_trans (Nat.mul_le_mul (show l.length + 1 ≤ 100000 by omega) hb) (by omega)) (by simp; omega)
  refine ⟨v', W', h2, ?_, ?_, ?_⟩
  · show W'.ownsRow R _ 20 v' _ _
    rw [catO_snoc, List.length_append]
    exact h3
  · refine (hba.mono hB).grown h4 (by simp; omega) ?_
    intro r e
    rcases hr.2 with ⟨rfl, -⟩ | ⟨g, cap, cur, rfl, hg, -⟩
    · cases e
    · cases e
      exact hg
  · intro b hb hne
    exact (h4.block b (by simp; omega) hne).trans (hba.block b hb)
theorem wpList_add {ops : Array Oper} {rest : List Oper} {oi : Oper} {a : Act} {W W' : World} {sl v : Value} {m c : Nat} {ad : Addr} {p r : Operand} {Q : Exit → Act → World → Prop} (hg : oi.guard = none) (ho : oi.op = .call { callee := .builtin .append, args := #[p, r], argTypes := #[22, 22] })
    (h : (Builtin.append_ #[22, 22] oi.type #[sl, .slice (some ad) m c]).run Tryd.prog W = .ok v W') (hp : a.eval p = sl) (hr : a.eval r = .slice (some ad) m c) (hn : wpList Tryd.prog ops Q rest (a.put oi.dst v) W') : wpList Tryd.prog ops Q (oi :: rest) a W := by
  refine wpList_runs hg ?_ hn
  unfold execOp
  simp [ho, resolve, invoke, builtin, hp, hr, h, Result.andThen]

set_option maxRecDepth 100000 in
set_option maxHeartbeats 4000000 in
theorem uniq_any (l : List Obj) (v : Value) (w : World) (hl : ObjsIn w v l) (hn : l.length < 100000) :
    Calls Tryd.prog 29 #[v] w fun e w' => ∃ v', e = .returned v' ∧ ObjsIn w' v' (uniqL l) ∧ Below w.heap.size w w' := by
  obtain ⟨o, cp, rfl, hm, -⟩ := id hl
  have HL := Lib.hid hl
  clear hl
  go_enter Tryd.func29, Tryd.ntmps29
  go_wp2_with (fail)
  go_loopw [3, 4] (fun ov i wr => ∃ (j : Nat) (sv : Value), i = .int .i64 (j : Int) ∧ sv = ov ∧ j ≤ l.length ∧ OutIn wr w.heap.size sv (uniqL (l.take j)) ∧ Below w.heap.size w wr) (fun _ i _ => l.length - (RowKit.intOf i).toNat)
  case atStart => exact ⟨0, _, rfl, rfl, Nat.zero_le _, OutIn.empty _ _, Below.refl _ _⟩
  case round =>
    obtain ⟨j, sv, rfl, rfl, hj, hout, hlow⟩ := hrel
    have HOUT := Lib.hid hout
    have HLOW := Lib.hid hlow
    clear hout hlow
    by_cases hlt : j < l.length
    · have hlt' : (j : Int) < (l.length : Int) := by omega
      have hobj := HL.out.after HLOW.out
      obtain ⟨o', c', he, -, hi⟩ := id hobj
      cases he
      obtain ⟨g, off, rfl, -, hrow⟩ := hi j hlt
      obtain ⟨x, hx⟩ : ∃ x, l[j] = x := ⟨_, rfl⟩
      have hrows : ∀ V : World, ObjsIn V (.slice (some ⟨g, off, none⟩) l.length cp) l → V.rangeAt g (off + j * 20) (cellsO x).toList := fun V hV => by
        obtain ⟨o2, c2, e2, -, h2⟩ := hV
        cases e2
        obtain ⟨g3, off3, e3, -, h3⟩ := h2 j hlt
        cases e3
        rw [← hx]
        exact h3
      have HROWS := Lib.hid hrows
      have htk := uniq_take hlt
      rw [hx] at htk
      have HTK := Lib.hid htk
      have HLEN : Hid ((uniqL (l.take j)).length < 100000) := by
        have h1 := uniq_len (l.take j)
        rw [List.length_take] at h1
        show _ < _
        omega
      have HO := HOUT
      have HLL := Lib.hid hobj
      have HW := HLOW
      clear hi hx hrow hrows htk hobj HOUT HLOW
      obtain ⟨acc, hacc⟩ : ∃ acc, uniqL (l.take j) = acc := ⟨_, rfl⟩
      rw [hacc] at HTK HLEN HO
      clear hacc
      obtain ⟨r, hr⟩ : ∃ r, getL acc x.kind x.name = r := ⟨_, rfl⟩
      have HRR := Lib.hid hr
      clear hr
      go_upto_region 5 with (fail)
      refine wp_region_held_drew (S := fun V => OutIn V w.heap.size sv acc ∧ ObjsIn V (.slice (some ⟨g, off, none⟩) l.length cp) l ∧ Below w.heap.size w V) (by kernel_rfl) ⟨HO.out, HLL.out, HW.out.drew⟩ (fun _ => ?_)
      refine HeldBy.gen (fun V => OutIn V w.heap.size sv acc ∧ ObjsIn V (.slice (some ⟨g, off, none⟩) l.length cp) l ∧ Below w.heap.size w V) ⟨HO.out, HLL.out, HW.out.drew⟩ ?_
      clear HO HLL HW
      rintro U0 HS
      refine HeldBy.take (i := 0) rfl (by kernel_rfl) (by kernel_rfl) (by kernel_rfl) (fun _ _ _ h => h) (by rfl) (fun _ _ => by first | (go_simp; rfl) | (go_simp; done)) (by go_simp; rfl) HS ?_
      refine HeldBy.take (i := 1) rfl (by kernel_rfl) (by kernel_rfl) (by kernel_rfl) (fun _ _ _ h => h) (by rfl) (fun _ _ => by first | (go_simp; rfl) | (go_simp; done)) (by go_simp; rfl) HS ?_
      refine HeldBy.take (i := 2) rfl (by kernel_rfl) (by kernel_rfl) (by kernel_rfl) (fun _ _ _ h => h) (by rfl) (fun _ _ => by first | (go_simp; rfl) | (go_simp; done)) (by go_simp; rfl) HS ?_
      refine HeldBy.take (i := 3) rfl (by kernel_rfl) (by kernel_rfl) (by kernel_rfl) (fun _ _ _ h => h) (by rfl) (fun _ _ => by first | (go_simp; rfl) | (go_simp; done)) (by go_simp; rfl) HS ?_
      refine HeldBy.take (i := 4) rfl (by kernel_rfl) (by kernel_rfl) (by kernel_rfl) (fun _ _ _ h => h) (by rfl) (fun _ _ => by first | (go_simp; rfl) | (go_simp; done)) (by go_simp; rfl) HS ?_
      refine HeldBy.take (i := 5) (v := .int .u8 x.kind) rfl (by kernel_rfl) (by kernel_rfl) (by kernel_rfl) (fun _ _ _ h => h) (by rfl) (fun V hV => by have h := row_cell (HROWS.out V hV.2.1) 0 _ rfl; rw [Nat.add_zero] at h; first | (go_simp; rfl) | (go_simp; done)) (by go_simp; rfl) HS ?_
      refine HeldBy.take (i := 6) rfl (by kernel_rfl) (by kernel_rfl) (by kernel_rfl) (fun _ _ _ h => h) (by rfl) (fun _ _ => by first | (go_simp; rfl) | (go_simp; done)) (by go_simp; rfl) HS ?_
      refine HeldBy.take (i := 7) rfl (by kernel_rfl) (by kernel_rfl) (by kernel_rfl) (fun _ _ _ h => h) (by rfl) (fun _ _ => by first | (go_simp; rfl) | (go_simp; done)) (by go_simp; rfl) HS ?_
      refine HeldBy.take (i := 8) rfl (by kernel_rfl) (by kernel_rfl) (by kernel_rfl) (fun _ _ _ h => h) (by rfl) (fun _ _ => by first | (go_simp; rfl) | (go_simp; done)) (by go_simp; rfl) HS ?_
      refine HeldBy.take (i := 9) rfl (by kernel_rfl) (by kernel_rfl) (by kernel_rfl) (fun _ _ _ h => h) (by rfl) (fun _ _ => by first | (go_simp; rfl) | (go_simp; done)) (by go_simp; rfl) HS ?_
      refine HeldBy.take (i := 10) (v := .string x.name) rfl (by kernel_rfl) (by kernel_rfl) (by kernel_rfl) (fun _ _ _ h => h) (by rfl) (fun V hV => by have h := row_cell (HROWS.out V hV.2.1) 1 _ rfl; first | (go_simp; rfl) | (go_simp; done)) (by go_simp; rfl) HS ?_
      have HSS : ∀ w', Below U0.heap.size U0 w' → (OutIn w' w.heap.size sv acc ∧ ObjsIn w' (.slice (some ⟨g, off, none⟩) l.length cp) l ∧ Below w.heap.size w w') := fun w' hb => ⟨HS.1.after hb, HS.2.1.after hb, HS.2.2.trans (hb.mono HS.2.2.size)⟩
      refine HeldBy.Goes.without (w0 := U0) (k := 15) (dk := some 5) (x := .cells (cellsO O0) 31 (0, 0)) ?_ U0 (Below.refl _ _)
      refine HeldBy.Goes.callS (i := 11) (v := .tuple #[encO (r.getD O0), .bool r.isSome]) rfl rfl rfl rfl (makes_o rfl) rfl (by kernel_rfl) (by kernel_rfl) rfl (by decide) (by kernel_rfl) (by intro w; first | (go_simp; done) | (go_simp; first | exact ⟨rfl, rfl⟩ | rfl)) (by first | (go_simp; rfl) | (go_simp; done)) HSS (fun _ HS => (by rw [← HRR.out]; exact rget_any acc _ x.kind x.name _ (HS.1.objs (by have := HLEN.out; omega)))) ?_
      refine HeldBy.Goes.take (i := 12) rfl (by kernel_rfl) rfl (by kernel_rfl) (by kernel_rfl) (by kernel_rfl) (by kernel_rfl) (fun _ _ _ h => h) rfl (by decide) (by kernel_rfl) (fun _ _ => by first | (go_simp; rfl) | (go_simp; done)) (by first | (go_simp; rfl) | (go_simp; done)) HSS ?_
      refine HeldBy.Goes.take (i := 13) rfl (by kernel_rfl) rfl (by kernel_rfl) (by kernel_rfl) (by kernel_rfl) (by kernel_rfl) (fun _ _ _ h => h) rfl (by decide) (by kernel_rfl) (fun _ _ => by first | (go_simp; rfl) | (go_simp; done)) (by first | (go_simp; rfl) | (go_simp; done)) HSS ?_
      refine HeldBy.Goes.take (i := 14) rfl (by kernel_rfl) rfl (by kernel_rfl) (by kernel_rfl) (by kernel_rfl) (by kernel_rfl) (fun _ _ _ h => h) rfl (by decide) (by kernel_rfl) (fun _ _ => by first | (go_simp; rfl) | (go_simp; done)) (by first | (go_simp; rfl) | (go_simp; done)) HSS ?_
      refine HeldBy.Goes.nil rfl rfl (by kernel_rfl) rfl (makes_o rfl) HSS rfl (fun p => by unfold HeldBy.ptr; go_simp; rfl) ?_
      intro p U1 hp hb hn
      have hS := HSS U1 hb
      obtain ⟨V3, hst, ho3, hoth, hbl⟩ := storing (show BoxO U1 p O0 from hn) (r.getD O0)
      have hg : ∀ b, sv.ownBlock = some b → b < U0.heap.size := fun b e => by
        rcases HS.1.2 with ⟨h1, -⟩ | ⟨g1, cap, cur, h1, h2, h3, -⟩
        · rw [h1] at e; cases e
        · rw [h1] at e; cases e; exact (Array.getElem?_eq_some_iff.1 h3).1
      have hO3 : OutIn V3 w.heap.size sv acc := hS.1.of fun b cs hb1 hb2 => hoth b (by have := hg b hb2; omega)
      have hw3 : Below w.heap.size w V3 := hbl _ _ hS.2.2 (by have := HS.2.2.size; omega)
      have hL3 : ObjsIn V3 (.slice (some ⟨g, off, none⟩) l.length cp) l := HL.out.after hw3
      have HS3 : OutIn V3 w.heap.size sv acc ∧ ObjsIn V3 (.slice (some ⟨g, off, none⟩) l.length cp) l ∧ Below w.heap.size w V3 := ⟨hO3, hL3, hw3⟩
      refine HeldBy.store (i := 16) (w' := V3) rfl (by kernel_rfl) (by rfl) (hst rfl rfl rfl) (by first | (go_simp; rfl) | (go_simp; done)) HS3 ?_
      refine HeldBy.take (i := 17) rfl (by kernel_rfl) (by kernel_rfl) (by kernel_rfl) (fun _ _ _ h => h) (by rfl) (fun _ _ => by first | (go_simp; rfl) | (go_simp; done)) (by first | (go_simp; rfl) | (go_simp; done)) HS3 ?_
      refine wpAnyH_done (by kernel_rfl) ?_ _
      have HO3 := Lib.hid hO3
      have HW3 := Lib.hid hw3
      have hrow3 := HROWS.out V3 hL3
      clear hS hst ho3 hoth hbl hg hO3 hw3 hL3 HS3 HSS HS hp hb hn HROWS
      cases hr2 : r.isSome with
      | true =>
        have HT2 : Hid (uniqL (l.take (j + 1)) = acc) := by
          show _ = _
          rw [HTK.out]
          unfold stepU
          rw [HRR.out, if_pos hr2]
        clear hr2
        go_wp2
        go_roundw
        case rel => exact ⟨j + 1, sv, by go_num, rfl, by omega, by rw [HT2.out]; exact HO3.out, HW3.out⟩
        case measure => simp [RowKit.intOf]; omega
      | false =>
        have HT2 : Hid (uniqL (l.take (j + 1)) = acc ++ [x]) := by
          show _ = _
          rw [HTK.out]
          unfold stepU
          rw [HRR.out, if_neg (by rw [hr2]; decide)]
        obtain ⟨v', W', hrun, ho4, hb4, -⟩ := add_obj w.heap.size V3 sv acc x 22 HO3.out HW3.out.size HLEN.out
        have HO4 := Lib.hid ho4
        have HW4 := Lib.hid (HW3.out.trans hb4)
        have HRUN := Lib.hid hrun
        clear hr2 ho4 hb4 hrun
        go_wp2_with (first | (refine wpList_got (v := encO x) rfl (load_mid hrow3 rfl rfl) ?_) | ((with_reducible refine wpList_objs rfl rfl _ (run_objs1 V3 x) ?_ ?_); rfl) | ((with_reducible refine wpList_add rfl rfl HRUN.out ?_ ?_ ?_); rfl; rfl))
        go_roundw
        case rel => exact ⟨j + 1, v', by go_num, rfl, by omega, by rw [HT2.out]; exact HO4.out, HW4.out⟩
        case measure => simp [RowKit.intOf]; omega
    · have hlt' : ¬ (j : Int) < (l.length : Int) := by omega
      have hE : l.take j = l := List.take_of_length_le (by omega)
      rw [hE] at HOUT
      have HX := Lib.hid (HOUT.out.objs (by have := uniq_len l; omega))
      clear hE HOUT
      go_wp2
      go_ret
      exact ⟨_, rfl, HX.out, HLOW.out⟩
end Go.Proofs.YtijgieefmnmakaaDoor.O.B
