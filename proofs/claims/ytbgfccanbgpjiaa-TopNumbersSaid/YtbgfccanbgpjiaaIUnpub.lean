/- A volume is taken from a node: of any driver that has it. -/
import Derived.Test.YtbgfccanbgpjiaaIPub
namespace Go.Proofs.Ytbgfccanbgpjiaa.O.I
open Go Go.RowKit Go.Lib KM
attribute [local go_sem] Oper.semAt_some

theorem run_delete_st {t e kt' : TypeId} {w : World} {b : Nat} {m : List (ByteArray × Value)} (ht : Try.prog.underlying t = some (.map 9 e)) (h : IsMap encS w b m) (hst : Stamp w b) (x : ByteArray) (ty : TypeId) :
    ∃ w', (Builtin.delete_ #[t, kt'] ty #[.map (some b), encS x]).run Try.prog w = .ok (.tuple #[]) w' ∧ IsMap encS w' b (KM.del x m) ∧ Turned w w' b ∧ Stamp w' b := by
  obtain ⟨es, clock, hb, hh⟩ := h
  obtain ⟨es', clock', hb', hs'⟩ := hst
  rw [hb] at hb'
  cases hb'
  have hf := strT.find x w _ _ hh
  cases hs : seek x m 0 with
  | none =>
    rw [hs] at hf
    refine ⟨_, by simp [Builtin.delete_, run_underlying ht, MapKept.run_getObj_map hb, strT.check, hf, MapKept.run_setObj_map _ hb, Result.andThen] <;> rfl, ⟨_, _, (MapKept.heap_set hb).1, ?_⟩, turned_set hb _, ⟨_, _, (MapKept.heap_set hb).1, ?_⟩⟩
    · rw [(seek_none (v := .nilIface) hs).2]
      exact hh
    · exact hs'
  | some q =>
    obtain ⟨j, u⟩ := q
    rw [hs] at hf
    obtain ⟨n, q1, q2, -, -, q6⟩ := seek_some (v := .nilIface) hs hh
    have hjn : j = n := by omega
    subst hjn
    refine ⟨_, by simp [Builtin.delete_, run_underlying ht, MapKept.run_getObj_map hb, strT.check, hf, MapKept.run_setObj_map _ hb, Result.andThen] <;> rfl, ⟨_, _, (MapKept.heap_set hb).1, ?_⟩, turned_set hb _, ⟨_, _, (MapKept.heap_set hb).1, MapKept.stamped_erase hs' j⟩⟩
    have e1 : (es.eraseIdxIfInBounds j).toList = es.toList.eraseIdx j := by
      unfold Array.eraseIdxIfInBounds
      split
      · simp
      · rw [List.eraseIdx_of_length_le (by simpa using Nat.le_of_not_lt (by assumption))]
    rw [e1]
    exact q6
theorem exec_del {W : World} {b : Nat} {m : List (ByteArray × Value)} (h : IsMap encS W b m) (hst : Stamp W b) (k : ByteArray) {t e : TypeId} (ht : Try.prog.underlying t = some (.map 9 e)) :
    ∃ W', (∀ {oi : Oper} {a : Act} {p r : Operand} {kt : TypeId}, oi.op = .call { callee := .builtin .delete, args := #[p, r], argTypes := #[t, kt] } → a.eval p = .map (some b) → a.eval r = .string k → (execOp a.eval oi).run Try.prog W = .ok (.value (.tuple #[])) W') ∧ IsMap encS W' b (KM.del k m) ∧ Turned W W' b ∧ Stamp W' b := by
  obtain ⟨W', h1, h2, h3, h5⟩ := run_delete_st (kt' := 9) ht h hst k 0
  refine ⟨W', fun {oi a p r kt} ho hm hk => ?_, h2, h3, h5⟩
  have h4 : (Builtin.delete_ #[t, kt] oi.type #[.map (some b), .string k]).run Try.prog W = .ok (.tuple #[]) W' := h1
  unfold execOp
  simp [ho, resolve, invoke, builtin, hm, hk, h4, Result.andThen]
theorem exec_nodes {W : World} {y : Vl} {oi : Oper} {a : Act} {x : Operand} (ho : oi.op = .field 95 x 2) (hx : a.eval x = encV y) : (execOp a.eval oi).run Try.prog W = .ok (.value (.map y.nodes)) W := by
  unfold execOp
  simp only [ho, hx]
  kernel_rfl

set_option maxRecDepth 100000 in
set_option maxHeartbeats 4000000 in
theorem unpublish_ok (d r v s n m : Nat) (Ro Vo So : List (ByteArray × Value)) (No : List (Tg × Value)) (t node : ByteArray) (x : Vl) (M : List (ByteArray × Value)) (w : World)
    (hd : DrAt w d r v s n Ro Vo So No) (hV : KM.get t Vo = some (encV x)) (hx : x.nodes = some m) (hm : IsMap encS w m M) (hst : Stamp w m) :
    Calls Try.prog 71 #[.pointer (some ⟨d, 0, none⟩), .string t, .string node] w fun e w' => e = .returned (encR zeroR) ∧ IsMap encS w' m (KM.del node M) ∧ Stamp w' m ∧ Only m w w' := by
  have HD := Lib.hid hd
  have HV := Lib.hid hV
  have HX := Lib.hid hx
  have HM := Lib.hid hm
  have HS := Lib.hid hst
  have HLT := Lib.hid hm.lt
  clear hd hV hx hm hst
  go_enter Try.func71, Try.ntmps71
  go_upto_region 1 with (fail)
  refine wp_gen (fun V => BoxR V w.heap.size zeroR ∧ Below w.heap.size w V) ⟨heap_alloc_new _ _, (Below.refl _ _).alloc (Nat.le_refl _) _⟩ ?_
  rintro V0 ⟨hr, hw⟩
  have hd0 := HD.out.after hw
  have c1 := hd0.box.c1
  have hlt := HLT.out
  have hsz := hw.size
  have hr0 : w.heap.size < V0.heap.size := hr.lt
  have hm1 : IsMap encS V0 m M := HM.out.after hw
  have hs1 : Stamp V0 m := HS.out.of_heap (hw.block m (by omega))
  obtain ⟨V2, su, hm2, ht2, hs2⟩ := exec_del hm1 hs1 node und_N
  have hr2 : BoxR V2 w.heap.size zeroR := (ht2.block _ (by omega)).trans hr
  obtain ⟨V3, sr, br, or, lr⟩ := stoR hr2 zeroR
  have HRES : Hid (IsMap encS V3 m (KM.del node M) ∧ Stamp V3 m ∧ Only m w V3) := by
    show _ ∧ _
    refine ⟨hm2.of_heap (or m (by omega)), hs2.of_heap (or m (by omega)), fun g hg hgm => ?_, fun B hB1 hB2 => ?_⟩
    · rw [or g (by omega), ht2.block g hgm, hw.block g hg]
    · exact lr _ _ ((hw.mono hB2).trans (ht2.below hB1)) hB2
  have HBR := Lib.hid br
  have HDV := Lib.hid hd0.vols
  have HXN : Hid (.map x.nodes = (Value.map (some m))) := by show _ = _; rw [HX.out]
  clear hr hw hm1 hs1 hm2 ht2 hs2 hr2 br or lr hd0 HD HM HS HLT hlt hsz hr0
  go_wp2_with (first | (refine wpList_got rfl (exec_look1 und_V (zero_V _) HDV.out (some (encV x)) HV.out rfl rfl rfl) ?_) | (refine wpList_got (v := .map (some m)) rfl (by rw [← HXN.out]; exact exec_nodes (y := x) rfl rfl) ?_) | (refine wpList_got rfl (su rfl rfl rfl) ?_) | ((with_reducible refine wpList_build_to rfl 50 _ rfl (cellsR zeroR) ?_ ?_); exact built_r0) | (refine wpList_skip rfl (sr rfl rfl rfl) ?_))
  refine bodyPost_ret (v := encR zeroR) (results_cell_row rfl _ _ w.heap.size 50 (cellsR zeroR) (0, 0) _ rfl HBR.out undR rfl sizeR) rfl ?_
  exact ⟨rfl, HRES.out⟩
end Go.Proofs.Ytbgfccanbgpjiaa.O.I
