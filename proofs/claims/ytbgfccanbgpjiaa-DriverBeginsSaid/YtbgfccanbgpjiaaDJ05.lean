/- Own work. -/
import Derived.Test.YtbgfccanbgpjiaaDJ04
namespace Go.HeldBy
open Go Go.RowKit
section
variable {P : Program} {ops : Array Oper} {Q : Exit → Act → World → Prop} {md : Region.Mode} {S : World → Prop}
structure Goes (P : Program) (md : Region.Mode) (ops : Array Oper) (Q : Exit → Act → World → Prop) (S : World → Prop) (w0 : World) (k : Nat) (dk : Option Tmp) (x : Obj) (n : Nat) (L : Array Bool) (a : Act) : Prop where
  without : ∀ w, Below w0.heap.size w0 w → wpAnyH P md ops Q S (n + 1) L a w
  with_ : ∀ p w, w0.heap.size ≤ p → Below w0.heap.size w0 w → w.heap[p]? = some x → wpAnyH P md ops Q S n (L.setIfInBounds k true) (a.put dk (ptr p)) w
def far (ops : Array Oper) (oi : Oper) (dk : Option Tmp) : Bool :=
  match dk with
  | some d => !((oi.looksAt ops).contains d) && (oi.dst != some d)
  | none => true
def noSel (oi : Oper) : Bool := match oi.op with | .select _ _ => false | _ => true
theorem noSel_out {oi : Oper} (h : noSel oi = true) : ∀ cs b, oi.op ≠ .select cs b := fun cs b e => by
  unfold noSel at h
  rw [e] at h
  cases h
theorem far_out {oi : Oper} {dk : Option Tmp} (h : far ops oi dk = true) : (∀ d, dk = some d → d ∉ oi.looksAt ops) ∧ ∀ d, dk = some d → oi.dst ≠ some d := by
  cases dk with
  | none => exact ⟨(fun d hd => by cases hd), (fun d hd => by cases hd)⟩
  | some d =>
    unfold far at h
    simp only [Bool.and_eq_true, Bool.not_eq_true', bne_iff_ne] at h
    refine ⟨fun d' hd hm => ?_, fun d' hd => ?_⟩
    · cases hd
      have := List.contains_iff_mem.2 hm
      rw [h.1] at this
      cases this
    · cases hd
      exact h.2
variable {w0 : World} {k : Nat} {ok : Oper} {dk : Option Tmp} {x : Obj} {L L2 : Array Bool} {a a' : Act} {n : Nat} {i : Nat} {oi : Oper} {v : Value}
theorem Goes.nil {mk : Nat → Act} (hk : ops[k]? = some ok) (hd : ok.dst = dk) (hr : Region.ready md ops L = [k]) (gk : ok.guard = none) (hvk : Makes P ok x) (hS : ∀ w', Below w0.heap.size w0 w' → S w')
    (hl : L.setIfInBounds k true = L2) (ha : ∀ p, a.put dk (ptr p) = mk p)
    (h : ∀ p w, w0.heap.size ≤ p → Below w0.heap.size w0 w → w.heap[p]? = some x → wpAnyH P md ops Q S n L2 (mk p) w) : Goes P md ops Q S w0 k dk x n L a := by
  subst hd
  refine ⟨fun w hw => ?_, fun p w hp hw hx => by rw [hl, ha]; exact h p w hp hw hx⟩
  have hb : Below w0.heap.size w0 (w.alloc x) := hw.alloc hw.size x
  refine value hk hr (wanted_none gk _) (hvk a w) (ha _) (hS _ hb) ?_
  rw [hl]
  exact h _ _ hw.size hb (heap_alloc_new _ _)
theorem Goes.take (hi : ops[i]? = some oi) (hs : Region.noSelect ops = true) (hsi : noSel oi = true) (hf : Region.free md ops L i = true) (hf2 : Region.free md ops (L.setIfInBounds k true) i = true)
    (hr : (Region.ready md ops L).contains i = true) (hr2 : (Region.ready md ops (L.setIfInBounds k true)).contains i = true) (hQ : ∀ c a w, Q (.panic c) (a.put oi.dst v) w → Q (.panic c) a w)
    (gi : oi.guard = none) (hik : i ≠ k) (hap : far ops oi dk = true)
    (hv : ∀ w, S w → (execOp a.eval oi).run P w = .ok (.value v) w) (he : a.put oi.dst v = a') (hS : ∀ w', Below w0.heap.size w0 w' → S w')
    (h : Goes P md ops Q S w0 k dk x n (L.setIfInBounds i true) a') : Goes P md ops Q S w0 k dk x (n + 1) L a := by
  obtain ⟨hap, hdd⟩ := far_out hap
  have hQ2 : ∀ c (a : Act) w, Q (.panic c) (a.put oi.dst v) w → Q (.panic c) a w := hQ
  refine ⟨fun w hw => HeldBy.take hi hs hf hr hQ (wanted_none gi _) hv he (hS w hw) (h.without w hw), fun p w hp hw hx => ?_⟩
  refine HeldBy.take hi hs hf2 hr2 hQ2 (wanted_none gi _) (fun w hw => ?_) ?_ (hS w hw) (?_ : wpAnyH P md ops Q S n _ (a'.put dk (ptr p)) w)
  · rw [execOp_put oi (noSel_out hsi) a dk (ptr p) hap]
    exact hv w hw
  · rw [← Act.put_comm a v (ptr p) (fun d hd e => hdd d e hd), he]
  · rw [Array.setIfInBounds_comm _ _ (fun e => hik e.symm)]
    exact h.with_ p w hp hw hx
theorem Goes.callS {f : FuncId} {args : Array Value} (hi : ops[i]? = some oi) (hk : ops[k]? = some ok) (hd : ok.dst = dk) (gk : ok.guard = none) (hvk : Makes P ok x) (hsi : noSel oi = true) (hr : Region.ready md ops L = [i, k]) (hr2 : Region.ready md ops (L.setIfInBounds k true) = [i])
    (gi : oi.guard = none) (hik : i ≠ k) (hap : far ops oi dk = true)
    (hv : ∀ w, (execOp a.eval oi).run P w = .ok (.enter f args) w) (he : a.put oi.dst v = a') (hS : ∀ w', Below w0.heap.size w0 w' → S w')
    (hc : ∀ w, S w → Calls P f args w fun e w' => e = .returned v ∧ Below w.heap.size w w')
    (h : Goes P md ops Q S w0 k dk x n (L.setIfInBounds i true) a') : Goes P md ops Q S w0 k dk x (n + 1) L a := by
  subst hd
  obtain ⟨hap, hdd⟩ := far_out hap
  have late : ∀ p w, w0.heap.size ≤ p → Below w0.heap.size w0 w → w.heap[p]? = some x → wpAnyH P md ops Q S (n + 1) (L.setIfInBounds k true) (a.put ok.dst (ptr p)) w := fun p w hp hw hx => by
    refine HeldBy.call (a' := a'.put ok.dst (ptr p)) (v := v) (f := f) (args := args) hi hr2 (wanted_none gi _) ?_ ?_ ?_
    · rw [execOp_put oi (noSel_out hsi) a ok.dst (ptr p) hap]
      exact hv w
    · rw [← Act.put_comm a v (ptr p) (fun d hd e => hdd d e hd), he]
    · refine (hc w (hS w hw)).mono ?_
      rintro e w' ⟨rfl, hb⟩
      have hw' : Below w0.heap.size w0 w' := hw.trans (hb.mono hw.size)
      refine ⟨rfl, hS _ hw', ?_⟩
      rw [Array.setIfInBounds_comm _ _ (fun e => hik e.symm)]
      exact h.with_ p w' hp hw' ((hb.block p (Array.getElem?_eq_some_iff.1 hx).1).trans hx)
  refine ⟨fun w hw => ?_, late⟩
  refine two hr ?_ ?_
  · refine op_call hi (wanted_none gi _) (hv w) he ((hc w (hS w hw)).mono ?_)
    rintro e w' ⟨rfl, hb⟩
    have hw' : Below w0.heap.size w0 w' := hw.trans (hb.mono hw.size)
    exact ⟨rfl, hS _ hw', h.without w' hw'⟩
  · have hb : Below w0.heap.size w0 (w.alloc x) := hw.alloc hw.size x
    exact op_value hk (wanted_none gk _) (hvk a w) rfl ⟨hS _ hb, late _ _ hw.size hb (heap_alloc_new _ _)⟩
theorem Goes.call {f : FuncId} {args : Array Value} (hi : ops[i]? = some oi) (hk : ops[k]? = some ok) (hd : ok.dst = dk) (gk : ok.guard = none) (hvk : Makes P ok x) (hsi : noSel oi = true) (hr : Region.ready md ops L = [i, k]) (hr2 : Region.ready md ops (L.setIfInBounds k true) = [i])
    (gi : oi.guard = none) (hik : i ≠ k) (hap : far ops oi dk = true)
    (hv : ∀ w, (execOp a.eval oi).run P w = .ok (.enter f args) w) (he : a.put oi.dst v = a') (hS : ∀ w', Below w0.heap.size w0 w' → S w')
    (hc : ∀ w, Calls P f args w fun e w' => e = .returned v ∧ Below w.heap.size w w')
    (h : Goes P md ops Q S w0 k dk x n (L.setIfInBounds i true) a') : Goes P md ops Q S w0 k dk x (n + 1) L a :=
  Goes.callS hi hk hd gk hvk hsi hr hr2 gi hik hap hv he hS (fun w _ => hc w) h
end
end Go.HeldBy
namespace Go.Proofs.Ytbgfccanbgpjiaa.O.I
open Go Go.RowKit Go.Lib KM
attribute [local go_sem] Oper.semAt_some
theorem results_ct {P : Program} {fn : Func} {p q : Tmp} {tp : TypeId} {tmps : Array Value} {w : World} {g : Nat} {x y : Value} (hr : fn.results = #[.cell p tp, .tmp q]) (hp : tmps.getD p undef = .pointer (some ⟨g, 0, none⟩)) (hq : tmps.getD q undef = y)
    (h1 : (loadVar tp ⟨g, 0, none⟩).run P w = .ok x w) : (results fn tmps).run P w = .ok (.tuple #[x, y]) w := by
  have hp' : tmps[p]?.getD undef = .pointer (some ⟨g, 0, none⟩) := by simpa using hp
  have hq' : tmps[q]?.getD undef = y := by simpa using hq
  simp [results, hr, hp', hq', asAddr, h1]
theorem loadVarK {W : World} {b : Nat} {x : Ct} (h : BoxK W b x) : (loadVar 92 ⟨b, 0, none⟩).run Try.prog W = .ok (encK x) W := run_loadVar_row W b 92 92 (cellsK x) (0, 0) _ h undK rfl sizeK
theorem built_k0 : Try.prog.built 92 [] = some (cellsK zeroK) := by kernel_rfl
theorem built_k (n t : Int) : Try.prog.built 92 [(0, .int .i64 n), (1, .int .u64 t)] = some (cellsK ⟨n, t⟩) := by kernel_rfl
theorem built_v (n t : Int) (z : ByteArray) (m : Option Nat) : Try.prog.built 95 [(0, encK ⟨n, t⟩), (1, .string z), (2, .map m)] = some (cellsV ⟨n, t, z, m⟩) := by kernel_rfl
theorem built_made (n t : Int) (z : ByteArray) : Try.prog.built 50 [(1, .int .i64 n), (2, .string z), (3, .int .u64 t)] = some (cellsR ⟨0, n, z, t⟩) := by kernel_rfl
theorem makes_v {oi : Oper} (ho : oi.op = .alloc 95) : HeldBy.Makes Try.prog oi (.cells (cellsV zeroV) 95 (0, 0)) := by
  intro a w
  unfold execOp
  simp only [ho]
  kernel_rfl
theorem makes_p {oi : Oper} (ho : oi.op = .alloc 109) : HeldBy.Makes Try.prog oi (.cells (cellsP zeroP) 109 (0, 0)) := by
  intro a w
  unfold execOp
  simp only [ho]
  kernel_rfl
theorem exec_maplen {κ : Type} [DecidableEq κ] {enc : κ → Value} {W : World} {b : Nat} {m : List (κ × Value)} (h : IsMap enc W b m) {oi : Oper} {a : Act} {t kt e : TypeId} {p : Operand} (ht : Try.prog.underlying t = some (.map kt e)) (ho : oi.op = .call { callee := .builtin .len, args := #[p], argTypes := #[t] }) (hp : a.eval p = .map (some b)) :
    (execOp a.eval oi).run Try.prog W = .ok (.value (.int .i64 m.length)) W := by
  obtain ⟨es, clock, hb, hh⟩ := h
  have hl : es.size = m.length := by rw [← hh.length]; simp
  unfold execOp
  simp [ho, hp, resolve, invoke, builtin, Builtin.len_, run_underlying ht, MapKept.run_getObj_map hb, Result.andThen, goInt, hl]
set_option maxRecDepth 100000 in
set_option maxHeartbeats 2000000 in
theorem source_none (d : Value) (w : World) : Calls Try.prog 86 #[d, .string E0] w fun e w' => e = .returned (.tuple #[encK zeroK, .bool true]) ∧ Below w.heap.size w w' := by
  obtain ⟨V, hs, hv, hl⟩ := boxK w zeroK rfl zeroK
  have HV := Lib.hid hv
  have HW := Lib.hid hl
  clear hv hl
  have e1 : E0.toList = [] := (emp_iff _).2 rfl
  have e2 : (E0.toList == []) = true := by simp [e1]
  have e3 : E0.toList.isEmpty = true := by simp [e1]
  go_enter Try.func86, Try.ntmps86
  go_wp2_with (first | ((with_reducible refine wpList_build_to rfl 92 _ rfl (cellsK zeroK) ?_ ?_); exact built_k0) | (refine wpList_skip rfl (hs rfl rfl rfl) ?_))
  refine bodyPost_ret (v := .tuple #[encK zeroK, .bool true]) (results_ct rfl rfl rfl (loadVarK HV.out)) rfl ?_
  exact ⟨rfl, HW.out⟩
set_option maxRecDepth 100000 in
set_option maxHeartbeats 2000000 in
theorem made_any (x : Vl) (w : World) : Calls Try.prog 85 #[encV x] w fun e w' => e = .returned (encR ⟨0, x.size, x.zone, x.tag⟩) ∧ Below w.heap.size w w' := by
  rw [show encV x = .agg (cellsV x) from rfl]
  go_enter Try.func85, Try.ntmps85
  go_upto_region 1 with (fail)
  refine wp_gen (fun V => BoxV V w.heap.size x ∧ BoxR V (w.heap.size + 1) zeroR ∧ Below w.heap.size w V) ⟨(heap2 w _ _).1, (heap2 w _ _).2, below2 w _ _⟩ ?_
  rintro V ⟨hx, hr, hlw⟩
  have c0 := hx.c0
  have c1 := hx.c1
  have c2 := hx.c2
  obtain ⟨V3, hs3, hb3, -, hl3⟩ := stoR hr ⟨0, x.size, x.zone, x.tag⟩
  have HV := Lib.hid hb3
  have HW := Lib.hid (hl3 w.heap.size w hlw (Nat.le_succ _))
  clear hx hr hlw hb3 hl3
  go_wp2_with (first | ((with_reducible refine wpList_build_to rfl 50 _ rfl (cellsR ⟨0, x.size, x.zone, x.tag⟩) ?_ ?_); exact built_made _ _ _) | (refine wpList_skip rfl (hs3 rfl rfl rfl) ?_))
  refine bodyPost_ret (v := encR ⟨0, x.size, x.zone, x.tag⟩) (results_cell_row rfl _ _ (w.heap.size + 1) 50 (cellsR ⟨0, x.size, x.zone, x.tag⟩) (0, 0) _ rfl HV.out undR rfl sizeR) rfl ?_
  exact ⟨rfl, HW.out⟩
end Go.Proofs.Ytbgfccanbgpjiaa.O.I
namespace Go.Proofs.Ytbgfccanbgpjiaa.O.I
open Go Go.RowKit Go.Lib KM
attribute [local go_sem] Oper.semAt_some
theorem DrAt.keep {W W' : World} {d r v s n b : Nat} {R V S : List (ByteArray × Value)} {N : List (Tg × Value)} (h : DrAt W d r v s n R V S N) (hk : ∀ g, g ≠ b → W'.heap[g]? = W.heap[g]?) (hb : d ≠ b ∧ r ≠ b ∧ v ≠ b ∧ s ≠ b ∧ n ≠ b) : DrAt W' d r v s n R V S N :=
  ⟨(hk _ hb.1).trans h.box, h.rooms.of_heap (hk _ hb.2.1), h.vols.of_heap (hk _ hb.2.2.1), h.snaps.of_heap (hk _ hb.2.2.2.1), h.done.of_heap (hk _ hb.2.2.2.2), h.stamp.of_heap (hk _ hb.2.2.1), h.stampS.of_heap (hk _ hb.2.2.2.1)⟩
abbrev tN : TypeId := 93
end Go.Proofs.Ytbgfccanbgpjiaa.O.I
namespace Go.Proofs.Ytbgfccanbgpjiaa.O.I
open Go Go.RowKit Go.Lib KM
attribute [local go_sem] Oper.semAt_some
theorem exec_build {o : Oper} {a : Act} {w : World} (t : TypeId) (parts : Array (Nat × Operand)) (ho : o.op = .build t parts) (cs : Array Value)
    (hf : Try.prog.built t (parts.toList.map fun (i, x) => (i, a.eval x)) = some cs) : (execOp a.eval o).run Try.prog w = .ok (.value (.agg cs)) w := by
  have h : Try.prog.built t (parts.map fun (i, x) => (i, a.eval x)).toList = some cs := by rw [Array.toList_map]; exact hf
  unfold execOp
  simp only [ho, Sem.run_bind, run_build w t _ cs h, Result.andThen_ok]
  rfl
theorem built_p (c : Cl) (x : Rs) : Try.prog.built 109 [(0, encC c), (1, encR x)] = some (cellsP ⟨c, x⟩) := by kernel_rfl
theorem BoxP.callAt {W : World} {b : Nat} {x : Pc} (h : BoxP W b x) : W.rangeAt b 0 (cellsC x.call).toList := by
  have he : ((cellsP x).extract 0 (0 + 7)).toList = (cellsC x.call).toList := by kernel_rfl
  rw [← he]
  exact World.rangeAt_of_block h 0 7
theorem BoxP.resAt {W : World} {b : Nat} {x : Pc} (h : BoxP W b x) : W.rangeAt b 7 (cellsR x.res).toList := by
  have he : ((cellsP x).extract 7 (7 + 4)).toList = (cellsR x.res).toList := by kernel_rfl
  rw [← he]
  exact World.rangeAt_of_block h 7 4
theorem loadP_call {W : World} {b : Nat} {x : Pc} (h : BoxP W b x) {oi : Oper} {a : Act} {p : Operand} (ho : oi.op = .load 27 p) (hx : a.eval p = .pointer (some ⟨b, 0, none⟩)) :
    (execOp a.eval oi).run Try.prog W = .ok (.value (encC x.call)) W := by
  have h1 := run_loadAt_mid (P := Try.prog) W b 0 27 (cellsC x.call).toList _ h.callAt undC rfl sizeC
  unfold execOp
  simp only [ho, hx, Sem.run_bind, h1, Result.andThen_ok, Sem.run_pure]
  rfl
theorem loadP_res {W : World} {b : Nat} {x : Pc} (h : BoxP W b x) {oi : Oper} {a : Act} {p : Operand} (ho : oi.op = .load 50 p) (hx : a.eval p = .pointer (some ⟨b, 7, none⟩)) :
    (execOp a.eval oi).run Try.prog W = .ok (.value (encR x.res)) W := by
  have h1 := run_loadAt_mid (P := Try.prog) W b 7 50 (cellsR x.res).toList _ h.resAt undR rfl sizeR
  unfold execOp
  simp only [ho, hx, Sem.run_bind, h1, Result.andThen_ok, Sem.run_pure]
  rfl
end Go.Proofs.Ytbgfccanbgpjiaa.O.I
namespace Go.Proofs.Ytbgfccanbgpjiaa.O.I
open Go Go.RowKit Go.Lib KM
attribute [local go_sem] Oper.semAt_some
theorem und_N : Try.prog.underlying tN = some (.map 9 100) := Try.underlying93
theorem built_r0 : Try.prog.built 50 [] = some (cellsR zeroR) := by kernel_rfl
theorem built_u0 : Try.prog.built 100 [] = some #[] := by kernel_rfl
def Only (m : Nat) (w w' : World) : Prop := (∀ g, g < w.heap.size → g ≠ m → w'.heap[g]? = w.heap[g]?) ∧ ∀ B, B ≤ m → B ≤ w.heap.size → Below B w w'
set_option maxRecDepth 100000 in
set_option maxHeartbeats 4000000 in
theorem publish_ok (d r v s n m : Nat) (Ro Vo So : List (ByteArray × Value)) (No : List (Tg × Value)) (t node : ByteArray) (x : Vl) (M : List (ByteArray × Value)) (w : World)
    (hd : DrAt w d r v s n Ro Vo So No) (hV : KM.get t Vo = some (encV x)) (hx : x.nodes = some m) (hm : IsMap encS w m M) (hst : Stamp w m) :
    Calls Try.prog 70 #[.pointer (some ⟨d, 0, none⟩), .string t, .string node] w fun e w' => e = .returned (encR zeroR) ∧ IsMap encS w' m (KM.put node (.agg #[]) M) ∧ Stamp w' m ∧ Only m w w' := by
  have HD := Lib.hid hd
  have HV := Lib.hid hV
  have HX := Lib.hid hx
  have HM := Lib.hid hm
  have HS := Lib.hid hst
  have HLT := Lib.hid hm.lt
  clear hd hV hx hm hst
  go_enter Try.func70, Try.ntmps70
  go_upto_region 1 with (fail)
  refine wp_gen (fun V => BoxR V w.heap.size zeroR ∧ Below w.heap.size w V) ⟨heap_alloc_new _ _, (Below.refl _ _).alloc (Nat.le_refl _) _⟩ ?_
  rintro V0 ⟨hr, hw⟩
  have hd0 := HD.out.after hw
  have c1 := hd0.box.c1
  obtain ⟨V1, sv, bv, lv⟩ := boxV V0 zeroV rfl x
  have hlt := HLT.out
  have hsz := hw.size
  have hr0 : w.heap.size < V0.heap.size := hr.lt
  have hm1 : IsMap encS V1 m M := (HM.out.after hw).after lv
  have hs1 : Stamp V1 m := HS.out.of_heap ((lv.block m (by omega)).trans (hw.block m (by omega)))
  obtain ⟨V2, su, hm2, ht2, hs2⟩ := exec_upds und_N hm1 hs1 node (.agg #[])
  have c3 := bv.c3
  rw [HX.out] at c3
  have hr2 : BoxR V2 w.heap.size zeroR := (ht2.block _ (by omega)).trans (hr.after lv)
  obtain ⟨V3, sr, br, or, lr⟩ := stoR hr2 zeroR
  have HRES : Hid (IsMap encS V3 m (KM.put node (.agg #[]) M) ∧ Stamp V3 m ∧ Only m w V3) := by
    show _ ∧ _
    refine ⟨hm2.of_heap (or m (by omega)), hs2.of_heap (or m (by omega)), fun g hg hgm => ?_, fun B hB1 hB2 => ?_⟩
    · rw [or g (by omega), ht2.block g hgm, lv.block g (by omega), hw.block g hg]
    · exact lr _ _ (((hw.mono hB2).trans (lv.mono (by omega))).trans (ht2.below hB1)) hB2
  have HBR := Lib.hid br
  have HDV := Lib.hid hd0.vols
  clear hr hw hm1 hs1 hm2 ht2 hs2 hr2 br or lr lv bv hd0 HD HM HS HX HLT hlt hsz hr0
  go_wp2_with (first | (refine wpList_got rfl (exec_look2 und_V (zero_V _) HDV.out (some (encV x)) HV.out rfl rfl rfl) ?_) | (refine wpList_skip rfl (sv rfl rfl rfl) ?_) | ((with_reducible refine wpList_build_to rfl 100 _ rfl #[] ?_ ?_); exact built_u0) | (refine wpList_skip rfl (su rfl rfl rfl rfl) ?_) | ((with_reducible refine wpList_build_to rfl 50 _ rfl (cellsR zeroR) ?_ ?_); exact built_r0) | (refine wpList_skip rfl (sr rfl rfl rfl) ?_))
  refine bodyPost_ret (v := encR zeroR) (results_cell_row rfl _ _ w.heap.size 50 (cellsR zeroR) (0, 0) _ rfl HBR.out undR rfl sizeR) rfl ?_
  exact ⟨rfl, HRES.out⟩
end Go.Proofs.Ytbgfccanbgpjiaa.O.I
namespace Go.Proofs.Ytbgfccanbgpjiaa.O.I
open Go Go.RowKit Go.Lib KM
attribute [local go_sem] Oper.semAt_some
theorem run_delete_st {t e kt' : TypeId} {w : World} {b : Nat} {m : List (ByteArray × Value)} (ht : Try.prog.underlying t = some (.map 9 e)) (h : IsMap encS w b m) (hst : Stamp w b) (x : ByteArray) (ty : TypeId) :
    ∃ w', (Builtin.delete_ #[t, kt'] ty #[.map (some b), encS x]).run Try.prog w = .ok (.tuple #[]) w' ∧ IsMap encS w' b (KM.del x m) ∧ Turned w w' b ∧ Stamp w' b := by
  obtain ⟨es, clock, hb, hh⟩ := h
  obtain ⟨es', clock', hb', hs'⟩ := hst
  rw [hb] at hb'
  cases hb'
  have hf := strT.find x w _ _ hh
  cases hs : seek x m 0 with
  | none =>
    rw [hs] at hf
    refine ⟨_, by simp [Builtin.delete_, run_underlying ht, MapKept.run_getObj_map hb, strT.check, hf, MapKept.run_setObj_map _ hb, Result.andThen] <;> rfl, ⟨_, _, (MapKept.heap_set hb).1, ?_⟩, turned_set hb _, ⟨_, _, (MapKept.heap_set hb).1, ?_⟩⟩
    · rw [(seek_none (v := .nilIface) hs).2]
      exact hh
    · exact hs'
  | some q =>
    obtain ⟨j, u⟩ := q
    rw [hs] at hf
    obtain ⟨n, q1, q2, -, -, q6⟩ := seek_some (v := .nilIface) hs hh
    have hjn : j = n := by omega
    subst hjn
    refine ⟨_, by simp [Builtin.delete_, run_underlying ht, MapKept.run_getObj_map hb, strT.check, hf, MapKept.run_setObj_map _ hb, Result.andThen] <;> rfl, ⟨_, _, (MapKept.heap_set hb).1, ?_⟩, turned_set hb _, ⟨_, _, (MapKept.heap_set hb).1, MapKept.stamped_erase hs' j⟩⟩
    have e1 : (es.eraseIdxIfInBounds j).toList = es.toList.eraseIdx j := by
      unfold Array.eraseIdxIfInBounds
      split
      · simp
      · rw [List.eraseIdx_of_length_le (by simpa using Nat.le_of_not_lt (by assumption))]
    rw [e1]
    exact q6
theorem exec_del {W : World} {b : Nat} {m : List (ByteArray × Value)} (h : IsMap encS W b m) (hst : Stamp W b) (k : ByteArray) {t e : TypeId} (ht : Try.prog.underlying t = some (.map 9 e)) :
    ∃ W', (∀ {oi : Oper} {a : Act} {p r : Operand} {kt : TypeId}, oi.op = .call { callee := .builtin .delete, args := #[p, r], argTypes := #[t, kt] } → a.eval p = .map (some b) → a.eval r = .string k → (execOp a.eval oi).run Try.prog W = .ok (.value (.tuple #[])) W') ∧ IsMap encS W' b (KM.del k m) ∧ Turned W W' b ∧ Stamp W' b := by
  obtain ⟨W', h1, h2, h3, h5⟩ := run_delete_st (kt' := 9) ht h hst k 0
  refine ⟨W', fun {oi a p r kt} ho hm hk => ?_, h2, h3, h5⟩
  have h4 : (Builtin.delete_ #[t, kt] oi.type #[.map (some b), .string k]).run Try.prog W = .ok (.tuple #[]) W' := h1
  unfold execOp
  simp [ho, resolve, invoke, builtin, hm, hk, h4, Result.andThen]
theorem exec_nodes {W : World} {y : Vl} {oi : Oper} {a : Act} {x : Operand} (ho : oi.op = .field 95 x 2) (hx : a.eval x = encV y) : (execOp a.eval oi).run Try.prog W = .ok (.value (.map y.nodes)) W := by
  unfold execOp
  simp only [ho, hx]
  kernel_rfl
set_option maxRecDepth 100000 in
set_option maxHeartbeats 4000000 in
theorem unpublish_ok (d r v s n m : Nat) (Ro Vo So : List (ByteArray × Value)) (No : List (Tg × Value)) (t node : ByteArray) (x : Vl) (M : List (ByteArray × Value)) (w : World)
    (hd : DrAt w d r v s n Ro Vo So No) (hV : KM.get t Vo = some (encV x)) (hx : x.nodes = some m) (hm : IsMap encS w m M) (hst : Stamp w m) :
    Calls Try.prog 71 #[.pointer (some ⟨d, 0, none⟩), .string t, .string node] w fun e w' => e = .returned (encR zeroR) ∧ IsMap encS w' m (KM.del node M) ∧ Stamp w' m ∧ Only m w w' := by
  have HD := Lib.hid hd
  have HV := Lib.hid hV
  have HX := Lib.hid hx
  have HM := Lib.hid hm
  have HS := Lib.hid hst
  have HLT := Lib.hid hm.lt
  clear hd hV hx hm hst
  go_enter Try.func71, Try.ntmps71
  go_upto_region 1 with (fail)
  refine wp_gen (fun V => BoxR V w.heap.size zeroR ∧ Below w.heap.size w V) ⟨heap_alloc_new _ _, (Below.refl _ _).alloc (Nat.le_refl _) _⟩ ?_
  rintro V0 ⟨hr, hw⟩
  have hd0 := HD.out.after hw
  have c1 := hd0.box.c1
  have hlt := HLT.out
  have hsz := hw.size
  have hr0 : w.heap.size < V0.heap.size := hr.lt
  have hm1 : IsMap encS V0 m M := HM.out.after hw
  have hs1 : Stamp V0 m := HS.out.of_heap (hw.block m (by omega))
  obtain ⟨V2, su, hm2, ht2, hs2⟩ := exec_del hm1 hs1 node und_N
  have hr2 : BoxR V2 w.heap.size zeroR := (ht2.block _ (by omega)).trans hr
  obtain ⟨V3, sr, br, or, lr⟩ := stoR hr2 zeroR
  have HRES : Hid (IsMap encS V3 m (KM.del node M) ∧ Stamp V3 m ∧ Only m w V3) := by
    show _ ∧ _
    refine ⟨hm2.of_heap (or m (by omega)), hs2.of_heap (or m (by omega)), fun g hg hgm => ?_, fun B hB1 hB2 => ?_⟩
    · rw [or g (by omega), ht2.block g hgm, hw.block g hg]
    · exact lr _ _ ((hw.mono hB2).trans (ht2.below hB1)) hB2
  have HBR := Lib.hid br
  have HDV := Lib.hid hd0.vols
  have HXN : Hid (.map x.nodes = (Value.map (some m))) := by show _ = _; rw [HX.out]
  clear hr hw hm1 hs1 hm2 ht2 hs2 hr2 br or lr hd0 HD HM HS HLT hlt hsz hr0
  go_wp2_with (first | (refine wpList_got rfl (exec_look1 und_V (zero_V _) HDV.out (some (encV x)) HV.out rfl rfl rfl) ?_) | (refine wpList_got (v := .map (some m)) rfl (by rw [← HXN.out]; exact exec_nodes (y := x) rfl rfl) ?_) | (refine wpList_got rfl (su rfl rfl rfl) ?_) | ((with_reducible refine wpList_build_to rfl 50 _ rfl (cellsR zeroR) ?_ ?_); exact built_r0) | (refine wpList_skip rfl (sr rfl rfl rfl) ?_))
  refine bodyPost_ret (v := encR zeroR) (results_cell_row rfl _ _ w.heap.size 50 (cellsR zeroR) (0, 0) _ rfl HBR.out undR rfl sizeR) rfl ?_
  exact ⟨rfl, HRES.out⟩
end Go.Proofs.Ytbgfccanbgpjiaa.O.I
namespace Go.Proofs.Ytbgfccanbgpjiaa.O.I
open Go Go.RowKit Go.Lib KM
attribute [local go_sem] Oper.semAt_some
def Fr (D : Nat → Prop) (B : Nat) (w w' : World) : Prop := (∀ g, g < w.heap.size → ¬ D g → w'.heap[g]? = w.heap[g]?) ∧ Below B w w'
section
variable {D E : Nat → Prop} {B C : Nat} {w W V : World}
theorem Fr.of_below (h : Below w.heap.size w W) (hB : B ≤ w.heap.size) : Fr D B w W := ⟨fun g hg _ => h.block g hg, h.mono hB⟩
theorem Fr.refl (w : World) : Fr D B w w := ⟨fun _ _ _ => rfl, Below.refl _ _⟩
theorem Fr.trans (h : Fr D B w W) (h2 : Fr D B W V) : Fr D B w V := ⟨fun g hg hn => (h2.1 g (by have := h.2.size; omega) hn).trans (h.1 g hg hn), h.2.trans h2.2⟩
theorem Fr.after (h : Fr D B w W) (h2 : Below W.heap.size W V) (hB : B ≤ w.heap.size) : Fr D B w V := h.trans (Fr.of_below h2 (by have := h.2.size; omega))
theorem Fr.turned {b : Nat} (ht : Turned w W b) (hD : D b) (hB : B ≤ b) : Fr D B w W := ⟨fun g _ hn => ht.block g (fun e => hn (e ▸ hD)), ht.below hB⟩
theorem Fr.sto {b : Nat} (h : Fr D B w W) (hk : ∀ g, g ≠ b → V.heap[g]? = W.heap[g]?) (hl : ∀ B A, Below B A W → B ≤ b → Below B A V) (hb : w.heap.size ≤ b) (hB : B ≤ w.heap.size) : Fr D B w V :=
  ⟨fun g hg hn => (hk g (by omega)).trans (h.1 g hg hn), hl _ _ h.2 (by omega)⟩
theorem Fr.weak (h : Fr D B w W) (hD : ∀ g, D g → E g) (hB : C ≤ B) : Fr E C w W := ⟨fun g hg hn => h.1 g hg (fun hd => hn (hD g hd)), h.2.mono hB⟩
theorem Only.fr {m : Nat} (h : Only m w W) (hm : D m) (hB : B ≤ m) (hw : B ≤ w.heap.size) : Fr D B w W := ⟨fun g hg hn => h.1 g hg (fun e => hn (e ▸ hm)), h.2 B hB hw⟩
theorem Fr.size (h : Fr D B w W) : w.heap.size ≤ W.heap.size := h.2.size
end
theorem BoxV.content {W : World} {b : Nat} {x : Vl} (h : BoxV W b x) : W.rangeAt b 0 (cellsK ⟨x.size, x.tag⟩).toList := by
  have he : ((cellsV x).extract 0 (0 + 2)).toList = (cellsK ⟨x.size, x.tag⟩).toList := by kernel_rfl
  rw [← he]
  exact World.rangeAt_of_block h 0 2
theorem loadV_content {W : World} {b : Nat} {x : Vl} (h : BoxV W b x) {oi : Oper} {a : Act} {p : Operand} (ho : oi.op = .load 92 p) (hx : a.eval p = .pointer (some ⟨b, 0, none⟩)) :
    (execOp a.eval oi).run Try.prog W = .ok (.value (encK ⟨x.size, x.tag⟩)) W := by
  have h1 := run_loadAt_mid (P := Try.prog) W b 0 92 (cellsK ⟨x.size, x.tag⟩).toList _ h.content undK rfl sizeK
  unfold execOp
  simp only [ho, hx, Sem.run_bind, h1, Result.andThen_ok, Sem.run_pure]
  rfl
end Go.Proofs.Ytbgfccanbgpjiaa.O.I
namespace Go.Proofs.Ytbgfccanbgpjiaa.O.I
open Go Go.RowKit Go.Lib KM
attribute [local go_sem] Oper.semAt_some
section
variable (B d r v s n : Nat) (Ro Vo So : List (ByteArray × Value)) (No : List (Tg × Value)) (t : ByteArray) (w : World)
set_option maxRecDepth 100000 in
set_option maxHeartbeats 4000000 in
theorem publish_none (node : ByteArray) (hd : DrAt w d r v s n Ro Vo So No) (hV : KM.get t Vo = none) :
    Calls Try.prog 70 #[.pointer (some ⟨d, 0, none⟩), .string t, .string node] w fun e w' => e = .returned (encR (errR 5)) ∧ Below w.heap.size w w' := by
  have HD := Lib.hid hd
  have HV := Lib.hid hV
  clear hd hV
  go_enter Try.func70, Try.ntmps70
  go_upto_region 1 with (fail)
  refine wp_gen (fun V => BoxR V w.heap.size zeroR ∧ Below w.heap.size w V) ⟨heap_alloc_new _ _, (Below.refl _ _).alloc (Nat.le_refl _) _⟩ ?_
  rintro V0 ⟨hr, hw⟩
  have hd0 := HD.out.after hw
  have c1 := hd0.box.c1
  obtain ⟨V1, sv, bv, lv⟩ := boxV V0 zeroV rfl zeroV
  have HDV := Lib.hid hd0.vols
  have HR := Lib.hid (hr.after lv)
  have HW := Lib.hid (hw.trans (lv.mono hw.size))
  clear hr hw bv lv hd0 HD
  go_wp2_with (first | (refine wpList_got rfl (exec_look2 und_V (zero_V _) HDV.out none HV.out rfl rfl rfl) ?_) | (refine wpList_skip rfl (sv rfl rfl rfl) ?_))
  refine (failed_any 5 _).mono ?_
  rintro e W2 ⟨rfl, hb⟩
  obtain ⟨V3, sr, br, -, lr⟩ := stoR (HR.out.after hb) (errR 5)
  have HBR := Lib.hid br
  have HX := Lib.hid (lr _ _ (HW.out.trans (hb.mono HW.out.size)) (Nat.le_refl _))
  clear hb br lr
  go_wp2_with (refine wpList_skip rfl (sr rfl rfl rfl) ?_)
  refine bodyPost_ret (v := encR (errR 5)) (results_cell_row rfl _ _ w.heap.size 50 (cellsR (errR 5)) (0, 0) _ rfl HBR.out undR rfl sizeR) rfl ?_
  exact ⟨rfl, HX.out⟩
set_option maxRecDepth 100000 in
set_option maxHeartbeats 4000000 in
theorem unpublish_none (node : ByteArray) (hd : DrAt w d r v s n Ro Vo So No) (hV : KM.get t Vo = none) :
    Calls Try.prog 71 #[.pointer (some ⟨d, 0, none⟩), .string t, .string node] w fun e w' => e = .returned (encR zeroR) ∧ Below w.heap.size w w' := by
  have HD := Lib.hid hd
  have HV := Lib.hid hV
  clear hd hV
  go_enter Try.func71, Try.ntmps71
  go_upto_region 1 with (fail)
  refine wp_gen (fun V => BoxR V w.heap.size zeroR ∧ Below w.heap.size w V) ⟨heap_alloc_new _ _, (Below.refl _ _).alloc (Nat.le_refl _) _⟩ ?_
  rintro V0 ⟨hr, hw⟩
  have hd0 := HD.out.after hw
  have c1 := hd0.box.c1
  obtain ⟨V3, sr, br, -, lr⟩ := stoR hr zeroR
  have HBR := Lib.hid br
  have HX := Lib.hid (lr _ _ hw (Nat.le_refl _))
  have HDV := Lib.hid hd0.vols
  have HDL : Hid (∀ {oi : Oper} {a : Act} {p q : Operand} {kt : TypeId}, oi.op = .call { callee := .builtin .delete, args := #[p, q], argTypes := #[tN, kt] } → a.eval p = .map none → (execOp a.eval oi).run Try.prog V0 = .ok (.value (.tuple #[])) V0) := fun ho hp => by
    unfold execOp
    simp [ho, resolve, invoke, builtin, hp, Builtin.delete_, run_underlying und_N, Result.andThen]
    try rfl
  clear hr hw hd0 HD br lr
  go_wp2_with (first | (refine wpList_got rfl (exec_look1 und_V (zero_V _) HDV.out none HV.out rfl rfl rfl) ?_) | (refine wpList_got (v := .map none) rfl (exec_nodes (y := zeroV) rfl rfl) ?_) | (refine wpList_got rfl (HDL.out rfl rfl) ?_) | ((with_reducible refine wpList_build_to rfl 50 _ rfl (cellsR zeroR) ?_ ?_); exact built_r0) | (refine wpList_skip rfl (sr rfl rfl rfl) ?_))
  refine bodyPost_ret (v := encR zeroR) (results_cell_row rfl _ _ w.heap.size 50 (cellsR zeroR) (0, 0) _ rfl HBR.out undR rfl sizeR) rfl ?_
  exact ⟨rfl, HX.out⟩
set_option maxRecDepth 100000 in
set_option maxHeartbeats 4000000 in
theorem drop_any (hd : DrAt w d r v s n Ro Vo So No) (hf : Five d r v s n) (hB : B ≤ s ∧ B ≤ w.heap.size) :
    Calls Try.prog 74 #[.pointer (some ⟨d, 0, none⟩), .string t] w fun e w' => e = .returned (encR zeroR) ∧ DrAt w' d r v s n Ro Vo (KM.del t So) No ∧ Fr (fun g => g = s) B w w' := by
  have HD := Lib.hid hd
  have HF := Lib.hid hf
  have HBB := Lib.hid hB
  have HLT := Lib.hid hd.lt
  clear hd hf hB
  go_enter Try.func74, Try.ntmps74
  go_upto_region 1 with (fail)
  refine wp_gen (fun V => BoxR V w.heap.size zeroR ∧ Below w.heap.size w V) ⟨heap_alloc_new _ _, (Below.refl _ _).alloc (Nat.le_refl _) _⟩ ?_
  rintro V0 ⟨hr, hw⟩
  have hd0 := HD.out.after hw
  have c2 := hd0.box.c2
  have hlt := HLT.out
  obtain ⟨V2, su, hm2, ht2, hs2⟩ := exec_del hd0.snaps hd0.stampS t und_S
  have hr2 : BoxR V2 w.heap.size zeroR := (ht2.block _ (by omega)).trans hr
  obtain ⟨V3, sr, br, or, lr⟩ := stoR hr2 zeroR
  have HBR := Lib.hid br
  have HRES : Hid (DrAt V3 d r v s n Ro Vo (KM.del t So) No ∧ Fr (fun g => g = s) B w V3) := by
    show _ ∧ _
    have hBB := HBB.out
    exact ⟨(hd0.putSnaps HF.out ht2 hm2 hs2).keep or (by omega), ((Fr.of_below hw hBB.2).trans (Fr.turned (D := fun g => g = s) ht2 rfl hBB.1)).sto or lr (Nat.le_refl _) hBB.2⟩
  clear hr hw hd0 hm2 ht2 hs2 hr2 br or lr HD HF HLT hlt
  go_wp2_with (first | (refine wpList_got rfl (su rfl rfl rfl) ?_) | ((with_reducible refine wpList_build_to rfl 50 _ rfl (cellsR zeroR) ?_ ?_); exact built_r0) | (refine wpList_skip rfl (sr rfl rfl rfl) ?_))
  refine bodyPost_ret (v := encR zeroR) (results_cell_row rfl _ _ w.heap.size 50 (cellsR zeroR) (0, 0) _ rfl HBR.out undR rfl sizeR) rfl ?_
  exact ⟨rfl, HRES.out⟩
set_option maxRecDepth 100000 in
set_option maxHeartbeats 4000000 in
theorem erase_none (hd : DrAt w d r v s n Ro Vo So No) (hV : KM.get t Vo = none) :
    Calls Try.prog 69 #[.pointer (some ⟨d, 0, none⟩), .string t] w fun e w' => e = .returned (encR zeroR) ∧ Below w.heap.size w w' := by
  have HD := Lib.hid hd
  have HV := Lib.hid hV
  clear hd hV
  go_enter Try.func69, Try.ntmps69
  go_upto_region 1 with (fail)
  refine wp_gen (fun V => BoxR V w.heap.size zeroR ∧ Below w.heap.size w V) ⟨heap_alloc_new _ _, (Below.refl _ _).alloc (Nat.le_refl _) _⟩ ?_
  rintro V0 ⟨hr, hw⟩
  have hd0 := HD.out.after hw
  have c1 := hd0.box.c1
  obtain ⟨V1, sv, bv, lv⟩ := boxV V0 zeroV rfl zeroV
  have c3 : V1.cell? ⟨V0.heap.size, 3, none⟩ = some (.map none) := bv.c3
  obtain ⟨V3, sr, br, -, lr⟩ := stoR (hr.after lv) zeroR
  have HBR := Lib.hid br
  have HX := Lib.hid (lr _ _ (hw.trans (lv.mono hw.size)) (Nat.le_refl _))
  have HDV := Lib.hid hd0.vols
  have HLN : Hid (∀ {oi : Oper} {a : Act} {p : Operand}, oi.op = .call { callee := .builtin .len, args := #[p], argTypes := #[tN] } → a.eval p = .map none → (execOp a.eval oi).run Try.prog V1 = .ok (.value (.int .i64 0)) V1) := fun ho hp => by
    unfold execOp
    simp [ho, resolve, invoke, builtin, hp, Builtin.len_, run_underlying und_N, Result.andThen, goInt]
  clear hr hw hd0 HD br lr bv lv
  go_wp2_with (first | (refine wpList_got rfl (exec_look2 und_V (zero_V _) HDV.out none HV.out rfl rfl rfl) ?_) | (refine wpList_skip rfl (sv rfl rfl rfl) ?_) | (refine wpList_got rfl (HLN.out rfl rfl) ?_) | ((with_reducible refine wpList_build_to rfl 50 _ rfl (cellsR zeroR) ?_ ?_); exact built_r0) | (refine wpList_skip rfl (sr rfl rfl rfl) ?_))
  refine bodyPost_ret (v := encR zeroR) (results_cell_row rfl _ _ w.heap.size 50 (cellsR zeroR) (0, 0) _ rfl HBR.out undR rfl sizeR) rfl ?_
  exact ⟨rfl, HX.out⟩
set_option maxRecDepth 100000 in
set_option maxHeartbeats 4000000 in
theorem erase_busy (x : Vl) (m : Nat) (M : List (ByteArray × Value)) (hd : DrAt w d r v s n Ro Vo So No) (hV : KM.get t Vo = some (encV x)) (hx : x.nodes = some m) (hm : IsMap encS w m M) (hne : M ≠ []) :
    Calls Try.prog 69 #[.pointer (some ⟨d, 0, none⟩), .string t] w fun e w' => e = .returned (encR (errR 10)) ∧ Below w.heap.size w w' := by
  have HD := Lib.hid hd
  have HV := Lib.hid hV
  have HM := Lib.hid hm
  have HX := Lib.hid hx
  have hpos : (0 : Int) < (M.length : Int) := by
    have := List.length_pos_iff.2 hne
    omega
  clear hd hV hx hm hne
  go_enter Try.func69, Try.ntmps69
  go_upto_region 1 with (fail)
  refine wp_gen (fun V => BoxR V w.heap.size zeroR ∧ Below w.heap.size w V) ⟨heap_alloc_new _ _, (Below.refl _ _).alloc (Nat.le_refl _) _⟩ ?_
  rintro V0 ⟨hr, hw⟩
  have hd0 := HD.out.after hw
  have c1 := hd0.box.c1
  obtain ⟨V1, sv, bv, lv⟩ := boxV V0 zeroV rfl x
  have c3 := bv.c3
  rw [HX.out] at c3
  have hm1 : IsMap encS V1 m M := (HM.out.after hw).after lv
  have HMM := Lib.hid hm1
  have HDV := Lib.hid hd0.vols
  have HR := Lib.hid (hr.after lv)
  have HW := Lib.hid (hw.trans (lv.mono hw.size))
  clear hr hw bv lv hd0 HD HM hm1 HX
  go_wp2_with (first | (refine wpList_got rfl (exec_look2 und_V (zero_V _) HDV.out (some (encV x)) HV.out rfl rfl rfl) ?_) | (refine wpList_skip rfl (sv rfl rfl rfl) ?_) | (refine wpList_got rfl (exec_maplen HMM.out und_N rfl rfl) ?_))
  refine (failed_any 10 _).mono ?_
  rintro e W2 ⟨rfl, hb⟩
  obtain ⟨V3, sr, br, -, lr⟩ := stoR (HR.out.after hb) (errR 10)
  have HBR := Lib.hid br
  have HX := Lib.hid (lr _ _ (HW.out.trans (hb.mono HW.out.size)) (Nat.le_refl _))
  clear hb br lr
  go_wp2_with (refine wpList_skip rfl (sr rfl rfl rfl) ?_)
  refine bodyPost_ret (v := encR (errR 10)) (results_cell_row rfl _ _ w.heap.size 50 (cellsR (errR 10)) (0, 0) _ rfl HBR.out undR rfl sizeR) rfl ?_
  exact ⟨rfl, HX.out⟩
set_option maxRecDepth 100000 in
set_option maxHeartbeats 8000000 in
theorem erase_ok (x : Vl) (m : Nat) (room : Int) (hd : DrAt w d r v s n Ro Vo So No) (hf : Five d r v s n) (hV : KM.get t Vo = some (encV x)) (hx : x.nodes = some m) (hm : IsMap encS w m []) (hR : KM.get x.zone Ro = some (.int .i64 room)) (hB : B ≤ r ∧ B ≤ v ∧ B ≤ w.heap.size) :
    Calls Try.prog 69 #[.pointer (some ⟨d, 0, none⟩), .string t] w fun e w' => e = .returned (encR zeroR) ∧ DrAt w' d r v s n (KM.put x.zone (.int .i64 (IntKind.i64.wrap (room + x.size))) Ro) (KM.del t Vo) So No ∧ Fr (fun g => g = r ∨ g = v) B w w' := by
  have HD0 := Lib.hid hd
  have HF := Lib.hid hf
  have HV := Lib.hid hV
  have HM := Lib.hid hm
  have HX := Lib.hid hx
  have HKR := Lib.hid hR
  have HBB := Lib.hid hB
  have HLT := Lib.hid hd.lt
  clear hd hf hV hx hm hR hB
  go_enter Try.func69, Try.ntmps69
  go_upto_region 1 with (fail)
  refine wp_gen (fun V => BoxR V w.heap.size zeroR ∧ Below w.heap.size w V) ⟨heap_alloc_new _ _, (Below.refl _ _).alloc (Nat.le_refl _) _⟩ ?_
  rintro V0 ⟨hr, hw⟩
  have hd0 := HD0.out.after hw
  have c1 := hd0.box.c1
  obtain ⟨V1, sv, bv, lv⟩ := boxV V0 zeroV rfl x
  have hd1 := hd0.after lv
  have k1 := hd1.box.c1
  have c3 := bv.c3
  rw [HX.out] at c3
  have hm1 : IsMap encS V1 m [] := (HM.out.after hw).after lv
  have HLN : Hid (∀ {oi : Oper} {a : Act} {p : Operand}, oi.op = .call { callee := .builtin .len, args := #[p], argTypes := #[tN] } → a.eval p = .map (some m) → (execOp a.eval oi).run Try.prog V1 = .ok (.value (.int .i64 0)) V1) := fun ho hp => exec_maplen hm1 und_N ho hp
  have HDV := Lib.hid hd0.vols
  have hr1 := hr.after lv
  have hw1 := hw.trans (lv.mono hw.size)
  obtain ⟨V2, su, hm2, ht2, hs2⟩ := exec_del hd1.vols hd1.stamp t und_V
  have hlt := HLT.out
  have hwsz := hw.size
  have hrl := hr.lt
  have hBB := HBB.out
  have HD := Lib.hid (hd1.putVols HF.out ht2 hm2 hs2)
  have HB := Lib.hid HD.out.box
  have HR : Hid (BoxR V2 w.heap.size zeroR) := (ht2.block _ (by omega)).trans hr1
  have HX2 : Hid (BoxV V2 V0.heap.size x) := (ht2.block _ (by omega)).trans bv
  have HK : Hid (∀ g, g < w.heap.size → g ≠ r → g ≠ v → V2.heap[g]? = w.heap[g]?) := fun g hg h1 h2 => (ht2.block g h2).trans (hw1.block g hg)
  have HW : Hid (Below B w V2) := (hw1.mono hBB.2.2).trans (ht2.below hBB.2.1)
  have HP : Hid (w.heap.size < V0.heap.size) := hrl
  clear hr hw bv lv hd0 hd1 hm1 hr1 hw1 hm2 ht2 hs2 hlt hwsz hrl hBB HD0 HM HX
  go_upto_region 6 with (first | (refine wpList_got rfl (exec_look2 und_V (zero_V _) HDV.out (some (encV x)) HV.out rfl rfl rfl) ?_) | (refine wpList_skip rfl (sv rfl rfl rfl) ?_) | (refine wpList_got rfl (HLN.out rfl rfl) ?_) | (refine wpList_got rfl (su rfl rfl rfl) ?_))
  clear sv su HLN HDV c1 c3 k1
  refine wp_region_held_drew (S := fun V => BoxD V d ⟨some r, some v, some s, some n⟩ ∧ BoxV V V0.heap.size x) (by kernel_rfl) ⟨HB.out, HX2.out⟩ (fun _ => ?_)
  refine HeldBy.gen (fun V => (BoxD V d ⟨some r, some v, some s, some n⟩ ∧ BoxV V V0.heap.size x) ∧ (DrAt V d r v s n Ro (KM.del t Vo) So No) ∧ (BoxR V w.heap.size zeroR) ∧ (∀ g, g < w.heap.size → g ≠ r → g ≠ v → V.heap[g]? = w.heap[g]?) ∧ (Below B w V)) ⟨⟨HB.out, HX2.out⟩, HD.out, HR.out, HK.out, HW.out.drew⟩ ?_
  clear HB HX2 HD HR HK HW
  rintro U0 ⟨HS, HD, HR, HK, HW⟩
  refine HeldBy.tn (i := 0) rfl HS ?_
  refine HeldBy.tn (i := 1) rfl HS ?_
  refine HeldBy.tn (i := 2) rfl HS ?_
  refine HeldBy.tk (i := 3) (v := .map (some r)) rfl (fun V hV => by have hc := hV.1.c0; first | (go_simp; rfl) | (go_simp; done)) HS ?_
  refine HeldBy.tn (i := 4) rfl HS ?_
  refine HeldBy.tk (i := 5) (v := .string x.zone) rfl (fun V hV => by have hc := hV.2.c2; first | (go_simp; rfl) | (go_simp; done)) HS ?_
  refine HeldBy.tn (i := 7) rfl HS ?_
  refine HeldBy.tn (i := 8) rfl HS ?_
  refine HeldBy.tk (i := 9) (v := .int .i64 x.size) rfl (fun V hV => by have hc := hV.2.c0; first | (go_simp; rfl) | (go_simp; done)) HS ?_
  refine HeldBy.value (i := 6) (v := .int .i64 room) rfl (by kernel_rfl) (by rfl) (exec_look1 und_R (zero_R _) HD.rooms (some _) HKR.out rfl rfl rfl) (by first | (go_simp; rfl) | (go_simp; done)) HS ?_
  refine HeldBy.tk (i := 10) (v := .int .i64 (IntKind.i64.wrap (room + x.size))) rfl (fun _ _ => by first | (go_simp; rfl) | (go_simp; done)) HS ?_
  obtain ⟨V7, hs7, hm7, ht7⟩ := exec_upd und_R HD.rooms x.zone (.int .i64 (IntKind.i64.wrap (room + x.size)))
  have hlt := HLT.out
  have hp := HP.out
  have hBB := HBB.out
  obtain ⟨f1, f2, f3, f4, f5, f6, f7, f8, f9, f10⟩ := HF.out
  have hS7 : BoxD V7 d ⟨some r, some v, some s, some n⟩ ∧ BoxV V7 V0.heap.size x := ⟨HS.1.turned ht7 f1, Turned.other ht7 (by omega) HS.2⟩
  refine HeldBy.store (i := 11) (w' := V7) rfl (by kernel_rfl) (by rfl) (hs7 rfl rfl rfl rfl) (by first | (go_simp; rfl) | (go_simp; done)) hS7 ?_
  refine wpAnyH_done (by kernel_rfl) ?_ _
  have hd7 := HD.putRooms HF.out ht7 hm7
  have hr7 : BoxR V7 w.heap.size zeroR := Turned.other ht7 (by omega) HR
  obtain ⟨V9, hs9, hb9, hk9, hl9⟩ := stoR hr7 zeroR
  have HBR := Lib.hid hb9
  have HRES : Hid (DrAt V9 d r v s n (KM.put x.zone (.int .i64 (IntKind.i64.wrap (room + x.size))) Ro) (KM.del t Vo) So No ∧ Fr (fun g => g = r ∨ g = v) B w V9) := by
    show _ ∧ _
    refine ⟨hd7.keep hk9 (by omega), fun g hg hn => ?_, hl9 _ _ (HW.trans (ht7.below hBB.1)) hBB.2.2⟩
    rw [hk9 g (by omega), ht7.block g (fun e => hn (.inl e)), HK g hg (fun e => hn (.inl e)) (fun e => hn (.inr e))]
  clear hs7 hm7 ht7 hlt hp hBB f1 f2 f3 f4 f5 f6 f7 f8 f9 f10 hS7 HS hd7 hr7 hb9 hk9 hl9 HD HW HK
  go_wp2_with (first | ((with_reducible refine wpList_build_to rfl 50 _ rfl (cellsR zeroR) ?_ ?_); exact built_r0) | (refine wpList_skip rfl (hs9 rfl rfl rfl) ?_))
  refine bodyPost_ret (v := encR zeroR) (results_cell_row rfl _ _ w.heap.size 50 (cellsR zeroR) (0, 0) _ rfl HBR.out undR rfl sizeR) rfl ?_
  exact ⟨rfl, HRES.out⟩
end
end Go.Proofs.Ytbgfccanbgpjiaa.O.I
namespace Go.Proofs.Ytbgfccanbgpjiaa.O.I
open Go Go.RowKit Go.Lib KM
attribute [local go_sem] Oper.semAt_some
theorem built_sz (n : Int) : Try.prog.built 50 [(1, .int .i64 n)] = some (cellsR ⟨0, n, E0, 0⟩) := by kernel_rfl
section
variable (B d r v s n : Nat) (Ro Vo So : List (ByteArray × Value)) (No : List (Tg × Value)) (t : ByteArray) (sz : Int) (w : World)
set_option maxRecDepth 100000 in
set_option maxHeartbeats 4000000 in
theorem expand_none (hd : DrAt w d r v s n Ro Vo So No) (hV : KM.get t Vo = none) :
    Calls Try.prog 72 #[.pointer (some ⟨d, 0, none⟩), .string t, .int .i64 sz] w fun e w' => e = .returned (encR (errR 5)) ∧ Below w.heap.size w w' := by
  have HD := Lib.hid hd
  have HV := Lib.hid hV
  clear hd hV
  go_enter Try.func72, Try.ntmps72
  go_upto_region 1 with (fail)
  refine wp_gen (fun V => BoxR V w.heap.size zeroR ∧ Below w.heap.size w V) ⟨heap_alloc_new _ _, (Below.refl _ _).alloc (Nat.le_refl _) _⟩ ?_
  rintro V0 ⟨hr, hw⟩
  have hd0 := HD.out.after hw
  have c1 := hd0.box.c1
  obtain ⟨V1, sv, bv, lv⟩ := boxV V0 zeroV rfl zeroV
  have HDV := Lib.hid hd0.vols
  have HR := Lib.hid (hr.after lv)
  have HW := Lib.hid (hw.trans (lv.mono hw.size))
  clear hr hw bv lv hd0 HD
  go_wp2_with (first | (refine wpList_got rfl (exec_look2 und_V (zero_V _) HDV.out none HV.out rfl rfl rfl) ?_) | (refine wpList_skip rfl (sv rfl rfl rfl) ?_))
  refine (failed_any 5 _).mono ?_
  rintro e W2 ⟨rfl, hb⟩
  obtain ⟨V3, sr, br, -, lr⟩ := stoR (HR.out.after hb) (errR 5)
  have HBR := Lib.hid br
  have HX := Lib.hid (lr _ _ (HW.out.trans (hb.mono HW.out.size)) (Nat.le_refl _))
  clear hb br lr
  go_wp2_with (refine wpList_skip rfl (sr rfl rfl rfl) ?_)
  refine bodyPost_ret (v := encR (errR 5)) (results_cell_row rfl _ _ w.heap.size 50 (cellsR (errR 5)) (0, 0) _ rfl HBR.out undR rfl sizeR) rfl ?_
  exact ⟨rfl, HX.out⟩
set_option maxRecDepth 100000 in
set_option maxHeartbeats 4000000 in
theorem expand_less (x : Vl) (dz : Int) (hd : DrAt w d r v s n Ro Vo So No) (hV : KM.get t Vo = some (encV x)) (hdz : IntKind.i64.wrap (sz - x.size) = dz) (hle : ¬ 0 < dz) :
    Calls Try.prog 72 #[.pointer (some ⟨d, 0, none⟩), .string t, .int .i64 sz] w fun e w' => e = .returned (encR ⟨0, x.size, E0, 0⟩) ∧ Below w.heap.size w w' := by
  have HD := Lib.hid hd
  have HV := Lib.hid hV
  clear hd hV
  go_enter Try.func72, Try.ntmps72
  go_upto_region 1 with (fail)
  refine wp_gen (fun V => BoxR V w.heap.size zeroR ∧ Below w.heap.size w V) ⟨heap_alloc_new _ _, (Below.refl _ _).alloc (Nat.le_refl _) _⟩ ?_
  rintro V0 ⟨hr, hw⟩
  have hd0 := HD.out.after hw
  have c1 := hd0.box.c1
  obtain ⟨V1, sv, bv, lv⟩ := boxV V0 zeroV rfl x
  have s0 := bv.c0
  obtain ⟨V3, sr, br, -, lr⟩ := stoR (hr.after lv) ⟨0, x.size, E0, 0⟩
  have HBR := Lib.hid br
  have HX := Lib.hid (lr _ _ (hw.trans (lv.mono hw.size)) (Nat.le_refl _))
  have HDV := Lib.hid hd0.vols
  clear hr hw bv lv hd0 HD br lr
  go_wp2_with (first | (refine wpList_got rfl (exec_look2 und_V (zero_V _) HDV.out (some (encV x)) HV.out rfl rfl rfl) ?_) | (refine wpList_skip rfl (sv rfl rfl rfl) ?_) | ((with_reducible refine wpList_build_to rfl 50 _ rfl (cellsR ⟨0, x.size, E0, 0⟩) ?_ ?_); exact built_sz _) | (refine wpList_skip rfl (sr rfl rfl rfl) ?_))
  refine bodyPost_ret (v := encR ⟨0, x.size, E0, 0⟩) (results_cell_row rfl _ _ w.heap.size 50 (cellsR ⟨0, x.size, E0, 0⟩) (0, 0) _ rfl HBR.out undR rfl sizeR) rfl ?_
  exact ⟨rfl, HX.out⟩
set_option maxRecDepth 100000 in
set_option maxHeartbeats 4000000 in
theorem expand_space (x : Vl) (room : Int) (dz : Int) (hd : DrAt w d r v s n Ro Vo So No) (hV : KM.get t Vo = some (encV x)) (hR : KM.get x.zone Ro = some (.int .i64 room)) (hdz : IntKind.i64.wrap (sz - x.size) = dz) (hgt : 0 < dz) (hlt : room < dz) :
    Calls Try.prog 72 #[.pointer (some ⟨d, 0, none⟩), .string t, .int .i64 sz] w fun e w' => e = .returned (encR (errR 11)) ∧ Below w.heap.size w w' := by
  have HD := Lib.hid hd
  have HV := Lib.hid hV
  have HKR := Lib.hid hR
  clear hd hV hR
  go_enter Try.func72, Try.ntmps72
  go_upto_region 1 with (fail)
  refine wp_gen (fun V => BoxR V w.heap.size zeroR ∧ Below w.heap.size w V) ⟨heap_alloc_new _ _, (Below.refl _ _).alloc (Nat.le_refl _) _⟩ ?_
  rintro V0 ⟨hr, hw⟩
  have hd0 := HD.out.after hw
  have c1 := hd0.box.c1
  obtain ⟨V1, sv, bv, lv⟩ := boxV V0 zeroV rfl x
  have s0 := bv.c0
  have HR := Lib.hid (hr.after lv)
  have HX := Lib.hid bv
  have HW := Lib.hid (hw.trans (lv.mono hw.size))
  have HP : Hid (w.heap.size < V0.heap.size) := hr.lt
  have HDV := Lib.hid hd0.vols
  replace HD := Lib.hid (hd0.after lv)
  clear hr hw bv lv hd0
  go_upto_region 6 with (first | (refine wpList_got rfl (exec_look2 und_V (zero_V _) HDV.out (some (encV x)) HV.out rfl rfl rfl) ?_) | (refine wpList_skip rfl (sv rfl rfl rfl) ?_))
  clear sv HDV c1 s0
  refine wp_region_held_drew (S := fun V => DrAt V d r v s n Ro Vo So No ∧ BoxV V V0.heap.size x ∧ BoxR V w.heap.size zeroR ∧ Below w.heap.size w V) (by kernel_rfl) ⟨HD.out, HX.out, HR.out, HW.out.drew⟩ (fun _ => ?_)
  refine HeldBy.gen (fun V => DrAt V d r v s n Ro Vo So No ∧ BoxV V V0.heap.size x ∧ BoxR V w.heap.size zeroR ∧ Below w.heap.size w V) ⟨HD.out, HX.out, HR.out, HW.out.drew⟩ ?_
  clear HD HX HR HW
  rintro U0 HS
  refine HeldBy.tn (i := 0) rfl HS ?_
  refine HeldBy.tn (i := 1) rfl HS ?_
  refine HeldBy.tn (i := 2) rfl HS ?_
  refine HeldBy.tk (i := 3) (v := .map (some r)) rfl (fun V hV => by have hc := hV.1.box.c0; first | (go_simp; rfl) | (go_simp; done)) HS ?_
  refine HeldBy.tn (i := 4) rfl HS ?_
  refine HeldBy.tk (i := 5) (v := .string x.zone) rfl (fun V hV => by have hc := hV.2.1.c2; first | (go_simp; rfl) | (go_simp; done)) HS ?_
  refine HeldBy.tk (i := 6) (v := .int .i64 room) rfl (fun V hV => exec_look1 und_R (zero_R _) hV.1.rooms (some _) HKR.out rfl rfl rfl) HS ?_
  refine HeldBy.tn (i := 7) rfl HS ?_
  refine HeldBy.tn (i := 8) rfl HS ?_
  refine wpAnyH_done (by kernel_rfl) ?_ _
  have HD := Lib.hid HS.1
  have HX := Lib.hid HS.2.1
  have HR := Lib.hid HS.2.2.1
  have HW := Lib.hid HS.2.2.2
  clear HS
  go_wp2_with (fail)
  refine (failed_any 11 _).mono ?_
  rintro e W2 ⟨rfl, hb⟩
  obtain ⟨V3, sr, br, -, lr⟩ := stoR (HR.out.after hb) (errR 11)
  have HBR := Lib.hid br
  have HRES := Lib.hid (lr _ _ (HW.out.trans (hb.mono HW.out.size)) (Nat.le_refl _))
  clear hb br lr
  go_wp2_with (refine wpList_skip rfl (sr rfl rfl rfl) ?_)
  refine bodyPost_ret (v := encR (errR 11)) (results_cell_row rfl _ _ w.heap.size 50 (cellsR (errR 11)) (0, 0) _ rfl HBR.out undR rfl sizeR) rfl ?_
  exact ⟨rfl, HRES.out⟩
set_option maxRecDepth 100000 in
set_option maxHeartbeats 8000000 in
theorem expand_ok (x : Vl) (room : Int) (dz : Int) (hd : DrAt w d r v s n Ro Vo So No) (hf : Five d r v s n) (hV : KM.get t Vo = some (encV x)) (hR : KM.get x.zone Ro = some (.int .i64 room)) (hdz : IntKind.i64.wrap (sz - x.size) = dz) (hgt : 0 < dz) (hlt : ¬ room < dz) (hB : B ≤ r ∧ B ≤ v ∧ B ≤ w.heap.size) :
    Calls Try.prog 72 #[.pointer (some ⟨d, 0, none⟩), .string t, .int .i64 sz] w fun e w' => e = .returned (encR ⟨0, sz, E0, 0⟩) ∧ DrAt w' d r v s n (KM.put x.zone (.int .i64 (IntKind.i64.wrap (room - dz))) Ro) (KM.put t (encV ⟨sz, x.tag, x.zone, x.nodes⟩) Vo) So No ∧ Fr (fun g => g = r ∨ g = v) B w w' := by
  have HD := Lib.hid hd
  have HV := Lib.hid hV
  have HKR := Lib.hid hR
  have HF := Lib.hid hf
  have HBB := Lib.hid hB
  have HLT := Lib.hid hd.lt
  clear hd hV hR hf hB
  go_enter Try.func72, Try.ntmps72
  go_upto_region 1 with (fail)
  refine wp_gen (fun V => BoxR V w.heap.size zeroR ∧ Below w.heap.size w V) ⟨heap_alloc_new _ _, (Below.refl _ _).alloc (Nat.le_refl _) _⟩ ?_
  rintro V0 ⟨hr, hw⟩
  have hd0 := HD.out.after hw
  have c1 := hd0.box.c1
  obtain ⟨V1, sv, bv, lv⟩ := boxV V0 zeroV rfl x
  have s0 := bv.c0
  have HR := Lib.hid (hr.after lv)
  have HX := Lib.hid bv
  have HW := Lib.hid (hw.trans (lv.mono hw.size))
  have HP : Hid (w.heap.size < V0.heap.size) := hr.lt
  have HDV := Lib.hid hd0.vols
  replace HD := Lib.hid (hd0.after lv)
  clear hr hw bv lv hd0
  go_upto_region 6 with (first | (refine wpList_got rfl (exec_look2 und_V (zero_V _) HDV.out (some (encV x)) HV.out rfl rfl rfl) ?_) | (refine wpList_skip rfl (sv rfl rfl rfl) ?_))
  clear sv HDV c1 s0
  refine wp_region_held_drew (S := fun V => DrAt V d r v s n Ro Vo So No ∧ BoxV V V0.heap.size x ∧ BoxR V w.heap.size zeroR ∧ Below w.heap.size w V) (by kernel_rfl) ⟨HD.out, HX.out, HR.out, HW.out.drew⟩ (fun _ => ?_)
  refine HeldBy.gen (fun V => DrAt V d r v s n Ro Vo So No ∧ BoxV V V0.heap.size x ∧ BoxR V w.heap.size zeroR ∧ Below w.heap.size w V) ⟨HD.out, HX.out, HR.out, HW.out.drew⟩ ?_
  clear HD HX HR HW
  rintro U0 HS
  refine HeldBy.tn (i := 0) rfl HS ?_
  refine HeldBy.tn (i := 1) rfl HS ?_
  refine HeldBy.tn (i := 2) rfl HS ?_
  refine HeldBy.tk (i := 3) (v := .map (some r)) rfl (fun V hV => by have hc := hV.1.box.c0; first | (go_simp; rfl) | (go_simp; done)) HS ?_
  refine HeldBy.tn (i := 4) rfl HS ?_
  refine HeldBy.tk (i := 5) (v := .string x.zone) rfl (fun V hV => by have hc := hV.2.1.c2; first | (go_simp; rfl) | (go_simp; done)) HS ?_
  refine HeldBy.tk (i := 6) (v := .int .i64 room) rfl (fun V hV => exec_look1 und_R (zero_R _) hV.1.rooms (some _) HKR.out rfl rfl rfl) HS ?_
  refine HeldBy.tn (i := 7) rfl HS ?_
  refine HeldBy.tn (i := 8) rfl HS ?_
  refine wpAnyH_done (by kernel_rfl) ?_ _
  have HD := Lib.hid HS.1
  have HX := Lib.hid HS.2.1
  have HR := Lib.hid HS.2.2.1
  have HW := Lib.hid HS.2.2.2
  clear HS
  have s0 := HX.out.c0
  have f0 := HX.out.free 0
  go_upto_region 9 with (fail)
  refine wp_gen (fun V => DrAt V d r v s n Ro Vo So No ∧ BoxV V V0.heap.size ⟨sz, x.tag, x.zone, x.nodes⟩ ∧ BoxR V w.heap.size zeroR ∧ Below w.heap.size w V) ?_ ?_
  · have hlt := HLT.out
    have hp := HP.out
    have hx := HX.out
    refine ⟨HD.out.keep (b := V0.heap.size) (fun g hg => heap_setCell_other _ ⟨V0.heap.size, 0, none⟩ g _ hg) (by omega), ?_, (heap_setCell_other _ ⟨V0.heap.size, 0, none⟩ w.heap.size _ (by show w.heap.size ≠ V0.heap.size; omega)).trans HR.out, HW.out.setCell (by show w.heap.size ≤ V0.heap.size; omega) _⟩
    exact (heap_setCell_same _ V0.heap.size 0 _ _ (.int .i64 sz) hx).trans rfl
  clear s0 f0 HD HX HR HW hgt hlt
  rintro V1 ⟨hd1, hx1, hr1, hw1⟩
  have HD := Lib.hid hd1
  have HB := Lib.hid hd1.box
  have HX := Lib.hid hx1
  have HR := Lib.hid hr1
  have HW := Lib.hid hw1
  clear hd1 hx1 hr1 hw1
  refine wp_region_held_drew (S := fun V => BoxD V d ⟨some r, some v, some s, some n⟩ ∧ BoxV V V0.heap.size ⟨sz, x.tag, x.zone, x.nodes⟩) (by kernel_rfl) ⟨HB.out, HX.out⟩ (fun _ => ?_)
  refine HeldBy.gen (fun V => (BoxD V d ⟨some r, some v, some s, some n⟩ ∧ BoxV V V0.heap.size ⟨sz, x.tag, x.zone, x.nodes⟩) ∧ (DrAt V d r v s n Ro Vo So No) ∧ (BoxR V w.heap.size zeroR) ∧ (Below w.heap.size w V)) ⟨⟨HB.out, HX.out⟩, HD.out, HR.out, HW.out.drew⟩ ?_
  clear HB HX HD HR HW
  rintro U0 ⟨HS, HD, HR, HW⟩
  refine HeldBy.tn (i := 0) rfl HS ?_
  refine HeldBy.tn (i := 1) rfl HS ?_
  refine HeldBy.tn (i := 2) rfl HS ?_
  refine HeldBy.tk (i := 3) (v := .map (some v)) rfl (fun V hV => by have hc := hV.1.c1; first | (go_simp; rfl) | (go_simp; done)) HS ?_
  refine HeldBy.tn (i := 4) rfl HS ?_
  refine HeldBy.tk (i := 5) (v := encV ⟨sz, x.tag, x.zone, x.nodes⟩) rfl (fun V hV => loadV hV.2 rfl rfl) HS ?_
  obtain ⟨V6, hs6, hm6, ht6, hst6⟩ := exec_upds und_V HD.vols HD.stamp t (encV ⟨sz, x.tag, x.zone, x.nodes⟩)
  have hlt := HLT.out
  have hp := HP.out
  have hBB := HBB.out
  obtain ⟨f1, f2, f3, f4, f5, f6, f7, f8, f9, f10⟩ := HF.out
  have hS6 : BoxD V6 d ⟨some r, some v, some s, some n⟩ ∧ BoxV V6 V0.heap.size ⟨sz, x.tag, x.zone, x.nodes⟩ := ⟨HS.1.turned ht6 f2, Turned.other ht6 (by omega) HS.2⟩
  refine HeldBy.store (i := 6) (w' := V6) rfl (by kernel_rfl) (by rfl) (hs6 rfl rfl rfl rfl) (by first | (go_simp; rfl) | (go_simp; done)) hS6 ?_
  refine wpAnyH_done (by kernel_rfl) ?_ _
  have hd6 := HD.putVols HF.out ht6 hm6 hst6
  have hr6 : BoxR V6 w.heap.size zeroR := Turned.other ht6 (by omega) HR
  have hk6 : ∀ g, g < w.heap.size → g ≠ r → g ≠ v → V6.heap[g]? = w.heap[g]? := fun g hg h1 h2 => (ht6.block g h2).trans (HW.block g hg)
  have hw6 : Below B w V6 := (HW.mono hBB.2.2).trans (ht6.below hBB.2.1)
  have hb6 := hS6.1
  have hx6 := hS6.2
  clear hs6 hm6 ht6 hst6 hlt hp hBB f1 f2 f3 f4 f5 f6 f7 f8 f9 f10 hS6 HS HD HR HW
  have HB := Lib.hid hb6
  have HX := Lib.hid hx6
  have HD := Lib.hid hd6
  have HR := Lib.hid hr6
  have HK := Lib.hid hk6
  have HW := Lib.hid hw6
  clear hb6 hx6 hd6 hr6 hk6 hw6
  go_upto_region 10 with (fail)
  refine wp_region_held_drew (S := fun V => BoxD V d ⟨some r, some v, some s, some n⟩ ∧ BoxV V V0.heap.size ⟨sz, x.tag, x.zone, x.nodes⟩) (by kernel_rfl) ⟨HB.out, HX.out⟩ (fun _ => ?_)
  refine HeldBy.gen (fun V => (BoxD V d ⟨some r, some v, some s, some n⟩ ∧ BoxV V V0.heap.size ⟨sz, x.tag, x.zone, x.nodes⟩) ∧ (DrAt V d r v s n Ro (KM.put t (encV ⟨sz, x.tag, x.zone, x.nodes⟩) Vo) So No) ∧ (BoxR V w.heap.size zeroR) ∧ (∀ g, g < w.heap.size → g ≠ r → g ≠ v → V.heap[g]? = w.heap[g]?) ∧ (Below B w V)) ⟨⟨HB.out, HX.out⟩, HD.out, HR.out, HK.out, HW.out.drew⟩ ?_
  clear HB HX HD HR HK HW
  rintro U0 ⟨HS, HD, HR, HK, HW⟩
  refine HeldBy.tn (i := 0) rfl HS ?_
  refine HeldBy.tn (i := 1) rfl HS ?_
  refine HeldBy.tn (i := 2) rfl HS ?_
  refine HeldBy.tk (i := 3) (v := .map (some r)) rfl (fun V hV => by have hc := hV.1.c0; first | (go_simp; rfl) | (go_simp; done)) HS ?_
  refine HeldBy.tn (i := 4) rfl HS ?_
  refine HeldBy.tk (i := 5) (v := .string x.zone) rfl (fun V hV => by have hc := hV.2.c2; first | (go_simp; rfl) | (go_simp; done)) HS ?_
  refine HeldBy.tn (i := 7) rfl HS ?_
  refine HeldBy.value (i := 6) (v := .int .i64 room) rfl (by kernel_rfl) (by rfl) (exec_look1 und_R (zero_R _) HD.rooms (some _) HKR.out rfl rfl rfl) (by first | (go_simp; rfl) | (go_simp; done)) HS ?_
  refine HeldBy.tk (i := 8) (v := .int .i64 (IntKind.i64.wrap (room - dz))) rfl (fun _ _ => by first | (go_simp; rfl) | (go_simp; done)) HS ?_
  obtain ⟨V7, hs7, hm7, ht7⟩ := exec_upd und_R HD.rooms x.zone (.int .i64 (IntKind.i64.wrap (room - dz)))
  have hlt := HLT.out
  have hp := HP.out
  have hBB := HBB.out
  obtain ⟨f1, f2, f3, f4, f5, f6, f7, f8, f9, f10⟩ := HF.out
  have hS7 : BoxD V7 d ⟨some r, some v, some s, some n⟩ ∧ BoxV V7 V0.heap.size ⟨sz, x.tag, x.zone, x.nodes⟩ := ⟨HS.1.turned ht7 f1, Turned.other ht7 (by omega) HS.2⟩
  refine HeldBy.store (i := 9) (w' := V7) rfl (by kernel_rfl) (by rfl) (hs7 rfl rfl rfl rfl) (by first | (go_simp; rfl) | (go_simp; done)) hS7 ?_
  refine wpAnyH_done (by kernel_rfl) ?_ _
  have hd7 := HD.putRooms HF.out ht7 hm7
  have hr7 : BoxR V7 w.heap.size zeroR := Turned.other ht7 (by omega) HR
  have s7 : V7.cell? ⟨V0.heap.size, 0, none⟩ = some (.int .i64 sz) := hS7.2.c0
  obtain ⟨V9, hs9, hb9, hk9, hl9⟩ := stoR hr7 ⟨0, sz, E0, 0⟩
  have HBR := Lib.hid hb9
  have HRES : Hid (DrAt V9 d r v s n (KM.put x.zone (.int .i64 (IntKind.i64.wrap (room - dz))) Ro) (KM.put t (encV ⟨sz, x.tag, x.zone, x.nodes⟩) Vo) So No ∧ Fr (fun g => g = r ∨ g = v) B w V9) := by
    show _ ∧ _
    refine ⟨hd7.keep hk9 (by omega), fun g hg hn => ?_, hl9 _ _ (HW.trans (ht7.below hBB.1)) hBB.2.2⟩
    rw [hk9 g (by omega), ht7.block g (fun e => hn (.inl e)), HK g hg (fun e => hn (.inl e)) (fun e => hn (.inr e))]
  clear hs7 hm7 ht7 hlt hp hBB f1 f2 f3 f4 f5 f6 f7 f8 f9 f10 hS7 HS hd7 hr7 hb9 hk9 hl9 HD HW HK
  go_wp2_with (first | ((with_reducible refine wpList_build_to rfl 50 _ rfl (cellsR ⟨0, sz, E0, 0⟩) ?_ ?_); exact built_sz _) | (refine wpList_skip rfl (hs9 rfl rfl rfl) ?_))
  refine bodyPost_ret (v := encR ⟨0, sz, E0, 0⟩) (results_cell_row rfl _ _ w.heap.size 50 (cellsR ⟨0, sz, E0, 0⟩) (0, 0) _ rfl HBR.out undR rfl sizeR) rfl ?_
  exact ⟨rfl, HRES.out⟩
end
end Go.Proofs.Ytbgfccanbgpjiaa.O.I
