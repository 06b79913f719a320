/- Own work. -/
import Derived.Test.YtbgfccanbgpjiaaDIRRight
import Derived.Test.YtbgfccanbgpjiaaDJIRCr0
namespace Go.Proofs.Ytbgfccanbgpjiaa.O.I
open Go Go.RowKit Go.Lib KM
attribute [local go_sem] Oper.semAt_some
theorem exec_eqU {W : World} {r s : Int} {v : Bool} {oi : Oper} {a : Act} {x y : Operand} {t : TypeId} (ho : oi.op = .binOp .eql 25 x y t) (hx : a.eval x = .int .u64 r) (hy : a.eval y = .int .u64 s) (hv : decide (r = s) = v) :
    (execOp a.eval oi).run Try.prog W = .ok (.value (.bool v)) W := by
  subst hv
  unfold execOp
  simp only [ho, hx, hy]
  go_simp
  try rfl
theorem exec_ltU {W : World} {r s : Int} {v : Bool} {oi : Oper} {a : Act} {x y : Operand} {t : TypeId} (ho : oi.op = .binOp .lss 25 x y t) (hx : a.eval x = .int .u64 r) (hy : a.eval y = .int .u64 s) (hv : decide (r < s) = v) :
    (execOp a.eval oi).run Try.prog W = .ok (.value (.bool v)) W := by
  subst hv
  unfold execOp
  simp only [ho, hx, hy]
  go_simp
  try rfl
def EX (W : World) (g k : Nat) (p : Cl × Rs) : Prop := g < W.heap.size ∧ World.rangeAt W g k (cellsE p).toList
theorem EX.after {W V : World} {g k : Nat} {p : Cl × Rs} (h : EX W g k p) (hb : Below W.heap.size W V) : EX V g k p := ⟨Nat.lt_of_lt_of_le h.1 hb.size, fun j u hu => (cell_sameX (hb.block g h.1)).trans (h.2 j u hu)⟩
theorem EX.num {W : World} {g k : Nat} {p : Cl × Rs} (h : EX W g k p) : W.cell? ⟨g, k + 2, none⟩ = some (.int .u64 p.1.num) := h.2 2 _ rfl
theorem loadCe {W : World} {g k : Nat} {p : Cl × Rs} (h : World.rangeAt W g k (cellsE p).toList) {oi : Oper} {a : Act} {x : Operand} (ho : oi.op = .load 27 x) (hx : a.eval x = .pointer (some ⟨g, k, none⟩)) : (execOp a.eval oi).run Try.prog W = .ok (.value (encC p.1)) W := by
  have h1 := run_loadAt_mid (P := Try.prog) W g k 27 (cellsC p.1).toList _ (fun j u hu => h j u (by
    have hj : j < 7 := (List.getElem?_eq_some_iff.1 hu).1
    have e : (cellsE p).toList = (cellsC p.1).toList ++ (cellsR p.2).toList := rfl
    rw [e, List.getElem?_append_left (by exact hj)]
    exact hu)) undC rfl sizeC
  unfold execOp
  simp only [ho, hx, Sem.run_bind, h1, Result.andThen_ok, Sem.run_pure]
  rfl
theorem loadRe {W : World} {g k : Nat} {p : Cl × Rs} (h : World.rangeAt W g k (cellsE p).toList) {oi : Oper} {a : Act} {x : Operand} (ho : oi.op = .load 50 x) (hx : a.eval x = .pointer (some ⟨g, k + 7, none⟩)) : (execOp a.eval oi).run Try.prog W = .ok (.value (encR p.2)) W := by
  have h1 := run_loadAt_mid (P := Try.prog) W g (k + 7) 50 (cellsR p.2).toList _ (fun j u hu => by
    have e : (cellsE p).toList = (cellsC p.1).toList ++ (cellsR p.2).toList := rfl
    have h2 := h (7 + j) u (by
      rw [e, List.getElem?_append_right (by show 7 ≤ 7 + j; omega), show 7 + j - (cellsC p.1).toList.length = j by show 7 + j - 7 = j; omega]
      exact hu)
    rw [show k + (7 + j) = k + 7 + j by omega] at h2
    exact h2) undR rfl sizeR
  unfold execOp
  simp only [ho, hx, Sem.run_bind, h1, Result.andThen_ok, Sem.run_pure]
  rfl
theorem built_e (c : Cl) (r : Rs) : Try.prog.built 121 [(0, encC c), (1, encR r)] = some (cellsE (c, r)) := by kernel_rfl
def RDQ (R : Nat) (W : World) (q : Nat) (res : Rs × St) (e : Ending) (V : World) : Prop := e = .returned (encR res.1) ∧ (∃ rd' L', RAt R V q res.2 rd' L') ∧ DocStay R W V
theorem RDQ.done {R : Nat} {w U : World} {q : Nat} {r : Rs} {T : St} {rd : Rd} {L : List (DV × Sl)} (hA : RAt R U q T rd L) (hD : DocStay R w U) {p : Rs} (hr : BoxR U (w.heap.size + 1) p) (hR : R ≤ w.heap.size) :
    ∃ V, (∀ {oi : Oper} {a : Act} {p q' : Operand}, oi.op = .store 50 p q' → a.eval p = .pointer (some ⟨w.heap.size + 1, 0, none⟩) → a.eval q' = encR r → (execOp a.eval oi).run Try.prog U = .ok .skip V) ∧ BoxR V (w.heap.size + 1) r ∧ RDQ R w q (r, T) (.returned (encR r)) V := by
  obtain ⟨V, h1, h2, h3, h4⟩ := stoR hr r
  exact ⟨V, h1, h2, rfl, ⟨rd, L, hA.keep hr (by decide) h3⟩, hD.sto h3 h4 (Nat.le_succ _) hR⟩
section
variable {R : Nat} {W : World} {q : Nat} {S : St} {rd : Rd} {L : List (DV × Sl)} (h : RAt R W q S rd L)
include h
theorem rlast_v {vb : Int} {k : ByteArray} {v : Value} (hv : ∀ u, Found (fun p : Cl × Rs => decide (p.1.target = k) && (snapV p.1.verb == snapV vb)) S.seen u → u = v) : Calls Try.prog 59 #[.pointer (some ⟨q, 0, none⟩), .int .u8 vb, .string k] W fun e w' => e = .returned v ∧ Below W.heap.size W w' :=
  (rlast_any h vb k).mono fun e w' ⟨u, he, hf, hw⟩ => ⟨by rw [he, hv u hf], hw ▸ Below.refl _ _⟩
end
theorem delSeen_erase {sn : Bool} {t : ByteArray} : ∀ {l : List (Cl × Rs)} {i : Nat} {z : Cl × Rs}, l[i]? = some z → (decide (z.1.target = t) && (snapV z.1.verb == sn)) = true → (∀ j y, j < i → l[j]? = some y → (decide (y.1.target = t) && (snapV y.1.verb == sn)) = false) → delSeen sn t l = l.eraseIdx i
  | y :: r, 0, z, h, hz, _ => by
    cases h
    unfold delSeen
    rw [if_pos hz]
    rfl
  | y :: r, i + 1, z, h, hz, hn => by
    unfold delSeen
    rw [if_neg (by rw [hn 0 y (Nat.succ_pos _) rfl]; decide), delSeen_erase (by simpa using h) hz (fun j x hj hx => hn (j + 1) x (by omega) (by simpa using hx))]
    rfl
theorem delSeen_none {sn : Bool} {t : ByteArray} : ∀ {l : List (Cl × Rs)}, (∀ y ∈ l, (decide (y.1.target = t) && (snapV y.1.verb == sn)) = false) → delSeen sn t l = l
  | [], _ => rfl
  | y :: r, hn => by
    unfold delSeen
    rw [if_neg (by rw [hn y (.head _)]; decide), delSeen_none fun x hx => hn x (.tail _ hx)]
theorem wpList_gotE {ops : Array Oper} {rest : List Oper} {o : Oper} {a a' : Act} {Q : Exit → Act → World → Prop} {W W' : World} {v : Value} (hg : Region.wanted o (yielded ops a.tmps) = true) (hrun : (execOp a.eval o).run Try.prog W = .ok (.value v) W') (he : a.put o.dst v = a')
    (hn : wpList Try.prog ops Q rest a' W') : wpList Try.prog ops Q (o :: rest) a W := wpList_got hg hrun (he ▸ hn)
theorem wpList_appE {ops : Array Oper} {rest : List Oper} {o : Oper} {a a' : Act} {Q : Exit → Act → World → Prop} {W W' : World} {v sl sr : Value} {t : TypeId} {s x : Operand}
    (hg : o.guard = none) (hop : o.op = Op.call { callee := Callee.builtin Builtin.append, args := #[s, x], argTypes := #[t, t] }) (hrun : (Builtin.append_ #[t, t] o.type #[sl, sr]).run Try.prog W = .ok v W') (hs : a.eval s = sl) (hx : a.eval x = sr) (he : a.put o.dst v = a')
    (hn : wpList Try.prog ops Q rest a' W') : wpList Try.prog ops Q (o :: rest) a W := wpList_app hg hop hrun hs hx (he ▸ hn)
theorem wpList_buildE {ops : Array Oper} {rest : List Oper} {o : Oper} {a a' : Act} {W : World} {Q : Exit → Act → World → Prop} (hg : o.guard = none) (t : TypeId) (parts : Array (Nat × Operand)) (ho : o.op = .build t parts) (cs : Array Value)
    (hf : Try.prog.built t (parts.toList.map fun (i, x) => (i, a.eval x)) = some cs) (he : a.put o.dst (.agg cs) = a') (h : wpList Try.prog ops Q rest a' W) : wpList Try.prog ops Q (o :: rest) a W := wpList_build_to hg t parts ho cs hf (he ▸ h)
theorem erase_next {α : Type} {l : List α} {j i : Nat} {t : α} (ht : l[j]? = some t) (hne : j ≠ i) : (l.take (j + 1)).eraseIdx i = (l.take j).eraseIdx i ++ [t] := by
  have hj := set_at ht
  have e : l[j] = t := by rw [List.getElem?_eq_getElem hj] at ht; exact Option.some.inj ht
  rw [List.take_succ_eq_append_getElem hj, e]
  rcases Nat.lt_or_ge i j with h | h
  · rw [List.eraseIdx_append_of_lt_length (by rw [List.length_take]; omega)]
  · rw [List.eraseIdx_of_length_le (by rw [List.length_append, List.length_take, List.length_singleton]; omega), List.eraseIdx_of_length_le (by rw [List.length_take]; omega)]
theorem erase_same {α : Type} {l : List α} {i : Nat} (hi : i < l.length) : (l.take (i + 1)).eraseIdx i = (l.take i).eraseIdx i := by
  rw [List.take_succ_eq_append_getElem hi, List.eraseIdx_of_length_le (l := l.take i) (by rw [List.length_take]; omega)]
  rw [List.eraseIdx_append_of_length_le (by rw [List.length_take]; omega), List.length_take, show i - min i l.length = 0 by omega]
  simp
end Go.Proofs.Ytbgfccanbgpjiaa.O.I
namespace Go.Proofs.Ytbgfccanbgpjiaa.O.I
open Go Go.RowKit Go.Lib KM
attribute [local go_sem] Oper.semAt_some
section
variable {R : Nat} {w : World} {q : Nat} {S : St} {rd : Rd} {L : List (DV × Sl)} (h : RAt R w q S rd L) (hR : R ≤ w.heap.size) (c : Cl) (hfc : FitC c)
include h hR hfc
set_option maxRecDepth 100000 in
set_option maxHeartbeats 8000000 in
theorem rDo_bad (hri : rightB c = false) :
    Calls Try.prog 57 #[.pointer (some ⟨q, 0, none⟩), encC c] w (RDQ R w q (errR 2, S)) := by
  have HH := Lib.hid h
  have HRR := Lib.hid hR
  have HFC := Lib.hid hfc
  have HRI : Hid (rightB c = false) := hri
  clear h hR hfc hri
  rw [show encC c = .agg (cellsC c) from rfl]
  go_enter Try.func57, Try.ntmps57
  go_upto_region 1 with (fail)
  refine wp_gen (fun V => BoxC V w.heap.size c ∧ BoxR V (w.heap.size + 1) zeroR ∧ Below w.heap.size w V) ⟨(heap2 w _ _).1, (heap2 w _ _).2, below2 w _ _⟩ ?_
  rintro V1 ⟨hc1, hr1, hw1⟩
  have HC := Lib.hid hc1
  have HR := Lib.hid hr1
  have HW := Lib.hid hw1
  have HA := Lib.hid (HH.out.after hw1)
  clear hr1 hw1
  go_wp2_with (refine wpList_got rfl (loadC hc1 rfl rfl) ?_)
  clear hc1
  refine (HRI.out ▸ rright_any c HFC.out V1 : Calls _ _ _ _ fun e w' => e = .returned (.bool false) ∧ Below V1.heap.size V1 w').mono ?_
  rintro e V2 ⟨rfl, hb⟩
  replace HC := Lib.hid (HC.out.after hb)
  replace HR := Lib.hid (HR.out.after hb)
  replace HA := Lib.hid (HA.out.after hb)
  replace HW := Lib.hid (HW.out.trans (hb.mono HW.out.size))
  clear hb
  obtain ⟨V7, hs7, hb7, hq7⟩ := RDQ.done (r := (errR 2)) HA.out (DocStay.of_below HW.out HRR.out) HR.out HRR.out
  have HV7 := Lib.hid hb7
  have HX := Lib.hid hq7
  clear hb7 hq7
  go_wp2_with (first | ((with_reducible refine wpList_build_to rfl 50 _ rfl (cellsR (errR 2)) ?_ ?_); exact built_rerr _) | (refine wpList_skip rfl (hs7 rfl rfl rfl) ?_))
  refine bodyPost_ret (v := encR (errR 2)) (results_cell_row rfl _ _ (w.heap.size + 1) 50 (cellsR (errR 2)) (0, 0) _ rfl HV7.out undR rfl sizeR) rfl ?_
  exact HX.out
set_option maxRecDepth 100000 in
set_option maxHeartbeats 16000000 in
theorem rDo_stale (i : Nat) (x : Cl × Rs) (hx : S.seen[i]? = some x) (hp : (decide (x.1.target = c.target) && (snapV x.1.verb == snapV c.verb)) = true) (hn : ∀ j y, j < i → S.seen[j]? = some y → (decide (y.1.target = c.target) && (snapV y.1.verb == snapV c.verb)) = false) (hri : rightB c = true) (hlt2 : c.num < x.1.num) :
    Calls Try.prog 57 #[.pointer (some ⟨q, 0, none⟩), encC c] w (RDQ R w q (errR 9, S)) := by
  have HH := Lib.hid h
  have HRR := Lib.hid hR
  have HFC := Lib.hid hfc
  have HRI : Hid (rightB c = true) := hri
  have HXX := Lib.hid hx
  have HFL : Hid (∀ u, Found (fun p : Cl × Rs => decide (p.1.target = c.target) && (snapV p.1.verb == snapV c.verb)) S.seen u → u = .int .i64 (i : Int)) := fun u hu => found_at hx hp hn hu
  have hfew : S.seen.length ≤ 256 := h.few.2.2.2
  have hil := set_at hx
  have hlt : (i : Int) < (S.seen.length : Int) := by omega
  have HLT : Hid (decide (c.num < x.1.num) = true) := decide_eq_true hlt2
  clear h hR hfc hri hx hp hn hlt2
  rw [show encC c = .agg (cellsC c) from rfl]
  go_enter Try.func57, Try.ntmps57
  go_upto_region 1 with (fail)
  refine wp_gen (fun V => BoxC V w.heap.size c ∧ BoxR V (w.heap.size + 1) zeroR ∧ Below w.heap.size w V) ⟨(heap2 w _ _).1, (heap2 w _ _).2, below2 w _ _⟩ ?_
  rintro V1 ⟨hc1, hr1, hw1⟩
  have HC := Lib.hid hc1
  have HR := Lib.hid hr1
  have HW := Lib.hid hw1
  have HA := Lib.hid (HH.out.after hw1)
  clear hr1 hw1
  go_wp2_with (refine wpList_got rfl (loadC hc1 rfl rfl) ?_)
  clear hc1
  refine (HRI.out ▸ rright_any c HFC.out V1 : Calls _ _ _ _ fun e w' => e = .returned (.bool true) ∧ Below V1.heap.size V1 w').mono ?_
  rintro e V2 ⟨rfl, hb⟩
  replace HC := Lib.hid (HC.out.after hb)
  replace HR := Lib.hid (HR.out.after hb)
  replace HA := Lib.hid (HA.out.after hb)
  replace HW := Lib.hid (HW.out.trans (hb.mono HW.out.size))
  clear hb
  have c0 := HC.out.c0
  have c1 := HC.out.c1
  have HF1 := Lib.hid (rlast_v HA.out HFL.out)
  go_wp2_with (fail)
  clear c0 c1
  refine HF1.out.mono ?_
  rintro e V3 ⟨rfl, hb⟩
  replace HC := Lib.hid (HC.out.after hb)
  replace HR := Lib.hid (HR.out.after hb)
  replace HA := Lib.hid (HA.out.after hb)
  replace HW := Lib.hid (HW.out.trans (hb.mono HW.out.size))
  clear hb HF1
  obtain ⟨g, cur, h1, h2, h3, h4, h5, h6⟩ := HA.out.seen_at HXX.out
  have HSL : Hid (rd.d.o = some ⟨g, 0, none⟩ ∧ rd.d.n = S.seen.length) := ⟨h1, h6⟩
  have HE : Hid (EX V3 g (i * 11) x) := ⟨(Array.getElem?_eq_some_iff.1 h3).1, h4⟩
  have HB := Lib.hid HA.out.box
  clear h1 h2 h3 h4 h5 h6
  go_upto_region 6 with (fail)
  refine wp_region_held_drew (S := fun V => BoxQ V q rd ∧ BoxC V w.heap.size c ∧ EX V g (i * 11) x) (by kernel_rfl) ⟨HB.out, HC.out, HE.out⟩ (fun _ => ?_)
  refine HeldBy.gen (fun V => (BoxQ V q rd ∧ BoxC V w.heap.size c ∧ EX V g (i * 11) x) ∧ (BoxR V (w.heap.size + 1) zeroR) ∧ (RAt R V q S rd L) ∧ (Below w.heap.size w V)) ⟨⟨HB.out, HC.out, HE.out⟩, HR.out, HA.out.drew, HW.out.drew⟩ ?_
  clear HB HC HE HR HA HW
  rintro U0 ⟨HS, HR, HA, HW⟩
  refine HeldBy.tn (i := 0) rfl HS ?_
  refine HeldBy.tn (i := 1) rfl HS ?_
  refine HeldBy.tn (i := 2) rfl HS ?_
  refine HeldBy.tn (i := 3) rfl HS ?_
  refine HeldBy.tk (i := 4) (v := .int .u64 c.num) rfl (fun V hV => by have hc := hV.2.1.c2; first | (go_simp; rfl) | (go_simp; done)) HS ?_
  refine HeldBy.tn (i := 5) rfl HS ?_
  refine HeldBy.tn (i := 6) rfl HS ?_
  refine HeldBy.tn (i := 7) rfl HS ?_
  refine HeldBy.tk (i := 8) (v := .slice (some ⟨g, 0, none⟩) S.seen.length rd.d.c) rfl (fun V hV => by have hc := hV.1.c3; rw [HSL.out.1, HSL.out.2] at hc; first | (go_simp; rfl) | (go_simp; done)) HS ?_
  refine HeldBy.tn (i := 9) rfl HS ?_
  refine HeldBy.tn (i := 10) rfl HS ?_
  refine HeldBy.tn (i := 11) rfl HS ?_
  refine HeldBy.tn (i := 12) rfl HS ?_
  refine HeldBy.tk (i := 13) (v := .int .u64 x.1.num) rfl (fun V hV => by have hc := hV.2.2.num; first | (go_simp; rfl) | (go_simp; done)) HS ?_
  refine HeldBy.tk (i := 14) (v := .bool true) rfl (fun _ _ => exec_ltU rfl rfl rfl HLT.out) HS ?_
  refine HeldBy.tn (i := 15) rfl HS ?_
  refine HeldBy.tn (i := 16) rfl HS ?_
  refine wpAnyH_done (by kernel_rfl) ?_ _
  have HB := Lib.hid HS.1
  have HC2 := Lib.hid HS.2.1
  have HE := Lib.hid HS.2.2
  replace HR := Lib.hid HR
  replace HA := Lib.hid HA
  replace HW := Lib.hid HW
  have HC := HC2
  clear HS HC2
  obtain ⟨V7, hs7, hb7, hq7⟩ := RDQ.done (r := (errR 9)) HA.out (DocStay.of_below HW.out HRR.out) HR.out HRR.out
  have HV7 := Lib.hid hb7
  have HX := Lib.hid hq7
  clear hb7 hq7
  go_wp2_with (first | ((with_reducible refine wpList_build_to rfl 50 _ rfl (cellsR (errR 9)) ?_ ?_); exact built_rerr _) | (refine wpList_skip rfl (hs7 rfl rfl rfl) ?_))
  refine bodyPost_ret (v := encR (errR 9)) (results_cell_row rfl _ _ (w.heap.size + 1) 50 (cellsR (errR 9)) (0, 0) _ rfl HV7.out undR rfl sizeR) rfl ?_
  exact HX.out
set_option maxRecDepth 100000 in
set_option maxHeartbeats 16000000 in
theorem rDo_same (i : Nat) (x : Cl × Rs) (hx : S.seen[i]? = some x) (hp : (decide (x.1.target = c.target) && (snapV x.1.verb == snapV c.verb)) = true) (hn : ∀ j y, j < i → S.seen[j]? = some y → (decide (y.1.target = c.target) && (snapV y.1.verb == snapV c.verb)) = false) (hri : rightB c = true) (he : c = x.1) :
    Calls Try.prog 57 #[.pointer (some ⟨q, 0, none⟩), encC c] w (RDQ R w q (x.2, S)) := by
  have HH := Lib.hid h
  have HRR := Lib.hid hR
  have HFC := Lib.hid hfc
  have HRI : Hid (rightB c = true) := hri
  have HXX := Lib.hid hx
  have HFL : Hid (∀ u, Found (fun p : Cl × Rs => decide (p.1.target = c.target) && (snapV p.1.verb == snapV c.verb)) S.seen u → u = .int .i64 (i : Int)) := fun u hu => found_at hx hp hn hu
  have hfew : S.seen.length ≤ 256 := h.few.2.2.2
  have hil := set_at hx
  have hlt : (i : Int) < (S.seen.length : Int) := by omega
  have HLT : Hid (decide (c.num < x.1.num) = false) := decide_eq_false (by rw [he]; omega)
  have HEQ : Hid (decide (c.num = x.1.num) = true) := decide_eq_true (by rw [he])
  have HCE : Hid (decide (c = x.1) = true) := decide_eq_true he
  clear h hR hfc hri hx hp hn he
  rw [show encC c = .agg (cellsC c) from rfl]
  go_enter Try.func57, Try.ntmps57
  go_upto_region 1 with (fail)
  refine wp_gen (fun V => BoxC V w.heap.size c ∧ BoxR V (w.heap.size + 1) zeroR ∧ Below w.heap.size w V) ⟨(heap2 w _ _).1, (heap2 w _ _).2, below2 w _ _⟩ ?_
  rintro V1 ⟨hc1, hr1, hw1⟩
  have HC := Lib.hid hc1
  have HR := Lib.hid hr1
  have HW := Lib.hid hw1
  have HA := Lib.hid (HH.out.after hw1)
  clear hr1 hw1
  go_wp2_with (refine wpList_got rfl (loadC hc1 rfl rfl) ?_)
  clear hc1
  refine (HRI.out ▸ rright_any c HFC.out V1 : Calls _ _ _ _ fun e w' => e = .returned (.bool true) ∧ Below V1.heap.size V1 w').mono ?_
  rintro e V2 ⟨rfl, hb⟩
  replace HC := Lib.hid (HC.out.after hb)
  replace HR := Lib.hid (HR.out.after hb)
  replace HA := Lib.hid (HA.out.after hb)
  replace HW := Lib.hid (HW.out.trans (hb.mono HW.out.size))
  clear hb
  have c0 := HC.out.c0
  have c1 := HC.out.c1
  have HF1 := Lib.hid (rlast_v HA.out HFL.out)
  go_wp2_with (fail)
  clear c0 c1
  refine HF1.out.mono ?_
  rintro e V3 ⟨rfl, hb⟩
  replace HC := Lib.hid (HC.out.after hb)
  replace HR := Lib.hid (HR.out.after hb)
  replace HA := Lib.hid (HA.out.after hb)
  replace HW := Lib.hid (HW.out.trans (hb.mono HW.out.size))
  clear hb HF1
  obtain ⟨g, cur, h1, h2, h3, h4, h5, h6⟩ := HA.out.seen_at HXX.out
  have HSL : Hid (rd.d.o = some ⟨g, 0, none⟩ ∧ rd.d.n = S.seen.length) := ⟨h1, h6⟩
  have HE : Hid (EX V3 g (i * 11) x) := ⟨(Array.getElem?_eq_some_iff.1 h3).1, h4⟩
  have HB := Lib.hid HA.out.box
  clear h1 h2 h3 h4 h5 h6
  go_upto_region 6 with (fail)
  refine wp_region_held_drew (S := fun V => BoxQ V q rd ∧ BoxC V w.heap.size c ∧ EX V g (i * 11) x) (by kernel_rfl) ⟨HB.out, HC.out, HE.out⟩ (fun _ => ?_)
  refine HeldBy.gen (fun V => (BoxQ V q rd ∧ BoxC V w.heap.size c ∧ EX V g (i * 11) x) ∧ (BoxR V (w.heap.size + 1) zeroR) ∧ (RAt R V q S rd L) ∧ (Below w.heap.size w V)) ⟨⟨HB.out, HC.out, HE.out⟩, HR.out, HA.out.drew, HW.out.drew⟩ ?_
  clear HB HC HE HR HA HW
  rintro U0 ⟨HS, HR, HA, HW⟩
  refine HeldBy.tn (i := 0) rfl HS ?_
  refine HeldBy.tn (i := 1) rfl HS ?_
  refine HeldBy.tn (i := 2) rfl HS ?_
  refine HeldBy.tn (i := 3) rfl HS ?_
  refine HeldBy.tk (i := 4) (v := .int .u64 c.num) rfl (fun V hV => by have hc := hV.2.1.c2; first | (go_simp; rfl) | (go_simp; done)) HS ?_
  refine HeldBy.tn (i := 5) rfl HS ?_
  refine HeldBy.tn (i := 6) rfl HS ?_
  refine HeldBy.tn (i := 7) rfl HS ?_
  refine HeldBy.tk (i := 8) (v := .slice (some ⟨g, 0, none⟩) S.seen.length rd.d.c) rfl (fun V hV => by have hc := hV.1.c3; rw [HSL.out.1, HSL.out.2] at hc; first | (go_simp; rfl) | (go_simp; done)) HS ?_
  refine HeldBy.tn (i := 9) rfl HS ?_
  refine HeldBy.tn (i := 10) rfl HS ?_
  refine HeldBy.tn (i := 11) rfl HS ?_
  refine HeldBy.tn (i := 12) rfl HS ?_
  refine HeldBy.tk (i := 13) (v := .int .u64 x.1.num) rfl (fun V hV => by have hc := hV.2.2.num; first | (go_simp; rfl) | (go_simp; done)) HS ?_
  refine HeldBy.tk (i := 14) (v := .bool false) rfl (fun _ _ => exec_ltU rfl rfl rfl HLT.out) HS ?_
  refine HeldBy.tn (i := 15) rfl HS ?_
  refine HeldBy.tn (i := 16) rfl HS ?_
  refine wpAnyH_done (by kernel_rfl) ?_ _
  have HB := Lib.hid HS.1
  have HC2 := Lib.hid HS.2.1
  have HE := Lib.hid HS.2.2
  replace HR := Lib.hid HR
  replace HA := Lib.hid HA
  replace HW := Lib.hid HW
  have HC := HC2
  clear HS HC2
  go_upto_region 8 with (fail)
  refine wp_region_held_drew (S := fun V => BoxQ V q rd ∧ BoxC V w.heap.size c ∧ EX V g (i * 11) x) (by kernel_rfl) ⟨HB.out, HC.out, HE.out⟩ (fun _ => ?_)
  refine HeldBy.gen (fun V => (BoxQ V q rd ∧ BoxC V w.heap.size c ∧ EX V g (i * 11) x) ∧ (BoxR V (w.heap.size + 1) zeroR) ∧ (RAt R V q S rd L) ∧ (Below w.heap.size w V)) ⟨⟨HB.out, HC.out, HE.out⟩, HR.out, HA.out.drew, HW.out.drew⟩ ?_
  clear HB HC HE HR HA HW
  rintro U0 ⟨HS, HR, HA, HW⟩
  refine HeldBy.tn (i := 0) rfl HS ?_
  refine HeldBy.tn (i := 1) rfl HS ?_
  refine HeldBy.tn (i := 2) rfl HS ?_
  refine HeldBy.tn (i := 3) rfl HS ?_
  refine HeldBy.tk (i := 4) (v := .int .u64 c.num) rfl (fun V hV => by have hc := hV.2.1.c2; first | (go_simp; rfl) | (go_simp; done)) HS ?_
  refine HeldBy.tn (i := 5) rfl HS ?_
  refine HeldBy.tn (i := 6) rfl HS ?_
  refine HeldBy.tn (i := 7) rfl HS ?_
  refine HeldBy.tk (i := 8) (v := .slice (some ⟨g, 0, none⟩) S.seen.length rd.d.c) rfl (fun V hV => by have hc := hV.1.c3; rw [HSL.out.1, HSL.out.2] at hc; first | (go_simp; rfl) | (go_simp; done)) HS ?_
  refine HeldBy.tn (i := 9) rfl HS ?_
  refine HeldBy.tn (i := 10) rfl HS ?_
  refine HeldBy.tn (i := 11) rfl HS ?_
  refine HeldBy.tn (i := 12) rfl HS ?_
  refine HeldBy.tk (i := 13) (v := .int .u64 x.1.num) rfl (fun V hV => by have hc := hV.2.2.num; first | (go_simp; rfl) | (go_simp; done)) HS ?_
  refine HeldBy.tk (i := 14) (v := .bool true) rfl (fun _ _ => exec_eqU rfl rfl rfl HEQ.out) HS ?_
  refine HeldBy.tn (i := 15) rfl HS ?_
  refine HeldBy.tn (i := 16) rfl HS ?_
  refine HeldBy.tk (i := 17) (v := encC c) rfl (fun V hV => loadC hV.2.1 rfl rfl) HS ?_
  refine HeldBy.tn (i := 18) rfl HS ?_
  refine HeldBy.tn (i := 19) rfl HS ?_
  refine HeldBy.tn (i := 20) rfl HS ?_
  refine HeldBy.tk (i := 21) (v := .slice (some ⟨g, 0, none⟩) S.seen.length rd.d.c) rfl (fun V hV => by have hc := hV.1.c3; rw [HSL.out.1, HSL.out.2] at hc; first | (go_simp; rfl) | (go_simp; done)) HS ?_
  refine HeldBy.tn (i := 22) rfl HS ?_
  refine HeldBy.tn (i := 23) rfl HS ?_
  refine HeldBy.tn (i := 24) rfl HS ?_
  refine HeldBy.tk (i := 25) (v := encC x.1) rfl (fun V hV => loadCe hV.2.2.2 rfl rfl) HS ?_
  refine HeldBy.tk (i := 26) (v := .bool true) rfl (fun _ _ => exec_eqC rfl rfl rfl HCE.out) HS ?_
  refine HeldBy.tn (i := 27) rfl HS ?_
  refine HeldBy.tn (i := 28) rfl HS ?_
  refine wpAnyH_done (by kernel_rfl) ?_ _
  have HB := Lib.hid HS.1
  have HC2 := Lib.hid HS.2.1
  have HE := Lib.hid HS.2.2
  replace HR := Lib.hid HR
  replace HA := Lib.hid HA
  replace HW := Lib.hid HW
  have HC := HC2
  clear HS HC2
  have c3 := HB.out.c3
  rw [HSL.out.1, HSL.out.2] at c3
  obtain ⟨V7, hs7, hb7, hq7⟩ := RDQ.done (r := x.2) HA.out (DocStay.of_below HW.out HRR.out) HR.out HRR.out
  have HV7 := Lib.hid hb7
  have HX := Lib.hid hq7
  clear hb7 hq7
  go_wp2_with (first | (refine wpList_got rfl (loadRe HE.out.2 rfl rfl) ?_) | (refine wpList_skip rfl (hs7 rfl rfl rfl) ?_))
  refine bodyPost_ret (v := encR x.2) (results_cell_row rfl _ _ (w.heap.size + 1) 50 (cellsR x.2) (0, 0) _ rfl HV7.out undR rfl sizeR) rfl ?_
  exact HX.out
set_option maxRecDepth 100000 in
set_option maxHeartbeats 16000000 in
theorem rDo_conflict (i : Nat) (x : Cl × Rs) (hx : S.seen[i]? = some x) (hp : (decide (x.1.target = c.target) && (snapV x.1.verb == snapV c.verb)) = true) (hn : ∀ j y, j < i → S.seen[j]? = some y → (decide (y.1.target = c.target) && (snapV y.1.verb == snapV c.verb)) = false) (hri : rightB c = true) (he : c.num = x.1.num) (hne : ¬ c = x.1) :
    Calls Try.prog 57 #[.pointer (some ⟨q, 0, none⟩), encC c] w (RDQ R w q (errR 6, S)) := by
  have HH := Lib.hid h
  have HRR := Lib.hid hR
  have HFC := Lib.hid hfc
  have HRI : Hid (rightB c = true) := hri
  have HXX := Lib.hid hx
  have HFL : Hid (∀ u, Found (fun p : Cl × Rs => decide (p.1.target = c.target) && (snapV p.1.verb == snapV c.verb)) S.seen u → u = .int .i64 (i : Int)) := fun u hu => found_at hx hp hn hu
  have hfew : S.seen.length ≤ 256 := h.few.2.2.2
  have hil := set_at hx
  have hlt : (i : Int) < (S.seen.length : Int) := by omega
  have HLT : Hid (decide (c.num < x.1.num) = false) := decide_eq_false (by omega)
  have HEQ : Hid (decide (c.num = x.1.num) = true) := decide_eq_true he
  have HCE : Hid (decide (c = x.1) = false) := decide_eq_false hne
  clear h hR hfc hri hx hp hn he hne
  rw [show encC c = .agg (cellsC c) from rfl]
  go_enter Try.func57, Try.ntmps57
  go_upto_region 1 with (fail)
  refine wp_gen (fun V => BoxC V w.heap.size c ∧ BoxR V (w.heap.size + 1) zeroR ∧ Below w.heap.size w V) ⟨(heap2 w _ _).1, (heap2 w _ _).2, below2 w _ _⟩ ?_
  rintro V1 ⟨hc1, hr1, hw1⟩
  have HC := Lib.hid hc1
  have HR := Lib.hid hr1
  have HW := Lib.hid hw1
  have HA := Lib.hid (HH.out.after hw1)
  clear hr1 hw1
  go_wp2_with (refine wpList_got rfl (loadC hc1 rfl rfl) ?_)
  clear hc1
  refine (HRI.out ▸ rright_any c HFC.out V1 : Calls _ _ _ _ fun e w' => e = .returned (.bool true) ∧ Below V1.heap.size V1 w').mono ?_
  rintro e V2 ⟨rfl, hb⟩
  replace HC := Lib.hid (HC.out.after hb)
  replace HR := Lib.hid (HR.out.after hb)
  replace HA := Lib.hid (HA.out.after hb)
  replace HW := Lib.hid (HW.out.trans (hb.mono HW.out.size))
  clear hb
  have c0 := HC.out.c0
  have c1 := HC.out.c1
  have HF1 := Lib.hid (rlast_v HA.out HFL.out)
  go_wp2_with (fail)
  clear c0 c1
  refine HF1.out.mono ?_
  rintro e V3 ⟨rfl, hb⟩
  replace HC := Lib.hid (HC.out.after hb)
  replace HR := Lib.hid (HR.out.after hb)
  replace HA := Lib.hid (HA.out.after hb)
  replace HW := Lib.hid (HW.out.trans (hb.mono HW.out.size))
  clear hb HF1
  obtain ⟨g, cur, h1, h2, h3, h4, h5, h6⟩ := HA.out.seen_at HXX.out
  have HSL : Hid (rd.d.o = some ⟨g, 0, none⟩ ∧ rd.d.n = S.seen.length) := ⟨h1, h6⟩
  have HE : Hid (EX V3 g (i * 11) x) := ⟨(Array.getElem?_eq_some_iff.1 h3).1, h4⟩
  have HB := Lib.hid HA.out.box
  clear h1 h2 h3 h4 h5 h6
  go_upto_region 6 with (fail)
  refine wp_region_held_drew (S := fun V => BoxQ V q rd ∧ BoxC V w.heap.size c ∧ EX V g (i * 11) x) (by kernel_rfl) ⟨HB.out, HC.out, HE.out⟩ (fun _ => ?_)
  refine HeldBy.gen (fun V => (BoxQ V q rd ∧ BoxC V w.heap.size c ∧ EX V g (i * 11) x) ∧ (BoxR V (w.heap.size + 1) zeroR) ∧ (RAt R V q S rd L) ∧ (Below w.heap.size w V)) ⟨⟨HB.out, HC.out, HE.out⟩, HR.out, HA.out.drew, HW.out.drew⟩ ?_
  clear HB HC HE HR HA HW
  rintro U0 ⟨HS, HR, HA, HW⟩
  refine HeldBy.tn (i := 0) rfl HS ?_
  refine HeldBy.tn (i := 1) rfl HS ?_
  refine HeldBy.tn (i := 2) rfl HS ?_
  refine HeldBy.tn (i := 3) rfl HS ?_
  refine HeldBy.tk (i := 4) (v := .int .u64 c.num) rfl (fun V hV => by have hc := hV.2.1.c2; first | (go_simp; rfl) | (go_simp; done)) HS ?_
  refine HeldBy.tn (i := 5) rfl HS ?_
  refine HeldBy.tn (i := 6) rfl HS ?_
  refine HeldBy.tn (i := 7) rfl HS ?_
  refine HeldBy.tk (i := 8) (v := .slice (some ⟨g, 0, none⟩) S.seen.length rd.d.c) rfl (fun V hV => by have hc := hV.1.c3; rw [HSL.out.1, HSL.out.2] at hc; first | (go_simp; rfl) | (go_simp; done)) HS ?_
  refine HeldBy.tn (i := 9) rfl HS ?_
  refine HeldBy.tn (i := 10) rfl HS ?_
  refine HeldBy.tn (i := 11) rfl HS ?_
  refine HeldBy.tn (i := 12) rfl HS ?_
  refine HeldBy.tk (i := 13) (v := .int .u64 x.1.num) rfl (fun V hV => by have hc := hV.2.2.num; first | (go_simp; rfl) | (go_simp; done)) HS ?_
  refine HeldBy.tk (i := 14) (v := .bool false) rfl (fun _ _ => exec_ltU rfl rfl rfl HLT.out) HS ?_
  refine HeldBy.tn (i := 15) rfl HS ?_
  refine HeldBy.tn (i := 16) rfl HS ?_
  refine wpAnyH_done (by kernel_rfl) ?_ _
  have HB := Lib.hid HS.1
  have HC2 := Lib.hid HS.2.1
  have HE := Lib.hid HS.2.2
  replace HR := Lib.hid HR
  replace HA := Lib.hid HA
  replace HW := Lib.hid HW
  have HC := HC2
  clear HS HC2
  go_upto_region 8 with (fail)
  refine wp_region_held_drew (S := fun V => BoxQ V q rd ∧ BoxC V w.heap.size c ∧ EX V g (i * 11) x) (by kernel_rfl) ⟨HB.out, HC.out, HE.out⟩ (fun _ => ?_)
  refine HeldBy.gen (fun V => (BoxQ V q rd ∧ BoxC V w.heap.size c ∧ EX V g (i * 11) x) ∧ (BoxR V (w.heap.size + 1) zeroR) ∧ (RAt R V q S rd L) ∧ (Below w.heap.size w V)) ⟨⟨HB.out, HC.out, HE.out⟩, HR.out, HA.out.drew, HW.out.drew⟩ ?_
  clear HB HC HE HR HA HW
  rintro U0 ⟨HS, HR, HA, HW⟩
  refine HeldBy.tn (i := 0) rfl HS ?_
  refine HeldBy.tn (i := 1) rfl HS ?_
  refine HeldBy.tn (i := 2) rfl HS ?_
  refine HeldBy.tn (i := 3) rfl HS ?_
  refine HeldBy.tk (i := 4) (v := .int .u64 c.num) rfl (fun V hV => by have hc := hV.2.1.c2; first | (go_simp; rfl) | (go_simp; done)) HS ?_
  refine HeldBy.tn (i := 5) rfl HS ?_
  refine HeldBy.tn (i := 6) rfl HS ?_
  refine HeldBy.tn (i := 7) rfl HS ?_
  refine HeldBy.tk (i := 8) (v := .slice (some ⟨g, 0, none⟩) S.seen.length rd.d.c) rfl (fun V hV => by have hc := hV.1.c3; rw [HSL.out.1, HSL.out.2] at hc; first | (go_simp; rfl) | (go_simp; done)) HS ?_
  refine HeldBy.tn (i := 9) rfl HS ?_
  refine HeldBy.tn (i := 10) rfl HS ?_
  refine HeldBy.tn (i := 11) rfl HS ?_
  refine HeldBy.tn (i := 12) rfl HS ?_
  refine HeldBy.tk (i := 13) (v := .int .u64 x.1.num) rfl (fun V hV => by have hc := hV.2.2.num; first | (go_simp; rfl) | (go_simp; done)) HS ?_
  refine HeldBy.tk (i := 14) (v := .bool true) rfl (fun _ _ => exec_eqU rfl rfl rfl HEQ.out) HS ?_
  refine HeldBy.tn (i := 15) rfl HS ?_
  refine HeldBy.tn (i := 16) rfl HS ?_
  refine HeldBy.tk (i := 17) (v := encC c) rfl (fun V hV => loadC hV.2.1 rfl rfl) HS ?_
  refine HeldBy.tn (i := 18) rfl HS ?_
  refine HeldBy.tn (i := 19) rfl HS ?_
  refine HeldBy.tn (i := 20) rfl HS ?_
  refine HeldBy.tk (i := 21) (v := .slice (some ⟨g, 0, none⟩) S.seen.length rd.d.c) rfl (fun V hV => by have hc := hV.1.c3; rw [HSL.out.1, HSL.out.2] at hc; first | (go_simp; rfl) | (go_simp; done)) HS ?_
  refine HeldBy.tn (i := 22) rfl HS ?_
  refine HeldBy.tn (i := 23) rfl HS ?_
  refine HeldBy.tn (i := 24) rfl HS ?_
  refine HeldBy.tk (i := 25) (v := encC x.1) rfl (fun V hV => loadCe hV.2.2.2 rfl rfl) HS ?_
  refine HeldBy.tk (i := 26) (v := .bool false) rfl (fun _ _ => exec_eqC rfl rfl rfl HCE.out) HS ?_
  refine HeldBy.tn (i := 27) rfl HS ?_
  refine HeldBy.tn (i := 28) rfl HS ?_
  refine wpAnyH_done (by kernel_rfl) ?_ _
  have HB := Lib.hid HS.1
  have HC2 := Lib.hid HS.2.1
  have HE := Lib.hid HS.2.2
  replace HR := Lib.hid HR
  replace HA := Lib.hid HA
  replace HW := Lib.hid HW
  have HC := HC2
  clear HS HC2
  go_upto_region 10 with (fail)
  refine wp_region_held_drew (S := fun V => BoxQ V q rd ∧ BoxC V w.heap.size c ∧ EX V g (i * 11) x) (by kernel_rfl) ⟨HB.out, HC.out, HE.out⟩ (fun _ => ?_)
  refine HeldBy.gen (fun V => (BoxQ V q rd ∧ BoxC V w.heap.size c ∧ EX V g (i * 11) x) ∧ (BoxR V (w.heap.size + 1) zeroR) ∧ (RAt R V q S rd L) ∧ (Below w.heap.size w V)) ⟨⟨HB.out, HC.out, HE.out⟩, HR.out, HA.out.drew, HW.out.drew⟩ ?_
  clear HB HC HE HR HA HW
  rintro U0 ⟨HS, HR, HA, HW⟩
  refine HeldBy.tn (i := 0) rfl HS ?_
  refine HeldBy.tn (i := 1) rfl HS ?_
  refine HeldBy.tn (i := 2) rfl HS ?_
  refine HeldBy.tn (i := 3) rfl HS ?_
  refine HeldBy.tk (i := 4) (v := .int .u64 c.num) rfl (fun V hV => by have hc := hV.2.1.c2; first | (go_simp; rfl) | (go_simp; done)) HS ?_
  refine HeldBy.tn (i := 5) rfl HS ?_
  refine HeldBy.tn (i := 6) rfl HS ?_
  refine HeldBy.tn (i := 7) rfl HS ?_
  refine HeldBy.tk (i := 8) (v := .slice (some ⟨g, 0, none⟩) S.seen.length rd.d.c) rfl (fun V hV => by have hc := hV.1.c3; rw [HSL.out.1, HSL.out.2] at hc; first | (go_simp; rfl) | (go_simp; done)) HS ?_
  refine HeldBy.tn (i := 9) rfl HS ?_
  refine HeldBy.tn (i := 10) rfl HS ?_
  refine HeldBy.tn (i := 11) rfl HS ?_
  refine HeldBy.tn (i := 12) rfl HS ?_
  refine HeldBy.tk (i := 13) (v := .int .u64 x.1.num) rfl (fun V hV => by have hc := hV.2.2.num; first | (go_simp; rfl) | (go_simp; done)) HS ?_
  refine HeldBy.tk (i := 14) (v := .bool true) rfl (fun _ _ => exec_eqU rfl rfl rfl HEQ.out) HS ?_
  refine HeldBy.tn (i := 15) rfl HS ?_
  refine HeldBy.tn (i := 16) rfl HS ?_
  refine wpAnyH_done (by kernel_rfl) ?_ _
  have HB := Lib.hid HS.1
  have HC2 := Lib.hid HS.2.1
  have HE := Lib.hid HS.2.2
  replace HR := Lib.hid HR
  replace HA := Lib.hid HA
  replace HW := Lib.hid HW
  have HC := HC2
  clear HS HC2
  obtain ⟨V7, hs7, hb7, hq7⟩ := RDQ.done (r := (errR 6)) HA.out (DocStay.of_below HW.out HRR.out) HR.out HRR.out
  have HV7 := Lib.hid hb7
  have HX := Lib.hid hq7
  clear hb7 hq7
  go_wp2_with (first | ((with_reducible refine wpList_build_to rfl 50 _ rfl (cellsR (errR 6)) ?_ ?_); exact built_rerr _) | (refine wpList_skip rfl (hs7 rfl rfl rfl) ?_))
  refine bodyPost_ret (v := encR (errR 6)) (results_cell_row rfl _ _ (w.heap.size + 1) 50 (cellsR (errR 6)) (0, 0) _ rfl HV7.out undR rfl sizeR) rfl ?_
  exact HX.out
set_option maxRecDepth 100000 in
set_option maxHeartbeats 16000000 in
theorem rDo_full (hno : ∀ y ∈ S.seen, (decide (y.1.target = c.target) && (snapV y.1.verb == snapV c.verb)) = false) (hri : rightB c = true) (hfull : 256 ≤ S.seen.length) :
    Calls Try.prog 57 #[.pointer (some ⟨q, 0, none⟩), encC c] w (RDQ R w q (errR 7, S)) := by
  have HH := Lib.hid h
  have HRR := Lib.hid hR
  have HFC := Lib.hid hfc
  have HRI : Hid (rightB c = true) := hri
  have HFL : Hid (∀ u, Found (fun p : Cl × Rs => decide (p.1.target = c.target) && (snapV p.1.verb == snapV c.verb)) S.seen u → u = .int .i64 (-1)) := fun u hu => found_not hno hu
  have hff : (256 : Int) ≤ (S.seen.length : Int) := by omega
  clear h hR hfc hri hno hfull
  rw [show encC c = .agg (cellsC c) from rfl]
  go_enter Try.func57, Try.ntmps57
  go_upto_region 1 with (fail)
  refine wp_gen (fun V => BoxC V w.heap.size c ∧ BoxR V (w.heap.size + 1) zeroR ∧ Below w.heap.size w V) ⟨(heap2 w _ _).1, (heap2 w _ _).2, below2 w _ _⟩ ?_
  rintro V1 ⟨hc1, hr1, hw1⟩
  have HC := Lib.hid hc1
  have HR := Lib.hid hr1
  have HW := Lib.hid hw1
  have HA := Lib.hid (HH.out.after hw1)
  clear hr1 hw1
  go_wp2_with (refine wpList_got rfl (loadC hc1 rfl rfl) ?_)
  clear hc1
  refine (HRI.out ▸ rright_any c HFC.out V1 : Calls _ _ _ _ fun e w' => e = .returned (.bool true) ∧ Below V1.heap.size V1 w').mono ?_
  rintro e V2 ⟨rfl, hb⟩
  replace HC := Lib.hid (HC.out.after hb)
  replace HR := Lib.hid (HR.out.after hb)
  replace HA := Lib.hid (HA.out.after hb)
  replace HW := Lib.hid (HW.out.trans (hb.mono HW.out.size))
  clear hb
  have c0 := HC.out.c0
  have c1 := HC.out.c1
  have HF1 := Lib.hid (rlast_v HA.out HFL.out)
  go_wp2_with (fail)
  clear c0 c1
  refine HF1.out.mono ?_
  rintro e V3 ⟨rfl, hb⟩
  replace HC := Lib.hid (HC.out.after hb)
  replace HR := Lib.hid (HR.out.after hb)
  replace HA := Lib.hid (HA.out.after hb)
  replace HW := Lib.hid (HW.out.trans (hb.mono HW.out.size))
  clear hb HF1
  have HB := Lib.hid HA.out.box
  go_upto_region 6 with (fail)
  refine wp_region_held_drew (S := fun V => Below w.heap.size w V) (by kernel_rfl) HW.out.drew (fun _ => ?_)
  refine HeldBy.gen (fun V => (Below w.heap.size w V) ∧ (BoxQ V q rd) ∧ (BoxC V w.heap.size c) ∧ (BoxR V (w.heap.size + 1) zeroR) ∧ (RAt R V q S rd L)) ⟨HW.out.drew, HB.out, HC.out, HR.out, HA.out.drew⟩ ?_
  clear HW HB HC HR HA
  rintro U0 ⟨HS, HB, HC, HR, HA⟩
  refine HeldBy.tn (i := 0) rfl HS ?_
  refine HeldBy.tn (i := 1) rfl HS ?_
  refine HeldBy.tn (i := 2) rfl HS ?_
  refine HeldBy.skip (i := 3) rfl (by kernel_rfl) (by kernel_rfl) (by kernel_rfl) (fun _ _ _ h => h) (by rfl) (by go_simp; rfl) HS ?_
  refine HeldBy.skip (i := 4) rfl (by kernel_rfl) (by kernel_rfl) (by kernel_rfl) (fun _ _ _ h => h) (by rfl) (by go_simp; rfl) HS ?_
  refine HeldBy.skip (i := 5) rfl (by kernel_rfl) (by kernel_rfl) (by kernel_rfl) (fun _ _ _ h => h) (by rfl) (by go_simp; rfl) HS ?_
  refine HeldBy.skip (i := 6) rfl (by kernel_rfl) (by kernel_rfl) (by kernel_rfl) (fun _ _ _ h => h) (by rfl) (by go_simp; rfl) HS ?_
  refine HeldBy.skip (i := 7) rfl (by kernel_rfl) (by kernel_rfl) (by kernel_rfl) (fun _ _ _ h => h) (by rfl) (by go_simp; rfl) HS ?_
  refine HeldBy.skip (i := 8) rfl (by kernel_rfl) (by kernel_rfl) (by kernel_rfl) (fun _ _ _ h => h) (by rfl) (by go_simp; rfl) HS ?_
  refine HeldBy.skip (i := 9) rfl (by kernel_rfl) (by kernel_rfl) (by kernel_rfl) (fun _ _ _ h => h) (by rfl) (by go_simp; rfl) HS ?_
  refine HeldBy.skip (i := 10) rfl (by kernel_rfl) (by kernel_rfl) (by kernel_rfl) (fun _ _ _ h => h) (by rfl) (by go_simp; rfl) HS ?_
  refine HeldBy.skip (i := 11) rfl (by kernel_rfl) (by kernel_rfl) (by kernel_rfl) (fun _ _ _ h => h) (by rfl) (by go_simp; rfl) HS ?_
  refine HeldBy.skip (i := 12) rfl (by kernel_rfl) (by kernel_rfl) (by kernel_rfl) (fun _ _ _ h => h) (by rfl) (by go_simp; rfl) HS ?_
  refine HeldBy.skip (i := 13) rfl (by kernel_rfl) (by kernel_rfl) (by kernel_rfl) (fun _ _ _ h => h) (by rfl) (by go_simp; rfl) HS ?_
  refine HeldBy.skip (i := 14) rfl (by kernel_rfl) (by kernel_rfl) (by kernel_rfl) (fun _ _ _ h => h) (by rfl) (by go_simp; rfl) HS ?_
  refine HeldBy.tn (i := 15) rfl HS ?_
  refine HeldBy.tn (i := 16) rfl HS ?_
  refine wpAnyH_done (by kernel_rfl) ?_ _
  replace HB := Lib.hid HB
  replace HC := Lib.hid HC
  replace HR := Lib.hid HR
  replace HA := Lib.hid HA
  have HW := Lib.hid HS
  clear HS
  go_upto_region 8 with (fail)
  refine wp_region_held_drew (S := fun V => Below w.heap.size w V) (by kernel_rfl) HW.out.drew (fun _ => ?_)
  refine HeldBy.gen (fun V => (Below w.heap.size w V) ∧ (BoxQ V q rd) ∧ (BoxC V w.heap.size c) ∧ (BoxR V (w.heap.size + 1) zeroR) ∧ (RAt R V q S rd L)) ⟨HW.out.drew, HB.out, HC.out, HR.out, HA.out.drew⟩ ?_
  clear HW HB HC HR HA
  rintro U0 ⟨HS, HB, HC, HR, HA⟩
  refine HeldBy.tn (i := 0) rfl HS ?_
  refine HeldBy.tn (i := 1) rfl HS ?_
  refine HeldBy.tn (i := 2) rfl HS ?_
  refine HeldBy.skip (i := 3) rfl (by kernel_rfl) (by kernel_rfl) (by kernel_rfl) (fun _ _ _ h => h) (by rfl) (by go_simp; rfl) HS ?_
  refine HeldBy.skip (i := 4) rfl (by kernel_rfl) (by kernel_rfl) (by kernel_rfl) (fun _ _ _ h => h) (by rfl) (by go_simp; rfl) HS ?_
  refine HeldBy.skip (i := 5) rfl (by kernel_rfl) (by kernel_rfl) (by kernel_rfl) (fun _ _ _ h => h) (by rfl) (by go_simp; rfl) HS ?_
  refine HeldBy.skip (i := 6) rfl (by kernel_rfl) (by kernel_rfl) (by kernel_rfl) (fun _ _ _ h => h) (by rfl) (by go_simp; rfl) HS ?_
  refine HeldBy.skip (i := 7) rfl (by kernel_rfl) (by kernel_rfl) (by kernel_rfl) (fun _ _ _ h => h) (by rfl) (by go_simp; rfl) HS ?_
  refine HeldBy.skip (i := 8) rfl (by kernel_rfl) (by kernel_rfl) (by kernel_rfl) (fun _ _ _ h => h) (by rfl) (by go_simp; rfl) HS ?_
  refine HeldBy.skip (i := 9) rfl (by kernel_rfl) (by kernel_rfl) (by kernel_rfl) (fun _ _ _ h => h) (by rfl) (by go_simp; rfl) HS ?_
  refine HeldBy.skip (i := 10) rfl (by kernel_rfl) (by kernel_rfl) (by kernel_rfl) (fun _ _ _ h => h) (by rfl) (by go_simp; rfl) HS ?_
  refine HeldBy.skip (i := 11) rfl (by kernel_rfl) (by kernel_rfl) (by kernel_rfl) (fun _ _ _ h => h) (by rfl) (by go_simp; rfl) HS ?_
  refine HeldBy.skip (i := 12) rfl (by kernel_rfl) (by kernel_rfl) (by kernel_rfl) (fun _ _ _ h => h) (by rfl) (by go_simp; rfl) HS ?_
  refine HeldBy.skip (i := 13) rfl (by kernel_rfl) (by kernel_rfl) (by kernel_rfl) (fun _ _ _ h => h) (by rfl) (by go_simp; rfl) HS ?_
  refine HeldBy.skip (i := 14) rfl (by kernel_rfl) (by kernel_rfl) (by kernel_rfl) (fun _ _ _ h => h) (by rfl) (by go_simp; rfl) HS ?_
  refine HeldBy.tn (i := 15) rfl HS ?_
  refine HeldBy.tn (i := 16) rfl HS ?_
  refine HeldBy.skip (i := 17) rfl (by kernel_rfl) (by kernel_rfl) (by kernel_rfl) (fun _ _ _ h => h) (by rfl) (by go_simp; rfl) HS ?_
  refine HeldBy.skip (i := 18) rfl (by kernel_rfl) (by kernel_rfl) (by kernel_rfl) (fun _ _ _ h => h) (by rfl) (by go_simp; rfl) HS ?_
  refine HeldBy.skip (i := 19) rfl (by kernel_rfl) (by kernel_rfl) (by kernel_rfl) (fun _ _ _ h => h) (by rfl) (by go_simp; rfl) HS ?_
  refine HeldBy.skip (i := 20) rfl (by kernel_rfl) (by kernel_rfl) (by kernel_rfl) (fun _ _ _ h => h) (by rfl) (by go_simp; rfl) HS ?_
  refine HeldBy.skip (i := 21) rfl (by kernel_rfl) (by kernel_rfl) (by kernel_rfl) (fun _ _ _ h => h) (by rfl) (by go_simp; rfl) HS ?_
  refine HeldBy.skip (i := 22) rfl (by kernel_rfl) (by kernel_rfl) (by kernel_rfl) (fun _ _ _ h => h) (by rfl) (by go_simp; rfl) HS ?_
  refine HeldBy.skip (i := 23) rfl (by kernel_rfl) (by kernel_rfl) (by kernel_rfl) (fun _ _ _ h => h) (by rfl) (by go_simp; rfl) HS ?_
  refine HeldBy.skip (i := 24) rfl (by kernel_rfl) (by kernel_rfl) (by kernel_rfl) (fun _ _ _ h => h) (by rfl) (by go_simp; rfl) HS ?_
  refine HeldBy.skip (i := 25) rfl (by kernel_rfl) (by kernel_rfl) (by kernel_rfl) (fun _ _ _ h => h) (by rfl) (by go_simp; rfl) HS ?_
  refine HeldBy.skip (i := 26) rfl (by kernel_rfl) (by kernel_rfl) (by kernel_rfl) (fun _ _ _ h => h) (by rfl) (by go_simp; rfl) HS ?_
  refine HeldBy.tn (i := 27) rfl HS ?_
  refine HeldBy.tn (i := 28) rfl HS ?_
  refine wpAnyH_done (by kernel_rfl) ?_ _
  replace HB := Lib.hid HB
  replace HC := Lib.hid HC
  replace HR := Lib.hid HR
  replace HA := Lib.hid HA
  have HW := Lib.hid HS
  clear HS
  go_upto_region 10 with (fail)
  refine wp_region_held_drew (S := fun V => Below w.heap.size w V) (by kernel_rfl) HW.out.drew (fun _ => ?_)
  refine HeldBy.gen (fun V => (Below w.heap.size w V) ∧ (BoxQ V q rd) ∧ (BoxC V w.heap.size c) ∧ (BoxR V (w.heap.size + 1) zeroR) ∧ (RAt R V q S rd L)) ⟨HW.out.drew, HB.out, HC.out, HR.out, HA.out.drew⟩ ?_
  clear HW HB HC HR HA
  rintro U0 ⟨HS, HB, HC, HR, HA⟩
  refine HeldBy.tn (i := 0) rfl HS ?_
  refine HeldBy.tn (i := 1) rfl HS ?_
  refine HeldBy.tn (i := 2) rfl HS ?_
  refine HeldBy.skip (i := 3) rfl (by kernel_rfl) (by kernel_rfl) (by kernel_rfl) (fun _ _ _ h => h) (by rfl) (by go_simp; rfl) HS ?_
  refine HeldBy.skip (i := 4) rfl (by kernel_rfl) (by kernel_rfl) (by kernel_rfl) (fun _ _ _ h => h) (by rfl) (by go_simp; rfl) HS ?_
  refine HeldBy.skip (i := 5) rfl (by kernel_rfl) (by kernel_rfl) (by kernel_rfl) (fun _ _ _ h => h) (by rfl) (by go_simp; rfl) HS ?_
  refine HeldBy.skip (i := 6) rfl (by kernel_rfl) (by kernel_rfl) (by kernel_rfl) (fun _ _ _ h => h) (by rfl) (by go_simp; rfl) HS ?_
  refine HeldBy.skip (i := 7) rfl (by kernel_rfl) (by kernel_rfl) (by kernel_rfl) (fun _ _ _ h => h) (by rfl) (by go_simp; rfl) HS ?_
  refine HeldBy.skip (i := 8) rfl (by kernel_rfl) (by kernel_rfl) (by kernel_rfl) (fun _ _ _ h => h) (by rfl) (by go_simp; rfl) HS ?_
  refine HeldBy.skip (i := 9) rfl (by kernel_rfl) (by kernel_rfl) (by kernel_rfl) (fun _ _ _ h => h) (by rfl) (by go_simp; rfl) HS ?_
  refine HeldBy.skip (i := 10) rfl (by kernel_rfl) (by kernel_rfl) (by kernel_rfl) (fun _ _ _ h => h) (by rfl) (by go_simp; rfl) HS ?_
  refine HeldBy.skip (i := 11) rfl (by kernel_rfl) (by kernel_rfl) (by kernel_rfl) (fun _ _ _ h => h) (by rfl) (by go_simp; rfl) HS ?_
  refine HeldBy.skip (i := 12) rfl (by kernel_rfl) (by kernel_rfl) (by kernel_rfl) (fun _ _ _ h => h) (by rfl) (by go_simp; rfl) HS ?_
  refine HeldBy.skip (i := 13) rfl (by kernel_rfl) (by kernel_rfl) (by kernel_rfl) (fun _ _ _ h => h) (by rfl) (by go_simp; rfl) HS ?_
  refine HeldBy.skip (i := 14) rfl (by kernel_rfl) (by kernel_rfl) (by kernel_rfl) (fun _ _ _ h => h) (by rfl) (by go_simp; rfl) HS ?_
  refine HeldBy.tn (i := 15) rfl HS ?_
  refine HeldBy.tn (i := 16) rfl HS ?_
  refine wpAnyH_done (by kernel_rfl) ?_ _
  replace HB := Lib.hid HB
  replace HC := Lib.hid HC
  replace HR := Lib.hid HR
  replace HA := Lib.hid HA
  have HW := Lib.hid HS
  clear HS
  have c3 := HB.out.c3
  rw [(own_view HA.out.seen).1] at c3
  obtain ⟨V7, hs7, hb7, hq7⟩ := RDQ.done (r := (errR 7)) HA.out (DocStay.of_below HW.out HRR.out) HR.out HRR.out
  have HV7 := Lib.hid hb7
  have HX := Lib.hid hq7
  clear hb7 hq7
  go_wp2_with (first | ((with_reducible refine wpList_build_to rfl 50 _ rfl (cellsR (errR 7)) ?_ ?_); exact built_rerr _) | (refine wpList_skip rfl (hs7 rfl rfl rfl) ?_))
  refine bodyPost_ret (v := encR (errR 7)) (results_cell_row rfl _ _ (w.heap.size + 1) 50 (cellsR (errR 7)) (0, 0) _ rfl HV7.out undR rfl sizeR) rfl ?_
  exact HX.out
end
end Go.Proofs.Ytbgfccanbgpjiaa.O.I
