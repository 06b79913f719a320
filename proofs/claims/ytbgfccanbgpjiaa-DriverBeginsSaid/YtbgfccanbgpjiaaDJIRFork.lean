/- Own work. -/
import Derived.Test.YtbgfccanbgpjiaaDJIRTold
import Derived.Test.YtbgfccanbgpjiaaDFlow
import Derived.Test.YtbgfccanbgpjiaaDILwAgain
import Derived.Test.YtbgfccanbgpjiaaDJISame
namespace Go.Proofs.Ytbgfccanbgpjiaa.O.I
open Go Go.RowKit Go.Lib KM
attribute [local go_sem] Oper.semAt_some
theorem run_zn0 (W : World) : (Instr.buildSlice 36 0 #[]).run Try.prog W = .ok (.slice (some ⟨W.heap.size, 0, none⟩) 0 0) (W.alloc (.cells #[] 42 (0, 0))) := by kernel_rfl
theorem run_dn0 (W : World) : (Instr.buildSlice 85 0 #[]).run Try.prog W = .ok (.slice (some ⟨W.heap.size, 0, none⟩) 0 0) (W.alloc (.cells #[] 121 (0, 0))) := by kernel_rfl
theorem exec_app2 {o : Oper} {a : Act} {W W' : World} {v sl sr : Value} {t : TypeId} {s x : Operand}
    (hop : o.op = Op.call { callee := Callee.builtin Builtin.append, args := #[s, x], argTypes := #[t, t] }) (hrun : (Builtin.append_ #[t, t] o.type #[sl, sr]).run Try.prog W = .ok v W') (hs : a.eval s = sl) (hx : a.eval x = sr) :
    (execOp a.eval o).run Try.prog W = .ok (.value v) W' := by
  unfold execOp
  simp only [hop, resolve, invoke, builtin, Sem.run_bind, Sem.run_pure, Result.andThen_ok, List.map_toArray, List.map_cons, List.map_nil, hs, hx, hrun]
theorem exec_sl0 {T : TypeId} {o : Oper} {a : Act} {W W' : World} {v : Value} (ho : o.op = .buildSlice T 0 #[]) (h : (Instr.buildSlice T 0 #[]).run Try.prog W = .ok v W') : (execOp a.eval o).run Try.prog W = .ok (.value v) W' := by
  unfold execOp
  simp only [ho]
  simp [h, Result.andThen]
theorem exec_box_q {o : Oper} {a : Act} {W : World} {x : Operand} {y : Rd} (ho : o.op = .box 87 x) (hx : a.eval x = encQ y) : (execOp a.eval o).run Try.prog W = .ok (.value (.pointer (some ⟨W.heap.size, 0, none⟩))) (W.alloc (.cells (cellsQ y) 87 (0, 0))) := by
  unfold execOp
  simp only [ho, hx]
  kernel_rfl
theorem own_at0 {W : World} {R b : Nat} {e : TypeId} {k : Nat} (hR : R ≤ b) (hb : W.heap[b]? = some (.cells #[] e (0, 0))) : W.ownsRow R e k (.slice (some ⟨b, 0, none⟩) 0 0) 0 [] :=
  ⟨by simp, .inr ⟨b, 0, #[], rfl, hR, hb, Nat.le_refl _, Nat.zero_le _, by simp, by simp⟩⟩
def flD : HeldBy.Fl := ⟨10, some 15, .cells #[] 121 (0, 0), fun q => .slice (some ⟨q, 0, none⟩) 0 0⟩
theorem with_actX {P : Program} {ops : Array Oper} {Q : Exit → Act → World → Prop} {md : Region.Mode} {S : World → Prop} {fuel : Nat} {L : Array Bool} {a : Act} {w : World} (h : ∀ a0, a0 = a → wpAnyH P md ops Q S fuel L a0 w) : wpAnyH P md ops Q S fuel L a w := h a rfl
def RForkA (S : St) (W : World) (e : Ending) (w' : World) : Prop := ∃ q' rd' L', e = .returned (.pointer (some ⟨q', 0, none⟩)) ∧ RAt W.heap.size w' q' S rd' L' ∧ Below W.heap.size W w'
section
variable {R : Nat} {W : World} {q : Nat} {S : St} {rd : Rd} {L : List (DV × Sl)} (h : RAt R W q S rd L)
include h
set_option maxRecDepth 100000 in
set_option maxHeartbeats 16000000 in
theorem rfork_any (hnd : ∀ x ∈ S.core.vols, x.nodes.length ≤ 1000) : Calls Try.prog 31 #[.pointer (some ⟨q, 0, none⟩)] W (RForkA S W) := by
  obtain ⟨k, hk⟩ : ∃ k, W.heap.size = k := ⟨_, rfl⟩
  have HK := Lib.hid hk
  have HND := Lib.hid hnd
  have hfew := h.few
  have HA := Lib.hid h
  have HB := Lib.hid h.box
  have HE : Hid (W.heap = W.heap) := rfl
  have HL : Hid (Below k W W) := Below.refl _ _
  clear h hnd hk
  go_enter Try.func31, Try.ntmps31
  go_upto_region 3 with (fail)
  refine wp_region_held_drew (S := fun V => BoxQ V q rd ∧ Below k W V) (by kernel_rfl) ⟨HB.out, HL.out.drew⟩ (fun _ => ?_)
  refine HeldBy.gen (fun V => (BoxQ V q rd ∧ Below k W V) ∧ (V.heap = W.heap)) ⟨⟨HB.out, HL.out.drew⟩, HE.out⟩ ?_
  clear HB HL HE
  rintro U0 ⟨HS, HE⟩
  refine HeldBy.tn (i := 1) rfl HS ?_
  refine HeldBy.tn (i := 2) rfl HS ?_
  refine HeldBy.tn (i := 3) rfl HS ?_
  refine HeldBy.tk (i := 4) (v := .slice rd.z.o rd.z.n rd.z.c) rfl (fun V hV => by have hc := hV.1.c0; first | (go_simp; rfl) | (go_simp; done)) HS ?_
  refine HeldBy.tn (i := 6) rfl HS ?_
  refine HeldBy.tn (i := 8) rfl HS ?_
  refine HeldBy.tn (i := 11) rfl HS ?_
  refine HeldBy.tn (i := 12) rfl HS ?_
  refine HeldBy.tn (i := 13) rfl HS ?_
  refine HeldBy.tk (i := 14) (v := .slice rd.d.o rd.d.n rd.d.c) rfl (fun V hV => by have hc := hV.1.c3; first | (go_simp; rfl) | (go_simp; done)) HS ?_
  have hsz0 : U0.heap.size = k := by rw [HE]; exact HK.out
  have HA0 : RAt R U0 q S rd L := HA.out.after ⟨HS.2.os, HS.2.tape, HS.2.output, by rw [hsz0, HK.out]; exact Nat.le_refl _, fun g _ => by rw [HE]⟩
  have HAA := Lib.hid HA0
  have hlo : ∀ {V}, Below k U0 V → RAt R V q S rd L := fun {V} hb => HAA.out.after (hsz0.symm ▸ hb)
  have hSS : ∀ {V}, Below k U0 V → BoxQ V q rd ∧ Below k W V := fun {V} hb => ⟨(hlo hb).box, HS.2.trans hb⟩
  refine with_actX (fun a0 ha0 => ?_)
  refine HeldBy.Flow1.bare (R := k) (f := flD) (A := fun a w => a = a0 ∧ Below k U0 w ∧ k ≤ w.heap.size) ?_ a0 U0 ⟨rfl, Below.refl _ _, by omega⟩
  refine HeldBy.Flow1.step (i := 0) (A' := fun a w => ∃ b, a = a0.put (some 5) (.slice (some ⟨b, 0, none⟩) 0 0) ∧ w.heap[b]? = some (.cells #[] 42 (0, 0)) ∧ k ≤ b ∧ Below k U0 w ∧ k ≤ w.heap.size)
    rfl rfl rfl rfl rfl rfl (by kernel_rfl) (by kernel_rfl) (by decide) (by kernel_rfl) (fun a w _ => exec_sl0 rfl (run_dn0 w)) (fun a w h => ⟨h.1, h.2.1.alloc h.2.2 _, by simp; have := h.2.2; omega⟩) (fun a w h => hSS h.2.1) (fun a w h => hSS h.choose_spec.2.2.2.1) (fun a w h => h.2.2) ?s0 ?_
  case s0 =>
    rintro a w ⟨ha, hb, hsz⟩
    subst ha
    exact .inl ⟨_, _, exec_sl0 rfl (run_zn0 w), ⟨w.heap.size, rfl, heap_alloc_new _ _, hsz, hb.alloc hsz _, by simp; omega⟩, fun p hp hx => (heap_alloc_old _ _ (Array.getElem?_eq_some_iff.1 hx).1).trans hx⟩
  refine HeldBy.Flow1.step (i := 5) (A' := fun a w => ∃ x sz, a = (a0.put (some 5) x).put (some 10) (encSl sz) ∧ w.ownsRow k 42 2 (encSl sz) S.core.zones.length (catZ S.core.zones) ∧ Below k U0 w ∧ k ≤ w.heap.size)
    rfl rfl rfl rfl rfl rfl (by kernel_rfl) (by kernel_rfl) (by decide) (by kernel_rfl) (fun a w _ => exec_sl0 rfl (run_dn0 w)) (fun a w h => ?a5) (fun a w h => hSS h.choose_spec.2.2.2.1) (fun a w h => hSS h.choose_spec.choose_spec.2.2.1) (fun a w h => h.choose_spec.2.2.2.2) ?s5 ?_
  case a5 =>
    obtain ⟨b, ha, hg, hR, hb, hsz⟩ := h
    exact ⟨b, ha, (heap_alloc_old _ _ (Array.getElem?_eq_some_iff.1 hg).1).trans hg, hR, hb.alloc hsz _, by simp; omega⟩
  case s5 =>
    rintro a w ⟨b, ha, hg, hR, hb, hsz⟩
    obtain ⟨sz, w', g1, g2, g3, g4⟩ := add_all zone_rowy (own_at0 hR hg) hsz (hlo hb).zones (catZ_one _) (by have := hfew.1; omega) 36
    subst ha
    refine .inl ⟨encSl sz, w', exec_app2 rfl g1 (by rw [ha0]; rfl) (by rw [ha0]; rfl), ⟨_, sz, rfl, g2, hb.trans g3, by have := g3.size; omega⟩, fun p hp hx => ?_⟩
    refine (g4 p (Array.getElem?_eq_some_iff.1 hx).1 (.inr fun cs f e => ?_)).trans hx
    rw [hx] at e
    injection e with e
    injection e with _ e _
    exact absurd e (by decide)
  refine HeldBy.Flow1.step (i := 7) (A' := fun a w => ∃ x sz sv K, a = ((a0.put (some 5) x).put (some 10) (encSl sz)).put (some 12) (encSl sv) ∧ w.ownsRow k 42 2 (encSl sz) S.core.zones.length (catZ S.core.zones) ∧ VOwn w k sv K ∧ K.map (·.1) = S.core.vols ∧ Below k U0 w ∧ k ≤ w.heap.size)
    rfl rfl rfl rfl rfl rfl (by kernel_rfl) (by kernel_rfl) (by decide) (by kernel_rfl) (fun a w _ => exec_sl0 rfl (run_dn0 w)) (fun a w h => ?a7) (fun a w h => hSS h.choose_spec.choose_spec.2.2.1) (fun a w h => hSS h.choose_spec.choose_spec.choose_spec.choose_spec.2.2.2.2.1) (fun a w h => h.choose_spec.choose_spec.2.2.2) ?s7 ?_
  case a7 =>
    obtain ⟨x, sz, h1, h2, h3, h4⟩ := h
    exact ⟨x, sz, h1, own_after h2 ((Below.refl _ _).alloc (Nat.le_refl _) _), h3.alloc h4 _, by simp; omega⟩
  case s7 =>
    rintro a w ⟨x, sz, h1, h2, h3, h4⟩
    subst h1
    refine .inr ⟨35, #[.pointer (some ⟨q, 0, none⟩)], ?_, (rvolumes_any (hlo h3) HND.out).mono ?_⟩
    · rw [ha0]
      first | (go_simp; done) | (go_simp; first | exact ⟨rfl, rfl⟩ | rfl)
    · rintro e w' ⟨sv, K, rfl, hv, hK, hb⟩
      have hvk : VOwn w' k sv K := ⟨⟨hv.1.1, by
        rcases hv.1.2 with h5 | ⟨g', cap, cu, h5, h6, h7⟩
        · exact .inl h5
        · exact .inr ⟨g', cap, cu, h5, by omega, h7⟩⟩, hv.2⟩
      exact ⟨_, rfl, ⟨x, sz, sv, K, rfl, own_after h2 hb, hvk, hK, h3.trans (hb.mono h4), by have := hb.size; omega⟩, fun p' hp' hx' => (hb.block p' (Array.getElem?_eq_some_iff.1 hx').1).trans hx'⟩
  refine HeldBy.Flow1.step (i := 9) (A' := fun a w => ∃ x sz sv K ss, a = (((a0.put (some 5) x).put (some 10) (encSl sz)).put (some 12) (encSl sv)).put (some 14) (encSl ss) ∧ w.ownsRow k 42 2 (encSl sz) S.core.zones.length (catZ S.core.zones) ∧ VOwn w k sv K ∧ K.map (·.1) = S.core.vols ∧ SOwn w k ss S.core.snaps ∧ Below k U0 w ∧ k ≤ w.heap.size)
    rfl rfl rfl rfl rfl rfl (by kernel_rfl) (by kernel_rfl) (by decide) (by kernel_rfl) (fun a w _ => exec_sl0 rfl (run_dn0 w)) (fun a w h => ?a9) (fun a w h => hSS h.choose_spec.choose_spec.choose_spec.choose_spec.2.2.2.2.1) (fun a w h => hSS h.choose_spec.choose_spec.choose_spec.choose_spec.choose_spec.2.2.2.2.2.1) (fun a w h => h.choose_spec.choose_spec.choose_spec.choose_spec.2.2.2.2.2) ?s9 ?_
  case a9 =>
    obtain ⟨x, sz, sv, K, h1, h2, h3, h4, h5, h6⟩ := h
    have hal : Below w.heap.size w (w.alloc flD.x) := (Below.refl _ _).alloc (Nat.le_refl _) _
    exact ⟨x, sz, sv, K, h1, own_after h2 hal, h3.after hal, h4, h5.alloc h6 _, by simp; omega⟩
  case s9 =>
    rintro a w ⟨x, sz, sv, K, h1, h2, h3, h4, h5, h6⟩
    subst h1
    refine .inr ⟨37, #[.pointer (some ⟨q, 0, none⟩)], ?_, (rsnaps_any (hlo h5)).mono ?_⟩
    · rw [ha0]
      first | (go_simp; done) | (go_simp; first | exact ⟨rfl, rfl⟩ | rfl)
    · rintro e w' ⟨ss, rfl, hs, hb⟩
      have hsk : SOwn w' k ss S.core.snaps := ⟨hs.1, by
        rcases hs.2 with h7 | ⟨g', cap, cu, h7, h8, h9⟩
        · exact .inl h7
        · exact .inr ⟨g', cap, cu, h7, by omega, h9⟩⟩
      exact ⟨_, rfl, ⟨x, sz, sv, K, ss, rfl, own_after h2 hb, h3.after hb, h4, hsk, h5.trans (hb.mono h6), by have := hb.size; omega⟩, fun p' hp' hx' => (hb.block p' (Array.getElem?_eq_some_iff.1 hx').1).trans hx'⟩
  refine HeldBy.Flow1.nil rfl rfl rfl (by kernel_rfl) (fun a w _ => exec_sl0 rfl (run_dn0 w)) (fun a w h => ?a10) (fun a w h => hSS h.choose_spec.choose_spec.choose_spec.choose_spec.choose_spec.2.2.2.2.2.1) (fun a w h => h.choose_spec.choose_spec.choose_spec.choose_spec.choose_spec.2.2.2.2.2.2) rfl ?_
  case a10 =>
    obtain ⟨x, sz, sv, K, ss, h1, h2, h3, h4, h5, h6, h7⟩ := h
    have hal : Below w.heap.size w (w.alloc flD.x) := (Below.refl _ _).alloc (Nat.le_refl _) _
    exact ⟨x, sz, sv, K, ss, h1, own_after h2 hal, h3.after hal, h4, h5.after hal, h6.alloc h7 _, by simp; omega⟩
  rintro a w0 p ⟨x, sz, sv, K, ss, ha, h2, h3, h4, h5, h6, h7⟩ hp hx
  subst ha
  obtain ⟨sd, w1, g1, g2, g3, g4⟩ := add_all done_rowy (own_at0 hp hx) h7 (hlo h6).seen (fun u hu => by
    unfold catE at hu
    obtain ⟨y, -, hy⟩ := List.mem_flatMap.1 hu
    exact one_cellsE y u hy) (by have := hfew.2.2.2; omega) 85
  have hk1 : ∀ {g : Nat} {cs : Array Value} {t : TypeId}, w0.heap[g]? = some (.cells cs t (0, 0)) → t ≠ 121 → w1.heap[g]? = some (.cells cs t (0, 0)) := fun {g cs t} hg hne => (g4 g (Array.getElem?_eq_some_iff.1 hg).1 (.inr fun cs' f' e => by
    rw [hg] at e
    injection e with e
    injection e with _ e _
    exact hne e)).trans hg
  have own1 : ∀ {e : TypeId} {j n : Nat} {v : Value} {xs : List Value}, w0.ownsRow k e j v n xs → e ≠ 121 → w1.ownsRow k e j v n xs := fun {e j n v xs} ho hne => ⟨ho.1, by
    rcases ho.2 with q1 | ⟨g', cap, cu, q1, q2, q3, q4⟩
    · exact .inl q1
    · exact .inr ⟨g', cap, cu, q1, q2, hk1 q3 hne, q4⟩⟩
  have hb1 := h6.trans g3
  have hs1 : k ≤ w1.heap.size := by have := g3.size; omega
  have hv1 : VOwn w1 k sv K := ⟨own1 h3.1 (by decide), fun y hy => (h3.2 y hy).stay fun g cur hg => hk1 hg (by decide)⟩
  obtain ⟨V, hV⟩ : ∃ V, w1.alloc (.cells (cellsQ ⟨sz, sv, ss, sd⟩) 87 (0, 0)) = V := ⟨_, rfl⟩
  have hbV : Below w1.heap.size w1 V := by rw [← hV]; exact (Below.refl _ _).alloc (Nat.le_refl _) _
  have hbx : BoxQ V w1.heap.size ⟨sz, sv, ss, sd⟩ := by rw [← hV]; exact heap_alloc_new _ _
  have hfin : RAt k V w1.heap.size S ⟨sz, sv, ss, sd⟩ K := ⟨hs1, hbx, own_after (own1 h2 (by decide)) hbV, hv1.after hbV, h4, SOwn.after (own1 h5 (by decide)) hbV, own_after g2 hbV, hfew⟩
  have hbk : Below k U0 V := hb1.trans (hbV.mono hs1)
  rw [ha0]
  refine HeldBy.value (i := 15) (v := encSl sd) (w' := w1) rfl (by kernel_rfl) (by rfl) (exec_app2 rfl g1 (by unfold flD; rfl) (by unfold flD; rfl)) (by unfold flD encSl; first | (go_simp; rfl) | (go_simp; done)) (hSS hb1) ?_
  refine HeldBy.tk (i := 16) (v := encQ ⟨sz, sv, ss, sd⟩) rfl (fun V hV => by first | (go_simp; rfl) | (go_simp; done)) (hSS hb1) ?_
  refine HeldBy.value (i := 17) (v := .pointer (some ⟨w1.heap.size, 0, none⟩)) (w' := V) rfl (by kernel_rfl) (by rfl) ((exec_box_q (y := ⟨sz, sv, ss, sd⟩) rfl rfl).trans (by rw [hV])) (by first | (go_simp; rfl) | (go_simp; done)) (hSS hbk) ?_
  refine HeldBy.tn (i := 18) rfl (hSS hbk) ?_
  refine wpAnyH_done (by kernel_rfl) ?_ _
  have HX : Hid (RAt k V w1.heap.size S ⟨sz, sv, ss, sd⟩ K ∧ Below k W V) := ⟨hfin, (hSS hbk).2⟩
  clear hfin hbk hbx hbV hV hv1 hs1 hb1 own1 hk1 g4 g3 g2 g1 hx hp h7 h6 h5 h4 h3 h2 ha0 hSS hlo HA0 HS hsz0
  go_wp2
  go_ret
  refine ⟨w1.heap.size, ⟨sz, sv, ss, sd⟩, K, rfl, ?_, ?_⟩
  · rw [HK.out]; exact HX.out.1
  · rw [HK.out]; exact HX.out.2
end
end Go.Proofs.Ytbgfccanbgpjiaa.O.I
namespace Go.HeldBy
open Go
section
variable {P : Program} {ops : Array Oper} {Q : Exit → Act → World → Prop} {md : Region.Mode} {S : World → Prop} {R : Nat} {f : Fl} {n : Nat} {L : Array Bool} {A A' : Act → World → Prop} {i : Nat} {oi : Oper}
theorem Flow1.take (hi : ops[i]? = some oi) (gi : oi.guard = none) (hsi : noSel oi = true) (hs : Region.noSelect ops = true) (hf : Region.free md ops L i = true) (hr : (Region.ready md ops L).contains i = true) (hf1 : Region.free md ops (L.setIfInBounds f.k true) i = true) (hr1 : (Region.ready md ops (L.setIfInBounds f.k true)).contains i = true) (hik : i ≠ f.k) (far1 : far ops oi f.dst = true)
    (hQ : ∀ v c a w, Q (.panic c) (a.put oi.dst v) w → Q (.panic c) a w) (hS : ∀ a w, A a w → S w) (hv : ∀ a w, A a w → ∃ v, (∀ w', S w' → (execOp a.eval oi).run P w' = .ok (.value v) w') ∧ A' (a.put oi.dst v) w) (h : Flow1 P md ops Q S R f n (L.setIfInBounds i true) A') : Flow1 P md ops Q S R f (n + 1) L A := by
  obtain ⟨hap, hdd⟩ := far_out far1
  refine ⟨fun a w hA => ?_, fun a w p hA hp hx => ?_⟩
  · obtain ⟨v, h1, h2⟩ := hv a w hA
    exact wpAnyH_take hi hs hf hr (hQ v) (.inl ⟨wanted_none gi _, h1⟩) (hS a w hA) (h.bare _ _ h2)
  · obtain ⟨v, h1, h2⟩ := hv a w hA
    refine wpAnyH_take hi hs hf1 hr1 (hQ v) (.inl ⟨wanted_none gi _, fun w' hw' => by rw [execOp_put oi (noSel_out hsi) a f.dst _ hap]; exact h1 w' hw'⟩) (hS a w hA) ?_
    have e : (a.put f.dst (f.val p)).put oi.dst v = (a.put oi.dst v).put f.dst (f.val p) := (Act.put_comm a v _ (fun d hd e => hdd d e hd)).symm
    rw [Array.setIfInBounds_comm _ _ (fun e => hik e.symm), e]
    exact h.one _ _ _ h2 hp hx
end
end Go.HeldBy
namespace Go.Proofs.Ytbgfccanbgpjiaa.O.I
open Go Go.RowKit Go.Lib KM
attribute [local go_sem] Oper.semAt_some
def Fnd (W : World) (l : List DV) (k : ByteArray) (y : DVS) (f : Bool) : Prop := (f = true ∧ volOf l k = some y.1 ∧ StrIn W y.2 y.1.nodes) ∨ (f = false ∧ volOf l k = none ∧ y = zeroY)
theorem fnd_of {W : World} {R : Nat} {sl : Sl} {K : List DVS} {l : List DV} {k : ByteArray} {y : DVS} {f : Bool} (hv : VOwn W R sl K) (hK : K.map (·.1) = l) (hf : Finds K k y f) : Fnd W l k y f := by
  subst hK
  rcases hf with ⟨h1, h2, h3⟩ | ⟨h1, h2, h3⟩
  · exact .inl ⟨h1, h2, hv.2 y h3⟩
  · exact .inr ⟨h1, h2, h3⟩
theorem Fnd.stay {W V : World} {l : List DV} {k : ByteArray} {y : DVS} {f : Bool} (h : Fnd W l k y f) (hk : ∀ (g : Nat) (cur : Array Value), W.heap[g]? = some (Go.Obj.cells cur 9 (0, 0)) → V.heap[g]? = some (Go.Obj.cells cur 9 (0, 0))) : Fnd V l k y f := by
  rcases h with ⟨h1, h2, h3⟩ | h
  · exact .inl ⟨h1, h2, h3.stay hk⟩
  · exact .inr h
theorem Fnd.after {W V : World} {l : List DV} {k : ByteArray} {y : DVS} {f : Bool} (h : Fnd W l k y f) (hb : Below W.heap.size W V) : Fnd V l k y f := h.stay fun g _ hg => (hb.block g (Array.getElem?_eq_some_iff.1 hg).1).trans hg
theorem BoxX.after {W V : World} {b : Nat} {x : Dd} (h : BoxX W b x) (hb : Below W.heap.size W V) : BoxX V b x := (hb.block b h.lt).trans h
theorem with_actL {P : Program} {ops : Array Oper} {Q : Exit → Act → World → Prop} {md : Region.Mode} {S : World → Prop} {fuel : Nat} {L : Array Bool} {a : Act} {w : World} (h : ∀ a0, a0 = a → wpAnyH P md ops Q S fuel L a0 w) : wpAnyH P md ops Q S fuel L a w := h a rfl
theorem exec_move {o : Oper} {a : Act} {w : World} {x : Operand} {v : Value} (ho : o.op = .move x) (hx : a.eval x = v) : (execOp a.eval o).run Try.prog w = .ok (.value v) w := by
  unfold execOp
  simp only [ho, hx]
  rfl
theorem exec_extract {o : Oper} {a : Act} {w : World} {x : Operand} {i : Nat} {vs : Array Value} {v : Value} (ho : o.op = .extract x i) (hx : a.eval x = .tuple vs) (hv : vs[i]? = some v) : (execOp a.eval o).run Try.prog w = .ok (.value v) w := by
  unfold execOp
  simp only [ho, hx, Instr.extract, hv]
  rfl
def flY (bx : Nat) : HeldBy.Fl := ⟨8, some bx, .cells (cellsY zeroY) 58 (0, 0), HeldBy.ptr⟩
theorem makes_c {oi : Oper} (ho : oi.op = .alloc 27) : HeldBy.Makes Try.prog oi (.cells (cellsC zeroC) 27 (0, 0)) := by
  intro a w
  unfold execOp
  simp only [ho]
  kernel_rfl
theorem BoxC.s0 {W : World} {b : Nat} {x : Cl} (h : BoxC W b x) (v : Int) : BoxC (W.setCell ⟨b, 0, none⟩ (.int .u8 v)) b ⟨v, x.target, x.num, x.size, x.zone, x.node, x.source⟩ := (heap_setCell_same W b 0 _ _ _ h).trans rfl
theorem snap_in {l : List DS} (h : OnceS l) {x : DS} (hx : x ∈ l) : snapOf l x.name = some x := by
  induction l with
  | nil => cases hx
  | cons z r ih =>
    obtain ⟨h1, h2⟩ := List.nodup_cons.1 (show (z.name :: r.map (·.name)).Nodup from h)
    unfold snapOf
    rw [List.find?_cons]
    rcases List.mem_cons.1 hx with e | e
    · rw [e, show decide (z.name = z.name) = true from decide_eq_true rfl]
    · rw [show decide (z.name = x.name) = false from decide_eq_false (fun e2 => h1 (e2 ▸ List.mem_map.2 ⟨x, e, rfl⟩))]
      exact ih h2 e
theorem few_vols {S : St} (h : Few S) : S.core.vols.length ≤ 1000 := by have := h.1; omega
theorem few_vols' {S : St} (h : Few S) : S.core.vols.length ≤ 1000 := few_vols h
end Go.Proofs.Ytbgfccanbgpjiaa.O.I
