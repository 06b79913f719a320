/- The document's Fork. -/
import Derived.Test.YtfiahkomabllaaaRSame
namespace Go.Proofs.Ytfiahkomabllaaa.L
open Go Go.RowKit
open Go.Lib

theorem exec_lit {oi : Oper} {a : Act} {W : World} (ho : oi.op = .buildSlice tR 0 #[]) : (execOp a.eval oi).run Try.prog W = .ok (.value (.slice (some ⟨W.heap.size, 0, none⟩) 0 0)) (W.alloc (.cells #[] 5)) := by
  have h := lit0 W
  unfold execOp
  simp only [ho, Array.map_empty, Sem.run_bind]
  rw [show (Instr.buildSlice tR 0 #[]).run Try.prog W = .ok (.slice (some ⟨W.heap.size, 0, none⟩) 0 0) (W.alloc (.cells #[] 5)) from h]
  rfl
theorem exec_app {oi : Oper} {a : Act} {W W' : World} {v y v' : Value} {t : TypeId} (s x : Operand) (ho : oi.op = .call { callee := .builtin .append, args := #[s, x], argTypes := #[t, t] }) (hs : a.eval s = v) (hy : a.eval x = y)
    (hr : (Builtin.append_ #[t, t] oi.type #[v, y]).run Try.prog W = .ok v' W') : (execOp a.eval oi).run Try.prog W = .ok (.value v') W' := by
  unfold execOp
  simp only [ho, resolve, invoke, builtin, Sem.run_bind, Sem.run_pure, Result.andThen_ok, List.map_toArray, List.map_cons, List.map_nil, hs, hy]
  rw [hr]
  rfl
def ForkR (s : Lg) (w : World) (e : Ending) (w' : World) : Prop := ∃ p, e = .returned (.pointer (some ⟨p, 0, none⟩)) ∧ IsRLog w.heap.size w' p s ∧ Below w.heap.size w w'
set_option maxRecDepth 100000 in
set_option maxHeartbeats 1000000 in
theorem rfork_any (B q : Nat) (s : Lg) (w : World) (h : IsRLog B w q s) : Calls Try.prog 29 #[.pointer (some ⟨q, 0, none⟩)] w (ForkR s w) := by
  have hmost := h.most
  obtain ⟨v, k, h1, h2, h3, h4, h5⟩ := h.at_
  obtain ⟨a, z, c, rfl⟩ := h2.bytes.shape
  have HQ := Lib.hid h1
  have HV := Lib.hid h2.bytes
  have HB : Hid (Below w.heap.size w w) := Below.refl _ _
  have HF : Hid (s.b.length = k * 64 ∧ k ≤ s.most ∧ s.last ≤ k ∧ s.most ≤ 4096) := ⟨h3, h4, h5, hmost⟩
  obtain ⟨la, hla⟩ : ∃ la, s.last * 64 = la := ⟨_, rfl⟩
  rw [hla] at HQ
  have HLA := Lib.hid hla
  clear h h1 h2 h3 h4 h5 hla hmost
  go_enter Try.func29, Try.ntmps29
  go_wp2
  refine wp_region_held_drew (S := fun V => RLAt V q s.most (.slice a z c) la ∧ Below w.heap.size w V) (by kernel_rfl) ⟨HQ.out, HB.out.drew⟩ (fun _ => ?_)
  refine HeldBy.gen (fun V => (RLAt V q s.most (.slice a z c) la ∧ Below w.heap.size w V) ∧ (BytesIn V (.slice a z c) s.b)) ⟨⟨HQ.out, HB.out.drew⟩, HV.out⟩ ?_
  clear HQ HB HV
  rintro U0 ⟨HS, HV⟩
  refine HeldBy.take (i := 1) rfl (by kernel_rfl) (by kernel_rfl) (by kernel_rfl) (fun _ _ _ h => h) (by rfl) (fun _ _ => by first | (go_simp; rfl) | (go_simp; done)) (by first | (go_simp; rfl) | (go_simp; done)) HS ?_
  refine HeldBy.take (i := 2) rfl (by kernel_rfl) (by kernel_rfl) (by kernel_rfl) (fun _ _ _ h => h) (by rfl) (fun _ _ => by first | (go_simp; rfl) | (go_simp; done)) (by first | (go_simp; rfl) | (go_simp; done)) HS ?_
  refine HeldBy.take (i := 3) rfl (by kernel_rfl) (by kernel_rfl) (by kernel_rfl) (fun _ _ _ h => h) (by rfl) (fun _ _ => by first | (go_simp; rfl) | (go_simp; done)) (by first | (go_simp; rfl) | (go_simp; done)) HS ?_
  refine HeldBy.take (i := 4) rfl (by kernel_rfl) (by kernel_rfl) (by kernel_rfl) (fun _ _ _ h => h) (by rfl) (fun V hV => by have hc := hV.1.c0; first | (go_simp; rfl) | (go_simp; done)) (by first | (go_simp; rfl) | (go_simp; done)) HS ?_
  refine HeldBy.take (i := 6) rfl (by kernel_rfl) (by kernel_rfl) (by kernel_rfl) (fun _ _ _ h => h) (by rfl) (fun _ _ => by first | (go_simp; rfl) | (go_simp; done)) (by first | (go_simp; rfl) | (go_simp; done)) HS ?_
  refine HeldBy.take (i := 7) rfl (by kernel_rfl) (by kernel_rfl) (by kernel_rfl) (fun _ _ _ h => h) (by rfl) (fun _ _ => by first | (go_simp; rfl) | (go_simp; done)) (by first | (go_simp; rfl) | (go_simp; done)) HS ?_
  refine HeldBy.take (i := 8) rfl (by kernel_rfl) (by kernel_rfl) (by kernel_rfl) (fun _ _ _ h => h) (by rfl) (fun _ _ => by first | (go_simp; rfl) | (go_simp; done)) (by first | (go_simp; rfl) | (go_simp; done)) HS ?_
  refine HeldBy.take (i := 9) rfl (by kernel_rfl) (by kernel_rfl) (by kernel_rfl) (fun _ _ _ h => h) (by rfl) (fun V hV => by have hc := hV.1.c1; first | (go_simp; rfl) | (go_simp; done)) (by first | (go_simp; rfl) | (go_simp; done)) HS ?_
  refine HeldBy.take (i := 10) rfl (by kernel_rfl) (by kernel_rfl) (by kernel_rfl) (fun _ _ _ h => h) (by rfl) (fun _ _ => by first | (go_simp; rfl) | (go_simp; done)) (by first | (go_simp; rfl) | (go_simp; done)) HS ?_
  refine HeldBy.take (i := 11) rfl (by kernel_rfl) (by kernel_rfl) (by kernel_rfl) (fun _ _ _ h => h) (by rfl) (fun _ _ => by first | (go_simp; rfl) | (go_simp; done)) (by first | (go_simp; rfl) | (go_simp; done)) HS ?_
  refine HeldBy.take (i := 12) rfl (by kernel_rfl) (by kernel_rfl) (by kernel_rfl) (fun _ _ _ h => h) (by rfl) (fun _ _ => by first | (go_simp; rfl) | (go_simp; done)) (by first | (go_simp; rfl) | (go_simp; done)) HS ?_
  refine HeldBy.take (i := 13) rfl (by kernel_rfl) (by kernel_rfl) (by kernel_rfl) (fun _ _ _ h => h) (by rfl) (fun V hV => by have hc := hV.1.c2; first | (go_simp; rfl) | (go_simp; done)) (by first | (go_simp; rfl) | (go_simp; done)) HS ?_
  obtain ⟨U1, hU1⟩ : ∃ U, U = U0.alloc (.cells #[] 5) := ⟨_, rfl⟩
  have hal : Below U0.heap.size U0 U1 := by rw [hU1]; exact (Below.refl _ _).alloc (Nat.le_refl _) _
  have hh1 : Held U1 U0.heap.size (.slice (some ⟨U0.heap.size, 0, none⟩) 0 0) [] := by rw [hU1]; exact held_new U0 [] 0 rfl (by omega)
  have HS1 : RLAt U1 q s.most (.slice a z c) la ∧ Below w.heap.size w U1 := ⟨HS.1.after hal, HS.2.trans (hal.mono HS.2.size)⟩
  refine HeldBy.value (i := 0) (v := .slice (some ⟨U0.heap.size, 0, none⟩) 0 0) (w' := U1) rfl (by kernel_rfl) (by rfl) (by rw [hU1]; exact exec_lit rfl) (by first | (go_simp; rfl) | (go_simp; done)) HS1 ?_
  have hf := HF.out
  obtain ⟨v5, U5, hr5, hh5, hg5⟩ := run_append_bytes U1 tR U0.heap.size _ [] hh1 (.slice a z c) s.b (HV.after hal) (by simp; omega) hal.size
  have hb5 : Below U0.heap.size U1 U5 := hg5.below hh1 hal.size
  have hw5 : Below U0.heap.size U0 U5 := hal.trans hb5
  have HS5 : RLAt U5 q s.most (.slice a z c) la ∧ Below w.heap.size w U5 := ⟨HS.1.after hw5, HS.2.trans (hw5.mono HS.2.size)⟩
  refine HeldBy.value (i := 5) (v := v5) (w' := U5) rfl (by kernel_rfl) (by rfl) (exec_app _ _ rfl rfl rfl hr5) (by first | (go_simp; rfl) | (go_simp; done)) HS5 ?_
  obtain ⟨a5, k5, c5, rfl⟩ := hh5.bytes.shape
  refine HeldBy.take (i := 14) rfl (by kernel_rfl) (by kernel_rfl) (by kernel_rfl) (fun _ _ _ h => h) (by rfl) (fun _ _ => by first | (go_simp; rfl) | (go_simp; done)) (by first | (go_simp; rfl) | (go_simp; done)) HS5 ?_
  obtain ⟨U6, hU6⟩ : ∃ U, U = U5.alloc (.cells (cellsR s.most (.slice a5 k5 c5) la) tRL (0, 0)) := ⟨_, rfl⟩
  have hal6 : Below U5.heap.size U5 U6 := by rw [hU6]; exact (Below.refl _ _).alloc (Nat.le_refl _) _
  have hnew : RLAt U6 U5.heap.size s.most (.slice a5 k5 c5) la := by rw [hU6]; exact heap_alloc_new U5 _
  have hh6 : Held U6 U0.heap.size (.slice a5 k5 c5) s.b := by have := hh5.after hal6; simpa using this
  have HS6 : RLAt U6 q s.most (.slice a z c) la ∧ Below w.heap.size w U6 := ⟨HS5.1.after hal6, HS5.2.trans (hal6.mono HS5.2.size)⟩
  refine HeldBy.value (i := 15) (v := .pointer (some ⟨U5.heap.size, 0, none⟩)) (w' := U6) rfl (by kernel_rfl) (by rfl) (by rw [hU6]; first | (go_simp; rfl) | (go_simp; done)) (by first | (go_simp; rfl) | (go_simp; done)) HS6 ?_
  refine HeldBy.take (i := 16) rfl (by kernel_rfl) (by kernel_rfl) (by kernel_rfl) (fun _ _ _ h => h) (by rfl) (fun _ _ => by first | (go_simp; rfl) | (go_simp; done)) (by first | (go_simp; rfl) | (go_simp; done)) HS6 ?_
  refine wpAnyH_done (by kernel_rfl) ?_ _
  have HR : Hid (IsRLog w.heap.size U6 U5.heap.size s) := ⟨⟨_, k, by rw [HLA.out]; exact hnew, hh6.rebase (fun g hg => by have := hh6.low hg; have := HS.2.size; omega), hf.1, hf.2.1, hf.2.2.1⟩, hf.2.2.2, HS5.2.size⟩
  have HW := Lib.hid HS6.2
  clear HS HS1 HS5 HS6 hh1 hh5 hh6 hal hal6 hnew hb5 hw5 hr5 hg5 HV hf hU1 hU6
  go_wp2
  go_ret
  exact ⟨_, rfl, HR.out, HW.out⟩
end Go.Proofs.Ytfiahkomabllaaa.L
