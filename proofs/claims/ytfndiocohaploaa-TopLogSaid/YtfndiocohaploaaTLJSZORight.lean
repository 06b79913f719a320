/- Own work. -/
import Derived.Test.YtfndiocohaploaaTLJSZCBase
import Derived.Test.YtfndiocohaploaaTLSZONamed
import Derived.Deep.MidRow
import Derived.Test.YtfndiocohaploaaTLJLawEnd
namespace Go.Proofs.Ytfndiocohaploaa.O
open Go.RowKit T
open Go.Lib hiding intOf
theorem namesOrEmpty6 (o : Obj) (g : Nat) (w : World) (h0 : w.cell? ⟨g, 0, none⟩ = some (.string o.cls)) (h1 : w.cell? ⟨g, 1, none⟩ = some (.string o.zone)) (h2 : w.cell? ⟨g, 2, none⟩ = some (.string o.node))
    (h3 : w.cell? ⟨g, 3, none⟩ = some (.string o.claim)) (h4 : w.cell? ⟨g, 4, none⟩ = some (.string o.volume)) (h5 : w.cell? ⟨g, 5, none⟩ = some (.string o.source)) :
    Calls Try.prog 58 #[.slice (some ⟨g, 0, none⟩) 6 6] w fun e w' => e = .returned (.bool (textsB o)) ∧ Below w.heap.size w w' :=
  (namesOrEmpty_any [o.cls, o.zone, o.node, o.claim, o.volume, o.source] g w (by simp) (txts_of (by simp) (fun i hi => by match i, hi with | 0, _ => exact h0 | 1, _ => exact h1 | 2, _ => exact h2 | 3, _ => exact h3 | 4, _ => exact h4 | 5, _ => exact h5))).mono fun e w' ⟨h, hw⟩ => ⟨by rw [h]; simp [textsB], hw⟩
theorem eql_objs {oi : Oper} {a : Act} {x y : Operand} {p q : Obj} {v : Bool} {W : World} (ho : oi.op = .binOp .eql 30 x y 30) (hx : a.eval x = encO p) (hy : a.eval y = encO q) (hv : decide (p = q) = v) :
    (execOp a.eval oi).run Try.prog W = .ok (.value (.bool v)) W := by
  have hq : (eqGuard .eql 30 x y (encO p) (encO q)).run Try.prog W = .ok () W := run_eqGuard_agg W .eql 30 x y (cellsO p) (cellsO q) (by kernel_rfl)
  unfold execOp
  simp only [ho, hx, hy, Sem.run_bind, hq, Result.andThen_ok, eql_obj, hv, Sem.run_pure]
theorem okT_le {s : ByteArray} (h : okT s = true) : s.size ≤ 40 := by
  unfold okT at h
  rw [Bool.or_eq_true] at h
  rcases h with h | h
  · have := of_decide_eq_true h
    have e : s.data.toList.length = s.size := size_list s
    rw [this] at e; simp at e; omega
  · exact (nameB_le h).2
theorem texts_le {o : Obj} (h : textsB o = true) : o.volume.size ≤ 140737488351232 ∧ o.node.size ≤ 140737488351232 := by
  unfold textsB at h
  simp only [Bool.and_eq_true] at h
  have h1 := okT_le h.2.2.2.2.1
  have h2 := okT_le h.2.2.1
  omega
set_option maxRecDepth 100000 in
set_option maxHeartbeats 4000000 in
theorem right_any (o : Obj) (w : World) :
    Calls Try.prog 37 #[encO o] w fun e w' => e = .returned (.bool (rightB o)) ∧ Below w.heap.size w w' := by
  unfold encO
  cases b0 : nameB o.name.data.toList with
  | false =>
    have H : Hid (rightB o = false) := by show _ = _; unfold rightB; simp [b0]
    go_enter Try.func37, Try.ntmps37
    go_upto_region 1 with (fail)
    refine wp_gen (fun W => BoxO W w.heap.size o ∧ Below w.heap.size w W) ⟨BoxO.new w o, (Below.refl _ _).alloc (Nat.le_refl _) _⟩ ?_
    rintro W1 ⟨hb, hlow⟩
    refine wp_region_held_drew (S := fun W => BoxO W w.heap.size o) (by kernel_rfl) hb.drew (fun _ => ?_)
    refine HeldBy.gen (fun W => BoxO W w.heap.size o ∧ Below w.heap.size w W) ⟨hb.drew, hlow.drew⟩ ?_
    clear hb hlow
    rintro V0 ⟨hb, hlow⟩
    refine HeldBy.take (i := 0) rfl (by kernel_rfl) (by kernel_rfl) (by kernel_rfl) (fun _ _ _ h => h) (by rfl) (fun _ _ => by go_simp; rfl) (by go_simp; rfl) hb ?_
    refine HeldBy.take (i := 1) rfl (by kernel_rfl) (by kernel_rfl) (by kernel_rfl) (fun _ _ _ h => h) (by rfl) (fun _ h => by have c := BoxO.c1 h; go_simp; rfl) (by go_simp; rfl) hb ?_
    refine HeldBy.call (i := 2) (v := .bool false) rfl (by kernel_rfl) (by rfl) (by go_simp; exact ⟨rfl, rfl⟩) (by go_simp; rfl) ?_
    refine (name_any o.name _).mono ?_
    rintro e V1 ⟨rfl, hb1⟩
    refine ⟨by first | rfl | simp [*], (hb).after hb1, ?_⟩
    replace hb := (hb).after hb1
    replace hlow := hlow.trans (hb1.mono (hlow).size)
    clear hb1
    refine HeldBy.take (i := 3) rfl (by kernel_rfl) (by kernel_rfl) (by kernel_rfl) (fun _ _ _ h => h) (by rfl) (fun _ _ => by go_simp; rfl) (by go_simp; rfl) hb ?_
    refine HeldBy.skip (i := 4) rfl (by kernel_rfl) (by kernel_rfl) (by kernel_rfl) (fun _ _ _ h => h) (by rfl) (by go_simp; rfl) hb ?_
    refine HeldBy.skip (i := 5) rfl (by kernel_rfl) (by kernel_rfl) (by kernel_rfl) (fun _ _ _ h => h) (by rfl) (by go_simp; rfl) hb ?_
    refine HeldBy.skip (i := 6) rfl (by kernel_rfl) (by kernel_rfl) (by kernel_rfl) (fun _ _ _ h => h) (by rfl) (by go_simp; rfl) hb ?_
    refine HeldBy.skip (i := 7) rfl (by kernel_rfl) (by kernel_rfl) (by kernel_rfl) (fun _ _ _ h => h) (by rfl) (by go_simp; rfl) hb ?_
    refine HeldBy.take (i := 8) rfl (by kernel_rfl) (by kernel_rfl) (by kernel_rfl) (fun _ _ _ h => h) (by rfl) (fun _ _ => by go_simp; rfl) (by go_simp; rfl) hb ?_
    refine HeldBy.take (i := 9) rfl (by kernel_rfl) (by kernel_rfl) (by kernel_rfl) (fun _ _ _ h => h) (by rfl) (fun _ _ => by go_simp; rfl) (by go_simp; rfl) hb ?_
    refine HeldBy.skip (i := 10) rfl (by kernel_rfl) (by kernel_rfl) (by kernel_rfl) (fun _ _ _ h => h) (by rfl) (by go_simp; rfl) hb ?_
    refine HeldBy.skip (i := 11) rfl (by kernel_rfl) (by kernel_rfl) (by kernel_rfl) (fun _ _ _ h => h) (by rfl) (by go_simp; rfl) hb ?_
    refine HeldBy.skip (i := 12) rfl (by kernel_rfl) (by kernel_rfl) (by kernel_rfl) (fun _ _ _ h => h) (by rfl) (by go_simp; rfl) hb ?_
    refine HeldBy.skip (i := 13) rfl (by kernel_rfl) (by kernel_rfl) (by kernel_rfl) (fun _ _ _ h => h) (by rfl) (by go_simp; rfl) hb ?_
    refine HeldBy.skip (i := 14) rfl (by kernel_rfl) (by kernel_rfl) (by kernel_rfl) (fun _ _ _ h => h) (by rfl) (by go_simp; rfl) hb ?_
    refine HeldBy.skip (i := 15) rfl (by kernel_rfl) (by kernel_rfl) (by kernel_rfl) (fun _ _ _ h => h) (by rfl) (by go_simp; rfl) hb ?_
    refine HeldBy.skip (i := 16) rfl (by kernel_rfl) (by kernel_rfl) (by kernel_rfl) (fun _ _ _ h => h) (by rfl) (by go_simp; rfl) hb ?_
    refine HeldBy.skip (i := 17) rfl (by kernel_rfl) (by kernel_rfl) (by kernel_rfl) (fun _ _ _ h => h) (by rfl) (by go_simp; rfl) hb ?_
    refine HeldBy.skip (i := 18) rfl (by kernel_rfl) (by kernel_rfl) (by kernel_rfl) (fun _ _ _ h => h) (by rfl) (by go_simp; rfl) hb ?_
    refine HeldBy.skip (i := 19) rfl (by kernel_rfl) (by kernel_rfl) (by kernel_rfl) (fun _ _ _ h => h) (by rfl) (by go_simp; rfl) hb ?_
    refine HeldBy.skip (i := 20) rfl (by kernel_rfl) (by kernel_rfl) (by kernel_rfl) (fun _ _ _ h => h) (by rfl) (by go_simp; rfl) hb ?_
    refine HeldBy.skip (i := 21) rfl (by kernel_rfl) (by kernel_rfl) (by kernel_rfl) (fun _ _ _ h => h) (by rfl) (by go_simp; rfl) hb ?_
    refine HeldBy.skip (i := 22) rfl (by kernel_rfl) (by kernel_rfl) (by kernel_rfl) (fun _ _ _ h => h) (by rfl) (by go_simp; rfl) hb ?_
    refine HeldBy.skip (i := 23) rfl (by kernel_rfl) (by kernel_rfl) (by kernel_rfl) (fun _ _ _ h => h) (by rfl) (by go_simp; rfl) hb ?_
    refine HeldBy.take (i := 24) rfl (by kernel_rfl) (by kernel_rfl) (by kernel_rfl) (fun _ _ _ h => h) (by rfl) (fun _ _ => by go_simp; rfl) (by go_simp; rfl) hb ?_
    refine HeldBy.take (i := 25) rfl (by kernel_rfl) (by kernel_rfl) (by kernel_rfl) (fun _ _ _ h => h) (by rfl) (fun _ _ => by go_simp; rfl) (by go_simp; rfl) hb ?_
    refine HeldBy.skip (i := 26) rfl (by kernel_rfl) (by kernel_rfl) (by kernel_rfl) (fun _ _ _ h => h) (by rfl) (by go_simp; rfl) hb ?_
    refine HeldBy.skip (i := 27) rfl (by kernel_rfl) (by kernel_rfl) (by kernel_rfl) (fun _ _ _ h => h) (by rfl) (by go_simp; rfl) hb ?_
    refine HeldBy.skip (i := 28) rfl (by kernel_rfl) (by kernel_rfl) (by kernel_rfl) (fun _ _ _ h => h) (by rfl) (by go_simp; rfl) hb ?_
    refine HeldBy.take (i := 29) rfl (by kernel_rfl) (by kernel_rfl) (by kernel_rfl) (fun _ _ _ h => h) (by rfl) (fun _ _ => by go_simp; rfl) (by go_simp; rfl) hb ?_
    refine HeldBy.take (i := 30) rfl (by kernel_rfl) (by kernel_rfl) (by kernel_rfl) (fun _ _ _ h => h) (by rfl) (fun _ _ => by go_simp; rfl) (by go_simp; rfl) hb ?_
    refine HeldBy.skip (i := 31) rfl (by kernel_rfl) (by kernel_rfl) (by kernel_rfl) (fun _ _ _ h => h) (by rfl) (by go_simp; rfl) hb ?_
    refine HeldBy.skip (i := 32) rfl (by kernel_rfl) (by kernel_rfl) (by kernel_rfl) (fun _ _ _ h => h) (by rfl) (by go_simp; rfl) hb ?_
    refine HeldBy.skip (i := 33) rfl (by kernel_rfl) (by kernel_rfl) (by kernel_rfl) (fun _ _ _ h => h) (by rfl) (by go_simp; rfl) hb ?_
    refine HeldBy.take (i := 34) rfl (by kernel_rfl) (by kernel_rfl) (by kernel_rfl) (fun _ _ _ h => h) (by rfl) (fun _ _ => by go_simp; rfl) (by go_simp; rfl) hb ?_
    refine HeldBy.take (i := 35) rfl (by kernel_rfl) (by kernel_rfl) (by kernel_rfl) (fun _ _ _ h => h) (by rfl) (fun _ _ => by go_simp; rfl) (by go_simp; rfl) hb ?_
    refine HeldBy.skip (i := 36) rfl (by kernel_rfl) (by kernel_rfl) (by kernel_rfl) (fun _ _ _ h => h) (by rfl) (by go_simp; rfl) hb ?_
    refine HeldBy.skip (i := 37) rfl (by kernel_rfl) (by kernel_rfl) (by kernel_rfl) (fun _ _ _ h => h) (by rfl) (by go_simp; rfl) hb ?_
    refine HeldBy.take (i := 38) rfl (by kernel_rfl) (by kernel_rfl) (by kernel_rfl) (fun _ _ _ h => h) (by rfl) (fun _ _ => by go_simp; rfl) (by go_simp; rfl) hb ?_
    refine HeldBy.take (i := 39) rfl (by kernel_rfl) (by kernel_rfl) (by kernel_rfl) (fun _ _ _ h => h) (by rfl) (fun _ _ => by go_simp; rfl) (by go_simp; rfl) hb ?_
    refine wpAnyH_done (by kernel_rfl) ?_ _
    go_wp2
    go_ret
    exact ⟨ret_bool (by rw [H.out]), hlow⟩
  | true =>
    cases b1 : decide (o = bareO o) with
    | false =>
      have H : Hid (rightB o = false) := by show _ = _; unfold rightB; simp [b0, b1]
      go_enter Try.func37, Try.ntmps37
      go_upto_region 1 with (fail)
      refine wp_gen (fun W => BoxO W w.heap.size o ∧ Below w.heap.size w W) ⟨BoxO.new w o, (Below.refl _ _).alloc (Nat.le_refl _) _⟩ ?_
      rintro W1 ⟨hb, hlow⟩
      refine wp_region_held_drew (S := fun W => BoxO W w.heap.size o) (by kernel_rfl) hb.drew (fun _ => ?_)
      refine HeldBy.gen (fun W => BoxO W w.heap.size o ∧ Below w.heap.size w W) ⟨hb.drew, hlow.drew⟩ ?_
      clear hb hlow
      rintro V0 ⟨hb, hlow⟩
      refine HeldBy.take (i := 0) rfl (by kernel_rfl) (by kernel_rfl) (by kernel_rfl) (fun _ _ _ h => h) (by rfl) (fun _ _ => by go_simp; rfl) (by go_simp; rfl) hb ?_
      refine HeldBy.take (i := 1) rfl (by kernel_rfl) (by kernel_rfl) (by kernel_rfl) (fun _ _ _ h => h) (by rfl) (fun _ h => by have c := BoxO.c1 h; go_simp; rfl) (by go_simp; rfl) hb ?_
      refine HeldBy.call (i := 2) (v := .bool true) rfl (by kernel_rfl) (by rfl) (by go_simp; exact ⟨rfl, rfl⟩) (by go_simp; rfl) ?_
      refine (name_any o.name _).mono ?_
      rintro e V1 ⟨rfl, hb1⟩
      refine ⟨by first | rfl | simp [*], (hb).after hb1, ?_⟩
      replace hb := (hb).after hb1
      replace hlow := hlow.trans (hb1.mono (hlow).size)
      clear hb1
      refine HeldBy.take (i := 3) rfl (by kernel_rfl) (by kernel_rfl) (by kernel_rfl) (fun _ _ _ h => h) (by rfl) (fun _ _ => by go_simp; rfl) (by go_simp; rfl) hb ?_
      refine HeldBy.take (i := 4) rfl (by kernel_rfl) (by kernel_rfl) (by kernel_rfl) (fun _ _ _ h => h) (by rfl) (fun _ h => load_obj h rfl (by go_simp)) (by go_simp; rfl) hb ?_
      refine HeldBy.take (i := 5) rfl (by kernel_rfl) (by kernel_rfl) (by kernel_rfl) (fun _ _ _ h => h) (by rfl) (fun _ h => load_obj h rfl (by go_simp)) (by go_simp; rfl) hb ?_
      refine HeldBy.call (i := 6) (v := encO (bareO o)) rfl (by kernel_rfl) (by rfl) (by go_simp; exact ⟨rfl, rfl⟩) (by go_simp; rfl) ?_
      refine (named_any o _).mono ?_
      rintro e V2 ⟨rfl, hb1⟩
      refine ⟨by first | rfl | simp [*], (hb).after hb1, ?_⟩
      replace hb := (hb).after hb1
      replace hlow := hlow.trans (hb1.mono (hlow).size)
      clear hb1
      refine HeldBy.take (i := 7) (v := .bool false) rfl (by kernel_rfl) (by kernel_rfl) (by kernel_rfl) (fun _ _ _ h => h) (by rfl) (fun _ _ => eql_objs rfl (by go_simp) (by go_simp) b1) (by go_simp; rfl) hb ?_
      refine HeldBy.take (i := 8) rfl (by kernel_rfl) (by kernel_rfl) (by kernel_rfl) (fun _ _ _ h => h) (by rfl) (fun _ _ => by go_simp; rfl) (by go_simp; rfl) hb ?_
      refine HeldBy.take (i := 9) rfl (by kernel_rfl) (by kernel_rfl) (by kernel_rfl) (fun _ _ _ h => h) (by rfl) (fun _ _ => by go_simp; rfl) (by go_simp; rfl) hb ?_
      refine HeldBy.skip (i := 10) rfl (by kernel_rfl) (by kernel_rfl) (by kernel_rfl) (fun _ _ _ h => h) (by rfl) (by go_simp; rfl) hb ?_
      refine HeldBy.skip (i := 11) rfl (by kernel_rfl) (by kernel_rfl) (by kernel_rfl) (fun _ _ _ h => h) (by rfl) (by go_simp; rfl) hb ?_
      refine HeldBy.skip (i := 12) rfl (by kernel_rfl) (by kernel_rfl) (by kernel_rfl) (fun _ _ _ h => h) (by rfl) (by go_simp; rfl) hb ?_
      refine HeldBy.skip (i := 13) rfl (by kernel_rfl) (by kernel_rfl) (by kernel_rfl) (fun _ _ _ h => h) (by rfl) (by go_simp; rfl) hb ?_
      refine HeldBy.skip (i := 14) rfl (by kernel_rfl) (by kernel_rfl) (by kernel_rfl) (fun _ _ _ h => h) (by rfl) (by go_simp; rfl) hb ?_
      refine HeldBy.skip (i := 15) rfl (by kernel_rfl) (by kernel_rfl) (by kernel_rfl) (fun _ _ _ h => h) (by rfl) (by go_simp; rfl) hb ?_
      refine HeldBy.skip (i := 16) rfl (by kernel_rfl) (by kernel_rfl) (by kernel_rfl) (fun _ _ _ h => h) (by rfl) (by go_simp; rfl) hb ?_
      refine HeldBy.skip (i := 17) rfl (by kernel_rfl) (by kernel_rfl) (by kernel_rfl) (fun _ _ _ h => h) (by rfl) (by go_simp; rfl) hb ?_
      refine HeldBy.skip (i := 18) rfl (by kernel_rfl) (by kernel_rfl) (by kernel_rfl) (fun _ _ _ h => h) (by rfl) (by go_simp; rfl) hb ?_
      refine HeldBy.skip (i := 19) rfl (by kernel_rfl) (by kernel_rfl) (by kernel_rfl) (fun _ _ _ h => h) (by rfl) (by go_simp; rfl) hb ?_
      refine HeldBy.skip (i := 20) rfl (by kernel_rfl) (by kernel_rfl) (by kernel_rfl) (fun _ _ _ h => h) (by rfl) (by go_simp; rfl) hb ?_
      refine HeldBy.skip (i := 21) rfl (by kernel_rfl) (by kernel_rfl) (by kernel_rfl) (fun _ _ _ h => h) (by rfl) (by go_simp; rfl) hb ?_
      refine HeldBy.skip (i := 22) rfl (by kernel_rfl) (by kernel_rfl) (by kernel_rfl) (fun _ _ _ h => h) (by rfl) (by go_simp; rfl) hb ?_
      refine HeldBy.skip (i := 23) rfl (by kernel_rfl) (by kernel_rfl) (by kernel_rfl) (fun _ _ _ h => h) (by rfl) (by go_simp; rfl) hb ?_
      refine HeldBy.take (i := 24) rfl (by kernel_rfl) (by kernel_rfl) (by kernel_rfl) (fun _ _ _ h => h) (by rfl) (fun _ _ => by go_simp; rfl) (by go_simp; rfl) hb ?_
      refine HeldBy.take (i := 25) rfl (by kernel_rfl) (by kernel_rfl) (by kernel_rfl) (fun _ _ _ h => h) (by rfl) (fun _ _ => by go_simp; rfl) (by go_simp; rfl) hb ?_
      refine HeldBy.skip (i := 26) rfl (by kernel_rfl) (by kernel_rfl) (by kernel_rfl) (fun _ _ _ h => h) (by rfl) (by go_simp; rfl) hb ?_
      refine HeldBy.skip (i := 27) rfl (by kernel_rfl) (by kernel_rfl) (by kernel_rfl) (fun _ _ _ h => h) (by rfl) (by go_simp; rfl) hb ?_
      refine HeldBy.skip (i := 28) rfl (by kernel_rfl) (by kernel_rfl) (by kernel_rfl) (fun _ _ _ h => h) (by rfl) (by go_simp; rfl) hb ?_
      refine HeldBy.take (i := 29) rfl (by kernel_rfl) (by kernel_rfl) (by kernel_rfl) (fun _ _ _ h => h) (by rfl) (fun _ _ => by go_simp; rfl) (by go_simp; rfl) hb ?_
      refine HeldBy.take (i := 30) rfl (by kernel_rfl) (by kernel_rfl) (by kernel_rfl) (fun _ _ _ h => h) (by rfl) (fun _ _ => by go_simp; rfl) (by go_simp; rfl) hb ?_
      refine HeldBy.skip (i := 31) rfl (by kernel_rfl) (by kernel_rfl) (by kernel_rfl) (fun _ _ _ h => h) (by rfl) (by go_simp; rfl) hb ?_
      refine HeldBy.skip (i := 32) rfl (by kernel_rfl) (by kernel_rfl) (by kernel_rfl) (fun _ _ _ h => h) (by rfl) (by go_simp; rfl) hb ?_
      refine HeldBy.skip (i := 33) rfl (by kernel_rfl) (by kernel_rfl) (by kernel_rfl) (fun _ _ _ h => h) (by rfl) (by go_simp; rfl) hb ?_
      refine HeldBy.take (i := 34) rfl (by kernel_rfl) (by kernel_rfl) (by kernel_rfl) (fun _ _ _ h => h) (by rfl) (fun _ _ => by go_simp; rfl) (by go_simp; rfl) hb ?_
      refine HeldBy.take (i := 35) rfl (by kernel_rfl) (by kernel_rfl) (by kernel_rfl) (fun _ _ _ h => h) (by rfl) (fun _ _ => by go_simp; rfl) (by go_simp; rfl) hb ?_
      refine HeldBy.skip (i := 36) rfl (by kernel_rfl) (by kernel_rfl) (by kernel_rfl) (fun _ _ _ h => h) (by rfl) (by go_simp; rfl) hb ?_
      refine HeldBy.skip (i := 37) rfl (by kernel_rfl) (by kernel_rfl) (by kernel_rfl) (fun _ _ _ h => h) (by rfl) (by go_simp; rfl) hb ?_
      refine HeldBy.take (i := 38) rfl (by kernel_rfl) (by kernel_rfl) (by kernel_rfl) (fun _ _ _ h => h) (by rfl) (fun _ _ => by go_simp; rfl) (by go_simp; rfl) hb ?_
      refine HeldBy.take (i := 39) rfl (by kernel_rfl) (by kernel_rfl) (by kernel_rfl) (fun _ _ _ h => h) (by rfl) (fun _ _ => by go_simp; rfl) (by go_simp; rfl) hb ?_
      refine wpAnyH_done (by kernel_rfl) ?_ _
      go_wp2
      go_ret
      exact ⟨ret_bool (by rw [H.out]), hlow⟩
    | true =>
      cases b2 : textsB o with
      | false =>
        have H : Hid (rightB o = false) := by show _ = _; unfold rightB; simp [b0, b1, b2]
        go_enter Try.func37, Try.ntmps37
        go_upto_region 1 with (fail)
        refine wp_gen (fun W => BoxO W w.heap.size o ∧ Below w.heap.size w W) ⟨BoxO.new w o, (Below.refl _ _).alloc (Nat.le_refl _) _⟩ ?_
        rintro W1 ⟨hb, hlow⟩
        refine wp_region_held_drew (S := fun W => BoxO W w.heap.size o) (by kernel_rfl) hb.drew (fun _ => ?_)
        refine HeldBy.gen (fun W => BoxO W w.heap.size o ∧ Below w.heap.size w W) ⟨hb.drew, hlow.drew⟩ ?_
        clear hb hlow
        rintro V0 ⟨hb, hlow⟩
        refine HeldBy.take (i := 0) rfl (by kernel_rfl) (by kernel_rfl) (by kernel_rfl) (fun _ _ _ h => h) (by rfl) (fun _ _ => by go_simp; rfl) (by go_simp; rfl) hb ?_
        refine HeldBy.take (i := 1) rfl (by kernel_rfl) (by kernel_rfl) (by kernel_rfl) (fun _ _ _ h => h) (by rfl) (fun _ h => by have c := BoxO.c1 h; go_simp; rfl) (by go_simp; rfl) hb ?_
        refine HeldBy.call (i := 2) (v := .bool true) rfl (by kernel_rfl) (by rfl) (by go_simp; exact ⟨rfl, rfl⟩) (by go_simp; rfl) ?_
        refine (name_any o.name _).mono ?_
        rintro e V1 ⟨rfl, hb1⟩
        refine ⟨by first | rfl | simp [*], (hb).after hb1, ?_⟩
        replace hb := (hb).after hb1
        replace hlow := hlow.trans (hb1.mono (hlow).size)
        clear hb1
        refine HeldBy.take (i := 3) rfl (by kernel_rfl) (by kernel_rfl) (by kernel_rfl) (fun _ _ _ h => h) (by rfl) (fun _ _ => by go_simp; rfl) (by go_simp; rfl) hb ?_
        refine HeldBy.take (i := 4) rfl (by kernel_rfl) (by kernel_rfl) (by kernel_rfl) (fun _ _ _ h => h) (by rfl) (fun _ h => load_obj h rfl (by go_simp)) (by go_simp; rfl) hb ?_
        refine HeldBy.take (i := 5) rfl (by kernel_rfl) (by kernel_rfl) (by kernel_rfl) (fun _ _ _ h => h) (by rfl) (fun _ h => load_obj h rfl (by go_simp)) (by go_simp; rfl) hb ?_
        refine HeldBy.call (i := 6) (v := encO (bareO o)) rfl (by kernel_rfl) (by rfl) (by go_simp; exact ⟨rfl, rfl⟩) (by go_simp; rfl) ?_
        refine (named_any o _).mono ?_
        rintro e V2 ⟨rfl, hb1⟩
        refine ⟨by first | rfl | simp [*], (hb).after hb1, ?_⟩
        replace hb := (hb).after hb1
        replace hlow := hlow.trans (hb1.mono (hlow).size)
        clear hb1
        refine HeldBy.take (i := 7) (v := .bool true) rfl (by kernel_rfl) (by kernel_rfl) (by kernel_rfl) (fun _ _ _ h => h) (by rfl) (fun _ _ => eql_objs rfl (by go_simp) (by go_simp) b1) (by go_simp; rfl) hb ?_
        refine HeldBy.take (i := 8) rfl (by kernel_rfl) (by kernel_rfl) (by kernel_rfl) (fun _ _ _ h => h) (by rfl) (fun _ _ => by go_simp; rfl) (by go_simp; rfl) hb ?_
        refine HeldBy.take (i := 9) rfl (by kernel_rfl) (by kernel_rfl) (by kernel_rfl) (fun _ _ _ h => h) (by rfl) (fun _ _ => by go_simp; rfl) (by go_simp; rfl) hb ?_
        refine HeldBy.take (i := 10) rfl (by kernel_rfl) (by kernel_rfl) (by kernel_rfl) (fun _ _ _ h => h) (by rfl) (fun _ _ => by go_simp; rfl) (by go_simp; rfl) hb ?_
        refine HeldBy.take (i := 11) rfl (by kernel_rfl) (by kernel_rfl) (by kernel_rfl) (fun _ _ _ h => h) (by rfl) (fun _ h => by have c := BoxO.c6 h; go_simp; rfl) (by go_simp; rfl) hb ?_
        refine HeldBy.take (i := 12) rfl (by kernel_rfl) (by kernel_rfl) (by kernel_rfl) (fun _ _ _ h => h) (by rfl) (fun _ _ => by go_simp; rfl) (by go_simp; rfl) hb ?_
        refine HeldBy.take (i := 13) rfl (by kernel_rfl) (by kernel_rfl) (by kernel_rfl) (fun _ _ _ h => h) (by rfl) (fun _ h => by have c := BoxO.c12 h; go_simp; rfl) (by go_simp; rfl) hb ?_
        refine HeldBy.take (i := 14) rfl (by kernel_rfl) (by kernel_rfl) (by kernel_rfl) (fun _ _ _ h => h) (by rfl) (fun _ _ => by go_simp; rfl) (by go_simp; rfl) hb ?_
        refine HeldBy.take (i := 15) rfl (by kernel_rfl) (by kernel_rfl) (by kernel_rfl) (fun _ _ _ h => h) (by rfl) (fun _ h => by have c := BoxO.c13 h; go_simp; rfl) (by go_simp; rfl) hb ?_
        refine HeldBy.take (i := 16) rfl (by kernel_rfl) (by kernel_rfl) (by kernel_rfl) (fun _ _ _ h => h) (by rfl) (fun _ _ => by go_simp; rfl) (by go_simp; rfl) hb ?_
        refine HeldBy.take (i := 17) rfl (by kernel_rfl) (by kernel_rfl) (by kernel_rfl) (fun _ _ _ h => h) (by rfl) (fun _ h => by have c := BoxO.c14 h; go_simp; rfl) (by go_simp; rfl) hb ?_
        refine HeldBy.take (i := 18) rfl (by kernel_rfl) (by kernel_rfl) (by kernel_rfl) (fun _ _ _ h => h) (by rfl) (fun _ _ => by go_simp; rfl) (by go_simp; rfl) hb ?_
        refine HeldBy.take (i := 19) rfl (by kernel_rfl) (by kernel_rfl) (by kernel_rfl) (fun _ _ _ h => h) (by rfl) (fun _ h => by have c := BoxO.c15 h; go_simp; rfl) (by go_simp; rfl) hb ?_
        refine HeldBy.take (i := 20) rfl (by kernel_rfl) (by kernel_rfl) (by kernel_rfl) (fun _ _ _ h => h) (by rfl) (fun _ _ => by go_simp; rfl) (by go_simp; rfl) hb ?_
        refine HeldBy.take (i := 21) rfl (by kernel_rfl) (by kernel_rfl) (by kernel_rfl) (fun _ _ _ h => h) (by rfl) (fun _ h => by have c := BoxO.c16 h; go_simp; rfl) (by go_simp; rfl) hb ?_
        refine HeldBy.value (i := 22) rfl (by kernel_rfl) (by rfl) (by go_simp; exact ⟨rfl, rfl⟩) (by go_simp; rfl) (hb.alloc _) ?_
        refine HeldBy.call (i := 23) (v := .bool false) rfl (by kernel_rfl) (by rfl) (by go_simp; exact ⟨rfl, rfl⟩) (by go_simp; rfl) ?_
        refine (namesOrEmpty6 o _ _ ?_ ?_ ?_ ?_ ?_ ?_).mono ?_
        · go_simp
        · go_simp
        · go_simp
        · go_simp
        · go_simp
        · go_simp
        rintro e V4 ⟨rfl, hb1⟩
        refine ⟨by first | rfl | simp [*], (hb.alloc _).after hb1, ?_⟩
        replace hb := (hb.alloc _).after hb1
        replace hlow := (hlow.alloc hlow.size _).trans (hb1.mono (hlow.alloc hlow.size _).size)
        clear hb1
        refine HeldBy.take (i := 24) rfl (by kernel_rfl) (by kernel_rfl) (by kernel_rfl) (fun _ _ _ h => h) (by rfl) (fun _ _ => by go_simp; rfl) (by go_simp; rfl) hb ?_
        refine HeldBy.take (i := 25) rfl (by kernel_rfl) (by kernel_rfl) (by kernel_rfl) (fun _ _ _ h => h) (by rfl) (fun _ _ => by go_simp; rfl) (by go_simp; rfl) hb ?_
        refine HeldBy.skip (i := 26) rfl (by kernel_rfl) (by kernel_rfl) (by kernel_rfl) (fun _ _ _ h => h) (by rfl) (by go_simp; rfl) hb ?_
        refine HeldBy.skip (i := 27) rfl (by kernel_rfl) (by kernel_rfl) (by kernel_rfl) (fun _ _ _ h => h) (by rfl) (by go_simp; rfl) hb ?_
        refine HeldBy.skip (i := 28) rfl (by kernel_rfl) (by kernel_rfl) (by kernel_rfl) (fun _ _ _ h => h) (by rfl) (by go_simp; rfl) hb ?_
        refine HeldBy.take (i := 29) rfl (by kernel_rfl) (by kernel_rfl) (by kernel_rfl) (fun _ _ _ h => h) (by rfl) (fun _ _ => by go_simp; rfl) (by go_simp; rfl) hb ?_
        refine HeldBy.take (i := 30) rfl (by kernel_rfl) (by kernel_rfl) (by kernel_rfl) (fun _ _ _ h => h) (by rfl) (fun _ _ => by go_simp; rfl) (by go_simp; rfl) hb ?_
        refine HeldBy.skip (i := 31) rfl (by kernel_rfl) (by kernel_rfl) (by kernel_rfl) (fun _ _ _ h => h) (by rfl) (by go_simp; rfl) hb ?_
        refine HeldBy.skip (i := 32) rfl (by kernel_rfl) (by kernel_rfl) (by kernel_rfl) (fun _ _ _ h => h) (by rfl) (by go_simp; rfl) hb ?_
        refine HeldBy.skip (i := 33) rfl (by kernel_rfl) (by kernel_rfl) (by kernel_rfl) (fun _ _ _ h => h) (by rfl) (by go_simp; rfl) hb ?_
        refine HeldBy.take (i := 34) rfl (by kernel_rfl) (by kernel_rfl) (by kernel_rfl) (fun _ _ _ h => h) (by rfl) (fun _ _ => by go_simp; rfl) (by go_simp; rfl) hb ?_
        refine HeldBy.take (i := 35) rfl (by kernel_rfl) (by kernel_rfl) (by kernel_rfl) (fun _ _ _ h => h) (by rfl) (fun _ _ => by go_simp; rfl) (by go_simp; rfl) hb ?_
        refine HeldBy.skip (i := 36) rfl (by kernel_rfl) (by kernel_rfl) (by kernel_rfl) (fun _ _ _ h => h) (by rfl) (by go_simp; rfl) hb ?_
        refine HeldBy.skip (i := 37) rfl (by kernel_rfl) (by kernel_rfl) (by kernel_rfl) (fun _ _ _ h => h) (by rfl) (by go_simp; rfl) hb ?_
        refine HeldBy.take (i := 38) rfl (by kernel_rfl) (by kernel_rfl) (by kernel_rfl) (fun _ _ _ h => h) (by rfl) (fun _ _ => by go_simp; rfl) (by go_simp; rfl) hb ?_
        refine HeldBy.take (i := 39) rfl (by kernel_rfl) (by kernel_rfl) (by kernel_rfl) (fun _ _ _ h => h) (by rfl) (fun _ _ => by go_simp; rfl) (by go_simp; rfl) hb ?_
        refine wpAnyH_done (by kernel_rfl) ?_ _
        go_wp2
        go_ret
        exact ⟨ret_bool (by rw [H.out]), hlow⟩
      | true =>
        cases b3 : inR o.size with
        | false =>
          have H : Hid (rightB o = false) := by show _ = _; unfold rightB; simp [b0, b1, b2, b3]
          go_enter Try.func37, Try.ntmps37
          go_upto_region 1 with (fail)
          refine wp_gen (fun W => BoxO W w.heap.size o ∧ Below w.heap.size w W) ⟨BoxO.new w o, (Below.refl _ _).alloc (Nat.le_refl _) _⟩ ?_
          rintro W1 ⟨hb, hlow⟩
          refine wp_region_held_drew (S := fun W => BoxO W w.heap.size o) (by kernel_rfl) hb.drew (fun _ => ?_)
          refine HeldBy.gen (fun W => BoxO W w.heap.size o ∧ Below w.heap.size w W) ⟨hb.drew, hlow.drew⟩ ?_
          clear hb hlow
          rintro V0 ⟨hb, hlow⟩
          refine HeldBy.take (i := 0) rfl (by kernel_rfl) (by kernel_rfl) (by kernel_rfl) (fun _ _ _ h => h) (by rfl) (fun _ _ => by go_simp; rfl) (by go_simp; rfl) hb ?_
          refine HeldBy.take (i := 1) rfl (by kernel_rfl) (by kernel_rfl) (by kernel_rfl) (fun _ _ _ h => h) (by rfl) (fun _ h => by have c := BoxO.c1 h; go_simp; rfl) (by go_simp; rfl) hb ?_
          refine HeldBy.call (i := 2) (v := .bool true) rfl (by kernel_rfl) (by rfl) (by go_simp; exact ⟨rfl, rfl⟩) (by go_simp; rfl) ?_
          refine (name_any o.name _).mono ?_
          rintro e V1 ⟨rfl, hb1⟩
          refine ⟨by first | rfl | simp [*], (hb).after hb1, ?_⟩
          replace hb := (hb).after hb1
          replace hlow := hlow.trans (hb1.mono (hlow).size)
          clear hb1
          refine HeldBy.take (i := 3) rfl (by kernel_rfl) (by kernel_rfl) (by kernel_rfl) (fun _ _ _ h => h) (by rfl) (fun _ _ => by go_simp; rfl) (by go_simp; rfl) hb ?_
          refine HeldBy.take (i := 4) rfl (by kernel_rfl) (by kernel_rfl) (by kernel_rfl) (fun _ _ _ h => h) (by rfl) (fun _ h => load_obj h rfl (by go_simp)) (by go_simp; rfl) hb ?_
          refine HeldBy.take (i := 5) rfl (by kernel_rfl) (by kernel_rfl) (by kernel_rfl) (fun _ _ _ h => h) (by rfl) (fun _ h => load_obj h rfl (by go_simp)) (by go_simp; rfl) hb ?_
          refine HeldBy.call (i := 6) (v := encO (bareO o)) rfl (by kernel_rfl) (by rfl) (by go_simp; exact ⟨rfl, rfl⟩) (by go_simp; rfl) ?_
          refine (named_any o _).mono ?_
          rintro e V2 ⟨rfl, hb1⟩
          refine ⟨by first | rfl | simp [*], (hb).after hb1, ?_⟩
          replace hb := (hb).after hb1
          replace hlow := hlow.trans (hb1.mono (hlow).size)
          clear hb1
          refine HeldBy.take (i := 7) (v := .bool true) rfl (by kernel_rfl) (by kernel_rfl) (by kernel_rfl) (fun _ _ _ h => h) (by rfl) (fun _ _ => eql_objs rfl (by go_simp) (by go_simp) b1) (by go_simp; rfl) hb ?_
          refine HeldBy.take (i := 8) rfl (by kernel_rfl) (by kernel_rfl) (by kernel_rfl) (fun _ _ _ h => h) (by rfl) (fun _ _ => by go_simp; rfl) (by go_simp; rfl) hb ?_
          refine HeldBy.take (i := 9) rfl (by kernel_rfl) (by kernel_rfl) (by kernel_rfl) (fun _ _ _ h => h) (by rfl) (fun _ _ => by go_simp; rfl) (by go_simp; rfl) hb ?_
          refine HeldBy.take (i := 10) rfl (by kernel_rfl) (by kernel_rfl) (by kernel_rfl) (fun _ _ _ h => h) (by rfl) (fun _ _ => by go_simp; rfl) (by go_simp; rfl) hb ?_
          refine HeldBy.take (i := 11) rfl (by kernel_rfl) (by kernel_rfl) (by kernel_rfl) (fun _ _ _ h => h) (by rfl) (fun _ h => by have c := BoxO.c6 h; go_simp; rfl) (by go_simp; rfl) hb ?_
          refine HeldBy.take (i := 12) rfl (by kernel_rfl) (by kernel_rfl) (by kernel_rfl) (fun _ _ _ h => h) (by rfl) (fun _ _ => by go_simp; rfl) (by go_simp; rfl) hb ?_
          refine HeldBy.take (i := 13) rfl (by kernel_rfl) (by kernel_rfl) (by kernel_rfl) (fun _ _ _ h => h) (by rfl) (fun _ h => by have c := BoxO.c12 h; go_simp; rfl) (by go_simp; rfl) hb ?_
          refine HeldBy.take (i := 14) rfl (by kernel_rfl) (by kernel_rfl) (by kernel_rfl) (fun _ _ _ h => h) (by rfl) (fun _ _ => by go_simp; rfl) (by go_simp; rfl) hb ?_
          refine HeldBy.take (i := 15) rfl (by kernel_rfl) (by kernel_rfl) (by kernel_rfl) (fun _ _ _ h => h) (by rfl) (fun _ h => by have c := BoxO.c13 h; go_simp; rfl) (by go_simp; rfl) hb ?_
          refine HeldBy.take (i := 16) rfl (by kernel_rfl) (by kernel_rfl) (by kernel_rfl) (fun _ _ _ h => h) (by rfl) (fun _ _ => by go_simp; rfl) (by go_simp; rfl) hb ?_
          refine HeldBy.take (i := 17) rfl (by kernel_rfl) (by kernel_rfl) (by kernel_rfl) (fun _ _ _ h => h) (by rfl) (fun _ h => by have c := BoxO.c14 h; go_simp; rfl) (by go_simp; rfl) hb ?_
          refine HeldBy.take (i := 18) rfl (by kernel_rfl) (by kernel_rfl) (by kernel_rfl) (fun _ _ _ h => h) (by rfl) (fun _ _ => by go_simp; rfl) (by go_simp; rfl) hb ?_
          refine HeldBy.take (i := 19) rfl (by kernel_rfl) (by kernel_rfl) (by kernel_rfl) (fun _ _ _ h => h) (by rfl) (fun _ h => by have c := BoxO.c15 h; go_simp; rfl) (by go_simp; rfl) hb ?_
          refine HeldBy.take (i := 20) rfl (by kernel_rfl) (by kernel_rfl) (by kernel_rfl) (fun _ _ _ h => h) (by rfl) (fun _ _ => by go_simp; rfl) (by go_simp; rfl) hb ?_
          refine HeldBy.take (i := 21) rfl (by kernel_rfl) (by kernel_rfl) (by kernel_rfl) (fun _ _ _ h => h) (by rfl) (fun _ h => by have c := BoxO.c16 h; go_simp; rfl) (by go_simp; rfl) hb ?_
          refine HeldBy.value (i := 22) rfl (by kernel_rfl) (by rfl) (by go_simp; exact ⟨rfl, rfl⟩) (by go_simp; rfl) (hb.alloc _) ?_
          refine HeldBy.call (i := 23) (v := .bool true) rfl (by kernel_rfl) (by rfl) (by go_simp; exact ⟨rfl, rfl⟩) (by go_simp; rfl) ?_
          refine (namesOrEmpty6 o _ _ ?_ ?_ ?_ ?_ ?_ ?_).mono ?_
          · go_simp
          · go_simp
          · go_simp
          · go_simp
          · go_simp
          · go_simp
          rintro e V4 ⟨rfl, hb1⟩
          refine ⟨by first | rfl | simp [*], (hb.alloc _).after hb1, ?_⟩
          replace hb := (hb.alloc _).after hb1
          replace hlow := (hlow.alloc hlow.size _).trans (hb1.mono (hlow.alloc hlow.size _).size)
          clear hb1
          refine HeldBy.take (i := 24) rfl (by kernel_rfl) (by kernel_rfl) (by kernel_rfl) (fun _ _ _ h => h) (by rfl) (fun _ _ => by go_simp; rfl) (by go_simp; rfl) hb ?_
          refine HeldBy.take (i := 25) rfl (by kernel_rfl) (by kernel_rfl) (by kernel_rfl) (fun _ _ _ h => h) (by rfl) (fun _ _ => by go_simp; rfl) (by go_simp; rfl) hb ?_
          refine HeldBy.take (i := 26) rfl (by kernel_rfl) (by kernel_rfl) (by kernel_rfl) (fun _ _ _ h => h) (by rfl) (fun _ _ => by go_simp; rfl) (by go_simp; rfl) hb ?_
          refine HeldBy.take (i := 27) rfl (by kernel_rfl) (by kernel_rfl) (by kernel_rfl) (fun _ _ _ h => h) (by rfl) (fun _ h => by have c := BoxO.c7 h; go_simp; rfl) (by go_simp; rfl) hb ?_
          refine HeldBy.call (i := 28) (v := .bool false) rfl (by kernel_rfl) (by rfl) (by go_simp; exact ⟨rfl, rfl⟩) (by go_simp; rfl) ?_
          refine (inRange_any o.size _).mono ?_
          rintro e V5 ⟨rfl, hV⟩
          refine ⟨by first | rfl | simp [*], hV ▸ hb, ?_⟩
          replace hb : BoxO V5 _ _ := hV ▸ hb
          replace hlow : Below _ _ V5 := hV ▸ hlow
          clear hV
          refine HeldBy.take (i := 29) rfl (by kernel_rfl) (by kernel_rfl) (by kernel_rfl) (fun _ _ _ h => h) (by rfl) (fun _ _ => by go_simp; rfl) (by go_simp; rfl) hb ?_
          refine HeldBy.take (i := 30) rfl (by kernel_rfl) (by kernel_rfl) (by kernel_rfl) (fun _ _ _ h => h) (by rfl) (fun _ _ => by go_simp; rfl) (by go_simp; rfl) hb ?_
          refine HeldBy.skip (i := 31) rfl (by kernel_rfl) (by kernel_rfl) (by kernel_rfl) (fun _ _ _ h => h) (by rfl) (by go_simp; rfl) hb ?_
          refine HeldBy.skip (i := 32) rfl (by kernel_rfl) (by kernel_rfl) (by kernel_rfl) (fun _ _ _ h => h) (by rfl) (by go_simp; rfl) hb ?_
          refine HeldBy.skip (i := 33) rfl (by kernel_rfl) (by kernel_rfl) (by kernel_rfl) (fun _ _ _ h => h) (by rfl) (by go_simp; rfl) hb ?_
          refine HeldBy.take (i := 34) rfl (by kernel_rfl) (by kernel_rfl) (by kernel_rfl) (fun _ _ _ h => h) (by rfl) (fun _ _ => by go_simp; rfl) (by go_simp; rfl) hb ?_
          refine HeldBy.take (i := 35) rfl (by kernel_rfl) (by kernel_rfl) (by kernel_rfl) (fun _ _ _ h => h) (by rfl) (fun _ _ => by go_simp; rfl) (by go_simp; rfl) hb ?_
          refine HeldBy.skip (i := 36) rfl (by kernel_rfl) (by kernel_rfl) (by kernel_rfl) (fun _ _ _ h => h) (by rfl) (by go_simp; rfl) hb ?_
          refine HeldBy.skip (i := 37) rfl (by kernel_rfl) (by kernel_rfl) (by kernel_rfl) (fun _ _ _ h => h) (by rfl) (by go_simp; rfl) hb ?_
          refine HeldBy.take (i := 38) rfl (by kernel_rfl) (by kernel_rfl) (by kernel_rfl) (fun _ _ _ h => h) (by rfl) (fun _ _ => by go_simp; rfl) (by go_simp; rfl) hb ?_
          refine HeldBy.take (i := 39) rfl (by kernel_rfl) (by kernel_rfl) (by kernel_rfl) (fun _ _ _ h => h) (by rfl) (fun _ _ => by go_simp; rfl) (by go_simp; rfl) hb ?_
          refine wpAnyH_done (by kernel_rfl) ?_ _
          go_wp2
          go_ret
          exact ⟨ret_bool (by rw [H.out]), hlow⟩
        | true =>
          cases b4 : inR o.got with
          | false =>
            have H : Hid (rightB o = false) := by show _ = _; unfold rightB; simp [b0, b1, b2, b3, b4]
            go_enter Try.func37, Try.ntmps37
            go_upto_region 1 with (fail)
            refine wp_gen (fun W => BoxO W w.heap.size o ∧ Below w.heap.size w W) ⟨BoxO.new w o, (Below.refl _ _).alloc (Nat.le_refl _) _⟩ ?_
            rintro W1 ⟨hb, hlow⟩
            refine wp_region_held_drew (S := fun W => BoxO W w.heap.size o) (by kernel_rfl) hb.drew (fun _ => ?_)
            refine HeldBy.gen (fun W => BoxO W w.heap.size o ∧ Below w.heap.size w W) ⟨hb.drew, hlow.drew⟩ ?_
            clear hb hlow
            rintro V0 ⟨hb, hlow⟩
            refine HeldBy.take (i := 0) rfl (by kernel_rfl) (by kernel_rfl) (by kernel_rfl) (fun _ _ _ h => h) (by rfl) (fun _ _ => by go_simp; rfl) (by go_simp; rfl) hb ?_
            refine HeldBy.take (i := 1) rfl (by kernel_rfl) (by kernel_rfl) (by kernel_rfl) (fun _ _ _ h => h) (by rfl) (fun _ h => by have c := BoxO.c1 h; go_simp; rfl) (by go_simp; rfl) hb ?_
            refine HeldBy.call (i := 2) (v := .bool true) rfl (by kernel_rfl) (by rfl) (by go_simp; exact ⟨rfl, rfl⟩) (by go_simp; rfl) ?_
            refine (name_any o.name _).mono ?_
            rintro e V1 ⟨rfl, hb1⟩
            refine ⟨by first | rfl | simp [*], (hb).after hb1, ?_⟩
            replace hb := (hb).after hb1
            replace hlow := hlow.trans (hb1.mono (hlow).size)
            clear hb1
            refine HeldBy.take (i := 3) rfl (by kernel_rfl) (by kernel_rfl) (by kernel_rfl) (fun _ _ _ h => h) (by rfl) (fun _ _ => by go_simp; rfl) (by go_simp; rfl) hb ?_
            refine HeldBy.take (i := 4) rfl (by kernel_rfl) (by kernel_rfl) (by kernel_rfl) (fun _ _ _ h => h) (by rfl) (fun _ h => load_obj h rfl (by go_simp)) (by go_simp; rfl) hb ?_
            refine HeldBy.take (i := 5) rfl (by kernel_rfl) (by kernel_rfl) (by kernel_rfl) (fun _ _ _ h => h) (by rfl) (fun _ h => load_obj h rfl (by go_simp)) (by go_simp; rfl) hb ?_
            refine HeldBy.call (i := 6) (v := encO (bareO o)) rfl (by kernel_rfl) (by rfl) (by go_simp; exact ⟨rfl, rfl⟩) (by go_simp; rfl) ?_
            refine (named_any o _).mono ?_
            rintro e V2 ⟨rfl, hb1⟩
            refine ⟨by first | rfl | simp [*], (hb).after hb1, ?_⟩
            replace hb := (hb).after hb1
            replace hlow := hlow.trans (hb1.mono (hlow).size)
            clear hb1
            refine HeldBy.take (i := 7) (v := .bool true) rfl (by kernel_rfl) (by kernel_rfl) (by kernel_rfl) (fun _ _ _ h => h) (by rfl) (fun _ _ => eql_objs rfl (by go_simp) (by go_simp) b1) (by go_simp; rfl) hb ?_
            refine HeldBy.take (i := 8) rfl (by kernel_rfl) (by kernel_rfl) (by kernel_rfl) (fun _ _ _ h => h) (by rfl) (fun _ _ => by go_simp; rfl) (by go_simp; rfl) hb ?_
            refine HeldBy.take (i := 9) rfl (by kernel_rfl) (by kernel_rfl) (by kernel_rfl) (fun _ _ _ h => h) (by rfl) (fun _ _ => by go_simp; rfl) (by go_simp; rfl) hb ?_
            refine HeldBy.take (i := 10) rfl (by kernel_rfl) (by kernel_rfl) (by kernel_rfl) (fun _ _ _ h => h) (by rfl) (fun _ _ => by go_simp; rfl) (by go_simp; rfl) hb ?_
            refine HeldBy.take (i := 11) rfl (by kernel_rfl) (by kernel_rfl) (by kernel_rfl) (fun _ _ _ h => h) (by rfl) (fun _ h => by have c := BoxO.c6 h; go_simp; rfl) (by go_simp; rfl) hb ?_
            refine HeldBy.take (i := 12) rfl (by kernel_rfl) (by kernel_rfl) (by kernel_rfl) (fun _ _ _ h => h) (by rfl) (fun _ _ => by go_simp; rfl) (by go_simp; rfl) hb ?_
            refine HeldBy.take (i := 13) rfl (by kernel_rfl) (by kernel_rfl) (by kernel_rfl) (fun _ _ _ h => h) (by rfl) (fun _ h => by have c := BoxO.c12 h; go_simp; rfl) (by go_simp; rfl) hb ?_
            refine HeldBy.take (i := 14) rfl (by kernel_rfl) (by kernel_rfl) (by kernel_rfl) (fun _ _ _ h => h) (by rfl) (fun _ _ => by go_simp; rfl) (by go_simp; rfl) hb ?_
            refine HeldBy.take (i := 15) rfl (by kernel_rfl) (by kernel_rfl) (by kernel_rfl) (fun _ _ _ h => h) (by rfl) (fun _ h => by have c := BoxO.c13 h; go_simp; rfl) (by go_simp; rfl) hb ?_
            refine HeldBy.take (i := 16) rfl (by kernel_rfl) (by kernel_rfl) (by kernel_rfl) (fun _ _ _ h => h) (by rfl) (fun _ _ => by go_simp; rfl) (by go_simp; rfl) hb ?_
            refine HeldBy.take (i := 17) rfl (by kernel_rfl) (by kernel_rfl) (by kernel_rfl) (fun _ _ _ h => h) (by rfl) (fun _ h => by have c := BoxO.c14 h; go_simp; rfl) (by go_simp; rfl) hb ?_
            refine HeldBy.take (i := 18) rfl (by kernel_rfl) (by kernel_rfl) (by kernel_rfl) (fun _ _ _ h => h) (by rfl) (fun _ _ => by go_simp; rfl) (by go_simp; rfl) hb ?_
            refine HeldBy.take (i := 19) rfl (by kernel_rfl) (by kernel_rfl) (by kernel_rfl) (fun _ _ _ h => h) (by rfl) (fun _ h => by have c := BoxO.c15 h; go_simp; rfl) (by go_simp; rfl) hb ?_
            refine HeldBy.take (i := 20) rfl (by kernel_rfl) (by kernel_rfl) (by kernel_rfl) (fun _ _ _ h => h) (by rfl) (fun _ _ => by go_simp; rfl) (by go_simp; rfl) hb ?_
            refine HeldBy.take (i := 21) rfl (by kernel_rfl) (by kernel_rfl) (by kernel_rfl) (fun _ _ _ h => h) (by rfl) (fun _ h => by have c := BoxO.c16 h; go_simp; rfl) (by go_simp; rfl) hb ?_
            refine HeldBy.value (i := 22) rfl (by kernel_rfl) (by rfl) (by go_simp; exact ⟨rfl, rfl⟩) (by go_simp; rfl) (hb.alloc _) ?_
            refine HeldBy.call (i := 23) (v := .bool true) rfl (by kernel_rfl) (by rfl) (by go_simp; exact ⟨rfl, rfl⟩) (by go_simp; rfl) ?_
            refine (namesOrEmpty6 o _ _ ?_ ?_ ?_ ?_ ?_ ?_).mono ?_
            · go_simp
            · go_simp
            · go_simp
            · go_simp
            · go_simp
            · go_simp
            rintro e V4 ⟨rfl, hb1⟩
            refine ⟨by first | rfl | simp [*], (hb.alloc _).after hb1, ?_⟩
            replace hb := (hb.alloc _).after hb1
            replace hlow := (hlow.alloc hlow.size _).trans (hb1.mono (hlow.alloc hlow.size _).size)
            clear hb1
            refine HeldBy.take (i := 24) rfl (by kernel_rfl) (by kernel_rfl) (by kernel_rfl) (fun _ _ _ h => h) (by rfl) (fun _ _ => by go_simp; rfl) (by go_simp; rfl) hb ?_
            refine HeldBy.take (i := 25) rfl (by kernel_rfl) (by kernel_rfl) (by kernel_rfl) (fun _ _ _ h => h) (by rfl) (fun _ _ => by go_simp; rfl) (by go_simp; rfl) hb ?_
            refine HeldBy.take (i := 26) rfl (by kernel_rfl) (by kernel_rfl) (by kernel_rfl) (fun _ _ _ h => h) (by rfl) (fun _ _ => by go_simp; rfl) (by go_simp; rfl) hb ?_
            refine HeldBy.take (i := 27) rfl (by kernel_rfl) (by kernel_rfl) (by kernel_rfl) (fun _ _ _ h => h) (by rfl) (fun _ h => by have c := BoxO.c7 h; go_simp; rfl) (by go_simp; rfl) hb ?_
            refine HeldBy.call (i := 28) (v := .bool true) rfl (by kernel_rfl) (by rfl) (by go_simp; exact ⟨rfl, rfl⟩) (by go_simp; rfl) ?_
            refine (inRange_any o.size _).mono ?_
            rintro e V5 ⟨rfl, hV⟩
            refine ⟨by first | rfl | simp [*], hV ▸ hb, ?_⟩
            replace hb : BoxO V5 _ _ := hV ▸ hb
            replace hlow : Below _ _ V5 := hV ▸ hlow
            clear hV
            refine HeldBy.take (i := 29) rfl (by kernel_rfl) (by kernel_rfl) (by kernel_rfl) (fun _ _ _ h => h) (by rfl) (fun _ _ => by go_simp; rfl) (by go_simp; rfl) hb ?_
            refine HeldBy.take (i := 30) rfl (by kernel_rfl) (by kernel_rfl) (by kernel_rfl) (fun _ _ _ h => h) (by rfl) (fun _ _ => by go_simp; rfl) (by go_simp; rfl) hb ?_
            refine HeldBy.take (i := 31) rfl (by kernel_rfl) (by kernel_rfl) (by kernel_rfl) (fun _ _ _ h => h) (by rfl) (fun _ _ => by go_simp; rfl) (by go_simp; rfl) hb ?_
            refine HeldBy.take (i := 32) rfl (by kernel_rfl) (by kernel_rfl) (by kernel_rfl) (fun _ _ _ h => h) (by rfl) (fun _ h => by have c := BoxO.c8 h; go_simp; rfl) (by go_simp; rfl) hb ?_
            refine HeldBy.call (i := 33) (v := .bool false) rfl (by kernel_rfl) (by rfl) (by go_simp; exact ⟨rfl, rfl⟩) (by go_simp; rfl) ?_
            refine (inRange_any o.got _).mono ?_
            rintro e V6 ⟨rfl, hV⟩
            refine ⟨by first | rfl | simp [*], hV ▸ hb, ?_⟩
            replace hb : BoxO V6 _ _ := hV ▸ hb
            replace hlow : Below _ _ V6 := hV ▸ hlow
            clear hV
            refine HeldBy.take (i := 34) rfl (by kernel_rfl) (by kernel_rfl) (by kernel_rfl) (fun _ _ _ h => h) (by rfl) (fun _ _ => by go_simp; rfl) (by go_simp; rfl) hb ?_
            refine HeldBy.take (i := 35) rfl (by kernel_rfl) (by kernel_rfl) (by kernel_rfl) (fun _ _ _ h => h) (by rfl) (fun _ _ => by go_simp; rfl) (by go_simp; rfl) hb ?_
            refine HeldBy.skip (i := 36) rfl (by kernel_rfl) (by kernel_rfl) (by kernel_rfl) (fun _ _ _ h => h) (by rfl) (by go_simp; rfl) hb ?_
            refine HeldBy.skip (i := 37) rfl (by kernel_rfl) (by kernel_rfl) (by kernel_rfl) (fun _ _ _ h => h) (by rfl) (by go_simp; rfl) hb ?_
            refine HeldBy.take (i := 38) rfl (by kernel_rfl) (by kernel_rfl) (by kernel_rfl) (fun _ _ _ h => h) (by rfl) (fun _ _ => by go_simp; rfl) (by go_simp; rfl) hb ?_
            refine HeldBy.take (i := 39) rfl (by kernel_rfl) (by kernel_rfl) (by kernel_rfl) (fun _ _ _ h => h) (by rfl) (fun _ _ => by go_simp; rfl) (by go_simp; rfl) hb ?_
            refine wpAnyH_done (by kernel_rfl) ?_ _
            go_wp2
            go_ret
            exact ⟨ret_bool (by rw [H.out]), hlow⟩
          | true =>
            have H : Hid (rightB o = kindB o) := by show _ = _; unfold rightB; simp [b0, b1, b2, b3, b4]
            go_enter Try.func37, Try.ntmps37
            go_upto_region 1 with (fail)
            refine wp_gen (fun W => BoxO W w.heap.size o ∧ Below w.heap.size w W) ⟨BoxO.new w o, (Below.refl _ _).alloc (Nat.le_refl _) _⟩ ?_
            rintro W1 ⟨hb, hlow⟩
            refine wp_region_held_drew (S := fun W => BoxO W w.heap.size o) (by kernel_rfl) hb.drew (fun _ => ?_)
            refine HeldBy.gen (fun W => BoxO W w.heap.size o ∧ Below w.heap.size w W) ⟨hb.drew, hlow.drew⟩ ?_
            clear hb hlow
            rintro V0 ⟨hb, hlow⟩
            refine HeldBy.take (i := 0) rfl (by kernel_rfl) (by kernel_rfl) (by kernel_rfl) (fun _ _ _ h => h) (by rfl) (fun _ _ => by go_simp; rfl) (by go_simp; rfl) hb ?_
            refine HeldBy.take (i := 1) rfl (by kernel_rfl) (by kernel_rfl) (by kernel_rfl) (fun _ _ _ h => h) (by rfl) (fun _ h => by have c := BoxO.c1 h; go_simp; rfl) (by go_simp; rfl) hb ?_
            refine HeldBy.call (i := 2) (v := .bool true) rfl (by kernel_rfl) (by rfl) (by go_simp; exact ⟨rfl, rfl⟩) (by go_simp; rfl) ?_
            refine (name_any o.name _).mono ?_
            rintro e V1 ⟨rfl, hb1⟩
            refine ⟨by first | rfl | simp [*], (hb).after hb1, ?_⟩
            replace hb := (hb).after hb1
            replace hlow := hlow.trans (hb1.mono (hlow).size)
            clear hb1
            refine HeldBy.take (i := 3) rfl (by kernel_rfl) (by kernel_rfl) (by kernel_rfl) (fun _ _ _ h => h) (by rfl) (fun _ _ => by go_simp; rfl) (by go_simp; rfl) hb ?_
            refine HeldBy.take (i := 4) rfl (by kernel_rfl) (by kernel_rfl) (by kernel_rfl) (fun _ _ _ h => h) (by rfl) (fun _ h => load_obj h rfl (by go_simp)) (by go_simp; rfl) hb ?_
            refine HeldBy.take (i := 5) rfl (by kernel_rfl) (by kernel_rfl) (by kernel_rfl) (fun _ _ _ h => h) (by rfl) (fun _ h => load_obj h rfl (by go_simp)) (by go_simp; rfl) hb ?_
            refine HeldBy.call (i := 6) (v := encO (bareO o)) rfl (by kernel_rfl) (by rfl) (by go_simp; exact ⟨rfl, rfl⟩) (by go_simp; rfl) ?_
            refine (named_any o _).mono ?_
            rintro e V2 ⟨rfl, hb1⟩
            refine ⟨by first | rfl | simp [*], (hb).after hb1, ?_⟩
            replace hb := (hb).after hb1
            replace hlow := hlow.trans (hb1.mono (hlow).size)
            clear hb1
            refine HeldBy.take (i := 7) (v := .bool true) rfl (by kernel_rfl) (by kernel_rfl) (by kernel_rfl) (fun _ _ _ h => h) (by rfl) (fun _ _ => eql_objs rfl (by go_simp) (by go_simp) b1) (by go_simp; rfl) hb ?_
            refine HeldBy.take (i := 8) rfl (by kernel_rfl) (by kernel_rfl) (by kernel_rfl) (fun _ _ _ h => h) (by rfl) (fun _ _ => by go_simp; rfl) (by go_simp; rfl) hb ?_
            refine HeldBy.take (i := 9) rfl (by kernel_rfl) (by kernel_rfl) (by kernel_rfl) (fun _ _ _ h => h) (by rfl) (fun _ _ => by go_simp; rfl) (by go_simp; rfl) hb ?_
            refine HeldBy.take (i := 10) rfl (by kernel_rfl) (by kernel_rfl) (by kernel_rfl) (fun _ _ _ h => h) (by rfl) (fun _ _ => by go_simp; rfl) (by go_simp; rfl) hb ?_
            refine HeldBy.take (i := 11) rfl (by kernel_rfl) (by kernel_rfl) (by kernel_rfl) (fun _ _ _ h => h) (by rfl) (fun _ h => by have c := BoxO.c6 h; go_simp; rfl) (by go_simp; rfl) hb ?_
            refine HeldBy.take (i := 12) rfl (by kernel_rfl) (by kernel_rfl) (by kernel_rfl) (fun _ _ _ h => h) (by rfl) (fun _ _ => by go_simp; rfl) (by go_simp; rfl) hb ?_
            refine HeldBy.take (i := 13) rfl (by kernel_rfl) (by kernel_rfl) (by kernel_rfl) (fun _ _ _ h => h) (by rfl) (fun _ h => by have c := BoxO.c12 h; go_simp; rfl) (by go_simp; rfl) hb ?_
            refine HeldBy.take (i := 14) rfl (by kernel_rfl) (by kernel_rfl) (by kernel_rfl) (fun _ _ _ h => h) (by rfl) (fun _ _ => by go_simp; rfl) (by go_simp; rfl) hb ?_
            refine HeldBy.take (i := 15) rfl (by kernel_rfl) (by kernel_rfl) (by kernel_rfl) (fun _ _ _ h => h) (by rfl) (fun _ h => by have c := BoxO.c13 h; go_simp; rfl) (by go_simp; rfl) hb ?_
            refine HeldBy.take (i := 16) rfl (by kernel_rfl) (by kernel_rfl) (by kernel_rfl) (fun _ _ _ h => h) (by rfl) (fun _ _ => by go_simp; rfl) (by go_simp; rfl) hb ?_
            refine HeldBy.take (i := 17) rfl (by kernel_rfl) (by kernel_rfl) (by kernel_rfl) (fun _ _ _ h => h) (by rfl) (fun _ h => by have c := BoxO.c14 h; go_simp; rfl) (by go_simp; rfl) hb ?_
            refine HeldBy.take (i := 18) rfl (by kernel_rfl) (by kernel_rfl) (by kernel_rfl) (fun _ _ _ h => h) (by rfl) (fun _ _ => by go_simp; rfl) (by go_simp; rfl) hb ?_
            refine HeldBy.take (i := 19) rfl (by kernel_rfl) (by kernel_rfl) (by kernel_rfl) (fun _ _ _ h => h) (by rfl) (fun _ h => by have c := BoxO.c15 h; go_simp; rfl) (by go_simp; rfl) hb ?_
            refine HeldBy.take (i := 20) rfl (by kernel_rfl) (by kernel_rfl) (by kernel_rfl) (fun _ _ _ h => h) (by rfl) (fun _ _ => by go_simp; rfl) (by go_simp; rfl) hb ?_
            refine HeldBy.take (i := 21) rfl (by kernel_rfl) (by kernel_rfl) (by kernel_rfl) (fun _ _ _ h => h) (by rfl) (fun _ h => by have c := BoxO.c16 h; go_simp; rfl) (by go_simp; rfl) hb ?_
            refine HeldBy.value (i := 22) rfl (by kernel_rfl) (by rfl) (by go_simp; exact ⟨rfl, rfl⟩) (by go_simp; rfl) (hb.alloc _) ?_
            refine HeldBy.call (i := 23) (v := .bool true) rfl (by kernel_rfl) (by rfl) (by go_simp; exact ⟨rfl, rfl⟩) (by go_simp; rfl) ?_
            refine (namesOrEmpty6 o _ _ ?_ ?_ ?_ ?_ ?_ ?_).mono ?_
            · go_simp
            · go_simp
            · go_simp
            · go_simp
            · go_simp
            · go_simp
            rintro e V4 ⟨rfl, hb1⟩
            refine ⟨by first | rfl | simp [*], (hb.alloc _).after hb1, ?_⟩
            replace hb := (hb.alloc _).after hb1
            replace hlow := (hlow.alloc hlow.size _).trans (hb1.mono (hlow.alloc hlow.size _).size)
            clear hb1
            refine HeldBy.take (i := 24) rfl (by kernel_rfl) (by kernel_rfl) (by kernel_rfl) (fun _ _ _ h => h) (by rfl) (fun _ _ => by go_simp; rfl) (by go_simp; rfl) hb ?_
            refine HeldBy.take (i := 25) rfl (by kernel_rfl) (by kernel_rfl) (by kernel_rfl) (fun _ _ _ h => h) (by rfl) (fun _ _ => by go_simp; rfl) (by go_simp; rfl) hb ?_
            refine HeldBy.take (i := 26) rfl (by kernel_rfl) (by kernel_rfl) (by kernel_rfl) (fun _ _ _ h => h) (by rfl) (fun _ _ => by go_simp; rfl) (by go_simp; rfl) hb ?_
            refine HeldBy.take (i := 27) rfl (by kernel_rfl) (by kernel_rfl) (by kernel_rfl) (fun _ _ _ h => h) (by rfl) (fun _ h => by have c := BoxO.c7 h; go_simp; rfl) (by go_simp; rfl) hb ?_
            refine HeldBy.call (i := 28) (v := .bool true) rfl (by kernel_rfl) (by rfl) (by go_simp; exact ⟨rfl, rfl⟩) (by go_simp; rfl) ?_
            refine (inRange_any o.size _).mono ?_
            rintro e V5 ⟨rfl, hV⟩
            refine ⟨by first | rfl | simp [*], hV ▸ hb, ?_⟩
            replace hb : BoxO V5 _ _ := hV ▸ hb
            replace hlow : Below _ _ V5 := hV ▸ hlow
            clear hV
            refine HeldBy.take (i := 29) rfl (by kernel_rfl) (by kernel_rfl) (by kernel_rfl) (fun _ _ _ h => h) (by rfl) (fun _ _ => by go_simp; rfl) (by go_simp; rfl) hb ?_
            refine HeldBy.take (i := 30) rfl (by kernel_rfl) (by kernel_rfl) (by kernel_rfl) (fun _ _ _ h => h) (by rfl) (fun _ _ => by go_simp; rfl) (by go_simp; rfl) hb ?_
            refine HeldBy.take (i := 31) rfl (by kernel_rfl) (by kernel_rfl) (by kernel_rfl) (fun _ _ _ h => h) (by rfl) (fun _ _ => by go_simp; rfl) (by go_simp; rfl) hb ?_
            refine HeldBy.take (i := 32) rfl (by kernel_rfl) (by kernel_rfl) (by kernel_rfl) (fun _ _ _ h => h) (by rfl) (fun _ h => by have c := BoxO.c8 h; go_simp; rfl) (by go_simp; rfl) hb ?_
            refine HeldBy.call (i := 33) (v := .bool true) rfl (by kernel_rfl) (by rfl) (by go_simp; exact ⟨rfl, rfl⟩) (by go_simp; rfl) ?_
            refine (inRange_any o.got _).mono ?_
            rintro e V6 ⟨rfl, hV⟩
            refine ⟨by first | rfl | simp [*], hV ▸ hb, ?_⟩
            replace hb : BoxO V6 _ _ := hV ▸ hb
            replace hlow : Below _ _ V6 := hV ▸ hlow
            clear hV
            refine HeldBy.take (i := 34) rfl (by kernel_rfl) (by kernel_rfl) (by kernel_rfl) (fun _ _ _ h => h) (by rfl) (fun _ _ => by go_simp; rfl) (by go_simp; rfl) hb ?_
            refine HeldBy.take (i := 35) rfl (by kernel_rfl) (by kernel_rfl) (by kernel_rfl) (fun _ _ _ h => h) (by rfl) (fun _ _ => by go_simp; rfl) (by go_simp; rfl) hb ?_
            refine HeldBy.take (i := 36) rfl (by kernel_rfl) (by kernel_rfl) (by kernel_rfl) (fun _ _ _ h => h) (by rfl) (fun _ h => load_obj h rfl (by go_simp)) (by go_simp; rfl) hb ?_
            refine HeldBy.call (i := 37) (v := .bool (kindB o)) rfl (by kernel_rfl) (by rfl) (by go_simp; exact ⟨rfl, rfl⟩) (by go_simp; rfl) ?_
            refine (rightOfKind_any o _ (texts_le b2)).mono ?_
            rintro e V7 ⟨rfl, hb1⟩
            refine ⟨by first | rfl | simp [*], (hb).after hb1, ?_⟩
            replace hb := (hb).after hb1
            replace hlow := hlow.trans (hb1.mono (hlow).size)
            clear hb1
            refine HeldBy.take (i := 38) rfl (by kernel_rfl) (by kernel_rfl) (by kernel_rfl) (fun _ _ _ h => h) (by rfl) (fun _ _ => by go_simp; rfl) (by go_simp; rfl) hb ?_
            refine HeldBy.take (i := 39) rfl (by kernel_rfl) (by kernel_rfl) (by kernel_rfl) (fun _ _ _ h => h) (by rfl) (fun _ _ => by go_simp; rfl) (by go_simp; rfl) hb ?_
            refine wpAnyH_done (by kernel_rfl) ?_ _
            go_wp2
            go_ret
            exact ⟨ret_bool (H.out.symm), hlow⟩
end Go.Proofs.Ytfndiocohaploaa.O
namespace Go.Proofs.Ytfndiocohaploaa.O
open Go.RowKit T
open Go.Lib hiding intOf
theorem wpList_load_obj {ops : Array Oper} {rest : List Oper} {oi : Oper} {a : Act} {W : World} {Q : Exit → Act → World → Prop} {x : Operand} {b : Nat} {o : Obj} (hw : Region.wanted oi (yielded ops a.tmps) = true) (ho : oi.op = .load 30 x)
    (hx : a.eval x = .pointer (some ⟨b, 0, none⟩)) (h : BoxO W b o) (hn : wpList Try.prog ops Q rest (a.put oi.dst (encO o)) W) : wpList Try.prog ops Q (oi :: rest) a W := by
  unfold wpList
  rw [if_pos hw]
  refine .inl ?_
  unfold Oper.wp
  rw [load_obj h ho hx]
  exact hn
end Go.Proofs.Ytfndiocohaploaa.O
namespace Go.Proofs.Ytfndiocohaploaa.C
open Go.ChangeShapes Go.WideShapes Go.RowKit Go.Deep T O
open Go.ChangeMaps (open_string)
structure Fits (o : O.Obj) : Prop where
  name : o.name.size ≤ maxLen
  cls : o.cls.size ≤ maxLen
  zone : o.zone.size ≤ maxLen
  node : o.node.size ≤ maxLen
  claim : o.claim.size ≤ maxLen
  volume : o.volume.size ≤ maxLen
  source : o.source.size ≤ maxLen
  version : U64 o.version
  born : U64 o.born
  num : U64 o.num
  tag : U64 o.tag
def cellsE (e : Ev) : Array Value := ⟨.int .u64 e.version :: .bool e.gone :: (cellsO e.object).toList⟩
def encE (e : Ev) : Value := .agg (cellsE e)
theorem undEv : Try.prog.underlying 45 = some (.struct (Try.prog.fieldsOf 45)) := by kernel_rfl
end Go.Proofs.Ytfndiocohaploaa.C
namespace Go.Proofs.Ytfndiocohaploaa.C
open Go.RowKit T O
open Go.Lib hiding intOf
def objE (e : Ev) : Go.Obj := .cells (cellsE e) 45 (0, 0)
def BoxE (W : World) (b : Nat) (e : Ev) : Prop := W.heap[b]? = some (objE e)
section
variable {W W' : World} {b : Nat} {e : Ev}
theorem BoxE.lt (h : BoxE W b e) : b < W.heap.size := (Array.getElem?_eq_some_iff.1 h).1
theorem BoxE.after (h : BoxE W b e) (hb : Below W.heap.size W W') : BoxE W' b e := (hb.block b h.lt).trans h
theorem BoxE.below {B : Nat} (h : BoxE W b e) (hb : Below B W W') (hB : b < B) : BoxE W' b e := (hb.block b hB).trans h
theorem BoxE.alloc (h : BoxE W b e) (x : Go.Obj) : BoxE (W.alloc x) b e := (Below.heap_alloc W x b h.lt).trans h
theorem BoxE.drew (h : BoxE W b e) : BoxE W.drew b e := h
theorem BoxE.new (W : World) (e : Ev) : BoxE (W.alloc (objE e)) W.heap.size e := heap_alloc_new W _
theorem BoxE.at (h : BoxE W b e) (i : Nat) : W.cell? ⟨b, i, none⟩ = (cellsE e)[i]? := cell_of_row W b i _ _ _ h
theorem BoxE.c0 (h : BoxE W b e) : W.cell? ⟨b, 0, none⟩ = some (.int .u64 e.version) := (h.at 0).trans rfl
theorem BoxE.c1 (h : BoxE W b e) : W.cell? ⟨b, 1, none⟩ = some (.bool e.gone) := (h.at 1).trans rfl
theorem ext_ev (e : Ev) : ((cellsE e).extract 2 (2 + 20)).toList = (cellsO e.object).toList := by kernel_rfl
theorem BoxE.obj (h : BoxE W b e) : W.rangeAt b 2 (cellsO e.object).toList := by
  have := World.rangeAt_of_block (w := W) h 2 20
  rwa [ext_ev] at this
end
theorem sizeEv : (Try.prog.info? 45).map (·.size) = some 22 := by kernel_rfl
theorem load_ev {W : World} {b : Nat} {e : Ev} (h : BoxE W b e) {oi : Oper} {a : Act} {x : Operand} (ho : oi.op = .load 45 x) (hx : a.eval x = .pointer (some ⟨b, 0, none⟩)) :
    (execOp a.eval oi).run Try.prog W = .ok (.value (encE e)) W := by
  unfold execOp
  simp only [ho, hx, Instr.loadAt, Instr.sureAddr, Sem.run_bind, Sem.run_pure, Result.andThen_ok, run_loadVar_row W b 45 45 (cellsE e) (0, 0) _ h undEv rfl sizeEv]
  rfl
theorem load_evo {W : World} {b : Nat} {e : Ev} (h : BoxE W b e) {oi : Oper} {a : Act} {x : Operand} (ho : oi.op = .load 30 x) (hx : a.eval x = .pointer (some ⟨b, 2, none⟩)) :
    (execOp a.eval oi).run Try.prog W = .ok (.value (encO e.object)) W := by
  unfold execOp
  simp only [ho, hx, Instr.loadAt, Instr.sureAddr, Sem.run_bind, Sem.run_pure, Result.andThen_ok, run_loadVar_mid W b 2 30 (cellsO e.object).toList _ h.obj undObj rfl sizeObj]
  rfl
theorem wpList_load_ev {ops : Array Oper} {rest : List Oper} {oi : Oper} {a : Act} {W : World} {Q : Exit → Act → World → Prop} {x : Operand} {b : Nat} {e : Ev} (hw : Region.wanted oi (yielded ops a.tmps) = true) (ho : oi.op = .load 45 x)
    (hx : a.eval x = .pointer (some ⟨b, 0, none⟩)) (h : BoxE W b e) (hn : wpList Try.prog ops Q rest (a.put oi.dst (encE e)) W) : wpList Try.prog ops Q (oi :: rest) a W := by
  unfold wpList
  rw [if_pos hw]
  refine .inl ?_
  unfold Oper.wp
  rw [load_ev h ho hx]
  exact hn
theorem wpList_load_evo {ops : Array Oper} {rest : List Oper} {oi : Oper} {a : Act} {W : World} {Q : Exit → Act → World → Prop} {x : Operand} {b : Nat} {e : Ev} (hw : Region.wanted oi (yielded ops a.tmps) = true) (ho : oi.op = .load 30 x)
    (hx : a.eval x = .pointer (some ⟨b, 2, none⟩)) (h : BoxE W b e) (hn : wpList Try.prog ops Q rest (a.put oi.dst (encO e.object)) W) : wpList Try.prog ops Q (oi :: rest) a W := by
  unfold wpList
  rw [if_pos hw]
  refine .inl ?_
  unfold Oper.wp
  rw [load_evo h ho hx]
  exact hn
end Go.Proofs.Ytfndiocohaploaa.C
namespace Go.Proofs.Ytfndiocohaploaa.C
open Go.RowKit T O
open Go.Lib hiding intOf
set_option maxRecDepth 100000 in
set_option maxHeartbeats 1000000 in
theorem eql_ev (x y : Ev) (w : World) : (binOp .eql 45 (encE x) (encE y)).run Try.prog w = .ok (.bool (decide (x = y))) w := by
  obtain ⟨v1, g1, a1, a2, a3, a4, a5, a6, a7, a8, a9, a10, a11, a12, a13, a14, a15, a16, a17, a18, a19, a20⟩ := x
  obtain ⟨v2, g2, b1, b2, b3, b4, b5, b6, b7, b8, b9, b10, b11, b12, b13, b14, b15, b16, b17, b18, b19, b20⟩ := y
  unfold encE cellsE cellsO
  dsimp only
  go_simp
  simp only [eqT]
  iterate 21 refine and_if ?_
  exact last_if
theorem neq_ev (x y : Ev) (w : World) : (binOp .neq 45 (encE x) (encE y)).run Try.prog w = .ok (.bool (!decide (x = y))) w := by
  have h := eql_ev x y w
  unfold encE at *
  rw [run_eql_struct] at h
  rw [run_neq_struct]
  generalize (Op.equalIn 10000 45 _ _).run Try.prog w = r at *
  cases r with
  | ok b w1 =>
    simp only [Result.andThen, Result.ok.injEq, Value.bool.injEq] at h ⊢
    rw [h.1, h.2]; exact ⟨rfl, rfl⟩
  | halt a b => simp [Result.andThen] at h
theorem neq_evs {oi : Oper} {a : Act} {x y : Operand} {p q : Ev} {v : Bool} {W : World} (ho : oi.op = .binOp .neq 45 x y 45) (hx : a.eval x = encE p) (hy : a.eval y = encE q) (hv : (!decide (p = q)) = v) :
    (execOp a.eval oi).run Try.prog W = .ok (.value (.bool v)) W := by
  have hq : (eqGuard .neq 45 x y (encE p) (encE q)).run Try.prog W = .ok () W := run_eqGuard_agg W .neq 45 x y (cellsE p) (cellsE q) (by kernel_rfl)
  unfold execOp
  simp only [ho, hx, hy, Sem.run_bind, hq, Result.andThen_ok, neq_ev, hv, Sem.run_pure]
end Go.Proofs.Ytfndiocohaploaa.C
