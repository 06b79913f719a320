/- What becomes of a claim that never got its volume. -/
import Derived.Test.YtfpdchabknoklaaDoorBTake
namespace Go.Proofs.YtfpdchabknoklaaDoor.O.B
open Go Go.RowKit Go.Shelf Go.Lib RangeMap KM
attribute [local go_sem] Oper.semAt_some

def offN (c : Obj) (next : Int) : Ac :=
  if c.num = 0 then removeA c else if c.phase = 2 then writeA { c with phase := 1, num := next } else askA ⟨2, handleN c, c.num, 0, E0, E0, E0⟩
/-- Some act lies there. -/
def AnyA (W : World) (b : Nat) : Prop := ∃ a, BoxA W b a
theorem AnyA.after {W W' : World} {b : Nat} (h : AnyA W b) (hb : Below W.heap.size W W') : AnyA W' b := h.imp fun _ h => h.after hb
theorem built_erase (h : ByteArray) (n : Int) : Tryd.prog.built 34 [(0, .int .u8 2), (1, .string h), (2, .int .u64 n)] = some (cellsC ⟨2, h, n, 0, E0, E0, E0⟩) := by kernel_rfl

set_option maxRecDepth 100000 in
set_option maxHeartbeats 2000000 in
theorem callOff_any (c : Obj) (next : Int) (w : World) (ht : Tab w) (hb : 0 ≤ c.born ∧ c.born ≤ 18446744073709551615) (hn : c.name.size ≤ 140737488351232) :
    Calls Tryd.prog 23 #[encO c, .int .u64 next] w fun e w' => e = .returned (encA (offN c next)) ∧ Below w.heap.size w w' := by
  have HT := Lib.hid ht
  have HH := Lib.hid (fun V (hV : Tab V) => handle_any c V hV hb hn)
  clear ht hb hn
  obtain ⟨h, hh⟩ : ∃ h, handleN c = h := ⟨_, rfl⟩
  obtain ⟨x, hx⟩ : ∃ x, offN c next = x := ⟨_, rfl⟩
  rw [hx]
  unfold offN at hx
  rw [hh] at HH hx
  clear hh
  by_cases h1 : c.num = 0
  · rw [if_pos h1] at hx
    have e1 : (c.num == 0) = true := by simpa using h1
    subst hx
    have HC := Lib.hid (remove_any c)
    clear h1 HH HT
    unfold encO
    go_enter Tryd.func23, Tryd.ntmps23
    go_upto_region 1 with (fail)
    refine wp_gen (fun V => BoxO V w.heap.size c ∧ BoxA V (w.heap.size + 1) nothing ∧ Below w.heap.size w V) (chain2 w _ _) ?_
    rintro V ⟨hbx, ho, hl⟩
    have HO := Lib.hid ho
    have HW := Lib.hid hl
    have c18 := hbx.c18
    clear ho hl
    go_wp2_with ((with_reducible refine wpList_load_obj ?_ rfl ?_ hbx ?_); rfl; rfl)
    refine (HC.out V).mono ?_
    rintro e W4 ⟨rfl, hb2⟩
    obtain ⟨V6, hst, ho, -, hb⟩ := acting (HO.out.after hb2) (removeA c)
    have HO6 := Lib.hid ho
    have HX := Lib.hid (hb _ _ (HW.out.trans (hb2.mono HW.out.size)) (by omega))
    clear HC HO HW ho hb hb2 hbx c18
    go_wp2_with (refine wpList_skip rfl (hst rfl rfl rfl) ?_)
    refine bodyPost_ret (v := encA (removeA c)) (results_cell_row rfl _ _ (w.heap.size + 1) 36 (cellsA (removeA c)) (0, 0) _ rfl HO6.out undAct rfl sizeAct) rfl ?_
    exact ⟨rfl, HX.out⟩
  · rw [if_neg h1] at hx
    have e1 : (c.num == 0) = false := by simpa using h1
    by_cases h2 : c.phase = 2
    · rw [if_pos h2] at hx
      have e2 : (c.phase == 2) = true := by simpa using h2
      subst hx
      have HC := Lib.hid (write_any { c with phase := 1, num := next })
      clear h1 h2 HH HT
      unfold encO
      go_enter Tryd.func23, Tryd.ntmps23
      go_upto_region 1 with (fail)
      refine wp_gen (fun V => BoxO V w.heap.size c ∧ BoxA V (w.heap.size + 1) nothing ∧ Below w.heap.size w V) (chain2 w _ _) ?_
      rintro V ⟨hbx, ho, hl⟩
      have HB := Lib.hid hbx
      have HO := Lib.hid ho
      have HW := Lib.hid hl
      have c18 := hbx.c18
      have c17 := hbx.c17
      have f17 := hbx.free 17
      have f18 := hbx.free 18
      clear ho hl hbx
      go_upto_region 5 with (fail)
      refine wp_gen (fun V => BoxO V w.heap.size { c with phase := 1, num := next } ∧ BoxA V (w.heap.size + 1) nothing ∧ Below w.heap.size w V)
        ⟨(HB.out.s17 1).s18 next, (heap_setCell_other _ ⟨w.heap.size, 18, none⟩ (w.heap.size + 1) _ (by show w.heap.size + 1 ≠ w.heap.size; omega)).trans ((heap_setCell_other _ ⟨w.heap.size, 17, none⟩ (w.heap.size + 1) _ (by show w.heap.size + 1 ≠ w.heap.size; omega)).trans HO.out),
          (HW.out.setCell (Nat.le_refl _) _).setCell (Nat.le_refl _) _⟩ ?_
      clear HB HO HW c18 c17 f17 f18
      rintro V4 ⟨hbx, ho, hl⟩
      have HO := Lib.hid ho
      have HW := Lib.hid hl
      clear ho hl
      go_wp2_with ((with_reducible refine wpList_load_obj ?_ rfl ?_ hbx ?_); rfl; rfl)
      refine (HC.out V4).mono ?_
      rintro e W4 ⟨rfl, hb2⟩
      obtain ⟨V6, hst, ho, -, hb⟩ := acting (HO.out.after hb2) (writeA { c with phase := 1, num := next })
      have HO6 := Lib.hid ho
      have HX := Lib.hid (hb _ _ (HW.out.trans (hb2.mono HW.out.size)) (by omega))
      clear HC HO HW ho hb hb2 hbx
      go_wp2_with (refine wpList_skip rfl (hst rfl rfl rfl) ?_)
      refine bodyPost_ret (v := encA (writeA { c with phase := 1, num := next })) (results_cell_row rfl _ _ (w.heap.size + 1) 36 (cellsA (writeA { c with phase := 1, num := next })) (0, 0) _ rfl HO6.out undAct rfl sizeAct) rfl ?_
      exact ⟨rfl, HX.out⟩
    · rw [if_neg h2] at hx
      have e2 : (c.phase == 2) = false := by simpa using h2
      obtain ⟨k, hk⟩ : ∃ k : Cl, (⟨2, h, c.num, 0, E0, E0, E0⟩ : Cl) = k := ⟨_, rfl⟩
      have HK := Lib.hid hk
      rw [hk] at hx
      subst hx
      clear hk h1 h2
      unfold encO
      go_enter Tryd.func23, Tryd.ntmps23
      go_upto_region 1 with (fail)
      refine wp_gen (fun V => BoxO V w.heap.size c ∧ BoxA V (w.heap.size + 1) nothing ∧ Below w.heap.size w V) (chain2 w _ _) ?_
      rintro V ⟨hbx, ho, hl⟩
      have HB := Lib.hid hbx
      have HO := Lib.hid ho
      have HW := Lib.hid hl
      have c18 := hbx.c18
      have c17 := hbx.c17
      clear ho hl hbx
      go_upto_region 6 with (fail)
      have HA := HB
      have HL := HW
      have HT0 := HT
      have HT := Lib.hid (HT0.out.after HW.out)
      have HO := Lib.hid (⟨_, HO.out⟩ : AnyA V (w.heap.size + 1))
      clear c17 c18 HB HW
      refine wp_region_held_drew (S := fun V => BoxO V w.heap.size c ∧ AnyA V (w.heap.size + 1) ∧ Below w.heap.size w V ∧ Tab V) (by kernel_rfl) ⟨HA.out, HO.out, HL.out.drew, HT.out.drew⟩ (fun _ => ?_)
      refine HeldBy.gen (fun V => BoxO V w.heap.size c ∧ AnyA V (w.heap.size + 1) ∧ Below w.heap.size w V ∧ Tab V) ⟨HA.out, HO.out, HL.out.drew, HT.out.drew⟩ ?_
      clear HA HO HL HT
      rintro U0 HS
      refine HeldBy.take (i := 0) (v := encO c) rfl (by kernel_rfl) (by kernel_rfl) (by kernel_rfl) (fun _ _ _ h => h) (by rfl) (fun V hV => load_obj hV.1 rfl rfl) (by first | (go_simp; rfl) | (go_simp; done)) HS ?_
      refine HeldBy.take (i := 2) rfl (by kernel_rfl) (by kernel_rfl) (by kernel_rfl) (fun _ _ _ h => h) (by rfl) (fun _ _ => by first | (go_simp; rfl) | (go_simp; done)) (by first | (go_simp; rfl) | (go_simp; done)) HS ?_
      refine HeldBy.take (i := 3) rfl (by kernel_rfl) (by kernel_rfl) (by kernel_rfl) (fun _ _ _ h => h) (by rfl) (fun V hV => by have hc := hV.1.c18; first | (go_simp; rfl) | (go_simp; done)) (by first | (go_simp; rfl) | (go_simp; done)) HS ?_
      refine HeldBy.call (i := 1) (v := .string h) rfl (by kernel_rfl) (by rfl) (by first | (go_simp; done) | (go_simp; first | exact ⟨rfl, rfl⟩ | rfl)) (by first | (go_simp; rfl) | (go_simp; done)) ?_
      refine (HH.out _ HS.2.2.2).mono ?_
      rintro e U1 ⟨rfl, hb⟩
      replace HS : BoxO U1 w.heap.size c ∧ AnyA U1 (w.heap.size + 1) ∧ Below w.heap.size w U1 ∧ Tab U1 := ⟨HS.1.after hb, HS.2.1.after hb, HS.2.2.1.trans (hb.mono HS.2.2.1.size), HS.2.2.2.after hb⟩
      refine ⟨rfl, HS, ?_⟩
      clear hb
      refine HeldBy.take (i := 4) (v := encC k) rfl (by kernel_rfl) (by kernel_rfl) (by kernel_rfl) (fun _ _ _ h => h) (by rfl) (fun _ _ => by have hk := HK.out; subst hk; exact exec_build 34 _ rfl _ (by exact built_erase h c.num)) (by first | (go_simp; rfl) | (go_simp; done)) HS ?_
      refine HeldBy.call (i := 5) (v := encA (askA k)) rfl (by kernel_rfl) (by rfl) (by first | (go_simp; done) | (go_simp; first | exact ⟨rfl, rfl⟩ | rfl)) (by first | (go_simp; rfl) | (go_simp; done)) ?_
      refine (ask_any k _).mono ?_
      rintro e U2 ⟨rfl, hb⟩
      replace HS : BoxO U2 w.heap.size c ∧ AnyA U2 (w.heap.size + 1) ∧ Below w.heap.size w U2 ∧ Tab U2 := ⟨HS.1.after hb, HS.2.1.after hb, HS.2.2.1.trans (hb.mono HS.2.2.1.size), HS.2.2.2.after hb⟩
      refine ⟨rfl, HS, ?_⟩
      clear hb
      obtain ⟨p0, hp0⟩ := HS.2.1
      obtain ⟨V6, hst, ho, hoth, hb⟩ := acting hp0 (askA k)
      have HS6 : BoxO V6 w.heap.size c ∧ AnyA V6 (w.heap.size + 1) ∧ Below w.heap.size w V6 ∧ Tab V6 := ⟨(hoth _ (by omega)).trans HS.1, ⟨_, ho⟩, hb _ _ HS.2.2.1 (by omega), HT0.out.after (hb _ _ HS.2.2.1 (by omega))⟩
      refine HeldBy.store (i := 6) (w' := V6) rfl (by kernel_rfl) (by rfl) (hst rfl rfl rfl) (by first | (go_simp; rfl) | (go_simp; done)) HS6 ?_
      refine wpAnyH_done (by kernel_rfl) ?_ _
      have HO6 := Lib.hid ho
      have HX := Lib.hid HS6.2.2.1
      clear hst ho hoth hb HS HS6 hp0 HT0
      go_wp2
      refine bodyPost_ret (v := encA (askA k)) (results_cell_row rfl _ _ (w.heap.size + 1) 36 (cellsA (askA k)) (0, 0) _ rfl HO6.out undAct rfl sizeAct) rfl ?_
      exact ⟨rfl, HX.out⟩
end Go.Proofs.YtfpdchabknoklaaDoor.O.B
