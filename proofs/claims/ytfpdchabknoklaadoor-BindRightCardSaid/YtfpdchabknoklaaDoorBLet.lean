/- When a bound claim is taken away. -/
import Derived.Test.YtfpdchabknoklaaDoorBVol
namespace Go.Proofs.YtfpdchabknoklaaDoor.O.B
open Go Go.RowKit Go.Shelf Go.Lib RangeMap KM
attribute [local go_sem] Oper.semAt_some

set_option maxRecDepth 100000 in
set_option maxHeartbeats 2000000 in
theorem pods_any (o c : Obj) (b : Nat) (W : World) (hb : BoxO W b c) :
    Calls Tryd.prog 59 #[encO o, .pointer (some ⟨b, 0, none⟩)] W fun e W' => e = .returned (.bool (decide (o.claim = c.name))) ∧ Below W.heap.size W W' := by
  have HB := Lib.hid hb
  clear hb
  unfold encO
  go_enter Tryd.func59, Tryd.ntmps59
  go_upto_region 1 with (fail)
  refine wp_gen (fun V => BoxO V W.heap.size o ∧ Below W.heap.size W V ∧ BoxO V b c) ⟨BoxO.new W o, (Below.refl _ _).alloc (Nat.le_refl _) _, HB.out.alloc _⟩ ?_
  clear HB
  rintro V ⟨hbx, hl, hn⟩
  have c1 := hbx.c14
  have c2 := hn.c1
  have HL := Lib.hid hl
  clear hbx hl hn
  go_wp2
  go_ret
  refine ⟨?_, HL.out⟩
  show Ending.returned (.bool (o.claim.toList == c.name.toList)) = _
  rw [eqB]
theorem pods_enters : ∀ args w, (callFunc 59 args).run Tryd.prog w = .ok (.enter 59 args) w :=
  enters_of (P := Tryd.prog) Tryd.func59 (by kernel_rfl) rfl
set_option maxRecDepth 100000 in
set_option maxHeartbeats 2000000 in
theorem ats_any (o c : Obj) (b : Nat) (W : World) (hb : BoxO W b c) :
    Calls Tryd.prog 60 #[encO o, .pointer (some ⟨b, 0, none⟩)] W fun e W' => e = .returned (.bool (decide (o.volume = c.volume))) ∧ Below W.heap.size W W' := by
  have HB := Lib.hid hb
  clear hb
  unfold encO
  go_enter Tryd.func60, Tryd.ntmps60
  go_upto_region 1 with (fail)
  refine wp_gen (fun V => BoxO V W.heap.size o ∧ Below W.heap.size W V ∧ BoxO V b c) ⟨BoxO.new W o, (Below.refl _ _).alloc (Nat.le_refl _) _, HB.out.alloc _⟩ ?_
  clear HB
  rintro V ⟨hbx, hl, hn⟩
  have c1 := hbx.c15
  have c2 := hn.c15
  have HL := Lib.hid hl
  clear hbx hl hn
  go_wp2
  go_ret
  refine ⟨?_, HL.out⟩
  show Ending.returned (.bool (o.volume.toList == c.volume.toList)) = _
  rw [eqB]
theorem ats_enters : ∀ args w, (callFunc 60 args).run Tryd.prog w = .ok (.enter 60 args) w :=
  enters_of (P := Tryd.prog) Tryd.func60 (by kernel_rfl) rfl

def wantedN (l : List Obj) (c : Obj) : Bool := ((thereL 6 l).find? fun o => decide (o.claim = c.name)).isSome
def atNodeN (l : List Obj) (c : Obj) : Bool := ((thereL 5 l).find? fun o => decide (o.volume = c.volume)).isSome
def letN (l : List Obj) (c : Obj) : Ac := if !c.deleting || (wantedN l c || atNodeN l c) then nothing else removeA c

set_option maxRecDepth 100000 in
set_option maxHeartbeats 2000000 in
theorem letGo_any (l : List Obj) (v : Value) (c : Obj) (w : World) (hl : ObjsIn w v l) :
    Calls Tryd.prog 20 #[v, encO c] w fun e w' => e = .returned (encA (letN l c)) ∧ Below w.heap.size w w' := by
  obtain ⟨o, cp, rfl, -, -⟩ := id hl
  have HL := Lib.hid hl
  clear hl
  obtain ⟨x, hx⟩ : ∃ x, letN l c = x := ⟨_, rfl⟩
  rw [hx]
  unfold letN at hx
  obtain ⟨p1, hp1⟩ : ∃ p, wantedN l c = p := ⟨_, rfl⟩
  obtain ⟨p2, hp2⟩ : ∃ p, atNodeN l c = p := ⟨_, rfl⟩
  have H1 : Hid (∀ (V : World) (b : Nat), ObjsIn V (.slice o l.length cp) l → BoxO V b c → Calls Tryd.prog 58 #[.slice o l.length cp, .int .u8 6, .func (.func 59) #[] #[.pointer (some ⟨b, 0, none⟩)]] V fun e w' => e = .returned (.bool p1) ∧ Below V.heap.size V w') := fun V b hV hb => by
    rw [← hp1]
    exact has_any l _ 6 _ _ _ V hV ⟨pods_enters, fun x _ W hW => pods_any x c b W (hb.after hW)⟩
  have H2 : Hid (∀ (V : World) (b : Nat), ObjsIn V (.slice o l.length cp) l → BoxO V b c → Calls Tryd.prog 58 #[.slice o l.length cp, .int .u8 5, .func (.func 60) #[] #[.pointer (some ⟨b, 0, none⟩)]] V fun e w' => e = .returned (.bool p2) ∧ Below V.heap.size V w') := fun V b hV hb => by
    rw [← hp2]
    exact has_any l _ 5 _ _ _ V hV ⟨ats_enters, fun x _ W hW => ats_any x c b W (hb.after hW)⟩
  rw [hp1, hp2] at hx
  have HVV := Lib.hid hx
  clear hp1 hp2 hx
  unfold encO
  go_enter Tryd.func20, Tryd.ntmps20
  go_upto_region 1 with (fail)
  refine wp_gen (fun V => BoxO V w.heap.size c ∧ BoxA V (w.heap.size + 1) nothing ∧ Below w.heap.size w V) (chain2 w _ _) ?_
  rintro V ⟨h1, h2, hlw⟩
  have HC := Lib.hid (H1.out V _ (HL.out.after hlw) h1)
  have HB := Lib.hid h1
  have HO := Lib.hid h2
  have HW := Lib.hid hlw
  clear h1 h2 hlw H1
  go_wp2_with (fail)
  refine HC.out.mono ?_
  rintro e W2 ⟨rfl, hb2⟩
  have hw2 := HW.out.trans (hb2.mono HW.out.size)
  have HC2 := Lib.hid (H2.out W2 _ (HL.out.after hw2) (HB.out.after hb2))
  replace HB := Lib.hid (HB.out.after hb2)
  replace HO := Lib.hid (HO.out.after hb2)
  replace HW := Lib.hid hw2
  clear HC hb2 hw2 H2 HL
  go_wp2_with (fail)
  refine HC2.out.mono ?_
  rintro e W3 ⟨rfl, hb2⟩
  have hw2 := HW.out.trans (hb2.mono HW.out.size)
  replace HB := Lib.hid (HB.out.after hb2)
  replace HO := Lib.hid (HO.out.after hb2)
  replace HW := Lib.hid hw2
  have c4 := HB.out.c4
  clear HC2 hb2 hw2
  cases hd : c.deleting with
  | false =>
    rw [hd] at c4
    have HV : Hid (x = nothing) := by show _ = _; rw [← HVV.out]; simp [hd]
    clear HVV HB
    obtain ⟨V6, hst, ho, -, hb⟩ := acting HO.out nothing
    have HO6 := Lib.hid ho
    have HX := Lib.hid (hb _ _ HW.out (by omega))
    clear HO HW ho hb
    go_wp2_with (refine wpList_skip rfl (hst rfl rfl rfl) ?_)
    refine bodyPost_ret (v := encA nothing) (results_cell_row rfl _ _ (w.heap.size + 1) 36 (cellsA nothing) (0, 0) _ rfl HO6.out undAct rfl sizeAct) rfl ?_
    exact ⟨by rw [HV.out], HX.out⟩
  | true =>
    rw [hd] at c4
    cases p1 with
    | true =>
      have HV : Hid (x = nothing) := by show _ = _; rw [← HVV.out]; simp
      clear HVV HB
      obtain ⟨V6, hst, ho, -, hb⟩ := acting HO.out nothing
      have HO6 := Lib.hid ho
      have HX := Lib.hid (hb _ _ HW.out (by omega))
      clear HO HW ho hb
      go_wp2_with (refine wpList_skip rfl (hst rfl rfl rfl) ?_)
      refine bodyPost_ret (v := encA nothing) (results_cell_row rfl _ _ (w.heap.size + 1) 36 (cellsA nothing) (0, 0) _ rfl HO6.out undAct rfl sizeAct) rfl ?_
      exact ⟨by rw [HV.out], HX.out⟩
    | false =>
      cases p2 with
      | true =>
        have HV : Hid (x = nothing) := by show _ = _; rw [← HVV.out]; simp
        clear HVV HB
        obtain ⟨V6, hst, ho, -, hb⟩ := acting HO.out nothing
        have HO6 := Lib.hid ho
        have HX := Lib.hid (hb _ _ HW.out (by omega))
        clear HO HW ho hb
        go_wp2_with (refine wpList_skip rfl (hst rfl rfl rfl) ?_)
        refine bodyPost_ret (v := encA nothing) (results_cell_row rfl _ _ (w.heap.size + 1) 36 (cellsA nothing) (0, 0) _ rfl HO6.out undAct rfl sizeAct) rfl ?_
        exact ⟨by rw [HV.out], HX.out⟩
      | false =>
        have HV : Hid (x = removeA c) := by show _ = _; rw [← HVV.out]; simp [hd]
        have HC := Lib.hid (remove_any c W3)
        have hbx := HB.out
        clear HVV HB
        go_wp2_with ((with_reducible refine wpList_load_obj ?_ rfl ?_ hbx ?_); rfl; rfl)
        refine HC.out.mono ?_
        rintro e W4 ⟨rfl, hb2⟩
        obtain ⟨V6, hst, ho, -, hb⟩ := acting (HO.out.after hb2) (removeA c)
        have HO6 := Lib.hid ho
        have HX := Lib.hid (hb _ _ (HW.out.trans (hb2.mono HW.out.size)) (by omega))
        clear HC HO HW ho hb hb2 hbx
        go_wp2_with (refine wpList_skip rfl (hst rfl rfl rfl) ?_)
        refine bodyPost_ret (v := encA (removeA c)) (results_cell_row rfl _ _ (w.heap.size + 1) 36 (cellsA (removeA c)) (0, 0) _ rfl HO6.out undAct rfl sizeAct) rfl ?_
        exact ⟨by rw [HV.out], HX.out⟩
end Go.Proofs.YtfpdchabknoklaaDoor.O.B
