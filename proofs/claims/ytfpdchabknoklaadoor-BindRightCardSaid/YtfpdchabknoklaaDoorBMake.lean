/- A claim's volume is asked for. -/
import Derived.Test.YtfpdchabknoklaaDoorBBegin
import Derived.Test.YtfpdchabknoklaaDoorKSnap
import Derived.Test.YtfpdchabknoklaaDoorHeldChain
namespace Go.Proofs.YtfpdchabknoklaaDoor.O.B
open Go Go.RowKit Go.Shelf Go.Lib RangeMap KM
attribute [local go_sem] Oper.semAt_some

def makeN (l : List Obj) (c : Obj) : Ac :=
  if c.source = E0 then askA ⟨1, handleN c, c.num, c.size, c.zone, E0, E0⟩ else match getL l 7 c.source with
  | none => nothing
  | some s => askA ⟨1, handleN c, c.num, c.size, c.zone, E0, snapN s⟩
theorem built_create (h z : ByteArray) (n s : Int) : Tryd.prog.built 34 [(0, .int .u8 1), (1, .string h), (2, .int .u64 n), (3, .int .i64 s), (4, .string z)] = some (cellsC ⟨1, h, n, s, z, E0, E0⟩) := by kernel_rfl
theorem one_cellsC (a : Cl) : (cellsC a).all (·.oneCell') = true := by simp [cellsC, Value.oneCell']
theorem exec_store_call {W : World} {b : Nat} {o p : Cl} (h : BoxC W b p) {oi : Oper} {a : Act} {x y : Operand} (ho : oi.op = .store 34 x y) (hx : a.eval x = .pointer (some ⟨b, 0, none⟩)) (hy : a.eval y = encC o) :
    (execOp a.eval oi).run Tryd.prog W = .ok .skip (W.setRow b (cellsC o)) := by
  have h1 := run_storeVar_row (P := Tryd.prog) W b 34 34 (cellsC p) (cellsC o) h sizeCall rfl (one_cellsC o)
  unfold execOp
  have hy' : a.eval y = .agg (cellsC o) := hy
  simp [ho, hx, hy', Instr.storeAt, Instr.sureAddr, h1, Result.andThen]

theorem makes_c {oi : Oper} (ho : oi.op = .alloc 34) : HeldBy.Makes Tryd.prog oi (.cells (cellsC C0) 34 (0, 0)) := by
  intro a w
  unfold execOp
  simp only [ho]
  kernel_rfl

set_option maxRecDepth 100000 in
set_option maxHeartbeats 4000000 in
theorem create_any (l : List Obj) (v : Value) (c : Obj) (w : World) (hl : ObjsIn w v l) (ht : Tab w) (hb : 0 ≤ c.born ∧ c.born ≤ 18446744073709551615) (hn : c.name.size ≤ 140737488351232) (hall : ∀ s ∈ l, (0 ≤ s.born ∧ s.born ≤ 18446744073709551615) ∧ s.name.size ≤ 140737488351232) :
    Calls Tryd.prog 24 #[v, encO c] w fun e w' => e = .returned (encA (makeN l c)) ∧ Below w.heap.size w w' := by
  obtain ⟨o, cp, rfl, -, -⟩ := id hl
  have HLL := Lib.hid hl
  have HT := Lib.hid ht
  have HH := Lib.hid (fun V (hV : Tab V) => handle_any c V hV hb hn)
  have HG := Lib.hid (fun V (hV : ObjsIn V (.slice o l.length cp) l) => get_any l _ 7 c.source V hV)
  clear hl ht hb hn
  obtain ⟨h, hh⟩ : ∃ h, handleN c = h := ⟨_, rfl⟩
  obtain ⟨r, hr⟩ : ∃ r, getL l 7 c.source = r := ⟨_, rfl⟩
  obtain ⟨x, hx⟩ : ∃ x, makeN l c = x := ⟨_, rfl⟩
  rw [hx]
  unfold makeN at hx
  rw [hh, hr] at hx
  rw [hh] at HH
  rw [hr] at HG
  have HXX := Lib.hid hx
  have HBR : Hid (∀ s, r = some s → ∀ V, Tab V → Calls Tryd.prog 62 #[encO s] V fun e w' => e = .returned (.string (snapN s)) ∧ Below V.heap.size V w') := fun s hs => by
    have hm := hall s (List.mem_of_find?_eq_some (hr.trans hs))
    exact fun V hV => snap_any s V hV hm.1 hm.2
  clear hh hr hx hall
  obtain ⟨k, hk⟩ : ∃ k : Cl, (⟨1, h, c.num, c.size, c.zone, E0, E0⟩ : Cl) = k := ⟨_, rfl⟩
  have HK := Lib.hid hk
  clear hk
  unfold encO
  go_enter Tryd.func24, Tryd.ntmps24
  go_upto_region 1 with (fail)
  refine wp_gen (fun V => BoxO V w.heap.size c ∧ BoxA V (w.heap.size + 1) nothing ∧ Below w.heap.size w V) (chain2 w _ _) ?_
  rintro V ⟨hbx, ho, hl⟩
  have HT0 := HT
  have HA := Lib.hid hbx
  have HO := Lib.hid ho
  have HL := Lib.hid hl
  have HT := Lib.hid (HT0.out.after hl)
  clear ho hl hbx
  refine wp_region_held_drew (S := fun V => BoxO V w.heap.size c ∧ BoxA V (w.heap.size + 1) nothing ∧ Below w.heap.size w V ∧ Tab V) (by kernel_rfl) ⟨HA.out, HO.out, HL.out.drew, HT.out.drew⟩ (fun _ => ?_)
  refine HeldBy.gen (fun V => BoxO V w.heap.size c ∧ BoxA V (w.heap.size + 1) nothing ∧ Below w.heap.size w V ∧ Tab V) ⟨HA.out, HO.out, HL.out.drew, HT.out.drew⟩ ?_
  clear HA HO HL HT
  rintro U0 HS
  refine HeldBy.take (i := 0) (v := encO c) rfl (by kernel_rfl) (by kernel_rfl) (by kernel_rfl) (fun _ _ _ h => h) (by rfl) (fun V hV => load_obj hV.1 rfl rfl) (by go_simp; rfl) HS ?_
  refine HeldBy.take (i := 2) rfl (by kernel_rfl) (by kernel_rfl) (by kernel_rfl) (fun _ _ _ h => h) (by rfl) (fun _ _ => by first | (go_simp; rfl) | (go_simp; done)) (by go_simp; rfl) HS ?_
  refine HeldBy.take (i := 3) rfl (by kernel_rfl) (by kernel_rfl) (by kernel_rfl) (fun _ _ _ h => h) (by rfl) (fun V hV => by have hc := hV.1.c18; first | (go_simp; rfl) | (go_simp; done)) (by go_simp; rfl) HS ?_
  refine HeldBy.take (i := 4) rfl (by kernel_rfl) (by kernel_rfl) (by kernel_rfl) (fun _ _ _ h => h) (by rfl) (fun _ _ => by first | (go_simp; rfl) | (go_simp; done)) (by go_simp; rfl) HS ?_
  refine HeldBy.take (i := 5) rfl (by kernel_rfl) (by kernel_rfl) (by kernel_rfl) (fun _ _ _ h => h) (by rfl) (fun V hV => by have hc := hV.1.c7; first | (go_simp; rfl) | (go_simp; done)) (by go_simp; rfl) HS ?_
  refine HeldBy.take (i := 6) rfl (by kernel_rfl) (by kernel_rfl) (by kernel_rfl) (fun _ _ _ h => h) (by rfl) (fun _ _ => by first | (go_simp; rfl) | (go_simp; done)) (by go_simp; rfl) HS ?_
  refine HeldBy.take (i := 7) rfl (by kernel_rfl) (by kernel_rfl) (by kernel_rfl) (fun _ _ _ h => h) (by rfl) (fun V hV => by have hc := hV.1.c12; first | (go_simp; rfl) | (go_simp; done)) (by go_simp; rfl) HS ?_
  have HSS : ∀ w', Below U0.heap.size U0 w' → (BoxO w' w.heap.size c ∧ BoxA w' (w.heap.size + 1) nothing ∧ Below w.heap.size w w' ∧ Tab w') := fun w' hb => ⟨HS.1.after hb, HS.2.1.after hb, HS.2.2.1.trans (hb.mono HS.2.2.1.size), HS.2.2.2.after hb⟩
  refine HeldBy.Goes.without (w0 := U0) (k := 9) (dk := some 5) (x := .cells (cellsC C0) 34 (0, 0)) ?_ U0 (Below.refl _ _)
  refine HeldBy.Goes.callS (i := 1) (v := .string h) rfl rfl rfl rfl (makes_c rfl) rfl (by kernel_rfl) (by kernel_rfl) rfl (by decide) (by kernel_rfl) (by intro w; first | (go_simp; done) | (go_simp; first | exact ⟨rfl, rfl⟩ | rfl)) (by first | (go_simp; rfl) | (go_simp; done)) HSS (fun _ HS => HH.out _ HS.2.2.2) ?_
  refine HeldBy.Goes.take (i := 8) (v := encC k) rfl (by kernel_rfl) rfl (by kernel_rfl) (by kernel_rfl) (by kernel_rfl) (by kernel_rfl) (fun _ _ _ h => h) rfl (by decide) (by kernel_rfl) (fun _ _ => by have hk := HK.out; subst hk; exact exec_build 34 _ rfl _ (by exact built_create h c.zone c.num c.size)) (by first | (go_simp; rfl) | (go_simp; done)) HSS ?_
  refine HeldBy.Goes.nil rfl rfl (by kernel_rfl) rfl (makes_c rfl) HSS rfl (fun p => by unfold HeldBy.ptr; go_simp; rfl) ?_
  intro p U1 hp hb hn
  have hlt := HS.2.1.lt
  have hS := HSS U1 hb
  obtain ⟨V3, hV3⟩ : ∃ V3, U1.setRow p (cellsC k) = V3 := ⟨_, rfl⟩
  have hc3 : BoxC V3 p k := by rw [← hV3]; exact setRow_heap U1 p _ _ _ _ hn
  have ha3 : BoxO V3 w.heap.size c := by rw [← hV3]; exact hS.1.row (by omega) _
  have ho3 : BoxA V3 (w.heap.size + 1) nothing := by rw [← hV3]; exact (setRow_other U1 p _ _ (by omega)).trans hS.2.1
  have hl3 : Below w.heap.size w V3 := by rw [← hV3]; exact below_setRow hS.2.2.1 (by omega) _
  refine HeldBy.store (i := 10) (w' := V3) rfl (by kernel_rfl) (by rfl) (by rw [← hV3]; exact exec_store_call hn rfl rfl rfl) (by first | (go_simp; rfl) | (go_simp; done)) ⟨ha3, ho3, hl3, HT0.out.after hl3⟩ ?_
  refine wpAnyH_done (by kernel_rfl) ?_ _
  have HP : Hid (w.heap.size + 2 ≤ p) := by show _ ≤ _; omega
  have HC3 := Lib.hid hc3
  have HA3 := Lib.hid ha3
  have HO3 := Lib.hid ho3
  have HL3 := Lib.hid hl3
  have c16 := ha3.c16
  clear hV3 hlt hS HSS HS hp hb hn hc3 ha3 ho3 hl3
  by_cases hs : c.source = E0
  · have HVV : Hid (x = askA k) := by show _ = _; rw [← HXX.out, if_pos hs, HK.out]
    have hn' : c.source.toList = [] := (emp_iff _).2 hs
    have hn2 : (c.source.toList == []) = true := by simp [hn']
    have hn3 : c.source.toList.isEmpty = true := by simp [hn']
    clear hs HXX HBR HH HG HK
    have HC := Lib.hid (ask_any (k))
    have hcc := HC3.out
    go_wp2_with (refine wpList_got rfl (load_call hcc rfl rfl) ?_)
    refine (HC.out _).mono ?_
    rintro e W7 ⟨rfl, hb7⟩
    obtain ⟨V8, hst8, ho, -, hb⟩ := acting (HO3.out.after hb7) (askA (k))
    have HO8 := Lib.hid ho
    have HX8 := Lib.hid (hb _ _ (HL3.out.trans (hb7.mono HL3.out.size)) (by omega))
    clear ho hb HC hcc hb7
    go_wp2_with (refine wpList_skip rfl (hst8 rfl rfl rfl) ?_)
    refine bodyPost_ret (v := encA (askA (k))) (results_cell_row rfl _ _ (w.heap.size + 1) 36 (cellsA (askA (k))) (0, 0) _ rfl HO8.out undAct rfl sizeAct) rfl ?_
    exact ⟨by rw [HVV.out], HX8.out⟩
  · have hxx := HXX.out.symm.trans (if_neg hs)
    have hn' : c.source.toList ≠ [] := fun e => hs ((emp_iff _).1 e)
    have hn2 : (c.source.toList == []) = false := by simpa using hn'
    have hn3 : c.source.toList.isEmpty = false := by simpa using hn'
    have HXX := Lib.hid hxx
    have HC := Lib.hid (HG.out V3 (HLL.out.after HL3.out))
    clear hs hxx HH HG HLL
    go_wp2_with (fail)
    refine HC.out.mono ?_
    rintro e W4 ⟨rfl, hb4⟩
    obtain ⟨V4, hst, hk4, hb5, -⟩ := boxing W4 (r.getD O0)
    have hw4 := HL3.out.trans (hb4.mono HL3.out.size)
    have HO4 := Lib.hid ((HO3.out.after hb4).after hb5)
    have HW4 := Lib.hid (hw4.trans (hb5.mono hw4.size))
    have hc4 : BoxC V4 p k := (hb5.block _ (Nat.lt_of_lt_of_le (Array.getElem?_eq_some_iff.1 HC3.out).1 hb4.size)).trans ((hb4.block _ (Array.getElem?_eq_some_iff.1 HC3.out).1).trans HC3.out)
    have HC4 := Lib.hid hc4
    clear HC hb4 hb5 hw4 hc4 HC3 HO3 HL3 HA3 c16
    cases r with
    | none =>
      have HVV : Hid (x = nothing) := HXX.out
      obtain ⟨V8, hst8, ho, -, hb⟩ := acting HO4.out nothing
      have HO8 := Lib.hid ho
      have HX8 := Lib.hid (hb _ _ HW4.out (by omega))
      clear ho hb hk4 HXX HBR HK
      go_wp2_with (first | (refine wpList_skip rfl (hst rfl rfl rfl) ?_) | (refine wpList_skip rfl (hst8 rfl rfl rfl) ?_))
      refine bodyPost_ret (v := encA nothing) (results_cell_row rfl _ _ (w.heap.size + 1) 36 (cellsA nothing) (0, 0) _ rfl HO8.out undAct rfl sizeAct) rfl ?_
      exact ⟨by rw [HVV.out], HX8.out⟩
    | some s =>
      have HVV : Hid (x = askA { k with source := snapN s }) := by show _ = _; rw [HXX.out, ← HK.out]
      have hbr := HBR.out s rfl
      have HC := Lib.hid (hbr V4 (HT0.out.after HW4.out))
      have hbx : BoxO V4 W4.heap.size s := hk4
      clear hk4 hbr HXX HBR HK
      go_wp2_with (first | (refine wpList_skip rfl (hst rfl rfl rfl) ?_) | ((with_reducible refine wpList_load_obj ?_ rfl ?_ hbx ?_); rfl; rfl))
      refine HC.out.mono ?_
      rintro e W6 ⟨rfl, hb6⟩
      have hc6 : BoxC W6 p k := (hb6.block _ (Array.getElem?_eq_some_iff.1 HC4.out).1).trans HC4.out
      have HO6 := Lib.hid (HO4.out.after hb6)
      have HW6 := Lib.hid (HW4.out.trans (hb6.mono HW4.out.size))
      have HC6 := Lib.hid hc6
      have c6 : W6.cell? ⟨p, 6, none⟩ = some (.string k.source) := (cell_of_row W6 p 6 _ _ _ hc6).trans rfl
      have f6 : W6.frozen? ⟨p, 6, none⟩ = false := frozen_of_row W6 p 6 _ _ hc6
      clear HC hb6 hc6 HC4 HO4 HW4 hst hbx
      go_upto_region 7 with (fail)
      refine wp_gen (fun V => BoxC V p { k with source := snapN s } ∧ BoxA V (w.heap.size + 1) nothing ∧ Below w.heap.size w V)
        ⟨(heap_setCell_same W6 p 6 (cellsC k) 34 _ HC6.out).trans rfl, (heap_setCell_other _ ⟨p, 6, none⟩ (w.heap.size + 1) _ (by have := HP.out; show w.heap.size + 1 ≠ p; omega)).trans HO6.out, HW6.out.setCell (by have := HP.out; show w.heap.size ≤ p; omega) _⟩ ?_
      clear HO6 HW6 HC6 c6 f6
      rintro V7 ⟨hc7, ho7, hl7⟩
      have HC7 := Lib.hid hc7
      have HO7 := Lib.hid ho7
      have HL7 := Lib.hid hl7
      clear hc7 ho7 hl7
      have HC := Lib.hid (ask_any ({ k with source := snapN s }))
      have hcc := HC7.out
      go_wp2_with (refine wpList_got rfl (load_call hcc rfl rfl) ?_)
      refine (HC.out _).mono ?_
      rintro e W7 ⟨rfl, hb7⟩
      obtain ⟨V8, hst8, ho, -, hb⟩ := acting (HO7.out.after hb7) (askA ({ k with source := snapN s }))
      have HO8 := Lib.hid ho
      have HX8 := Lib.hid (hb _ _ (HL7.out.trans (hb7.mono HL7.out.size)) (by omega))
      clear ho hb HC hcc hb7
      go_wp2_with (refine wpList_skip rfl (hst8 rfl rfl rfl) ?_)
      refine bodyPost_ret (v := encA (askA ({ k with source := snapN s }))) (results_cell_row rfl _ _ (w.heap.size + 1) 36 (cellsA (askA ({ k with source := snapN s }))) (0, 0) _ rfl HO8.out undAct rfl sizeAct) rfl ?_
      exact ⟨by rw [HVV.out], HX8.out⟩
end Go.Proofs.YtfpdchabknoklaaDoor.O.B
