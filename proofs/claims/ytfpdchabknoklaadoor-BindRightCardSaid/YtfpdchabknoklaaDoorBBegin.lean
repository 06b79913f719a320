/- A claim that waits takes a volume of nobody, or has one made. -/
import Derived.Test.YtfpdchabknoklaaDoorBOff
namespace Go.Proofs.YtfpdchabknoklaaDoor.O.B
open Go Go.RowKit Go.Shelf Go.Lib RangeMap KM
attribute [local go_sem] Oper.semAt_some

def beginN (l : List Obj) (c : Obj) (next : Int) : Ac := match bestN l c with
  | some v => writeA { v with phase := 3, claim := refN c }
  | none => if zoneN l c = E0 then nothing else if readyN l c then writeA { c with phase := 2, zone := zoneN l c, num := next } else nothing

set_option maxRecDepth 100000 in
set_option maxHeartbeats 4000000 in
theorem begin_any (l : List Obj) (v : Value) (c : Obj) (next : Int) (w : World) (hl : ObjsIn w v l) (ht : Tab w) (hb : 0 ≤ c.born ∧ c.born ≤ 18446744073709551615) (hn : c.name.size ≤ 140737488351232) :
    Calls Tryd.prog 25 #[v, encO c, .int .u64 next] w fun e w' => e = .returned (encA (beginN l c next)) ∧ Below w.heap.size w w' := by
  obtain ⟨o, cp, rfl, -, -⟩ := id hl
  have HL := Lib.hid hl
  have HT := Lib.hid ht
  have HRF := Lib.hid (fun V (hV : Tab V) => ref_any c V hV hb hn)
  have HBS := Lib.hid (fun V (hV : ObjsIn V (.slice o l.length cp) l) => best_any l _ c V hV)
  have HZF := Lib.hid (fun V (hV : ObjsIn V (.slice o l.length cp) l) => zoneFor_any l _ c V hV)
  have HRD := Lib.hid (fun V (hV : ObjsIn V (.slice o l.length cp) l) => ready_any l _ c V hV)
  clear hl ht hb hn
  obtain ⟨n, hn⟩ : ∃ n, refN c = n := ⟨_, rfl⟩
  obtain ⟨r, hr⟩ : ∃ r, bestN l c = r := ⟨_, rfl⟩
  obtain ⟨z, hz⟩ : ∃ z, zoneN l c = z := ⟨_, rfl⟩
  obtain ⟨b, hbb⟩ : ∃ b, readyN l c = b := ⟨_, rfl⟩
  obtain ⟨x, hx⟩ : ∃ x, beginN l c next = x := ⟨_, rfl⟩
  rw [hx]
  unfold beginN at hx
  rw [hn, hr, hz, hbb] at hx
  have HXX := Lib.hid hx
  clear hx
  rw [hn] at HRF
  rw [hr] at HBS
  rw [hz] at HZF
  rw [hbb] at HRD
  clear hn hr hz hbb
  unfold encO
  go_enter Tryd.func25, Tryd.ntmps25
  go_upto_region 1 with (fail)
  refine wp_gen (fun V => BoxO V w.heap.size c ∧ BoxA V (w.heap.size + 1) nothing ∧ Below w.heap.size w V) (chain2 w _ _) ?_
  rintro V ⟨hbx, ho, hl⟩
  have HB := Lib.hid hbx
  have HO := Lib.hid ho
  have HW := Lib.hid hl
  have HC := Lib.hid (HBS.out V (HL.out.after hl))
  clear ho hl HBS
  go_wp2_with ((with_reducible refine wpList_load_obj ?_ rfl ?_ hbx ?_); rfl; rfl)
  refine HC.out.mono ?_
  rintro e W2 ⟨rfl, hb2⟩
  obtain ⟨V2, hst, hk, hb, -⟩ := boxing W2 (r.getD O0)
  have hsz : w.heap.size + 2 ≤ W2.heap.size := Nat.le_trans (show w.heap.size + 1 + 1 ≤ V.heap.size from HO.out.lt) hb2.size
  have HSZ := Lib.hid hsz
  have hw2 := HW.out.trans (hb2.mono HW.out.size)
  replace HB := Lib.hid ((HB.out.after hb2).after hb)
  replace HO := Lib.hid ((HO.out.after hb2).after hb)
  replace HW := Lib.hid (hw2.trans (hb.mono hw2.size))
  clear HC hb2 hb hw2 hbx hsz
  cases r with
  | some v =>
    replace hk : BoxO V2 W2.heap.size v := hk
    have HVV : Hid (x = writeA { v with phase := 3, claim := n }) := HXX.out.symm
    clear HXX
    have HC := Lib.hid (HRF.out V2 (HT.out.after HW.out))
    have HV := Lib.hid hk
    have hbx := HB.out
    clear hk HRF HT HZF HRD HL HB
    go_wp2_with (first | (refine wpList_skip rfl (hst rfl rfl rfl) ?_) | ((with_reducible refine wpList_load_obj ?_ rfl ?_ hbx ?_); rfl; rfl))
    refine HC.out.mono ?_
    rintro e W4 ⟨rfl, hb4⟩
    have hv := HV.out.after hb4
    have HV4 := Lib.hid hv
    have HO4 := Lib.hid (HO.out.after hb4)
    have HW4 := Lib.hid (HW.out.trans (hb4.mono HW.out.size))
    have c17 := hv.c17
    have f17 := hv.free 17
    have c14 := hv.c14
    have f14 := hv.free 14
    clear HC HV HO HW hb4 hv hst hbx
    go_upto_region 4 with (fail)
    refine wp_gen (fun V => BoxO V W2.heap.size { v with phase := 3, claim := n } ∧ BoxA V (w.heap.size + 1) nothing ∧ Below w.heap.size w V)
      ⟨(HV4.out.s17 3).s14 n, (heap_setCell_other _ ⟨W2.heap.size, 14, none⟩ (w.heap.size + 1) _ (by have := HSZ.out; show w.heap.size + 1 ≠ W2.heap.size; omega)).trans ((heap_setCell_other _ ⟨W2.heap.size, 17, none⟩ (w.heap.size + 1) _ (by have := HSZ.out; show w.heap.size + 1 ≠ W2.heap.size; omega)).trans HO4.out),
        (HW4.out.setCell (by have := HSZ.out; show w.heap.size ≤ W2.heap.size; omega) _).setCell (by have := HSZ.out; show w.heap.size ≤ W2.heap.size; omega) _⟩ ?_
    clear HV4 HO4 HW4 c17 f17 c14 f14
    rintro V4 ⟨hbx, ho, hl⟩
    have HC := Lib.hid (write_any { v with phase := 3, claim := n } V4)
    have HO := Lib.hid ho
    have HW := Lib.hid hl
    clear ho hl
    go_wp2_with ((with_reducible refine wpList_load_obj ?_ rfl ?_ hbx ?_); rfl; rfl)
    refine HC.out.mono ?_
    rintro e W6 ⟨rfl, hb6⟩
    obtain ⟨V8, hst8, ho, -, hb⟩ := acting (HO.out.after hb6) (writeA { v with phase := 3, claim := n })
    have HO8 := Lib.hid ho
    have HX8 := Lib.hid (hb _ _ (HW.out.trans (hb6.mono HW.out.size)) (by omega))
    clear ho hb
    clear HC HO HW hb6 hbx
    go_wp2_with (refine wpList_skip rfl (hst8 rfl rfl rfl) ?_)
    refine bodyPost_ret (v := encA (writeA { v with phase := 3, claim := n })) (results_cell_row rfl _ _ (w.heap.size + 1) 36 (cellsA (writeA { v with phase := 3, claim := n })) (0, 0) _ rfl HO8.out undAct rfl sizeAct) rfl ?_
    exact ⟨by rw [HVV.out], HX8.out⟩
  | none =>
    have HC := Lib.hid (HZF.out V2 (HL.out.after HW.out))
    have hbx := HB.out
    clear hk HRF HZF
    go_wp2_with (first | (refine wpList_skip rfl (hst rfl rfl rfl) ?_) | ((with_reducible refine wpList_load_obj ?_ rfl ?_ hbx ?_); rfl; rfl))
    refine HC.out.mono ?_
    rintro e W4 ⟨rfl, hb4⟩
    have hw4 := HW.out.trans (hb4.mono HW.out.size)
    replace HB := Lib.hid (HB.out.after hb4)
    replace HO := Lib.hid (HO.out.after hb4)
    replace HW := Lib.hid hw4
    clear HC hst hbx hb4 hw4
    by_cases hz : z = E0
    · have HVV : Hid (x = nothing) := HXX.out.symm.trans (if_pos hz)
      clear HXX
      have hn' : z.toList = [] := (emp_iff _).2 hz
      have hn2 : (z.toList == []) = true := by simp [hn']
      have hn3 : z.toList.isEmpty = true := by simp [hn']
      clear hz
      obtain ⟨V8, hst8, ho, -, hb⟩ := acting (HO.out) (nothing)
      have HO8 := Lib.hid ho
      have HX8 := Lib.hid (hb _ _ (HW.out) (by omega))
      clear ho hb
      clear HO HW HB
      go_wp2_with (refine wpList_skip rfl (hst8 rfl rfl rfl) ?_)
      refine bodyPost_ret (v := encA (nothing)) (results_cell_row rfl _ _ (w.heap.size + 1) 36 (cellsA (nothing)) (0, 0) _ rfl HO8.out undAct rfl sizeAct) rfl ?_
      exact ⟨by rw [HVV.out], HX8.out⟩
    · have hxx := HXX.out.symm.trans (if_neg hz)
      clear HXX
      have HXX := Lib.hid hxx
      clear hxx
      have hn' : z.toList ≠ [] := fun e => hz ((emp_iff _).1 e)
      have hn2 : (z.toList == []) = false := by simpa using hn'
      have hn3 : z.toList.isEmpty = false := by simpa using hn'
      have HC := Lib.hid (HRD.out W4 (HL.out.after HW.out))
      have hbx := HB.out
      clear hz HRD HL HT
      go_wp2_with ((with_reducible refine wpList_load_obj ?_ rfl ?_ hbx ?_); rfl; rfl)
      refine HC.out.mono ?_
      rintro e W5 ⟨rfl, hb5⟩
      have hw5 := HW.out.trans (hb5.mono HW.out.size)
      replace HB := Lib.hid (HB.out.after hb5)
      replace HO := Lib.hid (HO.out.after hb5)
      replace HW := Lib.hid hw5
      clear HC hbx hb5 hw5
      cases b with
      | false =>
        have HVV : Hid (x = nothing) := HXX.out
        clear HXX
        obtain ⟨V8, hst8, ho, -, hb⟩ := acting (HO.out) (nothing)
        have HO8 := Lib.hid ho
        have HX8 := Lib.hid (hb _ _ (HW.out) (by omega))
        clear ho hb
        clear HO HW HB
        go_wp2_with (refine wpList_skip rfl (hst8 rfl rfl rfl) ?_)
        refine bodyPost_ret (v := encA (nothing)) (results_cell_row rfl _ _ (w.heap.size + 1) 36 (cellsA (nothing)) (0, 0) _ rfl HO8.out undAct rfl sizeAct) rfl ?_
        exact ⟨by rw [HVV.out], HX8.out⟩
      | true =>
        have HVV : Hid (x = writeA { c with phase := 2, zone := z, num := next }) := HXX.out
        clear HXX
        have hv := HB.out
        have c17 := hv.c17
        have f17 := hv.free 17
        have c12 := hv.c12
        have f12 := hv.free 12
        have c18 := hv.c18
        have f18 := hv.free 18
        clear hv
        go_upto_region 9 with (fail)
        refine wp_gen (fun V => BoxO V w.heap.size { c with phase := 2, zone := z, num := next } ∧ BoxA V (w.heap.size + 1) nothing ∧ Below w.heap.size w V)
          ⟨((HB.out.s17 2).s12 z).s18 next, (heap_setCell_other _ ⟨w.heap.size, 18, none⟩ (w.heap.size + 1) _ (by show w.heap.size + 1 ≠ w.heap.size; omega)).trans ((heap_setCell_other _ ⟨w.heap.size, 12, none⟩ (w.heap.size + 1) _ (by show w.heap.size + 1 ≠ w.heap.size; omega)).trans ((heap_setCell_other _ ⟨w.heap.size, 17, none⟩ (w.heap.size + 1) _ (by show w.heap.size + 1 ≠ w.heap.size; omega)).trans HO.out)),
            ((HW.out.setCell (Nat.le_refl _) _).setCell (Nat.le_refl _) _).setCell (Nat.le_refl _) _⟩ ?_
        clear HB HO HW c17 f17 c12 f12 c18 f18
        rintro V4 ⟨hbx, ho, hl⟩
        have HC := Lib.hid (write_any { c with phase := 2, zone := z, num := next } V4)
        have HO := Lib.hid ho
        have HW := Lib.hid hl
        clear ho hl
        go_wp2_with ((with_reducible refine wpList_load_obj ?_ rfl ?_ hbx ?_); rfl; rfl)
        refine HC.out.mono ?_
        rintro e W6 ⟨rfl, hb6⟩
        obtain ⟨V8, hst8, ho, -, hb⟩ := acting (HO.out.after hb6) (writeA { c with phase := 2, zone := z, num := next })
        have HO8 := Lib.hid ho
        have HX8 := Lib.hid (hb _ _ (HW.out.trans (hb6.mono HW.out.size)) (by omega))
        clear ho hb
        clear HC HO HW hb6 hbx
        go_wp2_with (refine wpList_skip rfl (hst8 rfl rfl rfl) ?_)
        refine bodyPost_ret (v := encA (writeA { c with phase := 2, zone := z, num := next })) (results_cell_row rfl _ _ (w.heap.size + 1) 36 (cellsA (writeA { c with phase := 2, zone := z, num := next })) (0, 0) _ rfl HO8.out undAct rfl sizeAct) rfl ?_
        exact ⟨by rw [HVV.out], HX8.out⟩
end Go.Proofs.YtfpdchabknoklaaDoor.O.B
