/- The document's New, of any zones. -/
import Derived.Test.YtbgfccanbgpjiaaIRBase
import Derived.Test.YtbgfccanbgpjiaaINewN
import Derived.Test.YtbgfccanbgpjiaaORefName
namespace Go.Proofs.Ytbgfccanbgpjiaa.O.I
open Go Go.RowKit Go.Lib KM
attribute [local go_sem] Oper.semAt_some

theorem refname_is {s : ByteArray} {b : Bool} (h : nm s = b) (hs : s.size ≤ 9223372036854775807) (w : World) : Calls Try.prog 43 #[.string s] w fun e w' => e = .returned (.bool b) ∧ w = w' := h ▸ O.refName_any s w hs
theorem run_zs0 (W : World) : (Instr.buildSlice 36 0 #[]).run Try.prog W = .ok (.slice (some ⟨W.heap.size, 0, none⟩) 0 0) (W.alloc (.cells #[] 42 (0, 0))) := by kernel_rfl
theorem exec_slice0 {T : TypeId} {n : Nat} {W W' : World} {v : Value} {vs : Array (Nat × Value)} (hr : (Instr.buildSlice T n vs).run Try.prog W = .ok v W') {oi : Oper} {a : Act} {parts : Array (Nat × Operand)} (ho : oi.op = .buildSlice T n parts)
    (hp : (parts.toList.map fun (i, x) => (i, a.eval x)) = vs.toList) : (execOp a.eval oi).run Try.prog W = .ok (.value v) W' := by
  have hp' : (parts.map fun (i, x) => (i, a.eval x)) = vs := by
    apply Array.toList_inj.1
    rw [Array.toList_map]
    exact hp
  subst hp'
  unfold execOp
  simp only [ho, Sem.run_bind, hr, Result.andThen_ok]
  rfl
theorem wpList_app {ops : Array Oper} {rest : List Oper} {o : Oper} {a : Act} {Q : Exit → Act → World → Prop} {W W' : World} {v sl sr : Value} {t : TypeId} {s x : Operand}
    (hg : o.guard = none) (hop : o.op = Op.call { callee := Callee.builtin Builtin.append, args := #[s, x], argTypes := #[t, t] }) (hrun : (Builtin.append_ #[t, t] o.type #[sl, sr]).run Try.prog W = .ok v W') (hs : a.eval s = sl) (hx : a.eval x = sr)
    (hn : wpList Try.prog ops Q rest (a.put o.dst v) W') : wpList Try.prog ops Q (o :: rest) a W := by
  refine wpList_plain hg fun _ hK => ?_
  unfold Oper.wp execOp
  simp only [hop, resolve, invoke, builtin, Sem.run_bind, Sem.run_pure, Result.andThen_ok, List.map_toArray, List.map_cons, List.map_nil, hs, hx, hrun]
  exact hK _ _ hn
/-- No twin among the first. -/
theorem twin_none {l : List Zn} {j : Nat} (h : j < l.length) (hn : ∀ k y, k < j → l[k]? = some y → y.name ≠ l[j].name) : KM.get l[j].name (roomsZ (l.take j)) = none := by
  cases hx : KM.get l[j].name (roomsZ (l.take j)) with
  | none => rfl
  | some v =>
    obtain ⟨z, hz, he, -⟩ := rooms_some hx
    obtain ⟨i, hi, hie⟩ := List.getElem_of_mem hz
    have hil : i < j := by rw [List.length_take] at hi; omega
    have hzi : l[i]'(by omega) = z := by rw [← hie, List.getElem_take]
    exact absurd he (hn i z hil (by rw [List.getElem?_eq_getElem (by omega), hzi]))
theorem twin_some {l : List Zn} {j k : Nat} (h : j < l.length) (hk : k < j) (he : (l[k]'(by omega)).name = l[j].name) : ∃ v, KM.get l[j].name (roomsZ (l.take j)) = some v := by
  cases hx : KM.get l[j].name (roomsZ (l.take j)) with
  | some v => exact ⟨v, rfl⟩
  | none =>
    refine absurd he (rooms_none hx (l[k]'(by omega)) ?_)
    have h1 : (l.take j)[k]'(by rw [List.length_take]; omega) = l[k]'(by omega) := List.getElem_take
    rw [← h1]
    exact List.getElem_mem _
theorem inR_iff (n : Int) : inR n = true ↔ 0 ≤ n ∧ n ≤ 1125899906842624 := by
  unfold inR
  simp
theorem inR_no {n : Int} (h : n < 0 ∨ 1125899906842624 < n) : inR n = false := by
  rw [← Bool.not_eq_true, inR_iff]
  omega
/-- What the document's New gives. -/
def RNewA (l : List Zn) (w : World) (e : Ending) (w' : World) : Prop := ∃ q, e = .returned (.pointer (if zonesB l then some ⟨q, 0, none⟩ else none)) ∧
  (zonesB l = true → w.heap.size ≤ q ∧ ∃ s : Sl, BoxQ w' q ⟨s, nilS, nilS, nilS⟩ ∧ w'.ownsRow w.heap.size 42 2 (encSl s) l.length (catZ l)) ∧ Below w.heap.size w w'
theorem rnone {l : List Zn} {w w' : World} (h : zonesB l = false) (hb : Below w.heap.size w w') : RNewA l w (.returned (.pointer none)) w' := by
  refine ⟨0, by rw [h]; rfl, fun e => ?_, hb⟩
  rw [h] at e
  cases e
set_option maxRecDepth 100000 in
set_option maxHeartbeats 4000000 in
theorem ref_new (v : Value) (l : List Zn) (w : World) (hz : ZonesIn w v l) (hf : ∀ z ∈ l, FitZ z) : Calls Try.prog 20 #[v] w fun e w' => RNewA l w e w' := by
  have HZ := Lib.hid hz
  have HF := Lib.hid hf
  obtain ⟨o, cp, rfl, hmx, hzs⟩ := hz
  have HZS := Lib.hid hzs
  clear hzs hf
  go_enter Try.func20, Try.ntmps20
  by_cases h1 : (l.length : Int) < 1
  · have HX : Hid (zonesB l = false) := by
      show _ = _
      rw [← Bool.not_eq_true, zonesB_iff]
      omega
    clear HZS HZ HF
    go_wp2
    go_ret
    exact rnone HX.out (Below.refl _ _)
  by_cases h16 : (16 : Int) < (l.length : Int)
  · have HX : Hid (zonesB l = false) := by
      show _ = _
      rw [← Bool.not_eq_true, zonesB_iff]
      omega
    clear HZS HZ HF
    go_wp2
    go_ret
    exact rnone HX.out (Below.refl _ _)
  have HN16 : Hid (1 ≤ l.length ∧ l.length ≤ 16) := by
    show _ ∧ _
    omega
  go_wp2
  go_loopw [3] (fun iv wr => ∃ j : Nat, iv = .int .i64 (j : Int) ∧ j ≤ l.length ∧ GoodZ (l.take j) ∧ Below w.heap.size w wr) (fun iv _ => l.length - (RowKit.intOf iv).toNat)
  case atStart => exact ⟨0, rfl, Nat.zero_le _, ⟨fun z hz => (by cases hz), List.nodup_nil⟩, Below.refl _ _⟩
  case round =>
    obtain ⟨j, rfl, hj, hgood, hlow⟩ := hrel
    have HGOOD := Lib.hid hgood
    have HW := Lib.hid hlow
    clear hgood hlow
    by_cases hlt : j < l.length
    · have hlt' : (j : Int) < (l.length : Int) := by omega
      obtain ⟨g, off, rfl, hgw, hrow⟩ := HZS.out j hlt
      have HFLS := Lib.hid (good_not hlt)
      have HGN := Lib.hid (good_next hlt HGOOD.out)
      have HTN := Lib.hid (twin_none hlt)
      have HTS := Lib.hid (fun k hk => twin_some (k := k) hlt hk)
      have HFZ := Lib.hid (HF.out l[j] (List.getElem_mem hlt))
      obtain ⟨z, hzz⟩ : ∃ z, l[j] = z := ⟨_, rfl⟩
      rw [hzz] at hrow HFLS HGN HTN HTS HFZ
      have z0 : wr.cell? ⟨g, off + j * 2, none⟩ = some (.string z.name) := (HW.out.cell (p := ⟨g, off + j * 2, none⟩) hgw).trans (hrow 0 _ rfl)
      have z1 : wr.cell? ⟨g, off + j * 2 + 1, none⟩ = some (.int .i64 z.room) := (HW.out.cell (p := ⟨g, off + j * 2 + 1, none⟩) hgw).trans (hrow 1 _ rfl)
      have HGW := Lib.hid hgw
      have HZ0 : Hid (w.cell? ⟨g, off + j * 2, none⟩ = some (.string z.name)) := hrow 0 _ rfl
      clear hrow hgw hzz HGOOD
      obtain ⟨bn, hbn⟩ : ∃ b, nm z.name = b := ⟨_, rfl⟩
      have HBN := Lib.hid hbn
      clear hbn
      go_wp2_with (fail)
      refine (refname_is HBN.out HFZ.out.1 _).mono ?_
      rintro e W2 ⟨rfl, rfl⟩
      cases bn with
      | false =>
        have HX := Lib.hid (HFLS.out (.inr (.inl HBN.out)))
        go_wp2
        go_ret
        exact rnone HX.out HW.out
      | true =>
        by_cases hn0 : z.room < 0
        · have HX := Lib.hid (HFLS.out (.inr (.inr (inR_no (.inl hn0)))))
          go_wp2
          go_ret
          exact rnone HX.out HW.out
        by_cases hn1 : 1125899906842624 < z.room
        · have HX := Lib.hid (HFLS.out (.inr (.inr (inR_no (.inr hn1)))))
          go_wp2
          go_ret
          exact rnone HX.out HW.out
        have HBR : Hid (inR z.room = true) := (inR_iff _).2 ⟨by omega, by omega⟩
        go_wp2
        clear z0 z1
        go_loopw [4] (fun iv W => ∃ k : Nat, iv = .int .i64 (k : Int) ∧ k ≤ j ∧ (∀ i y, i < k → l[i]? = some y → y.name ≠ z.name) ∧ Below w.heap.size w W) (fun iv _ => j - (RowKit.intOf iv).toNat)
        case atStart => exact ⟨0, rfl, Nat.zero_le _, fun i _ hi => absurd hi (by omega), HW.out⟩
        case round =>
          obtain ⟨k, rfl, hk, hno, hlow⟩ := hrel
          have HNO := Lib.hid hno
          clear HW
          have HW := Lib.hid hlow
          clear hno hlow
          by_cases hkj : k < j
          · have hkj' : (k : Int) < (j : Int) := by omega
            have hkl' : (k : Int) < (l.length : Int) := by omega
            obtain ⟨g2, off2, he2, -, hrow⟩ := HZS.out k (by omega)
            cases he2
            obtain ⟨y, hyy⟩ : ∃ y, l[k]'(by omega) = y := ⟨_, rfl⟩
            rw [hyy] at hrow
            have HY0 : Hid (w.cell? ⟨g, off + k * 2, none⟩ = some (.string y.name)) := hrow 0 _ rfl
            have HYY := Lib.hid hyy
            clear hrow hyy
            go_upto_region 11 with (fail)
            refine wp_region_held_drew (S := fun V => Below w.heap.size w V) (by kernel_rfl) HW.out.drew (fun _ => ?_)
            refine HeldBy.gen (fun V => Below w.heap.size w V) HW.out.drew ?_
            clear HW
            rintro U0 HS
            refine HeldBy.take (i := 0) rfl (by kernel_rfl) (by kernel_rfl) (by kernel_rfl) (fun _ _ _ h => h) (by rfl) (fun _ _ => by first | (go_simp; rfl) | (go_simp; done)) (by go_simp; rfl) HS ?_
            refine HeldBy.take (i := 1) rfl (by kernel_rfl) (by kernel_rfl) (by kernel_rfl) (fun _ _ _ h => h) (by rfl) (fun _ _ => by first | (go_simp; rfl) | (go_simp; done)) (by go_simp; rfl) HS ?_
            refine HeldBy.take (i := 2) rfl (by kernel_rfl) (by kernel_rfl) (by kernel_rfl) (fun _ _ _ h => h) (by rfl) (fun _ _ => by first | (go_simp; rfl) | (go_simp; done)) (by go_simp; rfl) HS ?_
            refine HeldBy.take (i := 3) rfl (by kernel_rfl) (by kernel_rfl) (by kernel_rfl) (fun _ _ _ h => h) (by rfl) (fun _ _ => by first | (go_simp; rfl) | (go_simp; done)) (by go_simp; rfl) HS ?_
            refine HeldBy.take (i := 4) (v := .string y.name) rfl (by kernel_rfl) (by kernel_rfl) (by kernel_rfl) (fun _ _ _ h => h) (by rfl) (fun V hV => by have hc : V.cell? ⟨g, off + k * 2, none⟩ = some (.string y.name) := (hV.cell (p := ⟨g, off + k * 2, none⟩) HGW.out).trans HY0.out; first | (go_simp; rfl) | (go_simp; done)) (by go_simp; rfl) HS ?_
            refine HeldBy.take (i := 5) rfl (by kernel_rfl) (by kernel_rfl) (by kernel_rfl) (fun _ _ _ h => h) (by rfl) (fun _ _ => by first | (go_simp; rfl) | (go_simp; done)) (by go_simp; rfl) HS ?_
            refine HeldBy.take (i := 6) rfl (by kernel_rfl) (by kernel_rfl) (by kernel_rfl) (fun _ _ _ h => h) (by rfl) (fun _ _ => by first | (go_simp; rfl) | (go_simp; done)) (by go_simp; rfl) HS ?_
            refine HeldBy.take (i := 7) rfl (by kernel_rfl) (by kernel_rfl) (by kernel_rfl) (fun _ _ _ h => h) (by rfl) (fun _ _ => by first | (go_simp; rfl) | (go_simp; done)) (by go_simp; rfl) HS ?_
            refine HeldBy.take (i := 8) rfl (by kernel_rfl) (by kernel_rfl) (by kernel_rfl) (fun _ _ _ h => h) (by rfl) (fun _ _ => by first | (go_simp; rfl) | (go_simp; done)) (by go_simp; rfl) HS ?_
            refine HeldBy.take (i := 9) (v := .string z.name) rfl (by kernel_rfl) (by kernel_rfl) (by kernel_rfl) (fun _ _ _ h => h) (by rfl) (fun V hV => by have hc : V.cell? ⟨g, off + j * 2, none⟩ = some (.string z.name) := (hV.cell (p := ⟨g, off + j * 2, none⟩) HGW.out).trans HZ0.out; first | (go_simp; rfl) | (go_simp; done)) (by go_simp; rfl) HS ?_
            refine HeldBy.take (i := 10) (v := .bool (decide (y.name = z.name))) rfl (by kernel_rfl) (by kernel_rfl) (by kernel_rfl) (fun _ _ _ h => h) (by rfl) (fun _ _ => exec_eqS rfl rfl rfl rfl) (by go_simp; rfl) HS ?_
            refine wpAnyH_done (by kernel_rfl) ?_ _
            have HW := Lib.hid HS
            clear HS
            by_cases hsm : y.name = z.name
            · rw [decide_eq_true hsm]
              have HX := Lib.hid (HFLS.out (.inl (HTS.out k hkj (by rw [HYY.out]; exact hsm))))
              go_wp2
              go_ret
              exact rnone HX.out HW.out
            · rw [decide_eq_false hsm]
              have HN2 : Hid (∀ i y, i < k + 1 → l[i]? = some y → y.name ≠ z.name) := fun i y' hi hy' => by
                rcases Nat.lt_or_ge i k with h | h
                · exact HNO.out i y' h hy'
                · obtain rfl : i = k := by omega
                  rw [List.getElem?_eq_getElem (by omega), HYY.out] at hy'
                  cases hy'
                  exact hsm
              go_wp2
              go_roundw
              case rel => exact ⟨k + 1, by go_num, by omega, HN2.out, HW.out⟩
              case measure => simp [RowKit.intOf]; omega
          · have hkj' : ¬ (k : Int) < (j : Int) := by omega
            obtain rfl : k = j := by omega
            have HN2 : Hid (GoodZ (l.take (k + 1))) := HGN.out (HTN.out HNO.out) HBN.out HBR.out
            go_wp2
            go_roundw
            case rel => exact ⟨k + 1, by go_num, by omega, HN2.out, HW.out⟩
            case measure => simp [RowKit.intOf]; omega
    · have hlt' : ¬ (j : Int) < (l.length : Int) := by omega
      have hE : j = l.length := by omega
      rw [hE, List.take_length] at HGOOD
      have HB : Hid (zonesB l = true) := (zonesB_iff l).2 ⟨HN16.out.1, HN16.out.2, HGOOD.out⟩
      obtain ⟨g, off, c, hv, hg, hr⟩ := HZ.out.row HN16.out.1
      cases hv
      have hbz : Below wr.heap.size wr (wr.alloc (.cells #[] 42 (0, 0))) := (Below.refl _ _).alloc (Nat.le_refl _) _
      have hwz := HW.out.trans (hbz.mono HW.out.size)
      have hr1 : World.rangeAt (wr.alloc (.cells #[] 42 (0, 0))) g off (catZ l) := fun i u hu => (hwz.cell (p := ⟨g, off + i, none⟩) hg).trans (hr i u hu)
      obtain ⟨v', W', hrun, hown, hb, -⟩ := add_rows zone_rowy w.heap.size _ _ 0 [] (own_empty (W := wr) HW.out.size) g off l.length cp (catZ l) (catZ_length l) hr1 (catZ_one l) (by have := HN16.out.2; omega) hwz.size 36
      obtain ⟨s, rfl, hsn⟩ := own_sl hown
      have HW : Hid (Below w.heap.size w W') := hwz.trans hb
      have HOWN := Lib.hid hown
      have HRUN := Lib.hid hrun
      have HQ := Lib.hid (built_q s)
      have hz0 := run_zs0 wr
      have HX : Hid (RNewA l w (.returned (.pointer (some ⟨W'.heap.size, 0, none⟩))) (W'.alloc (.cells (cellsQ ⟨s, nilS, nilS, nilS⟩) 87 (0, 0)))) := by
        have hb2 : Below W'.heap.size W' (W'.alloc (.cells (cellsQ ⟨s, nilS, nilS, nilS⟩) 87 (0, 0))) := (Below.refl _ _).alloc (Nat.le_refl _) _
        refine ⟨W'.heap.size, by rw [HB.out]; rfl, fun _ => ⟨HW.out.size, s, heap_alloc_new W' _, ?_⟩, HW.out.trans (hb2.mono HW.out.size)⟩
        have h := own_after hown hb2
        rw [Nat.zero_add, List.nil_append] at h
        exact h
      clear hown hrun hb hr hr1 hg hbz hwz HB HGOOD HZ HF HZS
      go_wp2_with (first | (refine wpList_got rfl (exec_slice0 hz0 rfl rfl) ?_) | ((with_reducible refine wpList_app rfl rfl HRUN.out ?_ ?_ ?_); rfl; rfl) | ((with_reducible refine wpList_build_to rfl 87 _ rfl (cellsQ ⟨s, nilS, nilS, nilS⟩) ?_ ?_); exact HQ.out))
      go_ret
      exact HX.out
end Go.Proofs.Ytbgfccanbgpjiaa.O.I
