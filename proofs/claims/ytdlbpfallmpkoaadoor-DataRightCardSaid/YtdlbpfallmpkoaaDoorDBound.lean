/- A claim and its volume, if both are bound. -/
import Derived.Test.YtdlbpfallmpkoaaDoorDPlain
import Derived.Test.YtdlbpfallmpkoaaDoorHeldBy
namespace Go.Proofs.YtdlbpfallmpkoaaDoor.O.B
open Go Go.RowKit Go.Shelf Go.Lib RangeMap KM
attribute [local go_sem] Oper.semAt_some

theorem results_cct {P : Program} {fn : Func} {p q r : Tmp} {tp tq : TypeId} {tmps : Array Value} {w : World} {g h : Nat} {x y z : Value} (hr : fn.results = #[.cell p tp, .cell q tq, .tmp r]) (hp : tmps.getD p undef = .pointer (some ⟨g, 0, none⟩)) (hq : tmps.getD q undef = .pointer (some ⟨h, 0, none⟩))
    (hz : tmps.getD r undef = z) (h1 : (loadVar tp ⟨g, 0, none⟩).run P w = .ok x w) (h2 : (loadVar tq ⟨h, 0, none⟩).run P w = .ok y w) : (results fn tmps).run P w = .ok (.tuple #[x, y, z]) w := by
  have hp' : tmps[p]?.getD undef = .pointer (some ⟨g, 0, none⟩) := by simpa using hp
  have hq' : tmps[q]?.getD undef = .pointer (some ⟨h, 0, none⟩) := by simpa using hq
  have hz' : tmps[r]?.getD undef = z := by simpa using hz
  simp [results, hr, hp', hq', hz', asAddr, h1, h2]

set_option maxRecDepth 100000 in
set_option maxHeartbeats 4000000 in
theorem bound_any (l : List Obj) (v : Value) (n : ByteArray) (w : World) (hl : ObjsIn w v l) :
    Calls Tryd.prog 40 #[v, .string n] w fun e w' => e = .returned (.tuple #[encO (clD l n), encO (voD l n), .bool (okD l n)]) ∧ Below w.heap.size w w' := by
  obtain ⟨o, cp, rfl, -, -⟩ := id hl
  have HL := Lib.hid hl
  clear hl
  obtain ⟨rc, hrc⟩ : ∃ r, getL l 3 n = r := ⟨_, rfl⟩
  obtain ⟨rv, hrv⟩ : ∃ r, getL l 4 (rc.getD O0).volume = r := ⟨_, rfl⟩
  have h1 : clD l n = rc.getD O0 := by unfold clD; rw [hrc]
  have h2 : voD l n = rv.getD O0 := by unfold voD; rw [h1, hrv]
  have h3 : okD l n = (rc.isSome && (rv.isSome && (((rc.getD O0).phase == 3) && ((rv.getD O0).phase == 3)))) := by unfold okD; rw [h1, h2, hrc, hrv]
  have HC : Hid (∀ V : World, ObjsIn V (.slice o l.length cp) l → Calls Tryd.prog 43 #[.slice o l.length cp, .int .u8 3, .string n] V fun e w' => e = .returned (.tuple #[encO (rc.getD O0), .bool rc.isSome]) ∧ Below V.heap.size V w') := fun V hV => by
    rw [← hrc]
    exact get_any l _ 3 n V hV
  have HV : Hid (∀ V : World, ObjsIn V (.slice o l.length cp) l → Calls Tryd.prog 43 #[.slice o l.length cp, .int .u8 4, .string (rc.getD O0).volume] V fun e w' => e = .returned (.tuple #[encO (rv.getD O0), .bool rv.isSome]) ∧ Below V.heap.size V w') := fun V hV => by
    rw [← hrv]
    exact get_any l _ 4 _ V hV
  rw [h3, h1, h2]
  clear hrc hrv h1 h2 h3
  generalize rc.getD O0 = c at *
  generalize rv.getD O0 = p at *
  generalize rc.isSome = t at *
  generalize rv.isSome = m at *
  go_enter Tryd.func40, Tryd.ntmps40
  go_upto_region 1 with (fail)
  refine wp_gen (fun V => BoxO V w.heap.size O0 ∧ BoxO V (w.heap.size + 1) O0 ∧ Below w.heap.size w V) (chain2 w _ _) ?_
  rintro V ⟨ha, hb, hlw⟩
  have HA := Lib.hid ha
  have HB := Lib.hid hb
  have HW := Lib.hid hlw
  have HG := Lib.hid (HC.out V (HL.out.after hlw))
  clear ha hb hlw HC
  go_wp2_with (fail)
  refine HG.out.mono ?_
  rintro e W2 ⟨rfl, hb2⟩
  obtain ⟨V3, hst, ha, hoth, hbl⟩ := storing (HA.out.after hb2) c
  have hw3 := hbl _ _ (HW.out.trans (hb2.mono HW.out.size)) (Nat.le_refl _)
  have HA3 := Lib.hid ha
  have HB3 := Lib.hid ((hoth (w.heap.size + 1) (by omega)).trans (HB.out.after hb2))
  have HW3 := Lib.hid hw3
  have HG3 := Lib.hid (HV.out V3 (HL.out.after hw3))
  have c15 := ha.c15
  clear HG HA HB HW HV hb2 ha hoth hbl hw3
  go_wp2_with (refine wpList_skip rfl (hst rfl rfl rfl) ?_)
  refine HG3.out.mono ?_
  rintro e W4 ⟨rfl, hb4⟩
  obtain ⟨V5, hst5, hp, hoth, hbl⟩ := storing (show BoxO W4 (w.heap.size + 1) O0 from (hb4.block _ (Array.getElem?_eq_some_iff.1 HB3.out).1).trans HB3.out) p
  have hw5 := hbl _ _ (HW3.out.trans (hb4.mono HW3.out.size)) (by omega)
  have HA := Lib.hid ((hoth w.heap.size (by omega)).trans (HA3.out.after hb4))
  have HB := Lib.hid hp
  have HL5 := Lib.hid hw5
  clear HG3 HA3 HB3 HW3 c15 hb4 hp hoth hbl hw5 hst
  go_upto_region 3 with (refine wpList_skip rfl (hst5 rfl rfl rfl) ?_)
  clear hst5 HL
  have HL := HL5
  clear HL5
  cases t with
  | false =>
    refine wp_region_held_drew (S := fun V => BoxO V w.heap.size c ∧ BoxO V (w.heap.size + 1) p ∧ Below w.heap.size w V) (by kernel_rfl) ⟨HA.out, HB.out, HL.out.drew⟩ (fun _ => ?_)
    refine HeldBy.gen (fun V => BoxO V w.heap.size c ∧ BoxO V (w.heap.size + 1) p ∧ Below w.heap.size w V) ⟨HA.out, HB.out, HL.out.drew⟩ ?_
    clear HA HB HL
    rintro U0 HS
    refine HeldBy.take (i := 0) (v := encO c) rfl (by kernel_rfl) (by kernel_rfl) (by kernel_rfl) (fun _ _ _ h => h) (by rfl) (fun V hV => load_obj hV.1 rfl rfl) (by first | (go_simp; rfl) | (go_simp; done)) HS ?_
    refine HeldBy.take (i := 1) (v := encO p) rfl (by kernel_rfl) (by kernel_rfl) (by kernel_rfl) (fun _ _ _ h => h) (by rfl) (fun V hV => load_obj hV.2.1 rfl rfl) (by first | (go_simp; rfl) | (go_simp; done)) HS ?_
    refine HeldBy.take (i := 2) rfl (by kernel_rfl) (by kernel_rfl) (by kernel_rfl) (fun _ _ _ h => h) (by rfl) (fun _ _ => by first | (go_simp; rfl) | (go_simp; done)) (by first | (go_simp; rfl) | (go_simp; done)) HS ?_
    refine HeldBy.take (i := 3) rfl (by kernel_rfl) (by kernel_rfl) (by kernel_rfl) (fun _ _ _ h => h) (by rfl) (fun _ _ => by first | (go_simp; rfl) | (go_simp; done)) (by first | (go_simp; rfl) | (go_simp; done)) HS ?_
    refine HeldBy.skip (i := 4) rfl (by kernel_rfl) (by kernel_rfl) (by kernel_rfl) (fun _ _ _ h => h) (by rfl) (by go_simp; rfl) HS ?_
    refine HeldBy.take (i := 5) rfl (by kernel_rfl) (by kernel_rfl) (by kernel_rfl) (fun _ _ _ h => h) (by rfl) (fun _ _ => by first | (go_simp; rfl) | (go_simp; done)) (by first | (go_simp; rfl) | (go_simp; done)) HS ?_
    refine HeldBy.take (i := 6) rfl (by kernel_rfl) (by kernel_rfl) (by kernel_rfl) (fun _ _ _ h => h) (by rfl) (fun _ _ => by first | (go_simp; rfl) | (go_simp; done)) (by first | (go_simp; rfl) | (go_simp; done)) HS ?_
    refine HeldBy.skip (i := 7) rfl (by kernel_rfl) (by kernel_rfl) (by kernel_rfl) (fun _ _ _ h => h) (by rfl) (by go_simp; rfl) HS ?_
    refine HeldBy.skip (i := 8) rfl (by kernel_rfl) (by kernel_rfl) (by kernel_rfl) (fun _ _ _ h => h) (by rfl) (by go_simp; rfl) HS ?_
    refine HeldBy.skip (i := 9) rfl (by kernel_rfl) (by kernel_rfl) (by kernel_rfl) (fun _ _ _ h => h) (by rfl) (by go_simp; rfl) HS ?_
    refine HeldBy.take (i := 10) rfl (by kernel_rfl) (by kernel_rfl) (by kernel_rfl) (fun _ _ _ h => h) (by rfl) (fun _ _ => by first | (go_simp; rfl) | (go_simp; done)) (by first | (go_simp; rfl) | (go_simp; done)) HS ?_
    refine HeldBy.take (i := 11) rfl (by kernel_rfl) (by kernel_rfl) (by kernel_rfl) (fun _ _ _ h => h) (by rfl) (fun _ _ => by first | (go_simp; rfl) | (go_simp; done)) (by first | (go_simp; rfl) | (go_simp; done)) HS ?_
    refine HeldBy.skip (i := 12) rfl (by kernel_rfl) (by kernel_rfl) (by kernel_rfl) (fun _ _ _ h => h) (by rfl) (by go_simp; rfl) HS ?_
    refine HeldBy.skip (i := 13) rfl (by kernel_rfl) (by kernel_rfl) (by kernel_rfl) (fun _ _ _ h => h) (by rfl) (by go_simp; rfl) HS ?_
    refine HeldBy.skip (i := 14) rfl (by kernel_rfl) (by kernel_rfl) (by kernel_rfl) (fun _ _ _ h => h) (by rfl) (by go_simp; rfl) HS ?_
    refine HeldBy.take (i := 15) rfl (by kernel_rfl) (by kernel_rfl) (by kernel_rfl) (fun _ _ _ h => h) (by rfl) (fun _ _ => by first | (go_simp; rfl) | (go_simp; done)) (by first | (go_simp; rfl) | (go_simp; done)) HS ?_
    obtain ⟨V6, hst6, ho6, hoth6, hb6⟩ := storing HS.1 c
    have HS6 : BoxO V6 w.heap.size c ∧ BoxO V6 (w.heap.size + 1) p ∧ Below w.heap.size w V6 := ⟨ho6, (hoth6 _ (by omega)).trans HS.2.1, hb6 _ _ HS.2.2 (by omega)⟩
    refine HeldBy.store (i := 16) (w' := V6) rfl (by kernel_rfl) (by rfl) (hst6 rfl rfl rfl) (by first | (go_simp; rfl) | (go_simp; done)) HS6 ?_
    obtain ⟨V7, hst7, ho7, hoth7, hb7⟩ := storing HS6.2.1 p
    have HS7 : BoxO V7 w.heap.size c ∧ BoxO V7 (w.heap.size + 1) p ∧ Below w.heap.size w V7 := ⟨(hoth7 _ (by omega)).trans HS6.1, ho7, hb7 _ _ HS6.2.2 (by omega)⟩
    refine HeldBy.store (i := 17) (w' := V7) rfl (by kernel_rfl) (by rfl) (hst7 rfl rfl rfl) (by first | (go_simp; rfl) | (go_simp; done)) HS7 ?_
    refine HeldBy.take (i := 18) rfl (by kernel_rfl) (by kernel_rfl) (by kernel_rfl) (fun _ _ _ h => h) (by rfl) (fun _ _ => by first | (go_simp; rfl) | (go_simp; done)) (by first | (go_simp; rfl) | (go_simp; done)) HS7 ?_
    refine wpAnyH_done (by kernel_rfl) ?_ _
    have HX := Lib.hid HS7
    clear hst6 ho6 hoth6 hb6 hst7 ho7 hoth7 hb7 HS HS6 HS7
    go_wp2
    refine bodyPost_ret (v := .tuple #[encO c, encO p, .bool (false)]) (results_cct rfl rfl rfl rfl (loadVar_obj HX.out.1) (loadVar_obj HX.out.2.1)) rfl ?_
    exact ⟨rfl, HX.out.2.2⟩
  | true =>
    cases m with
    | false =>
      refine wp_region_held_drew (S := fun V => BoxO V w.heap.size c ∧ BoxO V (w.heap.size + 1) p ∧ Below w.heap.size w V) (by kernel_rfl) ⟨HA.out, HB.out, HL.out.drew⟩ (fun _ => ?_)
      refine HeldBy.gen (fun V => BoxO V w.heap.size c ∧ BoxO V (w.heap.size + 1) p ∧ Below w.heap.size w V) ⟨HA.out, HB.out, HL.out.drew⟩ ?_
      clear HA HB HL
      rintro U0 HS
      refine HeldBy.take (i := 0) (v := encO c) rfl (by kernel_rfl) (by kernel_rfl) (by kernel_rfl) (fun _ _ _ h => h) (by rfl) (fun V hV => load_obj hV.1 rfl rfl) (by first | (go_simp; rfl) | (go_simp; done)) HS ?_
      refine HeldBy.take (i := 1) (v := encO p) rfl (by kernel_rfl) (by kernel_rfl) (by kernel_rfl) (fun _ _ _ h => h) (by rfl) (fun V hV => load_obj hV.2.1 rfl rfl) (by first | (go_simp; rfl) | (go_simp; done)) HS ?_
      refine HeldBy.take (i := 2) rfl (by kernel_rfl) (by kernel_rfl) (by kernel_rfl) (fun _ _ _ h => h) (by rfl) (fun _ _ => by first | (go_simp; rfl) | (go_simp; done)) (by first | (go_simp; rfl) | (go_simp; done)) HS ?_
      refine HeldBy.take (i := 3) rfl (by kernel_rfl) (by kernel_rfl) (by kernel_rfl) (fun _ _ _ h => h) (by rfl) (fun _ _ => by first | (go_simp; rfl) | (go_simp; done)) (by first | (go_simp; rfl) | (go_simp; done)) HS ?_
      refine HeldBy.take (i := 4) rfl (by kernel_rfl) (by kernel_rfl) (by kernel_rfl) (fun _ _ _ h => h) (by rfl) (fun _ _ => by first | (go_simp; rfl) | (go_simp; done)) (by first | (go_simp; rfl) | (go_simp; done)) HS ?_
      refine HeldBy.take (i := 5) rfl (by kernel_rfl) (by kernel_rfl) (by kernel_rfl) (fun _ _ _ h => h) (by rfl) (fun _ _ => by first | (go_simp; rfl) | (go_simp; done)) (by first | (go_simp; rfl) | (go_simp; done)) HS ?_
      refine HeldBy.take (i := 6) rfl (by kernel_rfl) (by kernel_rfl) (by kernel_rfl) (fun _ _ _ h => h) (by rfl) (fun _ _ => by first | (go_simp; rfl) | (go_simp; done)) (by first | (go_simp; rfl) | (go_simp; done)) HS ?_
      refine HeldBy.skip (i := 7) rfl (by kernel_rfl) (by kernel_rfl) (by kernel_rfl) (fun _ _ _ h => h) (by rfl) (by go_simp; rfl) HS ?_
      refine HeldBy.skip (i := 8) rfl (by kernel_rfl) (by kernel_rfl) (by kernel_rfl) (fun _ _ _ h => h) (by rfl) (by go_simp; rfl) HS ?_
      refine HeldBy.skip (i := 9) rfl (by kernel_rfl) (by kernel_rfl) (by kernel_rfl) (fun _ _ _ h => h) (by rfl) (by go_simp; rfl) HS ?_
      refine HeldBy.take (i := 10) rfl (by kernel_rfl) (by kernel_rfl) (by kernel_rfl) (fun _ _ _ h => h) (by rfl) (fun _ _ => by first | (go_simp; rfl) | (go_simp; done)) (by first | (go_simp; rfl) | (go_simp; done)) HS ?_
      refine HeldBy.take (i := 11) rfl (by kernel_rfl) (by kernel_rfl) (by kernel_rfl) (fun _ _ _ h => h) (by rfl) (fun _ _ => by first | (go_simp; rfl) | (go_simp; done)) (by first | (go_simp; rfl) | (go_simp; done)) HS ?_
      refine HeldBy.skip (i := 12) rfl (by kernel_rfl) (by kernel_rfl) (by kernel_rfl) (fun _ _ _ h => h) (by rfl) (by go_simp; rfl) HS ?_
      refine HeldBy.skip (i := 13) rfl (by kernel_rfl) (by kernel_rfl) (by kernel_rfl) (fun _ _ _ h => h) (by rfl) (by go_simp; rfl) HS ?_
      refine HeldBy.skip (i := 14) rfl (by kernel_rfl) (by kernel_rfl) (by kernel_rfl) (fun _ _ _ h => h) (by rfl) (by go_simp; rfl) HS ?_
      refine HeldBy.take (i := 15) rfl (by kernel_rfl) (by kernel_rfl) (by kernel_rfl) (fun _ _ _ h => h) (by rfl) (fun _ _ => by first | (go_simp; rfl) | (go_simp; done)) (by first | (go_simp; rfl) | (go_simp; done)) HS ?_
      obtain ⟨V6, hst6, ho6, hoth6, hb6⟩ := storing HS.1 c
      have HS6 : BoxO V6 w.heap.size c ∧ BoxO V6 (w.heap.size + 1) p ∧ Below w.heap.size w V6 := ⟨ho6, (hoth6 _ (by omega)).trans HS.2.1, hb6 _ _ HS.2.2 (by omega)⟩
      refine HeldBy.store (i := 16) (w' := V6) rfl (by kernel_rfl) (by rfl) (hst6 rfl rfl rfl) (by first | (go_simp; rfl) | (go_simp; done)) HS6 ?_
      obtain ⟨V7, hst7, ho7, hoth7, hb7⟩ := storing HS6.2.1 p
      have HS7 : BoxO V7 w.heap.size c ∧ BoxO V7 (w.heap.size + 1) p ∧ Below w.heap.size w V7 := ⟨(hoth7 _ (by omega)).trans HS6.1, ho7, hb7 _ _ HS6.2.2 (by omega)⟩
      refine HeldBy.store (i := 17) (w' := V7) rfl (by kernel_rfl) (by rfl) (hst7 rfl rfl rfl) (by first | (go_simp; rfl) | (go_simp; done)) HS7 ?_
      refine HeldBy.take (i := 18) rfl (by kernel_rfl) (by kernel_rfl) (by kernel_rfl) (fun _ _ _ h => h) (by rfl) (fun _ _ => by first | (go_simp; rfl) | (go_simp; done)) (by first | (go_simp; rfl) | (go_simp; done)) HS7 ?_
      refine wpAnyH_done (by kernel_rfl) ?_ _
      have HX := Lib.hid HS7
      clear hst6 ho6 hoth6 hb6 hst7 ho7 hoth7 hb7 HS HS6 HS7
      go_wp2
      refine bodyPost_ret (v := .tuple #[encO c, encO p, .bool (false)]) (results_cct rfl rfl rfl rfl (loadVar_obj HX.out.1) (loadVar_obj HX.out.2.1)) rfl ?_
      exact ⟨rfl, HX.out.2.2⟩
    | true =>
      cases e1 : (c.phase == 3) with
      | false =>
        refine wp_region_held_drew (S := fun V => BoxO V w.heap.size c ∧ BoxO V (w.heap.size + 1) p ∧ Below w.heap.size w V) (by kernel_rfl) ⟨HA.out, HB.out, HL.out.drew⟩ (fun _ => ?_)
        refine HeldBy.gen (fun V => BoxO V w.heap.size c ∧ BoxO V (w.heap.size + 1) p ∧ Below w.heap.size w V) ⟨HA.out, HB.out, HL.out.drew⟩ ?_
        clear HA HB HL
        rintro U0 HS
        refine HeldBy.take (i := 0) (v := encO c) rfl (by kernel_rfl) (by kernel_rfl) (by kernel_rfl) (fun _ _ _ h => h) (by rfl) (fun V hV => load_obj hV.1 rfl rfl) (by first | (go_simp; rfl) | (go_simp; done)) HS ?_
        refine HeldBy.take (i := 1) (v := encO p) rfl (by kernel_rfl) (by kernel_rfl) (by kernel_rfl) (fun _ _ _ h => h) (by rfl) (fun V hV => load_obj hV.2.1 rfl rfl) (by first | (go_simp; rfl) | (go_simp; done)) HS ?_
        refine HeldBy.take (i := 2) rfl (by kernel_rfl) (by kernel_rfl) (by kernel_rfl) (fun _ _ _ h => h) (by rfl) (fun _ _ => by first | (go_simp; rfl) | (go_simp; done)) (by first | (go_simp; rfl) | (go_simp; done)) HS ?_
        refine HeldBy.take (i := 3) rfl (by kernel_rfl) (by kernel_rfl) (by kernel_rfl) (fun _ _ _ h => h) (by rfl) (fun _ _ => by first | (go_simp; rfl) | (go_simp; done)) (by first | (go_simp; rfl) | (go_simp; done)) HS ?_
        refine HeldBy.take (i := 4) rfl (by kernel_rfl) (by kernel_rfl) (by kernel_rfl) (fun _ _ _ h => h) (by rfl) (fun _ _ => by first | (go_simp; rfl) | (go_simp; done)) (by first | (go_simp; rfl) | (go_simp; done)) HS ?_
        refine HeldBy.take (i := 5) rfl (by kernel_rfl) (by kernel_rfl) (by kernel_rfl) (fun _ _ _ h => h) (by rfl) (fun _ _ => by first | (go_simp; rfl) | (go_simp; done)) (by first | (go_simp; rfl) | (go_simp; done)) HS ?_
        refine HeldBy.take (i := 6) rfl (by kernel_rfl) (by kernel_rfl) (by kernel_rfl) (fun _ _ _ h => h) (by rfl) (fun _ _ => by first | (go_simp; rfl) | (go_simp; done)) (by first | (go_simp; rfl) | (go_simp; done)) HS ?_
        refine HeldBy.take (i := 7) rfl (by kernel_rfl) (by kernel_rfl) (by kernel_rfl) (fun _ _ _ h => h) (by rfl) (fun _ _ => by first | (go_simp; rfl) | (go_simp; done)) (by first | (go_simp; rfl) | (go_simp; done)) HS ?_
        refine HeldBy.take (i := 8) rfl (by kernel_rfl) (by kernel_rfl) (by kernel_rfl) (fun _ _ _ h => h) (by rfl) (fun V hV => by have hc := hV.1.c17; first | (go_simp; rfl) | (go_simp; done)) (by first | (go_simp; rfl) | (go_simp; done)) HS ?_
        refine HeldBy.take (i := 9) rfl (by kernel_rfl) (by kernel_rfl) (by kernel_rfl) (fun _ _ _ h => h) (by rfl) (fun _ _ => by first | (go_simp; rfl) | (go_simp; done)) (by first | (go_simp; rfl) | (go_simp; done)) HS ?_
        refine HeldBy.take (i := 10) rfl (by kernel_rfl) (by kernel_rfl) (by kernel_rfl) (fun _ _ _ h => h) (by rfl) (fun _ _ => by first | (go_simp; rfl) | (go_simp; done)) (by first | (go_simp; rfl) | (go_simp; done)) HS ?_
        refine HeldBy.take (i := 11) rfl (by kernel_rfl) (by kernel_rfl) (by kernel_rfl) (fun _ _ _ h => h) (by rfl) (fun _ _ => by first | (go_simp; rfl) | (go_simp; done)) (by first | (go_simp; rfl) | (go_simp; done)) HS ?_
        refine HeldBy.skip (i := 12) rfl (by kernel_rfl) (by kernel_rfl) (by kernel_rfl) (fun _ _ _ h => h) (by rfl) (by go_simp; rfl) HS ?_
        refine HeldBy.skip (i := 13) rfl (by kernel_rfl) (by kernel_rfl) (by kernel_rfl) (fun _ _ _ h => h) (by rfl) (by go_simp; rfl) HS ?_
        refine HeldBy.skip (i := 14) rfl (by kernel_rfl) (by kernel_rfl) (by kernel_rfl) (fun _ _ _ h => h) (by rfl) (by go_simp; rfl) HS ?_
        refine HeldBy.take (i := 15) rfl (by kernel_rfl) (by kernel_rfl) (by kernel_rfl) (fun _ _ _ h => h) (by rfl) (fun _ _ => by first | (go_simp; rfl) | (go_simp; done)) (by first | (go_simp; rfl) | (go_simp; done)) HS ?_
        obtain ⟨V6, hst6, ho6, hoth6, hb6⟩ := storing HS.1 c
        have HS6 : BoxO V6 w.heap.size c ∧ BoxO V6 (w.heap.size + 1) p ∧ Below w.heap.size w V6 := ⟨ho6, (hoth6 _ (by omega)).trans HS.2.1, hb6 _ _ HS.2.2 (by omega)⟩
        refine HeldBy.store (i := 16) (w' := V6) rfl (by kernel_rfl) (by rfl) (hst6 rfl rfl rfl) (by first | (go_simp; rfl) | (go_simp; done)) HS6 ?_
        obtain ⟨V7, hst7, ho7, hoth7, hb7⟩ := storing HS6.2.1 p
        have HS7 : BoxO V7 w.heap.size c ∧ BoxO V7 (w.heap.size + 1) p ∧ Below w.heap.size w V7 := ⟨(hoth7 _ (by omega)).trans HS6.1, ho7, hb7 _ _ HS6.2.2 (by omega)⟩
        refine HeldBy.store (i := 17) (w' := V7) rfl (by kernel_rfl) (by rfl) (hst7 rfl rfl rfl) (by first | (go_simp; rfl) | (go_simp; done)) HS7 ?_
        refine HeldBy.take (i := 18) rfl (by kernel_rfl) (by kernel_rfl) (by kernel_rfl) (fun _ _ _ h => h) (by rfl) (fun _ _ => by first | (go_simp; rfl) | (go_simp; done)) (by first | (go_simp; rfl) | (go_simp; done)) HS7 ?_
        refine wpAnyH_done (by kernel_rfl) ?_ _
        have HX := Lib.hid HS7
        clear hst6 ho6 hoth6 hb6 hst7 ho7 hoth7 hb7 HS HS6 HS7
        go_wp2
        refine bodyPost_ret (v := .tuple #[encO c, encO p, .bool (false)]) (results_cct rfl rfl rfl rfl (loadVar_obj HX.out.1) (loadVar_obj HX.out.2.1)) rfl ?_
        exact ⟨by simp only [e1]; rfl, HX.out.2.2⟩
      | true =>
        refine wp_region_held_drew (S := fun V => BoxO V w.heap.size c ∧ BoxO V (w.heap.size + 1) p ∧ Below w.heap.size w V) (by kernel_rfl) ⟨HA.out, HB.out, HL.out.drew⟩ (fun _ => ?_)
        refine HeldBy.gen (fun V => BoxO V w.heap.size c ∧ BoxO V (w.heap.size + 1) p ∧ Below w.heap.size w V) ⟨HA.out, HB.out, HL.out.drew⟩ ?_
        clear HA HB HL
        rintro U0 HS
        refine HeldBy.take (i := 0) (v := encO c) rfl (by kernel_rfl) (by kernel_rfl) (by kernel_rfl) (fun _ _ _ h => h) (by rfl) (fun V hV => load_obj hV.1 rfl rfl) (by first | (go_simp; rfl) | (go_simp; done)) HS ?_
        refine HeldBy.take (i := 1) (v := encO p) rfl (by kernel_rfl) (by kernel_rfl) (by kernel_rfl) (fun _ _ _ h => h) (by rfl) (fun V hV => load_obj hV.2.1 rfl rfl) (by first | (go_simp; rfl) | (go_simp; done)) HS ?_
        refine HeldBy.take (i := 2) rfl (by kernel_rfl) (by kernel_rfl) (by kernel_rfl) (fun _ _ _ h => h) (by rfl) (fun _ _ => by first | (go_simp; rfl) | (go_simp; done)) (by first | (go_simp; rfl) | (go_simp; done)) HS ?_
        refine HeldBy.take (i := 3) rfl (by kernel_rfl) (by kernel_rfl) (by kernel_rfl) (fun _ _ _ h => h) (by rfl) (fun _ _ => by first | (go_simp; rfl) | (go_simp; done)) (by first | (go_simp; rfl) | (go_simp; done)) HS ?_
        refine HeldBy.take (i := 4) rfl (by kernel_rfl) (by kernel_rfl) (by kernel_rfl) (fun _ _ _ h => h) (by rfl) (fun _ _ => by first | (go_simp; rfl) | (go_simp; done)) (by first | (go_simp; rfl) | (go_simp; done)) HS ?_
        refine HeldBy.take (i := 5) rfl (by kernel_rfl) (by kernel_rfl) (by kernel_rfl) (fun _ _ _ h => h) (by rfl) (fun _ _ => by first | (go_simp; rfl) | (go_simp; done)) (by first | (go_simp; rfl) | (go_simp; done)) HS ?_
        refine HeldBy.take (i := 6) rfl (by kernel_rfl) (by kernel_rfl) (by kernel_rfl) (fun _ _ _ h => h) (by rfl) (fun _ _ => by first | (go_simp; rfl) | (go_simp; done)) (by first | (go_simp; rfl) | (go_simp; done)) HS ?_
        refine HeldBy.take (i := 7) rfl (by kernel_rfl) (by kernel_rfl) (by kernel_rfl) (fun _ _ _ h => h) (by rfl) (fun _ _ => by first | (go_simp; rfl) | (go_simp; done)) (by first | (go_simp; rfl) | (go_simp; done)) HS ?_
        refine HeldBy.take (i := 8) rfl (by kernel_rfl) (by kernel_rfl) (by kernel_rfl) (fun _ _ _ h => h) (by rfl) (fun V hV => by have hc := hV.1.c17; first | (go_simp; rfl) | (go_simp; done)) (by first | (go_simp; rfl) | (go_simp; done)) HS ?_
        refine HeldBy.take (i := 9) rfl (by kernel_rfl) (by kernel_rfl) (by kernel_rfl) (fun _ _ _ h => h) (by rfl) (fun _ _ => by first | (go_simp; rfl) | (go_simp; done)) (by first | (go_simp; rfl) | (go_simp; done)) HS ?_
        refine HeldBy.take (i := 10) rfl (by kernel_rfl) (by kernel_rfl) (by kernel_rfl) (fun _ _ _ h => h) (by rfl) (fun _ _ => by first | (go_simp; rfl) | (go_simp; done)) (by first | (go_simp; rfl) | (go_simp; done)) HS ?_
        refine HeldBy.take (i := 11) rfl (by kernel_rfl) (by kernel_rfl) (by kernel_rfl) (fun _ _ _ h => h) (by rfl) (fun _ _ => by first | (go_simp; rfl) | (go_simp; done)) (by first | (go_simp; rfl) | (go_simp; done)) HS ?_
        refine HeldBy.take (i := 12) rfl (by kernel_rfl) (by kernel_rfl) (by kernel_rfl) (fun _ _ _ h => h) (by rfl) (fun _ _ => by first | (go_simp; rfl) | (go_simp; done)) (by first | (go_simp; rfl) | (go_simp; done)) HS ?_
        refine HeldBy.take (i := 13) rfl (by kernel_rfl) (by kernel_rfl) (by kernel_rfl) (fun _ _ _ h => h) (by rfl) (fun V hV => by have hc := hV.2.1.c17; first | (go_simp; rfl) | (go_simp; done)) (by first | (go_simp; rfl) | (go_simp; done)) HS ?_
        refine HeldBy.take (i := 14) rfl (by kernel_rfl) (by kernel_rfl) (by kernel_rfl) (fun _ _ _ h => h) (by rfl) (fun _ _ => by first | (go_simp; rfl) | (go_simp; done)) (by first | (go_simp; rfl) | (go_simp; done)) HS ?_
        refine HeldBy.take (i := 15) rfl (by kernel_rfl) (by kernel_rfl) (by kernel_rfl) (fun _ _ _ h => h) (by rfl) (fun _ _ => by first | (go_simp; rfl) | (go_simp; done)) (by first | (go_simp; rfl) | (go_simp; done)) HS ?_
        obtain ⟨V6, hst6, ho6, hoth6, hb6⟩ := storing HS.1 c
        have HS6 : BoxO V6 w.heap.size c ∧ BoxO V6 (w.heap.size + 1) p ∧ Below w.heap.size w V6 := ⟨ho6, (hoth6 _ (by omega)).trans HS.2.1, hb6 _ _ HS.2.2 (by omega)⟩
        refine HeldBy.store (i := 16) (w' := V6) rfl (by kernel_rfl) (by rfl) (hst6 rfl rfl rfl) (by first | (go_simp; rfl) | (go_simp; done)) HS6 ?_
        obtain ⟨V7, hst7, ho7, hoth7, hb7⟩ := storing HS6.2.1 p
        have HS7 : BoxO V7 w.heap.size c ∧ BoxO V7 (w.heap.size + 1) p ∧ Below w.heap.size w V7 := ⟨(hoth7 _ (by omega)).trans HS6.1, ho7, hb7 _ _ HS6.2.2 (by omega)⟩
        refine HeldBy.store (i := 17) (w' := V7) rfl (by kernel_rfl) (by rfl) (hst7 rfl rfl rfl) (by first | (go_simp; rfl) | (go_simp; done)) HS7 ?_
        refine HeldBy.take (i := 18) rfl (by kernel_rfl) (by kernel_rfl) (by kernel_rfl) (fun _ _ _ h => h) (by rfl) (fun _ _ => by first | (go_simp; rfl) | (go_simp; done)) (by first | (go_simp; rfl) | (go_simp; done)) HS7 ?_
        refine wpAnyH_done (by kernel_rfl) ?_ _
        have HX := Lib.hid HS7
        clear hst6 ho6 hoth6 hb6 hst7 ho7 hoth7 hb7 HS HS6 HS7
        go_wp2
        refine bodyPost_ret (v := .tuple #[encO c, encO p, .bool (p.phase == 3)]) (results_cct rfl rfl rfl rfl (loadVar_obj HX.out.1) (loadVar_obj HX.out.2.1)) rfl ?_
        exact ⟨by simp only [e1]; rfl, HX.out.2.2⟩
end Go.Proofs.YtdlbpfallmpkoaaDoor.O.B
