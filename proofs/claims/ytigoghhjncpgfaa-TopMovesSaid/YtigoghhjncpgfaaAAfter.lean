/- What is done behind a call for a volume. -/
import Derived.Test.YtigoghhjncpgfaaAAsked
import Derived.Test.YtigoghhjncpgfaaFlow
namespace Go.Proofs.Ytigoghhjncpgfaa.O.B
open Go Go.RowKit Go.Shelf Go.Lib KM
attribute [local go_sem] Oper.semAt_some

/-- What a result makes of an attachment. -/
def behindA (a : Obj) (c : Cl) (r : Rs) (next : Int) : Ac :=
  if r.err = 9 then writeA { a with num := next }
  else if r.err = 0 ∧ c.verb = 3 then writeA { a with phase := 8, num := 0 }
  else if r.err = 0 ∧ c.verb = 4 then removeA a
  else if r.err = 5 ∧ c.verb = 3 then writeA { a with phase := 9, num := next }
  else nothing
/-- What is done behind a call for a volume. -/
def afterA (l : List Obj) (ver : Int) (c : Cl) (r : Rs) : Ac := if volumeA l ver c.target = askA c then behindA (askedN (attsL l c.target) c) c r (up ver) else nothing
def flO : HeldBy.Fl := ⟨6, some 10, .cells (cellsO O0) 37 (0, 0), HeldBy.ptr⟩
theorem with_act {P : Program} {ops : Array Oper} {Q : Exit → Act → World → Prop} {md : Region.Mode} {S : World → Prop} {fuel : Nat} {L : Array Bool} {a : Act} {w : World} (h : ∀ a0, a0 = a → wpAnyH P md ops Q S fuel L a0 w) : wpAnyH P md ops Q S fuel L a w := h a rfl

set_option maxRecDepth 100000 in
set_option maxHeartbeats 8000000 in
theorem after_any (l : List Obj) (v : Value) (ver : Int) (c : Cl) (r : Rs) (w : World) (hl : ObjsIn w v l) (hn : l.length < 100000) (hz : ∀ o ∈ l, o.name.size ≤ 140737488351232 ∧ o.node.size ≤ 140737488351232) :
    Calls Try.prog 21 #[v, .int .u64 ver, encC c, encR r] w fun e w' => e = .returned (encA (afterA l ver c r)) ∧ Below w.heap.size w w' := by
  obtain ⟨o, cp, rfl, -, -⟩ := id hl
  have HL := Lib.hid hl
  have HN := Lib.hid (fun V (hV : ObjsIn V (.slice o l.length cp) l) => volA_any l _ ver c.target V hV hn hz)
  have HK := Lib.hid (fun V (hV : ObjsIn V (.slice o l.length cp) l) => atts_any l _ c.target V hV hn)
  have HNA := Lib.hid (Nat.lt_of_le_of_lt (atts_len l c.target) hn)
  clear hl hn hz
  obtain ⟨x, hx⟩ : ∃ x, afterA l ver c r = x := ⟨_, rfl⟩
  rw [hx]
  unfold afterA at hx
  obtain ⟨G, hG⟩ : ∃ G, volumeA l ver c.target = G := ⟨_, rfl⟩
  obtain ⟨A, hA⟩ : ∃ A, attsL l c.target = A := ⟨_, rfl⟩
  rw [hG] at hx HN
  rw [hA] at hx HK HNA
  obtain ⟨p, hp⟩ : ∃ p, askedN A c = p := ⟨_, rfl⟩
  rw [hp] at hx
  have HKA := Lib.hid (fun V s (hV : ObjsIn V s A) => asked_any A s c V hV)
  rw [hp] at HKA
  obtain ⟨NX, hNX⟩ : ∃ NX, up ver = NX := ⟨_, rfl⟩
  have hNX' : IntKind.u64.wrap (ver + 1) = NX := hNX
  rw [hNX] at hx
  have HXX := Lib.hid hx
  obtain ⟨t, ht⟩ : ∃ t, decide (G = askA c) = t := ⟨_, rfl⟩
  have HTT := Lib.hid ht
  clear hx ht hG hA hp hNX
  unfold encR
  rw [show encC c = .agg (cellsC c) from rfl]
  unfold cellsC
  go_enter Try.func21, Try.ntmps21
  go_upto_region 1 with (fail)
  refine wp_gen (fun V => BoxC V w.heap.size c ∧ BoxR V (w.heap.size + 1) r ∧ BoxA V (w.heap.size + 1 + 1) nothing ∧ Below w.heap.size w V) (chain3 w _ _ _) ?_
  rintro V ⟨hc, hr, ho, hlw⟩
  have HC := Lib.hid hc
  have HR := Lib.hid hr
  have HO := Lib.hid ho
  have HW := Lib.hid hlw
  clear hc hr ho hlw
  refine wp_region_held_drew (S := fun V => BoxC V w.heap.size c ∧ BoxR V (w.heap.size + 1) r ∧ BoxA V (w.heap.size + 1 + 1) nothing ∧ Below w.heap.size w V) (by kernel_rfl) ⟨HC.out, HR.out, HO.out, HW.out.drew⟩ (fun _ => ?_)
  refine HeldBy.gen (fun V => BoxC V w.heap.size c ∧ BoxR V (w.heap.size + 1) r ∧ BoxA V (w.heap.size + 1 + 1) nothing ∧ Below w.heap.size w V) ⟨HC.out, HR.out, HO.out, HW.out.drew⟩ ?_
  clear HC HR HO HW
  rintro U0 HS
  refine HeldBy.take (i := 0) rfl (by kernel_rfl) (by kernel_rfl) (by kernel_rfl) (fun _ _ _ h => h) (by rfl) (fun _ _ => by first | (go_simp; rfl) | (go_simp; done)) (by go_simp; rfl) HS ?_
  refine HeldBy.take (i := 1) rfl (by kernel_rfl) (by kernel_rfl) (by kernel_rfl) (fun _ _ _ h => h) (by rfl) (fun _ _ => by first | (go_simp; rfl) | (go_simp; done)) (by go_simp; rfl) HS ?_
  refine HeldBy.take (i := 2) rfl (by kernel_rfl) (by kernel_rfl) (by kernel_rfl) (fun _ _ _ h => h) (by rfl) (fun _ _ => by first | (go_simp; rfl) | (go_simp; done)) (by go_simp; rfl) HS ?_
  refine HeldBy.take (i := 3) (v := .string c.target) rfl (by kernel_rfl) (by kernel_rfl) (by kernel_rfl) (fun _ _ _ h => h) (by rfl) (fun V hV => by have h := hV.1.cells.2; first | (go_simp; rfl) | (go_simp; done)) (by go_simp; rfl) HS ?_
  refine HeldBy.take (i := 5) (v := encC c) rfl (by kernel_rfl) (by kernel_rfl) (by kernel_rfl) (fun _ _ _ h => h) (by rfl) (fun V hV => load_call hV.1 rfl rfl) (by go_simp; rfl) HS ?_
  refine HeldBy.call (i := 4) (v := encA G) rfl (by kernel_rfl) (by rfl) (by go_simp; exact ⟨rfl, rfl⟩) (by go_simp; rfl) ?_
  refine (HN.out _ (HL.out.after HS.2.2.2)).mono ?_
  rintro e U1 ⟨rfl, hb⟩
  replace HS : BoxC U1 w.heap.size c ∧ BoxR U1 (w.heap.size + 1) r ∧ BoxA U1 (w.heap.size + 1 + 1) nothing ∧ Below w.heap.size w U1 := ⟨HS.1.after hb, HS.2.1.after hb, HS.2.2.1.after hb, HS.2.2.2.trans (hb.mono HS.2.2.2.size)⟩
  refine ⟨rfl, HS, ?_⟩
  clear hb
  refine HeldBy.call (i := 6) (v := encA (askA c)) rfl (by kernel_rfl) (by rfl) (by go_simp; exact ⟨rfl, rfl⟩) (by go_simp; rfl) ?_
  refine (ask_any c _).mono ?_
  rintro e U2 ⟨rfl, hb⟩
  replace HS : BoxC U2 w.heap.size c ∧ BoxR U2 (w.heap.size + 1) r ∧ BoxA U2 (w.heap.size + 1 + 1) nothing ∧ Below w.heap.size w U2 := ⟨HS.1.after hb, HS.2.1.after hb, HS.2.2.1.after hb, HS.2.2.2.trans (hb.mono HS.2.2.2.size)⟩
  refine ⟨rfl, HS, ?_⟩
  clear hb
  refine HeldBy.take (i := 7) (v := .bool (!t)) rfl (by kernel_rfl) (by kernel_rfl) (by kernel_rfl) (fun _ _ _ h => h) (by rfl) (fun V _ => by rw [← HTT.out]; exact exec_neq_act rfl rfl rfl) (by go_simp; rfl) HS ?_
  refine wpAnyH_done (by kernel_rfl) ?_ _
  obtain ⟨hc, hr, ho, hlw⟩ := HS
  cases t with
  | true =>
    have hxx := HXX.out
    rw [if_pos (of_decide_eq_true HTT.out)] at hxx
    have HXX := Lib.hid hxx
    have HC := Lib.hid hc
    have HR := Lib.hid hr
    have HO := Lib.hid ho
    have HW := Lib.hid hlw
    clear hxx HTT hc hr ho hlw HN
    go_upto_region 4 with (fail)
    refine wp_region_held_drew (S := fun V => BoxC V w.heap.size c ∧ BoxR V (w.heap.size + 1) r ∧ BoxA V (w.heap.size + 1 + 1) nothing ∧ Below w.heap.size w V) (by kernel_rfl) ⟨HC.out, HR.out, HO.out, HW.out.drew⟩ (fun _ => ?_)
    refine HeldBy.gen (fun V => BoxC V w.heap.size c ∧ BoxR V (w.heap.size + 1) r ∧ BoxA V (w.heap.size + 1 + 1) nothing ∧ Below w.heap.size w V) ⟨HC.out, HR.out, HO.out, HW.out.drew⟩ ?_
    clear HC HR HO HW
    rintro U0 HS
    have HSS : ∀ V, Below U0.heap.size U0 V → BoxC V w.heap.size c ∧ BoxR V (w.heap.size + 1) r ∧ BoxA V (w.heap.size + 1 + 1) nothing ∧ Below w.heap.size w V := fun V hb => ⟨HS.1.after hb, HS.2.1.after hb, HS.2.2.1.after hb, HS.2.2.2.trans (hb.mono HS.2.2.2.size)⟩
    refine HeldBy.take (i := 0) rfl (by kernel_rfl) (by kernel_rfl) (by kernel_rfl) (fun _ _ _ h => h) (by rfl) (fun _ _ => by first | (go_simp; rfl) | (go_simp; done)) (by go_simp; rfl) HS ?_
    refine HeldBy.take (i := 1) rfl (by kernel_rfl) (by kernel_rfl) (by kernel_rfl) (fun _ _ _ h => h) (by rfl) (fun _ _ => by first | (go_simp; rfl) | (go_simp; done)) (by go_simp; rfl) HS ?_
    refine HeldBy.take (i := 2) (v := .string c.target) rfl (by kernel_rfl) (by kernel_rfl) (by kernel_rfl) (fun _ _ _ h => h) (by rfl) (fun V hV => by have h := hV.1.cells.2; first | (go_simp; rfl) | (go_simp; done)) (by go_simp; rfl) HS ?_
    refine HeldBy.take (i := 4) (v := encC c) rfl (by kernel_rfl) (by kernel_rfl) (by kernel_rfl) (fun _ _ _ h => h) (by rfl) (fun V hV => load_call hV.1 rfl rfl) (by go_simp; rfl) HS ?_
    refine with_act (fun a0 ha0 => ?_)
    refine HeldBy.Flow1.bare (R := U0.heap.size) (f := flO) (A := fun a w => a = a0 ∧ Below U0.heap.size U0 w) ?_ a0 U0 ⟨rfl, Below.refl _ _⟩
    refine HeldBy.Flow1.step (i := 3) (A' := fun a w => ∃ av, a = a0.put (some 25) av ∧ OutIn w U0.heap.size av A ∧ Below U0.heap.size U0 w)
      rfl rfl rfl rfl rfl rfl (by kernel_rfl) (by kernel_rfl) (by decide) (by kernel_rfl) (fun a w _ => makes_o rfl a w) (fun a w h => ⟨h.1, h.2.alloc h.2.size _⟩) (fun a w h => HSS w h.2) (fun a w h => HSS w h.choose_spec.2.2) (fun a w h => h.2.size) ?s3 ?_
    case s3 =>
      rintro a w ⟨ha, hb⟩
      subst ha
      refine .inr ⟨17, #[.slice o l.length cp, .string c.target], ?_, (HK.out w (HL.out.after (HSS w hb).2.2.2)).mono ?_⟩
      · rw [ha0]
        first | (go_simp; done) | (go_simp; first | exact ⟨rfl, rfl⟩ | rfl)
      · rintro e w' ⟨A', av, rfl, rfl, hA', hb'⟩
        exact ⟨_, rfl, ⟨av, rfl, out_low hA' hb.size, hb.trans (hb'.mono hb.size)⟩, fun p' hp' hx' => (hb'.block p' (Array.getElem?_eq_some_iff.1 hx').1).trans hx'⟩
    refine HeldBy.Flow1.step (i := 5) (A' := fun a w => ∃ av, a = (a0.put (some 25) av).put (some 27) (encO p) ∧ Below U0.heap.size U0 w)
      rfl rfl rfl rfl rfl rfl (by kernel_rfl) (by kernel_rfl) (by decide) (by kernel_rfl) (fun a w _ => makes_o rfl a w) (fun a w h => ?a5) (fun a w h => HSS w h.choose_spec.2.2) (fun a w h => HSS w h.choose_spec.2) (fun a w h => h.choose_spec.2.2.size) ?s5 ?_
    case a5 =>
      obtain ⟨av, h1, h2, h3⟩ := h
      have hal : Below w.heap.size w (w.alloc flO.x) := (Below.refl _ _).alloc (Nat.le_refl _) _
      exact ⟨av, h1, h2.after hal, h3.trans (hal.mono h3.size)⟩
    case s5 =>
      rintro a w ⟨av, h1, h2, h3⟩
      subst h1
      refine .inr ⟨45, #[av, encC c], ?_, (HKA.out w av (h2.objs (by have := HNA.out; omega))).mono ?_⟩
      · rw [ha0]
        first | (go_simp; done) | (go_simp; first | exact ⟨rfl, rfl⟩ | rfl)
      · rintro e w' ⟨rfl, hb⟩
        exact ⟨_, rfl, ⟨av, rfl, h3.trans (hb.mono h3.size)⟩, fun p' hp' hx' => (hb.block p' (Array.getElem?_eq_some_iff.1 hx').1).trans hx'⟩
    refine HeldBy.Flow1.nil rfl rfl rfl (by kernel_rfl) (fun a w _ => makes_o rfl a w) (fun a w h => ?a6) (fun a w h => HSS w h.choose_spec.2) (fun a w h => h.choose_spec.2.size) rfl ?_
    case a6 =>
      obtain ⟨av, h1, h2⟩ := h
      exact ⟨av, h1, h2.alloc h2.size _⟩
    rintro a w0 pb ⟨av, ha, hb⟩ hp hx
    subst ha
    have hxo : BoxO w0 pb O0 := hx
    obtain ⟨V5, sv, bv, ov, lv⟩ := storing hxo p
    have hV := lv _ _ hb hp
    have HNE := Lib.hid (show w.heap.size + 1 + 1 < pb from Nat.lt_of_lt_of_le HS.2.2.1.lt hp)
    rw [ha0]
    refine HeldBy.store (i := 7) (w' := V5) rfl (by kernel_rfl) (by rfl) (sv rfl rfl rfl) (by unfold flO HeldBy.ptr; go_simp; rfl) (HSS V5 hV) ?_
    refine wpAnyH_done (by kernel_rfl) ?_ _
    obtain ⟨hc, hr, ho, hlw⟩ := HSS V5 hV
    have HB := Lib.hid bv
    have HO := Lib.hid ho
    have HW := Lib.hid hlw
    obtain ⟨r0, r1, r3⟩ := hr.cells
    have c0 := hc.verb
    clear hxo hx hp hb sv bv ov lv hV HSS HS ha0 hc hr ho hlw HL HK HKA HNA
    unfold behindA at HXX
    by_cases h9 : r.err = 9
    · have e9 : (r.err == 9) = true := by simpa using h9
      have HVV : Hid (x = writeA { p with num := NX }) := HXX.out.symm.trans (if_pos h9)
      clear h9 HXX
      have g18 := HB.out.free 18
      have b18 := HB.out.c18
      go_upto_region 14 with (fail)
      refine wp_gen (fun V => BoxO V pb { p with num := NX } ∧ BoxA V (w.heap.size + 1 + 1) nothing ∧ Below w.heap.size w V) ⟨(HB.out).s18 NX, (heap_setCell_other _ ⟨pb, 18, none⟩ (w.heap.size + 1 + 1) _ (by have := HNE.out; show w.heap.size + 1 + 1 ≠ pb; omega)).trans (HO.out), (HW.out).setCell (by have := HNE.out; show w.heap.size ≤ pb; omega) _⟩ ?_
      clear HB HO HW r0 r1 r3 c0 g18 b18
      rintro V6 ⟨hbx, ho, hlw⟩
      have HCA := Lib.hid (write_any { p with num := NX } V6)
      have HO := Lib.hid ho
      have HW := Lib.hid hlw
      clear ho hlw
      go_wp2_with ((with_reducible refine wpList_load_obj ?_ rfl ?_ hbx ?_); rfl; rfl)
      refine HCA.out.mono ?_
      rintro e W7 ⟨rfl, hb7⟩
      obtain ⟨V8, hst8, ho8, -, hb8⟩ := acting (HO.out.after hb7) (writeA { p with num := NX })
      have HO8 := Lib.hid ho8
      have HX8 := Lib.hid (hb8 _ _ (HW.out.trans (hb7.mono HW.out.size)) (by omega))
      clear ho8 hb8 HCA HO HW hb7 hbx
      go_wp2_with (first | (refine wpList_skip rfl (hst8 rfl rfl rfl) ?_))
      refine bodyPost_ret (v := encA (writeA { p with num := NX })) (results_cell_row rfl _ _ (w.heap.size + 1 + 1) 42 (cellsA (writeA { p with num := NX })) (0, 0) _ rfl HO8.out undAct rfl sizeAct) rfl ?_
      exact ⟨by rw [HVV.out], HX8.out⟩
    · have e9 : (r.err == 9) = false := by simpa using h9
      have HX2 := Lib.hid (HXX.out.symm.trans (if_neg h9))
      clear h9 HXX
      by_cases h0 : r.err = 0
      · have e0 : (r.err == 0) = true := by simpa using h0
        have e5 : (r.err == 5) = false := by rw [h0]; rfl
        by_cases v3 : c.verb = 3
        · have y3 : (c.verb == 3) = true := by simpa using v3
          have HVV : Hid (x = writeA { p with phase := 8, num := 0 }) := HX2.out.trans (if_pos ⟨h0, v3⟩)
          clear h0 v3 HX2
          have g17 := HB.out.free 17
          have b17 := HB.out.c17
          have g18 := HB.out.free 18
          have b18 := HB.out.c18
          go_upto_region 14 with (fail)
          refine wp_gen (fun V => BoxO V pb { p with phase := 8, num := 0 } ∧ BoxA V (w.heap.size + 1 + 1) nothing ∧ Below w.heap.size w V) ⟨((HB.out).s17 8).s18 0, (heap_setCell_other _ ⟨pb, 18, none⟩ (w.heap.size + 1 + 1) _ (by have := HNE.out; show w.heap.size + 1 + 1 ≠ pb; omega)).trans ((heap_setCell_other _ ⟨pb, 17, none⟩ (w.heap.size + 1 + 1) _ (by have := HNE.out; show w.heap.size + 1 + 1 ≠ pb; omega)).trans (HO.out)), ((HW.out).setCell (by have := HNE.out; show w.heap.size ≤ pb; omega) _).setCell (by have := HNE.out; show w.heap.size ≤ pb; omega) _⟩ ?_
          clear HB HO HW r0 r1 r3 c0 g17 b17 g18 b18
          rintro V6 ⟨hbx, ho, hlw⟩
          have HCA := Lib.hid (write_any { p with phase := 8, num := 0 } V6)
          have HO := Lib.hid ho
          have HW := Lib.hid hlw
          clear ho hlw
          go_wp2_with ((with_reducible refine wpList_load_obj ?_ rfl ?_ hbx ?_); rfl; rfl)
          refine HCA.out.mono ?_
          rintro e W7 ⟨rfl, hb7⟩
          obtain ⟨V8, hst8, ho8, -, hb8⟩ := acting (HO.out.after hb7) (writeA { p with phase := 8, num := 0 })
          have HO8 := Lib.hid ho8
          have HX8 := Lib.hid (hb8 _ _ (HW.out.trans (hb7.mono HW.out.size)) (by omega))
          clear ho8 hb8 HCA HO HW hb7 hbx
          go_wp2_with (first | (refine wpList_skip rfl (hst8 rfl rfl rfl) ?_))
          refine bodyPost_ret (v := encA (writeA { p with phase := 8, num := 0 })) (results_cell_row rfl _ _ (w.heap.size + 1 + 1) 42 (cellsA (writeA { p with phase := 8, num := 0 })) (0, 0) _ rfl HO8.out undAct rfl sizeAct) rfl ?_
          exact ⟨by rw [HVV.out], HX8.out⟩
        · have y3 : (c.verb == 3) = false := by simpa using v3
          have HX3 := Lib.hid (HX2.out.trans (if_neg (fun h => v3 h.2)))
          clear HX2
          by_cases v4 : c.verb = 4
          · have y4 : (c.verb == 4) = true := by simpa using v4
            have HVV : Hid (x = removeA p) := HX3.out.trans (if_pos ⟨h0, v4⟩)
            clear h0 v3 v4 HX3
            have hbx := HB.out
            have HCA := Lib.hid (remove_any p V5)
            go_wp2_with ((with_reducible refine wpList_load_obj ?_ rfl ?_ hbx ?_); rfl; rfl)
            refine HCA.out.mono ?_
            rintro e W7 ⟨rfl, hb7⟩
            obtain ⟨V8, hst8, ho8, -, hb8⟩ := acting (HO.out.after hb7) (removeA p)
            have HO8 := Lib.hid ho8
            have HX8 := Lib.hid (hb8 _ _ (HW.out.trans (hb7.mono HW.out.size)) (by omega))
            clear ho8 hb8 HCA HO HW hb7 hbx HB
            go_wp2_with (first | (refine wpList_skip rfl (hst8 rfl rfl rfl) ?_))
            refine bodyPost_ret (v := encA (removeA p)) (results_cell_row rfl _ _ (w.heap.size + 1 + 1) 42 (cellsA (removeA p)) (0, 0) _ rfl HO8.out undAct rfl sizeAct) rfl ?_
            exact ⟨by rw [HVV.out], HX8.out⟩
          · have y4 : (c.verb == 4) = false := by simpa using v4
            have HVV : Hid (x = nothing) := by
              refine HX3.out.trans ((if_neg (fun h => v4 h.2)).trans (if_neg (fun h => ?_)))
              have h1 := h.1
              omega
            clear h0 v3 v4 HX3 HB
            obtain ⟨V8, hst8, ho8, -, hb8⟩ := acting (HO.out) (nothing)
            have HO8 := Lib.hid ho8
            have HX8 := Lib.hid (hb8 _ _ (HW.out) (by omega))
            clear ho8 hb8 
            go_wp2_with (first | (refine wpList_skip rfl (hst8 rfl rfl rfl) ?_) | ((with_reducible refine wpList_build_to rfl 42 _ rfl (cellsA nothing) ?_ ?_); exact built_act0))
            refine bodyPost_ret (v := encA (nothing)) (results_cell_row rfl _ _ (w.heap.size + 1 + 1) 42 (cellsA (nothing)) (0, 0) _ rfl HO8.out undAct rfl sizeAct) rfl ?_
            exact ⟨by rw [HVV.out], HX8.out⟩
      · have e0 : (r.err == 0) = false := by simpa using h0
        have HX3 := Lib.hid (HX2.out.trans ((if_neg (fun h => h0 h.1)).trans (if_neg (fun h => h0 h.1))))
        clear h0 HX2
        by_cases h5 : r.err = 5
        · have e5 : (r.err == 5) = true := by simpa using h5
          by_cases v3 : c.verb = 3
          · have y3 : (c.verb == 3) = true := by simpa using v3
            have HVV : Hid (x = writeA { p with phase := 9, num := NX }) := HX3.out.trans (if_pos ⟨h5, v3⟩)
            clear h5 v3 HX3
            have g17 := HB.out.free 17
            have b17 := HB.out.c17
            have g18 := HB.out.free 18
            have b18 := HB.out.c18
            go_upto_region 14 with (fail)
            refine wp_gen (fun V => BoxO V pb { p with phase := 9, num := NX } ∧ BoxA V (w.heap.size + 1 + 1) nothing ∧ Below w.heap.size w V) ⟨((HB.out).s17 9).s18 NX, (heap_setCell_other _ ⟨pb, 18, none⟩ (w.heap.size + 1 + 1) _ (by have := HNE.out; show w.heap.size + 1 + 1 ≠ pb; omega)).trans ((heap_setCell_other _ ⟨pb, 17, none⟩ (w.heap.size + 1 + 1) _ (by have := HNE.out; show w.heap.size + 1 + 1 ≠ pb; omega)).trans (HO.out)), ((HW.out).setCell (by have := HNE.out; show w.heap.size ≤ pb; omega) _).setCell (by have := HNE.out; show w.heap.size ≤ pb; omega) _⟩ ?_
            clear HB HO HW r0 r1 r3 c0 g17 b17 g18 b18
            rintro V6 ⟨hbx, ho, hlw⟩
            have HCA := Lib.hid (write_any { p with phase := 9, num := NX } V6)
            have HO := Lib.hid ho
            have HW := Lib.hid hlw
            clear ho hlw
            go_wp2_with ((with_reducible refine wpList_load_obj ?_ rfl ?_ hbx ?_); rfl; rfl)
            refine HCA.out.mono ?_
            rintro e W7 ⟨rfl, hb7⟩
            obtain ⟨V8, hst8, ho8, -, hb8⟩ := acting (HO.out.after hb7) (writeA { p with phase := 9, num := NX })
            have HO8 := Lib.hid ho8
            have HX8 := Lib.hid (hb8 _ _ (HW.out.trans (hb7.mono HW.out.size)) (by omega))
            clear ho8 hb8 HCA HO HW hb7 hbx
            go_wp2_with (first | (refine wpList_skip rfl (hst8 rfl rfl rfl) ?_))
            refine bodyPost_ret (v := encA (writeA { p with phase := 9, num := NX })) (results_cell_row rfl _ _ (w.heap.size + 1 + 1) 42 (cellsA (writeA { p with phase := 9, num := NX })) (0, 0) _ rfl HO8.out undAct rfl sizeAct) rfl ?_
            exact ⟨by rw [HVV.out], HX8.out⟩
          · have y3 : (c.verb == 3) = false := by simpa using v3
            have HVV : Hid (x = nothing) := HX3.out.trans (if_neg (fun h => v3 h.2))
            clear h5 v3 HX3 HB
            obtain ⟨V8, hst8, ho8, -, hb8⟩ := acting (HO.out) (nothing)
            have HO8 := Lib.hid ho8
            have HX8 := Lib.hid (hb8 _ _ (HW.out) (by omega))
            clear ho8 hb8 
            go_wp2_with (first | (refine wpList_skip rfl (hst8 rfl rfl rfl) ?_) | ((with_reducible refine wpList_build_to rfl 42 _ rfl (cellsA nothing) ?_ ?_); exact built_act0))
            refine bodyPost_ret (v := encA (nothing)) (results_cell_row rfl _ _ (w.heap.size + 1 + 1) 42 (cellsA (nothing)) (0, 0) _ rfl HO8.out undAct rfl sizeAct) rfl ?_
            exact ⟨by rw [HVV.out], HX8.out⟩
        · have e5 : (r.err == 5) = false := by simpa using h5
          have HVV : Hid (x = nothing) := HX3.out.trans (if_neg (fun h => h5 h.1))
          clear h5 HX3 HB
          obtain ⟨V8, hst8, ho8, -, hb8⟩ := acting (HO.out) (nothing)
          have HO8 := Lib.hid ho8
          have HX8 := Lib.hid (hb8 _ _ (HW.out) (by omega))
          clear ho8 hb8 
          go_wp2_with (first | (refine wpList_skip rfl (hst8 rfl rfl rfl) ?_) | ((with_reducible refine wpList_build_to rfl 42 _ rfl (cellsA nothing) ?_ ?_); exact built_act0))
          refine bodyPost_ret (v := encA (nothing)) (results_cell_row rfl _ _ (w.heap.size + 1 + 1) 42 (cellsA (nothing)) (0, 0) _ rfl HO8.out undAct rfl sizeAct) rfl ?_
          exact ⟨by rw [HVV.out], HX8.out⟩
  | false =>
    have HVV : Hid (x = nothing) := by
      show _ = _
      rw [← HXX.out, if_neg (of_decide_eq_false HTT.out)]
    have HO := Lib.hid ho
    have HW := Lib.hid hlw
    clear HXX HTT hc hr ho hlw HL HK HKA HN HNA
    obtain ⟨V8, hst8, ho8, -, hb8⟩ := acting (HO.out) (nothing)
    have HO8 := Lib.hid ho8
    have HX8 := Lib.hid (hb8 _ _ (HW.out) (by omega))
    clear ho8 hb8 
    go_wp2_with (first | (refine wpList_skip rfl (hst8 rfl rfl rfl) ?_) | ((with_reducible refine wpList_build_to rfl 42 _ rfl (cellsA nothing) ?_ ?_); exact built_act0))
    refine bodyPost_ret (v := encA (nothing)) (results_cell_row rfl _ _ (w.heap.size + 1 + 1) 42 (cellsA (nothing)) (0, 0) _ rfl HO8.out undAct rfl sizeAct) rfl ?_
    exact ⟨by rw [HVV.out], HX8.out⟩
end Go.Proofs.Ytigoghhjncpgfaa.O.B
