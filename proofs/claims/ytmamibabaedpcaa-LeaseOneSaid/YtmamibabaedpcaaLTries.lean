/- LeaseTries: its walk. -/
import Derived.Test.YtmamibabaedpcaaLGives
import Derived.Test.YtmamibabaedpcaaHeldChain
namespace Go.Proofs.Ytmamibabaedpcaa.L
open Go.RowKit T O
open Go.Lib

theorem then_gen {K : Act → World → Prop} {Q : Exit → Act → World → Prop} {e : Exit} {a : Act} {W : World} (F : World → Prop) (hF : F W) (h : ∀ W1, F W1 → Exit.then K Q e a W1) : Exit.then K Q e a W := h W hF
theorem makes_rz {oi : Oper} (ho : oi.op = .alloc 30) : HeldBy.Makes Try.prog oi (.cells (cellsL Lz0) 30 (0, 0)) := by
  intro a w
  unfold execOp
  simp only [ho]
  kernel_rfl
theorem makes_lz {oi : Oper} (ho : oi.op = .alloc 24) : HeldBy.Makes Try.prog oi (.cells (cellsL Lz0) 24 (0, 0)) := by
  intro a w
  unfold execOp
  simp only [ho]
  kernel_rfl
theorem store_rz {W : World} {b : Nat} {x y : Lz} (h : BoxR W b x) {oi : Oper} {a : Act} {p q : Operand} (ho : oi.op = .store 30 p q) (hx : a.eval p = .pointer (some ⟨b, 0, none⟩)) (hy : a.eval q = .agg (cellsL y)) :
    (execOp a.eval oi).run Try.prog W = .ok .skip (W.setRow b (cellsL y)) := by
  have hq := run_storeVar_row (P := Try.prog) W b 30 30 (cellsL x) (cellsL y) h sizeR rfl (one_L _)
  unfold execOp
  simp only [ho, hx, hy, Instr.storeAt, Instr.sureAddr, Sem.run_bind, Sem.run_pure, Result.andThen_ok, hq]
theorem BoxR.row {W : World} {b g : Nat} {x : Lz} (h : BoxR W b x) (hp : b ≠ g) (cs : Array Value) : BoxR (W.setRow g cs) b x := (setRow_other W g b cs hp).trans h
theorem refTry_at {x : Lz} {who : ByteArray} {now span : Int} {r : Lz} {n : Int} (h : tryL x who now span = (r, n)) (w : World) (hw : who.size ≤ 9223372036854775807) (hn : 0 ≤ now) :
    Calls Try.prog 12 #[encL x, .string who, .int .u64 now, .int .u64 span] w fun e w' => e = .returned (.tuple #[encL r, .int .i64 n]) ∧ Below w.heap.size w w' := by
  have := refTry_any x who now span w hw hn
  rw [h] at this
  exact this
theorem refRel_at {x : Lz} {who : ByteArray} {r : Lz} {n : Int} (h : relL x who = (r, n)) (w : World) :
    Calls Try.prog 15 #[encL x, .string who] w fun e w' => e = .returned (.tuple #[encL r, .int .i64 n]) ∧ Below w.heap.size w w' := by
  have := refRel_any x who w
  rw [h] at this
  exact this

set_option maxRecDepth 100000 in
set_option maxHeartbeats 4000000 in
theorem leaseTries_any (l : Lz) (x : Ask) (fx : FitA x) (w : World) : Calls Try.prog 3 #[encL l, encA x] w fun e w' => e = .returned (.bool true) ∧ Below w.heap.size w w' := by
  have hs0 := fx.span.1
  have hn0 := fx.now.1
  have hwz := fx.who
  obtain ⟨R, n, hT⟩ : ∃ R n, tryL l x.who x.now x.span = (R, n) := ⟨_, _, rfl⟩
  obtain ⟨R2, m, hE⟩ : ∃ R n, relL l x.who = (R, n) := ⟨_, _, rfl⟩
  have HT := Lib.hid hT
  have HE := Lib.hid hE
  clear hT hE fx
  unfold encL encA
  go_enter Try.func3, Try.ntmps3
  go_upto_region 1 with (fail)
  refine wp_gen (fun W => BoxL W w.heap.size l ∧ BoxA W (w.heap.size + 1) x ∧ Below w.heap.size w W) ⟨(BoxL.new w l).alloc _, heap2 w _ _, ((Below.refl _ _).alloc (Nat.le_refl _) _).alloc (by simp) _⟩ ?_
  rintro W ⟨hl, hx, hlow⟩
  have HL := Lib.hid hlow
  have HK := Lib.hid hl
  have HX := Lib.hid hx
  have k0 := hl.c0
  have k1 := hl.c1
  have k2 := hl.c2
  have c0 := hx.c0
  have c1 := hx.c1
  have c2 := hx.c2
  clear hlow hl hx
  go_wp2_with fail
  refine (try_at HT.out _ hn0 hs0).mono ?_
  rintro e W1 ⟨rfl, hb⟩
  clear k0 k1 k2 c0 c1 c2
  replace HL := Lib.hid (HL.out.trans (hb.mono HL.out.size))
  replace HK := Lib.hid (HK.out.after hb)
  replace HX := Lib.hid (HX.out.after hb)
  have hn1 := BoxL.new W1 Lz0
  clear hb
  unfold encL
  go_upto_region 2 with ((with_reducible refine wpList_store_rowTo rfl 24 _ _ rfl rfl W1.heap.size (cellsL R) ?_ ?_ 24 (cellsL Lz0) ?_ ?_ ?_ ?_ ?_); rfl; rfl; exact hn1; exact sizeL; rfl; exact one_L _)
  refine wp_gen (fun V => BoxL V W1.heap.size R ∧ BoxL V w.heap.size l ∧ BoxA V (w.heap.size + 1) x ∧ Below w.heap.size w V) ⟨hn1.setRow _, (HK.out.alloc _).row (by have := HK.out.lt; omega) _, (HX.out.alloc _).row (by have := HX.out.lt; omega) _, below_setRow (HL.out.alloc HL.out.size _) HL.out.size _⟩ ?_
  clear HL HK HX hn1
  rintro V ⟨ha, hl, hx, hlow⟩
  generalize W1.heap.size = b1 at *
  have HL := Lib.hid hlow
  have HK := Lib.hid hl
  have HX := Lib.hid hx
  have HA := Lib.hid ha
  clear hlow hl hx ha
  refine wp_region_held_drew (S := fun V => BoxL V b1 R ∧ BoxL V w.heap.size l ∧ BoxA V (w.heap.size + 1) x ∧ Below w.heap.size w V) (by kernel_rfl) ⟨HA.out, HK.out, HX.out, HL.out.drew⟩ (fun _ => ?_)
  refine HeldBy.gen (fun V => BoxL V b1 R ∧ BoxL V w.heap.size l ∧ BoxA V (w.heap.size + 1) x ∧ Below w.heap.size w V) ⟨HA.out, HK.out, HX.out, HL.out.drew⟩ ?_
  clear HA HK HX HL
  rintro U0 HS
  refine HeldBy.take (i := 0) rfl (by kernel_rfl) (by kernel_rfl) (by kernel_rfl) (fun _ _ _ h => h) (by rfl) (fun V hV => by have h0 := hV.2.1.c0; have h1 := hV.2.1.c1; have h2 := hV.2.1.c2; first | (go_simp; rfl) | (go_simp; done)) (by go_simp; rfl) HS ?_
  refine HeldBy.take (i := 2) rfl (by kernel_rfl) (by kernel_rfl) (by kernel_rfl) (fun _ _ _ h => h) (by rfl) (fun _ _ => by first | (go_simp; rfl) | (go_simp; done)) (by go_simp; rfl) HS ?_
  refine HeldBy.take (i := 3) rfl (by kernel_rfl) (by kernel_rfl) (by kernel_rfl) (fun _ _ _ h => h) (by rfl) (fun V hV => by have hc := hV.2.2.1.c0; first | (go_simp; rfl) | (go_simp; done)) (by go_simp; rfl) HS ?_
  refine HeldBy.take (i := 4) rfl (by kernel_rfl) (by kernel_rfl) (by kernel_rfl) (fun _ _ _ h => h) (by rfl) (fun _ _ => by first | (go_simp; rfl) | (go_simp; done)) (by go_simp; rfl) HS ?_
  refine HeldBy.take (i := 5) rfl (by kernel_rfl) (by kernel_rfl) (by kernel_rfl) (fun _ _ _ h => h) (by rfl) (fun V hV => by have hc := hV.2.2.1.c1; first | (go_simp; rfl) | (go_simp; done)) (by go_simp; rfl) HS ?_
  refine HeldBy.take (i := 6) rfl (by kernel_rfl) (by kernel_rfl) (by kernel_rfl) (fun _ _ _ h => h) (by rfl) (fun _ _ => by first | (go_simp; rfl) | (go_simp; done)) (by go_simp; rfl) HS ?_
  refine HeldBy.take (i := 7) rfl (by kernel_rfl) (by kernel_rfl) (by kernel_rfl) (fun _ _ _ h => h) (by rfl) (fun V hV => by have hc := hV.2.2.1.c2; first | (go_simp; rfl) | (go_simp; done)) (by go_simp; rfl) HS ?_
  have HSS : ∀ w', Below U0.heap.size U0 w' → (BoxL w' b1 R ∧ BoxL w' w.heap.size l ∧ BoxA w' (w.heap.size + 1) x ∧ Below w.heap.size w w') := fun w' hb => ⟨HS.1.after hb, HS.2.1.after hb, HS.2.2.1.after hb, HS.2.2.2.trans (hb.mono HS.2.2.2.size)⟩
  refine HeldBy.Goes.without (w0 := U0) (k := 12) (dk := some 7) (x := .cells (cellsL Lz0) 30 (0, 0)) ?_ U0 (Below.refl _ _)
  refine HeldBy.Goes.call (i := 1) (v := encL l) rfl rfl rfl rfl (makes_rz rfl) rfl (by kernel_rfl) (by kernel_rfl) rfl (by decide) (by kernel_rfl) (by intro w; first | (go_simp; done) | (go_simp; first | exact ⟨rfl, rfl⟩ | rfl)) (by first | (go_simp; rfl) | (go_simp; done)) HSS (fun _ => ref_any l _) ?_
  refine HeldBy.Goes.call (i := 8) (v := .tuple #[encL R, .int .i64 n]) rfl rfl rfl rfl (makes_rz rfl) rfl (by kernel_rfl) (by kernel_rfl) rfl (by decide) (by kernel_rfl) (by intro w; first | (go_simp; done) | (go_simp; first | exact ⟨rfl, rfl⟩ | rfl)) (by first | (go_simp; rfl) | (go_simp; done)) HSS (fun _ => refTry_at HT.out _ hwz hn0) ?_
  refine HeldBy.Goes.take (i := 9) rfl (by kernel_rfl) rfl (by kernel_rfl) (by kernel_rfl) (by kernel_rfl) (by kernel_rfl) (fun _ _ _ h => h) rfl (by decide) (by kernel_rfl) (fun _ _ => by first | (go_simp; rfl) | (go_simp; done)) (by first | (go_simp; rfl) | (go_simp; done)) HSS ?_
  refine HeldBy.Goes.take (i := 10) rfl (by kernel_rfl) rfl (by kernel_rfl) (by kernel_rfl) (by kernel_rfl) (by kernel_rfl) (fun _ _ _ h => h) rfl (by decide) (by kernel_rfl) (fun _ _ => by first | (go_simp; rfl) | (go_simp; done)) (by first | (go_simp; rfl) | (go_simp; done)) HSS ?_
  refine HeldBy.Goes.take (i := 11) rfl (by kernel_rfl) rfl (by kernel_rfl) (by kernel_rfl) (by kernel_rfl) (by kernel_rfl) (fun _ _ _ h => h) rfl (by decide) (by kernel_rfl) (fun _ _ => by first | (go_simp; rfl) | (go_simp; done)) (by first | (go_simp; rfl) | (go_simp; done)) HSS ?_
  refine HeldBy.Goes.nil rfl rfl (by kernel_rfl) rfl (makes_rz rfl) HSS rfl (fun p => by unfold HeldBy.ptr; go_simp; rfl) ?_
  intro p U1 hp hb hn
  have hS := HSS U1 hb
  have hlt := HS.1.lt
  have hlt2 := HS.2.1.lt
  have hlt3 := HS.2.2.1.lt
  have hr : BoxR U1 p Lz0 := hn
  refine HeldBy.store (i := 13) (w' := U1.setRow p (cellsL R)) rfl (by kernel_rfl) (by rfl) (store_rz (y := R) hr rfl rfl rfl) (by go_simp; rfl) ⟨hS.1.row (by omega) _, hS.2.1.row (by omega) _, hS.2.2.1.row (by omega) _, below_setRow hS.2.2.2 (by omega) _⟩ ?_
  refine HeldBy.take (i := 14) rfl (by kernel_rfl) (by kernel_rfl) (by kernel_rfl) (fun _ _ _ h => h) (by rfl) (fun _ _ => by first | (go_simp; rfl) | (go_simp; done)) (by first | (go_simp; rfl) | (go_simp; done)) ⟨hS.1.row (by omega) _, hS.2.1.row (by omega) _, hS.2.2.1.row (by omega) _, below_setRow hS.2.2.2 (by omega) _⟩ ?_
  refine wpAnyH_done (by kernel_rfl) ?_ _
  refine then_gen (fun V => BoxR V p R ∧ BoxL V b1 R ∧ BoxL V w.heap.size l ∧ BoxA V (w.heap.size + 1) x ∧ Below w.heap.size w V) ⟨hr.setRow R, hS.1.row (by omega) _, hS.2.1.row (by omega) _, hS.2.2.1.row (by omega) _, below_setRow hS.2.2.2 (by omega) _⟩ ?_
  clear hS HSS hr hn hb HS
  rintro U2 ⟨hb, ha, hl, hx, hlow⟩
  have HL := Lib.hid hlow
  have HK := Lib.hid hl
  have HX := Lib.hid hx
  have HA := Lib.hid ha
  have HB := Lib.hid hb
  have k0 := hl.c0
  have k1 := hl.c1
  have k2 := hl.c2
  have c0 := hx.c0
  clear hlow hl hx ha hb
  go_wp2_with fail
  refine (rel_at HE.out _).mono ?_
  rintro e W3 ⟨rfl, hb⟩
  clear k0 k1 k2 c0
  replace HL := Lib.hid (HL.out.trans (hb.mono HL.out.size))
  replace HK := Lib.hid (HK.out.after hb)
  replace HX := Lib.hid (HX.out.after hb)
  replace HA := Lib.hid (HA.out.after hb)
  replace HB := Lib.hid (HB.out.after hb)
  have hn1 := BoxL.new W3 Lz0
  clear hb
  unfold encL
  go_upto_region 4 with ((with_reducible refine wpList_store_rowTo rfl 24 _ _ rfl rfl W3.heap.size (cellsL R2) ?_ ?_ 24 (cellsL Lz0) ?_ ?_ ?_ ?_ ?_); rfl; rfl; exact hn1; exact sizeL; rfl; exact one_L _)
  refine wp_gen (fun V => BoxL V W3.heap.size R2 ∧ BoxR V p R ∧ BoxL V b1 R ∧ BoxL V w.heap.size l ∧ BoxA V (w.heap.size + 1) x ∧ Below w.heap.size w V) ⟨hn1.setRow _, (show BoxR _ _ _ from (Below.heap_alloc _ _ _ HB.out.lt).trans HB.out).row (by have := HB.out.lt; omega) _, (HA.out.alloc _).row (by have := HA.out.lt; omega) _, (HK.out.alloc _).row (by have := HK.out.lt; omega) _, (HX.out.alloc _).row (by have := HX.out.lt; omega) _, below_setRow (HL.out.alloc HL.out.size _) HL.out.size _⟩ ?_
  clear HL HK HX HA HB hn1
  rintro V2 ⟨hc, hb, ha, hl, hx, hlow⟩
  generalize W3.heap.size = b3 at *
  have HL := Lib.hid hlow
  have HK := Lib.hid hl
  have HX := Lib.hid hx
  have HA := Lib.hid ha
  have HB := Lib.hid hb
  have HC := Lib.hid hc
  clear hlow hl hx ha hb hc
  refine wp_region_held_drew (S := fun V => BoxL V b3 R2 ∧ BoxR V p R ∧ BoxL V b1 R ∧ BoxL V w.heap.size l ∧ BoxA V (w.heap.size + 1) x ∧ Below w.heap.size w V) (by kernel_rfl) ⟨HC.out, HB.out, HA.out, HK.out, HX.out, HL.out.drew⟩ (fun _ => ?_)
  refine HeldBy.gen (fun V => BoxL V b3 R2 ∧ BoxR V p R ∧ BoxL V b1 R ∧ BoxL V w.heap.size l ∧ BoxA V (w.heap.size + 1) x ∧ Below w.heap.size w V) ⟨HC.out, HB.out, HA.out, HK.out, HX.out, HL.out.drew⟩ ?_
  clear HC HB HA HK HX HL
  rintro U0 HS
  refine HeldBy.take (i := 0) rfl (by kernel_rfl) (by kernel_rfl) (by kernel_rfl) (fun _ _ _ h => h) (by rfl) (fun V hV => by have h0 := hV.2.2.2.1.c0; have h1 := hV.2.2.2.1.c1; have h2 := hV.2.2.2.1.c2; first | (go_simp; rfl) | (go_simp; done)) (by go_simp; rfl) HS ?_
  refine HeldBy.take (i := 2) rfl (by kernel_rfl) (by kernel_rfl) (by kernel_rfl) (fun _ _ _ h => h) (by rfl) (fun _ _ => by first | (go_simp; rfl) | (go_simp; done)) (by go_simp; rfl) HS ?_
  refine HeldBy.take (i := 3) rfl (by kernel_rfl) (by kernel_rfl) (by kernel_rfl) (fun _ _ _ h => h) (by rfl) (fun V hV => by have hc := hV.2.2.2.2.1.c0; first | (go_simp; rfl) | (go_simp; done)) (by go_simp; rfl) HS ?_
  have HSS : ∀ w', Below U0.heap.size U0 w' → (BoxL w' b3 R2 ∧ BoxR w' p R ∧ BoxL w' b1 R ∧ BoxL w' w.heap.size l ∧ BoxA w' (w.heap.size + 1) x ∧ Below w.heap.size w w') := fun w' hb => ⟨HS.1.after hb, HS.2.1.after hb, HS.2.2.1.after hb, HS.2.2.2.1.after hb, HS.2.2.2.2.1.after hb, HS.2.2.2.2.2.trans (hb.mono HS.2.2.2.2.2.size)⟩
  refine HeldBy.Goes.without (w0 := U0) (k := 8) (dk := some 11) (x := .cells (cellsL Lz0) 30 (0, 0)) ?_ U0 (Below.refl _ _)
  refine HeldBy.Goes.call (i := 1) (v := encL l) rfl rfl rfl rfl (makes_rz rfl) rfl (by kernel_rfl) (by kernel_rfl) rfl (by decide) (by kernel_rfl) (by intro w; first | (go_simp; done) | (go_simp; first | exact ⟨rfl, rfl⟩ | rfl)) (by first | (go_simp; rfl) | (go_simp; done)) HSS (fun _ => ref_any l _) ?_
  refine HeldBy.Goes.call (i := 4) (v := .tuple #[encL R2, .int .i64 m]) rfl rfl rfl rfl (makes_rz rfl) rfl (by kernel_rfl) (by kernel_rfl) rfl (by decide) (by kernel_rfl) (by intro w; first | (go_simp; done) | (go_simp; first | exact ⟨rfl, rfl⟩ | rfl)) (by first | (go_simp; rfl) | (go_simp; done)) HSS (fun _ => refRel_at HE.out _) ?_
  refine HeldBy.Goes.take (i := 5) rfl (by kernel_rfl) rfl (by kernel_rfl) (by kernel_rfl) (by kernel_rfl) (by kernel_rfl) (fun _ _ _ h => h) rfl (by decide) (by kernel_rfl) (fun _ _ => by first | (go_simp; rfl) | (go_simp; done)) (by first | (go_simp; rfl) | (go_simp; done)) HSS ?_
  refine HeldBy.Goes.take (i := 6) rfl (by kernel_rfl) rfl (by kernel_rfl) (by kernel_rfl) (by kernel_rfl) (by kernel_rfl) (fun _ _ _ h => h) rfl (by decide) (by kernel_rfl) (fun _ _ => by first | (go_simp; rfl) | (go_simp; done)) (by first | (go_simp; rfl) | (go_simp; done)) HSS ?_
  refine HeldBy.Goes.take (i := 7) rfl (by kernel_rfl) rfl (by kernel_rfl) (by kernel_rfl) (by kernel_rfl) (by kernel_rfl) (fun _ _ _ h => h) rfl (by decide) (by kernel_rfl) (fun _ _ => by first | (go_simp; rfl) | (go_simp; done)) (by first | (go_simp; rfl) | (go_simp; done)) HSS ?_
  refine HeldBy.Goes.nil rfl rfl (by kernel_rfl) rfl (makes_rz rfl) HSS rfl (fun p => by unfold HeldBy.ptr; go_simp; rfl) ?_
  intro q U1 hq hb hn
  have hS := HSS U1 hb
  have hlt := HS.1.lt
  have hlt2 := HS.2.1.lt
  have hlt3 := HS.2.2.1.lt
  have hlt4 := HS.2.2.2.1.lt
  have hlt5 := HS.2.2.2.2.1.lt
  have hr : BoxR U1 q Lz0 := hn
  refine HeldBy.store (i := 9) (w' := U1.setRow q (cellsL R2)) rfl (by kernel_rfl) (by rfl) (store_rz (y := R2) hr rfl rfl rfl) (by go_simp; rfl) ⟨hS.1.row (by omega) _, hS.2.1.row (by omega) _, hS.2.2.1.row (by omega) _, hS.2.2.2.1.row (by omega) _, hS.2.2.2.2.1.row (by omega) _, below_setRow hS.2.2.2.2.2 (by omega) _⟩ ?_
  refine HeldBy.take (i := 10) rfl (by kernel_rfl) (by kernel_rfl) (by kernel_rfl) (fun _ _ _ h => h) (by rfl) (fun _ _ => by first | (go_simp; rfl) | (go_simp; done)) (by first | (go_simp; rfl) | (go_simp; done)) ⟨hS.1.row (by omega) _, hS.2.1.row (by omega) _, hS.2.2.1.row (by omega) _, hS.2.2.2.1.row (by omega) _, hS.2.2.2.2.1.row (by omega) _, below_setRow hS.2.2.2.2.2 (by omega) _⟩ ?_
  refine wpAnyH_done (by kernel_rfl) ?_ _
  refine then_gen (fun V => BoxR V q R2 ∧ BoxL V b3 R2 ∧ BoxR V p R ∧ BoxL V b1 R ∧ BoxL V w.heap.size l ∧ BoxA V (w.heap.size + 1) x ∧ Below w.heap.size w V) ⟨hr.setRow R2, hS.1.row (by omega) _, hS.2.1.row (by omega) _, hS.2.2.1.row (by omega) _, hS.2.2.2.1.row (by omega) _, hS.2.2.2.2.1.row (by omega) _, below_setRow hS.2.2.2.2.2 (by omega) _⟩ ?_
  clear hS HSS hr hn hb HS
  rintro U3 ⟨hd, hc, hb, ha, hl, hx, hlow⟩
  have HL := Lib.hid hlow
  have HK := Lib.hid hl
  have HX := Lib.hid hx
  have HA := Lib.hid ha
  have HB := Lib.hid hb
  have HC := Lib.hid hc
  have HD := Lib.hid hd
  clear hlow hl hx ha hb hc hd
  clear hlt hlt2 hlt3 hlt4 hlt5 hp hq
  go_upto_region 5 with (fail)
  refine wp_region_held_drew (S := fun V => BoxR V q R2 ∧ BoxL V b3 R2 ∧ BoxR V p R ∧ BoxL V b1 R ∧ BoxL V w.heap.size l ∧ BoxA V (w.heap.size + 1) x ∧ Below w.heap.size w V) (by kernel_rfl) ⟨HD.out, HC.out, HB.out, HA.out, HK.out, HX.out, HL.out.drew⟩ (fun _ => ?_)
  refine HeldBy.gen (fun V => BoxR V q R2 ∧ BoxL V b3 R2 ∧ BoxR V p R ∧ BoxL V b1 R ∧ BoxL V w.heap.size l ∧ BoxA V (w.heap.size + 1) x ∧ Below w.heap.size w V) ⟨HD.out, HC.out, HB.out, HA.out, HK.out, HX.out, HL.out.drew⟩ ?_
  clear HD HC HB HA HK HX HL
  rintro U0 HS
  refine HeldBy.call (i := 0) (v := .bool true) rfl (by kernel_rfl) (by rfl) (by go_simp; exact ⟨rfl, rfl⟩) (by go_simp; rfl) ?_
  refine (live_any _).mono ?_
  rintro e U1 ⟨rfl, hb⟩
  replace HS : BoxR U1 q R2 ∧ BoxL U1 b3 R2 ∧ BoxR U1 p R ∧ BoxL U1 b1 R ∧ BoxL U1 w.heap.size l ∧ BoxA U1 (w.heap.size + 1) x ∧ Below w.heap.size w U1 := ⟨HS.1.after hb, HS.2.1.after hb, HS.2.2.1.after hb, HS.2.2.2.1.after hb, HS.2.2.2.2.1.after hb, HS.2.2.2.2.2.1.after hb, HS.2.2.2.2.2.2.trans (hb.mono HS.2.2.2.2.2.2.size)⟩
  refine ⟨rfl, HS, ?_⟩
  clear hb
  refine HeldBy.take (i := 1) rfl (by kernel_rfl) (by kernel_rfl) (by kernel_rfl) (fun _ _ _ h => h) (by rfl) (fun _ _ => by first | (go_simp; rfl) | (go_simp; done)) (by go_simp; rfl) HS ?_
  refine HeldBy.take (i := 2) rfl (by kernel_rfl) (by kernel_rfl) (by kernel_rfl) (fun _ _ _ h => h) (by rfl) (fun V hV => by have h0 := hV.2.2.2.1.c0; have h1 := hV.2.2.2.1.c1; have h2 := hV.2.2.2.1.c2; first | (go_simp; rfl) | (go_simp; done)) (by go_simp; rfl) HS ?_
  refine HeldBy.take (i := 4) rfl (by kernel_rfl) (by kernel_rfl) (by kernel_rfl) (fun _ _ _ h => h) (by rfl) (fun V hV => by have h0 := hV.2.2.1.c0; have h1 := hV.2.2.1.c1; have h2 := hV.2.2.1.c2; first | (go_simp; rfl) | (go_simp; done)) (by go_simp; rfl) HS ?_
  refine HeldBy.call (i := 3) (v := encL R) rfl (by kernel_rfl) (by rfl) (by go_simp; exact ⟨rfl, rfl⟩) (by go_simp; rfl) ?_
  refine (ref_any R _).mono ?_
  rintro e U2 ⟨rfl, hb⟩
  replace HS : BoxR U2 q R2 ∧ BoxL U2 b3 R2 ∧ BoxR U2 p R ∧ BoxL U2 b1 R ∧ BoxL U2 w.heap.size l ∧ BoxA U2 (w.heap.size + 1) x ∧ Below w.heap.size w U2 := ⟨HS.1.after hb, HS.2.1.after hb, HS.2.2.1.after hb, HS.2.2.2.1.after hb, HS.2.2.2.2.1.after hb, HS.2.2.2.2.2.1.after hb, HS.2.2.2.2.2.2.trans (hb.mono HS.2.2.2.2.2.2.size)⟩
  refine ⟨rfl, HS, ?_⟩
  clear hb
  refine HeldBy.take (i := 5) (v := .bool true) rfl (by kernel_rfl) (by kernel_rfl) (by kernel_rfl) (fun _ _ _ h => h) (by rfl) (fun _ _ => by first | (go_simp; done) | (unfold encL; go_simp; done)) (by go_simp; rfl) HS ?_
  refine HeldBy.take (i := 6) rfl (by kernel_rfl) (by kernel_rfl) (by kernel_rfl) (fun _ _ _ h => h) (by rfl) (fun _ _ => by first | (go_simp; rfl) | (go_simp; done)) (by go_simp; rfl) HS ?_
  refine HeldBy.take (i := 7) rfl (by kernel_rfl) (by kernel_rfl) (by kernel_rfl) (fun _ _ _ h => h) (by rfl) (fun _ _ => by first | (go_simp; rfl) | (go_simp; done)) (by go_simp; rfl) HS ?_
  refine HeldBy.take (i := 8) rfl (by kernel_rfl) (by kernel_rfl) (by kernel_rfl) (fun _ _ _ h => h) (by rfl) (fun _ _ => by first | (go_simp; rfl) | (go_simp; done)) (by go_simp; rfl) HS ?_
  refine HeldBy.take (i := 9) rfl (by kernel_rfl) (by kernel_rfl) (by kernel_rfl) (fun _ _ _ h => h) (by rfl) (fun _ _ => by first | (go_simp; rfl) | (go_simp; done)) (by go_simp; rfl) HS ?_
  refine HeldBy.take (i := 10) (v := .bool true) rfl (by kernel_rfl) (by kernel_rfl) (by kernel_rfl) (fun _ _ _ h => h) (by rfl) (fun _ _ => by go_simp) (by go_simp; rfl) HS ?_
  refine HeldBy.take (i := 11) rfl (by kernel_rfl) (by kernel_rfl) (by kernel_rfl) (fun _ _ _ h => h) (by rfl) (fun _ _ => by first | (go_simp; rfl) | (go_simp; done)) (by go_simp; rfl) HS ?_
  refine HeldBy.take (i := 12) rfl (by kernel_rfl) (by kernel_rfl) (by kernel_rfl) (fun _ _ _ h => h) (by rfl) (fun _ _ => by first | (go_simp; rfl) | (go_simp; done)) (by go_simp; rfl) HS ?_
  refine HeldBy.take (i := 13) rfl (by kernel_rfl) (by kernel_rfl) (by kernel_rfl) (fun _ _ _ h => h) (by rfl) (fun V hV => by have h0 := hV.2.1.c0; have h1 := hV.2.1.c1; have h2 := hV.2.1.c2; first | (go_simp; rfl) | (go_simp; done)) (by go_simp; rfl) HS ?_
  refine HeldBy.take (i := 15) rfl (by kernel_rfl) (by kernel_rfl) (by kernel_rfl) (fun _ _ _ h => h) (by rfl) (fun V hV => by have h0 := hV.1.c0; have h1 := hV.1.c1; have h2 := hV.1.c2; first | (go_simp; rfl) | (go_simp; done)) (by go_simp; rfl) HS ?_
  refine HeldBy.call (i := 14) (v := encL R2) rfl (by kernel_rfl) (by rfl) (by go_simp; exact ⟨rfl, rfl⟩) (by go_simp; rfl) ?_
  refine (ref_any R2 _).mono ?_
  rintro e U3 ⟨rfl, hb⟩
  replace HS : BoxR U3 q R2 ∧ BoxL U3 b3 R2 ∧ BoxR U3 p R ∧ BoxL U3 b1 R ∧ BoxL U3 w.heap.size l ∧ BoxA U3 (w.heap.size + 1) x ∧ Below w.heap.size w U3 := ⟨HS.1.after hb, HS.2.1.after hb, HS.2.2.1.after hb, HS.2.2.2.1.after hb, HS.2.2.2.2.1.after hb, HS.2.2.2.2.2.1.after hb, HS.2.2.2.2.2.2.trans (hb.mono HS.2.2.2.2.2.2.size)⟩
  refine ⟨rfl, HS, ?_⟩
  clear hb
  refine HeldBy.take (i := 16) (v := .bool true) rfl (by kernel_rfl) (by kernel_rfl) (by kernel_rfl) (fun _ _ _ h => h) (by rfl) (fun _ _ => by first | (go_simp; done) | (unfold encL; go_simp; done)) (by go_simp; rfl) HS ?_
  refine HeldBy.take (i := 17) rfl (by kernel_rfl) (by kernel_rfl) (by kernel_rfl) (fun _ _ _ h => h) (by rfl) (fun _ _ => by first | (go_simp; rfl) | (go_simp; done)) (by go_simp; rfl) HS ?_
  refine HeldBy.take (i := 18) rfl (by kernel_rfl) (by kernel_rfl) (by kernel_rfl) (fun _ _ _ h => h) (by rfl) (fun _ _ => by first | (go_simp; rfl) | (go_simp; done)) (by go_simp; rfl) HS ?_
  refine HeldBy.take (i := 19) rfl (by kernel_rfl) (by kernel_rfl) (by kernel_rfl) (fun _ _ _ h => h) (by rfl) (fun _ _ => by first | (go_simp; rfl) | (go_simp; done)) (by go_simp; rfl) HS ?_
  refine HeldBy.take (i := 20) rfl (by kernel_rfl) (by kernel_rfl) (by kernel_rfl) (fun _ _ _ h => h) (by rfl) (fun _ _ => by first | (go_simp; rfl) | (go_simp; done)) (by go_simp; rfl) HS ?_
  refine HeldBy.take (i := 21) (v := .bool true) rfl (by kernel_rfl) (by kernel_rfl) (by kernel_rfl) (fun _ _ _ h => h) (by rfl) (fun _ _ => by go_simp) (by go_simp; rfl) HS ?_
  refine HeldBy.take (i := 22) rfl (by kernel_rfl) (by kernel_rfl) (by kernel_rfl) (fun _ _ _ h => h) (by rfl) (fun _ _ => by first | (go_simp; rfl) | (go_simp; done)) (by go_simp; rfl) HS ?_
  refine HeldBy.take (i := 23) rfl (by kernel_rfl) (by kernel_rfl) (by kernel_rfl) (fun _ _ _ h => h) (by rfl) (fun _ _ => by first | (go_simp; rfl) | (go_simp; done)) (by go_simp; rfl) HS ?_
  refine HeldBy.take (i := 24) rfl (by kernel_rfl) (by kernel_rfl) (by kernel_rfl) (fun _ _ _ h => h) (by rfl) (fun V hV => by have h0 := hV.2.2.2.2.1.c0; have h1 := hV.2.2.2.2.1.c1; have h2 := hV.2.2.2.2.1.c2; first | (go_simp; rfl) | (go_simp; done)) (by go_simp; rfl) HS ?_
  refine HeldBy.take (i := 25) rfl (by kernel_rfl) (by kernel_rfl) (by kernel_rfl) (fun _ _ _ h => h) (by rfl) (fun _ _ => by first | (go_simp; rfl) | (go_simp; done)) (by go_simp; rfl) HS ?_
  refine HeldBy.take (i := 26) rfl (by kernel_rfl) (by kernel_rfl) (by kernel_rfl) (fun _ _ _ h => h) (by rfl) (fun V hV => by have hc := hV.2.2.2.2.2.1.c0; first | (go_simp; rfl) | (go_simp; done)) (by go_simp; rfl) HS ?_
  refine HeldBy.take (i := 27) rfl (by kernel_rfl) (by kernel_rfl) (by kernel_rfl) (fun _ _ _ h => h) (by rfl) (fun _ _ => by first | (go_simp; rfl) | (go_simp; done)) (by go_simp; rfl) HS ?_
  refine HeldBy.take (i := 28) rfl (by kernel_rfl) (by kernel_rfl) (by kernel_rfl) (fun _ _ _ h => h) (by rfl) (fun V hV => by have hc := hV.2.2.2.2.2.1.c1; first | (go_simp; rfl) | (go_simp; done)) (by go_simp; rfl) HS ?_
  refine HeldBy.take (i := 30) rfl (by kernel_rfl) (by kernel_rfl) (by kernel_rfl) (fun _ _ _ h => h) (by rfl) (fun V hV => by have h0 := hV.2.2.2.2.1.c0; have h1 := hV.2.2.2.2.1.c1; have h2 := hV.2.2.2.2.1.c2; first | (go_simp; rfl) | (go_simp; done)) (by go_simp; rfl) HS ?_
  refine HeldBy.take (i := 32) rfl (by kernel_rfl) (by kernel_rfl) (by kernel_rfl) (fun _ _ _ h => h) (by rfl) (fun _ _ => by first | (go_simp; rfl) | (go_simp; done)) (by go_simp; rfl) HS ?_
  refine HeldBy.take (i := 33) rfl (by kernel_rfl) (by kernel_rfl) (by kernel_rfl) (fun _ _ _ h => h) (by rfl) (fun V hV => by have hc := hV.2.2.2.2.2.1.c0; first | (go_simp; rfl) | (go_simp; done)) (by go_simp; rfl) HS ?_
  refine HeldBy.take (i := 34) rfl (by kernel_rfl) (by kernel_rfl) (by kernel_rfl) (fun _ _ _ h => h) (by rfl) (fun _ _ => by first | (go_simp; rfl) | (go_simp; done)) (by go_simp; rfl) HS ?_
  refine HeldBy.take (i := 35) rfl (by kernel_rfl) (by kernel_rfl) (by kernel_rfl) (fun _ _ _ h => h) (by rfl) (fun V hV => by have hc := hV.2.2.2.2.2.1.c1; first | (go_simp; rfl) | (go_simp; done)) (by go_simp; rfl) HS ?_
  refine HeldBy.call (i := 29) (v := .bool (mineB l x.who x.now)) rfl (by kernel_rfl) (by rfl) (by go_simp; exact ⟨rfl, rfl⟩) (by go_simp; rfl) ?_
  refine (mine_any l x.who x.now _).mono ?_
  rintro e U4 ⟨rfl, hb⟩
  replace HS : BoxR U4 q R2 ∧ BoxL U4 b3 R2 ∧ BoxR U4 p R ∧ BoxL U4 b1 R ∧ BoxL U4 w.heap.size l ∧ BoxA U4 (w.heap.size + 1) x ∧ Below w.heap.size w U4 := ⟨HS.1.after hb, HS.2.1.after hb, HS.2.2.1.after hb, HS.2.2.2.1.after hb, HS.2.2.2.2.1.after hb, HS.2.2.2.2.2.1.after hb, HS.2.2.2.2.2.2.trans (hb.mono HS.2.2.2.2.2.2.size)⟩
  refine ⟨rfl, HS, ?_⟩
  clear hb
  refine HeldBy.call (i := 31) (v := encL l) rfl (by kernel_rfl) (by rfl) (by go_simp; exact ⟨rfl, rfl⟩) (by go_simp; rfl) ?_
  refine (ref_any l _).mono ?_
  rintro e U5 ⟨rfl, hb⟩
  replace HS : BoxR U5 q R2 ∧ BoxL U5 b3 R2 ∧ BoxR U5 p R ∧ BoxL U5 b1 R ∧ BoxL U5 w.heap.size l ∧ BoxA U5 (w.heap.size + 1) x ∧ Below w.heap.size w U5 := ⟨HS.1.after hb, HS.2.1.after hb, HS.2.2.1.after hb, HS.2.2.2.1.after hb, HS.2.2.2.2.1.after hb, HS.2.2.2.2.2.1.after hb, HS.2.2.2.2.2.2.trans (hb.mono HS.2.2.2.2.2.2.size)⟩
  refine ⟨rfl, HS, ?_⟩
  clear hb
  refine HeldBy.call (i := 36) (v := .bool (mineB l x.who x.now)) rfl (by kernel_rfl) (by rfl) (by go_simp; exact ⟨rfl, rfl⟩) (by go_simp; rfl) ?_
  refine (refMine_any l x.who x.now _).mono ?_
  rintro e U6 ⟨rfl, hb⟩
  replace HS : BoxR U6 q R2 ∧ BoxL U6 b3 R2 ∧ BoxR U6 p R ∧ BoxL U6 b1 R ∧ BoxL U6 w.heap.size l ∧ BoxA U6 (w.heap.size + 1) x ∧ Below w.heap.size w U6 := ⟨HS.1.after hb, HS.2.1.after hb, HS.2.2.1.after hb, HS.2.2.2.1.after hb, HS.2.2.2.2.1.after hb, HS.2.2.2.2.2.1.after hb, HS.2.2.2.2.2.2.trans (hb.mono HS.2.2.2.2.2.2.size)⟩
  refine ⟨rfl, HS, ?_⟩
  clear hb
  refine HeldBy.take (i := 37) (v := .bool true) rfl (by kernel_rfl) (by kernel_rfl) (by kernel_rfl) (fun _ _ _ h => h) (by rfl) (fun _ _ => by go_simp) (by go_simp; rfl) HS ?_
  refine HeldBy.take (i := 38) rfl (by kernel_rfl) (by kernel_rfl) (by kernel_rfl) (fun _ _ _ h => h) (by rfl) (fun _ _ => by first | (go_simp; rfl) | (go_simp; done)) (by go_simp; rfl) HS ?_
  refine HeldBy.take (i := 39) rfl (by kernel_rfl) (by kernel_rfl) (by kernel_rfl) (fun _ _ _ h => h) (by rfl) (fun _ _ => by first | (go_simp; rfl) | (go_simp; done)) (by go_simp; rfl) HS ?_
  refine wpAnyH_done (by kernel_rfl) ?_ _
  have HF := Lib.hid HS.2.2.2.2.2.2
  clear HS
  go_wp2
  go_ret
  exact ⟨rfl, HF.out⟩
end Go.Proofs.Ytmamibabaedpcaa.L
