/- Take, when one is due. -/
import Derived.Test.YtjmiodbpebaajaaWTake
namespace Go.Proofs.Ytjmiodbpebaajaa.W
open Go Go.RowKit KM
open Go.Lib RowSet

/-- A queue whose line lies in block g. -/
structure LinDrew (B R qb bd bf g cap : Nat) (cur : Array Value) (line : List Ky) (due fails : List (Ky × Value)) (W : World) : Prop where
  at_ : QAt W qb (.slice (some ⟨g, 0, none⟩) line.length cap) bd bf
  blk : BlkAt W g cap cur line
  due : IsMap encK W bd due
  fails : IsMap encK W bf fails
  low : B ≤ qb ∧ B ≤ bd ∧ B ≤ bf
  ne : bd ≠ bf
  rs : B ≤ R ∧ R ≤ g
section
variable {B R q bd bf g cap : Nat} {cur cur' : Array Value} {line : List Ky} {due fails : List (Ky × Value)} {W W' : World}
theorem LinDrew.isq (h : LinDrew B R q bd bf g cap cur line due fails W) : QIs B R W q bd bf line due fails :=
  ⟨⟨_, h.at_, h.blk.owns h.rs.2⟩, h.due, h.fails, h.low, h.ne, h.rs.1, Nat.le_trans h.rs.2 (Nat.le_of_lt h.blk.lt)⟩
theorem LinDrew.row (h : LinDrew B R q bd bf g cap cur line due fails W) (hn : 0 < line.length) : RowAt W g line := by
  obtain ⟨g', cap', e, hr⟩ := row_at (h.blk.owns h.rs.2) hn
  cases e
  exact hr
theorem LinDrew.after (h : LinDrew B R q bd bf g cap cur line due fails W) (hb : Below W.heap.size W W') : LinDrew B R q bd bf g cap cur line due fails W' :=
  ⟨h.at_.after hb, h.blk.after hb, h.due.after hb, h.fails.after hb, h.low, h.ne, h.rs⟩
theorem LinDrew.others (h : LinDrew B R q bd bf g cap cur line due fails W) {N : Nat} (hb : ∀ b, b < N → W'.heap[b]? = W.heap[b]?) (h1 : q < N) (h2 : g < N) (h3 : bd < N) (h4 : bf < N) : LinDrew B R q bd bf g cap cur line due fails W' :=
  ⟨h.at_.of_heap (hb _ h1), h.blk.of_heap (hb _ h2), h.due.of_heap (hb _ h3), h.fails.of_heap (hb _ h4), h.low, h.ne, h.rs⟩
theorem LinDrew.drew (h : LinDrew B R q bd bf g cap cur line due fails W) : LinDrew B R q bd bf g cap cur line due fails W.drew :=
  ⟨h.at_, h.blk.of_heap rfl, h.due, h.fails, h.low, h.ne, h.rs⟩
theorem LinDrew.apart (h : LinDrew B R q bd bf g cap cur line due fails W) : q ≠ g ∧ bd ≠ g ∧ bf ≠ g ∧ q ≠ bd ∧ q ≠ bf := by
  have hb := h.blk.at_
  have ha := h.at_
  unfold QAt at ha
  obtain ⟨e1, c1, h1, -⟩ := h.due
  obtain ⟨e2, c2, h2, -⟩ := h.fails
  refine ⟨fun e => ?_, fun e => ?_, fun e => ?_, fun e => ?_, fun e => ?_⟩
  · rw [e, hb] at ha; cases ha
  · rw [e, hb] at h1; cases h1
  · rw [e, hb] at h2; cases h2
  · rw [e, h1] at ha; cases ha
  · rw [e, h2] at ha; cases ha
end
theorem lin_of {B R q bd bf : Nat} {line : List Ky} {due fails : List (Ky × Value)} {w : World} (h : QIs B R w q bd bf line due fails) (hn : 0 < line.length) : ∃ g cap cur, LinDrew B R q bd bf g cap cur line due fails w := by
  obtain ⟨sl, ha, hr⟩ := h.at_
  obtain ⟨g, cap, cur, rfl, hR, hb⟩ := blk_of hr hn
  exact ⟨g, cap, cur, ha, hb, h.due, h.fails, h.low, h.ne, h.rs.1, hR⟩

set_option maxRecDepth 100000 in
set_option maxHeartbeats 4000000 in
theorem take_due (B R q bd bf : Nat) (line : List Ky) (due fails : List (Ky × Value)) (ds : List Int) (now : Int) (w : World) (h : QIs B R w q bd bf line due fails) (hd : Dues line due ds) (hn : 0 < line.length) (hm : line.length ≤ 256) (hnow : ds.getD (firstN ds) 0 ≤ now) (x : Ky) (hx : line[firstN ds]? = some x) :
    Calls Try.prog 19 #[.pointer (some ⟨q, 0, none⟩), .int .u64 now] w fun e w' => e = .returned (.tuple #[encK x, .bool true]) ∧ QIs B R w' q bd bf (line.eraseIdx (firstN ds)) (KM.del x due) fails ∧ Below B w w' ∧ Kp w w' q bd bf := by
  obtain ⟨g, cap, cur, hl⟩ := lin_of h hn
  have hfl := firstN_lt hd hn
  have HJ := Lib.hid (hd.at_ (firstN ds) hfl)
  have HFST : Hid (∀ V, QIs B R V q bd bf line due fails → Calls Try.prog 42 #[.pointer (some ⟨q, 0, none⟩)] V fun e w' => e = .returned (.tuple #[.int .i64 (firstN ds : Nat), .bool true]) ∧ Below V.heap.size V w') := fun V hV => first_any B R q bd bf line due fails ds V hV hd hn hm
  have HF := Lib.hid hl
  have hxl : line[firstN ds] = x := by rw [List.getElem?_eq_getElem hfl] at hx; exact Option.some.inj hx
  rw [hxl] at HJ
  have HXL := Lib.hid hxl
  have HA := Lib.hid h.at_
  clear h hd hl hx hxl
  generalize firstN ds = f at *
  generalize ds.getD f 0 = df at *
  have hfl' : (f : Int) < (line.length : Int) := by omega
  have hle : df ≤ now := hnow
  clear hnow
  have HLW : Hid (Below w.heap.size w w) := Below.refl _ _
  go_enter Try.func19, Try.ntmps19
  go_upto_region 1 with (fail)
  refine wp_gen (fun V => KAt V w.heap.size K0 ∧ LinDrew B R q bd bf g cap cur line due fails V ∧ Below w.heap.size w V) ⟨KAt.new w K0, HF.out.after ((Below.refl _ _).alloc (Nat.le_refl _) _), (Below.refl _ _).alloc (Nat.le_refl _) _⟩ ?_
  have hgw := HF.out.blk.lt
  have hqw := HF.out.at_.lt
  have hdw := HF.out.due.lt
  have hfw := HF.out.fails.lt
  clear HLW
  have HW := Lib.hid HF.out
  clear HF
  rintro V ⟨hk, hq, hl⟩
  have HK := Lib.hid hk
  have HQ := Lib.hid hq
  have HL := Lib.hid hl
  clear hk hq hl
  go_wp2_with fail
  refine (HFST.out _ HQ.out.isq).mono ?_
  rintro e V1 ⟨rfl, hb⟩
  replace HK := Lib.hid (HK.out.after hb)
  replace HQ := Lib.hid (HQ.out.after hb)
  replace HL := Lib.hid (HL.out.trans (hb.mono HL.out.size))
  clear hb HFST
  go_upto_region 2 with (fail)
  refine wp_region_held_drew (S := fun V => KAt V w.heap.size K0 ∧ LinDrew B R q bd bf g cap cur line due fails V ∧ Below w.heap.size w V) (by kernel_rfl) ⟨HK.out, HQ.out.drew, HL.out.drew⟩ (fun _ => ?_)
  refine HeldBy.gen (fun V => KAt V w.heap.size K0 ∧ LinDrew B R q bd bf g cap cur line due fails V ∧ Below w.heap.size w V) ⟨HK.out, HQ.out.drew, HL.out.drew⟩ ?_
  clear HK HQ HL
  rintro U0 HS
  refine HeldBy.take (i := 0) rfl (by kernel_rfl) (by kernel_rfl) (by kernel_rfl) (fun _ _ _ h => h) (by rfl) (fun _ _ => by first | (go_simp; rfl) | (go_simp; done)) (by go_simp; rfl) HS ?_
  refine HeldBy.take (i := 1) rfl (by kernel_rfl) (by kernel_rfl) (by kernel_rfl) (fun _ _ _ h => h) (by rfl) (fun _ _ => by first | (go_simp; rfl) | (go_simp; done)) (by go_simp; rfl) HS ?_
  refine HeldBy.take (i := 2) rfl (by kernel_rfl) (by kernel_rfl) (by kernel_rfl) (fun _ _ _ h => h) (by rfl) (fun _ _ => by first | (go_simp; rfl) | (go_simp; done)) (by go_simp; rfl) HS ?_
  refine HeldBy.take (i := 3) rfl (by kernel_rfl) (by kernel_rfl) (by kernel_rfl) (fun _ _ _ h => h) (by rfl) (fun _ _ => by first | (go_simp; rfl) | (go_simp; done)) (by go_simp; rfl) HS ?_
  refine HeldBy.take (i := 4) rfl (by kernel_rfl) (by kernel_rfl) (by kernel_rfl) (fun _ _ _ h => h) (by rfl) (fun _ _ => by first | (go_simp; rfl) | (go_simp; done)) (by go_simp; rfl) HS ?_
  refine HeldBy.take (i := 5) rfl (by kernel_rfl) (by kernel_rfl) (by kernel_rfl) (fun _ _ _ h => h) (by rfl) (fun _ _ => by first | (go_simp; rfl) | (go_simp; done)) (by go_simp; rfl) HS ?_
  refine HeldBy.take (i := 6) rfl (by kernel_rfl) (by kernel_rfl) (by kernel_rfl) (fun _ _ _ h => h) (by rfl) (fun V hV => by have hc := hV.2.1.at_.c1; first | (go_simp; rfl) | (go_simp; done)) (by go_simp; rfl) HS ?_
  refine HeldBy.take (i := 7) rfl (by kernel_rfl) (by kernel_rfl) (by kernel_rfl) (fun _ _ _ h => h) (by rfl) (fun _ _ => by first | (go_simp; rfl) | (go_simp; done)) (by go_simp; rfl) HS ?_
  refine HeldBy.take (i := 8) rfl (by kernel_rfl) (by kernel_rfl) (by kernel_rfl) (fun _ _ _ h => h) (by rfl) (fun _ _ => by first | (go_simp; rfl) | (go_simp; done)) (by go_simp; rfl) HS ?_
  refine HeldBy.take (i := 9) rfl (by kernel_rfl) (by kernel_rfl) (by kernel_rfl) (fun _ _ _ h => h) (by rfl) (fun _ _ => by first | (go_simp; rfl) | (go_simp; done)) (by go_simp; rfl) HS ?_
  refine HeldBy.take (i := 10) rfl (by kernel_rfl) (by kernel_rfl) (by kernel_rfl) (fun _ _ _ h => h) (by rfl) (fun V hV => by have hc := hV.2.1.at_.c0; first | (go_simp; rfl) | (go_simp; done)) (by go_simp; rfl) HS ?_
  refine HeldBy.take (i := 11) rfl (by kernel_rfl) (by kernel_rfl) (by kernel_rfl) (fun _ _ _ h => h) (by rfl) (fun _ _ => by first | (go_simp; rfl) | (go_simp; done)) (by go_simp; rfl) HS ?_
  refine HeldBy.take (i := 12) rfl (by kernel_rfl) (by kernel_rfl) (by kernel_rfl) (fun _ _ _ h => h) (by rfl) (fun _ _ => by first | (go_simp; rfl) | (go_simp; done)) (by go_simp; rfl) HS ?_
  refine HeldBy.take (i := 13) (v := encK x) rfl (by kernel_rfl) (by kernel_rfl) (by kernel_rfl) (fun _ _ _ h => h) (by rfl) (fun V hV => by have h0 := ((hV.2.1.row hn).at_ f hfl).1; have h1 := ((hV.2.1.row hn).at_ f hfl).2; rw [HXL.out] at h0 h1; unfold encK; first | (go_simp; rfl) | (go_simp; done)) (by go_simp; rfl) HS ?_
  refine HeldBy.take (i := 14) (v := .int .u64 df) rfl (by kernel_rfl) (by kernel_rfl) (by kernel_rfl) (fun _ _ _ h => h) (by rfl) (fun V hV => exec_lookup1_ok rfl und_tU rfl rfl hV.2.1.due HJ.out) (by go_simp; rfl) HS ?_
  refine HeldBy.take (i := 15) rfl (by kernel_rfl) (by kernel_rfl) (by kernel_rfl) (fun _ _ _ h => h) (by rfl) (fun _ _ => by first | (go_simp; rfl) | (go_simp; done)) (by go_simp; rfl) HS ?_
  refine HeldBy.take (i := 16) rfl (by kernel_rfl) (by kernel_rfl) (by kernel_rfl) (fun _ _ _ h => h) (by rfl) (fun _ _ => by first | (go_simp; rfl) | (go_simp; done)) (by go_simp; rfl) HS ?_
  refine HeldBy.take (i := 17) rfl (by kernel_rfl) (by kernel_rfl) (by kernel_rfl) (fun _ _ _ h => h) (by rfl) (fun _ _ => by first | (go_simp; rfl) | (go_simp; done)) (by go_simp; rfl) HS ?_
  refine wpAnyH_done (by kernel_rfl) ?_ _
  have HK := Lib.hid HS.1
  have HQ := Lib.hid HS.2.1
  have HL := Lib.hid HS.2.2
  have c0 := HS.2.1.at_.c0
  have e0 := ((HS.2.1.row hn).at_ f hfl).1
  have e1 := ((HS.2.1.row hn).at_ f hfl).2
  rw [HXL.out] at e0 e1
  clear HS
  go_upto_region 5 with (fail)
  refine wp_gen (fun V => KAt V U0.heap.size x ∧ KAt V w.heap.size K0 ∧ LinDrew B R q bd bf g cap cur line due fails V ∧ Below w.heap.size w V) ⟨KAt.new U0 x, HK.out.after ((Below.refl _ _).alloc (Nat.le_refl _) _), HQ.out.after ((Below.refl _ _).alloc (Nat.le_refl _) _), HL.out.alloc HL.out.size _⟩ ?_
  have hkb : w.heap.size < U0.heap.size := HK.out.lt
  clear HK HQ HL c0 e0 e1
  generalize U0.heap.size = kb at *
  rintro V2 ⟨hkx, hk, hq, hl⟩
  have HX := Lib.hid hkx
  have HK := Lib.hid hk
  have HQ := Lib.hid hq
  have HL := Lib.hid hl
  have c0 := hq.at_.c0
  clear hkx hk hq hl
  go_wp2_with fail
  refine (del_at g cap cur line f _ HQ.out.blk hfl hm).mono ?_
  rintro e V3 ⟨rfl, hblk, hkp⟩
  obtain ⟨n1, n2, n3, n4, n5⟩ := HQ.out.apart
  have hq3 : QAt V3 q (.slice (some ⟨g, 0, none⟩) line.length cap) bd bf := HQ.out.at_.of_heap (hkp.other q n1)
  have hd3 : IsMap encK V3 bd due := HQ.out.due.of_heap (hkp.other bd n2)
  have hf3 : IsMap encK V3 bf fails := HQ.out.fails.of_heap (hkp.other bf n3)
  have hx3 : KAt V3 kb x := HX.out.of_heap (hkp.other kb (by omega))
  have hk3 : KAt V3 w.heap.size K0 := HK.out.of_heap (hkp.other _ (by omega))
  have HK3 := Lib.hid hk3
  have HX3 := Lib.hid hx3
  have HQ3 := Lib.hid hq3
  have HD3 := Lib.hid hd3
  have HF3 := Lib.hid hf3
  have HB3 := Lib.hid hblk
  have HP3 := Lib.hid hkp
  have HW2 := Lib.hid (show B ≤ q ∧ B ≤ bd ∧ B ≤ bf ∧ B ≤ R ∧ R ≤ g ∧ bd ≠ bf from ⟨HQ.out.low.1, HQ.out.low.2.1, HQ.out.low.2.2, HQ.out.rs.1, HQ.out.rs.2, HQ.out.ne⟩)
  clear c0
  have c0 := hq3.c0
  have z0 := hq3.free 0
  clear hq3 hd3 hf3 hx3 hk3 hblk hkp HQ HK HX
  go_upto_region 6 with (fail)
  have hK4 : ∀ (b : Nat), b ≠ q → (V3.setCell ⟨q, 0, none⟩ (.slice (some ⟨g, 0, none⟩) (line.eraseIdx f).length cap)).heap[b]? = V3.heap[b]? := fun b hb => heap_setCell_other V3 ⟨q, 0, none⟩ b _ hb
  refine wp_gen (fun V => LinDrew B R q bd bf g cap (gone cur line f) (line.eraseIdx f) due fails V ∧ KAt V kb x ∧ KAt V w.heap.size K0 ∧ Below B w V ∧ ∀ b, b < w.heap.size → b ≠ q → b ≠ g → V.heap[b]? = w.heap[b]?) ?_ ?_
  · obtain ⟨l1, l2, l3, l4, l5, l6⟩ := HW2.out
    refine ⟨⟨HQ3.out.s0 _, HB3.out.of_heap (hK4 g (Ne.symm n1)), HD3.out.of_heap (hK4 bd (Ne.symm n4)), HF3.out.of_heap (hK4 bf (Ne.symm n5)), ⟨l1, l2, l3⟩, l6, l4, l5⟩, HX3.out.of_heap (hK4 kb (by omega)), HK3.out.of_heap (hK4 _ (by omega)), ?_, fun b hb h1 h2 => ?_⟩
    · exact ((HL.out.mono (by omega)).trans (HP3.out.low B (by omega))).setCell (p := ⟨q, 0, none⟩) l1 _
    · exact ((hK4 b h1).trans (HP3.out.other b h2)).trans (HL.out.block b hb)
  clear hK4 HQ3 HB3 HD3 HF3 HX3 HK3 HP3 HL c0 z0
  rintro V4 ⟨hq, hx, hk, hl, hkeep⟩
  have HQ := Lib.hid hq
  have HX := Lib.hid hx
  have HT : Hid True := trivial
  have HY : Hid (QAt V4 q (.slice (some ⟨g, 0, none⟩) (line.eraseIdx f).length cap) bd bf) := hq.at_
  have HK := Lib.hid hk
  have HL := Lib.hid hl
  have HP := Lib.hid (show ∀ b, b < w.heap.size → b ≠ q → b ≠ g → V4.heap[b]? = w.heap[b]? from hkeep)
  clear hq hx hk hl hkeep
  refine wp_region_held_drew (S := fun V => QAt V q (.slice (some ⟨g, 0, none⟩) (line.eraseIdx f).length cap) bd bf ∧ KAt V kb x) (by kernel_rfl) ⟨HY.out, HX.out⟩ (fun _ => ?_)
  refine HeldBy.gen (fun V => (QAt V q (.slice (some ⟨g, 0, none⟩) (line.eraseIdx f).length cap) bd bf ∧ KAt V kb x) ∧ LinDrew B R q bd bf g cap (gone cur line f) (line.eraseIdx f) due fails V ∧ KAt V w.heap.size K0 ∧ Below B w V ∧ ∀ b, b < w.heap.size → b ≠ q → b ≠ g → V.heap[b]? = w.heap[b]?) ⟨⟨HY.out, HX.out⟩, HQ.out.drew, HK.out, HL.out.drew, HP.out⟩ ?_
  clear HY HX HQ HK HL HP HT
  rintro U1 ⟨HS, HQ, HK, HL, HP⟩
  refine HeldBy.take (i := 0) rfl (by kernel_rfl) (by kernel_rfl) (by kernel_rfl) (fun _ _ _ h => h) (by rfl) (fun _ _ => by first | (go_simp; rfl) | (go_simp; done)) (by first | (go_simp; rfl) | (go_simp; done)) HS ?_
  refine HeldBy.take (i := 1) rfl (by kernel_rfl) (by kernel_rfl) (by kernel_rfl) (fun _ _ _ h => h) (by rfl) (fun _ _ => by first | (go_simp; rfl) | (go_simp; done)) (by first | (go_simp; rfl) | (go_simp; done)) HS ?_
  refine HeldBy.take (i := 2) rfl (by kernel_rfl) (by kernel_rfl) (by kernel_rfl) (fun _ _ _ h => h) (by rfl) (fun _ _ => by first | (go_simp; rfl) | (go_simp; done)) (by first | (go_simp; rfl) | (go_simp; done)) HS ?_
  refine HeldBy.take (i := 3) rfl (by kernel_rfl) (by kernel_rfl) (by kernel_rfl) (fun _ _ _ h => h) (by rfl) (fun V hV => by have hc := hV.1.c1; first | (go_simp; rfl) | (go_simp; done)) (by first | (go_simp; rfl) | (go_simp; done)) HS ?_
  refine HeldBy.take (i := 4) rfl (by kernel_rfl) (by kernel_rfl) (by kernel_rfl) (fun _ _ _ h => h) (by rfl) (fun V hV => by have h0 := hV.2.c0; have h1 := hV.2.c1; first | (go_simp; rfl) | (go_simp; done)) (by first | (go_simp; rfl) | (go_simp; done)) HS ?_
  obtain ⟨W', hrun, hdel, ht⟩ := exec_delete HQ.due x und_tU
  have hx' : KAt W' kb x := HS.2.of_heap (ht.block _ (by omega))
  have hq' : QAt W' q (.slice (some ⟨g, 0, none⟩) (line.eraseIdx f).length cap) bd bf := HS.1.of_heap (ht.block q n4)
  refine HeldBy.value (i := 5) (v := .tuple #[]) (w' := W') rfl (by kernel_rfl) (by rfl) (hrun rfl rfl rfl) (by go_simp; rfl) ⟨hq', hx'⟩ ?_
  refine wpAnyH_done (by kernel_rfl) ?_ _
  obtain ⟨l1, l2, l3, l4, l5, l6⟩ := HW2.out
  have HQ5 : Hid (LinDrew B R q bd bf g cap (gone cur line f) (line.eraseIdx f) (KM.del x due) fails W') := ⟨hq', HQ.blk.of_heap (ht.block g (Ne.symm n2)), hdel, HQ.fails.of_heap (ht.block bf (fun e => l6 e.symm)), ⟨l1, l2, l3⟩, l6, l4, l5⟩
  have HL5 : Hid (Below B w W') := HL.trans (ht.below l2)
  have HP5 : Hid (∀ b, b < w.heap.size → b ≠ q → b ≠ g → b ≠ bd → W'.heap[b]? = w.heap[b]?) := fun b hb h1 h2 h3 => (ht.block b h3).trans (HP b hb h1 h2)
  have hk5 : KAt W' w.heap.size K0 := HK.of_heap (ht.block _ (by omega))
  clear HQ HL HP HK HS hrun hdel ht hq'
  have fz0 := hk5.free 0
  have fz1 := hk5.free 1
  have k0 : W'.cell? ⟨w.heap.size, 0, none⟩ = some (.int .u8 0) := hk5.c0
  have k1 : W'.cell? ⟨w.heap.size, 1, none⟩ = some (.string ⟨#[]⟩) := hk5.c1
  have x0 := hx'.c0
  have x1 := hx'.c1
  have h1 := heap_setCell_same W' w.heap.size 0 _ _ (.int .u8 x.k) hk5
  have h2 := heap_setCell_same _ w.heap.size 1 _ _ (.string x.n) h1
  have HV := Lib.hid (load_kz (k := x) (h2.trans rfl))
  have hoth : ∀ b, b < w.heap.size → ((W'.setCell ⟨w.heap.size, 0, none⟩ (.int .u8 x.k)).setCell ⟨w.heap.size, 1, none⟩ (.string x.n)).heap[b]? = W'.heap[b]? := fun b hb => by
    have hne : b ≠ w.heap.size := by omega
    exact (heap_setCell_other (W'.setCell ⟨w.heap.size, 0, none⟩ (.int .u8 x.k)) ⟨w.heap.size, 1, none⟩ b (.string x.n) hne).trans (heap_setCell_other W' ⟨w.heap.size, 0, none⟩ b (.int .u8 x.k) hne)
  have HF := Lib.hid (HQ5.out.others (N := w.heap.size) hoth hqw hgw hdw hfw)
  have hBw : B ≤ w.heap.size := by omega
  have HG := Lib.hid ((HL5.out.setCell (p := ⟨w.heap.size, 0, none⟩) hBw (.int .u8 x.k)).setCell (p := ⟨w.heap.size, 1, none⟩) hBw (.string x.n))
  have HKp : Hid (Kp w ((W'.setCell ⟨w.heap.size, 0, none⟩ (.int .u8 x.k)).setCell ⟨w.heap.size, 1, none⟩ (.string x.n)) q bd bf) := fun b hb h1 h2 h3 h4 => by
    have hbg : b ≠ g := fun e => h4 _ HW.out.at_ (by rw [e]; rfl)
    exact (hoth b hb).trans (HP5.out b hb h1 hbg h2)
  clear hoth h1 h2 HQ5 HL5 HP5 hk5 hx' HJ
  go_wp2
  refine bodyPost_ret (v := .tuple #[encK x, .bool true]) (results_ct rfl rfl rfl HV.out) rfl ⟨rfl, HF.out.isq, HG.out, HKp.out⟩
end Go.Proofs.Ytjmiodbpebaajaa.W
