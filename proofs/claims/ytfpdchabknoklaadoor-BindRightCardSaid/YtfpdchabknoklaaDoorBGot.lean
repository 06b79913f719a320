/- Which of two objects stands ahead: by what it got, then by name. -/
import Derived.Test.YtfpdchabknoklaaDoorBOrd
namespace Go.Proofs.YtfpdchabknoklaaDoor.O.B
open Go Go.RowKit Go.Shelf Go.Lib RangeMap KM
attribute [local go_sem] Oper.semAt_some

def gotN (a b : Obj) : Int := orN (cmpI a.got b.got) (cmpS a.name b.name)
def gotB (a b : Obj) : Bool := if a.got < b.got then true else if b.got < a.got then false else Op.bytesLess a.name.toList b.name.toList
theorem gotN_neg (a b : Obj) : decide (gotN a b < 0) = gotB a b := by
  have h := cmpS_neg a.name b.name
  unfold gotN gotB orN cmpI
  by_cases h1 : a.got < b.got
  · simp [h1]
  · by_cases h2 : b.got < a.got
    · simp [h1, h2]
    · simp [h1, h2, h]

set_option maxRecDepth 100000 in
set_option maxHeartbeats 2000000 in
theorem byGot_any (a b : Obj) (w : World) :
    Calls Tryd.prog 77 #[encO a, encO b] w fun e w' => e = .returned (.int .i64 (gotN a b)) ∧ Below w.heap.size w w' := by
  obtain ⟨c1, hc1⟩ : ∃ c, cmpI a.got b.got = c := ⟨_, rfl⟩
  obtain ⟨c2, hc2⟩ : ∃ c, cmpS a.name b.name = c := ⟨_, rfl⟩
  obtain ⟨c3, hc3⟩ : ∃ c, orN c1 c2 = c := ⟨_, rfl⟩
  have hr : gotN a b = c3 := by unfold gotN; rw [hc1, hc2, hc3]
  rw [hr]
  have HI : Hid (∀ V : World, Calls Tryd.prog 86 #[.int .i64 a.got, .int .i64 b.got] V fun e w' => e = .returned (.int .i64 c1) ∧ Below V.heap.size V w') := fun V => by
    rw [← hc1]
    exact (compareI_any _ _ V).mono (fun e w' h => ⟨h.1, h.2 ▸ Below.refl _ _⟩)
  have HN : Hid (∀ V : World, Calls Tryd.prog 57 #[encO a, encO b] V fun e w' => e = .returned (.int .i64 c2) ∧ Below V.heap.size V w') := fun V => by
    rw [← hc2]
    exact byName_any a b V
  have HR : Hid (∀ (V : World) (g : Nat), V.cell? ⟨g, 0, none⟩ = some (.int .i64 c1) → V.cell? ⟨g, 1, none⟩ = some (.int .i64 c2) → Calls Tryd.prog 85 #[.slice (some ⟨g, 0, none⟩) 2 2] V fun e w' => e = .returned (.int .i64 c3) ∧ w' = V) := fun V g h0 h1 => by
    rw [← hc3]
    exact or2_any c1 c2 g V h0 h1
  clear hc1 hc2 hc3 hr
  unfold encO
  go_enter Tryd.func77, Tryd.ntmps77
  go_upto_region 1 with (fail)
  refine wp_gen (fun V => BoxO V w.heap.size a ∧ BoxO V (w.heap.size + 1) b ∧ Below w.heap.size w V) (chain2 w _ _) ?_
  rintro V ⟨h1, h2, hl⟩
  have HA := Lib.hid h1
  have HB := Lib.hid h2
  have HL := Lib.hid hl
  clear h1 h2 hl
  refine wp_region_held_drew (S := fun V => BoxO V w.heap.size a ∧ BoxO V (w.heap.size + 1) b ∧ Below w.heap.size w V) (by kernel_rfl) ⟨HA.out, HB.out, HL.out.drew⟩ (fun _ => ?_)
  refine HeldBy.gen (fun V => BoxO V w.heap.size a ∧ BoxO V (w.heap.size + 1) b ∧ Below w.heap.size w V) ⟨HA.out, HB.out, HL.out.drew⟩ ?_
  clear HA HB HL
  rintro U0 HS
  refine HeldBy.take (i := 0) rfl (by kernel_rfl) (by kernel_rfl) (by kernel_rfl) (fun _ _ _ h => h) (by rfl) (fun _ _ => by first | (go_simp; rfl) | (go_simp; done)) (by first | (go_simp; rfl) | (go_simp; done)) HS ?_
  refine HeldBy.take (i := 1) rfl (by kernel_rfl) (by kernel_rfl) (by kernel_rfl) (fun _ _ _ h => h) (by rfl) (fun V hV => by have hc := hV.1.c8; first | (go_simp; rfl) | (go_simp; done)) (by first | (go_simp; rfl) | (go_simp; done)) HS ?_
  refine HeldBy.take (i := 2) rfl (by kernel_rfl) (by kernel_rfl) (by kernel_rfl) (fun _ _ _ h => h) (by rfl) (fun _ _ => by first | (go_simp; rfl) | (go_simp; done)) (by first | (go_simp; rfl) | (go_simp; done)) HS ?_
  refine HeldBy.take (i := 3) rfl (by kernel_rfl) (by kernel_rfl) (by kernel_rfl) (fun _ _ _ h => h) (by rfl) (fun V hV => by have hc := hV.2.1.c8; first | (go_simp; rfl) | (go_simp; done)) (by first | (go_simp; rfl) | (go_simp; done)) HS ?_
  refine HeldBy.take (i := 5) (v := encO a) rfl (by kernel_rfl) (by kernel_rfl) (by kernel_rfl) (fun _ _ _ h => h) (by rfl) (fun V hV => load_obj hV.1 rfl rfl) (by first | (go_simp; rfl) | (go_simp; done)) HS ?_
  refine HeldBy.take (i := 6) (v := encO b) rfl (by kernel_rfl) (by kernel_rfl) (by kernel_rfl) (fun _ _ _ h => h) (by rfl) (fun V hV => load_obj hV.2.1 rfl rfl) (by first | (go_simp; rfl) | (go_simp; done)) HS ?_
  refine HeldBy.call (i := 4) (v := .int .i64 c1) rfl (by kernel_rfl) (by rfl) (by first | (go_simp; done) | (go_simp; first | exact ⟨rfl, rfl⟩ | rfl)) (by first | (go_simp; rfl) | (go_simp; done)) ?_
  refine (HI.out _).mono ?_
  rintro e U1 ⟨rfl, hb⟩
  replace HS : BoxO U1 w.heap.size a ∧ BoxO U1 (w.heap.size + 1) b ∧ Below w.heap.size w U1 := ⟨HS.1.after hb, HS.2.1.after hb, HS.2.2.trans (hb.mono HS.2.2.size)⟩
  refine ⟨rfl, HS, ?_⟩
  clear hb
  refine HeldBy.call (i := 7) (v := .int .i64 c2) rfl (by kernel_rfl) (by rfl) (by first | (go_simp; done) | (go_simp; first | exact ⟨rfl, rfl⟩ | rfl)) (by first | (go_simp; rfl) | (go_simp; done)) ?_
  refine (HN.out _).mono ?_
  rintro e U2 ⟨rfl, hb⟩
  replace HS : BoxO U2 w.heap.size a ∧ BoxO U2 (w.heap.size + 1) b ∧ Below w.heap.size w U2 := ⟨HS.1.after hb, HS.2.1.after hb, HS.2.2.trans (hb.mono HS.2.2.size)⟩
  refine ⟨rfl, HS, ?_⟩
  clear hb
  obtain ⟨V3, hV3⟩ : ∃ V3, U2.alloc (.cells #[.int .i64 c1, .int .i64 c2] 3 (0, 0)) = V3 := ⟨_, rfl⟩
  have hn : V3.heap[U2.heap.size]? = some (.cells #[.int .i64 c1, .int .i64 c2] 3 (0, 0)) := by rw [← hV3]; exact heap_alloc_new _ _
  have k0 : V3.cell? ⟨U2.heap.size, 0, none⟩ = some (.int .i64 c1) := cell_of_row V3 _ 0 _ _ _ hn
  have k1 : V3.cell? ⟨U2.heap.size, 1, none⟩ = some (.int .i64 c2) := cell_of_row V3 _ 1 _ _ _ hn
  have hb : Below U2.heap.size U2 V3 := by rw [← hV3]; exact (Below.refl _ _).alloc (Nat.le_refl _) _
  have HC := Lib.hid (HR.out V3 _ k0 k1)
  have HS3 : BoxO V3 w.heap.size a ∧ BoxO V3 (w.heap.size + 1) b ∧ Below w.heap.size w V3 := ⟨HS.1.after hb, HS.2.1.after hb, HS.2.2.trans (hb.mono HS.2.2.size)⟩
  clear k0 k1 hb hn
  refine HeldBy.value (i := 8) (v := .slice (some ⟨U2.heap.size, 0, none⟩) 2 2) (w' := V3) rfl (by kernel_rfl) (by rfl) (by rw [← hV3]; first | (go_simp; done) | (go_simp; rfl)) (by first | (go_simp; rfl) | (go_simp; done)) HS3 ?_
  clear hV3
  refine HeldBy.call (i := 9) (v := .int .i64 c3) rfl (by kernel_rfl) (by rfl) (by first | (go_simp; done) | (go_simp; first | exact ⟨rfl, rfl⟩ | rfl)) (by first | (go_simp; rfl) | (go_simp; done)) ?_
  refine HC.out.mono ?_
  rintro e W ⟨rfl, rfl⟩
  refine ⟨rfl, HS3, ?_⟩
  refine HeldBy.take (i := 10) rfl (by kernel_rfl) (by kernel_rfl) (by kernel_rfl) (fun _ _ _ h => h) (by rfl) (fun _ _ => by first | (go_simp; rfl) | (go_simp; done)) (by first | (go_simp; rfl) | (go_simp; done)) HS3 ?_
  refine wpAnyH_done (by kernel_rfl) ?_ _
  have HL := Lib.hid HS3.2.2
  clear HS HS3 HC
  go_wp2
  go_ret
  exact ⟨rfl, HL.out⟩
theorem byGot_orders : Orders 77 gotB where
  enters := enters_of (P := Tryd.prog) Tryd.func77 (by kernel_rfl) rfl
  orders a b W := ⟨_, gotN_neg _ _, byGot_any a b W⟩
end Go.Proofs.YtfpdchabknoklaaDoor.O.B
