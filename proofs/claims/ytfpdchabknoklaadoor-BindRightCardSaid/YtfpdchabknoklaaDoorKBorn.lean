/- A name that no other object of its kind has. -/
import Derived.Test.YtfpdchabknoklaaDoorBStr
import Derived.Test.YtfpdchabknoklaaDoorHeldBy
import Derived.Test.YtfpdchabknoklaaDoorKFind
namespace Go.Proofs.YtfpdchabknoklaaDoor.O.B
open Go Go.RowKit Go.Shelf Go.Lib RangeMap KM
attribute [local go_sem] Oper.semAt_some

/-- A name that no other object of its kind ever has. -/
def bornN (o : Obj) : ByteArray := o.name ++ ⟨#[35]⟩ ++ digs o.born
theorem born_size (o : Obj) : (bornN o).size = o.name.size + 1 + (digs o.born).size := by
  unfold bornN
  rw [ByteArray.size_append, ByteArray.size_append]
  rfl
set_option maxRecDepth 100000 in
set_option maxHeartbeats 2000000 in
theorem born_any (o : Obj) (w : World) (ht : Tab w) (hb : 0 ≤ o.born ∧ o.born ≤ 18446744073709551615) (hn : o.name.size ≤ 140737488351232) :
    Calls Tryd.prog 52 #[encO o] w fun e w' => e = .returned (.string (bornN o)) ∧ Below w.heap.size w w' := by
  have HT := Lib.hid ht
  have HD := Lib.hid (digs_size hb.1 hb.2)
  have HB := Lib.hid hb
  clear ht hb
  obtain ⟨D, hD⟩ : ∃ D, digs o.born = D := ⟨_, rfl⟩
  rw [hD] at HD
  have hbn : bornN o = o.name ++ ⟨#[35]⟩ ++ D := by rw [← hD]; rfl
  rw [hbn]
  have HFM : Hid (∀ V, Tab V → Calls Tryd.prog 34 #[.int .u64 o.born, .int .i64 10] V fun e w' => e = .returned (.string D) ∧ Below V.heap.size V w') := fun V hV => by
    have h := fmt_any o.born HB.out.1 HB.out.2 V hV
    rw [hD] at h
    exact h
  clear hbn hD
  unfold encO
  go_enter Tryd.func52, Tryd.ntmps52
  go_upto_region 1 with (fail)
  refine wp_gen (fun V => BoxO V w.heap.size o ∧ Below w.heap.size w V ∧ Tab V) ⟨BoxO.new w o, (Below.refl _ _).alloc (Nat.le_refl _) _, HT.out.after ((Below.refl _ _).alloc (Nat.le_refl _) _)⟩ ?_
  clear HT
  rintro V ⟨hbx, hl, ht⟩
  have HO := Lib.hid hbx
  have HL := Lib.hid hl
  have HT := Lib.hid ht
  clear hbx hl ht
  refine wp_region_held_drew (S := fun V => BoxO V w.heap.size o ∧ Below w.heap.size w V ∧ Tab V) (by kernel_rfl) ⟨HO.out, HL.out.drew, HT.out.drew⟩ (fun _ => ?_)
  refine HeldBy.gen (fun V => BoxO V w.heap.size o ∧ Below w.heap.size w V ∧ Tab V) ⟨HO.out, HL.out.drew, HT.out.drew⟩ ?_
  clear HO HL HT
  rintro U0 HS
  refine HeldBy.take (i := 0) rfl (by kernel_rfl) (by kernel_rfl) (by kernel_rfl) (fun _ _ _ h => h) (by rfl) (fun _ _ => by first | (go_simp; rfl) | (go_simp; done)) (by go_simp; rfl) HS ?_
  refine HeldBy.take (i := 1) rfl (by kernel_rfl) (by kernel_rfl) (by kernel_rfl) (fun _ _ _ h => h) (by rfl) (fun V hV => by have hc := hV.1.c1; first | (go_simp; rfl) | (go_simp; done)) (by go_simp; rfl) HS ?_
  refine HeldBy.take (i := 2) (v := .string (o.name ++ ⟨#[35]⟩)) rfl (by kernel_rfl) (by kernel_rfl) (by kernel_rfl) (fun _ _ _ h => h) (by rfl) (fun _ _ => by go_simp; omega) (by go_simp; rfl) HS ?_
  refine HeldBy.take (i := 3) rfl (by kernel_rfl) (by kernel_rfl) (by kernel_rfl) (fun _ _ _ h => h) (by rfl) (fun _ _ => by first | (go_simp; rfl) | (go_simp; done)) (by go_simp; rfl) HS ?_
  refine HeldBy.take (i := 4) rfl (by kernel_rfl) (by kernel_rfl) (by kernel_rfl) (fun _ _ _ h => h) (by rfl) (fun V hV => by have hc := hV.1.c3; first | (go_simp; rfl) | (go_simp; done)) (by go_simp; rfl) HS ?_
  refine HeldBy.call (i := 5) (v := .string D) rfl (by kernel_rfl) (by rfl) (by go_simp; exact ⟨rfl, rfl⟩) (by go_simp; rfl) ?_
  refine (HFM.out _ HS.2.2).mono ?_
  rintro e U1 ⟨rfl, hb⟩
  replace HS : BoxO U1 w.heap.size o ∧ Below w.heap.size w U1 ∧ Tab U1 := ⟨HS.1.after hb, HS.2.1.trans (hb.mono HS.2.1.size), HS.2.2.after hb⟩
  refine ⟨rfl, HS, ?_⟩
  clear hb
  refine HeldBy.take (i := 6) (v := .string (o.name ++ ⟨#[35]⟩ ++ D)) rfl (by kernel_rfl) (by kernel_rfl) (by kernel_rfl) (fun _ _ _ h => h) (by rfl) (fun _ _ => by have h1 := HD.out; have h2 : (o.name ++ ⟨#[35]⟩ : ByteArray).size = o.name.size + 1 := ByteArray.size_append; go_simp; omega) (by go_simp; rfl) HS ?_
  refine HeldBy.take (i := 7) rfl (by kernel_rfl) (by kernel_rfl) (by kernel_rfl) (fun _ _ _ h => h) (by rfl) (fun _ _ => by first | (go_simp; rfl) | (go_simp; done)) (by go_simp; rfl) HS ?_
  refine wpAnyH_done (by kernel_rfl) ?_ _
  have HL := Lib.hid HS.2.1
  clear HS
  go_wp2
  go_ret
  exact ⟨rfl, HL.out⟩
theorem emp_iff (s : ByteArray) : s.toList = [] ↔ s = E0 := by
  rw [Lib.toList_data]
  constructor
  · intro h
    exact ba_ext h
  · rintro rfl
    rfl
end Go.Proofs.YtfpdchabknoklaaDoor.O.B
