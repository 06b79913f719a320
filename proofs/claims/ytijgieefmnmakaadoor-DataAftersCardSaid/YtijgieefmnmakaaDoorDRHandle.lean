/- What the document calls a snapshot at the driver. -/
import Derived.Test.YtijgieefmnmakaaDoorDHandle
import Derived.Test.YtijgieefmnmakaaDoorHeldBy
namespace Go.Proofs.YtijgieefmnmakaaDoor.O.B
open Go Go.RowKit Go.Lib

theorem snapN_parts (o : Obj) : snapN o = snapP ++ o.name ++ ⟨#[35]⟩ ++ digs o.born := by
  unfold snapN bornN
  rw [ByteArray.append_assoc, ByteArray.append_assoc, ByteArray.append_assoc]

set_option maxRecDepth 100000 in
set_option maxHeartbeats 4000000 in
theorem rhandle_any (o : Obj) (w : World) (ht : Tab w) (hb : 0 ≤ o.born ∧ o.born ≤ 18446744073709551615) (hn : o.name.size ≤ 140737488351232) :
    Calls Tryd.prog 17 #[encO o] w fun e w' => e = .returned (.string (handleD o)) ∧ Below w.heap.size w w' := by
  have HT := Lib.hid ht
  have HD := Lib.hid (digs_size hb.1 hb.2)
  have HB := Lib.hid hb
  have hs : (snapN o).size ≤ 140737488351232 + 26 := by
    have := digs_size hb.1 hb.2
    rw [snap_size, born_size]
    omega
  have hr : handleD o = if 40 < (snapN o).size then E0 else snapN o := rfl
  rw [hr, snapN_parts] 
  rw [snapN_parts] at hs
  clear ht hb hr
  obtain ⟨D, hD⟩ : ∃ D, digs o.born = D := ⟨_, rfl⟩
  rw [hD] at HD hs ⊢
  have HFM : Hid (∀ V, Tab V → Calls Tryd.prog 33 #[.int .u64 o.born, .int .i64 10] V fun e w' => e = .returned (.string D) ∧ Below V.heap.size V w') := fun V hV => by
    have h := fmt_any o.born HB.out.1 HB.out.2 V hV
    rw [hD] at h
    exact h
  clear hD
  have hp : snapP.size = 5 := rfl
  have hA : (snapP ++ o.name : ByteArray).size = 5 + o.name.size := by rw [ByteArray.size_append, hp]
  have hA2 : (snapP ++ o.name ++ ⟨#[35]⟩ : ByteArray).size = 5 + o.name.size + 1 := by rw [ByteArray.size_append, hA]; rfl
  have HSZ := Lib.hid (And.intro hA hA2)
  obtain ⟨S, hS⟩ : ∃ S, snapP ++ o.name ++ ⟨#[35]⟩ ++ D = S := ⟨_, rfl⟩
  rw [hS] at hs ⊢
  have HSS2 := Lib.hid hS
  clear hp hA hA2 hS
  unfold encO
  go_enter Tryd.func17, Tryd.ntmps17
  go_upto_region 1 with (fail)
  refine wp_gen (fun V => BoxO V w.heap.size o ∧ Below w.heap.size w V ∧ Tab V) ⟨BoxO.new w o, (Below.refl _ _).alloc (Nat.le_refl _) _, HT.out.after ((Below.refl _ _).alloc (Nat.le_refl _) _)⟩ ?_
  clear HT
  rintro V ⟨hbx, hl, ht⟩
  have HO := Lib.hid hbx
  have HL := Lib.hid hl
  have HT := Lib.hid ht
  clear hbx hl ht
  refine wp_region_held_drew (S := fun V => BoxO V w.heap.size o ∧ Below w.heap.size w V ∧ Tab V) (by kernel_rfl) ⟨HO.out, HL.out.drew, HT.out.drew⟩ (fun _ => ?_)
  refine HeldBy.gen (fun V => BoxO V w.heap.size o ∧ Below w.heap.size w V ∧ Tab V) ⟨HO.out, HL.out.drew, HT.out.drew⟩ ?_
  clear HO HL HT
  rintro U0 HS
  refine HeldBy.take (i := 0) rfl (by kernel_rfl) (by kernel_rfl) (by kernel_rfl) (fun _ _ _ h => h) (by rfl) (fun _ _ => by first | (go_simp; rfl) | (go_simp; done)) (by go_simp; rfl) HS ?_
  refine HeldBy.take (i := 1) rfl (by kernel_rfl) (by kernel_rfl) (by kernel_rfl) (fun _ _ _ h => h) (by rfl) (fun V hV => by have hc := hV.1.c1; first | (go_simp; rfl) | (go_simp; done)) (by go_simp; rfl) HS ?_
  refine HeldBy.take (i := 2) (v := .string (snapP ++ o.name)) rfl (by kernel_rfl) (by kernel_rfl) (by kernel_rfl) (fun _ _ _ h => h) (by rfl) (fun _ _ => by have h := HSZ.out.1; unfold snapP at h ⊢; go_simp; omega) (by go_simp; rfl) HS ?_
  refine HeldBy.take (i := 3) (v := .string (snapP ++ o.name ++ ⟨#[35]⟩)) rfl (by kernel_rfl) (by kernel_rfl) (by kernel_rfl) (fun _ _ _ h => h) (by rfl) (fun _ _ => by have h := HSZ.out.1; go_simp; omega) (by go_simp; rfl) HS ?_
  refine HeldBy.take (i := 4) rfl (by kernel_rfl) (by kernel_rfl) (by kernel_rfl) (fun _ _ _ h => h) (by rfl) (fun _ _ => by first | (go_simp; rfl) | (go_simp; done)) (by go_simp; rfl) HS ?_
  refine HeldBy.take (i := 5) rfl (by kernel_rfl) (by kernel_rfl) (by kernel_rfl) (fun _ _ _ h => h) (by rfl) (fun V hV => by have hc := hV.1.c3; first | (go_simp; rfl) | (go_simp; done)) (by go_simp; rfl) HS ?_
  refine HeldBy.call (i := 6) (v := .string D) rfl (by kernel_rfl) (by rfl) (by go_simp; exact ⟨rfl, rfl⟩) (by go_simp; rfl) ?_
  refine (HFM.out _ HS.2.2).mono ?_
  rintro e U1 ⟨rfl, hb⟩
  replace HS : BoxO U1 w.heap.size o ∧ Below w.heap.size w U1 ∧ Tab U1 := ⟨HS.1.after hb, HS.2.1.trans (hb.mono HS.2.1.size), HS.2.2.after hb⟩
  refine ⟨rfl, HS, ?_⟩
  clear hb
  refine HeldBy.take (i := 7) (v := .string S) rfl (by kernel_rfl) (by kernel_rfl) (by kernel_rfl) (fun _ _ _ h => h) (by rfl) (fun _ _ => by have h := HSZ.out.2; have h2 := HD.out; have h3 := HSS2.out; subst h3; go_simp; omega) (by go_simp; rfl) HS ?_
  refine HeldBy.take (i := 8) rfl (by kernel_rfl) (by kernel_rfl) (by kernel_rfl) (fun _ _ _ h => h) (by rfl) (fun _ _ => by first | (go_simp; rfl) | (go_simp; done)) (by go_simp; rfl) HS ?_
  refine wpAnyH_done (by kernel_rfl) ?_ _
  have HLL := Lib.hid HS.2.1
  clear HS HSZ HD HFM HSS2
  by_cases hl : 40 < S.size
  · have hl' : (40 : Int) < (S.size : Int) := by omega
    go_wp2
    go_ret
    exact ⟨rfl, HLL.out⟩
  · have hl' : ¬ (40 : Int) < (S.size : Int) := by omega
    go_wp2
    go_ret
    exact ⟨rfl, HLL.out⟩
end Go.Proofs.YtijgieefmnmakaaDoor.O.B
