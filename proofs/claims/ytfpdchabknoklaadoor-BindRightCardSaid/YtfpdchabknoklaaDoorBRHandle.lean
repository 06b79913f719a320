/- How the document names a claim's volume, and how a volume names its claim. -/
import Derived.Test.YtfpdchabknoklaaDoorBRef
import Derived.Test.YtfpdchabknoklaaDoorHeldBy
namespace Go.Proofs.YtfpdchabknoklaaDoor.O.B
open Go Go.RowKit Go.Lib

def pvcN (o : Obj) : ByteArray := pvc ++ bornN o
theorem pvc_size (o : Obj) : (pvcN o).size = 4 + (bornN o).size := by
  unfold pvcN
  rw [ByteArray.size_append]
  rfl
theorem pvcN_parts (o : Obj) : pvcN o = pvc ++ o.name ++ ⟨#[35]⟩ ++ digs o.born := by
  unfold pvcN bornN
  rw [ByteArray.append_assoc, ByteArray.append_assoc, ByteArray.append_assoc]
def longN (s : ByteArray) : ByteArray := if 40 < s.size then E0 else s
theorem handle_long (o : Obj) : handleN o = longN (pvcN o) := by
  unfold handleN refN longN
  rw [pvc_size]
  by_cases h : 40 < 4 + (bornN o).size
  · rw [if_pos h, if_pos h, if_pos rfl]
  · rw [if_neg h, if_neg h, if_neg]
    · rfl
    · intro e
      have h1 := born_size o
      rw [e] at h1
      have h2 : E0.size = 0 := rfl
      omega
theorem ref_none {o : Obj} (h : handleN o = E0) : refN o = E0 := by
  unfold handleN at h
  by_cases h1 : refN o = E0
  · exact h1
  · rw [if_neg h1] at h
    have h2 : (pvc ++ refN o).size = 0 := by rw [h]; rfl
    rw [ByteArray.size_append] at h2
    have h3 : pvc.size = 4 := rfl
    omega
theorem ref_some {o : Obj} (h : handleN o ≠ E0) : refN o = bornN o := by
  unfold refN
  by_cases h1 : 40 < 4 + (bornN o).size
  · exfalso
    apply h
    unfold handleN refN
    rw [if_pos h1, if_pos rfl]
  · rw [if_neg h1]
set_option maxHeartbeats 1000000 in
theorem long_any (s : ByteArray) (w : World) : Calls Tryd.prog 66 #[.string s] w fun e w' => e = .returned (.string (longN s)) ∧ Below w.heap.size w w' := by
  unfold longN
  by_cases h : 40 < s.size
  · have h' : (40 : Int) < (s.size : Int) := by omega
    rw [if_pos h]
    clear h
    go_enter Tryd.func66, Tryd.ntmps66
    go_wp2
    go_ret
    exact ⟨rfl, Below.refl _ _⟩
  · have h' : ¬ (40 : Int) < (s.size : Int) := by omega
    rw [if_neg h]
    clear h
    go_enter Tryd.func66, Tryd.ntmps66
    go_wp2
    go_ret
    exact ⟨rfl, Below.refl _ _⟩

set_option maxRecDepth 100000 in
set_option maxHeartbeats 4000000 in
theorem rhandle_any (o : Obj) (w : World) (ht : Tab w) (hb : 0 ≤ o.born ∧ o.born ≤ 18446744073709551615) (hn : o.name.size ≤ 140737488351232) :
    Calls Tryd.prog 28 #[encO o] w fun e w' => e = .returned (.string (handleN o)) ∧ Below w.heap.size w w' := by
  have HT := Lib.hid ht
  have HD := Lib.hid (digs_size hb.1 hb.2)
  have HB := Lib.hid hb
  have hs : (pvcN o).size ≤ 140737488351232 + 26 := by
    have := digs_size hb.1 hb.2
    rw [pvc_size, born_size]
    omega
  rw [handle_long, pvcN_parts]
  rw [pvcN_parts] at hs
  clear ht hb
  obtain ⟨D, hD⟩ : ∃ D, digs o.born = D := ⟨_, rfl⟩
  rw [hD] at HD hs ⊢
  have HFM : Hid (∀ V, Tab V → Calls Tryd.prog 34 #[.int .u64 o.born, .int .i64 10] V fun e w' => e = .returned (.string D) ∧ Below V.heap.size V w') := fun V hV => by
    have h := fmt_any o.born HB.out.1 HB.out.2 V hV
    rw [hD] at h
    exact h
  clear hD
  have hp : pvc.size = 4 := rfl
  have hA : (pvc ++ o.name : ByteArray).size = 4 + o.name.size := by rw [ByteArray.size_append, hp]
  have hA2 : (pvc ++ o.name ++ ⟨#[35]⟩ : ByteArray).size = 4 + o.name.size + 1 := by rw [ByteArray.size_append, hA]; rfl
  have HSZ := Lib.hid (And.intro hA hA2)
  obtain ⟨S, hS⟩ : ∃ S, pvc ++ o.name ++ ⟨#[35]⟩ ++ D = S := ⟨_, rfl⟩
  rw [hS] at hs ⊢
  have HSS2 := Lib.hid hS
  clear hp hA hA2 hS
  unfold encO
  go_enter Tryd.func28, Tryd.ntmps28
  go_upto_region 1 with (fail)
  refine wp_gen (fun V => BoxO V w.heap.size o ∧ Below w.heap.size w V ∧ Tab V) ⟨BoxO.new w o, (Below.refl _ _).alloc (Nat.le_refl _) _, HT.out.after ((Below.refl _ _).alloc (Nat.le_refl _) _)⟩ ?_
  clear HT
  rintro V ⟨hbx, hl, ht⟩
  have HO := Lib.hid hbx
  have HL := Lib.hid hl
  have HT := Lib.hid ht
  clear hbx hl ht
  refine wp_region_held_drew (S := fun V => BoxO V w.heap.size o ∧ Below w.heap.size w V ∧ Tab V) (by kernel_rfl) ⟨HO.out, HL.out.drew, HT.out.drew⟩ (fun _ => ?_)
  refine HeldBy.gen (fun V => BoxO V w.heap.size o ∧ Below w.heap.size w V ∧ Tab V) ⟨HO.out, HL.out.drew, HT.out.drew⟩ ?_
  clear HO HL HT
  rintro U0 HS
  refine HeldBy.take (i := 0) rfl (by kernel_rfl) (by kernel_rfl) (by kernel_rfl) (fun _ _ _ h => h) (by rfl) (fun _ _ => by first | (go_simp; rfl) | (go_simp; done)) (by go_simp; rfl) HS ?_
  refine HeldBy.take (i := 1) rfl (by kernel_rfl) (by kernel_rfl) (by kernel_rfl) (fun _ _ _ h => h) (by rfl) (fun V hV => by have hc := hV.1.c1; first | (go_simp; rfl) | (go_simp; done)) (by go_simp; rfl) HS ?_
  refine HeldBy.take (i := 2) (v := .string (pvc ++ o.name)) rfl (by kernel_rfl) (by kernel_rfl) (by kernel_rfl) (fun _ _ _ h => h) (by rfl) (fun _ _ => by have h := HSZ.out.1; unfold pvc at h ⊢; go_simp; omega) (by go_simp; rfl) HS ?_
  refine HeldBy.take (i := 3) (v := .string (pvc ++ o.name ++ ⟨#[35]⟩)) rfl (by kernel_rfl) (by kernel_rfl) (by kernel_rfl) (fun _ _ _ h => h) (by rfl) (fun _ _ => by have h := HSZ.out.1; go_simp; omega) (by go_simp; rfl) HS ?_
  refine HeldBy.take (i := 4) rfl (by kernel_rfl) (by kernel_rfl) (by kernel_rfl) (fun _ _ _ h => h) (by rfl) (fun _ _ => by first | (go_simp; rfl) | (go_simp; done)) (by go_simp; rfl) HS ?_
  refine HeldBy.take (i := 5) rfl (by kernel_rfl) (by kernel_rfl) (by kernel_rfl) (fun _ _ _ h => h) (by rfl) (fun V hV => by have hc := hV.1.c3; first | (go_simp; rfl) | (go_simp; done)) (by go_simp; rfl) HS ?_
  refine HeldBy.call (i := 6) (v := .string D) rfl (by kernel_rfl) (by rfl) (by go_simp; exact ⟨rfl, rfl⟩) (by go_simp; rfl) ?_
  refine (HFM.out _ HS.2.2).mono ?_
  rintro e U1 ⟨rfl, hb⟩
  replace HS : BoxO U1 w.heap.size o ∧ Below w.heap.size w U1 ∧ Tab U1 := ⟨HS.1.after hb, HS.2.1.trans (hb.mono HS.2.1.size), HS.2.2.after hb⟩
  refine ⟨rfl, HS, ?_⟩
  clear hb
  refine HeldBy.take (i := 7) (v := .string S) rfl (by kernel_rfl) (by kernel_rfl) (by kernel_rfl) (fun _ _ _ h => h) (by rfl) (fun _ _ => by have h := HSZ.out.2; have h2 := HD.out; have h3 := HSS2.out; subst h3; go_simp; omega) (by go_simp; rfl) HS ?_
  refine HeldBy.call (i := 8) (v := .string (longN S)) rfl (by kernel_rfl) (by rfl) (by go_simp; exact ⟨rfl, rfl⟩) (by go_simp; rfl) ?_
  refine (long_any S _).mono ?_
  rintro e U2 ⟨rfl, hb⟩
  replace HS : BoxO U2 w.heap.size o ∧ Below w.heap.size w U2 ∧ Tab U2 := ⟨HS.1.after hb, HS.2.1.trans (hb.mono HS.2.1.size), HS.2.2.after hb⟩
  refine ⟨rfl, HS, ?_⟩
  clear hb
  refine HeldBy.take (i := 9) rfl (by kernel_rfl) (by kernel_rfl) (by kernel_rfl) (fun _ _ _ h => h) (by rfl) (fun _ _ => by first | (go_simp; rfl) | (go_simp; done)) (by go_simp; rfl) HS ?_
  refine wpAnyH_done (by kernel_rfl) ?_ _
  have HLL := Lib.hid HS.2.1
  clear HS HSZ HD HFM HSS2
  go_wp2
  go_ret
  exact ⟨rfl, HLL.out⟩

set_option maxRecDepth 100000 in
set_option maxHeartbeats 4000000 in
theorem rref_any (o : Obj) (w : World) (ht : Tab w) (hb : 0 ≤ o.born ∧ o.born ≤ 18446744073709551615) (hn : o.name.size ≤ 140737488351232) :
    Calls Tryd.prog 41 #[encO o] w fun e w' => e = .returned (.string (refN o)) ∧ Below w.heap.size w w' := by
  have HT := Lib.hid ht
  have HD := Lib.hid (digs_size hb.1 hb.2)
  have HNN := Lib.hid hn
  have HHN := Lib.hid (fun V (hV : Tab V) => rhandle_any o V hV hb hn)
  have HFM : Hid (∀ V, Tab V → Calls Tryd.prog 34 #[.int .u64 o.born, .int .i64 10] V fun e w' => e = .returned (.string (digs o.born)) ∧ Below V.heap.size V w') := fun V hV => fmt_any o.born hb.1 hb.2 V hV
  have H0 : Hid (handleN o = E0 → refN o = E0) := fun h => ref_none h
  have H1 : Hid (handleN o ≠ E0 → refN o = bornN o) := fun h => ref_some h
  have HBN : Hid (bornN o = o.name ++ ⟨#[35]⟩ ++ digs o.born) := rfl
  have HA : Hid ((o.name ++ ⟨#[35]⟩ : ByteArray).size = o.name.size + 1) := by show _ = _; rw [ByteArray.size_append]; rfl
  clear ht hb hn
  generalize handleN o = h at *
  generalize refN o = r at *
  generalize bornN o = S at *
  generalize digs o.born = D at *
  unfold encO
  go_enter Tryd.func41, Tryd.ntmps41
  go_upto_region 1 with (fail)
  refine wp_gen (fun V => BoxO V w.heap.size o ∧ Below w.heap.size w V) ⟨BoxO.new w o, (Below.refl _ _).alloc (Nat.le_refl _) _⟩ ?_
  rintro V ⟨hbx, hl⟩
  have HC := Lib.hid (HHN.out V (HT.out.after hl))
  have HTV := Lib.hid (HT.out.after hl)
  have HO := Lib.hid hbx
  have HL := Lib.hid hl
  clear hl HHN HT
  go_wp2_with ((with_reducible refine wpList_load_obj ?_ rfl ?_ hbx ?_); rfl; rfl)
  clear hbx
  refine HC.out.mono ?_
  rintro e W1 ⟨rfl, hb1⟩
  have HO1 := Lib.hid (HO.out.after hb1)
  have HL1 := Lib.hid (HL.out.trans (hb1.mono HL.out.size))
  have HT1 := Lib.hid (HTV.out.after hb1)
  clear HC HTV HO HL hb1
  by_cases kh : h = E0
  · have e0 := H0.out kh
    have HR : Hid (r = ⟨#[]⟩) := e0
    have h1 : h.toList = [] := (emp_iff _).2 kh
    have h2 : (h.toList == []) = true := by simp [h1]
    have h3 : h.toList.isEmpty = true := by simp [h1]
    clear kh e0 H0 H1 HBN HFM HA HD
    go_wp2
    go_ret
    exact ⟨by rw [HR.out]; rfl, HL1.out⟩
  · have HR := Lib.hid (H1.out kh)
    have h1 : h.toList ≠ [] := fun e => kh ((emp_iff _).1 e)
    have h2 : (h.toList == []) = false := by simpa using h1
    have h3 : h.toList.isEmpty = false := by simpa using h1
    clear kh H0 H1
    go_upto_region 3 with (fail)
    clear h1 h2 h3
    have HO := HO1
    have HL := HL1
    have HT := HT1
    clear HO1 HL1 HT1
    refine wp_region_held_drew (S := fun V => BoxO V w.heap.size o ∧ Below w.heap.size w V ∧ Tab V) (by kernel_rfl) ⟨HO.out, HL.out.drew, HT.out.drew⟩ (fun _ => ?_)
    refine HeldBy.gen (fun V => BoxO V w.heap.size o ∧ Below w.heap.size w V ∧ Tab V) ⟨HO.out, HL.out.drew, HT.out.drew⟩ ?_
    clear HO HL HT
    rintro U0 HS
    refine HeldBy.take (i := 0) rfl (by kernel_rfl) (by kernel_rfl) (by kernel_rfl) (fun _ _ _ h => h) (by rfl) (fun _ _ => by first | (go_simp; rfl) | (go_simp; done)) (by go_simp; rfl) HS ?_
    refine HeldBy.take (i := 1) rfl (by kernel_rfl) (by kernel_rfl) (by kernel_rfl) (fun _ _ _ h => h) (by rfl) (fun V hV => by have hc := hV.1.c1; first | (go_simp; rfl) | (go_simp; done)) (by go_simp; rfl) HS ?_
    refine HeldBy.take (i := 2) (v := .string (o.name ++ ⟨#[35]⟩)) rfl (by kernel_rfl) (by kernel_rfl) (by kernel_rfl) (fun _ _ _ h => h) (by rfl) (fun _ _ => by have h1 := HNN.out; go_simp; omega) (by go_simp; rfl) HS ?_
    refine HeldBy.take (i := 3) rfl (by kernel_rfl) (by kernel_rfl) (by kernel_rfl) (fun _ _ _ h => h) (by rfl) (fun _ _ => by first | (go_simp; rfl) | (go_simp; done)) (by go_simp; rfl) HS ?_
    refine HeldBy.take (i := 4) rfl (by kernel_rfl) (by kernel_rfl) (by kernel_rfl) (fun _ _ _ h => h) (by rfl) (fun V hV => by have hc := hV.1.c3; first | (go_simp; rfl) | (go_simp; done)) (by go_simp; rfl) HS ?_
    refine HeldBy.call (i := 5) (v := .string D) rfl (by kernel_rfl) (by rfl) (by go_simp; exact ⟨rfl, rfl⟩) (by go_simp; rfl) ?_
    refine (HFM.out _ HS.2.2).mono ?_
    rintro e U1 ⟨rfl, hb⟩
    replace HS : BoxO U1 w.heap.size o ∧ Below w.heap.size w U1 ∧ Tab U1 := ⟨HS.1.after hb, HS.2.1.trans (hb.mono HS.2.1.size), HS.2.2.after hb⟩
    refine ⟨rfl, HS, ?_⟩
    clear hb
    refine HeldBy.take (i := 6) (v := .string S) rfl (by kernel_rfl) (by kernel_rfl) (by kernel_rfl) (fun _ _ _ h => h) (by rfl) (fun _ _ => by have h1 := HA.out; have h2 := HD.out; have h4 := HNN.out; have h3 := HBN.out; subst h3; go_simp; omega) (by go_simp; rfl) HS ?_
    refine HeldBy.take (i := 7) rfl (by kernel_rfl) (by kernel_rfl) (by kernel_rfl) (fun _ _ _ h => h) (by rfl) (fun _ _ => by first | (go_simp; rfl) | (go_simp; done)) (by go_simp; rfl) HS ?_
    refine wpAnyH_done (by kernel_rfl) ?_ _
    have HLL := Lib.hid HS.2.1
    clear HS HA HD HFM HBN HNN
    go_wp2
    go_ret
    exact ⟨by rw [HR.out]; rfl, HLL.out⟩
end Go.Proofs.YtfpdchabknoklaaDoor.O.B
