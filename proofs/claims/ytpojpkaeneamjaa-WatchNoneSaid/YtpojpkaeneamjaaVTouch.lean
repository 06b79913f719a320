/- The keys that changes are of. -/
import Derived.Test.YtpojpkaeneamjaaVDo
namespace Go.Proofs.Ytpojpkaeneamjaa.O.V
open Go Go.RowKit Go.Lib KM
attribute [local go_sem] Oper.semAt_some

/-- A slice of one key of that name. -/
def TouchA (o : Obj) (w : World) (e : Ending) (w' : World) : Prop := ∃ h c, e = .returned (.slice (some ⟨h, 0, none⟩) 1 c) ∧ KeyRow w' h o.name ∧ w.heap.size ≤ h ∧ Below w.heap.size w w'
/-- What stands ahead of a round. -/
def StateT (o : Obj) (m : Nat) (w : World) (j : Nat) (kv : Value) (wr : World) : Prop := (j = 0 ∧ kv = .slice none 0 0 ∧ wr.heap[m]? = some (.map #[] 0)) ∨ (j = 1 ∧ ∃ h c, kv = .slice (some ⟨h, 0, none⟩) 1 c ∧ KeyRow wr h o.name ∧ w.heap.size ≤ h)

set_option maxRecDepth 100000 in
set_option maxHeartbeats 4000000 in
theorem touched_one (g : Nat) (o : Obj) (w : World) (h : BoxE w g (ev1 o)) : Calls Try.prog 33 #[.slice (some ⟨g, 0, none⟩) 1 1] w fun e w' => TouchA o w e w' := by
  have HG0 := Lib.hid h
  have m1 : ∀ w, (Instr.makeMap tI none).run Try.prog w = .ok (.map (some w.heap.size)) (w.alloc (.map #[] 0)) := fun _ => rfl
  clear h
  go_enter Try.func33, Try.ntmps33
  go_upto_region 3 with (fail)
  refine wp_gen (fun V => V.heap[w.heap.size]? = some (.map #[] 0) ∧ Below w.heap.size w V) ⟨heap_alloc_new _ _, (Below.refl _ _).alloc (Nat.le_refl _) _⟩ ?_
  rintro V0 ⟨hm, hlw⟩
  have HM := Lib.hid hm
  have HL := Lib.hid hlw
  clear hm hlw m1
  go_wp2_with (fail)
  go_loopw [3, 11] (fun kv iv wr => ∃ j : Nat, iv = .int .i64 (j : Int) ∧ j ≤ 1 ∧ StateT o w.heap.size w j kv wr ∧ Below w.heap.size w wr) (fun _ iv _ => 1 - (RowKit.intOf iv).toNat)
  case atStart => exact ⟨0, rfl, Nat.zero_le _, .inl ⟨rfl, rfl, HM.out⟩, HL.out⟩
  case round =>
    obtain ⟨j, rfl, hj, hst, hlow⟩ := hrel
    clear HM HL
    have HW := Lib.hid hlow
    have HG := Lib.hid (HG0.out.after hlow)
    clear hlow
    rcases hst with ⟨rfl, rfl, hm⟩ | ⟨rfl, h, cp, rfl, hk, hh⟩
    · have HM := Lib.hid hm
      have HMW : Hid (w.heap.size < wr.heap.size) := (Array.getElem?_eq_some_iff.1 hm).1
      obtain ⟨V, hs, hv, hbl⟩ := eventing wr (ev1 o)
      have hg := HG.out
      have HE := Lib.hid hv
      have HV := Lib.hid (HW.out.trans (hbl.mono HW.out.size))
      have HM1 := Lib.hid ((hbl.block _ HMW.out).trans hm)
      have HK := Lib.hid (key_of o V)
      have hev := hv
      clear hm hv hbl HM HW HG
      go_wp2_with (first | (refine wpList_got rfl (load_ev hg rfl rfl) ?_) | (refine wpList_skip rfl (hs rfl rfl rfl) ?_) | (refine wpList_got rfl (load_evobj hev rfl rfl) ?_))
      clear hs hg hev
      refine HK.out.mono ?_
      rintro e W1 ⟨rfl, hb1⟩
      obtain ⟨V1, hs1, hk1, hbl1⟩ := keying (show BoxK (W1.alloc (.cells (cellsK K0) 29 (0, 0))) W1.heap.size K0 from heap_alloc_new _ _) (keyN o)
      have hbe : Below W1.heap.size W1 V1 := hbl1 _ _ ((Below.refl _ _).alloc (Nat.le_refl _) _) (Nat.le_refl _)
      have hw1 := HV.out.trans (hb1.mono HV.out.size)
      have hmv : w.heap.size < V.heap.size := (Array.getElem?_eq_some_iff.1 HM1.out).1
      have hm2 : V1.heap[w.heap.size]? = some (.map #[] 0) := (hbe.block _ (Nat.lt_of_lt_of_le hmv hb1.size)).trans ((hb1.block _ hmv).trans HM1.out)
      have hlook := empty_is hm2
      obtain ⟨g1, c1, V2, happ, hrow, hge, hb2⟩ := add_key V1 (keyN o) 31
      have HBK := Lib.hid hk1
      have HNK : Hid (w.heap.size < W1.heap.size) := Nat.lt_of_lt_of_le hmv hb1.size
      have HM2 := Lib.hid hm2
      have HV1 := Lib.hid (hw1.trans (hbe.mono hw1.size))
      have HAP := Lib.hid (And.intro hrow (And.intro hge hb2))
      have hkl := hk1
      clear HK hb1 hk1 hbl1 hbe hw1 hmv hm2 HM1 HE HV hrow hge hb2
      go_upto_region 9 with (first | (refine wpList_skip rfl (hs1 rfl rfl rfl) ?_) | (refine wpList_got rfl (load_key hkl rfl rfl) ?_) | (refine wpList_got rfl (exec_look_no hlook rfl rfl rfl) ?_) | (refine wpList_got rfl (exec_slice (run_keys1 _ (keyN o)) rfl rfl) ?_) | (refine wpList_got rfl (exec_append rfl happ rfl rfl) ?_))
      clear hs1 hlook happ hkl
      have HBK2 := Lib.hid (HBK.out.after HAP.out.2.2)
      have hlt1 : w.heap.size < V1.heap.size := (Array.getElem?_eq_some_iff.1 HM2.out).1
      have HM3 := Lib.hid ((HAP.out.2.2.block _ hlt1).trans HM2.out)
      have HV2 := Lib.hid (HV1.out.trans (HAP.out.2.2.mono HV1.out.size))
      have HRW : Hid (w.heap.size ≤ g1 ∧ g1 ≠ w.heap.size) := ⟨by have := HAP.out.2.1; omega, by have := HAP.out.2.1; omega⟩
      have HROW := Lib.hid HAP.out.1
      clear HBK HAP HM2 HV1 hlt1
      refine wp_region_held_drew (S := fun V => BoxK V W1.heap.size (keyN o) ∧ KeyRow V g1 o.name ∧ Below w.heap.size w V) (by kernel_rfl) ⟨HBK2.out, HROW.out, HV2.out.drew⟩ (fun _ => ?_)
      refine HeldBy.gen (fun V => (BoxK V W1.heap.size (keyN o) ∧ KeyRow V g1 o.name ∧ Below w.heap.size w V) ∧ V.heap[w.heap.size]? = some (.map #[] 0)) ⟨⟨HBK2.out, HROW.out, HV2.out.drew⟩, HM3.out⟩ ?_
      clear HBK2 HROW HV2 HM3
      rintro U0 ⟨HS, HM⟩
      refine HeldBy.take (i := 0) rfl (by kernel_rfl) (by kernel_rfl) (by kernel_rfl) (fun _ _ _ h => h) (by rfl) (fun _ _ => by first | (go_simp; rfl) | (go_simp; done)) (by first | (go_simp; rfl) | (go_simp; done)) HS ?_
      refine HeldBy.take (i := 1) (v := encK (keyN o)) rfl (by kernel_rfl) (by kernel_rfl) (by kernel_rfl) (fun _ _ _ h => h) (by rfl) (fun V hV => load_key hV.1 rfl rfl) (by first | (go_simp; rfl) | (go_simp; done)) HS ?_
      refine HeldBy.two (i := 2) (j := 4) (by kernel_rfl) ?_ ?_
      · refine HeldBy.op_value (i := 2) (v := .int .i64 0) rfl (by rfl) (exec_look_no (empty_is HM) rfl rfl rfl) (by first | (go_simp; rfl) | (go_simp; done)) ⟨HS, ?_⟩
        refine HeldBy.take (i := 3) rfl (by kernel_rfl) (by kernel_rfl) (by kernel_rfl) (fun _ _ _ h => h) (by rfl) (fun _ _ => by first | (go_simp; rfl) | (go_simp; done)) (by first | (go_simp; rfl) | (go_simp; done)) HS ?_
        obtain ⟨V4, h4, ho4, ht4⟩ := exec_entry (k := keyN o) HM
        have HS : BoxK V4 W1.heap.size (keyN o) ∧ KeyRow V4 g1 o.name ∧ Below w.heap.size w V4 := ⟨Turned.other ht4 (by have := HNK.out; omega) HS.1, by
          obtain ⟨cur, q1, q2⟩ := HS.2.1
          exact ⟨cur, Turned.other ht4 HRW.out.2 q1, q2⟩, HS.2.2.trans (Turned.below ht4 (Nat.le_refl _))⟩
        refine HeldBy.value (i := 4) rfl (by kernel_rfl) (by rfl) (h4 rfl rfl rfl) (by first | (go_simp; rfl) | (go_simp; done)) HS ?_
        refine HeldBy.take (i := 5) rfl (by kernel_rfl) (by kernel_rfl) (by kernel_rfl) (fun _ _ _ h => h) (by rfl) (fun _ _ => by first | (go_simp; rfl) | (go_simp; done)) (by first | (go_simp; rfl) | (go_simp; done)) HS ?_
        obtain ⟨V6, h6, ho6, ht6⟩ := exec_entry_store ho4 1
        have HS : BoxK V6 W1.heap.size (keyN o) ∧ KeyRow V6 g1 o.name ∧ Below w.heap.size w V6 := ⟨Turned.other ht6 (by have := HNK.out; omega) HS.1, by
          obtain ⟨cur, q1, q2⟩ := HS.2.1
          exact ⟨cur, Turned.other ht6 HRW.out.2 q1, q2⟩, HS.2.2.trans (Turned.below ht6 (Nat.le_refl _))⟩
        refine HeldBy.store (i := 6) (w' := V6) rfl (by kernel_rfl) (by rfl) (h6 rfl rfl rfl rfl) (by first | (go_simp; rfl) | (go_simp; done)) HS ?_
        refine wpAnyH_done (by kernel_rfl) ?_ _
        have HF := Lib.hid HS
        clear HS HM ho4 ht4 h4 ho6 ht6 h6
        go_wp2
        go_roundw
        case rel => exact ⟨1, by go_num, by omega, .inr ⟨rfl, g1, c1, rfl, HF.out.2.1, HRW.out.1⟩, HF.out.2.2⟩
        case measure => simp [RowKit.intOf]
      · obtain ⟨V4, h4, ho4, ht4⟩ := exec_entry (k := keyN o) HM
        have HS : BoxK V4 W1.heap.size (keyN o) ∧ KeyRow V4 g1 o.name ∧ Below w.heap.size w V4 := ⟨Turned.other ht4 (by have := HNK.out; omega) HS.1, by
          obtain ⟨cur, q1, q2⟩ := HS.2.1
          exact ⟨cur, Turned.other ht4 HRW.out.2 q1, q2⟩, HS.2.2.trans (Turned.below ht4 (Nat.le_refl _))⟩
        refine HeldBy.op_value (i := 4) rfl (by rfl) (h4 rfl rfl rfl) (by first | (go_simp; rfl) | (go_simp; done)) ⟨HS, ?_⟩
        refine HeldBy.take (i := 5) rfl (by kernel_rfl) (by kernel_rfl) (by kernel_rfl) (fun _ _ _ h => h) (by rfl) (fun _ _ => by first | (go_simp; rfl) | (go_simp; done)) (by first | (go_simp; rfl) | (go_simp; done)) HS ?_
        refine HeldBy.value (i := 2) (v := .int .i64 0) rfl (by kernel_rfl) (by rfl) (exec_look_one ho4 rfl rfl rfl) (by first | (go_simp; rfl) | (go_simp; done)) HS ?_
        refine HeldBy.take (i := 3) rfl (by kernel_rfl) (by kernel_rfl) (by kernel_rfl) (fun _ _ _ h => h) (by rfl) (fun _ _ => by first | (go_simp; rfl) | (go_simp; done)) (by first | (go_simp; rfl) | (go_simp; done)) HS ?_
        obtain ⟨V6, h6, ho6, ht6⟩ := exec_entry_store ho4 1
        have HS : BoxK V6 W1.heap.size (keyN o) ∧ KeyRow V6 g1 o.name ∧ Below w.heap.size w V6 := ⟨Turned.other ht6 (by have := HNK.out; omega) HS.1, by
          obtain ⟨cur, q1, q2⟩ := HS.2.1
          exact ⟨cur, Turned.other ht6 HRW.out.2 q1, q2⟩, HS.2.2.trans (Turned.below ht6 (Nat.le_refl _))⟩
        refine HeldBy.store (i := 6) (w' := V6) rfl (by kernel_rfl) (by rfl) (h6 rfl rfl rfl rfl) (by first | (go_simp; rfl) | (go_simp; done)) HS ?_
        refine wpAnyH_done (by kernel_rfl) ?_ _
        have HF := Lib.hid HS
        clear HS HM ho4 ht4 h4 ho6 ht6 h6
        go_wp2
        go_roundw
        case rel => exact ⟨1, by go_num, by omega, .inr ⟨rfl, g1, c1, rfl, HF.out.2.1, HRW.out.1⟩, HF.out.2.2⟩
        case measure => simp [RowKit.intOf]
    · have HK := Lib.hid hk
      have HH := Lib.hid hh
      clear hk hh
      go_wp2
      go_ret
      exact ⟨h, cp, rfl, HK.out, HH.out, HW.out⟩
end Go.Proofs.Ytpojpkaeneamjaa.O.V
