/- A driver of one zone; what is left of a zone. -/
import Derived.Test.YtbgfccanbgpjiaaIRight
import Derived.Test.YtbgfccanbgpjiaaIMap
namespace Go.Proofs.Ytbgfccanbgpjiaa.O.I
open Go Go.RowKit Go.Lib KM
attribute [local go_sem] Oper.semAt_some

theorem five (w : World) (x1 x2 x3 x4 x5 : Go.Obj) : ∃ W, ((((w.alloc x1).alloc x2).alloc x3).alloc x4).alloc x5 = W ∧ W.heap[w.heap.size]? = some x1 ∧ W.heap[w.heap.size + 1]? = some x2 ∧ W.heap[w.heap.size + 2]? = some x3 ∧ W.heap[w.heap.size + 3]? = some x4 ∧ W.heap[w.heap.size + 4]? = some x5 ∧ Below w.heap.size w W := by
  refine ⟨_, rfl, ?_, ?_, ?_, ?_, ?_, ?_⟩
  · exact (Below.heap_alloc _ _ _ (by simp only [World.size_alloc]; omega)).trans ((Below.heap_alloc _ _ _ (by simp only [World.size_alloc]; omega)).trans ((Below.heap_alloc _ _ _ (by simp only [World.size_alloc]; omega)).trans ((Below.heap_alloc _ _ _ (by simp only [World.size_alloc]; omega)).trans (heap_alloc_new _ _))))
  · exact (Below.heap_alloc _ _ _ (by simp only [World.size_alloc]; omega)).trans ((Below.heap_alloc _ _ _ (by simp only [World.size_alloc]; omega)).trans ((Below.heap_alloc _ _ _ (by simp only [World.size_alloc]; omega)).trans (heap_alloc2_new w _ _)))
  · have h := heap_alloc2_new (w.alloc x1) x2 x3
    rw [World.size_alloc] at h
    exact (Below.heap_alloc _ _ _ (by simp only [World.size_alloc]; omega)).trans ((Below.heap_alloc _ _ _ (by simp only [World.size_alloc]; omega)).trans h)
  · have h := heap_alloc2_new ((w.alloc x1).alloc x2) x3 x4
    rw [World.size_alloc, World.size_alloc] at h
    exact (Below.heap_alloc _ _ _ (by simp only [World.size_alloc]; omega)).trans h
  · have h := heap_alloc2_new (((w.alloc x1).alloc x2).alloc x3) x4 x5
    rw [World.size_alloc, World.size_alloc, World.size_alloc] at h
    exact h
  · exact (((((Below.refl _ _).alloc (Nat.le_refl _) _).alloc (by simp only [World.size_alloc]; omega) _).alloc (by simp only [World.size_alloc]; omega) _).alloc (by simp only [World.size_alloc]; omega) _).alloc (by simp only [World.size_alloc]; omega) _
def NewA (z : Zn) (w : World) (e : Ending) (w' : World) : Prop := e = .returned (.pointer (some ⟨w.heap.size + 4, 0, none⟩)) ∧
  DrAt w' (w.heap.size + 4) w.heap.size (w.heap.size + 1) (w.heap.size + 2) (w.heap.size + 3) [(z.name, .int .i64 z.room)] [] [] [] ∧ Below w.heap.size w w'
theorem five_of (k : Nat) : Five (k + 4) k (k + 1) (k + 2) (k + 3) := by
  unfold Five
  omega
def StateN (z : Zn) (k j : Nat) (wr : World) : Prop := (j = 0 ∧ DrAt wr (k + 4) k (k + 1) (k + 2) (k + 3) [] [] [] []) ∨ (j = 1 ∧ DrAt wr (k + 4) k (k + 1) (k + 2) (k + 3) [(z.name, .int .i64 z.room)] [] [] [])
set_option maxRecDepth 100000 in
set_option maxHeartbeats 4000000 in
theorem new_one (g : Nat) (z : Zn) (w : World) (hg : BoxZ w g z) (hn : nm z.name = true) (hr : inR z.room = true) : Calls Try.prog 19 #[.slice (some ⟨g, 0, none⟩) 1 1] w fun e w' => NewA z w e w' := by
  have HG := Lib.hid hg
  have HF := Lib.hid (And.intro hn hr)
  obtain ⟨W5, hW5, e0, e1, e2, e3, e4, hb5⟩ := five w (.map #[] 0) (.map #[] 0) (.map #[] 0) (.map #[] 0) (.cells #[.map (some w.heap.size), .map (some (w.heap.size + 1)), .map (some (w.heap.size + 2)), .map (some (w.heap.size + 3))] 84 (0, 0))
  have HD0 : Hid (DrAt W5 (w.heap.size + 4) w.heap.size (w.heap.size + 1) (w.heap.size + 2) (w.heap.size + 3) [] [] [] []) := ⟨e4, ⟨#[], 0, e0, rfl⟩, ⟨#[], 0, e1, rfl⟩, ⟨#[], 0, e2, rfl⟩, ⟨#[], 0, e3, rfl⟩, ⟨#[], 0, e1, MapKept.stamped_empty 0⟩⟩
  have HB5 := Lib.hid hb5
  have HE := Lib.hid hW5
  have hgl := hg.lt
  have HGL := Lib.hid hgl
  clear hg hn hr hW5 e0 e1 e2 e3 e4 hb5 hgl
  have m1 : ∀ w, (Instr.makeMap tR none).run Try.prog w = .ok (.map (some w.heap.size)) (w.alloc (.map #[] 0)) := fun _ => rfl
  have m2 : ∀ w, (Instr.makeMap tV none).run Try.prog w = .ok (.map (some w.heap.size)) (w.alloc (.map #[] 0)) := fun _ => rfl
  have m3 : ∀ w, (Instr.makeMap tS none).run Try.prog w = .ok (.map (some w.heap.size)) (w.alloc (.map #[] 0)) := fun _ => rfl
  have m4 : ∀ w, (Instr.makeMap tD none).run Try.prog w = .ok (.map (some w.heap.size)) (w.alloc (.map #[] 0)) := fun _ => rfl
  go_enter Try.func19, Try.ntmps19
  go_upto_region 4 with (fail)
  refine wp_gen (fun V => DrAt V (w.heap.size + 4) w.heap.size (w.heap.size + 1) (w.heap.size + 2) (w.heap.size + 3) [] [] [] [] ∧ Below w.heap.size w V) (by
    have h := HE.out
    rw [show (((((w.alloc (.map #[] 0)).alloc (.map #[] 0)).alloc (.map #[] 0)).alloc (.map #[] 0)).alloc (.cells #[.map (some w.heap.size), .map (some (w.heap.size + 1)), .map (some (w.heap.size + 2)), .map (some (w.heap.size + 3))] 84 (0, 0))) = W5 from h]
    exact ⟨HD0.out, HB5.out⟩) ?_
  rintro V ⟨hd, hlw⟩
  have HD := Lib.hid hd
  have HW := Lib.hid hlw
  clear hd hlw HD0 HB5 HE m1 m2 m3 m4
  clear W5
  go_wp2_with (fail)
  go_loopw [24] (fun iv wr => ∃ j : Nat, iv = .int .i64 (j : Int) ∧ j ≤ 1 ∧ StateN z w.heap.size j wr ∧ Below w.heap.size w wr) (fun iv _ => 1 - (RowKit.intOf iv).toNat)
  case atStart => exact ⟨0, rfl, Nat.zero_le _, .inl ⟨rfl, HD.out⟩, HW.out⟩
  case round =>
    obtain ⟨j, rfl, hj, hst, hlow⟩ := hrel
    clear HD HW
    have HW := Lib.hid hlow
    clear hlow
    rcases hst with ⟨rfl, hd⟩ | ⟨rfl, hd⟩
    · have hz := HG.out.after HW.out
      obtain ⟨V, hs, hv, hl⟩ := boxZ wr zeroZ rfl z
      have HD := Lib.hid (hd.after hl)
      have HZ := Lib.hid hv
      have HK : Hid (w.heap.size + 4 < wr.heap.size) := hd.lt.1
      have hw1 := HW.out.trans (hl.mono HW.out.size)
      replace HW := Lib.hid hw1
      clear hd hv hl hw1
      go_upto_region 7 with (first | (refine wpList_got rfl (loadZ hz rfl rfl) ?_) | (refine wpList_skip rfl (hs rfl rfl rfl) ?_))
      clear hs hz
      refine wp_region_held_drew (S := fun V => DrAt V (w.heap.size + 4) w.heap.size (w.heap.size + 1) (w.heap.size + 2) (w.heap.size + 3) [] [] [] [] ∧ BoxZ V wr.heap.size z ∧ Below w.heap.size w V) (by kernel_rfl) ⟨HD.out, HZ.out, HW.out.drew⟩ (fun _ => ?_)
      refine HeldBy.gen (fun V => DrAt V (w.heap.size + 4) w.heap.size (w.heap.size + 1) (w.heap.size + 2) (w.heap.size + 3) [] [] [] [] ∧ BoxZ V wr.heap.size z ∧ Below w.heap.size w V) ⟨HD.out, HZ.out, HW.out.drew⟩ ?_
      clear HD HZ HW
      rintro U0 HS
      refine HeldBy.take (i := 0) rfl (by kernel_rfl) (by kernel_rfl) (by kernel_rfl) (fun _ _ _ h => h) (by rfl) (fun _ _ => by first | (go_simp; rfl) | (go_simp; done)) (by go_simp; rfl) HS ?_
      refine HeldBy.take (i := 1) rfl (by kernel_rfl) (by kernel_rfl) (by kernel_rfl) (fun _ _ _ h => h) (by rfl) (fun _ _ => by first | (go_simp; rfl) | (go_simp; done)) (by go_simp; rfl) HS ?_
      refine HeldBy.take (i := 2) rfl (by kernel_rfl) (by kernel_rfl) (by kernel_rfl) (fun _ _ _ h => h) (by rfl) (fun _ _ => by first | (go_simp; rfl) | (go_simp; done)) (by go_simp; rfl) HS ?_
      refine HeldBy.take (i := 3) (v := .map (some w.heap.size)) rfl (by kernel_rfl) (by kernel_rfl) (by kernel_rfl) (fun _ _ _ h => h) (by rfl) (fun V hV => by have hc := hV.1.box.c0; first | (go_simp; rfl) | (go_simp; done)) (by go_simp; rfl) HS ?_
      refine HeldBy.take (i := 4) rfl (by kernel_rfl) (by kernel_rfl) (by kernel_rfl) (fun _ _ _ h => h) (by rfl) (fun _ _ => by first | (go_simp; rfl) | (go_simp; done)) (by go_simp; rfl) HS ?_
      refine HeldBy.take (i := 5) rfl (by kernel_rfl) (by kernel_rfl) (by kernel_rfl) (fun _ _ _ h => h) (by rfl) (fun V hV => by have hc := hV.2.1.c0; first | (go_simp; rfl) | (go_simp; done)) (by go_simp; rfl) HS ?_
      refine HeldBy.take (i := 6) (v := .tuple #[.int .i64 0, .bool false]) rfl (by kernel_rfl) (by kernel_rfl) (by kernel_rfl) (fun _ _ _ h => h) (by rfl) (fun V hV => exec_look2 und_R (zero_R _) hV.1.rooms none rfl rfl rfl rfl) (by go_simp; rfl) HS ?_
      refine HeldBy.take (i := 7) rfl (by kernel_rfl) (by kernel_rfl) (by kernel_rfl) (fun _ _ _ h => h) (by rfl) (fun _ _ => by first | (go_simp; rfl) | (go_simp; done)) (by go_simp; rfl) HS ?_
      refine HeldBy.take (i := 8) rfl (by kernel_rfl) (by kernel_rfl) (by kernel_rfl) (fun _ _ _ h => h) (by rfl) (fun _ _ => by first | (go_simp; rfl) | (go_simp; done)) (by go_simp; rfl) HS ?_
      refine HeldBy.take (i := 9) rfl (by kernel_rfl) (by kernel_rfl) (by kernel_rfl) (fun _ _ _ h => h) (by rfl) (fun _ _ => by first | (go_simp; rfl) | (go_simp; done)) (by go_simp; rfl) HS ?_
      refine HeldBy.take (i := 10) rfl (by kernel_rfl) (by kernel_rfl) (by kernel_rfl) (fun _ _ _ h => h) (by rfl) (fun _ _ => by first | (go_simp; rfl) | (go_simp; done)) (by go_simp; rfl) HS ?_
      refine HeldBy.take (i := 11) rfl (by kernel_rfl) (by kernel_rfl) (by kernel_rfl) (fun _ _ _ h => h) (by rfl) (fun _ _ => by first | (go_simp; rfl) | (go_simp; done)) (by go_simp; rfl) HS ?_
      refine wpAnyH_done (by kernel_rfl) ?_ _
      have HD := Lib.hid HS.1
      have HZ := Lib.hid HS.2.1
      have HW := Lib.hid HS.2.2
      clear HS
      have z0 := HZ.out.c0
      go_wp2_with (fail)
      clear z0
      refine (name_is HF.out.1 _).mono ?_
      rintro e W2 ⟨rfl, hb⟩
      replace HD := Lib.hid (HD.out.after hb)
      replace HZ := Lib.hid (HZ.out.after hb)
      replace HW := Lib.hid (HW.out.trans (hb.mono HW.out.size))
      clear hb
      have z1 := HZ.out.c1
      go_wp2_with (fail)
      clear z1
      refine (range_is HF.out.2 _).mono ?_
      rintro e W3 ⟨rfl, hb⟩
      replace HD := Lib.hid (HD.out.after hb)
      replace HZ := Lib.hid (HZ.out.after hb)
      replace HW := Lib.hid (HW.out.trans (hb.mono HW.out.size))
      have HB := Lib.hid HD.out.box
      have HM := Lib.hid HD.out
      clear hb HD
      go_upto_region 10 with (fail)
      refine wp_region_held_drew (S := fun V => BoxD V (w.heap.size + 4) ⟨some w.heap.size, some (w.heap.size + 1), some (w.heap.size + 2), some (w.heap.size + 3)⟩ ∧ BoxZ V wr.heap.size z) (by kernel_rfl) ⟨HB.out, HZ.out⟩ (fun _ => ?_)
      refine HeldBy.gen (fun V => (BoxD V (w.heap.size + 4) ⟨some w.heap.size, some (w.heap.size + 1), some (w.heap.size + 2), some (w.heap.size + 3)⟩ ∧ BoxZ V wr.heap.size z) ∧ (DrAt V (w.heap.size + 4) w.heap.size (w.heap.size + 1) (w.heap.size + 2) (w.heap.size + 3) [] [] [] []) ∧ (Below w.heap.size w V)) ⟨⟨HB.out, HZ.out⟩, HM.out, HW.out.drew⟩ ?_
      clear HB HZ HM HW
      rintro U0 ⟨HS, HM, HW⟩
      refine HeldBy.take (i := 0) rfl (by kernel_rfl) (by kernel_rfl) (by kernel_rfl) (fun _ _ _ h => h) (by rfl) (fun _ _ => by first | (go_simp; rfl) | (go_simp; done)) (by first | (go_simp; rfl) | (go_simp; done)) HS ?_
      refine HeldBy.take (i := 1) rfl (by kernel_rfl) (by kernel_rfl) (by kernel_rfl) (fun _ _ _ h => h) (by rfl) (fun _ _ => by first | (go_simp; rfl) | (go_simp; done)) (by first | (go_simp; rfl) | (go_simp; done)) HS ?_
      refine HeldBy.take (i := 2) rfl (by kernel_rfl) (by kernel_rfl) (by kernel_rfl) (fun _ _ _ h => h) (by rfl) (fun _ _ => by first | (go_simp; rfl) | (go_simp; done)) (by first | (go_simp; rfl) | (go_simp; done)) HS ?_
      refine HeldBy.take (i := 3) (v := .map (some w.heap.size)) rfl (by kernel_rfl) (by kernel_rfl) (by kernel_rfl) (fun _ _ _ h => h) (by rfl) (fun V hV => by have hc := hV.1.c0; first | (go_simp; rfl) | (go_simp; done)) (by first | (go_simp; rfl) | (go_simp; done)) HS ?_
      refine HeldBy.take (i := 4) rfl (by kernel_rfl) (by kernel_rfl) (by kernel_rfl) (fun _ _ _ h => h) (by rfl) (fun _ _ => by first | (go_simp; rfl) | (go_simp; done)) (by first | (go_simp; rfl) | (go_simp; done)) HS ?_
      refine HeldBy.take (i := 5) rfl (by kernel_rfl) (by kernel_rfl) (by kernel_rfl) (fun _ _ _ h => h) (by rfl) (fun V hV => by have hc := hV.2.c0; first | (go_simp; rfl) | (go_simp; done)) (by first | (go_simp; rfl) | (go_simp; done)) HS ?_
      refine HeldBy.take (i := 6) rfl (by kernel_rfl) (by kernel_rfl) (by kernel_rfl) (fun _ _ _ h => h) (by rfl) (fun _ _ => by first | (go_simp; rfl) | (go_simp; done)) (by first | (go_simp; rfl) | (go_simp; done)) HS ?_
      refine HeldBy.take (i := 7) rfl (by kernel_rfl) (by kernel_rfl) (by kernel_rfl) (fun _ _ _ h => h) (by rfl) (fun V hV => by have hc := hV.2.c1; first | (go_simp; rfl) | (go_simp; done)) (by first | (go_simp; rfl) | (go_simp; done)) HS ?_
      obtain ⟨V3, hs3, hm3, ht3⟩ := exec_upd und_R HM.rooms z.name (.int .i64 z.room)
      have hS3 : BoxD V3 (w.heap.size + 4) ⟨some w.heap.size, some (w.heap.size + 1), some (w.heap.size + 2), some (w.heap.size + 3)⟩ ∧ BoxZ V3 wr.heap.size z := ⟨HS.1.turned ht3 (by omega), Turned.other ht3 (by have := HK.out; omega) HS.2⟩
      refine HeldBy.store (i := 8) (w' := V3) rfl (by kernel_rfl) (by rfl) (hs3 rfl rfl rfl rfl) (by first | (go_simp; rfl) | (go_simp; done)) hS3 ?_
      refine wpAnyH_done (by kernel_rfl) ?_ _
      have HX : Hid (StateN z w.heap.size 1 V3 ∧ Below w.heap.size w V3) := ⟨.inr ⟨rfl, HM.putRooms (five_of _) ht3 hm3⟩, HW.trans (ht3.below (Nat.le_refl _))⟩
      clear hs3 hm3 ht3 hS3 HS HM HW
      go_wp2
      go_roundw
      case rel => exact ⟨1, by go_num, by omega, HX.out.1, HX.out.2⟩
      case measure => simp [RowKit.intOf]
    · have HD := Lib.hid hd
      clear hd
      go_wp2
      go_ret
      exact ⟨rfl, HD.out, HW.out⟩
set_option maxRecDepth 100000 in
set_option maxHeartbeats 4000000 in
theorem room_any {d r v s n : Nat} {R V S : List (ByteArray × Value)} {N : List (Tg × Value)} (k : ByteArray) (x : Option Value) (hx : KM.get k R = x) (w : World) (hd : DrAt w d r v s n R V S N) :
    Calls Try.prog 21 #[.pointer (some ⟨d, 0, none⟩), .string k] w fun e w' => e = .returned (.tuple #[x.getD (.int .i64 0), .bool x.isSome]) ∧ w = w' := by
  have c0 := hd.box.c0
  have HR := Lib.hid hd.rooms
  clear hd
  go_enter Try.func21, Try.ntmps21
  go_wp2_with (refine wpList_got rfl (exec_look2 und_R (zero_R _) HR.out x hx rfl rfl rfl) ?_)
  go_ret2
  exact ⟨rfl, rfl⟩
end Go.Proofs.Ytbgfccanbgpjiaa.O.I
