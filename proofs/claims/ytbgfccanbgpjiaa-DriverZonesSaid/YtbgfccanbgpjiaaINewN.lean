/- A driver of any zones. -/
import Derived.Test.YtbgfccanbgpjiaaINew
import Derived.Test.YtbgfccanbgpjiaaIOpen
namespace Go.Proofs.Ytbgfccanbgpjiaa.O.I
open Go Go.RowKit Go.Lib KM
attribute [local go_sem] Oper.semAt_some

/-- Rooms as the map holds them. -/
def roomsZ (l : List Zn) : List (ByteArray × Value) := l.map fun z => (z.name, .int .i64 z.room)
def GoodZ (l : List Zn) : Prop := (∀ z ∈ l, nm z.name = true ∧ inR z.room = true) ∧ (l.map (·.name)).Nodup
/-- May these zones be? -/
def zonesB (l : List Zn) : Bool := decide (1 ≤ l.length) && decide (l.length ≤ 16) && l.all (fun z => nm z.name && inR z.room) && decide ((l.map (·.name)).Nodup)
theorem zonesB_iff (l : List Zn) : zonesB l = true ↔ 1 ≤ l.length ∧ l.length ≤ 16 ∧ GoodZ l := by
  unfold zonesB GoodZ
  simp only [Bool.and_eq_true, decide_eq_true_iff, List.all_eq_true, and_assoc]
theorem rooms_get : ∀ (l : List Zn) (k : ByteArray), KM.get k (roomsZ l) = (l.find? fun z => decide (k = z.name)).map fun z => .int .i64 z.room
  | [], _ => rfl
  | z :: r, k => by
    have h := rooms_get r k
    unfold roomsZ at h ⊢
    rw [List.map_cons]
    unfold KM.get
    by_cases hk : k = z.name
    · rw [if_pos hk, List.find?_cons_of_pos (by simpa using hk)]
      rfl
    · rw [if_neg hk, List.find?_cons_of_neg (by simpa using hk)]
      exact h
theorem rooms_some {l : List Zn} {k : ByteArray} {v : Value} (h : KM.get k (roomsZ l) = some v) : ∃ z ∈ l, z.name = k ∧ v = .int .i64 z.room := by
  rw [rooms_get] at h
  obtain ⟨z, h1, h2⟩ := Option.map_eq_some_iff.1 h
  exact ⟨z, List.mem_of_find?_eq_some h1, (by simpa using List.find?_some h1 : k = z.name).symm, h2.symm⟩
theorem rooms_none {l : List Zn} {k : ByteArray} (h : KM.get k (roomsZ l) = none) : ∀ z ∈ l, z.name ≠ k := by
  rw [rooms_get] at h
  have h1 := List.find?_eq_none.1 (Option.map_eq_none_iff.1 h)
  intro z hz e
  exact h1 z hz (by simpa using e.symm)
theorem put_behind {κ V : Type} [DecidableEq κ] (k : κ) (v : V) : ∀ m : List (κ × V), KM.get k m = none → KM.put k v m = m ++ [(k, v)]
  | [], _ => rfl
  | p :: r, h => by
    unfold KM.get at h
    unfold KM.put
    by_cases hk : k = p.1
    · rw [if_pos hk] at h
      cases h
    · rw [if_neg hk] at h
      rw [if_neg hk, put_behind k v r h]
      rfl
theorem rooms_next {l : List Zn} {j : Nat} (h : j < l.length) (hn : KM.get l[j].name (roomsZ (l.take j)) = none) : KM.put l[j].name (.int .i64 l[j].room) (roomsZ (l.take j)) = roomsZ (l.take (j + 1)) := by
  rw [put_behind _ _ _ hn, List.take_succ_eq_append_getElem h]
  unfold roomsZ
  rw [List.map_append]
  rfl
theorem good_next {l : List Zn} {j : Nat} (h : j < l.length) (hg : GoodZ (l.take j)) (hn : KM.get l[j].name (roomsZ (l.take j)) = none) (h1 : nm l[j].name = true) (h2 : inR l[j].room = true) : GoodZ (l.take (j + 1)) := by
  rw [List.take_succ_eq_append_getElem h]
  refine ⟨fun z hz => ?_, ?_⟩
  · rcases List.mem_append.1 hz with h3 | h3
    · exact hg.1 z h3
    · obtain rfl := List.mem_singleton.1 h3
      exact ⟨h1, h2⟩
  · rw [List.map_append, List.nodup_append]
    refine ⟨hg.2, by simp, fun a ha b hb e => ?_⟩
    obtain ⟨z, hz, rfl⟩ := List.mem_map.1 ha
    have hb' : b = l[j].name := by simpa using hb
    exact rooms_none hn z hz (e.trans hb')
theorem good_not {l : List Zn} {j : Nat} (h : j < l.length) (hb : (∃ v, KM.get l[j].name (roomsZ (l.take j)) = some v) ∨ nm l[j].name = false ∨ inR l[j].room = false) : zonesB l = false := by
  rw [← Bool.not_eq_true, zonesB_iff]
  rintro ⟨-, -, hg⟩
  have hm : l[j] ∈ l := List.getElem_mem h
  rcases hb with ⟨v, hv⟩ | hb | hb
  · obtain ⟨z, hz, he, -⟩ := rooms_some hv
    have hnd := hg.2
    rw [← List.take_append_drop j l, List.map_append, List.nodup_append] at hnd
    exact hnd.2.2 z.name (List.mem_map.2 ⟨z, hz, rfl⟩) l[j].name (List.mem_map.2 ⟨l[j], by rw [List.drop_eq_getElem_cons h]; exact List.mem_cons_self, rfl⟩) he
  · have := (hg.1 _ hm).1
    rw [hb] at this
    cases this
  · have := (hg.1 _ hm).2
    rw [hb] at this
    cases this
/-- What New gives. -/
def NewZ (l : List Zn) (k : Nat) (w : World) (e : Ending) (w' : World) : Prop := e = .returned (.pointer (if zonesB l then some ⟨k + 4, 0, none⟩ else none)) ∧
  (zonesB l = true → DrAt w' (k + 4) k (k + 1) (k + 2) (k + 3) (roomsZ l) [] [] []) ∧ Below k w w'
def RoundZ (l : List Zn) (k j : Nat) (w W : World) : Prop := DrAt W (k + 4) k (k + 1) (k + 2) (k + 3) (roomsZ (l.take j)) [] [] [] ∧ GoodZ (l.take j) ∧ Below k w W
theorem zones_none {l : List Zn} {w w' : World} (h : zonesB l = false) (hb : Below w.heap.size w w') : NewZ l w.heap.size w (.returned (.pointer none)) w' := by
  refine ⟨by rw [h]; rfl, fun e => ?_, hb⟩
  rw [h] at e
  cases e
set_option maxRecDepth 100000 in
set_option maxHeartbeats 4000000 in
theorem new_any (v : Value) (l : List Zn) (w : World) (hz : ZonesIn w v l) : Calls Try.prog 19 #[v] w fun e w' => NewZ l w.heap.size w e w' := by
  obtain ⟨o, cp, rfl, hmx, hzs⟩ := hz
  have HZS := Lib.hid hzs
  clear hzs
  obtain ⟨W5, hW5, e0, e1, e2, e3, e4, hb5⟩ := five w (.map #[] 0) (.map #[] 0) (.map #[] 0) (.map #[] 0) (.cells #[.map (some w.heap.size), .map (some (w.heap.size + 1)), .map (some (w.heap.size + 2)), .map (some (w.heap.size + 3))] 84 (0, 0))
  have HD0 : Hid (DrAt W5 (w.heap.size + 4) w.heap.size (w.heap.size + 1) (w.heap.size + 2) (w.heap.size + 3) [] [] [] []) := ⟨e4, ⟨#[], 0, e0, rfl⟩, ⟨#[], 0, e1, rfl⟩, ⟨#[], 0, e2, rfl⟩, ⟨#[], 0, e3, rfl⟩, ⟨#[], 0, e1, MapKept.stamped_empty 0⟩⟩
  have HB5 := Lib.hid hb5
  have HE := Lib.hid hW5
  clear hW5 e0 e1 e2 e3 e4 hb5
  have m1 : ∀ w, (Instr.makeMap tR none).run Try.prog w = .ok (.map (some w.heap.size)) (w.alloc (.map #[] 0)) := fun _ => rfl
  have m2 : ∀ w, (Instr.makeMap tV none).run Try.prog w = .ok (.map (some w.heap.size)) (w.alloc (.map #[] 0)) := fun _ => rfl
  have m3 : ∀ w, (Instr.makeMap tS none).run Try.prog w = .ok (.map (some w.heap.size)) (w.alloc (.map #[] 0)) := fun _ => rfl
  have m4 : ∀ w, (Instr.makeMap tD none).run Try.prog w = .ok (.map (some w.heap.size)) (w.alloc (.map #[] 0)) := fun _ => rfl
  go_enter Try.func19, Try.ntmps19
  by_cases h1 : (l.length : Int) < 1
  · have HX : Hid (zonesB l = false) := by
      show _ = _
      rw [← Bool.not_eq_true, zonesB_iff]
      omega
    clear HD0 HB5 HE HZS
    go_wp2
    go_ret
    exact zones_none HX.out (Below.refl _ _)
  by_cases h16 : (16 : Int) < (l.length : Int)
  · have HX : Hid (zonesB l = false) := by
      show _ = _
      rw [← Bool.not_eq_true, zonesB_iff]
      omega
    clear HD0 HB5 HE HZS
    go_wp2
    go_ret
    exact zones_none HX.out (Below.refl _ _)
  go_upto_region 4 with (fail)
  refine wp_gen (fun V => DrAt V (w.heap.size + 4) w.heap.size (w.heap.size + 1) (w.heap.size + 2) (w.heap.size + 3) [] [] [] [] ∧ Below w.heap.size w V) (by
    have h := HE.out
    rw [show (((((w.alloc (.map #[] 0)).alloc (.map #[] 0)).alloc (.map #[] 0)).alloc (.map #[] 0)).alloc (.cells #[.map (some w.heap.size), .map (some (w.heap.size + 1)), .map (some (w.heap.size + 2)), .map (some (w.heap.size + 3))] 84 (0, 0))) = W5 from h]
    exact ⟨HD0.out, HB5.out⟩) ?_
  rintro V ⟨hd, hlw⟩
  have HD := Lib.hid hd
  have HW := Lib.hid hlw
  have HN16 : Hid (1 ≤ l.length ∧ l.length ≤ 16) := by
    show _ ∧ _
    omega
  clear hd hlw HD0 HB5 HE m1 m2 m3 m4 h1
  clear W5
  go_wp2_with (fail)
  go_loopw [24] (fun iv wr => ∃ j : Nat, iv = .int .i64 (j : Int) ∧ j ≤ l.length ∧ RoundZ l w.heap.size j w wr) (fun iv _ => l.length - (RowKit.intOf iv).toNat)
  case atStart => exact ⟨0, rfl, Nat.zero_le _, HD.out, ⟨fun z hz => (by cases hz), List.nodup_nil⟩, HW.out⟩
  case round =>
    obtain ⟨j, rfl, hj, hd, hgood, hlow⟩ := hrel
    clear HD HW
    have HW := Lib.hid hlow
    have HGOOD := Lib.hid hgood
    clear hlow hgood
    by_cases hlt : j < l.length
    · have hlt' : (j : Int) < (l.length : Int) := by omega
      obtain ⟨g, off, rfl, hgw, hrow⟩ := HZS.out j hlt
      have HFLS := Lib.hid (good_not hlt)
      have HRN := Lib.hid (rooms_next hlt)
      have HGN := Lib.hid (good_next hlt HGOOD.out)
      obtain ⟨z, hzz⟩ : ∃ z, l[j] = z := ⟨_, rfl⟩
      rw [hzz] at hrow HFLS HRN HGN
      obtain ⟨pre, hpre⟩ : ∃ pre, l.take j = pre := ⟨_, rfl⟩
      rw [hpre] at hd HFLS HRN HGN
      have hz : World.rangeAt wr g (off + j * 2) (cellsZ z).toList := fun i u hu => (HW.out.cell (p := ⟨g, off + j * 2 + i, none⟩) hgw).trans (hrow i u hu)
      clear hrow hgw hzz hpre HGOOD
      obtain ⟨V, hs, hv, hl⟩ := boxZ wr zeroZ rfl z
      have HD := Lib.hid (hd.after hl)
      have HZ := Lib.hid hv
      have HK : Hid (w.heap.size + 4 < wr.heap.size) := hd.lt.1
      have hw1 := HW.out.trans (hl.mono HW.out.size)
      replace HW := Lib.hid hw1
      clear hd hv hl hw1
      go_upto_region 7 with (first | (refine wpList_got rfl (loadZ_at hz rfl rfl) ?_) | (refine wpList_skip rfl (hs rfl rfl rfl) ?_))
      clear hs hz
      obtain ⟨x, hx⟩ : ∃ x, KM.get z.name (roomsZ pre) = x := ⟨_, rfl⟩
      have HLK := Lib.hid hx
      clear hx
      refine wp_region_held_drew (S := fun V => DrAt V (w.heap.size + 4) w.heap.size (w.heap.size + 1) (w.heap.size + 2) (w.heap.size + 3) (roomsZ pre) [] [] [] ∧ BoxZ V wr.heap.size z ∧ Below w.heap.size w V) (by kernel_rfl) ⟨HD.out, HZ.out, HW.out.drew⟩ (fun _ => ?_)
      refine HeldBy.gen (fun V => DrAt V (w.heap.size + 4) w.heap.size (w.heap.size + 1) (w.heap.size + 2) (w.heap.size + 3) (roomsZ pre) [] [] [] ∧ BoxZ V wr.heap.size z ∧ Below w.heap.size w V) ⟨HD.out, HZ.out, HW.out.drew⟩ ?_
      clear HD HZ HW
      rintro U0 HS
      refine HeldBy.take (i := 0) rfl (by kernel_rfl) (by kernel_rfl) (by kernel_rfl) (fun _ _ _ h => h) (by rfl) (fun _ _ => by first | (go_simp; rfl) | (go_simp; done)) (by go_simp; rfl) HS ?_
      refine HeldBy.take (i := 1) rfl (by kernel_rfl) (by kernel_rfl) (by kernel_rfl) (fun _ _ _ h => h) (by rfl) (fun _ _ => by first | (go_simp; rfl) | (go_simp; done)) (by go_simp; rfl) HS ?_
      refine HeldBy.take (i := 2) rfl (by kernel_rfl) (by kernel_rfl) (by kernel_rfl) (fun _ _ _ h => h) (by rfl) (fun _ _ => by first | (go_simp; rfl) | (go_simp; done)) (by go_simp; rfl) HS ?_
      refine HeldBy.take (i := 3) (v := .map (some w.heap.size)) rfl (by kernel_rfl) (by kernel_rfl) (by kernel_rfl) (fun _ _ _ h => h) (by rfl) (fun V hV => by have hc := hV.1.box.c0; first | (go_simp; rfl) | (go_simp; done)) (by go_simp; rfl) HS ?_
      refine HeldBy.take (i := 4) rfl (by kernel_rfl) (by kernel_rfl) (by kernel_rfl) (fun _ _ _ h => h) (by rfl) (fun _ _ => by first | (go_simp; rfl) | (go_simp; done)) (by go_simp; rfl) HS ?_
      refine HeldBy.take (i := 5) rfl (by kernel_rfl) (by kernel_rfl) (by kernel_rfl) (fun _ _ _ h => h) (by rfl) (fun V hV => by have hc := hV.2.1.c0; first | (go_simp; rfl) | (go_simp; done)) (by go_simp; rfl) HS ?_
      refine HeldBy.take (i := 6) (v := .tuple #[x.getD (.int .i64 0), .bool x.isSome]) rfl (by kernel_rfl) (by kernel_rfl) (by kernel_rfl) (fun _ _ _ h => h) (by rfl) (fun V hV => exec_look2 und_R (zero_R _) hV.1.rooms x HLK.out rfl rfl rfl) (by go_simp; rfl) HS ?_
      refine HeldBy.take (i := 7) rfl (by kernel_rfl) (by kernel_rfl) (by kernel_rfl) (fun _ _ _ h => h) (by rfl) (fun _ _ => by first | (go_simp; rfl) | (go_simp; done)) (by go_simp; rfl) HS ?_
      refine HeldBy.take (i := 8) rfl (by kernel_rfl) (by kernel_rfl) (by kernel_rfl) (fun _ _ _ h => h) (by rfl) (fun _ _ => by first | (go_simp; rfl) | (go_simp; done)) (by go_simp; rfl) HS ?_
      refine HeldBy.take (i := 9) rfl (by kernel_rfl) (by kernel_rfl) (by kernel_rfl) (fun _ _ _ h => h) (by rfl) (fun _ _ => by first | (go_simp; rfl) | (go_simp; done)) (by go_simp; rfl) HS ?_
      refine HeldBy.take (i := 10) rfl (by kernel_rfl) (by kernel_rfl) (by kernel_rfl) (fun _ _ _ h => h) (by rfl) (fun _ _ => by first | (go_simp; rfl) | (go_simp; done)) (by go_simp; rfl) HS ?_
      refine HeldBy.take (i := 11) rfl (by kernel_rfl) (by kernel_rfl) (by kernel_rfl) (fun _ _ _ h => h) (by rfl) (fun _ _ => by first | (go_simp; rfl) | (go_simp; done)) (by go_simp; rfl) HS ?_
      refine wpAnyH_done (by kernel_rfl) ?_ _
      have HD := Lib.hid HS.1
      have HZ := Lib.hid HS.2.1
      have HW := Lib.hid HS.2.2
      clear HS
      cases x with
      | some rv =>
        have HX := Lib.hid (HFLS.out (.inl ⟨rv, HLK.out⟩))
        go_wp2
        go_ret
        exact zones_none HX.out HW.out
      | none =>
        have z0 := HZ.out.c0
        obtain ⟨bn, hbn⟩ : ∃ b, nm z.name = b := ⟨_, rfl⟩
        have HBN := Lib.hid hbn
        clear hbn
        go_wp2_with (fail)
        clear z0
        refine (name_is HBN.out _).mono ?_
        rintro e W2 ⟨rfl, hb⟩
        replace HD := Lib.hid (HD.out.after hb)
        replace HZ := Lib.hid (HZ.out.after hb)
        replace HW := Lib.hid (HW.out.trans (hb.mono HW.out.size))
        clear hb
        cases bn with
        | false =>
          have HX := Lib.hid (HFLS.out (.inr (.inl HBN.out)))
          go_wp2
          go_ret
          exact zones_none HX.out HW.out
        | true =>
          have z1 := HZ.out.c1
          obtain ⟨br, hbr⟩ : ∃ b, inR z.room = b := ⟨_, rfl⟩
          have HBR := Lib.hid hbr
          clear hbr
          go_wp2_with (fail)
          clear z1
          refine (range_is HBR.out _).mono ?_
          rintro e W3 ⟨rfl, hb⟩
          replace HD := Lib.hid (HD.out.after hb)
          replace HZ := Lib.hid (HZ.out.after hb)
          replace HW := Lib.hid (HW.out.trans (hb.mono HW.out.size))
          cases br with
          | false =>
            have HX := Lib.hid (HFLS.out (.inr (.inr HBR.out)))
            clear hb
            go_wp2
            go_ret
            exact zones_none HX.out HW.out
          | true =>
            have HB := Lib.hid HD.out.box
            have HM := Lib.hid HD.out
            clear hb HD
            go_upto_region 10 with (fail)
            refine wp_region_held_drew (S := fun V => BoxD V (w.heap.size + 4) ⟨some w.heap.size, some (w.heap.size + 1), some (w.heap.size + 2), some (w.heap.size + 3)⟩ ∧ BoxZ V wr.heap.size z) (by kernel_rfl) ⟨HB.out, HZ.out⟩ (fun _ => ?_)
            refine HeldBy.gen (fun V => (BoxD V (w.heap.size + 4) ⟨some w.heap.size, some (w.heap.size + 1), some (w.heap.size + 2), some (w.heap.size + 3)⟩ ∧ BoxZ V wr.heap.size z) ∧ (DrAt V (w.heap.size + 4) w.heap.size (w.heap.size + 1) (w.heap.size + 2) (w.heap.size + 3) (roomsZ pre) [] [] []) ∧ (Below w.heap.size w V)) ⟨⟨HB.out, HZ.out⟩, HM.out, HW.out.drew⟩ ?_
            clear HB HZ HM HW
            rintro U0 ⟨HS, HM, HW⟩
            refine HeldBy.take (i := 0) rfl (by kernel_rfl) (by kernel_rfl) (by kernel_rfl) (fun _ _ _ h => h) (by rfl) (fun _ _ => by first | (go_simp; rfl) | (go_simp; done)) (by first | (go_simp; rfl) | (go_simp; done)) HS ?_
            refine HeldBy.take (i := 1) rfl (by kernel_rfl) (by kernel_rfl) (by kernel_rfl) (fun _ _ _ h => h) (by rfl) (fun _ _ => by first | (go_simp; rfl) | (go_simp; done)) (by first | (go_simp; rfl) | (go_simp; done)) HS ?_
            refine HeldBy.take (i := 2) rfl (by kernel_rfl) (by kernel_rfl) (by kernel_rfl) (fun _ _ _ h => h) (by rfl) (fun _ _ => by first | (go_simp; rfl) | (go_simp; done)) (by first | (go_simp; rfl) | (go_simp; done)) HS ?_
            refine HeldBy.take (i := 3) (v := .map (some w.heap.size)) rfl (by kernel_rfl) (by kernel_rfl) (by kernel_rfl) (fun _ _ _ h => h) (by rfl) (fun V hV => by have hc := hV.1.c0; first | (go_simp; rfl) | (go_simp; done)) (by first | (go_simp; rfl) | (go_simp; done)) HS ?_
            refine HeldBy.take (i := 4) rfl (by kernel_rfl) (by kernel_rfl) (by kernel_rfl) (fun _ _ _ h => h) (by rfl) (fun _ _ => by first | (go_simp; rfl) | (go_simp; done)) (by first | (go_simp; rfl) | (go_simp; done)) HS ?_
            refine HeldBy.take (i := 5) rfl (by kernel_rfl) (by kernel_rfl) (by kernel_rfl) (fun _ _ _ h => h) (by rfl) (fun V hV => by have hc := hV.2.c0; first | (go_simp; rfl) | (go_simp; done)) (by first | (go_simp; rfl) | (go_simp; done)) HS ?_
            refine HeldBy.take (i := 6) rfl (by kernel_rfl) (by kernel_rfl) (by kernel_rfl) (fun _ _ _ h => h) (by rfl) (fun _ _ => by first | (go_simp; rfl) | (go_simp; done)) (by first | (go_simp; rfl) | (go_simp; done)) HS ?_
            refine HeldBy.take (i := 7) rfl (by kernel_rfl) (by kernel_rfl) (by kernel_rfl) (fun _ _ _ h => h) (by rfl) (fun V hV => by have hc := hV.2.c1; first | (go_simp; rfl) | (go_simp; done)) (by first | (go_simp; rfl) | (go_simp; done)) HS ?_
            obtain ⟨V3, hs3, hm3, ht3⟩ := exec_upd und_R HM.rooms z.name (.int .i64 z.room)
            have hS3 : BoxD V3 (w.heap.size + 4) ⟨some w.heap.size, some (w.heap.size + 1), some (w.heap.size + 2), some (w.heap.size + 3)⟩ ∧ BoxZ V3 wr.heap.size z := ⟨HS.1.turned ht3 (by omega), Turned.other ht3 (by have := HK.out; omega) HS.2⟩
            refine HeldBy.store (i := 8) (w' := V3) rfl (by kernel_rfl) (by rfl) (hs3 rfl rfl rfl rfl) (by first | (go_simp; rfl) | (go_simp; done)) hS3 ?_
            refine wpAnyH_done (by kernel_rfl) ?_ _
            have hm4 := hm3
            rw [HRN.out HLK.out] at hm4
            have HX : Hid (RoundZ l w.heap.size (j + 1) w V3) := ⟨HM.putRooms (five_of _) ht3 hm4, HGN.out HLK.out HBN.out HBR.out, HW.trans (ht3.below (Nat.le_refl _))⟩
            clear hs3 hm3 ht3 hS3 HS HM HW hm4
            go_wp2
            go_roundw
            case rel => exact ⟨j + 1, by go_num, by omega, HX.out⟩
            case measure => simp [RowKit.intOf]; omega
    · have hlt' : ¬ (j : Int) < (l.length : Int) := by omega
      have hE : j = l.length := by omega
      rw [hE, List.take_length] at hd
      rw [hE, List.take_length] at HGOOD
      have HX : Hid (NewZ l w.heap.size w (.returned (.pointer (some ⟨w.heap.size + 4, 0, none⟩))) wr) := by
        have hb : zonesB l = true := (zonesB_iff l).2 ⟨HN16.out.1, HN16.out.2, HGOOD.out⟩
        exact ⟨by rw [hb]; rfl, fun _ => hd, HW.out⟩
      clear hd HGOOD hE
      go_wp2
      go_ret
      exact HX.out
end Go.Proofs.Ytbgfccanbgpjiaa.O.I
