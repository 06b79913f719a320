/- codec.flag, codec.flags. Laid by mkcodec.py. codec.appendObject: an object's bytes behind others. Laid by mkappend.py. -/
import Derived.Test.YtacbfpgknfcimaaCBase
import Derived.Test.YtacbfpgknfcimaaOBox
import Derived.Test.YtacbfpgknfcimaaHeldBy
import Derived.Deep.RegionHeld3
import Derived.Deep.Cut
import Derived.Outline
import Derived.Test.YtacbfpgknfcimaaCPut
import Derived.Test.YtacbfpgknfcimaaOUser
namespace Go.Proofs.Ytacbfpgknfcimaa.C
open Go.RowKit T O
open Go.Lib hiding intOf

/-- A bit, if it is so. -/
def bitN (on : Bool) (b : Int) : Int := if on then b else 0
theorem flag_any (on : Bool) (b : Int) (w : World) :
    Calls Try.prog 77 #[.bool on, .int .u8 b] w fun e w' => e = .returned (.int .u8 (bitN on b)) ∧ w = w' := by
  cases on with
  | false =>
    go_enter Try.func77, Try.ntmps77
    go_wp2
    go_ret
    exact ⟨rfl, rfl⟩
  | true =>
    go_enter Try.func77, Try.ntmps77
    go_wp2
    go_ret
    exact ⟨rfl, rfl⟩
theorem bits_flag (d h k v : Bool) : bits .or .u8 (bits .or .u8 (bits .or .u8 (bitN d 1) (bitN h 2)) (bitN k 4)) (bitN v 8) = (flagN d h k v : Nat) := by
  cases d <;> cases h <;> cases k <;> cases v <;> decide +kernel

set_option maxRecDepth 100000 in
set_option maxHeartbeats 2000000 in
theorem flags_any (o : O.Obj) (w : World) :
    Calls Try.prog 57 #[encO o] w fun e w' => e = .returned (.int .u8 (flagN o.deleting o.hold o.keep o.wait : Nat)) ∧ Below w.heap.size w w' := by
  have HB := Lib.hid (bits_flag o.deleting o.hold o.keep o.wait)
  unfold encO
  go_enter Try.func57, Try.ntmps57
  go_upto_region 1 with (fail)
  refine wp_gen (fun W => BoxO W w.heap.size o ∧ Below w.heap.size w W) ⟨BoxO.new w o, (Below.refl _ _).alloc (Nat.le_refl _) _⟩ ?_
  rintro W1 ⟨hS, hlow⟩
  refine wp_region_held_drew (S := fun W => BoxO W w.heap.size o) (by kernel_rfl) hS.drew (fun _ => ?_)
  refine HeldBy.gen (fun W => BoxO W w.heap.size o ∧ Below w.heap.size w W) ⟨hS.drew, hlow.drew⟩ ?_
  clear hS hlow
  rintro V0 ⟨hS, hlow⟩
  refine HeldBy.take (i := 0) rfl (by kernel_rfl) (by kernel_rfl) (by kernel_rfl) (fun _ _ _ h => h) (by rfl) (fun _ _ => by go_simp; rfl) (by go_simp; rfl) hS ?_
  refine HeldBy.take (i := 1) rfl (by kernel_rfl) (by kernel_rfl) (by kernel_rfl) (fun _ _ _ h => h) (by rfl) (fun _ h => by have c := BoxO.c4 h; go_simp; rfl) (by go_simp; rfl) hS ?_
  refine HeldBy.take (i := 3) rfl (by kernel_rfl) (by kernel_rfl) (by kernel_rfl) (fun _ _ _ h => h) (by rfl) (fun _ _ => by go_simp; rfl) (by go_simp; rfl) hS ?_
  refine HeldBy.take (i := 4) rfl (by kernel_rfl) (by kernel_rfl) (by kernel_rfl) (fun _ _ _ h => h) (by rfl) (fun _ h => by have c := BoxO.c5 h; go_simp; rfl) (by go_simp; rfl) hS ?_
  refine HeldBy.take (i := 7) rfl (by kernel_rfl) (by kernel_rfl) (by kernel_rfl) (fun _ _ _ h => h) (by rfl) (fun _ _ => by go_simp; rfl) (by go_simp; rfl) hS ?_
  refine HeldBy.take (i := 8) rfl (by kernel_rfl) (by kernel_rfl) (by kernel_rfl) (fun _ _ _ h => h) (by rfl) (fun _ h => by have c := BoxO.c10 h; go_simp; rfl) (by go_simp; rfl) hS ?_
  refine HeldBy.take (i := 11) rfl (by kernel_rfl) (by kernel_rfl) (by kernel_rfl) (fun _ _ _ h => h) (by rfl) (fun _ _ => by go_simp; rfl) (by go_simp; rfl) hS ?_
  refine HeldBy.take (i := 12) rfl (by kernel_rfl) (by kernel_rfl) (by kernel_rfl) (fun _ _ _ h => h) (by rfl) (fun _ h => by have c := BoxO.c11 h; go_simp; rfl) (by go_simp; rfl) hS ?_
  refine HeldBy.call (i := 2) (v := .int .u8 (bitN o.deleting 1)) rfl (by kernel_rfl) (by rfl) (by go_simp; exact ⟨rfl, rfl⟩) (by go_simp; rfl) ?_
  refine (flag_any o.deleting 1 _).mono ?_
  rintro e V1 ⟨rfl, hV⟩
  refine ⟨rfl, hV ▸ hS, ?_⟩
  replace hS : BoxO V1 w.heap.size o := hV ▸ hS
  replace hlow : Below _ _ V1 := hV ▸ hlow
  clear hV
  refine HeldBy.call (i := 5) (v := .int .u8 (bitN o.hold 2)) rfl (by kernel_rfl) (by rfl) (by go_simp; exact ⟨rfl, rfl⟩) (by go_simp; rfl) ?_
  refine (flag_any o.hold 2 _).mono ?_
  rintro e V2 ⟨rfl, hV⟩
  refine ⟨rfl, hV ▸ hS, ?_⟩
  replace hS : BoxO V2 w.heap.size o := hV ▸ hS
  replace hlow : Below _ _ V2 := hV ▸ hlow
  clear hV
  refine HeldBy.take (i := 6) rfl (by kernel_rfl) (by kernel_rfl) (by kernel_rfl) (fun _ _ _ h => h) (by rfl) (fun _ _ => by go_simp; rfl) (by go_simp; rfl) hS ?_
  refine HeldBy.call (i := 9) (v := .int .u8 (bitN o.keep 4)) rfl (by kernel_rfl) (by rfl) (by go_simp; exact ⟨rfl, rfl⟩) (by go_simp; rfl) ?_
  refine (flag_any o.keep 4 _).mono ?_
  rintro e V3 ⟨rfl, hV⟩
  refine ⟨rfl, hV ▸ hS, ?_⟩
  replace hS : BoxO V3 w.heap.size o := hV ▸ hS
  replace hlow : Below _ _ V3 := hV ▸ hlow
  clear hV
  refine HeldBy.take (i := 10) rfl (by kernel_rfl) (by kernel_rfl) (by kernel_rfl) (fun _ _ _ h => h) (by rfl) (fun _ _ => by go_simp; rfl) (by go_simp; rfl) hS ?_
  refine HeldBy.call (i := 13) (v := .int .u8 (bitN o.wait 8)) rfl (by kernel_rfl) (by rfl) (by go_simp; exact ⟨rfl, rfl⟩) (by go_simp; rfl) ?_
  refine (flag_any o.wait 8 _).mono ?_
  rintro e V4 ⟨rfl, hV⟩
  refine ⟨rfl, hV ▸ hS, ?_⟩
  replace hS : BoxO V4 w.heap.size o := hV ▸ hS
  replace hlow : Below _ _ V4 := hV ▸ hlow
  clear hV
  refine HeldBy.take (i := 14) rfl (by kernel_rfl) (by kernel_rfl) (by kernel_rfl) (fun _ _ _ h => h) (by rfl) (fun _ _ => by go_simp; rfl) (by go_simp; rfl) hS ?_
  refine HeldBy.take (i := 15) rfl (by kernel_rfl) (by kernel_rfl) (by kernel_rfl) (fun _ _ _ h => h) (by rfl) (fun _ _ => by go_simp; rfl) (by go_simp; rfl) hS ?_
  refine wpAnyH_done (by kernel_rfl) ?_ _
  go_wp2
  go_ret
  exact ⟨by rw [← HB.out]; rfl, hlow⟩
end Go.Proofs.Ytacbfpgknfcimaa.C
namespace Go.Proofs.Ytacbfpgknfcimaa.C
open Go.RowKit T O
open Go.Lib hiding intOf

theorem grown_of_below {W W' : World} (h : Below W.heap.size W W') (row : Option Nat) : W.grownBy W' row := ⟨h.os, h.tape, h.output, h.size, fun k hk _ => h.block k hk⟩
theorem grew_of_below {W W' : World} (h : Below W.heap.size W W') (v : Value) : Grew W v W' v := ⟨grown_of_below h _, .inl rfl⟩
theorem grew_alloc (W : World) (v : Value) (x : Go.Obj) : Grew W v (W.alloc x) v := ⟨World.grownBy_alloc W x _, .inl rfl⟩
/-- How far the bytes of an object have come: its box lies at block g. -/
structure Stage (w : World) (g : Nat) (o : Go.Obj) (B : Nat) (v : Value) (l : Bytes) (W : World) (v' : Value) (cur : Bytes) (N : Nat) : Prop where
  box : W.heap[g]? = some o
  held : Held W B v' (l ++ cur)
  grew : Grew w v W v'
  ne : some g ≠ v'.ownBlock
  len : (l ++ cur).length ≤ N
theorem Stage.lt {w : World} {g : Nat} {o : Go.Obj} {B : Nat} {v : Value} {l : Bytes} {W : World} {v' : Value} {cur : Bytes} {N : Nat} (h : Stage w g o B v l W v' cur N) : g < W.heap.size := (Array.getElem?_eq_some_iff.1 h.box).1
theorem Stage.obj {w : World} {g : Nat} {o : O.Obj} {B : Nat} {v : Value} {l : Bytes} {W : World} {v' : Value} {cur : Bytes} {N : Nat} (h : Stage w g (.cells (cellsO o) 27 (0, 0)) B v l W v' cur N) : BoxO W g o := h.box
theorem Stage.step {w : World} {g : Nat} {o : Go.Obj} {B : Nat} {v : Value} {l : Bytes} {W W2 : World} {v' v2 : Value} {cur more : Bytes} {N : Nat} (h : Stage w g o B v l W v' cur N) (hH : Held W2 B v2 ((l ++ cur) ++ more)) (hG : Grew W v' W2 v2) (hm : more.length ≤ 300) : Stage w g o B v l W2 v2 (cur ++ more) (N + 300) where
  box := (hG.by_.block g h.lt h.ne).trans h.box
  held := by rw [← List.append_assoc]; exact hH
  grew := h.grew.trans hG
  ne := by
    rcases hG.at_ with e | ⟨m, e, hm⟩
    · rw [e]; exact h.ne
    · rw [e]; intro hx; cases hx; have := h.lt; omega
  len := by have := h.len; rw [← List.append_assoc, List.length_append]; omega
theorem Stage.below {w : World} {g : Nat} {o : Go.Obj} {B : Nat} {v : Value} {l : Bytes} {W W2 : World} {v' : Value} {cur : Bytes} {N : Nat} (h : Stage w g o B v l W v' cur N) (hb : Below W.heap.size W W2) : Stage w g o B v l W2 v' cur N where
  box := (hb.block g h.lt).trans h.box
  held := World.ownsRow.kept h.held (grown_of_below hb none) (by cases v'.ownBlock <;> simp)
  grew := h.grew.trans (grew_of_below hb _)
  ne := h.ne
  len := h.len
theorem Stage.new_ne {w : World} {g : Nat} {o : Go.Obj} {B : Nat} {v : Value} {l : Bytes} {W : World} {v' : Value} {cur : Bytes} {N : Nat} (h : Stage w g o B v l W v' cur N) : some W.heap.size ≠ v'.ownBlock := fun e => by
  have := World.ownsRow.lt h.held _ e.symm
  omega
theorem byte_back {k : Int} (h : 0 ≤ k ∧ k ≤ 255) : bv (UInt8.ofNat k.toNat) = .int .u8 k := by
  unfold bv
  rw [toNat_ofNat (by omega), Int.toNat_of_nonneg h.1]
theorem byteB_eq (k : Int) : byteB k = [UInt8.ofNat k.toNat] := rfl
theorem objB_eq (o : O.Obj) : objB o = ((((((((((byteB o.kind ++ [o.name].flatMap txtB) ++ [o.version, o.born].flatMap intB) ++ flagsB (o.deleting, o.hold, o.keep, o.wait)) ++ [o.cls].flatMap txtB) ++ [o.size, o.got].flatMap intB) ++ byteB o.mode) ++
    [o.zone, o.node, o.claim, o.volume, o.source].flatMap txtB) ++ byteB o.phase) ++ [o.num, o.tag].flatMap intB)) := by
  unfold objB
  simp only [List.flatMap_cons, List.flatMap_nil, List.append_nil, List.append_assoc]
theorem flagN_le : ∀ d h k w : Bool, (0 : Int) ≤ (flagN d h k w : Nat) ∧ ((flagN d h k w : Nat) : Int) ≤ 255 := by decide
theorem flagsB_eq (o : O.Obj) : flagsB (o.deleting, o.hold, o.keep, o.wait) = [UInt8.ofNat ((flagN o.deleting o.hold o.keep o.wait : Nat) : Int).toNat] := rfl
/-- An object whose bytes can be laid. -/
structure Say (o : O.Obj) : Prop where
  kind : 0 ≤ o.kind ∧ o.kind ≤ 255
  mode : 0 ≤ o.mode ∧ o.mode ≤ 255
  phase : 0 ≤ o.phase ∧ o.phase ≤ 255
  version : 0 ≤ o.version ∧ o.version < 18446744073709551616
  born : 0 ≤ o.born ∧ o.born < 18446744073709551616
  size : 0 ≤ o.size ∧ o.size < 9223372036854775808
  got : 0 ≤ o.got ∧ o.got < 9223372036854775808
  num : 0 ≤ o.num ∧ o.num < 18446744073709551616
  tag : 0 ≤ o.tag ∧ o.tag < 18446744073709551616
  name : o.name.size ≤ 40
  cls : o.cls.size ≤ 40
  zone : o.zone.size ≤ 40
  node : o.node.size ≤ 40
  claim : o.claim.size ≤ 40
  volume : o.volume.size ≤ 40
  source : o.source.size ≤ 40
theorem say_of_right {o : O.Obj} (hw : WfO o) (h : rightB o = true) : Say o := by
  obtain ⟨w1, -, w3, w4, -, -, ⟨w7, s7⟩, ⟨w8, s8⟩, w9, -, -, -, -, -, w15, w16, w17⟩ := hw
  unfold rightB textsB at h
  simp only [Bool.and_eq_true] at h
  obtain ⟨hn, -, ⟨t1, t2, t3, t4, t5, t6⟩, -⟩ := h
  have s7 := of_decide_eq_true s7
  have s8 := of_decide_eq_true s8
  exact ⟨w1, w9, w15, w3, w4, ⟨w7.1, by omega⟩, ⟨w8.1, by omega⟩, w16, w17, (name_le40 hn).2, okT_le40 t1, okT_le40 t2, okT_le40 t3, okT_le40 t4, okT_le40 t5, okT_le40 t6⟩

set_option maxRecDepth 100000 in
set_option maxHeartbeats 4000000 in
theorem appendObject_any (o : O.Obj) (hs : Say o) (v : Value) (l : Bytes) (B : Nat) (w : World) (hH : Held w B v l) (hB : B ≤ w.heap.size) (hlen : l.length ≤ 100000) :
    Calls Try.prog 26 #[v, encO o] w fun e W' => ∃ v', e = .returned v' ∧ Held W' B v' (l ++ objB o) ∧ Grew w v W' v' := by
  have HS := Lib.hid hs
  have HL := Lib.hid hlen
  have hvb : some w.heap.size ≠ v.ownBlock := fun e => by
    have := World.ownsRow.lt hH _ e.symm
    omega
  clear hs hlen
  unfold encO
  go_enter Try.func26, Try.ntmps26
  go_upto_region 1 with (fail)
  refine wp_gen (fun W => Stage w w.heap.size (.cells (cellsO o) 27 (0, 0)) B v l W v [] 100000) ⟨BoxO.new w o, by rw [List.append_nil]; exact hH.alloc _, grew_alloc _ _ _, hvb, by rw [List.append_nil]; exact HL.out⟩ ?_
  rintro W0 HT
  clear hH hvb HL
  have hBW : B ≤ W0.heap.size := Nat.le_trans hB HT.grew.by_.size
  have c0 := HT.obj.c0
  have HX : Hid (_ + 1 ≤ 1000000000000) := Nat.le_trans (Nat.add_le_add_right HT.len 1) (by decide)
  go_upto_region 2 with (at_builtin; refine wpList_append_one rfl (.tmp 5) (.tmp 8) rfl B v _ ?_ (HT.held.alloc _) W0.heap.size 1 (UInt8.ofNat o.kind.toNat) ?_ ?_ ?_ ?_ ?_; rfl; rfl; (focus exact (cell_one_new _ _ _ 0 _ rfl).trans (by rw [byte_back HS.out.kind])); exact HX.out; (focus (simp; omega)); intro v1 W1 hH2 hG2)
  replace HT := HT.step hH2 hG2.alloc (by simp)
  clear hH2 hG2 c0 HX hBW
  have hBW : B ≤ W1.heap.size := Nat.le_trans hB HT.grew.by_.size
  have c1 := HT.obj.c1
  go_wp2_with fail
  have HM : Hid (∀ x ∈ ([o.name] : List ByteArray), x.size ≤ 40) := by
    show ∀ x ∈ ([o.name] : List ByteArray), x.size ≤ 40
    simp only [List.mem_cons, List.not_mem_nil, or_false, forall_eq]
    exact HS.out.name
  have Hm := Lib.hid (Nat.le_trans (flatT_len _ HM.out) (by simp) : (List.flatMap txtB [o.name]).length ≤ 300)
  refine (appendTexts_any [o.name] ?_ W1.heap.size v1 _ B _ (HT.held.alloc _) (by simp; omega) (by simp) HT.new_ne ?_ ?_).mono ?_
  · exact HM.out
  · intro i hi
    simp only [List.length_cons, List.length_nil] at hi
    have hi' : i = 0 := by omega
    rcases hi' with rfl
    all_goals exact (World.cell?_alloc_mark _ _ _ _ _).trans rfl
  · have := HT.len
    simp only [List.length_cons, List.length_nil]
    omega
  rintro e W2 ⟨v2, rfl, hH2, hG2⟩
  replace HT := HT.step hH2 hG2.alloc Hm.out
  clear hH2 hG2 hBW HM Hm c1
  go_upto_region 3 with (fail)
  have hBW : B ≤ W2.heap.size := Nat.le_trans hB HT.grew.by_.size
  have c2 := HT.obj.c2
  have c3 := HT.obj.c3
  go_wp2_with fail
  have HM : Hid (∀ x ∈ ([o.version, o.born] : List Int), 0 ≤ x ∧ x < 18446744073709551616) := by
    show ∀ x ∈ ([o.version, o.born] : List Int), 0 ≤ x ∧ x < 18446744073709551616
    simp only [List.mem_cons, List.not_mem_nil, or_false, forall_eq_or_imp, forall_eq]
    exact ⟨HS.out.version, HS.out.born⟩
  have Hm := Lib.hid (Nat.le_trans (flat_len _ HM.out) (by simp) : (List.flatMap intB [o.version, o.born]).length ≤ 300)
  refine (appendNumbers_any [o.version, o.born] ?_ W2.heap.size v2 _ B _ (HT.held.alloc _) (by simp; omega) (by simp) HT.new_ne ?_ ?_).mono ?_
  · exact HM.out
  · intro i hi
    simp only [List.length_cons, List.length_nil] at hi
    have hi' : i = 0 ∨ i = 1 := by omega
    rcases hi' with rfl | rfl
    all_goals exact (World.cell?_alloc_mark _ _ _ _ _).trans rfl
  · have := HT.len
    simp only [List.length_cons, List.length_nil]
    omega
  rintro e W3 ⟨v3, rfl, hH2, hG2⟩
  replace HT := HT.step hH2 hG2.alloc Hm.out
  clear hH2 hG2 hBW HM Hm c2 c3
  go_upto_region 4 with (fail)
  have hBW : B ≤ W3.heap.size := Nat.le_trans hB HT.grew.by_.size
  go_wp2_with ((with_reducible refine wpList_load_obj ?_ rfl ?_ HT.obj ?_); rfl; rfl)
  refine (flags_any o _).mono ?_
  rintro e W3b ⟨rfl, hb1⟩
  replace HT := HT.below hb1
  replace hBW : B ≤ W3b.heap.size := Nat.le_trans hBW hb1.size
  clear hb1
  have HX : Hid (_ + 1 ≤ 1000000000000) := Nat.le_trans (Nat.add_le_add_right HT.len 1) (by decide)
  go_upto_region 5 with (at_builtin; refine wpList_append_one rfl (.tmp 22) (.tmp 25) rfl B v3 _ ?_ (HT.held.alloc _) W3b.heap.size 1 (UInt8.ofNat ((flagN o.deleting o.hold o.keep o.wait : Nat) : Int).toNat) ?_ ?_ ?_ ?_ ?_; rfl; rfl; (focus exact (cell_one_new _ _ _ 0 _ rfl).trans (by rw [byte_back (flagN_le _ _ _ _)])); exact HX.out; (focus (simp; omega)); intro v4 W4 hH2 hG2)
  replace HT := HT.step hH2 hG2.alloc (by simp)
  clear hH2 hG2 HX hBW
  have hBW : B ≤ W4.heap.size := Nat.le_trans hB HT.grew.by_.size
  have c6 := HT.obj.c6
  go_wp2_with fail
  have HM : Hid (∀ x ∈ ([o.cls] : List ByteArray), x.size ≤ 40) := by
    show ∀ x ∈ ([o.cls] : List ByteArray), x.size ≤ 40
    simp only [List.mem_cons, List.not_mem_nil, or_false, forall_eq]
    exact HS.out.cls
  have Hm := Lib.hid (Nat.le_trans (flatT_len _ HM.out) (by simp) : (List.flatMap txtB [o.cls]).length ≤ 300)
  refine (appendTexts_any [o.cls] ?_ W4.heap.size v4 _ B _ (HT.held.alloc _) (by simp; omega) (by simp) HT.new_ne ?_ ?_).mono ?_
  · exact HM.out
  · intro i hi
    simp only [List.length_cons, List.length_nil] at hi
    have hi' : i = 0 := by omega
    rcases hi' with rfl
    all_goals exact (World.cell?_alloc_mark _ _ _ _ _).trans rfl
  · have := HT.len
    simp only [List.length_cons, List.length_nil]
    omega
  rintro e W5 ⟨v5, rfl, hH2, hG2⟩
  replace HT := HT.step hH2 hG2.alloc Hm.out
  clear hH2 hG2 hBW HM Hm c6
  go_upto_region 6 with (fail)
  have hBW : B ≤ W5.heap.size := Nat.le_trans hB HT.grew.by_.size
  have c7 := HT.obj.c7
  have c8 := HT.obj.c8
  have z1 := HS.out.size
  have z2 := HS.out.got
  go_wp2_with fail
  have HM : Hid (∀ x ∈ ([o.size, o.got] : List Int), 0 ≤ x ∧ x < 18446744073709551616) := by
    show ∀ x ∈ ([o.size, o.got] : List Int), 0 ≤ x ∧ x < 18446744073709551616
    simp only [List.mem_cons, List.not_mem_nil, or_false, forall_eq_or_imp, forall_eq]
    exact ⟨⟨HS.out.size.1, by have := HS.out.size.2; omega⟩, ⟨HS.out.got.1, by have := HS.out.got.2; omega⟩⟩
  have Hm := Lib.hid (Nat.le_trans (flat_len _ HM.out) (by simp) : (List.flatMap intB [o.size, o.got]).length ≤ 300)
  refine (appendNumbers_any [o.size, o.got] ?_ W5.heap.size v5 _ B _ (HT.held.alloc _) (by simp; omega) (by simp) HT.new_ne ?_ ?_).mono ?_
  · exact HM.out
  · intro i hi
    simp only [List.length_cons, List.length_nil] at hi
    have hi' : i = 0 ∨ i = 1 := by omega
    rcases hi' with rfl | rfl
    all_goals exact (World.cell?_alloc_mark _ _ _ _ _).trans rfl
  · have := HT.len
    simp only [List.length_cons, List.length_nil]
    omega
  rintro e W6 ⟨v6, rfl, hH2, hG2⟩
  replace HT := HT.step hH2 hG2.alloc Hm.out
  clear hH2 hG2 hBW HM Hm c7 c8 z1 z2
  go_upto_region 7 with (fail)
  have hBW : B ≤ W6.heap.size := Nat.le_trans hB HT.grew.by_.size
  have c0 := HT.obj.c9
  have HX : Hid (_ + 1 ≤ 1000000000000) := Nat.le_trans (Nat.add_le_add_right HT.len 1) (by decide)
  go_upto_region 8 with (at_builtin; refine wpList_append_one rfl (.tmp 41) (.tmp 44) rfl B v6 _ ?_ (HT.held.alloc _) W6.heap.size 1 (UInt8.ofNat o.mode.toNat) ?_ ?_ ?_ ?_ ?_; rfl; rfl; (focus exact (cell_one_new _ _ _ 0 _ rfl).trans (by rw [byte_back HS.out.mode])); exact HX.out; (focus (simp; omega)); intro v7 W7 hH2 hG2)
  replace HT := HT.step hH2 hG2.alloc (by simp)
  clear hH2 hG2 c0 HX hBW
  have hBW : B ≤ W7.heap.size := Nat.le_trans hB HT.grew.by_.size
  have c12 := HT.obj.c12
  have c13 := HT.obj.c13
  have c14 := HT.obj.c14
  have c15 := HT.obj.c15
  have c16 := HT.obj.c16
  go_wp2_with fail
  have HM : Hid (∀ x ∈ ([o.zone, o.node, o.claim, o.volume, o.source] : List ByteArray), x.size ≤ 40) := by
    show ∀ x ∈ ([o.zone, o.node, o.claim, o.volume, o.source] : List ByteArray), x.size ≤ 40
    simp only [List.mem_cons, List.not_mem_nil, or_false, forall_eq_or_imp, forall_eq]
    exact ⟨HS.out.zone, HS.out.node, HS.out.claim, HS.out.volume, HS.out.source⟩
  have Hm := Lib.hid (Nat.le_trans (flatT_len _ HM.out) (by simp) : (List.flatMap txtB [o.zone, o.node, o.claim, o.volume, o.source]).length ≤ 300)
  refine (appendTexts_any [o.zone, o.node, o.claim, o.volume, o.source] ?_ W7.heap.size v7 _ B _ (HT.held.alloc _) (by simp; omega) (by simp) HT.new_ne ?_ ?_).mono ?_
  · exact HM.out
  · intro i hi
    simp only [List.length_cons, List.length_nil] at hi
    have hi' : i = 0 ∨ i = 1 ∨ i = 2 ∨ i = 3 ∨ i = 4 := by omega
    rcases hi' with rfl | rfl | rfl | rfl | rfl
    all_goals exact (World.cell?_alloc_mark _ _ _ _ _).trans rfl
  · have := HT.len
    simp only [List.length_cons, List.length_nil]
    omega
  rintro e W8 ⟨v8, rfl, hH2, hG2⟩
  replace HT := HT.step hH2 hG2.alloc Hm.out
  clear hH2 hG2 hBW HM Hm c12 c13 c14 c15 c16
  go_upto_region 9 with (fail)
  have hBW : B ≤ W8.heap.size := Nat.le_trans hB HT.grew.by_.size
  have c0 := HT.obj.c17
  have HX : Hid (_ + 1 ≤ 1000000000000) := Nat.le_trans (Nat.add_le_add_right HT.len 1) (by decide)
  go_upto_region 10 with (at_builtin; refine wpList_append_one rfl (.tmp 59) (.tmp 62) rfl B v8 _ ?_ (HT.held.alloc _) W8.heap.size 1 (UInt8.ofNat o.phase.toNat) ?_ ?_ ?_ ?_ ?_; rfl; rfl; (focus exact (cell_one_new _ _ _ 0 _ rfl).trans (by rw [byte_back HS.out.phase])); exact HX.out; (focus (simp; omega)); intro v9 W9 hH2 hG2)
  replace HT := HT.step hH2 hG2.alloc (by simp)
  clear hH2 hG2 c0 HX hBW
  have hBW : B ≤ W9.heap.size := Nat.le_trans hB HT.grew.by_.size
  have c18 := HT.obj.c18
  have c19 := HT.obj.c19
  go_wp2_with fail
  have HM : Hid (∀ x ∈ ([o.num, o.tag] : List Int), 0 ≤ x ∧ x < 18446744073709551616) := by
    show ∀ x ∈ ([o.num, o.tag] : List Int), 0 ≤ x ∧ x < 18446744073709551616
    simp only [List.mem_cons, List.not_mem_nil, or_false, forall_eq_or_imp, forall_eq]
    exact ⟨HS.out.num, HS.out.tag⟩
  have Hm := Lib.hid (Nat.le_trans (flat_len _ HM.out) (by simp) : (List.flatMap intB [o.num, o.tag]).length ≤ 300)
  refine (appendNumbers_any [o.num, o.tag] ?_ W9.heap.size v9 _ B _ (HT.held.alloc _) (by simp; omega) (by simp) HT.new_ne ?_ ?_).mono ?_
  · exact HM.out
  · intro i hi
    simp only [List.length_cons, List.length_nil] at hi
    have hi' : i = 0 ∨ i = 1 := by omega
    rcases hi' with rfl | rfl
    all_goals exact (World.cell?_alloc_mark _ _ _ _ _).trans rfl
  · have := HT.len
    simp only [List.length_cons, List.length_nil]
    omega
  rintro e W10 ⟨v10, rfl, hH2, hG2⟩
  replace HT := HT.step hH2 hG2.alloc Hm.out
  clear hH2 hG2 hBW HM Hm c18 c19
  go_wp2
  go_ret
  exact ⟨_, rfl, by rw [objB_eq]; exact HT.held, HT.grew⟩
end Go.Proofs.Ytacbfpgknfcimaa.C
