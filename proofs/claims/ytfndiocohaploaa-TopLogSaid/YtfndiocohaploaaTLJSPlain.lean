/- Own work. -/
import Derived.Test.YtfndiocohaploaaTLJSZORight
import Derived.Test.YtfndiocohaploaaTLJSZORightB
import Derived.Test.YtfndiocohaploaaTLJSZKeyMap
import Derived.Deep.RegionHeld3
import Derived.Deep.Cut
import Derived.Outline
import Derived.Test.YtfndiocohaploaaTLJSZCBase
import Derived.Test.YtfndiocohaploaaTLJLawEnd
import Derived.Test.YtfndiocohaploaaTLJSZHeldBy
import Derived.Test.YtfndiocohaploaaTLJSZRangeRow
import Derived.Defers
import Derived.Recover
namespace Go.Proofs.Ytfndiocohaploaa.S
open Go Go.RowKit
abbrev Ky := Int × ByteArray
def keyO (o : O.Obj) : Ky := (o.kind, o.name)
structure St where
  os : List (Ky × O.Obj)
  evs : List C.Ev
  log : L.Lg
def St.next (s : St) : Int := (s.evs.length : Int) + 1
def St.get (s : St) (k : Ky) : Option O.Obj := KM.get k s.os
def putC (s : St) (o : O.Obj) : Int :=
  if O.rightB o = false then 2
  else if o.version ≠ ((s.get (keyO o)).map (·.version)).getD 0 then 6
  else if s.get (keyO o) = none ∧ 200 ≤ s.os.length then 7 else 0
def putO (s : St) (o : O.Obj) : O.Obj := { o with version := s.next, born := ((s.get (keyO o)).map (·.born)).getD s.next, deleting := ((s.get (keyO o)).map (·.deleting)).getD false }
def putE (s : St) (o : O.Obj) : C.Ev := ⟨s.next, false, putO s o⟩
def doS (s : St) (e : C.Ev) : St := ⟨if e.gone then KM.del (keyO e.object) s.os else KM.put (keyO e.object) e.object s.os, s.evs ++ [e], s.log⟩
def syncL (l : L.Lg) : L.Lg := ⟨l.most, l.b.length / 64, l.b⟩
def wrote (s : St) (e : C.Ev) : Int × St :=
  if O.rightB e.object = false then (2, s)
  else if (L.appS s.log (C.evB e)).1 = 0 then (0, doS ⟨s.os, s.evs, syncL (L.appS s.log (C.evB e)).2⟩ e) else ((L.appS s.log (C.evB e)).1, s)
def putS (s : St) (o : O.Obj) : Int × O.Obj × St :=
  if putC s o = 0 then (if (wrote s (putE s o)).1 = 0 then (0, putO s o, (wrote s (putE s o)).2) else ((wrote s (putE s o)).1, O.O0, s)) else (putC s o, O.O0, s)
def markO (s : St) (o : O.Obj) : O.Obj := { o with version := s.next, deleting := true }
def delS (s : St) (k : Ky) : Int × St :=
  match s.get k with
  | none => (5, s)
  | some o => if o.hold = false then wrote s ⟨s.next, true, o⟩ else if o.deleting then (0, s) else wrote s ⟨s.next, false, markO s o⟩
structure Good (s : St) : Prop where
  once : KM.Once s.os
  keys : ∀ p ∈ s.os, p.1 = keyO p.2 ∧ C.Fits p.2
  len : s.evs.length ≤ s.log.b.length / 64
theorem get_mem {s : St} {k : Ky} {o : O.Obj} (h : s.get k = some o) : (k, o) ∈ s.os := KM.get_mem h
theorem Good.of {s : St} (g : Good s) {k : Ky} {o : O.Obj} (h : s.get k = some o) : k = keyO o ∧ C.Fits o := g.keys _ (get_mem h)
theorem put_mem {κ V : Type} [DecidableEq κ] {x : κ} {v : V} : ∀ {m : List (κ × V)} {p : κ × V}, p ∈ KM.put x v m → p = (x, v) ∨ p ∈ m
  | [], p, h => by
    simp only [KM.put, List.mem_singleton] at h
    exact .inl h
  | y :: r, p, h => by
    unfold KM.put at h
    split at h
    · rcases List.mem_cons.1 h with e | e
      · exact .inl e
      · exact .inr (.tail _ e)
    · rcases List.mem_cons.1 h with e | e
      · exact .inr (e ▸ .head _)
      · rcases put_mem e with e | e
        · exact .inl e
        · exact .inr (.tail _ e)
theorem del_mem {κ V : Type} [DecidableEq κ] {x : κ} : ∀ {m : List (κ × V)} {p : κ × V}, p ∈ KM.del x m → p ∈ m
  | [], p, h => h
  | y :: r, p, h => by
    unfold KM.del at h
    split at h
    · exact .tail _ h
    · rcases List.mem_cons.1 h with e | e
      · exact e ▸ .head _
      · exact .tail _ (del_mem e)
theorem get_map {κ V U : Type} [DecidableEq κ] (f : V → U) (x : κ) : ∀ m : List (κ × V), KM.get x (m.map fun p => (p.1, f p.2)) = (KM.get x m).map f
  | [] => rfl
  | p :: r => by
    by_cases h : x = p.1
    · simp [KM.get, h]
    · simp [KM.get, h, get_map f x r]
theorem put_map {κ V U : Type} [DecidableEq κ] (f : V → U) (x : κ) (v : V) : ∀ m : List (κ × V), KM.put x (f v) (m.map fun p => (p.1, f p.2)) = (KM.put x v m).map fun p => (p.1, f p.2)
  | [] => rfl
  | p :: r => by
    by_cases h : x = p.1
    · simp [KM.put, h]
    · simp [KM.put, h, put_map f x v r]
theorem del_map {κ V U : Type} [DecidableEq κ] (f : V → U) (x : κ) : ∀ m : List (κ × V), KM.del x (m.map fun p => (p.1, f p.2)) = (KM.del x m).map fun p => (p.1, f p.2)
  | [] => rfl
  | p :: r => by
    by_cases h : x = p.1
    · simp [KM.del, h]
    · simp [KM.del, h, del_map f x r]
theorem Good.do {s : St} (g : Good s) {e : C.Ev} (hf : C.Fits e.object) (hl : s.evs.length + 1 ≤ s.log.b.length / 64) : Good (doS s e) := by
  refine ⟨?_, fun p hp => ?_, by show (s.evs ++ [e]).length ≤ _; rw [List.length_append]; exact hl⟩
  · show KM.Once (if e.gone then _ else _)
    split
    · exact g.once.del
    · exact g.once.put
  · have hp' : p ∈ (if e.gone then KM.del (keyO e.object) s.os else KM.put (keyO e.object) e.object s.os) := hp
    split at hp'
    · exact g.keys p (del_mem hp')
    · rcases put_mem hp' with rfl | h
      · exact ⟨rfl, hf⟩
      · exact g.keys p h
theorem app_len {l : L.Lg} {r : List UInt8} (h : (L.appS l r).1 = 0) : l.b.length / 64 + 1 ≤ (L.appS l r).2.b.length / 64 ∧ (L.appS l r).2.most = l.most := by
  unfold L.appS at h ⊢
  split at h
  · cases h
  · split at h
    · cases h
    · next h1 h2 =>
      rw [if_neg h1, if_neg h2]
      have := L.laid_length h1 ((L.recs l.b).length + 1)
      refine ⟨?_, rfl⟩
      show _ ≤ (l.b ++ L.laid r ((L.recs l.b).length + 1)).length / 64
      rw [List.length_append, this]
      omega
theorem Good.wrote {s : St} (g : Good s) {e : C.Ev} (hf : C.Fits e.object) : Good (wrote s e).2 := by
  unfold S.wrote
  split
  · exact g
  · split
    · next h =>
      have h1 := (app_len h).1
      have h2 := g.len
      exact Good.do (s := ⟨s.os, s.evs, syncL (L.appS s.log (C.evB e)).2⟩) ⟨g.once, g.keys, by show s.evs.length ≤ (L.appS s.log (C.evB e)).2.b.length / 64; omega⟩ hf (by show s.evs.length + 1 ≤ (L.appS s.log (C.evB e)).2.b.length / 64; omega)
    · exact g
end Go.Proofs.Ytfndiocohaploaa.S
namespace Go.Proofs.Ytfndiocohaploaa.C
open Go.RowKit T O
open Go.Lib hiding intOf
def bitN (on : Bool) (b : Int) : Int := if on then b else 0
theorem flag_any (on : Bool) (b : Int) (w : World) :
    Calls Try.prog 89 #[.bool on, .int .u8 b] w fun e w' => e = .returned (.int .u8 (bitN on b)) ∧ w = w' := by
  cases on with
  | false =>
    go_enter Try.func89, Try.ntmps89
    go_wp2
    go_ret
    exact ⟨rfl, rfl⟩
  | true =>
    go_enter Try.func89, Try.ntmps89
    go_wp2
    go_ret
    exact ⟨rfl, rfl⟩
theorem bits_flag (d h k v : Bool) : bits .or .u8 (bits .or .u8 (bits .or .u8 (bitN d 1) (bitN h 2)) (bitN k 4)) (bitN v 8) = (flagN d h k v : Nat) := by
  cases d <;> cases h <;> cases k <;> cases v <;> decide +kernel
set_option maxRecDepth 100000 in
set_option maxHeartbeats 2000000 in
theorem flags_any (o : O.Obj) (w : World) :
    Calls Try.prog 86 #[encO o] w fun e w' => e = .returned (.int .u8 (flagN o.deleting o.hold o.keep o.wait : Nat)) ∧ Below w.heap.size w w' := by
  have HB := Lib.hid (bits_flag o.deleting o.hold o.keep o.wait)
  unfold encO
  go_enter Try.func86, Try.ntmps86
  go_upto_region 1 with (fail)
  refine wp_gen (fun W => BoxO W w.heap.size o ∧ Below w.heap.size w W) ⟨BoxO.new w o, (Below.refl _ _).alloc (Nat.le_refl _) _⟩ ?_
  rintro W1 ⟨hS, hlow⟩
  refine wp_region_held_drew (S := fun W => BoxO W w.heap.size o) (by kernel_rfl) hS.drew (fun _ => ?_)
  refine HeldBy.gen (fun W => BoxO W w.heap.size o ∧ Below w.heap.size w W) ⟨hS.drew, hlow.drew⟩ ?_
  clear hS hlow
  rintro V0 ⟨hS, hlow⟩
  refine HeldBy.take (i := 0) rfl (by kernel_rfl) (by kernel_rfl) (by kernel_rfl) (fun _ _ _ h => h) (by rfl) (fun _ _ => by go_simp; rfl) (by go_simp; rfl) hS ?_
  refine HeldBy.take (i := 1) rfl (by kernel_rfl) (by kernel_rfl) (by kernel_rfl) (fun _ _ _ h => h) (by rfl) (fun _ h => by have c := BoxO.c4 h; go_simp; rfl) (by go_simp; rfl) hS ?_
  refine HeldBy.take (i := 3) rfl (by kernel_rfl) (by kernel_rfl) (by kernel_rfl) (fun _ _ _ h => h) (by rfl) (fun _ _ => by go_simp; rfl) (by go_simp; rfl) hS ?_
  refine HeldBy.take (i := 4) rfl (by kernel_rfl) (by kernel_rfl) (by kernel_rfl) (fun _ _ _ h => h) (by rfl) (fun _ h => by have c := BoxO.c5 h; go_simp; rfl) (by go_simp; rfl) hS ?_
  refine HeldBy.take (i := 7) rfl (by kernel_rfl) (by kernel_rfl) (by kernel_rfl) (fun _ _ _ h => h) (by rfl) (fun _ _ => by go_simp; rfl) (by go_simp; rfl) hS ?_
  refine HeldBy.take (i := 8) rfl (by kernel_rfl) (by kernel_rfl) (by kernel_rfl) (fun _ _ _ h => h) (by rfl) (fun _ h => by have c := BoxO.c10 h; go_simp; rfl) (by go_simp; rfl) hS ?_
  refine HeldBy.take (i := 11) rfl (by kernel_rfl) (by kernel_rfl) (by kernel_rfl) (fun _ _ _ h => h) (by rfl) (fun _ _ => by go_simp; rfl) (by go_simp; rfl) hS ?_
  refine HeldBy.take (i := 12) rfl (by kernel_rfl) (by kernel_rfl) (by kernel_rfl) (fun _ _ _ h => h) (by rfl) (fun _ h => by have c := BoxO.c11 h; go_simp; rfl) (by go_simp; rfl) hS ?_
  refine HeldBy.call (i := 2) (v := .int .u8 (bitN o.deleting 1)) rfl (by kernel_rfl) (by rfl) (by go_simp; exact ⟨rfl, rfl⟩) (by go_simp; rfl) ?_
  refine (flag_any o.deleting 1 _).mono ?_
  rintro e V1 ⟨rfl, hV⟩
  refine ⟨rfl, hV ▸ hS, ?_⟩
  replace hS : BoxO V1 w.heap.size o := hV ▸ hS
  replace hlow : Below _ _ V1 := hV ▸ hlow
  clear hV
  refine HeldBy.call (i := 5) (v := .int .u8 (bitN o.hold 2)) rfl (by kernel_rfl) (by rfl) (by go_simp; exact ⟨rfl, rfl⟩) (by go_simp; rfl) ?_
  refine (flag_any o.hold 2 _).mono ?_
  rintro e V2 ⟨rfl, hV⟩
  refine ⟨rfl, hV ▸ hS, ?_⟩
  replace hS : BoxO V2 w.heap.size o := hV ▸ hS
  replace hlow : Below _ _ V2 := hV ▸ hlow
  clear hV
  refine HeldBy.take (i := 6) rfl (by kernel_rfl) (by kernel_rfl) (by kernel_rfl) (fun _ _ _ h => h) (by rfl) (fun _ _ => by go_simp; rfl) (by go_simp; rfl) hS ?_
  refine HeldBy.call (i := 9) (v := .int .u8 (bitN o.keep 4)) rfl (by kernel_rfl) (by rfl) (by go_simp; exact ⟨rfl, rfl⟩) (by go_simp; rfl) ?_
  refine (flag_any o.keep 4 _).mono ?_
  rintro e V3 ⟨rfl, hV⟩
  refine ⟨rfl, hV ▸ hS, ?_⟩
  replace hS : BoxO V3 w.heap.size o := hV ▸ hS
  replace hlow : Below _ _ V3 := hV ▸ hlow
  clear hV
  refine HeldBy.take (i := 10) rfl (by kernel_rfl) (by kernel_rfl) (by kernel_rfl) (fun _ _ _ h => h) (by rfl) (fun _ _ => by go_simp; rfl) (by go_simp; rfl) hS ?_
  refine HeldBy.call (i := 13) (v := .int .u8 (bitN o.wait 8)) rfl (by kernel_rfl) (by rfl) (by go_simp; exact ⟨rfl, rfl⟩) (by go_simp; rfl) ?_
  refine (flag_any o.wait 8 _).mono ?_
  rintro e V4 ⟨rfl, hV⟩
  refine ⟨rfl, hV ▸ hS, ?_⟩
  replace hS : BoxO V4 w.heap.size o := hV ▸ hS
  replace hlow : Below _ _ V4 := hV ▸ hlow
  clear hV
  refine HeldBy.take (i := 14) rfl (by kernel_rfl) (by kernel_rfl) (by kernel_rfl) (fun _ _ _ h => h) (by rfl) (fun _ _ => by go_simp; rfl) (by go_simp; rfl) hS ?_
  refine HeldBy.take (i := 15) rfl (by kernel_rfl) (by kernel_rfl) (by kernel_rfl) (fun _ _ _ h => h) (by rfl) (fun _ _ => by go_simp; rfl) (by go_simp; rfl) hS ?_
  refine wpAnyH_done (by kernel_rfl) ?_ _
  go_wp2
  go_ret
  exact ⟨by rw [← HB.out]; rfl, hlow⟩
end Go.Proofs.Ytfndiocohaploaa.C
namespace Go.Proofs.Ytfndiocohaploaa.C
open Go.RowKit T O
open Go.Lib hiding intOf
theorem grown_of_below {W W' : World} (h : Below W.heap.size W W') (row : Option Nat) : W.grownBy W' row := ⟨h.os, h.tape, h.output, h.size, fun k hk _ => h.block k hk⟩
theorem grew_of_below {W W' : World} (h : Below W.heap.size W W') (v : Value) : Grew W v W' v := ⟨grown_of_below h _, .inl rfl⟩
theorem grew_alloc (W : World) (v : Value) (x : Go.Obj) : Grew W v (W.alloc x) v := ⟨World.grownBy_alloc W x _, .inl rfl⟩
structure Stage (w : World) (g : Nat) (o : Go.Obj) (B : Nat) (v : Value) (l : Bytes) (W : World) (v' : Value) (cur : Bytes) (N : Nat) : Prop where
  box : W.heap[g]? = some o
  held : Held W B v' (l ++ cur)
  grew : Grew w v W v'
  ne : some g ≠ v'.ownBlock
  len : (l ++ cur).length ≤ N
theorem Stage.lt {w : World} {g : Nat} {o : Go.Obj} {B : Nat} {v : Value} {l : Bytes} {W : World} {v' : Value} {cur : Bytes} {N : Nat} (h : Stage w g o B v l W v' cur N) : g < W.heap.size := (Array.getElem?_eq_some_iff.1 h.box).1
theorem Stage.obj {w : World} {g : Nat} {o : O.Obj} {B : Nat} {v : Value} {l : Bytes} {W : World} {v' : Value} {cur : Bytes} {N : Nat} (h : Stage w g (.cells (cellsO o) 30 (0, 0)) B v l W v' cur N) : BoxO W g o := h.box
theorem Stage.step {w : World} {g : Nat} {o : Go.Obj} {B : Nat} {v : Value} {l : Bytes} {W W2 : World} {v' v2 : Value} {cur more : Bytes} {N : Nat} (h : Stage w g o B v l W v' cur N) (hH : Held W2 B v2 ((l ++ cur) ++ more)) (hG : Grew W v' W2 v2) (hm : more.length ≤ 300) : Stage w g o B v l W2 v2 (cur ++ more) (N + 300) where
  box := (hG.by_.block g h.lt h.ne).trans h.box
  held := by rw [← List.append_assoc]; exact hH
  grew := h.grew.trans hG
  ne := by
    rcases hG.at_ with e | ⟨m, e, hm⟩
    · rw [e]; exact h.ne
    · rw [e]; intro hx; cases hx; have := h.lt; omega
  len := by have := h.len; rw [← List.append_assoc, List.length_append]; omega
theorem Stage.below {w : World} {g : Nat} {o : Go.Obj} {B : Nat} {v : Value} {l : Bytes} {W W2 : World} {v' : Value} {cur : Bytes} {N : Nat} (h : Stage w g o B v l W v' cur N) (hb : Below W.heap.size W W2) : Stage w g o B v l W2 v' cur N where
  box := (hb.block g h.lt).trans h.box
  held := World.ownsRow.kept h.held (grown_of_below hb none) (by cases v'.ownBlock <;> simp)
  grew := h.grew.trans (grew_of_below hb _)
  ne := h.ne
  len := h.len
theorem Stage.new_ne {w : World} {g : Nat} {o : Go.Obj} {B : Nat} {v : Value} {l : Bytes} {W : World} {v' : Value} {cur : Bytes} {N : Nat} (h : Stage w g o B v l W v' cur N) : some W.heap.size ≠ v'.ownBlock := fun e => by
  have := World.ownsRow.lt h.held _ e.symm
  omega
theorem byte_back {k : Int} (h : 0 ≤ k ∧ k ≤ 255) : bv (UInt8.ofNat k.toNat) = .int .u8 k := by
  unfold bv
  rw [toNat_ofNat (by omega), Int.toNat_of_nonneg h.1]
theorem objB_eq (o : O.Obj) : objB o = ((((((((((byteB o.kind ++ [o.name].flatMap txtB) ++ [o.version, o.born].flatMap intB) ++ flagsB (o.deleting, o.hold, o.keep, o.wait)) ++ [o.cls].flatMap txtB) ++ [o.size, o.got].flatMap intB) ++ byteB o.mode) ++
    [o.zone, o.node, o.claim, o.volume, o.source].flatMap txtB) ++ byteB o.phase) ++ [o.num, o.tag].flatMap intB)) := by
  unfold objB
  simp only [List.flatMap_cons, List.flatMap_nil, List.append_nil, List.append_assoc]
theorem flagN_le : ∀ d h k w : Bool, (0 : Int) ≤ (flagN d h k w : Nat) ∧ ((flagN d h k w : Nat) : Int) ≤ 255 := by decide
structure Say (o : O.Obj) : Prop where
  kind : 0 ≤ o.kind ∧ o.kind ≤ 255
  mode : 0 ≤ o.mode ∧ o.mode ≤ 255
  phase : 0 ≤ o.phase ∧ o.phase ≤ 255
  version : 0 ≤ o.version ∧ o.version < 18446744073709551616
  born : 0 ≤ o.born ∧ o.born < 18446744073709551616
  size : 0 ≤ o.size ∧ o.size < 9223372036854775808
  got : 0 ≤ o.got ∧ o.got < 9223372036854775808
  num : 0 ≤ o.num ∧ o.num < 18446744073709551616
  tag : 0 ≤ o.tag ∧ o.tag < 18446744073709551616
  name : o.name.size ≤ 40
  cls : o.cls.size ≤ 40
  zone : o.zone.size ≤ 40
  node : o.node.size ≤ 40
  claim : o.claim.size ≤ 40
  volume : o.volume.size ≤ 40
  source : o.source.size ≤ 40
theorem say_of_right {o : O.Obj} (hw : WfO o) (h : rightB o = true) : Say o := by
  obtain ⟨w1, -, w3, w4, -, -, ⟨w7, s7⟩, ⟨w8, s8⟩, w9, -, -, -, -, -, w15, w16, w17⟩ := hw
  unfold rightB textsB at h
  simp only [Bool.and_eq_true] at h
  obtain ⟨hn, -, ⟨t1, t2, t3, t4, t5, t6⟩, -⟩ := h
  have s7 := of_decide_eq_true s7
  have s8 := of_decide_eq_true s8
  exact ⟨w1, w9, w15, w3, w4, ⟨w7.1, by omega⟩, ⟨w8.1, by omega⟩, w16, w17, (name_le40 hn).2, okT_le40 t1, okT_le40 t2, okT_le40 t3, okT_le40 t4, okT_le40 t5, okT_le40 t6⟩
set_option maxRecDepth 100000 in
set_option maxHeartbeats 4000000 in
theorem appendObject_any (o : O.Obj) (hs : Say o) (v : Value) (l : Bytes) (B : Nat) (w : World) (hH : Held w B v l) (hB : B ≤ w.heap.size) (hlen : l.length ≤ 100000) :
    Calls Try.prog 80 #[v, encO o] w fun e W' => ∃ v', e = .returned v' ∧ Held W' B v' (l ++ objB o) ∧ Grew w v W' v' := by
  have HS := Lib.hid hs
  have HL := Lib.hid hlen
  have hvb : some w.heap.size ≠ v.ownBlock := fun e => by
    have := World.ownsRow.lt hH _ e.symm
    omega
  clear hs hlen
  unfold encO
  go_enter Try.func80, Try.ntmps80
  go_upto_region 1 with (fail)
  refine wp_gen (fun W => Stage w w.heap.size (.cells (cellsO o) 30 (0, 0)) B v l W v [] 100000) ⟨BoxO.new w o, by rw [List.append_nil]; exact hH.alloc _, grew_alloc _ _ _, hvb, by rw [List.append_nil]; exact HL.out⟩ ?_
  rintro W0 HT
  clear hH hvb HL
  have hBW : B ≤ W0.heap.size := Nat.le_trans hB HT.grew.by_.size
  have c0 := HT.obj.c0
  have HX : Hid (_ + 1 ≤ 1000000000000) := Nat.le_trans (Nat.add_le_add_right HT.len 1) (by decide)
  go_upto_region 2 with (at_builtin; refine wpList_append_one rfl (.tmp 5) (.tmp 8) rfl B v _ ?_ (HT.held.alloc _) W0.heap.size 1 (UInt8.ofNat o.kind.toNat) ?_ ?_ ?_ ?_ ?_; rfl; rfl; (focus exact (cell_one_new _ _ _ 0 _ rfl).trans (by rw [byte_back HS.out.kind])); exact HX.out; (focus (simp; omega)); intro v1 W1 hH2 hG2)
  replace HT := HT.step hH2 hG2.alloc (by simp)
  clear hH2 hG2 c0 HX hBW
  have hBW : B ≤ W1.heap.size := Nat.le_trans hB HT.grew.by_.size
  have c1 := HT.obj.c1
  go_wp2_with fail
  have HM : Hid (∀ x ∈ ([o.name] : List ByteArray), x.size ≤ 40) := by
    show ∀ x ∈ ([o.name] : List ByteArray), x.size ≤ 40
    simp only [List.mem_cons, List.not_mem_nil, or_false, forall_eq]
    exact HS.out.name
  have Hm := Lib.hid (Nat.le_trans (flatT_len _ HM.out) (by simp) : (List.flatMap txtB [o.name]).length ≤ 300)
  refine (appendTexts_any [o.name] ?_ W1.heap.size v1 _ B _ (HT.held.alloc _) (by simp; omega) (by simp) HT.new_ne ?_ ?_).mono ?_
  · exact HM.out
  · intro i hi
    simp only [List.length_cons, List.length_nil] at hi
    have hi' : i = 0 := by omega
    rcases hi' with rfl
    all_goals exact (World.cell?_alloc_mark _ _ _ _ _).trans rfl
  · have := HT.len
    simp only [List.length_cons, List.length_nil]
    omega
  rintro e W2 ⟨v2, rfl, hH2, hG2⟩
  replace HT := HT.step hH2 hG2.alloc Hm.out
  clear hH2 hG2 hBW HM Hm c1
  go_upto_region 3 with (fail)
  have hBW : B ≤ W2.heap.size := Nat.le_trans hB HT.grew.by_.size
  have c2 := HT.obj.c2
  have c3 := HT.obj.c3
  go_wp2_with fail
  have HM : Hid (∀ x ∈ ([o.version, o.born] : List Int), 0 ≤ x ∧ x < 18446744073709551616) := by
    show ∀ x ∈ ([o.version, o.born] : List Int), 0 ≤ x ∧ x < 18446744073709551616
    simp only [List.mem_cons, List.not_mem_nil, or_false, forall_eq_or_imp, forall_eq]
    exact ⟨HS.out.version, HS.out.born⟩
  have Hm := Lib.hid (Nat.le_trans (flat_len _ HM.out) (by simp) : (List.flatMap intB [o.version, o.born]).length ≤ 300)
  refine (appendNumbers_any [o.version, o.born] ?_ W2.heap.size v2 _ B _ (HT.held.alloc _) (by simp; omega) (by simp) HT.new_ne ?_ ?_).mono ?_
  · exact HM.out
  · intro i hi
    simp only [List.length_cons, List.length_nil] at hi
    have hi' : i = 0 ∨ i = 1 := by omega
    rcases hi' with rfl | rfl
    all_goals exact (World.cell?_alloc_mark _ _ _ _ _).trans rfl
  · have := HT.len
    simp only [List.length_cons, List.length_nil]
    omega
  rintro e W3 ⟨v3, rfl, hH2, hG2⟩
  replace HT := HT.step hH2 hG2.alloc Hm.out
  clear hH2 hG2 hBW HM Hm c2 c3
  go_upto_region 4 with (fail)
  have hBW : B ≤ W3.heap.size := Nat.le_trans hB HT.grew.by_.size
  go_wp2_with ((with_reducible refine wpList_load_obj ?_ rfl ?_ HT.obj ?_); rfl; rfl)
  refine (flags_any o _).mono ?_
  rintro e W3b ⟨rfl, hb1⟩
  replace HT := HT.below hb1
  replace hBW : B ≤ W3b.heap.size := Nat.le_trans hBW hb1.size
  clear hb1
  have HX : Hid (_ + 1 ≤ 1000000000000) := Nat.le_trans (Nat.add_le_add_right HT.len 1) (by decide)
  go_upto_region 5 with (at_builtin; refine wpList_append_one rfl (.tmp 22) (.tmp 25) rfl B v3 _ ?_ (HT.held.alloc _) W3b.heap.size 1 (UInt8.ofNat ((flagN o.deleting o.hold o.keep o.wait : Nat) : Int).toNat) ?_ ?_ ?_ ?_ ?_; rfl; rfl; (focus exact (cell_one_new _ _ _ 0 _ rfl).trans (by rw [byte_back (flagN_le _ _ _ _)])); exact HX.out; (focus (simp; omega)); intro v4 W4 hH2 hG2)
  replace HT := HT.step hH2 hG2.alloc (by simp)
  clear hH2 hG2 HX hBW
  have hBW : B ≤ W4.heap.size := Nat.le_trans hB HT.grew.by_.size
  have c6 := HT.obj.c6
  go_wp2_with fail
  have HM : Hid (∀ x ∈ ([o.cls] : List ByteArray), x.size ≤ 40) := by
    show ∀ x ∈ ([o.cls] : List ByteArray), x.size ≤ 40
    simp only [List.mem_cons, List.not_mem_nil, or_false, forall_eq]
    exact HS.out.cls
  have Hm := Lib.hid (Nat.le_trans (flatT_len _ HM.out) (by simp) : (List.flatMap txtB [o.cls]).length ≤ 300)
  refine (appendTexts_any [o.cls] ?_ W4.heap.size v4 _ B _ (HT.held.alloc _) (by simp; omega) (by simp) HT.new_ne ?_ ?_).mono ?_
  · exact HM.out
  · intro i hi
    simp only [List.length_cons, List.length_nil] at hi
    have hi' : i = 0 := by omega
    rcases hi' with rfl
    all_goals exact (World.cell?_alloc_mark _ _ _ _ _).trans rfl
  · have := HT.len
    simp only [List.length_cons, List.length_nil]
    omega
  rintro e W5 ⟨v5, rfl, hH2, hG2⟩
  replace HT := HT.step hH2 hG2.alloc Hm.out
  clear hH2 hG2 hBW HM Hm c6
  go_upto_region 6 with (fail)
  have hBW : B ≤ W5.heap.size := Nat.le_trans hB HT.grew.by_.size
  have c7 := HT.obj.c7
  have c8 := HT.obj.c8
  have z1 := HS.out.size
  have z2 := HS.out.got
  go_wp2_with fail
  have HM : Hid (∀ x ∈ ([o.size, o.got] : List Int), 0 ≤ x ∧ x < 18446744073709551616) := by
    show ∀ x ∈ ([o.size, o.got] : List Int), 0 ≤ x ∧ x < 18446744073709551616
    simp only [List.mem_cons, List.not_mem_nil, or_false, forall_eq_or_imp, forall_eq]
    exact ⟨⟨HS.out.size.1, by have := HS.out.size.2; omega⟩, ⟨HS.out.got.1, by have := HS.out.got.2; omega⟩⟩
  have Hm := Lib.hid (Nat.le_trans (flat_len _ HM.out) (by simp) : (List.flatMap intB [o.size, o.got]).length ≤ 300)
  refine (appendNumbers_any [o.size, o.got] ?_ W5.heap.size v5 _ B _ (HT.held.alloc _) (by simp; omega) (by simp) HT.new_ne ?_ ?_).mono ?_
  · exact HM.out
  · intro i hi
    simp only [List.length_cons, List.length_nil] at hi
    have hi' : i = 0 ∨ i = 1 := by omega
    rcases hi' with rfl | rfl
    all_goals exact (World.cell?_alloc_mark _ _ _ _ _).trans rfl
  · have := HT.len
    simp only [List.length_cons, List.length_nil]
    omega
  rintro e W6 ⟨v6, rfl, hH2, hG2⟩
  replace HT := HT.step hH2 hG2.alloc Hm.out
  clear hH2 hG2 hBW HM Hm c7 c8 z1 z2
  go_upto_region 7 with (fail)
  have hBW : B ≤ W6.heap.size := Nat.le_trans hB HT.grew.by_.size
  have c0 := HT.obj.c9
  have HX : Hid (_ + 1 ≤ 1000000000000) := Nat.le_trans (Nat.add_le_add_right HT.len 1) (by decide)
  go_upto_region 8 with (at_builtin; refine wpList_append_one rfl (.tmp 41) (.tmp 44) rfl B v6 _ ?_ (HT.held.alloc _) W6.heap.size 1 (UInt8.ofNat o.mode.toNat) ?_ ?_ ?_ ?_ ?_; rfl; rfl; (focus exact (cell_one_new _ _ _ 0 _ rfl).trans (by rw [byte_back HS.out.mode])); exact HX.out; (focus (simp; omega)); intro v7 W7 hH2 hG2)
  replace HT := HT.step hH2 hG2.alloc (by simp)
  clear hH2 hG2 c0 HX hBW
  have hBW : B ≤ W7.heap.size := Nat.le_trans hB HT.grew.by_.size
  have c12 := HT.obj.c12
  have c13 := HT.obj.c13
  have c14 := HT.obj.c14
  have c15 := HT.obj.c15
  have c16 := HT.obj.c16
  go_wp2_with fail
  have HM : Hid (∀ x ∈ ([o.zone, o.node, o.claim, o.volume, o.source] : List ByteArray), x.size ≤ 40) := by
    show ∀ x ∈ ([o.zone, o.node, o.claim, o.volume, o.source] : List ByteArray), x.size ≤ 40
    simp only [List.mem_cons, List.not_mem_nil, or_false, forall_eq_or_imp, forall_eq]
    exact ⟨HS.out.zone, HS.out.node, HS.out.claim, HS.out.volume, HS.out.source⟩
  have Hm := Lib.hid (Nat.le_trans (flatT_len _ HM.out) (by simp) : (List.flatMap txtB [o.zone, o.node, o.claim, o.volume, o.source]).length ≤ 300)
  refine (appendTexts_any [o.zone, o.node, o.claim, o.volume, o.source] ?_ W7.heap.size v7 _ B _ (HT.held.alloc _) (by simp; omega) (by simp) HT.new_ne ?_ ?_).mono ?_
  · exact HM.out
  · intro i hi
    simp only [List.length_cons, List.length_nil] at hi
    have hi' : i = 0 ∨ i = 1 ∨ i = 2 ∨ i = 3 ∨ i = 4 := by omega
    rcases hi' with rfl | rfl | rfl | rfl | rfl
    all_goals exact (World.cell?_alloc_mark _ _ _ _ _).trans rfl
  · have := HT.len
    simp only [List.length_cons, List.length_nil]
    omega
  rintro e W8 ⟨v8, rfl, hH2, hG2⟩
  replace HT := HT.step hH2 hG2.alloc Hm.out
  clear hH2 hG2 hBW HM Hm c12 c13 c14 c15 c16
  go_upto_region 9 with (fail)
  have hBW : B ≤ W8.heap.size := Nat.le_trans hB HT.grew.by_.size
  have c0 := HT.obj.c17
  have HX : Hid (_ + 1 ≤ 1000000000000) := Nat.le_trans (Nat.add_le_add_right HT.len 1) (by decide)
  go_upto_region 10 with (at_builtin; refine wpList_append_one rfl (.tmp 59) (.tmp 62) rfl B v8 _ ?_ (HT.held.alloc _) W8.heap.size 1 (UInt8.ofNat o.phase.toNat) ?_ ?_ ?_ ?_ ?_; rfl; rfl; (focus exact (cell_one_new _ _ _ 0 _ rfl).trans (by rw [byte_back HS.out.phase])); exact HX.out; (focus (simp; omega)); intro v9 W9 hH2 hG2)
  replace HT := HT.step hH2 hG2.alloc (by simp)
  clear hH2 hG2 c0 HX hBW
  have hBW : B ≤ W9.heap.size := Nat.le_trans hB HT.grew.by_.size
  have c18 := HT.obj.c18
  have c19 := HT.obj.c19
  go_wp2_with fail
  have HM : Hid (∀ x ∈ ([o.num, o.tag] : List Int), 0 ≤ x ∧ x < 18446744073709551616) := by
    show ∀ x ∈ ([o.num, o.tag] : List Int), 0 ≤ x ∧ x < 18446744073709551616
    simp only [List.mem_cons, List.not_mem_nil, or_false, forall_eq_or_imp, forall_eq]
    exact ⟨HS.out.num, HS.out.tag⟩
  have Hm := Lib.hid (Nat.le_trans (flat_len _ HM.out) (by simp) : (List.flatMap intB [o.num, o.tag]).length ≤ 300)
  refine (appendNumbers_any [o.num, o.tag] ?_ W9.heap.size v9 _ B _ (HT.held.alloc _) (by simp; omega) (by simp) HT.new_ne ?_ ?_).mono ?_
  · exact HM.out
  · intro i hi
    simp only [List.length_cons, List.length_nil] at hi
    have hi' : i = 0 ∨ i = 1 := by omega
    rcases hi' with rfl | rfl
    all_goals exact (World.cell?_alloc_mark _ _ _ _ _).trans rfl
  · have := HT.len
    simp only [List.length_cons, List.length_nil]
    omega
  rintro e W10 ⟨v10, rfl, hH2, hG2⟩
  replace HT := HT.step hH2 hG2.alloc Hm.out
  clear hH2 hG2 hBW HM Hm c18 c19
  go_wp2
  go_ret
  exact ⟨_, rfl, by rw [objB_eq]; exact HT.held, HT.grew⟩
end Go.Proofs.Ytfndiocohaploaa.C
namespace Go.Proofs.Ytfndiocohaploaa.C
open Go.RowKit T O
open Go.Lib hiding intOf
theorem u8_some {l l' : Bytes} {b : UInt8} (h : rdByte l = some (b, l')) : rdU8 l = some ((b.toNat : Int), l') := by simp [rdU8, mapR, h]
theorem u8_none {l : Bytes} (h : rdByte l = none) : rdU8 l = none := by simp [rdU8, mapR, h]
theorem u64_some {l l' : Bytes} {n : Nat} (h : rdNum l = some (n, l')) : rdU64 l = some ((n : Int), l') := by simp [rdU64, mapR, h]
theorem u64_none {l : Bytes} (h : rdNum l = none) : rdU64 l = none := by simp [rdU64, mapR, h]
structure ROb (w : World) (r ob rb : Nat) (o : O.Obj) (l : Bytes) (W : World) : Prop where
  box : BoxO W ob o
  res : BoxO W rb O0
  left : Left W r l
  grew : w.grownBy W (some r)
  lo : r < w.heap.size
  hi : w.heap.size ≤ ob ∧ w.heap.size ≤ rb ∧ ob ≠ rb
section
variable {w : World} {r ob rb : Nat} {o : O.Obj} {l l' : Bytes} {W W1 : World}
theorem BoxO.kept' {b : Nat} (h : BoxO W b o) {row : Option Nat} (hg : W.grownBy W1 row) (hne : some b ≠ row) : BoxO W1 b o := (hg.block b h.lt hne).trans h
theorem ROb.step (h : ROb w r ob rb o l W) (hg : W.grownBy W1 (some r)) (hL : Left W1 r l') : ROb w r ob rb o l' W1 where
  box := BoxO.kept' h.box hg (by have := h.lo; have := h.hi; simp; omega)
  res := BoxO.kept' h.res hg (by have := h.lo; have := h.hi; simp; omega)
  left := hL
  grew := h.grew.trans hg
  lo := h.lo
  hi := h.hi
theorem below_set (W : World) {B b : Nat} (hB : B ≤ b) (i : Nat) (v : Value) : Below B W (W.setCell ⟨b, i, none⟩ v) := (Below.refl B W).setCell (p := ⟨b, i, none⟩) hB v
theorem ROb.set (h : ROb w r ob rb o l W) {i : Nat} {v : Value} {o' : O.Obj} (hb : BoxO (W.setCell ⟨ob, i, none⟩ v) ob o') : ROb w r ob rb o' l (W.setCell ⟨ob, i, none⟩ v) where
  box := hb
  res := h.res.other (p := ⟨ob, i, none⟩) (fun e => h.hi.2.2 e.symm) v
  left := h.left.above (below_set W (Nat.le_refl ob) i v) (by have := h.lo; have := h.hi; omega)
  grew := by
    have hs := h.grew.size
    have hb := below_set W h.hi.1 i v
    exact ⟨hb.os.trans h.grew.os, hb.tape.trans h.grew.tape, hb.output.trans h.grew.output, Nat.le_trans hs hb.size, fun k hk hne => (hb.block k hk).trans (h.grew.block k hk hne)⟩
  lo := h.lo
  hi := h.hi
theorem ROb.below (h : ROb w r ob rb o l W) (hb : Below W.heap.size W W1) : ROb w r ob rb o l W1 where
  box := h.box.after hb
  res := h.res.after hb
  left := h.left.after hb
  grew := h.grew.trans (⟨hb.os, hb.tape, hb.output, hb.size, fun k hk _ => hb.block k hk⟩)
  lo := h.lo
  hi := h.hi
end
set_option maxRecDepth 100000 in
set_option maxHeartbeats 8000000 in
theorem readObject_any (r : Nat) (l : Bytes) (w : World) (h : Left w r l) :
    Calls Try.prog 50 #[.pointer (some ⟨r, 0, none⟩)] w (Reads r rdObj encO l w) := by
  have HO : Hid (rdObj l = (rdRow l).bind finR) := rdObj_eq l
  unfold rdRow at HO
  have hr := h.lt
  go_enter Try.func50, Try.ntmps50
  go_upto_region 2 with (fail)
  refine wp_gen (fun W => ROb w r (w.heap.size + 1) w.heap.size O0 l W) ⟨heap_alloc2_new w _ _, (BoxO.new w O0).alloc _, (h.after ((Below.refl _ _).alloc (Nat.le_refl _) _)).after ((Below.refl _ _).alloc (Nat.le_refl _) _), (World.grownBy_alloc w _ _).trans (World.grownBy_alloc _ _ _), hr, by omega, by omega, by omega⟩ ?_
  clear h hr
  rintro V0 HS
  go_wp2_with fail
  refine (one_any r _ _ HS.left).mono ?_
  rintro e W1 ⟨hg, ⟨x1, l1, hp, rfl, hL⟩ | ⟨hp, rfl⟩⟩
  rotate_left
  · have HF : Hid (Reads r rdObj encO l w gaveUp W1) := ⟨HS.grew.trans hg, .inr ⟨HO.out.trans (pair_none (u8_none hp) _), rfl⟩⟩
    clear hp hg HS HO
    go_wp2
    exact ⟨rfl, HF.out⟩
  replace HS := HS.step hg hL
  replace HO := Lib.hid (HO.out.trans (pair_some (u8_some hp) _))
  clear hg hL hp
  unfold bv
  have f0 := HS.box.free 0
  have c0 := HS.box.c0
  go_upto_region 3 with (fail)
  refine wp_gen (fun W => ROb w r (w.heap.size + 1) w.heap.size (⟨(x1.toNat : Int), E0, 0, 0, false, false, E0, 0, 0, 0, false, false, E0, E0, E0, E0, E0, 0, 0, 0⟩ : O.Obj) l1 W) (HS.set (HS.box.s0 (x1.toNat : Int))) ?_
  clear HS f0 c0
  rintro V1 HS
  go_wp2_with fail
  refine (text_any r _ _ HS.left).mono ?_
  rintro e W2 ⟨hg, ⟨x2, l2, hp, rfl, hL⟩ | ⟨hp, rfl⟩⟩
  rotate_left
  · have HF : Hid (Reads r rdObj encO l w gaveUp W2) := ⟨HS.grew.trans hg, .inr ⟨HO.out.trans (pair_none hp _), rfl⟩⟩
    clear hp hg HS HO
    go_wp2
    exact ⟨rfl, HF.out⟩
  replace HS := HS.step hg hL
  replace HO := Lib.hid (HO.out.trans (pair_some hp _))
  clear hg hL hp
  have f1 := HS.box.free 1
  have c1 := HS.box.c1
  go_upto_region 4 with (fail)
  refine wp_gen (fun W => ROb w r (w.heap.size + 1) w.heap.size (⟨(x1.toNat : Int), x2, 0, 0, false, false, E0, 0, 0, 0, false, false, E0, E0, E0, E0, E0, 0, 0, 0⟩ : O.Obj) l2 W) (HS.set (HS.box.s1 x2)) ?_
  clear HS f1 c1
  rintro V2 HS
  go_wp2_with fail
  refine (number_any r _ _ HS.left).mono ?_
  rintro e W3 ⟨hg, ⟨x3, l3, hp, rfl, hL⟩ | ⟨hp, rfl⟩⟩
  rotate_left
  · have HF : Hid (Reads r rdObj encO l w gaveUp W3) := ⟨HS.grew.trans hg, .inr ⟨HO.out.trans (pair_none (u64_none hp) _), rfl⟩⟩
    clear hp hg HS HO
    go_wp2
    exact ⟨rfl, HF.out⟩
  replace HS := HS.step hg hL
  replace HO := Lib.hid (HO.out.trans (pair_some (u64_some hp) _))
  clear hg hL hp
  have f2 := HS.box.free 2
  have c2 := HS.box.c2
  go_upto_region 5 with (fail)
  refine wp_gen (fun W => ROb w r (w.heap.size + 1) w.heap.size (⟨(x1.toNat : Int), x2, (x3 : Int), 0, false, false, E0, 0, 0, 0, false, false, E0, E0, E0, E0, E0, 0, 0, 0⟩ : O.Obj) l3 W) (HS.set (HS.box.s2 (x3 : Int))) ?_
  clear HS f2 c2
  rintro V3 HS
  go_wp2_with fail
  refine (number_any r _ _ HS.left).mono ?_
  rintro e W4 ⟨hg, ⟨x4, l4, hp, rfl, hL⟩ | ⟨hp, rfl⟩⟩
  rotate_left
  · have HF : Hid (Reads r rdObj encO l w gaveUp W4) := ⟨HS.grew.trans hg, .inr ⟨HO.out.trans (pair_none (u64_none hp) _), rfl⟩⟩
    clear hp hg HS HO
    go_wp2
    exact ⟨rfl, HF.out⟩
  replace HS := HS.step hg hL
  replace HO := Lib.hid (HO.out.trans (pair_some (u64_some hp) _))
  clear hg hL hp
  have f3 := HS.box.free 3
  have c3 := HS.box.c3
  go_upto_region 6 with (fail)
  refine wp_gen (fun W => ROb w r (w.heap.size + 1) w.heap.size (⟨(x1.toNat : Int), x2, (x3 : Int), (x4 : Int), false, false, E0, 0, 0, 0, false, false, E0, E0, E0, E0, E0, 0, 0, 0⟩ : O.Obj) l4 W) (HS.set (HS.box.s3 (x4 : Int))) ?_
  clear HS f3 c3
  rintro V4 HS
  go_wp2_with fail
  refine (flagsR_any r _ _ HS.left).mono ?_
  rintro e W5 ⟨hg, ⟨x5, l5, hp, rfl, hL⟩ | ⟨hp, rfl⟩⟩
  rotate_left
  · have HF : Hid (Reads r rdObj encO l w gaveUp W5) := ⟨HS.grew.trans hg, .inr ⟨HO.out.trans (pair_none hp _), rfl⟩⟩
    clear hp hg HS HO
    go_wp2
    exact ⟨rfl, HF.out⟩
  replace HS := HS.step hg hL
  replace HO := Lib.hid (HO.out.trans (pair_some hp _))
  clear hg hL hp
  unfold encF
  have f4 := HS.box.free 4
  have c4 := HS.box.c4
  have f5 := HS.box.free 5
  have c5 := HS.box.c5
  have f10 := HS.box.free 10
  have c10 := HS.box.c10
  have f11 := HS.box.free 11
  have c11 := HS.box.c11
  go_upto_region 7 with (fail)
  refine wp_gen (fun W => ROb w r (w.heap.size + 1) w.heap.size (⟨(x1.toNat : Int), x2, (x3 : Int), (x4 : Int), x5.1, x5.2.1, E0, 0, 0, 0, x5.2.2.1, x5.2.2.2, E0, E0, E0, E0, E0, 0, 0, 0⟩ : O.Obj) l5 W) ((((HS.set (HS.box.s4 x5.1)).set ((HS.box.s4 x5.1).s5 x5.2.1)).set (((HS.box.s4 x5.1).s5 x5.2.1).s10 x5.2.2.1)).set ((((HS.box.s4 x5.1).s5 x5.2.1).s10 x5.2.2.1).s11 x5.2.2.2)) ?_
  clear HS f4 c4 f5 c5 f10 c10 f11 c11
  rintro V5 HS
  go_wp2_with fail
  refine (text_any r _ _ HS.left).mono ?_
  rintro e W6 ⟨hg, ⟨x6, l6, hp, rfl, hL⟩ | ⟨hp, rfl⟩⟩
  rotate_left
  · have HF : Hid (Reads r rdObj encO l w gaveUp W6) := ⟨HS.grew.trans hg, .inr ⟨HO.out.trans (pair_none hp _), rfl⟩⟩
    clear hp hg HS HO
    go_wp2
    exact ⟨rfl, HF.out⟩
  replace HS := HS.step hg hL
  replace HO := Lib.hid (HO.out.trans (pair_some hp _))
  clear hg hL hp
  have f6 := HS.box.free 6
  have c6 := HS.box.c6
  go_upto_region 8 with (fail)
  refine wp_gen (fun W => ROb w r (w.heap.size + 1) w.heap.size (⟨(x1.toNat : Int), x2, (x3 : Int), (x4 : Int), x5.1, x5.2.1, x6, 0, 0, 0, x5.2.2.1, x5.2.2.2, E0, E0, E0, E0, E0, 0, 0, 0⟩ : O.Obj) l6 W) (HS.set (HS.box.s6 x6)) ?_
  clear HS f6 c6
  rintro V6 HS
  go_wp2_with fail
  refine (size_any r _ _ HS.left).mono ?_
  rintro e W7 ⟨hg, ⟨x7, l7, hp, rfl, hL⟩ | ⟨hp, rfl⟩⟩
  rotate_left
  · have HF : Hid (Reads r rdObj encO l w gaveUp W7) := ⟨HS.grew.trans hg, .inr ⟨HO.out.trans (pair_none hp _), rfl⟩⟩
    clear hp hg HS HO
    go_wp2
    exact ⟨rfl, HF.out⟩
  replace HS := HS.step hg hL
  replace HO := Lib.hid (HO.out.trans (pair_some hp _))
  clear hg hL hp
  have f7 := HS.box.free 7
  have c7 := HS.box.c7
  go_upto_region 9 with (fail)
  refine wp_gen (fun W => ROb w r (w.heap.size + 1) w.heap.size (⟨(x1.toNat : Int), x2, (x3 : Int), (x4 : Int), x5.1, x5.2.1, x6, x7, 0, 0, x5.2.2.1, x5.2.2.2, E0, E0, E0, E0, E0, 0, 0, 0⟩ : O.Obj) l7 W) (HS.set (HS.box.s7 x7)) ?_
  clear HS f7 c7
  rintro V7 HS
  go_wp2_with fail
  refine (size_any r _ _ HS.left).mono ?_
  rintro e W8 ⟨hg, ⟨x8, l8, hp, rfl, hL⟩ | ⟨hp, rfl⟩⟩
  rotate_left
  · have HF : Hid (Reads r rdObj encO l w gaveUp W8) := ⟨HS.grew.trans hg, .inr ⟨HO.out.trans (pair_none hp _), rfl⟩⟩
    clear hp hg HS HO
    go_wp2
    exact ⟨rfl, HF.out⟩
  replace HS := HS.step hg hL
  replace HO := Lib.hid (HO.out.trans (pair_some hp _))
  clear hg hL hp
  have f8 := HS.box.free 8
  have c8 := HS.box.c8
  go_upto_region 10 with (fail)
  refine wp_gen (fun W => ROb w r (w.heap.size + 1) w.heap.size (⟨(x1.toNat : Int), x2, (x3 : Int), (x4 : Int), x5.1, x5.2.1, x6, x7, x8, 0, x5.2.2.1, x5.2.2.2, E0, E0, E0, E0, E0, 0, 0, 0⟩ : O.Obj) l8 W) (HS.set (HS.box.s8 x8)) ?_
  clear HS f8 c8
  rintro V8 HS
  go_wp2_with fail
  refine (one_any r _ _ HS.left).mono ?_
  rintro e W9 ⟨hg, ⟨x9, l9, hp, rfl, hL⟩ | ⟨hp, rfl⟩⟩
  rotate_left
  · have HF : Hid (Reads r rdObj encO l w gaveUp W9) := ⟨HS.grew.trans hg, .inr ⟨HO.out.trans (pair_none (u8_none hp) _), rfl⟩⟩
    clear hp hg HS HO
    go_wp2
    exact ⟨rfl, HF.out⟩
  replace HS := HS.step hg hL
  replace HO := Lib.hid (HO.out.trans (pair_some (u8_some hp) _))
  clear hg hL hp
  unfold bv
  have f9 := HS.box.free 9
  have c9 := HS.box.c9
  go_upto_region 11 with (fail)
  refine wp_gen (fun W => ROb w r (w.heap.size + 1) w.heap.size (⟨(x1.toNat : Int), x2, (x3 : Int), (x4 : Int), x5.1, x5.2.1, x6, x7, x8, (x9.toNat : Int), x5.2.2.1, x5.2.2.2, E0, E0, E0, E0, E0, 0, 0, 0⟩ : O.Obj) l9 W) (HS.set (HS.box.s9 (x9.toNat : Int))) ?_
  clear HS f9 c9
  rintro V9 HS
  go_wp2_with fail
  refine (text_any r _ _ HS.left).mono ?_
  rintro e W10 ⟨hg, ⟨x10, l10, hp, rfl, hL⟩ | ⟨hp, rfl⟩⟩
  rotate_left
  · have HF : Hid (Reads r rdObj encO l w gaveUp W10) := ⟨HS.grew.trans hg, .inr ⟨HO.out.trans (pair_none hp _), rfl⟩⟩
    clear hp hg HS HO
    go_wp2
    exact ⟨rfl, HF.out⟩
  replace HS := HS.step hg hL
  replace HO := Lib.hid (HO.out.trans (pair_some hp _))
  clear hg hL hp
  have f12 := HS.box.free 12
  have c12 := HS.box.c12
  go_upto_region 12 with (fail)
  refine wp_gen (fun W => ROb w r (w.heap.size + 1) w.heap.size (⟨(x1.toNat : Int), x2, (x3 : Int), (x4 : Int), x5.1, x5.2.1, x6, x7, x8, (x9.toNat : Int), x5.2.2.1, x5.2.2.2, x10, E0, E0, E0, E0, 0, 0, 0⟩ : O.Obj) l10 W) (HS.set (HS.box.s12 x10)) ?_
  clear HS f12 c12
  rintro V10 HS
  go_wp2_with fail
  refine (text_any r _ _ HS.left).mono ?_
  rintro e W11 ⟨hg, ⟨x11, l11, hp, rfl, hL⟩ | ⟨hp, rfl⟩⟩
  rotate_left
  · have HF : Hid (Reads r rdObj encO l w gaveUp W11) := ⟨HS.grew.trans hg, .inr ⟨HO.out.trans (pair_none hp _), rfl⟩⟩
    clear hp hg HS HO
    go_wp2
    exact ⟨rfl, HF.out⟩
  replace HS := HS.step hg hL
  replace HO := Lib.hid (HO.out.trans (pair_some hp _))
  clear hg hL hp
  have f13 := HS.box.free 13
  have c13 := HS.box.c13
  go_upto_region 13 with (fail)
  refine wp_gen (fun W => ROb w r (w.heap.size + 1) w.heap.size (⟨(x1.toNat : Int), x2, (x3 : Int), (x4 : Int), x5.1, x5.2.1, x6, x7, x8, (x9.toNat : Int), x5.2.2.1, x5.2.2.2, x10, x11, E0, E0, E0, 0, 0, 0⟩ : O.Obj) l11 W) (HS.set (HS.box.s13 x11)) ?_
  clear HS f13 c13
  rintro V11 HS
  go_wp2_with fail
  refine (text_any r _ _ HS.left).mono ?_
  rintro e W12 ⟨hg, ⟨x12, l12, hp, rfl, hL⟩ | ⟨hp, rfl⟩⟩
  rotate_left
  · have HF : Hid (Reads r rdObj encO l w gaveUp W12) := ⟨HS.grew.trans hg, .inr ⟨HO.out.trans (pair_none hp _), rfl⟩⟩
    clear hp hg HS HO
    go_wp2
    exact ⟨rfl, HF.out⟩
  replace HS := HS.step hg hL
  replace HO := Lib.hid (HO.out.trans (pair_some hp _))
  clear hg hL hp
  have f14 := HS.box.free 14
  have c14 := HS.box.c14
  go_upto_region 14 with (fail)
  refine wp_gen (fun W => ROb w r (w.heap.size + 1) w.heap.size (⟨(x1.toNat : Int), x2, (x3 : Int), (x4 : Int), x5.1, x5.2.1, x6, x7, x8, (x9.toNat : Int), x5.2.2.1, x5.2.2.2, x10, x11, x12, E0, E0, 0, 0, 0⟩ : O.Obj) l12 W) (HS.set (HS.box.s14 x12)) ?_
  clear HS f14 c14
  rintro V12 HS
  go_wp2_with fail
  refine (text_any r _ _ HS.left).mono ?_
  rintro e W13 ⟨hg, ⟨x13, l13, hp, rfl, hL⟩ | ⟨hp, rfl⟩⟩
  rotate_left
  · have HF : Hid (Reads r rdObj encO l w gaveUp W13) := ⟨HS.grew.trans hg, .inr ⟨HO.out.trans (pair_none hp _), rfl⟩⟩
    clear hp hg HS HO
    go_wp2
    exact ⟨rfl, HF.out⟩
  replace HS := HS.step hg hL
  replace HO := Lib.hid (HO.out.trans (pair_some hp _))
  clear hg hL hp
  have f15 := HS.box.free 15
  have c15 := HS.box.c15
  go_upto_region 15 with (fail)
  refine wp_gen (fun W => ROb w r (w.heap.size + 1) w.heap.size (⟨(x1.toNat : Int), x2, (x3 : Int), (x4 : Int), x5.1, x5.2.1, x6, x7, x8, (x9.toNat : Int), x5.2.2.1, x5.2.2.2, x10, x11, x12, x13, E0, 0, 0, 0⟩ : O.Obj) l13 W) (HS.set (HS.box.s15 x13)) ?_
  clear HS f15 c15
  rintro V13 HS
  go_wp2_with fail
  refine (text_any r _ _ HS.left).mono ?_
  rintro e W14 ⟨hg, ⟨x14, l14, hp, rfl, hL⟩ | ⟨hp, rfl⟩⟩
  rotate_left
  · have HF : Hid (Reads r rdObj encO l w gaveUp W14) := ⟨HS.grew.trans hg, .inr ⟨HO.out.trans (pair_none hp _), rfl⟩⟩
    clear hp hg HS HO
    go_wp2
    exact ⟨rfl, HF.out⟩
  replace HS := HS.step hg hL
  replace HO := Lib.hid (HO.out.trans (pair_some hp _))
  clear hg hL hp
  have f16 := HS.box.free 16
  have c16 := HS.box.c16
  go_upto_region 16 with (fail)
  refine wp_gen (fun W => ROb w r (w.heap.size + 1) w.heap.size (⟨(x1.toNat : Int), x2, (x3 : Int), (x4 : Int), x5.1, x5.2.1, x6, x7, x8, (x9.toNat : Int), x5.2.2.1, x5.2.2.2, x10, x11, x12, x13, x14, 0, 0, 0⟩ : O.Obj) l14 W) (HS.set (HS.box.s16 x14)) ?_
  clear HS f16 c16
  rintro V14 HS
  go_wp2_with fail
  refine (one_any r _ _ HS.left).mono ?_
  rintro e W15 ⟨hg, ⟨x15, l15, hp, rfl, hL⟩ | ⟨hp, rfl⟩⟩
  rotate_left
  · have HF : Hid (Reads r rdObj encO l w gaveUp W15) := ⟨HS.grew.trans hg, .inr ⟨HO.out.trans (pair_none (u8_none hp) _), rfl⟩⟩
    clear hp hg HS HO
    go_wp2
    exact ⟨rfl, HF.out⟩
  replace HS := HS.step hg hL
  replace HO := Lib.hid (HO.out.trans (pair_some (u8_some hp) _))
  clear hg hL hp
  unfold bv
  have f17 := HS.box.free 17
  have c17 := HS.box.c17
  go_upto_region 17 with (fail)
  refine wp_gen (fun W => ROb w r (w.heap.size + 1) w.heap.size (⟨(x1.toNat : Int), x2, (x3 : Int), (x4 : Int), x5.1, x5.2.1, x6, x7, x8, (x9.toNat : Int), x5.2.2.1, x5.2.2.2, x10, x11, x12, x13, x14, (x15.toNat : Int), 0, 0⟩ : O.Obj) l15 W) (HS.set (HS.box.s17 (x15.toNat : Int))) ?_
  clear HS f17 c17
  rintro V15 HS
  go_wp2_with fail
  refine (number_any r _ _ HS.left).mono ?_
  rintro e W16 ⟨hg, ⟨x16, l16, hp, rfl, hL⟩ | ⟨hp, rfl⟩⟩
  rotate_left
  · have HF : Hid (Reads r rdObj encO l w gaveUp W16) := ⟨HS.grew.trans hg, .inr ⟨HO.out.trans (pair_none (u64_none hp) _), rfl⟩⟩
    clear hp hg HS HO
    go_wp2
    exact ⟨rfl, HF.out⟩
  replace HS := HS.step hg hL
  replace HO := Lib.hid (HO.out.trans (pair_some (u64_some hp) _))
  clear hg hL hp
  have f18 := HS.box.free 18
  have c18 := HS.box.c18
  go_upto_region 18 with (fail)
  refine wp_gen (fun W => ROb w r (w.heap.size + 1) w.heap.size (⟨(x1.toNat : Int), x2, (x3 : Int), (x4 : Int), x5.1, x5.2.1, x6, x7, x8, (x9.toNat : Int), x5.2.2.1, x5.2.2.2, x10, x11, x12, x13, x14, (x15.toNat : Int), (x16 : Int), 0⟩ : O.Obj) l16 W) (HS.set (HS.box.s18 (x16 : Int))) ?_
  clear HS f18 c18
  rintro V16 HS
  go_wp2_with fail
  refine (number_any r _ _ HS.left).mono ?_
  rintro e W17 ⟨hg, ⟨x17, l17, hp, rfl, hL⟩ | ⟨hp, rfl⟩⟩
  rotate_left
  · have HF : Hid (Reads r rdObj encO l w gaveUp W17) := ⟨HS.grew.trans hg, .inr ⟨HO.out.trans (by rw [u64_none hp]; rfl), rfl⟩⟩
    clear hp hg HS HO
    go_wp2
    exact ⟨rfl, HF.out⟩
  replace HS := HS.step hg hL
  replace HO := Lib.hid (HO.out.trans (congrArg (fun z => Option.bind z _) (u64_some hp)))
  clear hg hL hp
  have f19 := HS.box.free 19
  have c19 := HS.box.c19
  go_upto_region 19 with (fail)
  refine wp_gen (fun W => ROb w r (w.heap.size + 1) w.heap.size (⟨(x1.toNat : Int), x2, (x3 : Int), (x4 : Int), x5.1, x5.2.1, x6, x7, x8, (x9.toNat : Int), x5.2.2.1, x5.2.2.2, x10, x11, x12, x13, x14, (x15.toNat : Int), (x16 : Int), (x17 : Int)⟩ : O.Obj) l17 W) (HS.set (HS.box.s19 (x17 : Int))) ?_
  clear HS f19 c19
  rintro V17 HS
  replace HO : Hid (rdObj l = if rightB (⟨(x1.toNat : Int), x2, (x3 : Int), (x4 : Int), x5.1, x5.2.1, x6, x7, x8, (x9.toNat : Int), x5.2.2.1, x5.2.2.2, x10, x11, x12, x13, x14, (x15.toNat : Int), (x16 : Int), (x17 : Int)⟩ : O.Obj) = true then some ((⟨(x1.toNat : Int), x2, (x3 : Int), (x4 : Int), x5.1, x5.2.1, x6, x7, x8, (x9.toNat : Int), x5.2.2.1, x5.2.2.2, x10, x11, x12, x13, x14, (x15.toNat : Int), (x16 : Int), (x17 : Int)⟩ : O.Obj), l17) else none) := HO.out
  generalize (⟨(x1.toNat : Int), x2, (x3 : Int), (x4 : Int), x5.1, x5.2.1, x6, x7, x8, (x9.toNat : Int), x5.2.2.1, x5.2.2.2, x10, x11, x12, x13, x14, (x15.toNat : Int), (x16 : Int), (x17 : Int)⟩ : O.Obj) = O at *
  have hbx := HS.box
  go_wp2_with ((with_reducible refine wpList_load_obj ?_ rfl ?_ hbx ?_); rfl; rfl)
  refine (right_any O _).mono ?_
  rintro e V18 ⟨rfl, hb1⟩
  replace HS := HS.below hb1
  clear hb1 hbx
  cases hrt : rightB O with
  | false =>
    have HF : Hid (Reads r rdObj encO l w gaveUp V18) := ⟨HS.grew, .inr ⟨HO.out.trans (by rw [hrt]; rfl), rfl⟩⟩
    clear HS HO hrt
    go_wp2_with (go_at_call 64; refine (giveUp_any _).mono ?_; rintro e w' ⟨rfl, rfl⟩)
    exact ⟨rfl, HF.out⟩
  | true =>
    replace HO := Lib.hid (HO.out.trans (if_pos hrt))
    clear hrt
    have hb := HS.box
    have hr := HS.res
    go_wp2_with (first | ((with_reducible refine wpList_load_row rfl 30 _ rfl (w.heap.size + 1) ?_ 30 (cellsO O) (0, 0) _ ?_ undObj ?_ ?_ ?_); rfl; exact hb; rfl; exact sizeObj) | ((with_reducible refine wpList_store_rowTo rfl 30 _ _ rfl rfl w.heap.size (cellsO O) ?_ ?_ 30 (cellsO O0) ?_ ?_ ?_ ?_ ?_); rfl; rfl; exact hr; exact sizeObj; exact sz_cells _ _; exact one_cells _))
    refine bodyPost_ret (v := encO O) (results_cell_row rfl _ _ w.heap.size 30 (cellsO O) (0, 0) _ rfl (hr.setRow _) undObj rfl sizeObj) rfl ?_
    have hlow := below_setRow (Below.refl w.heap.size V18) (Nat.le_refl _) (cellsO O)
    refine ⟨⟨hlow.os.trans HS.grew.os, hlow.tape.trans HS.grew.tape, hlow.output.trans HS.grew.output, Nat.le_trans HS.grew.size hlow.size, fun k hk hne => (hlow.block k hk).trans (HS.grew.block k hk hne)⟩, .inl ⟨O, l17, HO.out, rfl, HS.left.above hlow HS.lo⟩⟩
end Go.Proofs.Ytfndiocohaploaa.C
namespace Go.Proofs.Ytfndiocohaploaa.C
open Go.RowKit T O
open Go.Lib hiding intOf
def setAll (cs : Array Value) : Nat → List Value → Array Value
  | _, [] => cs
  | o, v :: r => setAll (cs.setIfInBounds o v) (o + 1) r
theorem heap_setCells {b : Nat} {t : TypeId} : ∀ (vs : List Value) (o : Nat) (cs : Array Value) (W : World), W.heap[b]? = some (.cells cs t (0, 0)) → (W.setCells b o vs).heap[b]? = some (.cells (setAll cs o vs) t (0, 0))
  | [], _, _, _, h => h
  | v :: r, o, cs, W, h => heap_setCells r (o + 1) _ _ (heap_setCell_same W b o cs t v h)
theorem below_setCells {B b : Nat} (hB : B ≤ b) : ∀ (vs : List Value) (o : Nat) (W : World), Below B W (W.setCells b o vs)
  | [], _, W => Below.refl B W
  | v :: r, o, W => (below_set W hB o v).trans (below_setCells hB r (o + 1) _)
def Ev0 : Ev := ⟨0, false, O0⟩
theorem set_ev (e : Ev) (o : O.Obj) : setAll (cellsE e) 2 (cellsO o).toList = cellsE { e with object := o } := by kernel_rfl
theorem set_ev0 (e : Ev) (n : Int) : (cellsE e).setIfInBounds 0 (.int .u64 n) = cellsE { e with version := n } := by simp [cellsE]
theorem set_ev1 (e : Ev) (g : Bool) : (cellsE e).setIfInBounds 1 (.bool g) = cellsE { e with gone := g } := by simp [cellsE]
section
variable {W W1 : World} {b : Nat} {e : Ev}
theorem BoxE.free (h : BoxE W b e) (i : Nat) : W.frozen? ⟨b, i, none⟩ = false := frozen_of_row W b i _ _ h
theorem BoxE.s0 (h : BoxE W b e) (n : Int) : BoxE (W.setCell ⟨b, 0, none⟩ (.int .u64 n)) b { e with version := n } := by
  have := heap_setCell_same W b 0 _ _ (.int .u64 n) h
  rwa [set_ev0] at this
theorem BoxE.s1 (h : BoxE W b e) (g : Bool) : BoxE (W.setCell ⟨b, 1, none⟩ (.bool g)) b { e with gone := g } := by
  have := heap_setCell_same W b 1 _ _ (.bool g) h
  rwa [set_ev1] at this
theorem BoxE.so (h : BoxE W b e) (o : O.Obj) : BoxE (W.setCells b 2 (cellsO o).toList) b { e with object := o } := by
  have := heap_setCells (cellsO o).toList 2 _ W h
  rwa [set_ev] at this
theorem BoxE.other (h : BoxE W b e) {p : Addr} (hp : b ≠ p.block) (v : Value) : BoxE (W.setCell p v) b e := (heap_setCell_other W p b v hp).trans h
theorem BoxE.kept (h : BoxE W b e) {row : Option Nat} (hg : W.grownBy W1 row) (hne : some b ≠ row) : BoxE W1 b e := (hg.block b h.lt hne).trans h
theorem BoxE.there (h : BoxE W b e) : W.there b 2 (cellsO e.object).size := fun j hj => ⟨by
  have := h.obj j ((cellsO e.object).toList[j]'(by simpa using hj)) (by rw [List.getElem?_eq_getElem])
  rw [this]; rfl, h.free _⟩
theorem BoxE.setRow (h : BoxE W b e) (e' : Ev) : BoxE (W.setRow b (cellsE e')) b e' := setRow_heap W b _ _ _ _ h
end
theorem one_cellsE (e : Ev) : (cellsE e).all (·.oneCell') = true := by simp [cellsE, cellsO, Value.oneCell']
structure REv (w : World) (r eb rb : Nat) (e : Ev) (l : Bytes) (W : World) : Prop where
  box : BoxE W eb e
  res : BoxE W rb Ev0
  left : Left W r l
  grew : w.grownBy W (some r)
  lo : r < w.heap.size
  hi : w.heap.size ≤ eb ∧ w.heap.size ≤ rb ∧ eb ≠ rb
section
variable {w : World} {r eb rb : Nat} {e : Ev} {l l' : Bytes} {W W1 : World}
theorem REv.step (h : REv w r eb rb e l W) (hg : W.grownBy W1 (some r)) (hL : Left W1 r l') : REv w r eb rb e l' W1 where
  box := h.box.kept hg (by have := h.lo; have := h.hi; simp; omega)
  res := h.res.kept hg (by have := h.lo; have := h.hi; simp; omega)
  left := hL
  grew := h.grew.trans hg
  lo := h.lo
  hi := h.hi
theorem grown_above (hg : w.grownBy W (some r)) {B : Nat} (hb : Below B W W1) (hB : w.heap.size ≤ B) : w.grownBy W1 (some r) :=
  ⟨hb.os.trans hg.os, hb.tape.trans hg.tape, hb.output.trans hg.output, Nat.le_trans hg.size hb.size, fun k hk hne => (hb.block k (by omega)).trans (hg.block k hk hne)⟩
theorem REv.set (h : REv w r eb rb e l W) {e' : Ev} (hb : Below eb W W1) (hr : W1.heap[rb]? = W.heap[rb]?) (he : BoxE W1 eb e') : REv w r eb rb e' l W1 where
  box := he
  res := hr.trans h.res
  left := h.left.above hb (by have := h.lo; have := h.hi; omega)
  grew := grown_above h.grew hb h.hi.1
  lo := h.lo
  hi := h.hi
end
theorem rdEv_eq (l : Bytes) : rdEv l = (pairR rdU64 (pairR rdGone rdObj) l).bind fun x => some ((⟨x.1.1, x.1.2.1, x.1.2.2⟩ : Ev), x.2) := by
  unfold rdEv mapR
  cases pairR rdU64 (pairR rdGone rdObj) l <;> rfl
theorem other_setCells {b rb : Nat} (h : rb ≠ b) : ∀ (vs : List Value) (o : Nat) (W : World), (W.setCells b o vs).heap[rb]? = W.heap[rb]?
  | [], _, _ => rfl
  | v :: r, o, W => (other_setCells h r (o + 1) _).trans (heap_setCell_other W ⟨b, o, none⟩ rb v h)
set_option maxRecDepth 100000 in
set_option maxHeartbeats 8000000 in
theorem readChange_any (r : Nat) (l : Bytes) (w : World) (h : Left w r l) :
    Calls Try.prog 27 #[.pointer (some ⟨r, 0, none⟩)] w (Reads r rdEv encE l w) := by
  have HO : Hid (rdEv l = _) := rdEv_eq l
  have hr := h.lt
  go_enter Try.func27, Try.ntmps27
  go_upto_region 2 with (fail)
  refine wp_gen (fun W => REv w r (w.heap.size + 1) w.heap.size Ev0 l W) ⟨heap_alloc2_new w _ _, (BoxE.new w Ev0).alloc _, (h.after ((Below.refl _ _).alloc (Nat.le_refl _) _)).after ((Below.refl _ _).alloc (Nat.le_refl _) _), (World.grownBy_alloc w _ _).trans (World.grownBy_alloc _ _ _), hr, by omega, by omega, by omega⟩ ?_
  clear h hr
  rintro V0 HS
  go_wp2_with fail
  refine (number_any r _ _ HS.left).mono ?_
  rintro e W1 ⟨hg, ⟨x1, l1, hp, rfl, hL⟩ | ⟨hp, rfl⟩⟩
  rotate_left
  · have HF : Hid (Reads r rdEv encE l w gaveUp W1) := ⟨HS.grew.trans hg, .inr ⟨HO.out.trans (pair_none (u64_none hp) _), rfl⟩⟩
    clear hp hg HS HO
    go_wp2
    exact ⟨rfl, HF.out⟩
  replace HS := HS.step hg hL
  replace HO := Lib.hid (HO.out.trans (pair_some (u64_some hp) _))
  clear hg hL hp
  have f0 := HS.box.free 0
  have c0 := HS.box.c0
  go_upto_region 3 with (fail)
  refine wp_gen (fun W => REv w r (w.heap.size + 1) w.heap.size (⟨(x1 : Int), false, O0⟩ : Ev) l1 W) (HS.set (below_set _ (Nat.le_refl _) _ _) (heap_setCell_other _ _ _ _ (by simp)) (HS.box.s0 (x1 : Int))) ?_
  clear HS f0 c0
  rintro V1 HS
  go_wp2_with fail
  refine (gone_any r _ _ HS.left).mono ?_
  rintro e W2 ⟨hg, ⟨x2, l2, hp, rfl, hL⟩ | ⟨hp, rfl⟩⟩
  rotate_left
  · have HF : Hid (Reads r rdEv encE l w gaveUp W2) := ⟨HS.grew.trans hg, .inr ⟨HO.out.trans (pair_none hp _), rfl⟩⟩
    clear hp hg HS HO
    go_wp2
    exact ⟨rfl, HF.out⟩
  replace HS := HS.step hg hL
  replace HO := Lib.hid (HO.out.trans (pair_some hp _))
  clear hg hL hp
  have f1 := HS.box.free 1
  have c1 := HS.box.c1
  go_upto_region 4 with (fail)
  refine wp_gen (fun W => REv w r (w.heap.size + 1) w.heap.size (⟨(x1 : Int), x2, O0⟩ : Ev) l2 W) (HS.set (below_set _ (Nat.le_refl _) _ _) (heap_setCell_other _ _ _ _ (by simp)) (HS.box.s1 x2)) ?_
  clear HS f1 c1
  rintro V2 HS
  go_wp2_with fail
  refine (readObject_any r _ _ HS.left).mono ?_
  rintro e W3 ⟨hg, ⟨x3, l3, hp, rfl, hL⟩ | ⟨hp, rfl⟩⟩
  rotate_left
  · have HF : Hid (Reads r rdEv encE l w gaveUp W3) := ⟨HS.grew.trans hg, .inr ⟨HO.out.trans (by rw [hp]; rfl), rfl⟩⟩
    clear hp hg HS HO
    go_wp2
    exact ⟨rfl, HF.out⟩
  replace HS := HS.step hg hL
  replace HO := Lib.hid (HO.out.trans (congrArg (fun z => Option.bind z _) hp))
  clear hg hL hp
  have ht := HS.box.there
  go_upto_region 5 with ((with_reducible refine wpList_store_mid rfl 30 _ _ rfl (w.heap.size + 1) 2 (cellsO x3) ?_ ?_ ?_ ?_ ?_ ?_); rfl; rfl; exact ht; exact sizeObj; exact one_cells _)
  refine wp_gen (fun W => REv w r (w.heap.size + 1) w.heap.size (⟨(x1 : Int), x2, x3⟩ : Ev) l3 W) (HS.set (below_setCells (Nat.le_refl _) _ _ _) (other_setCells (by omega) _ _ _) (HS.box.so x3)) ?_
  clear HS ht
  rintro V3 HS
  replace HO : Hid (rdEv l = some ((⟨(x1 : Int), x2, x3⟩ : Ev), l3)) := HO.out
  generalize (⟨(x1 : Int), x2, x3⟩ : Ev) = E at *
  have hb := HS.box
  have hr := HS.res
  go_wp2_with (first | ((with_reducible refine wpList_load_ev ?_ rfl ?_ hb ?_); rfl; rfl) | ((with_reducible refine wpList_store_rowTo rfl 45 _ _ rfl rfl w.heap.size (cellsE E) ?_ ?_ 45 (cellsE Ev0) ?_ ?_ ?_ ?_ ?_); rfl; rfl; exact hr; exact sizeEv; rfl; exact one_cellsE _))
  refine bodyPost_ret (v := encE E) (results_cell_row rfl _ _ w.heap.size 45 (cellsE E) (0, 0) _ rfl (hr.setRow _) undEv rfl sizeEv) rfl ?_
  have hlow := below_setRow (Below.refl w.heap.size V3) (Nat.le_refl _) (cellsE E)
  exact ⟨grown_above HS.grew hlow (Nat.le_refl _), .inl ⟨E, l3, HO.out, rfl, HS.left.above hlow HS.lo⟩⟩
end Go.Proofs.Ytfndiocohaploaa.C
namespace Go.Proofs.Ytfndiocohaploaa.C
open Go.RowKit T O
open Go.Lib hiding intOf
def errObj (n : Int) : Go.Obj := .cells #[.int .i64 n] 31 (0, 0)
structure Caught (B px pe : Nat) (X : Go.Obj) (n : Int) (W W' : World) : Prop where
  x : W'.heap[px]? = some X
  e : W'.heap[pe]? = some (errObj n)
  low : Below B W W'
theorem assert_wrong (w : World) : (Instr.typeAssert (.iface 92 (.agg #[])) 20 92 true).run Try.prog w = .ok (.tuple #[.agg #[], .bool true]) w := by kernel_rfl
section
variable {P : Program} {fn : Func} {p q : Tmp} {ty tz : TypeId} {tmps : Array Value} {w : World} {g g2 : Nat} {x y : Value}
theorem results_cc (h : fn.results = #[.cell p ty, .cell q tz]) (hp : tmps.getD p undef = .pointer (some ⟨g, 0, none⟩)) (hq : tmps.getD q undef = .pointer (some ⟨g2, 0, none⟩))
    (h1 : (loadVar ty ⟨g, 0, none⟩).run P w = .ok x w) (h2 : (loadVar tz ⟨g2, 0, none⟩).run P w = .ok y w) : (results fn tmps).run P w = .ok (.tuple #[x, y]) w := by
  have hp' : tmps[p]?.getD undef = .pointer (some ⟨g, 0, none⟩) := by simpa using hp
  have hq' : tmps[q]?.getD undef = .pointer (some ⟨g2, 0, none⟩) := by simpa using hq
  simp [results, h, hp', hq', asAddr, h1, h2]
theorem results_ct (h : fn.results = #[.cell p ty, .tmp q]) (hp : tmps.getD p undef = .pointer (some ⟨g, 0, none⟩)) (hq : tmps.getD q undef = y)
    (h1 : (loadVar ty ⟨g, 0, none⟩).run P w = .ok x w) : (results fn tmps).run P w = .ok (.tuple #[x, y]) w := by
  have hp' : tmps[p]?.getD undef = .pointer (some ⟨g, 0, none⟩) := by simpa using hp
  have hq' : tmps[q]?.getD undef = y := by simpa using hq
  simp [results, h, hp', hq', asAddr, h1]
end
theorem load_objV {W : World} {b : Nat} {o : O.Obj} (h : BoxO W b o) : (loadVar 30 ⟨b, 0, none⟩).run Try.prog W = .ok (encO o) W := run_loadVar_row W b 30 30 (cellsO o) (0, 0) _ h undObj rfl sizeObj
theorem load_evV {W : World} {b : Nat} {e : Ev} (h : BoxE W b e) : (loadVar 45 ⟨b, 0, none⟩).run Try.prog W = .ok (encE e) W := run_loadVar_row W b 45 45 (cellsE e) (0, 0) _ h undEv rfl sizeEv
theorem load_err {W : World} {b : Nat} {n : Int} (h : W.heap[b]? = some (errObj n)) : (loadVar 31 ⟨b, 0, none⟩).run Try.prog W = .ok (.int .i64 n) W := by
  have hc : W.cell? ⟨b, 0, none⟩ = some (.int .i64 n) := (cell_of_row W b 0 _ _ _ h).trans rfl
  simp [go_sem, hc]
theorem heap_alloc3_new (w : World) (x y z : Go.Obj) : (((w.alloc x).alloc y).alloc z).heap[w.heap.size + 1 + 1]? = some z := by
  have := heap_alloc_new ((w.alloc x).alloc y) z
  rwa [World.size_alloc, World.size_alloc] at this
def ReadAs (α : Type) (P : Rd α) (enc : α → Value) (zero : α) (l : Bytes) (W : World) (e : Ending) (W' : World) : Prop :=
  Below W.heap.size W W' ∧ ((∃ x, allR P l = some x ∧ e = .returned (.tuple #[enc x, .int .i64 0])) ∨ (allR P l = none ∧ e = .returned (.tuple #[enc zero, .int .i64 2])))
end Go.Proofs.Ytfndiocohaploaa.C
namespace Go.Proofs.Ytfndiocohaploaa.C
open Go.RowKit T O
open Go.Lib hiding intOf
set_option maxRecDepth 100000 in
set_option maxHeartbeats 2000000 in
theorem catchE_wrong (B px pe : Nat) (o : Ev) (n : Int) (older : List PanicEntry) (w : World) (hx : BoxE w px o) (he : w.heap[pe]? = some (errObj n)) (hne : px ≠ pe) (hB : B ≤ px ∧ B ≤ pe) :
    CallsD Try.prog 46 #[.pointer (some ⟨px, 0, none⟩), .pointer (some ⟨pe, 0, none⟩)] (.panicking ({ v := wrongV, recovered := false } :: older)) w fun e u' w' =>
      e = .returned (.tuple #[]) ∧ u' = .panicking ({ v := wrongV, recovered := true } :: older) ∧ Caught B px pe (.cells (cellsE Ev0) 45 (0, 0)) 2 w w' := by
  refine callsD_of_wpS Try.func46 rfl fun c₀ cs hu => ?_
  apply wpS_seq
  apply wpS_region
  simp [wpOpsS, go_sem, recoverD, hu, Try.ntmps46, Exit.thenS, Array.replicate, List.replicate]
  refine wpS_of_wp ?_
  unfold wrongV
  have hta := assert_wrong
  go_upto_region 8 with (fail)
  have hxl := hx.lt
  have hel := (Array.getElem?_eq_some_iff.1 he).1
  refine wp_gen (fun W => BoxE W (w.heap.size + 1) Ev0 ∧ BoxE W px o ∧ W.heap[pe]? = some (errObj n) ∧ Below w.heap.size w W) ⟨heap_alloc2_new w _ _, (hx.alloc _).alloc _, (Below.heap_alloc _ _ pe (by simp; omega)).trans ((Below.heap_alloc w _ pe hel).trans he), ((Below.refl _ _).alloc (Nat.le_refl _) _).alloc (by simp) _⟩ ?_
  clear hx he
  rintro W ⟨hn, hx, he, hlow⟩
  have he2 : (W.setRow px (cellsE Ev0)).heap[pe]? = some (errObj n) := (setRow_other W px pe _ (fun e => hne e.symm)).trans he
  have fz := frozen_of_row (W.setRow px (cellsE Ev0)) pe 0 _ _ he2
  have cz : (W.setRow px (cellsE Ev0)).cell? ⟨pe, 0, none⟩ = some (.int .i64 n) := (cell_of_row _ pe 0 _ _ _ he2).trans rfl
  have HF : Hid (Caught B px pe (.cells (cellsE Ev0) 45 (0, 0)) 2 w ((W.setRow px (cellsE Ev0)).setCell ⟨pe, 0, none⟩ (.int .i64 2))) :=
    ⟨(heap_setCell_other _ ⟨pe, 0, none⟩ px _ hne).trans (hx.setRow Ev0), (heap_setCell_same _ pe 0 _ _ _ he2).trans rfl, ((hlow.mono (by omega)).trans (below_setRow (Below.refl B W) hB.1 _)).setCell (p := ⟨pe, 0, none⟩) hB.2 _⟩
  clear he he2 hlow
  go_wp2_with (first | ((with_reducible refine wpList_load_ev ?_ rfl ?_ hn ?_); rfl; rfl) | ((with_reducible refine wpList_store_rowTo rfl 45 _ _ rfl rfl px (cellsE Ev0) ?_ ?_ 45 (cellsE o) ?_ ?_ ?_ ?_ ?_); rfl; rfl; exact hx; exact sizeEv; exact rfl; exact one_cellsE _))
  refine ⟨rfl, _, rfl, .tuple #[], by simp [results, Try.results46], rfl, rfl, HF.out⟩
set_option maxRecDepth 100000 in
set_option maxHeartbeats 2000000 in
theorem catchE_idle (px pe : Nat) (w : World) :
    CallsD Try.prog 46 #[.pointer (some ⟨px, 0, none⟩), .pointer (some ⟨pe, 0, none⟩)] .returning w fun e u' w' => e = .returned (.tuple #[]) ∧ u' = .returning ∧ w = w' := by
  refine callsD_of_wpS Try.func46 rfl fun c₀ cs hu => ?_
  apply wpS_seq
  apply wpS_region
  simp [wpOpsS, go_sem, recoverD, hu, Try.ntmps46, Exit.thenS, Array.replicate, List.replicate]
  refine wpS_of_wp ?_
  go_wp2
  cases c₀
  simp_all [bodyPostS, results, Try.results46]
structure AEv (w : World) (o : Ev) (n : Int) (W : World) : Prop where
  x : BoxE W w.heap.size o
  e : W.heap[w.heap.size + 1]? = some (errObj n)
  low : Below w.heap.size w W
  size : w.heap.size + 2 < W.heap.size
set_option maxRecDepth 100000 in
set_option maxHeartbeats 4000000 in
theorem readAllE_any (v : Value) (l : Bytes) (w : World) (h : BytesIn w v l) :
    Calls Try.prog 26 #[v, .func (.func 27) #[] #[]] w (ReadAs Ev rdEv encE Ev0 l w) := by
  have hmf : ∀ (fn : Fn) (first cap : Array Value) (w : World), (Instr.makeFunc fn first cap).run Try.prog w = .ok (.func fn first cap) w := fun _ _ _ _ => rfl
  obtain ⟨a, k, c, rfl⟩ := h.shape
  have hlt := fun b => h.lt (k := b)
  have H := Lib.hid h
  clear h
  go_enter_defers Try.func26, Try.ntmps26
  go_upto_region 3 with (fail)
  refine wp_gen (fun W => AEv w Ev0 0 W ∧ Left W (w.heap.size + 1 + 1) l) ⟨⟨((BoxE.new w Ev0).alloc _).alloc _, (Below.heap_alloc _ _ (w.heap.size + 1) (by simp)).trans (heap_alloc2_new w _ _), (((Below.refl _ _).alloc (Nat.le_refl _) _).alloc (by simp) _).alloc (by simp; omega) _, by simp⟩,
    ⟨.slice a k c, heap_alloc3_new w _ _ _, ((H.out.alloc _).alloc _).alloc _, fun b hb => by have := hlt b hb; omega⟩⟩ ?_
  rintro W0 ⟨hA, hL⟩
  clear H hlt
  go_wp2_with fail
  refine (readChange_any _ l _ hL).mono ?_
  rintro e W1 ⟨hg, ⟨x, l', hp, rfl, hL2⟩ | ⟨hp, rfl⟩⟩
  rotate_left
  · have hx : BoxE W1 w.heap.size Ev0 := (hg.block _ hA.x.lt (by simp; omega)).trans hA.x
    have he : W1.heap[w.heap.size + 1]? = some (errObj 0) := (hg.block _ (by have := hA.size; omega) (by simp)).trans hA.e
    have hlow : Below w.heap.size w W1 := hA.low.grown hg (by have := hA.size; omega) (by intro k hk; cases hk; omega)
    have HF : Hid (allR rdEv l = none) := by show _ = _; unfold allR; rw [hp]; rfl
    clear hg hA hL hp
    go_wp2
    refine leaves_cons (f := 46) (args := #[.pointer (some ⟨w.heap.size, 0, none⟩), .pointer (some ⟨w.heap.size + 1, 0, none⟩)]) (by simp) (by simp [go_sem]) ?_
    refine (catchE_wrong w.heap.size w.heap.size (w.heap.size + 1) Ev0 0 [] W1 hx he (by omega) ⟨by omega, by omega⟩).mono ?_
    rintro e u' W2 ⟨rfl, rfl, hC⟩
    exact ⟨_, results_cc rfl rfl rfl (load_evV hC.x) (load_err hC.e), hlow.trans hC.low, .inr ⟨HF.out, rfl⟩⟩
  have hx : BoxE W1 w.heap.size Ev0 := (hg.block _ hA.x.lt (by simp; omega)).trans hA.x
  have he : W1.heap[w.heap.size + 1]? = some (errObj 0) := (hg.block _ (by have := hA.size; omega) (by simp)).trans hA.e
  have hlow : Below w.heap.size w W1 := hA.low.grown hg (by have := hA.size; omega) (by intro k hk; cases hk; omega)
  have hlen := hL2.len
  have HP := Lib.hid hp
  clear hg hA hL hL2 hp
  go_upto_region 4 with ((with_reducible refine wpList_store_rowTo rfl 45 _ _ rfl rfl w.heap.size (cellsE x) ?_ ?_ 45 (cellsE Ev0) ?_ ?_ ?_ ?_ ?_); rfl; rfl; exact hx; exact sizeEv; exact rfl; exact one_cellsE _)
  refine wp_gen (fun W => BoxE W w.heap.size x ∧ W.heap[w.heap.size + 1]? = some (errObj 0) ∧ LenAt W (w.heap.size + 1 + 1) l'.length ∧ Below w.heap.size w W) ⟨hx.setRow x, (setRow_other _ _ _ _ (by omega)).trans he, hlen.of (setRow_other _ _ _ _ (by omega)), below_setRow hlow (Nat.le_refl _) _⟩ ?_
  clear hx he hlow hlen
  rintro W2 ⟨hx, he, hlen, hlow⟩
  go_wp2_with fail
  refine (end_any _ _ _ hlen).mono ?_
  rintro e W3 ⟨rfl, ⟨h0, rfl⟩ | ⟨h0, rfl⟩⟩
  · have HF : Hid (allR rdEv l = some x) := by
      show _ = _
      unfold allR
      rw [HP.out]
      simp [List.length_eq_zero_iff.1 h0]
    clear HP h0 hlen
    have he2 : (W2.setRow w.heap.size (cellsE x)).heap[w.heap.size + 1]? = some (errObj 0) := (setRow_other W2 w.heap.size (w.heap.size + 1) _ (by omega)).trans he
    have fz := frozen_of_row (W2.setRow w.heap.size (cellsE x)) (w.heap.size + 1) 0 _ _ he2
    have cz : (W2.setRow w.heap.size (cellsE x)).cell? ⟨w.heap.size + 1, 0, none⟩ = some (.int .i64 0) := (cell_of_row _ (w.heap.size + 1) 0 _ _ _ he2).trans rfl
    have HC : Hid (Caught w.heap.size w.heap.size (w.heap.size + 1) (.cells (cellsE x) 45 (0, 0)) 0 w ((W2.setRow w.heap.size (cellsE x)).setCell ⟨w.heap.size + 1, 0, none⟩ (.int .i64 0))) :=
      ⟨(heap_setCell_other _ ⟨w.heap.size + 1, 0, none⟩ w.heap.size _ (by simp)).trans (hx.setRow x), (heap_setCell_same _ (w.heap.size + 1) 0 _ _ _ he2).trans rfl, (below_setRow hlow (Nat.le_refl _) _).setCell (p := ⟨w.heap.size + 1, 0, none⟩) (by simp) _⟩
    clear he he2 hlow
    go_wp2_with (first | ((with_reducible refine wpList_load_ev ?_ rfl ?_ hx ?_); rfl; rfl) | ((with_reducible refine wpList_store_rowTo rfl 45 _ _ rfl rfl w.heap.size (cellsE x) ?_ ?_ 45 (cellsE x) ?_ ?_ ?_ ?_ ?_); rfl; rfl; exact hx; exact sizeEv; exact rfl; exact one_cellsE _))
    refine leaves_cons (f := 46) (args := #[.pointer (some ⟨w.heap.size, 0, none⟩), .pointer (some ⟨w.heap.size + 1, 0, none⟩)]) (by simp) (by simp [go_sem]) ?_
    refine (catchE_idle w.heap.size (w.heap.size + 1) _).mono ?_
    rintro e u' W4 ⟨rfl, rfl, rfl⟩
    exact ⟨_, results_cc rfl rfl rfl (load_evV HC.out.x) (load_err HC.out.e), HC.out.low, .inl ⟨x, HF.out, rfl⟩⟩
  · have HF : Hid (allR rdEv l = none) := by
      show _ = _
      unfold allR
      rw [HP.out]
      show (if l' = [] then some x else none) = none
      rw [if_neg (fun e => h0 (by rw [e]; rfl))]
    clear HP h0 hlen
    go_wp2
    refine leaves_cons (f := 46) (args := #[.pointer (some ⟨w.heap.size, 0, none⟩), .pointer (some ⟨w.heap.size + 1, 0, none⟩)]) (by simp) (by simp [go_sem]) ?_
    refine (catchE_wrong w.heap.size w.heap.size (w.heap.size + 1) x 0 [] W2 hx he (by omega) ⟨by omega, by omega⟩).mono ?_
    rintro e u' W4 ⟨rfl, rfl, hC⟩
    exact ⟨_, results_cc rfl rfl rfl (load_evV hC.x) (load_err hC.e), hlow.trans hC.low, .inr ⟨HF.out, rfl⟩⟩
set_option maxRecDepth 100000 in
set_option maxHeartbeats 2000000 in
theorem readChangeAll_any (v : Value) (l : Bytes) (w : World) (h : BytesIn w v l) :
    Calls Try.prog 12 #[v] w (ReadAs Ev rdEv encE Ev0 l w) := by
  obtain ⟨a, k, c, hv⟩ := h.shape
  subst hv
  have H := Lib.hid (h.alloc (.cells (cellsE Ev0) 45 (0, 0)))
  clear h
  go_enter Try.func12, Try.ntmps12
  go_upto_region 1 with (fail)
  refine wp_gen (fun W => BytesIn W (.slice a k c) l ∧ BoxE W w.heap.size Ev0 ∧ Below w.heap.size w W) ⟨H.out, BoxE.new w Ev0, (Below.refl _ _).alloc (Nat.le_refl _) _⟩ ?_
  clear H
  rintro W0 ⟨hB, hn, hlow⟩
  go_wp2_with fail
  refine (readAllE_any _ l _ hB).mono ?_
  rintro e W1 ⟨hb, hr⟩
  replace hn := hn.after hb
  replace hlow := hlow.trans (hb.mono hlow.size)
  clear hb hB
  rcases hr with ⟨x, hx, rfl⟩ | ⟨hx, rfl⟩
  · have HF := Lib.hid hx
    clear hx
    go_wp2_with ((with_reducible refine wpList_store_rowTo rfl 45 _ _ rfl rfl w.heap.size (cellsE x) ?_ ?_ 45 (cellsE Ev0) ?_ ?_ ?_ ?_ ?_); rfl; rfl; exact hn; exact sizeEv; exact rfl; exact one_cellsE _)
    refine bodyPost_ret (v := .tuple #[encE x, .int .i64 0]) (results_ct rfl rfl rfl (load_evV (hn.setRow x))) rfl ⟨below_setRow hlow (Nat.le_refl _) _, .inl ⟨x, HF.out, rfl⟩⟩
  · have HF := Lib.hid hx
    clear hx
    go_wp2_with ((with_reducible refine wpList_store_rowTo rfl 45 _ _ rfl rfl w.heap.size (cellsE Ev0) ?_ ?_ 45 (cellsE Ev0) ?_ ?_ ?_ ?_ ?_); rfl; rfl; exact hn; exact sizeEv; exact rfl; exact one_cellsE _)
    refine bodyPost_ret (v := .tuple #[encE Ev0, .int .i64 2]) (results_ct rfl rfl rfl (load_evV (hn.setRow Ev0))) rfl ⟨below_setRow hlow (Nat.le_refl _) _, .inr ⟨HF.out, rfl⟩⟩
end Go.Proofs.Ytfndiocohaploaa.C
