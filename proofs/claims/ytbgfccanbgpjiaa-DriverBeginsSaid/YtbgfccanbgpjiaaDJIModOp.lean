/- Own work. -/
import Derived.Test.YtbgfccanbgpjiaaDIMod
import Derived.Test.YtbgfccanbgpjiaaDJIPerfN
import Derived.Test.YtbgfccanbgpjiaaDJ05
import Derived.Test.YtbgfccanbgpjiaaDJIRBase
namespace Go.Proofs.Ytbgfccanbgpjiaa.O.I
open Go Go.RowKit Go.Lib KM
section
variable {d r v s n B : Nat} {W V : World} {C : Core} {ms : ByteArray → Nat} {No : List (Tg × Value)} {l : List DV} {Vo : List (ByteArray × Value)} {t : ByteArray} {x : DV}
theorem VolsR.del (h : VolsR d r v s n B W l Vo ms) (ho : OnceV l) (hx : volOf l t = some x) (hk : ∀ k y, volOf l k = some y → V.heap[ms k]? = W.heap[ms k]?) : VolsR d r v s n B V (delV t l) (KM.del t Vo) ms := by
  have hd : ∀ {k : ByteArray} {y : DV}, volOf (delV t l) k = some y → volOf l k = some y := fun {k y} hy => by
    rw [volOf_del t k l ho] at hy
    split at hy
    · cases hy
    · exact hy
  have h2 := h.move hk
  refine ⟨fun k => ?_, ?_, h.once.del, fun k y hy => h2.node k y (hd hy), fun k y hy => h2.far k y (hd hy), fun k1 k2 x1 x2 h3 h4 => h2.inj k1 k2 x1 x2 (hd h3) (hd h4)⟩
  · rw [KM.get_del k h.once, volOf_del t k l ho]
    split
    · rfl
    · exact h.get k
  · rw [length_del, length_delV, h.len, get_vol h hx, hx]
    rfl
theorem VolsR.mod (h : VolsR d r v s n B W l Vo ms) (f : DV → DV) (hf : ∀ x, (f x).name = x.name ∧ (f x).nodes = x.nodes) (hx : volOf l t = some x) (hk : ∀ k y, volOf l k = some y → V.heap[ms k]? = W.heap[ms k]?) :
    VolsR d r v s n B V (modV t f l) (KM.put t (encV ⟨(f x).size, (f x).tag, (f x).zone, some (ms t)⟩) Vo) ms := by
  have hm := fun k => volOf_mod t k f (fun x => (hf x).1) l
  have hd : ∀ {k : ByteArray} {y : DV}, volOf (modV t f l) k = some y → ∃ z, volOf l k = some z ∧ y.nodes = z.nodes := fun {k y} hy => by
    rw [hm] at hy
    split at hy
    · rename_i e
      rw [hx] at hy
      cases hy
      exact ⟨x, e ▸ hx, (hf x).2⟩
    · exact ⟨y, hy, rfl⟩
  have h2 := h.move hk
  refine ⟨fun k => ?_, ?_, h.once.put, fun k y hy => ?_, fun k y hy => ?_, fun k1 k2 x1 x2 h3 h4 => ?_⟩
  · rw [KM.get_put, hm]
    split
    · rename_i e
      rw [hx, e]
      rfl
    · exact h.get k
  · rw [length_put, length_modV, get_vol h hx]
    exact h.len
  · obtain ⟨z, hz, hn⟩ := hd hy
    rw [hn]
    exact h2.node k z hz
  · obtain ⟨z, hz, -⟩ := hd hy
    exact h2.far k z hz
  · obtain ⟨z1, hz1, -⟩ := hd h3
    obtain ⟨z2, hz2, -⟩ := hd h4
    exact h2.inj k1 k2 z1 z2 hz1 hz2
theorem VolsR.nodes (h : VolsR d r v s n B W l Vo ms) (f : DV → DV) (hf : ∀ x, (f x).name = x.name ∧ (f x).size = x.size ∧ (f x).tag = x.tag ∧ (f x).zone = x.zone) (hx : volOf l t = some x) (hk : ∀ g, g < W.heap.size → g ≠ ms t → V.heap[g]? = W.heap[g]?)
    (hn : ∃ M : List ByteArray, IsMap encS V (ms t) (keysN M) ∧ M.Perm (f x).nodes ∧ Stamp V (ms t)) : VolsR d r v s n B V (modV t f l) Vo ms := by
  have hm := fun k => volOf_mod t k f (fun x => (hf x).1) l
  have hd : ∀ {k : ByteArray} {y : DV}, volOf (modV t f l) k = some y → ∃ z, volOf l k = some z ∧ (k = t → y = f x) ∧ (k ≠ t → y = z) := fun {k y} hy => by
    rw [hm] at hy
    split at hy
    · rename_i e
      rw [hx] at hy
      cases hy
      exact ⟨x, e ▸ hx, fun _ => rfl, fun h => absurd e h⟩
    · rename_i e
      exact ⟨y, hy, fun h => absurd h e, fun _ => rfl⟩
  refine ⟨fun k => ?_, (length_modV t f l).symm ▸ h.len, h.once, fun k y hy => ?_, fun k y hy => ?_, fun k1 k2 x1 x2 h3 h4 => ?_⟩
  · rw [hm, h.get]
    split
    · rename_i e
      rw [e, hx]
      simp only [Option.map_some, (hf x).2.1, (hf x).2.2.1, (hf x).2.2.2]
    · rfl
  · obtain ⟨z, hz, h1, h2⟩ := hd hy
    by_cases e : k = t
    · rw [e, h1 e]
      exact hn
    · rw [h2 e]
      obtain ⟨M, m1, m2, m3⟩ := h.node k z hz
      have hne : ms k ≠ ms t := fun e2 => e (h.inj k t z x hz hx e2)
      have he := hk (ms k) (h.lt hz) hne
      exact ⟨M, m1.of_heap he, m2, m3.of_heap he⟩
  · obtain ⟨z, hz, -⟩ := hd hy
    exact h.far k z hz
  · obtain ⟨z1, hz1, -⟩ := hd h3
    obtain ⟨z2, hz2, -⟩ := hd h4
    exact h.inj k1 k2 z1 z2 hz1 hz2
theorem VolsR.ins (h : VolsR d r v s n B W l Vo ms) (hx : volOf l x.name = none) (hn : x.nodes = []) {m : Nat} (hm : IsMap encS V m []) (hst : Stamp V m) (hnew : ∀ k y, volOf l k = some y → ms k ≠ m) (hfar : B ≤ m ∧ m ≠ d ∧ m ≠ r ∧ m ≠ v ∧ m ≠ s ∧ m ≠ n)
    (hk : ∀ k y, volOf l k = some y → V.heap[ms k]? = W.heap[ms k]?) : VolsR d r v s n B V (insV x l) (KM.put x.name (encV ⟨x.size, x.tag, x.zone, some m⟩) Vo) (fun k => if k = x.name then m else ms k) := by
  have hi := fun k => volOf_ins x k l hx
  have h2 := h.move hk
  refine ⟨fun k => ?_, ?_, h.once.put, fun k y hy => ?_, fun k y hy => ?_, fun k1 k2 x1 x2 h3 h4 => ?_⟩
  · rw [KM.get_put, hi]
    split
    · rfl
    · exact h.get k
  · rw [length_put, length_insV, get_vol h hx, h.len]
    rfl
  · rw [hi] at hy
    split at hy
    · rename_i e
      cases hy
      rw [if_pos e]
      exact ⟨[], hm, by rw [hn], hst⟩
    · rename_i e
      rw [if_neg e]
      exact h2.node k y hy
  · rw [hi] at hy
    split at hy
    · rename_i e
      rw [if_pos e]
      exact hfar
    · rename_i e
      rw [if_neg e]
      exact h2.far k y hy
  · rw [hi] at h3 h4
    split at h3 <;> split at h4
    · rename_i e1 e2
      intro _
      rw [e1, e2]
    · rename_i e1 e2
      rw [if_pos e1, if_neg e2]
      exact fun e => absurd e.symm (hnew k2 x2 h4)
    · rename_i e1 e2
      rw [if_neg e1, if_pos e2]
      exact fun e => absurd e (hnew k1 x1 h3)
    · rename_i e1 e2
      rw [if_neg e1, if_neg e2]
      exact h2.inj k1 k2 x1 x2 h3 h4
theorem SnapsR.ins {l : List DS} {So : List (ByteArray × Value)} (h : SnapsR l So) (y : DS) (hx : snapOf l y.name = none) : SnapsR (insS y l) (KM.put y.name (encK ⟨y.size, y.tag⟩) So) := by
  refine ⟨fun k => ?_, ?_, h.once.put⟩
  · rw [KM.get_put, snapOf_ins y k l hx]
    split
    · rfl
    · exact h.get k
  · rw [length_put, length_insS, get_snap h hx, h.len]
    rfl
theorem SnapsR.del {l : List DS} {So : List (ByteArray × Value)} (h : SnapsR l So) (ho : OnceS l) (t : ByteArray) : SnapsR (delS t l) (KM.del t So) := by
  refine ⟨fun k => ?_, ?_, h.once.del⟩
  · rw [KM.get_del k h.once, snapOf_del t k l ho]
    split
    · rfl
    · exact h.get k
  · rw [length_del, length_delS, h.len, get_snap h (rfl : snapOf l t = _)]
    cases snapOf l t <;> rfl
theorem get_room {zs : List Zn} {k : ByteArray} {y : Option Zn} (hy : zoneOf zs k = y) : KM.get k (roomsZ zs) = y.map fun z => .int .i64 z.room := by
  rw [rooms_of, hy]
variable (hf : Five d r v s n) (hB : B ≤ r ∧ B ≤ v ∧ B ≤ s ∧ B ≤ W.heap.size) (hC : CoreR d r v s n B W No C ms) {w0 : Nat} (hold : ∀ k x, volOf C.vols k = some x → ms k < w0) (hi : InvC C)
include hf hB hC hold hi
theorem mod_erase (t : ByteArray) : Calls Try.prog 69 #[.pointer (some ⟨d, 0, none⟩), .string t] W (OpA d r v s n B W No C ms w0 (eraseC C t)) := by
  obtain ⟨Vo, So, hd, hv, hs⟩ := id hC
  cases hx : volOf C.vols t with
  | none =>
    rw [show eraseC C t = (zeroR, C) by unfold eraseC; rw [hx]]
    exact op_same hC hold hB.2.2.2 (erase_none d r v s n _ Vo So No t W hd (get_vol hv hx))
  | some x =>
    obtain ⟨M, hM, hp, hst⟩ := hv.node t x hx
    by_cases hn : x.nodes = []
    · rw [show eraseC C t = (zeroR, ⟨modZ x.zone (fun r => IntKind.i64.wrap (r + x.size)) C.zones, delV t C.vols, C.snaps⟩) by unfold eraseC; rw [hx]; exact if_pos hn]
      obtain ⟨z, hz⟩ := hi.zone t x hx
      have hM0 : M = [] := by rw [hn] at hp; exact List.perm_nil.1 hp
      rw [hM0] at hM
      refine (erase_ok B d r v s n _ Vo So No t W ⟨x.size, x.tag, x.zone, some (ms t)⟩ (ms t) z.room hd hf (get_vol hv hx) rfl hM (get_room hz) ⟨hB.1, hB.2.1, hB.2.2.2⟩).mono ?_
      rintro e V ⟨rfl, hd2, hfr⟩
      have hrm := rooms_mod x.zone (fun r => IntKind.i64.wrap (r + x.size)) C.zones z hz
      dsimp only at hrm hd2
      rw [hrm] at hd2
      have hk : ∀ k y, volOf C.vols k = some y → V.heap[ms k]? = W.heap[ms k]? := fun k y hy => hfr.1 _ (hv.lt hy) (fun h => by
        obtain ⟨-, -, f2, f3, -⟩ := hv.far k y hy
        rcases h with h | h
        · exact f2 h
        · exact f3 h)
      refine ⟨zeroR, rfl, ⟨rfl, ms, ⟨_, _, hd2, hv.del hi.vols hx hk, hs⟩, fun k y hy => ?_⟩, hfr.weak (fun g h => h.elim .inl (fun h => .inr (.inl h))) (Nat.le_refl _)⟩
      have hy' : volOf (delV t C.vols) k = some y := hy
      rw [volOf_del t k _ hi.vols] at hy'
      split at hy'
      · cases hy'
      · exact .inl (hold k y hy')
    · rw [show eraseC C t = (errR 10, C) by unfold eraseC; rw [hx]; exact if_neg hn]
      refine op_same hC hold hB.2.2.2 (erase_busy d r v s n _ Vo So No t W ⟨x.size, x.tag, x.zone, some (ms t)⟩ (ms t) _ hd (get_vol hv hx) rfl hM (fun e => ?_))
      have : M = [] := by simpa using e
      rw [this] at hp
      exact hn (List.nil_perm.1 hp)
omit hf in
theorem mod_publish (t q : ByteArray) : Calls Try.prog 70 #[.pointer (some ⟨d, 0, none⟩), .string t, .string q] W (OpA d r v s n B W No C ms w0 (publishC C t q)) := by
  obtain ⟨Vo, So, hd, hv, hs⟩ := id hC
  cases hx : volOf C.vols t with
  | none =>
    rw [show publishC C t q = (errR 5, C) by unfold publishC; rw [hx]]
    exact op_same hC hold hB.2.2.2 (publish_none d r v s n _ Vo So No t W q hd (get_vol hv hx))
  | some x =>
    rw [show publishC C t q = (zeroR, ⟨C.zones, modV t (fun x => ⟨x.name, x.size, x.zone, x.tag, withN q false x.nodes⟩) C.vols, C.snaps⟩) by unfold publishC; rw [hx]]
    obtain ⟨M, hM, hp, hst⟩ := hv.node t x hx
    refine (publish_ok d r v s n (ms t) _ Vo So No t q ⟨x.size, x.tag, x.zone, some (ms t)⟩ (keysN M) W hd (get_vol hv hx) rfl hM hst).mono ?_
    rintro e V ⟨rfl, hm2, hs2, ho⟩
    rw [put_keysN] at hm2
    have hfar := hv.far t x hx
    have hv2 := hv.nodes (fun x => ⟨x.name, x.size, x.zone, x.tag, withN q false x.nodes⟩) (fun _ => ⟨rfl, rfl, rfl, rfl⟩) hx ho.1 ⟨_, hm2, perm_with hp (hi.nodes t x hx), hs2⟩
    refine ⟨zeroR, rfl, ⟨rfl, ms, ⟨Vo, So, ?_, hv2, hs⟩, fun k y hy => ?_⟩, ho.fr (D := Mine r v s C ms) (.inr (.inr (.inr ⟨t, x, hx, rfl⟩))) hfar.1 hB.2.2.2⟩
    · obtain ⟨l1, l2, l3, l4, l5⟩ := hd.lt
      obtain ⟨-, n1, n2, n3, n4, n5⟩ := hfar
      exact ⟨(ho.1 d l1 n1.symm).trans hd.box, hd.rooms.of_heap (ho.1 r l2 n2.symm), hd.vols.of_heap (ho.1 v l3 n3.symm), hd.snaps.of_heap (ho.1 s l4 n4.symm), hd.done.of_heap (ho.1 n l5 n5.symm), hd.stamp.of_heap (ho.1 v l3 n3.symm), hd.stampS.of_heap (ho.1 s l4 n4.symm)⟩
    · have hy' : volOf (modV t (fun x => (⟨x.name, x.size, x.zone, x.tag, withN q false x.nodes⟩ : DV)) C.vols) k = some y := hy
      rw [volOf_mod t k (fun x => (⟨x.name, x.size, x.zone, x.tag, withN q false x.nodes⟩ : DV)) (fun _ => rfl)] at hy'
      split at hy'
      · rename_i e
        rw [e]
        exact .inl (hold t x hx)
      · exact .inl (hold k y hy')
omit hf in
theorem mod_unpublish (t q : ByteArray) : Calls Try.prog 71 #[.pointer (some ⟨d, 0, none⟩), .string t, .string q] W (OpA d r v s n B W No C ms w0 (unpublishC C t q)) := by
  obtain ⟨Vo, So, hd, hv, hs⟩ := id hC
  cases hx : volOf C.vols t with
  | none =>
    rw [show unpublishC C t q = (zeroR, C) by unfold unpublishC; rw [hx]]
    exact op_same hC hold hB.2.2.2 (unpublish_none d r v s n _ Vo So No t W q hd (get_vol hv hx))
  | some x =>
    rw [show unpublishC C t q = (zeroR, ⟨C.zones, modV t (fun x => ⟨x.name, x.size, x.zone, x.tag, withoutN q x.nodes⟩) C.vols, C.snaps⟩) by unfold unpublishC; rw [hx]]
    obtain ⟨M, hM, hp, hst⟩ := hv.node t x hx
    refine (unpublish_ok d r v s n (ms t) _ Vo So No t q ⟨x.size, x.tag, x.zone, some (ms t)⟩ (keysN M) W hd (get_vol hv hx) rfl hM hst).mono ?_
    rintro e V ⟨rfl, hm2, hs2, ho⟩
    rw [del_keysN _ _ (hp.nodup_iff.2 (hi.nodes t x hx))] at hm2
    have hfar := hv.far t x hx
    have hv2 := hv.nodes (fun x => ⟨x.name, x.size, x.zone, x.tag, withoutN q x.nodes⟩) (fun _ => ⟨rfl, rfl, rfl, rfl⟩) hx ho.1 ⟨_, hm2, perm_without hp, hs2⟩
    refine ⟨zeroR, rfl, ⟨rfl, ms, ⟨Vo, So, ?_, hv2, hs⟩, fun k y hy => ?_⟩, ho.fr (D := Mine r v s C ms) (.inr (.inr (.inr ⟨t, x, hx, rfl⟩))) hfar.1 hB.2.2.2⟩
    · obtain ⟨l1, l2, l3, l4, l5⟩ := hd.lt
      obtain ⟨-, n1, n2, n3, n4, n5⟩ := hfar
      exact ⟨(ho.1 d l1 n1.symm).trans hd.box, hd.rooms.of_heap (ho.1 r l2 n2.symm), hd.vols.of_heap (ho.1 v l3 n3.symm), hd.snaps.of_heap (ho.1 s l4 n4.symm), hd.done.of_heap (ho.1 n l5 n5.symm), hd.stamp.of_heap (ho.1 v l3 n3.symm), hd.stampS.of_heap (ho.1 s l4 n4.symm)⟩
    · have hy' : volOf (modV t (fun x => (⟨x.name, x.size, x.zone, x.tag, withoutN q x.nodes⟩ : DV)) C.vols) k = some y := hy
      rw [volOf_mod t k (fun x => (⟨x.name, x.size, x.zone, x.tag, withoutN q x.nodes⟩ : DV)) (fun _ => rfl)] at hy'
      split at hy'
      · rename_i e
        rw [e]
        exact .inl (hold t x hx)
      · exact .inl (hold k y hy')
theorem mod_expand (t : ByteArray) (sz : Int) (hz : 0 ≤ sz ∧ sz ≤ 1125899906842624) : Calls Try.prog 72 #[.pointer (some ⟨d, 0, none⟩), .string t, .int .i64 sz] W (OpA d r v s n B W No C ms w0 (expandC C t sz)) := by
  obtain ⟨Vo, So, hd, hv, hs⟩ := id hC
  cases hx : volOf C.vols t with
  | none =>
    rw [show expandC C t sz = (errR 5, C) by unfold expandC; rw [hx]]
    exact op_same hC hold hB.2.2.2 (expand_none d r v s n _ Vo So No t sz W hd (get_vol hv hx))
  | some x =>
    have hsz := hi.size t x hx
    have hw : IntKind.i64.wrap (sz - x.size) = sz - x.size := by rw [IntKind.wrap_i64]; omega
    by_cases hle : sz ≤ x.size
    · rw [show expandC C t sz = (⟨0, x.size, E0, 0⟩, C) by unfold expandC; rw [hx]; exact if_pos hle]
      exact op_same hC hold hB.2.2.2 (expand_less d r v s n _ Vo So No t sz W ⟨x.size, x.tag, x.zone, some (ms t)⟩ _ hd (get_vol hv hx) rfl (by show ¬ 0 < IntKind.i64.wrap (sz - x.size); rw [hw]; omega))
    · obtain ⟨z, hzz⟩ := hi.zone t x hx
      have hgt : 0 < IntKind.i64.wrap (sz - x.size) := by rw [hw]; omega
      by_cases hlt : z.room < IntKind.i64.wrap (sz - x.size)
      · rw [show expandC C t sz = (errR 11, C) by unfold expandC; rw [hx]; dsimp only; rw [if_neg hle, hzz]; exact if_pos hlt]
        exact op_same hC hold hB.2.2.2 (expand_space d r v s n _ Vo So No t sz W ⟨x.size, x.tag, x.zone, some (ms t)⟩ z.room _ hd (get_vol hv hx) (get_room hzz) rfl hgt hlt)
      · rw [show expandC C t sz = (⟨0, sz, E0, 0⟩, ⟨modZ x.zone (fun r => IntKind.i64.wrap (r - IntKind.i64.wrap (sz - x.size))) C.zones, modV t (fun y => ⟨y.name, sz, y.zone, y.tag, y.nodes⟩) C.vols, C.snaps⟩) by unfold expandC; rw [hx]; dsimp only; rw [if_neg hle, hzz]; exact if_neg hlt]
        refine (expand_ok B d r v s n _ Vo So No t sz W ⟨x.size, x.tag, x.zone, some (ms t)⟩ z.room _ hd hf (get_vol hv hx) (get_room hzz) rfl hgt hlt ⟨hB.1, hB.2.1, hB.2.2.2⟩).mono ?_
        rintro e V ⟨rfl, hd2, hfr⟩
        have hrm := rooms_mod x.zone (fun r => IntKind.i64.wrap (r - IntKind.i64.wrap (sz - x.size))) C.zones z hzz
        dsimp only at hrm hd2
        rw [hrm] at hd2
        have hk : ∀ k y, volOf C.vols k = some y → V.heap[ms k]? = W.heap[ms k]? := fun k y hy => hfr.1 _ (hv.lt hy) (fun h => by
          obtain ⟨-, -, f2, f3, -⟩ := hv.far k y hy
          rcases h with h | h
          · exact f2 h
          · exact f3 h)
        refine ⟨_, rfl, ⟨rfl, ms, ⟨_, _, hd2, hv.mod (fun y => ⟨y.name, sz, y.zone, y.tag, y.nodes⟩) (fun _ => ⟨rfl, rfl⟩) hx hk, hs⟩, fun k y hy => ?_⟩, hfr.weak (fun g h => h.elim .inl (fun h => .inr (.inl h))) (Nat.le_refl _)⟩
        have hy' : volOf (modV t (fun y => (⟨y.name, sz, y.zone, y.tag, y.nodes⟩ : DV)) C.vols) k = some y := hy
        rw [volOf_mod t k (fun y => (⟨y.name, sz, y.zone, y.tag, y.nodes⟩ : DV)) (fun _ => rfl)] at hy'
        split at hy'
        · rename_i e
          rw [e]
          exact .inl (hold t x hx)
        · exact .inl (hold k y hy')
omit hi in
theorem mod_cut (t q : ByteArray) : Calls Try.prog 73 #[.pointer (some ⟨d, 0, none⟩), .string t, .string q] W (OpA d r v s n B W No C ms w0 (cutC C t q)) := by
  obtain ⟨Vo, So, hd, hv, hs⟩ := id hC
  cases hk : snapOf C.snaps t with
  | some k =>
    rw [show cutC C t q = (⟨0, k.size, E0, k.tag⟩, C) by unfold cutC; rw [hk]]
    exact op_same hC hold hB.2.2.2 (cut_there d r v s n _ Vo So No t q W ⟨k.size, k.tag⟩ hd (get_snap hs hk))
  | none =>
    cases hx : volOf C.vols q with
    | none =>
      rw [show cutC C t q = (errR 5, C) by unfold cutC; rw [hk, hx]]
      exact op_same hC hold hB.2.2.2 (cut_none d r v s n _ Vo So No t q W hd (get_snap hs hk) (get_vol hv hx))
    | some x =>
      by_cases hl : 64 ≤ C.snaps.length
      · rw [show cutC C t q = (errR 7, C) by unfold cutC; rw [hk, hx]; exact if_pos hl]
        exact op_same hC hold hB.2.2.2 (cut_full d r v s n _ Vo So No t q W ⟨x.size, x.tag, x.zone, some (ms q)⟩ hd (get_snap hs hk) (get_vol hv hx) (by rw [hs.len]; omega))
      · rw [show cutC C t q = (⟨0, x.size, E0, x.tag⟩, ⟨C.zones, C.vols, insS ⟨t, x.size, x.tag⟩ C.snaps⟩) by unfold cutC; rw [hk, hx]; exact if_neg hl]
        refine (cut_ok B d r v s n _ Vo So No t q W ⟨x.size, x.tag, x.zone, some (ms q)⟩ hd hf (get_snap hs hk) (get_vol hv hx) (by rw [hs.len]; omega) ⟨hB.2.2.1, hB.2.2.2⟩).mono ?_
        rintro e V ⟨rfl, hd2, hfr⟩
        refine ⟨_, rfl, ⟨rfl, ms, ⟨_, _, hd2, hv.move (fun k y hy => hfr.1 _ (hv.lt hy) (hv.far k y hy).2.2.2.2.1), hs.ins ⟨t, x.size, x.tag⟩ hk⟩, fun k y hy => .inl (hold k y hy)⟩, hfr.weak (fun g h => .inr (.inr (.inl h))) (Nat.le_refl _)⟩
theorem mod_drop (t : ByteArray) : Calls Try.prog 74 #[.pointer (some ⟨d, 0, none⟩), .string t] W (OpA d r v s n B W No C ms w0 (dropC C t)) := by
  obtain ⟨Vo, So, hd, hv, hs⟩ := id hC
  refine (drop_any B d r v s n _ Vo So No t W hd hf ⟨hB.2.2.1, hB.2.2.2⟩).mono ?_
  rintro e V ⟨rfl, hd2, hfr⟩
  exact ⟨_, rfl, ⟨rfl, ms, ⟨_, _, hd2, hv.move (fun k y hy => hfr.1 _ (hv.lt hy) (hv.far k y hy).2.2.2.2.1), hs.del hi.snaps t⟩, fun k y hy => .inl (hold k y hy)⟩, hfr.weak (fun g h => .inr (.inr (.inl h))) (Nat.le_refl _)⟩
end
end Go.Proofs.Ytbgfccanbgpjiaa.O.I
namespace Go.Proofs.Ytbgfccanbgpjiaa.O.I
open Go Go.RowKit Go.Lib KM
section
variable {d r v s n B : Nat} {W : World} {C : Core} {ms : ByteArray → Nat} {No : List (Tg × Value)}
theorem src_of {Vo So : List (ByteArray × Value)} (hv : VolsR d r v s n B W C.vols Vo ms) (hs : SnapsR C.snaps So) (q : ByteArray) : ∃ k : Ct, (∀ V, DrAt V d r v s n (roomsZ C.zones) Vo So No → Calls Try.prog 86 #[.pointer (some ⟨d, 0, none⟩), .string q] V fun e w' => e = .returned (.tuple #[encK k, .bool (srcOf C q).isSome]) ∧ Below V.heap.size V w') ∧ ∀ y, srcOf C q = some y → y = k := by
  unfold srcOf
  by_cases h0 : q = E0
  · rw [if_pos h0]
    exact ⟨zeroK, fun V _ => h0 ▸ source_none _ V, fun y hy => (Option.some.inj hy).symm⟩
  · rw [if_neg h0]
    cases hk : snapOf C.snaps q with
    | some k => exact ⟨⟨k.size, k.tag⟩, fun V hd => source_snap d r v s n _ Vo So No q V ⟨k.size, k.tag⟩ hd h0 (get_snap hs hk), fun y hy => (Option.some.inj hy).symm⟩
    | none =>
      cases hx : volOf C.vols q with
      | some x => exact ⟨⟨x.size, x.tag⟩, fun V hd => source_vol d r v s n _ Vo So No q V ⟨x.size, x.tag, x.zone, some (ms q)⟩ true hd h0 (get_snap hs hk) (.inl ⟨get_vol hv hx, rfl⟩), fun y hy => (Option.some.inj hy).symm⟩
      | none => exact ⟨⟨zeroV.size, zeroV.tag⟩, fun V hd => source_vol d r v s n _ Vo So No q V zeroV false hd h0 (get_snap hs hk) (.inr ⟨get_vol hv hx, rfl, rfl⟩), fun y hy => (by cases hy)⟩
variable (hf : Five d r v s n) (hB : B ≤ r ∧ B ≤ v ∧ B ≤ s ∧ B ≤ W.heap.size) (hC : CoreR d r v s n B W No C ms) {w0 : Nat} (hold : ∀ k x, volOf C.vols k = some x → ms k < w0)
include hf hB hC hold
theorem mod_create (c : Cl) : Calls Try.prog 68 #[.pointer (some ⟨d, 0, none⟩), encC c] W (OpA d r v s n B W No C ms w0 (createC C c)) := by
  obtain ⟨Vo, So, hd, hv, hs⟩ := id hC
  cases hx : volOf C.vols c.target with
  | some x =>
    by_cases hlt : x.size < c.size
    · rw [show createC C c = (errR 12, C) by unfold createC; rw [hx]; exact if_pos hlt]
      exact op_same hC hold hB.2.2.2 (create_low d r v s n _ Vo So No c W hd ⟨x.size, x.tag, x.zone, some (ms c.target)⟩ (get_vol hv hx) hlt)
    · rw [show createC C c = (⟨0, x.size, x.zone, x.tag⟩, C) by unfold createC; rw [hx]; exact if_neg hlt]
      exact op_same hC hold hB.2.2.2 (create_there d r v s n _ Vo So No c W hd ⟨x.size, x.tag, x.zone, some (ms c.target)⟩ (get_vol hv hx) hlt)
  | none =>
    cases hz : zoneOf C.zones c.zone with
    | none =>
      rw [show createC C c = (errR 5, C) by unfold createC; rw [hx]; dsimp only; rw [hz]]
      exact op_same hC hold hB.2.2.2 (create_nozone d r v s n _ Vo So No c W hd (get_vol hv hx) (get_room hz))
    | some z =>
      obtain ⟨k, hsrc, hk⟩ := src_of (No := No) hv hs c.source
      cases hq : srcOf C c.source with
      | none =>
        rw [show createC C c = (errR 5, C) by unfold createC; rw [hx]; dsimp only; rw [hz]; dsimp only; rw [hq]]
        rw [hq] at hsrc
        exact op_same hC hold hB.2.2.2 (create_nosrc d r v s n _ Vo So No c W hd k false z.room (get_vol hv hx) (get_room hz) hsrc rfl)
      | some y =>
        obtain rfl := hk y hq
        rw [hq] at hsrc
        by_cases hsm : c.size < y.size
        · rw [show createC C c = (errR 12, C) by unfold createC; rw [hx]; dsimp only; rw [hz]; dsimp only; rw [hq]; exact if_pos hsm]
          exact op_same hC hold hB.2.2.2 (create_small d r v s n _ Vo So No c W hd y true z.room (get_vol hv hx) (get_room hz) hsrc rfl hsm)
        · by_cases hl : 64 ≤ C.vols.length
          · rw [show createC C c = (errR 7, C) by unfold createC; rw [hx]; dsimp only; rw [hz]; dsimp only; rw [hq]; dsimp only; rw [if_neg hsm]; exact if_pos hl]
            exact op_same hC hold hB.2.2.2 (create_full d r v s n _ Vo So No c W hd y true z.room (get_vol hv hx) (get_room hz) hsrc rfl hsm (by rw [hv.len]; omega))
          · by_cases hrm : z.room < c.size
            · rw [show createC C c = (errR 11, C) by unfold createC; rw [hx]; dsimp only; rw [hz]; dsimp only; rw [hq]; dsimp only; rw [if_neg hsm, if_neg hl]; exact if_pos hrm]
              exact op_same hC hold hB.2.2.2 (create_space d r v s n _ Vo So No c W hd y true z.room (get_vol hv hx) (get_room hz) hsrc rfl hsm (by rw [hv.len]; omega) hrm)
            · rw [show createC C c = (⟨0, c.size, c.zone, y.tag⟩, ⟨modZ c.zone (fun r => IntKind.i64.wrap (r - c.size)) C.zones, insV ⟨c.target, c.size, c.zone, y.tag, []⟩ C.vols, C.snaps⟩) by unfold createC; rw [hx]; dsimp only; rw [hz]; dsimp only; rw [hq]; dsimp only; rw [if_neg hsm, if_neg hl]; exact if_neg hrm]
              refine (create_made B d r v s n _ Vo So No c W y z.room _ hd hf (get_vol hv hx) (get_room hz) hsrc hsm (by rw [hv.len]; omega) hrm rfl ⟨hB.1, hB.2.1⟩).mono ?_
              rintro e V ⟨m, rfl, hd2, hm2, hle, hfr⟩
              have hroom := rooms_mod c.zone (fun r => IntKind.i64.wrap (r - c.size)) C.zones z hz
              rw [hroom] at hd2
              have hk2 : ∀ k y, volOf C.vols k = some y → V.heap[ms k]? = W.heap[ms k]? := fun k y hy => hfr.1 _ (hv.lt hy) (fun h => by
                obtain ⟨-, -, f2, f3, -⟩ := hv.far k y hy
                rcases h with h | h
                · exact f2 h
                · exact f3 h)
              have hlt := hd.lt
              have hst : Stamp V m := by
                obtain ⟨es, clock, hb, hh⟩ := hm2
                obtain ⟨l⟩ := es
                cases l with
                | cons e r => unfold Holds at hh; simp at hh
                | nil => exact ⟨#[], clock, hb, MapKept.stamped_empty clock⟩
              have hv2 := hv.ins (x := ⟨c.target, c.size, c.zone, y.tag, []⟩) hx rfl hm2 hst (fun k y hy e => by have := hv.lt hy; omega) (by omega) hk2
              refine ⟨_, rfl, ⟨rfl, _, ⟨_, _, hd2, hv2, hs⟩, fun k q hq => ?_⟩, hfr.weak (fun g h => h.elim .inl (fun h => .inr (.inl h))) (Nat.le_refl _)⟩
              have hq' : volOf (insV ⟨c.target, c.size, c.zone, y.tag, []⟩ C.vols) k = some q := hq
              rw [volOf_ins _ _ _ hx] at hq'
              split at hq'
              · rename_i e
                rw [if_pos e]
                exact .inr hle
              · rename_i e
                rw [if_neg e]
                exact .inl (hold k q hq')
theorem mod_perform (hi : InvC C) (c : Cl) (hri : rightB c = true) (hold0 : ∀ k x, volOf C.vols k = some x → ms k < W.heap.size) (hw0 : w0 ≤ W.heap.size) : Calls Try.prog 50 #[.pointer (some ⟨d, 0, none⟩), encC c] W (OpA d r v s n B W No C ms w0 (perfC C c)) := by
  have hlt : d < W.heap.size ∧ r < W.heap.size ∧ v < W.heap.size ∧ s < W.heap.size ∧ n < W.heap.size := by
    obtain ⟨Vo, So, hd, -⟩ := hC
    exact hd.lt
  have hsz : 0 ≤ c.size ∧ c.size ≤ 1125899906842624 := by
    unfold rightB at hri
    simp only [Bool.and_eq_true] at hri
    have := hri.1.1.2
    unfold inR at this
    simpa using this
  have hD : ∀ g, Mine r v s C ms g → g < W.heap.size := by
    rintro g (rfl | rfl | rfl | ⟨k, x, hx, rfl⟩)
    · exact hlt.2.1
    · exact hlt.2.2.1
    · exact hlt.2.2.2.1
    · exact hold0 k x hx
  -- what is left, kept apart from the call's own two blocks
  let T : Rs × Core → Rs → World → Prop := fun res q V => q = res.1 ∧ ∃ ms', CoreR d r v s n B V No res.2 ms' ∧ ∀ k x, volOf res.2.vols k = some x → (ms' k < w0 ∨ W.heap.size ≤ ms' k) ∧ ms' k ≠ W.heap.size + 1
  have hT : ∀ res, ∀ q V V', T res q V → (∀ g, g ≠ W.heap.size + 1 → V'.heap[g]? = V.heap[g]?) → T res q V' := by
    rintro res q V V' ⟨hq, ms', ⟨Vo, So, h1, h2, h3⟩, h4⟩ hk
    refine ⟨hq, ms', ⟨Vo, So, h1.keep hk (by omega), h2.move (fun k x hx => hk _ (h4 k x hx).2), h3⟩, h4⟩
  have hop : ∀ (res : Rs × Core) {fn : Nat} {args : Array Value}, (∀ V1, Below W.heap.size W V1 → CoreR d r v s n B V1 No C ms → B ≤ V1.heap.size → Calls Try.prog fn args V1 (OpA d r v s n B V1 No C ms w0 res)) →
      ∀ V1, Below W.heap.size W V1 → W.heap.size + 1 < V1.heap.size → Calls Try.prog fn args V1 fun e V => ∃ q, e = .returned (encR q) ∧ T res q V ∧ Fr (Mine r v s C ms) B V1 V := fun res fn args h V1 hb h1 => by
    refine (h V1 hb (hC.after hb) (by have := hb.size; omega)).mono ?_
    rintro e V ⟨q, he, ⟨hq, ms', hc', hn⟩, hfr⟩
    refine ⟨q, he, ⟨hq, ms', hc', fun k x hx => ⟨?_, ?_⟩⟩, hfr⟩
    · rcases hn k x hx with h2 | h2
      · exact .inl h2
      · exact .inr (by omega)
    · rcases hn k x hx with h2 | h2
      · omega
      · omega
  have fin : ∀ res, Calls Try.prog 50 #[.pointer (some ⟨d, 0, none⟩), encC c] W (fun e V => ∃ q, e = .returned (encR q) ∧ T res q V ∧ Fr (Mine r v s C ms) B W V) → Calls Try.prog 50 #[.pointer (some ⟨d, 0, none⟩), encC c] W (OpA d r v s n B W No C ms w0 res) := fun res h => by
    refine h.mono ?_
    rintro e V ⟨q, he, ⟨hq, ms', hc', hn⟩, hfr⟩
    exact ⟨q, he, ⟨hq, ms', hc', fun k x hx => (hn k x hx).1⟩, hfr⟩
  have hB4 : ∀ V1, Below W.heap.size W V1 → B ≤ r ∧ B ≤ v ∧ B ≤ s ∧ B ≤ V1.heap.size := fun V1 hb => ⟨hB.1, hB.2.1, hB.2.2.1, by have := hb.size; omega⟩
  have hv7 : c.verb = 1 ∨ c.verb = 2 ∨ c.verb = 3 ∨ c.verb = 4 ∨ c.verb = 5 ∨ c.verb = 6 ∨ c.verb = 7 := by
    have hh : hasB c = true := by
      unfold rightB at hri
      simp only [Bool.and_eq_true] at hri
      exact hri.2
    unfold hasB at hh
    split at hh
    · omega
    · split at hh
      · omega
      · split at hh
        · omega
        · split at hh
          · omega
          · split at hh
            · omega
            · cases hh
  unfold perfC
  rcases hv7 with h | h | h | h | h | h | h
  · rw [if_pos h]
    exact fin _ (perf_1 d B c W (T (createC C c)) _ h (hop _ (fun V1 hb hc _ => mod_create hf (hB4 V1 hb) hc hold c)) hD hB.2.2.2 (hT _))
  · rw [if_neg (by omega), if_pos h]
    exact fin _ (perf_2 d B c W (T (eraseC C c.target)) _ h (hop _ (fun V1 hb hc _ => mod_erase hf (hB4 V1 hb) hc hold hi c.target)) hD hB.2.2.2 (hT _))
  · rw [if_neg (by omega), if_neg (by omega), if_pos h]
    exact fin _ (perf_3 d B c W (T (publishC C c.target c.node)) _ h (hop _ (fun V1 hb hc _ => mod_publish (hB4 V1 hb) hc hold hi c.target c.node)) hD hB.2.2.2 (hT _))
  · rw [if_neg (by omega), if_neg (by omega), if_neg (by omega), if_pos h]
    exact fin _ (perf_4 d B c W (T (unpublishC C c.target c.node)) _ h (hop _ (fun V1 hb hc _ => mod_unpublish (hB4 V1 hb) hc hold hi c.target c.node)) hD hB.2.2.2 (hT _))
  · rw [if_neg (by omega), if_neg (by omega), if_neg (by omega), if_neg (by omega), if_pos h]
    exact fin _ (perf_5 d B c W (T (expandC C c.target c.size)) _ h (hop _ (fun V1 hb hc _ => mod_expand hf (hB4 V1 hb) hc hold hi c.target c.size hsz)) hD hB.2.2.2 (hT _))
  · rw [if_neg (by omega), if_neg (by omega), if_neg (by omega), if_neg (by omega), if_neg (by omega), if_pos h]
    exact fin _ (perf_6 d B c W (T (cutC C c.target c.source)) _ h (hop _ (fun V1 hb hc _ => mod_cut hf (hB4 V1 hb) hc hold c.target c.source)) hD hB.2.2.2 (hT _))
  · rw [if_neg (by omega), if_neg (by omega), if_neg (by omega), if_neg (by omega), if_neg (by omega), if_neg (by omega)]
    exact fin _ (perf_7 d B c W (T (dropC C c.target)) _ h (hop _ (fun V1 hb hc _ => mod_drop hf (hB4 V1 hb) hc hold hi c.target)) hD hB.2.2.2 (hT _))
end
end Go.Proofs.Ytbgfccanbgpjiaa.O.I
namespace Go.Proofs.Ytbgfccanbgpjiaa.O.I
open Go Go.RowKit Go.Lib Go.Shelf KM
attribute [local go_sem] Oper.semAt_some
theorem sorted_ext : ∀ {a b : List (List UInt8)}, a.Pairwise (· < ·) → b.Pairwise (· < ·) → (∀ x, x ∈ a ↔ x ∈ b) → a = b
  | [], [], _, _, _ => rfl
  | [], y :: b, _, _, h => absurd ((h y).2 (by simp)) (by simp)
  | x :: a, [], _, _, h => absurd ((h x).1 (by simp)) (by simp)
  | x :: a, y :: b, h1, h2, h => by
    obtain ⟨p1, q1⟩ := List.pairwise_cons.1 h1
    obtain ⟨p2, q2⟩ := List.pairwise_cons.1 h2
    have hxy : x = y := by
      rcases List.mem_cons.1 ((h x).1 (by simp)) with e | hx
      · exact e
      · rcases List.mem_cons.1 ((h y).2 (by simp)) with e | hy
        · exact e.symm
        · exact absurd (List.lt_trans (p2 x hx) (p1 y hy)) (List.lt_irrefl _)
    subst hxy
    rw [sorted_ext q1 q2 fun z => ?_]
    constructor
    · intro hz
      rcases List.mem_cons.1 ((h z).1 (List.mem_cons_of_mem _ hz)) with e | hz'
      · subst e; exact absurd (p1 z hz) (List.lt_irrefl _)
      · exact hz'
    · intro hz
      rcases List.mem_cons.1 ((h z).2 (List.mem_cons_of_mem _ hz)) with e | hz'
      · subst e; exact absurd (p2 z hz) (List.lt_irrefl _)
      · exact hz'
def SortedK (l : List ByteArray) : Prop := l.Pairwise fun a b => a.data.toList < b.data.toList
theorem SortedK.lists {l : List ByteArray} (h : SortedK l) : (l.map (·.data.toList)).Pairwise (· < ·) := List.pairwise_map.2 h
theorem lt_ne {a b : List UInt8} (h : a < b) : a ≠ b := fun e => List.lt_irrefl _ (e ▸ h)
theorem merge_sorted {ss : List (List UInt8)} {l : List ByteArray} (hs : SortedK l) (hp : ss.Perm (l.map (·.data.toList))) : ss.mergeSort (fun x y => decide (x ≤ y)) = l.map (·.data.toList) := by
  have hl := hs.lists
  have hm : (ss.mergeSort (fun x y => decide (x ≤ y))).Perm (l.map (·.data.toList)) := (List.mergeSort_perm _ _).trans hp
  have hnd : (ss.mergeSort (fun x y => decide (x ≤ y))).Nodup := hm.nodup_iff.2 (hl.imp fun h => lt_ne h)
  have hle : (ss.mergeSort (fun x y => decide (x ≤ y))).Pairwise (fun a b => decide (a ≤ b) = true) :=
    List.pairwise_mergeSort (fun a b c h1 h2 => by simp only [decide_eq_true_eq] at *; exact List.le_trans h1 h2) (fun a b => by simp only [Bool.or_eq_true, decide_eq_true_eq]; exact List.le_total a b) ss
  refine sorted_ext ((hle.and hnd).imp ?_) hl (fun x => hm.mem_iff)
  rintro a b ⟨h1, h2⟩
  rw [decide_eq_true_eq] at h1
  rcases O.bytes_total a b with h | h | h
  · exact h
  · exact absurd h h2
  · exact absurd h (List.not_lt.2 h1)
def StrIn (W : World) (s : Sl) (l : List ByteArray) : Prop := s.n = l.length ∧ (l = [] ∨ ∃ g cur, s.o = some ⟨g, 0, none⟩ ∧ W.heap[g]? = some (Go.Obj.cells cur 9 (0, 0)) ∧ cur.toList.take l.length = l.map .string)
theorem StrIn.stay {W V : World} {s : Sl} {l : List ByteArray} (h : StrIn W s l) (hk : ∀ (g : Nat) (cur : Array Value), W.heap[g]? = some (Go.Obj.cells cur 9 (0, 0)) → V.heap[g]? = some (Go.Obj.cells cur 9 (0, 0))) : StrIn V s l := by
  refine ⟨h.1, ?_⟩
  rcases h.2 with h1 | ⟨g, cur, h1, h2, h3⟩
  · exact .inl h1
  · exact .inr ⟨g, cur, h1, hk g cur h2, h3⟩
theorem StrIn.after {W V : World} {s : Sl} {l : List ByteArray} (h : StrIn W s l) (hb : Below W.heap.size W V) : StrIn V s l := h.stay fun g _ hg => (hb.block g (Array.getElem?_eq_some_iff.1 hg).1).trans hg
set_option maxRecDepth 100000 in
theorem keys_told (m : Nat) (w : World) (M l : List ByteArray) (hk : ∀ y ∈ M, y.size ≤ maxLen) (hlen : M.length ≤ 1000000) (hm : IsMap encS w m (keysN M)) (hst : Stamp w m) (hp : M.Perm l) (hs : SortedK l) : Calls Try.prog 45 #[.func (.func 65) #[] #[.pointer (some ⟨w.heap.size, 0, none⟩)]] (w.alloc (.cells #[.map (some m)] tN)) fun e w' => ∃ s, e = .returned (encSl s) ∧ StrIn w' s l ∧ Below w.heap.size w w' := by
  have hkl : (keysN M).length = M.length := by unfold keysN; rw [List.length_map]
  have hown := owns_any (m := keysN M) (fun p hp => by
    obtain ⟨y, hy, rfl⟩ := List.mem_map.1 hp
    exact hk y hy) (by rw [hkl]; exact Nat.le_trans hlen (by decide)) hm hst
  have hsz : Maps.size (datum (keysN M)) = M.length := by rw [datum_size, hkl]
  refine (callsIn_wide.1 (Try.slices_Sorted_keys_45_46 m _ _ _ w hown (by rw [hsz]; exact Nat.le_trans hlen (by decide)) (by rw [hsz]; omega))).mono ?_
  rintro e W2 ⟨v, ss, rfl, hS, hrow, -, hb⟩
  have hss : ss.Perm (l.map (·.data.toList)) := by
    refine (hS.trans (datum_keys (keysN M))).trans ?_
    unfold keysN
    rw [List.map_map]
    exact hp.map _
  have hms := merge_sorted hs hss
  have hll : ss.length = l.length := by rw [hss.length_eq, List.length_map]
  have hbb : Below w.heap.size w W2 := ((Below.refl _ _).alloc (Nat.le_refl _) _).trans (hb.mono (by simp))
  rcases hrow.2 with ⟨rfl, h0⟩ | ⟨g, cap, cur, rfl, hg, hh, -, -, -, ht⟩
  · have : l = [] := List.length_eq_zero_iff.1 (by rw [← hll]; exact h0)
    exact ⟨nilS, rfl, ⟨by rw [this]; rfl, .inl this⟩, hbb⟩
  · refine ⟨⟨some ⟨g, 0, none⟩, ss.length, cap⟩, rfl, ⟨hll, .inr ⟨g, cur, rfl, hh, ?_⟩⟩, hbb⟩
    rw [hms, Nat.mul_one, hll] at ht
    rw [ht]
    apply List.ext_getElem?
    intro i
    simp only [List.getElem?_map]
    cases l[i]? with
    | none => rfl
    | some y => simp
def cellsDV (x : DV) (s : Sl) : Array Value := #[.string x.name, .int .i64 x.size, .string x.zone, .int .u64 x.tag, .slice s.o s.n s.c]
def catW (L : List (DV × Sl)) : List Value := L.flatMap fun p => (cellsDV p.1 p.2).toList
theorem catW_length (L : List (DV × Sl)) : (catW L).length = L.length * 5 := by
  unfold catW
  induction L with
  | nil => rfl
  | cons z r ih =>
    rw [List.flatMap_cons, List.length_append, ih, List.length_cons, Nat.add_mul]
    show 5 + _ = _
    omega
theorem catW_at : ∀ (l : List (DV × Sl)) (i : Nat) (h : i < l.length) (j : Nat), j < 5 → (catW l)[i * 5 + j]? = (cellsDV l[i].1 l[i].2).toList[j]?
  | z :: r, 0, _, j, hj => by
    unfold catW
    rw [List.flatMap_cons, List.getElem?_append_left (by show 0 * 5 + j < 5; omega), Nat.zero_mul, Nat.zero_add]
    rfl
  | z :: r, i + 1, h, j, hj => by
    have ih := catW_at r i (by simpa using h) j hj
    unfold catW at ih ⊢
    rw [List.flatMap_cons, List.getElem?_append_right (by show 5 ≤ _; omega)]
    show (List.flatMap (fun p : DV × Sl => (cellsDV p.1 p.2).toList) r)[(i + 1) * 5 + j - 5]? = _
    rw [show (i + 1) * 5 + j - 5 = i * 5 + j by omega]
    exact ih
theorem catW_app (L K : List (DV × Sl)) : catW (L ++ K) = catW L ++ catW K := by
  unfold catW
  rw [List.flatMap_append]
theorem vol_rowy : Rowy 43 58 5 (.agg (cellsW zeroV E0 (.slice none 0 0))) := by
  obtain ⟨i, h1, h2, h3, h4⟩ := dv_info
  exact ⟨Try.underlying43, by rfl, by decide, i, h1, h2, h3, h4⟩
theorem one_cellsDV (x : DV) (s : Sl) : ∀ u ∈ (cellsDV x s).toList, u.oneCell' = true := fun u hu => by
  have h' : u ∈ [Value.string x.name, .int .i64 x.size, .string x.zone, .int .u64 x.tag, .slice s.o s.n s.c] := hu
  simp only [List.mem_cons, List.not_mem_nil, or_false] at h'
  rcases h' with rfl | rfl | rfl | rfl | rfl <;> rfl
def VOwn (W : World) (R : Nat) (s : Sl) (L : List (DV × Sl)) : Prop := W.ownsRow R 58 5 (encSl s) L.length (catW L) ∧ ∀ p ∈ L, StrIn W p.2 p.1.nodes
theorem VOwn.after {W V : World} {R : Nat} {s : Sl} {L : List (DV × Sl)} (h : VOwn W R s L) (hb : Below W.heap.size W V) : VOwn V R s L := ⟨own_after h.1 hb, fun p hp => (h.2 p hp).after hb⟩
theorem run_bdv (W : World) (x : DV) (s : Sl) : (Instr.buildSlice 43 1 #[(0, .agg (cellsDV x s))]).run Try.prog W = .ok (.slice (some ⟨W.heap.size, 0, none⟩) 1 1) (W.alloc (.cells (cellsDV x s) 58 (0, 0))) := by kernel_rfl
theorem add_rowsK {t e : TypeId} {k : Nat} {z : Value} (hr : Rowy t e k z) (R : Nat) (W : World) (v : Value) (n : Nat) (xs : List Value) (hown : W.ownsRow R e k v n xs) (g off m c : Nat) (news : List Value) (hl : news.length = m * k)
    (hnews : World.rangeAt W g off news) (h1 : ∀ u ∈ news, u.oneCell' = true) (hn : n + m ≤ 1000000) (hR : R ≤ W.heap.size) (ty : TypeId) :
    ∃ v' W', (Builtin.append_ #[t, t] ty #[v, .slice (some ⟨g, off, none⟩) m c]).run Try.prog W = .ok v' W' ∧ W'.ownsRow R e k v' (n + m) (xs ++ news) ∧ Below R W W' ∧ ∀ b, b < W.heap.size → (b < R ∨ ∀ cs f, W.heap[b]? ≠ some (.cells cs e f)) → W'.heap[b]? = W.heap[b]? := by
  obtain ⟨ht, hzs, hk, i, hi, hz, hs, hb⟩ := hr
  obtain ⟨v', W', h2, h3, h4, h5⟩ := run_append_own (P := Try.prog) W R t ty e i z k i.bytes ht hi hz hs rfl hzs hk v n xs hown ⟨g, off, none⟩ m c news hl (fun j u hu => by rw [Addr.add_mid]; exact hnews j u hu) h1 (by unfold maxLen; omega)
    (Nat.le_trans (Nat.mul_le_mul hn hb) (by decide)) hR
  have hg : ∀ r, v.ownBlock = some r → R ≤ r ∧ ∃ cs f, W.heap[r]? = some (.cells cs e f) := fun r e2 => by
    rcases hown.2 with ⟨rfl, -⟩ | ⟨g', cap, cur, rfl, hg, hh, -⟩
    · cases e2
    · cases e2
      exact ⟨hg, _, _, hh⟩
  refine ⟨v', W', h2, h3, (Below.refl R W).grown h4 hR (fun r e2 => (hg r e2).1), fun b hb hc => h4.block b hb (fun e2 => ?_)⟩
  obtain ⟨q1, cs, f, q2⟩ := hg b e2.symm
  rcases hc with hc | hc
  · omega
  · exact hc cs f q2
end Go.Proofs.Ytbgfccanbgpjiaa.O.I
namespace Go.Proofs.Ytbgfccanbgpjiaa.O.I
open Go Go.RowKit Go.Lib Go.Shelf RangeRow KM
attribute [local go_sem] Oper.semAt_some
def toldOf (NN : ByteArray → List ByteArray) {m : List (ByteArray × Vl)} (y : Q.El m) : DV := ⟨y.1.1, y.1.2.size, y.1.2.zone, y.1.2.tag, NN y.1.1⟩
def LstQ (c R : Nat) (NN : ByteArray → List ByteArray) {m : List (ByteArray × Vl)} (pre : List (Q.El m)) (W : World) : Prop := ∃ s L, Boxed W c 43 (encSl s) ∧ VOwn W R s L ∧ L.map (·.1) = pre.map (toldOf NN)
theorem LstQ.own {c R : Nat} {NN : ByteArray → List ByteArray} {m : List (ByteArray × Vl)} {pre : List (Q.El m)} {B : Nat} {W W' : World} {row : Option Nat} (hg : W.grownBy W' row) (hr : ∀ r, row = some r → B ≤ r ∧ ∃ o : Go.Obj, W.heap[r]? = some o ∧ o.isCells = false) (h : LstQ c R NN pre W) : LstQ c R NN pre W' := by
  obtain ⟨s, L, h1, h2, h3⟩ := h
  refine ⟨s, L, cells_own hg hr h1, ⟨⟨h2.1.1, ?_⟩, fun p hp => (h2.2 p hp).stay fun g cur hgc => cells_own hg hr hgc⟩, h3⟩
  rcases h2.1.2 with h4 | ⟨g, cap, cur, h4, h5, h6, h7⟩
  · exact .inl h4
  · exact .inr ⟨g, cap, cur, h4, h5, cells_own hg hr h6, h7⟩
theorem LstQ.after {c R : Nat} {NN : ByteArray → List ByteArray} {m : List (ByteArray × Vl)} {pre : List (Q.El m)} {W W' : World} (h : LstQ c R NN pre W) (hb : Below W.heap.size W W') : LstQ c R NN pre W' := by
  obtain ⟨s, L, h1, h2, h3⟩ := h
  exact ⟨s, L, (hb.block c h1.lt).trans h1, h2.after hb, h3⟩
theorem vols_seqA (n : Nat) (hn : n = 6) (m : List (ByteArray × Vl)) (hk : ∀ p ∈ m, p.1.size ≤ maxLen) (hlen : m.length ≤ 1000000) (hon : (m.map (·.1)).Nodup) (b mb lo hi N0 : Nat) (w : World) (hlh : hi ≤ w.heap.size ∧ ¬ (lo ≤ b ∧ b < hi) ∧ ¬ (lo ≤ mb ∧ mb < hi)) (hbox : Boxed w b tV (.map (some mb))) (hm : IsMap encS w mb (Q.held m)) (hst : Stamp w mb) :
    Seq Fence.wide n Try.prog 61 #[.pointer (some ⟨b, 0, none⟩)] (Q.encM m) lo hi N0 58 (Q.Whole m) (Q.Part m) m.length w := by
  by_cases hne : m = []
  · subst hne
    exact Q.vols_seq0 n hn b mb lo hi N0 w hbox hm
  · exact Q.vols_seqN n hn m hk hlen hne hon b mb lo hi N0 w hlh hbox hm hst
set_option maxRecDepth 100000 in
set_option maxHeartbeats 2000000 in
theorem volumes_any (d r v s n : Nat) (Ro So : List (ByteArray × Value)) (No : List (Tg × Value)) (m : List (ByteArray × Vl)) (NN : ByteArray → List ByteArray) (hk : ∀ p ∈ m, p.1.size ≤ maxLen) (hlen : m.length ≤ 1000000) (hon : (m.map (·.1)).Nodup) (w : World) (hd : DrAt w d r v s n Ro (Q.held m) So No)
    (hnode : ∀ p ∈ m, ∃ mb M, p.2.nodes = some mb ∧ IsMap encS w mb (keysN M) ∧ Stamp w mb ∧ M.Perm (NN p.1) ∧ SortedK (NN p.1) ∧ (∀ y ∈ M, y.size ≤ maxLen) ∧ M.length ≤ 1000000) :
    Calls Try.prog 22 #[.pointer (some ⟨d, 0, none⟩)] w fun e w' => ∃ s L xs, e = .returned (encSl s) ∧ VOwn w' w.heap.size s L ∧ L.map (·.1) = xs.map (toldOf (m := m) NN) ∧ Q.Whole m xs ∧ Below w.heap.size w w' := by
  have HD := Lib.hid hd
  have HND := Lib.hid hnode
  have HK := Lib.hid hk
  have HLN : Hid (m.length ≤ 1000000) := hlen
  have HON := Lib.hid hon
  have HLT := Lib.hid hd.lt
  have g1 := (hd.after ((Below.refl _ _).alloc (Nat.le_refl _) (.cells #[.slice none 0 0] 43))).box.c1
  have ef2 := enters_of (P := Try.prog) Try.func61 (by kernel_rfl) rfl
  clear hd hnode hk hlen hon
  refine callsIn_wide.1 (callsIn_of_wp_marks (n := 7) Try.func22 rfl trivial (wpIn_wide.2 ?_) rfl)
  simp only [Try.ntmps22, List.size_toArray, List.length_cons, List.length_nil, Nat.reduceAdd, Nat.reduceSub, Array.replicate_succ, Array.replicate_zero, List.push_toArray, List.append_toArray, List.nil_append, List.cons_append]
  go_wp2_with fail
  refine (inOrder_any _ _).mono ?_
  rintro e w' ⟨rfl, rfl⟩
  go_wp2_with fail
  refine wp_gen (fun V => V.heap.size = w.heap.size + 2 ∧ Boxed V w.heap.size 43 (.slice none 0 0) ∧ Boxed V (w.heap.size + 1) tV (.map (some v)) ∧ IsMap encS V v (Q.held m) ∧ Stamp V v ∧ Below w.heap.size w V) ?_ ?_
  · have hb2 := below2 w (.cells #[.slice none 0 0] 43) (.cells #[.map (some v)] tV)
    exact ⟨by simp, (heap2 w _ _).1, (heap2 w _ _).2, HD.out.vols.after hb2, HD.out.stamp.of_heap (hb2.block v HLT.out.2.2.1), hb2⟩
  clear g1 HD
  rintro W0 ⟨hs0, hl0, hbx, hvm, hst, hlw⟩
  have HS := Lib.hid hs0
  refine wpIn_wide.1 (RangeRow.range (F := Fence.wide) (n := 7) rfl (by omega) (gf := 61) (lb := #[.pointer (some ⟨w.heap.size + 1, 0, none⟩)]) rfl trivial ef2 (encs := Q.encM m) (lo := w.heap.size) (hi := w.heap.size + 1) (N0 := W0.heap.size) (E := 58) (by omega)
    (vols_seqA 6 rfl m HK.out HLN.out HON.out (w.heap.size + 1) v w.heap.size (w.heap.size + 1) W0.heap.size W0 ⟨by omega, by omega, by have := HLT.out; omega⟩ hbx hvm hst) (fun _ => rfl)
    (fun pre W => LstQ w.heap.size W0.heap.size NN pre W ∧ Below w.heap.size w W)
    (fun _ _ _ => False) ?_ ?_ ⟨⟨nilS, [], hl0, ⟨own_none _ _ _ _, fun p hp => (by cases hp)⟩, rfl⟩, hlw⟩
    (fun pre y a1 W => LstQ w.heap.size W0.heap.size NN pre W ∧ Below w.heap.size w W ∧ ∃ ob, W0.heap.size ≤ ob ∧ BoxV W ob y.1.2 ∧
      a1 = { tmps := #[.pointer (some ⟨d, 0, none⟩), undef, .slice none 0 0, .pointer (some ⟨w.heap.size, 0, none⟩), .string y.1.1, .pointer (some ⟨ob, 0, none⟩), undef, .pointer (some ⟨d, 0, none⟩), .bool false, .pointer (some ⟨d, 0, none⟩), .pointer (some ⟨d, 0, none⟩), .pointer (some ⟨d, 1, none⟩), .map (some v), .func (.func 61) #[] #[.pointer (some ⟨w.heap.size + 1, 0, none⟩)], .string y.1.1, encV y.1.2, undef, undef, undef, undef, undef, undef, undef, undef, undef, undef, undef, undef, undef, undef, undef, undef, undef, undef, undef], defers := [] })
    ?_ ?_ ?_ ?_ ?_)
  · intro pre A B row ⟨a, c⟩ hg hr
    exact ⟨a.own hg hr, ownFrom_below (β := Unit) (n₀ := w.heap.size) (B := W0.heap.size) (Nat.le_refl _) (by omega) () A B row c hg hr⟩
  · intro _ _ _ _ _ h
    exact h.elim
  · intro y a1 pre A B row ⟨a, c, ob, e, f, g⟩ hg hr
    exact ⟨a.own hg hr, ownFrom_below (β := Unit) (n₀ := w.heap.size) (B := W0.heap.size) (Nat.le_refl _) (by omega) () A B row c hg hr, ob, e, cells_own hg hr f, g⟩
  · intro lp pre y W ⟨a, c⟩ _ hsz
    obtain ⟨⟨k, x⟩, hmem⟩ := y
    obtain ⟨V, hst, hbx, hlw⟩ := boxV W zeroV rfl x
    have HA := Lib.hid a
    have HC := Lib.hid c
    have HBX := Lib.hid hbx
    have HWW := Lib.hid hlw
    clear a c hbx hlw
    simp only [Q.encM]
    gi_wp2_with (refine KnownIn.skip rfl (by intro c e; cases e) rfl (hst rfl rfl rfl) ?_)
    exact ⟨Stays.of_below HWW.out, HA.out.after HWW.out, HC.out.trans (HWW.out.mono HC.out.size), W.heap.size, hsz, HBX.out, rfl⟩
  · rintro lp pre ⟨⟨k, x⟩, hmem⟩ a1 W ⟨a, c, ob, hob, hbx, rfl⟩ hlen hsz
    obtain ⟨sl, L, hbl, hown, hL⟩ := a
    obtain ⟨mb, M, hmb, hM, hMs, hMp, hMo, hMz, hMl⟩ := HND.out (k, x) hmem
    have k3 : W.cell? ⟨ob, 3, none⟩ = some (.map x.nodes) := hbx.c3
    rw [show x.nodes = some mb from hmb] at k3
    have HC := Lib.hid c
    have HBX : Hid (BoxV W ob x) := hbx
    have HA := Lib.hid hbl
    have HO := Lib.hid hown
    have HLL := Lib.hid hL
    have hkt := keys_told mb W M (NN k) hMz hMl (hM.after c) (hMs.of_heap (c.block mb hM.lt)) hMp hMo
    have HKT : Hid (Calls Try.prog 45 #[.func (.func 65) #[] #[.pointer (some ⟨W.heap.size, 0, none⟩)]] (W.alloc (.cells #[.map (some mb)] tN)) fun e w' => ∃ s : Sl, e = .returned (.slice s.o s.n s.c) ∧ StrIn w' s (NN k) ∧ Below W.heap.size W w') := hkt
    have HLEN : Hid (L.length + 1 ≤ 1000000) := by
      have h1 := congrArg List.length hL
      rw [List.length_map, List.length_map] at h1
      have := HLN.out
      show _ ≤ _
      omega
    clear hkt c hbx hbl hown hL hmb hM hMs hMp hMo hMz hMl hlen
    gi_wp2_with fail
    refine ⟨trivial, ((callsIn_wide.2 (keys_map mb _)).inRound lp).mono ?_⟩
    rintro e w' ⟨rfl, rfl⟩
    gi_wp2_with fail
    refine ⟨trivial, ((callsIn_wide.2 HKT.out).inRound lp).mono ?_⟩
    rintro e W2 ⟨s2, rfl, hsi, hb⟩
    have hbx2 := HBX.out.after hb
    have c0 := hbx2.c0
    have c1 := hbx2.c1
    have c2 := hbx2.c2
    have hl2 : Boxed W2 w.heap.size 43 (encSl sl) := (hb.block _ HA.out.lt).trans HA.out
    obtain ⟨lv, hlv⟩ : ∃ lv, lv = encSl sl := ⟨_, rfl⟩
    have l0 : W2.cell? ⟨w.heap.size, 0, none⟩ = some lv := by rw [hlv]; exact hl2.cell
    have hba : Below W2.heap.size W2 (W2.alloc (.cells (cellsDV (⟨k, x.size, x.zone, x.tag, NN k⟩ : DV) s2) 58 (0, 0))) := (Below.refl _ _).alloc (Nat.le_refl _) _
    have ho2 := (HO.out.after hb).after hba
    have hW02 : W0.heap.size ≤ W2.heap.size := Nat.le_trans hsz hb.size
    obtain ⟨v', W3, hap, hown3, hb3, hst3⟩ := add_rowsK vol_rowy W0.heap.size _ (encSl sl) L.length (catW L) ho2.1 W2.heap.size 0 1 1 (cellsDV (⟨k, x.size, x.zone, x.tag, NN k⟩ : DV) s2).toList rfl
      (fun j u hu => by
        rw [Nat.zero_add, cell_of_row _ _ _ _ _ _ (heap_alloc_new W2 _), ← Array.getElem?_toList]
        exact hu) (one_cellsDV (⟨k, x.size, x.zone, x.tag, NN k⟩ : DV) s2) HLEN.out (by simp only [World.size_alloc]; omega) 43
    obtain ⟨s3, rfl, hs3⟩ := own_sl hown3
    rw [← hlv] at hap
    change (Builtin.append_ _ _ #[lv, _]).run Try.prog _ = .ok (.slice s3.o s3.n s3.c) W3 at hap
    have hl3 : Boxed W3 w.heap.size 43 (encSl sl) := (hst3 w.heap.size (by simp only [World.size_alloc]; have := hl2.lt; omega) (.inl (by have := HS.out; omega))).trans ((hba.block _ hl2.lt).trans hl2)
    have l3 : W3.cell? ⟨w.heap.size, 0, none⟩ = some lv := by rw [hlv]; exact hl3.cell
    have f3 := hl3.frozen
    have HN : Hid (Stays w.heap.size (w.heap.size + 1) W0.heap.size 58 W (W3.setCell ⟨w.heap.size, 0, none⟩ (encSl s3)) ∧ LstQ w.heap.size W0.heap.size NN (pre ++ [(⟨(k, x), hmem⟩ : Q.El m)]) (W3.setCell ⟨w.heap.size, 0, none⟩ (encSl s3)) ∧ Below w.heap.size w (W3.setCell ⟨w.heap.size, 0, none⟩ (encSl s3))) := by
      show _ ∧ _
      have hS := HS.out
      have hsz3 := hb3.size
      simp only [World.size_alloc] at hsz3
      have hlW := hl2.lt
      have keep : ∀ q, q < W.heap.size → q ≠ w.heap.size → (q < W0.heap.size ∨ ∀ cs f, W.heap[q]? ≠ some (.cells cs 58 f)) → (W3.setCell ⟨w.heap.size, 0, none⟩ (encSl s3)).heap[q]? = W.heap[q]? := fun q hq hne hor => by
        have e1 : (W2.alloc (.cells (cellsDV (⟨k, x.size, x.zone, x.tag, NN k⟩ : DV) s2) 58 (0, 0))).heap[q]? = W.heap[q]? := (hba.block q (by have := hb.size; omega)).trans (hb.block q hq)
        rw [heap_setCell_other _ ⟨w.heap.size, 0, none⟩ q _ hne, hst3 q (by simp only [World.size_alloc]; have := hb.size; omega) (hor.imp id (fun h cs f => by rw [e1]; exact h cs f)), e1]
      have str : ∀ (s' : Sl) (l : List ByteArray), StrIn W2 s' l → StrIn (W3.setCell ⟨w.heap.size, 0, none⟩ (encSl s3)) s' l := fun s' l h => h.stay fun g cur hg => by
        have hgl := (Array.getElem?_eq_some_iff.1 hg).1
        have hne : g ≠ w.heap.size := fun e => by
          rw [e, hl2] at hg
          injection hg with hg
          injection hg with _ h _
          exact absurd h (by decide)
        have e1 : (W2.alloc (.cells (cellsDV (⟨k, x.size, x.zone, x.tag, NN k⟩ : DV) s2) 58 (0, 0))).heap[g]? = some (.cells cur 9 (0, 0)) := (hba.block g hgl).trans hg
        rw [heap_setCell_other _ ⟨w.heap.size, 0, none⟩ g _ hne, hst3 g (by simp only [World.size_alloc]; omega) (.inr (fun cs f => by
          rw [e1]
          intro e
          injection e with e
          injection e with _ h _
          exact absurd h (by decide))), e1]
      refine ⟨⟨Nat.le_trans (show W.heap.size ≤ W3.heap.size by have := hb.size; omega) (by simp), fun q hq hx hor => keep q hq (fun e => hx ⟨by omega, by omega⟩) hor⟩, ⟨s3, L ++ [((⟨k, x.size, x.zone, x.tag, NN k⟩ : DV), s2)], hl3.set _, ⟨?_, ?_⟩, ?_⟩, ?_⟩
      · have h1 : W3.ownsRow W0.heap.size 58 5 (encSl s3) (L ++ [((⟨k, x.size, x.zone, x.tag, NN k⟩ : DV), s2)]).length (catW (L ++ [((⟨k, x.size, x.zone, x.tag, NN k⟩ : DV), s2)])) := by
          rw [List.length_append, catW_app, show catW [((⟨k, x.size, x.zone, x.tag, NN k⟩ : DV), s2)] = (cellsDV (⟨k, x.size, x.zone, x.tag, NN k⟩ : DV) s2).toList by unfold catW; simp]
          exact hown3
        refine ⟨h1.1, ?_⟩
        rcases h1.2 with h4 | ⟨g, cap, cur, h4, h5, h6, h7⟩
        · exact .inl h4
        · exact .inr ⟨g, cap, cur, h4, h5, (heap_setCell_other _ ⟨w.heap.size, 0, none⟩ g _ (by show g ≠ w.heap.size; omega)).trans h6, h7⟩
      · intro p hp
        rcases List.mem_append.1 hp with h | h
        · exact str _ _ ((HO.out.2 p h).after hb)
        · obtain rfl : p = ((⟨k, x.size, x.zone, x.tag, NN k⟩ : DV), s2) := by simpa using h
          exact str _ _ hsi
      · rw [List.map_append, List.map_append, HLL.out]
        rfl
      · have h1 : Below w.heap.size w W2 := HC.out.trans (hb.mono HC.out.size)
        exact ((h1.trans (hba.mono h1.size)).trans (hb3.mono (by omega))).setCell (Nat.le_refl _) _
    have HAP := Lib.hid hap
    have HBB := Lib.hid (run_bdv W2 (⟨k, x.size, x.zone, x.tag, NN k⟩ : DV) s2)
    clear hb hbx2 hl2 hl3 hb3 hst3 hown3 hs3 ho2 hba hW02 hsi HA HC HBX HO HLL HKT HLEN k3 hap hlv
    gi_wp2_with (first | (refine KnownIn.value rfl rfl (exec_slice HBB.out rfl rfl) ?_) | (gi_at_builtin; refine wpListIn_append_run rfl _ _ 43 rfl rfl rfl HAP.out ?_))
    exact ⟨HN.out.1, HN.out.2.1, HN.out.2.2⟩
  · rintro D xs W hD hWh ⟨⟨sl, L, hl, hown, hL⟩, c⟩ hK
    have l0 : W.cell? ⟨w.heap.size, 0, none⟩ = some (.slice sl.o sl.n sl.c) := hl.cell
    have HKK := Lib.hid hK
    have HC := Lib.hid c
    have HDD : Hid (w.heap.size < D) := by show _ < _; have := HS.out; omega
    have HWH := Lib.hid hWh
    have HRES : Hid (VOwn (W.putObj D (.deferred none)) w.heap.size sl L ∧ L.map (·.1) = xs.map (toldOf NN)) := by
      show _ ∧ _
      have ne : ∀ g cs t f, W.heap[g]? = some (Go.Obj.cells cs t f) → D ≠ g := fun g cs t f hg e => by
        subst e
        have hk1 : _ = _ := hK
        rw [hg] at hk1
        cases hk1
      refine ⟨⟨⟨hown.1.1, ?_⟩, fun p hp => (hown.2 p hp).stay fun g cur hg => (World.putObj_heap_other (by first | exact ne g _ _ _ hg | exact Ne.symm (ne g _ _ _ hg))).trans hg⟩, hL⟩
      rcases hown.1.2 with h4 | ⟨g, cap, cur, h4, h5, h6, h7⟩
      · exact .inl h4
      · exact .inr ⟨g, cap, cur, h4, by have := HS.out; omega, (World.putObj_heap_other (by first | exact ne g _ _ _ h6 | exact Ne.symm (ne g _ _ _ h6))).trans h6, h7⟩
    clear c hl hK hown hL hWh
    go_wp2
    refine leave_mark rfl HKK.out ⟨.slice sl.o sl.n sl.c, (results_tmp (t := 2) rfl _ _ _).trans rfl, sl, L, xs, rfl, HRES.out.1, HRES.out.2, HWH.out, ?_⟩
    have hdd := HDD.out
    exact HC.out.trans (belowK_b (w := w) (by omega) _ D _ _ (by omega) HKK.out rfl rfl)
  · intro _ _ _ _ _ _ h _
    exact h.elim
end Go.Proofs.Ytbgfccanbgpjiaa.O.I
