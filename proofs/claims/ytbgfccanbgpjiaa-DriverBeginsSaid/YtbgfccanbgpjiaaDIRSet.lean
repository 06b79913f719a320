/- Own work. -/
import Derived.Test.YtbgfccanbgpjiaaDJIDeed
namespace Go.Proofs.Ytbgfccanbgpjiaa.O.I
open Go Go.RowKit Go.Lib KM
attribute [local go_sem] Oper.semAt_some
theorem StrIn.at {W : World} {s : Sl} {l : List ByteArray} (h : StrIn W s l) {j : Nat} {y : ByteArray} (hj : l[j]? = some y) : ∃ g cur, s.o = some ⟨g, 0, none⟩ ∧ W.heap[g]? = some (Go.Obj.cells cur 9 (0, 0)) ∧ W.cell? ⟨g, j, none⟩ = some (.string y) := by
  have hlt := set_at hj
  rcases h.2 with h1 | ⟨g, cur, h1, h2, h3⟩
  · rw [h1] at hj
    cases hj
  · refine ⟨g, cur, h1, h2, ?_⟩
    rw [cell_of_row W g j _ _ _ h2, ← Array.getElem?_toList]
    have h4 := congrArg (fun l => l[j]?) h3
    simp only [List.getElem?_take, List.getElem?_map, hj, Option.map_some] at h4
    rw [if_pos hlt] at h4
    exact h4
theorem kind_ne {W : World} {g : Nat} {c1 : Array Value} {t1 t2 : TypeId} {f1 : Nat × Nat} (h : W.heap[g]? = some (Go.Obj.cells c1 t1 f1)) (hne : t1 ≠ t2) : ∀ cur, W.heap[g]? ≠ some (Go.Obj.cells cur t2 (0, 0)) := fun cur e => by
  rw [h] at e
  injection e with e
  injection e with _ e _
  exact hne e
theorem kind_neF {W : World} {g g2 : Nat} {c1 c2 : Array Value} {t1 t2 : TypeId} {f1 f2 : Nat × Nat} (h : W.heap[g]? = some (Go.Obj.cells c1 t1 f1)) (h2 : W.heap[g2]? = some (Go.Obj.cells c2 t2 f2)) (hne : t1 ≠ t2) : g ≠ g2 := fun e => by
  rw [e, h2] at h
  injection h with h
  injection h with _ e _
  exact hne e.symm
theorem StrIn.set {W : World} {s : Sl} {l : List ByteArray} (h : StrIn W s l) {g i : Nat} {c : Array Value} {t : TypeId} {f : Nat × Nat} (hg : W.heap[g]? = some (Go.Obj.cells c t f)) (hne : t ≠ 9) (v : Value) : StrIn (W.setCell ⟨g, i, none⟩ v) s l :=
  h.stay fun g2 _ h2 => (heap_setCell_other _ ⟨g, i, none⟩ g2 _ (fun e => kind_neF hg h2 hne e.symm)).trans h2
section
variable {R : Nat} {W : World} {q : Nat} {S : St} {rd : Rd} {L : List (DV × Sl)}
theorem RAt.vol_set (h : RAt R W q S rd L) {i : Nat} {x y : DV} {s s' : Sl} (hL : L[i]? = some (x, s)) {j : Nat} {v : Value} (hj : j < 5) (hc : (cellsDV y s').toList = (cellsDV x s).toList.set j v) (hs : StrIn W s' y.nodes) {g : Nat} {cur : Array Value} (hg : rd.v.o = some ⟨g, 0, none⟩) (hcur : W.heap[g]? = some (Go.Obj.cells cur 58 (0, 0))) :
    RAt R (W.setCell ⟨g, i * 5 + j, none⟩ v) q ⟨⟨S.core.zones, S.core.vols.set i y, S.core.snaps⟩, S.seen⟩ rd (L.set i (y, s')) := by
  have hi := set_at hL
  have hset := cat_set (fun p : DV × Sl => (cellsDV p.1 p.2).toList) 5 (fun _ => rfl) L i (x, s) hL j v (y, s') hj hc
  refine ⟨h.low, (heap_setCell_other _ ⟨g, i * 5 + j, none⟩ q _ (kind_neF h.box hcur (by decide))).trans h.box, own_other h.zones v (kind_ne hcur (by decide)), ⟨?_, fun p hp => ?_⟩, ?_, own_other h.snaps v (kind_ne hcur (by decide)), own_other h.seen v (kind_ne hcur (by decide)), ?_⟩
  · have h1 := own_set h.vols.1 hg (i := i * 5 + j) (by rw [catW_length]; omega) v
    rw [show (catW L).set (i * 5 + j) v = catW (L.set i (y, s')) from hset] at h1
    rw [List.length_set]
    exact h1
  · rcases List.mem_or_eq_of_mem_set hp with h1 | h1
    · exact (h.vols.2 p h1).set hcur (by decide) v
    · rw [h1]
      exact hs.set hcur (by decide) v
  · rw [List.map_set, h.told]
  · have := h.few
    simpa [List.length_set] using this
theorem RAt.zone_set (h : RAt R W q S rd L) {i : Nat} {z : Zn} (hz : S.core.zones[i]? = some z) (r : Int) {g : Nat} {cur : Array Value} (hg : rd.z.o = some ⟨g, 0, none⟩) (hcur : W.heap[g]? = some (Go.Obj.cells cur 42 (0, 0))) :
    RAt R (W.setCell ⟨g, i * 2 + 1, none⟩ (.int .i64 r)) q ⟨⟨S.core.zones.set i ⟨z.name, r⟩, S.core.vols, S.core.snaps⟩, S.seen⟩ rd L := by
  have hi := set_at hz
  have hset := cat_set (fun z : Zn => (cellsZ z).toList) 2 (fun _ => rfl) S.core.zones i z hz 1 (.int .i64 r) ⟨z.name, r⟩ (by decide) rfl
  refine ⟨h.low, (heap_setCell_other _ ⟨g, i * 2 + 1, none⟩ q _ (kind_neF h.box hcur (by decide))).trans h.box, ?_, ⟨own_other h.vols.1 _ (kind_ne hcur (by decide)), fun p hp => (h.vols.2 p hp).set hcur (by decide) _⟩, h.told, own_other h.snaps _ (kind_ne hcur (by decide)), own_other h.seen _ (kind_ne hcur (by decide)), ?_⟩
  · have h1 := own_set h.zones hg (i := i * 2 + 1) (by rw [catZ_length]; omega) (.int .i64 r)
    rw [show (catZ S.core.zones).set (i * 2 + 1) (.int .i64 r) = catZ (S.core.zones.set i ⟨z.name, r⟩) from hset] at h1
    show World.ownsRow _ _ _ _ _ (S.core.zones.set i ⟨z.name, r⟩).length _
    rw [List.length_set]
    exact h1
  · have := h.few
    simpa [List.length_set] using this
theorem RAt.vols_new (h : RAt R W q S rd L) {s : Sl} {K : List (DV × Sl)} (hv : VOwn W R s K) (hlen : K.length ≤ 64) : RAt R (W.setCell ⟨q, 1, none⟩ (.slice s.o s.n s.c)) q ⟨⟨S.core.zones, K.map (·.1), S.core.snaps⟩, S.seen⟩ ⟨rd.z, s, rd.s, rd.d⟩ K :=
  ⟨h.low, (heap_setCell_same _ q 1 _ _ (.slice s.o s.n s.c) h.box).trans rfl, own_other h.zones _ (kind_ne h.box (by decide)), ⟨own_other hv.1 _ (kind_ne h.box (by decide)), fun p hp => (hv.2 p hp).set h.box (by decide) _⟩, rfl, own_other h.snaps _ (kind_ne h.box (by decide)), own_other h.seen _ (kind_ne h.box (by decide)), by
    have := h.few
    refine ⟨this.1, ?_, this.2.2⟩
    rw [List.length_map]
    exact hlen⟩
theorem RAt.snaps_new (h : RAt R W q S rd L) {s : Sl} {K : List DS} (hv : SOwn W R s K) (hlen : K.length ≤ 64) : RAt R (W.setCell ⟨q, 2, none⟩ (.slice s.o s.n s.c)) q ⟨⟨S.core.zones, S.core.vols, K⟩, S.seen⟩ ⟨rd.z, rd.v, s, rd.d⟩ L :=
  ⟨h.low, (heap_setCell_same _ q 2 _ _ (.slice s.o s.n s.c) h.box).trans rfl, own_other h.zones _ (kind_ne h.box (by decide)), ⟨own_other h.vols.1 _ (kind_ne h.box (by decide)), fun p hp => (h.vols.2 p hp).set h.box (by decide) _⟩, h.told, own_other hv _ (kind_ne h.box (by decide)), own_other h.seen _ (kind_ne h.box (by decide)), by
    have := h.few
    exact ⟨this.1, this.2.1, hlen, this.2.2.2⟩⟩
theorem RAt.seen_new (h : RAt R W q S rd L) {s : Sl} {K : List (Cl × Rs)} (hv : W.ownsRow R 121 11 (encSl s) K.length (catE K)) (hlen : K.length ≤ 256) : RAt R (W.setCell ⟨q, 3, none⟩ (.slice s.o s.n s.c)) q ⟨S.core, K⟩ ⟨rd.z, rd.v, rd.s, s⟩ L :=
  ⟨h.low, (heap_setCell_same _ q 3 _ _ (.slice s.o s.n s.c) h.box).trans rfl, own_other h.zones _ (kind_ne h.box (by decide)), ⟨own_other h.vols.1 _ (kind_ne h.box (by decide)), fun p hp => (h.vols.2 p hp).set h.box (by decide) _⟩, h.told, own_other h.snaps _ (kind_ne h.box (by decide)), own_other hv _ (kind_ne h.box (by decide)), by
    have := h.few
    exact ⟨this.1, this.2.1, this.2.2.1, hlen⟩⟩
theorem RAt.eta (h : RAt R W q S rd L) {T : St} (e : T = S) : RAt R W q T rd L := e ▸ h
variable (h : RAt R W q S rd L)
include h
set_option maxRecDepth 100000 in
set_option maxHeartbeats 1000000 in
theorem rroom_any (k : ByteArray) : Calls Try.prog 33 #[.pointer (some ⟨q, 0, none⟩), .string k] W fun e w' => e = .returned (.tuple #[.int .i64 (((zoneOf S.core.zones k).map (·.room)).getD 0), .bool (zoneOf S.core.zones k).isSome]) ∧ W = w' := by
  have HZ := Lib.hid (rzone_any h k)
  have HZA := Lib.hid (fun i z => RAt.zone_at (i := i) (z := z) h)
  have c0 := h.box.c0
  have hfew : S.core.zones.length ≤ 16 := h.few.1
  go_enter Try.func33, Try.ntmps33
  go_wp2_with (fail)
  refine HZ.out.mono ?_
  rintro e w' ⟨v, rfl, hf, rfl⟩
  rcases hf with ⟨i, x, rfl, hx, hp, hn⟩ | ⟨rfl, hn⟩
  · have hz : zoneOf S.core.zones k = some x := found_find hx hp hn
    have HZZ := Lib.hid hz
    obtain ⟨g, cur, h1, h2, h3, h4, h5, h6, h7⟩ := HZA.out i x hx
    rw [h1, h7] at c0
    have hlt : (i : Int) < (S.core.zones.length : Int) := by omega
    clear h1 h2 h3 h4 h7 hx hp hn hz
    go_wp2
    go_ret2
    exact ⟨by rw [HZZ.out]; rfl, rfl⟩
  · have hz : zoneOf S.core.zones k = none := List.find?_eq_none.2 fun x hx => by simpa using hn x hx
    have HZZ := Lib.hid hz
    clear hn hz
    go_wp2
    go_ret2
    exact ⟨by rw [HZZ.out]; rfl, rfl⟩
def seenS (S : St) (vb : Int) (k : ByteArray) : Int := ((lastOf S.seen (snapV vb) k).map (·.1.num)).getD 0
set_option maxRecDepth 100000 in
set_option maxHeartbeats 1000000 in
theorem rseen_any (vb : Int) (k : ByteArray) : Calls Try.prog 38 #[.pointer (some ⟨q, 0, none⟩), .int .u8 vb, .string k] W fun e w' => e = .returned (.int .u64 (seenS S vb k)) ∧ W = w' := by
  have HZ := Lib.hid (rlast_any h vb k)
  have HZA := Lib.hid (fun i z => RAt.seen_at (i := i) (x := z) h)
  have c3 := h.box.c3
  have hfew : S.seen.length ≤ 256 := h.few.2.2.2
  unfold seenS
  go_enter Try.func38, Try.ntmps38
  go_wp2_with (fail)
  refine HZ.out.mono ?_
  rintro e w' ⟨v, rfl, hf, rfl⟩
  rcases hf with ⟨i, x, rfl, hx, hp, hn⟩ | ⟨rfl, hn⟩
  · have hz : lastOf S.seen (snapV vb) k = some x := found_find hx hp hn
    have HZZ := Lib.hid hz
    obtain ⟨g, cur, h1, h2, h3, h4, h5, h6⟩ := HZA.out i x hx
    rw [h1, h6] at c3
    have y2 : W.cell? ⟨g, i * 11 + 2, none⟩ = some (.int .u64 x.1.num) := h4 2 _ rfl
    have hlt : (i : Int) < (S.seen.length : Int) := by omega
    clear h1 h2 h3 h4 h6 hx hp hn hz
    go_wp2
    go_ret
    exact ⟨by rw [HZZ.out]; rfl, rfl⟩
  · have hz : lastOf S.seen (snapV vb) k = none := List.find?_eq_none.2 fun x hx => by simpa using hn x hx
    have HZZ := Lib.hid hz
    clear hn hz
    go_wp2
    go_ret
    exact ⟨by rw [HZZ.out]; rfl, rfl⟩
set_option maxRecDepth 100000 in
set_option maxHeartbeats 2000000 in
theorem rput_any (t node : ByteArray) (tag : Int) (hnd : ∀ k x, volOf S.core.vols k = some x → x.nodes.length ≤ 1000000) : Calls Try.prog 56 #[.pointer (some ⟨q, 0, none⟩), .string t, .string node, .int .u64 tag] W fun e w' => e = .returned (.int .i64 (putS S.core t node tag).1) ∧ (∃ L', RAt R w' q ⟨(putS S.core t node tag).2, S.seen⟩ rd L') ∧ DocStay R W w' := by
  have HZ := Lib.hid (rvol_any h t)
  have HZA := Lib.hid (fun i z => RAt.vol_at (i := i) (x := z) h)
  have HND := Lib.hid hnd
  have HH := Lib.hid h
  have c1 := h.box.c1
  have hfew : S.core.vols.length ≤ 64 := h.few.2.1
  clear hnd
  go_enter Try.func56, Try.ntmps56
  go_wp2_with (fail)
  refine HZ.out.mono ?_
  rintro e w' ⟨v, rfl, hf, rfl⟩
  clear HZ
  rcases hf with ⟨i, x, rfl, hx, hp, hn⟩ | ⟨rfl, hn⟩
  · have hz : volOf S.core.vols t = some x := found_find hx hp hn
    obtain ⟨g, cur, s, hL, h1, h2, h3, h4, h5, h6, h7⟩ := HZA.out i x hx
    rw [h1, h7] at c1
    have y4 : W.cell? ⟨g, i * 5 + 4, none⟩ = some (.slice s.o s.n s.c) := h4 4 _ rfl
    have y3 : W.cell? ⟨g, i * 5 + 3, none⟩ = some (.int .u64 x.tag) := h4 3 _ rfl
    have z3 : W.frozen? ⟨g, i * 5 + 3, none⟩ = false := frozen_of_row W g (i * 5 + 3) _ _ h3
    have hlt : (i : Int) < (S.core.vols.length : Int) := by omega
    have hsn : s.n = x.nodes.length := h5.1
    rw [hsn] at y4
    have hnl : x.nodes.length ≤ 1000000 := HND.out t x hz
    have HST := Lib.hid h5
    have HYES : Hid (memN node x.nodes = true → (0 : Int) = (putS S.core t node tag).1 ∧ (∃ L', RAt R (W.setCell ⟨g, i * 5 + 3, none⟩ (.int .u64 tag)) q ⟨(putS S.core t node tag).2, S.seen⟩ rd L') ∧ DocStay R W (W.setCell ⟨g, i * 5 + 3, none⟩ (.int .u64 tag))) := fun hm => by
      rw [show putS S.core t node tag = (0, ⟨S.core.zones, modV t (fun y => ⟨y.name, y.size, y.zone, tag, y.nodes⟩) S.core.vols, S.core.snaps⟩) by unfold putS; rw [hz]; exact if_pos hm]
      refine ⟨rfl, ⟨_, ((HH.out.vol_set (y := ⟨x.name, x.size, x.zone, tag, x.nodes⟩) (s' := s) hL (j := 3) (v := .int .u64 tag) (by decide) rfl h5 h1 h3).eta ?_)⟩, DocStay.refl.set h2 ⟨_, _, _, h3, .inr (.inr rfl)⟩⟩
      rw [modV_set (f := fun y => ⟨y.name, y.size, y.zone, tag, y.nodes⟩) hx (by simpa using hp) hn]
    have HNO : Hid (memN node x.nodes = false → (10 : Int) = (putS S.core t node tag).1 ∧ (∃ L', RAt R W q ⟨(putS S.core t node tag).2, S.seen⟩ rd L') ∧ DocStay R W W) := fun hm => by
      rw [show putS S.core t node tag = (10, S.core) by unfold putS; rw [hz]; exact if_neg (by rw [hm]; decide)]
      exact ⟨rfl, ⟨L, HH.out⟩, DocStay.refl⟩
    clear h1 h2 h3 h4 h5 h6 h7 hx hp hn hz hL hsn HND HZA HH
    go_wp2
    go_loopw [10] (fun iv wr => ∃ k : Nat, iv = .int .i64 (k : Int) ∧ k ≤ x.nodes.length ∧ (∀ j y, j < k → x.nodes[j]? = some y → decide (y = node) = false) ∧ W = wr) (fun iv _ => x.nodes.length - (RowKit.intOf iv).toNat)
    case atStart => exact ⟨0, rfl, Nat.zero_le _, fun j _ hj => absurd hj (by omega), rfl⟩
    case round =>
      obtain ⟨k, rfl, hk, hno, rfl⟩ := hrel
      have HN := Lib.hid hno
      clear hno
      by_cases hkl : k < x.nodes.length
      · have hkl' : (k : Int) < (x.nodes.length : Int) := by omega
        obtain ⟨y, hy⟩ : ∃ y, x.nodes[k]? = some y := ⟨_, List.getElem?_eq_getElem hkl⟩
        obtain ⟨g2, cur2, k1, -, k3⟩ := HST.out.at hy
        rw [k1] at y4
        have HY := Lib.hid hy
        clear k1 hy
        by_cases hyn : y = node
        · have e1 : (y.toList == node.toList) = true := by rw [hyn]; exact beq_self_eq_true _
          have HX := Lib.hid (HYES.out (by
            rw [memN_iff, ← hyn]
            exact List.mem_of_getElem? HY.out))
          clear HYES HNO
          go_wp2
          go_ret
          exact ⟨by rw [← HX.out.1]; rfl, HX.out.2.1, HX.out.2.2⟩
        · have e1 : (y.toList == node.toList) = false := by rw [eqB]; exact decide_eq_false hyn
          have HN2 : Hid (∀ j y, j < k + 1 → x.nodes[j]? = some y → decide (y = node) = false) := found_more (p := fun y => decide (y = node)) HY.out (by simpa using hyn) HN.out
          go_wp2
          go_roundw
          case rel => exact ⟨k + 1, by go_num, by omega, HN2.out, by first | trivial | rfl⟩
          case measure => simp [RowKit.intOf]; omega
      · have hkl' : ¬ (k : Int) < (x.nodes.length : Int) := by omega
        have HX := Lib.hid (HNO.out (by
          rw [Bool.eq_false_iff]
          intro hm
          rw [memN_iff] at hm
          obtain ⟨j, hj, hjy⟩ := List.getElem_of_mem hm
          have := HN.out j node (by omega) (by rw [List.getElem?_eq_getElem hj, hjy])
          simp at this))
        clear HYES HNO
        go_wp2
        go_ret
        exact ⟨by rw [← HX.out.1]; rfl, HX.out.2.1, HX.out.2.2⟩
  · have hz : volOf S.core.vols t = none := List.find?_eq_none.2 fun x hx => by simpa using hn x hx
    have HX : Hid ((5 : Int) = (putS S.core t node tag).1 ∧ (∃ L', RAt R W q ⟨(putS S.core t node tag).2, S.seen⟩ rd L') ∧ DocStay R W W) := by
      rw [show putS S.core t node tag = (5, S.core) by unfold putS; rw [hz]]
      exact ⟨rfl, ⟨L, HH.out⟩, DocStay.refl⟩
    clear hn hz HH HZA HND
    go_wp2
    go_ret
    exact ⟨by rw [← HX.out.1]; rfl, HX.out.2.1, HX.out.2.2⟩
end
end Go.Proofs.Ytbgfccanbgpjiaa.O.I
