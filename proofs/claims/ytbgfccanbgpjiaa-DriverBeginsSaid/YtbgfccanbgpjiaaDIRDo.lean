/- Own work. -/
import Derived.Test.YtbgfccanbgpjiaaDIRCrA
import Derived.Test.YtbgfccanbgpjiaaDIRCrB
import Derived.Test.YtbgfccanbgpjiaaDIRCrC
import Derived.Test.YtbgfccanbgpjiaaDJIRCr0
import Derived.Test.YtbgfccanbgpjiaaDIRCut
import Derived.Test.YtbgfccanbgpjiaaDJIRDoA
import Derived.Test.YtbgfccanbgpjiaaDIRDoP
import Derived.Test.YtbgfccanbgpjiaaDIRDoE
namespace Go.Proofs.Ytbgfccanbgpjiaa.O.I
open Go Go.RowKit Go.Lib KM
attribute [local go_sem] Oper.semAt_some
theorem not_of_false {α : Type} {p : α → Bool} {l : List α} (h : ∀ x ∈ l, p x = false) : l.find? p = none := List.find?_eq_none.2 fun x hx => by rw [h x hx]; exact Bool.false_ne_true
theorem delS_none {k : ByteArray} : ∀ {l : List DS}, snapOf l k = none → delS k l = l
  | [], _ => rfl
  | y :: r, h => by
    unfold snapOf at h
    have h1 := List.find?_eq_none.1 h y (.head _)
    have h2 : ¬ y.name = k := by simpa using h1
    unfold delS
    rw [if_neg h2, delS_none (List.find?_eq_none.2 fun x hx => List.find?_eq_none.1 h x (.tail _ hx))]
section
variable {R : Nat} {w : World} {q : Nat} {S : St} {rd : Rd} {L : List (DV × Sl)} (h : RAt R w q S rd L) (hR : R ≤ w.heap.size) (c : Cl)
include h hR
theorem rcreate_any (hcs : 0 ≤ c.size ∧ c.size ≤ 1125899906842624) : Calls Try.prog 88 #[.pointer (some ⟨q, 0, none⟩), encC c] w (RQ R w q (createC S.core c) S.seen) := by
  rcases first_or (fun x : DV => decide (x.name = c.target)) S.core.vols with ⟨i, x, hx, hp, hn⟩ | hno
  · exact rcreate_there h hR c i x hx (of_decide_eq_true hp) hn
  have hvn : volOf S.core.vols c.target = none := not_of_false hno
  rcases first_or (fun z : Zn => decide (z.name = c.zone)) S.core.zones with ⟨k, z, hz, hzp, hzk⟩ | hzno
  · by_cases hs : c.source = E0
    · exact rcreate_nothing h hR c k z hvn hz (of_decide_eq_true hzp) hzk hcs hs
    rcases first_or (fun x : DS => decide (x.name = c.source)) S.core.snaps with ⟨si, sx, hsx, hsp, hsn⟩ | hsno
    · exact rcreate_ofsnap h hR c k z hvn hz (of_decide_eq_true hzp) hzk hcs si sx hs hsx (of_decide_eq_true hsp) hsn
    rcases first_or (fun x : DV => decide (x.name = c.source)) S.core.vols with ⟨si, sx, hsx, hsp, hsn⟩ | hvno
    · exact rcreate_ofvol h hR c k z hvn hz (of_decide_eq_true hzp) hzk hcs si sx hs (not_of_false hsno) hsx (of_decide_eq_true hsp) hsn
    · exact rcreate_nosrc h hR c k z hvn hz (of_decide_eq_true hzp) hzk hs (not_of_false hsno) (not_of_false hvno)
  · exact rcreate_nozone h hR c hvn (not_of_false hzno)
structure DocOK (S : St) : Prop where
  zone : ∀ x ∈ S.core.vols, ∃ z, zoneOf S.core.zones x.zone = some z
  size : ∀ x ∈ S.core.vols, 0 ≤ x.size ∧ x.size ≤ 1125899906842624
  nodes : ∀ x ∈ S.core.vols, x.nodes.length ≤ 1000
theorem rdo_any (hcs : 0 ≤ c.size ∧ c.size ≤ 1125899906842624) (hvb : 1 ≤ c.verb ∧ c.verb ≤ 7) (hok : DocOK S) : Calls Try.prog 77 #[.pointer (some ⟨q, 0, none⟩), encC c] w (RQ R w q (perfC S.core c) S.seen) := by
  have hc : c.verb = 1 ∨ c.verb = 2 ∨ c.verb = 3 ∨ c.verb = 4 ∨ c.verb = 5 ∨ c.verb = 6 ∨ c.verb = 7 := by omega
  rcases hc with hv | hv | hv | hv | hv | hv | hv
  · rw [show perfC S.core c = createC S.core c by unfold perfC; rw [if_pos hv]]
    exact rdo_create h hR c _ hv fun V hA hV => rcreate_any hA hV c hcs
  · rw [show perfC S.core c = eraseC S.core c.target by unfold perfC; rw [if_neg (by omega), if_pos hv]]
    rcases first_or (fun x : DV => decide (x.name = c.target)) S.core.vols with ⟨i, x, hx, hp, hn⟩ | hno
    · have hxo : volOf S.core.vols c.target = some x := found_find hx hp hn
      have hpp := of_decide_eq_true hp
      by_cases hnd : x.nodes = []
      · obtain ⟨z0, hz0⟩ := hok.zone x (List.mem_of_getElem? hx)
        rcases first_or (fun z : Zn => decide (z.name = x.zone)) S.core.zones with ⟨k, z, hz, hzp, hzk⟩ | hzno
        · have hzz := of_decide_eq_true hzp
          have e : eraseC S.core c.target = (zeroR, ⟨S.core.zones.set k ⟨z.name, IntKind.i64.wrap (z.room + x.size)⟩, S.core.vols.take i ++ S.core.vols.drop (i + 1), S.core.snaps⟩) := by
            unfold eraseC
            rw [hxo]
            dsimp only
            rw [if_pos hnd, modZ_set hz hzz hzk, delV_erase hx hpp hn]
          rw [e]
          exact rdo_erase h hR c hv i x hx hpp hn hnd k z hz hzz hzk
        · rw [show zoneOf S.core.zones x.zone = none from not_of_false hzno] at hz0
          cases hz0
      · have e : eraseC S.core c.target = (errR 10, S.core) := by
          unfold eraseC
          rw [hxo]
          dsimp only
          rw [if_neg hnd]
        rw [e]
        exact rdo_erasebusy h hR c hv i x hx hpp hn hnd
    · have hvn : volOf S.core.vols c.target = none := not_of_false hno
      rw [show eraseC S.core c.target = (zeroR, S.core) by unfold eraseC; rw [hvn]]
      exact rdo_erasenone h hR c hv hvn
  · rw [show perfC S.core c = publishC S.core c.target c.node by unfold perfC; rw [if_neg (by omega), if_neg (by omega), if_pos hv]]
    rcases first_or (fun x : DV => decide (x.name = c.target)) S.core.vols with ⟨i, x, hx, hp, hn⟩ | hno
    · have hpp := of_decide_eq_true hp
      rw [show publishC S.core c.target c.node = (zeroR, ⟨S.core.zones, S.core.vols.set i ⟨x.name, x.size, x.zone, x.tag, withN c.node false x.nodes⟩, S.core.snaps⟩) by
        unfold publishC
        rw [show volOf S.core.vols c.target = some x from found_find hx hp hn]
        dsimp only
        rw [modV_set hx hpp hn]]
      exact rdo_pub h hR c hv i x hx hpp hn (hok.nodes x (List.mem_of_getElem? hx))
    · have hvn : volOf S.core.vols c.target = none := not_of_false hno
      rw [show publishC S.core c.target c.node = (errR 5, S.core) by unfold publishC; rw [hvn]]
      exact rdo_pubnone h hR c hv hvn
  · rw [show perfC S.core c = unpublishC S.core c.target c.node by unfold perfC; rw [if_neg (by omega), if_neg (by omega), if_neg (by omega), if_pos hv]]
    rcases first_or (fun x : DV => decide (x.name = c.target)) S.core.vols with ⟨i, x, hx, hp, hn⟩ | hno
    · have hpp := of_decide_eq_true hp
      rw [show unpublishC S.core c.target c.node = (zeroR, ⟨S.core.zones, S.core.vols.set i ⟨x.name, x.size, x.zone, x.tag, withoutN c.node x.nodes⟩, S.core.snaps⟩) by
        unfold unpublishC
        rw [show volOf S.core.vols c.target = some x from found_find hx hp hn]
        dsimp only
        rw [modV_set hx hpp hn]]
      exact rdo_unpub h hR c hv i x hx hpp hn (hok.nodes x (List.mem_of_getElem? hx))
    · have hvn : volOf S.core.vols c.target = none := not_of_false hno
      rw [show unpublishC S.core c.target c.node = (zeroR, S.core) by unfold unpublishC; rw [hvn]]
      exact rdo_unpubnone h hR c hv hvn
  · rw [show perfC S.core c = expandC S.core c.target c.size by unfold perfC; rw [if_neg (by omega), if_neg (by omega), if_neg (by omega), if_neg (by omega), if_pos hv]]
    rcases first_or (fun x : DV => decide (x.name = c.target)) S.core.vols with ⟨i, x, hx, hp, hn⟩ | hno
    · have hm := List.mem_of_getElem? hx
      exact rdo_expand h hR c _ hv _ (fun u hu => found_at hx hp hn hu) fun V hA hV => rexpand_some hA hV c i x hx (of_decide_eq_true hp) hn (hok.zone x hm) (hok.size x hm) hcs
    · exact rdo_expand h hR c _ hv _ (fun u hu => found_not hno hu) fun V hA hV => rexpand_none hA hV c (not_of_false hno)
  · rw [show perfC S.core c = cutC S.core c.target c.source by unfold perfC; rw [if_neg (by omega), if_neg (by omega), if_neg (by omega), if_neg (by omega), if_neg (by omega), if_pos hv]]
    exact rdo_cut h hR c _ hv fun V hA hV => rcut_any hA hV c
  · rw [show perfC S.core c = dropC S.core c.target by unfold perfC; rw [if_neg (by omega), if_neg (by omega), if_neg (by omega), if_neg (by omega), if_neg (by omega), if_neg (by omega)]]
    rcases first_or (fun x : DS => decide (x.name = c.target)) S.core.snaps with ⟨i, x, hx, hp, hn⟩ | hno
    · have hpp := of_decide_eq_true hp
      rw [show dropC S.core c.target = (zeroR, ⟨S.core.zones, S.core.vols, S.core.snaps.take i ++ S.core.snaps.drop (i + 1)⟩) by unfold dropC; rw [delS_erase hx hpp hn]]
      exact rdo_drop h hR c hv i x hx hpp hn
    · have hsn : snapOf S.core.snaps c.target = none := not_of_false hno
      rw [show dropC S.core c.target = (zeroR, S.core) by
        unfold dropC
        rw [delS_none hsn]]
      exact rdo_dropnone h hR c hv hsn
end
end Go.Proofs.Ytbgfccanbgpjiaa.O.I
