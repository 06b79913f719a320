/- Own work. -/
import Derived.Test.YtbgfccanbgpjiaaDJIRTop
import Derived.Test.YtbgfccanbgpjiaaDJIRRA
import Derived.Test.YtbgfccanbgpjiaaDJIRTold
import Derived.Test.YtbgfccanbgpjiaaDJISame
namespace Go.Proofs.Ytbgfccanbgpjiaa.O.I
open Go Go.RowKit Go.Lib KM
attribute [local go_sem] Oper.semAt_some
section
variable {a b c : Int} {S : St}
theorem Played.few (h : Played a b c 60 S) : ∀ x ∈ S.core.vols, x.nodes.length ≤ 1000 := fun x hx => Nat.le_trans (h.good.nodes x hx).2.1 (by decide)
variable {d r v s n B R q : Nat} {w : World}
theorem pvols {j : Nat} (hp : PAt d r v s n B w S) (hg : Good j S.core) (hj : j ≤ 1000) (hl : S.core.vols.length ≤ 1000) : Calls Try.prog 22 #[.pointer (some ⟨d, 0, none⟩)] w fun e w' => ∃ sl K, e = .returned (encSl sl) ∧ VOwn w' w.heap.size sl K ∧ K.map (·.1) = S.core.vols ∧ Below w.heap.size w w' :=
  volumes_model hp hg (by omega) (by omega)
theorem psnaps {j : Nat} (hp : PAt d r v s n B w S) (hg : Good j S.core) (hl : S.core.snaps.length ≤ 1000) : Calls Try.prog 23 #[.pointer (some ⟨d, 0, none⟩)] w fun e w' => ∃ sl, e = .returned (encSl sl) ∧ SOwn w' w.heap.size sl S.core.snaps ∧ Below w.heap.size w w' :=
  snaps_model hp hg (by omega)
def Few (S : St) : Prop := S.core.vols.length ≤ 64 ∧ S.core.snaps.length ≤ 64
theorem Both.few (h : Both d r v s n B R q w S) : Few S := by
  obtain ⟨-, rd, L, h2⟩ := h
  exact ⟨h2.few.2.1, h2.few.2.2.1⟩
theorem Both.drew (h : Both d r v s n B R q w S) : Both d r v s n B R q w.drew S := by
  obtain ⟨h1, rd, L, h2⟩ := h
  exact ⟨h1.drew, rd, L, h2.drew⟩
end
theorem sameV_of {s1 s2 : Sl} {K1 K2 : List DVS} {R1 R2 : Nat} {w : World} {l : List DV} (h1 : VOwn w R1 s1 K1) (h2 : VOwn w R2 s2 K2) (e1 : K1.map (·.1) = l) (e2 : K2.map (·.1) = l) (hn : l.length ≤ 1000) (hnd : ∀ x ∈ l, x.nodes.length ≤ 1000) :
    Calls Try.prog 34 #[encSl s1, encSl s2] w fun e w' => e = .returned (.bool true) ∧ Below w.heap.size w w' :=
  sameV_any s1 s2 K1 K2 R1 R2 w h1 h2 (e1.trans e2.symm) (by rw [← e1, List.length_map] at hn; exact hn) (fun p hp => hnd p.1 (by rw [← e1]; exact List.mem_map.2 ⟨p, hp, rfl⟩))
section
variable {a b c : Int} {S : St} {d r v s n B d2 r2 v2 s2 n2 B2 : Nat} {w : World}
set_option maxRecDepth 100000 in
set_option maxHeartbeats 8000000 in
theorem alike_any (hp : PAt d r v s n B w S) (hq : PAt d2 r2 v2 s2 n2 B2 w S) (hg : Good 61 S.core) (hf : S.core.vols.length ≤ 65 ∧ S.core.snaps.length ≤ 65) :
    Calls Try.prog 26 #[.pointer (some ⟨d, 0, none⟩), .pointer (some ⟨d2, 0, none⟩)] w fun e w' => e = .returned (.bool true) ∧ Below w.heap.size w w' := by
  have HP := Lib.hid hp
  have HQ := Lib.hid hq
  have HG := Lib.hid hg
  have HF := Lib.hid hf
  have HN : Hid (∀ x ∈ S.core.vols, x.nodes.length ≤ 1000) := fun x hx => Nat.le_trans (hg.nodes x hx).2.1 (by decide)
  obtain ⟨za, hza⟩ : ∃ x, ((zoneOf S.core.zones ⟨#[97]⟩).map (·.room)).getD 0 = x := ⟨_, rfl⟩
  obtain ⟨ta, hta⟩ : ∃ x, (zoneOf S.core.zones ⟨#[97]⟩).isSome = x := ⟨_, rfl⟩
  obtain ⟨zb, hzb⟩ : ∃ x, ((zoneOf S.core.zones ⟨#[98]⟩).map (·.room)).getD 0 = x := ⟨_, rfl⟩
  obtain ⟨tb, htb⟩ : ∃ x, (zoneOf S.core.zones ⟨#[98]⟩).isSome = x := ⟨_, rfl⟩
  obtain ⟨zc, hzc⟩ : ∃ x, ((zoneOf S.core.zones ⟨#[99]⟩).map (·.room)).getD 0 = x := ⟨_, rfl⟩
  obtain ⟨tc, htc⟩ : ∃ x, (zoneOf S.core.zones ⟨#[99]⟩).isSome = x := ⟨_, rfl⟩
  have HA : Hid (∀ {D R V SS N BB : Nat} {W : World}, PAt D R V SS N BB W S → Calls Try.prog 21 #[.pointer (some ⟨D, 0, none⟩), .string ⟨#[97]⟩] W fun e w' => e = .returned (.tuple #[.int .i64 za, .bool ta]) ∧ Below W.heap.size W w') := fun h => hza ▸ hta ▸ room_model h ⟨#[97]⟩
  have HBR : Hid (∀ {D R V SS N BB : Nat} {W : World}, PAt D R V SS N BB W S → Calls Try.prog 21 #[.pointer (some ⟨D, 0, none⟩), .string ⟨#[98]⟩] W fun e w' => e = .returned (.tuple #[.int .i64 zb, .bool tb]) ∧ Below W.heap.size W w') := fun h => hzb ▸ htb ▸ room_model h ⟨#[98]⟩
  have HC : Hid (∀ {D R V SS N BB : Nat} {W : World}, PAt D R V SS N BB W S → Calls Try.prog 21 #[.pointer (some ⟨D, 0, none⟩), .string ⟨#[99]⟩] W fun e w' => e = .returned (.tuple #[.int .i64 zc, .bool tc]) ∧ Below W.heap.size W w') := fun h => hzc ▸ htc ▸ room_model h ⟨#[99]⟩
  clear hp hq hg hf hza hta hzb htb hzc htc
  go_enter Try.func26, Try.ntmps26
  go_wp2_with (fail)
  refine (HA.out HP.out).mono ?_
  rintro e W1 ⟨rfl, hb⟩
  replace HP := Lib.hid (HP.out.after hb)
  replace HQ := Lib.hid (HQ.out.after hb)
  have HW := Lib.hid hb
  clear hb
  go_wp2_with (fail)
  refine (HA.out HQ.out).mono ?_
  rintro e W2 ⟨rfl, hb⟩
  replace HP := Lib.hid (HP.out.after hb)
  replace HQ := Lib.hid (HQ.out.after hb)
  replace HW := Lib.hid (HW.out.trans (hb.mono HW.out.size))
  clear hb
  go_wp2_with (fail)
  refine (HBR.out HP.out).mono ?_
  rintro e W3 ⟨rfl, hb⟩
  replace HP := Lib.hid (HP.out.after hb)
  replace HQ := Lib.hid (HQ.out.after hb)
  replace HW := Lib.hid (HW.out.trans (hb.mono HW.out.size))
  clear hb
  go_wp2_with (fail)
  refine (HBR.out HQ.out).mono ?_
  rintro e W4 ⟨rfl, hb⟩
  replace HP := Lib.hid (HP.out.after hb)
  replace HQ := Lib.hid (HQ.out.after hb)
  replace HW := Lib.hid (HW.out.trans (hb.mono HW.out.size))
  clear hb
  go_wp2_with (fail)
  refine (HC.out HP.out).mono ?_
  rintro e W5 ⟨rfl, hb⟩
  replace HP := Lib.hid (HP.out.after hb)
  replace HQ := Lib.hid (HQ.out.after hb)
  replace HW := Lib.hid (HW.out.trans (hb.mono HW.out.size))
  clear hb
  go_wp2_with (fail)
  refine (HC.out HQ.out).mono ?_
  rintro e W6 ⟨rfl, hb⟩
  replace HP := Lib.hid (HP.out.after hb)
  replace HQ := Lib.hid (HQ.out.after hb)
  replace HW := Lib.hid (HW.out.trans (hb.mono HW.out.size))
  clear hb HA HBR HC
  go_wp2_with (fail)
  refine (pvols HP.out HG.out (by decide) (by have := HF.out.1; omega)).mono ?_
  rintro e W7 ⟨sl1, K1, rfl, hv1, hK1, hb⟩
  replace HP := Lib.hid (HP.out.after hb)
  replace HQ := Lib.hid (HQ.out.after hb)
  replace HW := Lib.hid (HW.out.trans (hb.mono HW.out.size))
  have HV1 := Lib.hid hv1
  have HK1 := Lib.hid hK1
  clear hb hv1 hK1
  go_wp2_with (fail)
  refine (pvols HQ.out HG.out (by decide) (by have := HF.out.1; omega)).mono ?_
  rintro e W8 ⟨sl2, K2, rfl, hv2, hK2, hb⟩
  replace HP := Lib.hid (HP.out.after hb)
  replace HQ := Lib.hid (HQ.out.after hb)
  replace HW := Lib.hid (HW.out.trans (hb.mono HW.out.size))
  have HSV := Lib.hid (sameV_of (HV1.out.after hb) hv2 HK1.out hK2 (by have := HF.out.1; omega) HN.out)
  clear hb hv2 hK2 HV1 HK1
  go_wp2_with (fail)
  refine HSV.out.mono ?_
  rintro e W9 ⟨rfl, hb⟩
  replace HP := Lib.hid (HP.out.after hb)
  replace HQ := Lib.hid (HQ.out.after hb)
  replace HW := Lib.hid (HW.out.trans (hb.mono HW.out.size))
  clear hb HSV
  go_wp2_with (fail)
  refine (psnaps HP.out HG.out (by have := HF.out.2; omega)).mono ?_
  rintro e W10 ⟨sl3, rfl, hs1, hb⟩
  replace HQ := Lib.hid (HQ.out.after hb)
  replace HW := Lib.hid (HW.out.trans (hb.mono HW.out.size))
  have HS1 := Lib.hid hs1
  clear hb hs1 HP
  go_wp2_with (fail)
  refine (psnaps HQ.out HG.out (by have := HF.out.2; omega)).mono ?_
  rintro e W11 ⟨sl4, rfl, hs2, hb⟩
  replace HW := Lib.hid (HW.out.trans (hb.mono HW.out.size))
  have HSS := Lib.hid (sameS_any _ _ _ _ _ W11 (SOwn.after HS1.out hb) hs2 (by have := HF.out.2; omega))
  clear hb hs2 HQ HS1
  go_wp2_with (fail)
  refine HSS.out.mono ?_
  rintro e W12 ⟨rfl, hb⟩
  replace HW := Lib.hid (HW.out.trans (hb.mono HW.out.size))
  clear hb HSS
  go_wp2
  go_ret
  exact ⟨by first | rfl | simp, HW.out⟩
end
section
variable {a b c : Int} {S : St} {d r v s n B R q : Nat} {w : World}
theorem pseen (hp : PAt d r v s n B w S) (vb : Int) (k : ByteArray) {x : Int} (hx : seenN S vb k = x) : Calls Try.prog 27 #[.pointer (some ⟨d, 0, none⟩), .int .u8 vb, .string k] w fun e w' => e = .returned (.int .u64 x) ∧ Below w.heap.size w w' := hx ▸ seen_model hp vb k
theorem rseen (hq : ∃ rd L, RAt R w q S rd L) (vb : Int) (k : ByteArray) {x : Int} (hx : seenN S vb k = x) : Calls Try.prog 38 #[.pointer (some ⟨q, 0, none⟩), .int .u8 vb, .string k] w fun e w' => e = .returned (.int .u64 x) ∧ Below w.heap.size w w' := by
  obtain ⟨rd, L, h⟩ := hq
  refine (rseen_any h vb k).mono ?_
  rintro e w' ⟨rfl, rfl⟩
  exact ⟨by rw [← hx]; rfl, Below.refl _ _⟩
theorem rroom (hq : ∃ rd L, RAt R w q S rd L) (k : ByteArray) : Calls Try.prog 33 #[.pointer (some ⟨q, 0, none⟩), .string k] w fun e w' => e = .returned (.tuple #[.int .i64 (((zoneOf S.core.zones k).map (·.room)).getD 0), .bool (zoneOf S.core.zones k).isSome]) ∧ Below w.heap.size w w' := by
  obtain ⟨rd, L, h⟩ := hq
  refine (rroom_any h k).mono ?_
  rintro e w' ⟨rfl, rfl⟩
  exact ⟨rfl, Below.refl _ _⟩
theorem rvols (hq : ∃ rd L, RAt R w q S rd L) (hnd : ∀ x ∈ S.core.vols, x.nodes.length ≤ 1000) : Calls Try.prog 35 #[.pointer (some ⟨q, 0, none⟩)] w fun e w' => ∃ s K, e = .returned (encSl s) ∧ VOwn w' w.heap.size s K ∧ K.map (·.1) = S.core.vols ∧ Below w.heap.size w w' := by
  obtain ⟨rd, L, h⟩ := hq
  exact rvolumes_any h hnd
theorem rsnaps (hq : ∃ rd L, RAt R w q S rd L) : Calls Try.prog 37 #[.pointer (some ⟨q, 0, none⟩)] w fun e w' => ∃ s, e = .returned (encSl s) ∧ SOwn w' w.heap.size s S.core.snaps ∧ Below w.heap.size w w' := by
  obtain ⟨rd, L, h⟩ := hq
  exact rsnaps_any h
def TV (V : World) (R : Nat) (sl : Sl) (K : List DVS) (l : List DV) : Prop := VOwn V R sl K ∧ K.map (·.1) = l
theorem TV.after {V W : World} {R : Nat} {sl : Sl} {K : List DVS} {l : List DV} (h : TV V R sl K l) (hb : Below V.heap.size V W) : TV W R sl K l := ⟨h.1.after hb, h.2⟩
set_option maxRecDepth 100000 in
set_option maxHeartbeats 16000000 in
theorem same_any {j : Nat} (h : Both d r v s n B R q w S) (hg : Good j S.core) (hj : j ≤ 1000) (x : Cl) :
    Calls Try.prog 16 #[.pointer (some ⟨d, 0, none⟩), .pointer (some ⟨q, 0, none⟩), encC x] w fun e w' => e = .returned (.bool true) ∧ Below w.heap.size w w' := by
  have HF := Lib.hid h.few
  have HH := Lib.hid h
  have HG := Lib.hid hg
  have HJ := Lib.hid hj
  have HN : Hid (∀ x ∈ S.core.vols, x.nodes.length ≤ 1000) := fun x hx => Nat.le_trans (hg.nodes x hx).2.1 hj
  obtain ⟨za, hza⟩ : ∃ y, ((zoneOf S.core.zones x.zone).map (·.room)).getD 0 = y := ⟨_, rfl⟩
  obtain ⟨ta, hta⟩ : ∃ y, (zoneOf S.core.zones x.zone).isSome = y := ⟨_, rfl⟩
  obtain ⟨sn, hsn⟩ : ∃ y, seenN S x.verb x.target = y := ⟨_, rfl⟩
  have HZ1 : Hid (∀ {W : World}, Both d r v s n B R q W S → Calls Try.prog 21 #[.pointer (some ⟨d, 0, none⟩), .string x.zone] W fun e w' => e = .returned (.tuple #[.int .i64 za, .bool ta]) ∧ Below W.heap.size W w') := fun h => hza ▸ hta ▸ room_model h.p x.zone
  have HZ2 : Hid (∀ {W : World}, Both d r v s n B R q W S → Calls Try.prog 33 #[.pointer (some ⟨q, 0, none⟩), .string x.zone] W fun e w' => e = .returned (.tuple #[.int .i64 za, .bool ta]) ∧ Below W.heap.size W w') := fun h => hza ▸ hta ▸ rroom h.q x.zone
  have HSN := Lib.hid hsn
  clear h hg hj hza hta hsn
  rw [show encC x = .agg (cellsC x) from rfl]
  go_enter Try.func16, Try.ntmps16
  go_upto_region 1 with (fail)
  refine wp_gen (fun V => BoxC V w.heap.size x ∧ Below w.heap.size w V) ⟨heap_alloc_new w _, (Below.refl _ _).alloc (Nat.le_refl _) _⟩ ?_
  rintro V1 ⟨hx1, hw1⟩
  have HX := Lib.hid hx1
  replace HH := Lib.hid (HH.out.after hw1)
  have HW := Lib.hid hw1
  have c4 := hx1.c4
  clear hx1 hw1
  go_wp2_with (fail)
  refine (HZ1.out HH.out).mono ?_
  rintro e W1 ⟨rfl, hb⟩
  replace HX := Lib.hid (HX.out.after hb)
  replace HH := Lib.hid (HH.out.after hb)
  replace HW := Lib.hid (HW.out.trans (hb.mono HW.out.size))
  clear hb c4
  have c4 := HX.out.c4
  go_wp2_with (fail)
  refine (HZ2.out HH.out).mono ?_
  rintro e W2 ⟨rfl, hb⟩
  replace HX := Lib.hid (HX.out.after hb)
  have HB := Lib.hid (HH.out.after hb)
  replace HW := Lib.hid (HW.out.trans (hb.mono HW.out.size))
  clear hb c4 HH HZ1 HZ2
  go_upto_region 3 with (fail)
  refine wp_region_held_drew (S := fun V => Both d r v s n B R q V S ∧ BoxC V w.heap.size x ∧ Below w.heap.size w V) (by kernel_rfl) ⟨HB.out.drew, HX.out, HW.out.drew⟩ (fun _ => ?_)
  refine HeldBy.gen (fun V => Both d r v s n B R q V S ∧ BoxC V w.heap.size x ∧ Below w.heap.size w V) ⟨HB.out.drew, HX.out, HW.out.drew⟩ ?_
  clear HB HX HW
  rintro U0 HS
  refine HeldBy.tn (i := 0) rfl HS ?_
  refine HeldBy.tn (i := 2) rfl HS ?_
  refine HeldBy.callE (i := 1) (a' := fun _ => _) rfl (by kernel_rfl) (by rfl) (by first | (go_simp; done) | (go_simp; first | exact ⟨rfl, rfl⟩ | rfl)) (fun _ => by first | (go_simp; rfl) | (go_simp; done)) ?_
  refine (pvols HS.1.p HG.out HJ.out (by have := HF.out.1; omega)).mono ?_
  rintro e U1 ⟨s1, K1, he, hv1, hK1, hb⟩
  replace HS : Both d r v s n B R q U1 S ∧ BoxC U1 w.heap.size x ∧ Below w.heap.size w U1 := ⟨HS.1.after hb, HS.2.1.after hb, HS.2.2.trans (hb.mono HS.2.2.size)⟩
  refine ⟨_, he, HS, ?_⟩
  clear he hb
  refine HeldBy.callE (i := 3) (a' := fun _ => _) rfl (by kernel_rfl) (by rfl) (by first | (go_simp; done) | (go_simp; first | exact ⟨rfl, rfl⟩ | rfl)) (fun _ => by first | (go_simp; rfl) | (go_simp; done)) ?_
  refine (rvols HS.1.q HN.out).mono ?_
  rintro e U2 ⟨s2, K2, he, hv2, hK2, hb⟩
  replace HS : Both d r v s n B R q U2 S ∧ BoxC U2 w.heap.size x ∧ Below w.heap.size w U2 := ⟨HS.1.after hb, HS.2.1.after hb, HS.2.2.trans (hb.mono HS.2.2.size)⟩
  replace hv1 := hv1.after hb
  refine ⟨_, he, HS, ?_⟩
  clear he hb
  refine HeldBy.call (i := 4) (v := .bool true) rfl (by kernel_rfl) (by rfl) (by first | (go_simp; done) | (go_simp; first | exact ⟨rfl, rfl⟩ | rfl)) (by first | (go_simp; rfl) | (go_simp; done)) ?_
  refine (sameV_of hv1 hv2 hK1 hK2 (by have := HF.out.1; omega) HN.out).mono ?_
  rintro e U3 ⟨he, hb⟩
  replace HS : Both d r v s n B R q U3 S ∧ BoxC U3 w.heap.size x ∧ Below w.heap.size w U3 := ⟨HS.1.after hb, HS.2.1.after hb, HS.2.2.trans (hb.mono HS.2.2.size)⟩
  refine ⟨he, HS, ?_⟩
  clear he hb hv1 hv2 hK1 hK2
  refine HeldBy.tn (i := 5) rfl HS ?_
  refine HeldBy.tn (i := 6) rfl HS ?_
  refine HeldBy.tn (i := 8) rfl HS ?_
  refine HeldBy.callE (i := 7) (a' := fun _ => _) rfl (by kernel_rfl) (by rfl) (by first | (go_simp; done) | (go_simp; first | exact ⟨rfl, rfl⟩ | rfl)) (fun _ => by first | (go_simp; rfl) | (go_simp; done)) ?_
  refine (psnaps HS.1.p HG.out (by have := HF.out.2; omega)).mono ?_
  rintro e U4 ⟨s3, he, hs3, hb⟩
  replace HS : Both d r v s n B R q U4 S ∧ BoxC U4 w.heap.size x ∧ Below w.heap.size w U4 := ⟨HS.1.after hb, HS.2.1.after hb, HS.2.2.trans (hb.mono HS.2.2.size)⟩
  refine ⟨_, he, HS, ?_⟩
  clear he hb
  refine HeldBy.callE (i := 9) (a' := fun _ => _) rfl (by kernel_rfl) (by rfl) (by first | (go_simp; done) | (go_simp; first | exact ⟨rfl, rfl⟩ | rfl)) (fun _ => by first | (go_simp; rfl) | (go_simp; done)) ?_
  refine (rsnaps HS.1.q).mono ?_
  rintro e U5 ⟨s4, he, hs4, hb⟩
  replace HS : Both d r v s n B R q U5 S ∧ BoxC U5 w.heap.size x ∧ Below w.heap.size w U5 := ⟨HS.1.after hb, HS.2.1.after hb, HS.2.2.trans (hb.mono HS.2.2.size)⟩
  replace hs3 := SOwn.after hs3 hb
  refine ⟨_, he, HS, ?_⟩
  clear he hb
  refine HeldBy.call (i := 10) (v := .bool true) rfl (by kernel_rfl) (by rfl) (by first | (go_simp; done) | (go_simp; first | exact ⟨rfl, rfl⟩ | rfl)) (by first | (go_simp; rfl) | (go_simp; done)) ?_
  refine (sameS_any _ _ _ _ _ U5 hs3 hs4 (by have := HF.out.2; omega)).mono ?_
  rintro e U6 ⟨he, hb⟩
  replace HS : Both d r v s n B R q U6 S ∧ BoxC U6 w.heap.size x ∧ Below w.heap.size w U6 := ⟨HS.1.after hb, HS.2.1.after hb, HS.2.2.trans (hb.mono HS.2.2.size)⟩
  refine ⟨he, HS, ?_⟩
  clear he hb hs3 hs4
  refine HeldBy.tn (i := 11) rfl HS ?_
  refine HeldBy.tn (i := 12) rfl HS ?_
  refine HeldBy.tn (i := 13) rfl HS ?_
  refine HeldBy.tn (i := 14) rfl HS ?_
  refine HeldBy.tk (i := 15) (v := .bool true) rfl (fun _ _ => by first | (go_simp; rfl) | (go_simp; done) | (go_simp; simp)) HS ?_
  refine HeldBy.tn (i := 16) rfl HS ?_
  refine HeldBy.tn (i := 17) rfl HS ?_
  refine HeldBy.tn (i := 18) rfl HS ?_
  refine HeldBy.tn (i := 19) rfl HS ?_
  refine HeldBy.tk (i := 20) (v := .bool true) rfl (fun _ _ => by first | (go_simp; rfl) | (go_simp; done) | (go_simp; simp)) HS ?_
  refine HeldBy.tn (i := 21) rfl HS ?_
  refine HeldBy.tn (i := 22) rfl HS ?_
  refine HeldBy.tn (i := 23) rfl HS ?_
  refine HeldBy.tn (i := 24) rfl HS ?_
  refine HeldBy.tk (i := 25) (v := .int .u8 x.verb) rfl (fun V hV => by have hc := hV.2.1.c0; first | (go_simp; rfl) | (go_simp; done)) HS ?_
  refine HeldBy.tn (i := 26) rfl HS ?_
  refine HeldBy.tk (i := 27) (v := .string x.target) rfl (fun V hV => by have hc := hV.2.1.c1; first | (go_simp; rfl) | (go_simp; done)) HS ?_
  refine HeldBy.tn (i := 29) rfl HS ?_
  refine HeldBy.tn (i := 30) rfl HS ?_
  refine HeldBy.tk (i := 31) (v := .int .u8 x.verb) rfl (fun V hV => by have hc := hV.2.1.c0; first | (go_simp; rfl) | (go_simp; done)) HS ?_
  refine HeldBy.tn (i := 32) rfl HS ?_
  refine HeldBy.tk (i := 33) (v := .string x.target) rfl (fun V hV => by have hc := hV.2.1.c1; first | (go_simp; rfl) | (go_simp; done)) HS ?_
  refine HeldBy.call (i := 28) (v := .int .u64 sn) rfl (by kernel_rfl) (by rfl) (by first | (go_simp; done) | (go_simp; first | exact ⟨rfl, rfl⟩ | rfl)) (by first | (go_simp; rfl) | (go_simp; done)) ?_
  refine (pseen HS.1.p x.verb x.target HSN.out).mono ?_
  rintro e U7 ⟨he, hb⟩
  replace HS : Both d r v s n B R q U7 S ∧ BoxC U7 w.heap.size x ∧ Below w.heap.size w U7 := ⟨HS.1.after hb, HS.2.1.after hb, HS.2.2.trans (hb.mono HS.2.2.size)⟩
  refine ⟨he, HS, ?_⟩
  clear he hb
  refine HeldBy.call (i := 34) (v := .int .u64 sn) rfl (by kernel_rfl) (by rfl) (by first | (go_simp; done) | (go_simp; first | exact ⟨rfl, rfl⟩ | rfl)) (by first | (go_simp; rfl) | (go_simp; done)) ?_
  refine (rseen HS.1.q x.verb x.target HSN.out).mono ?_
  rintro e U8 ⟨he, hb⟩
  replace HS : Both d r v s n B R q U8 S ∧ BoxC U8 w.heap.size x ∧ Below w.heap.size w U8 := ⟨HS.1.after hb, HS.2.1.after hb, HS.2.2.trans (hb.mono HS.2.2.size)⟩
  refine ⟨he, HS, ?_⟩
  clear he hb
  refine HeldBy.tk (i := 35) (v := .bool true) rfl (fun _ _ => by first | (go_simp; rfl) | (go_simp; done) | (go_simp; simp)) HS ?_
  refine HeldBy.tn (i := 36) rfl HS ?_
  refine HeldBy.tn (i := 37) rfl HS ?_
  refine wpAnyH_done (by kernel_rfl) ?_ _
  have HX2 := Lib.hid HS.2.2
  clear HS
  go_wp2
  go_ret
  exact ⟨rfl, HX2.out⟩
end
end Go.Proofs.Ytbgfccanbgpjiaa.O.I
