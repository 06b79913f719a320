/- A cache that is new takes a change in; the keys that changes are of. -/
import Derived.Test.YtpojpkaeneamjaaVFollow
namespace Go.Proofs.Ytpojpkaeneamjaa.O.V
open Go Go.RowKit Go.Lib KM
attribute [local go_sem] Oper.semAt_some

def ev1 (o : Obj) : Ev := ⟨1, false, o⟩
def keyN (o : Obj) : Ky := ⟨o.kind, o.name⟩
theorem Turned.other {W V : World} {b g : Nat} {x : Go.Obj} (h : Turned W V b) (hne : g ≠ b) (hg : W.heap[g]? = some x) : V.heap[g]? = some x := (h.block g hne).trans hg
/-- What stays but the cache and its map. -/
def KeepsBut (c m : Nat) (W V : World) : Prop := ∀ g, g < W.heap.size → g ≠ c → g ≠ m → V.heap[g]? = W.heap[g]?
theorem KeepsBut.refl (c m : Nat) (W : World) : KeepsBut c m W W := fun _ _ _ _ => rfl
theorem KeepsBut.below {c m : Nat} {W V U : World} (h : KeepsBut c m W V) (hb : Below V.heap.size V U) (hs : W.heap.size ≤ V.heap.size) : KeepsBut c m W U := fun g hg h1 h2 => (hb.block g (by omega)).trans (h g hg h1 h2)

set_option maxRecDepth 100000 in
set_option maxHeartbeats 4000000 in
theorem do_new (B c m : Nat) (o : Obj) (w : World) (hc : CacheAt w c m 0) (hm : w.heap[m]? = some (.map #[] 0)) (hne : c ≠ m) (hBc : B ≤ c) (hBm : B ≤ m) :
    Calls Try.prog 32 #[.pointer (some ⟨c, 0, none⟩), encE (ev1 o)] w fun e w' => e = .returned (.tuple #[]) ∧ CacheAt w' c m 1 ∧ Below B w w' ∧ KeepsBut c m w w' := by
  have HC0 := Lib.hid hc
  have HM0 := Lib.hid hm
  have HLT : Hid (c < w.heap.size ∧ m < w.heap.size) := ⟨hc.lt, (Array.getElem?_eq_some_iff.1 hm).1⟩
  have HB := Lib.hid (And.intro hne (And.intro hBc hBm))
  clear hc hm hne hBc hBm
  rw [show encE (ev1 o) = .agg (cellsE (ev1 o)) from rfl]
  go_enter Try.func32, Try.ntmps32
  go_upto_region 1 with (fail)
  refine wp_gen (fun V => BoxE V w.heap.size (ev1 o) ∧ Below w.heap.size w V) ⟨heap_alloc_new _ _, (Below.refl _ _).alloc (Nat.le_refl _) _⟩ ?_
  rintro V ⟨he, hlw⟩
  have HE := Lib.hid he
  have HW := Lib.hid hlw
  have HK := Lib.hid (key_of o V)
  clear hlw
  go_wp2_with (refine wpList_got rfl (load_evobj he rfl rfl) ?_)
  clear he
  refine HK.out.mono ?_
  rintro e W1 ⟨rfl, hb1⟩
  obtain ⟨V1, hs1, hk1, hbl1⟩ := keying (show BoxK (W1.alloc (.cells (cellsK K0) 29 (0, 0))) W1.heap.size K0 from heap_alloc_new _ _) (keyN o)
  have hbe : Below W1.heap.size W1 V1 := hbl1 _ _ ((Below.refl _ _).alloc (Nat.le_refl _) _) (Nat.le_refl _)
  have hw1 := HW.out.trans (hb1.mono HW.out.size)
  have hw2 := hw1.trans (hbe.mono hw1.size)
  have he1 := (HE.out.after hb1).after hbe
  have g1 : V1.cell? ⟨w.heap.size, 1, none⟩ = some (.bool false) := he1.c1
  have HN1 : Hid (w.heap.size < W1.heap.size) := Nat.lt_of_lt_of_le HE.out.lt hb1.size
  replace HE := Lib.hid he1
  have HKB := Lib.hid hk1
  have HC := Lib.hid (HC0.out.after hw2)
  have HM := Lib.hid ((hw2.block m HLT.out.2).trans HM0.out)
  replace HW := Lib.hid hw2
  clear HK hb1 hk1 hbl1 hbe hw1 hw2 he1 HC0 HM0
  go_upto_region 4 with (refine wpList_skip rfl (hs1 rfl rfl rfl) ?_)
  clear hs1 g1
  refine wp_region_held_drew (S := fun V => CacheAt V c m 0 ∧ BoxK V W1.heap.size (keyN o) ∧ BoxE V w.heap.size (ev1 o)) (by kernel_rfl) ⟨HC.out, HKB.out, HE.out⟩ (fun _ => ?_)
  refine HeldBy.gen (fun V => (CacheAt V c m 0 ∧ BoxK V W1.heap.size (keyN o) ∧ BoxE V w.heap.size (ev1 o)) ∧ (Below w.heap.size w V) ∧ (V.heap[m]? = some (.map #[] 0))) ⟨⟨HC.out, HKB.out, HE.out⟩, HW.out.drew, HM.out⟩ ?_
  clear HC HKB HE HW HM
  rintro U0 ⟨HS, HW, HM⟩
  refine HeldBy.take (i := 0) rfl (by kernel_rfl) (by kernel_rfl) (by kernel_rfl) (fun _ _ _ h => h) (by rfl) (fun _ _ => by first | (go_simp; rfl) | (go_simp; done)) (by first | (go_simp; rfl) | (go_simp; done)) HS ?_
  refine HeldBy.take (i := 1) rfl (by kernel_rfl) (by kernel_rfl) (by kernel_rfl) (fun _ _ _ h => h) (by rfl) (fun _ _ => by first | (go_simp; rfl) | (go_simp; done)) (by first | (go_simp; rfl) | (go_simp; done)) HS ?_
  refine HeldBy.take (i := 2) rfl (by kernel_rfl) (by kernel_rfl) (by kernel_rfl) (fun _ _ _ h => h) (by rfl) (fun _ _ => by first | (go_simp; rfl) | (go_simp; done)) (by first | (go_simp; rfl) | (go_simp; done)) HS ?_
  refine HeldBy.take (i := 3) (v := .map (some m)) rfl (by kernel_rfl) (by kernel_rfl) (by kernel_rfl) (fun _ _ _ h => h) (by rfl) (fun V hV => by have h1 := hV.1.c0; first | (go_simp; rfl) | (go_simp; done)) (by first | (go_simp; rfl) | (go_simp; done)) HS ?_
  refine HeldBy.take (i := 4) (v := encK (keyN o)) rfl (by kernel_rfl) (by kernel_rfl) (by kernel_rfl) (fun _ _ _ h => h) (by rfl) (fun V hV => load_key hV.2.1 rfl rfl) (by first | (go_simp; rfl) | (go_simp; done)) HS ?_
  refine HeldBy.take (i := 5) rfl (by kernel_rfl) (by kernel_rfl) (by kernel_rfl) (fun _ _ _ h => h) (by rfl) (fun _ _ => by first | (go_simp; rfl) | (go_simp; done)) (by first | (go_simp; rfl) | (go_simp; done)) HS ?_
  refine HeldBy.take (i := 6) (v := encO o) rfl (by kernel_rfl) (by kernel_rfl) (by kernel_rfl) (fun _ _ _ h => h) (by rfl) (fun V hV => load_evobj hV.2.2 rfl rfl) (by first | (go_simp; rfl) | (go_simp; done)) HS ?_
  obtain ⟨V3, hs3, ht3⟩ := exec_put (empty_is HM) (keyN o) o
  have hcm := HB.out.1
  have hS3 : CacheAt V3 c m 0 ∧ BoxK V3 W1.heap.size (keyN o) ∧ BoxE V3 w.heap.size (ev1 o) := ⟨Turned.other ht3 hcm HS.1, Turned.other ht3 (by have := HN1.out; have := HLT.out.2; omega) HS.2.1, Turned.other ht3 (by have := HLT.out.2; omega) HS.2.2⟩
  refine HeldBy.store (i := 7) (w' := V3) rfl (by kernel_rfl) (by rfl) (hs3 rfl rfl rfl rfl) (by first | (go_simp; rfl) | (go_simp; done)) hS3 ?_
  refine wpAnyH_done (by kernel_rfl) ?_ _
  have hcx := hS3.1
  have v0 : V3.cell? ⟨w.heap.size, 0, none⟩ = some (.int .u64 1) := hS3.2.2.c0
  have f1 := hcx.free 1
  have x1 := hcx.c1
  have HZ := Lib.hid (hcx.s1 1)
  have HY : Hid (Below B w (V3.setCell ⟨c, 1, none⟩ (.int .u64 1)) ∧ KeepsBut c m w (V3.setCell ⟨c, 1, none⟩ (.int .u64 1))) := by
    show _ ∧ _
    have hBs : B ≤ w.heap.size := by have := HB.out.2.1; have := HLT.out.1; omega
    refine ⟨((HW.mono hBs).trans (ht3.below HB.out.2.2)).setCell HB.out.2.1 _, fun g hg h1 h2 => ?_⟩
    rw [heap_setCell_other _ ⟨c, 1, none⟩ g _ h1, ht3.block g h2, HW.block g hg]
  clear hs3 ht3 hcm hS3 hcx HS HW HM
  go_wp2
  go_end0
  exact ⟨rfl, HZ.out, HY.out.1, HY.out.2⟩
end Go.Proofs.Ytpojpkaeneamjaa.O.V
