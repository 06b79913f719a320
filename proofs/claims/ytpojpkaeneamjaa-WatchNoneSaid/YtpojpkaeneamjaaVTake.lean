/- Take: of a cache that is new, and of one that has seen a change. -/
import Derived.Test.YtpojpkaeneamjaaVTouch
namespace Go.Proofs.Ytpojpkaeneamjaa.O.V
open Go Go.RowKit Go.Lib KM
attribute [local go_sem] Oper.semAt_some

def TakeA (c m B : Nat) (o : Obj) (w : World) (e : Ending) (w' : World) : Prop := ∃ h cp, e = .returned (.tuple #[.slice (some ⟨h, 0, none⟩) 1 cp, .int .i64 0]) ∧ KeyRow w' h o.name ∧ CacheAt w' c m 1 ∧ Below B w w'
def StateK (c m g : Nat) (o : Obj) (j : Nat) (wr : World) : Prop := BoxE wr g (ev1 o) ∧ ((j = 0 ∧ CacheAt wr c m 0 ∧ wr.heap[m]? = some (.map #[] 0)) ∨ (j = 1 ∧ CacheAt wr c m 1))

set_option maxRecDepth 100000 in
set_option maxHeartbeats 4000000 in
theorem take_one (B c m g : Nat) (o : Obj) (w : World) (hc : CacheAt w c m 0) (hm : w.heap[m]? = some (.map #[] 0)) (hg : BoxE w g (ev1 o)) (hne : c ≠ m) (hgc : g ≠ c) (hgm : g ≠ m) (hBc : B ≤ c) (hBm : B ≤ m) :
    Calls Try.prog 6 #[.pointer (some ⟨c, 0, none⟩), .slice (some ⟨g, 0, none⟩) 1 1] w fun e w' => TakeA c m B o w e w' := by
  have HC0 := Lib.hid hc
  have HM0 := Lib.hid hm
  have HG0 := Lib.hid hg
  have HN := Lib.hid (And.intro hne (And.intro hgc (And.intro hgm (And.intro hBc hBm))))
  have HBW : Hid (B ≤ w.heap.size) := by have := hc.lt; show B ≤ _; omega
  have HF := Lib.hid (follow_yes g o w hg)
  have c1 := hc.c1
  clear hc hm hg hne hgc hgm hBc hBm
  go_enter Try.func6, Try.ntmps6
  go_wp2_with (fail)
  refine HF.out.mono ?_
  rintro e W1 ⟨rfl, hb1⟩
  have HW1 := Lib.hid (hb1.mono HBW.out)
  have HS1 : Hid (StateK c m g o 0 W1) := ⟨HG0.out.after hb1, .inl ⟨rfl, HC0.out.after hb1, (hb1.block m (Array.getElem?_eq_some_iff.1 HM0.out).1).trans HM0.out⟩⟩
  clear HF hb1 c1 HC0 HM0 HG0 HBW
  go_wp2_with (fail)
  go_loopw [19] (fun iv wr => ∃ j : Nat, iv = .int .i64 (j : Int) ∧ j ≤ 1 ∧ StateK c m g o j wr ∧ Below B w wr) (fun iv _ => 1 - (RowKit.intOf iv).toNat)
  case atStart => exact ⟨0, rfl, Nat.zero_le _, HS1.out, HW1.out⟩
  case round =>
    obtain ⟨j, rfl, hj, ⟨hg, hst⟩, hlow⟩ := hrel
    clear HS1 HW1
    have HW := Lib.hid hlow
    have HG := Lib.hid hg
    clear hlow
    rcases hst with ⟨rfl, hc, hm⟩ | ⟨rfl, hc⟩
    · obtain ⟨V, hs, hv, hbl⟩ := eventing wr (ev1 o)
      have hbW : B ≤ wr.heap.size := by have := HN.out.2.2.2.1; have := hc.lt; omega
      have HD := Lib.hid (do_new B c m o V (hc.after hbl) ((hbl.block m (Array.getElem?_eq_some_iff.1 hm).1).trans hm) HN.out.1 HN.out.2.2.2.1 HN.out.2.2.2.2)
      have HE := Lib.hid (HG.out.after hbl)
      have HV := Lib.hid (HW.out.trans (hbl.mono hbW))
      have hev := hv
      clear hc hm hv hbl hbW HW HG
      go_wp2_with (first | (refine wpList_got rfl (load_ev hg rfl rfl) ?_) | (refine wpList_skip rfl (hs rfl rfl rfl) ?_) | (refine wpList_got rfl (load_ev hev rfl rfl) ?_))
      clear hs hg hev
      refine HD.out.mono ?_
      rintro e W2 ⟨rfl, hc2, hb2, hk2⟩
      have HX : Hid (StateK c m g o 1 W2 ∧ Below B w W2) := ⟨⟨(hk2 g HE.out.lt HN.out.2.1 HN.out.2.2.1).trans HE.out, .inr ⟨rfl, hc2⟩⟩, HV.out.trans hb2⟩
      clear hc2 hb2 hk2 HD HE HV
      go_wp2
      go_roundw
      case rel => exact ⟨1, by go_num, by omega, HX.out.1, HX.out.2⟩
      case measure => simp [RowKit.intOf]
    · have HC := Lib.hid hc
      have HT := Lib.hid (touched_one g o wr hg)
      have hBs : B ≤ wr.heap.size := by have := HN.out.2.2.2.1; have := hc.lt; omega
      have HBS := Lib.hid hBs
      clear hc hg HG hBs
      go_wp2_with (fail)
      refine HT.out.mono ?_
      rintro e W2 ⟨h, cp, rfl, hk, -, hb⟩
      have HX : Hid (KeyRow W2 h o.name ∧ CacheAt W2 c m 1 ∧ Below B w W2) := ⟨hk, HC.out.after hb, HW.out.trans (hb.mono HBS.out)⟩
      clear hk hb HT HC HW
      go_wp2
      go_ret2
      exact ⟨h, cp, rfl, HX.out.1, HX.out.2.1, HX.out.2.2⟩
set_option maxRecDepth 100000 in
set_option maxHeartbeats 4000000 in
theorem take_no (c m g : Nat) (o : Obj) (w : World) (hc : CacheAt w c m 1) (hg : BoxE w g ⟨3, false, o⟩) :
    Calls Try.prog 6 #[.pointer (some ⟨c, 0, none⟩), .slice (some ⟨g, 0, none⟩) 1 1] w fun e w' => e = .returned (.tuple #[.slice none 0 0, .int .i64 6]) ∧ Below w.heap.size w w' := by
  have HF := Lib.hid (follow_no g o w hg)
  have c1 := hc.c1
  clear hc hg
  go_enter Try.func6, Try.ntmps6
  go_wp2_with (fail)
  refine HF.out.mono ?_
  rintro e W1 ⟨rfl, hb1⟩
  have HX := Lib.hid hb1
  clear HF hb1 c1
  go_wp2
  go_ret2
  exact ⟨rfl, HX.out⟩
theorem version_of (c m : Nat) (v : Int) (w : World) (hc : CacheAt w c m v) : Calls Try.prog 11 #[.pointer (some ⟨c, 0, none⟩)] w fun e w' => e = .returned (.int .u64 v) ∧ w = w' := by
  have c1 := hc.c1
  clear hc
  go_enter Try.func11, Try.ntmps11
  go_wp2
  go_ret
  exact ⟨rfl, rfl⟩
end Go.Proofs.Ytpojpkaeneamjaa.O.V
