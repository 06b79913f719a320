/- slices.Equal of blocks. -/
import Derived.Test.YtfiahkomabllaaaLJoin
import Derived.Test.YtfiahkomabllaaaHeldBy
namespace Go.Proofs.Ytfiahkomabllaaa.L
open Go Go.RowKit
open Go.Lib

theorem take_eq_step {l1 l2 : Bytes} {i : Nat} (h : l1.take (i * 64) = l2.take (i * 64)) (hb : blk l1 i = blk l2 i) : l1.take ((i + 1) * 64) = l2.take ((i + 1) * 64) := by rw [take_blk, take_blk, h, hb]
theorem blk_of_eq {l1 l2 : Bytes} (h : l1 = l2) (i : Nat) : blk l1 i = blk l2 i := by rw [h]
set_option maxRecDepth 100000 in
set_option maxHeartbeats 400000 in
theorem equal_any (v1 v2 : Value) (k1 k2 : Nat) (l1 l2 : Bytes) (w : World) (h1 : BlksIn w v1 k1 l1) (h2 : BlksIn w v2 k2 l2) :
    Calls Try.prog 52 #[v1, v2] w fun e w' => e = .returned (.bool (decide (l1 = l2))) ∧ Below w.heap.size w w' := by
  obtain ⟨a1, c1, rfl⟩ := h1.shape
  obtain ⟨a2, c2, rfl⟩ := h2.shape
  have hsm : k1 ≤ 9223372036854775807 ∧ k2 ≤ 9223372036854775807 := ⟨h1.small, h2.small⟩
  have HV1 := Lib.hid h1
  have HV2 := Lib.hid h2
  clear h1 h2
  by_cases hk : k1 = k2
  · subst hk
    go_enter Try.func52, Try.ntmps52
    go_wp2
    go_loopw [13] (fun iv wr => ∃ i : Nat, i ≤ k1 ∧ iv = .int .i64 (i : Int) ∧ Below w.heap.size w wr ∧ l1.take (i * 64) = l2.take (i * 64)) (fun iv _ => k1 - (RowKit.intOf iv).toNat)
    case atStart => exact ⟨0, Nat.zero_le _, rfl, Below.refl _ _, by simp⟩
    case round =>
      obtain ⟨i, hi, rfl, hB, hE⟩ := hrel
      have HB := Lib.hid hB
      have HE := Lib.hid hE
      clear hB hE
      by_cases hp : i < k1
      · have hp' : (i : Int) < (k1 : Int) := by omega
        obtain ⟨g1, o1, d1, he1, hg1, hA1⟩ := (HV1.out.after HB.out).at hp
        obtain ⟨g2, o2, d2, he2, hg2, hA2⟩ := (HV2.out.after HB.out).at hp
        obtain ⟨rfl, rfl⟩ : a1 = some ⟨g1, o1, none⟩ ∧ c1 = d1 := by cases he1; exact ⟨rfl, rfl⟩
        obtain ⟨rfl, rfl⟩ : a2 = some ⟨g2, o2, none⟩ ∧ c2 = d2 := by cases he2; exact ⟨rfl, rfl⟩
        have HC1 := Lib.hid hA1
        have HC2 := Lib.hid hA2
        have HL1 : Hid ((blk l1 i).length = 64) := blk_length HV1.out.1 hp
        have HL2 : Hid ((blk l2 i).length = 64) := blk_length HV2.out.1 hp
        clear hA1 hA2 hg1 hg2 he1 he2
        obtain ⟨bb, hbb⟩ : ∃ bb, bb = decide (blk l1 i = blk l2 i) := ⟨_, rfl⟩
        have HBB := Lib.hid hbb
        clear hbb
        go_wp2
        refine wp_region_held_drew (S := fun V => Below w.heap.size w V ∧ LiesA V g1 (o1 + i * 64) (blk l1 i) ∧ LiesA V g2 (o2 + i * 64) (blk l2 i)) (by kernel_rfl) ⟨HB.out.drew, HC1.out, HC2.out⟩ (fun _ => ?_)
        refine HeldBy.gen (fun V => Below w.heap.size w V ∧ LiesA V g1 (o1 + i * 64) (blk l1 i) ∧ LiesA V g2 (o2 + i * 64) (blk l2 i)) ⟨HB.out.drew, HC1.out, HC2.out⟩ ?_
        clear HB HC1 HC2
        rintro U0 HS
        refine HeldBy.take (i := 0) rfl (by kernel_rfl) (by kernel_rfl) (by kernel_rfl) (fun _ _ _ h => h) (by rfl) (fun _ _ => by first | (go_simp; rfl) | (go_simp; done)) (by go_simp; rfl) HS ?_
        refine HeldBy.take (i := 1) rfl (by kernel_rfl) (by kernel_rfl) (by kernel_rfl) (fun _ _ _ h => h) (by rfl) (fun _ _ => by first | (go_simp; rfl) | (go_simp; done)) (by go_simp; rfl) HS ?_
        refine HeldBy.take (i := 2) rfl (by kernel_rfl) (by kernel_rfl) (by kernel_rfl) (fun _ _ _ h => h) (by rfl) (fun _ _ => by first | (go_simp; rfl) | (go_simp; done)) (by go_simp; rfl) HS ?_
        refine HeldBy.take (i := 3) (v := encA (blk l1 i)) rfl (by kernel_rfl) (by kernel_rfl) (by kernel_rfl) (fun _ _ _ h => h) (by rfl) (fun V hV => load_blk hV.2.1 HL1.out rfl rfl) (by go_simp; rfl) HS ?_
        refine HeldBy.take (i := 4) rfl (by kernel_rfl) (by kernel_rfl) (by kernel_rfl) (fun _ _ _ h => h) (by rfl) (fun _ _ => by first | (go_simp; rfl) | (go_simp; done)) (by go_simp; rfl) HS ?_
        refine HeldBy.take (i := 5) rfl (by kernel_rfl) (by kernel_rfl) (by kernel_rfl) (fun _ _ _ h => h) (by rfl) (fun _ _ => by first | (go_simp; rfl) | (go_simp; done)) (by go_simp; rfl) HS ?_
        refine HeldBy.take (i := 6) rfl (by kernel_rfl) (by kernel_rfl) (by kernel_rfl) (fun _ _ _ h => h) (by rfl) (fun _ _ => by first | (go_simp; rfl) | (go_simp; done)) (by go_simp; rfl) HS ?_
        refine HeldBy.take (i := 7) (v := encA (blk l2 i)) rfl (by kernel_rfl) (by kernel_rfl) (by kernel_rfl) (fun _ _ _ h => h) (by rfl) (fun V hV => load_blk hV.2.2 HL2.out rfl rfl) (by go_simp; rfl) HS ?_
        refine HeldBy.take (i := 8) (v := .bool (!bb)) rfl (by kernel_rfl) (by kernel_rfl) (by kernel_rfl) (fun _ _ _ h => h) (by rfl) (fun V hV => by rw [HBB.out]; exact exec_neq_blk V HL1.out HL2.out rfl rfl rfl) (by go_simp; rfl) HS ?_
        refine wpAnyH_done (by kernel_rfl) ?_ _
        have HBN : Hid (Below w.heap.size w U0) := HS.1
        clear HS
        cases bb with
        | true =>
          have HE2 : Hid (l1.take ((i + 1) * 64) = l2.take ((i + 1) * 64)) := take_eq_step HE.out (of_decide_eq_true HBB.out.symm)
          go_wp2
          exact ⟨⟨i + 1, by omega, by go_num, HBN.out, HE2.out⟩, by simp [RowKit.intOf]; omega⟩
        | false =>
          have HQ : Hid (decide (l1 = l2) = false) := decide_eq_false fun e => of_decide_eq_false HBB.out.symm (blk_of_eq e i)
          go_wp2
          go_ret
          exact ⟨by rw [HQ.out]; rfl, HBN.out⟩
      · have hp' : ¬ (i : Int) < (k1 : Int) := by omega
        obtain rfl : i = k1 := by omega
        have HQ : Hid (decide (l1 = l2) = true) := by
          have := HE.out
          rw [List.take_of_length_le (by rw [HV1.out.1]; omega), List.take_of_length_le (by rw [HV2.out.1]; omega)] at this
          exact decide_eq_true this
        go_wp2
        go_ret
        exact ⟨by rw [HQ.out]; rfl, HB.out⟩
  · have hk' : ¬ (k1 : Int) = (k2 : Int) := by omega
    have HQ : Hid (decide (l1 = l2) = false) := decide_eq_false fun e => hk (by have e1 := HV1.out.1; have e2 := HV2.out.1; rw [e] at e1; omega)
    go_enter Try.func52, Try.ntmps52
    go_wp2
    go_ret
    exact ⟨by rw [HQ.out]; rfl, Below.refl _ _⟩
end Go.Proofs.Ytfiahkomabllaaa.L
