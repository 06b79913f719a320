/- The document's RightTerms. Laid by mkrt.py. -/
import Derived.Test.YtneogmcmkbhnaaaTRefRL
namespace Go.Proofs.Ytneogmcmkbhnaaa.T
open Go.RowKit
open Go.Lib hiding intOf

def FitT (l : List TB) : Prop := ∀ y ∈ l, y.1.1.length ≤ 9223372036854775807 ∧ ∀ z ∈ y.1.2, z.length ≤ 9223372036854775807
theorem prT_key {x : TB} (h : wordB x.1.1 = false) : prT x = none := by unfold prT prTerm; simp [h]
theorem prT_none {x : TB} (h : printAll rdWord keyWord 124 x.1.2 = none) : prT x = none := by
  unfold prT prTerm
  split
  · split
    · rfl
    · rw [h]; rfl
  · rfl
theorem prT_nil {x : TB} (h : x.1.2 = []) : prT x = none := by unfold prT prTerm; simp [h]
theorem prT_some {x : TB} (h : wordB x.1.1 = true) (h0 : x.1.2 ≠ []) (hp : Prints rdWord keyWord x.1.2) : (prT x).isSome = true := by
  unfold prT prTerm
  rw [if_pos h, if_neg h0, print_done _ _ hp.len hp.all]
  rfl

set_option maxRecDepth 100000 in
set_option maxHeartbeats 8000000 in
theorem rightTerms_any (v : Value) (l : List TB) (w : World) (hT : TermsIn w v l) (hz : FitT l) :
    Calls Try.prog 33 #[v] w fun e w' => e = .returned (.bool (printAll prT kyT 44 l).isSome) ∧ Below w.heap.size w w' := by
  have HT := Lib.hid hT
  have hn := hT.len
  obtain ⟨o, c, rfl⟩ := hT.shape
  have HZ := Lib.hid hz
  clear hT hz
  obtain ⟨R, hR⟩ : ∃ R, (printAll prT kyT 44 l).isSome = R := ⟨_, rfl⟩
  rw [hR]
  have HR := Lib.hid hR
  clear hR
  obtain ⟨N, hN⟩ : ∃ N, N = l.length := ⟨_, rfl⟩
  rw [← hN] at HT hn ⊢
  have HN := Lib.hid hN
  clear hN
  go_enter Try.func33, Try.ntmps33
  go_wp2
  go_loopw [3] (fun i wr => ∃ k : Nat, i = .int .i64 (k : Int) ∧ k ≤ N ∧ Printed prT kyT l k ∧ Below w.heap.size w wr) (fun i _ => (N - intOf i).toNat)
  case atStart => exact ⟨0, rfl, Nat.zero_le _, Printed.zero _ _ _, Below.refl _ _⟩
  case round =>
    obtain ⟨k, rfl, hk, hpr, hlow⟩ := hrel
    have HPr := Lib.hid hpr
    have HLow := Lib.hid hlow
    clear hpr hlow
    by_cases hkl : k < N
    · have hkl' : k < l.length := by rw [← HN.out]; exact hkl
      obtain ⟨g, off, rfl, -, -, -, -⟩ := HT.out.at k hkl'
      have HC : Hid (∀ V, Below w.heap.size w V → ∀ j (hj : j < l.length), V.cell? ⟨g, off + j * 2, none⟩ = some (encS l[j].1.1) ∧ V.cell? ⟨g, off + j * 2 + 1, none⟩ = some l[j].2 ∧ StrsIn V l[j].2 l[j].1.2) := fun V hV j hj => by
        obtain ⟨g', off', h1, -, h2, h3, h4⟩ := (HT.out.after hV).at j hj
        cases h1
        exact ⟨h2, h3, h4⟩
      have HNo : Hid (prT l[k] = none → R = false) := fun h => by rw [← HR.out]; exact right_no (print_no _ _ hkl' h)
      have HFa : Hid (∀ h0 : 0 < k, leB l[k].1.1 (l[k - 1]'(by omega)).1.1 = true → R = false) := fun h0 h => by
        rw [← HR.out]
        obtain ⟨j, rfl⟩ : ∃ j, k = j + 1 := ⟨k - 1, by omega⟩
        exact right_no (print_fall _ _ hkl' h)
      have HNx : Hid ((prT l[k]).isSome = true → (∀ h0 : 0 < k, leB l[k].1.1 (l[k - 1]'(by omega)).1.1 = false) → Printed prT kyT l (k + 1)) := fun hs h2 => HPr.out.next _ _ hkl' hs h2
      have HCk := Lib.hid fun V hV => HC.out V hV k hkl'
      have HCp : Hid (∀ (V : World), Below w.heap.size w V → ∀ h0 : 0 < k, V.cell? ⟨g, off + (k - 1) * 2, none⟩ = some (encS (l[k - 1]'(by omega)).1.1)) := fun V hV h0 => (HC.out V hV (k - 1) (by omega)).1
      have hz1 := HZ.out l[k] (List.getElem_mem hkl')
      clear HC HPr
      obtain ⟨x, hx⟩ : ∃ x, l[k] = x := ⟨_, rfl⟩
      rw [hx] at HNo HNx HCk hz1
      have hFa2 : Hid (∀ h0 : 0 < k, leB x.1.1 (l[k - 1]'(by omega)).1.1 = true → R = false) := fun h0 h => HFa.out h0 (by rw [hx]; exact h)
      have hNx2 : Hid ((prT x).isSome = true → (∀ h0 : 0 < k, leB x.1.1 (l[k - 1]'(by omega)).1.1 = false) → Printed prT kyT l (k + 1)) := fun hs h2 => HNx.out hs fun h0 => h2 h0
      clear HFa HNx hx
      obtain ⟨vo, vc, hval⟩ := (HCk.out _ HLow.out).2.2.len
      have hnl := (HCk.out _ HLow.out).2.2.slen
      obtain ⟨⟨ka, lv⟩, val⟩ := x
      dsimp only at HNo hNx2 HCk hz1 hFa2 hval hnl
      subst hval
      obtain ⟨n, hnv⟩ : ∃ n, n = lv.length := ⟨_, rfl⟩
      rw [← hnv] at HCk hnl HNo hNx2
      have HNv := Lib.hid hnv
      clear hnv
      have hw1 := fun V => refWord_any ka V hz1.1
      have HZv := Lib.hid hz1.2
      clear hz1
      have c1 := (HCk.out _ HLow.out).2.1
      go_upto_region 5 with (fail)
      clear c1
      refine wp_region_held_drew (S := fun V => Below w.heap.size w V) (by kernel_rfl) HLow.out.drew (fun _ => ?_)
      refine HeldBy.gen (fun V => Below w.heap.size w V) HLow.out.drew ?_
      clear HLow
      rintro U HS
      refine HeldBy.take (i := 0) rfl (by kernel_rfl) (by kernel_rfl) (by kernel_rfl) (fun _ _ _ h => h) (by rfl) (fun _ _ => by first | (go_simp; rfl) | (go_simp; done)) (by go_simp; rfl) HS ?_
      refine HeldBy.take (i := 1) rfl (by kernel_rfl) (by kernel_rfl) (by kernel_rfl) (fun _ _ _ h => h) (by rfl) (fun _ _ => by first | (go_simp; rfl) | (go_simp; done)) (by go_simp; rfl) HS ?_
      refine HeldBy.take (i := 2) (v := .pointer (some ⟨g, off + k * 2, none⟩)) rfl (by kernel_rfl) (by kernel_rfl) (by kernel_rfl) (fun _ _ _ h => h) (by rfl) (fun _ _ => by go_simp) (by go_simp; rfl) HS ?_
      refine HeldBy.take (i := 3) rfl (by kernel_rfl) (by kernel_rfl) (by kernel_rfl) (fun _ _ _ h => h) (by rfl) (fun _ _ => by first | (go_simp; rfl) | (go_simp; done)) (by go_simp; rfl) HS ?_
      refine HeldBy.take (i := 4) rfl (by kernel_rfl) (by kernel_rfl) (by kernel_rfl) (fun _ _ _ h => h) (by rfl) (fun V h => by have c := (HCk.out V h).1; go_simp; rfl) (by go_simp; rfl) HS ?_
      refine HeldBy.callE (i := 5) rfl (by kernel_rfl) (by rfl) (by go_simp; exact ⟨rfl, rfl⟩) (by intro v; go_simp; rfl) ?_
      refine (hw1 _).mono ?_
      rintro e U1 ⟨rfl, rfl⟩
      refine .inl ⟨_, rfl, HS, ?_⟩
      cases h1 : wordB ka with
      | false =>
        obtain rfl : R = false := HNo.out (prT_key h1)
        refine HeldBy.take (i := 6) rfl (by kernel_rfl) (by kernel_rfl) (by kernel_rfl) (fun _ _ _ h => h) (by rfl) (fun _ _ => by first | (go_simp; rfl) | (go_simp; done)) (by go_simp; rfl) HS ?_
        refine HeldBy.take (i := 7) rfl (by kernel_rfl) (by kernel_rfl) (by kernel_rfl) (fun _ _ _ h => h) (by rfl) (fun _ _ => by first | (go_simp; rfl) | (go_simp; done)) (by go_simp; rfl) HS ?_
        refine HeldBy.skip (i := 8) rfl (by kernel_rfl) (by kernel_rfl) (by kernel_rfl) (fun _ _ _ h => h) (by rfl) (by go_simp; rfl) HS ?_
        refine HeldBy.skip (i := 9) rfl (by kernel_rfl) (by kernel_rfl) (by kernel_rfl) (fun _ _ _ h => h) (by rfl) (by go_simp; rfl) HS ?_
        refine HeldBy.skip (i := 10) rfl (by kernel_rfl) (by kernel_rfl) (by kernel_rfl) (fun _ _ _ h => h) (by rfl) (by go_simp; rfl) HS ?_
        refine HeldBy.skip (i := 11) rfl (by kernel_rfl) (by kernel_rfl) (by kernel_rfl) (fun _ _ _ h => h) (by rfl) (by go_simp; rfl) HS ?_
        refine HeldBy.skip (i := 12) rfl (by kernel_rfl) (by kernel_rfl) (by kernel_rfl) (fun _ _ _ h => h) (by rfl) (by go_simp; rfl) HS ?_
        refine HeldBy.skip (i := 13) rfl (by kernel_rfl) (by kernel_rfl) (by kernel_rfl) (fun _ _ _ h => h) (by rfl) (by go_simp; rfl) HS ?_
        refine HeldBy.skip (i := 14) rfl (by kernel_rfl) (by kernel_rfl) (by kernel_rfl) (fun _ _ _ h => h) (by rfl) (by go_simp; rfl) HS ?_
        refine HeldBy.skip (i := 15) rfl (by kernel_rfl) (by kernel_rfl) (by kernel_rfl) (fun _ _ _ h => h) (by rfl) (by go_simp; rfl) HS ?_
        refine HeldBy.skip (i := 16) rfl (by kernel_rfl) (by kernel_rfl) (by kernel_rfl) (fun _ _ _ h => h) (by rfl) (by go_simp; rfl) HS ?_
        refine HeldBy.skip (i := 17) rfl (by kernel_rfl) (by kernel_rfl) (by kernel_rfl) (fun _ _ _ h => h) (by rfl) (by go_simp; rfl) HS ?_
        refine HeldBy.skip (i := 18) rfl (by kernel_rfl) (by kernel_rfl) (by kernel_rfl) (fun _ _ _ h => h) (by rfl) (by go_simp; rfl) HS ?_
        refine HeldBy.skip (i := 19) rfl (by kernel_rfl) (by kernel_rfl) (by kernel_rfl) (fun _ _ _ h => h) (by rfl) (by go_simp; rfl) HS ?_
        refine HeldBy.skip (i := 20) rfl (by kernel_rfl) (by kernel_rfl) (by kernel_rfl) (fun _ _ _ h => h) (by rfl) (by go_simp; rfl) HS ?_
        refine HeldBy.skip (i := 21) rfl (by kernel_rfl) (by kernel_rfl) (by kernel_rfl) (fun _ _ _ h => h) (by rfl) (by go_simp; rfl) HS ?_
        refine HeldBy.skip (i := 22) rfl (by kernel_rfl) (by kernel_rfl) (by kernel_rfl) (fun _ _ _ h => h) (by rfl) (by go_simp; rfl) HS ?_
        refine HeldBy.skip (i := 23) rfl (by kernel_rfl) (by kernel_rfl) (by kernel_rfl) (fun _ _ _ h => h) (by rfl) (by go_simp; rfl) HS ?_
        refine HeldBy.take (i := 24) rfl (by kernel_rfl) (by kernel_rfl) (by kernel_rfl) (fun _ _ _ h => h) (by rfl) (fun _ _ => by first | (go_simp; rfl) | (go_simp; done)) (by go_simp; rfl) HS ?_
        refine HeldBy.take (i := 25) rfl (by kernel_rfl) (by kernel_rfl) (by kernel_rfl) (fun _ _ _ h => h) (by rfl) (fun _ _ => by first | (go_simp; rfl) | (go_simp; done)) (by go_simp; rfl) HS ?_
        refine HeldBy.skip (i := 26) rfl (by kernel_rfl) (by kernel_rfl) (by kernel_rfl) (fun _ _ _ h => h) (by rfl) (by go_simp; rfl) HS ?_
        refine HeldBy.skip (i := 27) rfl (by kernel_rfl) (by kernel_rfl) (by kernel_rfl) (fun _ _ _ h => h) (by rfl) (by go_simp; rfl) HS ?_
        refine HeldBy.skip (i := 28) rfl (by kernel_rfl) (by kernel_rfl) (by kernel_rfl) (fun _ _ _ h => h) (by rfl) (by go_simp; rfl) HS ?_
        refine HeldBy.take (i := 29) rfl (by kernel_rfl) (by kernel_rfl) (by kernel_rfl) (fun _ _ _ h => h) (by rfl) (fun _ _ => by first | (go_simp; rfl) | (go_simp; done)) (by go_simp; rfl) HS ?_
        refine HeldBy.take (i := 30) rfl (by kernel_rfl) (by kernel_rfl) (by kernel_rfl) (fun _ _ _ h => h) (by rfl) (fun _ _ => by first | (go_simp; rfl) | (go_simp; done)) (by go_simp; rfl) HS ?_
        refine HeldBy.skip (i := 31) rfl (by kernel_rfl) (by kernel_rfl) (by kernel_rfl) (fun _ _ _ h => h) (by rfl) (by go_simp; rfl) HS ?_
        refine HeldBy.skip (i := 32) rfl (by kernel_rfl) (by kernel_rfl) (by kernel_rfl) (fun _ _ _ h => h) (by rfl) (by go_simp; rfl) HS ?_
        refine HeldBy.skip (i := 33) rfl (by kernel_rfl) (by kernel_rfl) (by kernel_rfl) (fun _ _ _ h => h) (by rfl) (by go_simp; rfl) HS ?_
        refine HeldBy.take (i := 34) rfl (by kernel_rfl) (by kernel_rfl) (by kernel_rfl) (fun _ _ _ h => h) (by rfl) (fun _ _ => by first | (go_simp; rfl) | (go_simp; done)) (by go_simp; rfl) HS ?_
        refine wpAnyH_done (by kernel_rfl) ?_ _
        have HL := Lib.hid HS
        clear HS HCk HCp hNx2 HNo hFa2
        go_wp2
        go_ret
        exact ⟨rfl, HL.out⟩
      | true =>
        have HW := Lib.hid h1
        clear h1
        refine HeldBy.take (i := 6) rfl (by kernel_rfl) (by kernel_rfl) (by kernel_rfl) (fun _ _ _ h => h) (by rfl) (fun _ _ => by first | (go_simp; rfl) | (go_simp; done)) (by go_simp; rfl) HS ?_
        refine HeldBy.take (i := 7) rfl (by kernel_rfl) (by kernel_rfl) (by kernel_rfl) (fun _ _ _ h => h) (by rfl) (fun _ _ => by first | (go_simp; rfl) | (go_simp; done)) (by go_simp; rfl) HS ?_
        refine HeldBy.take (i := 8) rfl (by kernel_rfl) (by kernel_rfl) (by kernel_rfl) (fun _ _ _ h => h) (by rfl) (fun _ _ => by first | (go_simp; rfl) | (go_simp; done)) (by go_simp; rfl) HS ?_
        by_cases hk0 : k = 0
        · have HRise : Hid (∀ h0 : 0 < k, leB ka (l[k - 1]'(by omega)).1.1 = false) := fun h0 => by omega
          refine HeldBy.take (i := 9) (v := .bool false) rfl (by kernel_rfl) (by kernel_rfl) (by kernel_rfl) (fun _ _ _ h => h) (by rfl) (fun _ _ => by first | (go_simp; done) | (go_simp; omega)) (by go_simp; rfl) HS ?_
          refine HeldBy.take (i := 10) rfl (by kernel_rfl) (by kernel_rfl) (by kernel_rfl) (fun _ _ _ h => h) (by rfl) (fun _ _ => by first | (go_simp; rfl) | (go_simp; done)) (by go_simp; rfl) HS ?_
          refine HeldBy.skip (i := 11) rfl (by kernel_rfl) (by kernel_rfl) (by kernel_rfl) (fun _ _ _ h => h) (by rfl) (by go_simp; rfl) HS ?_
          refine HeldBy.skip (i := 12) rfl (by kernel_rfl) (by kernel_rfl) (by kernel_rfl) (fun _ _ _ h => h) (by rfl) (by go_simp; rfl) HS ?_
          refine HeldBy.skip (i := 13) rfl (by kernel_rfl) (by kernel_rfl) (by kernel_rfl) (fun _ _ _ h => h) (by rfl) (by go_simp; rfl) HS ?_
          refine HeldBy.skip (i := 14) rfl (by kernel_rfl) (by kernel_rfl) (by kernel_rfl) (fun _ _ _ h => h) (by rfl) (by go_simp; rfl) HS ?_
          refine HeldBy.skip (i := 15) rfl (by kernel_rfl) (by kernel_rfl) (by kernel_rfl) (fun _ _ _ h => h) (by rfl) (by go_simp; rfl) HS ?_
          refine HeldBy.skip (i := 16) rfl (by kernel_rfl) (by kernel_rfl) (by kernel_rfl) (fun _ _ _ h => h) (by rfl) (by go_simp; rfl) HS ?_
          refine HeldBy.skip (i := 17) rfl (by kernel_rfl) (by kernel_rfl) (by kernel_rfl) (fun _ _ _ h => h) (by rfl) (by go_simp; rfl) HS ?_
          refine HeldBy.skip (i := 18) rfl (by kernel_rfl) (by kernel_rfl) (by kernel_rfl) (fun _ _ _ h => h) (by rfl) (by go_simp; rfl) HS ?_
          refine HeldBy.skip (i := 19) rfl (by kernel_rfl) (by kernel_rfl) (by kernel_rfl) (fun _ _ _ h => h) (by rfl) (by go_simp; rfl) HS ?_
          refine HeldBy.skip (i := 20) rfl (by kernel_rfl) (by kernel_rfl) (by kernel_rfl) (fun _ _ _ h => h) (by rfl) (by go_simp; rfl) HS ?_
          refine HeldBy.skip (i := 21) rfl (by kernel_rfl) (by kernel_rfl) (by kernel_rfl) (fun _ _ _ h => h) (by rfl) (by go_simp; rfl) HS ?_
          refine HeldBy.skip (i := 22) rfl (by kernel_rfl) (by kernel_rfl) (by kernel_rfl) (fun _ _ _ h => h) (by rfl) (by go_simp; rfl) HS ?_
          refine HeldBy.take (i := 23) rfl (by kernel_rfl) (by kernel_rfl) (by kernel_rfl) (fun _ _ _ h => h) (by rfl) (fun _ _ => by first | (go_simp; rfl) | (go_simp; done)) (by go_simp; rfl) HS ?_
          refine HeldBy.take (i := 24) rfl (by kernel_rfl) (by kernel_rfl) (by kernel_rfl) (fun _ _ _ h => h) (by rfl) (fun _ _ => by first | (go_simp; rfl) | (go_simp; done)) (by go_simp; rfl) HS ?_
          refine HeldBy.take (i := 25) rfl (by kernel_rfl) (by kernel_rfl) (by kernel_rfl) (fun _ _ _ h => h) (by rfl) (fun _ _ => by first | (go_simp; rfl) | (go_simp; done)) (by go_simp; rfl) HS ?_
          refine HeldBy.take (i := 26) rfl (by kernel_rfl) (by kernel_rfl) (by kernel_rfl) (fun _ _ _ h => h) (by rfl) (fun _ _ => by first | (go_simp; rfl) | (go_simp; done)) (by go_simp; rfl) HS ?_
          refine HeldBy.take (i := 27) rfl (by kernel_rfl) (by kernel_rfl) (by kernel_rfl) (fun _ _ _ h => h) (by rfl) (fun _ _ => by first | (go_simp; rfl) | (go_simp; done)) (by go_simp; rfl) HS ?_
          by_cases hn1 : n < 1
          · obtain rfl : R = false := HNo.out (prT_nil (List.length_eq_zero_iff.1 (by rw [← HNv.out]; omega)))
            refine HeldBy.take (i := 28) (v := .bool true) rfl (by kernel_rfl) (by kernel_rfl) (by kernel_rfl) (fun _ _ _ h => h) (by rfl) (fun _ _ => by first | (go_simp; done) | (go_simp; omega)) (by go_simp; rfl) HS ?_
            refine HeldBy.take (i := 29) rfl (by kernel_rfl) (by kernel_rfl) (by kernel_rfl) (fun _ _ _ h => h) (by rfl) (fun _ _ => by first | (go_simp; rfl) | (go_simp; done)) (by go_simp; rfl) HS ?_
            refine HeldBy.take (i := 30) rfl (by kernel_rfl) (by kernel_rfl) (by kernel_rfl) (fun _ _ _ h => h) (by rfl) (fun _ _ => by first | (go_simp; rfl) | (go_simp; done)) (by go_simp; rfl) HS ?_
            refine HeldBy.skip (i := 31) rfl (by kernel_rfl) (by kernel_rfl) (by kernel_rfl) (fun _ _ _ h => h) (by rfl) (by go_simp; rfl) HS ?_
            refine HeldBy.skip (i := 32) rfl (by kernel_rfl) (by kernel_rfl) (by kernel_rfl) (fun _ _ _ h => h) (by rfl) (by go_simp; rfl) HS ?_
            refine HeldBy.skip (i := 33) rfl (by kernel_rfl) (by kernel_rfl) (by kernel_rfl) (fun _ _ _ h => h) (by rfl) (by go_simp; rfl) HS ?_
            refine HeldBy.take (i := 34) rfl (by kernel_rfl) (by kernel_rfl) (by kernel_rfl) (fun _ _ _ h => h) (by rfl) (fun _ _ => by first | (go_simp; rfl) | (go_simp; done)) (by go_simp; rfl) HS ?_
            refine wpAnyH_done (by kernel_rfl) ?_ _
            have HL := Lib.hid HS
            clear HS HCk HCp hNx2 HNo hFa2
            go_wp2
            go_ret
            exact ⟨rfl, HL.out⟩
          · refine HeldBy.take (i := 28) (v := .bool false) rfl (by kernel_rfl) (by kernel_rfl) (by kernel_rfl) (fun _ _ _ h => h) (by rfl) (fun _ _ => by first | (go_simp; done) | (go_simp; omega)) (by go_simp; rfl) HS ?_
            refine HeldBy.take (i := 29) rfl (by kernel_rfl) (by kernel_rfl) (by kernel_rfl) (fun _ _ _ h => h) (by rfl) (fun _ _ => by first | (go_simp; rfl) | (go_simp; done)) (by go_simp; rfl) HS ?_
            refine HeldBy.take (i := 30) rfl (by kernel_rfl) (by kernel_rfl) (by kernel_rfl) (fun _ _ _ h => h) (by rfl) (fun _ _ => by first | (go_simp; rfl) | (go_simp; done)) (by go_simp; rfl) HS ?_
            refine HeldBy.take (i := 31) rfl (by kernel_rfl) (by kernel_rfl) (by kernel_rfl) (fun _ _ _ h => h) (by rfl) (fun _ _ => by first | (go_simp; rfl) | (go_simp; done)) (by go_simp; rfl) HS ?_
            refine HeldBy.take (i := 32) rfl (by kernel_rfl) (by kernel_rfl) (by kernel_rfl) (fun _ _ _ h => h) (by rfl) (fun _ _ => by first | (go_simp; rfl) | (go_simp; done)) (by go_simp; rfl) HS ?_
            by_cases hn8 : 8 < n
            · obtain rfl : R = false := HNo.out (prT_none (print_long _ _ (by show ¬ lv.length ≤ 8; rw [← HNv.out]; omega)))
              refine HeldBy.take (i := 33) (v := .bool true) rfl (by kernel_rfl) (by kernel_rfl) (by kernel_rfl) (fun _ _ _ h => h) (by rfl) (fun _ _ => by first | (go_simp; done) | (go_simp; omega)) (by go_simp; rfl) HS ?_
              refine HeldBy.take (i := 34) rfl (by kernel_rfl) (by kernel_rfl) (by kernel_rfl) (fun _ _ _ h => h) (by rfl) (fun _ _ => by first | (go_simp; rfl) | (go_simp; done)) (by go_simp; rfl) HS ?_
              refine wpAnyH_done (by kernel_rfl) ?_ _
              have HL := Lib.hid HS
              clear HS HCk HCp hNx2 HNo hFa2
              go_wp2
              go_ret
              exact ⟨rfl, HL.out⟩
            · refine HeldBy.take (i := 33) (v := .bool false) rfl (by kernel_rfl) (by kernel_rfl) (by kernel_rfl) (fun _ _ _ h => h) (by rfl) (fun _ _ => by first | (go_simp; done) | (go_simp; omega)) (by go_simp; rfl) HS ?_
              refine HeldBy.take (i := 34) rfl (by kernel_rfl) (by kernel_rfl) (by kernel_rfl) (fun _ _ _ h => h) (by rfl) (fun _ _ => by first | (go_simp; rfl) | (go_simp; done)) (by go_simp; rfl) HS ?_
              refine wpAnyH_done (by kernel_rfl) ?_ _
              have HLow := Lib.hid HS
              clear HS
              go_wp2
              go_loopw [5] (fun i wr => ∃ m : Nat, i = .int .i64 (m : Int) ∧ m ≤ n ∧ Printed rdWord keyWord lv m ∧ Below w.heap.size w wr) (fun i _ => (n - intOf i).toNat)
              case atStart => exact ⟨0, rfl, Nat.zero_le _, Printed.zero _ _ _, HLow.out⟩
              case round =>
                clear HLow
                obtain ⟨m, rfl, hmn, hpr, hlow⟩ := hrel
                have HPr := Lib.hid hpr
                have HLow := Lib.hid hlow
                clear hpr hlow
                by_cases hml : m < n
                · have hml' : m < lv.length := by rw [← HNv.out]; exact hml
                  obtain ⟨gv, fv, rfl, -⟩ := (HCk.out _ HLow.out).2.2.at m hml'
                  have HE : Hid (∀ V, Below w.heap.size w V → ∀ j (hj : j < lv.length), V.cell? ⟨gv, fv + j, none⟩ = some (encS lv[j])) := fun V hV j hj => by
                    obtain ⟨g', f', h1, h2⟩ := (HCk.out V hV).2.2.at j hj
                    cases h1
                    exact h2
                  have hNoM : Hid (rdWord lv[m] = none → R = false) := fun h => HNo.out (prT_none (print_no _ _ hml' h))
                  have hFaM : Hid (∀ h0 : 0 < m, leB lv[m] (lv[m - 1]'(by omega)) = true → R = false) := fun h0 h => by
                    obtain ⟨j, rfl⟩ : ∃ j, m = j + 1 := ⟨m - 1, by omega⟩
                    exact HNo.out (prT_none (print_fall _ _ hml' h))
                  have hNxM : Hid ((rdWord lv[m]).isSome = true → (∀ h0 : 0 < m, leB lv[m] (lv[m - 1]'(by omega)) = false) → Printed rdWord keyWord lv (m + 1)) := fun hs h2 => HPr.out.next _ _ hml' hs h2
                  have HEm := Lib.hid fun V hV => HE.out V hV m hml'
                  have HEp : Hid (∀ (V : World), Below w.heap.size w V → ∀ h0 : 0 < m, V.cell? ⟨gv, fv + (m - 1), none⟩ = some (encS (lv[m - 1]'(by omega)))) := fun V hV h0 => HE.out V hV (m - 1) (by omega)
                  have hzm := HZv.out lv[m] (List.getElem_mem hml')
                  clear HE HPr
                  obtain ⟨y, hy⟩ : ∃ y, lv[m] = y := ⟨_, rfl⟩
                  rw [hy] at hNoM hNxM HEm hzm
                  have hFaM2 : Hid (∀ h0 : 0 < m, leB y (lv[m - 1]'(by omega)) = true → R = false) := fun h0 h => hFaM.out h0 (by rw [hy]; exact h)
                  clear hFaM hy
                  have hwm := fun V => refWord_any y V hzm
                  go_upto_region 10 with (fail)
                  refine wp_region_held_drew (S := fun V => Below w.heap.size w V) (by kernel_rfl) HLow.out.drew (fun _ => ?_)
                  refine HeldBy.gen (fun V => Below w.heap.size w V) HLow.out.drew ?_
                  clear HLow
                  rintro U2 HS
                  refine HeldBy.take (i := 0) rfl (by kernel_rfl) (by kernel_rfl) (by kernel_rfl) (fun _ _ _ h => h) (by rfl) (fun _ _ => by first | (go_simp; rfl) | (go_simp; done)) (by go_simp; rfl) HS ?_
                  refine HeldBy.take (i := 1) rfl (by kernel_rfl) (by kernel_rfl) (by kernel_rfl) (fun _ _ _ h => h) (by rfl) (fun _ _ => by first | (go_simp; rfl) | (go_simp; done)) (by go_simp; rfl) HS ?_
                  refine HeldBy.take (i := 2) (v := .pointer (some ⟨gv, fv + m, none⟩)) rfl (by kernel_rfl) (by kernel_rfl) (by kernel_rfl) (fun _ _ _ h => h) (by rfl) (fun _ _ => by go_simp) (by go_simp; rfl) HS ?_
                  refine HeldBy.take (i := 3) rfl (by kernel_rfl) (by kernel_rfl) (by kernel_rfl) (fun _ _ _ h => h) (by rfl) (fun V h => by have c := HEm.out V h; go_simp; rfl) (by go_simp; rfl) HS ?_
                  refine HeldBy.callE (i := 4) rfl (by kernel_rfl) (by rfl) (by go_simp; exact ⟨rfl, rfl⟩) (by intro v; go_simp; rfl) ?_
                  refine (hwm _).mono ?_
                  rintro e U3 ⟨rfl, rfl⟩
                  refine .inl ⟨_, rfl, HS, ?_⟩
                  cases hwy : wordB y with
                  | false =>
                    obtain rfl : R = false := hNoM.out (by unfold rdWord; simp [hwy])
                    refine HeldBy.take (i := 5) rfl (by kernel_rfl) (by kernel_rfl) (by kernel_rfl) (fun _ _ _ h => h) (by rfl) (fun _ _ => by first | (go_simp; rfl) | (go_simp; done)) (by go_simp; rfl) HS ?_
                    refine HeldBy.take (i := 6) rfl (by kernel_rfl) (by kernel_rfl) (by kernel_rfl) (fun _ _ _ h => h) (by rfl) (fun _ _ => by first | (go_simp; rfl) | (go_simp; done)) (by go_simp; rfl) HS ?_
                    refine HeldBy.skip (i := 7) rfl (by kernel_rfl) (by kernel_rfl) (by kernel_rfl) (fun _ _ _ h => h) (by rfl) (by go_simp; rfl) HS ?_
                    refine HeldBy.skip (i := 8) rfl (by kernel_rfl) (by kernel_rfl) (by kernel_rfl) (fun _ _ _ h => h) (by rfl) (by go_simp; rfl) HS ?_
                    refine HeldBy.skip (i := 9) rfl (by kernel_rfl) (by kernel_rfl) (by kernel_rfl) (fun _ _ _ h => h) (by rfl) (by go_simp; rfl) HS ?_
                    refine HeldBy.skip (i := 10) rfl (by kernel_rfl) (by kernel_rfl) (by kernel_rfl) (fun _ _ _ h => h) (by rfl) (by go_simp; rfl) HS ?_
                    refine HeldBy.skip (i := 11) rfl (by kernel_rfl) (by kernel_rfl) (by kernel_rfl) (fun _ _ _ h => h) (by rfl) (by go_simp; rfl) HS ?_
                    refine HeldBy.skip (i := 12) rfl (by kernel_rfl) (by kernel_rfl) (by kernel_rfl) (fun _ _ _ h => h) (by rfl) (by go_simp; rfl) HS ?_
                    refine HeldBy.skip (i := 13) rfl (by kernel_rfl) (by kernel_rfl) (by kernel_rfl) (fun _ _ _ h => h) (by rfl) (by go_simp; rfl) HS ?_
                    refine HeldBy.skip (i := 14) rfl (by kernel_rfl) (by kernel_rfl) (by kernel_rfl) (fun _ _ _ h => h) (by rfl) (by go_simp; rfl) HS ?_
                    refine HeldBy.skip (i := 15) rfl (by kernel_rfl) (by kernel_rfl) (by kernel_rfl) (fun _ _ _ h => h) (by rfl) (by go_simp; rfl) HS ?_
                    refine HeldBy.skip (i := 16) rfl (by kernel_rfl) (by kernel_rfl) (by kernel_rfl) (fun _ _ _ h => h) (by rfl) (by go_simp; rfl) HS ?_
                    refine HeldBy.skip (i := 17) rfl (by kernel_rfl) (by kernel_rfl) (by kernel_rfl) (fun _ _ _ h => h) (by rfl) (by go_simp; rfl) HS ?_
                    refine HeldBy.skip (i := 18) rfl (by kernel_rfl) (by kernel_rfl) (by kernel_rfl) (fun _ _ _ h => h) (by rfl) (by go_simp; rfl) HS ?_
                    refine HeldBy.skip (i := 19) rfl (by kernel_rfl) (by kernel_rfl) (by kernel_rfl) (fun _ _ _ h => h) (by rfl) (by go_simp; rfl) HS ?_
                    refine HeldBy.skip (i := 20) rfl (by kernel_rfl) (by kernel_rfl) (by kernel_rfl) (fun _ _ _ h => h) (by rfl) (by go_simp; rfl) HS ?_
                    refine HeldBy.take (i := 21) rfl (by kernel_rfl) (by kernel_rfl) (by kernel_rfl) (fun _ _ _ h => h) (by rfl) (fun _ _ => by first | (go_simp; rfl) | (go_simp; done)) (by go_simp; rfl) HS ?_
                    refine wpAnyH_done (by kernel_rfl) ?_ _
                    have HL := Lib.hid HS
                    clear HS HCk HCp hNx2 HNo hFa2 HEm HEp hNoM hNxM hFaM2 hwy
                    go_wp2
                    go_ret
                    exact ⟨rfl, HL.out⟩
                  | true =>
                    have hsomeM : (rdWord y).isSome = true := by unfold rdWord; simp [hwy]
                    clear hwy
                    refine HeldBy.take (i := 5) rfl (by kernel_rfl) (by kernel_rfl) (by kernel_rfl) (fun _ _ _ h => h) (by rfl) (fun _ _ => by first | (go_simp; rfl) | (go_simp; done)) (by go_simp; rfl) HS ?_
                    refine HeldBy.take (i := 6) rfl (by kernel_rfl) (by kernel_rfl) (by kernel_rfl) (fun _ _ _ h => h) (by rfl) (fun _ _ => by first | (go_simp; rfl) | (go_simp; done)) (by go_simp; rfl) HS ?_
                    refine HeldBy.take (i := 7) rfl (by kernel_rfl) (by kernel_rfl) (by kernel_rfl) (fun _ _ _ h => h) (by rfl) (fun _ _ => by first | (go_simp; rfl) | (go_simp; done)) (by go_simp; rfl) HS ?_
                    by_cases hm0 : m = 0
                    · refine HeldBy.take (i := 8) (v := .bool false) rfl (by kernel_rfl) (by kernel_rfl) (by kernel_rfl) (fun _ _ _ h => h) (by rfl) (fun _ _ => by first | (go_simp; done) | (go_simp; omega)) (by go_simp; rfl) HS ?_
                      refine HeldBy.take (i := 9) rfl (by kernel_rfl) (by kernel_rfl) (by kernel_rfl) (fun _ _ _ h => h) (by rfl) (fun _ _ => by first | (go_simp; rfl) | (go_simp; done)) (by go_simp; rfl) HS ?_
                      refine HeldBy.skip (i := 10) rfl (by kernel_rfl) (by kernel_rfl) (by kernel_rfl) (fun _ _ _ h => h) (by rfl) (by go_simp; rfl) HS ?_
                      refine HeldBy.skip (i := 11) rfl (by kernel_rfl) (by kernel_rfl) (by kernel_rfl) (fun _ _ _ h => h) (by rfl) (by go_simp; rfl) HS ?_
                      refine HeldBy.skip (i := 12) rfl (by kernel_rfl) (by kernel_rfl) (by kernel_rfl) (fun _ _ _ h => h) (by rfl) (by go_simp; rfl) HS ?_
                      refine HeldBy.skip (i := 13) rfl (by kernel_rfl) (by kernel_rfl) (by kernel_rfl) (fun _ _ _ h => h) (by rfl) (by go_simp; rfl) HS ?_
                      refine HeldBy.skip (i := 14) rfl (by kernel_rfl) (by kernel_rfl) (by kernel_rfl) (fun _ _ _ h => h) (by rfl) (by go_simp; rfl) HS ?_
                      refine HeldBy.skip (i := 15) rfl (by kernel_rfl) (by kernel_rfl) (by kernel_rfl) (fun _ _ _ h => h) (by rfl) (by go_simp; rfl) HS ?_
                      refine HeldBy.skip (i := 16) rfl (by kernel_rfl) (by kernel_rfl) (by kernel_rfl) (fun _ _ _ h => h) (by rfl) (by go_simp; rfl) HS ?_
                      refine HeldBy.skip (i := 17) rfl (by kernel_rfl) (by kernel_rfl) (by kernel_rfl) (fun _ _ _ h => h) (by rfl) (by go_simp; rfl) HS ?_
                      refine HeldBy.skip (i := 18) rfl (by kernel_rfl) (by kernel_rfl) (by kernel_rfl) (fun _ _ _ h => h) (by rfl) (by go_simp; rfl) HS ?_
                      refine HeldBy.skip (i := 19) rfl (by kernel_rfl) (by kernel_rfl) (by kernel_rfl) (fun _ _ _ h => h) (by rfl) (by go_simp; rfl) HS ?_
                      refine HeldBy.take (i := 20) rfl (by kernel_rfl) (by kernel_rfl) (by kernel_rfl) (fun _ _ _ h => h) (by rfl) (fun _ _ => by first | (go_simp; rfl) | (go_simp; done)) (by go_simp; rfl) HS ?_
                      refine HeldBy.take (i := 21) rfl (by kernel_rfl) (by kernel_rfl) (by kernel_rfl) (fun _ _ _ h => h) (by rfl) (fun _ _ => by first | (go_simp; rfl) | (go_simp; done)) (by go_simp; rfl) HS ?_
                      refine wpAnyH_done (by kernel_rfl) ?_ _
                      have HL := Lib.hid HS
                      have hnx := Lib.hid (hNxM.out hsomeM (fun h0 => by omega))
                      clear HS HEm HEp hNoM hNxM hFaM2
                      go_wp2
                      go_roundw
                      case rel => exact ⟨m + 1, by first | rfl | (simp [hm0]; done), by omega, hnx.out, HL.out⟩
                      case measure => simp [intOf]; omega
                    · have hmpos : 0 < m := by omega
                      have hmm : m - 1 < lv.length := by omega
                      refine HeldBy.take (i := 8) (v := .bool true) rfl (by kernel_rfl) (by kernel_rfl) (by kernel_rfl) (fun _ _ _ h => h) (by rfl) (fun _ _ => by first | (go_simp; done) | (go_simp; omega)) (by go_simp; rfl) HS ?_
                      refine HeldBy.take (i := 9) rfl (by kernel_rfl) (by kernel_rfl) (by kernel_rfl) (fun _ _ _ h => h) (by rfl) (fun _ _ => by first | (go_simp; rfl) | (go_simp; done)) (by go_simp; rfl) HS ?_
                      refine HeldBy.take (i := 10) rfl (by kernel_rfl) (by kernel_rfl) (by kernel_rfl) (fun _ _ _ h => h) (by rfl) (fun _ _ => by first | (go_simp; rfl) | (go_simp; done)) (by go_simp; rfl) HS ?_
                      refine HeldBy.take (i := 11) rfl (by kernel_rfl) (by kernel_rfl) (by kernel_rfl) (fun _ _ _ h => h) (by rfl) (fun _ _ => by first | (go_simp; rfl) | (go_simp; done)) (by go_simp; rfl) HS ?_
                      refine HeldBy.take (i := 12) (v := .pointer (some ⟨gv, fv + m, none⟩)) rfl (by kernel_rfl) (by kernel_rfl) (by kernel_rfl) (fun _ _ _ h => h) (by rfl) (fun _ _ => by go_simp) (by go_simp; rfl) HS ?_
                      refine HeldBy.take (i := 13) rfl (by kernel_rfl) (by kernel_rfl) (by kernel_rfl) (fun _ _ _ h => h) (by rfl) (fun V h => by have c := HEm.out V h; go_simp; rfl) (by go_simp; rfl) HS ?_
                      refine HeldBy.take (i := 14) rfl (by kernel_rfl) (by kernel_rfl) (by kernel_rfl) (fun _ _ _ h => h) (by rfl) (fun _ _ => by first | (go_simp; rfl) | (go_simp; done)) (by go_simp; rfl) HS ?_
                      refine HeldBy.take (i := 15) rfl (by kernel_rfl) (by kernel_rfl) (by kernel_rfl) (fun _ _ _ h => h) (by rfl) (fun _ _ => by first | (go_simp; rfl) | (go_simp; done)) (by go_simp; rfl) HS ?_
                      refine HeldBy.take (i := 16) (v := .int .i64 ((m - 1 : Nat) : Int)) rfl (by kernel_rfl) (by kernel_rfl) (by kernel_rfl) (fun _ _ _ h => h) (by rfl) (fun _ _ => by go_simp; rw [IntWalk.i64_in _ (by omega)]; omega) (by go_simp; rfl) HS ?_
                      refine HeldBy.take (i := 17) (v := .pointer (some ⟨gv, fv + (m - 1), none⟩)) rfl (by kernel_rfl) (by kernel_rfl) (by kernel_rfl) (fun _ _ _ h => h) (by rfl) (fun _ _ => by first | (go_simp; done) | (go_simp; omega)) (by go_simp; rfl) HS ?_
                      refine HeldBy.take (i := 18) rfl (by kernel_rfl) (by kernel_rfl) (by kernel_rfl) (fun _ _ _ h => h) (by rfl) (fun V h => by have c := HEp.out V h hmpos; go_simp; rfl) (by go_simp; rfl) HS ?_
                      cases hleM : leB y (lv[m - 1]'hmm) with
                      | true =>
                        obtain rfl : R = false := hFaM2.out hmpos hleM
                        refine HeldBy.take (i := 19) (v := .bool true) rfl (by kernel_rfl) (by kernel_rfl) (by kernel_rfl) (fun _ _ _ h => h) (by rfl) (fun _ _ => by go_simp; rw [leq_any, hleM]; go_simp) (by go_simp; rfl) HS ?_
                        refine HeldBy.take (i := 20) rfl (by kernel_rfl) (by kernel_rfl) (by kernel_rfl) (fun _ _ _ h => h) (by rfl) (fun _ _ => by first | (go_simp; rfl) | (go_simp; done)) (by go_simp; rfl) HS ?_
                        refine HeldBy.take (i := 21) rfl (by kernel_rfl) (by kernel_rfl) (by kernel_rfl) (fun _ _ _ h => h) (by rfl) (fun _ _ => by first | (go_simp; rfl) | (go_simp; done)) (by go_simp; rfl) HS ?_
                        refine wpAnyH_done (by kernel_rfl) ?_ _
                        have HL := Lib.hid HS
                        clear HS HCk HCp hNx2 HNo hFa2 HEm HEp hNoM hNxM hFaM2 hleM
                        go_wp2
                        go_ret
                        exact ⟨rfl, HL.out⟩
                      | false =>
                        refine HeldBy.take (i := 19) (v := .bool false) rfl (by kernel_rfl) (by kernel_rfl) (by kernel_rfl) (fun _ _ _ h => h) (by rfl) (fun _ _ => by go_simp; rw [leq_any, hleM]; go_simp) (by go_simp; rfl) HS ?_
                        refine HeldBy.take (i := 20) rfl (by kernel_rfl) (by kernel_rfl) (by kernel_rfl) (fun _ _ _ h => h) (by rfl) (fun _ _ => by first | (go_simp; rfl) | (go_simp; done)) (by go_simp; rfl) HS ?_
                        refine HeldBy.take (i := 21) rfl (by kernel_rfl) (by kernel_rfl) (by kernel_rfl) (fun _ _ _ h => h) (by rfl) (fun _ _ => by first | (go_simp; rfl) | (go_simp; done)) (by go_simp; rfl) HS ?_
                        refine wpAnyH_done (by kernel_rfl) ?_ _
                        have HL := Lib.hid HS
                        have hnx := Lib.hid (hNxM.out hsomeM (fun h0 => hleM))
                        clear HS HEm HEp hNoM hNxM hFaM2 hleM
                        go_wp2
                        go_roundw
                        case rel => exact ⟨m + 1, by first | rfl | (simp [hm0]; done), by omega, hnx.out, HL.out⟩
                        case measure => simp [intOf]; omega
                · have hsomeT : (prT ((ka, lv), Value.slice vo n vc)).isSome = true := by
                    refine prT_some HW.out (fun e => ?_) ⟨?_, ?_⟩
                    · have h0 : lv = [] := e
                      have := HNv.out
                      rw [h0] at this
                      simp at this
                      omega
                    · show lv.length ≤ 8
                      rw [← HNv.out]; omega
                    · show Printed rdWord keyWord lv lv.length
                      rw [← HNv.out]
                      have hmn2 : m = n := by omega
                      rw [← hmn2]
                      exact HPr.out
                  have hnx := Lib.hid (hNx2.out hsomeT HRise.out)
                  clear HPr HNo hNx2 hFa2 HRise
                  go_wp2
                  go_roundw
                  case rel => exact ⟨k + 1, by first | rfl | (simp [hk0]; done), by omega, hnx.out, HLow.out⟩
                  case measure => simp [intOf]; omega
        · have hkpos : 0 < k := by omega
          have hkm : k - 1 < l.length := by omega
          refine HeldBy.take (i := 9) (v := .bool true) rfl (by kernel_rfl) (by kernel_rfl) (by kernel_rfl) (fun _ _ _ h => h) (by rfl) (fun _ _ => by first | (go_simp; done) | (go_simp; omega)) (by go_simp; rfl) HS ?_
          refine HeldBy.take (i := 10) rfl (by kernel_rfl) (by kernel_rfl) (by kernel_rfl) (fun _ _ _ h => h) (by rfl) (fun _ _ => by first | (go_simp; rfl) | (go_simp; done)) (by go_simp; rfl) HS ?_
          refine HeldBy.take (i := 11) rfl (by kernel_rfl) (by kernel_rfl) (by kernel_rfl) (fun _ _ _ h => h) (by rfl) (fun _ _ => by first | (go_simp; rfl) | (go_simp; done)) (by go_simp; rfl) HS ?_
          refine HeldBy.take (i := 12) rfl (by kernel_rfl) (by kernel_rfl) (by kernel_rfl) (fun _ _ _ h => h) (by rfl) (fun _ _ => by first | (go_simp; rfl) | (go_simp; done)) (by go_simp; rfl) HS ?_
          refine HeldBy.take (i := 13) (v := .pointer (some ⟨g, off + k * 2, none⟩)) rfl (by kernel_rfl) (by kernel_rfl) (by kernel_rfl) (fun _ _ _ h => h) (by rfl) (fun _ _ => by go_simp) (by go_simp; rfl) HS ?_
          refine HeldBy.take (i := 14) rfl (by kernel_rfl) (by kernel_rfl) (by kernel_rfl) (fun _ _ _ h => h) (by rfl) (fun _ _ => by first | (go_simp; rfl) | (go_simp; done)) (by go_simp; rfl) HS ?_
          refine HeldBy.take (i := 15) rfl (by kernel_rfl) (by kernel_rfl) (by kernel_rfl) (fun _ _ _ h => h) (by rfl) (fun V h => by have c := (HCk.out V h).1; go_simp; rfl) (by go_simp; rfl) HS ?_
          refine HeldBy.take (i := 16) rfl (by kernel_rfl) (by kernel_rfl) (by kernel_rfl) (fun _ _ _ h => h) (by rfl) (fun _ _ => by first | (go_simp; rfl) | (go_simp; done)) (by go_simp; rfl) HS ?_
          refine HeldBy.take (i := 17) rfl (by kernel_rfl) (by kernel_rfl) (by kernel_rfl) (fun _ _ _ h => h) (by rfl) (fun _ _ => by first | (go_simp; rfl) | (go_simp; done)) (by go_simp; rfl) HS ?_
          refine HeldBy.take (i := 18) (v := .int .i64 ((k - 1 : Nat) : Int)) rfl (by kernel_rfl) (by kernel_rfl) (by kernel_rfl) (fun _ _ _ h => h) (by rfl) (fun _ _ => by go_simp; rw [IntWalk.i64_in _ (by omega)]; omega) (by go_simp; rfl) HS ?_
          refine HeldBy.take (i := 19) (v := .pointer (some ⟨g, off + (k - 1) * 2, none⟩)) rfl (by kernel_rfl) (by kernel_rfl) (by kernel_rfl) (fun _ _ _ h => h) (by rfl) (fun _ _ => by first | (go_simp; done) | (go_simp; omega)) (by go_simp; rfl) HS ?_
          refine HeldBy.take (i := 20) rfl (by kernel_rfl) (by kernel_rfl) (by kernel_rfl) (fun _ _ _ h => h) (by rfl) (fun _ _ => by first | (go_simp; rfl) | (go_simp; done)) (by go_simp; rfl) HS ?_
          refine HeldBy.take (i := 21) rfl (by kernel_rfl) (by kernel_rfl) (by kernel_rfl) (fun _ _ _ h => h) (by rfl) (fun V h => by have c := HCp.out V h hkpos; go_simp; rfl) (by go_simp; rfl) HS ?_
          cases hle : leB ka (l[k - 1]'hkm).1.1 with
          | true =>
            obtain rfl : R = false := hFa2.out hkpos hle
            refine HeldBy.take (i := 22) (v := .bool true) rfl (by kernel_rfl) (by kernel_rfl) (by kernel_rfl) (fun _ _ _ h => h) (by rfl) (fun _ _ => by go_simp; rw [leq_any, hle]; go_simp) (by go_simp; rfl) HS ?_
            refine HeldBy.take (i := 23) rfl (by kernel_rfl) (by kernel_rfl) (by kernel_rfl) (fun _ _ _ h => h) (by rfl) (fun _ _ => by first | (go_simp; rfl) | (go_simp; done)) (by go_simp; rfl) HS ?_
            refine HeldBy.take (i := 24) rfl (by kernel_rfl) (by kernel_rfl) (by kernel_rfl) (fun _ _ _ h => h) (by rfl) (fun _ _ => by first | (go_simp; rfl) | (go_simp; done)) (by go_simp; rfl) HS ?_
            refine HeldBy.take (i := 25) rfl (by kernel_rfl) (by kernel_rfl) (by kernel_rfl) (fun _ _ _ h => h) (by rfl) (fun _ _ => by first | (go_simp; rfl) | (go_simp; done)) (by go_simp; rfl) HS ?_
            refine HeldBy.skip (i := 26) rfl (by kernel_rfl) (by kernel_rfl) (by kernel_rfl) (fun _ _ _ h => h) (by rfl) (by go_simp; rfl) HS ?_
            refine HeldBy.skip (i := 27) rfl (by kernel_rfl) (by kernel_rfl) (by kernel_rfl) (fun _ _ _ h => h) (by rfl) (by go_simp; rfl) HS ?_
            refine HeldBy.skip (i := 28) rfl (by kernel_rfl) (by kernel_rfl) (by kernel_rfl) (fun _ _ _ h => h) (by rfl) (by go_simp; rfl) HS ?_
            refine HeldBy.take (i := 29) rfl (by kernel_rfl) (by kernel_rfl) (by kernel_rfl) (fun _ _ _ h => h) (by rfl) (fun _ _ => by first | (go_simp; rfl) | (go_simp; done)) (by go_simp; rfl) HS ?_
            refine HeldBy.take (i := 30) rfl (by kernel_rfl) (by kernel_rfl) (by kernel_rfl) (fun _ _ _ h => h) (by rfl) (fun _ _ => by first | (go_simp; rfl) | (go_simp; done)) (by go_simp; rfl) HS ?_
            refine HeldBy.skip (i := 31) rfl (by kernel_rfl) (by kernel_rfl) (by kernel_rfl) (fun _ _ _ h => h) (by rfl) (by go_simp; rfl) HS ?_
            refine HeldBy.skip (i := 32) rfl (by kernel_rfl) (by kernel_rfl) (by kernel_rfl) (fun _ _ _ h => h) (by rfl) (by go_simp; rfl) HS ?_
            refine HeldBy.skip (i := 33) rfl (by kernel_rfl) (by kernel_rfl) (by kernel_rfl) (fun _ _ _ h => h) (by rfl) (by go_simp; rfl) HS ?_
            refine HeldBy.take (i := 34) rfl (by kernel_rfl) (by kernel_rfl) (by kernel_rfl) (fun _ _ _ h => h) (by rfl) (fun _ _ => by first | (go_simp; rfl) | (go_simp; done)) (by go_simp; rfl) HS ?_
            refine wpAnyH_done (by kernel_rfl) ?_ _
            have HL := Lib.hid HS
            clear HS HCk HCp hNx2 HNo hFa2
            go_wp2
            go_ret
            exact ⟨rfl, HL.out⟩
          | false =>
            have HRise : Hid (∀ h0 : 0 < k, leB ka (l[k - 1]'(by omega)).1.1 = false) := fun h0 => hle
            refine HeldBy.take (i := 22) (v := .bool false) rfl (by kernel_rfl) (by kernel_rfl) (by kernel_rfl) (fun _ _ _ h => h) (by rfl) (fun _ _ => by go_simp; rw [leq_any, hle]; go_simp) (by go_simp; rfl) HS ?_
            clear hle
            refine HeldBy.take (i := 23) rfl (by kernel_rfl) (by kernel_rfl) (by kernel_rfl) (fun _ _ _ h => h) (by rfl) (fun _ _ => by first | (go_simp; rfl) | (go_simp; done)) (by go_simp; rfl) HS ?_
            refine HeldBy.take (i := 24) rfl (by kernel_rfl) (by kernel_rfl) (by kernel_rfl) (fun _ _ _ h => h) (by rfl) (fun _ _ => by first | (go_simp; rfl) | (go_simp; done)) (by go_simp; rfl) HS ?_
            refine HeldBy.take (i := 25) rfl (by kernel_rfl) (by kernel_rfl) (by kernel_rfl) (fun _ _ _ h => h) (by rfl) (fun _ _ => by first | (go_simp; rfl) | (go_simp; done)) (by go_simp; rfl) HS ?_
            refine HeldBy.take (i := 26) rfl (by kernel_rfl) (by kernel_rfl) (by kernel_rfl) (fun _ _ _ h => h) (by rfl) (fun _ _ => by first | (go_simp; rfl) | (go_simp; done)) (by go_simp; rfl) HS ?_
            refine HeldBy.take (i := 27) rfl (by kernel_rfl) (by kernel_rfl) (by kernel_rfl) (fun _ _ _ h => h) (by rfl) (fun _ _ => by first | (go_simp; rfl) | (go_simp; done)) (by go_simp; rfl) HS ?_
            by_cases hn1 : n < 1
            · obtain rfl : R = false := HNo.out (prT_nil (List.length_eq_zero_iff.1 (by rw [← HNv.out]; omega)))
              refine HeldBy.take (i := 28) (v := .bool true) rfl (by kernel_rfl) (by kernel_rfl) (by kernel_rfl) (fun _ _ _ h => h) (by rfl) (fun _ _ => by first | (go_simp; done) | (go_simp; omega)) (by go_simp; rfl) HS ?_
              refine HeldBy.take (i := 29) rfl (by kernel_rfl) (by kernel_rfl) (by kernel_rfl) (fun _ _ _ h => h) (by rfl) (fun _ _ => by first | (go_simp; rfl) | (go_simp; done)) (by go_simp; rfl) HS ?_
              refine HeldBy.take (i := 30) rfl (by kernel_rfl) (by kernel_rfl) (by kernel_rfl) (fun _ _ _ h => h) (by rfl) (fun _ _ => by first | (go_simp; rfl) | (go_simp; done)) (by go_simp; rfl) HS ?_
              refine HeldBy.skip (i := 31) rfl (by kernel_rfl) (by kernel_rfl) (by kernel_rfl) (fun _ _ _ h => h) (by rfl) (by go_simp; rfl) HS ?_
              refine HeldBy.skip (i := 32) rfl (by kernel_rfl) (by kernel_rfl) (by kernel_rfl) (fun _ _ _ h => h) (by rfl) (by go_simp; rfl) HS ?_
              refine HeldBy.skip (i := 33) rfl (by kernel_rfl) (by kernel_rfl) (by kernel_rfl) (fun _ _ _ h => h) (by rfl) (by go_simp; rfl) HS ?_
              refine HeldBy.take (i := 34) rfl (by kernel_rfl) (by kernel_rfl) (by kernel_rfl) (fun _ _ _ h => h) (by rfl) (fun _ _ => by first | (go_simp; rfl) | (go_simp; done)) (by go_simp; rfl) HS ?_
              refine wpAnyH_done (by kernel_rfl) ?_ _
              have HL := Lib.hid HS
              clear HS HCk HCp hNx2 HNo hFa2
              go_wp2
              go_ret
              exact ⟨rfl, HL.out⟩
            · refine HeldBy.take (i := 28) (v := .bool false) rfl (by kernel_rfl) (by kernel_rfl) (by kernel_rfl) (fun _ _ _ h => h) (by rfl) (fun _ _ => by first | (go_simp; done) | (go_simp; omega)) (by go_simp; rfl) HS ?_
              refine HeldBy.take (i := 29) rfl (by kernel_rfl) (by kernel_rfl) (by kernel_rfl) (fun _ _ _ h => h) (by rfl) (fun _ _ => by first | (go_simp; rfl) | (go_simp; done)) (by go_simp; rfl) HS ?_
              refine HeldBy.take (i := 30) rfl (by kernel_rfl) (by kernel_rfl) (by kernel_rfl) (fun _ _ _ h => h) (by rfl) (fun _ _ => by first | (go_simp; rfl) | (go_simp; done)) (by go_simp; rfl) HS ?_
              refine HeldBy.take (i := 31) rfl (by kernel_rfl) (by kernel_rfl) (by kernel_rfl) (fun _ _ _ h => h) (by rfl) (fun _ _ => by first | (go_simp; rfl) | (go_simp; done)) (by go_simp; rfl) HS ?_
              refine HeldBy.take (i := 32) rfl (by kernel_rfl) (by kernel_rfl) (by kernel_rfl) (fun _ _ _ h => h) (by rfl) (fun _ _ => by first | (go_simp; rfl) | (go_simp; done)) (by go_simp; rfl) HS ?_
              by_cases hn8 : 8 < n
              · obtain rfl : R = false := HNo.out (prT_none (print_long _ _ (by show ¬ lv.length ≤ 8; rw [← HNv.out]; omega)))
                refine HeldBy.take (i := 33) (v := .bool true) rfl (by kernel_rfl) (by kernel_rfl) (by kernel_rfl) (fun _ _ _ h => h) (by rfl) (fun _ _ => by first | (go_simp; done) | (go_simp; omega)) (by go_simp; rfl) HS ?_
                refine HeldBy.take (i := 34) rfl (by kernel_rfl) (by kernel_rfl) (by kernel_rfl) (fun _ _ _ h => h) (by rfl) (fun _ _ => by first | (go_simp; rfl) | (go_simp; done)) (by go_simp; rfl) HS ?_
                refine wpAnyH_done (by kernel_rfl) ?_ _
                have HL := Lib.hid HS
                clear HS HCk HCp hNx2 HNo hFa2
                go_wp2
                go_ret
                exact ⟨rfl, HL.out⟩
              · refine HeldBy.take (i := 33) (v := .bool false) rfl (by kernel_rfl) (by kernel_rfl) (by kernel_rfl) (fun _ _ _ h => h) (by rfl) (fun _ _ => by first | (go_simp; done) | (go_simp; omega)) (by go_simp; rfl) HS ?_
                refine HeldBy.take (i := 34) rfl (by kernel_rfl) (by kernel_rfl) (by kernel_rfl) (fun _ _ _ h => h) (by rfl) (fun _ _ => by first | (go_simp; rfl) | (go_simp; done)) (by go_simp; rfl) HS ?_
                refine wpAnyH_done (by kernel_rfl) ?_ _
                have HLow := Lib.hid HS
                clear HS
                go_wp2
                go_loopw [5] (fun i wr => ∃ m : Nat, i = .int .i64 (m : Int) ∧ m ≤ n ∧ Printed rdWord keyWord lv m ∧ Below w.heap.size w wr) (fun i _ => (n - intOf i).toNat)
                case atStart => exact ⟨0, rfl, Nat.zero_le _, Printed.zero _ _ _, HLow.out⟩
                case round =>
                  clear HLow
                  obtain ⟨m, rfl, hmn, hpr, hlow⟩ := hrel
                  have HPr := Lib.hid hpr
                  have HLow := Lib.hid hlow
                  clear hpr hlow
                  by_cases hml : m < n
                  · have hml' : m < lv.length := by rw [← HNv.out]; exact hml
                    obtain ⟨gv, fv, rfl, -⟩ := (HCk.out _ HLow.out).2.2.at m hml'
                    have HE : Hid (∀ V, Below w.heap.size w V → ∀ j (hj : j < lv.length), V.cell? ⟨gv, fv + j, none⟩ = some (encS lv[j])) := fun V hV j hj => by
                      obtain ⟨g', f', h1, h2⟩ := (HCk.out V hV).2.2.at j hj
                      cases h1
                      exact h2
                    have hNoM : Hid (rdWord lv[m] = none → R = false) := fun h => HNo.out (prT_none (print_no _ _ hml' h))
                    have hFaM : Hid (∀ h0 : 0 < m, leB lv[m] (lv[m - 1]'(by omega)) = true → R = false) := fun h0 h => by
                      obtain ⟨j, rfl⟩ : ∃ j, m = j + 1 := ⟨m - 1, by omega⟩
                      exact HNo.out (prT_none (print_fall _ _ hml' h))
                    have hNxM : Hid ((rdWord lv[m]).isSome = true → (∀ h0 : 0 < m, leB lv[m] (lv[m - 1]'(by omega)) = false) → Printed rdWord keyWord lv (m + 1)) := fun hs h2 => HPr.out.next _ _ hml' hs h2
                    have HEm := Lib.hid fun V hV => HE.out V hV m hml'
                    have HEp : Hid (∀ (V : World), Below w.heap.size w V → ∀ h0 : 0 < m, V.cell? ⟨gv, fv + (m - 1), none⟩ = some (encS (lv[m - 1]'(by omega)))) := fun V hV h0 => HE.out V hV (m - 1) (by omega)
                    have hzm := HZv.out lv[m] (List.getElem_mem hml')
                    clear HE HPr
                    obtain ⟨y, hy⟩ : ∃ y, lv[m] = y := ⟨_, rfl⟩
                    rw [hy] at hNoM hNxM HEm hzm
                    have hFaM2 : Hid (∀ h0 : 0 < m, leB y (lv[m - 1]'(by omega)) = true → R = false) := fun h0 h => hFaM.out h0 (by rw [hy]; exact h)
                    clear hFaM hy
                    have hwm := fun V => refWord_any y V hzm
                    go_upto_region 10 with (fail)
                    refine wp_region_held_drew (S := fun V => Below w.heap.size w V) (by kernel_rfl) HLow.out.drew (fun _ => ?_)
                    refine HeldBy.gen (fun V => Below w.heap.size w V) HLow.out.drew ?_
                    clear HLow
                    rintro U2 HS
                    refine HeldBy.take (i := 0) rfl (by kernel_rfl) (by kernel_rfl) (by kernel_rfl) (fun _ _ _ h => h) (by rfl) (fun _ _ => by first | (go_simp; rfl) | (go_simp; done)) (by go_simp; rfl) HS ?_
                    refine HeldBy.take (i := 1) rfl (by kernel_rfl) (by kernel_rfl) (by kernel_rfl) (fun _ _ _ h => h) (by rfl) (fun _ _ => by first | (go_simp; rfl) | (go_simp; done)) (by go_simp; rfl) HS ?_
                    refine HeldBy.take (i := 2) (v := .pointer (some ⟨gv, fv + m, none⟩)) rfl (by kernel_rfl) (by kernel_rfl) (by kernel_rfl) (fun _ _ _ h => h) (by rfl) (fun _ _ => by go_simp) (by go_simp; rfl) HS ?_
                    refine HeldBy.take (i := 3) rfl (by kernel_rfl) (by kernel_rfl) (by kernel_rfl) (fun _ _ _ h => h) (by rfl) (fun V h => by have c := HEm.out V h; go_simp; rfl) (by go_simp; rfl) HS ?_
                    refine HeldBy.callE (i := 4) rfl (by kernel_rfl) (by rfl) (by go_simp; exact ⟨rfl, rfl⟩) (by intro v; go_simp; rfl) ?_
                    refine (hwm _).mono ?_
                    rintro e U3 ⟨rfl, rfl⟩
                    refine .inl ⟨_, rfl, HS, ?_⟩
                    cases hwy : wordB y with
                    | false =>
                      obtain rfl : R = false := hNoM.out (by unfold rdWord; simp [hwy])
                      refine HeldBy.take (i := 5) rfl (by kernel_rfl) (by kernel_rfl) (by kernel_rfl) (fun _ _ _ h => h) (by rfl) (fun _ _ => by first | (go_simp; rfl) | (go_simp; done)) (by go_simp; rfl) HS ?_
                      refine HeldBy.take (i := 6) rfl (by kernel_rfl) (by kernel_rfl) (by kernel_rfl) (fun _ _ _ h => h) (by rfl) (fun _ _ => by first | (go_simp; rfl) | (go_simp; done)) (by go_simp; rfl) HS ?_
                      refine HeldBy.skip (i := 7) rfl (by kernel_rfl) (by kernel_rfl) (by kernel_rfl) (fun _ _ _ h => h) (by rfl) (by go_simp; rfl) HS ?_
                      refine HeldBy.skip (i := 8) rfl (by kernel_rfl) (by kernel_rfl) (by kernel_rfl) (fun _ _ _ h => h) (by rfl) (by go_simp; rfl) HS ?_
                      refine HeldBy.skip (i := 9) rfl (by kernel_rfl) (by kernel_rfl) (by kernel_rfl) (fun _ _ _ h => h) (by rfl) (by go_simp; rfl) HS ?_
                      refine HeldBy.skip (i := 10) rfl (by kernel_rfl) (by kernel_rfl) (by kernel_rfl) (fun _ _ _ h => h) (by rfl) (by go_simp; rfl) HS ?_
                      refine HeldBy.skip (i := 11) rfl (by kernel_rfl) (by kernel_rfl) (by kernel_rfl) (fun _ _ _ h => h) (by rfl) (by go_simp; rfl) HS ?_
                      refine HeldBy.skip (i := 12) rfl (by kernel_rfl) (by kernel_rfl) (by kernel_rfl) (fun _ _ _ h => h) (by rfl) (by go_simp; rfl) HS ?_
                      refine HeldBy.skip (i := 13) rfl (by kernel_rfl) (by kernel_rfl) (by kernel_rfl) (fun _ _ _ h => h) (by rfl) (by go_simp; rfl) HS ?_
                      refine HeldBy.skip (i := 14) rfl (by kernel_rfl) (by kernel_rfl) (by kernel_rfl) (fun _ _ _ h => h) (by rfl) (by go_simp; rfl) HS ?_
                      refine HeldBy.skip (i := 15) rfl (by kernel_rfl) (by kernel_rfl) (by kernel_rfl) (fun _ _ _ h => h) (by rfl) (by go_simp; rfl) HS ?_
                      refine HeldBy.skip (i := 16) rfl (by kernel_rfl) (by kernel_rfl) (by kernel_rfl) (fun _ _ _ h => h) (by rfl) (by go_simp; rfl) HS ?_
                      refine HeldBy.skip (i := 17) rfl (by kernel_rfl) (by kernel_rfl) (by kernel_rfl) (fun _ _ _ h => h) (by rfl) (by go_simp; rfl) HS ?_
                      refine HeldBy.skip (i := 18) rfl (by kernel_rfl) (by kernel_rfl) (by kernel_rfl) (fun _ _ _ h => h) (by rfl) (by go_simp; rfl) HS ?_
                      refine HeldBy.skip (i := 19) rfl (by kernel_rfl) (by kernel_rfl) (by kernel_rfl) (fun _ _ _ h => h) (by rfl) (by go_simp; rfl) HS ?_
                      refine HeldBy.skip (i := 20) rfl (by kernel_rfl) (by kernel_rfl) (by kernel_rfl) (fun _ _ _ h => h) (by rfl) (by go_simp; rfl) HS ?_
                      refine HeldBy.take (i := 21) rfl (by kernel_rfl) (by kernel_rfl) (by kernel_rfl) (fun _ _ _ h => h) (by rfl) (fun _ _ => by first | (go_simp; rfl) | (go_simp; done)) (by go_simp; rfl) HS ?_
                      refine wpAnyH_done (by kernel_rfl) ?_ _
                      have HL := Lib.hid HS
                      clear HS HCk HCp hNx2 HNo hFa2 HEm HEp hNoM hNxM hFaM2 hwy
                      go_wp2
                      go_ret
                      exact ⟨rfl, HL.out⟩
                    | true =>
                      have hsomeM : (rdWord y).isSome = true := by unfold rdWord; simp [hwy]
                      clear hwy
                      refine HeldBy.take (i := 5) rfl (by kernel_rfl) (by kernel_rfl) (by kernel_rfl) (fun _ _ _ h => h) (by rfl) (fun _ _ => by first | (go_simp; rfl) | (go_simp; done)) (by go_simp; rfl) HS ?_
                      refine HeldBy.take (i := 6) rfl (by kernel_rfl) (by kernel_rfl) (by kernel_rfl) (fun _ _ _ h => h) (by rfl) (fun _ _ => by first | (go_simp; rfl) | (go_simp; done)) (by go_simp; rfl) HS ?_
                      refine HeldBy.take (i := 7) rfl (by kernel_rfl) (by kernel_rfl) (by kernel_rfl) (fun _ _ _ h => h) (by rfl) (fun _ _ => by first | (go_simp; rfl) | (go_simp; done)) (by go_simp; rfl) HS ?_
                      by_cases hm0 : m = 0
                      · refine HeldBy.take (i := 8) (v := .bool false) rfl (by kernel_rfl) (by kernel_rfl) (by kernel_rfl) (fun _ _ _ h => h) (by rfl) (fun _ _ => by first | (go_simp; done) | (go_simp; omega)) (by go_simp; rfl) HS ?_
                        refine HeldBy.take (i := 9) rfl (by kernel_rfl) (by kernel_rfl) (by kernel_rfl) (fun _ _ _ h => h) (by rfl) (fun _ _ => by first | (go_simp; rfl) | (go_simp; done)) (by go_simp; rfl) HS ?_
                        refine HeldBy.skip (i := 10) rfl (by kernel_rfl) (by kernel_rfl) (by kernel_rfl) (fun _ _ _ h => h) (by rfl) (by go_simp; rfl) HS ?_
                        refine HeldBy.skip (i := 11) rfl (by kernel_rfl) (by kernel_rfl) (by kernel_rfl) (fun _ _ _ h => h) (by rfl) (by go_simp; rfl) HS ?_
                        refine HeldBy.skip (i := 12) rfl (by kernel_rfl) (by kernel_rfl) (by kernel_rfl) (fun _ _ _ h => h) (by rfl) (by go_simp; rfl) HS ?_
                        refine HeldBy.skip (i := 13) rfl (by kernel_rfl) (by kernel_rfl) (by kernel_rfl) (fun _ _ _ h => h) (by rfl) (by go_simp; rfl) HS ?_
                        refine HeldBy.skip (i := 14) rfl (by kernel_rfl) (by kernel_rfl) (by kernel_rfl) (fun _ _ _ h => h) (by rfl) (by go_simp; rfl) HS ?_
                        refine HeldBy.skip (i := 15) rfl (by kernel_rfl) (by kernel_rfl) (by kernel_rfl) (fun _ _ _ h => h) (by rfl) (by go_simp; rfl) HS ?_
                        refine HeldBy.skip (i := 16) rfl (by kernel_rfl) (by kernel_rfl) (by kernel_rfl) (fun _ _ _ h => h) (by rfl) (by go_simp; rfl) HS ?_
                        refine HeldBy.skip (i := 17) rfl (by kernel_rfl) (by kernel_rfl) (by kernel_rfl) (fun _ _ _ h => h) (by rfl) (by go_simp; rfl) HS ?_
                        refine HeldBy.skip (i := 18) rfl (by kernel_rfl) (by kernel_rfl) (by kernel_rfl) (fun _ _ _ h => h) (by rfl) (by go_simp; rfl) HS ?_
                        refine HeldBy.skip (i := 19) rfl (by kernel_rfl) (by kernel_rfl) (by kernel_rfl) (fun _ _ _ h => h) (by rfl) (by go_simp; rfl) HS ?_
                        refine HeldBy.take (i := 20) rfl (by kernel_rfl) (by kernel_rfl) (by kernel_rfl) (fun _ _ _ h => h) (by rfl) (fun _ _ => by first | (go_simp; rfl) | (go_simp; done)) (by go_simp; rfl) HS ?_
                        refine HeldBy.take (i := 21) rfl (by kernel_rfl) (by kernel_rfl) (by kernel_rfl) (fun _ _ _ h => h) (by rfl) (fun _ _ => by first | (go_simp; rfl) | (go_simp; done)) (by go_simp; rfl) HS ?_
                        refine wpAnyH_done (by kernel_rfl) ?_ _
                        have HL := Lib.hid HS
                        have hnx := Lib.hid (hNxM.out hsomeM (fun h0 => by omega))
                        clear HS HEm HEp hNoM hNxM hFaM2
                        go_wp2
                        go_roundw
                        case rel => exact ⟨m + 1, by first | rfl | (simp [hm0]; done), by omega, hnx.out, HL.out⟩
                        case measure => simp [intOf]; omega
                      · have hmpos : 0 < m := by omega
                        have hmm : m - 1 < lv.length := by omega
                        refine HeldBy.take (i := 8) (v := .bool true) rfl (by kernel_rfl) (by kernel_rfl) (by kernel_rfl) (fun _ _ _ h => h) (by rfl) (fun _ _ => by first | (go_simp; done) | (go_simp; omega)) (by go_simp; rfl) HS ?_
                        refine HeldBy.take (i := 9) rfl (by kernel_rfl) (by kernel_rfl) (by kernel_rfl) (fun _ _ _ h => h) (by rfl) (fun _ _ => by first | (go_simp; rfl) | (go_simp; done)) (by go_simp; rfl) HS ?_
                        refine HeldBy.take (i := 10) rfl (by kernel_rfl) (by kernel_rfl) (by kernel_rfl) (fun _ _ _ h => h) (by rfl) (fun _ _ => by first | (go_simp; rfl) | (go_simp; done)) (by go_simp; rfl) HS ?_
                        refine HeldBy.take (i := 11) rfl (by kernel_rfl) (by kernel_rfl) (by kernel_rfl) (fun _ _ _ h => h) (by rfl) (fun _ _ => by first | (go_simp; rfl) | (go_simp; done)) (by go_simp; rfl) HS ?_
                        refine HeldBy.take (i := 12) (v := .pointer (some ⟨gv, fv + m, none⟩)) rfl (by kernel_rfl) (by kernel_rfl) (by kernel_rfl) (fun _ _ _ h => h) (by rfl) (fun _ _ => by go_simp) (by go_simp; rfl) HS ?_
                        refine HeldBy.take (i := 13) rfl (by kernel_rfl) (by kernel_rfl) (by kernel_rfl) (fun _ _ _ h => h) (by rfl) (fun V h => by have c := HEm.out V h; go_simp; rfl) (by go_simp; rfl) HS ?_
                        refine HeldBy.take (i := 14) rfl (by kernel_rfl) (by kernel_rfl) (by kernel_rfl) (fun _ _ _ h => h) (by rfl) (fun _ _ => by first | (go_simp; rfl) | (go_simp; done)) (by go_simp; rfl) HS ?_
                        refine HeldBy.take (i := 15) rfl (by kernel_rfl) (by kernel_rfl) (by kernel_rfl) (fun _ _ _ h => h) (by rfl) (fun _ _ => by first | (go_simp; rfl) | (go_simp; done)) (by go_simp; rfl) HS ?_
                        refine HeldBy.take (i := 16) (v := .int .i64 ((m - 1 : Nat) : Int)) rfl (by kernel_rfl) (by kernel_rfl) (by kernel_rfl) (fun _ _ _ h => h) (by rfl) (fun _ _ => by go_simp; rw [IntWalk.i64_in _ (by omega)]; omega) (by go_simp; rfl) HS ?_
                        refine HeldBy.take (i := 17) (v := .pointer (some ⟨gv, fv + (m - 1), none⟩)) rfl (by kernel_rfl) (by kernel_rfl) (by kernel_rfl) (fun _ _ _ h => h) (by rfl) (fun _ _ => by first | (go_simp; done) | (go_simp; omega)) (by go_simp; rfl) HS ?_
                        refine HeldBy.take (i := 18) rfl (by kernel_rfl) (by kernel_rfl) (by kernel_rfl) (fun _ _ _ h => h) (by rfl) (fun V h => by have c := HEp.out V h hmpos; go_simp; rfl) (by go_simp; rfl) HS ?_
                        cases hleM : leB y (lv[m - 1]'hmm) with
                        | true =>
                          obtain rfl : R = false := hFaM2.out hmpos hleM
                          refine HeldBy.take (i := 19) (v := .bool true) rfl (by kernel_rfl) (by kernel_rfl) (by kernel_rfl) (fun _ _ _ h => h) (by rfl) (fun _ _ => by go_simp; rw [leq_any, hleM]; go_simp) (by go_simp; rfl) HS ?_
                          refine HeldBy.take (i := 20) rfl (by kernel_rfl) (by kernel_rfl) (by kernel_rfl) (fun _ _ _ h => h) (by rfl) (fun _ _ => by first | (go_simp; rfl) | (go_simp; done)) (by go_simp; rfl) HS ?_
                          refine HeldBy.take (i := 21) rfl (by kernel_rfl) (by kernel_rfl) (by kernel_rfl) (fun _ _ _ h => h) (by rfl) (fun _ _ => by first | (go_simp; rfl) | (go_simp; done)) (by go_simp; rfl) HS ?_
                          refine wpAnyH_done (by kernel_rfl) ?_ _
                          have HL := Lib.hid HS
                          clear HS HCk HCp hNx2 HNo hFa2 HEm HEp hNoM hNxM hFaM2 hleM
                          go_wp2
                          go_ret
                          exact ⟨rfl, HL.out⟩
                        | false =>
                          refine HeldBy.take (i := 19) (v := .bool false) rfl (by kernel_rfl) (by kernel_rfl) (by kernel_rfl) (fun _ _ _ h => h) (by rfl) (fun _ _ => by go_simp; rw [leq_any, hleM]; go_simp) (by go_simp; rfl) HS ?_
                          refine HeldBy.take (i := 20) rfl (by kernel_rfl) (by kernel_rfl) (by kernel_rfl) (fun _ _ _ h => h) (by rfl) (fun _ _ => by first | (go_simp; rfl) | (go_simp; done)) (by go_simp; rfl) HS ?_
                          refine HeldBy.take (i := 21) rfl (by kernel_rfl) (by kernel_rfl) (by kernel_rfl) (fun _ _ _ h => h) (by rfl) (fun _ _ => by first | (go_simp; rfl) | (go_simp; done)) (by go_simp; rfl) HS ?_
                          refine wpAnyH_done (by kernel_rfl) ?_ _
                          have HL := Lib.hid HS
                          have hnx := Lib.hid (hNxM.out hsomeM (fun h0 => hleM))
                          clear HS HEm HEp hNoM hNxM hFaM2 hleM
                          go_wp2
                          go_roundw
                          case rel => exact ⟨m + 1, by first | rfl | (simp [hm0]; done), by omega, hnx.out, HL.out⟩
                          case measure => simp [intOf]; omega
                  · have hsomeT : (prT ((ka, lv), Value.slice vo n vc)).isSome = true := by
                      refine prT_some HW.out (fun e => ?_) ⟨?_, ?_⟩
                      · have h0 : lv = [] := e
                        have := HNv.out
                        rw [h0] at this
                        simp at this
                        omega
                      · show lv.length ≤ 8
                        rw [← HNv.out]; omega
                      · show Printed rdWord keyWord lv lv.length
                        rw [← HNv.out]
                        have hmn2 : m = n := by omega
                        rw [← hmn2]
                        exact HPr.out
                    have hnx := Lib.hid (hNx2.out hsomeT HRise.out)
                    clear HPr HNo hNx2 hFa2 HRise
                    go_wp2
                    go_roundw
                    case rel => exact ⟨k + 1, by first | rfl | (simp [hk0]; done), by omega, hnx.out, HLow.out⟩
                    case measure => simp [intOf]; omega
    · obtain rfl : k = N := by omega
      by_cases h8 : k ≤ 8
      · obtain rfl : R = true := by
          rw [← HR.out, print_done _ _ (by rw [← HN.out]; exact h8) (by rw [← HN.out]; exact HPr.out)]
          rfl
        go_wp2
        go_ret
        exact ⟨ret_bool (by simp; omega), HLow.out⟩
      · obtain rfl : R = false := by
          rw [← HR.out]
          exact right_no (print_long _ _ (by rw [← HN.out]; exact h8))
        go_wp2
        go_ret
        exact ⟨ret_bool (by simp; omega), HLow.out⟩
end Go.Proofs.Ytneogmcmkbhnaaa.T
