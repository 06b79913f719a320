/- The document's SameTerms. -/
import Derived.Test.YtneogmcmkbhnaaaTSameT
namespace Go.Proofs.Ytneogmcmkbhnaaa.T
open Go.RowKit Go.Lib

set_option maxRecDepth 100000 in
set_option maxHeartbeats 4000000 in
theorem sameTermsR_any (va vb : Value) (a b : List TB) (w : World) (h1 : TermsIn w va a) (h2 : TermsIn w vb b) :
    Calls Try.prog 27 #[va, vb] w fun e w' => e = .returned (.bool (decide (a.map Prod.fst = b.map Prod.fst))) ∧ Below w.heap.size w w' := by
  have H1 := Lib.hid h1
  have H2 := Lib.hid h2
  have hm := h1.len
  have hn := h2.len
  obtain ⟨o, c, rfl⟩ := h1.shape
  obtain ⟨p, d, rfl⟩ := h2.shape
  clear h1 h2
  obtain ⟨R, hR⟩ : ∃ R, decide (a.map Prod.fst = b.map Prod.fst) = R := ⟨_, rfl⟩
  rw [hR]
  have HR := Lib.hid hR
  clear hR
  obtain ⟨N, hN⟩ : ∃ N, N = a.length := ⟨_, rfl⟩
  rw [← hN] at H1 hm ⊢
  have HN := Lib.hid hN
  obtain ⟨M, hM⟩ : ∃ M, M = b.length := ⟨_, rfl⟩
  rw [← hM] at H2 hn ⊢
  have HM := Lib.hid hM
  clear hN hM
  by_cases hl : N = M
  · subst hl
    go_enter Try.func27, Try.ntmps27
    go_wp2
    go_loopw [5] (fun i wr => ∃ k : Nat, i = .int .i64 (k : Int) ∧ k ≤ N ∧ (∀ j (ha : j < a.length) (hb : j < b.length), j < k → a[j].1 = b[j].1) ∧ Below w.heap.size w wr) (fun i _ => (N - intOf i).toNat)
    case atStart => exact ⟨0, rfl, Nat.zero_le _, fun j _ _ h => by omega, Below.refl _ _⟩
    case round =>
      obtain ⟨k, rfl, hk, hno, hlow⟩ := hrel
      have HNo := Lib.hid hno
      have HLow := Lib.hid hlow
      clear hno hlow
      by_cases hkl : k < N
      · have hka : k < a.length := by rw [← HN.out]; exact hkl
        have hkb : k < b.length := by rw [← HM.out]; exact hkl
        obtain ⟨g, off, rfl, -, -, -, -⟩ := H1.out.at k hka
        obtain ⟨pg, pf, rfl, -, -, -, -⟩ := H2.out.at k hkb
        have HC : Hid (∀ V, Below w.heap.size w V → V.cell? ⟨g, off + k * 2, none⟩ = some (encS a[k].1.1) ∧ V.cell? ⟨g, off + k * 2 + 1, none⟩ = some a[k].2 ∧ StrsIn V a[k].2 a[k].1.2) := fun V hV => by
          obtain ⟨g', off', h1, -, h2, h3, h4⟩ := (H1.out.after hV).at k hka
          cases h1
          exact ⟨h2, h3, h4⟩
        have HD : Hid (∀ V, Below w.heap.size w V → V.cell? ⟨pg, pf + k * 2, none⟩ = some (encS b[k].1.1) ∧ V.cell? ⟨pg, pf + k * 2 + 1, none⟩ = some b[k].2 ∧ StrsIn V b[k].2 b[k].1.2) := fun V hV => by
          obtain ⟨g', off', h1, -, h2, h3, h4⟩ := (H2.out.after hV).at k hkb
          cases h1
          exact ⟨h2, h3, h4⟩
        have hyes : a[k].1 = b[k].1 → Hid (∀ j (ha : j < a.length) (hb : j < b.length), j < k + 1 → a[j].1 = b[j].1) := fun he => by
          show ∀ j (ha : j < a.length) (hb : j < b.length), j < k + 1 → a[j].1 = b[j].1
          intro j ha hb hj
          by_cases hjk : j < k
          · exact HNo.out j ha hb hjk
          · obtain rfl : j = k := by omega
            exact he
        have hnot : a[k].1 ≠ b[k].1 → Hid (R = false) := fun he => by
          show _ = _
          rw [← HR.out, same_fst_no hka hkb he]
        clear HNo
        generalize a[k] = x at HC hyes hnot
        generalize b[k] = y at HD hyes hnot
        obtain ⟨⟨kx, lx⟩, vx⟩ := x
        obtain ⟨⟨ky, ly⟩, vy⟩ := y
        dsimp only at HC HD hyes hnot
        obtain ⟨ox, cx, rfl⟩ := (HC.out wr HLow.out).2.2.len
        obtain ⟨oy, cy, rfl⟩ := (HD.out wr HLow.out).2.2.len
        have hlx := (HC.out wr HLow.out).2.2.slen
        have hly := (HD.out wr HLow.out).2.2.slen
        have HY := Lib.hid hyes
        have HZ := Lib.hid hnot
        clear hyes hnot
        go_upto_region 6 with (fail)
        refine wp_region_held_drew (S := fun V => Below w.heap.size w V) (by kernel_rfl) HLow.out.drew (fun _ => ?_)
        refine HeldBy.gen (fun V => Below w.heap.size w V) HLow.out.drew ?_
        clear HLow
        rintro U HS
        refine HeldBy.take (i := 0) rfl (by kernel_rfl) (by kernel_rfl) (by kernel_rfl) (fun _ _ _ h => h) (by rfl) (fun _ _ => by first | (go_simp; rfl) | (go_simp; done)) (by go_simp; rfl) HS ?_
        refine HeldBy.take (i := 1) rfl (by kernel_rfl) (by kernel_rfl) (by kernel_rfl) (fun _ _ _ h => h) (by rfl) (fun _ _ => by first | (go_simp; rfl) | (go_simp; done)) (by go_simp; rfl) HS ?_
        refine HeldBy.take (i := 2) (v := .pointer (some ⟨g, off + k * 2, none⟩)) rfl (by kernel_rfl) (by kernel_rfl) (by kernel_rfl) (fun _ _ _ h => h) (by rfl) (fun _ _ => by go_simp) (by go_simp; rfl) HS ?_
        refine HeldBy.take (i := 3) rfl (by kernel_rfl) (by kernel_rfl) (by kernel_rfl) (fun _ _ _ h => h) (by rfl) (fun _ _ => by first | (go_simp; rfl) | (go_simp; done)) (by go_simp; rfl) HS ?_
        refine HeldBy.take (i := 4) rfl (by kernel_rfl) (by kernel_rfl) (by kernel_rfl) (fun _ _ _ h => h) (by rfl) (fun V h => by have c := (HC.out V h).1; go_simp; rfl) (by go_simp; rfl) HS ?_
        refine HeldBy.take (i := 5) rfl (by kernel_rfl) (by kernel_rfl) (by kernel_rfl) (fun _ _ _ h => h) (by rfl) (fun _ _ => by first | (go_simp; rfl) | (go_simp; done)) (by go_simp; rfl) HS ?_
        refine HeldBy.take (i := 6) rfl (by kernel_rfl) (by kernel_rfl) (by kernel_rfl) (fun _ _ _ h => h) (by rfl) (fun _ _ => by first | (go_simp; rfl) | (go_simp; done)) (by go_simp; rfl) HS ?_
        refine HeldBy.take (i := 7) (v := .pointer (some ⟨pg, pf + k * 2, none⟩)) rfl (by kernel_rfl) (by kernel_rfl) (by kernel_rfl) (fun _ _ _ h => h) (by rfl) (fun _ _ => by go_simp) (by go_simp; rfl) HS ?_
        refine HeldBy.take (i := 8) rfl (by kernel_rfl) (by kernel_rfl) (by kernel_rfl) (fun _ _ _ h => h) (by rfl) (fun _ _ => by first | (go_simp; rfl) | (go_simp; done)) (by go_simp; rfl) HS ?_
        refine HeldBy.take (i := 9) rfl (by kernel_rfl) (by kernel_rfl) (by kernel_rfl) (fun _ _ _ h => h) (by rfl) (fun V h => by have c := (HD.out V h).1; go_simp; rfl) (by go_simp; rfl) HS ?_
        by_cases hke : kx = ky
        · subst hke
          refine HeldBy.take (i := 10) (v := .bool false) rfl (by kernel_rfl) (by kernel_rfl) (by kernel_rfl) (fun _ _ _ h => h) (by rfl) (fun _ _ => by go_simp; rw [neq_dec]; unfold encS; go_simp) (by go_simp; rfl) HS ?_
          refine HeldBy.take (i := 11) rfl (by kernel_rfl) (by kernel_rfl) (by kernel_rfl) (fun _ _ _ h => h) (by rfl) (fun _ _ => by first | (go_simp; rfl) | (go_simp; done)) (by go_simp; rfl) HS ?_
          refine HeldBy.take (i := 12) rfl (by kernel_rfl) (by kernel_rfl) (by kernel_rfl) (fun _ _ _ h => h) (by rfl) (fun _ _ => by first | (go_simp; rfl) | (go_simp; done)) (by go_simp; rfl) HS ?_
          refine HeldBy.take (i := 13) rfl (by kernel_rfl) (by kernel_rfl) (by kernel_rfl) (fun _ _ _ h => h) (by rfl) (fun _ _ => by first | (go_simp; rfl) | (go_simp; done)) (by go_simp; rfl) HS ?_
          refine HeldBy.take (i := 14) (v := .pointer (some ⟨g, off + k * 2, none⟩)) rfl (by kernel_rfl) (by kernel_rfl) (by kernel_rfl) (fun _ _ _ h => h) (by rfl) (fun _ _ => by go_simp) (by go_simp; rfl) HS ?_
          refine HeldBy.take (i := 15) rfl (by kernel_rfl) (by kernel_rfl) (by kernel_rfl) (fun _ _ _ h => h) (by rfl) (fun _ _ => by first | (go_simp; rfl) | (go_simp; done)) (by go_simp; rfl) HS ?_
          refine HeldBy.take (i := 16) rfl (by kernel_rfl) (by kernel_rfl) (by kernel_rfl) (fun _ _ _ h => h) (by rfl) (fun V h => by have c := (HC.out V h).2.1; go_simp; rfl) (by go_simp; rfl) HS ?_
          refine HeldBy.take (i := 17) rfl (by kernel_rfl) (by kernel_rfl) (by kernel_rfl) (fun _ _ _ h => h) (by rfl) (fun _ _ => by first | (go_simp; rfl) | (go_simp; done)) (by go_simp; rfl) HS ?_
          refine HeldBy.take (i := 18) rfl (by kernel_rfl) (by kernel_rfl) (by kernel_rfl) (fun _ _ _ h => h) (by rfl) (fun _ _ => by first | (go_simp; rfl) | (go_simp; done)) (by go_simp; rfl) HS ?_
          refine HeldBy.take (i := 19) rfl (by kernel_rfl) (by kernel_rfl) (by kernel_rfl) (fun _ _ _ h => h) (by rfl) (fun _ _ => by first | (go_simp; rfl) | (go_simp; done)) (by go_simp; rfl) HS ?_
          refine HeldBy.take (i := 20) (v := .pointer (some ⟨pg, pf + k * 2, none⟩)) rfl (by kernel_rfl) (by kernel_rfl) (by kernel_rfl) (fun _ _ _ h => h) (by rfl) (fun _ _ => by go_simp) (by go_simp; rfl) HS ?_
          refine HeldBy.take (i := 21) rfl (by kernel_rfl) (by kernel_rfl) (by kernel_rfl) (fun _ _ _ h => h) (by rfl) (fun _ _ => by first | (go_simp; rfl) | (go_simp; done)) (by go_simp; rfl) HS ?_
          refine HeldBy.take (i := 22) rfl (by kernel_rfl) (by kernel_rfl) (by kernel_rfl) (fun _ _ _ h => h) (by rfl) (fun V h => by have c := (HD.out V h).2.1; go_simp; rfl) (by go_simp; rfl) HS ?_
          refine HeldBy.take (i := 23) rfl (by kernel_rfl) (by kernel_rfl) (by kernel_rfl) (fun _ _ _ h => h) (by rfl) (fun _ _ => by first | (go_simp; rfl) | (go_simp; done)) (by go_simp; rfl) HS ?_
          by_cases hln : lx.length = ly.length
          · refine HeldBy.take (i := 24) (v := .bool false) rfl (by kernel_rfl) (by kernel_rfl) (by kernel_rfl) (fun _ _ _ h => h) (by rfl) (fun _ _ => by go_simp) (by go_simp; rfl) HS ?_
            refine HeldBy.take (i := 25) rfl (by kernel_rfl) (by kernel_rfl) (by kernel_rfl) (fun _ _ _ h => h) (by rfl) (fun _ _ => by first | (go_simp; rfl) | (go_simp; done)) (by go_simp; rfl) HS ?_
            refine wpAnyH_done (by kernel_rfl) ?_ _
            have HLow := Lib.hid HS
            clear HS
            obtain ⟨n, hn2⟩ : ∃ n, n = lx.length := ⟨_, rfl⟩
            rw [← hn2] at HC hlx
            rw [← hln, ← hn2] at HD
            have HN1 := Lib.hid hn2
            have HN2 := Lib.hid (hn2.trans hln)
            clear hn2 hln hly
            go_wp2
            go_loopw [6] (fun i wr => ∃ m : Nat, i = .int .i64 (m : Int) ∧ m ≤ n ∧ (∀ j (ha : j < lx.length) (hb : j < ly.length), j < m → lx[j] = ly[j]) ∧ Below w.heap.size w wr) (fun i _ => (n - intOf i).toNat)
            case atStart => exact ⟨0, rfl, Nat.zero_le _, fun j _ _ h => by omega, HLow.out⟩
            case round =>
              clear HLow
              obtain ⟨m, rfl, hmn, hno, hlow⟩ := hrel
              have HNo := Lib.hid hno
              have HLow := Lib.hid hlow
              clear hno hlow
              by_cases hml : m < n
              · have hma : m < lx.length := by rw [← HN1.out]; exact hml
                have hmb : m < ly.length := by rw [← HN2.out]; exact hml
                obtain ⟨gx, fx, rfl, -⟩ := (HC.out _ HLow.out).2.2.at m hma
                obtain ⟨gy, fy, rfl, -⟩ := (HD.out _ HLow.out).2.2.at m hmb
                have HE : Hid (∀ V, Below w.heap.size w V → V.cell? ⟨gx, fx + m, none⟩ = some (encS lx[m])) := fun V hV => by
                  obtain ⟨g', f', h1, h2⟩ := (HC.out V hV).2.2.at m hma
                  cases h1
                  exact h2
                have HG : Hid (∀ V, Below w.heap.size w V → V.cell? ⟨gy, fy + m, none⟩ = some (encS ly[m])) := fun V hV => by
                  obtain ⟨g', f', h1, h2⟩ := (HD.out V hV).2.2.at m hmb
                  cases h1
                  exact h2
                have hcase : (!decide (lx[m] = ly[m])) = false ∧ Hid (∀ j (ha : j < lx.length) (hb : j < ly.length), j < m + 1 → lx[j] = ly[j]) ∨ (!decide (lx[m] = ly[m])) = true ∧ Hid (R = false) := by
                  by_cases he : lx[m] = ly[m]
                  · refine .inl ⟨by simp [he], ?_⟩
                    show ∀ j (ha : j < lx.length) (hb : j < ly.length), j < m + 1 → lx[j] = ly[j]
                    intro j ha hb hj
                    by_cases hjk : j < m
                    · exact HNo.out j ha hb hjk
                    · obtain rfl : j = m := by omega
                      exact he
                  · refine .inr ⟨by simp [he], HZ.out ?_⟩
                    simp only [ne_eq, Prod.mk.injEq, not_and]
                    rintro - rfl
                    exact he rfl
                clear HNo
                generalize lx[m] = sx at HE hcase
                generalize ly[m] = sy at HG hcase
                have c1 := (HC.out _ HLow.out).2.1
                go_upto_region 11 with (fail)
                clear c1
                refine wp_region_held_drew (S := fun V => Below w.heap.size w V) (by kernel_rfl) HLow.out.drew (fun _ => ?_)
                refine HeldBy.gen (fun V => Below w.heap.size w V) HLow.out.drew ?_
                clear HLow
                rintro U2 HS
                refine HeldBy.take (i := 0) rfl (by kernel_rfl) (by kernel_rfl) (by kernel_rfl) (fun _ _ _ h => h) (by rfl) (fun _ _ => by first | (go_simp; rfl) | (go_simp; done)) (by go_simp; rfl) HS ?_
                refine HeldBy.take (i := 1) rfl (by kernel_rfl) (by kernel_rfl) (by kernel_rfl) (fun _ _ _ h => h) (by rfl) (fun _ _ => by first | (go_simp; rfl) | (go_simp; done)) (by go_simp; rfl) HS ?_
                refine HeldBy.take (i := 2) (v := .pointer (some ⟨g, off + k * 2, none⟩)) rfl (by kernel_rfl) (by kernel_rfl) (by kernel_rfl) (fun _ _ _ h => h) (by rfl) (fun _ _ => by go_simp) (by go_simp; rfl) HS ?_
                refine HeldBy.take (i := 3) rfl (by kernel_rfl) (by kernel_rfl) (by kernel_rfl) (fun _ _ _ h => h) (by rfl) (fun _ _ => by first | (go_simp; rfl) | (go_simp; done)) (by go_simp; rfl) HS ?_
                refine HeldBy.take (i := 4) rfl (by kernel_rfl) (by kernel_rfl) (by kernel_rfl) (fun _ _ _ h => h) (by rfl) (fun V h => by have c := (HC.out V h).2.1; go_simp; rfl) (by go_simp; rfl) HS ?_
                refine HeldBy.take (i := 5) rfl (by kernel_rfl) (by kernel_rfl) (by kernel_rfl) (fun _ _ _ h => h) (by rfl) (fun _ _ => by first | (go_simp; rfl) | (go_simp; done)) (by go_simp; rfl) HS ?_
                refine HeldBy.take (i := 6) (v := .pointer (some ⟨gx, fx + m, none⟩)) rfl (by kernel_rfl) (by kernel_rfl) (by kernel_rfl) (fun _ _ _ h => h) (by rfl) (fun _ _ => by go_simp) (by go_simp; rfl) HS ?_
                refine HeldBy.take (i := 7) rfl (by kernel_rfl) (by kernel_rfl) (by kernel_rfl) (fun _ _ _ h => h) (by rfl) (fun V h => by have c := HE.out V h; go_simp; rfl) (by go_simp; rfl) HS ?_
                refine HeldBy.take (i := 8) rfl (by kernel_rfl) (by kernel_rfl) (by kernel_rfl) (fun _ _ _ h => h) (by rfl) (fun _ _ => by first | (go_simp; rfl) | (go_simp; done)) (by go_simp; rfl) HS ?_
                refine HeldBy.take (i := 9) rfl (by kernel_rfl) (by kernel_rfl) (by kernel_rfl) (fun _ _ _ h => h) (by rfl) (fun _ _ => by first | (go_simp; rfl) | (go_simp; done)) (by go_simp; rfl) HS ?_
                refine HeldBy.take (i := 10) (v := .pointer (some ⟨pg, pf + k * 2, none⟩)) rfl (by kernel_rfl) (by kernel_rfl) (by kernel_rfl) (fun _ _ _ h => h) (by rfl) (fun _ _ => by go_simp) (by go_simp; rfl) HS ?_
                refine HeldBy.take (i := 11) rfl (by kernel_rfl) (by kernel_rfl) (by kernel_rfl) (fun _ _ _ h => h) (by rfl) (fun _ _ => by first | (go_simp; rfl) | (go_simp; done)) (by go_simp; rfl) HS ?_
                refine HeldBy.take (i := 12) rfl (by kernel_rfl) (by kernel_rfl) (by kernel_rfl) (fun _ _ _ h => h) (by rfl) (fun V h => by have c := (HD.out V h).2.1; go_simp; rfl) (by go_simp; rfl) HS ?_
                refine HeldBy.take (i := 13) rfl (by kernel_rfl) (by kernel_rfl) (by kernel_rfl) (fun _ _ _ h => h) (by rfl) (fun _ _ => by first | (go_simp; rfl) | (go_simp; done)) (by go_simp; rfl) HS ?_
                refine HeldBy.take (i := 14) (v := .pointer (some ⟨gy, fy + m, none⟩)) rfl (by kernel_rfl) (by kernel_rfl) (by kernel_rfl) (fun _ _ _ h => h) (by rfl) (fun _ _ => by go_simp) (by go_simp; rfl) HS ?_
                refine HeldBy.take (i := 15) rfl (by kernel_rfl) (by kernel_rfl) (by kernel_rfl) (fun _ _ _ h => h) (by rfl) (fun V h => by have c := HG.out V h; go_simp; rfl) (by go_simp; rfl) HS ?_
                rcases hcase with ⟨hc, hno2⟩ | ⟨hc, HF⟩
                · refine HeldBy.take (i := 16) (v := .bool false) rfl (by kernel_rfl) (by kernel_rfl) (by kernel_rfl) (fun _ _ _ h => h) (by rfl) (fun _ _ => by go_simp; rw [neq_dec, hc]; unfold encS; go_simp) (by go_simp; rfl) HS ?_
                  refine wpAnyH_done (by kernel_rfl) ?_ _
                  have HS := Lib.hid HS
                  clear HE HG hc
                  go_wp2
                  go_roundw
                  case rel => exact ⟨m + 1, rfl, by omega, hno2.out, HS.out⟩
                  case measure => simp [intOf]; omega
                · refine HeldBy.take (i := 16) (v := .bool true) rfl (by kernel_rfl) (by kernel_rfl) (by kernel_rfl) (fun _ _ _ h => h) (by rfl) (fun _ _ => by go_simp; rw [neq_dec, hc]; unfold encS; go_simp) (by go_simp; rfl) HS ?_
                  refine wpAnyH_done (by kernel_rfl) ?_ _
                  have HS := Lib.hid HS
                  clear HE HG hc
                  go_wp2
                  go_ret
                  exact ⟨by rw [HF.out]; rfl, HS.out⟩
              · have he : lx = ly := by
                  have := same_yes HN1.out HN2.out fun j h1 h2 _ => HNo.out j h1 h2 (by have := HN1.out; omega)
                  simpa using this
                have HF := HY.out (by rw [he])
                have c1 := (HC.out _ HLow.out).2.1
                clear HNo HY HZ he
                go_wp2
                go_roundw
                case rel => exact ⟨k + 1, rfl, by omega, HF.out, HLow.out⟩
                case measure => simp [intOf]; omega
          · refine HeldBy.take (i := 24) (v := .bool true) rfl (by kernel_rfl) (by kernel_rfl) (by kernel_rfl) (fun _ _ _ h => h) (by rfl) (fun _ _ => by go_simp; omega) (by go_simp; rfl) HS ?_
            refine HeldBy.take (i := 25) rfl (by kernel_rfl) (by kernel_rfl) (by kernel_rfl) (fun _ _ _ h => h) (by rfl) (fun _ _ => by first | (go_simp; rfl) | (go_simp; done)) (by go_simp; rfl) HS ?_
            refine wpAnyH_done (by kernel_rfl) ?_ _
            have HLow := Lib.hid HS
            have HF := HZ.out (by simp only [ne_eq, Prod.mk.injEq, not_and]; rintro - rfl; exact hln rfl)
            clear HS HC HD hln HY HZ
            go_wp2
            go_ret
            exact ⟨by rw [HF.out]; rfl, HLow.out⟩
        · have hc : (!decide (kx = ky)) = true := by simp [hke]
          refine HeldBy.take (i := 10) (v := .bool true) rfl (by kernel_rfl) (by kernel_rfl) (by kernel_rfl) (fun _ _ _ h => h) (by rfl) (fun _ _ => by go_simp; rw [neq_dec, hc]; unfold encS; go_simp) (by go_simp; rfl) HS ?_
          refine HeldBy.take (i := 11) rfl (by kernel_rfl) (by kernel_rfl) (by kernel_rfl) (fun _ _ _ h => h) (by rfl) (fun _ _ => by first | (go_simp; rfl) | (go_simp; done)) (by go_simp; rfl) HS ?_
          refine HeldBy.skip (i := 12) rfl (by kernel_rfl) (by kernel_rfl) (by kernel_rfl) (fun _ _ _ h => h) (by rfl) (by go_simp; rfl) HS ?_
          refine HeldBy.skip (i := 13) rfl (by kernel_rfl) (by kernel_rfl) (by kernel_rfl) (fun _ _ _ h => h) (by rfl) (by go_simp; rfl) HS ?_
          refine HeldBy.skip (i := 14) rfl (by kernel_rfl) (by kernel_rfl) (by kernel_rfl) (fun _ _ _ h => h) (by rfl) (by go_simp; rfl) HS ?_
          refine HeldBy.skip (i := 15) rfl (by kernel_rfl) (by kernel_rfl) (by kernel_rfl) (fun _ _ _ h => h) (by rfl) (by go_simp; rfl) HS ?_
          refine HeldBy.skip (i := 16) rfl (by kernel_rfl) (by kernel_rfl) (by kernel_rfl) (fun _ _ _ h => h) (by rfl) (by go_simp; rfl) HS ?_
          refine HeldBy.skip (i := 17) rfl (by kernel_rfl) (by kernel_rfl) (by kernel_rfl) (fun _ _ _ h => h) (by rfl) (by go_simp; rfl) HS ?_
          refine HeldBy.skip (i := 18) rfl (by kernel_rfl) (by kernel_rfl) (by kernel_rfl) (fun _ _ _ h => h) (by rfl) (by go_simp; rfl) HS ?_
          refine HeldBy.skip (i := 19) rfl (by kernel_rfl) (by kernel_rfl) (by kernel_rfl) (fun _ _ _ h => h) (by rfl) (by go_simp; rfl) HS ?_
          refine HeldBy.skip (i := 20) rfl (by kernel_rfl) (by kernel_rfl) (by kernel_rfl) (fun _ _ _ h => h) (by rfl) (by go_simp; rfl) HS ?_
          refine HeldBy.skip (i := 21) rfl (by kernel_rfl) (by kernel_rfl) (by kernel_rfl) (fun _ _ _ h => h) (by rfl) (by go_simp; rfl) HS ?_
          refine HeldBy.skip (i := 22) rfl (by kernel_rfl) (by kernel_rfl) (by kernel_rfl) (fun _ _ _ h => h) (by rfl) (by go_simp; rfl) HS ?_
          refine HeldBy.skip (i := 23) rfl (by kernel_rfl) (by kernel_rfl) (by kernel_rfl) (fun _ _ _ h => h) (by rfl) (by go_simp; rfl) HS ?_
          refine HeldBy.skip (i := 24) rfl (by kernel_rfl) (by kernel_rfl) (by kernel_rfl) (fun _ _ _ h => h) (by rfl) (by go_simp; rfl) HS ?_
          refine HeldBy.take (i := 25) rfl (by kernel_rfl) (by kernel_rfl) (by kernel_rfl) (fun _ _ _ h => h) (by rfl) (fun _ _ => by first | (go_simp; rfl) | (go_simp; done)) (by go_simp; rfl) HS ?_
          refine wpAnyH_done (by kernel_rfl) ?_ _
          have HLow := Lib.hid HS
          have HF := HZ.out (by simp only [ne_eq, Prod.mk.injEq, not_and]; intro h; exact absurd h hke)
          clear HS HC HD hke hc HY HZ
          go_wp2
          go_ret
          exact ⟨by rw [HF.out]; rfl, HLow.out⟩
      · have HF : Hid (R = true) := by show _ = _; rw [← HR.out, same_fst HN.out HM.out fun j h1 h2 _ => HNo.out j h1 h2 (by have := HN.out; omega)]
        clear HNo
        go_wp2
        go_ret
        exact ⟨by rw [HF.out]; rfl, HLow.out⟩
  · have HF : Hid (R = false) := by show _ = _; rw [← HR.out, same_len (n := N) (m := M) (by rw [List.length_map]; exact HN.out) (by rw [List.length_map]; exact HM.out) hl]
    have hl2 : ¬ (N : Int) = M := by omega
    go_enter Try.func27, Try.ntmps27
    go_wp2
    go_ret
    exact ⟨by rw [HF.out]; rfl, Below.refl _ _⟩
end Go.Proofs.Ytneogmcmkbhnaaa.T
