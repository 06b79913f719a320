/- LeaseGuards: its walk. -/
import Derived.Test.YtmamibabaedpcaaLLive
import Derived.Test.YtmamibabaedpcaaLGuard
import Derived.Test.YtmamibabaedpcaaLOpen2
namespace Go.Proofs.Ytmamibabaedpcaa.L
open Go.RowKit T O
open Go.Lib

theorem cell_in {W W' : World} {g o : Nat} {v : Value} (hg : g < W.heap.size) (hb : Below W.heap.size W W') (h : W.cell? ⟨g, o, none⟩ = some v) : W'.cell? ⟨g, o, none⟩ = some v := by
  unfold World.cell? at h ⊢
  rw [hb.block g hg]
  exact h
set_option maxRecDepth 100000 in
set_option maxHeartbeats 4000000 in
theorem leaseGuards_any (v : Value) (l : List Int) (w : World) (hV : U64sIn w v l) : Calls Try.prog 6 #[v] w fun e w' => e = .returned (.bool true) ∧ Below w.heap.size w w' := by
  obtain ⟨o, c, rfl, hm, hc⟩ := hV
  have HC := Lib.hid hc
  clear hc
  obtain ⟨N, hN⟩ : ∃ n, n = l.length := ⟨_, rfl⟩
  rw [← hN] at hm ⊢
  have HN := Lib.hid hN
  clear hN
  go_enter Try.func6, Try.ntmps6
  go_wp2_with fail
  refine (newGuard_any _).mono ?_
  rintro e W1 ⟨rfl, hg, hb, hz⟩
  have HG := Lib.hid hg
  have HL := Lib.hid hb
  clear hg hb
  go_wp2_with fail
  refine (refNewGuard_any _).mono ?_
  rintro e W2 ⟨rfl, hr, hb, hz2⟩
  have HR := Lib.hid hr
  have hlt : w.heap.size < W1.heap.size := by omega
  replace HG := Lib.hid (HG.out.after hb)
  replace HL := Lib.hid (HL.out.trans (hb.mono HL.out.size))
  clear hr hb hz2 hz
  generalize W1.heap.size = b2 at *
  go_wp2
  go_loopw [5, 6] (fun mv iv wr => ∃ (i : Nat) (m : Int), mv = .int .u64 m ∧ iv = .int .i64 (i : Int) ∧ i ≤ N ∧ U64 m ∧ GAt 62 wr w.heap.size m ∧ GAt 64 wr b2 m ∧ Below w.heap.size w wr) (fun _ iv _ => (N - intOf iv).toNat)
  case atStart => exact ⟨0, 0, rfl, rfl, Nat.zero_le _, ⟨by decide, by decide⟩, HG.out, HR.out, HL.out⟩
  case round =>
    clear HG HR HL
    obtain ⟨i, m, rfl, rfl, hi, hm64, hg, hr, hlow⟩ := hrel
    have HG := Lib.hid hg
    have HR := Lib.hid hr
    have HL := Lib.hid hlow
    clear hg hr hlow
    by_cases hiN : i < N ∧ i < 100
    · obtain ⟨hiN, hi1⟩ := hiN
      obtain ⟨g, off, rfl, hg, hcell, hz64⟩ := HC.out i (by rw [← HN.out]; exact hiN)
      have HCE : Hid (∀ V, Below w.heap.size w V → V.cell? ⟨g, off + i, none⟩ = some (.int .u64 (l[i]'(by rw [← HN.out]; exact hiN)))) := fun V h => cell_in hg h hcell
      clear hcell
      generalize l[i]'(by rw [← HN.out]; exact hiN) = z at HCE hz64
      obtain ⟨hz0, hz1⟩ := hz64
      have c1 := HCE.out _ HL.out
      rcases Int.lt_or_le z m with hzm | hzm
      · go_wp2_with fail
        refine (check_old _ _ _ _ HG.out hzm).mono ?_
        rintro e V ⟨rfl, rfl⟩
        go_wp2_with fail
        refine (refCheck_old _ _ _ _ HR.out hzm).mono ?_
        rintro e V ⟨rfl, rfl⟩
        go_wp2_with fail
        refine (term_any _ _ _ HG.out).mono ?_
        rintro e V ⟨rfl, rfl⟩
        go_wp2
        go_roundw
        case rel => exact ⟨i + 1, m, rfl, rfl, by omega, hm64, HG.out, HR.out, HL.out⟩
        case measure => simp [intOf]; omega
      · go_wp2_with fail
        refine (check_new _ _ _ _ HG.out hzm).mono ?_
        rintro e V1 ⟨rfl, rfl⟩
        replace HG := Lib.hid (HG.out.set z)
        replace HR := Lib.hid (HR.out.other (p := ⟨w.heap.size, 0, none⟩) (by simp; omega) (.int .u64 z))
        replace HL := Lib.hid (HL.out.setCell (p := ⟨w.heap.size, 0, none⟩) (Nat.le_refl _) (.int .u64 z))
        clear c1
        have c1 := HCE.out _ HL.out
        generalize wr.setCell ⟨w.heap.size, 0, none⟩ (.int .u64 z) = V1 at *
        go_wp2_with fail
        refine (refCheck_new _ _ _ _ HR.out hzm).mono ?_
        rintro e V2 ⟨rfl, rfl⟩
        replace HR := Lib.hid (HR.out.set z)
        replace HG := Lib.hid (HG.out.other (p := ⟨b2, 0, none⟩) (by simp; omega) (.int .u64 z))
        replace HL := Lib.hid (HL.out.setCell (p := ⟨b2, 0, none⟩) (by simp; omega) (.int .u64 z))
        clear c1
        have c1 := HCE.out _ HL.out
        generalize V1.setCell ⟨b2, 0, none⟩ (.int .u64 z) = V2 at *
        rcases Int.lt_or_eq_of_le hzm with hlt2 | rfl
        · go_wp2_with fail
          refine (term_any _ _ _ HG.out).mono ?_
          rintro e V ⟨rfl, rfl⟩
          go_wp2
          go_roundw
          case rel => exact ⟨i + 1, z, rfl, rfl, by omega, ⟨hz0, hz1⟩, HG.out, HR.out, HL.out⟩
          case measure => simp [intOf]; omega
        · go_wp2_with fail
          refine (term_any _ _ _ HG.out).mono ?_
          rintro e V ⟨rfl, rfl⟩
          go_wp2
          go_roundw
          case rel => exact ⟨i + 1, m, rfl, rfl, by omega, ⟨hz0, hz1⟩, HG.out, HR.out, HL.out⟩
          case measure => simp [intOf]; omega
    · have hcs : N ≤ i ∨ (i < N ∧ 100 ≤ i) := by omega
      obtain ⟨hm0, hm1⟩ := hm64
      rcases hcs with hcs | ⟨hcs, hcs'⟩
      all_goals
        clear hiN HC
        go_wp2_with fail
        refine (fork_any _ _ _ HG.out).mono ?_
        rintro e V1 ⟨rfl, hf, hb⟩
        have hs := HL.out.size
        have HF := Lib.hid hf
        have hgf : w.heap.size < wr.heap.size := HG.out.lt
        replace HG := Lib.hid (HG.out.after hb)
        replace HL := Lib.hid (HL.out.trans (hb.mono HL.out.size))
        clear hf hb
        generalize wr.heap.size = b3 at *
        go_wp2_with fail
        refine (check_new _ _ _ _ HF.out (Int.le_refl _)).mono ?_
        rintro e V2 ⟨rfl, rfl⟩
        replace HF := Lib.hid (HF.out.set m)
        replace HG := Lib.hid (HG.out.other (p := ⟨b3, 0, none⟩) (by simp; omega) (.int .u64 m))
        replace HL := Lib.hid (HL.out.setCell (p := ⟨b3, 0, none⟩) (by simp; omega) (.int .u64 m))
        generalize V1.setCell ⟨b3, 0, none⟩ (.int .u64 m) = V2 at *
        go_wp2_with fail
        refine (check_new _ _ _ _ HF.out hm1).mono ?_
        rintro e V3 ⟨rfl, rfl⟩
        replace HF := Lib.hid (HF.out.set 18446744073709551615)
        replace HG := Lib.hid (HG.out.other (p := ⟨b3, 0, none⟩) (by simp; omega) (.int .u64 18446744073709551615))
        replace HL := Lib.hid (HL.out.setCell (p := ⟨b3, 0, none⟩) (by simp; omega) (.int .u64 18446744073709551615))
        generalize V2.setCell ⟨b3, 0, none⟩ (.int .u64 18446744073709551615) = V3 at *
        go_wp2_with fail
        refine (live_any _).mono ?_
        rintro e V4 ⟨rfl, hb⟩
        replace HF := Lib.hid (HF.out.after hb)
        replace HG := Lib.hid (HG.out.after hb)
        replace HL := Lib.hid (HL.out.trans (hb.mono HL.out.size))
        clear hb
        go_wp2_with fail
        refine (term_any _ _ _ HG.out).mono ?_
        rintro e V5 ⟨rfl, rfl⟩
        go_wp2_with fail
        refine (term_any _ _ _ HF.out).mono ?_
        rintro e V6 ⟨rfl, rfl⟩
        go_wp2
        go_ret
        exact ⟨rfl, HL.out⟩
end Go.Proofs.Ytmamibabaedpcaa.L
