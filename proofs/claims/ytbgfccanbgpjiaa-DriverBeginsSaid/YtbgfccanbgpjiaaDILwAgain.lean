/- Own work. -/
import Derived.Test.YtbgfccanbgpjiaaDILSame
import Derived.Test.YtbgfccanbgpjiaaDJIRTold
import Derived.Test.YtbgfccanbgpjiaaDJISame
import Derived.Test.YtbgfccanbgpjiaaDIFork
namespace Go.Proofs.Ytbgfccanbgpjiaa.O.I
open Go Go.RowKit Go.Lib KM
attribute [local go_sem] Oper.semAt_some
theorem Good.run {S : St} (h : Good 60 S.core) (c : Cl) : Good 61 (doS S c).2.core := h.do c
section
variable {S : St} {d r v s n B d2 r2 v2 s2 n2 B2 : Nat} {w : World}
theorem alike_61 (hp : PAt d r v s n B w S) (hq : PAt d2 r2 v2 s2 n2 B2 w S) (hg : Good 61 S.core) (hf : S.core.vols.length ≤ 65 ∧ S.core.snaps.length ≤ 65) :
    Calls Try.prog 26 #[.pointer (some ⟨d, 0, none⟩), .pointer (some ⟨d2, 0, none⟩)] w fun e w' => e = .returned (.bool true) ∧ Below w.heap.size w w' := alike_any hp hq hg hf
end
theorem perf_snaps_more (C : Core) (c : Cl) : (perfC C c).2.snaps.length ≤ C.snaps.length + 1 := by
  unfold perfC
  split
  · unfold createC
    split
    · split <;> exact Nat.le_succ _
    · split
      · exact Nat.le_succ _
      · split
        · exact Nat.le_succ _
        · split
          · exact Nat.le_succ _
          · split
            · exact Nat.le_succ _
            · split <;> exact Nat.le_succ _
  · split
    · unfold eraseC
      split
      · exact Nat.le_succ _
      · split <;> exact Nat.le_succ _
    · split
      · unfold publishC
        split <;> exact Nat.le_succ _
      · split
        · unfold unpublishC
          split <;> exact Nat.le_succ _
        · split
          · unfold expandC
            split
            · exact Nat.le_succ _
            · split
              · exact Nat.le_succ _
              · split
                · exact Nat.le_succ _
                · split <;> exact Nat.le_succ _
          · split
            · unfold cutC
              split
              · exact Nat.le_succ _
              · split
                · exact Nat.le_succ _
                · split
                  · exact Nat.le_succ _
                  · show (insS _ C.snaps).length ≤ _
                    rw [length_insS]
                    exact Nat.le_refl _
            · exact Nat.le_succ_of_le (delS_sub _ _).length_le
theorem do_few {S : St} (h : Few S) (c : Cl) : (doS S c).2.core.vols.length ≤ 65 ∧ (doS S c).2.core.snaps.length ≤ 65 := by
  have h1 := do_more S c
  have h2 : (doS S c).2.core.snaps.length ≤ S.core.snaps.length + 1 := do_core (P := fun C => C.snaps.length ≤ S.core.snaps.length + 1) (Nat.le_succ _) c fun _ => perf_snaps_more S.core c
  have h3 := h.1
  have h4 := h.2
  omega
set_option maxRecDepth 100000 in
set_option maxHeartbeats 8000000 in
theorem again_any (a b c : Int) (ha : U8 a) (hb : U8 b) (hc : U8 c) (u : Value) (l : List Dd) (x : Cl) (w : World) (hl : DeedsIn w u l) (hf : ∀ x ∈ l, FitC x.c) :
    Calls Try.prog 5 #[encN a b c, u, encC x] w fun e w' => e = .returned (.bool true) ∧ Below w.heap.size w w' := by
  have HL := Lib.hid hl
  have HF := Lib.hid hf
  have HA := Lib.hid ha
  have HBB := Lib.hid hb
  have HCC := Lib.hid hc
  clear hl hf ha hb hc
  rw [show encN a b c = .agg #[.int .u8 a, .int .u8 b, .int .u8 c] from rfl, show encC x = .agg (cellsC x) from rfl]
  go_enter Try.func5, Try.ntmps5
  go_upto_region 1 with (fail)
  refine wp_gen (fun V => BoxN V w.heap.size a b c ∧ BoxC V (w.heap.size + 1) x ∧ Below w.heap.size w V) ⟨(heap2 w _ _).1, (heap2 w _ _).2, below2 w _ _⟩ ?_
  rintro V1 ⟨hn1, hx1, hw1⟩
  have HX := Lib.hid hx1
  have HW := Lib.hid hw1
  clear hx1 hw1
  go_wp2_with (refine wpList_got rfl (loadN hn1 rfl rfl) ?_)
  clear hn1
  refine (play_any a b c HA.out HBB.out HCC.out u l V1 (HL.out.after HW.out) HF.out).mono ?_
  rintro e W1 ⟨d, r, v, s, n, B, R, q, S, rfl, hbo, hB, -, hpl, hb⟩
  replace HX := Lib.hid (HX.out.after hb)
  have HP := Lib.hid hbo.p
  have HO : Hid (w.heap.size ≤ B) := by have := HW.out.size; show _ ≤ _; omega
  replace HW := Lib.hid (HW.out.trans (hb.mono HW.out.size))
  have HG := Lib.hid (hpl.good.run x)
  have HFW := Lib.hid (do_few hbo.few x)
  clear hbo hpl hb hB
  go_wp2_with (fail)
  refine (live_any W1).mono ?_
  rintro e W2 ⟨rfl, hb⟩
  replace HX := Lib.hid (HX.out.after hb)
  replace HP := Lib.hid (HP.out.after hb)
  replace HW := Lib.hid (HW.out.trans (hb.mono HW.out.size))
  clear hb
  have hcx := HX.out
  go_wp2_with (refine wpList_got rfl (loadC hcx rfl rfl) ?_)
  clear hcx
  refine (do_model HP.out x).mono ?_
  rintro e W3 ⟨rfl, hp3, hb3, hc3⟩
  obtain ⟨T, hT⟩ : ∃ T, (doS S x).2 = T := ⟨_, rfl⟩
  obtain ⟨res, hres⟩ : ∃ res, (doS S x).1 = res := ⟨_, rfl⟩
  have hid := idle_again HP.out.once x
  have htw := do_twice S HP.out.once x
  rw [hT] at hp3 hid htw HG HFW
  rw [hres] at htw ⊢
  have HID := Lib.hid hid
  have HTW := Lib.hid htw
  obtain ⟨V3, hs3, hb3', hl3⟩ := boxR W3 zeroR rfl res
  replace HX := Lib.hid ((show BoxC W3 (w.heap.size + 1) x from hc3 _ _ _ _ HX.out).after hl3)
  replace HP := Lib.hid (hp3.after hl3)
  replace HW : Hid (Below w.heap.size w V3) := by
    have h1 := HW.out.trans (hb3.mono HO.out)
    exact h1.trans (hl3.mono h1.size)
  have HR := Lib.hid hb3'
  clear hp3 hb3 hc3 hid htw hT hres hb3' hl3
  go_wp2_with (refine wpList_skip rfl (hs3 rfl rfl rfl) ?_)
  clear hs3
  refine (fork_model HP.out).mono ?_
  rintro e W4 ⟨rfl, hq4, hb4⟩
  obtain ⟨k, hk⟩ : ∃ k, V3.heap.size = k := ⟨_, rfl⟩
  rw [hk] at hq4
  rw [hk]
  replace HX := Lib.hid (HX.out.after hb4)
  replace HP := Lib.hid (HP.out.after hb4)
  replace HW := Lib.hid (HW.out.trans (hb4.mono HW.out.size))
  replace HR := Lib.hid (HR.out.after hb4)
  have HQ := Lib.hid hq4
  have hcx := HX.out
  clear hb4 hq4 hk
  go_wp2_with (refine wpList_got rfl (loadC hcx rfl rfl) ?_)
  clear hcx
  have hst := do_still HP.out x HID.out
  rw [HTW.out] at hst
  refine hst.mono ?_
  rintro e W5 ⟨rfl, hb5⟩
  obtain ⟨V5, hs5, hb5', hl5⟩ := boxR W5 zeroR rfl res
  have hb55 := hb5.trans (hl5.mono hb5.size)
  replace HP := Lib.hid (HP.out.after hb55)
  replace HQ := Lib.hid (HQ.out.after hb55)
  replace HW := Lib.hid (HW.out.trans (hb55.mono HW.out.size))
  have hra := HR.out.after hb55
  have hrb := hb5'
  clear hst hb5 hl5 hb55 hb5' HR HX
  go_wp2_with (first | (refine wpList_skip rfl (hs5 rfl rfl rfl) ?_) | (refine wpList_got rfl (loadR hra rfl rfl) ?_) | (refine wpList_got rfl (loadR hrb rfl rfl) ?_) | (refine wpList_got rfl (exec_eqR (v := true) rfl rfl rfl (decide_eq_true rfl)) ?_))
  clear hs5 hra hrb
  refine (alike_61 HP.out HQ.out HG.out HFW.out).mono ?_
  rintro e W6 ⟨rfl, hb6⟩
  have HXX := Lib.hid (HW.out.trans (hb6.mono HW.out.size))
  clear hb6
  go_wp2
  go_ret
  exact ⟨rfl, HXX.out⟩
end Go.Proofs.Ytbgfccanbgpjiaa.O.I
