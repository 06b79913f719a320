/- Own work. -/
import Derived.Test.YtbgfccanbgpjiaaDILSame
import Derived.Test.YtbgfccanbgpjiaaDJIRTold
import Derived.Test.YtbgfccanbgpjiaaDIFork
import Derived.Test.YtbgfccanbgpjiaaDJIRFork
namespace Go.Proofs.Ytbgfccanbgpjiaa.O.I
open Go Go.RowKit Go.Lib KM
attribute [local go_sem] Oper.semAt_some
def cF : Cl := ⟨1, ⟨#[118, 49]⟩, 0, 0, ⟨#[97]⟩, E0, E0⟩
theorem built_cF : Try.prog.built 27 [(0, .int .u8 1), (1, .string ⟨#[118, 49]⟩), (4, .string ⟨#[97]⟩)] = some (cellsC cF) := by kernel_rfl
theorem rfork {R q : Nat} {w : World} {S : St} (hq : ∃ rd L, RAt R w q S rd L) (hnd : ∀ x ∈ S.core.vols, x.nodes.length ≤ 1000) : Calls Try.prog 31 #[.pointer (some ⟨q, 0, none⟩)] w (RForkA S w) := by
  obtain ⟨rd, L, h⟩ := hq
  exact rfork_any h hnd
set_option maxRecDepth 100000 in
set_option maxHeartbeats 8000000 in
theorem forks_any (a b c : Int) (ha : U8 a) (hb : U8 b) (hc : U8 c) (u u2 : Value) (l l2 : List Dd) (w : World) (hl : DeedsIn w u l) (hf : ∀ x ∈ l, FitC x.c) (hl2 : DeedsIn w u2 l2) (hf2 : ∀ x ∈ l2, FitC x.c) :
    Calls Try.prog 11 #[encN a b c, u, u2] w fun e w' => e = .returned (.bool true) ∧ Below w.heap.size w w' := by
  obtain ⟨o2, cp2, rfl, hm2, -⟩ := id hl2
  have HL := Lib.hid hl
  have HF := Lib.hid hf
  have HL2 := Lib.hid hl2
  have HF2 := Lib.hid hf2
  have HA := Lib.hid ha
  have HBB := Lib.hid hb
  have HCC := Lib.hid hc
  clear hl hf hl2 hf2 ha hb hc
  rw [show encN a b c = .agg #[.int .u8 a, .int .u8 b, .int .u8 c] from rfl]
  go_enter Try.func11, Try.ntmps11
  go_upto_region 1 with (fail)
  refine wp_gen (fun V => BoxN V w.heap.size a b c ∧ Below w.heap.size w V) ⟨heap_alloc_new w _, (Below.refl _ _).alloc (Nat.le_refl _) _⟩ ?_
  rintro V1 ⟨hn1, hw1⟩
  have HW := Lib.hid hw1
  clear hw1
  go_wp2_with (refine wpList_got rfl (loadN hn1 rfl rfl) ?_)
  clear hn1
  refine (play_any a b c HA.out HBB.out HCC.out u l V1 (HL.out.after HW.out) HF.out).mono ?_
  rintro e W1 ⟨d, r, v, s, n, B, R, q, S, rfl, hbo, -, -, hpl, hb⟩
  replace HW := Lib.hid (HW.out.trans (hb.mono HW.out.size))
  have HB := Lib.hid hbo
  have HG := Lib.hid hpl.good
  have HN := Lib.hid hpl.few
  clear hbo hpl hb
  go_wp2_with (fail)
  refine (live_any W1).mono ?_
  rintro e W2 ⟨rfl, hb⟩
  replace HB := Lib.hid (HB.out.after hb)
  replace HW := Lib.hid (HW.out.trans (hb.mono HW.out.size))
  clear hb
  go_wp2_with (fail)
  refine (fork_model HB.out.p).mono ?_
  rintro e W3 ⟨rfl, hp3, hb3⟩
  obtain ⟨k, hk⟩ : ∃ k, W2.heap.size = k := ⟨_, rfl⟩
  rw [hk] at hp3
  rw [hk]
  have HK := Lib.hid hk
  have HB3 := Lib.hid (HB.out.after hb3)
  have HP3 := Lib.hid hp3
  have HW3 := Lib.hid hb3
  clear hk hp3 hb3
  go_wp2_with (fail)
  refine (rfork HB3.out.q HN.out).mono ?_
  rintro e W4 ⟨q2, rd2, L2, rfl, hq4, hb4⟩
  obtain ⟨k2, hk2⟩ : ∃ k2, W3.heap.size = k2 := ⟨_, rfl⟩
  rw [hk2] at hq4
  have HFO : Hid (Both (k + 4) k (k + 1) (k + 2) (k + 3) k k2 q2 W4 S) := ⟨HP3.out.after hb4, rd2, L2, hq4⟩
  have HKK : Hid (k ≤ k2) := by
    have h1 := HW3.out.size
    have h2 := HK.out
    show k ≤ k2
    omega
  have HLW : Hid (Below k W2 W4) := by
    have h1 := HW3.out
    rw [HK.out] at h1
    exact h1.trans (hb4.mono (by have := HKK.out; omega))
  clear hk2 hq4 hb4 HB3 HP3 HW3
  go_wp2
  go_loopw [12] (fun iv wr => ∃ (j : Nat) (T : St), iv = .int .i64 (j : Int) ∧ j ≤ l2.length ∧ j ≤ 20 ∧ Both (k + 4) k (k + 1) (k + 2) (k + 3) k k2 q2 wr T ∧ Good (60 + j) T.core ∧ Below k W2 wr) (fun iv _ => l2.length - (RowKit.intOf iv).toNat)
  case atStart => exact ⟨0, S, rfl, Nat.zero_le _, Nat.zero_le _, HFO.out, HG.out, HLW.out⟩
  case round =>
    obtain ⟨j, T, rfl, hj, hj20, hbo, hgo, hlow⟩ := hrel
    have HBF := Lib.hid hbo
    have HGF := Lib.hid hgo
    have HLF := Lib.hid hlow
    clear hbo hgo hlow
    have hend : Hid (∀ (X : World), Both (k + 4) k (k + 1) (k + 2) (k + 3) k k2 q2 X T → Below k W2 X → Both d r v s n B R q X S ∧ Below w.heap.size w X) := fun X _ hx => by
      have h1 : Below W2.heap.size W2 X := by rw [HK.out]; exact hx
      exact ⟨HB.out.after h1, HW.out.trans (h1.mono HW.out.size)⟩
    by_cases hlt : j < l2.length
    · have hlt' : (j : Int) < (l2.length : Int) := by omega
      by_cases h20 : j < 20
      · have h20' : (j : Int) < 20 := by omega
        have hlw : Below w.heap.size w wr := (hend.out wr HBF.out HLF.out).2
        obtain ⟨o3, c3, e3, -, hi⟩ := HL2.out.after hlw
        cases e3
        obtain ⟨g, off, rfl, -, hrow⟩ := hi j hlt
        obtain ⟨x, hx⟩ : ∃ x, l2[j] = x := ⟨_, rfl⟩
        rw [hx] at hrow
        have hfx : FitC x.c := hx ▸ HF2.out _ (List.getElem_mem hlt)
        have HD := Lib.hid (ldo_any HBF.out (doc_ok HBF.out.p.inv HGF.out (by omega)) k ⟨Nat.le_refl _, HKK.out⟩ x hfx)
        have HG2 : Hid (Good (60 + (j + 1)) (deedS T x).core) := HGF.out.deed x
        have HRW := Lib.hid hrow
        clear hrow hi hx hfx hlw
        go_wp2_with (refine wpList_got rfl (loadX_at HRW.out rfl rfl) ?_)
        refine HD.out.mono ?_
        rintro e W5 ⟨rfl, hb2, hl2⟩
        have HN2 : Hid (Both (k + 4) k (k + 1) (k + 2) (k + 3) k k2 q2 W5 (deedS T x) ∧ Below k W2 W5) := ⟨hb2, HLF.out.trans hl2⟩
        clear hb2 hl2 HD HRW hend
        go_wp2
        go_roundw
        case rel => exact ⟨j + 1, _, by go_num, by omega, by omega, HN2.out.1, HG2.out, HN2.out.2⟩
        case measure => simp [RowKit.intOf]; omega
      · have h20' : ¬ (j : Int) < 20 := by omega
        have HEND := Lib.hid (hend.out wr HBF.out HLF.out)
        obtain ⟨V6, hs6, hc6, hl6⟩ := boxC wr zeroC rfl cF
        have HB6 := Lib.hid (HEND.out.1.after hl6)
        have HF6 := Lib.hid (HBF.out.after hl6)
        have HW6 := Lib.hid (HEND.out.2.trans (hl6.mono HEND.out.2.size))
        have HC6 := Lib.hid hc6
        have HJ : Hid (60 + j ≤ 1000) := by show _ ≤ _; omega
        have hcb := hc6
        clear hc6 hl6 hend HEND
        go_wp2_with (first | ((with_reducible refine wpList_build_to rfl 27 _ rfl (cellsC cF) ?_ ?_); exact built_cF) | (refine wpList_skip rfl (hs6 rfl rfl rfl) ?_) | (refine wpList_got rfl (loadC hcb rfl rfl) ?_))
        clear hs6 hcb
        refine (same_any HB6.out HG.out (by decide) cF).mono ?_
        rintro e W7 ⟨rfl, hb7⟩
        have hcb := HC6.out.after hb7
        have HF7 := Lib.hid (HF6.out.after hb7)
        have HW7 := Lib.hid (HW6.out.trans (hb7.mono HW6.out.size))
        clear hb7
        go_wp2_with (refine wpList_got rfl (loadC hcb rfl rfl) ?_)
        clear hcb
        refine (same_any HF7.out HGF.out HJ.out cF).mono ?_
        rintro e W8 ⟨rfl, hb8⟩
        have HX := Lib.hid (HW7.out.trans (hb8.mono HW7.out.size))
        clear hb8
        go_wp2
        go_ret
        exact ⟨rfl, HX.out⟩
    · have hlt' : ¬ (j : Int) < (l2.length : Int) := by omega
      have HEND := Lib.hid (hend.out wr HBF.out HLF.out)
      obtain ⟨V6, hs6, hc6, hl6⟩ := boxC wr zeroC rfl cF
      have HB6 := Lib.hid (HEND.out.1.after hl6)
      have HF6 := Lib.hid (HBF.out.after hl6)
      have HW6 := Lib.hid (HEND.out.2.trans (hl6.mono HEND.out.2.size))
      have HC6 := Lib.hid hc6
      have HJ : Hid (60 + j ≤ 1000) := by show _ ≤ _; omega
      have hcb := hc6
      clear hc6 hl6 hend HEND
      go_wp2_with (first | ((with_reducible refine wpList_build_to rfl 27 _ rfl (cellsC cF) ?_ ?_); exact built_cF) | (refine wpList_skip rfl (hs6 rfl rfl rfl) ?_) | (refine wpList_got rfl (loadC hcb rfl rfl) ?_))
      clear hs6 hcb
      refine (same_any HB6.out HG.out (by decide) cF).mono ?_
      rintro e W7 ⟨rfl, hb7⟩
      have hcb := HC6.out.after hb7
      have HF7 := Lib.hid (HF6.out.after hb7)
      have HW7 := Lib.hid (HW6.out.trans (hb7.mono HW6.out.size))
      clear hb7
      go_wp2_with (refine wpList_got rfl (loadC hcb rfl rfl) ?_)
      clear hcb
      refine (same_any HF7.out HGF.out HJ.out cF).mono ?_
      rintro e W8 ⟨rfl, hb8⟩
      have HX := Lib.hid (HW7.out.trans (hb8.mono HW7.out.size))
      clear hb8
      go_wp2
      go_ret
      exact ⟨rfl, HX.out⟩
end Go.Proofs.Ytbgfccanbgpjiaa.O.I
