/- LeaseTerms: its walk. -/
import Derived.Test.YtmamibabaedpcaaLAskAt
namespace Go.Proofs.Ytmamibabaedpcaa.L
open Go.RowKit T O
open Go.Lib

set_option maxRecDepth 100000 in
set_option maxHeartbeats 4000000 in
theorem leaseTerms_any (v : Value) (l : List Ask) (w : World) (hV : AsksIn w v l) : Calls Try.prog 5 #[v] w fun e w' => e = .returned (.bool true) ∧ Below w.heap.size w w' := by
  obtain ⟨o, c, rfl, hm, hc⟩ := asks_at hV
  obtain ⟨N, hN⟩ : ∃ n, n = l.length := ⟨_, rfl⟩
  obtain ⟨y, hy⟩ : ∃ y : Nat → Ask, y = fun k => l.getD k A0 := ⟨_, rfl⟩
  have HC : Hid (0 < N → ∃ g off, o = some ⟨g, off, none⟩ ∧ g < w.heap.size ∧ ∀ k, k < N → AskAt w g (off + k * 3) (y k) ∧ FitA (y k)) := by
    show _ → _
    rw [hy, hN]
    exact hc
  rw [← hN] at hm ⊢
  clear hc hV hy hN
  go_enter Try.func5, Try.ntmps5
  go_upto_region 2 with (fail)
  refine wp_gen (fun W => BoxL W w.heap.size Lz0 ∧ Below w.heap.size w W) ⟨BoxL.new w Lz0, (Below.refl _ _).alloc (Nat.le_refl _) _⟩ ?_
  rintro W ⟨hx, hlow⟩
  have HX := Lib.hid hx
  have HL := Lib.hid hlow
  clear hx hlow
  go_wp2
  go_loopw [4, 5] (fun nv iv wr => ∃ (i : Nat) (nw : Int) (x : Lz), nv = .int .u64 nw ∧ iv = .int .i64 (i : Int) ∧ i ≤ N ∧ i ≤ 60 ∧ 0 ≤ nw ∧ nw ≤ 16 * (i : Int) ∧ FitL x ∧ BoxL wr w.heap.size x ∧ Below w.heap.size w wr) (fun _ iv _ => (N - intOf iv).toNat)
  case atStart => exact ⟨0, 0, Lz0, rfl, rfl, Nat.zero_le _, by omega, by omega, by omega, fit0, HX.out, HL.out⟩
  case round =>
    clear HX HL
    obtain ⟨i, nw, x, rfl, rfl, hi, hi6, hn0, hn1, hfx, hx, hlow⟩ := hrel
    have HF := Lib.hid hfx
    have HX := Lib.hid hx
    have HL := Lib.hid hlow
    clear hfx hx hlow
    by_cases hiN : i < N ∧ i < 60
    · obtain ⟨hiN, hi60⟩ := hiN
      obtain ⟨g, off, rfl, hg, hall⟩ := HC.out (by omega)
      have HT := Lib.hid ((hall i hiN).1.low rfl HL.out)
      obtain ⟨hwz, ⟨hz0, hz1⟩, ⟨hs0, hs1⟩⟩ := (hall i hiN).2
      clear hall HC
      generalize y i = a at *
      have c1 := HT.out.c1
      have hmod : 0 ≤ a.now % 16 ∧ a.now % 16 < 16 := by omega
      go_upto_region 7 with (fail)
      have h1 : 0 ≤ nw + a.now % 16 := by omega
      have h2 : nw + a.now % 16 ≤ 16 * (i : Int) + 16 := by omega
      clear c1 hn0 hn1 hmod
      generalize nw + a.now % 16 = nw' at h1 h2 ⊢
      have hsp : 0 ≤ a.span % 20 + 1 := by omega
      obtain ⟨R, n, hR⟩ : ∃ R n, tryL x a.who nw' (a.span % 20 + 1) = (R, n) := ⟨_, _, rfl⟩
      have hfr : FitL R := by
        have := fit_try (now := nw') (span := a.span % 20 + 1) HF.out hwz h1
        rwa [hR] at this
      have HR := Lib.hid hR
      clear hR
      refine wp_region_held_drew (S := fun V => AskAt V g (off + i * 3) a ∧ BoxL V w.heap.size x ∧ Below w.heap.size w V) (by kernel_rfl) ⟨HT.out.drew, HX.out, HL.out.drew⟩ (fun _ => ?_)
      refine HeldBy.gen (fun V => AskAt V g (off + i * 3) a ∧ BoxL V w.heap.size x ∧ Below w.heap.size w V) ⟨HT.out.drew, HX.out, HL.out.drew⟩ ?_
      clear HT HX HL
      rintro U0 HS
      refine HeldBy.take (i := 0) rfl (by kernel_rfl) (by kernel_rfl) (by kernel_rfl) (fun _ _ _ h => h) (by rfl) (fun V hV => by have h0 := hV.2.1.c0; have h1 := hV.2.1.c1; have h2 := hV.2.1.c2; first | (go_simp; rfl) | (go_simp; done)) (by go_simp; rfl) HS ?_
      refine HeldBy.take (i := 1) rfl (by kernel_rfl) (by kernel_rfl) (by kernel_rfl) (fun _ _ _ h => h) (by rfl) (fun _ _ => by first | (go_simp; rfl) | (go_simp; done)) (by go_simp; rfl) HS ?_
      refine HeldBy.take (i := 2) rfl (by kernel_rfl) (by kernel_rfl) (by kernel_rfl) (fun _ _ _ h => h) (by rfl) (fun _ _ => by first | (go_simp; rfl) | (go_simp; done)) (by go_simp; rfl) HS ?_
      refine HeldBy.take (i := 3) rfl (by kernel_rfl) (by kernel_rfl) (by kernel_rfl) (fun _ _ _ h => h) (by rfl) (fun _ _ => by first | (go_simp; rfl) | (go_simp; done)) (by go_simp; rfl) HS ?_
      refine HeldBy.take (i := 4) rfl (by kernel_rfl) (by kernel_rfl) (by kernel_rfl) (fun _ _ _ h => h) (by rfl) (fun _ _ => by first | (go_simp; rfl) | (go_simp; done)) (by go_simp; rfl) HS ?_
      refine HeldBy.take (i := 5) rfl (by kernel_rfl) (by kernel_rfl) (by kernel_rfl) (fun _ _ _ h => h) (by rfl) (fun V hV => by have hc := hV.1.c0; first | (go_simp; rfl) | (go_simp; done)) (by go_simp; rfl) HS ?_
      refine HeldBy.take (i := 6) rfl (by kernel_rfl) (by kernel_rfl) (by kernel_rfl) (fun _ _ _ h => h) (by rfl) (fun _ _ => by first | (go_simp; rfl) | (go_simp; done)) (by go_simp; rfl) HS ?_
      refine HeldBy.take (i := 7) rfl (by kernel_rfl) (by kernel_rfl) (by kernel_rfl) (fun _ _ _ h => h) (by rfl) (fun _ _ => by first | (go_simp; rfl) | (go_simp; done)) (by go_simp; rfl) HS ?_
      refine HeldBy.take (i := 8) rfl (by kernel_rfl) (by kernel_rfl) (by kernel_rfl) (fun _ _ _ h => h) (by rfl) (fun _ _ => by first | (go_simp; rfl) | (go_simp; done)) (by go_simp; rfl) HS ?_
      refine HeldBy.take (i := 9) rfl (by kernel_rfl) (by kernel_rfl) (by kernel_rfl) (fun _ _ _ h => h) (by rfl) (fun _ _ => by first | (go_simp; rfl) | (go_simp; done)) (by go_simp; rfl) HS ?_
      refine HeldBy.take (i := 10) rfl (by kernel_rfl) (by kernel_rfl) (by kernel_rfl) (fun _ _ _ h => h) (by rfl) (fun _ _ => by first | (go_simp; rfl) | (go_simp; done)) (by go_simp; rfl) HS ?_
      refine HeldBy.take (i := 11) rfl (by kernel_rfl) (by kernel_rfl) (by kernel_rfl) (fun _ _ _ h => h) (by rfl) (fun V hV => by have hc := hV.1.c2; first | (go_simp; rfl) | (go_simp; done)) (by go_simp; rfl) HS ?_
      refine HeldBy.take (i := 12) (v := .int .u64 (a.span % 20)) rfl (by kernel_rfl) (by kernel_rfl) (by kernel_rfl) (fun _ _ _ h => h) (by rfl) (fun _ _ => by go_simp; exact Int.tmod_eq_emod_of_nonneg hs0) (by go_simp; rfl) HS ?_
      refine HeldBy.take (i := 13) (v := .int .u64 (a.span % 20 + 1)) rfl (by kernel_rfl) (by kernel_rfl) (by kernel_rfl) (fun _ _ _ h => h) (by rfl) (fun _ _ => by go_simp; exact IntWalk.u64_in _ (by omega)) (by go_simp; rfl) HS ?_
      have HSS : ∀ w', Below U0.heap.size U0 w' → (AskAt w' g (off + i * 3) a ∧ BoxL w' w.heap.size x ∧ Below w.heap.size w w') := fun w' hb => ⟨HS.1.after hb, HS.2.1.after hb, HS.2.2.trans (hb.mono HS.2.2.size)⟩
      refine HeldBy.Goes.without (w0 := U0) (k := 18) (dk := some 6) (x := .cells (cellsL Lz0) 24 (0, 0)) ?_ U0 (Below.refl _ _)
      refine HeldBy.Goes.call (i := 14) (v := .tuple #[encL R, .int .i64 n]) rfl rfl rfl rfl (makes_lz rfl) rfl (by kernel_rfl) (by kernel_rfl) rfl (by decide) (by kernel_rfl) (by intro w; first | (go_simp; done) | (go_simp; first | exact ⟨rfl, rfl⟩ | rfl)) (by first | (go_simp; rfl) | (go_simp; done)) HSS (fun _ => try_at HR.out _ h1 hsp) ?_
      refine HeldBy.Goes.take (i := 15) rfl (by kernel_rfl) rfl (by kernel_rfl) (by kernel_rfl) (by kernel_rfl) (by kernel_rfl) (fun _ _ _ h => h) rfl (by decide) (by kernel_rfl) (fun _ _ => by first | (go_simp; rfl) | (go_simp; done)) (by first | (go_simp; rfl) | (go_simp; done)) HSS ?_
      refine HeldBy.Goes.take (i := 16) rfl (by kernel_rfl) rfl (by kernel_rfl) (by kernel_rfl) (by kernel_rfl) (by kernel_rfl) (fun _ _ _ h => h) rfl (by decide) (by kernel_rfl) (fun _ _ => by first | (go_simp; rfl) | (go_simp; done)) (by first | (go_simp; rfl) | (go_simp; done)) HSS ?_
      refine HeldBy.Goes.take (i := 17) rfl (by kernel_rfl) rfl (by kernel_rfl) (by kernel_rfl) (by kernel_rfl) (by kernel_rfl) (fun _ _ _ h => h) rfl (by decide) (by kernel_rfl) (fun _ _ => by first | (go_simp; rfl) | (go_simp; done)) (by first | (go_simp; rfl) | (go_simp; done)) HSS ?_
      refine HeldBy.Goes.nil rfl rfl (by kernel_rfl) rfl (makes_lz rfl) HSS rfl (fun p => by unfold HeldBy.ptr; go_simp; rfl) ?_
      intro p U1 hp hb hn
      have hS := HSS U1 hb
      have hlt := HS.1.lt
      have hlt2 := HS.2.1.lt
      have hr : BoxL U1 p Lz0 := hn
      refine HeldBy.store (i := 19) (w' := U1.setRow p (cellsL R)) rfl (by kernel_rfl) (by rfl) (store_lz (y := R) hr rfl rfl rfl) (by go_simp; rfl) ⟨hS.1.row (by omega) _ (setRow_size _ _ _), hS.2.1.row (by omega) _, below_setRow hS.2.2 (by omega) _⟩ ?_
      refine HeldBy.take (i := 20) rfl (by kernel_rfl) (by kernel_rfl) (by kernel_rfl) (fun _ _ _ h => h) (by rfl) (fun _ _ => by first | (go_simp; rfl) | (go_simp; done)) (by first | (go_simp; rfl) | (go_simp; done)) ⟨hS.1.row (by omega) _ (setRow_size _ _ _), hS.2.1.row (by omega) _, below_setRow hS.2.2 (by omega) _⟩ ?_
      refine wpAnyH_done (by kernel_rfl) ?_ _
      refine then_gen (fun V => BoxL V p R ∧ AskAt V g (off + i * 3) a ∧ BoxL V w.heap.size x ∧ Below w.heap.size w V) ⟨hr.setRow R, hS.1.row (by omega) _ (setRow_size _ _ _), hS.2.1.row (by omega) _, below_setRow hS.2.2 (by omega) _⟩ ?_
      clear hS HSS hr hn hb HS hlt hlt2 hp
      rintro U2 ⟨hq, ht, hx, hlow⟩
      have HP := Lib.hid hq
      have HT := Lib.hid ht
      have HX := Lib.hid hx
      have HL := Lib.hid hlow
      clear hq ht hx hlow
      rcases try_cases HR.out with ⟨hn0, hR, h8⟩ | ⟨rfl, he, hmine, hwho, hlt, hR⟩ | ⟨rfl, he, hs1, hmine, hfree, hR⟩
      · have b1 : (n == 0) = false := by simpa using hn0
        have b2 : (n != 0) = true := by simpa using hn0
        clear HR HP
        by_cases hn8 : n = 8
        · subst hn8
          obtain ⟨hne, hlt⟩ := h8 rfl
          have hq : (x.h.toList == a.who.toList) = false := by rw [tl_eq]; simpa using hne
          go_upto_region 9 with (fail)
          refine wp_region_held_drew (S := fun V => AskAt V g (off + i * 3) a ∧ BoxL V w.heap.size x ∧ Below w.heap.size w V) (by kernel_rfl) ⟨HT.out.drew, HX.out, HL.out.drew⟩ (fun _ => ?_)
          refine HeldBy.gen (fun V => AskAt V g (off + i * 3) a ∧ BoxL V w.heap.size x ∧ Below w.heap.size w V) ⟨HT.out.drew, HX.out, HL.out.drew⟩ ?_
          clear HT HX HL
          rintro U0 HS
          refine HeldBy.take (i := 0) rfl (by kernel_rfl) (by kernel_rfl) (by kernel_rfl) (fun _ _ _ h => h) (by rfl) (fun _ _ => by first | (go_simp; rfl) | (go_simp; done)) (by go_simp; rfl) HS ?_
          refine HeldBy.take (i := 1) (v := .bool true) rfl (by kernel_rfl) (by kernel_rfl) (by kernel_rfl) (fun _ _ _ h => h) (by rfl) (fun _ _ => by go_simp) (by go_simp; rfl) HS ?_
          refine HeldBy.take (i := 2) rfl (by kernel_rfl) (by kernel_rfl) (by kernel_rfl) (fun _ _ _ h => h) (by rfl) (fun _ _ => by first | (go_simp; rfl) | (go_simp; done)) (by go_simp; rfl) HS ?_
          refine HeldBy.take (i := 3) rfl (by kernel_rfl) (by kernel_rfl) (by kernel_rfl) (fun _ _ _ h => h) (by rfl) (fun _ _ => by first | (go_simp; rfl) | (go_simp; done)) (by go_simp; rfl) HS ?_
          refine HeldBy.take (i := 4) rfl (by kernel_rfl) (by kernel_rfl) (by kernel_rfl) (fun _ _ _ h => h) (by rfl) (fun V hV => by have hc := hV.2.1.c0; first | (go_simp; rfl) | (go_simp; done)) (by go_simp; rfl) HS ?_
          refine HeldBy.take (i := 5) rfl (by kernel_rfl) (by kernel_rfl) (by kernel_rfl) (fun _ _ _ h => h) (by rfl) (fun _ _ => by first | (go_simp; rfl) | (go_simp; done)) (by go_simp; rfl) HS ?_
          refine HeldBy.take (i := 6) rfl (by kernel_rfl) (by kernel_rfl) (by kernel_rfl) (fun _ _ _ h => h) (by rfl) (fun _ _ => by first | (go_simp; rfl) | (go_simp; done)) (by go_simp; rfl) HS ?_
          refine HeldBy.take (i := 7) rfl (by kernel_rfl) (by kernel_rfl) (by kernel_rfl) (fun _ _ _ h => h) (by rfl) (fun _ _ => by first | (go_simp; rfl) | (go_simp; done)) (by go_simp; rfl) HS ?_
          refine HeldBy.take (i := 8) rfl (by kernel_rfl) (by kernel_rfl) (by kernel_rfl) (fun _ _ _ h => h) (by rfl) (fun _ _ => by first | (go_simp; rfl) | (go_simp; done)) (by go_simp; rfl) HS ?_
          refine HeldBy.take (i := 9) rfl (by kernel_rfl) (by kernel_rfl) (by kernel_rfl) (fun _ _ _ h => h) (by rfl) (fun V hV => by have hc := hV.1.c0; first | (go_simp; rfl) | (go_simp; done)) (by go_simp; rfl) HS ?_
          refine HeldBy.take (i := 10) (v := .bool false) rfl (by kernel_rfl) (by kernel_rfl) (by kernel_rfl) (fun _ _ _ h => h) (by rfl) (fun _ _ => by first | (go_simp; done) | (go_simp; exact hq)) (by go_simp; rfl) HS ?_
          refine HeldBy.take (i := 11) rfl (by kernel_rfl) (by kernel_rfl) (by kernel_rfl) (fun _ _ _ h => h) (by rfl) (fun _ _ => by first | (go_simp; rfl) | (go_simp; done)) (by go_simp; rfl) HS ?_
          refine HeldBy.take (i := 12) rfl (by kernel_rfl) (by kernel_rfl) (by kernel_rfl) (fun _ _ _ h => h) (by rfl) (fun _ _ => by first | (go_simp; rfl) | (go_simp; done)) (by go_simp; rfl) HS ?_
          refine HeldBy.take (i := 13) rfl (by kernel_rfl) (by kernel_rfl) (by kernel_rfl) (fun _ _ _ h => h) (by rfl) (fun _ _ => by first | (go_simp; rfl) | (go_simp; done)) (by go_simp; rfl) HS ?_
          refine HeldBy.take (i := 14) rfl (by kernel_rfl) (by kernel_rfl) (by kernel_rfl) (fun _ _ _ h => h) (by rfl) (fun V hV => by have hc := hV.2.1.c1; first | (go_simp; rfl) | (go_simp; done)) (by go_simp; rfl) HS ?_
          refine HeldBy.take (i := 15) (v := .bool false) rfl (by kernel_rfl) (by kernel_rfl) (by kernel_rfl) (fun _ _ _ h => h) (by rfl) (fun _ _ => by first | (go_simp; done) | (go_simp; omega)) (by go_simp; rfl) HS ?_
          refine HeldBy.take (i := 16) rfl (by kernel_rfl) (by kernel_rfl) (by kernel_rfl) (fun _ _ _ h => h) (by rfl) (fun _ _ => by first | (go_simp; rfl) | (go_simp; done)) (by go_simp; rfl) HS ?_
          refine HeldBy.take (i := 17) rfl (by kernel_rfl) (by kernel_rfl) (by kernel_rfl) (fun _ _ _ h => h) (by rfl) (fun _ _ => by first | (go_simp; rfl) | (go_simp; done)) (by go_simp; rfl) HS ?_
          refine wpAnyH_done (by kernel_rfl) ?_ _
          have HXE := Lib.hid HS.2.1
          have HLE := Lib.hid HS.2.2
          clear HS
          go_wp2
          go_roundw
          case rel => exact ⟨i + 1, nw', x, rfl, rfl, by omega, by omega, h1, by omega, HF.out, HXE.out, HLE.out⟩
          case measure => simp [intOf]; omega
        · have b8 : (n == 8) = false := by simpa using hn8
          go_upto_region 9 with (fail)
          refine wp_region_held_drew (S := fun V => AskAt V g (off + i * 3) a ∧ BoxL V w.heap.size x ∧ Below w.heap.size w V) (by kernel_rfl) ⟨HT.out.drew, HX.out, HL.out.drew⟩ (fun _ => ?_)
          refine HeldBy.gen (fun V => AskAt V g (off + i * 3) a ∧ BoxL V w.heap.size x ∧ Below w.heap.size w V) ⟨HT.out.drew, HX.out, HL.out.drew⟩ ?_
          clear HT HX HL
          rintro U0 HS
          refine HeldBy.take (i := 0) rfl (by kernel_rfl) (by kernel_rfl) (by kernel_rfl) (fun _ _ _ h => h) (by rfl) (fun _ _ => by first | (go_simp; rfl) | (go_simp; done)) (by go_simp; rfl) HS ?_
          refine HeldBy.take (i := 1) (v := .bool false) rfl (by kernel_rfl) (by kernel_rfl) (by kernel_rfl) (fun _ _ _ h => h) (by rfl) (fun _ _ => by first | (go_simp; done) | (go_simp; exact b8)) (by go_simp; rfl) HS ?_
          refine HeldBy.take (i := 2) rfl (by kernel_rfl) (by kernel_rfl) (by kernel_rfl) (fun _ _ _ h => h) (by rfl) (fun _ _ => by first | (go_simp; rfl) | (go_simp; done)) (by go_simp; rfl) HS ?_
          refine HeldBy.skip (i := 3) rfl (by kernel_rfl) (by kernel_rfl) (by kernel_rfl) (fun _ _ _ h => h) (by rfl) (by go_simp; rfl) HS ?_
          refine HeldBy.skip (i := 4) rfl (by kernel_rfl) (by kernel_rfl) (by kernel_rfl) (fun _ _ _ h => h) (by rfl) (by go_simp; rfl) HS ?_
          refine HeldBy.skip (i := 5) rfl (by kernel_rfl) (by kernel_rfl) (by kernel_rfl) (fun _ _ _ h => h) (by rfl) (by go_simp; rfl) HS ?_
          refine HeldBy.skip (i := 6) rfl (by kernel_rfl) (by kernel_rfl) (by kernel_rfl) (fun _ _ _ h => h) (by rfl) (by go_simp; rfl) HS ?_
          refine HeldBy.skip (i := 7) rfl (by kernel_rfl) (by kernel_rfl) (by kernel_rfl) (fun _ _ _ h => h) (by rfl) (by go_simp; rfl) HS ?_
          refine HeldBy.skip (i := 8) rfl (by kernel_rfl) (by kernel_rfl) (by kernel_rfl) (fun _ _ _ h => h) (by rfl) (by go_simp; rfl) HS ?_
          refine HeldBy.skip (i := 9) rfl (by kernel_rfl) (by kernel_rfl) (by kernel_rfl) (fun _ _ _ h => h) (by rfl) (by go_simp; rfl) HS ?_
          refine HeldBy.skip (i := 10) rfl (by kernel_rfl) (by kernel_rfl) (by kernel_rfl) (fun _ _ _ h => h) (by rfl) (by go_simp; rfl) HS ?_
          refine HeldBy.skip (i := 11) rfl (by kernel_rfl) (by kernel_rfl) (by kernel_rfl) (fun _ _ _ h => h) (by rfl) (by go_simp; rfl) HS ?_
          refine HeldBy.skip (i := 12) rfl (by kernel_rfl) (by kernel_rfl) (by kernel_rfl) (fun _ _ _ h => h) (by rfl) (by go_simp; rfl) HS ?_
          refine HeldBy.skip (i := 13) rfl (by kernel_rfl) (by kernel_rfl) (by kernel_rfl) (fun _ _ _ h => h) (by rfl) (by go_simp; rfl) HS ?_
          refine HeldBy.skip (i := 14) rfl (by kernel_rfl) (by kernel_rfl) (by kernel_rfl) (fun _ _ _ h => h) (by rfl) (by go_simp; rfl) HS ?_
          refine HeldBy.skip (i := 15) rfl (by kernel_rfl) (by kernel_rfl) (by kernel_rfl) (fun _ _ _ h => h) (by rfl) (by go_simp; rfl) HS ?_
          refine HeldBy.skip (i := 16) rfl (by kernel_rfl) (by kernel_rfl) (by kernel_rfl) (fun _ _ _ h => h) (by rfl) (by go_simp; rfl) HS ?_
          refine HeldBy.take (i := 17) rfl (by kernel_rfl) (by kernel_rfl) (by kernel_rfl) (fun _ _ _ h => h) (by rfl) (fun _ _ => by first | (go_simp; rfl) | (go_simp; done)) (by go_simp; rfl) HS ?_
          refine wpAnyH_done (by kernel_rfl) ?_ _
          have HXE := Lib.hid HS.2.1
          have HLE := Lib.hid HS.2.2
          clear HS
          go_wp2
          go_roundw
          case rel => exact ⟨i + 1, nw', x, rfl, rfl, by omega, by omega, h1, by omega, HF.out, HXE.out, HLE.out⟩
          case measure => simp [intOf]; omega
      · obtain ⟨u', hu, hu1, hu2⟩ : ∃ u', max x.u (nw' + (a.span % 20 + 1)) = u' ∧ x.u ≤ u' ∧ nw' < u' := ⟨_, rfl, by omega, by omega⟩
        rw [hu] at hR
        clear hu
        have hmine2 : mineB ⟨x.h, u', x.t⟩ a.who nw' = true := mine_iff.2 ⟨he, hwho, hu2⟩
        clear HR hwho he
        subst hR
        go_upto_region 11 with (fail)
        refine wp_region_held_drew (S := fun V => BoxL V p ⟨x.h, u', x.t⟩ ∧ AskAt V g (off + i * 3) a ∧ BoxL V w.heap.size x ∧ Below w.heap.size w V) (by kernel_rfl) ⟨HP.out, HT.out.drew, HX.out, HL.out.drew⟩ (fun _ => ?_)
        refine HeldBy.gen (fun V => BoxL V p ⟨x.h, u', x.t⟩ ∧ AskAt V g (off + i * 3) a ∧ BoxL V w.heap.size x ∧ Below w.heap.size w V) ⟨HP.out, HT.out.drew, HX.out, HL.out.drew⟩ ?_
        clear HP HT HX HL
        rintro U0 HS
        refine HeldBy.take (i := 0) rfl (by kernel_rfl) (by kernel_rfl) (by kernel_rfl) (fun _ _ _ h => h) (by rfl) (fun V hV => by have h0 := hV.2.2.1.c0; have h1 := hV.2.2.1.c1; have h2 := hV.2.2.1.c2; first | (go_simp; rfl) | (go_simp; done)) (by go_simp; rfl) HS ?_
        refine HeldBy.take (i := 1) rfl (by kernel_rfl) (by kernel_rfl) (by kernel_rfl) (fun _ _ _ h => h) (by rfl) (fun _ _ => by first | (go_simp; rfl) | (go_simp; done)) (by go_simp; rfl) HS ?_
        refine HeldBy.take (i := 2) rfl (by kernel_rfl) (by kernel_rfl) (by kernel_rfl) (fun _ _ _ h => h) (by rfl) (fun _ _ => by first | (go_simp; rfl) | (go_simp; done)) (by go_simp; rfl) HS ?_
        refine HeldBy.take (i := 3) rfl (by kernel_rfl) (by kernel_rfl) (by kernel_rfl) (fun _ _ _ h => h) (by rfl) (fun _ _ => by first | (go_simp; rfl) | (go_simp; done)) (by go_simp; rfl) HS ?_
        refine HeldBy.take (i := 4) rfl (by kernel_rfl) (by kernel_rfl) (by kernel_rfl) (fun _ _ _ h => h) (by rfl) (fun _ _ => by first | (go_simp; rfl) | (go_simp; done)) (by go_simp; rfl) HS ?_
        refine HeldBy.take (i := 5) rfl (by kernel_rfl) (by kernel_rfl) (by kernel_rfl) (fun _ _ _ h => h) (by rfl) (fun V hV => by have hc := hV.2.1.c0; first | (go_simp; rfl) | (go_simp; done)) (by go_simp; rfl) HS ?_
        refine HeldBy.take (i := 6) rfl (by kernel_rfl) (by kernel_rfl) (by kernel_rfl) (fun _ _ _ h => h) (by rfl) (fun _ _ => by first | (go_simp; rfl) | (go_simp; done)) (by go_simp; rfl) HS ?_
        refine HeldBy.call (i := 7) (v := .bool true) rfl (by kernel_rfl) (by rfl) (by go_simp; exact ⟨rfl, rfl⟩) (by go_simp; rfl) ?_
        refine (mine_at hmine _).mono ?_
        rintro e U1 ⟨rfl, hb⟩
        replace HS : BoxL U1 p ⟨x.h, u', x.t⟩ ∧ AskAt U1 g (off + i * 3) a ∧ BoxL U1 w.heap.size x ∧ Below w.heap.size w U1 := ⟨HS.1.after hb, HS.2.1.after hb, HS.2.2.1.after hb, HS.2.2.2.trans (hb.mono HS.2.2.2.size)⟩
        refine ⟨rfl, HS, ?_⟩
        clear hb
        refine HeldBy.take (i := 8) rfl (by kernel_rfl) (by kernel_rfl) (by kernel_rfl) (fun _ _ _ h => h) (by rfl) (fun _ _ => by first | (go_simp; rfl) | (go_simp; done)) (by go_simp; rfl) HS ?_
        refine wpAnyH_done (by kernel_rfl) ?_ _
        have HP := Lib.hid HS.1
        have HT := Lib.hid HS.2.1
        have HX := Lib.hid HS.2.2.1
        have HL := Lib.hid HS.2.2.2
        clear HS
        go_upto_region 12 with (fail)
        refine wp_region_held_drew (S := fun V => BoxL V p ⟨x.h, u', x.t⟩ ∧ AskAt V g (off + i * 3) a ∧ BoxL V w.heap.size x ∧ Below w.heap.size w V) (by kernel_rfl) ⟨HP.out, HT.out.drew, HX.out, HL.out.drew⟩ (fun _ => ?_)
        refine HeldBy.gen (fun V => BoxL V p ⟨x.h, u', x.t⟩ ∧ AskAt V g (off + i * 3) a ∧ BoxL V w.heap.size x ∧ Below w.heap.size w V) ⟨HP.out, HT.out.drew, HX.out, HL.out.drew⟩ ?_
        clear HP HT HX HL
        rintro U0 HS
        refine HeldBy.take (i := 0) rfl (by kernel_rfl) (by kernel_rfl) (by kernel_rfl) (fun _ _ _ h => h) (by rfl) (fun _ _ => by first | (go_simp; rfl) | (go_simp; done)) (by go_simp; rfl) HS ?_
        refine HeldBy.take (i := 1) rfl (by kernel_rfl) (by kernel_rfl) (by kernel_rfl) (fun _ _ _ h => h) (by rfl) (fun _ _ => by first | (go_simp; rfl) | (go_simp; done)) (by go_simp; rfl) HS ?_
        refine HeldBy.take (i := 2) rfl (by kernel_rfl) (by kernel_rfl) (by kernel_rfl) (fun _ _ _ h => h) (by rfl) (fun _ _ => by first | (go_simp; rfl) | (go_simp; done)) (by go_simp; rfl) HS ?_
        refine HeldBy.take (i := 3) rfl (by kernel_rfl) (by kernel_rfl) (by kernel_rfl) (fun _ _ _ h => h) (by rfl) (fun V hV => by have hc := hV.1.c2; first | (go_simp; rfl) | (go_simp; done)) (by go_simp; rfl) HS ?_
        refine HeldBy.take (i := 4) rfl (by kernel_rfl) (by kernel_rfl) (by kernel_rfl) (fun _ _ _ h => h) (by rfl) (fun _ _ => by first | (go_simp; rfl) | (go_simp; done)) (by go_simp; rfl) HS ?_
        refine HeldBy.take (i := 5) rfl (by kernel_rfl) (by kernel_rfl) (by kernel_rfl) (fun _ _ _ h => h) (by rfl) (fun V hV => by have hc := hV.2.2.1.c2; first | (go_simp; rfl) | (go_simp; done)) (by go_simp; rfl) HS ?_
        refine HeldBy.take (i := 6) (v := .bool false) rfl (by kernel_rfl) (by kernel_rfl) (by kernel_rfl) (fun _ _ _ h => h) (by rfl) (fun _ _ => by go_simp) (by go_simp; rfl) HS ?_
        refine HeldBy.take (i := 7) rfl (by kernel_rfl) (by kernel_rfl) (by kernel_rfl) (fun _ _ _ h => h) (by rfl) (fun _ _ => by first | (go_simp; rfl) | (go_simp; done)) (by go_simp; rfl) HS ?_
        refine HeldBy.take (i := 8) rfl (by kernel_rfl) (by kernel_rfl) (by kernel_rfl) (fun _ _ _ h => h) (by rfl) (fun _ _ => by first | (go_simp; rfl) | (go_simp; done)) (by go_simp; rfl) HS ?_
        refine HeldBy.take (i := 9) rfl (by kernel_rfl) (by kernel_rfl) (by kernel_rfl) (fun _ _ _ h => h) (by rfl) (fun V hV => by have hc := hV.1.c1; first | (go_simp; rfl) | (go_simp; done)) (by go_simp; rfl) HS ?_
        refine HeldBy.take (i := 10) rfl (by kernel_rfl) (by kernel_rfl) (by kernel_rfl) (fun _ _ _ h => h) (by rfl) (fun _ _ => by first | (go_simp; rfl) | (go_simp; done)) (by go_simp; rfl) HS ?_
        refine HeldBy.take (i := 11) rfl (by kernel_rfl) (by kernel_rfl) (by kernel_rfl) (fun _ _ _ h => h) (by rfl) (fun V hV => by have hc := hV.2.2.1.c1; first | (go_simp; rfl) | (go_simp; done)) (by go_simp; rfl) HS ?_
        refine HeldBy.take (i := 12) (v := .bool false) rfl (by kernel_rfl) (by kernel_rfl) (by kernel_rfl) (fun _ _ _ h => h) (by rfl) (fun _ _ => by first | (go_simp; done) | (go_simp; omega)) (by go_simp; rfl) HS ?_
        refine HeldBy.take (i := 13) rfl (by kernel_rfl) (by kernel_rfl) (by kernel_rfl) (fun _ _ _ h => h) (by rfl) (fun _ _ => by first | (go_simp; rfl) | (go_simp; done)) (by go_simp; rfl) HS ?_
        refine HeldBy.take (i := 14) rfl (by kernel_rfl) (by kernel_rfl) (by kernel_rfl) (fun _ _ _ h => h) (by rfl) (fun _ _ => by first | (go_simp; rfl) | (go_simp; done)) (by go_simp; rfl) HS ?_
        refine HeldBy.take (i := 15) rfl (by kernel_rfl) (by kernel_rfl) (by kernel_rfl) (fun _ _ _ h => h) (by rfl) (fun _ _ => by first | (go_simp; rfl) | (go_simp; done)) (by go_simp; rfl) HS ?_
        refine HeldBy.take (i := 16) rfl (by kernel_rfl) (by kernel_rfl) (by kernel_rfl) (fun _ _ _ h => h) (by rfl) (fun _ _ => by first | (go_simp; rfl) | (go_simp; done)) (by go_simp; rfl) HS ?_
        refine HeldBy.take (i := 17) rfl (by kernel_rfl) (by kernel_rfl) (by kernel_rfl) (fun _ _ _ h => h) (by rfl) (fun _ _ => by first | (go_simp; rfl) | (go_simp; done)) (by go_simp; rfl) HS ?_
        refine HeldBy.take (i := 18) rfl (by kernel_rfl) (by kernel_rfl) (by kernel_rfl) (fun _ _ _ h => h) (by rfl) (fun _ _ => by first | (go_simp; rfl) | (go_simp; done)) (by go_simp; rfl) HS ?_
        refine HeldBy.skip (i := 19) rfl (by kernel_rfl) (by kernel_rfl) (by kernel_rfl) (fun _ _ _ h => h) (by rfl) (by go_simp; rfl) HS ?_
        refine HeldBy.skip (i := 20) rfl (by kernel_rfl) (by kernel_rfl) (by kernel_rfl) (fun _ _ _ h => h) (by rfl) (by go_simp; rfl) HS ?_
        refine HeldBy.skip (i := 21) rfl (by kernel_rfl) (by kernel_rfl) (by kernel_rfl) (fun _ _ _ h => h) (by rfl) (by go_simp; rfl) HS ?_
        refine HeldBy.skip (i := 22) rfl (by kernel_rfl) (by kernel_rfl) (by kernel_rfl) (fun _ _ _ h => h) (by rfl) (by go_simp; rfl) HS ?_
        refine HeldBy.skip (i := 23) rfl (by kernel_rfl) (by kernel_rfl) (by kernel_rfl) (fun _ _ _ h => h) (by rfl) (by go_simp; rfl) HS ?_
        refine HeldBy.skip (i := 24) rfl (by kernel_rfl) (by kernel_rfl) (by kernel_rfl) (fun _ _ _ h => h) (by rfl) (by go_simp; rfl) HS ?_
        refine HeldBy.take (i := 25) rfl (by kernel_rfl) (by kernel_rfl) (by kernel_rfl) (fun _ _ _ h => h) (by rfl) (fun _ _ => by first | (go_simp; rfl) | (go_simp; done)) (by go_simp; rfl) HS ?_
        refine HeldBy.take (i := 26) rfl (by kernel_rfl) (by kernel_rfl) (by kernel_rfl) (fun _ _ _ h => h) (by rfl) (fun _ _ => by first | (go_simp; rfl) | (go_simp; done)) (by go_simp; rfl) HS ?_
        refine HeldBy.take (i := 27) rfl (by kernel_rfl) (by kernel_rfl) (by kernel_rfl) (fun _ _ _ h => h) (by rfl) (fun _ _ => by first | (go_simp; rfl) | (go_simp; done)) (by go_simp; rfl) HS ?_
        refine HeldBy.take (i := 28) rfl (by kernel_rfl) (by kernel_rfl) (by kernel_rfl) (fun _ _ _ h => h) (by rfl) (fun V hV => by have h0 := hV.1.c0; have h1 := hV.1.c1; have h2 := hV.1.c2; first | (go_simp; rfl) | (go_simp; done)) (by go_simp; rfl) HS ?_
        refine HeldBy.take (i := 29) rfl (by kernel_rfl) (by kernel_rfl) (by kernel_rfl) (fun _ _ _ h => h) (by rfl) (fun _ _ => by first | (go_simp; rfl) | (go_simp; done)) (by go_simp; rfl) HS ?_
        refine HeldBy.take (i := 30) rfl (by kernel_rfl) (by kernel_rfl) (by kernel_rfl) (fun _ _ _ h => h) (by rfl) (fun _ _ => by first | (go_simp; rfl) | (go_simp; done)) (by go_simp; rfl) HS ?_
        refine HeldBy.take (i := 31) rfl (by kernel_rfl) (by kernel_rfl) (by kernel_rfl) (fun _ _ _ h => h) (by rfl) (fun _ _ => by first | (go_simp; rfl) | (go_simp; done)) (by go_simp; rfl) HS ?_
        refine HeldBy.take (i := 32) rfl (by kernel_rfl) (by kernel_rfl) (by kernel_rfl) (fun _ _ _ h => h) (by rfl) (fun _ _ => by first | (go_simp; rfl) | (go_simp; done)) (by go_simp; rfl) HS ?_
        refine HeldBy.take (i := 33) rfl (by kernel_rfl) (by kernel_rfl) (by kernel_rfl) (fun _ _ _ h => h) (by rfl) (fun V hV => by have hc := hV.2.1.c0; first | (go_simp; rfl) | (go_simp; done)) (by go_simp; rfl) HS ?_
        refine HeldBy.take (i := 34) rfl (by kernel_rfl) (by kernel_rfl) (by kernel_rfl) (fun _ _ _ h => h) (by rfl) (fun _ _ => by first | (go_simp; rfl) | (go_simp; done)) (by go_simp; rfl) HS ?_
        refine HeldBy.call (i := 35) (v := .bool true) rfl (by kernel_rfl) (by rfl) (by go_simp; exact ⟨rfl, rfl⟩) (by go_simp; rfl) ?_
        refine (mine_at hmine2 _).mono ?_
        rintro e U1 ⟨rfl, hb⟩
        replace HS : BoxL U1 p ⟨x.h, u', x.t⟩ ∧ AskAt U1 g (off + i * 3) a ∧ BoxL U1 w.heap.size x ∧ Below w.heap.size w U1 := ⟨HS.1.after hb, HS.2.1.after hb, HS.2.2.1.after hb, HS.2.2.2.trans (hb.mono HS.2.2.2.size)⟩
        refine ⟨rfl, HS, ?_⟩
        clear hb
        refine HeldBy.take (i := 36) rfl (by kernel_rfl) (by kernel_rfl) (by kernel_rfl) (fun _ _ _ h => h) (by rfl) (fun _ _ => by first | (go_simp; rfl) | (go_simp; done)) (by go_simp; rfl) HS ?_
        refine HeldBy.take (i := 37) rfl (by kernel_rfl) (by kernel_rfl) (by kernel_rfl) (fun _ _ _ h => h) (by rfl) (fun _ _ => by first | (go_simp; rfl) | (go_simp; done)) (by go_simp; rfl) HS ?_
        refine wpAnyH_done (by kernel_rfl) ?_ _
        have HP := Lib.hid HS.1
        have HX := Lib.hid HS.2.2.1
        have HL := Lib.hid HS.2.2.2
        have hxx := HS.2.2.1
        clear HS
        have p0 := HP.out.c0
        have p1 := HP.out.c1
        have p2 := HP.out.c2
        have HRT := Lib.hid (HX.out.setRow ⟨x.h, u', x.t⟩)
        have HLT := Lib.hid (below_setRow HL.out (g := w.heap.size) (Nat.le_refl _) (cellsL ⟨x.h, u', x.t⟩))
        clear HP HX HL
        go_wp2_with ((with_reducible refine wpList_store_rowTo rfl 24 _ _ rfl rfl w.heap.size (cellsL ⟨x.h, u', x.t⟩) ?_ ?_ 24 (cellsL x) ?_ ?_ ?_ ?_ ?_); rfl; rfl; exact hxx; exact sizeL; rfl; exact one_L _)
        go_roundw
        case rel => exact ⟨i + 1, nw', _, rfl, rfl, by omega, by omega, h1, by omega, hfr, HRT.out, HLT.out⟩
        case measure => simp [intOf]; omega
      · have hmine2 : mineB ⟨a.who, nw' + (a.span % 20 + 1), up x.t⟩ a.who nw' = true := mine_iff.2 ⟨he, rfl, by show nw' < nw' + (a.span % 20 + 1); omega⟩
        clear HR
        subst hR
        go_upto_region 11 with (fail)
        refine wp_region_held_drew (S := fun V => BoxL V p ⟨a.who, nw' + (a.span % 20 + 1), up x.t⟩ ∧ AskAt V g (off + i * 3) a ∧ BoxL V w.heap.size x ∧ Below w.heap.size w V) (by kernel_rfl) ⟨HP.out, HT.out.drew, HX.out, HL.out.drew⟩ (fun _ => ?_)
        refine HeldBy.gen (fun V => BoxL V p ⟨a.who, nw' + (a.span % 20 + 1), up x.t⟩ ∧ AskAt V g (off + i * 3) a ∧ BoxL V w.heap.size x ∧ Below w.heap.size w V) ⟨HP.out, HT.out.drew, HX.out, HL.out.drew⟩ ?_
        clear HP HT HX HL
        rintro U0 HS
        refine HeldBy.take (i := 0) rfl (by kernel_rfl) (by kernel_rfl) (by kernel_rfl) (fun _ _ _ h => h) (by rfl) (fun V hV => by have h0 := hV.2.2.1.c0; have h1 := hV.2.2.1.c1; have h2 := hV.2.2.1.c2; first | (go_simp; rfl) | (go_simp; done)) (by go_simp; rfl) HS ?_
        refine HeldBy.take (i := 1) rfl (by kernel_rfl) (by kernel_rfl) (by kernel_rfl) (fun _ _ _ h => h) (by rfl) (fun _ _ => by first | (go_simp; rfl) | (go_simp; done)) (by go_simp; rfl) HS ?_
        refine HeldBy.take (i := 2) rfl (by kernel_rfl) (by kernel_rfl) (by kernel_rfl) (fun _ _ _ h => h) (by rfl) (fun _ _ => by first | (go_simp; rfl) | (go_simp; done)) (by go_simp; rfl) HS ?_
        refine HeldBy.take (i := 3) rfl (by kernel_rfl) (by kernel_rfl) (by kernel_rfl) (fun _ _ _ h => h) (by rfl) (fun _ _ => by first | (go_simp; rfl) | (go_simp; done)) (by go_simp; rfl) HS ?_
        refine HeldBy.take (i := 4) rfl (by kernel_rfl) (by kernel_rfl) (by kernel_rfl) (fun _ _ _ h => h) (by rfl) (fun _ _ => by first | (go_simp; rfl) | (go_simp; done)) (by go_simp; rfl) HS ?_
        refine HeldBy.take (i := 5) rfl (by kernel_rfl) (by kernel_rfl) (by kernel_rfl) (fun _ _ _ h => h) (by rfl) (fun V hV => by have hc := hV.2.1.c0; first | (go_simp; rfl) | (go_simp; done)) (by go_simp; rfl) HS ?_
        refine HeldBy.take (i := 6) rfl (by kernel_rfl) (by kernel_rfl) (by kernel_rfl) (fun _ _ _ h => h) (by rfl) (fun _ _ => by first | (go_simp; rfl) | (go_simp; done)) (by go_simp; rfl) HS ?_
        refine HeldBy.call (i := 7) (v := .bool false) rfl (by kernel_rfl) (by rfl) (by go_simp; exact ⟨rfl, rfl⟩) (by go_simp; rfl) ?_
        refine (mine_at hmine _).mono ?_
        rintro e U1 ⟨rfl, hb⟩
        replace HS : BoxL U1 p ⟨a.who, nw' + (a.span % 20 + 1), up x.t⟩ ∧ AskAt U1 g (off + i * 3) a ∧ BoxL U1 w.heap.size x ∧ Below w.heap.size w U1 := ⟨HS.1.after hb, HS.2.1.after hb, HS.2.2.1.after hb, HS.2.2.2.trans (hb.mono HS.2.2.2.size)⟩
        refine ⟨rfl, HS, ?_⟩
        clear hb
        refine HeldBy.take (i := 8) rfl (by kernel_rfl) (by kernel_rfl) (by kernel_rfl) (fun _ _ _ h => h) (by rfl) (fun _ _ => by first | (go_simp; rfl) | (go_simp; done)) (by go_simp; rfl) HS ?_
        refine wpAnyH_done (by kernel_rfl) ?_ _
        have HP := Lib.hid HS.1
        have HT := Lib.hid HS.2.1
        have HX := Lib.hid HS.2.2.1
        have HL := Lib.hid HS.2.2.2
        clear HS
        go_upto_region 12 with (fail)
        refine wp_region_held_drew (S := fun V => BoxL V p ⟨a.who, nw' + (a.span % 20 + 1), up x.t⟩ ∧ AskAt V g (off + i * 3) a ∧ BoxL V w.heap.size x ∧ Below w.heap.size w V) (by kernel_rfl) ⟨HP.out, HT.out.drew, HX.out, HL.out.drew⟩ (fun _ => ?_)
        refine HeldBy.gen (fun V => BoxL V p ⟨a.who, nw' + (a.span % 20 + 1), up x.t⟩ ∧ AskAt V g (off + i * 3) a ∧ BoxL V w.heap.size x ∧ Below w.heap.size w V) ⟨HP.out, HT.out.drew, HX.out, HL.out.drew⟩ ?_
        clear HP HT HX HL
        rintro U0 HS
        refine HeldBy.take (i := 0) rfl (by kernel_rfl) (by kernel_rfl) (by kernel_rfl) (fun _ _ _ h => h) (by rfl) (fun _ _ => by first | (go_simp; rfl) | (go_simp; done)) (by go_simp; rfl) HS ?_
        refine HeldBy.take (i := 1) rfl (by kernel_rfl) (by kernel_rfl) (by kernel_rfl) (fun _ _ _ h => h) (by rfl) (fun _ _ => by first | (go_simp; rfl) | (go_simp; done)) (by go_simp; rfl) HS ?_
        refine HeldBy.skip (i := 2) rfl (by kernel_rfl) (by kernel_rfl) (by kernel_rfl) (fun _ _ _ h => h) (by rfl) (by go_simp; rfl) HS ?_
        refine HeldBy.skip (i := 3) rfl (by kernel_rfl) (by kernel_rfl) (by kernel_rfl) (fun _ _ _ h => h) (by rfl) (by go_simp; rfl) HS ?_
        refine HeldBy.skip (i := 4) rfl (by kernel_rfl) (by kernel_rfl) (by kernel_rfl) (fun _ _ _ h => h) (by rfl) (by go_simp; rfl) HS ?_
        refine HeldBy.skip (i := 5) rfl (by kernel_rfl) (by kernel_rfl) (by kernel_rfl) (fun _ _ _ h => h) (by rfl) (by go_simp; rfl) HS ?_
        refine HeldBy.skip (i := 6) rfl (by kernel_rfl) (by kernel_rfl) (by kernel_rfl) (fun _ _ _ h => h) (by rfl) (by go_simp; rfl) HS ?_
        refine HeldBy.skip (i := 7) rfl (by kernel_rfl) (by kernel_rfl) (by kernel_rfl) (fun _ _ _ h => h) (by rfl) (by go_simp; rfl) HS ?_
        refine HeldBy.skip (i := 8) rfl (by kernel_rfl) (by kernel_rfl) (by kernel_rfl) (fun _ _ _ h => h) (by rfl) (by go_simp; rfl) HS ?_
        refine HeldBy.skip (i := 9) rfl (by kernel_rfl) (by kernel_rfl) (by kernel_rfl) (fun _ _ _ h => h) (by rfl) (by go_simp; rfl) HS ?_
        refine HeldBy.skip (i := 10) rfl (by kernel_rfl) (by kernel_rfl) (by kernel_rfl) (fun _ _ _ h => h) (by rfl) (by go_simp; rfl) HS ?_
        refine HeldBy.skip (i := 11) rfl (by kernel_rfl) (by kernel_rfl) (by kernel_rfl) (fun _ _ _ h => h) (by rfl) (by go_simp; rfl) HS ?_
        refine HeldBy.skip (i := 12) rfl (by kernel_rfl) (by kernel_rfl) (by kernel_rfl) (fun _ _ _ h => h) (by rfl) (by go_simp; rfl) HS ?_
        refine HeldBy.skip (i := 13) rfl (by kernel_rfl) (by kernel_rfl) (by kernel_rfl) (fun _ _ _ h => h) (by rfl) (by go_simp; rfl) HS ?_
        refine HeldBy.take (i := 14) rfl (by kernel_rfl) (by kernel_rfl) (by kernel_rfl) (fun _ _ _ h => h) (by rfl) (fun _ _ => by first | (go_simp; rfl) | (go_simp; done)) (by go_simp; rfl) HS ?_
        refine HeldBy.take (i := 15) rfl (by kernel_rfl) (by kernel_rfl) (by kernel_rfl) (fun _ _ _ h => h) (by rfl) (fun _ _ => by first | (go_simp; rfl) | (go_simp; done)) (by go_simp; rfl) HS ?_
        refine HeldBy.take (i := 16) rfl (by kernel_rfl) (by kernel_rfl) (by kernel_rfl) (fun _ _ _ h => h) (by rfl) (fun _ _ => by first | (go_simp; rfl) | (go_simp; done)) (by go_simp; rfl) HS ?_
        refine HeldBy.take (i := 17) rfl (by kernel_rfl) (by kernel_rfl) (by kernel_rfl) (fun _ _ _ h => h) (by rfl) (fun _ _ => by first | (go_simp; rfl) | (go_simp; done)) (by go_simp; rfl) HS ?_
        refine HeldBy.take (i := 18) rfl (by kernel_rfl) (by kernel_rfl) (by kernel_rfl) (fun _ _ _ h => h) (by rfl) (fun _ _ => by first | (go_simp; rfl) | (go_simp; done)) (by go_simp; rfl) HS ?_
        refine HeldBy.take (i := 19) rfl (by kernel_rfl) (by kernel_rfl) (by kernel_rfl) (fun _ _ _ h => h) (by rfl) (fun _ _ => by first | (go_simp; rfl) | (go_simp; done)) (by go_simp; rfl) HS ?_
        refine HeldBy.take (i := 20) rfl (by kernel_rfl) (by kernel_rfl) (by kernel_rfl) (fun _ _ _ h => h) (by rfl) (fun V hV => by have hc := hV.1.c2; first | (go_simp; rfl) | (go_simp; done)) (by go_simp; rfl) HS ?_
        refine HeldBy.take (i := 21) rfl (by kernel_rfl) (by kernel_rfl) (by kernel_rfl) (fun _ _ _ h => h) (by rfl) (fun _ _ => by first | (go_simp; rfl) | (go_simp; done)) (by go_simp; rfl) HS ?_
        refine HeldBy.take (i := 22) rfl (by kernel_rfl) (by kernel_rfl) (by kernel_rfl) (fun _ _ _ h => h) (by rfl) (fun V hV => by have hc := hV.2.2.1.c2; first | (go_simp; rfl) | (go_simp; done)) (by go_simp; rfl) HS ?_
        refine HeldBy.take (i := 23) (v := .int .u64 (up x.t)) rfl (by kernel_rfl) (by kernel_rfl) (by kernel_rfl) (fun _ _ _ h => h) (by rfl) (fun _ _ => by first | (go_simp; rfl) | (go_simp; done)) (by go_simp; rfl) HS ?_
        refine HeldBy.take (i := 24) (v := .bool false) rfl (by kernel_rfl) (by kernel_rfl) (by kernel_rfl) (fun _ _ _ h => h) (by rfl) (fun _ _ => by go_simp) (by go_simp; rfl) HS ?_
        refine HeldBy.take (i := 25) rfl (by kernel_rfl) (by kernel_rfl) (by kernel_rfl) (fun _ _ _ h => h) (by rfl) (fun _ _ => by first | (go_simp; rfl) | (go_simp; done)) (by go_simp; rfl) HS ?_
        refine HeldBy.take (i := 26) rfl (by kernel_rfl) (by kernel_rfl) (by kernel_rfl) (fun _ _ _ h => h) (by rfl) (fun _ _ => by first | (go_simp; rfl) | (go_simp; done)) (by go_simp; rfl) HS ?_
        refine HeldBy.take (i := 27) rfl (by kernel_rfl) (by kernel_rfl) (by kernel_rfl) (fun _ _ _ h => h) (by rfl) (fun _ _ => by first | (go_simp; rfl) | (go_simp; done)) (by go_simp; rfl) HS ?_
        refine HeldBy.take (i := 28) rfl (by kernel_rfl) (by kernel_rfl) (by kernel_rfl) (fun _ _ _ h => h) (by rfl) (fun V hV => by have h0 := hV.1.c0; have h1 := hV.1.c1; have h2 := hV.1.c2; first | (go_simp; rfl) | (go_simp; done)) (by go_simp; rfl) HS ?_
        refine HeldBy.take (i := 29) rfl (by kernel_rfl) (by kernel_rfl) (by kernel_rfl) (fun _ _ _ h => h) (by rfl) (fun _ _ => by first | (go_simp; rfl) | (go_simp; done)) (by go_simp; rfl) HS ?_
        refine HeldBy.take (i := 30) rfl (by kernel_rfl) (by kernel_rfl) (by kernel_rfl) (fun _ _ _ h => h) (by rfl) (fun _ _ => by first | (go_simp; rfl) | (go_simp; done)) (by go_simp; rfl) HS ?_
        refine HeldBy.take (i := 31) rfl (by kernel_rfl) (by kernel_rfl) (by kernel_rfl) (fun _ _ _ h => h) (by rfl) (fun _ _ => by first | (go_simp; rfl) | (go_simp; done)) (by go_simp; rfl) HS ?_
        refine HeldBy.take (i := 32) rfl (by kernel_rfl) (by kernel_rfl) (by kernel_rfl) (fun _ _ _ h => h) (by rfl) (fun _ _ => by first | (go_simp; rfl) | (go_simp; done)) (by go_simp; rfl) HS ?_
        refine HeldBy.take (i := 33) rfl (by kernel_rfl) (by kernel_rfl) (by kernel_rfl) (fun _ _ _ h => h) (by rfl) (fun V hV => by have hc := hV.2.1.c0; first | (go_simp; rfl) | (go_simp; done)) (by go_simp; rfl) HS ?_
        refine HeldBy.take (i := 34) rfl (by kernel_rfl) (by kernel_rfl) (by kernel_rfl) (fun _ _ _ h => h) (by rfl) (fun _ _ => by first | (go_simp; rfl) | (go_simp; done)) (by go_simp; rfl) HS ?_
        refine HeldBy.call (i := 35) (v := .bool true) rfl (by kernel_rfl) (by rfl) (by go_simp; exact ⟨rfl, rfl⟩) (by go_simp; rfl) ?_
        refine (mine_at hmine2 _).mono ?_
        rintro e U1 ⟨rfl, hb⟩
        replace HS : BoxL U1 p ⟨a.who, nw' + (a.span % 20 + 1), up x.t⟩ ∧ AskAt U1 g (off + i * 3) a ∧ BoxL U1 w.heap.size x ∧ Below w.heap.size w U1 := ⟨HS.1.after hb, HS.2.1.after hb, HS.2.2.1.after hb, HS.2.2.2.trans (hb.mono HS.2.2.2.size)⟩
        refine ⟨rfl, HS, ?_⟩
        clear hb
        refine HeldBy.take (i := 36) rfl (by kernel_rfl) (by kernel_rfl) (by kernel_rfl) (fun _ _ _ h => h) (by rfl) (fun _ _ => by first | (go_simp; rfl) | (go_simp; done)) (by go_simp; rfl) HS ?_
        refine HeldBy.take (i := 37) rfl (by kernel_rfl) (by kernel_rfl) (by kernel_rfl) (fun _ _ _ h => h) (by rfl) (fun _ _ => by first | (go_simp; rfl) | (go_simp; done)) (by go_simp; rfl) HS ?_
        refine wpAnyH_done (by kernel_rfl) ?_ _
        have HP := Lib.hid HS.1
        have HX := Lib.hid HS.2.2.1
        have HL := Lib.hid HS.2.2.2
        have hxx := HS.2.2.1
        clear HS
        have p0 := HP.out.c0
        have p1 := HP.out.c1
        have p2 := HP.out.c2
        have HRT := Lib.hid (HX.out.setRow ⟨a.who, nw' + (a.span % 20 + 1), up x.t⟩)
        have HLT := Lib.hid (below_setRow HL.out (g := w.heap.size) (Nat.le_refl _) (cellsL ⟨a.who, nw' + (a.span % 20 + 1), up x.t⟩))
        clear HP HX HL
        go_wp2_with ((with_reducible refine wpList_store_rowTo rfl 24 _ _ rfl rfl w.heap.size (cellsL ⟨a.who, nw' + (a.span % 20 + 1), up x.t⟩) ?_ ?_ 24 (cellsL x) ?_ ?_ ?_ ?_ ?_); rfl; rfl; exact hxx; exact sizeL; rfl; exact one_L _)
        go_roundw
        case rel => exact ⟨i + 1, nw', _, rfl, rfl, by omega, by omega, h1, by omega, hfr, HRT.out, HLT.out⟩
        case measure => simp [intOf]; omega
    · clear HC
      have hcs : N ≤ i ∨ (i < N ∧ 60 ≤ i) := by omega
      rcases hcs with hcs | ⟨hcs, hcs'⟩
      all_goals
        clear hiN
        go_wp2_with fail
        refine (live_any _).mono ?_
        rintro e V ⟨rfl, hb⟩
        have HF := Lib.hid (HL.out.trans (hb.mono HL.out.size))
        clear hb
        go_wp2
        go_ret
        exact ⟨rfl, HF.out⟩
end Go.Proofs.Ytmamibabaedpcaa.L
