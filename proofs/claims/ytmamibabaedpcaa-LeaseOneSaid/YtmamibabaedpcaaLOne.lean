/- LeaseOne: its walk. -/
import Derived.Test.YtmamibabaedpcaaLAskAt
namespace Go.Proofs.Ytmamibabaedpcaa.L
open Go.RowKit T O
open Go.Lib

set_option maxRecDepth 100000 in
set_option maxHeartbeats 4000000 in
theorem leaseOne_any (v : Value) (l : List Ask) (w : World) (hV : AsksIn w v l) : Calls Try.prog 4 #[v] w fun e w' => e = .returned (.bool true) ∧ Below w.heap.size w w' := by
  obtain ⟨o, c, rfl, hm, hc⟩ := asks_at hV
  obtain ⟨N, hN⟩ : ∃ n, n = l.length := ⟨_, rfl⟩
  obtain ⟨y, hy⟩ : ∃ y : Nat → Ask, y = fun k => l.getD k A0 := ⟨_, rfl⟩
  have HC : Hid (0 < N → ∃ g off, o = some ⟨g, off, none⟩ ∧ g < w.heap.size ∧ ∀ k, k < N → AskAt w g (off + k * 3) (y k) ∧ FitA (y k)) := by
    show _ → _
    rw [hy, hN]
    exact hc
  rw [← hN] at hm ⊢
  clear hc hV hy hN
  go_enter Try.func4, Try.ntmps4
  go_upto_region 2 with (fail)
  refine wp_gen (fun W => BoxL W w.heap.size Lz0 ∧ Below w.heap.size w W) ⟨BoxL.new w Lz0, (Below.refl _ _).alloc (Nat.le_refl _) _⟩ ?_
  rintro W ⟨hx, hlow⟩
  have HX := Lib.hid hx
  have HL := Lib.hid hlow
  clear hx hlow
  go_wp2
  go_loopw [4, 5] (fun nv iv wr => ∃ (i : Nat) (nw : Int) (x : Lz), nv = .int .u64 nw ∧ iv = .int .i64 (i : Int) ∧ i ≤ N ∧ i ≤ 60 ∧ 0 ≤ nw ∧ nw ≤ 16 * (i : Int) ∧ FitL x ∧ BoxL wr w.heap.size x ∧ Below w.heap.size w wr) (fun _ iv _ => (N - intOf iv).toNat)
  case atStart => exact ⟨0, 0, Lz0, rfl, rfl, Nat.zero_le _, by omega, by omega, by omega, fit0, HX.out, HL.out⟩
  case round =>
    clear HX HL
    obtain ⟨i, nw, x, rfl, rfl, hi, hi6, hn0, hn1, hfx, hx, hlow⟩ := hrel
    have HF := Lib.hid hfx
    have HX := Lib.hid hx
    have HL := Lib.hid hlow
    clear hfx hx hlow
    by_cases hiN : i < N ∧ i < 60
    · obtain ⟨hiN, hi60⟩ := hiN
      obtain ⟨g, off, rfl, hg, hall⟩ := HC.out (by omega)
      have HT := Lib.hid ((hall i hiN).1.low rfl HL.out)
      obtain ⟨hwz, ⟨hz0, hz1⟩, ⟨hs0, hs1⟩⟩ := (hall i hiN).2
      have HA : Hid (∀ k, k < N → AskAt w g (off + k * 3) (y k) ∧ FitA (y k)) := hall
      clear hall HC
      obtain ⟨a, hya⟩ : ∃ a, y i = a := ⟨_, rfl⟩
      rw [hya] at HT hwz hz0 hz1 hs0 hs1
      have c1 := HT.out.c1
      have hmod : 0 ≤ a.now % 16 ∧ a.now % 16 < 16 := by omega
      go_upto_region 7 with (fail)
      have h1 : 0 ≤ nw + a.now % 16 := by omega
      have h2 : nw + a.now % 16 ≤ 16 * (i : Int) + 16 := by omega
      clear c1 hn0 hn1 hmod
      generalize nw + a.now % 16 = nw' at h1 h2 ⊢
      have hsp : 0 ≤ a.span % 20 + 1 := by omega
      obtain ⟨R, n, hR⟩ : ∃ R n, tryL x a.who nw' (a.span % 20 + 1) = (R, n) := ⟨_, _, rfl⟩
      have hfr : FitL R := by
        have := fit_try (now := nw') (span := a.span % 20 + 1) HF.out hwz h1
        rwa [hR] at this
      have HR := Lib.hid hR
      clear hR
      have hn1 := BoxL.new wr x
      have x0 := HX.out.c0
      have x1 := HX.out.c1
      have x2 := HX.out.c2
      have hw1 := HL.out.size
      go_upto_region 8 with ((with_reducible refine wpList_store_rowTo rfl 24 _ _ rfl rfl wr.heap.size (cellsL x) ?_ ?_ 24 (cellsL Lz0) ?_ ?_ ?_ ?_ ?_); rfl; rfl; exact BoxL.new wr Lz0; exact sizeL; rfl; exact one_L _)
      refine wp_gen (fun V => BoxL V wr.heap.size x ∧ AskAt V g (off + i * 3) a ∧ BoxL V w.heap.size x ∧ Below w.heap.size w V) ⟨(BoxL.new wr Lz0).setRow x, (HT.out.after ((Below.refl _ _).alloc (Nat.le_refl _) _)).row (by have := HT.out.lt; omega) _ (setRow_size _ _ _), (HX.out.alloc _).row (by have := HX.out.lt; omega) _, below_setRow (HL.out.alloc hw1 _) hw1 _⟩ ?_
      have hbh : w.heap.size < wr.heap.size := HX.out.lt
      clear HT HX HL x0 x1 x2 hn1 hw1
      generalize wr.heap.size = b0 at *
      rintro V0 ⟨hh, ht, hx, hlow⟩
      have HH := Lib.hid hh
      have HT := Lib.hid ht
      have HX := Lib.hid hx
      have HL := Lib.hid hlow
      clear hh ht hx hlow
      refine wp_region_held_drew (S := fun V => BoxL V b0 x ∧ AskAt V g (off + i * 3) a ∧ BoxL V w.heap.size x ∧ Below w.heap.size w V) (by kernel_rfl) ⟨HH.out, HT.out.drew, HX.out, HL.out.drew⟩ (fun _ => ?_)
      refine HeldBy.gen (fun V => BoxL V b0 x ∧ AskAt V g (off + i * 3) a ∧ BoxL V w.heap.size x ∧ Below w.heap.size w V) ⟨HH.out, HT.out.drew, HX.out, HL.out.drew⟩ ?_
      clear HH HT HX HL
      rintro U0 HS
      refine HeldBy.take (i := 0) rfl (by kernel_rfl) (by kernel_rfl) (by kernel_rfl) (fun _ _ _ h => h) (by rfl) (fun V hV => by have h0 := hV.2.2.1.c0; have h1 := hV.2.2.1.c1; have h2 := hV.2.2.1.c2; first | (go_simp; rfl) | (go_simp; done)) (by go_simp; rfl) HS ?_
      refine HeldBy.take (i := 1) rfl (by kernel_rfl) (by kernel_rfl) (by kernel_rfl) (fun _ _ _ h => h) (by rfl) (fun _ _ => by first | (go_simp; rfl) | (go_simp; done)) (by go_simp; rfl) HS ?_
      refine HeldBy.take (i := 2) rfl (by kernel_rfl) (by kernel_rfl) (by kernel_rfl) (fun _ _ _ h => h) (by rfl) (fun _ _ => by first | (go_simp; rfl) | (go_simp; done)) (by go_simp; rfl) HS ?_
      refine HeldBy.take (i := 3) rfl (by kernel_rfl) (by kernel_rfl) (by kernel_rfl) (fun _ _ _ h => h) (by rfl) (fun _ _ => by first | (go_simp; rfl) | (go_simp; done)) (by go_simp; rfl) HS ?_
      refine HeldBy.take (i := 4) rfl (by kernel_rfl) (by kernel_rfl) (by kernel_rfl) (fun _ _ _ h => h) (by rfl) (fun _ _ => by first | (go_simp; rfl) | (go_simp; done)) (by go_simp; rfl) HS ?_
      refine HeldBy.take (i := 5) rfl (by kernel_rfl) (by kernel_rfl) (by kernel_rfl) (fun _ _ _ h => h) (by rfl) (fun V hV => by have hc := hV.2.1.c0; first | (go_simp; rfl) | (go_simp; done)) (by go_simp; rfl) HS ?_
      refine HeldBy.take (i := 6) rfl (by kernel_rfl) (by kernel_rfl) (by kernel_rfl) (fun _ _ _ h => h) (by rfl) (fun _ _ => by first | (go_simp; rfl) | (go_simp; done)) (by go_simp; rfl) HS ?_
      refine HeldBy.take (i := 7) rfl (by kernel_rfl) (by kernel_rfl) (by kernel_rfl) (fun _ _ _ h => h) (by rfl) (fun _ _ => by first | (go_simp; rfl) | (go_simp; done)) (by go_simp; rfl) HS ?_
      refine HeldBy.take (i := 8) rfl (by kernel_rfl) (by kernel_rfl) (by kernel_rfl) (fun _ _ _ h => h) (by rfl) (fun _ _ => by first | (go_simp; rfl) | (go_simp; done)) (by go_simp; rfl) HS ?_
      refine HeldBy.take (i := 9) rfl (by kernel_rfl) (by kernel_rfl) (by kernel_rfl) (fun _ _ _ h => h) (by rfl) (fun _ _ => by first | (go_simp; rfl) | (go_simp; done)) (by go_simp; rfl) HS ?_
      refine HeldBy.take (i := 10) rfl (by kernel_rfl) (by kernel_rfl) (by kernel_rfl) (fun _ _ _ h => h) (by rfl) (fun _ _ => by first | (go_simp; rfl) | (go_simp; done)) (by go_simp; rfl) HS ?_
      refine HeldBy.take (i := 11) rfl (by kernel_rfl) (by kernel_rfl) (by kernel_rfl) (fun _ _ _ h => h) (by rfl) (fun V hV => by have hc := hV.2.1.c2; first | (go_simp; rfl) | (go_simp; done)) (by go_simp; rfl) HS ?_
      refine HeldBy.take (i := 12) (v := .int .u64 (a.span % 20)) rfl (by kernel_rfl) (by kernel_rfl) (by kernel_rfl) (fun _ _ _ h => h) (by rfl) (fun _ _ => by go_simp; exact Int.tmod_eq_emod_of_nonneg hs0) (by go_simp; rfl) HS ?_
      refine HeldBy.take (i := 13) (v := .int .u64 (a.span % 20 + 1)) rfl (by kernel_rfl) (by kernel_rfl) (by kernel_rfl) (fun _ _ _ h => h) (by rfl) (fun _ _ => by go_simp; exact IntWalk.u64_in _ (by omega)) (by go_simp; rfl) HS ?_
      have HSS : ∀ w', Below U0.heap.size U0 w' → (BoxL w' b0 x ∧ AskAt w' g (off + i * 3) a ∧ BoxL w' w.heap.size x ∧ Below w.heap.size w w') := fun w' hb => ⟨HS.1.after hb, HS.2.1.after hb, HS.2.2.1.after hb, HS.2.2.2.trans (hb.mono HS.2.2.2.size)⟩
      refine HeldBy.Goes.without (w0 := U0) (k := 18) (dk := some 7) (x := .cells (cellsL Lz0) 24 (0, 0)) ?_ U0 (Below.refl _ _)
      refine HeldBy.Goes.call (i := 14) (v := .tuple #[encL R, .int .i64 n]) rfl rfl rfl rfl (makes_lz rfl) rfl (by kernel_rfl) (by kernel_rfl) rfl (by decide) (by kernel_rfl) (by intro w; first | (go_simp; done) | (go_simp; first | exact ⟨rfl, rfl⟩ | rfl)) (by first | (go_simp; rfl) | (go_simp; done)) HSS (fun _ => try_at HR.out _ h1 hsp) ?_
      refine HeldBy.Goes.take (i := 15) rfl (by kernel_rfl) rfl (by kernel_rfl) (by kernel_rfl) (by kernel_rfl) (by kernel_rfl) (fun _ _ _ h => h) rfl (by decide) (by kernel_rfl) (fun _ _ => by first | (go_simp; rfl) | (go_simp; done)) (by first | (go_simp; rfl) | (go_simp; done)) HSS ?_
      refine HeldBy.Goes.take (i := 16) rfl (by kernel_rfl) rfl (by kernel_rfl) (by kernel_rfl) (by kernel_rfl) (by kernel_rfl) (fun _ _ _ h => h) rfl (by decide) (by kernel_rfl) (fun _ _ => by first | (go_simp; rfl) | (go_simp; done)) (by first | (go_simp; rfl) | (go_simp; done)) HSS ?_
      refine HeldBy.Goes.take (i := 17) rfl (by kernel_rfl) rfl (by kernel_rfl) (by kernel_rfl) (by kernel_rfl) (by kernel_rfl) (fun _ _ _ h => h) rfl (by decide) (by kernel_rfl) (fun _ _ => by first | (go_simp; rfl) | (go_simp; done)) (by first | (go_simp; rfl) | (go_simp; done)) HSS ?_
      refine HeldBy.Goes.nil rfl rfl (by kernel_rfl) rfl (makes_lz rfl) HSS rfl (fun p => by unfold HeldBy.ptr; go_simp; rfl) ?_
      intro p U1 hp hb hn
      have hS := HSS U1 hb
      have hlt := HS.1.lt
      have hlt2 := HS.2.1.lt
      have hlt3 := HS.2.2.1.lt
      have hr : BoxL U1 p Lz0 := hn
      refine HeldBy.store (i := 19) (w' := U1.setRow p (cellsL R)) rfl (by kernel_rfl) (by rfl) (store_lz (y := R) hr rfl rfl rfl) (by go_simp; rfl) ⟨hS.1.row (by omega) _, hS.2.1.row (by omega) _ (setRow_size _ _ _), hS.2.2.1.row (by omega) _, below_setRow hS.2.2.2 (by omega) _⟩ ?_
      refine HeldBy.take (i := 20) rfl (by kernel_rfl) (by kernel_rfl) (by kernel_rfl) (fun _ _ _ h => h) (by rfl) (fun _ _ => by first | (go_simp; rfl) | (go_simp; done)) (by first | (go_simp; rfl) | (go_simp; done)) ⟨hS.1.row (by omega) _, hS.2.1.row (by omega) _ (setRow_size _ _ _), hS.2.2.1.row (by omega) _, below_setRow hS.2.2.2 (by omega) _⟩ ?_
      refine wpAnyH_done (by kernel_rfl) ?_ _
      refine then_gen (fun V => BoxL V p R ∧ BoxL V b0 x ∧ AskAt V g (off + i * 3) a ∧ BoxL V w.heap.size x ∧ Below w.heap.size w V) ⟨hr.setRow R, hS.1.row (by omega) _, hS.2.1.row (by omega) _ (setRow_size _ _ _), hS.2.2.1.row (by omega) _, below_setRow hS.2.2.2 (by omega) _⟩ ?_
      clear hS HSS hr hn hb HS hlt hlt2 hlt3 hp
      rintro U2 ⟨hq, hh, ht, hx, hlow⟩
      have HP := Lib.hid hq
      have HH := Lib.hid hh
      have HT := Lib.hid ht
      have HX := Lib.hid hx
      have HL := Lib.hid hlow
      clear hq hh ht hx hlow
      go_upto_region 9 with (fail)
      rename_i K1 hK1 K0 hK0
      have HK1 := Lib.hid hK1
      clear hK1
      have J : ∀ (u6 u7 u8 u9 u10 u11 u12 u13 u14 u15 u16 u17 u18 u19 u20 u21 u22 u23 u24 u25 u26 u27 u28 u29 u30 u31 u32 u33 u34 u35 u36 u37 u38 u39 u40 u41 u42 u43 u44 u45 u46 u47 u48 u49 u50 u51 u52 u53 u54 u55 u56 u57 u58 u59 u60 u61 u62 u63 u64 u65 u66 u67 u68 u69 u70 u71 u72 u73 u74 u75 u76 u77 u78 u79 u80 u81 u82 u83 u84 u85 u86 u87 u88 u89 u90 u91 u92 u93 u94 u95 u96 u97 u98 u99 u100 u101 u102 u103 u104 u105 u106 u107 u108 u109 u110 : Value) (W' : World) (x' : Lz), FitL x' → BoxL W' w.heap.size x' → Below w.heap.size w W' → K1 { tmps := #[.slice (some ⟨g, off, none⟩) N c, undef, u2, .pointer (some ⟨w.heap.size, 0, none⟩), .int .u64 nw', .int .i64 (i : Int), u6, u7, u8, u9, u10, u11, u12, u13, u14, u15, u16, u17, u18, u19, u20, u21, u22, u23, u24, u25, u26, u27, u28, u29, u30, u31, u32, u33, u34, u35, u36, u37, u38, u39, u40, u41, u42, u43, u44, u45, u46, u47, u48, u49, u50, u51, u52, u53, u54, u55, u56, u57, u58, u59, u60, u61, u62, u63, u64, u65, u66, u67, u68, u69, u70, u71, u72, u73, u74, u75, u76, u77, u78, u79, u80, u81, u82, u83, u84, u85, u86, u87, u88, u89, u90, u91, u92, u93, u94, u95, u96, u97, u98, u99, u100, u101, u102, u103, u104, u105, u106, u107, u108, u109, u110, undef], defers := [] } W' := by
        intro u6 u7 u8 u9 u10 u11 u12 u13 u14 u15 u16 u17 u18 u19 u20 u21 u22 u23 u24 u25 u26 u27 u28 u29 u30 u31 u32 u33 u34 u35 u36 u37 u38 u39 u40 u41 u42 u43 u44 u45 u46 u47 u48 u49 u50 u51 u52 u53 u54 u55 u56 u57 u58 u59 u60 u61 u62 u63 u64 u65 u66 u67 u68 u69 u70 u71 u72 u73 u74 u75 u76 u77 u78 u79 u80 u81 u82 u83 u84 u85 u86 u87 u88 u89 u90 u91 u92 u93 u94 u95 u96 u97 u98 u99 u100 u101 u102 u103 u104 u105 u106 u107 u108 u109 u110 W' x' hf' hx' hl'
        have HF' := Lib.hid hf'
        have HX' := Lib.hid hx'
        have HL' := Lib.hid hl'
        clear hf' hx' hl' HP HH HT HX HL HR hfr
        refine HK1.out _ _ ?_
        go_wp2
        go_loopw [9, 10] (fun cv kv wr => ∃ (k : Nat) (n : Nat), kv = .int .i64 (k : Int) ∧ cv = .int .i64 (n : Int) ∧ k ≤ i + 1 ∧ n ≤ 1 ∧ (n = 1 → ∃ k', k' < k ∧ (y k').who = x'.h) ∧ BoxL wr w.heap.size x' ∧ Below w.heap.size w wr) (fun _ kv _ => ((i : Int) + 1 - intOf kv).toNat)
        case atStart => exact ⟨0, 0, rfl, rfl, by omega, by omega, by omega, HX'.out, HL'.out⟩
        case round =>
          clear HX' HL'
          obtain ⟨k, m, rfl, rfl, hk, hm1, hmw, hx', hl'⟩ := hrel
          have HM := Lib.hid hmw
          have HX := Lib.hid hx'
          have HL := Lib.hid hl'
          clear hmw hx' hl'
          by_cases hki : k ≤ i
          · have hkN : k < N := by omega
            go_wp2
            go_loopw [11, 12] (fun fv jv wr => ∃ (j : Nat) (b : Bool), jv = .int .i64 (j : Int) ∧ fv = .bool b ∧ j ≤ k ∧ (b = true → ∀ j', j' < j → (y j').who ≠ (y k).who) ∧ BoxL wr w.heap.size x' ∧ Below w.heap.size w wr) (fun _ jv _ => (k - intOf jv).toNat)
            case atStart => exact ⟨0, true, rfl, rfl, Nat.zero_le _, fun _ j' h => absurd h (Nat.not_lt_zero _), HX.out, HL.out⟩
            case round =>
              clear HX HL
              obtain ⟨j, b, rfl, rfl, hj, hbw, hx', hl'⟩ := hrel
              have HB := Lib.hid hbw
              have HX := Lib.hid hx'
              have HL := Lib.hid hl'
              clear hbw hx' hl'
              by_cases hjk : j < k
              · have hjN : j < N := by omega
                cases b with
                | false =>
                  go_upto_region 21 with (fail)
                  refine wp_region_held_drew (S := fun V => BoxL V w.heap.size x' ∧ Below w.heap.size w V) (by kernel_rfl) ⟨HX.out, HL.out.drew⟩ (fun _ => ?_)
                  refine HeldBy.gen (fun V => BoxL V w.heap.size x' ∧ Below w.heap.size w V) ⟨HX.out, HL.out.drew⟩ ?_
                  clear HX HL
                  rintro U0 HS
                  refine HeldBy.take (i := 0) rfl (by kernel_rfl) (by kernel_rfl) (by kernel_rfl) (fun _ _ _ h => h) (by rfl) (fun _ _ => by first | (go_simp; rfl) | (go_simp; done)) (by go_simp; rfl) HS ?_
                  refine HeldBy.take (i := 1) rfl (by kernel_rfl) (by kernel_rfl) (by kernel_rfl) (fun _ _ _ h => h) (by rfl) (fun _ _ => by first | (go_simp; rfl) | (go_simp; done)) (by go_simp; rfl) HS ?_
                  refine HeldBy.skip (i := 2) rfl (by kernel_rfl) (by kernel_rfl) (by kernel_rfl) (fun _ _ _ h => h) (by rfl) (by go_simp; rfl) HS ?_
                  refine HeldBy.skip (i := 3) rfl (by kernel_rfl) (by kernel_rfl) (by kernel_rfl) (fun _ _ _ h => h) (by rfl) (by go_simp; rfl) HS ?_
                  refine HeldBy.skip (i := 4) rfl (by kernel_rfl) (by kernel_rfl) (by kernel_rfl) (fun _ _ _ h => h) (by rfl) (by go_simp; rfl) HS ?_
                  refine HeldBy.skip (i := 5) rfl (by kernel_rfl) (by kernel_rfl) (by kernel_rfl) (fun _ _ _ h => h) (by rfl) (by go_simp; rfl) HS ?_
                  refine HeldBy.skip (i := 6) rfl (by kernel_rfl) (by kernel_rfl) (by kernel_rfl) (fun _ _ _ h => h) (by rfl) (by go_simp; rfl) HS ?_
                  refine HeldBy.skip (i := 7) rfl (by kernel_rfl) (by kernel_rfl) (by kernel_rfl) (fun _ _ _ h => h) (by rfl) (by go_simp; rfl) HS ?_
                  refine HeldBy.skip (i := 8) rfl (by kernel_rfl) (by kernel_rfl) (by kernel_rfl) (fun _ _ _ h => h) (by rfl) (by go_simp; rfl) HS ?_
                  refine HeldBy.skip (i := 9) rfl (by kernel_rfl) (by kernel_rfl) (by kernel_rfl) (fun _ _ _ h => h) (by rfl) (by go_simp; rfl) HS ?_
                  refine HeldBy.skip (i := 10) rfl (by kernel_rfl) (by kernel_rfl) (by kernel_rfl) (fun _ _ _ h => h) (by rfl) (by go_simp; rfl) HS ?_
                  refine HeldBy.skip (i := 11) rfl (by kernel_rfl) (by kernel_rfl) (by kernel_rfl) (fun _ _ _ h => h) (by rfl) (by go_simp; rfl) HS ?_
                  refine HeldBy.skip (i := 12) rfl (by kernel_rfl) (by kernel_rfl) (by kernel_rfl) (fun _ _ _ h => h) (by rfl) (by go_simp; rfl) HS ?_
                  refine HeldBy.take (i := 13) rfl (by kernel_rfl) (by kernel_rfl) (by kernel_rfl) (fun _ _ _ h => h) (by rfl) (fun _ _ => by first | (go_simp; rfl) | (go_simp; done)) (by go_simp; rfl) HS ?_
                  refine HeldBy.take (i := 14) rfl (by kernel_rfl) (by kernel_rfl) (by kernel_rfl) (fun _ _ _ h => h) (by rfl) (fun _ _ => by first | (go_simp; rfl) | (go_simp; done)) (by go_simp; rfl) HS ?_
                  refine wpAnyH_done (by kernel_rfl) ?_ _
                  have HXE := Lib.hid HS.1
                  have HLE := Lib.hid HS.2
                  clear HS
                  go_wp2
                  go_roundw
                  case rel => exact ⟨j + 1, false, rfl, rfl, by omega, (fun h => by cases h), HXE.out, HLE.out⟩
                  case measure => simp [intOf]; omega
                | true =>
                  have HJ := Lib.hid ((HA.out j hjN).1.low rfl HL.out)
                  have HKK := Lib.hid ((HA.out k hkN).1.low rfl HL.out)
                  obtain ⟨d, hd⟩ : ∃ d : Bool, d = decide ((y j).who ≠ (y k).who) := ⟨_, rfl⟩
                  have hq : ((y j).who.toList == (y k).who.toList) = !d := by rw [tl_eq, hd]; simp
                  have HD := Lib.hid hd
                  clear hd
                  go_upto_region 21 with (fail)
                  refine wp_region_held_drew (S := fun V => AskAt V g (off + j * 3) (y j) ∧ AskAt V g (off + k * 3) (y k) ∧ BoxL V w.heap.size x' ∧ Below w.heap.size w V) (by kernel_rfl) ⟨HJ.out.drew, HKK.out.drew, HX.out, HL.out.drew⟩ (fun _ => ?_)
                  refine HeldBy.gen (fun V => AskAt V g (off + j * 3) (y j) ∧ AskAt V g (off + k * 3) (y k) ∧ BoxL V w.heap.size x' ∧ Below w.heap.size w V) ⟨HJ.out.drew, HKK.out.drew, HX.out, HL.out.drew⟩ ?_
                  clear HJ HKK HX HL
                  rintro U0 HS
                  refine HeldBy.take (i := 0) rfl (by kernel_rfl) (by kernel_rfl) (by kernel_rfl) (fun _ _ _ h => h) (by rfl) (fun _ _ => by first | (go_simp; rfl) | (go_simp; done)) (by go_simp; rfl) HS ?_
                  refine HeldBy.take (i := 1) rfl (by kernel_rfl) (by kernel_rfl) (by kernel_rfl) (fun _ _ _ h => h) (by rfl) (fun _ _ => by first | (go_simp; rfl) | (go_simp; done)) (by go_simp; rfl) HS ?_
                  refine HeldBy.take (i := 2) rfl (by kernel_rfl) (by kernel_rfl) (by kernel_rfl) (fun _ _ _ h => h) (by rfl) (fun _ _ => by first | (go_simp; rfl) | (go_simp; done)) (by go_simp; rfl) HS ?_
                  refine HeldBy.take (i := 3) rfl (by kernel_rfl) (by kernel_rfl) (by kernel_rfl) (fun _ _ _ h => h) (by rfl) (fun _ _ => by first | (go_simp; rfl) | (go_simp; done)) (by go_simp; rfl) HS ?_
                  refine HeldBy.take (i := 4) rfl (by kernel_rfl) (by kernel_rfl) (by kernel_rfl) (fun _ _ _ h => h) (by rfl) (fun _ _ => by first | (go_simp; rfl) | (go_simp; done)) (by go_simp; rfl) HS ?_
                  refine HeldBy.take (i := 5) rfl (by kernel_rfl) (by kernel_rfl) (by kernel_rfl) (fun _ _ _ h => h) (by rfl) (fun _ _ => by first | (go_simp; rfl) | (go_simp; done)) (by go_simp; rfl) HS ?_
                  refine HeldBy.take (i := 6) rfl (by kernel_rfl) (by kernel_rfl) (by kernel_rfl) (fun _ _ _ h => h) (by rfl) (fun V hV => by have hc := hV.1.c0; first | (go_simp; rfl) | (go_simp; done)) (by go_simp; rfl) HS ?_
                  refine HeldBy.take (i := 7) rfl (by kernel_rfl) (by kernel_rfl) (by kernel_rfl) (fun _ _ _ h => h) (by rfl) (fun _ _ => by first | (go_simp; rfl) | (go_simp; done)) (by go_simp; rfl) HS ?_
                  refine HeldBy.take (i := 8) rfl (by kernel_rfl) (by kernel_rfl) (by kernel_rfl) (fun _ _ _ h => h) (by rfl) (fun _ _ => by first | (go_simp; rfl) | (go_simp; done)) (by go_simp; rfl) HS ?_
                  refine HeldBy.take (i := 9) rfl (by kernel_rfl) (by kernel_rfl) (by kernel_rfl) (fun _ _ _ h => h) (by rfl) (fun _ _ => by first | (go_simp; rfl) | (go_simp; done)) (by go_simp; rfl) HS ?_
                  refine HeldBy.take (i := 10) rfl (by kernel_rfl) (by kernel_rfl) (by kernel_rfl) (fun _ _ _ h => h) (by rfl) (fun _ _ => by first | (go_simp; rfl) | (go_simp; done)) (by go_simp; rfl) HS ?_
                  refine HeldBy.take (i := 11) rfl (by kernel_rfl) (by kernel_rfl) (by kernel_rfl) (fun _ _ _ h => h) (by rfl) (fun V hV => by have hc := hV.2.1.c0; first | (go_simp; rfl) | (go_simp; done)) (by go_simp; rfl) HS ?_
                  refine HeldBy.take (i := 12) (v := .bool d) rfl (by kernel_rfl) (by kernel_rfl) (by kernel_rfl) (fun _ _ _ h => h) (by rfl) (fun _ _ => by first | (go_simp; done) | (go_simp; simp [hq])) (by go_simp; rfl) HS ?_
                  refine HeldBy.take (i := 13) rfl (by kernel_rfl) (by kernel_rfl) (by kernel_rfl) (fun _ _ _ h => h) (by rfl) (fun _ _ => by first | (go_simp; rfl) | (go_simp; done)) (by go_simp; rfl) HS ?_
                  refine HeldBy.take (i := 14) rfl (by kernel_rfl) (by kernel_rfl) (by kernel_rfl) (fun _ _ _ h => h) (by rfl) (fun _ _ => by first | (go_simp; rfl) | (go_simp; done)) (by go_simp; rfl) HS ?_
                  refine wpAnyH_done (by kernel_rfl) ?_ _
                  have HXE := Lib.hid HS.2.2.1
                  have HLE := Lib.hid HS.2.2.2
                  clear HS
                  go_wp2
                  go_roundw
                  case rel =>
                    refine ⟨j + 1, d, rfl, rfl, by omega, fun h j' hj' => ?_, HXE.out, HLE.out⟩
                    rcases Nat.lt_or_eq_of_le (Nat.le_of_lt_succ hj') with h1 | rfl
                    · exact HB.out rfl j' h1
                    · have := HD.out
                      rw [h] at this
                      exact of_decide_eq_true this.symm
                  case measure => simp [intOf]; omega
              · have hjk2 : j = k := by omega
                subst hjk2
                cases b with
                | false =>
                  go_upto_region 22 with (fail)
                  refine wp_region_held_drew (S := fun V => BoxL V w.heap.size x' ∧ Below w.heap.size w V) (by kernel_rfl) ⟨HX.out, HL.out.drew⟩ (fun _ => ?_)
                  refine HeldBy.gen (fun V => BoxL V w.heap.size x' ∧ Below w.heap.size w V) ⟨HX.out, HL.out.drew⟩ ?_
                  clear HX HL
                  rintro U0 HS
                  refine HeldBy.take (i := 0) rfl (by kernel_rfl) (by kernel_rfl) (by kernel_rfl) (fun _ _ _ h => h) (by rfl) (fun _ _ => by first | (go_simp; rfl) | (go_simp; done)) (by go_simp; rfl) HS ?_
                  refine HeldBy.take (i := 1) rfl (by kernel_rfl) (by kernel_rfl) (by kernel_rfl) (fun _ _ _ h => h) (by rfl) (fun _ _ => by first | (go_simp; rfl) | (go_simp; done)) (by go_simp; rfl) HS ?_
                  refine HeldBy.skip (i := 2) rfl (by kernel_rfl) (by kernel_rfl) (by kernel_rfl) (fun _ _ _ h => h) (by rfl) (by go_simp; rfl) HS ?_
                  refine HeldBy.skip (i := 3) rfl (by kernel_rfl) (by kernel_rfl) (by kernel_rfl) (fun _ _ _ h => h) (by rfl) (by go_simp; rfl) HS ?_
                  refine HeldBy.skip (i := 4) rfl (by kernel_rfl) (by kernel_rfl) (by kernel_rfl) (fun _ _ _ h => h) (by rfl) (by go_simp; rfl) HS ?_
                  refine HeldBy.skip (i := 5) rfl (by kernel_rfl) (by kernel_rfl) (by kernel_rfl) (fun _ _ _ h => h) (by rfl) (by go_simp; rfl) HS ?_
                  refine HeldBy.skip (i := 6) rfl (by kernel_rfl) (by kernel_rfl) (by kernel_rfl) (fun _ _ _ h => h) (by rfl) (by go_simp; rfl) HS ?_
                  refine HeldBy.skip (i := 7) rfl (by kernel_rfl) (by kernel_rfl) (by kernel_rfl) (fun _ _ _ h => h) (by rfl) (by go_simp; rfl) HS ?_
                  refine HeldBy.skip (i := 8) rfl (by kernel_rfl) (by kernel_rfl) (by kernel_rfl) (fun _ _ _ h => h) (by rfl) (by go_simp; rfl) HS ?_
                  refine HeldBy.skip (i := 9) rfl (by kernel_rfl) (by kernel_rfl) (by kernel_rfl) (fun _ _ _ h => h) (by rfl) (by go_simp; rfl) HS ?_
                  refine HeldBy.take (i := 10) rfl (by kernel_rfl) (by kernel_rfl) (by kernel_rfl) (fun _ _ _ h => h) (by rfl) (fun _ _ => by first | (go_simp; rfl) | (go_simp; done)) (by go_simp; rfl) HS ?_
                  refine wpAnyH_done (by kernel_rfl) ?_ _
                  have HXE := Lib.hid HS.1
                  have HLE := Lib.hid HS.2
                  clear HS
                  go_wp2
                  go_roundw
                  case rel =>
                    refine ⟨j + 1, m, rfl, rfl, by omega, hm1, fun h => ?_, HXE.out, HLE.out⟩
                    obtain ⟨k', q1, q2⟩ := HM.out h
                    exact ⟨k', by omega, q2⟩
                  case measure => simp [intOf]; omega
                | true =>
                  have HKK := Lib.hid ((HA.out j hkN).1.low rfl HL.out)
                  go_upto_region 22 with (fail)
                  cases hme : mineB x' (y j).who nw' with
                  | false =>
                    have HME := Lib.hid hme
                    clear hme
                    refine wp_region_held_drew (S := fun V => AskAt V g (off + j * 3) (y j) ∧ BoxL V w.heap.size x' ∧ Below w.heap.size w V) (by kernel_rfl) ⟨HKK.out.drew, HX.out, HL.out.drew⟩ (fun _ => ?_)
                    refine HeldBy.gen (fun V => AskAt V g (off + j * 3) (y j) ∧ BoxL V w.heap.size x' ∧ Below w.heap.size w V) ⟨HKK.out.drew, HX.out, HL.out.drew⟩ ?_
                    clear HKK HX HL
                    rintro U0 HS
                    refine HeldBy.take (i := 0) rfl (by kernel_rfl) (by kernel_rfl) (by kernel_rfl) (fun _ _ _ h => h) (by rfl) (fun _ _ => by first | (go_simp; rfl) | (go_simp; done)) (by go_simp; rfl) HS ?_
                    refine HeldBy.take (i := 1) rfl (by kernel_rfl) (by kernel_rfl) (by kernel_rfl) (fun _ _ _ h => h) (by rfl) (fun _ _ => by first | (go_simp; rfl) | (go_simp; done)) (by go_simp; rfl) HS ?_
                    refine HeldBy.take (i := 2) rfl (by kernel_rfl) (by kernel_rfl) (by kernel_rfl) (fun _ _ _ h => h) (by rfl) (fun V hV => by have h0 := hV.2.1.c0; have h1 := hV.2.1.c1; have h2 := hV.2.1.c2; first | (go_simp; rfl) | (go_simp; done)) (by go_simp; rfl) HS ?_
                    refine HeldBy.take (i := 3) rfl (by kernel_rfl) (by kernel_rfl) (by kernel_rfl) (fun _ _ _ h => h) (by rfl) (fun _ _ => by first | (go_simp; rfl) | (go_simp; done)) (by go_simp; rfl) HS ?_
                    refine HeldBy.take (i := 4) rfl (by kernel_rfl) (by kernel_rfl) (by kernel_rfl) (fun _ _ _ h => h) (by rfl) (fun _ _ => by first | (go_simp; rfl) | (go_simp; done)) (by go_simp; rfl) HS ?_
                    refine HeldBy.take (i := 5) rfl (by kernel_rfl) (by kernel_rfl) (by kernel_rfl) (fun _ _ _ h => h) (by rfl) (fun _ _ => by first | (go_simp; rfl) | (go_simp; done)) (by go_simp; rfl) HS ?_
                    refine HeldBy.take (i := 6) rfl (by kernel_rfl) (by kernel_rfl) (by kernel_rfl) (fun _ _ _ h => h) (by rfl) (fun _ _ => by first | (go_simp; rfl) | (go_simp; done)) (by go_simp; rfl) HS ?_
                    refine HeldBy.take (i := 7) rfl (by kernel_rfl) (by kernel_rfl) (by kernel_rfl) (fun _ _ _ h => h) (by rfl) (fun V hV => by have hc := hV.1.c0; first | (go_simp; rfl) | (go_simp; done)) (by go_simp; rfl) HS ?_
                    refine HeldBy.take (i := 8) rfl (by kernel_rfl) (by kernel_rfl) (by kernel_rfl) (fun _ _ _ h => h) (by rfl) (fun _ _ => by first | (go_simp; rfl) | (go_simp; done)) (by go_simp; rfl) HS ?_
                    refine HeldBy.call (i := 9) (v := .bool false) rfl (by kernel_rfl) (by rfl) (by go_simp; exact ⟨rfl, rfl⟩) (by go_simp; rfl) ?_
                    refine (mine_at HME.out _).mono ?_
                    rintro e U1 ⟨rfl, hb⟩
                    replace HS : AskAt U1 g (off + j * 3) (y j) ∧ BoxL U1 w.heap.size x' ∧ Below w.heap.size w U1 := ⟨HS.1.after hb, HS.2.1.after hb, HS.2.2.trans (hb.mono HS.2.2.size)⟩
                    refine ⟨rfl, HS, ?_⟩
                    clear hb
                    refine HeldBy.take (i := 10) rfl (by kernel_rfl) (by kernel_rfl) (by kernel_rfl) (fun _ _ _ h => h) (by rfl) (fun _ _ => by first | (go_simp; rfl) | (go_simp; done)) (by go_simp; rfl) HS ?_
                    refine wpAnyH_done (by kernel_rfl) ?_ _
                    have HXE := Lib.hid HS.2.1
                    have HLE := Lib.hid HS.2.2
                    clear HS
                    go_wp2
                    go_roundw
                    case rel =>
                      refine ⟨j + 1, m, rfl, rfl, by omega, hm1, fun h => ?_, HXE.out, HLE.out⟩
                      obtain ⟨k', q1, q2⟩ := HM.out h
                      exact ⟨k', by omega, q2⟩
                    case measure => simp [intOf]; omega
                  | true =>
                    have HME := Lib.hid hme
                    have hwho := (mine_iff.1 hme).2.1
                    clear hme
                    have hm0 : m = 0 := by
                      rcases Nat.eq_zero_or_pos m with h | h
                      · exact h
                      · obtain ⟨k', q1, q2⟩ := HM.out (by omega)
                        exact absurd (q2.trans hwho.symm) (HB.out rfl k' q1)
                    subst hm0
                    have HW := Lib.hid hwho
                    clear hwho
                    refine wp_region_held_drew (S := fun V => AskAt V g (off + j * 3) (y j) ∧ BoxL V w.heap.size x' ∧ Below w.heap.size w V) (by kernel_rfl) ⟨HKK.out.drew, HX.out, HL.out.drew⟩ (fun _ => ?_)
                    refine HeldBy.gen (fun V => AskAt V g (off + j * 3) (y j) ∧ BoxL V w.heap.size x' ∧ Below w.heap.size w V) ⟨HKK.out.drew, HX.out, HL.out.drew⟩ ?_
                    clear HKK HX HL
                    rintro U0 HS
                    refine HeldBy.take (i := 0) rfl (by kernel_rfl) (by kernel_rfl) (by kernel_rfl) (fun _ _ _ h => h) (by rfl) (fun _ _ => by first | (go_simp; rfl) | (go_simp; done)) (by go_simp; rfl) HS ?_
                    refine HeldBy.take (i := 1) rfl (by kernel_rfl) (by kernel_rfl) (by kernel_rfl) (fun _ _ _ h => h) (by rfl) (fun _ _ => by first | (go_simp; rfl) | (go_simp; done)) (by go_simp; rfl) HS ?_
                    refine HeldBy.take (i := 2) rfl (by kernel_rfl) (by kernel_rfl) (by kernel_rfl) (fun _ _ _ h => h) (by rfl) (fun V hV => by have h0 := hV.2.1.c0; have h1 := hV.2.1.c1; have h2 := hV.2.1.c2; first | (go_simp; rfl) | (go_simp; done)) (by go_simp; rfl) HS ?_
                    refine HeldBy.take (i := 3) rfl (by kernel_rfl) (by kernel_rfl) (by kernel_rfl) (fun _ _ _ h => h) (by rfl) (fun _ _ => by first | (go_simp; rfl) | (go_simp; done)) (by go_simp; rfl) HS ?_
                    refine HeldBy.take (i := 4) rfl (by kernel_rfl) (by kernel_rfl) (by kernel_rfl) (fun _ _ _ h => h) (by rfl) (fun _ _ => by first | (go_simp; rfl) | (go_simp; done)) (by go_simp; rfl) HS ?_
                    refine HeldBy.take (i := 5) rfl (by kernel_rfl) (by kernel_rfl) (by kernel_rfl) (fun _ _ _ h => h) (by rfl) (fun _ _ => by first | (go_simp; rfl) | (go_simp; done)) (by go_simp; rfl) HS ?_
                    refine HeldBy.take (i := 6) rfl (by kernel_rfl) (by kernel_rfl) (by kernel_rfl) (fun _ _ _ h => h) (by rfl) (fun _ _ => by first | (go_simp; rfl) | (go_simp; done)) (by go_simp; rfl) HS ?_
                    refine HeldBy.take (i := 7) rfl (by kernel_rfl) (by kernel_rfl) (by kernel_rfl) (fun _ _ _ h => h) (by rfl) (fun V hV => by have hc := hV.1.c0; first | (go_simp; rfl) | (go_simp; done)) (by go_simp; rfl) HS ?_
                    refine HeldBy.take (i := 8) rfl (by kernel_rfl) (by kernel_rfl) (by kernel_rfl) (fun _ _ _ h => h) (by rfl) (fun _ _ => by first | (go_simp; rfl) | (go_simp; done)) (by go_simp; rfl) HS ?_
                    refine HeldBy.call (i := 9) (v := .bool true) rfl (by kernel_rfl) (by rfl) (by go_simp; exact ⟨rfl, rfl⟩) (by go_simp; rfl) ?_
                    refine (mine_at HME.out _).mono ?_
                    rintro e U1 ⟨rfl, hb⟩
                    replace HS : AskAt U1 g (off + j * 3) (y j) ∧ BoxL U1 w.heap.size x' ∧ Below w.heap.size w U1 := ⟨HS.1.after hb, HS.2.1.after hb, HS.2.2.trans (hb.mono HS.2.2.size)⟩
                    refine ⟨rfl, HS, ?_⟩
                    clear hb
                    refine HeldBy.take (i := 10) rfl (by kernel_rfl) (by kernel_rfl) (by kernel_rfl) (fun _ _ _ h => h) (by rfl) (fun _ _ => by first | (go_simp; rfl) | (go_simp; done)) (by go_simp; rfl) HS ?_
                    refine wpAnyH_done (by kernel_rfl) ?_ _
                    have HXE := Lib.hid HS.2.1
                    have HLE := Lib.hid HS.2.2
                    clear HS
                    go_wp2
                    go_roundw
                    case rel => exact ⟨j + 1, 1, rfl, rfl, by omega, by omega, fun _ => ⟨j, by omega, HW.out⟩, HXE.out, HLE.out⟩
                    case measure => simp [intOf]; omega
          · have hgt : ¬ (1 < (m : Int)) := by omega
            go_wp2
            go_roundw
            case rel => exact ⟨i + 1, nw', x', rfl, rfl, by omega, by omega, h1, by omega, HF'.out, HX.out, HL.out⟩
            case measure => simp [intOf]; omega
      rcases try_cases HR.out with ⟨hn0, hR, h8⟩ | hok
      · have b1 : (n == 0) = false := by simpa using hn0
        have b2 : (n != 0) = true := by simpa using hn0
        have hx := HX.out
        have hl := HL.out
        clear HR HP HH HT HX HL h8 hR
        go_wp2
        exact J _ _ _ _ _ _ _ _ _ _ _ _ _ _ _ _ _ _ _ _ _ _ _ _ _ _ _ _ _ _ _ _ _ _ _ _ _ _ _ _ _ _ _ _ _ _ _ _ _ _ _ _ _ _ _ _ _ _ _ _ _ _ _ _ _ _ _ _ _ _ _ _ _ _ _ _ _ _ _ _ _ _ _ _ _ _ _ _ _ _ _ _ _ _ _ _ _ _ _ _ _ _ _ _ _ _ x HF.out hx hl
      · have hcs : n = 0 ∧ (emp x.h = true ∨ (emp x.h = false ∧ x.h = a.who) ∨ (emp x.h = false ∧ x.h ≠ a.who ∧ x.u ≤ nw')) := by
          cases he : emp x.h with
          | true => rcases hok with ⟨h, -⟩ | ⟨h, -⟩ <;> exact ⟨h, .inl rfl⟩
          | false =>
            rcases hok with ⟨h, -, -, h2, -⟩ | ⟨h, -, -, -, h2, -⟩
            · exact ⟨h, .inr (.inl ⟨rfl, h2.symm⟩)⟩
            · by_cases h3 : x.h = a.who
              · exact ⟨h, .inr (.inl ⟨rfl, h3⟩)⟩
              · rcases h2 with h2 | h2
                · rw [he] at h2
                  cases h2
                · exact ⟨h, .inr (.inr ⟨rfl, h3, h2⟩)⟩
        clear hok
        obtain ⟨rfl, hcs⟩ := hcs
        have HFR := Lib.hid hfr
        clear HR
        rcases hcs with he | ⟨he, hw⟩ | ⟨he, hw, hu⟩
        · have h5 := emp_yes he
          clear he
          go_upto_region 10 with (fail)
          refine wp_region_held_drew (S := fun V => BoxL V b0 x ∧ BoxL V p R ∧ AskAt V g (off + i * 3) a ∧ BoxL V w.heap.size x ∧ Below w.heap.size w V) (by kernel_rfl) ⟨HH.out, HP.out, HT.out.drew, HX.out, HL.out.drew⟩ (fun _ => ?_)
          refine HeldBy.gen (fun V => BoxL V b0 x ∧ BoxL V p R ∧ AskAt V g (off + i * 3) a ∧ BoxL V w.heap.size x ∧ Below w.heap.size w V) ⟨HH.out, HP.out, HT.out.drew, HX.out, HL.out.drew⟩ ?_
          clear HH HP HT HX HL
          rintro U0 HS
          refine HeldBy.take (i := 0) rfl (by kernel_rfl) (by kernel_rfl) (by kernel_rfl) (fun _ _ _ h => h) (by rfl) (fun _ _ => by first | (go_simp; rfl) | (go_simp; done)) (by go_simp; rfl) HS ?_
          refine HeldBy.take (i := 1) rfl (by kernel_rfl) (by kernel_rfl) (by kernel_rfl) (fun _ _ _ h => h) (by rfl) (fun V hV => by have hc := hV.1.c0; first | (go_simp; rfl) | (go_simp; done)) (by go_simp; rfl) HS ?_
          refine HeldBy.take (i := 2) (v := .bool false) rfl (by kernel_rfl) (by kernel_rfl) (by kernel_rfl) (fun _ _ _ h => h) (by rfl) (fun _ _ => by first | (go_simp; done) | (go_simp; simp [h5])) (by go_simp; rfl) HS ?_
          refine HeldBy.take (i := 3) rfl (by kernel_rfl) (by kernel_rfl) (by kernel_rfl) (fun _ _ _ h => h) (by rfl) (fun _ _ => by first | (go_simp; rfl) | (go_simp; done)) (by go_simp; rfl) HS ?_
          refine HeldBy.skip (i := 4) rfl (by kernel_rfl) (by kernel_rfl) (by kernel_rfl) (fun _ _ _ h => h) (by rfl) (by go_simp; rfl) HS ?_
          refine HeldBy.skip (i := 5) rfl (by kernel_rfl) (by kernel_rfl) (by kernel_rfl) (fun _ _ _ h => h) (by rfl) (by go_simp; rfl) HS ?_
          refine HeldBy.skip (i := 6) rfl (by kernel_rfl) (by kernel_rfl) (by kernel_rfl) (fun _ _ _ h => h) (by rfl) (by go_simp; rfl) HS ?_
          refine HeldBy.skip (i := 7) rfl (by kernel_rfl) (by kernel_rfl) (by kernel_rfl) (fun _ _ _ h => h) (by rfl) (by go_simp; rfl) HS ?_
          refine HeldBy.skip (i := 8) rfl (by kernel_rfl) (by kernel_rfl) (by kernel_rfl) (fun _ _ _ h => h) (by rfl) (by go_simp; rfl) HS ?_
          refine HeldBy.skip (i := 9) rfl (by kernel_rfl) (by kernel_rfl) (by kernel_rfl) (fun _ _ _ h => h) (by rfl) (by go_simp; rfl) HS ?_
          refine HeldBy.skip (i := 10) rfl (by kernel_rfl) (by kernel_rfl) (by kernel_rfl) (fun _ _ _ h => h) (by rfl) (by go_simp; rfl) HS ?_
          refine HeldBy.skip (i := 11) rfl (by kernel_rfl) (by kernel_rfl) (by kernel_rfl) (fun _ _ _ h => h) (by rfl) (by go_simp; rfl) HS ?_
          refine HeldBy.take (i := 12) rfl (by kernel_rfl) (by kernel_rfl) (by kernel_rfl) (fun _ _ _ h => h) (by rfl) (fun _ _ => by first | (go_simp; rfl) | (go_simp; done)) (by go_simp; rfl) HS ?_
          refine HeldBy.take (i := 13) rfl (by kernel_rfl) (by kernel_rfl) (by kernel_rfl) (fun _ _ _ h => h) (by rfl) (fun _ _ => by first | (go_simp; rfl) | (go_simp; done)) (by go_simp; rfl) HS ?_
          refine HeldBy.skip (i := 14) rfl (by kernel_rfl) (by kernel_rfl) (by kernel_rfl) (fun _ _ _ h => h) (by rfl) (by go_simp; rfl) HS ?_
          refine HeldBy.skip (i := 15) rfl (by kernel_rfl) (by kernel_rfl) (by kernel_rfl) (fun _ _ _ h => h) (by rfl) (by go_simp; rfl) HS ?_
          refine HeldBy.skip (i := 16) rfl (by kernel_rfl) (by kernel_rfl) (by kernel_rfl) (fun _ _ _ h => h) (by rfl) (by go_simp; rfl) HS ?_
          refine HeldBy.skip (i := 17) rfl (by kernel_rfl) (by kernel_rfl) (by kernel_rfl) (fun _ _ _ h => h) (by rfl) (by go_simp; rfl) HS ?_
          refine HeldBy.take (i := 18) rfl (by kernel_rfl) (by kernel_rfl) (by kernel_rfl) (fun _ _ _ h => h) (by rfl) (fun _ _ => by first | (go_simp; rfl) | (go_simp; done)) (by go_simp; rfl) HS ?_
          refine wpAnyH_done (by kernel_rfl) ?_ _
          have HP := Lib.hid HS.2.1
          have HX := Lib.hid HS.2.2.2.1
          have HL := Lib.hid HS.2.2.2.2
          have hxx := HS.2.2.2.1
          clear HS
          have p0 := HP.out.c0
          have p1 := HP.out.c1
          have p2 := HP.out.c2
          have HRT := Lib.hid (HX.out.setRow R)
          have HLT := Lib.hid (below_setRow HL.out (g := w.heap.size) (Nat.le_refl _) (cellsL R))
          clear HP HX HL
          go_wp2_with ((with_reducible refine wpList_store_rowTo rfl 24 _ _ rfl rfl w.heap.size (cellsL R) ?_ ?_ 24 (cellsL x) ?_ ?_ ?_ ?_ ?_); rfl; rfl; exact hxx; exact sizeL; rfl; exact one_L _)
          exact J _ _ _ _ _ _ _ _ _ _ _ _ _ _ _ _ _ _ _ _ _ _ _ _ _ _ _ _ _ _ _ _ _ _ _ _ _ _ _ _ _ _ _ _ _ _ _ _ _ _ _ _ _ _ _ _ _ _ _ _ _ _ _ _ _ _ _ _ _ _ _ _ _ _ _ _ _ _ _ _ _ _ _ _ _ _ _ _ _ _ _ _ _ _ _ _ _ _ _ _ _ _ _ _ _ _ R hfr HRT.out HLT.out
        · have h5 := emp_no he
          have hq : (x.h.toList == a.who.toList) = true := by rw [tl_eq]; simpa using hw
          clear he hw
          go_upto_region 10 with (fail)
          refine wp_region_held_drew (S := fun V => BoxL V b0 x ∧ BoxL V p R ∧ AskAt V g (off + i * 3) a ∧ BoxL V w.heap.size x ∧ Below w.heap.size w V) (by kernel_rfl) ⟨HH.out, HP.out, HT.out.drew, HX.out, HL.out.drew⟩ (fun _ => ?_)
          refine HeldBy.gen (fun V => BoxL V b0 x ∧ BoxL V p R ∧ AskAt V g (off + i * 3) a ∧ BoxL V w.heap.size x ∧ Below w.heap.size w V) ⟨HH.out, HP.out, HT.out.drew, HX.out, HL.out.drew⟩ ?_
          clear HH HP HT HX HL
          rintro U0 HS
          refine HeldBy.take (i := 0) rfl (by kernel_rfl) (by kernel_rfl) (by kernel_rfl) (fun _ _ _ h => h) (by rfl) (fun _ _ => by first | (go_simp; rfl) | (go_simp; done)) (by go_simp; rfl) HS ?_
          refine HeldBy.take (i := 1) rfl (by kernel_rfl) (by kernel_rfl) (by kernel_rfl) (fun _ _ _ h => h) (by rfl) (fun V hV => by have hc := hV.1.c0; first | (go_simp; rfl) | (go_simp; done)) (by go_simp; rfl) HS ?_
          refine HeldBy.take (i := 2) (v := .bool true) rfl (by kernel_rfl) (by kernel_rfl) (by kernel_rfl) (fun _ _ _ h => h) (by rfl) (fun _ _ => by first | (go_simp; done) | (go_simp; simp [h5])) (by go_simp; rfl) HS ?_
          refine HeldBy.take (i := 3) rfl (by kernel_rfl) (by kernel_rfl) (by kernel_rfl) (fun _ _ _ h => h) (by rfl) (fun _ _ => by first | (go_simp; rfl) | (go_simp; done)) (by go_simp; rfl) HS ?_
          refine HeldBy.take (i := 4) rfl (by kernel_rfl) (by kernel_rfl) (by kernel_rfl) (fun _ _ _ h => h) (by rfl) (fun _ _ => by first | (go_simp; rfl) | (go_simp; done)) (by go_simp; rfl) HS ?_
          refine HeldBy.take (i := 5) rfl (by kernel_rfl) (by kernel_rfl) (by kernel_rfl) (fun _ _ _ h => h) (by rfl) (fun V hV => by have hc := hV.1.c0; first | (go_simp; rfl) | (go_simp; done)) (by go_simp; rfl) HS ?_
          refine HeldBy.take (i := 6) rfl (by kernel_rfl) (by kernel_rfl) (by kernel_rfl) (fun _ _ _ h => h) (by rfl) (fun _ _ => by first | (go_simp; rfl) | (go_simp; done)) (by go_simp; rfl) HS ?_
          refine HeldBy.take (i := 7) rfl (by kernel_rfl) (by kernel_rfl) (by kernel_rfl) (fun _ _ _ h => h) (by rfl) (fun _ _ => by first | (go_simp; rfl) | (go_simp; done)) (by go_simp; rfl) HS ?_
          refine HeldBy.take (i := 8) rfl (by kernel_rfl) (by kernel_rfl) (by kernel_rfl) (fun _ _ _ h => h) (by rfl) (fun _ _ => by first | (go_simp; rfl) | (go_simp; done)) (by go_simp; rfl) HS ?_
          refine HeldBy.take (i := 9) rfl (by kernel_rfl) (by kernel_rfl) (by kernel_rfl) (fun _ _ _ h => h) (by rfl) (fun _ _ => by first | (go_simp; rfl) | (go_simp; done)) (by go_simp; rfl) HS ?_
          refine HeldBy.take (i := 10) rfl (by kernel_rfl) (by kernel_rfl) (by kernel_rfl) (fun _ _ _ h => h) (by rfl) (fun V hV => by have hc := hV.2.2.1.c0; first | (go_simp; rfl) | (go_simp; done)) (by go_simp; rfl) HS ?_
          refine HeldBy.take (i := 11) (v := .bool false) rfl (by kernel_rfl) (by kernel_rfl) (by kernel_rfl) (fun _ _ _ h => h) (by rfl) (fun _ _ => by first | (go_simp; done) | (go_simp; simp [hq])) (by go_simp; rfl) HS ?_
          refine HeldBy.take (i := 12) rfl (by kernel_rfl) (by kernel_rfl) (by kernel_rfl) (fun _ _ _ h => h) (by rfl) (fun _ _ => by first | (go_simp; rfl) | (go_simp; done)) (by go_simp; rfl) HS ?_
          refine HeldBy.take (i := 13) rfl (by kernel_rfl) (by kernel_rfl) (by kernel_rfl) (fun _ _ _ h => h) (by rfl) (fun _ _ => by first | (go_simp; rfl) | (go_simp; done)) (by go_simp; rfl) HS ?_
          refine HeldBy.skip (i := 14) rfl (by kernel_rfl) (by kernel_rfl) (by kernel_rfl) (fun _ _ _ h => h) (by rfl) (by go_simp; rfl) HS ?_
          refine HeldBy.skip (i := 15) rfl (by kernel_rfl) (by kernel_rfl) (by kernel_rfl) (fun _ _ _ h => h) (by rfl) (by go_simp; rfl) HS ?_
          refine HeldBy.skip (i := 16) rfl (by kernel_rfl) (by kernel_rfl) (by kernel_rfl) (fun _ _ _ h => h) (by rfl) (by go_simp; rfl) HS ?_
          refine HeldBy.skip (i := 17) rfl (by kernel_rfl) (by kernel_rfl) (by kernel_rfl) (fun _ _ _ h => h) (by rfl) (by go_simp; rfl) HS ?_
          refine HeldBy.take (i := 18) rfl (by kernel_rfl) (by kernel_rfl) (by kernel_rfl) (fun _ _ _ h => h) (by rfl) (fun _ _ => by first | (go_simp; rfl) | (go_simp; done)) (by go_simp; rfl) HS ?_
          refine wpAnyH_done (by kernel_rfl) ?_ _
          have HP := Lib.hid HS.2.1
          have HX := Lib.hid HS.2.2.2.1
          have HL := Lib.hid HS.2.2.2.2
          have hxx := HS.2.2.2.1
          clear HS
          have p0 := HP.out.c0
          have p1 := HP.out.c1
          have p2 := HP.out.c2
          have HRT := Lib.hid (HX.out.setRow R)
          have HLT := Lib.hid (below_setRow HL.out (g := w.heap.size) (Nat.le_refl _) (cellsL R))
          clear HP HX HL
          go_wp2_with ((with_reducible refine wpList_store_rowTo rfl 24 _ _ rfl rfl w.heap.size (cellsL R) ?_ ?_ 24 (cellsL x) ?_ ?_ ?_ ?_ ?_); rfl; rfl; exact hxx; exact sizeL; rfl; exact one_L _)
          exact J _ _ _ _ _ _ _ _ _ _ _ _ _ _ _ _ _ _ _ _ _ _ _ _ _ _ _ _ _ _ _ _ _ _ _ _ _ _ _ _ _ _ _ _ _ _ _ _ _ _ _ _ _ _ _ _ _ _ _ _ _ _ _ _ _ _ _ _ _ _ _ _ _ _ _ _ _ _ _ _ _ _ _ _ _ _ _ _ _ _ _ _ _ _ _ _ _ _ _ _ _ _ _ _ _ _ R hfr HRT.out HLT.out
        · have h5 := emp_no he
          have hq : (x.h.toList == a.who.toList) = false := by rw [tl_eq]; simpa using hw
          clear he hw
          go_upto_region 10 with (fail)
          refine wp_region_held_drew (S := fun V => BoxL V b0 x ∧ BoxL V p R ∧ AskAt V g (off + i * 3) a ∧ BoxL V w.heap.size x ∧ Below w.heap.size w V) (by kernel_rfl) ⟨HH.out, HP.out, HT.out.drew, HX.out, HL.out.drew⟩ (fun _ => ?_)
          refine HeldBy.gen (fun V => BoxL V b0 x ∧ BoxL V p R ∧ AskAt V g (off + i * 3) a ∧ BoxL V w.heap.size x ∧ Below w.heap.size w V) ⟨HH.out, HP.out, HT.out.drew, HX.out, HL.out.drew⟩ ?_
          clear HH HP HT HX HL
          rintro U0 HS
          refine HeldBy.take (i := 0) rfl (by kernel_rfl) (by kernel_rfl) (by kernel_rfl) (fun _ _ _ h => h) (by rfl) (fun _ _ => by first | (go_simp; rfl) | (go_simp; done)) (by go_simp; rfl) HS ?_
          refine HeldBy.take (i := 1) rfl (by kernel_rfl) (by kernel_rfl) (by kernel_rfl) (fun _ _ _ h => h) (by rfl) (fun V hV => by have hc := hV.1.c0; first | (go_simp; rfl) | (go_simp; done)) (by go_simp; rfl) HS ?_
          refine HeldBy.take (i := 2) (v := .bool true) rfl (by kernel_rfl) (by kernel_rfl) (by kernel_rfl) (fun _ _ _ h => h) (by rfl) (fun _ _ => by first | (go_simp; done) | (go_simp; simp [h5])) (by go_simp; rfl) HS ?_
          refine HeldBy.take (i := 3) rfl (by kernel_rfl) (by kernel_rfl) (by kernel_rfl) (fun _ _ _ h => h) (by rfl) (fun _ _ => by first | (go_simp; rfl) | (go_simp; done)) (by go_simp; rfl) HS ?_
          refine HeldBy.take (i := 4) rfl (by kernel_rfl) (by kernel_rfl) (by kernel_rfl) (fun _ _ _ h => h) (by rfl) (fun _ _ => by first | (go_simp; rfl) | (go_simp; done)) (by go_simp; rfl) HS ?_
          refine HeldBy.take (i := 5) rfl (by kernel_rfl) (by kernel_rfl) (by kernel_rfl) (fun _ _ _ h => h) (by rfl) (fun V hV => by have hc := hV.1.c0; first | (go_simp; rfl) | (go_simp; done)) (by go_simp; rfl) HS ?_
          refine HeldBy.take (i := 6) rfl (by kernel_rfl) (by kernel_rfl) (by kernel_rfl) (fun _ _ _ h => h) (by rfl) (fun _ _ => by first | (go_simp; rfl) | (go_simp; done)) (by go_simp; rfl) HS ?_
          refine HeldBy.take (i := 7) rfl (by kernel_rfl) (by kernel_rfl) (by kernel_rfl) (fun _ _ _ h => h) (by rfl) (fun _ _ => by first | (go_simp; rfl) | (go_simp; done)) (by go_simp; rfl) HS ?_
          refine HeldBy.take (i := 8) rfl (by kernel_rfl) (by kernel_rfl) (by kernel_rfl) (fun _ _ _ h => h) (by rfl) (fun _ _ => by first | (go_simp; rfl) | (go_simp; done)) (by go_simp; rfl) HS ?_
          refine HeldBy.take (i := 9) rfl (by kernel_rfl) (by kernel_rfl) (by kernel_rfl) (fun _ _ _ h => h) (by rfl) (fun _ _ => by first | (go_simp; rfl) | (go_simp; done)) (by go_simp; rfl) HS ?_
          refine HeldBy.take (i := 10) rfl (by kernel_rfl) (by kernel_rfl) (by kernel_rfl) (fun _ _ _ h => h) (by rfl) (fun V hV => by have hc := hV.2.2.1.c0; first | (go_simp; rfl) | (go_simp; done)) (by go_simp; rfl) HS ?_
          refine HeldBy.take (i := 11) (v := .bool true) rfl (by kernel_rfl) (by kernel_rfl) (by kernel_rfl) (fun _ _ _ h => h) (by rfl) (fun _ _ => by first | (go_simp; done) | (go_simp; simp [hq])) (by go_simp; rfl) HS ?_
          refine HeldBy.take (i := 12) rfl (by kernel_rfl) (by kernel_rfl) (by kernel_rfl) (fun _ _ _ h => h) (by rfl) (fun _ _ => by first | (go_simp; rfl) | (go_simp; done)) (by go_simp; rfl) HS ?_
          refine HeldBy.take (i := 13) rfl (by kernel_rfl) (by kernel_rfl) (by kernel_rfl) (fun _ _ _ h => h) (by rfl) (fun _ _ => by first | (go_simp; rfl) | (go_simp; done)) (by go_simp; rfl) HS ?_
          refine HeldBy.take (i := 14) rfl (by kernel_rfl) (by kernel_rfl) (by kernel_rfl) (fun _ _ _ h => h) (by rfl) (fun _ _ => by first | (go_simp; rfl) | (go_simp; done)) (by go_simp; rfl) HS ?_
          refine HeldBy.take (i := 15) rfl (by kernel_rfl) (by kernel_rfl) (by kernel_rfl) (fun _ _ _ h => h) (by rfl) (fun _ _ => by first | (go_simp; rfl) | (go_simp; done)) (by go_simp; rfl) HS ?_
          refine HeldBy.take (i := 16) rfl (by kernel_rfl) (by kernel_rfl) (by kernel_rfl) (fun _ _ _ h => h) (by rfl) (fun V hV => by have hc := hV.1.c1; first | (go_simp; rfl) | (go_simp; done)) (by go_simp; rfl) HS ?_
          refine HeldBy.take (i := 17) (v := .bool false) rfl (by kernel_rfl) (by kernel_rfl) (by kernel_rfl) (fun _ _ _ h => h) (by rfl) (fun _ _ => by first | (go_simp; done) | (go_simp; omega)) (by go_simp; rfl) HS ?_
          refine HeldBy.take (i := 18) rfl (by kernel_rfl) (by kernel_rfl) (by kernel_rfl) (fun _ _ _ h => h) (by rfl) (fun _ _ => by first | (go_simp; rfl) | (go_simp; done)) (by go_simp; rfl) HS ?_
          refine wpAnyH_done (by kernel_rfl) ?_ _
          have HP := Lib.hid HS.2.1
          have HX := Lib.hid HS.2.2.2.1
          have HL := Lib.hid HS.2.2.2.2
          have hxx := HS.2.2.2.1
          clear HS
          have p0 := HP.out.c0
          have p1 := HP.out.c1
          have p2 := HP.out.c2
          have HRT := Lib.hid (HX.out.setRow R)
          have HLT := Lib.hid (below_setRow HL.out (g := w.heap.size) (Nat.le_refl _) (cellsL R))
          clear HP HX HL
          go_wp2_with ((with_reducible refine wpList_store_rowTo rfl 24 _ _ rfl rfl w.heap.size (cellsL R) ?_ ?_ 24 (cellsL x) ?_ ?_ ?_ ?_ ?_); rfl; rfl; exact hxx; exact sizeL; rfl; exact one_L _)
          exact J _ _ _ _ _ _ _ _ _ _ _ _ _ _ _ _ _ _ _ _ _ _ _ _ _ _ _ _ _ _ _ _ _ _ _ _ _ _ _ _ _ _ _ _ _ _ _ _ _ _ _ _ _ _ _ _ _ _ _ _ _ _ _ _ _ _ _ _ _ _ _ _ _ _ _ _ _ _ _ _ _ _ _ _ _ _ _ _ _ _ _ _ _ _ _ _ _ _ _ _ _ _ _ _ _ _ R hfr HRT.out HLT.out
    · clear HC
      have hcs : N ≤ i ∨ (i < N ∧ 60 ≤ i) := by omega
      rcases hcs with hcs | ⟨hcs, hcs'⟩
      all_goals
        clear hiN
        go_wp2_with fail
        refine (live_any _).mono ?_
        rintro e V ⟨rfl, hb⟩
        have HF := Lib.hid (HL.out.trans (hb.mono HL.out.size))
        clear hb
        go_wp2
        go_ret
        exact ⟨rfl, HF.out⟩
end Go.Proofs.Ytmamibabaedpcaa.L
