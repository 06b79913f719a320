/- LeaseGives: its walk. -/
import Derived.Test.YtmamibabaedpcaaLEnds
namespace Go.Proofs.Ytmamibabaedpcaa.L
open Go.RowKit T O
open Go.Lib

theorem heap3 (w : World) (x y z : Go.Obj) : (((w.alloc x).alloc y).alloc z).heap[w.heap.size + 1 + 1]? = some z := by
  have h : ((w.alloc x).alloc y).heap.size = w.heap.size + 1 + 1 := by simp
  rw [← h]
  exact heap_alloc_new _ _
theorem mine_none (u t : Int) (who : ByteArray) (n : Int) : mineB ⟨E0, u, t⟩ who n = false := by
  rw [Bool.eq_false_iff]
  intro h
  obtain ⟨h1, h2, -⟩ := mine_iff.1 h
  rw [show who = E0 from h2] at h1
  exact absurd h1 (by decide +kernel)
theorem gives_cases (t : Int) (who : ByteArray) (now span : Int) : tryL ⟨E0, 0, t⟩ who now span = (⟨who, now + span, up t⟩, 0) ∨ ∃ n, tryL ⟨E0, 0, t⟩ who now span = (Lz0, n) ∧ n ≠ 0 ∧ n ≠ 8 := by
  by_cases h1 : nameB who.data.toList = false
  · exact .inr ⟨2, by unfold tryL; rw [if_pos h1], by decide⟩
  by_cases h2 : rangeB now span = false
  · exact .inr ⟨3, by unfold tryL; rw [if_neg h1, if_pos h2], by decide⟩
  refine .inl ?_
  unfold tryL
  rw [if_neg h1, if_neg h2, if_neg (by rw [mine_none]; decide), if_neg (by rw [mine_none]; decide)]

set_option maxRecDepth 100000 in
set_option maxHeartbeats 4000000 in
theorem leaseGives_any (l : Lz) (x y : Ask) (fy : FitA y) (w : World) : Calls Try.prog 7 #[encL l, encA x, encA y] w fun e w' => e = .returned (.bool true) ∧ Below w.heap.size w w' := by
  have hs0 := fy.span.1
  have hn0 := fy.now.1
  have HC := Lib.hid (gives_cases l.t y.who y.now y.span)
  have hR : relL l x.who = (⟨E0, 0, l.t⟩, 0) ∨ relL l x.who = (Lz0, 8) := by
    unfold relL
    split
    · exact .inl rfl
    · exact .inr rfl
  have HR := Lib.hid hR
  clear hR fy
  unfold encL encA
  go_enter Try.func7, Try.ntmps7
  go_upto_region 1 with (fail)
  refine wp_gen (fun W => BoxL W w.heap.size l ∧ BoxA W (w.heap.size + 1) x ∧ BoxA W (w.heap.size + 1 + 1) y ∧ Below w.heap.size w W) ⟨((BoxL.new w l).alloc _).alloc _, (show BoxA _ _ _ from heap2 w _ _).alloc _, heap3 w _ _ _, (((Below.refl _ _).alloc (Nat.le_refl _) _).alloc (by simp) _).alloc (by simp; omega) _⟩ ?_
  rintro W ⟨hl, hx, hy, hlow⟩
  have HL := Lib.hid hlow
  have HK := Lib.hid hl
  have HX := Lib.hid hx
  have HY := Lib.hid hy
  have k0 := hl.c0
  have k1 := hl.c1
  have k2 := hl.c2
  have c0 := hx.c0
  clear hlow hl hx hy
  go_wp2_with fail
  rcases HR.out with hT | hT
  · refine (rel_at hT _).mono ?_
    rintro e W1 ⟨rfl, hb⟩
    clear hT k0 k1 k2 c0 HR
    replace HL := Lib.hid (HL.out.trans (hb.mono HL.out.size))
    replace HK := Lib.hid (HK.out.after hb)
    replace HX := Lib.hid (HX.out.after hb)
    replace HY := Lib.hid (HY.out.after hb)
    have hn1 := BoxL.new W1 Lz0
    clear hb
    go_upto_region 2 with ((with_reducible refine wpList_store_rowTo rfl 24 _ _ rfl rfl W1.heap.size (cellsL ⟨E0, 0, l.t⟩) ?_ ?_ 24 (cellsL Lz0) ?_ ?_ ?_ ?_ ?_); rfl; rfl; exact hn1; exact sizeL; rfl; exact one_L _)
    refine wp_gen (fun V => BoxL V W1.heap.size ⟨E0, 0, l.t⟩ ∧ BoxL V w.heap.size l ∧ BoxA V (w.heap.size + 1) x ∧ BoxA V (w.heap.size + 1 + 1) y ∧ Below w.heap.size w V) ⟨hn1.setRow _, (HK.out.alloc _).row (by have := HK.out.lt; omega) _, (HX.out.alloc _).row (by have := HX.out.lt; omega) _, (HY.out.alloc _).row (by have := HY.out.lt; omega) _, below_setRow (HL.out.alloc HL.out.size _) HL.out.size _⟩ ?_
    clear HL HK HX HY hn1
    rintro V ⟨hr, hl, hx, hy, hlow⟩
    have HL := Lib.hid hlow
    have HK := Lib.hid hl
    have HX := Lib.hid hx
    have HY := Lib.hid hy
    have HR := Lib.hid hr
    have r0 : V.cell? ⟨W1.heap.size, 0, none⟩ = some (.string ⟨#[]⟩) := hr.c0
    have r1 : V.cell? ⟨W1.heap.size, 1, none⟩ = some (.int .u64 0) := hr.c1
    have r2 : V.cell? ⟨W1.heap.size, 2, none⟩ = some (.int .u64 l.t) := hr.c2
    have y0 := hy.c0
    have y1 := hy.c1
    have y2 := hy.c2
    clear hlow hl hx hy hr
    go_wp2_with fail
    obtain ⟨Z, n, hT, hf⟩ : ∃ Z n, tryL ⟨E0, 0, l.t⟩ y.who y.now y.span = (Z, n) ∧ ((n = 0 ∧ Z = ⟨y.who, y.now + y.span, up l.t⟩) ∨ (n ≠ 0 ∧ n ≠ 8)) := by
      rcases HC.out with h | ⟨n, h, h1⟩
      · exact ⟨_, _, h, .inl ⟨rfl, rfl⟩⟩
      · exact ⟨_, _, h, .inr h1⟩
    have HF := Lib.hid hf
    refine (try_at hT _ hn0 hs0).mono ?_
    rintro e W2 ⟨rfl, hb⟩
    clear hT hf HC r0 r1 r2 y0 y1 y2
    replace HL := Lib.hid (HL.out.trans (hb.mono HL.out.size))
    replace HK := Lib.hid (HK.out.after hb)
    replace HX := Lib.hid (HX.out.after hb)
    replace HY := Lib.hid (HY.out.after hb)
    replace HR := Lib.hid (HR.out.after hb)
    have hn1 := BoxL.new W2 Lz0
    clear hb
    unfold encL
    go_upto_region 5 with ((with_reducible refine wpList_store_rowTo rfl 24 _ _ rfl rfl W2.heap.size (cellsL Z) ?_ ?_ 24 (cellsL Lz0) ?_ ?_ ?_ ?_ ?_); rfl; rfl; exact hn1; exact sizeL; rfl; exact one_L _)
    refine wp_gen (fun V => BoxL V W2.heap.size Z ∧ BoxL V W1.heap.size ⟨E0, 0, l.t⟩ ∧ BoxL V w.heap.size l ∧ BoxA V (w.heap.size + 1) x ∧ BoxA V (w.heap.size + 1 + 1) y ∧ Below w.heap.size w V) ⟨hn1.setRow _, (HR.out.alloc _).row (by have := HR.out.lt; omega) _, (HK.out.alloc _).row (by have := HK.out.lt; omega) _, (HX.out.alloc _).row (by have := HX.out.lt; omega) _, (HY.out.alloc _).row (by have := HY.out.lt; omega) _, below_setRow (HL.out.alloc HL.out.size _) HL.out.size _⟩ ?_
    clear HL HK HX HY HR hn1
    rintro U ⟨hz, hr, hl, hx, hy, hlow⟩
    have HL := Lib.hid hlow
    have HK := Lib.hid hl
    have HX := Lib.hid hx
    have HY := Lib.hid hy
    have HR := Lib.hid hr
    have HZ := Lib.hid hz
    clear hlow hl hx hy hr hz
    go_wp2_with fail
    refine (live_any _).mono ?_
    rintro e W3 ⟨rfl, hb⟩
    replace HL := Lib.hid (HL.out.trans (hb.mono HL.out.size))
    replace HK := Lib.hid (HK.out.after hb)
    replace HX := Lib.hid (HX.out.after hb)
    replace HY := Lib.hid (HY.out.after hb)
    replace HR := Lib.hid (HR.out.after hb)
    replace HZ := Lib.hid (HZ.out.after hb)
    clear hb
    have r0 : W3.cell? ⟨W1.heap.size, 0, none⟩ = some (.string ⟨#[]⟩) := HR.out.c0
    have r1 : W3.cell? ⟨W1.heap.size, 1, none⟩ = some (.int .u64 0) := HR.out.c1
    have r2 : W3.cell? ⟨W1.heap.size, 2, none⟩ = some (.int .u64 l.t) := HR.out.c2
    have k2 := HK.out.c2
    have x0 := HX.out.c0
    have x1 := HX.out.c1
    go_wp2_with fail
    refine (mine_at (mine_none _ _ _ _) _).mono ?_
    rintro e W4 ⟨rfl, hb⟩
    replace HL := Lib.hid (HL.out.trans (hb.mono HL.out.size))
    replace HK := Lib.hid (HK.out.after hb)
    replace HY := Lib.hid (HY.out.after hb)
    replace HZ := Lib.hid (HZ.out.after hb)
    clear hb r0 r1 r2 k2 x0 x1
    rcases HF.out with ⟨rfl, rfl⟩ | ⟨h1, h2⟩
    · clear HF
      have k2 := HK.out.c2
      have y0 := HY.out.c0
      have z0 : W4.cell? ⟨W2.heap.size, 0, none⟩ = some (.string y.who) := HZ.out.c0
      have z2 : W4.cell? ⟨W2.heap.size, 2, none⟩ = some (.int .u64 (IntKind.u64.wrap (l.t + 1))) := HZ.out.c2
      go_wp2
      go_ret
      exact ⟨rfl, HL.out⟩
    · clear HF
      have b1 : (n == 0) = false := by simpa using h1
      have b2 : (n != 0) = true := by simpa using h1
      have b3 : (n == 8) = false := by simpa using h2
      have b4 : (n != 8) = true := by simpa using h2
      go_wp2
      go_ret
      exact ⟨rfl, HL.out⟩
  · refine (rel_at hT _).mono ?_
    rintro e W1 ⟨rfl, hb⟩
    clear hT k0 k1 k2 c0 HR HC HK HX HY
    replace HL := Lib.hid (HL.out.trans (hb.mono HL.out.size))
    have hn1 := BoxL.new W1 Lz0
    clear hb
    go_upto_region 2 with ((with_reducible refine wpList_store_rowTo rfl 24 _ _ rfl rfl W1.heap.size (cellsL Lz0) ?_ ?_ 24 (cellsL Lz0) ?_ ?_ ?_ ?_ ?_); rfl; rfl; exact hn1; exact sizeL; rfl; exact one_L _)
    refine wp_gen (fun V => BoxL V W1.heap.size Lz0 ∧ Below w.heap.size w V) ⟨hn1.setRow _, below_setRow (HL.out.alloc HL.out.size _) HL.out.size _⟩ ?_
    clear HL hn1
    rintro V ⟨hr, hlow⟩
    have HL := Lib.hid hlow
    have HR := Lib.hid hr
    clear hlow hr
    go_wp2_with fail
    refine (live_any _).mono ?_
    rintro e W2 ⟨rfl, hb⟩
    replace HL := Lib.hid (HL.out.trans (hb.mono HL.out.size))
    replace HR := Lib.hid (HR.out.after hb)
    clear hb
    have r0 : W2.cell? ⟨W1.heap.size, 0, none⟩ = some (.string ⟨#[]⟩) := HR.out.c0
    have r1 : W2.cell? ⟨W1.heap.size, 1, none⟩ = some (.int .u64 0) := HR.out.c1
    have r2 : W2.cell? ⟨W1.heap.size, 2, none⟩ = some (.int .u64 0) := HR.out.c2
    go_wp2
    go_ret
    exact ⟨rfl, HL.out⟩
end Go.Proofs.Ytmamibabaedpcaa.L
