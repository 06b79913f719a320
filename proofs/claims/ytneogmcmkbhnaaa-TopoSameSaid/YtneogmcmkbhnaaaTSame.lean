/- The law TopoSame: its walk. -/
import Derived.Test.YtneogmcmkbhnaaaTSameR
import Derived.Test.YtneogmcmkbhnaaaTMatches
namespace Go.Proofs.Ytneogmcmkbhnaaa.T
open Go.RowKit Go.Lib

/-- The two arrays in their boxes, and what their slices hold. -/
structure Sm (w : World) (va vb ma mb : Value) (a b : List TB) (l m : List LB) (V : World) : Prop where
  c0 : V.cell? ⟨w.heap.size, 0, none⟩ = some va
  c1 : V.cell? ⟨w.heap.size, 1, none⟩ = some vb
  d0 : V.cell? ⟨w.heap.size + 1, 0, none⟩ = some ma
  d1 : V.cell? ⟨w.heap.size + 1, 1, none⟩ = some mb
  lt : w.heap.size + 1 < V.heap.size
  ta : TermsIn V va a
  tb : TermsIn V vb b
  la : LabsIn V ma l
  lb : LabsIn V mb m
  low : Below w.heap.size w V
theorem Sm.after {w V U : World} {va vb ma mb : Value} {a b : List TB} {l m : List LB} (h : Sm w va vb ma mb a b l m V) (hb : Below V.heap.size V U) : Sm w va vb ma mb a b l m U :=
  ⟨(cell_after (by have := h.lt; omega) hb).trans h.c0, (cell_after (by have := h.lt; omega) hb).trans h.c1, (cell_after h.lt hb).trans h.d0, (cell_after h.lt hb).trans h.d1, Nat.lt_of_lt_of_le h.lt hb.size,
    h.ta.after hb, h.tb.after hb, h.la.after hb, h.lb.after hb, h.low.trans (hb.mono h.low.size)⟩
theorem Sm.drew {w V : World} {va vb ma mb : Value} {a b : List TB} {l m : List LB} (h : Sm w va vb ma mb a b l m V) : Sm w va vb ma mb a b l m V.drew := h.after (Below.refl _ _).drew
theorem Sm.start {w : World} {va vb ma mb : Value} {a b : List TB} {l m : List LB} (t1 t2 : TypeId) (h1 : TermsIn w va a) (h2 : TermsIn w vb b) (h3 : LabsIn w ma l) (h4 : LabsIn w mb m) :
    Sm w va vb ma mb a b l m ((w.alloc (.cells #[va, vb] t1 (0, 0))).alloc (.cells #[ma, mb] t2 (0, 0))) := by
  have hb1 : Below w.heap.size w (w.alloc (.cells #[va, vb] t1 (0, 0))) := (Below.refl _ _).alloc (Nat.le_refl _) _
  have hb : Below w.heap.size w ((w.alloc (.cells #[va, vb] t1 (0, 0))).alloc (.cells #[ma, mb] t2 (0, 0))) := hb1.alloc hb1.size _
  have hs1 : (w.alloc (.cells #[va, vb] t1 (0, 0))).heap.size = w.heap.size + 1 := by show (w.heap.push _).size = _; rw [Array.size_push]
  have hs2 : ((w.alloc (.cells #[va, vb] t1 (0, 0))).alloc (.cells #[ma, mb] t2 (0, 0))).heap.size = w.heap.size + 1 + 1 := by show ((w.heap.push _).push _).size = _; rw [Array.size_push, Array.size_push]
  have hX : (w.alloc (.cells #[va, vb] t1 (0, 0))).heap[w.heap.size]? = some (.cells #[va, vb] t1 (0, 0)) := heap_alloc_new w _
  replace hX : ((w.alloc (.cells #[va, vb] t1 (0, 0))).alloc (.cells #[ma, mb] t2 (0, 0))).heap[w.heap.size]? = some (.cells #[va, vb] t1 (0, 0)) := (Below.heap_alloc _ _ _ (by omega)).trans hX
  have hY := heap_alloc_new (w.alloc (.cells #[va, vb] t1 (0, 0))) (.cells #[ma, mb] t2 (0, 0))
  rw [hs1] at hY
  exact ⟨(cell_of_row _ _ 0 _ _ _ hX).trans rfl, (cell_of_row _ _ 1 _ _ _ hX).trans rfl, (cell_of_row _ _ 0 _ _ _ hY).trans rfl, (cell_of_row _ _ 1 _ _ _ hY).trans rfl, by omega, h1.after hb, h2.after hb, h3.after hb, h4.after hb, hb⟩

set_option maxRecDepth 100000 in
set_option maxHeartbeats 4000000 in
theorem topoSame_any (va vb ma mb : Value) (a b : List TB) (l m : List LB) (w : World) (h1 : TermsIn w va a) (h2 : TermsIn w vb b) (h3 : LabsIn w ma l) (h4 : LabsIn w mb m) :
    Calls Try.prog 9 #[.agg #[va, vb], .agg #[ma, mb]] w fun e w' => e = .returned (.bool true) ∧ Below w.heap.size w w' := by
  obtain ⟨o0, p0, rfl⟩ := h1.shape
  obtain ⟨o1, p1, rfl⟩ := h2.shape
  obtain ⟨o2, p2, rfl⟩ := h3.shape
  obtain ⟨o3, p3, rfl⟩ := h4.shape
  have n2 := h3.len
  have n3 := h4.len
  have HS := Lib.hid (Sm.start 51 52 h1 h2 h3 h4)
  clear h1 h2 h3 h4
  obtain ⟨L, hL⟩ : ∃ L, L = l.length := ⟨_, rfl⟩
  obtain ⟨M, hM⟩ : ∃ M, M = m.length := ⟨_, rfl⟩
  obtain ⟨N, hN⟩ : ∃ N, N = a.length := ⟨_, rfl⟩
  obtain ⟨K, hK⟩ : ∃ K, K = b.length := ⟨_, rfl⟩
  rw [← hL, ← hM, ← hN, ← hK] at HS
  rw [← hL] at n2
  rw [← hM] at n3
  rw [← hL, ← hM, ← hN, ← hK]
  have HL := Lib.hid hL
  have HM := Lib.hid hM
  clear hL hM hN hK
  go_enter Try.func9, Try.ntmps9
  go_upto_region 1 with (fail)
  refine wp_gen (Sm w _ _ _ _ a b l m) HS.out ?_
  clear HS
  rintro V hS
  have HS := Lib.hid hS
  have c0 := HS.out.c0
  have c1 := HS.out.c1
  have d0 := HS.out.d0
  have d1 := HS.out.d1
  clear hS
  go_wp2_with fail
  refine (small_any _ a _ HS.out.ta).mono ?_
  rintro e W1 ⟨rfl, rfl⟩
  cases hs0 : smallB a with
  | false =>
    clear hs0
    go_wp2_with fail
    refine (live_any _).mono ?_
    rintro e W1 ⟨rfl, hb⟩
    have HB := Lib.hid (HS.out.low.trans (hb.mono HS.out.low.size))
    clear hb c0 c1 d0 d1 HS
    go_wp2
    go_ret
    exact ⟨rfl, HB.out⟩
  | true =>
    have HA := Lib.hid (small_le hs0)
    clear hs0
    go_wp2_with fail
    refine (small_any _ b _ HS.out.tb).mono ?_
    rintro e W1 ⟨rfl, rfl⟩
    cases hs1 : smallB b with
    | false =>
      clear hs1
      go_wp2_with fail
      refine (live_any _).mono ?_
      rintro e W1 ⟨rfl, hb⟩
      have HB := Lib.hid (HS.out.low.trans (hb.mono HS.out.low.size))
      clear hb c0 c1 d0 d1 HS
      go_wp2
      go_ret
      exact ⟨rfl, HB.out⟩
    | true =>
      have HB := Lib.hid (small_le hs1)
      clear hs1
      by_cases hl30 : L ≤ 30
      · by_cases hm30 : M ≤ 30
        · have HL30 : Hid (l.length ≤ 30) := by show _ ≤ _; rw [← HL.out]; exact hl30
          have HM30 : Hid (m.length ≤ 30) := by show _ ≤ _; rw [← HM.out]; exact hm30
          go_wp2_with fail
          refine (sameTerms_any _ _ a b _ HS.out.ta HS.out.tb).mono ?_
          rintro e W1 ⟨rfl, hb⟩
          replace HS := Lib.hid (HS.out.after hb)
          replace c0 := HS.out.c0
          replace c1 := HS.out.c1
          replace d0 := HS.out.d0
          replace d1 := HS.out.d1
          clear hb
          obtain ⟨x, hx⟩ : ∃ x, decide (a.map Prod.fst = b.map Prod.fst) = x := ⟨_, rfl⟩
          have hx2 : decide (b.map Prod.fst = a.map Prod.fst) = x := by rw [← hx]; exact decide_eq_decide.2 ⟨Eq.symm, Eq.symm⟩
          rw [hx]
          have HX := Lib.hid hx
          have HX2 := Lib.hid hx2
          clear hx hx2
          go_wp2_with fail
          refine (sameLabels_any _ _ l m _ HS.out.la HS.out.lb).mono ?_
          rintro e W2 ⟨rfl, hb⟩
          replace HS := Lib.hid (HS.out.after hb)
          clear hb c0 c1 d0 d1
          obtain ⟨y, hy⟩ : ∃ y, decide (l = m) = y := ⟨_, rfl⟩
          have hy2 : decide (m = l) = y := by rw [← hy]; exact decide_eq_decide.2 ⟨Eq.symm, Eq.symm⟩
          rw [hy]
          have HY := Lib.hid hy
          have HY2 := Lib.hid hy2
          clear hy hy2
          go_upto_region 5 with (fail)
          refine wp_region_held_drew (S := fun V => Sm w (.slice o0 N p0) (.slice o1 K p1) (.slice o2 L p2) (.slice o3 M p3) a b l m V) (by kernel_rfl) HS.out.drew (fun _ => ?_)
          refine HeldBy.gen (fun V => Sm w (.slice o0 N p0) (.slice o1 K p1) (.slice o2 L p2) (.slice o3 M p3) a b l m V) HS.out.drew ?_
          clear HS
          rintro U HS
          refine HeldBy.callE (i := 0) rfl (by kernel_rfl) (by rfl) (by go_simp; exact ⟨rfl, rfl⟩) (by intro v; go_simp; rfl) ?_
          refine (live_any U).mono ?_
          rintro e U1 ⟨rfl, hb⟩
          replace HS := HS.after hb
          refine .inl ⟨_, rfl, HS, ?_⟩
          clear hb
          refine HeldBy.take (i := 1) rfl (by kernel_rfl) (by kernel_rfl) (by kernel_rfl) (fun _ _ _ h => h) (by rfl) (fun _ _ => by first | (go_simp; rfl) | (go_simp; done)) (by go_simp; rfl) HS ?_
          refine HeldBy.take (i := 2) rfl (by kernel_rfl) (by kernel_rfl) (by kernel_rfl) (fun _ _ _ h => h) (by rfl) (fun _ _ => by first | (go_simp; rfl) | (go_simp; done)) (by go_simp; rfl) HS ?_
          refine HeldBy.take (i := 3) (v := .pointer (some ⟨w.heap.size, 0, none⟩)) rfl (by kernel_rfl) (by kernel_rfl) (by kernel_rfl) (fun _ _ _ h => h) (by rfl) (fun _ _ => by go_simp) (by go_simp; rfl) HS ?_
          refine HeldBy.take (i := 4) rfl (by kernel_rfl) (by kernel_rfl) (by kernel_rfl) (fun _ _ _ h => h) (by rfl) (fun V h => by have c := h.c0; go_simp; rfl) (by go_simp; rfl) HS ?_
          refine HeldBy.take (i := 6) (v := .pointer (some ⟨w.heap.size, 1, none⟩)) rfl (by kernel_rfl) (by kernel_rfl) (by kernel_rfl) (fun _ _ _ h => h) (by rfl) (fun _ _ => by go_simp) (by go_simp; rfl) HS ?_
          refine HeldBy.take (i := 7) rfl (by kernel_rfl) (by kernel_rfl) (by kernel_rfl) (fun _ _ _ h => h) (by rfl) (fun V h => by have c := h.c1; go_simp; rfl) (by go_simp; rfl) HS ?_
          refine HeldBy.callE (i := 5) rfl (by kernel_rfl) (by rfl) (by go_simp; exact ⟨rfl, rfl⟩) (by intro v; go_simp; rfl) ?_
          refine (refTerms_any _ a HA.out _ HS.ta).mono ?_
          rintro e U2 ⟨v1, rfl, t1, hb⟩
          replace HS := HS.after hb
          refine .inl ⟨_, rfl, HS, ?_⟩
          clear hb
          refine HeldBy.callE (i := 8) rfl (by kernel_rfl) (by rfl) (by go_simp; exact ⟨rfl, rfl⟩) (by intro v; go_simp; rfl) ?_
          refine (refTerms_any _ b HB.out _ HS.tb).mono ?_
          rintro e U3 ⟨v2, rfl, t2, hb⟩
          replace t1 := t1.after hb
          replace HS := HS.after hb
          refine .inl ⟨_, rfl, HS, ?_⟩
          clear hb
          refine HeldBy.callE (i := 9) rfl (by kernel_rfl) (by rfl) (by go_simp; exact ⟨rfl, rfl⟩) (by intro v; go_simp; rfl) ?_
          refine (sameTermsR_any v1 v2 a b _ t1 t2).mono ?_
          rintro e U4 ⟨rfl, hb⟩
          replace HS := HS.after hb
          refine .inl ⟨_, rfl, HS, ?_⟩
          clear hb
          rw [HX.out]
          clear t1 t2
          refine HeldBy.take (i := 10) rfl (by kernel_rfl) (by kernel_rfl) (by kernel_rfl) (fun _ _ _ h => h) (by rfl) (fun _ _ => by first | (go_simp; rfl) | (go_simp; done)) (by go_simp; rfl) HS ?_
          refine HeldBy.take (i := 11) rfl (by kernel_rfl) (by kernel_rfl) (by kernel_rfl) (fun _ _ _ h => h) (by rfl) (fun _ _ => by first | (go_simp; rfl) | (go_simp; done)) (by go_simp; rfl) HS ?_
          refine HeldBy.take (i := 12) rfl (by kernel_rfl) (by kernel_rfl) (by kernel_rfl) (fun _ _ _ h => h) (by rfl) (fun _ _ => by first | (go_simp; rfl) | (go_simp; done)) (by go_simp; rfl) HS ?_
          refine HeldBy.take (i := 13) rfl (by kernel_rfl) (by kernel_rfl) (by kernel_rfl) (fun _ _ _ h => h) (by rfl) (fun _ _ => by first | (go_simp; rfl) | (go_simp; done)) (by go_simp; rfl) HS ?_
          refine HeldBy.take (i := 14) (v := .pointer (some ⟨w.heap.size + 1, 0, none⟩)) rfl (by kernel_rfl) (by kernel_rfl) (by kernel_rfl) (fun _ _ _ h => h) (by rfl) (fun _ _ => by go_simp) (by go_simp; rfl) HS ?_
          refine HeldBy.take (i := 15) rfl (by kernel_rfl) (by kernel_rfl) (by kernel_rfl) (fun _ _ _ h => h) (by rfl) (fun V h => by have c := h.d0; go_simp; rfl) (by go_simp; rfl) HS ?_
          refine HeldBy.take (i := 17) (v := .pointer (some ⟨w.heap.size + 1, 1, none⟩)) rfl (by kernel_rfl) (by kernel_rfl) (by kernel_rfl) (fun _ _ _ h => h) (by rfl) (fun _ _ => by go_simp) (by go_simp; rfl) HS ?_
          refine HeldBy.take (i := 18) rfl (by kernel_rfl) (by kernel_rfl) (by kernel_rfl) (fun _ _ _ h => h) (by rfl) (fun V h => by have c := h.d1; go_simp; rfl) (by go_simp; rfl) HS ?_
          refine HeldBy.callE (i := 16) rfl (by kernel_rfl) (by rfl) (by go_simp; exact ⟨rfl, rfl⟩) (by intro v; go_simp; rfl) ?_
          refine (refLabels_any _ l HL30.out _ HS.la).mono ?_
          rintro e U5 ⟨v3, rfl, t3, hb⟩
          replace HS := HS.after hb
          refine .inl ⟨_, rfl, HS, ?_⟩
          clear hb
          refine HeldBy.callE (i := 19) rfl (by kernel_rfl) (by rfl) (by go_simp; exact ⟨rfl, rfl⟩) (by intro v; go_simp; rfl) ?_
          refine (refLabels_any _ m HM30.out _ HS.lb).mono ?_
          rintro e U6 ⟨v4, rfl, t4, hb⟩
          replace t3 := t3.after hb
          replace HS := HS.after hb
          refine .inl ⟨_, rfl, HS, ?_⟩
          clear hb
          refine HeldBy.callE (i := 20) rfl (by kernel_rfl) (by rfl) (by go_simp; exact ⟨rfl, rfl⟩) (by intro v; go_simp; rfl) ?_
          refine (sameLabelsR_any v3 v4 l m _ t3 t4).mono ?_
          rintro e U7 ⟨rfl, hb⟩
          replace HS := HS.after hb
          refine .inl ⟨_, rfl, HS, ?_⟩
          clear hb
          rw [HY.out]
          clear t3 t4
          refine HeldBy.take (i := 21) rfl (by kernel_rfl) (by kernel_rfl) (by kernel_rfl) (fun _ _ _ h => h) (by rfl) (fun _ _ => by first | (go_simp; rfl) | (go_simp; done)) (by go_simp; rfl) HS ?_
          refine HeldBy.take (i := 22) rfl (by kernel_rfl) (by kernel_rfl) (by kernel_rfl) (fun _ _ _ h => h) (by rfl) (fun _ _ => by first | (go_simp; rfl) | (go_simp; done)) (by go_simp; rfl) HS ?_
          refine HeldBy.take (i := 23) rfl (by kernel_rfl) (by kernel_rfl) (by kernel_rfl) (fun _ _ _ h => h) (by rfl) (fun _ _ => by first | (go_simp; rfl) | (go_simp; done)) (by go_simp; rfl) HS ?_
          refine HeldBy.take (i := 24) rfl (by kernel_rfl) (by kernel_rfl) (by kernel_rfl) (fun _ _ _ h => h) (by rfl) (fun _ _ => by first | (go_simp; rfl) | (go_simp; done)) (by go_simp; rfl) HS ?_
          refine HeldBy.take (i := 25) (v := .pointer (some ⟨w.heap.size, 1, none⟩)) rfl (by kernel_rfl) (by kernel_rfl) (by kernel_rfl) (fun _ _ _ h => h) (by rfl) (fun _ _ => by go_simp) (by go_simp; rfl) HS ?_
          refine HeldBy.take (i := 26) rfl (by kernel_rfl) (by kernel_rfl) (by kernel_rfl) (fun _ _ _ h => h) (by rfl) (fun V h => by have c := h.c1; go_simp; rfl) (by go_simp; rfl) HS ?_
          refine HeldBy.take (i := 27) (v := .pointer (some ⟨w.heap.size, 0, none⟩)) rfl (by kernel_rfl) (by kernel_rfl) (by kernel_rfl) (fun _ _ _ h => h) (by rfl) (fun _ _ => by go_simp) (by go_simp; rfl) HS ?_
          refine HeldBy.take (i := 28) rfl (by kernel_rfl) (by kernel_rfl) (by kernel_rfl) (fun _ _ _ h => h) (by rfl) (fun V h => by have c := h.c0; go_simp; rfl) (by go_simp; rfl) HS ?_
          refine HeldBy.callE (i := 29) rfl (by kernel_rfl) (by rfl) (by go_simp; exact ⟨rfl, rfl⟩) (by intro v; go_simp; rfl) ?_
          refine (sameTerms_any _ _ b a _ HS.tb HS.ta).mono ?_
          rintro e U8 ⟨rfl, hb⟩
          replace HS := HS.after hb
          refine .inl ⟨_, rfl, HS, ?_⟩
          clear hb
          rw [HX2.out]
          refine HeldBy.take (i := 30) rfl (by kernel_rfl) (by kernel_rfl) (by kernel_rfl) (fun _ _ _ h => h) (by rfl) (fun _ _ => by first | (go_simp; rfl) | (go_simp; done)) (by go_simp; rfl) HS ?_
          refine HeldBy.take (i := 31) rfl (by kernel_rfl) (by kernel_rfl) (by kernel_rfl) (fun _ _ _ h => h) (by rfl) (fun _ _ => by first | (go_simp; rfl) | (go_simp; done)) (by go_simp; rfl) HS ?_
          refine HeldBy.take (i := 32) rfl (by kernel_rfl) (by kernel_rfl) (by kernel_rfl) (fun _ _ _ h => h) (by rfl) (fun _ _ => by first | (go_simp; rfl) | (go_simp; done)) (by go_simp; rfl) HS ?_
          refine HeldBy.take (i := 33) rfl (by kernel_rfl) (by kernel_rfl) (by kernel_rfl) (fun _ _ _ h => h) (by rfl) (fun _ _ => by first | (go_simp; rfl) | (go_simp; done)) (by go_simp; rfl) HS ?_
          refine HeldBy.take (i := 34) (v := .pointer (some ⟨w.heap.size + 1, 1, none⟩)) rfl (by kernel_rfl) (by kernel_rfl) (by kernel_rfl) (fun _ _ _ h => h) (by rfl) (fun _ _ => by go_simp) (by go_simp; rfl) HS ?_
          refine HeldBy.take (i := 35) rfl (by kernel_rfl) (by kernel_rfl) (by kernel_rfl) (fun _ _ _ h => h) (by rfl) (fun V h => by have c := h.d1; go_simp; rfl) (by go_simp; rfl) HS ?_
          refine HeldBy.take (i := 36) (v := .pointer (some ⟨w.heap.size + 1, 0, none⟩)) rfl (by kernel_rfl) (by kernel_rfl) (by kernel_rfl) (fun _ _ _ h => h) (by rfl) (fun _ _ => by go_simp) (by go_simp; rfl) HS ?_
          refine HeldBy.take (i := 37) rfl (by kernel_rfl) (by kernel_rfl) (by kernel_rfl) (fun _ _ _ h => h) (by rfl) (fun V h => by have c := h.d0; go_simp; rfl) (by go_simp; rfl) HS ?_
          refine HeldBy.callE (i := 38) rfl (by kernel_rfl) (by rfl) (by go_simp; exact ⟨rfl, rfl⟩) (by intro v; go_simp; rfl) ?_
          refine (sameLabels_any _ _ m l _ HS.lb HS.la).mono ?_
          rintro e U9 ⟨rfl, hb⟩
          replace HS := HS.after hb
          refine .inl ⟨_, rfl, HS, ?_⟩
          clear hb
          rw [HY2.out]
          refine HeldBy.take (i := 39) rfl (by kernel_rfl) (by kernel_rfl) (by kernel_rfl) (fun _ _ _ h => h) (by rfl) (fun _ _ => by first | (go_simp; rfl) | (go_simp; done)) (by go_simp; rfl) HS ?_
          refine HeldBy.take (i := 40) rfl (by kernel_rfl) (by kernel_rfl) (by kernel_rfl) (fun _ _ _ h => h) (by rfl) (fun _ _ => by first | (go_simp; rfl) | (go_simp; done)) (by go_simp; rfl) HS ?_
          refine HeldBy.take (i := 41) rfl (by kernel_rfl) (by kernel_rfl) (by kernel_rfl) (fun _ _ _ h => h) (by rfl) (fun _ _ => by first | (go_simp; rfl) | (go_simp; done)) (by go_simp; rfl) HS ?_
          refine HeldBy.take (i := 42) (v := .pointer (some ⟨w.heap.size, 0, none⟩)) rfl (by kernel_rfl) (by kernel_rfl) (by kernel_rfl) (fun _ _ _ h => h) (by rfl) (fun _ _ => by go_simp) (by go_simp; rfl) HS ?_
          refine HeldBy.take (i := 43) rfl (by kernel_rfl) (by kernel_rfl) (by kernel_rfl) (fun _ _ _ h => h) (by rfl) (fun V h => by have c := h.c0; go_simp; rfl) (by go_simp; rfl) HS ?_
          refine HeldBy.take (i := 44) (v := .pointer (some ⟨w.heap.size, 0, none⟩)) rfl (by kernel_rfl) (by kernel_rfl) (by kernel_rfl) (fun _ _ _ h => h) (by rfl) (fun _ _ => by go_simp) (by go_simp; rfl) HS ?_
          refine HeldBy.take (i := 45) rfl (by kernel_rfl) (by kernel_rfl) (by kernel_rfl) (fun _ _ _ h => h) (by rfl) (fun V h => by have c := h.c0; go_simp; rfl) (by go_simp; rfl) HS ?_
          refine HeldBy.callE (i := 46) rfl (by kernel_rfl) (by rfl) (by go_simp; exact ⟨rfl, rfl⟩) (by intro v; go_simp; rfl) ?_
          refine (sameTerms_any _ _ a a _ HS.ta HS.ta).mono ?_
          rintro e U10 ⟨rfl, hb⟩
          replace HS := HS.after hb
          refine .inl ⟨_, rfl, HS, ?_⟩
          clear hb
          rw [decide_eq_true (rfl : a.map Prod.fst = a.map Prod.fst)]
          refine HeldBy.take (i := 47) rfl (by kernel_rfl) (by kernel_rfl) (by kernel_rfl) (fun _ _ _ h => h) (by rfl) (fun _ _ => by first | (go_simp; rfl) | (go_simp; done)) (by go_simp; rfl) HS ?_
          refine HeldBy.take (i := 48) rfl (by kernel_rfl) (by kernel_rfl) (by kernel_rfl) (fun _ _ _ h => h) (by rfl) (fun _ _ => by first | (go_simp; rfl) | (go_simp; done)) (by go_simp; rfl) HS ?_
          refine wpAnyH_done (by kernel_rfl) ?_ _
          have HB := Lib.hid HS.low
          clear HS
          go_wp2
          go_ret
          exact ⟨rfl, HB.out⟩
        · clear HL HM
          go_wp2_with fail
          refine (live_any _).mono ?_
          rintro e W1 ⟨rfl, hb⟩
          have HB := Lib.hid (HS.out.low.trans (hb.mono HS.out.low.size))
          clear hb c0 c1 d0 d1 HS
          go_wp2
          go_ret
          exact ⟨rfl, HB.out⟩
      · clear HL HM
        go_wp2_with fail
        refine (live_any _).mono ?_
        rintro e W1 ⟨rfl, hb⟩
        have HB := Lib.hid (HS.out.low.trans (hb.mono HS.out.low.size))
        clear hb c0 c1 d0 d1 HS
        go_wp2
        go_ret
        exact ⟨rfl, HB.out⟩
end Go.Proofs.Ytneogmcmkbhnaaa.T
