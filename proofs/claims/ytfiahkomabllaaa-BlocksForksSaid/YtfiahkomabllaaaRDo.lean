/- The law's do: a deed on both logs. -/
import Derived.Test.YtfiahkomabllaaaRTwo
namespace Go.Proofs.Ytfiahkomabllaaa.L
open Go Go.RowKit
open Go.Lib

theorem Pair.drew {B : Nat} {W : World} {q p : Nat} {og : Option Nat} {s : Lg} (h : Pair B W q og p s) : Pair B W.drew q og p s :=
  ⟨h.log.of_heap rfl (fun _ _ => rfl), let ⟨v, k, h1, h2, h3⟩ := h.doc.at_; ⟨⟨v, k, h1, h2, h3⟩, h.doc.most, h.doc.low⟩⟩
theorem BytesIn.take {W : World} {a : Option Addr} {k c n : Nat} {l : Bytes} (h : BytesIn W (.slice a k c) l) (hn : n ≤ l.length) : BytesIn W (.slice a n c) (l.take n) := by
  rcases h with ⟨c2, h, rfl⟩ | ⟨g, off, cap, h, h1, h2, h3, h4⟩
  · cases h
    obtain rfl : n = 0 := by simpa using hn
    exact .inl ⟨c, rfl, rfl⟩
  · cases h
    have hl : (l.take n).length = n := by rw [List.length_take]; omega
    refine .inr ⟨g, off, c, by rw [hl], by omega, h2, h3, fun i hi => ?_⟩
    rw [h4 i (by omega)]
    simp
theorem run_headB {a : Option Addr} {k c n : Nat} {W : World} {l : Bytes} (h : BytesIn W (.slice a k c) l) (hn : n ≤ l.length) (w : World) : (Instr.slice 30 (.slice a k c) none (some (.int .i64 (n : Nat))) none).run Try.prog w = .ok (.slice a n c) w := by
  rcases h with ⟨c2, h, rfl⟩ | ⟨g, off, cap, h, h1, h2, h3, h4⟩
  · cases h
    obtain rfl : n = 0 := by simpa using hn
    rw [run_slice_h w 30 none 0 c sliceByte .i64 (0 : Nat) (by omega) (by omega), sizeByte]
    simp [Result.andThen, sliced]
  · cases h
    rw [run_slice_h w 30 (some ⟨g, off, none⟩) l.length c sliceByte .i64 n (by omega) (by omega), sizeByte]
    simp [Result.andThen, sliced, add_zero']
/-- The box of a deed. -/
def BoxD (W : World) (q : Nat) (kd kp tn : Int) (sv : Value) : Prop := W.heap[q]? = some (.cells #[.int .i64 kd, .int .i64 kp, .int .i64 tn, sv] tD (0, 0))
section
variable {W W' : World} {q : Nat} {kd kp tn : Int} {sv : Value}
theorem BoxD.c0 (h : BoxD W q kd kp tn sv) : W.cell? ⟨q, 0, none⟩ = some (.int .i64 kd) := (cell_of_row W q 0 _ _ _ h).trans rfl
theorem BoxD.c1 (h : BoxD W q kd kp tn sv) : W.cell? ⟨q, 1, none⟩ = some (.int .i64 kp) := (cell_of_row W q 1 _ _ _ h).trans rfl
theorem BoxD.c2 (h : BoxD W q kd kp tn sv) : W.cell? ⟨q, 2, none⟩ = some (.int .i64 tn) := (cell_of_row W q 2 _ _ _ h).trans rfl
theorem BoxD.c3 (h : BoxD W q kd kp tn sv) : W.cell? ⟨q, 3, none⟩ = some sv := (cell_of_row W q 3 _ _ _ h).trans rfl
theorem BoxD.lt (h : BoxD W q kd kp tn sv) : q < W.heap.size := (Array.getElem?_eq_some_iff.1 h).1
theorem BoxD.turn {B : Nat} {q1 : Nat} {og og' : Option Nat} {s : Lg} (h : BoxD W q kd kp tn sv) (hl : IsLog B W q1 og s) (ht : Turn B W W' q1 og og') : BoxD W' q kd kp tn sv := by
  obtain ⟨z1, z2, z3⟩ := hl.apart h (by decide) (by decide)
  exact (ht.keep q z1 z2 z3).trans h
theorem BoxD.rturn {B : Nat} {p : Nat} {s : Lg} (h : BoxD W q kd kp tn sv) (hl : IsRLog B W p s) (ht : RTurn B W W' p) : BoxD W' q kd kp tn sv := by
  obtain ⟨v, k, h1, -⟩ := hl.at_
  refine (ht.keep q h.lt ?_).trans h
  rintro rfl
  have h2 : W.heap[q]? = _ := h1
  have h3 : W.heap[q]? = _ := h
  rw [h2] at h3
  simp only [Option.some.injEq, Obj.cells.injEq] at h3
  exact absurd h3.2.1 (by decide)
end
/-- Both answered alike, and both hold the same. -/
theorem pair_end {B q p : Nat} {og og2 : Option Nat} {s t : Lg} {w W0 W2 W3 : World} (hP : Pair B W0 q og p s) (hw : Below B w W0) (hl2 : IsLog B W2 q og2 t) (ht2 : Turn B W0 W2 q og og2) (hl3 : IsRLog B W3 p t) (ht3 : RTurn B W2 W3 p) : ∃ og', Pair B W3 q og' p t ∧ Below B w W3 :=
  ⟨og2, ⟨hl2.rturn (hP.doc.turn hP.log ht2) ht3, hl3⟩, (hw.trans ht2.below).trans ht3.below⟩

set_option maxRecDepth 100000 in
set_option maxHeartbeats 2000000 in
theorem do_any (B q p : Nat) (og : Option Nat) (s : Lg) (kd kp tn : Int) (sv : Value) (l : Bytes) (w : World) (h : Pair B w q og p s) (hB : B ≤ w.heap.size) (hv : ∀ V, Below B w V → ArgB V sv l) :
    Calls Try.prog 30 #[.pointer (some ⟨q, 0, none⟩), .pointer (some ⟨p, 0, none⟩), .agg #[.int .i64 kd, .int .i64 kp, .int .i64 tn, sv]] w (DoA B q p (doD kd kp tn l s).2 w) := by
  obtain ⟨a, c, rfl⟩ := (hv w (Below.refl _ _)).1
  have hsm := (hv w (Below.refl _ _)).small
  obtain ⟨q0, hq0⟩ : ∃ q, w.heap.size = q := ⟨_, rfl⟩
  have hb0 : Below w.heap.size w (w.alloc (.cells #[.int .i64 kd, .int .i64 kp, .int .i64 tn, .slice a l.length c] tD (0, 0))) := (Below.refl _ _).alloc (Nat.le_refl _) _
  have hbox : BoxD (w.alloc (.cells #[.int .i64 kd, .int .i64 kp, .int .i64 tn, .slice a l.length c] tD (0, 0))) q0 kd kp tn (.slice a l.length c) := by rw [← hq0]; exact heap_alloc_new w _
  have HP := Lib.hid (h.after hb0)
  have HW : Hid (Below B w (w.alloc (.cells #[.int .i64 kd, .int .i64 kp, .int .i64 tn, .slice a l.length c] tD (0, 0)))) := hb0.mono hB
  have HX := Lib.hid hbox
  have HV := Lib.hid hv
  have d0 := hbox.c0
  have d1 := hbox.c1
  have d2 := hbox.c2
  have d3 := hbox.c3
  clear h hv hb0 hbox
  by_cases g1 : 200 < l.length
  · have g1' : (200 : Int) < (l.length : Int) := by omega
    by_cases g2 : l.length ≤ 1024
    · have g2' : (l.length : Int) ≤ 1024 := by omega
      have hne : l ≠ [] := fun e => by rw [e] at g1; simp at g1
      have hbb : bB l = l.take 200 := if_pos ⟨g1, g2⟩
      have HVB : Hid (∀ V, Below B w V → ArgB V (.slice a 200 c) (bB l)) := fun V hV => by
        rw [hbb]
        exact (((HV.out V hV).2 hne).take (by omega)).arg
      have hs1 : ∀ w, (Instr.slice 30 (.slice a l.length c) none (some (.int .i64 200)) none).run Try.prog w = .ok (.slice a 200 c) w := fun u => run_headB ((HV.out w (Below.refl _ _)).2 hne) (n := 200) (by omega) u
      clear hbb hne
      go_enter Try.func30, Try.ntmps30
      by_cases k0 : kd = 0
      · subst k0
        have HDO : Hid (doD 0 kp tn l s = appS s (bB l)) := rfl
        obtain ⟨⟨rc, s'⟩, hs⟩ : ∃ z, appS s (bB l) = z := ⟨_, rfl⟩
        rw [hs] at HDO
        have hap := append_arg B q og s (.slice a 200 c) (bB l) _ HP.out.log (HVB.out _ HW.out)
        rw [hs] at hap
        have HAP := Lib.hid hap
        have HRP : Hid (∀ V, Below B w V → IsRLog B V p s → Calls Try.prog 41 #[.pointer (some ⟨p, 0, none⟩), (.slice a 200 c)] V (DeedR B p V (rc, s'))) := fun V h1 h2 => by
          have := rappend_arg B p s (.slice a 200 c) (bB l) V h2 (HVB.out V h1)
          rwa [hs] at this
        clear hap hs
        go_wp2_with (go_at_call 21; refine HAP.out.mono ?_)
        rintro e W2 ⟨rfl, og2, hl2, ht2⟩
        have HRP2 := Lib.hid (HRP.out W2 (HW.out.trans ht2.below) (HP.out.doc.turn HP.out.log ht2))
        have HL2 := Lib.hid hl2
        have HT2 := Lib.hid ht2
        clear hl2 ht2 HAP HRP
        go_wp2_with (go_at_call 41; refine HRP2.out.mono ?_)
        rintro e W3 ⟨rfl, hl3, ht3⟩
        have HL3 := Lib.hid (pair_end HP.out HW.out HL2.out HT2.out hl3 ht3)
        clear hl3 ht3 HRP2
        go_wp2
        go_ret
        rw [HDO.out]
        exact ⟨rfl, HL3.out⟩
      by_cases k1 : kd = 1
      · subst k1
        have HDO : Hid (doD 1 kp tn l s = (0, ⟨s.most, s.b.length / 64, s.b⟩)) := rfl
        have HAP := Lib.hid (syncD_any B q og s _ HP.out.log)
        go_wp2_with (go_at_call 18; refine HAP.out.mono ?_)
        rintro e W2 ⟨rfl, hl2, ht2⟩
        have HRP2 := Lib.hid (rsync_any B p s W2 (HP.out.doc.turn HP.out.log ht2))
        have HL2 := Lib.hid hl2
        have HT2 := Lib.hid ht2
        clear hl2 ht2 HAP
        go_wp2_with (go_at_call 42; refine HRP2.out.mono ?_)
        rintro e W3 ⟨rfl, hl3, ht3⟩
        have HL3 := Lib.hid (pair_end HP.out HW.out HL2.out HT2.out hl3 ht3)
        clear hl3 ht3 HRP2
        go_wp2
        go_ret
        rw [HDO.out]
        exact ⟨rfl, HL3.out⟩
      by_cases k2 : kd = 2
      · subst k2
        have HDO : Hid (doD 2 kp tn l s = crashS s kp tn) := rfl
        obtain ⟨⟨rc, s'⟩, hs⟩ : ∃ z, crashS s kp tn = z := ⟨_, rfl⟩
        rw [hs] at HDO
        have HAP : Hid (∀ V, Pair B V q og p s → Calls Try.prog 22 #[.pointer (some ⟨q, 0, none⟩), .int .i64 kp, .int .i64 tn] V (DeedA B q og V (rc, s'))) := fun V h1 => by
          have := crash_any B q og s kp tn V h1.log
          rwa [hs] at this
        have HRP : Hid (∀ V, IsRLog B V p s → Calls Try.prog 43 #[.pointer (some ⟨p, 0, none⟩), .int .i64 kp, .int .i64 tn] V (DeedR B p V (rc, s'))) := fun V h1 => by
          have := rcrash_any B p s kp tn V h1
          rwa [hs] at this
        clear hs d0 d1 d2 d3
        have d0 := HX.out.c0
        have d3 := HX.out.c3
        go_wp2
        refine wp_region_held_drew (S := fun V => BoxD V q0 2 kp tn (.slice a l.length c)) (by kernel_rfl) HX.out (fun _ => ?_)
        refine HeldBy.gen (fun V => (BoxD V q0 2 kp tn (.slice a l.length c)) ∧ (Pair B V q og p s) ∧ (Below B w V)) ⟨HX.out, HP.out.drew, HW.out.drew⟩ ?_
        clear HX HP HW
        rintro U0 ⟨HS, HP, HW⟩
        refine HeldBy.take (i := 0) rfl (by kernel_rfl) (by kernel_rfl) (by kernel_rfl) (fun _ _ _ h => h) (by rfl) (fun _ _ => by first | (go_simp; rfl) | (go_simp; done)) (by first | (go_simp; rfl) | (go_simp; done)) HS ?_
        refine HeldBy.take (i := 1) rfl (by kernel_rfl) (by kernel_rfl) (by kernel_rfl) (fun _ _ _ h => h) (by rfl) (fun _ _ => by first | (go_simp; rfl) | (go_simp; done)) (by first | (go_simp; rfl) | (go_simp; done)) HS ?_
        refine HeldBy.take (i := 2) rfl (by kernel_rfl) (by kernel_rfl) (by kernel_rfl) (fun _ _ _ h => h) (by rfl) (fun V hV => by have hc := hV.c1; first | (go_simp; rfl) | (go_simp; done)) (by first | (go_simp; rfl) | (go_simp; done)) HS ?_
        refine HeldBy.take (i := 3) rfl (by kernel_rfl) (by kernel_rfl) (by kernel_rfl) (fun _ _ _ h => h) (by rfl) (fun _ _ => by first | (go_simp; rfl) | (go_simp; done)) (by first | (go_simp; rfl) | (go_simp; done)) HS ?_
        refine HeldBy.take (i := 4) rfl (by kernel_rfl) (by kernel_rfl) (by kernel_rfl) (fun _ _ _ h => h) (by rfl) (fun V hV => by have hc := hV.c2; first | (go_simp; rfl) | (go_simp; done)) (by first | (go_simp; rfl) | (go_simp; done)) HS ?_
        refine HeldBy.take (i := 6) rfl (by kernel_rfl) (by kernel_rfl) (by kernel_rfl) (fun _ _ _ h => h) (by rfl) (fun _ _ => by first | (go_simp; rfl) | (go_simp; done)) (by first | (go_simp; rfl) | (go_simp; done)) HS ?_
        refine HeldBy.take (i := 7) rfl (by kernel_rfl) (by kernel_rfl) (by kernel_rfl) (fun _ _ _ h => h) (by rfl) (fun _ _ => by first | (go_simp; rfl) | (go_simp; done)) (by first | (go_simp; rfl) | (go_simp; done)) HS ?_
        refine HeldBy.take (i := 8) rfl (by kernel_rfl) (by kernel_rfl) (by kernel_rfl) (fun _ _ _ h => h) (by rfl) (fun V hV => by have hc := hV.c1; first | (go_simp; rfl) | (go_simp; done)) (by first | (go_simp; rfl) | (go_simp; done)) HS ?_
        refine HeldBy.take (i := 9) rfl (by kernel_rfl) (by kernel_rfl) (by kernel_rfl) (fun _ _ _ h => h) (by rfl) (fun _ _ => by first | (go_simp; rfl) | (go_simp; done)) (by first | (go_simp; rfl) | (go_simp; done)) HS ?_
        refine HeldBy.take (i := 10) rfl (by kernel_rfl) (by kernel_rfl) (by kernel_rfl) (fun _ _ _ h => h) (by rfl) (fun V hV => by have hc := hV.c2; first | (go_simp; rfl) | (go_simp; done)) (by first | (go_simp; rfl) | (go_simp; done)) HS ?_
        refine HeldBy.call (i := 5) (v := .int .i64 rc) rfl (by kernel_rfl) (by rfl) (by first | (go_simp; done) | (go_simp; first | exact ⟨rfl, rfl⟩ | rfl)) (by first | (go_simp; rfl) | (go_simp; done)) ?_
        refine (HAP.out U0 HP).mono ?_
        rintro e U1 ⟨rfl, og1, hl1, ht1⟩
        have HX1 : BoxD U1 q0 2 kp tn (.slice a l.length c) := HS.turn HP.log ht1
        refine ⟨rfl, HX1, ?_⟩
        refine HeldBy.call (i := 11) (v := .int .i64 rc) rfl (by kernel_rfl) (by rfl) (by first | (go_simp; done) | (go_simp; first | exact ⟨rfl, rfl⟩ | rfl)) (by first | (go_simp; rfl) | (go_simp; done)) ?_
        refine (HRP.out U1 (HP.doc.turn HP.log ht1)).mono ?_
        rintro e U2 ⟨rfl, hl2, ht2⟩
        have HX2 : BoxD U2 q0 2 kp tn (.slice a l.length c) := HX1.rturn (HP.doc.turn HP.log ht1) ht2
        refine ⟨rfl, HX2, ?_⟩
        have HL3 := Lib.hid (pair_end HP HW hl1 ht1 hl2 ht2)
        clear hl1 ht1 hl2 ht2 HX1 HS HP HW HAP HRP
        refine HeldBy.take (i := 12) (v := .bool true) rfl (by kernel_rfl) (by kernel_rfl) (by kernel_rfl) (fun _ _ _ h => h) (by rfl) (fun _ _ => by first | (go_simp; done) | (go_simp; rfl)) (by first | (go_simp; rfl) | (go_simp; done)) HX2 ?_
        refine HeldBy.take (i := 13) rfl (by kernel_rfl) (by kernel_rfl) (by kernel_rfl) (fun _ _ _ h => h) (by rfl) (fun _ _ => by first | (go_simp; rfl) | (go_simp; done)) (by first | (go_simp; rfl) | (go_simp; done)) HX2 ?_
        refine wpAnyH_done (by kernel_rfl) ?_ _
        go_wp2
        go_ret
        rw [HDO.out]
        exact ⟨rfl, HL3.out⟩
      by_cases k3 : kd = 3
      · subst k3
        have HDO : Hid (doD 3 kp tn l s = (0, cleanS s)) := rfl
        have HAP := Lib.hid (clean_any B q og s _ HP.out.log)
        obtain ⟨s', hs⟩ : ∃ z, cleanS s = z := ⟨_, rfl⟩
        have HRP := Lib.hid (fun V h1 => rclean_any B p s V h1)
        rw [hs] at HAP HRP HDO
        clear hs
        go_wp2_with (go_at_call 25; refine HAP.out.mono ?_)
        rintro e W2 ⟨rfl, og2, hl2, ht2⟩
        have HRP2 := Lib.hid (HRP.out W2 (HP.out.doc.turn HP.out.log ht2))
        have HL2 := Lib.hid hl2
        have HT2 := Lib.hid ht2
        clear hl2 ht2 HAP HRP
        go_wp2_with (go_at_call 44; refine HRP2.out.mono ?_)
        rintro e W3 ⟨rfl, hl3, ht3⟩
        have HL3 := Lib.hid (pair_end HP.out HW.out HL2.out HT2.out hl3 ht3)
        clear hl3 ht3 HRP2
        go_wp2
        go_ret
        rw [HDO.out]
        exact ⟨rfl, HL3.out⟩
      have HDO : Hid (doD kd kp tn l s = (0, s)) := by show doD kd kp tn l s = _; unfold doD; rw [if_neg k0, if_neg k1, if_neg k2, if_neg k3]
      go_wp2
      go_ret
      rw [HDO.out]
      exact ⟨rfl, og, HP.out, HW.out⟩
    · have g2' : ¬ (l.length : Int) ≤ 1024 := by omega
      have HVB : Hid (∀ V, Below B w V → ArgB V (.slice a l.length c) (bB l)) := fun V hV => by
        rw [show bB l = l from if_neg (by omega)]
        exact HV.out V hV
      go_enter Try.func30, Try.ntmps30
      by_cases k0 : kd = 0
      · subst k0
        have HDO : Hid (doD 0 kp tn l s = appS s (bB l)) := rfl
        obtain ⟨⟨rc, s'⟩, hs⟩ : ∃ z, appS s (bB l) = z := ⟨_, rfl⟩
        rw [hs] at HDO
        have hap := append_arg B q og s (.slice a l.length c) (bB l) _ HP.out.log (HVB.out _ HW.out)
        rw [hs] at hap
        have HAP := Lib.hid hap
        have HRP : Hid (∀ V, Below B w V → IsRLog B V p s → Calls Try.prog 41 #[.pointer (some ⟨p, 0, none⟩), (.slice a l.length c)] V (DeedR B p V (rc, s'))) := fun V h1 h2 => by
          have := rappend_arg B p s (.slice a l.length c) (bB l) V h2 (HVB.out V h1)
          rwa [hs] at this
        clear hap hs
        go_wp2_with (go_at_call 21; refine HAP.out.mono ?_)
        rintro e W2 ⟨rfl, og2, hl2, ht2⟩
        have HRP2 := Lib.hid (HRP.out W2 (HW.out.trans ht2.below) (HP.out.doc.turn HP.out.log ht2))
        have HL2 := Lib.hid hl2
        have HT2 := Lib.hid ht2
        clear hl2 ht2 HAP HRP
        go_wp2_with (go_at_call 41; refine HRP2.out.mono ?_)
        rintro e W3 ⟨rfl, hl3, ht3⟩
        have HL3 := Lib.hid (pair_end HP.out HW.out HL2.out HT2.out hl3 ht3)
        clear hl3 ht3 HRP2
        go_wp2
        go_ret
        rw [HDO.out]
        exact ⟨rfl, HL3.out⟩
      by_cases k1 : kd = 1
      · subst k1
        have HDO : Hid (doD 1 kp tn l s = (0, ⟨s.most, s.b.length / 64, s.b⟩)) := rfl
        have HAP := Lib.hid (syncD_any B q og s _ HP.out.log)
        go_wp2_with (go_at_call 18; refine HAP.out.mono ?_)
        rintro e W2 ⟨rfl, hl2, ht2⟩
        have HRP2 := Lib.hid (rsync_any B p s W2 (HP.out.doc.turn HP.out.log ht2))
        have HL2 := Lib.hid hl2
        have HT2 := Lib.hid ht2
        clear hl2 ht2 HAP
        go_wp2_with (go_at_call 42; refine HRP2.out.mono ?_)
        rintro e W3 ⟨rfl, hl3, ht3⟩
        have HL3 := Lib.hid (pair_end HP.out HW.out HL2.out HT2.out hl3 ht3)
        clear hl3 ht3 HRP2
        go_wp2
        go_ret
        rw [HDO.out]
        exact ⟨rfl, HL3.out⟩
      by_cases k2 : kd = 2
      · subst k2
        have HDO : Hid (doD 2 kp tn l s = crashS s kp tn) := rfl
        obtain ⟨⟨rc, s'⟩, hs⟩ : ∃ z, crashS s kp tn = z := ⟨_, rfl⟩
        rw [hs] at HDO
        have HAP : Hid (∀ V, Pair B V q og p s → Calls Try.prog 22 #[.pointer (some ⟨q, 0, none⟩), .int .i64 kp, .int .i64 tn] V (DeedA B q og V (rc, s'))) := fun V h1 => by
          have := crash_any B q og s kp tn V h1.log
          rwa [hs] at this
        have HRP : Hid (∀ V, IsRLog B V p s → Calls Try.prog 43 #[.pointer (some ⟨p, 0, none⟩), .int .i64 kp, .int .i64 tn] V (DeedR B p V (rc, s'))) := fun V h1 => by
          have := rcrash_any B p s kp tn V h1
          rwa [hs] at this
        clear hs d0 d1 d2 d3
        have d0 := HX.out.c0
        have d3 := HX.out.c3
        go_wp2
        refine wp_region_held_drew (S := fun V => BoxD V q0 2 kp tn (.slice a l.length c)) (by kernel_rfl) HX.out (fun _ => ?_)
        refine HeldBy.gen (fun V => (BoxD V q0 2 kp tn (.slice a l.length c)) ∧ (Pair B V q og p s) ∧ (Below B w V)) ⟨HX.out, HP.out.drew, HW.out.drew⟩ ?_
        clear HX HP HW
        rintro U0 ⟨HS, HP, HW⟩
        refine HeldBy.take (i := 0) rfl (by kernel_rfl) (by kernel_rfl) (by kernel_rfl) (fun _ _ _ h => h) (by rfl) (fun _ _ => by first | (go_simp; rfl) | (go_simp; done)) (by first | (go_simp; rfl) | (go_simp; done)) HS ?_
        refine HeldBy.take (i := 1) rfl (by kernel_rfl) (by kernel_rfl) (by kernel_rfl) (fun _ _ _ h => h) (by rfl) (fun _ _ => by first | (go_simp; rfl) | (go_simp; done)) (by first | (go_simp; rfl) | (go_simp; done)) HS ?_
        refine HeldBy.take (i := 2) rfl (by kernel_rfl) (by kernel_rfl) (by kernel_rfl) (fun _ _ _ h => h) (by rfl) (fun V hV => by have hc := hV.c1; first | (go_simp; rfl) | (go_simp; done)) (by first | (go_simp; rfl) | (go_simp; done)) HS ?_
        refine HeldBy.take (i := 3) rfl (by kernel_rfl) (by kernel_rfl) (by kernel_rfl) (fun _ _ _ h => h) (by rfl) (fun _ _ => by first | (go_simp; rfl) | (go_simp; done)) (by first | (go_simp; rfl) | (go_simp; done)) HS ?_
        refine HeldBy.take (i := 4) rfl (by kernel_rfl) (by kernel_rfl) (by kernel_rfl) (fun _ _ _ h => h) (by rfl) (fun V hV => by have hc := hV.c2; first | (go_simp; rfl) | (go_simp; done)) (by first | (go_simp; rfl) | (go_simp; done)) HS ?_
        refine HeldBy.take (i := 6) rfl (by kernel_rfl) (by kernel_rfl) (by kernel_rfl) (fun _ _ _ h => h) (by rfl) (fun _ _ => by first | (go_simp; rfl) | (go_simp; done)) (by first | (go_simp; rfl) | (go_simp; done)) HS ?_
        refine HeldBy.take (i := 7) rfl (by kernel_rfl) (by kernel_rfl) (by kernel_rfl) (fun _ _ _ h => h) (by rfl) (fun _ _ => by first | (go_simp; rfl) | (go_simp; done)) (by first | (go_simp; rfl) | (go_simp; done)) HS ?_
        refine HeldBy.take (i := 8) rfl (by kernel_rfl) (by kernel_rfl) (by kernel_rfl) (fun _ _ _ h => h) (by rfl) (fun V hV => by have hc := hV.c1; first | (go_simp; rfl) | (go_simp; done)) (by first | (go_simp; rfl) | (go_simp; done)) HS ?_
        refine HeldBy.take (i := 9) rfl (by kernel_rfl) (by kernel_rfl) (by kernel_rfl) (fun _ _ _ h => h) (by rfl) (fun _ _ => by first | (go_simp; rfl) | (go_simp; done)) (by first | (go_simp; rfl) | (go_simp; done)) HS ?_
        refine HeldBy.take (i := 10) rfl (by kernel_rfl) (by kernel_rfl) (by kernel_rfl) (fun _ _ _ h => h) (by rfl) (fun V hV => by have hc := hV.c2; first | (go_simp; rfl) | (go_simp; done)) (by first | (go_simp; rfl) | (go_simp; done)) HS ?_
        refine HeldBy.call (i := 5) (v := .int .i64 rc) rfl (by kernel_rfl) (by rfl) (by first | (go_simp; done) | (go_simp; first | exact ⟨rfl, rfl⟩ | rfl)) (by first | (go_simp; rfl) | (go_simp; done)) ?_
        refine (HAP.out U0 HP).mono ?_
        rintro e U1 ⟨rfl, og1, hl1, ht1⟩
        have HX1 : BoxD U1 q0 2 kp tn (.slice a l.length c) := HS.turn HP.log ht1
        refine ⟨rfl, HX1, ?_⟩
        refine HeldBy.call (i := 11) (v := .int .i64 rc) rfl (by kernel_rfl) (by rfl) (by first | (go_simp; done) | (go_simp; first | exact ⟨rfl, rfl⟩ | rfl)) (by first | (go_simp; rfl) | (go_simp; done)) ?_
        refine (HRP.out U1 (HP.doc.turn HP.log ht1)).mono ?_
        rintro e U2 ⟨rfl, hl2, ht2⟩
        have HX2 : BoxD U2 q0 2 kp tn (.slice a l.length c) := HX1.rturn (HP.doc.turn HP.log ht1) ht2
        refine ⟨rfl, HX2, ?_⟩
        have HL3 := Lib.hid (pair_end HP HW hl1 ht1 hl2 ht2)
        clear hl1 ht1 hl2 ht2 HX1 HS HP HW HAP HRP
        refine HeldBy.take (i := 12) (v := .bool true) rfl (by kernel_rfl) (by kernel_rfl) (by kernel_rfl) (fun _ _ _ h => h) (by rfl) (fun _ _ => by first | (go_simp; done) | (go_simp; rfl)) (by first | (go_simp; rfl) | (go_simp; done)) HX2 ?_
        refine HeldBy.take (i := 13) rfl (by kernel_rfl) (by kernel_rfl) (by kernel_rfl) (fun _ _ _ h => h) (by rfl) (fun _ _ => by first | (go_simp; rfl) | (go_simp; done)) (by first | (go_simp; rfl) | (go_simp; done)) HX2 ?_
        refine wpAnyH_done (by kernel_rfl) ?_ _
        go_wp2
        go_ret
        rw [HDO.out]
        exact ⟨rfl, HL3.out⟩
      by_cases k3 : kd = 3
      · subst k3
        have HDO : Hid (doD 3 kp tn l s = (0, cleanS s)) := rfl
        have HAP := Lib.hid (clean_any B q og s _ HP.out.log)
        obtain ⟨s', hs⟩ : ∃ z, cleanS s = z := ⟨_, rfl⟩
        have HRP := Lib.hid (fun V h1 => rclean_any B p s V h1)
        rw [hs] at HAP HRP HDO
        clear hs
        go_wp2_with (go_at_call 25; refine HAP.out.mono ?_)
        rintro e W2 ⟨rfl, og2, hl2, ht2⟩
        have HRP2 := Lib.hid (HRP.out W2 (HP.out.doc.turn HP.out.log ht2))
        have HL2 := Lib.hid hl2
        have HT2 := Lib.hid ht2
        clear hl2 ht2 HAP HRP
        go_wp2_with (go_at_call 44; refine HRP2.out.mono ?_)
        rintro e W3 ⟨rfl, hl3, ht3⟩
        have HL3 := Lib.hid (pair_end HP.out HW.out HL2.out HT2.out hl3 ht3)
        clear hl3 ht3 HRP2
        go_wp2
        go_ret
        rw [HDO.out]
        exact ⟨rfl, HL3.out⟩
      have HDO : Hid (doD kd kp tn l s = (0, s)) := by show doD kd kp tn l s = _; unfold doD; rw [if_neg k0, if_neg k1, if_neg k2, if_neg k3]
      go_wp2
      go_ret
      rw [HDO.out]
      exact ⟨rfl, og, HP.out, HW.out⟩
  · have g1' : ¬ (200 : Int) < (l.length : Int) := by omega
    have HVB : Hid (∀ V, Below B w V → ArgB V (.slice a l.length c) (bB l)) := fun V hV => by
      rw [show bB l = l from if_neg (by omega)]
      exact HV.out V hV
    go_enter Try.func30, Try.ntmps30
    by_cases k0 : kd = 0
    · subst k0
      have HDO : Hid (doD 0 kp tn l s = appS s (bB l)) := rfl
      obtain ⟨⟨rc, s'⟩, hs⟩ : ∃ z, appS s (bB l) = z := ⟨_, rfl⟩
      rw [hs] at HDO
      have hap := append_arg B q og s (.slice a l.length c) (bB l) _ HP.out.log (HVB.out _ HW.out)
      rw [hs] at hap
      have HAP := Lib.hid hap
      have HRP : Hid (∀ V, Below B w V → IsRLog B V p s → Calls Try.prog 41 #[.pointer (some ⟨p, 0, none⟩), (.slice a l.length c)] V (DeedR B p V (rc, s'))) := fun V h1 h2 => by
        have := rappend_arg B p s (.slice a l.length c) (bB l) V h2 (HVB.out V h1)
        rwa [hs] at this
      clear hap hs
      go_wp2_with (go_at_call 21; refine HAP.out.mono ?_)
      rintro e W2 ⟨rfl, og2, hl2, ht2⟩
      have HRP2 := Lib.hid (HRP.out W2 (HW.out.trans ht2.below) (HP.out.doc.turn HP.out.log ht2))
      have HL2 := Lib.hid hl2
      have HT2 := Lib.hid ht2
      clear hl2 ht2 HAP HRP
      go_wp2_with (go_at_call 41; refine HRP2.out.mono ?_)
      rintro e W3 ⟨rfl, hl3, ht3⟩
      have HL3 := Lib.hid (pair_end HP.out HW.out HL2.out HT2.out hl3 ht3)
      clear hl3 ht3 HRP2
      go_wp2
      go_ret
      rw [HDO.out]
      exact ⟨rfl, HL3.out⟩
    by_cases k1 : kd = 1
    · subst k1
      have HDO : Hid (doD 1 kp tn l s = (0, ⟨s.most, s.b.length / 64, s.b⟩)) := rfl
      have HAP := Lib.hid (syncD_any B q og s _ HP.out.log)
      go_wp2_with (go_at_call 18; refine HAP.out.mono ?_)
      rintro e W2 ⟨rfl, hl2, ht2⟩
      have HRP2 := Lib.hid (rsync_any B p s W2 (HP.out.doc.turn HP.out.log ht2))
      have HL2 := Lib.hid hl2
      have HT2 := Lib.hid ht2
      clear hl2 ht2 HAP
      go_wp2_with (go_at_call 42; refine HRP2.out.mono ?_)
      rintro e W3 ⟨rfl, hl3, ht3⟩
      have HL3 := Lib.hid (pair_end HP.out HW.out HL2.out HT2.out hl3 ht3)
      clear hl3 ht3 HRP2
      go_wp2
      go_ret
      rw [HDO.out]
      exact ⟨rfl, HL3.out⟩
    by_cases k2 : kd = 2
    · subst k2
      have HDO : Hid (doD 2 kp tn l s = crashS s kp tn) := rfl
      obtain ⟨⟨rc, s'⟩, hs⟩ : ∃ z, crashS s kp tn = z := ⟨_, rfl⟩
      rw [hs] at HDO
      have HAP : Hid (∀ V, Pair B V q og p s → Calls Try.prog 22 #[.pointer (some ⟨q, 0, none⟩), .int .i64 kp, .int .i64 tn] V (DeedA B q og V (rc, s'))) := fun V h1 => by
        have := crash_any B q og s kp tn V h1.log
        rwa [hs] at this
      have HRP : Hid (∀ V, IsRLog B V p s → Calls Try.prog 43 #[.pointer (some ⟨p, 0, none⟩), .int .i64 kp, .int .i64 tn] V (DeedR B p V (rc, s'))) := fun V h1 => by
        have := rcrash_any B p s kp tn V h1
        rwa [hs] at this
      clear hs d0 d1 d2 d3
      have d0 := HX.out.c0
      have d3 := HX.out.c3
      go_wp2
      refine wp_region_held_drew (S := fun V => BoxD V q0 2 kp tn (.slice a l.length c)) (by kernel_rfl) HX.out (fun _ => ?_)
      refine HeldBy.gen (fun V => (BoxD V q0 2 kp tn (.slice a l.length c)) ∧ (Pair B V q og p s) ∧ (Below B w V)) ⟨HX.out, HP.out.drew, HW.out.drew⟩ ?_
      clear HX HP HW
      rintro U0 ⟨HS, HP, HW⟩
      refine HeldBy.take (i := 0) rfl (by kernel_rfl) (by kernel_rfl) (by kernel_rfl) (fun _ _ _ h => h) (by rfl) (fun _ _ => by first | (go_simp; rfl) | (go_simp; done)) (by first | (go_simp; rfl) | (go_simp; done)) HS ?_
      refine HeldBy.take (i := 1) rfl (by kernel_rfl) (by kernel_rfl) (by kernel_rfl) (fun _ _ _ h => h) (by rfl) (fun _ _ => by first | (go_simp; rfl) | (go_simp; done)) (by first | (go_simp; rfl) | (go_simp; done)) HS ?_
      refine HeldBy.take (i := 2) rfl (by kernel_rfl) (by kernel_rfl) (by kernel_rfl) (fun _ _ _ h => h) (by rfl) (fun V hV => by have hc := hV.c1; first | (go_simp; rfl) | (go_simp; done)) (by first | (go_simp; rfl) | (go_simp; done)) HS ?_
      refine HeldBy.take (i := 3) rfl (by kernel_rfl) (by kernel_rfl) (by kernel_rfl) (fun _ _ _ h => h) (by rfl) (fun _ _ => by first | (go_simp; rfl) | (go_simp; done)) (by first | (go_simp; rfl) | (go_simp; done)) HS ?_
      refine HeldBy.take (i := 4) rfl (by kernel_rfl) (by kernel_rfl) (by kernel_rfl) (fun _ _ _ h => h) (by rfl) (fun V hV => by have hc := hV.c2; first | (go_simp; rfl) | (go_simp; done)) (by first | (go_simp; rfl) | (go_simp; done)) HS ?_
      refine HeldBy.take (i := 6) rfl (by kernel_rfl) (by kernel_rfl) (by kernel_rfl) (fun _ _ _ h => h) (by rfl) (fun _ _ => by first | (go_simp; rfl) | (go_simp; done)) (by first | (go_simp; rfl) | (go_simp; done)) HS ?_
      refine HeldBy.take (i := 7) rfl (by kernel_rfl) (by kernel_rfl) (by kernel_rfl) (fun _ _ _ h => h) (by rfl) (fun _ _ => by first | (go_simp; rfl) | (go_simp; done)) (by first | (go_simp; rfl) | (go_simp; done)) HS ?_
      refine HeldBy.take (i := 8) rfl (by kernel_rfl) (by kernel_rfl) (by kernel_rfl) (fun _ _ _ h => h) (by rfl) (fun V hV => by have hc := hV.c1; first | (go_simp; rfl) | (go_simp; done)) (by first | (go_simp; rfl) | (go_simp; done)) HS ?_
      refine HeldBy.take (i := 9) rfl (by kernel_rfl) (by kernel_rfl) (by kernel_rfl) (fun _ _ _ h => h) (by rfl) (fun _ _ => by first | (go_simp; rfl) | (go_simp; done)) (by first | (go_simp; rfl) | (go_simp; done)) HS ?_
      refine HeldBy.take (i := 10) rfl (by kernel_rfl) (by kernel_rfl) (by kernel_rfl) (fun _ _ _ h => h) (by rfl) (fun V hV => by have hc := hV.c2; first | (go_simp; rfl) | (go_simp; done)) (by first | (go_simp; rfl) | (go_simp; done)) HS ?_
      refine HeldBy.call (i := 5) (v := .int .i64 rc) rfl (by kernel_rfl) (by rfl) (by first | (go_simp; done) | (go_simp; first | exact ⟨rfl, rfl⟩ | rfl)) (by first | (go_simp; rfl) | (go_simp; done)) ?_
      refine (HAP.out U0 HP).mono ?_
      rintro e U1 ⟨rfl, og1, hl1, ht1⟩
      have HX1 : BoxD U1 q0 2 kp tn (.slice a l.length c) := HS.turn HP.log ht1
      refine ⟨rfl, HX1, ?_⟩
      refine HeldBy.call (i := 11) (v := .int .i64 rc) rfl (by kernel_rfl) (by rfl) (by first | (go_simp; done) | (go_simp; first | exact ⟨rfl, rfl⟩ | rfl)) (by first | (go_simp; rfl) | (go_simp; done)) ?_
      refine (HRP.out U1 (HP.doc.turn HP.log ht1)).mono ?_
      rintro e U2 ⟨rfl, hl2, ht2⟩
      have HX2 : BoxD U2 q0 2 kp tn (.slice a l.length c) := HX1.rturn (HP.doc.turn HP.log ht1) ht2
      refine ⟨rfl, HX2, ?_⟩
      have HL3 := Lib.hid (pair_end HP HW hl1 ht1 hl2 ht2)
      clear hl1 ht1 hl2 ht2 HX1 HS HP HW HAP HRP
      refine HeldBy.take (i := 12) (v := .bool true) rfl (by kernel_rfl) (by kernel_rfl) (by kernel_rfl) (fun _ _ _ h => h) (by rfl) (fun _ _ => by first | (go_simp; done) | (go_simp; rfl)) (by first | (go_simp; rfl) | (go_simp; done)) HX2 ?_
      refine HeldBy.take (i := 13) rfl (by kernel_rfl) (by kernel_rfl) (by kernel_rfl) (fun _ _ _ h => h) (by rfl) (fun _ _ => by first | (go_simp; rfl) | (go_simp; done)) (by first | (go_simp; rfl) | (go_simp; done)) HX2 ?_
      refine wpAnyH_done (by kernel_rfl) ?_ _
      go_wp2
      go_ret
      rw [HDO.out]
      exact ⟨rfl, HL3.out⟩
    by_cases k3 : kd = 3
    · subst k3
      have HDO : Hid (doD 3 kp tn l s = (0, cleanS s)) := rfl
      have HAP := Lib.hid (clean_any B q og s _ HP.out.log)
      obtain ⟨s', hs⟩ : ∃ z, cleanS s = z := ⟨_, rfl⟩
      have HRP := Lib.hid (fun V h1 => rclean_any B p s V h1)
      rw [hs] at HAP HRP HDO
      clear hs
      go_wp2_with (go_at_call 25; refine HAP.out.mono ?_)
      rintro e W2 ⟨rfl, og2, hl2, ht2⟩
      have HRP2 := Lib.hid (HRP.out W2 (HP.out.doc.turn HP.out.log ht2))
      have HL2 := Lib.hid hl2
      have HT2 := Lib.hid ht2
      clear hl2 ht2 HAP HRP
      go_wp2_with (go_at_call 44; refine HRP2.out.mono ?_)
      rintro e W3 ⟨rfl, hl3, ht3⟩
      have HL3 := Lib.hid (pair_end HP.out HW.out HL2.out HT2.out hl3 ht3)
      clear hl3 ht3 HRP2
      go_wp2
      go_ret
      rw [HDO.out]
      exact ⟨rfl, HL3.out⟩
    have HDO : Hid (doD kd kp tn l s = (0, s)) := by show doD kd kp tn l s = _; unfold doD; rw [if_neg k0, if_neg k1, if_neg k2, if_neg k3]
    go_wp2
    go_ret
    rw [HDO.out]
    exact ⟨rfl, og, HP.out, HW.out⟩
end Go.Proofs.Ytfiahkomabllaaa.L
