/- Own work. -/
import Derived.Test.YtbgfccanbgpjiaaDINamed
namespace Go.Proofs.Ytbgfccanbgpjiaa.O.I
open Go Go.RowKit Go.Lib
attribute [local go_sem] Oper.semAt_some
set_option maxRecDepth 100000 in
set_option maxHeartbeats 2000000 in
theorem eql_call (a b : Cl) (w : World) : (binOp .eql 27 (encC a) (encC b)).run Try.prog w = .ok (.bool (decide (a = b))) w := by
  obtain ⟨c1, c2, c3, c4, c5, c6, c7⟩ := a
  obtain ⟨d1, d2, d3, d4, d5, d6, d7⟩ := b
  unfold encC cellsC
  dsimp only
  go_simp
  simp only [eqT]
  iterate 6 refine and_if ?_
  exact last_if
theorem exec_eqC {W : World} {p q : Cl} {v : Bool} {oi : Oper} {a : Act} {x y : Operand} {t : TypeId} (ho : oi.op = .binOp .eql 27 x y t) (hx : a.eval x = encC p) (hy : a.eval y = encC q) (hv : decide (p = q) = v) :
    (execOp a.eval oi).run Try.prog W = .ok (.value (.bool v)) W := by
  have hq : (eqGuard .eql 27 x y (encC p) (encC q)).run Try.prog W = .ok () W := run_eqGuard_agg W .eql 27 x y (cellsC p) (cellsC q) (by kernel_rfl)
  have h := eql_call p q W
  rw [hv] at h
  unfold execOp
  simp only [ho, hx, hy, Sem.run_bind, hq, Result.andThen_ok, h]
  rfl
theorem exec_eqS {W : World} {r s : ByteArray} {v : Bool} {oi : Oper} {a : Act} {x y : Operand} {t : TypeId} (ho : oi.op = .binOp .eql 9 x y t) (hx : a.eval x = .string r) (hy : a.eval y = .string s) (hv : decide (r = s) = v) :
    (execOp a.eval oi).run Try.prog W = .ok (.value (.bool v)) W := by
  subst hv
  rw [← eqB]
  unfold execOp
  simp only [ho, hx, hy]
  go_simp
theorem emp_iff (s : ByteArray) : s.toList = [] ↔ s = E0 := by
  rw [Lib.toList_data]
  constructor
  · intro h
    exact ba_ext h
  · intro h
    rw [h]
    rfl
def nm (s : ByteArray) : Bool := nameB s.data.toList
theorem name_is {s : ByteArray} {b : Bool} (h : nm s = b) (w : World) : Calls Try.prog 39 #[.string s] w fun e w' => e = .returned (.bool b) ∧ Below w.heap.size w w' := h ▸ name_any s w
theorem range_is {n : Int} {b : Bool} (h : inR n = b) (w : World) : Calls Try.prog 40 #[.int .i64 n] w fun e w' => e = .returned (.bool b) ∧ Below w.heap.size w w' :=
  (inRange_any n w).mono fun _ _ ⟨he, hw⟩ => ⟨h ▸ he, hw ▸ Below.refl _ _⟩
set_option maxRecDepth 100000 in
set_option maxHeartbeats 2000000 in
theorem has1_size (tg : ByteArray) (nu : Int) (zo no so : ByteArray) (w : World) : Calls Try.prog 42 #[encC ⟨1, tg, nu, 0, zo, no, so⟩] w fun e w' => e = .returned (.bool false) ∧ Below w.heap.size w w' := by
  rw [show encC ⟨1, tg, nu, 0, zo, no, so⟩ = .agg (cellsC ⟨1, tg, nu, 0, zo, no, so⟩) from rfl]
  go_enter Try.func42, Try.ntmps42
  go_upto_region 1 with (fail)
  refine wp_gen (fun V => BoxC V w.heap.size ⟨1, tg, nu, 0, zo, no, so⟩ ∧ Below w.heap.size w V) ⟨heap_alloc_new _ _, (Below.refl _ _).alloc (Nat.le_refl _) _⟩ ?_
  rintro V ⟨hc, hlw⟩
  have c0 := hc.c0
  have c3 := hc.c3
  have c4 := hc.c4
  have c5 := hc.c5
  have c6 := hc.c6
  have HC := Lib.hid hc
  have HW := Lib.hid hlw
  clear hc hlw
  go_wp2
  go_ret
  exact ⟨rfl, HW.out⟩
set_option maxRecDepth 100000 in
set_option maxHeartbeats 2000000 in
theorem has1_zone (tg : ByteArray) (nu si : Int) (zo no so : ByteArray) (w : World) (hs : ¬ si = 0) (hz : nm zo = false) : Calls Try.prog 42 #[encC ⟨1, tg, nu, si, zo, no, so⟩] w fun e w' => e = .returned (.bool false) ∧ Below w.heap.size w w' := by
  rw [show encC ⟨1, tg, nu, si, zo, no, so⟩ = .agg (cellsC ⟨1, tg, nu, si, zo, no, so⟩) from rfl]
  go_enter Try.func42, Try.ntmps42
  go_upto_region 1 with (fail)
  refine wp_gen (fun V => BoxC V w.heap.size ⟨1, tg, nu, si, zo, no, so⟩ ∧ Below w.heap.size w V) ⟨heap_alloc_new _ _, (Below.refl _ _).alloc (Nat.le_refl _) _⟩ ?_
  rintro V ⟨hc, hlw⟩
  have c0 := hc.c0
  have c3 := hc.c3
  have c4 := hc.c4
  have c5 := hc.c5
  have c6 := hc.c6
  have HC := Lib.hid hc
  have HW := Lib.hid hlw
  clear hc hlw
  go_wp2_with (fail)
  refine (name_is hz _).mono ?_
  rintro e W1 ⟨rfl, hb⟩
  replace HC := Lib.hid (HC.out.after hb)
  replace HW := Lib.hid (HW.out.trans (hb.mono HW.out.size))
  clear hb c0 c3 c4 c5 c6
  have c0 := HC.out.c0
  have c3 := HC.out.c3
  have c4 := HC.out.c4
  have c5 := HC.out.c5
  have c6 := HC.out.c6
  go_wp2
  go_ret
  exact ⟨rfl, HW.out⟩
set_option maxRecDepth 100000 in
set_option maxHeartbeats 2000000 in
theorem has1_none (tg : ByteArray) (nu si : Int) (zo no : ByteArray) (w : World) (hs : ¬ si = 0) (hz : nm zo = true) : Calls Try.prog 42 #[encC ⟨1, tg, nu, si, zo, no, E0⟩] w fun e w' => e = .returned (.bool true) ∧ Below w.heap.size w w' := by
  rw [show encC ⟨1, tg, nu, si, zo, no, E0⟩ = .agg (cellsC ⟨1, tg, nu, si, zo, no, E0⟩) from rfl]
  go_enter Try.func42, Try.ntmps42
  go_upto_region 1 with (fail)
  refine wp_gen (fun V => BoxC V w.heap.size ⟨1, tg, nu, si, zo, no, E0⟩ ∧ Below w.heap.size w V) ⟨heap_alloc_new _ _, (Below.refl _ _).alloc (Nat.le_refl _) _⟩ ?_
  rintro V ⟨hc, hlw⟩
  have c0 := hc.c0
  have c3 := hc.c3
  have c4 := hc.c4
  have c5 := hc.c5
  have c6 := hc.c6
  have HC := Lib.hid hc
  have HW := Lib.hid hlw
  clear hc hlw
  have hs2 : (si != 0) = true := by simp [hs]
  go_wp2_with (fail)
  refine (name_is hz _).mono ?_
  rintro e W1 ⟨rfl, hb⟩
  replace HC := Lib.hid (HC.out.after hb)
  replace HW := Lib.hid (HW.out.trans (hb.mono HW.out.size))
  clear hb c0 c3 c4 c5 c6
  have c0 := HC.out.c0
  have c3 := HC.out.c3
  have c4 := HC.out.c4
  have c5 := HC.out.c5
  have c6 := HC.out.c6
  go_wp2_with (refine wpList_got rfl (exec_eqS (v := true) rfl rfl rfl (by decide)) ?_)
  go_ret
  exact ⟨rfl, HW.out⟩
set_option maxRecDepth 100000 in
set_option maxHeartbeats 2000000 in
theorem has1_src (tg : ByteArray) (nu si : Int) (zo no so : ByteArray) (w : World) (hs : ¬ si = 0) (hz : nm zo = true) (h0 : ¬ so = E0) (b : Bool) (hn : nm so = b) : Calls Try.prog 42 #[encC ⟨1, tg, nu, si, zo, no, so⟩] w fun e w' => e = .returned (.bool b) ∧ Below w.heap.size w w' := by
  rw [show encC ⟨1, tg, nu, si, zo, no, so⟩ = .agg (cellsC ⟨1, tg, nu, si, zo, no, so⟩) from rfl]
  go_enter Try.func42, Try.ntmps42
  go_upto_region 1 with (fail)
  refine wp_gen (fun V => BoxC V w.heap.size ⟨1, tg, nu, si, zo, no, so⟩ ∧ Below w.heap.size w V) ⟨heap_alloc_new _ _, (Below.refl _ _).alloc (Nat.le_refl _) _⟩ ?_
  rintro V ⟨hc, hlw⟩
  have c0 := hc.c0
  have c3 := hc.c3
  have c4 := hc.c4
  have c5 := hc.c5
  have c6 := hc.c6
  have HC := Lib.hid hc
  have HW := Lib.hid hlw
  clear hc hlw
  have e1 : ¬ so.toList = [] := fun h => h0 ((emp_iff _).1 h)
  have e2 : (so.toList == []) = false := by simp [e1]
  have e3 : so.toList.isEmpty = false := by simp [e1]
  have hs2 : (si != 0) = true := by simp [hs]
  clear h0
  go_wp2_with (fail)
  refine (name_is hz _).mono ?_
  rintro e W1 ⟨rfl, hb⟩
  replace HC := Lib.hid (HC.out.after hb)
  replace HW := Lib.hid (HW.out.trans (hb.mono HW.out.size))
  clear hb c0 c3 c4 c5 c6
  have c0 := HC.out.c0
  have c3 := HC.out.c3
  have c4 := HC.out.c4
  have c5 := HC.out.c5
  have c6 := HC.out.c6
  go_wp2_with (fail)
  refine (name_is hn _).mono ?_
  rintro e W2 ⟨rfl, hb⟩
  replace HC := Lib.hid (HC.out.after hb)
  replace HW := Lib.hid (HW.out.trans (hb.mono HW.out.size))
  clear hb c0 c3 c4 c5 c6
  have c0 := HC.out.c0
  have c3 := HC.out.c3
  have c4 := HC.out.c4
  have c5 := HC.out.c5
  have c6 := HC.out.c6
  go_wp2
  go_ret
  exact ⟨rfl, HW.out⟩
set_option maxRecDepth 100000 in
set_option maxHeartbeats 2000000 in
theorem has2 (tg : ByteArray) (nu si : Int) (zo no so : ByteArray) (w : World) : Calls Try.prog 42 #[encC ⟨2, tg, nu, si, zo, no, so⟩] w fun e w' => e = .returned (.bool true) ∧ Below w.heap.size w w' := by
  rw [show encC ⟨2, tg, nu, si, zo, no, so⟩ = .agg (cellsC ⟨2, tg, nu, si, zo, no, so⟩) from rfl]
  go_enter Try.func42, Try.ntmps42
  go_upto_region 1 with (fail)
  refine wp_gen (fun V => BoxC V w.heap.size ⟨2, tg, nu, si, zo, no, so⟩ ∧ Below w.heap.size w V) ⟨heap_alloc_new _ _, (Below.refl _ _).alloc (Nat.le_refl _) _⟩ ?_
  rintro V ⟨hc, hlw⟩
  have c0 := hc.c0
  have c3 := hc.c3
  have c4 := hc.c4
  have c5 := hc.c5
  have c6 := hc.c6
  have HC := Lib.hid hc
  have HW := Lib.hid hlw
  clear hc hlw
  go_wp2
  go_ret
  exact ⟨rfl, HW.out⟩
set_option maxRecDepth 100000 in
set_option maxHeartbeats 2000000 in
theorem has7 (tg : ByteArray) (nu si : Int) (zo no so : ByteArray) (w : World) : Calls Try.prog 42 #[encC ⟨7, tg, nu, si, zo, no, so⟩] w fun e w' => e = .returned (.bool true) ∧ Below w.heap.size w w' := by
  rw [show encC ⟨7, tg, nu, si, zo, no, so⟩ = .agg (cellsC ⟨7, tg, nu, si, zo, no, so⟩) from rfl]
  go_enter Try.func42, Try.ntmps42
  go_upto_region 1 with (fail)
  refine wp_gen (fun V => BoxC V w.heap.size ⟨7, tg, nu, si, zo, no, so⟩ ∧ Below w.heap.size w V) ⟨heap_alloc_new _ _, (Below.refl _ _).alloc (Nat.le_refl _) _⟩ ?_
  rintro V ⟨hc, hlw⟩
  have c0 := hc.c0
  have c3 := hc.c3
  have c4 := hc.c4
  have c5 := hc.c5
  have c6 := hc.c6
  have HC := Lib.hid hc
  have HW := Lib.hid hlw
  clear hc hlw
  go_wp2
  go_ret
  exact ⟨rfl, HW.out⟩
set_option maxRecDepth 100000 in
set_option maxHeartbeats 2000000 in
theorem has3 (tg : ByteArray) (nu si : Int) (zo no so : ByteArray) (w : World) (b : Bool) (hn : nm no = b) : Calls Try.prog 42 #[encC ⟨3, tg, nu, si, zo, no, so⟩] w fun e w' => e = .returned (.bool b) ∧ Below w.heap.size w w' := by
  rw [show encC ⟨3, tg, nu, si, zo, no, so⟩ = .agg (cellsC ⟨3, tg, nu, si, zo, no, so⟩) from rfl]
  go_enter Try.func42, Try.ntmps42
  go_upto_region 1 with (fail)
  refine wp_gen (fun V => BoxC V w.heap.size ⟨3, tg, nu, si, zo, no, so⟩ ∧ Below w.heap.size w V) ⟨heap_alloc_new _ _, (Below.refl _ _).alloc (Nat.le_refl _) _⟩ ?_
  rintro V ⟨hc, hlw⟩
  have c0 := hc.c0
  have c3 := hc.c3
  have c4 := hc.c4
  have c5 := hc.c5
  have c6 := hc.c6
  have HC := Lib.hid hc
  have HW := Lib.hid hlw
  clear hc hlw
  go_wp2_with (fail)
  refine (name_is hn _).mono ?_
  rintro e W1 ⟨rfl, hb⟩
  replace HC := Lib.hid (HC.out.after hb)
  replace HW := Lib.hid (HW.out.trans (hb.mono HW.out.size))
  clear hb c0 c3 c4 c5 c6
  have c0 := HC.out.c0
  have c3 := HC.out.c3
  have c4 := HC.out.c4
  have c5 := HC.out.c5
  have c6 := HC.out.c6
  go_wp2
  go_ret
  exact ⟨rfl, HW.out⟩
set_option maxRecDepth 100000 in
set_option maxHeartbeats 2000000 in
theorem has4 (tg : ByteArray) (nu si : Int) (zo no so : ByteArray) (w : World) (b : Bool) (hn : nm no = b) : Calls Try.prog 42 #[encC ⟨4, tg, nu, si, zo, no, so⟩] w fun e w' => e = .returned (.bool b) ∧ Below w.heap.size w w' := by
  rw [show encC ⟨4, tg, nu, si, zo, no, so⟩ = .agg (cellsC ⟨4, tg, nu, si, zo, no, so⟩) from rfl]
  go_enter Try.func42, Try.ntmps42
  go_upto_region 1 with (fail)
  refine wp_gen (fun V => BoxC V w.heap.size ⟨4, tg, nu, si, zo, no, so⟩ ∧ Below w.heap.size w V) ⟨heap_alloc_new _ _, (Below.refl _ _).alloc (Nat.le_refl _) _⟩ ?_
  rintro V ⟨hc, hlw⟩
  have c0 := hc.c0
  have c3 := hc.c3
  have c4 := hc.c4
  have c5 := hc.c5
  have c6 := hc.c6
  have HC := Lib.hid hc
  have HW := Lib.hid hlw
  clear hc hlw
  go_wp2_with (fail)
  refine (name_is hn _).mono ?_
  rintro e W1 ⟨rfl, hb⟩
  replace HC := Lib.hid (HC.out.after hb)
  replace HW := Lib.hid (HW.out.trans (hb.mono HW.out.size))
  clear hb c0 c3 c4 c5 c6
  have c0 := HC.out.c0
  have c3 := HC.out.c3
  have c4 := HC.out.c4
  have c5 := HC.out.c5
  have c6 := HC.out.c6
  go_wp2
  go_ret
  exact ⟨rfl, HW.out⟩
set_option maxRecDepth 100000 in
set_option maxHeartbeats 2000000 in
theorem has5 (tg : ByteArray) (nu si : Int) (zo no so : ByteArray) (w : World) : Calls Try.prog 42 #[encC ⟨5, tg, nu, si, zo, no, so⟩] w fun e w' => e = .returned (.bool (!decide (si = 0))) ∧ Below w.heap.size w w' := by
  rw [show encC ⟨5, tg, nu, si, zo, no, so⟩ = .agg (cellsC ⟨5, tg, nu, si, zo, no, so⟩) from rfl]
  go_enter Try.func42, Try.ntmps42
  go_upto_region 1 with (fail)
  refine wp_gen (fun V => BoxC V w.heap.size ⟨5, tg, nu, si, zo, no, so⟩ ∧ Below w.heap.size w V) ⟨heap_alloc_new _ _, (Below.refl _ _).alloc (Nat.le_refl _) _⟩ ?_
  rintro V ⟨hc, hlw⟩
  have c0 := hc.c0
  have c3 := hc.c3
  have c4 := hc.c4
  have c5 := hc.c5
  have c6 := hc.c6
  have HC := Lib.hid hc
  have HW := Lib.hid hlw
  clear hc hlw
  go_wp2
  go_ret
  refine ⟨?_, HW.out⟩
  first | rfl | simp
set_option maxRecDepth 100000 in
set_option maxHeartbeats 2000000 in
theorem has6 (tg : ByteArray) (nu si : Int) (zo no so : ByteArray) (w : World) (b : Bool) (hn : nm so = b) : Calls Try.prog 42 #[encC ⟨6, tg, nu, si, zo, no, so⟩] w fun e w' => e = .returned (.bool b) ∧ Below w.heap.size w w' := by
  rw [show encC ⟨6, tg, nu, si, zo, no, so⟩ = .agg (cellsC ⟨6, tg, nu, si, zo, no, so⟩) from rfl]
  go_enter Try.func42, Try.ntmps42
  go_upto_region 1 with (fail)
  refine wp_gen (fun V => BoxC V w.heap.size ⟨6, tg, nu, si, zo, no, so⟩ ∧ Below w.heap.size w V) ⟨heap_alloc_new _ _, (Below.refl _ _).alloc (Nat.le_refl _) _⟩ ?_
  rintro V ⟨hc, hlw⟩
  have c0 := hc.c0
  have c3 := hc.c3
  have c4 := hc.c4
  have c5 := hc.c5
  have c6 := hc.c6
  have HC := Lib.hid hc
  have HW := Lib.hid hlw
  clear hc hlw
  go_wp2_with (fail)
  refine (name_is hn _).mono ?_
  rintro e W1 ⟨rfl, hb⟩
  replace HC := Lib.hid (HC.out.after hb)
  replace HW := Lib.hid (HW.out.trans (hb.mono HW.out.size))
  clear hb c0 c3 c4 c5 c6
  have c0 := HC.out.c0
  have c3 := HC.out.c3
  have c4 := HC.out.c4
  have c5 := HC.out.c5
  have c6 := HC.out.c6
  go_wp2
  go_ret
  exact ⟨rfl, HW.out⟩
set_option maxRecDepth 100000 in
set_option maxHeartbeats 2000000 in
theorem has_else (verb : Int) (tg : ByteArray) (nu si : Int) (zo no so : ByteArray) (w : World) (h1 : ¬ verb = 1) (h2 : ¬ verb = 2) (h3 : ¬ verb = 3) (h4 : ¬ verb = 4) (h5 : ¬ verb = 5) (h6 : ¬ verb = 6) (h7 : ¬ verb = 7) : Calls Try.prog 42 #[encC ⟨verb, tg, nu, si, zo, no, so⟩] w fun e w' => e = .returned (.bool false) ∧ Below w.heap.size w w' := by
  rw [show encC ⟨verb, tg, nu, si, zo, no, so⟩ = .agg (cellsC ⟨verb, tg, nu, si, zo, no, so⟩) from rfl]
  go_enter Try.func42, Try.ntmps42
  go_upto_region 1 with (fail)
  refine wp_gen (fun V => BoxC V w.heap.size ⟨verb, tg, nu, si, zo, no, so⟩ ∧ Below w.heap.size w V) ⟨heap_alloc_new _ _, (Below.refl _ _).alloc (Nat.le_refl _) _⟩ ?_
  rintro V ⟨hc, hlw⟩
  have c0 := hc.c0
  have c3 := hc.c3
  have c4 := hc.c4
  have c5 := hc.c5
  have c6 := hc.c6
  have HC := Lib.hid hc
  have HW := Lib.hid hlw
  clear hc hlw
  go_wp2
  go_ret
  exact ⟨rfl, HW.out⟩
def hasB (c : Cl) : Bool := if c.verb = 1 then !decide (c.size = 0) && nm c.zone && (decide (c.source = E0) || nm c.source) else if c.verb = 2 ∨ c.verb = 7 then true else if c.verb = 3 ∨ c.verb = 4 then nm c.node
  else if c.verb = 5 then !decide (c.size = 0) else if c.verb = 6 then nm c.source else false
theorem has_any (c : Cl) (w : World) : Calls Try.prog 42 #[encC c] w fun e w' => e = .returned (.bool (hasB c)) ∧ Below w.heap.size w w' := by
  obtain ⟨verb, tg, nu, si, zo, no, so⟩ := c
  by_cases h1 : verb = 1
  · subst h1
    by_cases hs : si = 0
    · subst hs
      exact has1_size tg nu zo no so w
    · cases hz : nm zo with
      | false =>
        rw [show hasB ⟨1, tg, nu, si, zo, no, so⟩ = false by simp [hasB, hz]]
        exact has1_zone tg nu si zo no so w hs hz
      | true =>
        by_cases h0 : so = E0
        · subst h0
          rw [show hasB ⟨1, tg, nu, si, zo, no, E0⟩ = true by simp [hasB, hz, hs]]
          exact has1_none tg nu si zo no w hs hz
        · rw [show hasB ⟨1, tg, nu, si, zo, no, so⟩ = nm so by simp [hasB, hz, hs, h0]]
          exact has1_src tg nu si zo no so w hs hz h0 _ rfl
  by_cases h2 : verb = 2
  · subst h2
    exact has2 tg nu si zo no so w
  by_cases h3 : verb = 3
  · subst h3
    exact has3 tg nu si zo no so w _ rfl
  by_cases h4 : verb = 4
  · subst h4
    exact has4 tg nu si zo no so w _ rfl
  by_cases h5 : verb = 5
  · subst h5
    exact has5 tg nu si zo no so w
  by_cases h6 : verb = 6
  · subst h6
    exact has6 tg nu si zo no so w _ rfl
  by_cases h7 : verb = 7
  · subst h7
    exact has7 tg nu si zo no so w
  rw [show hasB ⟨verb, tg, nu, si, zo, no, so⟩ = false by simp [hasB, h1, h2, h3, h4, h5, h6, h7]]
  exact has_else verb tg nu si zo no so w h1 h2 h3 h4 h5 h6 h7
theorem has_is {c : Cl} {b : Bool} (h : hasB c = b) (w : World) : Calls Try.prog 42 #[encC c] w fun e w' => e = .returned (.bool b) ∧ Below w.heap.size w w' := h ▸ has_any c w
theorem exec_neU {W : World} {r s : Int} {v : Bool} {oi : Oper} {a : Act} {x y : Operand} {t : TypeId} (ho : oi.op = .binOp .neq 25 x y t) (hx : a.eval x = .int .u64 r) (hy : a.eval y = .int .u64 s) (hv : (!decide (r = s)) = v) :
    (execOp a.eval oi).run Try.prog W = .ok (.value (.bool v)) W := by
  subst hv
  unfold execOp
  simp only [ho, hx, hy]
  go_simp
  try rfl
set_option maxRecDepth 100000 in
set_option maxHeartbeats 4000000 in
theorem right_name (c : Cl) (w : World) (ht : nm c.target = false) : Calls Try.prog 17 #[encC c] w fun e w' => e = .returned (.bool false) ∧ Below w.heap.size w w' := by
  rw [show encC c = .agg (cellsC c) from rfl]
  go_enter Try.func17, Try.ntmps17
  go_upto_region 1 with (fail)
  refine wp_gen (fun V => BoxC V w.heap.size c ∧ Below w.heap.size w V) ⟨heap_alloc_new _ _, (Below.refl _ _).alloc (Nat.le_refl _) _⟩ ?_
  rintro V ⟨hc, hlw⟩
  have HC := Lib.hid hc
  have HW := Lib.hid hlw
  clear hc hlw
  refine wp_region_held_drew (S := fun V => BoxC V w.heap.size c ∧ Below w.heap.size w V) (by kernel_rfl) ⟨HC.out, HW.out.drew⟩ (fun _ => ?_)
  refine HeldBy.gen (fun V => BoxC V w.heap.size c ∧ Below w.heap.size w V) ⟨HC.out, HW.out.drew⟩ ?_
  clear HC HW
  rintro U0 HS
  refine HeldBy.tn (i := 0) rfl HS ?_
  refine HeldBy.tk (i := 1) rfl (fun V hV => by have hc := hV.1.c1; first | (go_simp; rfl) | (go_simp; done)) HS ?_
  refine HeldBy.call (i := 2) (v := .bool false) rfl (by kernel_rfl) (by rfl) (by go_simp; exact ⟨rfl, rfl⟩) (by go_simp; rfl) ?_
  refine (name_is ht _).mono ?_
  rintro e U1 ⟨rfl, hb⟩
  replace HS : BoxC U1 w.heap.size c ∧ Below w.heap.size w U1 := ⟨HS.1.after hb, HS.2.trans (hb.mono HS.2.size)⟩
  refine ⟨rfl, HS, ?_⟩
  clear hb
  refine HeldBy.tn (i := 3) rfl HS ?_
  refine HeldBy.skip (i := 4) rfl (by kernel_rfl) (by kernel_rfl) (by kernel_rfl) (fun _ _ _ h => h) (by rfl) (by go_simp; rfl) HS ?_
  refine HeldBy.skip (i := 5) rfl (by kernel_rfl) (by kernel_rfl) (by kernel_rfl) (fun _ _ _ h => h) (by rfl) (by go_simp; rfl) HS ?_
  refine HeldBy.skip (i := 6) rfl (by kernel_rfl) (by kernel_rfl) (by kernel_rfl) (fun _ _ _ h => h) (by rfl) (by go_simp; rfl) HS ?_
  refine HeldBy.tn (i := 7) rfl HS ?_
  refine HeldBy.tn (i := 8) rfl HS ?_
  refine HeldBy.skip (i := 9) rfl (by kernel_rfl) (by kernel_rfl) (by kernel_rfl) (fun _ _ _ h => h) (by rfl) (by go_simp; rfl) HS ?_
  refine HeldBy.skip (i := 10) rfl (by kernel_rfl) (by kernel_rfl) (by kernel_rfl) (fun _ _ _ h => h) (by rfl) (by go_simp; rfl) HS ?_
  refine HeldBy.skip (i := 11) rfl (by kernel_rfl) (by kernel_rfl) (by kernel_rfl) (fun _ _ _ h => h) (by rfl) (by go_simp; rfl) HS ?_
  refine HeldBy.tn (i := 12) rfl HS ?_
  refine HeldBy.tn (i := 13) rfl HS ?_
  refine HeldBy.skip (i := 14) rfl (by kernel_rfl) (by kernel_rfl) (by kernel_rfl) (fun _ _ _ h => h) (by rfl) (by go_simp; rfl) HS ?_
  refine HeldBy.skip (i := 15) rfl (by kernel_rfl) (by kernel_rfl) (by kernel_rfl) (fun _ _ _ h => h) (by rfl) (by go_simp; rfl) HS ?_
  refine HeldBy.skip (i := 16) rfl (by kernel_rfl) (by kernel_rfl) (by kernel_rfl) (fun _ _ _ h => h) (by rfl) (by go_simp; rfl) HS ?_
  refine HeldBy.skip (i := 17) rfl (by kernel_rfl) (by kernel_rfl) (by kernel_rfl) (fun _ _ _ h => h) (by rfl) (by go_simp; rfl) HS ?_
  refine HeldBy.tn (i := 18) rfl HS ?_
  refine HeldBy.tn (i := 19) rfl HS ?_
  refine HeldBy.skip (i := 20) rfl (by kernel_rfl) (by kernel_rfl) (by kernel_rfl) (fun _ _ _ h => h) (by rfl) (by go_simp; rfl) HS ?_
  refine HeldBy.skip (i := 21) rfl (by kernel_rfl) (by kernel_rfl) (by kernel_rfl) (fun _ _ _ h => h) (by rfl) (by go_simp; rfl) HS ?_
  refine HeldBy.tn (i := 22) rfl HS ?_
  refine HeldBy.tn (i := 23) rfl HS ?_
  refine wpAnyH_done (by kernel_rfl) ?_ _
  have HX := Lib.hid HS.2
  clear HS
  go_wp2
  go_ret
  exact ⟨rfl, HX.out⟩
set_option maxRecDepth 100000 in
set_option maxHeartbeats 4000000 in
theorem right_num (c : Cl) (w : World) (ht : nm c.target = true) (hn : (!decide (c.num = 0)) = false) : Calls Try.prog 17 #[encC c] w fun e w' => e = .returned (.bool false) ∧ Below w.heap.size w w' := by
  rw [show encC c = .agg (cellsC c) from rfl]
  go_enter Try.func17, Try.ntmps17
  go_upto_region 1 with (fail)
  refine wp_gen (fun V => BoxC V w.heap.size c ∧ Below w.heap.size w V) ⟨heap_alloc_new _ _, (Below.refl _ _).alloc (Nat.le_refl _) _⟩ ?_
  rintro V ⟨hc, hlw⟩
  have HC := Lib.hid hc
  have HW := Lib.hid hlw
  clear hc hlw
  refine wp_region_held_drew (S := fun V => BoxC V w.heap.size c ∧ Below w.heap.size w V) (by kernel_rfl) ⟨HC.out, HW.out.drew⟩ (fun _ => ?_)
  refine HeldBy.gen (fun V => BoxC V w.heap.size c ∧ Below w.heap.size w V) ⟨HC.out, HW.out.drew⟩ ?_
  clear HC HW
  rintro U0 HS
  refine HeldBy.tn (i := 0) rfl HS ?_
  refine HeldBy.tk (i := 1) rfl (fun V hV => by have hc := hV.1.c1; first | (go_simp; rfl) | (go_simp; done)) HS ?_
  refine HeldBy.call (i := 2) (v := .bool true) rfl (by kernel_rfl) (by rfl) (by go_simp; exact ⟨rfl, rfl⟩) (by go_simp; rfl) ?_
  refine (name_is ht _).mono ?_
  rintro e U1 ⟨rfl, hb⟩
  replace HS : BoxC U1 w.heap.size c ∧ Below w.heap.size w U1 := ⟨HS.1.after hb, HS.2.trans (hb.mono HS.2.size)⟩
  refine ⟨rfl, HS, ?_⟩
  clear hb
  refine HeldBy.tn (i := 3) rfl HS ?_
  refine HeldBy.tn (i := 4) rfl HS ?_
  refine HeldBy.tk (i := 5) rfl (fun V hV => by have hc := hV.1.c2; first | (go_simp; rfl) | (go_simp; done)) HS ?_
  refine HeldBy.tk (i := 6) (v := .bool false) rfl (fun V hV => exec_neU rfl rfl rfl hn) HS ?_
  refine HeldBy.tn (i := 7) rfl HS ?_
  refine HeldBy.tn (i := 8) rfl HS ?_
  refine HeldBy.skip (i := 9) rfl (by kernel_rfl) (by kernel_rfl) (by kernel_rfl) (fun _ _ _ h => h) (by rfl) (by go_simp; rfl) HS ?_
  refine HeldBy.skip (i := 10) rfl (by kernel_rfl) (by kernel_rfl) (by kernel_rfl) (fun _ _ _ h => h) (by rfl) (by go_simp; rfl) HS ?_
  refine HeldBy.skip (i := 11) rfl (by kernel_rfl) (by kernel_rfl) (by kernel_rfl) (fun _ _ _ h => h) (by rfl) (by go_simp; rfl) HS ?_
  refine HeldBy.tn (i := 12) rfl HS ?_
  refine HeldBy.tn (i := 13) rfl HS ?_
  refine HeldBy.skip (i := 14) rfl (by kernel_rfl) (by kernel_rfl) (by kernel_rfl) (fun _ _ _ h => h) (by rfl) (by go_simp; rfl) HS ?_
  refine HeldBy.skip (i := 15) rfl (by kernel_rfl) (by kernel_rfl) (by kernel_rfl) (fun _ _ _ h => h) (by rfl) (by go_simp; rfl) HS ?_
  refine HeldBy.skip (i := 16) rfl (by kernel_rfl) (by kernel_rfl) (by kernel_rfl) (fun _ _ _ h => h) (by rfl) (by go_simp; rfl) HS ?_
  refine HeldBy.skip (i := 17) rfl (by kernel_rfl) (by kernel_rfl) (by kernel_rfl) (fun _ _ _ h => h) (by rfl) (by go_simp; rfl) HS ?_
  refine HeldBy.tn (i := 18) rfl HS ?_
  refine HeldBy.tn (i := 19) rfl HS ?_
  refine HeldBy.skip (i := 20) rfl (by kernel_rfl) (by kernel_rfl) (by kernel_rfl) (fun _ _ _ h => h) (by rfl) (by go_simp; rfl) HS ?_
  refine HeldBy.skip (i := 21) rfl (by kernel_rfl) (by kernel_rfl) (by kernel_rfl) (fun _ _ _ h => h) (by rfl) (by go_simp; rfl) HS ?_
  refine HeldBy.tn (i := 22) rfl HS ?_
  refine HeldBy.tn (i := 23) rfl HS ?_
  refine wpAnyH_done (by kernel_rfl) ?_ _
  have HX := Lib.hid HS.2
  clear HS
  go_wp2
  go_ret
  exact ⟨rfl, HX.out⟩
set_option maxRecDepth 100000 in
set_option maxHeartbeats 4000000 in
theorem right_range (c : Cl) (w : World) (ht : nm c.target = true) (hn : (!decide (c.num = 0)) = true) (hr : inR c.size = false) : Calls Try.prog 17 #[encC c] w fun e w' => e = .returned (.bool false) ∧ Below w.heap.size w w' := by
  rw [show encC c = .agg (cellsC c) from rfl]
  go_enter Try.func17, Try.ntmps17
  go_upto_region 1 with (fail)
  refine wp_gen (fun V => BoxC V w.heap.size c ∧ Below w.heap.size w V) ⟨heap_alloc_new _ _, (Below.refl _ _).alloc (Nat.le_refl _) _⟩ ?_
  rintro V ⟨hc, hlw⟩
  have HC := Lib.hid hc
  have HW := Lib.hid hlw
  clear hc hlw
  refine wp_region_held_drew (S := fun V => BoxC V w.heap.size c ∧ Below w.heap.size w V) (by kernel_rfl) ⟨HC.out, HW.out.drew⟩ (fun _ => ?_)
  refine HeldBy.gen (fun V => BoxC V w.heap.size c ∧ Below w.heap.size w V) ⟨HC.out, HW.out.drew⟩ ?_
  clear HC HW
  rintro U0 HS
  refine HeldBy.tn (i := 0) rfl HS ?_
  refine HeldBy.tk (i := 1) rfl (fun V hV => by have hc := hV.1.c1; first | (go_simp; rfl) | (go_simp; done)) HS ?_
  refine HeldBy.call (i := 2) (v := .bool true) rfl (by kernel_rfl) (by rfl) (by go_simp; exact ⟨rfl, rfl⟩) (by go_simp; rfl) ?_
  refine (name_is ht _).mono ?_
  rintro e U1 ⟨rfl, hb⟩
  replace HS : BoxC U1 w.heap.size c ∧ Below w.heap.size w U1 := ⟨HS.1.after hb, HS.2.trans (hb.mono HS.2.size)⟩
  refine ⟨rfl, HS, ?_⟩
  clear hb
  refine HeldBy.tn (i := 3) rfl HS ?_
  refine HeldBy.tn (i := 4) rfl HS ?_
  refine HeldBy.tk (i := 5) rfl (fun V hV => by have hc := hV.1.c2; first | (go_simp; rfl) | (go_simp; done)) HS ?_
  refine HeldBy.tk (i := 6) (v := .bool true) rfl (fun V hV => exec_neU rfl rfl rfl hn) HS ?_
  refine HeldBy.tn (i := 7) rfl HS ?_
  refine HeldBy.tn (i := 8) rfl HS ?_
  refine HeldBy.tn (i := 9) rfl HS ?_
  refine HeldBy.tk (i := 10) rfl (fun V hV => by have hc := hV.1.c3; first | (go_simp; rfl) | (go_simp; done)) HS ?_
  refine HeldBy.call (i := 11) (v := .bool false) rfl (by kernel_rfl) (by rfl) (by go_simp; exact ⟨rfl, rfl⟩) (by go_simp; rfl) ?_
  refine (range_is hr _).mono ?_
  rintro e U2 ⟨rfl, hb⟩
  replace HS : BoxC U2 w.heap.size c ∧ Below w.heap.size w U2 := ⟨HS.1.after hb, HS.2.trans (hb.mono HS.2.size)⟩
  refine ⟨rfl, HS, ?_⟩
  clear hb
  refine HeldBy.tn (i := 12) rfl HS ?_
  refine HeldBy.tn (i := 13) rfl HS ?_
  refine HeldBy.skip (i := 14) rfl (by kernel_rfl) (by kernel_rfl) (by kernel_rfl) (fun _ _ _ h => h) (by rfl) (by go_simp; rfl) HS ?_
  refine HeldBy.skip (i := 15) rfl (by kernel_rfl) (by kernel_rfl) (by kernel_rfl) (fun _ _ _ h => h) (by rfl) (by go_simp; rfl) HS ?_
  refine HeldBy.skip (i := 16) rfl (by kernel_rfl) (by kernel_rfl) (by kernel_rfl) (fun _ _ _ h => h) (by rfl) (by go_simp; rfl) HS ?_
  refine HeldBy.skip (i := 17) rfl (by kernel_rfl) (by kernel_rfl) (by kernel_rfl) (fun _ _ _ h => h) (by rfl) (by go_simp; rfl) HS ?_
  refine HeldBy.tn (i := 18) rfl HS ?_
  refine HeldBy.tn (i := 19) rfl HS ?_
  refine HeldBy.skip (i := 20) rfl (by kernel_rfl) (by kernel_rfl) (by kernel_rfl) (fun _ _ _ h => h) (by rfl) (by go_simp; rfl) HS ?_
  refine HeldBy.skip (i := 21) rfl (by kernel_rfl) (by kernel_rfl) (by kernel_rfl) (fun _ _ _ h => h) (by rfl) (by go_simp; rfl) HS ?_
  refine HeldBy.tn (i := 22) rfl HS ?_
  refine HeldBy.tn (i := 23) rfl HS ?_
  refine wpAnyH_done (by kernel_rfl) ?_ _
  have HX := Lib.hid HS.2
  clear HS
  go_wp2
  go_ret
  exact ⟨rfl, HX.out⟩
set_option maxRecDepth 100000 in
set_option maxHeartbeats 4000000 in
theorem right_more (c : Cl) (w : World) (ht : nm c.target = true) (hn : (!decide (c.num = 0)) = true) (hr : inR c.size = true) (hd : decide (c = namedC c) = false) : Calls Try.prog 17 #[encC c] w fun e w' => e = .returned (.bool false) ∧ Below w.heap.size w w' := by
  rw [show encC c = .agg (cellsC c) from rfl]
  go_enter Try.func17, Try.ntmps17
  go_upto_region 1 with (fail)
  refine wp_gen (fun V => BoxC V w.heap.size c ∧ Below w.heap.size w V) ⟨heap_alloc_new _ _, (Below.refl _ _).alloc (Nat.le_refl _) _⟩ ?_
  rintro V ⟨hc, hlw⟩
  have HC := Lib.hid hc
  have HW := Lib.hid hlw
  clear hc hlw
  refine wp_region_held_drew (S := fun V => BoxC V w.heap.size c ∧ Below w.heap.size w V) (by kernel_rfl) ⟨HC.out, HW.out.drew⟩ (fun _ => ?_)
  refine HeldBy.gen (fun V => BoxC V w.heap.size c ∧ Below w.heap.size w V) ⟨HC.out, HW.out.drew⟩ ?_
  clear HC HW
  rintro U0 HS
  refine HeldBy.tn (i := 0) rfl HS ?_
  refine HeldBy.tk (i := 1) rfl (fun V hV => by have hc := hV.1.c1; first | (go_simp; rfl) | (go_simp; done)) HS ?_
  refine HeldBy.call (i := 2) (v := .bool true) rfl (by kernel_rfl) (by rfl) (by go_simp; exact ⟨rfl, rfl⟩) (by go_simp; rfl) ?_
  refine (name_is ht _).mono ?_
  rintro e U1 ⟨rfl, hb⟩
  replace HS : BoxC U1 w.heap.size c ∧ Below w.heap.size w U1 := ⟨HS.1.after hb, HS.2.trans (hb.mono HS.2.size)⟩
  refine ⟨rfl, HS, ?_⟩
  clear hb
  refine HeldBy.tn (i := 3) rfl HS ?_
  refine HeldBy.tn (i := 4) rfl HS ?_
  refine HeldBy.tk (i := 5) rfl (fun V hV => by have hc := hV.1.c2; first | (go_simp; rfl) | (go_simp; done)) HS ?_
  refine HeldBy.tk (i := 6) (v := .bool true) rfl (fun V hV => exec_neU rfl rfl rfl hn) HS ?_
  refine HeldBy.tn (i := 7) rfl HS ?_
  refine HeldBy.tn (i := 8) rfl HS ?_
  refine HeldBy.tn (i := 9) rfl HS ?_
  refine HeldBy.tk (i := 10) rfl (fun V hV => by have hc := hV.1.c3; first | (go_simp; rfl) | (go_simp; done)) HS ?_
  refine HeldBy.call (i := 11) (v := .bool true) rfl (by kernel_rfl) (by rfl) (by go_simp; exact ⟨rfl, rfl⟩) (by go_simp; rfl) ?_
  refine (range_is hr _).mono ?_
  rintro e U2 ⟨rfl, hb⟩
  replace HS : BoxC U2 w.heap.size c ∧ Below w.heap.size w U2 := ⟨HS.1.after hb, HS.2.trans (hb.mono HS.2.size)⟩
  refine ⟨rfl, HS, ?_⟩
  clear hb
  refine HeldBy.tn (i := 12) rfl HS ?_
  refine HeldBy.tn (i := 13) rfl HS ?_
  refine HeldBy.tk (i := 14) (v := encC c) rfl (fun V hV => loadC hV.1 rfl rfl) HS ?_
  refine HeldBy.tk (i := 15) (v := encC c) rfl (fun V hV => loadC hV.1 rfl rfl) HS ?_
  refine HeldBy.call (i := 16) (v := encC (namedC c)) rfl (by kernel_rfl) (by rfl) (by go_simp; exact ⟨rfl, rfl⟩) (by go_simp; rfl) ?_
  refine (named_any c _).mono ?_
  rintro e U3 ⟨rfl, hb⟩
  replace HS : BoxC U3 w.heap.size c ∧ Below w.heap.size w U3 := ⟨HS.1.after hb, HS.2.trans (hb.mono HS.2.size)⟩
  refine ⟨rfl, HS, ?_⟩
  clear hb
  refine HeldBy.tk (i := 17) (v := .bool false) rfl (fun V hV => exec_eqC rfl rfl rfl hd) HS ?_
  refine HeldBy.tn (i := 18) rfl HS ?_
  refine HeldBy.tn (i := 19) rfl HS ?_
  refine HeldBy.skip (i := 20) rfl (by kernel_rfl) (by kernel_rfl) (by kernel_rfl) (fun _ _ _ h => h) (by rfl) (by go_simp; rfl) HS ?_
  refine HeldBy.skip (i := 21) rfl (by kernel_rfl) (by kernel_rfl) (by kernel_rfl) (fun _ _ _ h => h) (by rfl) (by go_simp; rfl) HS ?_
  refine HeldBy.tn (i := 22) rfl HS ?_
  refine HeldBy.tn (i := 23) rfl HS ?_
  refine wpAnyH_done (by kernel_rfl) ?_ _
  have HX := Lib.hid HS.2
  clear HS
  go_wp2
  go_ret
  exact ⟨rfl, HX.out⟩
set_option maxRecDepth 100000 in
set_option maxHeartbeats 4000000 in
theorem right_has (c : Cl) (w : World) (ht : nm c.target = true) (hn : (!decide (c.num = 0)) = true) (hr : inR c.size = true) (hd : decide (c = namedC c) = true) (b : Bool) (hh : hasB c = b) : Calls Try.prog 17 #[encC c] w fun e w' => e = .returned (.bool b) ∧ Below w.heap.size w w' := by
  rw [show encC c = .agg (cellsC c) from rfl]
  go_enter Try.func17, Try.ntmps17
  go_upto_region 1 with (fail)
  refine wp_gen (fun V => BoxC V w.heap.size c ∧ Below w.heap.size w V) ⟨heap_alloc_new _ _, (Below.refl _ _).alloc (Nat.le_refl _) _⟩ ?_
  rintro V ⟨hc, hlw⟩
  have HC := Lib.hid hc
  have HW := Lib.hid hlw
  clear hc hlw
  refine wp_region_held_drew (S := fun V => BoxC V w.heap.size c ∧ Below w.heap.size w V) (by kernel_rfl) ⟨HC.out, HW.out.drew⟩ (fun _ => ?_)
  refine HeldBy.gen (fun V => BoxC V w.heap.size c ∧ Below w.heap.size w V) ⟨HC.out, HW.out.drew⟩ ?_
  clear HC HW
  rintro U0 HS
  refine HeldBy.tn (i := 0) rfl HS ?_
  refine HeldBy.tk (i := 1) rfl (fun V hV => by have hc := hV.1.c1; first | (go_simp; rfl) | (go_simp; done)) HS ?_
  refine HeldBy.call (i := 2) (v := .bool true) rfl (by kernel_rfl) (by rfl) (by go_simp; exact ⟨rfl, rfl⟩) (by go_simp; rfl) ?_
  refine (name_is ht _).mono ?_
  rintro e U1 ⟨rfl, hb⟩
  replace HS : BoxC U1 w.heap.size c ∧ Below w.heap.size w U1 := ⟨HS.1.after hb, HS.2.trans (hb.mono HS.2.size)⟩
  refine ⟨rfl, HS, ?_⟩
  clear hb
  refine HeldBy.tn (i := 3) rfl HS ?_
  refine HeldBy.tn (i := 4) rfl HS ?_
  refine HeldBy.tk (i := 5) rfl (fun V hV => by have hc := hV.1.c2; first | (go_simp; rfl) | (go_simp; done)) HS ?_
  refine HeldBy.tk (i := 6) (v := .bool true) rfl (fun V hV => exec_neU rfl rfl rfl hn) HS ?_
  refine HeldBy.tn (i := 7) rfl HS ?_
  refine HeldBy.tn (i := 8) rfl HS ?_
  refine HeldBy.tn (i := 9) rfl HS ?_
  refine HeldBy.tk (i := 10) rfl (fun V hV => by have hc := hV.1.c3; first | (go_simp; rfl) | (go_simp; done)) HS ?_
  refine HeldBy.call (i := 11) (v := .bool true) rfl (by kernel_rfl) (by rfl) (by go_simp; exact ⟨rfl, rfl⟩) (by go_simp; rfl) ?_
  refine (range_is hr _).mono ?_
  rintro e U2 ⟨rfl, hb⟩
  replace HS : BoxC U2 w.heap.size c ∧ Below w.heap.size w U2 := ⟨HS.1.after hb, HS.2.trans (hb.mono HS.2.size)⟩
  refine ⟨rfl, HS, ?_⟩
  clear hb
  refine HeldBy.tn (i := 12) rfl HS ?_
  refine HeldBy.tn (i := 13) rfl HS ?_
  refine HeldBy.tk (i := 14) (v := encC c) rfl (fun V hV => loadC hV.1 rfl rfl) HS ?_
  refine HeldBy.tk (i := 15) (v := encC c) rfl (fun V hV => loadC hV.1 rfl rfl) HS ?_
  refine HeldBy.call (i := 16) (v := encC (namedC c)) rfl (by kernel_rfl) (by rfl) (by go_simp; exact ⟨rfl, rfl⟩) (by go_simp; rfl) ?_
  refine (named_any c _).mono ?_
  rintro e U3 ⟨rfl, hb⟩
  replace HS : BoxC U3 w.heap.size c ∧ Below w.heap.size w U3 := ⟨HS.1.after hb, HS.2.trans (hb.mono HS.2.size)⟩
  refine ⟨rfl, HS, ?_⟩
  clear hb
  refine HeldBy.tk (i := 17) (v := .bool true) rfl (fun V hV => exec_eqC rfl rfl rfl hd) HS ?_
  refine HeldBy.tn (i := 18) rfl HS ?_
  refine HeldBy.tn (i := 19) rfl HS ?_
  refine HeldBy.tk (i := 20) (v := encC c) rfl (fun V hV => loadC hV.1 rfl rfl) HS ?_
  refine HeldBy.call (i := 21) (v := .bool b) rfl (by kernel_rfl) (by rfl) (by go_simp; exact ⟨rfl, rfl⟩) (by go_simp; rfl) ?_
  refine (has_is hh _).mono ?_
  rintro e U4 ⟨rfl, hb⟩
  replace HS : BoxC U4 w.heap.size c ∧ Below w.heap.size w U4 := ⟨HS.1.after hb, HS.2.trans (hb.mono HS.2.size)⟩
  refine ⟨rfl, HS, ?_⟩
  clear hb
  refine HeldBy.tn (i := 22) rfl HS ?_
  refine HeldBy.tn (i := 23) rfl HS ?_
  refine wpAnyH_done (by kernel_rfl) ?_ _
  have HX := Lib.hid HS.2
  clear HS
  go_wp2
  go_ret
  exact ⟨rfl, HX.out⟩
def rightB (c : Cl) : Bool := nm c.target && !decide (c.num = 0) && inR c.size && decide (c = namedC c) && hasB c
theorem right_any (c : Cl) (w : World) : Calls Try.prog 17 #[encC c] w fun e w' => e = .returned (.bool (rightB c)) ∧ Below w.heap.size w w' := by
  unfold rightB
  cases ht : nm c.target with
  | false => exact right_name c w ht
  | true =>
    cases hn : (!decide (c.num = 0)) with
    | false => exact right_num c w ht hn
    | true =>
      cases hr : inR c.size with
      | false => exact right_range c w ht hn hr
      | true =>
        cases hd : decide (c = namedC c) with
        | false => exact right_more c w ht hn hr hd
        | true => exact right_has c w ht hn hr hd _ rfl
theorem right_is {c : Cl} {b : Bool} (h : rightB c = b) (w : World) : Calls Try.prog 17 #[encC c] w fun e w' => e = .returned (.bool b) ∧ Below w.heap.size w w' := h ▸ right_any c w
end Go.Proofs.Ytbgfccanbgpjiaa.O.I
