/- topo.Narrow. -/
import Derived.Test.YtneogmcmkbhnaaaTBoth
import Derived.Test.YtneogmcmkbhnaaaTBack
namespace Go.Proofs.Ytneogmcmkbhnaaa.T
open Go.RowKit
open Go.Lib hiding intOf

/-- What two selectors are narrowed to: the number of the error, and the terms. -/
noncomputable def narrowB (A B : List PT) : Int × List PT :=
  if (printAll prTerm keyT 44 A).isSome = true then
    if (printAll prTerm keyT 44 B).isSome = true then
      match bothB A B with
      | none => (5, [])
      | some ts => if 8 < ts.length then (2, []) else (0, ts)
    else (2, [])
  else (2, [])
def NPost (w : World) (r : Int × List PT) (e : Ending) (W' : World) : Prop := ∃ v O, e = .returned (.tuple #[v, .int .i64 r.1]) ∧ RO w v O W' ∧ O.map Prod.fst = r.2
theorem NPost.fail {w W' : World} {n : Int} (h : Below w.heap.size w W') : NPost w (n, []) (.returned (.tuple #[.slice none 0 0, .int .i64 n])) W' := ⟨_, [], rfl, ⟨World.ownsRow_nil _ _ _ _, fun x hx => by (cases hx), h⟩, rfl⟩
theorem some_prints {α : Type} {pr : α → Option (List UInt8)} {key : α → List UInt8} {m : UInt8} {l : List α} (h : (printAll pr key m l).isSome = true) : Prints pr key l := by
  obtain ⟨s, hs⟩ := Option.isSome_iff_exists.1 h
  exact (print_some _ _ hs).1
theorem term_vals {t : PT} (h : (prTerm t).isSome = true) : Prints rdWord keyWord t.2 := by
  obtain ⟨s, hs⟩ := Option.isSome_iff_exists.1 h
  unfold prTerm at hs
  split at hs
  · split at hs
    · cases hs
    · obtain ⟨u, hu, -⟩ := Option.map_eq_some_iff.1 hs
      exact (print_some _ _ hu).1
  · cases hs
theorem prints_vals {acc : List TB} (h : Prints prT kyT acc) : ∀ x ∈ acc, x.1.2.length ≤ 1000 := fun x hx => by
  obtain ⟨-, h2, -⟩ := (prints_iff _ _).1 h
  have := (term_vals (h2 x hx)).len
  omega

set_option maxRecDepth 100000 in
set_option maxHeartbeats 4000000 in
theorem narrow_any (va vb : Value) (A B : List TB) (w : World) (hA : TermsIn w va A) (hB : TermsIn w vb B) (ca : CapOk va) (cb : CapOk vb) :
    Calls Try.prog 25 #[va, vb] w (NPost w (narrowB (A.map Prod.fst) (B.map Prod.fst))) := by
  have HA := Lib.hid hA
  have HB := Lib.hid hB
  have Hca := Lib.hid ca
  have Hcb := Lib.hid cb
  have HSa := Lib.hid (fun W h => selector_any va A W h)
  have HSb := Lib.hid (fun W h => selector_any vb B W h)
  rw [printAll_fst] at HSa HSb
  clear hA hB ca cb
  obtain ⟨R, hR⟩ : ∃ R, narrowB (A.map Prod.fst) (B.map Prod.fst) = R := ⟨_, rfl⟩
  rw [hR]
  have HR := Lib.hid hR
  clear hR
  cases h1 : (printAll prTerm keyT 44 (A.map Prod.fst)).isSome with
  | false =>
    obtain rfl : R = (2, []) := by rw [← HR.out]; unfold narrowB; rw [if_neg (by simp [h1])]
    rw [h1] at HSa
    clear h1 HSb
    go_enter Try.func25, Try.ntmps25
    go_wp2_with fail
    refine (HSa.out _ HA.out).mono ?_
    rintro e W1 ⟨rfl, hb⟩
    have HL := Lib.hid hb
    clear hb
    go_wp2
    go_ret2
    exact NPost.fail HL.out
  | true =>
    rw [h1] at HSa
    cases h2 : (printAll prTerm keyT 44 (B.map Prod.fst)).isSome with
    | false =>
      obtain rfl : R = (2, []) := by rw [← HR.out]; unfold narrowB; rw [if_pos h1, if_neg (by simp [h2])]
      rw [h2] at HSb
      clear h1 h2
      go_enter Try.func25, Try.ntmps25
      go_wp2_with fail
      refine (HSa.out _ HA.out).mono ?_
      rintro e W1 ⟨rfl, hb⟩
      have HL := Lib.hid hb
      clear hb
      go_wp2_with fail
      refine (HSb.out _ (HB.out.after HL.out)).mono ?_
      rintro e W2 ⟨rfl, hb⟩
      replace HL := Lib.hid (HL.out.trans (hb.mono HL.out.size))
      clear hb
      go_wp2
      go_ret2
      exact NPost.fail HL.out
    | true =>
      rw [h2] at HSb
      have hpA : Prints prT kyT A := prints_fst.2 (some_prints h1)
      have hpB : Prints prT kyT B := prints_fst.2 (some_prints h2)
      have hn : narrowB (A.map Prod.fst) (B.map Prod.fst) = match bothB (A.map Prod.fst) (B.map Prod.fst) with
        | none => (5, [])
        | some ts => if 8 < ts.length then (2, []) else (0, ts) := by
        unfold narrowB
        rw [if_pos h1, if_pos h2]
      rw [HR.out] at hn
      have hla := hpA.len
      have hlb := hpB.len
      have HBo := Lib.hid fun W (hb : Below w.heap.size w W) => both_any va vb A B W (HA.out.after hb) (HB.out.after hb) Hca.out Hcb.out (prints_vals hpA) (prints_vals hpB) (by omega)
      clear hla hlb hpA hpB h1 h2
      obtain ⟨r, hr⟩ : ∃ r, bothB (A.map Prod.fst) (B.map Prod.fst) = r := ⟨_, rfl⟩
      rw [hr] at hn HBo
      have HN := Lib.hid hn
      clear hn hr HR
      go_enter Try.func25, Try.ntmps25
      go_wp2_with fail
      refine (HSa.out _ HA.out).mono ?_
      rintro e W1 ⟨rfl, hb⟩
      have HL := Lib.hid hb
      clear hb
      go_wp2_with fail
      refine (HSb.out _ (HB.out.after HL.out)).mono ?_
      rintro e W2 ⟨rfl, hb⟩
      replace HL := Lib.hid (HL.out.trans (hb.mono HL.out.size))
      clear hb
      go_wp2_with fail
      refine (HBo.out _ HL.out).mono ?_
      rintro e W3 he
      cases r with
      | none =>
        obtain ⟨hb, rfl⟩ := he
        replace HL := Lib.hid (HL.out.trans (hb.mono HL.out.size))
        obtain rfl : R = (5, []) := HN.out
        clear hb
        go_wp2
        go_ret2
        exact NPost.fail HL.out
      | some ts =>
        obtain ⟨v, O, rfl, hro, hts⟩ := he
        have hro2 : RO w v O W3 := ⟨ownsRow_base hro.row HL.out.size, fun x hx => ownsRow_base (hro.vals x hx) HL.out.size, HL.out.trans (hro.low.mono HL.out.size)⟩
        have hlen : ts.length = O.length := by rw [← hts, List.length_map]
        obtain ⟨o, c, rfl⟩ := hro2.terms.shape
        have hmx := hro2.terms.len
        have HRo := Lib.hid hro2
        have HTs := Lib.hid hts
        have hn2 : R = if 8 < ts.length then (2, []) else (0, ts) := HN.out
        rw [hlen] at hn2
        clear hro hro2 hts hlen HN HBo
        obtain ⟨m, hm⟩ : ∃ m, m = O.length := ⟨_, rfl⟩
        rw [← hm] at hn2 HRo hmx
        rw [← hm]
        have HM := Lib.hid hm
        clear hm
        by_cases h8 : 8 < m
        · rw [if_pos h8] at hn2
          subst hn2
          have HL3 := Lib.hid HRo.out.low
          clear HRo
          go_wp2
          go_ret2
          exact NPost.fail HL3.out
        · rw [if_neg h8] at hn2
          subst hn2
          go_wp2
          go_ret2
          exact ⟨_, O, rfl, HRo.out, HTs.out⟩
end Go.Proofs.Ytneogmcmkbhnaaa.T
