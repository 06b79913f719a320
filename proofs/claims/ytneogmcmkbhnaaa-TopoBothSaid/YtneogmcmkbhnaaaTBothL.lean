/- The law TopoBoth: its walk. Laid by mkbothl.py. -/
import Derived.Test.YtneogmcmkbhnaaaTNarrowM
import Derived.Test.YtneogmcmkbhnaaaTMatches
import Derived.Test.YtneogmcmkbhnaaaTOpen2
namespace Go.Proofs.Ytneogmcmkbhnaaa.T
open Go.RowKit
open Go.Lib hiding intOf

set_option maxRecDepth 100000 in
set_option maxHeartbeats 4000000 in
theorem topoBoth_any (va vb vl : Value) (A B : List TB) (l : List LB) (w : World) (hA : TermsIn w va A) (ca : CapOk va) (hB : TermsIn w vb B) (cb : CapOk vb) (hL : LabsIn w vl l) :
    Calls Try.prog 8 #[va, vb, vl] w fun e w' => e = .returned (.bool true) ∧ Below w.heap.size w w' := by
  have HA := Lib.hid hA
  have HB := Lib.hid hB
  have Hca := Lib.hid ca
  have Hcb := Lib.hid cb
  have HLb := Lib.hid hL
  have hn := hL.len
  obtain ⟨p, d, rfl⟩ := hL.shape
  clear hA hB ca cb hL
  obtain ⟨M, hM⟩ : ∃ M, M = l.length := ⟨_, rfl⟩
  rw [← hM] at HLb hn ⊢
  have HM := Lib.hid hM
  clear hM
  go_enter Try.func8, Try.ntmps8
  go_wp2_with fail
  refine (small_any va A _ HA.out).mono ?_
  rintro e W1 ⟨rfl, rfl⟩
  cases hs1 : smallB A with
  | false =>
    clear hs1
    go_wp2_with fail
    refine (live_any _).mono ?_
    rintro e V2 ⟨rfl, hb⟩
    have HL := Lib.hid hb
    clear hb
    go_wp2
    go_ret
    exact ⟨rfl, HL.out⟩
  | true =>
    clear hs1
    go_wp2_with fail
    refine (small_any vb B _ HB.out).mono ?_
    rintro e W1 ⟨rfl, rfl⟩
    cases hs2 : smallB B with
    | false =>
      clear hs2
      go_wp2_with fail
      refine (live_any _).mono ?_
      rintro e V2 ⟨rfl, hb⟩
      have HL := Lib.hid hb
      clear hb
      go_wp2
      go_ret
      exact ⟨rfl, HL.out⟩
    | true =>
      clear hs2
      by_cases hM30 : M ≤ 30
      · go_wp2_with fail
        refine (printLabels_any _ l _ HLb.out).mono ?_
        rintro e W2 ⟨hb, he⟩
        have HL := Lib.hid hb
        clear hb
        cases hp : printAll prLabel keyL 44 l with
        | none =>
          rw [hp] at he
          obtain rfl := he
          clear hp
          go_wp2_with fail
          refine (live_any _).mono ?_
          rintro e V2 ⟨rfl, hb⟩
          replace HL := Lib.hid (HL.out.trans (hb.mono HL.out.size))
          clear hb
          go_wp2
          go_ret
          exact ⟨rfl, HL.out⟩
        | some s =>
          rw [hp] at he
          obtain rfl := he
          have hone : OnceL l := once_of (rises_pairwise ((prints_iff _ _).1 (print_some _ _ hp).1).2.2)
          have hnum := narrow_num (A.map Prod.fst) (B.map Prod.fst)
          have hmt := narrow_match (A := A.map Prod.fst) (B := B.map Prod.fst) hone
          have hco := fun h => narrow_comm (A := A.map Prod.fst) (B := B.map Prod.fst) h
          have hna := narrow_any va vb A B W2 (HA.out.after HL.out) (HB.out.after HL.out) Hca.out Hcb.out
          obtain ⟨r, hr⟩ : ∃ r, narrowB (A.map Prod.fst) (B.map Prod.fst) = r := ⟨_, rfl⟩
          rw [hr] at hnum hmt hna hco
          obtain ⟨n, ts⟩ := r
          dsimp only at hnum hmt hco
          have HNa := Lib.hid hna
          have HCo : Hid (n = 0 → narrowB (B.map Prod.fst) (A.map Prod.fst) = (0, ts)) := fun h => by rw [hco h, h]
          have HM5 := Lib.hid hmt.1
          have HM0 := Lib.hid hmt.2
          clear hone hmt hna hco hr hp
          go_wp2_with fail
          refine HNa.out.mono ?_
          rintro e W3 ⟨v, O, rfl, hro, hO⟩
          have HNr := Lib.hid hro.terms
          replace HL := Lib.hid (HL.out.trans (hro.low.mono HL.out.size))
          have HOt := Lib.hid hO
          dsimp only at HOt
          clear hro hO HNa
          have hnb : -9223372036854775808 ≤ n ∧ n ≤ 9223372036854775807 := by rcases hnum with h | h | h <;> omega
          go_wp2_with fail
          refine (match_any va A _ l _ (HA.out.after HL.out) (HLb.out.after HL.out)).mono ?_
          rintro e W4 ⟨rfl, hb⟩
          replace HL := Lib.hid (HL.out.trans (hb.mono HL.out.size))
          replace HNr := Lib.hid (HNr.out.after hb)
          clear hb
          cases hma : matchB (A.map Prod.fst) l with
          | false =>
            rw [hma, Bool.false_and] at HM5 HM0
            clear hma
            rcases hnum with rfl | rfl | rfl
            · have hts : matchB ts l = false := HM0.out rfl
              have hco := HCo.out rfl
              have HN2 := Lib.hid fun W (hb : Below w.heap.size w W) => narrow_any vb va B A W (HB.out.after hb) (HA.out.after hb) Hcb.out Hca.out
              rw [hco] at HN2
              have HTs := Lib.hid hts
              clear hts hco HM0 HM5 HCo
              go_wp2_with fail
              refine (HN2.out _ HL.out).mono ?_
              rintro e U3 ⟨v2, O2, rfl, hro2, hO2⟩
              have HR1 := Lib.hid (HNr.out.after hro2.low)
              have HR2 := Lib.hid hro2.terms
              replace HL := Lib.hid (HL.out.trans (hro2.low.mono HL.out.size))
              have HO2 := Lib.hid hO2
              clear hro2 hO2 HN2 HNr
              go_wp2_with fail
              refine (live_any _).mono ?_
              rintro e U4 ⟨rfl, hb⟩
              replace HL := Lib.hid (HL.out.trans (hb.mono HL.out.size))
              replace HR1 := Lib.hid (HR1.out.after hb)
              replace HR2 := Lib.hid (HR2.out.after hb)
              clear hb
              go_wp2_with fail
              refine (match_any v O _ l _ HR1.out (HLb.out.after HL.out)).mono ?_
              rintro e U5 ⟨rfl, hb⟩
              rw [HOt.out, HTs.out]
              replace HL := Lib.hid (HL.out.trans (hb.mono HL.out.size))
              replace HR1 := Lib.hid (HR1.out.after hb)
              replace HR2 := Lib.hid (HR2.out.after hb)
              clear hb
              go_wp2_with fail
              refine (sameTerms_any v v2 O O2 _ HR1.out HR2.out).mono ?_
              rintro e U6 ⟨rfl, hb⟩
              rw [decide_eq_true (show O.map Prod.fst = O2.map Prod.fst by rw [HOt.out, HO2.out])]
              replace HL := Lib.hid (HL.out.trans (hb.mono HL.out.size))
              clear hb HR1 HR2
              go_wp2
              go_ret
              exact ⟨rfl, HL.out⟩
            · clear HM5 HM0 HCo HNr
              go_wp2_with fail
              refine (live_any _).mono ?_
              rintro e V2 ⟨rfl, hb⟩
              replace HL := Lib.hid (HL.out.trans (hb.mono HL.out.size))
              clear hb
              go_wp2
              go_ret
              exact ⟨rfl, HL.out⟩
            · clear HM5 HM0 HCo HNr
              go_wp2_with fail
              refine (live_any _).mono ?_
              rintro e V2 ⟨rfl, hb⟩
              replace HL := Lib.hid (HL.out.trans (hb.mono HL.out.size))
              clear hb
              go_wp2
              go_ret
              exact ⟨rfl, HL.out⟩
          | true =>
            rw [hma, Bool.true_and] at HM5 HM0
            clear hma
            go_wp2_with fail
            refine (match_any vb B _ l _ (HB.out.after HL.out) (HLb.out.after HL.out)).mono ?_
            rintro e W5 ⟨rfl, hb⟩
            replace HL := Lib.hid (HL.out.trans (hb.mono HL.out.size))
            replace HNr := Lib.hid (HNr.out.after hb)
            clear hb
            cases hmb : matchB (B.map Prod.fst) l with
            | false =>
              rw [hmb] at HM5 HM0
              clear hmb
              rcases hnum with rfl | rfl | rfl
              · have hts : matchB ts l = false := HM0.out rfl
                have hco := HCo.out rfl
                have HN2 := Lib.hid fun W (hb : Below w.heap.size w W) => narrow_any vb va B A W (HB.out.after hb) (HA.out.after hb) Hcb.out Hca.out
                rw [hco] at HN2
                have HTs := Lib.hid hts
                clear hts hco HM0 HM5 HCo
                go_wp2_with fail
                refine (HN2.out _ HL.out).mono ?_
                rintro e U3 ⟨v2, O2, rfl, hro2, hO2⟩
                have HR1 := Lib.hid (HNr.out.after hro2.low)
                have HR2 := Lib.hid hro2.terms
                replace HL := Lib.hid (HL.out.trans (hro2.low.mono HL.out.size))
                have HO2 := Lib.hid hO2
                clear hro2 hO2 HN2 HNr
                go_wp2_with fail
                refine (live_any _).mono ?_
                rintro e U4 ⟨rfl, hb⟩
                replace HL := Lib.hid (HL.out.trans (hb.mono HL.out.size))
                replace HR1 := Lib.hid (HR1.out.after hb)
                replace HR2 := Lib.hid (HR2.out.after hb)
                clear hb
                go_wp2_with fail
                refine (match_any v O _ l _ HR1.out (HLb.out.after HL.out)).mono ?_
                rintro e U5 ⟨rfl, hb⟩
                rw [HOt.out, HTs.out]
                replace HL := Lib.hid (HL.out.trans (hb.mono HL.out.size))
                replace HR1 := Lib.hid (HR1.out.after hb)
                replace HR2 := Lib.hid (HR2.out.after hb)
                clear hb
                go_wp2_with fail
                refine (sameTerms_any v v2 O O2 _ HR1.out HR2.out).mono ?_
                rintro e U6 ⟨rfl, hb⟩
                rw [decide_eq_true (show O.map Prod.fst = O2.map Prod.fst by rw [HOt.out, HO2.out])]
                replace HL := Lib.hid (HL.out.trans (hb.mono HL.out.size))
                clear hb HR1 HR2
                go_wp2
                go_ret
                exact ⟨rfl, HL.out⟩
              · clear HM5 HM0 HCo HNr
                go_wp2_with fail
                refine (live_any _).mono ?_
                rintro e V2 ⟨rfl, hb⟩
                replace HL := Lib.hid (HL.out.trans (hb.mono HL.out.size))
                clear hb
                go_wp2
                go_ret
                exact ⟨rfl, HL.out⟩
              · clear HM5 HM0 HCo HNr
                go_wp2_with fail
                refine (live_any _).mono ?_
                rintro e V2 ⟨rfl, hb⟩
                replace HL := Lib.hid (HL.out.trans (hb.mono HL.out.size))
                clear hb
                go_wp2
                go_ret
                exact ⟨rfl, HL.out⟩
            | true =>
              rw [hmb] at HM5 HM0
              clear hmb
              rcases hnum with rfl | rfl | rfl
              · have hts : matchB ts l = true := HM0.out rfl
                have hco := HCo.out rfl
                have HN2 := Lib.hid fun W (hb : Below w.heap.size w W) => narrow_any vb va B A W (HB.out.after hb) (HA.out.after hb) Hcb.out Hca.out
                rw [hco] at HN2
                have HTs := Lib.hid hts
                clear hts hco HM0 HM5 HCo
                go_wp2_with fail
                refine (HN2.out _ HL.out).mono ?_
                rintro e U3 ⟨v2, O2, rfl, hro2, hO2⟩
                have HR1 := Lib.hid (HNr.out.after hro2.low)
                have HR2 := Lib.hid hro2.terms
                replace HL := Lib.hid (HL.out.trans (hro2.low.mono HL.out.size))
                have HO2 := Lib.hid hO2
                clear hro2 hO2 HN2 HNr
                go_wp2_with fail
                refine (live_any _).mono ?_
                rintro e U4 ⟨rfl, hb⟩
                replace HL := Lib.hid (HL.out.trans (hb.mono HL.out.size))
                replace HR1 := Lib.hid (HR1.out.after hb)
                replace HR2 := Lib.hid (HR2.out.after hb)
                clear hb
                go_wp2_with fail
                refine (match_any v O _ l _ HR1.out (HLb.out.after HL.out)).mono ?_
                rintro e U5 ⟨rfl, hb⟩
                rw [HOt.out, HTs.out]
                replace HL := Lib.hid (HL.out.trans (hb.mono HL.out.size))
                replace HR1 := Lib.hid (HR1.out.after hb)
                replace HR2 := Lib.hid (HR2.out.after hb)
                clear hb
                go_wp2_with fail
                refine (sameTerms_any v v2 O O2 _ HR1.out HR2.out).mono ?_
                rintro e U6 ⟨rfl, hb⟩
                rw [decide_eq_true (show O.map Prod.fst = O2.map Prod.fst by rw [HOt.out, HO2.out])]
                replace HL := Lib.hid (HL.out.trans (hb.mono HL.out.size))
                clear hb HR1 HR2
                go_wp2
                go_ret
                exact ⟨rfl, HL.out⟩
              · clear HM5 HM0 HCo HNr
                go_wp2_with fail
                refine (live_any _).mono ?_
                rintro e V2 ⟨rfl, hb⟩
                replace HL := Lib.hid (HL.out.trans (hb.mono HL.out.size))
                clear hb
                go_wp2
                go_ret
                exact ⟨rfl, HL.out⟩
              · exact absurd (HM5.out rfl) (by simp)
      · go_wp2_with fail
        refine (live_any _).mono ?_
        rintro e V2 ⟨rfl, hb⟩
        have HL := Lib.hid hb
        clear hb
        go_wp2
        go_ret
        exact ⟨rfl, HL.out⟩
end Go.Proofs.Ytneogmcmkbhnaaa.T
