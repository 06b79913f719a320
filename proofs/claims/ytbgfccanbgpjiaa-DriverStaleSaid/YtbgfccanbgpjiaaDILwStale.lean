/- Own work. -/
import Derived.Test.YtbgfccanbgpjiaaDILwAgain
namespace Go.Proofs.Ytbgfccanbgpjiaa.O.I
open Go Go.RowKit Go.Lib KM
attribute [local go_sem] Oper.semAt_some
section
variable {S : St} {d r v s n B d2 r2 v2 s2 n2 B2 : Nat} {w : World}
theorem do_beside (hp : PAt d r v s n B w S) (hq : PAt d2 r2 v2 s2 n2 B2 w S) (c : Cl) : Calls Try.prog 24 #[.pointer (some ⟨d, 0, none⟩), encC c] w fun e V => e = .returned (encR (doS S c).1) ∧ PAt d r v s n B V (doS S c).2 ∧ (Idle S c → PAt d2 r2 v2 s2 n2 B2 V (doS S c).2) ∧ Below B w V ∧ CellsStay w V := by
  by_cases hi : Idle S c
  · refine (do_still hp c hi).mono ?_
    rintro e V ⟨he, hb⟩
    have hB : B ≤ w.heap.size := by have := hp.low; have := hp.lt; omega
    rw [idle_same hi]
    exact ⟨he, hp.after hb, fun _ => hq.after hb, hb.mono hB, CellsStay.of_below hb⟩
  · refine (do_model hp c).mono ?_
    rintro e V ⟨he, h1, h2, h3⟩
    exact ⟨he, h1, fun h => absurd h hi, h2, h3⟩
theorem alike_60 (hp : PAt d r v s n B w S) (hq : PAt d2 r2 v2 s2 n2 B2 w S) (hg : Good 60 S.core) (hf : Few S) :
    Calls Try.prog 26 #[.pointer (some ⟨d, 0, none⟩), .pointer (some ⟨d2, 0, none⟩)] w fun e w' => e = .returned (.bool true) ∧ Below w.heap.size w w' := alike_any hp hq (hg.weak (by decide)) (by have := hf.1; have := hf.2; omega)
end
theorem exec_eqE {W : World} {r s : Int} {v : Bool} {oi : Oper} {a : Act} {x y : Operand} {t : TypeId} (ho : oi.op = .binOp .eql 48 x y t) (hx : a.eval x = .int .i64 r) (hy : a.eval y = .int .i64 s) (hv : decide (r = s) = v) :
    (execOp a.eval oi).run Try.prog W = .ok (.value (.bool v)) W := by
  subst hv
  unfold execOp
  simp only [ho, hx, hy]
  go_simp
  try rfl
theorem built_r9 : Try.prog.built 50 [(0, .int .i64 9)] = some (cellsR (errR 9)) := by kernel_rfl
set_option maxRecDepth 100000 in
set_option maxHeartbeats 8000000 in
theorem stale_any (a b c : Int) (ha : U8 a) (hb : U8 b) (hc : U8 c) (u : Value) (l : List Dd) (x : Cl) (w : World) (hl : DeedsIn w u l) (hf : ∀ x ∈ l, FitC x.c) (hx0 : 0 ≤ x.num) :
    Calls Try.prog 6 #[encN a b c, u, encC x] w fun e w' => e = .returned (.bool true) ∧ Below w.heap.size w w' := by
  have HL := Lib.hid hl
  have HF := Lib.hid hf
  have HA := Lib.hid ha
  have HBB := Lib.hid hb
  have HCC := Lib.hid hc
  have HX0 := Lib.hid hx0
  clear hl hf ha hb hc hx0
  rw [show encN a b c = .agg #[.int .u8 a, .int .u8 b, .int .u8 c] from rfl, show encC x = .agg (cellsC x) from rfl]
  go_enter Try.func6, Try.ntmps6
  go_upto_region 1 with (fail)
  refine wp_gen (fun V => BoxN V w.heap.size a b c ∧ BoxC V (w.heap.size + 1) x ∧ Below w.heap.size w V) ⟨(heap2 w _ _).1, (heap2 w _ _).2, below2 w _ _⟩ ?_
  rintro V1 ⟨hn1, hx1, hw1⟩
  have HX := Lib.hid hx1
  have HW := Lib.hid hw1
  clear hx1 hw1
  go_wp2_with (refine wpList_got rfl (loadN hn1 rfl rfl) ?_)
  clear hn1
  refine (play_any a b c HA.out HBB.out HCC.out u l V1 (HL.out.after HW.out) HF.out).mono ?_
  rintro e W1 ⟨d, r, v, s, n, B, R, q, S, rfl, hbo, hB, -, hpl, hb⟩
  replace HX := Lib.hid (HX.out.after hb)
  have HP := Lib.hid hbo.p
  have HO : Hid (w.heap.size ≤ B) := by have := HW.out.size; show _ ≤ _; omega
  replace HW := Lib.hid (HW.out.trans (hb.mono HW.out.size))
  have HG := Lib.hid hpl.good
  have HFW := Lib.hid hbo.few
  clear hbo hpl hb hB
  go_wp2_with (fail)
  refine (live_any W1).mono ?_
  rintro e W2 ⟨rfl, hb⟩
  replace HX := Lib.hid (HX.out.after hb)
  replace HP := Lib.hid (HP.out.after hb)
  replace HW := Lib.hid (HW.out.trans (hb.mono HW.out.size))
  clear hb
  go_wp2_with (fail)
  refine (fork_model HP.out).mono ?_
  rintro e W3 ⟨rfl, hq3, hb3⟩
  obtain ⟨k, hk⟩ : ∃ k, W2.heap.size = k := ⟨_, rfl⟩
  rw [hk] at hq3
  rw [hk]
  replace HX := Lib.hid (HX.out.after hb3)
  replace HP := Lib.hid (HP.out.after hb3)
  replace HW := Lib.hid (HW.out.trans (hb3.mono HW.out.size))
  have HQ := Lib.hid hq3
  clear hb3 hq3 hk
  have c0 := HX.out.c0
  have c1 := HX.out.c1
  obtain ⟨sn, hsn⟩ : ∃ y, seenN S x.verb x.target = y := ⟨_, rfl⟩
  have HSN := Lib.hid hsn
  clear hsn
  go_wp2_with (fail)
  clear c0 c1
  refine (pseen HP.out x.verb x.target HSN.out).mono ?_
  rintro e W4 ⟨rfl, hb⟩
  replace HX := Lib.hid (HX.out.after hb)
  replace HP := Lib.hid (HP.out.after hb)
  replace HQ := Lib.hid (HQ.out.after hb)
  replace HW := Lib.hid (HW.out.trans (hb.mono HW.out.size))
  clear hb
  have hcx := HX.out
  go_wp2_with (refine wpList_got rfl (loadC hcx rfl rfl) ?_)
  clear hcx
  refine (do_beside HP.out HQ.out x).mono ?_
  rintro e W5 ⟨rfl, hp5, hq5, hb5, hc5⟩
  obtain ⟨T, hT⟩ : ∃ T, (doS S x).2 = T := ⟨_, rfl⟩
  obtain ⟨res, hres⟩ : ∃ res, (doS S x).1 = res := ⟨_, rfl⟩
  rw [hT] at hp5 hq5
  rw [hres]
  obtain ⟨V5, hs5, hb5', hl5⟩ := boxR W5 zeroR rfl res
  replace HX := Lib.hid ((show BoxC W5 (w.heap.size + 1) x from hc5 _ _ _ _ HX.out).after hl5)
  replace HW : Hid (Below w.heap.size w V5) := by
    have h1 := HW.out.trans (hb5.mono HO.out)
    exact h1.trans (hl5.mono h1.size)
  have HP5 := Lib.hid (hp5.after hl5)
  have HQ5 : Hid (Idle S x → PAt (k + 4) k (k + 1) (k + 2) (k + 3) k V5 T) := fun h => (hq5 h).after hl5
  have HR := Lib.hid hb5'
  have HT := Lib.hid hT
  have HRES := Lib.hid hres
  have HON := Lib.hid HP.out.once
  clear hp5 hq5 hb5 hc5 hT hres hl5 hb5' HP HQ
  have hcx := HX.out
  obtain ⟨rb, hrb⟩ : ∃ rb, rightB x = rb := ⟨_, rfl⟩
  have HRB := Lib.hid hrb
  clear hrb
  go_wp2_with (first | (refine wpList_skip rfl (hs5 rfl rfl rfl) ?_) | (refine wpList_got rfl (loadC hcx rfl rfl) ?_))
  clear hs5 hcx
  refine (right_is HRB.out _).mono ?_
  rintro e W6 ⟨rfl, hb⟩
  replace HX := Lib.hid (HX.out.after hb)
  replace HW := Lib.hid (HW.out.trans (hb.mono HW.out.size))
  replace HP5 := Lib.hid (HP5.out.after hb)
  replace HQ5 : Hid (Idle S x → PAt (k + 4) k (k + 1) (k + 2) (k + 3) k W6 T) := fun h => (HQ5.out h).after hb
  replace HR := Lib.hid (HR.out.after hb)
  clear hb
  cases rb with
  | false =>
    have hid : Idle S x := .inl HRB.out
    have hTS : T = S := by rw [← HT.out]; exact idle_same hid
    have hq := HQ5.out hid
    have hp := HP5.out
    rw [hTS] at hp hq
    have hr2 : res = errR 2 := by rw [← HRES.out]; unfold doS; rw [if_pos HRB.out]
    have q0 : W6.cell? ⟨W5.heap.size, 0, none⟩ = some (.int .i64 2) := by have h := HR.out.c0; rw [hr2] at h; exact h
    have HAL := Lib.hid (alike_60 hp hq HG.out HFW.out)
    clear hid hTS hq hp hr2
    go_wp2_with (fail)
    refine HAL.out.mono ?_
    rintro e W7 ⟨rfl, hb7⟩
    have HXX := Lib.hid (HW.out.trans (hb7.mono HW.out.size))
    clear hb7 q0
    go_wp2
    go_ret
    exact ⟨rfl, HXX.out⟩
  | true =>
    have c2 := HX.out.c2
    by_cases hlt : x.num < sn
    · have hid : Idle S x := idle_seen HX0.out (by rw [HSN.out]; omega)
      have hTS : T = S := by rw [← HT.out]; exact idle_same hid
      have hq := HQ5.out hid
      have hp := HP5.out
      rw [hTS] at hp hq
      have hr9 : res = errR 9 := by rw [← HRES.out, do_older HRB.out HX0.out (by rw [HSN.out]; exact hlt)]
      have hrr := HR.out
      rw [hr9] at hrr
      have HAL := Lib.hid (alike_60 hp hq HG.out HFW.out)
      have HPP := Lib.hid hp
      clear hid hTS hq hp hr9
      go_wp2_with (first | (refine wpList_got rfl (loadR hrr rfl rfl) ?_) | ((with_reducible refine wpList_build_to rfl 50 _ rfl (cellsR (errR 9)) ?_ ?_); exact built_r9) | (refine wpList_got rfl (exec_eqR (v := true) rfl rfl rfl (decide_eq_true rfl)) ?_))
      clear hrr c2
      refine HAL.out.mono ?_
      rintro e W7 ⟨rfl, hb7⟩
      have HX7 := Lib.hid (HX.out.after hb7)
      have HP7 := Lib.hid (HPP.out.after hb7)
      have HW7 := Lib.hid (HW.out.trans (hb7.mono HW.out.size))
      clear hb7 HAL HPP
      have c0 := HX7.out.c0
      have c1 := HX7.out.c1
      go_wp2_with (fail)
      clear c0 c1
      refine (pseen HP7.out x.verb x.target HSN.out).mono ?_
      rintro e W8 ⟨rfl, hb8⟩
      have HXX := Lib.hid (HW7.out.trans (hb8.mono HW7.out.size))
      clear hb8
      go_wp2
      go_ret
      exact ⟨rfl, HXX.out⟩
    · by_cases heq : x.num = sn
      · have hid : Idle S x := idle_seen HX0.out (by rw [HSN.out]; omega)
        have hTS : T = S := by rw [← HT.out]; exact idle_same hid
        have hq := HQ5.out hid
        have hp := HP5.out
        rw [hTS] at hp hq
        have HAL := Lib.hid (alike_60 hp hq HG.out HFW.out)
        rw [heq] at c2
        have hlt2 : ¬ sn < sn := Int.lt_irrefl _
        clear hid hTS hq hp hlt heq
        go_wp2_with (fail)
        clear c2
        refine HAL.out.mono ?_
        rintro e W7 ⟨rfl, hb7⟩
        have HXX := Lib.hid (HW.out.trans (hb7.mono HW.out.size))
        clear hb7
        go_wp2
        go_ret
        exact ⟨rfl, HXX.out⟩
      · have heq2 : (x.num == sn) = false := by simp [heq]
        have hnew := do_newer HON.out HRB.out (show seenN S x.verb x.target < x.num by rw [HSN.out]; omega)
        rw [HT.out] at hnew
        have HNEW : Hid ((res = errR 7) ∨ seenN T x.verb x.target = x.num) := by
          rcases hnew with ⟨h1, -⟩ | ⟨h1, h2⟩
          · exact .inl (by rw [← HRES.out, h1])
          · exact .inr h2
        obtain ⟨sm, hsm⟩ : ∃ y, seenN T x.verb x.target = y := ⟨_, rfl⟩
        rw [hsm] at HNEW
        have HSM := Lib.hid hsm
        obtain ⟨er, her⟩ : ∃ y, res.err = y := ⟨_, rfl⟩
        have HER := Lib.hid her
        clear hnew hsm her
        go_upto_region 13 with (fail)
        clear c2 heq heq2 hlt
        have HC := HX
        have HPQ := HP5
        clear HX HP5
        by_cases h7 : er = 7
        · subst h7
          refine wp_region_held_drew (S := fun V => BoxC V (w.heap.size + 1) x ∧ BoxR V W5.heap.size res ∧ Below w.heap.size w V) (by kernel_rfl) ⟨HC.out, HR.out, HW.out.drew⟩ (fun _ => ?_)
          refine HeldBy.gen (fun V => BoxC V (w.heap.size + 1) x ∧ BoxR V W5.heap.size res ∧ Below w.heap.size w V) ⟨HC.out, HR.out, HW.out.drew⟩ ?_
          clear HC HR HW
          rintro U0 HS
          refine HeldBy.tn (i := 0) rfl HS ?_
          refine HeldBy.tk (i := 1) (v := .int .i64 7) rfl (fun V hV => by have hc := hV.2.1.c0; rw [HER.out] at hc; first | (go_simp; rfl) | (go_simp; done)) HS ?_
          refine HeldBy.tk (i := 2) (v := .bool true) rfl (fun _ _ => by first | (go_simp; rfl) | (go_simp; done)) HS ?_
          refine HeldBy.tn (i := 3) rfl HS ?_
          refine HeldBy.skip (i := 4) rfl (by kernel_rfl) (by kernel_rfl) (by kernel_rfl) (fun _ _ _ h => h) (by rfl) (by go_simp; rfl) HS ?_
          refine HeldBy.skip (i := 5) rfl (by kernel_rfl) (by kernel_rfl) (by kernel_rfl) (fun _ _ _ h => h) (by rfl) (by go_simp; rfl) HS ?_
          refine HeldBy.skip (i := 6) rfl (by kernel_rfl) (by kernel_rfl) (by kernel_rfl) (fun _ _ _ h => h) (by rfl) (by go_simp; rfl) HS ?_
          refine HeldBy.skip (i := 7) rfl (by kernel_rfl) (by kernel_rfl) (by kernel_rfl) (fun _ _ _ h => h) (by rfl) (by go_simp; rfl) HS ?_
          refine HeldBy.skip (i := 8) rfl (by kernel_rfl) (by kernel_rfl) (by kernel_rfl) (fun _ _ _ h => h) (by rfl) (by go_simp; rfl) HS ?_
          refine HeldBy.skip (i := 9) rfl (by kernel_rfl) (by kernel_rfl) (by kernel_rfl) (fun _ _ _ h => h) (by rfl) (by go_simp; rfl) HS ?_
          refine HeldBy.skip (i := 10) rfl (by kernel_rfl) (by kernel_rfl) (by kernel_rfl) (fun _ _ _ h => h) (by rfl) (by go_simp; rfl) HS ?_
          refine HeldBy.skip (i := 11) rfl (by kernel_rfl) (by kernel_rfl) (by kernel_rfl) (fun _ _ _ h => h) (by rfl) (by go_simp; rfl) HS ?_
          refine HeldBy.skip (i := 12) rfl (by kernel_rfl) (by kernel_rfl) (by kernel_rfl) (fun _ _ _ h => h) (by rfl) (by go_simp; rfl) HS ?_
          refine HeldBy.tn (i := 13) rfl HS ?_
          refine HeldBy.tn (i := 14) rfl HS ?_
          refine wpAnyH_done (by kernel_rfl) ?_ _
          have HXX := Lib.hid HS.2.2
          clear HS
          go_wp2
          go_ret
          exact ⟨rfl, HXX.out⟩
        · have hsm : sm = x.num := HNEW.out.resolve_left fun h => h7 (by rw [← HER.out, h]; rfl)
          have HS7 : Hid (decide (er = 7) = false) := decide_eq_false h7
          have HSS7 : Hid (seenN T x.verb x.target = x.num) := by rw [← hsm]; exact HSM.out
          clear hsm h7
          refine wp_region_held_drew (S := fun V => BoxC V (w.heap.size + 1) x ∧ BoxR V W5.heap.size res ∧ Below w.heap.size w V ∧ PAt d r v s n B V T) (by kernel_rfl) ⟨HC.out, HR.out, HW.out.drew, HPQ.out.drew⟩ (fun _ => ?_)
          refine HeldBy.gen (fun V => BoxC V (w.heap.size + 1) x ∧ BoxR V W5.heap.size res ∧ Below w.heap.size w V ∧ PAt d r v s n B V T) ⟨HC.out, HR.out, HW.out.drew, HPQ.out.drew⟩ ?_
          clear HC HR HW HPQ
          rintro U0 HS
          refine HeldBy.tn (i := 0) rfl HS ?_
          refine HeldBy.tk (i := 1) (v := .int .i64 er) rfl (fun V hV => by have hc := hV.2.1.c0; rw [HER.out] at hc; first | (go_simp; rfl) | (go_simp; done)) HS ?_
          refine HeldBy.tk (i := 2) (v := .bool false) rfl (fun _ _ => exec_eqE rfl rfl rfl HS7.out) HS ?_
          refine HeldBy.tn (i := 3) rfl HS ?_
          refine HeldBy.tn (i := 4) rfl HS ?_
          refine HeldBy.tn (i := 5) rfl HS ?_
          refine HeldBy.tk (i := 6) rfl (fun V hV => by have hc := hV.1.c0; first | (go_simp; rfl) | (go_simp; done)) HS ?_
          refine HeldBy.tn (i := 7) rfl HS ?_
          refine HeldBy.tk (i := 8) rfl (fun V hV => by have hc := hV.1.c1; first | (go_simp; rfl) | (go_simp; done)) HS ?_
          refine HeldBy.tn (i := 10) rfl HS ?_
          refine HeldBy.tk (i := 11) rfl (fun V hV => by have hc := hV.1.c2; first | (go_simp; rfl) | (go_simp; done)) HS ?_
          refine HeldBy.call (i := 9) (v := .int .u64 x.num) rfl (by kernel_rfl) (by rfl) (by first | (go_simp; done) | (go_simp; first | exact ⟨rfl, rfl⟩ | rfl)) (by first | (go_simp; rfl) | (go_simp; done)) ?_
          refine (pseen HS.2.2.2 x.verb x.target HSS7.out).mono ?_
          rintro e U1 ⟨rfl, hb⟩
          replace HS : BoxC U1 (w.heap.size + 1) x ∧ BoxR U1 W5.heap.size res ∧ Below w.heap.size w U1 ∧ PAt d r v s n B U1 T := ⟨HS.1.after hb, HS.2.1.after hb, HS.2.2.1.trans (hb.mono HS.2.2.1.size), HS.2.2.2.after hb⟩
          refine ⟨rfl, HS, ?_⟩
          clear hb
          refine HeldBy.tk (i := 12) (v := .bool true) rfl (fun _ _ => by first | (go_simp; rfl) | (go_simp; done) | (go_simp; simp)) HS ?_
          refine HeldBy.tn (i := 13) rfl HS ?_
          refine HeldBy.tn (i := 14) rfl HS ?_
          refine wpAnyH_done (by kernel_rfl) ?_ _
          have HXX := Lib.hid HS.2.2.1
          clear HS
          go_wp2
          go_ret
          exact ⟨rfl, HXX.out⟩
end Go.Proofs.Ytbgfccanbgpjiaa.O.I
