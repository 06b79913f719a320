/- A key that failed. -/
import Derived.Test.YtjmiodbpebaajaaWNew
namespace Go.Proofs.Ytjmiodbpebaajaa.W
open Go Go.RowKit KM
open Go.Lib

def lineN (k : Ky) (due : List (Ky × Value)) (line : List Ky) : List Ky := match KM.get k due with | none => line ++ [k] | some _ => line
theorem wait_any (B R q bd bf : Nat) (line : List Ky) (due fails : List (Ky × Value)) (k : Ky) (d : Int) (w : World) (h : QIs B R w q bd bf line due fails) (hn : KM.get k due = none → line.length < 256) :
    Calls Try.prog 37 #[.pointer (some ⟨q, 0, none⟩), encK k, .int .u64 d] w fun e w' => e = .returned (.int .i64 0) ∧ QIs B R w' q bd bf (lineN k due line) (KM.put k (.int .u64 d) due) fails ∧ Below B w w' ∧ Kp w w' q bd bf := by
  unfold lineN
  cases hg : KM.get k due with
  | none => exact wait_new B R q bd bf line due fails k d w h hg (hn hg)
  | some v => exact wait_old B R q bd bf line due fails k d v w h hg
theorem QAt.same {W : World} {q : Nat} {sl sl' : Value} {bd bf bd' bf' : Nat} (h : QAt W q sl bd bf) (h' : QAt W q sl' bd' bf') : sl = sl' := by
  unfold QAt at h h'
  rw [h] at h'
  injection h' with h'
  injection h' with h' _
  have := congrArg Array.toList h'
  simp at this
  exact this.1
theorem Kp.step {w U W : World} {q bd bf : Nat} (hb : Below w.heap.size w U) (hq : q < w.heap.size) (hp : Kp U W q bd bf) : Kp w W q bd bf := fun b hlt h1 h2 h3 h4 =>
  (hp b (Nat.lt_of_lt_of_le hlt hb.size) h1 h2 h3 fun sl hs => h4 sl (hs.of_heap (hb.block q hq).symm)).trans (hb.block b hlt)
theorem QIs.rows {B R : Nat} {W : World} {q bd bf : Nat} {line : List Ky} {due fails : List (Ky × Value)} (h : QIs B R W q bd bf line due fails) : ∀ sl, QAt W q sl bd bf → ∀ g, sl.ownBlock = some g → g < W.heap.size := by
  intro sl hs g hg
  obtain ⟨sl', ha, hr⟩ := h.at_
  rw [hs.same ha] at hg
  exact row_lt hr g hg
theorem delay_b (f : Int) (w : World) (h0 : -9223372036854775808 ≤ f) (h1 : f ≤ 9223372036854775807) : Calls Try.prog 15 #[.int .i64 f] w fun e w' => e = .returned (.int .u64 (delayN f)) ∧ Below w.heap.size w w' :=
  (delay_any f w h0 h1).mono fun _ _ h => ⟨h.1, h.2 ▸ Below.refl _ _⟩
theorem later_b (n d : Int) (w : World) (hn : 0 ≤ n ∧ n ≤ 18446744073709551615) (hd : 0 ≤ d ∧ d ≤ 64) : Calls Try.prog 46 #[.int .u64 n, .int .u64 d] w fun e w' => e = .returned (.int .u64 (n + min d (18446744073709551615 - n))) ∧ Below w.heap.size w w' :=
  (later_any n d w hn hd).mono fun _ _ h => ⟨h.1, h.2 ▸ Below.refl _ _⟩
theorem exec_fails {W : World} {oi : Oper} {a : Act} {p r : Operand} {b : Nat} {m : List (Ky × Value)} {k : Ky} {n : Int} (ho : oi.op = .lookup tI p r false) (hm : a.eval p = .map (some b)) (hk : a.eval r = encK k)
    (h : IsMap encK W b m) (hf : KM.get k m = none ∧ n = 0 ∨ KM.get k m = some (.int .i64 n)) : (execOp a.eval oi).run Try.prog W = .ok (.value (.int .i64 n)) W := by
  rcases hf with ⟨hf, rfl⟩ | hf
  · exact exec_lookup1_no ho und_tI zero_i hm hk h hf
  · exact exec_lookup1_ok ho und_tI hm hk h hf

set_option maxRecDepth 100000 in
set_option maxHeartbeats 4000000 in
theorem fail_any (B R q bd bf : Nat) (line : List Ky) (due fails : List (Ky × Value)) (k : Ky) (now n F : Int) (w : World) (h : QIs B R w q bd bf line due fails) (hf : KM.get k fails = none ∧ n = 0 ∨ KM.get k fails = some (.int .i64 n))
    (hn : 0 ≤ n ∧ n ≤ 40) (hF : n + 1 ≤ 40 ∧ F = n + 1 ∨ n = 40 ∧ F = 40) (hnow : 0 ≤ now ∧ now ≤ 18446744073709551615) (hroom : KM.get k due = none → line.length < 256) :
    Calls Try.prog 25 #[.pointer (some ⟨q, 0, none⟩), encK k, .int .u64 now] w fun e w' => e = .returned (.int .i64 0) ∧ QIs B R w' q bd bf (lineN k due line) (KM.put k (.int .u64 (now + min (delayN F) (18446744073709551615 - now))) due) (KM.put k (.int .i64 F) fails) ∧ Below B w w' ∧ Kp w w' q bd bf := by
  have hrows := h.rows
  have hqw : q < w.heap.size := by
    obtain ⟨sl, ha, -⟩ := h.at_
    exact ha.lt
  have hdw := h.due.lt
  have hfw := h.fails.lt
  have hFb : 1 ≤ F ∧ F ≤ 40 := by omega
  have HF0 := Lib.hid hf
  have HFF := Lib.hid hF
  have H0 := Lib.hid h
  have HRM := Lib.hid hroom
  have HRW := Lib.hid hrows
  have HDB := Lib.hid (delay_bounds F)
  obtain ⟨hn0, hn1⟩ := hn
  clear h hf hF hroom hrows
  unfold encK
  go_enter Try.func25, Try.ntmps25
  go_upto_region 1 with (fail)
  refine wp_gen (fun V => KAt V w.heap.size k ∧ QIs B R V q bd bf line due fails ∧ Below w.heap.size w V) ⟨KAt.new w k, H0.out.after ((Below.refl _ _).alloc (Nat.le_refl _) _), (Below.refl _ _).alloc (Nat.le_refl _) _⟩ ?_
  have hBw := H0.out.size
  clear H0
  rintro V ⟨hk, hq, hlow⟩
  obtain ⟨sl, ha, hr⟩ := hq.at_
  have HQ := Lib.hid hq
  have HK := Lib.hid hk
  have HA := Lib.hid ha
  have HG := Lib.hid hq.fails
  have HL := Lib.hid hlow
  clear hk hq hlow ha hr
  go_upto_region 3 with (fail)
  refine wp_region_held_drew (S := fun V => QAt V q sl bd bf ∧ IsMap encK V bf fails ∧ KAt V w.heap.size k ∧ QIs B R V q bd bf line due fails ∧ Below w.heap.size w V) (by kernel_rfl) ⟨HA.out, HG.out, HK.out, HQ.out.drew, HL.out.drew⟩ (fun _ => ?_)
  refine HeldBy.gen (fun V => QAt V q sl bd bf ∧ IsMap encK V bf fails ∧ KAt V w.heap.size k ∧ QIs B R V q bd bf line due fails ∧ Below w.heap.size w V) ⟨HA.out, HG.out, HK.out, HQ.out.drew, HL.out.drew⟩ ?_
  clear HA HG HK HQ HL
  rintro U0 HS
  refine HeldBy.take (i := 0) rfl (by kernel_rfl) (by kernel_rfl) (by kernel_rfl) (fun _ _ _ h => h) (by rfl) (fun _ _ => by first | (go_simp; rfl) | (go_simp; done)) (by go_simp; rfl) HS ?_
  refine HeldBy.take (i := 1) rfl (by kernel_rfl) (by kernel_rfl) (by kernel_rfl) (fun _ _ _ h => h) (by rfl) (fun _ _ => by first | (go_simp; rfl) | (go_simp; done)) (by go_simp; rfl) HS ?_
  refine HeldBy.take (i := 2) rfl (by kernel_rfl) (by kernel_rfl) (by kernel_rfl) (fun _ _ _ h => h) (by rfl) (fun _ _ => by first | (go_simp; rfl) | (go_simp; done)) (by go_simp; rfl) HS ?_
  refine HeldBy.take (i := 3) rfl (by kernel_rfl) (by kernel_rfl) (by kernel_rfl) (fun _ _ _ h => h) (by rfl) (fun V hV => by have hc := hV.1.c2; first | (go_simp; rfl) | (go_simp; done)) (by go_simp; rfl) HS ?_
  refine HeldBy.take (i := 4) rfl (by kernel_rfl) (by kernel_rfl) (by kernel_rfl) (fun _ _ _ h => h) (by rfl) (fun V hV => by have h0 := hV.2.2.1.c0; have h1 := hV.2.2.1.c1; first | (go_simp; rfl) | (go_simp; done)) (by go_simp; rfl) HS ?_
  refine HeldBy.take (i := 5) (v := .int .i64 n) rfl (by kernel_rfl) (by kernel_rfl) (by kernel_rfl) (fun _ _ _ h => h) (by rfl) (fun V hV => exec_fails rfl rfl rfl hV.2.1 HF0.out) (by go_simp; rfl) HS ?_
  refine HeldBy.take (i := 6) (v := .int .i64 (n + 1)) rfl (by kernel_rfl) (by kernel_rfl) (by kernel_rfl) (fun _ _ _ h => h) (by rfl) (fun _ _ => by first | (go_simp; done) | (go_simp; exact IntWalk.i64_in _ (by omega))) (by go_simp; rfl) HS ?_
  refine HeldBy.take (i := 7) (v := .int .i64 F) rfl (by kernel_rfl) (by kernel_rfl) (by kernel_rfl) (fun _ _ _ h => h) (by rfl) (fun _ _ => by rcases HFF.out with ⟨h, rfl⟩ | ⟨rfl, rfl⟩ <;> first | (go_simp; done) | (go_simp; omega)) (by go_simp; rfl) HS ?_
  refine HeldBy.take (i := 8) rfl (by kernel_rfl) (by kernel_rfl) (by kernel_rfl) (fun _ _ _ h => h) (by rfl) (fun _ _ => by first | (go_simp; rfl) | (go_simp; done)) (by go_simp; rfl) HS ?_
  refine wpAnyH_done (by kernel_rfl) ?_ _
  have HK := Lib.hid HS.2.2.1
  have HQ := Lib.hid HS.2.2.2.1
  have HL := Lib.hid HS.2.2.2.2
  clear HS
  go_upto_region 4 with (fail)
  refine wp_region_held_drew (S := fun V => KAt V w.heap.size k) (by kernel_rfl) HK.out (fun _ => ?_)
  refine HeldBy.gen (fun V => (KAt V w.heap.size k) ∧ (QIs B R V q bd bf line due fails) ∧ (Below w.heap.size w V)) ⟨HK.out, HQ.out.drew, HL.out.drew⟩ ?_
  clear HK HQ HL
  rintro U0 ⟨HS, HQ, HL⟩
  refine HeldBy.take (i := 0) rfl (by kernel_rfl) (by kernel_rfl) (by kernel_rfl) (fun _ _ _ h => h) (by rfl) (fun _ _ => by first | (go_simp; rfl) | (go_simp; done)) (by first | (go_simp; rfl) | (go_simp; done)) HS ?_
  refine HeldBy.take (i := 1) rfl (by kernel_rfl) (by kernel_rfl) (by kernel_rfl) (fun _ _ _ h => h) (by rfl) (fun V hV => by have h0 := hV.c0; have h1 := hV.c1; first | (go_simp; rfl) | (go_simp; done)) (by first | (go_simp; rfl) | (go_simp; done)) HS ?_
  refine HeldBy.take (i := 2) rfl (by kernel_rfl) (by kernel_rfl) (by kernel_rfl) (fun _ _ _ h => h) (by rfl) (fun _ _ => by first | (go_simp; rfl) | (go_simp; done)) (by first | (go_simp; rfl) | (go_simp; done)) HS ?_
  refine HeldBy.take (i := 3) rfl (by kernel_rfl) (by kernel_rfl) (by kernel_rfl) (fun _ _ _ h => h) (by rfl) (fun _ _ => by first | (go_simp; rfl) | (go_simp; done)) (by first | (go_simp; rfl) | (go_simp; done)) HS ?_
  refine HeldBy.call (i := 4) (v := .int .u64 (delayN F)) rfl (by kernel_rfl) (by rfl) (by first | (go_simp; done) | (go_simp; first | exact ⟨rfl, rfl⟩ | rfl)) (by first | (go_simp; rfl) | (go_simp; done)) ?_
  refine (delay_b F _ (by omega) (by omega)).mono ?_
  rintro e U1 ⟨rfl, hb⟩
  replace HS : KAt U1 w.heap.size k := HS.after hb
  replace HQ := HQ.after hb
  replace HL := HL.trans (hb.mono HL.size)
  refine ⟨rfl, HS, ?_⟩
  clear hb
  refine HeldBy.call (i := 5) (v := .int .u64 (now + min (delayN F) (18446744073709551615 - now))) rfl (by kernel_rfl) (by rfl) (by first | (go_simp; done) | (go_simp; first | exact ⟨rfl, rfl⟩ | rfl)) (by first | (go_simp; rfl) | (go_simp; done)) ?_
  refine (later_b now (delayN F) _ hnow HDB.out).mono ?_
  rintro e U2 ⟨rfl, hb⟩
  replace HS : KAt U2 w.heap.size k := HS.after hb
  replace HQ := HQ.after hb
  replace HL := HL.trans (hb.mono HL.size)
  refine ⟨rfl, HS, ?_⟩
  clear hb
  refine HeldBy.call (i := 6) (v := .int .i64 0) rfl (by kernel_rfl) (by rfl) (by first | (go_simp; done) | (go_simp; first | exact ⟨rfl, rfl⟩ | rfl)) (by first | (go_simp; rfl) | (go_simp; done)) ?_
  refine (wait_any B R q bd bf line due fails k (now + min (delayN F) (18446744073709551615 - now)) _ HQ HRM.out).mono ?_
  rintro e U3 ⟨rfl, hq3, hb3, hp3⟩
  have hk3 : KAt U3 w.heap.size k := HS.of_heap (hp3 _ HS.lt (by omega) (by omega) (by omega) fun sl hs e => by
    have := HRW.out sl (hs.of_heap (HL.block q hqw).symm) _ e.symm
    omega)
  have hp4 := hp3.step HL hqw
  have hb4 := (HL.mono hBw).trans hb3
  refine ⟨rfl, hk3, ?_⟩
  refine HeldBy.take (i := 7) rfl (by kernel_rfl) (by kernel_rfl) (by kernel_rfl) (fun _ _ _ h => h) (by rfl) (fun _ _ => by first | (go_simp; rfl) | (go_simp; done)) (by first | (go_simp; rfl) | (go_simp; done)) hk3 ?_
  refine wpAnyH_done (by kernel_rfl) ?_ _
  clear HS HQ HL
  obtain ⟨sl3, ha3, -⟩ := hq3.at_
  have HA := Lib.hid ha3
  have HK := Lib.hid hk3
  have HQ := Lib.hid hq3
  have HL := Lib.hid hb4
  have HP := Lib.hid hp4
  clear hk3 hq3 hb3 hp3 hp4 hb4 ha3
  go_upto_region 7 with (fail)
  refine wp_region_held_drew (S := fun V => QAt V q sl3 bd bf ∧ KAt V w.heap.size k) (by kernel_rfl) ⟨HA.out, HK.out⟩ (fun _ => ?_)
  refine HeldBy.gen (fun V => (QAt V q sl3 bd bf ∧ KAt V w.heap.size k) ∧ (QIs B R V q bd bf (lineN k due line) (KM.put k (.int .u64 (now + min (delayN F) (18446744073709551615 - now))) due) fails) ∧ (Kp w V q bd bf) ∧ (Below B w V)) ⟨⟨HA.out, HK.out⟩, HQ.out.drew, HP.out, HL.out.drew⟩ ?_
  clear HA HK HQ HP HL
  rintro U0 ⟨HS, HQ, HP, HL⟩
  refine HeldBy.take (i := 0) rfl (by kernel_rfl) (by kernel_rfl) (by kernel_rfl) (fun _ _ _ h => h) (by rfl) (fun _ _ => by first | (go_simp; rfl) | (go_simp; done)) (by first | (go_simp; rfl) | (go_simp; done)) HS ?_
  refine HeldBy.take (i := 1) rfl (by kernel_rfl) (by kernel_rfl) (by kernel_rfl) (fun _ _ _ h => h) (by rfl) (fun _ _ => by first | (go_simp; rfl) | (go_simp; done)) (by first | (go_simp; rfl) | (go_simp; done)) HS ?_
  refine HeldBy.take (i := 2) rfl (by kernel_rfl) (by kernel_rfl) (by kernel_rfl) (fun _ _ _ h => h) (by rfl) (fun _ _ => by first | (go_simp; rfl) | (go_simp; done)) (by first | (go_simp; rfl) | (go_simp; done)) HS ?_
  refine HeldBy.take (i := 3) rfl (by kernel_rfl) (by kernel_rfl) (by kernel_rfl) (fun _ _ _ h => h) (by rfl) (fun V hV => by have hc := hV.1.c2; first | (go_simp; rfl) | (go_simp; done)) (by first | (go_simp; rfl) | (go_simp; done)) HS ?_
  refine HeldBy.take (i := 4) rfl (by kernel_rfl) (by kernel_rfl) (by kernel_rfl) (fun _ _ _ h => h) (by rfl) (fun V hV => by have h0 := hV.2.c0; have h1 := hV.2.c1; first | (go_simp; rfl) | (go_simp; done)) (by first | (go_simp; rfl) | (go_simp; done)) HS ?_
  refine HeldBy.take (i := 5) rfl (by kernel_rfl) (by kernel_rfl) (by kernel_rfl) (fun _ _ _ h => h) (by rfl) (fun _ _ => by first | (go_simp; rfl) | (go_simp; done)) (by first | (go_simp; rfl) | (go_simp; done)) HS ?_
  obtain ⟨W', hrun, hm, ht⟩ := exec_update HQ.fails k (.int .i64 F) und_tI
  refine HeldBy.store (i := 6) (w' := W') rfl (by kernel_rfl) (by rfl) (hrun rfl rfl rfl rfl) (by go_simp; rfl) ⟨HS.1.of_heap (ht.block q (by
    obtain ⟨es, c, hb, -⟩ := HQ.fails
    intro e
    have ha := HS.1
    subst e
    unfold QAt at ha
    rw [hb] at ha
    cases ha)), HS.2.of_heap (ht.block _ (by omega))⟩ ?_
  refine wpAnyH_done (by kernel_rfl) ?_ _
  have HF := Lib.hid (HQ.turn_fails ht hm)
  have HG := Lib.hid (HL.trans (ht.below HQ.low.2.2))
  have HPP : Hid (Kp w W' q bd bf) := fun b hb h1 h2 h3 h4 => (ht.block b h3).trans (HP b hb h1 h2 h3 h4)
  clear HQ HL HP ht hm hrun HS
  go_wp2
  go_ret
  exact ⟨rfl, HF.out, HG.out, HPP.out⟩
end Go.Proofs.Ytjmiodbpebaajaa.W
