/- Fail at a line that is full. -/
import Derived.Test.YtjmiodbpebaajaaWOps
namespace Go.Proofs.Ytjmiodbpebaajaa.W
open Go Go.RowKit KM
open Go.Lib

set_option maxRecDepth 100000 in
set_option maxHeartbeats 4000000 in
theorem fail_full (B R q bd bf : Nat) (line : List Ky) (due fails : List (Ky × Value)) (k : Ky) (now n F : Int) (w : World) (h : QIs B R w q bd bf line due fails) (hf : KM.get k fails = none ∧ n = 0 ∨ KM.get k fails = some (.int .i64 n))
    (hn : 0 ≤ n ∧ n ≤ 40) (hF : n + 1 ≤ 40 ∧ F = n + 1 ∨ n = 40 ∧ F = 40) (hnow : 0 ≤ now ∧ now ≤ 18446744073709551615) (hd : KM.get k due = none) (hl : 256 ≤ line.length) :
    Calls Try.prog 25 #[.pointer (some ⟨q, 0, none⟩), encK k, .int .u64 now] w fun e w' => e = .returned (.int .i64 7) ∧ QIs B R w' q bd bf line due fails ∧ Below w.heap.size w w' := by
  have hrows := h.rows
  have hqw : q < w.heap.size := by
    obtain ⟨sl, ha, -⟩ := h.at_
    exact ha.lt
  have hdw := h.due.lt
  have hfw := h.fails.lt
  have hFb : 1 ≤ F ∧ F ≤ 40 := by omega
  have HF0 := Lib.hid hf
  have HFF := Lib.hid hF
  have H0 := Lib.hid h
  have HRM := Lib.hid hd
  have HRW := Lib.hid hrows
  have HDB := Lib.hid (delay_bounds F)
  obtain ⟨hn0, hn1⟩ := hn
  clear h hf hF hd hrows
  unfold encK
  go_enter Try.func25, Try.ntmps25
  go_upto_region 1 with (fail)
  refine wp_gen (fun V => KAt V w.heap.size k ∧ QIs B R V q bd bf line due fails ∧ Below w.heap.size w V) ⟨KAt.new w k, H0.out.after ((Below.refl _ _).alloc (Nat.le_refl _) _), (Below.refl _ _).alloc (Nat.le_refl _) _⟩ ?_
  have hBw := H0.out.size
  clear H0
  rintro V ⟨hk, hq, hlow⟩
  obtain ⟨sl, ha, hr⟩ := hq.at_
  have HQ := Lib.hid hq
  have HK := Lib.hid hk
  have HA := Lib.hid ha
  have HG := Lib.hid hq.fails
  have HL := Lib.hid hlow
  clear hk hq hlow ha hr
  go_upto_region 3 with (fail)
  refine wp_region_held_drew (S := fun V => QAt V q sl bd bf ∧ IsMap encK V bf fails ∧ KAt V w.heap.size k ∧ QIs B R V q bd bf line due fails ∧ Below w.heap.size w V) (by kernel_rfl) ⟨HA.out, HG.out, HK.out, HQ.out.drew, HL.out.drew⟩ (fun _ => ?_)
  refine HeldBy.gen (fun V => QAt V q sl bd bf ∧ IsMap encK V bf fails ∧ KAt V w.heap.size k ∧ QIs B R V q bd bf line due fails ∧ Below w.heap.size w V) ⟨HA.out, HG.out, HK.out, HQ.out.drew, HL.out.drew⟩ ?_
  clear HA HG HK HQ HL
  rintro U0 HS
  refine HeldBy.take (i := 0) rfl (by kernel_rfl) (by kernel_rfl) (by kernel_rfl) (fun _ _ _ h => h) (by rfl) (fun _ _ => by first | (go_simp; rfl) | (go_simp; done)) (by go_simp; rfl) HS ?_
  refine HeldBy.take (i := 1) rfl (by kernel_rfl) (by kernel_rfl) (by kernel_rfl) (fun _ _ _ h => h) (by rfl) (fun _ _ => by first | (go_simp; rfl) | (go_simp; done)) (by go_simp; rfl) HS ?_
  refine HeldBy.take (i := 2) rfl (by kernel_rfl) (by kernel_rfl) (by kernel_rfl) (fun _ _ _ h => h) (by rfl) (fun _ _ => by first | (go_simp; rfl) | (go_simp; done)) (by go_simp; rfl) HS ?_
  refine HeldBy.take (i := 3) rfl (by kernel_rfl) (by kernel_rfl) (by kernel_rfl) (fun _ _ _ h => h) (by rfl) (fun V hV => by have hc := hV.1.c2; first | (go_simp; rfl) | (go_simp; done)) (by go_simp; rfl) HS ?_
  refine HeldBy.take (i := 4) rfl (by kernel_rfl) (by kernel_rfl) (by kernel_rfl) (fun _ _ _ h => h) (by rfl) (fun V hV => by have h0 := hV.2.2.1.c0; have h1 := hV.2.2.1.c1; first | (go_simp; rfl) | (go_simp; done)) (by go_simp; rfl) HS ?_
  refine HeldBy.take (i := 5) (v := .int .i64 n) rfl (by kernel_rfl) (by kernel_rfl) (by kernel_rfl) (fun _ _ _ h => h) (by rfl) (fun V hV => exec_fails rfl rfl rfl hV.2.1 HF0.out) (by go_simp; rfl) HS ?_
  refine HeldBy.take (i := 6) (v := .int .i64 (n + 1)) rfl (by kernel_rfl) (by kernel_rfl) (by kernel_rfl) (fun _ _ _ h => h) (by rfl) (fun _ _ => by first | (go_simp; done) | (go_simp; exact IntWalk.i64_in _ (by omega))) (by go_simp; rfl) HS ?_
  refine HeldBy.take (i := 7) (v := .int .i64 F) rfl (by kernel_rfl) (by kernel_rfl) (by kernel_rfl) (fun _ _ _ h => h) (by rfl) (fun _ _ => by rcases HFF.out with ⟨h, rfl⟩ | ⟨rfl, rfl⟩ <;> first | (go_simp; done) | (go_simp; omega)) (by go_simp; rfl) HS ?_
  refine HeldBy.take (i := 8) rfl (by kernel_rfl) (by kernel_rfl) (by kernel_rfl) (fun _ _ _ h => h) (by rfl) (fun _ _ => by first | (go_simp; rfl) | (go_simp; done)) (by go_simp; rfl) HS ?_
  refine wpAnyH_done (by kernel_rfl) ?_ _
  have HK := Lib.hid HS.2.2.1
  have HQ := Lib.hid HS.2.2.2.1
  have HL := Lib.hid HS.2.2.2.2
  clear HS
  go_upto_region 4 with (fail)
  refine wp_region_held_drew (S := fun V => KAt V w.heap.size k) (by kernel_rfl) HK.out (fun _ => ?_)
  refine HeldBy.gen (fun V => (KAt V w.heap.size k) ∧ (QIs B R V q bd bf line due fails) ∧ (Below w.heap.size w V)) ⟨HK.out, HQ.out.drew, HL.out.drew⟩ ?_
  clear HK HQ HL
  rintro U0 ⟨HS, HQ, HL⟩
  refine HeldBy.take (i := 0) rfl (by kernel_rfl) (by kernel_rfl) (by kernel_rfl) (fun _ _ _ h => h) (by rfl) (fun _ _ => by first | (go_simp; rfl) | (go_simp; done)) (by first | (go_simp; rfl) | (go_simp; done)) HS ?_
  refine HeldBy.take (i := 1) rfl (by kernel_rfl) (by kernel_rfl) (by kernel_rfl) (fun _ _ _ h => h) (by rfl) (fun V hV => by have h0 := hV.c0; have h1 := hV.c1; first | (go_simp; rfl) | (go_simp; done)) (by first | (go_simp; rfl) | (go_simp; done)) HS ?_
  refine HeldBy.take (i := 2) rfl (by kernel_rfl) (by kernel_rfl) (by kernel_rfl) (fun _ _ _ h => h) (by rfl) (fun _ _ => by first | (go_simp; rfl) | (go_simp; done)) (by first | (go_simp; rfl) | (go_simp; done)) HS ?_
  refine HeldBy.take (i := 3) rfl (by kernel_rfl) (by kernel_rfl) (by kernel_rfl) (fun _ _ _ h => h) (by rfl) (fun _ _ => by first | (go_simp; rfl) | (go_simp; done)) (by first | (go_simp; rfl) | (go_simp; done)) HS ?_
  refine HeldBy.call (i := 4) (v := .int .u64 (delayN F)) rfl (by kernel_rfl) (by rfl) (by first | (go_simp; done) | (go_simp; first | exact ⟨rfl, rfl⟩ | rfl)) (by first | (go_simp; rfl) | (go_simp; done)) ?_
  refine (delay_b F _ (by omega) (by omega)).mono ?_
  rintro e U1 ⟨rfl, hb⟩
  replace HS : KAt U1 w.heap.size k := HS.after hb
  replace HQ := HQ.after hb
  replace HL := HL.trans (hb.mono HL.size)
  refine ⟨rfl, HS, ?_⟩
  clear hb
  refine HeldBy.call (i := 5) (v := .int .u64 (now + min (delayN F) (18446744073709551615 - now))) rfl (by kernel_rfl) (by rfl) (by first | (go_simp; done) | (go_simp; first | exact ⟨rfl, rfl⟩ | rfl)) (by first | (go_simp; rfl) | (go_simp; done)) ?_
  refine (later_b now (delayN F) _ hnow HDB.out).mono ?_
  rintro e U2 ⟨rfl, hb⟩
  replace HS : KAt U2 w.heap.size k := HS.after hb
  replace HQ := HQ.after hb
  replace HL := HL.trans (hb.mono HL.size)
  refine ⟨rfl, HS, ?_⟩
  clear hb
  refine HeldBy.call (i := 6) (v := .int .i64 7) rfl (by kernel_rfl) (by rfl) (by first | (go_simp; done) | (go_simp; first | exact ⟨rfl, rfl⟩ | rfl)) (by first | (go_simp; rfl) | (go_simp; done)) ?_
  refine (wait_full B R q bd bf line due fails k (now + min (delayN F) (18446744073709551615 - now)) _ HQ HRM.out hl).mono ?_
  rintro e U3 ⟨rfl, hq3, hb3⟩
  have hk3 : KAt U3 w.heap.size k := HS.after hb3
  have hb4 := HL.trans (hb3.mono HL.size)
  refine ⟨rfl, hk3, ?_⟩
  refine HeldBy.take (i := 7) rfl (by kernel_rfl) (by kernel_rfl) (by kernel_rfl) (fun _ _ _ h => h) (by rfl) (fun _ _ => by first | (go_simp; rfl) | (go_simp; done)) (by first | (go_simp; rfl) | (go_simp; done)) hk3 ?_
  refine wpAnyH_done (by kernel_rfl) ?_ _
  have HF := Lib.hid hq3
  have HG := Lib.hid hb4
  clear HS HQ HL hq3 hb3 hb4 hk3
  go_wp2
  go_ret
  exact ⟨rfl, HF.out, HG.out⟩
set_option maxRecDepth 100000 in
set_option maxHeartbeats 2000000 in
theorem add_full (B R q bd bf : Nat) (line : List Ky) (due fails : List (Ky × Value)) (k : Ky) (w : World) (h : QIs B R w q bd bf line due fails) (hn : KM.get k due = none) (hl : 256 ≤ line.length) :
    Calls Try.prog 17 #[.pointer (some ⟨q, 0, none⟩), encK k] w fun e w' => e = .returned (.int .i64 7) ∧ QIs B R w' q bd bf line due fails ∧ Below w.heap.size w w' := by
  have hqw : q < w.heap.size := by
    obtain ⟨sl, ha, -⟩ := h.at_
    exact ha.lt
  have HR := Lib.hid hn
  have H0 := Lib.hid h
  clear h hn
  unfold encK
  go_enter Try.func17, Try.ntmps17
  go_upto_region 1 with (fail)
  refine wp_gen (fun V => KAt V w.heap.size k ∧ QIs B R V q bd bf line due fails ∧ Below w.heap.size w V) ⟨KAt.new w k, H0.out.after ((Below.refl _ _).alloc (Nat.le_refl _) _), (Below.refl _ _).alloc (Nat.le_refl _) _⟩ ?_
  have hBw := H0.out.size
  clear H0
  rintro V ⟨hk, hq, hlow⟩
  have HQ := Lib.hid hq
  have HL := Lib.hid hlow
  have k0 := hk.c0
  have k1 := hk.c1
  clear hk hq hlow
  go_wp2_with fail
  refine (wait_full B R q bd bf line due fails k 0 _ HQ.out HR.out hl).mono ?_
  rintro e W1 ⟨rfl, h1, h2⟩
  have HF := Lib.hid h1
  have HG := Lib.hid (HL.out.trans (h2.mono HL.out.size))
  clear h1 h2 HQ HL k0 k1
  go_wp2
  go_ret
  exact ⟨rfl, HF.out, HG.out⟩
end Go.Proofs.Ytjmiodbpebaajaa.W
