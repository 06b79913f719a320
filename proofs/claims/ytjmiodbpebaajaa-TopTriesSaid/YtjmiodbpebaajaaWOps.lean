/- Add, Forget, Fails; a line that is full. -/
import Derived.Test.YtjmiodbpebaajaaWLive
namespace Go.Proofs.Ytjmiodbpebaajaa.W
open Go Go.RowKit KM
open Go.Lib

set_option maxRecDepth 100000 in
set_option maxHeartbeats 4000000 in
/-- One that did not wait, and there is no room. -/
theorem wait_full (B R q bd bf : Nat) (line : List Ky) (due fails : List (Ky × Value)) (k : Ky) (d : Int) (w : World) (h : QIs B R w q bd bf line due fails) (hv : KM.get k due = none) (hn : 256 ≤ line.length) :
    Calls Try.prog 37 #[.pointer (some ⟨q, 0, none⟩), encK k, .int .u64 d] w fun e w' => e = .returned (.int .i64 7) ∧ QIs B R w' q bd bf line due fails ∧ Below w.heap.size w w' := by
  obtain ⟨sl, ha0, hr0⟩ := h.at_
  have hrb := row_lt hr0
  have HA0 := Lib.hid ha0
  have HR0 := Lib.hid hr0
  have HV := Lib.hid hv
  have H0 := Lib.hid h
  clear h hv ha0 hr0
  unfold encK
  go_enter Try.func37, Try.ntmps37
  go_upto_region 1 with (fail)
  refine wp_gen (fun V => KAt V w.heap.size k ∧ QIs B R V q bd bf line due fails ∧ Below w.heap.size w V ∧ QAt V q sl bd bf ∧ V.ownsRow R 25 2 sl line.length (flat line)) ⟨KAt.new w k, H0.out.after ((Below.refl _ _).alloc (Nat.le_refl _) _), (Below.refl _ _).alloc (Nat.le_refl _) _, HA0.out.after ((Below.refl _ _).alloc (Nat.le_refl _) _), ownsRow_of HR0.out fun g cs hg => Below.heap_alloc w _ g (Array.getElem?_eq_some_iff.1 hg).1⟩ ?_
  have hBw := H0.out.size
  have HA00 := Lib.hid HA0.out
  clear H0 HA0 HR0
  rintro V ⟨hk, hq, hlow, ha, hr⟩
  have HQ := Lib.hid hq
  have HK := Lib.hid hk
  have HA := Lib.hid ha
  have HD := Lib.hid hq.due
  have HR := Lib.hid hr
  have HL := Lib.hid hlow
  clear hk hq hlow ha hr
  refine wp_region_held_drew (S := fun V => QAt V q sl bd bf ∧ IsMap encK V bd due ∧ KAt V w.heap.size k ∧ QIs B R V q bd bf line due fails ∧ V.ownsRow R 25 2 sl line.length (flat line) ∧ Below w.heap.size w V) (by kernel_rfl) ⟨HA.out, HD.out, HK.out, HQ.out.drew, HR.out, HL.out.drew⟩ (fun _ => ?_)
  refine HeldBy.gen (fun V => QAt V q sl bd bf ∧ IsMap encK V bd due ∧ KAt V w.heap.size k ∧ QIs B R V q bd bf line due fails ∧ V.ownsRow R 25 2 sl line.length (flat line) ∧ Below w.heap.size w V) ⟨HA.out, HD.out, HK.out, HQ.out.drew, HR.out, HL.out.drew⟩ ?_
  clear HA HD HK HQ HR HL
  rintro U0 HS
  refine HeldBy.take (i := 0) rfl (by kernel_rfl) (by kernel_rfl) (by kernel_rfl) (fun _ _ _ h => h) (by rfl) (fun _ _ => by first | (go_simp; rfl) | (go_simp; done)) (by go_simp; rfl) HS ?_
  refine HeldBy.take (i := 1) rfl (by kernel_rfl) (by kernel_rfl) (by kernel_rfl) (fun _ _ _ h => h) (by rfl) (fun _ _ => by first | (go_simp; rfl) | (go_simp; done)) (by go_simp; rfl) HS ?_
  refine HeldBy.take (i := 2) rfl (by kernel_rfl) (by kernel_rfl) (by kernel_rfl) (fun _ _ _ h => h) (by rfl) (fun _ _ => by first | (go_simp; rfl) | (go_simp; done)) (by go_simp; rfl) HS ?_
  refine HeldBy.take (i := 3) rfl (by kernel_rfl) (by kernel_rfl) (by kernel_rfl) (fun _ _ _ h => h) (by rfl) (fun V hV => by have hc := hV.1.c1; first | (go_simp; rfl) | (go_simp; done)) (by go_simp; rfl) HS ?_
  refine HeldBy.take (i := 4) rfl (by kernel_rfl) (by kernel_rfl) (by kernel_rfl) (fun _ _ _ h => h) (by rfl) (fun V hV => by have h0 := hV.2.2.1.c0; have h1 := hV.2.2.1.c1; first | (go_simp; rfl) | (go_simp; done)) (by go_simp; rfl) HS ?_
  refine HeldBy.take (i := 5) (v := .tuple #[.int .u64 0, .bool false]) rfl (by kernel_rfl) (by kernel_rfl) (by kernel_rfl) (fun _ _ _ h => h) (by rfl) (fun V hV => exec_lookup_no rfl und_tU zero_u rfl rfl hV.2.1 HV.out) (by go_simp; rfl) HS ?_
  refine HeldBy.take (i := 6) rfl (by kernel_rfl) (by kernel_rfl) (by kernel_rfl) (fun _ _ _ h => h) (by rfl) (fun _ _ => by first | (go_simp; rfl) | (go_simp; done)) (by go_simp; rfl) HS ?_
  refine HeldBy.take (i := 7) rfl (by kernel_rfl) (by kernel_rfl) (by kernel_rfl) (fun _ _ _ h => h) (by rfl) (fun _ _ => by first | (go_simp; rfl) | (go_simp; done)) (by go_simp; rfl) HS ?_
  refine HeldBy.take (i := 8) rfl (by kernel_rfl) (by kernel_rfl) (by kernel_rfl) (fun _ _ _ h => h) (by rfl) (fun _ _ => by first | (go_simp; rfl) | (go_simp; done)) (by go_simp; rfl) HS ?_
  refine HeldBy.take (i := 9) rfl (by kernel_rfl) (by kernel_rfl) (by kernel_rfl) (fun _ _ _ h => h) (by rfl) (fun _ _ => by first | (go_simp; rfl) | (go_simp; done)) (by go_simp; rfl) HS ?_
  refine HeldBy.take (i := 10) rfl (by kernel_rfl) (by kernel_rfl) (by kernel_rfl) (fun _ _ _ h => h) (by rfl) (fun _ _ => by first | (go_simp; rfl) | (go_simp; done)) (by go_simp; rfl) HS ?_
  refine wpAnyH_done (by kernel_rfl) ?_ _
  have HA := Lib.hid HS.1
  have HK := Lib.hid HS.2.2.1
  have HQ := Lib.hid HS.2.2.2.1
  have HR := Lib.hid HS.2.2.2.2.1
  have HL := Lib.hid HS.2.2.2.2.2
  clear HS
  have hshape : (sl = .slice none 0 0 ∧ line.length = 0) ∨ ∃ g cap, sl = .slice (some ⟨g, 0, none⟩) line.length cap := by
    rcases HR.out.2 with ⟨h1, h2⟩ | ⟨g, cap, cur, h1, -⟩
    · exact .inl ⟨h1, h2⟩
    · exact .inr ⟨g, cap, h1⟩
  have hlen : (256 : Int) ≤ (line.length : Int) := by omega
  generalize hN : line.length = N at hlen hshape
  rcases hshape with ⟨rfl, rfl⟩ | ⟨g, cap, rfl⟩
  · exact absurd hlen (by decide)
  · have c0 := HA.out.c0
    have HF := Lib.hid HQ.out
    have HG := Lib.hid HL.out
    clear HQ HL HA HR HK HV
    go_wp2
    go_ret
    exact ⟨rfl, HF.out, HG.out⟩

set_option maxRecDepth 100000 in
set_option maxHeartbeats 2000000 in
theorem add_any (B R q bd bf : Nat) (line : List Ky) (due fails : List (Ky × Value)) (k : Ky) (w : World) (h : QIs B R w q bd bf line due fails) (hn : KM.get k due = none → line.length < 256) :
    Calls Try.prog 17 #[.pointer (some ⟨q, 0, none⟩), encK k] w fun e w' => e = .returned (.int .i64 0) ∧ QIs B R w' q bd bf (lineN k due line) (KM.put k (.int .u64 0) due) fails ∧ Below B w w' ∧ Kp w w' q bd bf := by
  have hqw : q < w.heap.size := by
    obtain ⟨sl, ha, -⟩ := h.at_
    exact ha.lt
  have HR := Lib.hid hn
  have H0 := Lib.hid h
  clear h hn
  unfold encK
  go_enter Try.func17, Try.ntmps17
  go_upto_region 1 with (fail)
  refine wp_gen (fun V => KAt V w.heap.size k ∧ QIs B R V q bd bf line due fails ∧ Below w.heap.size w V) ⟨KAt.new w k, H0.out.after ((Below.refl _ _).alloc (Nat.le_refl _) _), (Below.refl _ _).alloc (Nat.le_refl _) _⟩ ?_
  have hBw := H0.out.size
  clear H0
  rintro V ⟨hk, hq, hlow⟩
  have HQ := Lib.hid hq
  have HL := Lib.hid hlow
  have k0 := hk.c0
  have k1 := hk.c1
  clear hk hq hlow
  go_wp2_with fail
  refine (wait_any B R q bd bf line due fails k 0 _ HQ.out HR.out).mono ?_
  rintro e W1 ⟨rfl, h1, h2, h3⟩
  have HF := Lib.hid h1
  have HG := Lib.hid ((HL.out.mono hBw).trans h2)
  have HP : Hid (Kp w W1 q bd bf) := h3.step HL.out hqw
  clear h1 h2 h3 HQ HL k0 k1
  go_wp2
  go_ret
  exact ⟨rfl, HF.out, HG.out, HP.out⟩
theorem exec_delete {W : World} {b : Nat} {m : List (Ky × Value)} (h : IsMap encK W b m) (k : Ky) {t e : TypeId} (ht : Try.prog.underlying t = some (.map 25 e)) :
    ∃ W', (∀ {oi : Oper} {a : Act} {p r : Operand} {kt : TypeId}, oi.op = .call { callee := .builtin .delete, args := #[p, r], argTypes := #[t, kt] } → a.eval p = .map (some b) → a.eval r = encK k → (execOp a.eval oi).run Try.prog W = .ok (.value (.tuple #[])) W') ∧ IsMap encK W' b (KM.del k m) ∧ Turned W W' b := by
  obtain ⟨W', h1, h2, h3⟩ := run_delete (kt' := 25) keyT ht h k 0
  refine ⟨W', fun {oi a p r kt} ho hm hk => ?_, h2, h3⟩
  have h4 : (Builtin.delete_ #[t, kt] oi.type #[.map (some b), encK k]).run Try.prog W = .ok (.tuple #[]) W' := h1
  unfold execOp
  simp [ho, resolve, invoke, builtin, hm, hk, h4, Result.andThen]
set_option maxRecDepth 100000 in
set_option maxHeartbeats 2000000 in
theorem forget_any (B R q bd bf : Nat) (line : List Ky) (due fails : List (Ky × Value)) (k : Ky) (w : World) (h : QIs B R w q bd bf line due fails) :
    Calls Try.prog 24 #[.pointer (some ⟨q, 0, none⟩), encK k] w fun e w' => e = .returned (.int .i64 0) ∧ QIs B R w' q bd bf line due (KM.del k fails) ∧ Below B w w' ∧ Kp w w' q bd bf := by
  have hfw := h.fails.lt
  have H0 := Lib.hid h
  clear h
  unfold encK
  go_enter Try.func24, Try.ntmps24
  go_upto_region 1 with (fail)
  refine wp_gen (fun V => KAt V w.heap.size k ∧ QIs B R V q bd bf line due fails ∧ Below w.heap.size w V) ⟨KAt.new w k, H0.out.after ((Below.refl _ _).alloc (Nat.le_refl _) _), (Below.refl _ _).alloc (Nat.le_refl _) _⟩ ?_
  have hBw := H0.out.size
  clear H0
  rintro V ⟨hk, hq, hlow⟩
  obtain ⟨sl, ha, -⟩ := hq.at_
  have HQ := Lib.hid hq
  have HK := Lib.hid hk
  have HA := Lib.hid ha
  have HL := Lib.hid hlow
  clear hk hq hlow ha
  go_upto_region 3 with (fail)
  refine wp_region_held_drew (S := fun V => QAt V q sl bd bf ∧ KAt V w.heap.size k) (by kernel_rfl) ⟨HA.out, HK.out⟩ (fun _ => ?_)
  refine HeldBy.gen (fun V => (QAt V q sl bd bf ∧ KAt V w.heap.size k) ∧ (QIs B R V q bd bf line due fails) ∧ (Below w.heap.size w V)) ⟨⟨HA.out, HK.out⟩, HQ.out.drew, HL.out.drew⟩ ?_
  clear HA HK HQ HL
  rintro U0 ⟨HS, HQ, HL⟩
  refine HeldBy.take (i := 0) rfl (by kernel_rfl) (by kernel_rfl) (by kernel_rfl) (fun _ _ _ h => h) (by rfl) (fun _ _ => by first | (go_simp; rfl) | (go_simp; done)) (by first | (go_simp; rfl) | (go_simp; done)) HS ?_
  refine HeldBy.take (i := 1) rfl (by kernel_rfl) (by kernel_rfl) (by kernel_rfl) (fun _ _ _ h => h) (by rfl) (fun _ _ => by first | (go_simp; rfl) | (go_simp; done)) (by first | (go_simp; rfl) | (go_simp; done)) HS ?_
  refine HeldBy.take (i := 2) rfl (by kernel_rfl) (by kernel_rfl) (by kernel_rfl) (fun _ _ _ h => h) (by rfl) (fun _ _ => by first | (go_simp; rfl) | (go_simp; done)) (by first | (go_simp; rfl) | (go_simp; done)) HS ?_
  refine HeldBy.take (i := 3) rfl (by kernel_rfl) (by kernel_rfl) (by kernel_rfl) (fun _ _ _ h => h) (by rfl) (fun V hV => by have hc := hV.1.c2; first | (go_simp; rfl) | (go_simp; done)) (by first | (go_simp; rfl) | (go_simp; done)) HS ?_
  refine HeldBy.take (i := 4) rfl (by kernel_rfl) (by kernel_rfl) (by kernel_rfl) (fun _ _ _ h => h) (by rfl) (fun V hV => by have h0 := hV.2.c0; have h1 := hV.2.c1; first | (go_simp; rfl) | (go_simp; done)) (by first | (go_simp; rfl) | (go_simp; done)) HS ?_
  obtain ⟨W', hrun, hm, ht⟩ := exec_delete HQ.fails k und_tI
  refine HeldBy.value (i := 5) (v := .tuple #[]) (w' := W') rfl (by kernel_rfl) (by rfl) (hrun rfl rfl rfl) (by go_simp; rfl) ⟨HS.1.of_heap (ht.block q (by
    obtain ⟨es, c, hb, -⟩ := HQ.fails
    intro e
    have ha := HS.1
    subst e
    unfold QAt at ha
    rw [hb] at ha
    cases ha)), HS.2.of_heap (ht.block _ (by omega))⟩ ?_
  refine wpAnyH_done (by kernel_rfl) ?_ _
  have HF := Lib.hid (HQ.turn_fails ht hm)
  have HG := Lib.hid ((HL.mono hBw).trans (ht.below HQ.low.2.2))
  have HP : Hid (Kp w W' q bd bf) := fun b hb h1 h2 h3 h4 => (ht.block b h3).trans (HL.block b hb)
  clear HQ HL ht hm hrun HS
  go_wp2
  go_ret
  exact ⟨rfl, HF.out, HG.out, HP.out⟩
set_option maxRecDepth 100000 in
set_option maxHeartbeats 2000000 in
theorem fails_any (B R q bd bf : Nat) (line : List Ky) (due fails : List (Ky × Value)) (k : Ky) (n : Int) (w : World) (h : QIs B R w q bd bf line due fails) (hf : KM.get k fails = none ∧ n = 0 ∨ KM.get k fails = some (.int .i64 n)) :
    Calls Try.prog 26 #[.pointer (some ⟨q, 0, none⟩), encK k] w fun e w' => e = .returned (.int .i64 n) ∧ Below w.heap.size w w' := by
  have HV := Lib.hid hf
  have H0 := Lib.hid h
  clear h hf
  unfold encK
  go_enter Try.func26, Try.ntmps26
  go_upto_region 1 with (fail)
  refine wp_gen (fun V => KAt V w.heap.size k ∧ QIs B R V q bd bf line due fails ∧ Below w.heap.size w V) ⟨KAt.new w k, H0.out.after ((Below.refl _ _).alloc (Nat.le_refl _) _), (Below.refl _ _).alloc (Nat.le_refl _) _⟩ ?_
  clear H0
  rintro V ⟨hk, hq, hlow⟩
  obtain ⟨sl, ha, -⟩ := hq.at_
  have HK := Lib.hid hk
  have HA := Lib.hid ha
  have HD := Lib.hid hq.fails
  have HL := Lib.hid hlow
  clear hk hq hlow ha
  go_upto_region 3 with (fail)
  refine wp_region_held_drew (S := fun V => QAt V q sl bd bf ∧ IsMap encK V bf fails ∧ KAt V w.heap.size k ∧ Below w.heap.size w V) (by kernel_rfl) ⟨HA.out, HD.out, HK.out, HL.out.drew⟩ (fun _ => ?_)
  refine HeldBy.gen (fun V => QAt V q sl bd bf ∧ IsMap encK V bf fails ∧ KAt V w.heap.size k ∧ Below w.heap.size w V) ⟨HA.out, HD.out, HK.out, HL.out.drew⟩ ?_
  clear HA HD HK HL
  rintro U0 HS
  refine HeldBy.take (i := 0) rfl (by kernel_rfl) (by kernel_rfl) (by kernel_rfl) (fun _ _ _ h => h) (by rfl) (fun _ _ => by first | (go_simp; rfl) | (go_simp; done)) (by go_simp; rfl) HS ?_
  refine HeldBy.take (i := 1) rfl (by kernel_rfl) (by kernel_rfl) (by kernel_rfl) (fun _ _ _ h => h) (by rfl) (fun _ _ => by first | (go_simp; rfl) | (go_simp; done)) (by go_simp; rfl) HS ?_
  refine HeldBy.take (i := 2) rfl (by kernel_rfl) (by kernel_rfl) (by kernel_rfl) (fun _ _ _ h => h) (by rfl) (fun _ _ => by first | (go_simp; rfl) | (go_simp; done)) (by go_simp; rfl) HS ?_
  refine HeldBy.take (i := 3) rfl (by kernel_rfl) (by kernel_rfl) (by kernel_rfl) (fun _ _ _ h => h) (by rfl) (fun V hV => by have hc := hV.1.c2; first | (go_simp; rfl) | (go_simp; done)) (by go_simp; rfl) HS ?_
  refine HeldBy.take (i := 4) rfl (by kernel_rfl) (by kernel_rfl) (by kernel_rfl) (fun _ _ _ h => h) (by rfl) (fun V hV => by have h0 := hV.2.2.1.c0; have h1 := hV.2.2.1.c1; first | (go_simp; rfl) | (go_simp; done)) (by go_simp; rfl) HS ?_
  refine HeldBy.take (i := 5) (v := .int .i64 n) rfl (by kernel_rfl) (by kernel_rfl) (by kernel_rfl) (fun _ _ _ h => h) (by rfl) (fun V hV => exec_fails rfl rfl rfl hV.2.1 HV.out) (by go_simp; rfl) HS ?_
  refine HeldBy.take (i := 6) rfl (by kernel_rfl) (by kernel_rfl) (by kernel_rfl) (fun _ _ _ h => h) (by rfl) (fun _ _ => by first | (go_simp; rfl) | (go_simp; done)) (by go_simp; rfl) HS ?_
  refine wpAnyH_done (by kernel_rfl) ?_ _
  have HF := Lib.hid HS.2.2.2
  clear HS
  go_wp2
  go_ret
  exact ⟨rfl, HF.out⟩
end Go.Proofs.Ytjmiodbpebaajaa.W
