/- What a log that is nil answers. -/
import Derived.Test.YtfiahkomabllaaaLCrash
import Derived.Lib.SlBytesConst
namespace Go.Proofs.Ytfiahkomabllaaa.L
open Go Go.RowKit
open Go.Lib

theorem append_nil (rv : Value) (w : World) : Calls Try.prog 21 #[.pointer none, rv] w fun e w' => e = .returned (.int .i64 1) ∧ w' = w := by
  go_enter Try.func21, Try.ntmps21
  go_wp2
  go_ret
  exact ⟨rfl, rfl⟩
theorem sync_nil (w : World) : Calls Try.prog 18 #[.pointer none] w fun e w' => e = .returned (.int .i64 1) ∧ w' = w := by
  go_enter Try.func18, Try.ntmps18
  go_wp2
  go_ret
  exact ⟨rfl, rfl⟩
theorem crash_nil (k t : Value) (w : World) : Calls Try.prog 22 #[.pointer none, k, t] w fun e w' => e = .returned (.int .i64 1) ∧ w' = w := by
  go_enter Try.func22, Try.ntmps22
  go_wp2
  go_ret
  exact ⟨rfl, rfl⟩
theorem clean_nil (w : World) : Calls Try.prog 25 #[.pointer none] w fun e w' => e = .returned (.int .i64 1) ∧ w' = w := by
  go_enter Try.func25, Try.ntmps25
  go_wp2
  go_ret
  exact ⟨rfl, rfl⟩
theorem free_nil (w : World) : Calls Try.prog 26 #[.pointer none] w fun e w' => e = .returned (.int .i64 0) ∧ w' = w := by
  go_enter Try.func26, Try.ntmps26
  go_wp2
  go_ret
  exact ⟨rfl, rfl⟩
theorem bytes_nil (w : World) : Calls Try.prog 20 #[.pointer none] w fun e w' => e = .returned (.slice none 0 0) ∧ w' = w := by
  go_enter Try.func20, Try.ntmps20
  go_wp2
  go_ret
  exact ⟨rfl, rfl⟩
theorem fork_nil (w : World) : Calls Try.prog 28 #[.pointer none] w fun e w' => e = .returned (.pointer none) ∧ w' = w := by
  go_enter Try.func28, Try.ntmps28
  go_wp2
  go_ret
  exact ⟨rfl, rfl⟩
theorem records_nil (w : World) : Calls Try.prog 19 #[.pointer none] w fun e w' => e = .returned (.slice none 0 0) ∧ w' = w := by
  go_enter Try.func19, Try.ntmps19
  go_wp2
  go_ret
  exact ⟨rfl, rfl⟩

/-! What must be whatever is asked. -/
def abc : Bytes := [97, 98, 99]
def wiki : Bytes := [87, 105, 107, 105, 112, 101, 100, 105, 97]
theorem live_app : appS ⟨4, 0, []⟩ abc = (0, ⟨4, 0, laid abc 1⟩) := by kernel_rfl
theorem live_recs : recs (laid abc 1) = [abc] := by kernel_rfl
theorem live_crash : crashS ⟨4, 0, laid abc 1⟩ 0 0 = (0, ⟨4, 0, []⟩) := by kernel_rfl
theorem live_sum : sum wiki = 300286872 := by kernel_rfl
theorem built_bytes (l : Bytes) (W : World) (f : Nat × Nat) : ((Below W.heap.size W (W.alloc (.cells (l.map bv).toArray 5 f)))) ∧ (l.length ≤ 1000 → BytesIn (W.alloc (.cells (l.map bv).toArray 5 f)) (.slice (some ⟨W.heap.size, 0, none⟩) l.length l.length) l) := by
  refine ⟨(Below.refl _ _).alloc (Nat.le_refl _) _, fun hl => .inr ⟨W.heap.size, 0, l.length, rfl, Nat.le_refl _, by have : maxLen = 9223372036854775807 := rfl; omega, by simp, fun i hi => ?_⟩⟩
  rw [cell_of_row _ _ _ _ _ _ (heap_alloc_new W _), Nat.zero_add]
  simp [hi]
theorem RecsIn.shape {W : World} {B : Nat} {v : Value} {L : List Bytes} (h : RecsIn W B v L) : ∃ a c, v = .slice a L.length c := by
  obtain ⟨xs, rfl, h1, -⟩ := h
  rcases h1.2 with ⟨rfl, h0⟩ | ⟨g, cap, cur, rfl, -⟩
  · refine ⟨none, 0, ?_⟩
    rw [List.length_map] at h0 ⊢
    rw [h0]
  · exact ⟨some ⟨g, 0, none⟩, cap, by rw [List.length_map, List.length_map]⟩
theorem wpList_conv {ops : Array Oper} {rest : List Oper} {o : Oper} {a : Act} {W : World} {Q : Exit → Act → World → Prop} (x : Operand) (ho : o.op = .convert tR tR x) (hw : Region.wanted o (yielded ops a.tmps) = true) (W1 : World) (l : Bytes) (n : Nat) (hl : l.length = n) (hn : n ≤ 1000)
    (hW : W = W1.alloc (.cells (l.map bv).toArray 5 (0, 0))) (hx : a.eval x = .slice (some ⟨W1.heap.size, 0, none⟩) n n)
    (h : ∀ W2, BytesIn W2 (.slice (some ⟨W1.heap.size, 0, none⟩) n n) l → Below W1.heap.size W1 W2 → wpList Try.prog ops Q rest (a.put o.dst (.slice (some ⟨W1.heap.size, 0, none⟩) n n)) W2) : wpList Try.prog ops Q (o :: rest) a W := by
  subst hl
  obtain ⟨h1, h2⟩ := built_bytes l W1 ((l.map bv).toArray.size, (l.map bv).toArray.size + 1)
  have hcv := Lib.run_convert_bytes_const (P := Try.prog) W1 tR 5 (l.map bv).toArray l.length l.length Try.underlying30 Try.underlying5
  unfold wpList
  rw [if_pos hw]
  refine .inl ?_
  unfold Oper.wp execOp
  subst hW
  simp only [ho, hx, Sem.run_bind, hcv, Result.andThen_ok, Sem.run_pure]
  exact h _ (h2 hn) h1
set_option maxRecDepth 100000 in
set_option maxHeartbeats 400000 in
theorem live_any (w : World) : Calls Try.prog 12 #[] w fun e w' => e = .returned (.bool true) ∧ Below w.heap.size w w' := by
  obtain ⟨q, hq⟩ : ∃ q, w.heap.size = q := ⟨_, rfl⟩
  have HN := Lib.hid (new_any 4 w (by omega) (by omega))
  rw [hq] at HN
  go_enter Try.func12, Try.ntmps12
  go_wp2_with (go_at_call 27; refine HN.out.mono ?_)
  rintro e W1 ⟨rfl, hl1, hb1⟩
  have HL1 := Lib.hid hl1
  have HB1 := Lib.hid hb1
  clear hl1 hb1 HN
  go_wp2_with (refine wpList_conv _ rfl rfl W1 abc 3 rfl (by omega) rfl rfl ?_)
  intro W2 hx2 hb2
  have HX2 := Lib.hid hx2
  have HL2 := Lib.hid (HL1.out.after hb2)
  have HAP := Lib.hid (append_any q q none ⟨4, 0, []⟩ _ abc W2 HL2.out hx2)
  have HB2 : Hid (Below q w W2) := HB1.out.trans (hb2.mono (by have := HL1.out.lt; omega))
  rw [live_app] at HAP
  clear hx2 hb2 HL1 HB1
  go_wp2_with (go_at_call 21; refine HAP.out.mono ?_)
  rintro e W3 ⟨rfl, og3, hl3, ht3⟩
  have HR3 := Lib.hid (records_any q q og3 _ W3 hl3)
  rw [live_recs] at HR3
  have HL3 := Lib.hid hl3
  have HB3 : Hid (Below q w W3) := HB2.out.trans ht3.below
  clear hl3 ht3 HAP HL2 HB2 HX2
  go_wp2_with (go_at_call 19; refine HR3.out.mono ?_)
  rintro e W4 ⟨v4, rfl, hr4, hb4⟩
  obtain ⟨a4, c4, rfl⟩ := hr4.shape
  have HL4 := Lib.hid (HL3.out.after hb4)
  have HB4 : Hid (Below q w W4) := HB3.out.trans (hb4.mono (by have := HL3.out.lt; omega))
  have HCR := Lib.hid (crash_ok q q og3 ⟨4, 0, laid abc 1⟩ 0 0 W4 HL4.out (by omega) (by omega) (by omega))
  rw [live_crash] at HCR
  clear hr4 hb4 HL3 HB3 HR3
  have hone : ([abc] : List Bytes).length = 1 := rfl
  rw [hone]
  clear hone
  go_wp2_with (go_at_call 22; refine HCR.out.mono ?_)
  rintro e W5 ⟨rfl, og5, hl5, ht5⟩
  have HR5 := Lib.hid (records_any q q og5 _ W5 hl5)
  rw [show recs (⟨4, 0, []⟩ : Lg).b = [] from rfl] at HR5
  have HL5 := Lib.hid hl5
  have HB5 : Hid (Below q w W5) := HB4.out.trans ht5.below
  clear hl5 ht5 HCR HL4 HB4
  go_wp2_with (go_at_call 19; refine HR5.out.mono ?_)
  rintro e W6 ⟨v6, rfl, hr6, hb6⟩
  obtain ⟨a6, c6, rfl⟩ := hr6.shape
  have HL6 := Lib.hid (HL5.out.after hb6)
  have HB6 : Hid (Below q w W6) := HB5.out.trans (hb6.mono (by have := HL5.out.lt; omega))
  have HF6 := Lib.hid (free_any q q og5 ⟨4, 0, []⟩ W6 HL6.out)
  have hnil : ([] : List Bytes).length = 0 := rfl
  rw [hnil]
  clear hr6 hb6 HL5 HB5 HR5 hnil
  go_wp2_with (go_at_call 26; refine HF6.out.mono ?_)
  rintro e W7 ⟨rfl, hb7⟩
  have HB7 : Hid (Below q w W7) := HB6.out.trans (hb7.mono (by have := HL6.out.lt; omega))
  have hfour : ((⟨4, 0, []⟩ : Lg).most : Int) - (((⟨4, 0, []⟩ : Lg).b.length / 64 : Nat) : Int) = 4 := rfl
  rw [hfour]
  clear hb7 HL6 HB6 HF6 hfour
  have HND := Lib.hid (need_any 57 W7 (by omega))
  rw [show (need (57 : Int).toNat) = 2 from rfl] at HND
  go_wp2_with (go_at_call 16; refine HND.out.mono ?_)
  rintro e _ ⟨rfl, rfl⟩
  go_wp2_with (refine wpList_conv _ rfl rfl _ wiki 9 rfl (by omega) rfl rfl ?_)
  intro W8 hx8 hb8
  have HSU := Lib.hid (sum_any _ wiki W8 hx8)
  rw [live_sum] at HSU
  have HB8 : Hid (Below q w W8) := HB7.out.trans (hb8.mono (by have := HB7.out.size; omega))
  clear hx8 hb8 HB7 HND
  go_wp2_with (go_at_call 14; refine HSU.out.mono ?_)
  rintro e _ ⟨rfl, rfl⟩
  go_wp2
  go_ret
  exact ⟨rfl, by rw [hq]; exact HB8.out⟩
end Go.Proofs.Ytfiahkomabllaaa.L
