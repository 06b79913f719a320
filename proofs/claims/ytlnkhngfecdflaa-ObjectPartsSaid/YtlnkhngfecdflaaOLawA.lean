/- The laws ObjectNames, ObjectUsers and ObjectParts: their walks. -/
import Derived.Test.YtlnkhngfecdflaaOLive
namespace Go.Proofs.Ytlnkhngfecdflaa.O
open Go.RowKit T
open Go.Lib hiding intOf

set_option maxHeartbeats 1000000 in
theorem objectNames_any (s t : ByteArray) (w : World) (hs : s.size ≤ 140737488351232) (ht : t.size ≤ 140737488351232) :
    Calls Try.prog 4 #[.string s, .string t] w fun e w' => e = .returned (.bool true) ∧ Below w.heap.size w w' := by
  go_enter Try.func4, Try.ntmps4
  go_wp2_with fail
  refine (live_any _).mono ?_
  rintro e w1 ⟨rfl, hlow⟩
  go_wp2_with fail
  refine (name_any s _).mono ?_
  rintro e w2 ⟨rfl, hb2⟩
  replace hlow := hlow.trans (hb2.mono hlow.size)
  clear hb2
  go_wp2_with fail
  refine (refName_any s _ (by omega)).mono ?_
  rintro e w3 ⟨rfl, rfl⟩
  generalize nameB s.data.toList = nb at *
  have enb : (nb == nb) = true := by simp
  go_wp2_with fail
  refine (attachName_any s t _ hs ht).mono ?_
  rintro e w3 ⟨rfl, rfl⟩
  go_wp2_with fail
  refine (refAttachName_any s t _ hs ht).mono ?_
  rintro e w3 ⟨rfl, rfl⟩
  generalize attachN s t = an at *
  go_wp2
  go_ret
  exact ⟨by simp, hlow⟩

set_option maxRecDepth 100000 in
set_option maxHeartbeats 2000000 in
theorem objectUsers_any (o : Obj) (w : World) :
    Calls Try.prog 6 #[encO o] w fun e w' => e = .returned (.bool true) ∧ Below w.heap.size w w' := by
  unfold encO
  go_enter Try.func6, Try.ntmps6
  go_upto_region 1 with (fail)
  refine wp_gen (fun W => BoxO W w.heap.size o ∧ Below w.heap.size w W) ⟨BoxO.new w o, (Below.refl _ _).alloc (Nat.le_refl _) _⟩ ?_
  rintro W1 ⟨hb, hlow⟩
  go_wp2_with ((with_reducible refine wpList_load_obj ?_ rfl ?_ hb ?_); rfl; rfl)
  refine (user_any o _).mono ?_
  rintro e W2 ⟨rfl, hb1⟩
  replace hb := hb.after hb1
  replace hlow := hlow.trans (hb1.mono hlow.size)
  clear hb1
  cases b0 : userB o with
  | false =>
    go_wp2_with fail
    refine (live_any _).mono ?_
    rintro e W3 ⟨rfl, hb1⟩
    replace hlow := hlow.trans (hb1.mono hlow.size)
    clear hb1 hb
    go_wp2
    go_ret
    exact ⟨rfl, hlow⟩
  | true =>
  obtain ⟨hr, h1, h2, h3, h4, h5, h6, h7, h8⟩ := user_new b0
  have HR := Lib.hid hr
  have e1 := beq_yes h1
  have e2 := beq_yes h2
  have e4 := beq_yes h4
  have e5 := beq_yes h5
  have e6 : (o.kind != 5) = true := by simpa using h6
  have s7 := emp_true h7
  have r7 := emp_true' h7
  have s8 := emp_true h8
  have r8 := emp_true' h8
  have H3 := Lib.hid h3
  clear hr h1 h2 h3 h4 h5 h6 h7 h8 b0
  go_wp2_with fail
  refine (live_any _).mono ?_
  rintro e W3 ⟨rfl, hb1⟩
  replace hb := hb.after hb1
  replace hlow := hlow.trans (hb1.mono hlow.size)
  clear hb1
  go_wp2_with ((with_reducible refine wpList_load_obj ?_ rfl ?_ hb ?_); rfl; rfl)
  refine (right_any o _).mono ?_
  rintro e W4 ⟨rfl, hb1⟩
  rw [HR.out]
  replace hb := hb.after hb1
  replace hlow := hlow.trans (hb1.mono hlow.size)
  clear hb1
  have c2 := hb.c2
  have c3 := hb.c3
  have c4 : W4.cell? ⟨w.heap.size, 4, none⟩ = some (.bool false) := by have := hb.c4; rwa [H3.out] at this
  have c18 := hb.c18
  have c19 := hb.c19
  have c0 := hb.c0
  have c15 := hb.c15
  have c13 := hb.c13
  clear hb
  go_wp2
  go_ret
  exact ⟨rfl, hlow⟩

set_option maxRecDepth 100000 in
set_option maxHeartbeats 2000000 in
theorem objectParts_any (a b : Obj) (w : World) :
    Calls Try.prog 9 #[encO a, encO b] w fun e w' => e = .returned (.bool true) ∧ Below w.heap.size w w' := by
  unfold encO
  go_enter Try.func9, Try.ntmps9
  go_upto_region 1 with (fail)
  refine wp_gen (fun W => BoxO W w.heap.size a ∧ BoxO W (w.heap.size + 1) b ∧ Below w.heap.size w W) ⟨(BoxO.new w a).alloc _, heap_alloc2_new w _ _, ((Below.refl _ _).alloc (Nat.le_refl _) _).alloc (by simp) _⟩ ?_
  rintro W1 ⟨ha, hb, hlow⟩
  have a0 := ha.c0
  have b0 := hb.c0
  cases k1 : (a.kind != 5) with
  | true =>
    go_wp2_with fail
    refine (live_any _).mono ?_
    rintro e W3 ⟨rfl, hb1⟩
    replace hlow := hlow.trans (hb1.mono hlow.size)
    clear hb1 hb ha a0 b0
    go_wp2
    go_ret
    exact ⟨rfl, hlow⟩
  | false =>
  cases k2 : (b.kind != 5) with
  | true =>
    go_wp2_with fail
    refine (live_any _).mono ?_
    rintro e W3 ⟨rfl, hb1⟩
    replace hlow := hlow.trans (hb1.mono hlow.size)
    clear hb1 hb ha a0 b0
    go_wp2
    go_ret
    exact ⟨rfl, hlow⟩
  | false =>
  go_wp2_with ((with_reducible refine wpList_load_obj ?_ rfl ?_ ha ?_); rfl; rfl)
  refine (right_any a _).mono ?_
  rintro e W2 ⟨rfl, hb1⟩
  replace ha := ha.after hb1
  replace hb := hb.after hb1
  replace hlow := hlow.trans (hb1.mono hlow.size)
  clear hb1 a0 b0
  cases r1 : rightB a with
  | false =>
    go_wp2_with fail
    refine (live_any _).mono ?_
    rintro e W3 ⟨rfl, hb1⟩
    replace hlow := hlow.trans (hb1.mono hlow.size)
    clear hb1 hb ha
    go_wp2
    go_ret
    exact ⟨rfl, hlow⟩
  | true =>
  go_wp2_with ((with_reducible refine wpList_load_obj ?_ rfl ?_ hb ?_); rfl; rfl)
  refine (right_any b _).mono ?_
  rintro e W3 ⟨rfl, hb1⟩
  replace ha := ha.after hb1
  replace hb := hb.after hb1
  replace hlow := hlow.trans (hb1.mono hlow.size)
  clear hb1
  cases r2 : rightB b with
  | false =>
    go_wp2_with fail
    refine (live_any _).mono ?_
    rintro e W4 ⟨rfl, hb1⟩
    replace hlow := hlow.trans (hb1.mono hlow.size)
    clear hb1 hb ha
    go_wp2
    go_ret
    exact ⟨rfl, hlow⟩
  | true =>
  have a1 := ha.c1
  have b1 := hb.c1
  by_cases hn : a.name = b.name
  · obtain ⟨hv, hno⟩ := attach_parts r1 r2 (by simpa using k1) (by simpa using k2) hn
    have en : (a.name.toList == b.name.toList) = true := by rw [hn]; simp
    have en' : (a.name.toList != b.name.toList) = false := by rw [hn]; simp
    have ev : (a.volume.toList == b.volume.toList) = true := by rw [hv]; simp
    have eo : (a.node.toList == b.node.toList) = true := by rw [hno]; simp
    have tv : a.volume.toList = b.volume.toList := by rw [hv]
    have to' : a.node.toList = b.node.toList := by rw [hno]
    have tn : a.name.toList = b.name.toList := by rw [hn]
    clear hn hv hno tv to' tn
    go_wp2_with fail
    refine (live_any _).mono ?_
    rintro e W4 ⟨rfl, hb1⟩
    replace ha := ha.after hb1
    replace hb := hb.after hb1
    replace hlow := hlow.trans (hb1.mono hlow.size)
    clear hb1
    have a15 := ha.c15
    have b15 := hb.c15
    have a13 := ha.c13
    have b13 := hb.c13
    clear ha hb a1 b1
    go_wp2
    go_ret
    exact ⟨rfl, hlow⟩
  · have en : (a.name.toList == b.name.toList) = false := by rw [eqB]; simpa using hn
    have en' : (a.name.toList != b.name.toList) = true := by simp only [bne, en]; rfl
    clear hn
    go_wp2_with fail
    refine (live_any _).mono ?_
    rintro e W4 ⟨rfl, hb1⟩
    replace hlow := hlow.trans (hb1.mono hlow.size)
    clear hb1 hb ha a1 b1
    go_wp2
    go_ret
    exact ⟨rfl, hlow⟩
end Go.Proofs.Ytlnkhngfecdflaa.O
