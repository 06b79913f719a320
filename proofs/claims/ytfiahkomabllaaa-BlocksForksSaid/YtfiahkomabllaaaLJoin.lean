/- blocks.joined: the bytes of blocks, in a row of their own. -/
import Derived.Test.YtfiahkomabllaaaLArm
namespace Go.Proofs.Ytfiahkomabllaaa.L
open Go Go.RowKit
open Go.Lib

theorem take_blk {l : Bytes} {i : Nat} : l.take ((i + 1) * 64) = l.take (i * 64) ++ blk l i := by
  unfold blk
  rw [Nat.succ_mul, List.take_add]
theorem make_bytes (W : World) (n : Nat) (hn : n ≤ 100000000000) : ∃ W', (Instr.makeSlice 30 (.int .i64 0) (.int .i64 (n : Int))).run Try.prog W = .ok (.slice (some ⟨W.heap.size, 0, none⟩) 0 n) W' ∧ Held W' W.heap.size (.slice (some ⟨W.heap.size, 0, none⟩) 0 n) [] ∧ Below W.heap.size W W' := by
  obtain ⟨i, hi, hz, hs, hb⟩ := info_parts infoByte
  obtain ⟨W', h1, h2, h3⟩ := run_make_own (P := Try.prog) W W.heap.size 30 5 i _ 1 Try.underlying30 hi hz hs .i64 .i64 n (by rw [hb]; omega) (by have : maxLen = 9223372036854775807 := rfl; omega) (Nat.le_refl _)
  exact ⟨W', h1, h2, ⟨h3.os, h3.tape, h3.output, h3.size, fun k hk => h3.block k hk (by simp)⟩⟩
theorem wpList_make_bytes {ops : Array Oper} {rest : List Oper} {o : Oper} {a : Act} {W : World} {Q : Exit → Act → World → Prop} (hg : o.guard = none) (p q : Operand) (ho : o.op = .makeSlice 30 p q) (n : Nat) (hn : n ≤ 100000000000) (hp : a.eval p = .int .i64 0) {m : Int} (hq : a.eval q = .int .i64 m) (hm : m = n)
    (h : ∀ W2 v, Held W2 W.heap.size v [] → Below W.heap.size W W2 → wpList Try.prog ops Q rest (a.put o.dst v) W2) : wpList Try.prog ops Q (o :: rest) a W := by
  subst hm
  obtain ⟨W2, h1, h2, h3⟩ := make_bytes W n hn
  refine wpList_plain hg fun K hK => ?_
  unfold Oper.wp execOp
  simp only [ho, hp, hq, Sem.run_bind, h1, Result.andThen_ok, Sem.run_pure]
  exact hK _ _ (h _ _ h2 h3)
set_option maxHeartbeats 400000 in
set_option maxRecDepth 100000 in
theorem joined_any (v : Value) (k : Nat) (l : Bytes) (w : World) (hv : BlksIn w v k l) (hk : k ≤ 1000000) :
    Calls Try.prog 36 #[v] w fun e w' => ∃ r, e = .returned r ∧ Held w' w.heap.size r l ∧ Below w.heap.size w w' := by
  obtain ⟨a, c, rfl⟩ := hv.shape
  have HV := Lib.hid hv
  clear hv
  go_enter Try.func36, Try.ntmps36
  go_wp2_with (refine wpList_make_bytes rfl _ _ rfl (k * 64) (by omega) rfl rfl (by omega) ?_)
  intro W2 b hH hB
  have HI : Hid (Held W2 w.heap.size b (l.take (0 * 64)) ∧ Below w.heap.size w W2) := ⟨by simpa using hH, hB⟩
  clear hH hB
  go_wp2
  go_loopw [3, 12] (fun b iv wr => ∃ i : Nat, i ≤ k ∧ iv = .int .i64 (i : Int) ∧ Held wr w.heap.size b (l.take (i * 64)) ∧ Below w.heap.size w wr) (fun _ iv _ => k - (RowKit.intOf iv).toNat)
  case atStart => exact ⟨0, Nat.zero_le _, rfl, HI.out⟩
  case round =>
    clear HI
    obtain ⟨i, hi, rfl, hH, hB⟩ := hrel
    have HH := Lib.hid hH
    have HB := Lib.hid hB
    clear hH hB
    by_cases hp : i < k
    · have hp' : (i : Int) < (k : Int) := by omega
      obtain ⟨g, off, cap, he, hg, hA⟩ := (HV.out.after HB.out).at hp
      obtain ⟨rfl, rfl⟩ : a = some ⟨g, off, none⟩ ∧ c = cap := by cases he; exact ⟨rfl, rfl⟩
      have HA := Lib.hid hA
      have HL : Hid ((blk l i).length = 64) := blk_length HV.out.1 hp
      clear hA hg he
      go_wp2_with (first | refine wpList_load_blk rfl rfl rfl HA.out HL.out ?_ | refine wpList_alloc_box rfl t64 rfl (zs 64) zero64 ?_)
      intro W3 hx3 hb3
      have HX3 := Lib.hid hx3
      have HB3 := Lib.hid hb3
      clear hx3 hb3
      go_wp2_with (refine wpList_store_box rfl t64 _ _ rfl wr.heap.size (zs 64) (blk l i) rfl rfl HX3.out (by rw [HL.out]; exact zs_length 64) (by rw [HL.out]; exact sizeBlk) ?_)
      intro W4 hx4 ho4 hb4
      have HX4 := Lib.hid hx4
      have HW4 : Hid (Below w.heap.size w W4) := hb4 _ _ (HB.out.trans (HB3.out.mono HB.out.size)) HB.out.size
      have HH4 : Hid (Held W4 w.heap.size u3 (l.take (i * 64))) := (HH.out.after HB3.out).of_heap fun g hg => ho4 g (by have := HH.out.lt hg; omega)
      clear hx4 ho4 hb4
      have hlen : (l.take (i * 64)).length + (blk l i).length ≤ 140737488355328 := by rw [HL.out, List.length_take, HV.out.1]; omega
      go_wp2_with (at_builtin; refine wpList_append_bytes rfl _ _ rfl w.heap.size _ _ rfl HH4.out _ _ rfl (HX4.out.bytesN HL.out (by decide)) hlen HW4.out.size ?_)
      intro b5 W5 hH5 hG5
      have HH5 : Hid (Held W5 w.heap.size b5 (l.take ((i + 1) * 64))) := by rw [take_blk]; exact hH5
      have HB5 : Hid (Below w.heap.size w W5) := HW4.out.trans (hG5.below HH4.out HW4.out.size)
      clear hH5 hG5 hlen
      go_wp2
      exact ⟨⟨i + 1, by omega, by go_num, HH5.out, HB5.out⟩, by simp [RowKit.intOf]; omega⟩
    · have hp' : ¬ (i : Int) < (k : Int) := by omega
      obtain rfl : i = k := by omega
      go_wp2
      go_ret
      exact ⟨_, rfl, by have := HH.out; rwa [List.take_of_length_le (by rw [HV.out.1]; omega)] at this, HB.out⟩
end Go.Proofs.Ytfiahkomabllaaa.L
