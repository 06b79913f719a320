/- The document's record: a record on its blocks. -/
import Derived.Test.YtfiahkomabllaaaLSame
namespace Go.Proofs.Ytfiahkomabllaaa.L
open Go Go.RowKit
open Go.Lib

theorem lit8 (W : World) (a b c d e f g h : Int) : (Instr.buildSlice tR 8 #[(0, .int .u8 a), (1, .int .u8 b), (2, .int .u8 c), (3, .int .u8 d), (4, .int .u8 e), (5, .int .u8 f), (6, .int .u8 g), (7, .int .u8 h)]).run Try.prog W = .ok (.slice (some ⟨W.heap.size, 0, none⟩) 8 8) (W.alloc (.cells #[.int .u8 a, .int .u8 b, .int .u8 c, .int .u8 d, .int .u8 e, .int .u8 f, .int .u8 g, .int .u8 h] 5)) := by kernel_rfl
theorem lit1 (W : World) (a : Int) : (Instr.buildSlice tR 1 #[(0, .int .u8 a)]).run Try.prog W = .ok (.slice (some ⟨W.heap.size, 0, none⟩) 1 1) (W.alloc (.cells #[.int .u8 a] 5)) := by kernel_rfl
theorem lit0 (W : World) : (Instr.buildSlice tR 0 #[]).run Try.prog W = .ok (.slice (some ⟨W.heap.size, 0, none⟩) 0 0) (W.alloc (.cells #[] 5)) := by kernel_rfl
theorem held_new (W : World) (l : Bytes) (n : Nat) (hn : l.length = n) (h : n ≤ 1000) : Held (W.alloc (.cells (l.map bv).toArray 5)) W.heap.size (.slice (some ⟨W.heap.size, 0, none⟩) n n) l := by
  subst hn
  refine ⟨by simp, .inr ⟨W.heap.size, l.length, (l.map bv).toArray, rfl, Nat.le_refl _, heap_alloc_new W _, Nat.le_refl _, by unfold maxLen; omega, by simp, by rw [Nat.mul_one, List.toList_toArray, List.take_of_length_le (by simp)]⟩⟩
theorem wpList_lit {ops : Array Oper} {rest : List Oper} {o : Oper} {a : Act} {W : World} {Q : Exit → Act → World → Prop} (hg : o.guard = none) (n : Nat) (parts : Array (Nat × Operand)) (ho : o.op = .buildSlice tR n parts) (cs : Array Value) (l : Bytes)
    (hr : (Instr.buildSlice tR n (parts.toList.map fun (i, x) => (i, a.eval x)).toArray).run Try.prog W = .ok (.slice (some ⟨W.heap.size, 0, none⟩) n n) (W.alloc (.cells cs 5))) (hl : cs = (l.map bv).toArray) (hn : l.length = n) (h1000 : n ≤ 1000)
    (h : ∀ W2 v, Held W2 W.heap.size v l → Below W.heap.size W W2 → wpList Try.prog ops Q rest (a.put o.dst v) W2) : wpList Try.prog ops Q (o :: rest) a W := by
  subst hl
  refine wpList_plain hg fun K hK => ?_
  have e : (parts.map fun (i, x) => (i, a.eval x)) = (parts.toList.map fun (i, x) => (i, a.eval x)).toArray := by apply Array.toList_inj.1; simp
  unfold Oper.wp execOp
  simp only [ho, Sem.run_bind]
  rw [e, hr]
  simp only [Result.andThen_ok, Sem.run_pure]
  exact hK _ _ (h _ _ (held_new W l n hn h1000) ((Below.refl _ _).alloc (Nat.le_refl _) _))
set_option maxRecDepth 100000 in
set_option maxHeartbeats 400000 in
theorem record_any (v : Value) (l : Bytes) (n : Nat) (w : World) (hv : BytesIn w v l) (hne : need l.length ≠ 0) (hn : n ≤ 1000000000000) :
    Calls Try.prog 49 #[v, .int .i64 (n : Int)] w fun e w' => ∃ r, e = .returned r ∧ Held w' w.heap.size r (laid l n) ∧ Below w.heap.size w w' := by
  obtain ⟨a, k, c, rfl⟩ := hv.shape
  obtain rfl : k = l.length := by rcases hv with ⟨c, h, rfl⟩ | ⟨g, off, cap, h, -⟩ <;> cases h <;> rfl
  have hroom := need_room hne
  have HV := Lib.hid hv
  have HSU := Lib.hid (rsum_any _ l w hv)
  have hs4 := sum_lt l
  clear hv hne
  obtain ⟨m, hm⟩ : ∃ m, need l.length * 64 = m := ⟨_, rfl⟩
  rw [hm] at hroom
  have HM := Lib.hid hm
  have HRM : Hid (m % 64 = 0 ∧ 1 ≤ l.length ∧ l.length ≤ 1024 ∧ l.length + 8 ≤ m ∧ m < l.length + 72) := ⟨by omega, hroom⟩
  clear hm hroom
  go_enter Try.func49, Try.ntmps49
  go_wp2_with (go_at_call 15; refine HSU.out.mono ?_)
  rintro e w' ⟨rfl, rfl⟩
  clear HSU
  generalize hsum : sum l = s at *
  have HSE := Lib.hid hsum
  clear hsum
  have HQ := head_cells l n s HSE.out hs4
  go_wp2_with (refine wpList_lit rfl 8 _ rfl #[.int .u8 ((l.length : Int) / 256 % 256), .int .u8 ((l.length : Int) % 256), .int .u8 ((n : Int) / 256 % 256), .int .u8 ((n : Int) % 256), .int .u8 ((s : Int) / 16777216), .int .u8 ((s : Int) / 65536 % 256), .int .u8 ((s : Int) / 256 % 256), .int .u8 ((s : Int) % 256)] (head l n) ?_ HQ.out rfl (by omega) ?_; (focus exact lit8 _ _ _ _ _ _ _ _ _))
  intro W2 v2 hh2 hb2
  have HH2 := Lib.hid hh2
  have HB2 := Lib.hid hb2
  have HV2 := Lib.hid (HV.out.after hb2)
  have hlen2 : (head l n).length + l.length ≤ 140737488355328 := by have := HRM.out; rw [head_length]; omega
  have HLE2 := Lib.hid hlen2
  clear hh2 hb2 hlen2
  go_wp2_with (at_builtin; refine wpList_append_bytes rfl _ _ rfl w'.heap.size _ _ rfl HH2.out _ _ rfl HV2.out HLE2.out HB2.out.size ?_)
  intro v3 W3 hh3 hg3
  have HI : Hid (∃ j, Held W3 w'.heap.size v3 (head l n ++ l ++ zs j) ∧ 8 + l.length + j ≤ m ∧ Below w'.heap.size w' W3) := ⟨0, by simpa [zs] using hh3, by have := HRM.out; omega, HB2.out.trans (hg3.below HH2.out HB2.out.size)⟩
  clear hh3 hg3 HH2 HB2 HV2 HLE2 HQ
  go_wp2
  go_loopw [6] (fun v wr => ∃ j, Held wr w'.heap.size v (head l n ++ l ++ zs j) ∧ 8 + l.length + j ≤ m ∧ Below w'.heap.size w' wr) (fun v _ => m - (match v with | .slice _ k _ => k | _ => 0))
  case atStart => exact HI.out
  case round =>
    clear HI
    obtain ⟨j, hh, hj, hb⟩ := hrel
    obtain ⟨a3, k3, c3, rfl⟩ := hh.bytes.shape
    have hk3 : k3 = 8 + l.length + j := by
      have h1 : (head l n ++ l ++ zs j).length = 8 + l.length + j := by rw [List.length_append, List.length_append, head_length, zs_length]
      rcases hh.2 with ⟨h, h0⟩ | ⟨g, cap, cur, h, -⟩
      · cases h; omega
      · cases h; exact h1
    have HH := Lib.hid hh
    have HB := Lib.hid hb
    have HK := Lib.hid hk3
    clear hh hb hk3
    by_cases hp : k3 % 64 = 0
    · have hp' : (k3 : Int) % 64 = 0 := by omega
      have hp2 : Int.tmod (k3 : Int) 64 = 0 := by rw [Int.tmod_eq_emod_of_nonneg (by omega)]; exact hp'
      go_wp2
      go_ret
      have h1 := HRM.out
      have h2 := HK.out
      have hj2 : j = need l.length * 64 - (8 + l.length) := by rw [HM.out]; omega
      exact ⟨_, rfl, by unfold laid; rw [← hj2]; exact HH.out, HB.out⟩
    · have hp' : ¬ (k3 : Int) % 64 = 0 := by omega
      have hp2 : ¬ Int.tmod (k3 : Int) 64 = 0 := by rw [Int.tmod_eq_emod_of_nonneg (by omega)]; exact hp'
      go_wp2_with (refine wpList_lit rfl 1 _ rfl #[.int .u8 0] (zs 1) ?_ rfl rfl (by omega) ?_; (focus exact lit1 _ _))
      intro W4 v4 hh4 hb4
      have HX4 := Lib.hid hh4.bytes
      have HH4 := Lib.hid (HH.out.after hb4)
      have HB4 : Hid (Below w'.heap.size w' W4) := HB.out.trans (hb4.mono HB.out.size)
      have HLE : Hid ((head l n ++ l ++ zs j).length + (zs 1).length ≤ 140737488355328) := by
        have h1 := HRM.out
        show _ ≤ _
        rw [List.length_append, List.length_append, head_length, zs_length, zs_length]
        omega
      clear hh4 hb4
      go_wp2_with (at_builtin; refine wpList_append_bytes rfl _ _ rfl w'.heap.size _ _ rfl HH4.out _ _ rfl HX4.out HLE.out HB4.out.size ?_)
      intro v5 W5 hh5 hg5
      have HN : Hid (Held W5 w'.heap.size v5 (head l n ++ l ++ zs (j + 1)) ∧ 8 + l.length + (j + 1) ≤ m ∧ Below w'.heap.size w' W5) := by
        refine ⟨?_, by have := HRM.out; have := HK.out; omega, HB4.out.trans (hg5.below HH4.out HB4.out.size)⟩
        have e : head l n ++ (l ++ (zs j ++ zs 1)) = head l n ++ l ++ zs (j + 1) := by unfold zs; rw [List.replicate_append_replicate, List.append_assoc]
        rw [← e]
        simpa only [List.append_assoc] using hh5
      obtain ⟨a5, k5, c5, rfl⟩ := hh5.bytes.shape
      have HK5 : Hid (k5 = k3 + 1) := by
        have h1 : (head l n ++ (l ++ (zs j ++ zs 1))).length = 8 + l.length + j + 1 := by rw [List.length_append, List.length_append, List.length_append, head_length, zs_length, zs_length]; omega
        have h2 := HK.out
        show k5 = k3 + 1
        rcases hh5.2 with ⟨h, h0⟩ | ⟨g, cap, cur, h, -⟩
        · cases h; omega
        · cases h; omega
      clear hh5 hg5 HX4 HH4 HB4 HLE
      go_wp2
      exact ⟨⟨j + 1, HN.out⟩, by have h1 := HK5.out; have h2 := HN.out.2.1; have h3 := HK.out; show m - k5 < m - k3; omega⟩
end Go.Proofs.Ytfiahkomabllaaa.L
