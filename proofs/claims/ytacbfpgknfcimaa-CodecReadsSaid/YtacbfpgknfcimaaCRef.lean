/- The document's writers: number, text, bit. -/
import Derived.Test.YtacbfpgknfcimaaCCalls
import Derived.Test.YtacbfpgknfcimaaCAppB
import Derived.Test.YtacbfpgknfcimaaORefRight
namespace Go.Proofs.Ytacbfpgknfcimaa.C
open Go.RowKit T O
open Go.Lib hiding intOf

/-- Bytes of a call's own. -/
def Own (w : World) (b : Bytes) (e : Ending) (W' : World) : Prop := ∃ v, e = .returned v ∧ Held W' w.heap.size v b ∧ Below w.heap.size w W'
theorem rem_byte (m : Int) (h : 0 ≤ m) : bits .or .u8 (m % 128) 128 = ((UInt8.ofNat (m.toNat % 128 + 128)).toNat : Int) := by
  rw [show m % 128 = ((m.toNat % 128 : Nat) : Int) by omega, or_byte _ (by omega), toNat_ofNat (by omega)]
  omega
/-- How far a number is written. -/
structure NumW (w : World) (v1 : Value) (n m : Int) (wr : World) : Prop where
  lo : 0 ≤ m
  hi : m < 18446744073709551616
  held : ∃ done, Held wr w.heap.size v1 done ∧ done ++ intB m = intB n ∧ done.length ≤ 10
  low : Below w.heap.size w wr

set_option maxRecDepth 100000 in
set_option maxHeartbeats 1000000 in
theorem refNumber_any (n : Int) (hn : 0 ≤ n ∧ n < 18446744073709551616) (w : World) :
    Calls Try.prog 28 #[.int .u64 n] w (Own w (intB n)) := by
  have HN := Lib.hid hn
  clear hn
  go_enter Try.func28, Try.ntmps28
  go_wp2
  go_loopw [0, 3] (fun m v1 wr => ∃ k : Int, m = .int .u64 k ∧ NumW w v1 n k wr) (fun m _ _ => (intOf m).toNat)
  case atStart => exact ⟨n, rfl, HN.out.1, HN.out.2, ⟨[], Held.nil _ _, rfl, by simp⟩, Below.refl _ _⟩
  case round =>
    obtain ⟨m, rfl, HM⟩ := hrel
    obtain ⟨done, hHd, hd, hdl⟩ := HM.held
    have hB2 : w.heap.size ≤ wr.heap.size := HM.low.size
    have hX : done.length + 1 ≤ 1000000000000 := by omega
    have hlo := HM.lo
    have hhi := HM.hi
    have HD := Lib.hid hd
    have HHd := Lib.hid hHd
    have HX := Lib.hid hX
    have HDL := Lib.hid hdl
    have HLow := Lib.hid HM.low
    clear hd hHd hX hdl HM
    by_cases hm : 128 ≤ m
    · have HR := Lib.hid (rem_byte m hlo)
      go_wp2_with (at_builtin; refine wpList_append_one rfl (.tmp 6) (.tmp 11) rfl w.heap.size u3 done ?_ (HHd.out.alloc _) wr.heap.size 1 (UInt8.ofNat (m.toNat % 128 + 128)) ?_ ?_ ?_ ?_ ?_; rfl; rfl; (focus exact (cell_one_new _ _ _ 0 _ rfl).trans (by rw [HR.out]; rfl)); exact HX.out; (focus (simp; omega)); intro v3 w3 hH3 hG3)
      have HF : Hid (NumW w v3 n (m / 128) w3) := ⟨by omega, by omega, ⟨_, hH3, by rw [← HD.out, intB_more hm, List.append_assoc]; rfl, by
        have h1 := intB_ten HN.out
        rw [← HD.out, List.length_append, intB_more hm, List.length_cons] at h1
        have := intB_pos (m / 128)
        rw [List.length_append, List.length_singleton]; omega⟩, HLow.out.trans ((hG3.alloc.below HHd.out hB2).mono (Nat.le_refl _))⟩
      clear hH3 hG3
      go_wp2
      go_roundw
      case rel => exact ⟨m / 128, by go_num, HF.out⟩
      case measure => simp [intOf]; omega
    · have hm' : m < 128 := by omega
      have HK := Lib.hid (show 0 ≤ m ∧ m ≤ 255 by omega)
      have HM' := Lib.hid hm'
      go_wp2_with (at_builtin; refine wpList_append_one rfl (.tmp 15) (.tmp 18) rfl w.heap.size u3 done ?_ (HHd.out.alloc _) wr.heap.size 1 (UInt8.ofNat m.toNat) ?_ ?_ ?_ ?_ ?_; rfl; rfl; (focus exact (cell_one_new _ _ _ 0 _ rfl).trans (by rw [byte_back HK.out])); exact HX.out; (focus (simp; omega)); intro v3 w3 hH3 hG3)
      have HF : Hid (Own w (intB n) (.returned v3) w3) := ⟨v3, rfl, by rw [← HD.out, intB_last HM'.out]; exact hH3, HLow.out.trans (hG3.alloc.below HHd.out hB2)⟩
      clear hH3 hG3
      go_wp2
      go_ret
      exact HF.out

set_option maxRecDepth 100000 in
set_option maxHeartbeats 1000000 in
theorem refText_any (s : ByteArray) (hs : s.size ≤ 40) (w : World) :
    Calls Try.prog 27 #[.string s] w (Own w (txtB s)) := by
  go_enter Try.func27, Try.ntmps27
  go_wp2_with fail
  refine (refNumber_any (s.size : Int) (by omega) _).mono ?_
  rintro e w1 ⟨v, rfl, hH, hlow⟩
  have HX : Hid ((intB (s.size : Int)).length + s.size ≤ 1000000000000) := by
    show _ ≤ _
    have := intB_ten (n := (s.size : Int)) (by omega)
    omega
  have hB := hlow.size
  go_wp2_with (at_builtin; refine wpList_append_str rfl (.tmp 6) (.tmp 7) rfl w.heap.size v _ ?_ hH s ?_ HX.out hB ?_; rfl; rfl; intro v3 w3 hH3 hG3)
  have HF : Hid (Own w (txtB s) (.returned v3) w3) := ⟨v3, rfl, by unfold txtB; rw [← intB_size]; exact hH3, hlow.trans (hG3.below hH hB)⟩
  clear hH hH3 hG3 hlow
  go_wp2
  go_ret
  exact HF.out
theorem bit_any (on : Bool) (b : Int) (w : World) :
    Calls Try.prog 29 #[.bool on, .int .u8 b] w fun e w' => e = .returned (.int .u8 (bitN on b)) ∧ w = w' := by
  cases on with
  | false =>
    go_enter Try.func29, Try.ntmps29
    go_wp2
    go_ret
    exact ⟨rfl, rfl⟩
  | true =>
    go_enter Try.func29, Try.ntmps29
    go_wp2
    go_ret
    exact ⟨rfl, rfl⟩
end Go.Proofs.Ytacbfpgknfcimaa.C
