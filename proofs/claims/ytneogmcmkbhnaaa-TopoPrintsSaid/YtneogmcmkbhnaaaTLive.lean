/- wharfingerlaw02.live. -/
import Derived.Test.YtneogmcmkbhnaaaTMatchT
namespace Go.Proofs.Ytneogmcmkbhnaaa.T
open Go.RowKit Go.Lib

def txA : List UInt8 := [122, 111, 110, 101, 61, 97, 124, 98]
def txB : List UInt8 := [122, 111, 110, 101, 61, 98]
def tZ : List UInt8 × List (List UInt8) := ([122, 111, 110, 101], [[97], [98]])
def lZ : LB := ([122, 111, 110, 101], [98])
theorem terms_A : termsOf txA = some [tZ] := by decide +kernel
theorem labels_B : labelsOf txB = some [lZ] := by decide +kernel
theorem match_1 : matchB [tZ] [lZ] = true := by decide +kernel
theorem match_0 : matchB [tZ] [] = false := by decide +kernel
theorem word_1 : wordB [97, 45, 49] = true := by decide +kernel

set_option maxRecDepth 100000 in
set_option maxHeartbeats 1000000 in
theorem live_any (w : World) :
    Calls Try.prog 12 #[] w fun e w' => e = .returned (.bool true) ∧ Below w.heap.size w w' := by
  have hA := fun W => parse_any txA (by decide) W
  rw [terms_A] at hA
  have hB := fun W => labels_any txB (by decide) W
  rw [labels_B] at hB
  have HA := Lib.hid hA
  have HB := Lib.hid hB
  clear hA hB
  go_enter Try.func12, Try.ntmps12
  go_wp2_with fail
  refine (HA.out _).mono ?_
  rintro e W1 ⟨hb1, v, acc, rfl, hacc, hrow, hvals⟩
  have hlow := hb1
  have hT := TermsIn.ofRow hrow hvals
  clear hb1 hrow hvals
  go_wp2_with fail
  refine (HB.out _).mono ?_
  rintro e W2 ⟨hb1, v2, rfl, hrow⟩
  replace hlow := hlow.trans (hb1.mono hlow.size)
  replace hT := hT.after hb1
  have hL := LabsIn.ofRow hrow
  clear hb1 hrow HA HB
  go_wp2_with fail
  refine (match_any v acc v2 [lZ] _ hT hL).mono ?_
  rintro e W3 ⟨rfl, hb1⟩
  rw [hacc, match_1]
  replace hlow := hlow.trans (hb1.mono hlow.size)
  replace hT := hT.after hb1
  clear hb1 hL
  go_wp2_with fail
  refine (match_any v acc (.slice none 0 0) [] _ hT (.inl ⟨0, rfl, rfl⟩)).mono ?_
  rintro e W4 ⟨rfl, hb1⟩
  rw [hacc, match_0]
  replace hlow := hlow.trans (hb1.mono hlow.size)
  clear hb1 hT
  go_wp2_with fail
  refine (word_enc [97, 45, 49] _).mono ?_
  rintro e W5 ⟨rfl, hb1⟩
  rw [word_1]
  have HL := Lib.hid (hlow.trans (hb1.mono hlow.size))
  clear hb1 hlow
  go_wp2
  go_ret
  exact ⟨rfl, HL.out⟩
end Go.Proofs.Ytneogmcmkbhnaaa.T
