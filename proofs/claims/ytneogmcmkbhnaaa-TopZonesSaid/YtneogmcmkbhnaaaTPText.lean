/- printText, PrintLabels, Print, selector. Laid by mkptext.py. -/
import Derived.Test.YtneogmcmkbhnaaaTPrintL
import Derived.Test.YtneogmcmkbhnaaaTPrintT
namespace Go.Proofs.Ytneogmcmkbhnaaa.T
open Go.RowKit
open Go.Lib hiding intOf

def TextPost (w : World) (r : Option (List UInt8)) (e : Ending) (W' : World) : Prop := Below w.heap.size w W' ∧ match r with
  | none => e = .returned (.tuple #[encS [], .int .i64 2])
  | some s => e = .returned (.tuple #[encS s, .int .i64 0])

set_option maxRecDepth 100000 in
set_option maxHeartbeats 1000000 in
theorem printTextL_any (v : Value) (l : List LB) (w : World) (h : LabsIn w v l) :
    Calls Try.prog 35 #[v, .func (.func 36) #[] #[], .func (.func 37) #[] #[]] w (TextPost w (printAll prLabel keyL 44 l)) := by
  have HC := Lib.hid (printL_any v l 44 (by decide) w h)
  clear h
  generalize printAll prLabel keyL 44 l = R at HC ⊢
  cases R with
  | none =>
    go_enter Try.func35, Try.ntmps35
    go_wp2_with fail
    refine HC.out.mono ?_
    rintro e W1 ⟨hb, rfl⟩
    have HB := Lib.hid hb
    clear hb
    go_wp2
    go_ret2
    exact ⟨HB.out, rfl⟩
  | some s =>
    go_enter Try.func35, Try.ntmps35
    go_wp2_with fail
    refine HC.out.mono ?_
    rintro e W1 ⟨hb, rfl⟩
    have HB := Lib.hid hb
    clear hb
    go_wp2
    go_ret2
    exact ⟨HB.out, rfl⟩
set_option maxRecDepth 100000 in
set_option maxHeartbeats 1000000 in
theorem printLabels_any (v : Value) (l : List LB) (w : World) (h : LabsIn w v l) :
    Calls Try.prog 16 #[v] w (TextPost w (printAll prLabel keyL 44 l)) := by
  have HC := Lib.hid (printTextL_any v l w h)
  clear h
  generalize printAll prLabel keyL 44 l = R at HC ⊢
  cases R with
  | none =>
    go_enter Try.func16, Try.ntmps16
    go_wp2_with fail
    refine HC.out.mono ?_
    rintro e W1 ⟨hb, rfl⟩
    have HB := Lib.hid hb
    clear hb
    go_wp2
    go_ret2
    exact ⟨HB.out, rfl⟩
  | some s =>
    go_enter Try.func16, Try.ntmps16
    go_wp2_with fail
    refine HC.out.mono ?_
    rintro e W1 ⟨hb, rfl⟩
    have HB := Lib.hid hb
    clear hb
    go_wp2
    go_ret2
    exact ⟨HB.out, rfl⟩

set_option maxRecDepth 100000 in
set_option maxHeartbeats 1000000 in
theorem printTextT_any (v : Value) (l : List TB) (w : World) (h : TermsIn w v l) :
    Calls Try.prog 30 #[v, .func (.func 31) #[] #[], .func (.func 32) #[] #[]] w (TextPost w (printAll prT kyT 44 l)) := by
  have HC := Lib.hid (printT_any v l 44 (by decide) w h)
  clear h
  generalize printAll prT kyT 44 l = R at HC ⊢
  cases R with
  | none =>
    go_enter Try.func30, Try.ntmps30
    go_wp2_with fail
    refine HC.out.mono ?_
    rintro e W1 ⟨hb, rfl⟩
    have HB := Lib.hid hb
    clear hb
    go_wp2
    go_ret2
    exact ⟨HB.out, rfl⟩
  | some s =>
    go_enter Try.func30, Try.ntmps30
    go_wp2_with fail
    refine HC.out.mono ?_
    rintro e W1 ⟨hb, rfl⟩
    have HB := Lib.hid hb
    clear hb
    go_wp2
    go_ret2
    exact ⟨HB.out, rfl⟩
set_option maxRecDepth 100000 in
set_option maxHeartbeats 1000000 in
theorem print_any (v : Value) (l : List TB) (w : World) (h : TermsIn w v l) :
    Calls Try.prog 13 #[v] w (TextPost w (printAll prT kyT 44 l)) := by
  have HC := Lib.hid (printTextT_any v l w h)
  clear h
  generalize printAll prT kyT 44 l = R at HC ⊢
  cases R with
  | none =>
    go_enter Try.func13, Try.ntmps13
    go_wp2_with fail
    refine HC.out.mono ?_
    rintro e W1 ⟨hb, rfl⟩
    have HB := Lib.hid hb
    clear hb
    go_wp2
    go_ret2
    exact ⟨HB.out, rfl⟩
  | some s =>
    go_enter Try.func13, Try.ntmps13
    go_wp2_with fail
    refine HC.out.mono ?_
    rintro e W1 ⟨hb, rfl⟩
    have HB := Lib.hid hb
    clear hb
    go_wp2
    go_ret2
    exact ⟨HB.out, rfl⟩

set_option maxRecDepth 100000 in
set_option maxHeartbeats 1000000 in
theorem selector_any (v : Value) (l : List TB) (w : World) (h : TermsIn w v l) :
    Calls Try.prog 51 #[v] w fun e w' => e = .returned (.bool (printAll prT kyT 44 l).isSome) ∧ Below w.heap.size w w' := by
  have HC := Lib.hid (print_any v l w h)
  clear h
  generalize printAll prT kyT 44 l = R at HC ⊢
  cases R with
  | none =>
    go_enter Try.func51, Try.ntmps51
    go_wp2_with fail
    refine HC.out.mono ?_
    rintro e W1 ⟨hb, rfl⟩
    have HB := Lib.hid hb
    clear hb
    go_wp2
    go_ret
    exact ⟨rfl, HB.out⟩
  | some s =>
    go_enter Try.func51, Try.ntmps51
    go_wp2_with fail
    refine HC.out.mono ?_
    rintro e W1 ⟨hb, rfl⟩
    have HB := Lib.hid hb
    clear hb
    go_wp2
    go_ret
    exact ⟨rfl, HB.out⟩
end Go.Proofs.Ytneogmcmkbhnaaa.T
