/- topo.readList at terms, in plain; topo.readText at terms; topo.Parse. -/
import Derived.Test.YtneogmcmkbhnaaaTReadTerms
import Derived.Test.YtneogmcmkbhnaaaTTextL
namespace Go.Proofs.Ytneogmcmkbhnaaa.T
open Go.RowKit Go.Lib

theorem readAll_tkT {l : List UInt8} (hl : l.length ≤ 9223372036854775807) (m : UInt8) : readAll rdTT keyT (splitOn m l) = readAll rdTerm keyT (splitOn m l) := by
  unfold readAll
  refine foldlM_congr _ _ fun acc p hp => ?_
  unfold step rdTT
  rw [tk_eq (Nat.le_trans (splitOn_le m l p hp) hl)]
theorem readTerms_any (l : List UInt8) (hl : l.length ≤ 9223372036854775807) (m : UInt8) (hm : m.toNat < 128) (n : Int) (hn : n = m.toNat) (w : World) :
    Calls Try.prog 63 #[encS l, .int .i32 n, .int .i64 8, .func (.func 40) #[] #[], .func (.func 32) #[] #[]] w
      (TermsPost w (readAll rdTerm keyT (splitOn m l))) := by
  rw [← readAll_tkT hl]
  obtain ⟨s, rfl⟩ : ∃ s : ByteArray, l = s.data.toList := ⟨⟨l.toArray⟩, rfl⟩
  rw [encS_self, hn]
  exact callsIn_wide.1 (readTermsT_in s (by rw [← size_list]; exact hl) m hm w)

/-- What a text says as a selector. -/
def termsOf (l : List UInt8) : Option (List (List UInt8 × List (List UInt8))) := if l = [] then some [] else readAll rdTerm keyT (splitOn 44 l)
def TermsAre (w : World) (r : Option (List (List UInt8 × List (List UInt8)))) (e : Ending) (W' : World) : Prop := Below w.heap.size w W' ∧ match r with
  | none => e = .returned (.tuple #[.slice none 0 0, .int .i64 2])
  | some ts => ∃ (v : Value) (acc : List TB), e = .returned (.tuple #[v, .int .i64 0]) ∧ acc.map Prod.fst = ts ∧ W'.ownsRow w.heap.size 60 2 v acc.length (encTs acc) ∧ ∀ x ∈ acc, W'.ownsRow w.heap.size 9 1 x.2 x.1.2.length (x.1.2.map encS)

set_option maxRecDepth 100000 in
set_option maxHeartbeats 1000000 in
theorem readTextT_any (l : List UInt8) (hl : l.length ≤ 9223372036854775807) (w : World) :
    Calls Try.prog 39 #[encS l, .func (.func 40) #[] #[], .func (.func 32) #[] #[]] w (TermsAre w (termsOf l)) := by
  cases l with
  | nil =>
    have HF : Hid (TermsAre w (termsOf []) (.returned (.tuple #[.slice none 0 0, .int .i64 0])) w) := ⟨Below.refl _ _, _, [], rfl, rfl, World.ownsRow_nil _ _ _ _, fun y hy => by cases hy⟩
    unfold encS
    go_enter Try.func39, Try.ntmps39
    go_wp2
    go_ret2
    exact HF.out
  | cons c l2 =>
    have HR : Hid (termsOf (c :: l2) = readAll rdTerm keyT (splitOn 44 (c :: l2))) := if_neg (by simp)
    have hne : (⟨(c :: l2).toArray⟩ : ByteArray).toList.isEmpty = false := by rw [Lib.toList_data]; rfl
    generalize c :: l2 = l at *
    have h0 := readTerms_any l hl 44 (by decide) 44 rfl
    obtain ⟨R, hR⟩ : ∃ R, termsOf l = R := ⟨_, rfl⟩
    rw [hR]
    rw [show readAll rdTerm keyT (splitOn 44 l) = R from HR.out.symm.trans hR] at h0
    clear HR hR hl
    unfold encS at *
    generalize (⟨l.toArray⟩ : ByteArray) = S at *
    have H0 := Lib.hid h0
    clear h0
    go_enter Try.func39, Try.ntmps39
    go_wp2_with fail
    refine (H0.out _).mono ?_
    rintro e W1 ⟨hb, hr⟩
    cases R with
    | none =>
      obtain rfl := hr
      have HF : Hid (TermsAre w none (.returned (.tuple #[.slice none 0 0, .int .i64 2])) W1) := ⟨hb, rfl⟩
      clear hb H0
      go_wp2
      go_ret2
      exact HF.out
    | some ts =>
      obtain ⟨v, acc, rfl, hts, hrow, hvals⟩ := hr
      have HF : Hid (TermsAre w (some ts) (.returned (.tuple #[v, .int .i64 0])) W1) := ⟨hb, v, acc, rfl, hts, ownsRow_base hrow (by omega), fun y hy => ownsRow_base (hvals y hy) (by omega)⟩
      clear hb H0 hrow hvals hts
      go_wp2
      go_ret2
      exact HF.out
theorem parse_any (l : List UInt8) (hl : l.length ≤ 9223372036854775807) (w : World) :
    Calls Try.prog 19 #[encS l] w (TermsAre w (termsOf l)) := by
  have H := Lib.hid (readTextT_any l hl)
  go_enter Try.func19, Try.ntmps19
  go_wp2_with fail
  refine (H.out _).mono ?_
  rintro e W1 ⟨hb, hr⟩
  cases hR : termsOf l with
  | none =>
    rw [hR] at hr
    obtain rfl := hr
    have HF : Hid (TermsAre w none (.returned (.tuple #[.slice none 0 0, .int .i64 2])) W1) := ⟨hb, rfl⟩
    clear hb H
    go_wp2
    go_ret2
    rw [hR]
    exact HF.out
  | some ts =>
    rw [hR] at hr
    obtain ⟨v, acc, rfl, hts, hrow, hvals⟩ := hr
    have HF : Hid (TermsAre w (some ts) (.returned (.tuple #[v, .int .i64 0])) W1) := ⟨hb, v, acc, rfl, hts, hrow, hvals⟩
    clear hb H hrow hvals hts
    go_wp2
    go_ret2
    rw [hR]
    exact HF.out
end Go.Proofs.Ytneogmcmkbhnaaa.T
