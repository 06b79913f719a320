/- The document's has; how many values terms have (small). -/
import Derived.Test.YtneogmcmkbhnaaaTLive
namespace Go.Proofs.Ytneogmcmkbhnaaa.T
open Go.RowKit Go.Lib

set_option maxRecDepth 100000 in
set_option maxHeartbeats 1000000 in
theorem hasR_any (v : Value) (l : List (List UInt8)) (x : List UInt8) (W : World) (h : StrsIn W v l) :
    Calls Try.prog 50 #[v, encS x] W fun e w' => e = .returned (.bool (l.contains x)) ∧ W = w' := by
  rcases h with ⟨o, c, rfl, rfl⟩ | ⟨g, off, cap, rfl, hm, hc, -⟩
  · have HP : Hid ((([] : List (List UInt8)).contains x) = false) := rfl
    rw [HP.out]
    unfold encS
    go_enter Try.func50, Try.ntmps50
    go_wp2
    go_loopw [5] (fun i wr => i = .int .i64 0 ∧ wr = W) (fun _ _ => 0)
    case atStart => exact ⟨rfl, rfl⟩
    case round =>
      obtain ⟨rfl, rfl⟩ := hrel
      go_wp2
      go_ret
      exact ⟨rfl, rfl⟩
  · obtain ⟨R, hR⟩ : ∃ R, l.contains x = R := ⟨_, rfl⟩
    rw [hR]
    have HR := Lib.hid hR
    have HC := Lib.hid hc
    clear hR hc
    obtain ⟨L, hL⟩ : ∃ L, L = l.length := ⟨_, rfl⟩
    rw [← hL] at hm ⊢
    have HL := Lib.hid hL
    clear hL
    unfold encS
    go_enter Try.func50, Try.ntmps50
    go_wp2
    go_loopw [5] (fun i wr => (∃ k : Nat, i = .int .i64 (k : Int) ∧ k ≤ L ∧ ∀ j (h : j < l.length), j < k → l[j] ≠ x) ∧ wr = W) (fun i _ => (L - intOf i).toNat)
    case atStart => exact ⟨⟨0, rfl, Nat.zero_le _, fun j _ h => by omega⟩, rfl⟩
    case round =>
      obtain ⟨⟨k, rfl, hk, hno⟩, rfl⟩ := hrel
      have HN := Lib.hid hno
      clear hno
      by_cases hkl : k < L
      · have hkl' : k < l.length := by rw [← HL.out]; exact hkl
        have hcell := HC.out k hkl'
        unfold encS at hcell
        have hq : (⟨x.toArray⟩ : ByteArray).toList = x := by rw [Lib.toList_data]
        have hq2 : (⟨(l[k]).toArray⟩ : ByteArray).toList = l[k] := by rw [Lib.toList_data]
        by_cases he : l[k] = x
        · have HF : Hid (R = true) := by show _ = _; rw [← HR.out, ← contains_place, place_at hkl' (fun j h1 h2 => HN.out j h1 h2) he]; simp
          rw [he] at hcell
          clear he hq2
          go_wp2
          go_ret
          exact ⟨by rw [HF.out]; rfl, rfl⟩
        · have hno2 : Hid (∀ j (h : j < l.length), j < k + 1 → l[j] ≠ x) := fun j h1 h2 => by
            by_cases hjk : j < k
            · exact HN.out j h1 hjk
            · obtain rfl : j = k := by omega
              exact he
          generalize l[k] = y at *
          have he2 : (y == x) = false := by simpa using he
          have he3 : decide (y = x) = false := by simpa using he
          clear HN
          go_wp2
          go_roundw
          case rel => exact ⟨⟨k + 1, rfl, by omega, hno2.out⟩, trivial⟩
          case measure => simp [intOf]; omega
      · have HF : Hid (R = false) := by show _ = _; rw [← HR.out, ← contains_place, place_none fun j h1 => HN.out j h1 (by have := HL.out; omega)]; rfl
        clear HN
        go_wp2
        go_ret
        exact ⟨by rw [HF.out]; rfl, rfl⟩

/-- Terms of not too many values. -/
def smallB (acc : List TB) : Bool := decide (acc.length ≤ 30) && acc.all fun x => decide (x.1.2.length ≤ 30)
theorem small_no {acc : List TB} {k : Nat} (hk : k < acc.length) (h : ¬ acc[k].1.2.length ≤ 30) : smallB acc = false := by
  unfold smallB
  rw [Bool.and_eq_false_iff]
  exact .inr (List.all_eq_false.2 ⟨acc[k], List.getElem_mem hk, by simpa using h⟩)
theorem small_yes {acc : List TB} (h0 : acc.length ≤ 30) (h : ∀ j (hj : j < acc.length), acc[j].1.2.length ≤ 30) : smallB acc = true := by
  unfold smallB
  rw [Bool.and_eq_true]
  refine ⟨by simpa using h0, List.all_eq_true.2 fun x hx => ?_⟩
  obtain ⟨j, hj, rfl⟩ := List.getElem_of_mem hx
  simpa using h j hj
theorem StrsIn.len {W : World} {v : Value} {l : List (List UInt8)} (h : StrsIn W v l) : ∃ o c, v = .slice o l.length c := by
  rcases h with ⟨o, c, rfl, rfl⟩ | ⟨g, off, cap, rfl, -⟩
  · exact ⟨o, c, rfl⟩
  · exact ⟨_, _, rfl⟩

set_option maxRecDepth 100000 in
set_option maxHeartbeats 1000000 in
theorem small_any (sel : Value) (acc : List TB) (W : World) (hT : TermsIn W sel acc) :
    Calls Try.prog 11 #[sel] W fun e w' => e = .returned (.bool (smallB acc)) ∧ W = w' := by
  have hvs := Lib.hid hT.1
  rcases hT.2 with ⟨c, rfl, rfl⟩ | ⟨g, off, cap, rfl, hm, hg, hc⟩
  · have HF : Hid (smallB [] = true) := rfl
    rw [HF.out]
    clear hT hvs
    go_enter Try.func11, Try.ntmps11
    go_wp2
    go_loopw [3] (fun i wr => i = .int .i64 0 ∧ wr = W) (fun _ _ => 0)
    case atStart => exact ⟨rfl, rfl⟩
    case round =>
      obtain ⟨rfl, rfl⟩ := hrel
      go_wp2
      go_ret
      exact ⟨rfl, rfl⟩
  · clear hT hg
    obtain ⟨R, hR⟩ : ∃ R, smallB acc = R := ⟨_, rfl⟩
    rw [hR]
    have HR := Lib.hid hR
    have HC := Lib.hid hc
    clear hR hc
    obtain ⟨L, hL⟩ : ∃ L, L = acc.length := ⟨_, rfl⟩
    rw [← hL] at hm ⊢
    have HL := Lib.hid hL
    clear hL
    by_cases h30 : L ≤ 30
    · go_enter Try.func11, Try.ntmps11
      go_wp2
      go_loopw [3] (fun i wr => (∃ k : Nat, i = .int .i64 (k : Int) ∧ k ≤ L ∧ ∀ j (h : j < acc.length), j < k → acc[j].1.2.length ≤ 30) ∧ wr = W) (fun i _ => (L - intOf i).toNat)
      case atStart => exact ⟨⟨0, rfl, Nat.zero_le _, fun j _ h => by omega⟩, rfl⟩
      case round =>
        obtain ⟨⟨k, rfl, hk, hno⟩, rfl⟩ := hrel
        have HN := Lib.hid hno
        clear hno
        by_cases hkl : k < L
        · have hkl' : k < acc.length := by rw [← HL.out]; exact hkl
          have hcell := (HC.out k hkl').2
          obtain ⟨o, c, hv⟩ := (hvs.out acc[k] (List.getElem_mem hkl')).len
          rw [hv] at hcell
          by_cases h3 : acc[k].1.2.length ≤ 30
          · have hno2 : Hid (∀ j (h : j < acc.length), j < k + 1 → acc[j].1.2.length ≤ 30) := fun j h1 h2 => by
              by_cases hjk : j < k
              · exact HN.out j h1 hjk
              · obtain rfl : j = k := by omega
                exact h3
            generalize acc[k].1.2.length = n at *
            clear HN hv
            go_wp2
            go_roundw
            case rel => exact ⟨⟨k + 1, rfl, by omega, hno2.out⟩, trivial⟩
            case measure => simp [intOf]; omega
          · have HF : Hid (R = false) := by show _ = _; rw [← HR.out, small_no hkl' h3]
            generalize acc[k].1.2.length = n at *
            clear HN hv
            go_wp2
            go_ret
            exact ⟨by rw [HF.out]; rfl, rfl⟩
        · have HF : Hid (R = true) := by show _ = _; rw [← HR.out, small_yes (by rw [← HL.out]; exact h30) fun j h1 => HN.out j h1 (by have := HL.out; omega)]
          clear HN
          go_wp2
          go_ret
          exact ⟨by rw [HF.out]; rfl, rfl⟩
    · have HF : Hid (R = false) := by
        show _ = _
        rw [← HR.out]
        unfold smallB
        rw [decide_eq_false (by rw [← HL.out]; exact h30)]
        rfl
      go_enter Try.func11, Try.ntmps11
      go_wp2
      go_ret
      exact ⟨by rw [HF.out]; rfl, rfl⟩
end Go.Proofs.Ytneogmcmkbhnaaa.T
