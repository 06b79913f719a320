/- Texts that lie in a slice; slices.Index and slices.Contains at texts. -/
import Derived.Test.YtneogmcmkbhnaaaTTextT
namespace Go.Proofs.Ytneogmcmkbhnaaa.T
open Go.RowKit Go.Lib

/-- A slice whose elements are these texts. -/
def StrsIn (W : World) (v : Value) (l : List (List UInt8)) : Prop :=
  (∃ o c, v = .slice o 0 c ∧ l = []) ∨ ∃ g off cap, v = .slice (some ⟨g, off, none⟩) l.length cap ∧ l.length ≤ 9223372036854775807 ∧ (∀ i (h : i < l.length), W.cell? ⟨g, off + i, none⟩ = some (encS l[i])) ∧ l.length ≤ cap
theorem StrsIn.after {W W' : World} {v : Value} {l : List (List UInt8)} (h : StrsIn W v l) (hb : Below W.heap.size W W') : StrsIn W' v l := by
  rcases h with h | ⟨g, off, cap, hv, hl, hc, hcap⟩
  · exact .inl h
  · refine .inr ⟨g, off, cap, hv, hl, fun i hi => ?_, hcap⟩
    have h1 := hc i hi
    have hlt : g < W.heap.size := by
      rcases Nat.lt_or_ge g W.heap.size with hh | hh
      · exact hh
      · unfold World.cell? at h1
        rw [Array.getElem?_eq_none hh] at h1
        cases h1
    unfold World.cell? at h1 ⊢
    rw [hb.block g hlt]
    exact h1
theorem StrsIn.ofRow {W : World} {nb : Nat} {v : Value} {l : List (List UInt8)} (h : W.ownsRow nb 9 1 v l.length (l.map encS)) : StrsIn W v l := by
  rcases h.2 with ⟨rfl, h0⟩ | ⟨g, cap, cur, rfl, -, hg, hn, hm, hs, ht⟩
  · exact .inl ⟨none, 0, rfl, List.length_eq_zero_iff.1 h0⟩
  · refine .inr ⟨g, 0, cap, rfl, Nat.le_trans hn hm, fun i hi => ?_, hn⟩
    rw [Nat.zero_add]
    refine (cell_of_row W g i _ _ _ hg).trans ?_
    have h2 := congrArg (fun l => l[i]?) ht
    simp only [Nat.mul_one] at h2
    rw [List.getElem?_take, if_pos hi, Array.getElem?_toList, List.getElem?_map, List.getElem?_eq_getElem hi] at h2
    exact h2
/-- The first place of a text. -/
def placeOf (l : List (List UInt8)) (x : List UInt8) : Int := match l.findIdx? (· == x) with
  | none => -1
  | some k => k
theorem place_at {l : List (List UInt8)} {x : List UInt8} {k : Nat} (hk : k < l.length) (hno : ∀ j (h : j < l.length), j < k → l[j] ≠ x) (he : l[k] = x) : placeOf l x = k := by
  unfold placeOf
  rw [List.findIdx?_eq_some_iff_getElem.2 ⟨hk, by simp [he], fun j hj => by simpa using hno j (by omega) hj⟩]
theorem place_none {l : List (List UInt8)} {x : List UInt8} (hno : ∀ j (h : j < l.length), l[j] ≠ x) : placeOf l x = -1 := by
  unfold placeOf
  rw [List.findIdx?_eq_none_iff.2 fun y hy => by
    obtain ⟨j, hj, rfl⟩ := List.getElem_of_mem hy
    simpa using hno j hj]
theorem contains_place (l : List (List UInt8)) (x : List UInt8) : decide (0 ≤ placeOf l x) = l.contains x := by
  unfold placeOf
  cases h : l.findIdx? (· == x) with
  | none =>
    have := List.findIdx?_eq_none_iff.1 h
    have hm : x ∉ l := fun hm => by have := this x hm; simp at this
    simp [hm]
  | some k =>
    obtain ⟨hk, he, -⟩ := List.findIdx?_eq_some_iff_getElem.1 h
    have hm : x ∈ l := by
      have : l[k] = x := by simpa using he
      rw [← this]; exact List.getElem_mem _
    simp [hm]

set_option maxRecDepth 100000 in
set_option maxHeartbeats 1000000 in
theorem indexS_any (v : Value) (l : List (List UInt8)) (x : List UInt8) (W : World) (h : StrsIn W v l) :
    Calls Try.prog 67 #[v, encS x] W fun e w' => e = .returned (.int .i64 (placeOf l x)) ∧ W = w' := by
  rcases h with ⟨o, c, rfl, rfl⟩ | ⟨g, off, cap, rfl, hm, hc, -⟩
  · have HP : Hid (placeOf [] x = -1) := rfl
    rw [HP.out]
    unfold encS
    go_enter Try.func67, Try.ntmps67
    go_wp2
    go_loopw [8] (fun i wr => i = .int .i64 0 ∧ wr = W) (fun _ _ => 0)
    case atStart => exact ⟨rfl, rfl⟩
    case round =>
      obtain ⟨rfl, rfl⟩ := hrel
      go_wp2
      go_ret
      exact ⟨rfl, rfl⟩
  · obtain ⟨R, hR⟩ : ∃ R, placeOf l x = R := ⟨_, rfl⟩
    rw [hR]
    have HR := Lib.hid hR
    have HC := Lib.hid hc
    clear hR hc
    obtain ⟨L, hL⟩ : ∃ L, L = l.length := ⟨_, rfl⟩
    rw [← hL] at hm ⊢
    have HL := Lib.hid hL
    clear hL
    unfold encS
    go_enter Try.func67, Try.ntmps67
    go_wp2
    go_loopw [8] (fun i wr => (∃ k : Nat, i = .int .i64 (k : Int) ∧ k ≤ L ∧ ∀ j (h : j < l.length), j < k → l[j] ≠ x) ∧ wr = W) (fun i _ => (L - intOf i).toNat)
    case atStart => exact ⟨⟨0, rfl, Nat.zero_le _, fun j _ h => by omega⟩, rfl⟩
    case round =>
      obtain ⟨⟨k, rfl, hk, hno⟩, rfl⟩ := hrel
      have HN := Lib.hid hno
      clear hno
      by_cases hkl : k < L
      · have hkl' : k < l.length := by rw [← HL.out]; exact hkl
        have hcell := HC.out k hkl'
        unfold encS at hcell
        have hq : (⟨x.toArray⟩ : ByteArray).toList = x := by rw [Lib.toList_data]
        have hq2 : (⟨(l[k]).toArray⟩ : ByteArray).toList = l[k] := by rw [Lib.toList_data]
        by_cases he : l[k] = x
        · have HF : Hid ((k : Int) = R) := by show _ = _; rw [← HR.out]; exact (place_at hkl' (fun j h1 h2 => HN.out j h1 h2) he).symm
          rw [he] at hcell
          clear he hq2
          go_wp2
          go_ret
          exact ⟨by rw [HF.out]; rfl, rfl⟩
        · have hno2 : Hid (∀ j (h : j < l.length), j < k + 1 → l[j] ≠ x) := fun j h1 h2 => by
            by_cases hjk : j < k
            · exact HN.out j h1 hjk
            · obtain rfl : j = k := by omega
              exact he
          generalize l[k] = y at *
          have he1 : x ≠ y := fun e => he e.symm
          have he2 : (x == y) = false := by simpa using he1
          have he3 : decide (x = y) = false := by simpa using he1
          clear HN
          go_wp2
          go_roundw
          case rel => exact ⟨⟨k + 1, rfl, by omega, hno2.out⟩, trivial⟩
          case measure => simp [intOf]; omega
      · have HF : Hid ((-1 : Int) = R) := by show _ = _; rw [← HR.out]; exact (place_none fun j h1 => HN.out j h1 (by have := HL.out; omega)).symm
        clear HN
        go_wp2
        go_ret
        exact ⟨by rw [← HF.out]; rfl, rfl⟩
theorem containsS_any (v : Value) (l : List (List UInt8)) (x : List UInt8) (W : World) (h : StrsIn W v l) :
    Calls Try.prog 48 #[v, encS x] W fun e w' => e = .returned (.bool (l.contains x)) ∧ W = w' := by
  rw [← contains_place]
  have H0 := indexS_any v l x W h
  generalize placeOf l x = R at *
  have H := Lib.hid H0
  clear H0
  go_enter Try.func48, Try.ntmps48
  go_wp2_with fail
  refine H.out.mono ?_
  rintro e W1 ⟨rfl, rfl⟩
  clear H
  go_wp2
  go_ret
  exact ⟨rfl, rfl⟩
end Go.Proofs.Ytneogmcmkbhnaaa.T
