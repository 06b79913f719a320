/- The functions of object that take any number of texts or phases. -/
import Derived.Test.YtacbfpgknfcimaaOVars
namespace Go.Proofs.Ytacbfpgknfcimaa.O
open Go.RowKit T
open Go.Lib hiding intOf

/-- The cells of a row of texts, of phases. -/
def Txts (W : World) (g : Nat) (l : List ByteArray) : Prop := g < W.heap.size ∧ ∀ i (h : i < l.length), W.cell? ⟨g, i, none⟩ = some (.string l[i])
def Phs (W : World) (g : Nat) (l : List Int) : Prop := ∀ i (h : i < l.length), W.cell? ⟨g, i, none⟩ = some (.int .u8 l[i])
theorem Txts.below {W W' : World} {g : Nat} {l : List ByteArray} (h : Txts W g l) (hb : Below W.heap.size W W') : Txts W' g l :=
  ⟨Nat.lt_of_lt_of_le h.1 hb.size, fun i hi => (hb.cell (p := ⟨g, i, none⟩) h.1).trans (h.2 i hi)⟩

theorem all_take_snoc {α : Type} {l : List α} {p : α → Bool} {k : Nat} (h : k < l.length) (hd : (l.take k).all p = true) (hk : p l[k] = true) : (l.take (k + 1)).all p = true := by
  rw [List.take_succ_eq_append_getElem h, List.all_append, hd]; simp [hk]
theorem all_take_not {α : Type} {l : List α} {p : α → Bool} {k : Nat} (h : k < l.length) (hk : p l[k] = false) : l.all p = false := by
  rw [List.all_eq_false]
  exact ⟨l[k], List.getElem_mem _, by simp [hk]⟩
theorem all_take_end {α : Type} {l : List α} {p : α → Bool} {k : Nat} (h : ¬ k < l.length) (hd : (l.take k).all p = true) : l.all p = true := by
  rwa [List.take_of_length_le (by omega)] at hd
theorem emp_true {s : ByteArray} (h : emp s = true) : s.toList.isEmpty = true := by
  unfold emp at h; rw [Lib.toList_data, of_decide_eq_true h]; rfl
theorem emp_false {s : ByteArray} (h : emp s = false) : s.toList.isEmpty = false := by
  unfold emp at h; rw [Lib.toList_data]; simpa using h
theorem emp_true' {s : ByteArray} (h : emp s = true) : s.toList = [] := by
  unfold emp at h; rw [Lib.toList_data, of_decide_eq_true h]

set_option maxHeartbeats 400000 in
theorem allEmpty_any (l : List ByteArray) (g : Nat) (w : World) (hl : l.length ≤ 100) (ht : Txts w g l) :
    Calls Try.prog 50 #[.slice (some ⟨g, 0, none⟩) l.length l.length] w fun e w' => e = .returned (.bool (l.all emp)) ∧ w = w' := by
  have HT := Lib.hid ht
  clear ht
  go_enter Try.func50, Try.ntmps50
  go_wp2
  go_loop [7] (fun i => ∃ k : Nat, k ≤ l.length ∧ i = .int .i64 k ∧ Hid ((l.take k).all emp = true)) (fun i => l.length - (intOf i).toNat)
  case atStart => exact ⟨0, Nat.zero_le _, rfl, by show _ = _; simp⟩
  case round =>
    obtain ⟨k, hk, rfl, hd⟩ := hrel
    by_cases hp : k < l.length
    · have hc := HT.out.2 k hp
      cases hn : emp l[k] with
      | true =>
        have hd' := Lib.hid (all_take_snoc hp hd.out hn)
        have h1 := emp_true hn
        have h2 := emp_true' hn
        clear hd hn
        go_wp2
        go_round
        case rel => exact ⟨k + 1, by omega, by go_num, hd'⟩
        case measure => simp [intOf]; omega
      | false =>
        have hn' := Lib.hid (all_take_not (p := emp) hp hn)
        have h1 := emp_false hn
        clear hd hn
        go_wp2
        go_ret
        exact ⟨ret_bool hn'.out.symm, rfl⟩
    · have H := Lib.hid (all_take_end (p := emp) hp hd.out)
      clear hd
      go_wp2
      go_ret
      exact ⟨ret_bool H.out.symm, rfl⟩

set_option maxHeartbeats 400000 in
theorem noneEmpty_any (l : List ByteArray) (g : Nat) (w : World) (hl : l.length ≤ 100) (ht : Txts w g l) :
    Calls Try.prog 71 #[.slice (some ⟨g, 0, none⟩) l.length l.length] w fun e w' => e = .returned (.bool (l.all fun s => !emp s)) ∧ w = w' := by
  have HT := Lib.hid ht
  clear ht
  go_enter Try.func71, Try.ntmps71
  go_wp2
  go_loop [7] (fun i => ∃ k : Nat, k ≤ l.length ∧ i = .int .i64 k ∧ Hid ((l.take k).all (fun s => !emp s) = true)) (fun i => l.length - (intOf i).toNat)
  case atStart => exact ⟨0, Nat.zero_le _, rfl, by show _ = _; simp⟩
  case round =>
    obtain ⟨k, hk, rfl, hd⟩ := hrel
    by_cases hp : k < l.length
    · have hc := HT.out.2 k hp
      cases hn : emp l[k] with
      | false =>
        have hd' := Lib.hid (all_take_snoc (p := fun s => !emp s) hp hd.out (by simp [hn]))
        have h1 := emp_false hn
        clear hd hn
        go_wp2
        go_round
        case rel => exact ⟨k + 1, by omega, by go_num, hd'⟩
        case measure => simp [intOf]; omega
      | true =>
        have hn' := Lib.hid (all_take_not (p := fun s => !emp s) hp (by simp [hn]))
        have h1 := emp_true hn
        have h2 := emp_true' hn
        clear hd hn
        go_wp2
        go_ret
        exact ⟨ret_bool hn'.out.symm, rfl⟩
    · have H := Lib.hid (all_take_end (p := fun s => !emp s) hp hd.out)
      clear hd
      go_wp2
      go_ret
      exact ⟨ret_bool H.out.symm, rfl⟩

set_option maxHeartbeats 400000 in
theorem oneOf_any (p : Int) (l : List Int) (g : Nat) (w : World) (hl : l.length ≤ 100) (ht : Phs w g l) :
    Calls Try.prog 76 #[.int .u8 p, .slice (some ⟨g, 0, none⟩) l.length l.length] w fun e w' => e = .returned (.bool (l.any fun x => decide (p = x))) ∧ w = w' := by
  have HT := Lib.hid ht
  clear ht
  go_enter Try.func76, Try.ntmps76
  go_wp2
  go_loop [9] (fun i => ∃ k : Nat, k ≤ l.length ∧ i = .int .i64 k ∧ Hid (∀ x ∈ l.take k, p ≠ x)) (fun i => l.length - (intOf i).toNat)
  case atStart => exact ⟨0, Nat.zero_le _, rfl, by show ∀ x ∈ _, _; simp⟩
  case round =>
    obtain ⟨k, hk, rfl, hd⟩ := hrel
    by_cases hp : k < l.length
    · have hc := HT.out k hp
      by_cases hn : l[k] = p
      · have hn' : Hid ((l.any fun x => decide (p = x)) = true) := List.any_eq_true.2 ⟨l[k], List.getElem_mem _, by simp [hn]⟩
        have h1 := beq_yes hn
        clear hd hn
        go_wp2
        go_ret
        exact ⟨ret_bool hn'.out.symm, rfl⟩
      · have hd' : Hid (∀ x ∈ l.take (k + 1), p ≠ x) := by
          show ∀ x ∈ _, _
          rw [List.take_succ_eq_append_getElem hp]
          intro x hx
          rcases List.mem_append.1 hx with h | h
          · exact hd.out x h
          · simp at h; subst h; exact fun e => hn e.symm
        have h1 := beq_no hn
        clear hd hn
        go_wp2
        go_round
        case rel => exact ⟨k + 1, by omega, by go_num, hd'⟩
        case measure => simp [intOf]; omega
    · have H : Hid ((l.any fun x => decide (p = x)) = false) := by
        show _ = _
        rw [List.any_eq_false]
        intro x hx
        have := hd.out x (by rwa [List.take_of_length_le (by omega)])
        simpa using this
      clear hd
      go_wp2
      go_ret
      exact ⟨ret_bool H.out.symm, rfl⟩

set_option maxHeartbeats 400000 in
theorem namesOrEmpty_any (l : List ByteArray) (g : Nat) (w : World) (hl : l.length ≤ 100) (ht : Txts w g l) :
    Calls Try.prog 52 #[.slice (some ⟨g, 0, none⟩) l.length l.length] w fun e w' => e = .returned (.bool (l.all okT)) ∧ Below w.heap.size w w' := by
  have HT := Lib.hid ht
  clear ht
  go_enter Try.func52, Try.ntmps52
  go_wp2
  go_loopw [7] (fun i wr => ∃ k : Nat, k ≤ l.length ∧ i = .int .i64 k ∧ Below w.heap.size w wr ∧ Hid ((l.take k).all okT = true)) (fun i _ => l.length - (intOf i).toNat)
  case atStart => exact ⟨0, Nat.zero_le _, rfl, Below.refl _ _, by show _ = _; simp⟩
  case round =>
    obtain ⟨k, hk, rfl, hb, hd⟩ := hrel
    rename_i wr
    by_cases hp : k < l.length
    · have hc := (HT.out.below hb).2 k hp
      cases he : emp l[k] with
      | true =>
        have hd' := Lib.hid (all_take_snoc hp hd.out (show okT l[k] = true by unfold okT; unfold emp at he; rw [he]; rfl))
        have h1 := emp_true he
        have h2 := emp_true' he
        clear hd he
        go_wp2
        go_roundw
        case rel => exact ⟨k + 1, by omega, by go_num, hb, hd'⟩
        case measure => simp [intOf]; omega
      | false =>
        have h1 := emp_false he
        have hok : okT l[k] = nameB l[k].data.toList := by unfold okT; unfold emp at he; rw [he]; rfl
        cases hn : nameB l[k].data.toList with
        | true =>
          have hd' := Lib.hid (all_take_snoc (p := okT) hp hd.out (hok.trans hn))
          have HN := Lib.hid hn
          clear hd he hok hn
          go_wp2_with fail
          refine (name_any _ _).mono ?_
          rintro e w1 ⟨rfl, hb1⟩
          rw [HN.out]
          have hb2 := hb.trans (hb1.mono hb.size)
          clear hb1
          go_wp2
          go_roundw
          case rel => exact ⟨k + 1, by omega, by go_num, hb2, hd'⟩
          case measure => simp [intOf]; omega
        | false =>
          have hn' := Lib.hid (all_take_not (p := okT) hp (hok.trans hn))
          have HN := Lib.hid hn
          clear hd he hok hn
          go_wp2_with fail
          refine (name_any _ _).mono ?_
          rintro e w1 ⟨rfl, hb1⟩
          rw [HN.out]
          have hb2 := hb.trans (hb1.mono hb.size)
          clear hb1
          go_wp2
          go_ret
          exact ⟨ret_bool hn'.out.symm, hb2⟩
    · have H := Lib.hid (all_take_end (p := okT) hp hd.out)
      clear hd
      go_wp2
      go_ret
      exact ⟨ret_bool H.out.symm, hb⟩
end Go.Proofs.Ytacbfpgknfcimaa.O
