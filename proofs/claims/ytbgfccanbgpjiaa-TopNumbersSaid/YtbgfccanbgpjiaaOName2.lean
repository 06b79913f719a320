/- object.Name, and the document's own Name, maybe and plain. -/
import Derived.Test.YtbgfccanbgpjiaaOName
import Derived.BigQuiet
import Derived.Deep.QuietTactic
namespace Go.Proofs.Ytbgfccanbgpjiaa.O
open Go.RowKit Go.Lib T

theorem nrB_low {c : UInt8} (h : c.toNat < 128) : nrB (c.toNat : Int) = isN c := by
  unfold nrB
  rw [show decide ((c.toNat : Int) < 128) = true by simp; omega]
  simp
theorem nrB_high {r : Int} (h : 128 ≤ r) : nrB r = false := by
  unfold nrB; rw [show decide (r < 128) = false by simp; omega]; rfl
theorem isN_low {c : UInt8} (h : isN c = true) : c.toNat < 128 := by
  unfold isN at h
  simp only [Bool.or_eq_true, decide_eq_true_eq] at h
  rcases h with h | h | h | h
  · exact isW_low h
  · omega
  · omega
  · omega
theorem isN_high {c : UInt8} (h : 128 ≤ c.toNat) : isN c = false := by
  rw [Bool.eq_false_iff]; intro e; have := isN_low e; omega
theorem allN_snoc {s : ByteArray} {k : Nat} (h : k < s.size) (hd : (s.data.toList.take k).all isN = true) (hk : isN s[k] = true) : (s.data.toList.take (k + 1)).all isN = true := by
  rw [take_snoc s k h, List.all_append, hd]; simp [hk]
theorem allN_not {s : ByteArray} {k : Nat} (h : k < s.size) (hk : isN s[k] = false) : s.data.toList.all isN = false := by
  rw [List.all_eq_false]
  exact ⟨s[k], by rw [← get_list s k h]; exact List.getElem_mem _, by simp [hk]⟩
theorem nameB_mid {s : ByteArray} (h1 : 1 ≤ s.size) (h2 : s.size ≤ 40) : nameB s.data.toList = s.data.toList.all isN := by
  unfold nameB
  simp only [size_list]
  rw [show decide (1 ≤ s.size) = true by simp; omega, show decide (s.size ≤ 40) = true by simp; omega]
  rfl
theorem nameB_off {s : ByteArray} (h : s.size < 1 ∨ 40 < s.size) : nameB s.data.toList = false := by
  unfold nameB; simp only [size_list, Bool.and_eq_false_iff, decide_eq_false_iff_not]; omega
theorem nameB_not {s : ByteArray} (h : s.data.toList.all isN = false) : nameB s.data.toList = false := by
  unfold nameB; rw [h]; simp
theorem nameB_le {s : ByteArray} (h : nameB s.data.toList = true) : 1 ≤ s.size ∧ s.size ≤ 40 := by
  unfold nameB at h
  simp only [size_list, Bool.and_eq_true, decide_eq_true_eq] at h
  exact h.1

theorem below_iterAt {w wr : World} {s : ByteArray} {p : Nat} (h : Below w.heap.size w wr) : Below w.heap.size w (wr.iterAt w.heap.size s p) :=
  h.grown (row := some w.heap.size) ⟨rfl, rfl, rfl, by rw [iterAt_size]; exact Nat.le_refl _, fun j _ hj => iterAt_other wr w.heap.size j s p (fun e => hj (by rw [e]))⟩ h.size (fun k hk => by cases hk; exact Nat.le_refl _)
set_option maxHeartbeats 400000 in
theorem name_any (s : ByteArray) (w : World) :
    Calls Try.prog 39 #[.string s] w fun e w' => e = .returned (.bool (nameB s.data.toList)) ∧ Below w.heap.size w w' := by
  by_cases h1 : s.size < 1
  · have H := Lib.hid (nameB_off (.inl h1))
    go_enter Try.func39, Try.ntmps39
    go_wp2
    go_ret
    exact ⟨ret_bool H.out.symm, Below.refl _ _⟩
  by_cases h2 : 40 < s.size
  · have H := Lib.hid (nameB_off (.inr h2))
    go_enter Try.func39, Try.ntmps39
    go_wp2
    go_ret
    exact ⟨ret_bool H.out.symm, Below.refl _ _⟩
  have H := Lib.hid (nameB_mid (s := s) (by omega) (by omega))
  have g1 : 1 ≤ s.size := by omega
  have g2 : s.size ≤ 40 := by omega
  clear h1 h2
  go_enter Try.func39, Try.ntmps39
  go_wp2
  go_loopw [] (fun w' => ∃ pos : Nat, pos ≤ s.size ∧ Below w.heap.size w w' ∧ w'.heap[w.heap.size]? = some (.stringIter s pos) ∧ Hid ((s.data.toList.take pos).all isN = true)) (fun w' => s.size - w'.iterPos w.heap.size)
  case atStart => exact ⟨0, Nat.zero_le _, below_iter _ _, World.iter_heap w s 0, by show _ = _; simp⟩
  case round =>
    obtain ⟨pos, hpos, hbw, hit, hd⟩ := hrel
    rename_i wr
    by_cases hp : pos < s.size
    · have hbi : Below w.heap.size w (wr.iterAt w.heap.size s (pos + (Utf8.decode s pos).2)) := below_iterAt hbw
      have hii := iterAt_heap wr w.heap.size s pos (pos + (Utf8.decode s pos).2) hit
      have hwd := decode_width_pos s pos hp
      have hle : pos + (Utf8.decode s pos).2 ≤ s.size := by
        by_cases ha : s[pos].toNat < 128
        · rw [decode_ascii s pos hp ha]; omega
        · exact (high_step s pos hp (by omega)).1
      have hr0 : (0 : Int) ≤ ((Utf8.decode s pos).1 : Int) := by omega
      have hnx : ∀ ty, (Instr.next (.pointer (some ⟨w.heap.size, 0, none⟩)) true ty).run Try.prog wr = _ := fun ty => run_next_any_at wr w.heap.size s pos ty hit hp
      have hpr : wr.iterPos w.heap.size = pos := by simp [World.iterPos, hit]
      cases hk : nrB ((Utf8.decode s pos).1 : Int) with
      | true =>
        have hlow : s[pos].toNat < 128 := by
          rcases Nat.lt_or_ge s[pos].toNat 128 with h | h
          · exact h
          · have h3 := (decode_high s pos hp (by omega)).1
            rw [nrB_high (by omega)] at hk; cases hk
        have hd' : Hid ((s.data.toList.take (pos + (Utf8.decode s pos).2)).all isN = true) := by
          show _ = _
          rw [decode_ascii s pos hp hlow] at hk ⊢
          exact allN_snoc hp hd.out (by rw [← nrB_low hlow]; exact hk)
        have HK := Lib.hid hk
        have HII := Lib.hid hii
        have HPR := Lib.hid hpr
        clear hd hk hii hlow hpr hit
        go_wp2_with fail
        refine (nameRune_any _ _ hr0).mono ?_
        rintro e w1 ⟨rfl, hb1⟩
        rw [HK.out]
        have hb2 := hbi.trans (hb1.mono hbi.size)
        have hlt : w.heap.size < (wr.iterAt w.heap.size s (pos + (Utf8.decode s pos).2)).heap.size := (Array.getElem?_eq_some_iff.1 HII.out).1
        have hi1 := Lib.hid ((hb1.block w.heap.size hlt).trans HII.out)
        have hp1 : Hid (w1.iterPos w.heap.size = pos + (Utf8.decode s pos).2) := by show _ = _; simp [World.iterPos, hi1.out]
        clear hb1 hlt hbi
        go_wp2
        exact ⟨⟨_, hle, hb2, hi1.out, hd'⟩, by rw [hp1.out, HPR.out]; omega⟩
      | false =>
        have hn : Hid (nameB s.data.toList = false) := by
          show _ = _
          refine nameB_not (allN_not hp ?_)
          by_cases ha : s[pos].toNat < 128
          · rw [decode_ascii s pos hp ha] at hk
            rw [← nrB_low ha]; exact hk
          · exact isN_high (by omega)
        have HK := Lib.hid hk
        clear hd hk hii hpr hit
        go_wp2_with fail
        refine (nameRune_any _ _ hr0).mono ?_
        rintro e w1 ⟨rfl, hb1⟩
        rw [HK.out]
        have hb2 := hbi.trans (hb1.mono hbi.size)
        clear hb1 hbi
        go_wp2
        go_ret
        exact ⟨ret_bool hn.out.symm, hb2⟩
    · have hn : Hid (s.data.toList.all isN = true) := by
        have := hd.out
        rwa [List.take_of_length_le (by rw [size_list]; omega)] at this
      have hnx : ∀ ty, (Instr.next (.pointer (some ⟨w.heap.size, 0, none⟩)) true ty).run Try.prog wr = _ := fun ty => run_next_end_at wr w.heap.size s pos ty hit hp
      clear hd hit
      go_wp2
      go_ret
      exact ⟨ret_bool (by rw [H.out, hn.out]), hbw⟩
end Go.Proofs.Ytbgfccanbgpjiaa.O
