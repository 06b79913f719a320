/- topo.pair, and the document's own Word. -/
import Derived.Test.YtneogmcmkbhnaaaTWord
namespace Go.Proofs.Ytneogmcmkbhnaaa.T
open Go.RowKit Go.Lib

/-- The first mark = of a text. -/
def eqAt (l : List UInt8) : Option Nat := l.findIdx? (· == 61)

theorem pair_none (s : ByteArray) (w : World) (h : (61 : UInt8) ∉ s.data.toList) :
    Calls Try.prog 64 #[.string s] w fun e w' => e = .returned (.tuple #[.string ⟨#[]⟩, .string ⟨#[]⟩, .bool false]) ∧ Below w.heap.size w w' := by
  have H := Lib.hid h
  clear h
  go_enter Try.func64, Try.ntmps64
  go_wp2
  go_loopw [] (fun w' => ∃ pos : Nat, w' = w.iter s pos) (fun w' => s.size - w'.iterPos w.heap.size)
  case atStart => exact ⟨0, rfl⟩
  case round =>
    obtain ⟨pos, rfl⟩ := hrel
    by_cases hp : pos < s.size
    · have hw := decode_width_pos s pos hp
      have hr : (((Utf8.decode s pos).1 : Int) == 61) = false := by
        by_cases ha : s[pos].toNat < 128
        · rw [decode_ascii s pos hp ha]
          have : s[pos] ≠ 61 := fun e => H.out (by rw [← e, ← get_list s pos hp]; exact List.getElem_mem _)
          simp only [beq_eq_false_iff_ne]
          intro e
          exact this (UInt8.toNat_inj.1 (by simp; omega))
        · have := (decode_high s pos hp (by omega)).1
          simp; omega
      have hnx : ∀ ty, (Instr.next (.pointer (some ⟨w.heap.size, 0, none⟩)) true ty).run Try.prog (w.iter s pos) = _ := fun ty => run_next_any w s pos ty hp
      go_wp2
      exact ⟨⟨_, rfl⟩, by simp; omega⟩
    · have hnx : ∀ ty, (Instr.next (.pointer (some ⟨w.heap.size, 0, none⟩)) true ty).run Try.prog (w.iter s pos) = _ := fun ty => run_next_end w s pos ty hp
      go_wp2
      go_ret3
      exact ⟨rfl, below_iter _ _⟩

/-- The first mark = stands at k. -/
theorem pair_some (s : ByteArray) (w : World) (hs : s.size ≤ 9223372036854775807) (k : Nat) (hk : k < s.size) (he : s[k] = 61) (hn : (61 : UInt8) ∉ s.data.toList.take k) :
    Calls Try.prog 64 #[.string s] w fun e w' => e = .returned (.tuple #[.string (s.extract 0 k), .string (s.extract (k + 1) s.size), .bool true]) ∧ Below w.heap.size w w' := by
  have HN := Lib.hid hn
  have HE := Lib.hid he
  clear hn he
  go_enter Try.func64, Try.ntmps64
  go_wp2
  go_loopw [] (fun w' => ∃ pos : Nat, pos ≤ k ∧ w' = w.iter s pos) (fun w' => s.size - w'.iterPos w.heap.size)
  case atStart => exact ⟨0, Nat.zero_le _, rfl⟩
  case round =>
    obtain ⟨pos, hpk, rfl⟩ := hrel
    have hp : pos < s.size := by omega
    by_cases hlt : pos < k
    · have hw := decode_width_pos s pos hp
      have hk128 : (s[k]).toNat = 61 := by rw [HE.out]; rfl
      have hr : (((Utf8.decode s pos).1 : Int) == 61) = false ∧ pos + (Utf8.decode s pos).2 ≤ k := by
        by_cases ha : s[pos].toNat < 128
        · rw [decode_ascii s pos hp ha]
          have : s[pos] ≠ 61 := fun e => HN.out (by rw [← e, ← get_list s pos hp]; exact List.mem_take_iff_getElem.2 ⟨pos, by rw [size_list]; omega, rfl⟩)
          refine ⟨?_, by simp; omega⟩
          simp only [beq_eq_false_iff_ne]
          intro e
          exact this (UInt8.toNat_inj.1 (by simp; omega))
        · have h1 := (decode_high s pos hp (by omega)).1
          have h2 := (high_step s pos hp (by omega)).2
          refine ⟨by simp; omega, ?_⟩
          rcases Nat.lt_or_ge k (pos + (Utf8.decode s pos).2) with h3 | h3
          · have := h2 k (by omega) h3 hk
            omega
          · exact h3
      obtain ⟨hr1, hr2⟩ := hr
      have hnx : ∀ ty, (Instr.next (.pointer (some ⟨w.heap.size, 0, none⟩)) true ty).run Try.prog (w.iter s pos) = _ := fun ty => run_next_any w s pos ty hp
      go_wp2
      exact ⟨⟨_, hr2, rfl⟩, by simp; omega⟩
    · obtain rfl : pos = k := by omega
      have hc : s[pos].toNat = 61 := by rw [HE.out]; rfl
      have hnx : ∀ ty, (Instr.next (.pointer (some ⟨w.heap.size, 0, none⟩)) true ty).run Try.prog (w.iter s pos) = .ok (.tuple #[.bool true, .int .i64 pos, .int .i32 61]) (w.iter s (pos + 1)) := fun ty => by
        have := run_next_ascii (P := Try.prog) w s pos ty hp (by omega)
        rw [hc] at this; exact this
      clear hc
      have q0 : (0 : Int) ≤ (pos : Int) := Int.natCast_nonneg _
      have q1 : (pos : Int) ≤ (s.size : Int) := by omega
      have q2 : (0 : Int) ≤ (pos : Int) + 1 := by omega
      have q3 : (pos : Int) + 1 ≤ (s.size : Int) := by omega
      have e1 : IntKind.i64.wrap ((pos : Int) + 1) = (pos : Int) + 1 := IntWalk.i64_in _ (by omega)
      have e2 : ((pos : Int) + 1).toNat = pos + 1 := by omega
      go_wp2_with fail
      go_quiet (fail)
      clear e1 e2
      go_wp2
      go_ret3
      exact ⟨rfl, below_drewN (below_iter _ _) _⟩
end Go.Proofs.Ytneogmcmkbhnaaa.T
