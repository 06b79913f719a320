/- The law's play: deeds on both logs. -/
import Derived.Test.YtfiahkomabllaaaROpenD
namespace Go.Proofs.Ytfiahkomabllaaa.L
open Go Go.RowKit
open Go.Lib

theorem doD_most (kd kp tn : Int) (l : Bytes) (s : Lg) : (doD kd kp tn l s).2.most = s.most := by
  unfold doD
  split
  · unfold appS; split
    · rfl
    · split <;> rfl
  · split
    · rfl
    · split
      · unfold crashS; split <;> rfl
      · split <;> rfl
theorem IsRLog.rebase {B C : Nat} {W : World} {q : Nat} {s : Lg} (h : IsRLog B W q s) (hC : C ≤ B) : IsRLog C W q s := by
  obtain ⟨v, k, h1, h2, h3⟩ := h.at_
  exact ⟨⟨v, k, h1, h2.rebase (fun g hg => by have := h2.low hg; omega), h3⟩, h.most, by have := h.low; omega⟩
def NewD (n : Nat) (w : World) (e : Ending) (w' : World) : Prop := e = .returned (.pointer (some ⟨w.heap.size, 0, none⟩)) ∧ IsLog w.heap.size w' w.heap.size none ⟨n, 0, []⟩ ∧ Below w.heap.size w w'
def PlayA (N : Nat) (w : World) (e : Ending) (w' : World) : Prop := ∃ q p og s, e = .returned (.tuple #[.pointer (some ⟨q, 0, none⟩), .pointer (some ⟨p, 0, none⟩), .bool true]) ∧ Pair w.heap.size w' q og p s ∧ s.most = N ∧ Below w.heap.size w w'
set_option maxRecDepth 100000 in
set_option maxHeartbeats 1000000 in
theorem play_any (n : Nat) (hn : n ≤ 255) (a : Option Addr) (m c : Nat) (w : World) (hD : DeedsAt w a m) (hm : m ≤ 9223372036854775807) : Calls Try.prog 11 #[.int .u8 (n : Int), .slice a m c] w (PlayA (n % 24 + 1) w) := by
  obtain ⟨N, hN⟩ : ∃ N, n % 24 + 1 = N := ⟨_, rfl⟩
  rw [hN]
  have hN2 : 1 ≤ N ∧ N ≤ 24 := by omega
  have HNW : Hid (∀ z : Int, z = (N : Int) → Calls Try.prog 27 #[.int .i64 z] w (NewD N w)) := fun z e => by subst e; exact new_any N w (by omega) (by omega)
  have HRW : Hid (∀ z : Int, z = (N : Int) → ∀ W, Calls Try.prog 31 #[.int .i64 z] W (NewR N W)) := fun z e W => by subst e; exact rnew_any N W (by omega) (by omega)
  have HD := Lib.hid hD
  have hn' : (n : Int) ≤ 255 := by omega
  clear hD
  go_enter Try.func11, Try.ntmps11
  go_wp2_with (go_at_call 27; refine (HNW.out _ (by first | omega | (rw [Int.tmod_eq_emod_of_nonneg (by omega)]; omega))).mono ?_)
  rintro e W1 ⟨rfl, hl1, hb1⟩
  have HL1 := Lib.hid hl1
  have HB1 := Lib.hid hb1
  clear hl1 hb1 HNW
  go_wp2_with (go_at_call 31; refine (HRW.out _ (by first | omega | (rw [Int.tmod_eq_emod_of_nonneg (by omega)]; omega)) _).mono ?_)
  rintro e W2 ⟨rfl, hl2, hb2⟩
  obtain ⟨p, hp⟩ : ∃ p, W1.heap.size = p := ⟨_, rfl⟩
  have HI : Hid (∃ og s, Pair w.heap.size W2 w.heap.size og p s ∧ s.most = N ∧ Below w.heap.size w W2) := ⟨none, ⟨N, 0, []⟩, ⟨HL1.out.after hb2, by rw [← hp]; exact hl2.rebase HB1.out.size⟩, rfl, HB1.out.trans (hb2.mono HB1.out.size)⟩
  clear hl2 hb2 HRW HL1 HB1
  rw [hp]
  clear hp
  go_wp2
  go_loopw [9] (fun iv wr => ∃ i : Nat, i ≤ m ∧ i ≤ 40 ∧ iv = .int .i64 (i : Int) ∧ ∃ og s, Pair w.heap.size wr w.heap.size og p s ∧ s.most = N ∧ Below w.heap.size w wr) (fun iv _ => 40 - (RowKit.intOf iv).toNat)
  case atStart => exact ⟨0, by omega, by omega, rfl, HI.out⟩
  case round =>
    clear HI
    obtain ⟨i, him, hi40, rfl, og, s, hP, hmost, hB⟩ := hrel
    have HP := Lib.hid hP
    have HM : Hid (s.most = N) := hmost
    have HB := Lib.hid hB
    clear hP hmost hB
    by_cases hp : i < m ∧ i < 40
    · obtain ⟨hp1, hp2⟩ := hp
      have hp1' : (i : Int) < (m : Int) := by omega
      have hp2' : (i : Int) < 40 := by omega
      obtain ⟨g, off, kd, kp, tn, sv, l, rfl, h1, h2, h3⟩ := HD.out i hp1
      have HRG : Hid (wr.rangeAt g (off + i * 4) [.int .i64 kd, .int .i64 kp, .int .i64 tn, sv]) := fun j u hu => (HB.out.cell (p := ⟨g, off + i * 4 + j, none⟩) h1).trans (h2 j u hu)
      have HDO := Lib.hid (do_any w.heap.size w.heap.size p og s kd kp tn sv l wr HP.out HB.out.size (fun V hV => h3.after (HB.out.trans hV)))
      have hmost2 : (doD kd kp tn l s).2.most = N := (doD_most kd kp tn l s).trans HM.out
      have HM2 : Hid ((doD kd kp tn l s).2.most = N) := hmost2
      clear h1 h2 h3 hmost2
      go_wp2_with (first | refine wpList_load_deed rfl rfl rfl HRG.out ?_ | (go_at_call 30; refine HDO.out.mono ?_))
      rintro e W3 ⟨rfl, og3, hP3, hb3⟩
      have HN : Hid (∃ og s, Pair w.heap.size W3 w.heap.size og p s ∧ s.most = N ∧ Below w.heap.size w W3) := ⟨og3, _, hP3, HM2.out, HB.out.trans hb3⟩
      clear hP3 hb3 HDO HM2
      go_wp2
      exact ⟨⟨i + 1, by omega, by omega, by go_num, HN.out⟩, by simp [RowKit.intOf]; omega⟩
    · have hx : ¬ (i : Int) < (m : Int) ∨ ((i : Int) < (m : Int) ∧ ¬ (i : Int) < 40) := by omega
      clear hp
      rcases hx with hx | ⟨hx, hx2⟩ <;>
      (
        go_wp2
        go_ret3
        exact ⟨_, p, og, s, rfl, HP.out, HM.out, HB.out⟩)
end Go.Proofs.Ytfiahkomabllaaa.L
