/- The law BlocksForks: it answers true. -/
import Derived.Test.YtfiahkomabllaaaRFork
namespace Go.Proofs.Ytfiahkomabllaaa.L
open Go Go.RowKit
open Go.Lib

def ForkD (s : Lg) (w : World) (e : Ending) (w' : World) : Prop := ∃ og', e = .returned (.pointer (some ⟨w.heap.size, 0, none⟩)) ∧ IsLog w.heap.size w' w.heap.size og' s ∧ Below w.heap.size w w'
theorem forkD_any (B q : Nat) (og : Option Nat) (s : Lg) (w : World) (h : IsLog B w q og s) : Calls Try.prog 28 #[.pointer (some ⟨q, 0, none⟩)] w (ForkD s w) := fork_any B q og s w h
def SaysD (w : World) (e : Ending) (w' : World) : Prop := e = .returned (.bool true) ∧ Below w.heap.size w w'
theorem says_any (B q p : Nat) (og : Option Nat) (s : Lg) (w : World) (h : Pair B w q og p s) : Calls Try.prog 13 #[.pointer (some ⟨q, 0, none⟩), .pointer (some ⟨p, 0, none⟩)] w (SaysD w) := same05_any B q p og s w h
/-- What the first loop leaves. -/
def ForkI (B : Nat) (W wr : World) (p : Nat) : Prop := ∃ og s, Pair B wr B og p s ∧ Below B W wr
/-- What the second loop leaves: nothing but the row of its own has turned. -/
def ZeroI (W wr : World) (a : Option Addr) (n : Nat) : Prop := Below W.heap.size W wr ∧ (n = 0 ∨ ∃ g cur, a = some ⟨g, 0, none⟩ ∧ W.heap.size ≤ g ∧ wr.heap[g]? = some (.cells cur 5 (0, 0)) ∧ n ≤ cur.size)
theorem Held.count {W : World} {B : Nat} {a : Option Addr} {k c : Nat} {l : Bytes} (h : Held W B (.slice a k c) l) : k = l.length := by
  rcases h.2 with ⟨e, h0⟩ | ⟨g, cap, cur, e, -⟩
  · cases e; exact h0.symm
  · cases e; rfl
theorem Held.zero {W W' : World} {a : Option Addr} {n c : Nat} {l : Bytes} (h : Held W' W.heap.size (.slice a n c) l) (hb : Below W.heap.size W W') : ZeroI W W' a n := by
  refine ⟨hb, ?_⟩
  rcases h.2 with ⟨e, h0⟩ | ⟨g, cap, cur, e, h1, h2, h3, h4, h5, -⟩
  · cases e; exact .inl rfl
  · cases e
    refine .inr ⟨g, cur, rfl, h1, h2, ?_⟩
    omega
theorem ZeroI.set {W wr : World} {g n i : Nat} {x : Value} (h : ZeroI W wr (some ⟨g, 0, none⟩) n) (hi : i < n) : ZeroI W (wr.setCell ⟨g, i, none⟩ x) (some ⟨g, 0, none⟩) n := by
  obtain ⟨hb, h0 | ⟨g2, cur, e, h1, h2, h3⟩⟩ := h
  · omega
  · cases e
    refine ⟨hb.setCell (p := ⟨g, i, none⟩) h1 x, .inr ⟨g, cur.setIfInBounds i x, rfl, h1, (heap_setCell_same wr g i _ _ x h2).trans rfl, by simpa using h3⟩⟩
set_option maxRecDepth 100000 in
set_option maxHeartbeats 1000000 in
theorem forks_law (a1 a2 : Option Addr) (m1 c1 m2 c2 : Nat) (w : World) (hD1 : DeedsAt w a1 m1) (hm1 : m1 ≤ 9223372036854775807) (hD2 : DeedsAt w a2 m2) (hm2 : m2 ≤ 9223372036854775807) :
    Calls Try.prog 9 #[.slice a1 m1 c1, .slice a2 m2 c2] w fun e w' => e = .returned (.bool true) ∧ Below w.heap.size w w' := by
  have HPL : Hid (Calls Try.prog 11 #[.int .u8 20, .slice a1 m1 c1] w (PlayA 21 w)) := play_any 20 (by omega) a1 m1 c1 w hD1 hm1
  have HM := Lib.hid hD2
  clear hD1 hD2
  go_enter Try.func9, Try.ntmps9
  go_wp2_with (go_at_call 11; refine HPL.out.mono ?_)
  rintro e W1 ⟨q, p, og, s, rfl, hP, -, hb⟩
  have HP := Lib.hid hP
  have HB := Lib.hid hb
  clear hP hb HPL
  go_wp2_with (go_at_call 12; refine (live_any _).mono ?_)
  rintro e W2 ⟨rfl, hb2⟩
  have HP2 := Lib.hid (HP.out.after hb2)
  have HB2 : Hid (Below w.heap.size w W2) := HB.out.trans (hb2.mono HB.out.size)
  have HM2 := Lib.hid (HM.out.after HB2.out)
  have HFK := Lib.hid (forkD_any _ q og s W2 HP2.out.log)
  clear hb2 HP HB HM
  go_wp2_with (go_at_call 28; refine HFK.out.mono ?_)
  rintro e W3 ⟨ogf, rfl, hl3, hb3⟩
  have HL3 := Lib.hid hl3
  have HB3 := Lib.hid hb3
  have HRF := Lib.hid (rfork_any _ p s W3 (HP2.out.doc.after hb3))
  clear hl3 hb3 HFK
  go_wp2_with (go_at_call 29; refine HRF.out.mono ?_)
  rintro e W4 ⟨pf, rfl, hl4, hb4⟩
  obtain ⟨z, hz⟩ : ∃ z, W2.heap.size = z := ⟨_, rfl⟩
  have HZ := Lib.hid hz
  have hb34 : Below z W2 W4 := by rw [← hz]; exact HB3.out.trans (hb4.mono HB3.out.size)
  have HI : Hid (ForkI z W2 W4 pf) := ⟨ogf, s, ⟨by rw [← hz]; exact HL3.out.after hb4, hl4.rebase (by rw [← hz]; exact HB3.out.size)⟩, hb34⟩
  rw [hz]
  clear hl4 hb4 hb34 hz HRF HL3 HB3
  go_wp2
  go_loopw [10] (fun iv wr => ∃ i : Nat, i ≤ m2 ∧ i ≤ 20 ∧ iv = .int .i64 (i : Int) ∧ ForkI z W2 wr pf) (fun iv _ => 20 - (RowKit.intOf iv).toNat)
  case atStart => exact ⟨0, by omega, by omega, rfl, HI.out⟩
  case round =>
    clear HI
    obtain ⟨i, him, hi20, rfl, og2, s2, hP, hB⟩ := hrel
    have HF := Lib.hid hP
    have HB := Lib.hid hB
    have HBZ : Hid (Below W2.heap.size W2 wr) := by show Below _ _ _; rw [HZ.out]; exact hB
    clear hP hB
    by_cases hp : i < m2 ∧ i < 20
    · obtain ⟨hp1, hp2⟩ := hp
      have hp1' : (i : Int) < (m2 : Int) := by omega
      have hp2' : (i : Int) < 20 := by omega
      obtain ⟨g, off, kd, kp, tn, sv, l, rfl, h1, h2, h3⟩ := HM2.out i hp1
      have HRG : Hid (wr.rangeAt g (off + i * 4) [.int .i64 kd, .int .i64 kp, .int .i64 tn, sv]) := fun j u hu => (HBZ.out.cell (p := ⟨g, off + i * 4 + j, none⟩) h1).trans (h2 j u hu)
      have HDO := Lib.hid (do_any z z pf og2 s2 kd kp tn sv l wr HF.out (by have h1 := HBZ.out.size; have h2 := HZ.out; omega) (fun V hV => h3.after (by rw [HZ.out]; exact HB.out.trans hV)))
      clear h1 h2 h3
      go_wp2_with (first | refine wpList_load_deed rfl rfl rfl HRG.out ?_ | (go_at_call 30; refine HDO.out.mono ?_))
      rintro e W5 ⟨rfl, og5, hP5, hb5⟩
      have HN : Hid (ForkI z W2 W5 pf) := ⟨og5, _, hP5, HB.out.trans hb5⟩
      clear hP5 hb5 HDO
      go_wp2
      exact ⟨⟨i + 1, by omega, by omega, by go_num, HN.out⟩, by simp [RowKit.intOf]; omega⟩
    · have hx : ¬ (i : Int) < (m2 : Int) ∨ ((i : Int) < (m2 : Int) ∧ ¬ (i : Int) < 20) := by omega
      clear hp
      have HP6 := Lib.hid (HP2.out.after HBZ.out)
      have HB6 : Hid (Below w.heap.size w wr) := HB2.out.trans (HBZ.out.mono HB2.out.size)
      have HBY : Hid (Calls Try.prog 20 #[.pointer (some ⟨q, 0, none⟩)] wr (BytesR s.b wr)) := bytes_any _ q og s wr HP6.out.log
      rcases hx with hx | ⟨hx, hx2⟩ <;>
      (
        go_wp2_with (go_at_call 20; refine HBY.out.mono ?_)
        rintro e W7 ⟨v7, rfl, hh7, hb7⟩
        obtain ⟨a7, n7, c7, rfl⟩ := hh7.bytes.shape
        have HI : Hid (ZeroI wr W7 a7 n7) := hh7.zero hb7
        have hn7 : n7 ≤ 9223372036854775807 := by
          have h1 := hh7.bytes.small
          have h2 : n7 = s.b.length := hh7.count
          rw [h2]
          exact h1
        clear hh7 hb7 HBY
        go_wp2
        go_loopw [12] (fun iv w' => ∃ i : Nat, i ≤ n7 ∧ iv = .int .i64 (i : Int) ∧ ZeroI wr w' a7 n7) (fun iv _ => n7 - (RowKit.intOf iv).toNat)
        case atStart => exact ⟨0, by omega, rfl, HI.out⟩
        case round =>
          clear HI
          obtain ⟨i2, hi2, rfl, hZ⟩ := hrel
          have HZI := Lib.hid hZ
          by_cases hp : i2 < n7
          · have hp' : (i2 : Int) < (n7 : Int) := by omega
            obtain ⟨-, h0 | ⟨g, cur, rfl, h1, h2, h3⟩⟩ := hZ
            · omega
            have HN := Lib.hid (HZI.out.set (x := .int .u8 0) hp)
            obtain ⟨x, hx⟩ : ∃ x, cur[i2]? = some x := ⟨_, Array.getElem?_eq_getElem (by omega)⟩
            have hc := (cell_of_row wr g i2 _ _ _ h2).trans hx
            have hf := frozen_of_row wr g i2 _ _ h2
            clear h2
            go_wp2
            exact ⟨⟨i2 + 1, by omega, by go_num, HN.out⟩, by simp [RowKit.intOf]; omega⟩
          · have hp' : ¬ (i2 : Int) < (n7 : Int) := by omega
            have HP8 := Lib.hid (HP6.out.after HZI.out.1)
            have HF8 := Lib.hid (HF.out.after HZI.out.1)
            have HB8 : Hid (Below w.heap.size w wr) := HB6.out.trans (HZI.out.1.mono HB6.out.size)
            have HSA := Lib.hid (says_any _ q p og s wr HP8.out)
            clear hZ
            go_wp2_with (go_at_call 13; refine HSA.out.mono ?_)
            rintro e W9 ⟨rfl, hb9⟩
            have HB9 : Hid (Below w.heap.size w W9) := HB8.out.trans (hb9.mono HB8.out.size)
            have HSB := Lib.hid (says_any _ z pf og2 s2 W9 (HF8.out.after hb9))
            clear hb9 HSA
            go_wp2_with (go_at_call 13; refine HSB.out.mono ?_)
            rintro e W10 ⟨rfl, hb10⟩
            have HB10 : Hid (Below w.heap.size w W10) := HB9.out.trans (hb10.mono HB9.out.size)
            clear hb10 HSB
            go_wp2
            go_ret
            exact ⟨rfl, HB10.out⟩)
end Go.Proofs.Ytfiahkomabllaaa.L
