/- The document's reader: what is left of it, a text, a size. -/
import Derived.Test.YtacbfpgknfcimaaCRefRd
import Derived.Test.YtacbfpgknfcimaaCReadO
namespace Go.Proofs.Ytacbfpgknfcimaa.C
open Go.RowKit T O
open Go.Lib hiding intOf

/-- What is left of it: none when it is bad. -/
def leftX (bad : Bool) (l : Bytes) : Option Bytes := if bad then none else some l
def RX (W : World) (r : Nat) (X : Option Bytes) : Prop := ∃ bad l, RLeft W r bad l ∧ X = leftX bad l
/-- What a reader answers; it never gives up. -/
def RGot {α : Type} (r : Nat) (P : Rd α) (enc : α → Value) (ok : α → Prop) (X : Option Bytes) (W : World) (e : Ending) (W' : World) : Prop :=
  W.grownBy W' (some r) ∧ ∃ a X', e = .returned (enc a) ∧ ok a ∧ RX W' r X' ∧ Got X P a X'
section
variable {α : Type} {P : Rd α} {a : α} {X : Option Bytes} {l l' : Bytes}
theorem got_none (h : X.bind P = none) : Got X P a none := ⟨by simp [h], fun x hx => by rw [h] at hx; cases hx⟩
theorem got_some (h : X.bind P = some (a, l')) : Got X P a (some l') := ⟨by simp [h], fun x hx => by rw [h] at hx; cases hx; rfl⟩
theorem leftX_bind {β : Type} {Q : Bytes → Option β} {bad : Bool} (h : Q l = none) : (leftX bad l).bind Q = none := by cases bad <;> simp [leftX, h]
variable {W W1 : World} {r : Nat}
theorem RX.lt (h : RX W r X) : r < W.heap.size := by
  obtain ⟨bad, l, h, -⟩ := h
  exact h.lt
theorem RX.after (h : RX W r X) (hb : Below W.heap.size W W1) : RX W1 r X := by
  obtain ⟨bad, l, h, e⟩ := h
  exact ⟨bad, l, h.after hb, e⟩
theorem RX.above (h : RX W r X) {B : Nat} (hb : Below B W W1) (hB : r < B) : RX W1 r X := by
  obtain ⟨bad, l, h, e⟩ := h
  exact ⟨bad, l, h.above hb hB, e⟩
theorem RX.setBad (h : RX W r X) : RX (W.setCell ⟨r, 1, none⟩ (.bool true)) r none ∧ W.grownBy (W.setCell ⟨r, 1, none⟩ (.bool true)) (some r) := by
  obtain ⟨bad, l, h, e⟩ := h
  exact ⟨⟨true, l, h.setBad.1, rfl⟩, h.setBad.2⟩
theorem RX.f1 (h : RX W r X) (i : Nat) : W.frozen? ⟨r, i, none⟩ = false := by
  obtain ⟨bad, l, h, -⟩ := h
  exact h.f1 i
theorem RX.c1 (h : RX W r X) : W.cell? ⟨r, 1, none⟩ = some (.bool X.isNone) := by
  obtain ⟨bad, l, h, rfl⟩ := h
  rw [h.c1]
  cases bad <;> rfl
end
theorem refOneX (r : Nat) (X : Option Bytes) (W : World) (h : RX W r X) :
    Calls Try.prog 37 #[.pointer (some ⟨r, 0, none⟩)] W (RGot r rdByte bv (fun _ => True) X W) := by
  obtain ⟨bad, l, h, rfl⟩ := h
  refine (refOne_any r bad l W h).mono ?_
  rintro e W1 ⟨hg, rfl, hL⟩
  refine ⟨hg, headB l, _, rfl, trivial, ⟨_, _, hL, rfl⟩, ?_⟩
  cases bad <;> cases l <;> simp [Got, leftX, rdByte, headB]
/-- The number in short: it is read, or it is bad. -/
theorem RFin.cases {l l' : Bytes} {bad bad' : Bool} {n : Int} (h : RFin l bad n bad' l') : (∃ k : Nat, bad' = false ∧ bad = false ∧ n = k ∧ rdNum l = some (k, l')) ∨ (bad' = true ∧ ∀ {β : Type} (Q : Nat × Bytes → Option β), (leftX bad l).bind (fun l => (rdNum l).bind Q) = none) := by
  rcases h with ⟨x, h1, rfl, rfl, rfl⟩ | ⟨h1, rfl⟩
  · cases bad' with
    | false => exact .inl ⟨x.1, rfl, rfl, rfl, h1⟩
    | true => exact .inr ⟨rfl, fun Q => rfl⟩
  · exact .inr ⟨rfl, fun Q => leftX_bind (by rw [h1]; rfl)⟩
theorem u64_bind (l : Bytes) : rdU64 l = (rdNum l).bind fun x => some ((x.1 : Int), x.2) := by unfold rdU64 mapR; cases rdNum l <;> rfl
theorem size_bind (l : Bytes) : rdSize l = (rdNum l).bind fun x => if decide ((x.1 : Int) ≤ 1125899906842624) = true then some ((x.1 : Int), x.2) else none := by
  unfold rdSize keepR
  rw [u64_bind]
  cases rdNum l <;> rfl
theorem refNumX (r : Nat) (X : Option Bytes) (W : World) (h : RX W r X) :
    Calls Try.prog 36 #[.pointer (some ⟨r, 0, none⟩)] W (RGot r rdU64 (fun n => .int .u64 n) (fun _ => True) X W) := by
  obtain ⟨bad, l, h, rfl⟩ := h
  refine (refNumberR_any r bad l W h).mono ?_
  rintro e W1 ⟨hg, n, bad', l', rfl, hL, -, hf⟩
  refine ⟨hg, n, _, rfl, trivial, ⟨_, _, hL, rfl⟩, ?_⟩
  rcases hf.cases with ⟨k, rfl, rfl, rfl, hk⟩ | ⟨rfl, hn⟩
  · exact got_some (by show rdU64 l = _; rw [u64_bind, hk]; rfl)
  · refine got_none ?_
    rw [show rdU64 = _ from funext u64_bind]
    exact hn _

set_option maxRecDepth 100000 in
set_option maxHeartbeats 1000000 in
theorem refSizeX (r : Nat) (X : Option Bytes) (W : World) (h : RX W r X) :
    Calls Try.prog 67 #[.pointer (some ⟨r, 0, none⟩)] W (RGot r rdSize (fun n => .int .i64 n) (fun _ => True) X W) := by
  obtain ⟨bad, l, h, rfl⟩ := h
  go_enter Try.func67, Try.ntmps67
  go_wp2_with fail
  refine (refNumberR_any r bad l W h).mono ?_
  rintro e W1 ⟨hg, n, bad', l', rfl, hL, -, hf⟩
  have hs := hL.setBad
  have f1 := hL.f1 1
  have c1 := hL.c1
  clear h
  by_cases hn : n ≤ 1125899906842624
  · rcases hf.cases with ⟨k, rfl, rfl, rfl, hk⟩ | ⟨rfl, hx⟩
    · have HF : Hid (RGot r rdSize (fun n => .int .i64 n) (fun _ => True) (leftX false l) W (.returned (.int .i64 (k : Int))) W1) := ⟨hg, _, _, rfl, trivial, ⟨_, _, hL, rfl⟩, got_some (by show rdSize l = _; rw [size_bind, hk]; exact if_pos (by simpa using hn))⟩
      clear hg hL hf hs f1 c1 hk
      go_wp2
      go_ret
      exact HF.out
    · have HF : Hid (∀ v : Int, RGot r rdSize (fun n => .int .i64 n) (fun _ => True) (leftX bad l) W (.returned (.int .i64 v)) W1) := fun v => ⟨hg, v, _, rfl, trivial, ⟨_, _, hL, rfl⟩, got_none (by rw [show rdSize = _ from funext size_bind]; exact hx _)⟩
      clear hg hL hf hs f1 c1 hx
      go_wp2
      go_ret
      exact HF.out _
  · have HF : Hid (RGot r rdSize (fun n => .int .i64 n) (fun _ => True) (leftX bad l) W (.returned (.int .i64 0)) (W1.setCell ⟨r, 1, none⟩ (.bool true))) := ⟨hg.trans hs.2, _, _, rfl, trivial, ⟨_, _, hs.1, rfl⟩, got_none (by
      rw [show rdSize = _ from funext size_bind]
      rcases hf.cases with ⟨k, rfl, rfl, rfl, hk⟩ | ⟨rfl, hx⟩
      · show (rdNum l).bind _ = none
        rw [hk]
        exact if_neg (by simpa using hn)
      · exact hx _)⟩
    clear hg hL hf hs
    go_wp2
    go_ret
    exact HF.out

theorem txt_bind (l : Bytes) : rdTxt l = (rdNum l).bind fun x => if x.1 ≤ x.2.length then some (⟨(x.2.take x.1).toArray⟩, x.2.drop x.1) else none := rfl
set_option maxRecDepth 100000 in
set_option maxHeartbeats 1000000 in
theorem refTextX (r : Nat) (X : Option Bytes) (W : World) (h : RX W r X) :
    Calls Try.prog 66 #[.pointer (some ⟨r, 0, none⟩)] W (RGot r rdTxt (fun s => .string s) (fun s => s.size ≤ maxLen) X W) := by
  obtain ⟨bad, l, h, rfl⟩ := h
  go_enter Try.func66, Try.ntmps66
  go_wp2_with fail
  refine (refNumberR_any r bad l W h).mono ?_
  rintro e W1 ⟨hg, n, bad', l', rfl, hL, -, hf⟩
  have hs := hL.setBad
  have f1 := hL.f1 1
  have c1 := hL.c1
  clear h
  rcases hf.cases with ⟨k, rfl, rfl, rfl, hk⟩ | ⟨rfl, hx⟩
  · have hsm := hL.small
    unfold maxLen at hsm
    by_cases hn : k ≤ l'.length
    · obtain ⟨v, hbox, hB, hne⟩ := hL
      have hcell : W1.cell? ⟨r, 0, none⟩ = some v := (cell_of_row W1 r 0 _ _ _ hbox).trans rfl
      have hfz : W1.frozen? ⟨r, 0, none⟩ = false := frozen_of_row W1 r 0 _ _ hbox
      have hl := hB.len
      obtain ⟨v1, hs1, hB1, ho1⟩ := hB.head hn .u64
      obtain ⟨v2, hs2, hB2, ho2⟩ := hB.tail hn .u64
      obtain ⟨a2, k2, c2, rfl⟩ := hB2.shape
      have hstr := hB1.str 9 Try.underlying9
      have hg2 := grownBy_setCell' W1 r (.slice a2 k2 c2)
      have HF : Hid (RGot r rdTxt (fun s => .string s) (fun s => s.size ≤ maxLen) (leftX false l) W (.returned (.string ⟨(l'.take k).toArray⟩)) (W1.setCell ⟨r, 0, none⟩ (.slice a2 k2 c2))) :=
        ⟨hg.trans hg2, _, _, rfl, by show (l'.take k).toArray.size ≤ maxLen; unfold maxLen; simp; omega, ⟨false, l'.drop k, ⟨_, (heap_set0 hbox _).trans rfl, hB2.kept hg2 (.inr (hne.of ho2).ne), hne.of ho2⟩, rfl⟩, got_some (by show rdTxt l = _; rw [txt_bind, hk]; exact if_pos hn)⟩
      have h1 : decide (l'.length < k) = false := by simpa using hn
      clear hg hs hf hk hB hB1 hB2 ho1 ho2 hne hbox hn hg2
      go_wp2
      go_ret
      exact HF.out
    · obtain ⟨v, hbox, hB, hne⟩ := hL
      have hcell : W1.cell? ⟨r, 0, none⟩ = some v := (cell_of_row W1 r 0 _ _ _ hbox).trans rfl
      have hl := hB.len
      have HF : Hid (RGot r rdTxt (fun s => .string s) (fun s => s.size ≤ maxLen) (leftX false l) W (.returned (.string ⟨#[]⟩)) (W1.setCell ⟨r, 1, none⟩ (.bool true))) :=
        ⟨hg.trans hs.2, _, _, rfl, by decide, ⟨true, l', hs.1, rfl⟩, got_none (by show rdTxt l = _; rw [txt_bind, hk]; exact if_neg hn)⟩
      have h1 : decide (l'.length < k) = true := by simpa using hn
      clear hg hs hf hk hB hbox hn hne
      go_wp2
      go_ret
      exact HF.out
  · have HF : Hid (RGot r rdTxt (fun s => .string s) (fun s => s.size ≤ maxLen) (leftX bad l) W (.returned (.string ⟨#[]⟩)) (W1.setCell ⟨r, 1, none⟩ (.bool true))) :=
      ⟨hg.trans hs.2, _, _, rfl, by decide, ⟨true, l', hs.1, rfl⟩, got_none (hx _)⟩
    clear hg hs hf hL hx
    go_wp2
    go_ret
    exact HF.out
end Go.Proofs.Ytacbfpgknfcimaa.C
