/- Askings in a row, and what an asking comes to. -/
import Derived.Test.YtmamibabaedpcaaLTries
import Derived.Test.YtmamibabaedpcaaLOpen2
import Derived.Test.YtmamibabaedpcaaLGuards
namespace Go.Proofs.Ytmamibabaedpcaa.L
open Go.RowKit T O
open Go.Lib

def A0 : Ask := ⟨E0, 0, 0⟩
structure AskAt (W : World) (g o : Nat) (y : Ask) : Prop where
  lt : g < W.heap.size
  c0 : W.cell? ⟨g, o, none⟩ = some (.string y.who)
  c1 : W.cell? ⟨g, o + 1, none⟩ = some (.int .u64 y.now)
  c2 : W.cell? ⟨g, o + 2, none⟩ = some (.int .u64 y.span)
theorem AskAt.after {W W' : World} {g o : Nat} {y : Ask} (h : AskAt W g o y) (hb : Below W.heap.size W W') : AskAt W' g o y :=
  ⟨Nat.lt_of_lt_of_le h.lt hb.size, cell_in h.lt hb h.c0, cell_in h.lt hb h.c1, cell_in h.lt hb h.c2⟩
theorem AskAt.drew {W : World} {g o : Nat} {y : Ask} (h : AskAt W g o y) : AskAt W.drew g o y := ⟨h.lt, h.c0, h.c1, h.c2⟩
theorem AskAt.low {W W' : World} {g o : Nat} {y : Ask} {B : Nat} (h : AskAt W g o y) (hB : B = W.heap.size) (hb : Below B W W') : AskAt W' g o y := h.after (hB ▸ hb)
theorem cell_row {W : World} {b p o : Nat} {v : Value} (h : W.cell? ⟨b, o, none⟩ = some v) (hp : b ≠ p) (cs : Array Value) : (W.setRow p cs).cell? ⟨b, o, none⟩ = some v := by
  unfold World.cell? at h ⊢
  rw [setRow_other W p b cs hp]
  exact h
theorem AskAt.row {W : World} {g o p : Nat} {y : Ask} (h : AskAt W g o y) (hp : g ≠ p) (cs : Array Value) (hs : (W.setRow p cs).heap.size = W.heap.size) : AskAt (W.setRow p cs) g o y :=
  ⟨by rw [hs]; exact h.lt, cell_row h.c0 hp cs, cell_row h.c1 hp cs, cell_row h.c2 hp cs⟩
/-- Askings in a slice, each at its place. -/
theorem asks_at {w : World} {v : Value} {l : List Ask} (h : AsksIn w v l) : ∃ o c, v = .slice o l.length c ∧ l.length ≤ 9223372036854775807 ∧ (0 < l.length → ∃ g off, o = some ⟨g, off, none⟩ ∧ g < w.heap.size ∧ ∀ k, k < l.length → AskAt w g (off + k * 3) (l.getD k A0) ∧ FitA (l.getD k A0)) := by
  obtain ⟨o, c, hv, hm, hc⟩ := h
  refine ⟨o, c, hv, hm, fun h0 => ?_⟩
  obtain ⟨g, off, ho, hg, -⟩ := hc 0 h0
  refine ⟨g, off, ho, hg, fun k hk => ?_⟩
  obtain ⟨g', off', ho', -, h1, h2, h3, h4⟩ := hc k hk
  rw [ho] at ho'
  cases ho'
  have e : l.getD k A0 = l[k] := by simp [List.getD, List.getElem?_eq_getElem hk]
  rw [e]
  exact ⟨⟨hg, h1, h2, h3⟩, h4⟩
theorem not_mine {x : Lz} {now : Int} (h : mineB x x.h now = false) : emp x.h = true ∨ x.u ≤ now := by
  cases he : emp x.h with
  | true => exact .inl rfl
  | false =>
    refine .inr ?_
    rcases Int.lt_or_le now x.u with h1 | h1
    · rw [mine_iff.2 ⟨he, rfl, h1⟩] at h
      cases h
    · exact h1
theorem try_cases {x R : Lz} {who : ByteArray} {now span n : Int} (h : tryL x who now span = (R, n)) :
    (n ≠ 0 ∧ R = Lz0 ∧ (n = 8 → x.h ≠ who ∧ now < x.u)) ∨
    (n = 0 ∧ emp who = false ∧ mineB x who now = true ∧ who = x.h ∧ now < x.u ∧ R = ⟨x.h, max x.u (now + span), x.t⟩) ∨
    (n = 0 ∧ emp who = false ∧ 1 ≤ span ∧ mineB x who now = false ∧ (emp x.h = true ∨ x.u ≤ now) ∧ R = ⟨who, now + span, up x.t⟩) := by
  unfold tryL at h
  split at h
  · cases h
    exact .inl ⟨by decide, rfl, fun e => absurd e (by decide)⟩
  rename_i h1
  have he := name_emp (by simpa using h1)
  split at h
  · cases h
    exact .inl ⟨by decide, rfl, fun e => absurd e (by decide)⟩
  rename_i h2
  have hr := range_iff.1 (by simpa using h2)
  split at h
  · rename_i h3
    cases h
    have := mine_iff.1 h3
    exact .inr (.inl ⟨rfl, he, h3, this.2.1, this.2.2, rfl⟩)
  rename_i h3
  split at h
  · rename_i h4
    cases h
    obtain ⟨q1, -, q3⟩ := mine_iff.1 h4
    refine .inl ⟨by decide, rfl, fun _ => ⟨fun e => h3 ?_, q3⟩⟩
    exact mine_iff.2 ⟨he, e.symm, q3⟩
  · rename_i h4
    cases h
    exact .inr (.inr ⟨rfl, he, hr.1, by simpa using h3, not_mine (by simpa using h4), rfl⟩)
theorem setRow_size (W : World) (p : Nat) (cs : Array Value) : (W.setRow p cs).heap.size = W.heap.size := by
  unfold World.setRow
  simp
end Go.Proofs.Ytmamibabaedpcaa.L
