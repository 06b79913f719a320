/- The law BlocksTorn: it answers true. -/
import Derived.Test.YtfiahkomabllaaaLSame
import Derived.Test.YtfiahkomabllaaaLTornS
import Derived.Test.YtfiahkomabllaaaLOpenR
namespace Go.Proofs.Ytfiahkomabllaaa.L
open Go Go.RowKit
open Go.Lib

theorem begins_yes (a1 a2 : Option Addr) (c1 c2 n1 n2 : Nat) (A B : List Bytes) (w : World) (e1 : A.length = n1) (e2 : B.length = n2) (h : A = B.take A.length) (h1 : RowsAt w a1 c1 A) (h2 : RowsAt w a2 c2 B) :
    Calls Try.prog 24 #[.slice a1 n1 c1, .slice a2 n2 c2] w fun e w' => e = .returned (.bool true) ∧ Below w.heap.size w w' := by
  subst e1 e2
  have := begins_any a1 a2 c1 c2 A B w h1 h2
  rwa [decide_eq_true h] at this
/-- What the loop leaves: a log of whole records alone. -/
def TornI (W0 W : World) (i : Nat) : Prop := ∃ s og, IsLog W0.heap.size W W0.heap.size og s ∧ s.most = 200 ∧ s.b.length ≤ i * 256 ∧ blks (recs s.b) * 64 = s.b.length ∧ Below W0.heap.size W0 W
theorem app_more {s : Lg} {r : Bytes} {i : Nat} (hm : s.most = 200) (hl : s.b.length ≤ i * 256) (hi : i ≤ 8) (hb : blks (recs s.b) * 64 = s.b.length) (h1 : 1 ≤ r.length) (h2 : r.length ≤ 200) :
    appS s r = (0, { s with b := s.b ++ laid r ((recs s.b).length + 1) }) ∧ (s.b ++ laid r ((recs s.b).length + 1)).length ≤ (i + 1) * 256 ∧ blks (recs (s.b ++ laid r ((recs s.b).length + 1))) * 64 = (s.b ++ laid r ((recs s.b).length + 1)).length := by
  have h0 : need r.length ≠ 0 := by rw [need_pos h1 (by omega)]; omega
  have hn : need r.length ≤ 4 := by rw [need_pos h1 (by omega)]; omega
  have hll := laid_length h0 ((recs s.b).length + 1)
  refine ⟨?_, by rw [List.length_append, hll]; omega, ?_⟩
  · unfold appS
    rw [if_neg h0, if_neg (by omega)]
  · rw [all_blks_app hb h0, blks_append, List.length_append, hll]
    simp only [blks]
    omega
def SyncD (B q : Nat) (og : Option Nat) (s : Lg) (w : World) (e : Ending) (w' : World) : Prop := e = .returned (.int .i64 0) ∧ IsLog B w' q og s ∧ Turn B w w' q og og
def RecsD (L : List Bytes) (w : World) (e : Ending) (w' : World) : Prop := ∃ v, e = .returned v ∧ RecsIn w' w.heap.size v L ∧ Below w.heap.size w w'
theorem syncD_any (B q : Nat) (og : Option Nat) (s : Lg) (w : World) (h : IsLog B w q og s) : Calls Try.prog 18 #[.pointer (some ⟨q, 0, none⟩)] w (SyncD B q og ⟨s.most, s.b.length / 64, s.b⟩ w) := sync_any B q og s w h
theorem recsD_any (B q : Nat) (og : Option Nat) (s : Lg) (w : World) (h : IsLog B w q og s) : Calls Try.prog 19 #[.pointer (some ⟨q, 0, none⟩)] w (RecsD (recs s.b) w) := records_any B q og s w h
theorem IsLog.apart {B : Nat} {W : World} {q : Nat} {og : Option Nat} {s : Lg} (h : IsLog B W q og s) {g : Nat} {cs : Array Value} {t : TypeId} (hg : W.heap[g]? = some (.cells cs t (0, 0))) (h1 : t ≠ 59) (h2 : t ≠ 66) : g < W.heap.size ∧ g ≠ q ∧ some g ≠ og := by
  obtain ⟨v, k, l1, l2, l3, -⟩ := h.at_
  refine ⟨(Array.getElem?_eq_some_iff.1 hg).1, ?_, ?_⟩
  · rintro rfl
    have l4 : W.heap[g]? = _ := l1
    rw [l4] at hg
    simp only [Option.some.injEq, Obj.cells.injEq] at hg
    exact h1 hg.2.1.symm
  · rintro rfl
    rcases l2.2 with ⟨rfl, -⟩ | ⟨g2, cap, cur, rfl, -, l4, -⟩
    · cases l3
    · obtain rfl : g2 = g := by simpa [Value.ownBlock] using l3
      rw [l4] at hg
      simp only [Option.some.injEq, Obj.cells.injEq] at hg
      exact h2 hg.2.1.symm
theorem RecsIn.turn {B C : Nat} {W W' : World} {q : Nat} {og og' : Option Nat} {s : Lg} {v : Value} {L : List Bytes} (h : RecsIn W C v L) (hl : IsLog B W q og s) (ht : Turn B W W' q og og') : RecsIn W' C v L := by
  obtain ⟨xs, e, h1, h2⟩ := h
  refine ⟨xs, e, h1.of fun g cs hg _ => ?_, fun x hx => (h2 x hx).of fun g cs hg _ => ?_⟩
  · obtain ⟨z1, z2, z3⟩ := hl.apart hg (by decide) (by decide)
    exact ht.keep g z1 z2 z3
  · obtain ⟨z1, z2, z3⟩ := hl.apart hg (by decide) (by decide)
    exact ht.keep g z1 z2 z3
theorem RecsIn.after {C : Nat} {W W' : World} {v : Value} {L : List Bytes} (h : RecsIn W C v L) (hb : Below W.heap.size W W') : RecsIn W' C v L := by
  obtain ⟨xs, e, h1, h2⟩ := h
  exact ⟨xs, e, h1.after hb, fun x hx => (h2 x hx).after hb⟩
theorem RecsIn.rows {C : Nat} {W : World} {a : Option Addr} {n c : Nat} {L : List Bytes} (h : RecsIn W C (.slice a n c) L) : RowsAt W a c L ∧ L.length = n := by
  obtain ⟨a2, c2, e, h2⟩ := RowsAt.of_recs h
  cases e
  exact ⟨h2, rfl⟩
end Go.Proofs.Ytfiahkomabllaaa.L
