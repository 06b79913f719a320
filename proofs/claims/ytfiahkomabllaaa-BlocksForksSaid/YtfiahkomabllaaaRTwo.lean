/- The program's log and the document's, side by side. -/
import Derived.Test.YtfiahkomabllaaaRCrash
import Derived.Test.YtfiahkomabllaaaLTornB
namespace Go.Proofs.Ytfiahkomabllaaa.L
open Go Go.RowKit
open Go.Lib

structure Pair (B : Nat) (W : World) (q : Nat) (og : Option Nat) (p : Nat) (s : Lg) : Prop where
  log : IsLog B W q og s
  doc : IsRLog B W p s
theorem Pair.after {B : Nat} {W W' : World} {q p : Nat} {og : Option Nat} {s : Lg} (h : Pair B W q og p s) (hb : Below W.heap.size W W') : Pair B W' q og p s := ⟨h.log.after hb, h.doc.after hb⟩
theorem IsRLog.turn {B C : Nat} {W W' : World} {q p : Nat} {og og' : Option Nat} {s t : Lg} (h : IsRLog B W p s) (hl : IsLog C W q og t) (ht : Turn C W W' q og og') : IsRLog B W' p s := by
  obtain ⟨v, k, h1, h2, h3⟩ := h.at_
  obtain ⟨z1, z2, z3⟩ := hl.apart h1 (by decide) (by decide)
  refine ⟨⟨v, k, h1.of_heap (ht.keep p z1 z2 z3), h2.of_heap fun g hg => ?_, h3⟩, h.most, h.low⟩
  rcases h2.2 with ⟨rfl, -⟩ | ⟨g2, cap, cur, rfl, -, h4, -⟩
  · cases hg
  · obtain rfl : g2 = g := by simpa [Value.ownBlock] using hg
    obtain ⟨y1, y2, y3⟩ := hl.apart h4 (by decide) (by decide)
    exact ht.keep g2 y1 y2 y3
theorem IsLog.rturn {B C : Nat} {W W' : World} {q p : Nat} {og : Option Nat} {s t : Lg} (h : IsLog B W q og s) (hl : IsRLog C W p t) (ht : RTurn C W W' p) : IsLog B W' q og s := by
  obtain ⟨v, k, h1, -⟩ := hl.at_
  obtain ⟨z1, z2, z3⟩ := h.apart h1 (by decide) (by decide)
  refine h.of_heap (ht.keep q h.lt (Ne.symm z2)) fun g hg => ht.keep g (h.own hg).1 (fun e => z3 ?_)
  rw [← e, hg]
/-- Bytes that come in; none may lie anywhere. -/
def ArgB (W : World) (v : Value) (l : Bytes) : Prop := (∃ p c, v = .slice p l.length c) ∧ (l ≠ [] → BytesIn W v l)
theorem ArgB.after {W W' : World} {v : Value} {l : Bytes} (h : ArgB W v l) (hb : Below W.heap.size W W') : ArgB W' v l := ⟨h.1, fun e => (h.2 e).after hb⟩
theorem ArgB.small {W : World} {v : Value} {l : Bytes} (h : ArgB W v l) : l.length ≤ 9223372036854775807 := by
  by_cases e : l = []
  · rw [e]; simp
  · exact (h.2 e).small
theorem BytesIn.arg {W : World} {v : Value} {l : Bytes} (h : BytesIn W v l) : ArgB W v l := by
  refine ⟨?_, fun _ => h⟩
  rcases h with ⟨c, rfl, rfl⟩ | ⟨g, off, cap, rfl, -⟩
  · exact ⟨none, c, rfl⟩
  · exact ⟨_, cap, rfl⟩
theorem append_none (B q : Nat) (og : Option Nat) (s : Lg) (a : Option Addr) (c : Nat) (w : World) (h : IsLog B w q og s) : Calls Try.prog 21 #[.pointer (some ⟨q, 0, none⟩), .slice a 0 c] w (DeedA B q og w (3, s)) := by
  have HND : Hid (∀ W, Calls Try.prog 16 #[.int .i64 0] W fun e w' => e = .returned (.int .i64 0) ∧ w' = W) := fun W => need_any (0 : Int) W (by omega)
  have HL := Lib.hid h
  have hlt := h.lt
  have hlow := h.low
  clear h
  go_enter Try.func21, Try.ntmps21
  go_wp2_with (go_at_call 16; refine (HND.out _).mono ?_; rintro e w' ⟨rfl, rfl⟩)
  go_ret
  exact ⟨rfl, og, HL.out, Turn.of_below (Below.refl _ _) (by omega)⟩
theorem rappend_none (B q : Nat) (s : Lg) (a : Option Addr) (c : Nat) (w : World) (h : IsRLog B w q s) : Calls Try.prog 41 #[.pointer (some ⟨q, 0, none⟩), .slice a 0 c] w (DeedR B q w (3, s)) := by
  have HL := Lib.hid h
  have hlt := h.lt
  have hlow := h.low
  clear h
  go_enter Try.func41, Try.ntmps41
  go_wp2
  go_ret
  exact ⟨rfl, HL.out, RTurn.of_below (Below.refl _ _) (by omega)⟩
theorem appS_nil (s : Lg) : appS s [] = (3, s) := if_pos (need_zero.2 (.inl (by simp)))
theorem append_arg (B q : Nat) (og : Option Nat) (s : Lg) (v : Value) (l : Bytes) (w : World) (h : IsLog B w q og s) (hv : ArgB w v l) : Calls Try.prog 21 #[.pointer (some ⟨q, 0, none⟩), v] w (DeedA B q og w (appS s l)) := by
  by_cases e : l = []
  · subst e
    obtain ⟨⟨a, c, rfl⟩, -⟩ := hv
    rw [appS_nil]
    exact append_none B q og s a c w h
  · exact append_any B q og s v l w h (hv.2 e)
theorem rappend_arg (B q : Nat) (s : Lg) (v : Value) (l : Bytes) (w : World) (h : IsRLog B w q s) (hv : ArgB w v l) : Calls Try.prog 41 #[.pointer (some ⟨q, 0, none⟩), v] w (DeedR B q w (appS s l)) := by
  by_cases e : l = []
  · subst e
    obtain ⟨⟨a, c, rfl⟩, -⟩ := hv
    rw [appS_nil]
    exact rappend_none B q s a c w h
  · exact rappend_any B q s v l w h (hv.2 e)
theorem crash_any (B q : Nat) (og : Option Nat) (s : Lg) (keep torn : Int) (w : World) (h : IsLog B w q og s) : Calls Try.prog 22 #[.pointer (some ⟨q, 0, none⟩), .int .i64 keep, .int .i64 torn] w (DeedA B q og w (crashS s keep torn)) := by
  by_cases hb : keep < 0 ∨ torn < 0 ∨ 64 < torn
  · exact crash_no B q og s keep torn w h hb
  · exact crash_ok B q og s keep torn w h (by omega) (by omega) (by omega)
theorem rcrash_any (B q : Nat) (s : Lg) (keep torn : Int) (w : World) (h : IsRLog B w q s) : Calls Try.prog 43 #[.pointer (some ⟨q, 0, none⟩), .int .i64 keep, .int .i64 torn] w (DeedR B q w (crashS s keep torn)) := by
  by_cases hb : keep < 0 ∨ torn < 0 ∨ 64 < torn
  · exact rcrash_no B q s keep torn w h hb
  · exact rcrash_ok B q s keep torn w h (by omega) (by omega) (by omega)
/-- The bytes that are appended. -/
def bB (l : Bytes) : Bytes := if 200 < l.length ∧ l.length ≤ 1024 then l.take 200 else l
/-- A deed: what it answers, and leaves. -/
def doD (kd kp tn : Int) (l : Bytes) (s : Lg) : Int × Lg :=
  if kd = 0 then appS s (bB l) else if kd = 1 then (0, ⟨s.most, s.b.length / 64, s.b⟩) else if kd = 2 then crashS s kp tn else if kd = 3 then (0, cleanS s) else (0, s)
def DoA (B q p : Nat) (s : Lg) (w : World) (e : Ending) (w' : World) : Prop := e = .returned (.bool true) ∧ ∃ og', Pair B w' q og' p s ∧ Below B w w'
end Go.Proofs.Ytfiahkomabllaaa.L
