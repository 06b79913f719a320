/- Calls of publishing at one volume, whatever their numbers. -/
import Derived.Test.YtbgfccanbgpjiaaIDoNew
import Derived.Test.YtbgfccanbgpjiaaINew
namespace Go.Proofs.Ytbgfccanbgpjiaa.O.I
open Go Go.RowKit Go.Lib KM

/-- The call of a number. -/
def cN (k : Int) : Cl := ⟨if k % 2 = 0 then 4 else 3, ⟨#[118]⟩, k, 0, E0, ⟨#[110]⟩, E0⟩
def c3 : Cl := ⟨1, ⟨#[118]⟩, 1, 3, ⟨#[97]⟩, E0, E0⟩
/-- What was done last, where k is the greatest number. -/
def lastC (k : Int) : Cl := if k = 1 then c3 else cN k
def lastR (k : Int) : Rs := if k = 1 then resOf c3 else zeroR
def nodesK (k : Int) : List (ByteArray × Value) := if k % 2 = 1 ∧ 1 < k then [(⟨#[110]⟩, .agg #[])] else []
theorem last_num (k : Int) : (lastC k).num = k := by
  unfold lastC
  split
  · rename_i h
    rw [h]
    rfl
  · rfl
theorem nodes_cases (k : Int) : nodesK k = [] ∨ nodesK k = [(⟨#[110]⟩, .agg #[])] := by
  unfold nodesK
  split
  · exact .inr rfl
  · exact .inl rfl
theorem nodes_next (k q : Int) (hk : 2 ≤ k) : nodesM (cN k) (nodesK q) = nodesK k := by
  have hput : KM.put (cN k).node (.agg #[]) (nodesK q) = [(⟨#[110]⟩, .agg #[])] := by
    rcases nodes_cases q with h | h <;> rw [h] <;> rfl
  have hdel : KM.del (cN k).node (nodesK q) = [] := by
    rcases nodes_cases q with h | h <;> rw [h] <;> rfl
  unfold nodesM
  rw [hput, hdel]
  unfold nodesK cN
  dsimp only
  by_cases h : k % 2 = 0
  · rw [if_pos h, if_neg (by decide), if_neg (by omega)]
  · rw [if_neg h, if_pos rfl, if_pos ⟨by omega, by omega⟩]
theorem verb_k (k : Int) : (cN k).verb = 3 ∨ (cN k).verb = 4 := by
  unfold cN
  dsimp only
  split
  · exact .inr rfl
  · exact .inl rfl
theorem snap_k (k : Int) : snapV (cN k).verb = false := by
  rcases verb_k k with h | h <;> rw [h] <;> rfl
theorem right_k (k : Int) (hk : 2 ≤ k ∧ k ≤ 9) : rightB (cN k) = true := by
  obtain ⟨h1, h2⟩ := hk
  have : k = 2 ∨ k = 3 ∨ k = 4 ∨ k = 5 ∨ k = 6 ∨ k = 7 ∨ k = 8 ∨ k = 9 := by omega
  rcases this with rfl | rfl | rfl | rfl | rfl | rfl | rfl | rfl <;> (show _ = true; kernel_rfl)
/-- A driver of one zone and one volume, whose greatest number is k. -/
structure AtK (B d r v s n m : Nat) (k : Int) (W : World) : Prop where
  five : Five d r v s n
  apart : m ≠ d ∧ m ≠ r ∧ m ≠ v ∧ m ≠ s ∧ m ≠ n
  low : B ≤ m ∧ B ≤ n
  here : ∃ No, DrAt W d r v s n [(⟨#[97]⟩, .int .i64 6)] [(⟨#[118]⟩, encV ⟨3, 0, ⟨#[97]⟩, some m⟩)] [] No ∧ KM.get ⟨false, ⟨#[118]⟩⟩ No = some (encP ⟨lastC k, lastR k⟩)
  nodes : IsMap encS W m (nodesK k)
  stamp : Stamp W m
theorem AtK.after {B d r v s n m : Nat} {k : Int} {W W' : World} (h : AtK B d r v s n m k W) (hb : Below W.heap.size W W') : AtK B d r v s n m k W' := by
  obtain ⟨No, h1, h2⟩ := h.here
  exact ⟨h.five, h.apart, h.low, ⟨No, h1.after hb, h2⟩, h.nodes.after hb, h.stamp.of_heap (hb.block m h.nodes.lt)⟩
theorem do_num (B d r v s n m : Nat) (q k : Int) (w : World) (h : AtK B d r v s n m q w) (hk : 2 ≤ k ∧ k ≤ 9) (hB : B ≤ w.heap.size) :
    Calls Try.prog 24 #[.pointer (some ⟨d, 0, none⟩), encC (cN k)] w fun e w' =>
      e = .returned (encR (if k < q then errR 9 else zeroR)) ∧ AtK B d r v s n m (if q < k then k else q) w' ∧ Below B w w' := by
  obtain ⟨No, h1, h2⟩ := h.here
  by_cases hlt : k < q
  · refine (do_stale d r v s n _ _ _ No (cN k) w (lastC q) (lastR q) h1 (snap_k k) h2 (right_k k hk) (by rw [last_num]; exact hlt)).mono ?_
    rintro e w' ⟨rfl, hb⟩
    rw [if_pos hlt, if_neg (by omega)]
    exact ⟨rfl, h.after hb, hb.mono hB⟩
  · rw [if_neg hlt]
    by_cases he : q = k
    · subst he
      have hl : lastC q = cN q := if_neg (by omega)
      have hr : lastR q = zeroR := if_neg (by omega)
      rw [hl, hr] at h2
      refine (do_same d r v s n _ _ _ No (cN q) w zeroR h1 (snap_k q) h2 (right_k q hk)).mono ?_
      rintro e w' ⟨rfl, hb⟩
      rw [if_neg (by omega)]
      exact ⟨rfl, h.after hb, hb.mono hB⟩
    · have hgt : q < k := by omega
      refine (do_newer B d r v s n _ _ _ No (cN k) w m (nodesK q) (lastC q) (lastR q) ⟨3, 0, ⟨#[97]⟩, some m⟩ h1 h.five (verb_k k) rfl rfl h.nodes h.stamp h.apart h2 (right_k k hk) (by rw [last_num]; exact hgt) h.low).mono ?_
      rintro e w' ⟨rfl, hd, hm, hs, hb, -⟩
      rw [if_pos hgt]
      refine ⟨rfl, ⟨h.five, h.apart, h.low, ⟨_, hd, ?_⟩, ?_, hs⟩, hb⟩
      · have hl : lastC k = cN k := if_neg (by omega)
        have hr : lastR k = zeroR := if_neg (by omega)
        rw [hl, hr]
        exact (KM.get_put (⟨false, ⟨#[118]⟩⟩ : Tg) (⟨false, ⟨#[118]⟩⟩ : Tg) _ No).trans (if_pos rfl)
      · rw [← nodes_next k q (by omega)]
        exact hm
end Go.Proofs.Ytbgfccanbgpjiaa.O.I
