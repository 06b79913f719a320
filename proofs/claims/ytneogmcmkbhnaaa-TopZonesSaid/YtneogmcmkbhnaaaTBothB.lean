/- What two selectors are narrowed to, in plain Lean; what stands between two rounds of topo.both. -/
import Derived.Test.YtneogmcmkbhnaaaTClone
import Derived.Test.YtneogmcmkbhnaaaTRound
namespace Go.Proofs.Ytneogmcmkbhnaaa.T
open Go.RowKit
open Go.Lib hiding intOf

abbrev PT := List UInt8 × List (List UInt8)
def ltB (a b : List UInt8) : Bool := Op.bytesLess a b
def bothB : List PT → List PT → Option (List PT)
  | [], b => some b
  | x :: a, [] => some (x :: a)
  | x :: a, y :: b =>
    if ltB x.1 y.1 = true then (bothB a (y :: b)).map (x :: ·)
    else if ltB y.1 x.1 = true then (bothB (x :: a) b).map (y :: ·)
    else if commonB x.2 y.2 = [] then none
    else (bothB a b).map ((x.1, commonB x.2 y.2) :: ·)
termination_by a b => a.length + b.length
theorem bothB_nil (a : List PT) : bothB a [] = some a := by
  cases a with
  | nil => rw [bothB]
  | cons x a => rw [bothB]
theorem bothB_left (b : List PT) : bothB [] b = some b := by rw [bothB]
theorem both_lt {x y : PT} {a b O : List PT} (h : ltB x.1 y.1 = true) : (bothB (x :: a) (y :: b)).map (O ++ ·) = (bothB a (y :: b)).map (O ++ [x] ++ ·) := by
  rw [bothB, if_pos h, Option.map_map]
  congr 1
  funext l
  simp
theorem both_gt {x y : PT} {a b O : List PT} (h : ltB x.1 y.1 = false) (h2 : ltB y.1 x.1 = true) : (bothB (x :: a) (y :: b)).map (O ++ ·) = (bothB (x :: a) b).map (O ++ [y] ++ ·) := by
  rw [bothB, if_neg (by simp [h]), if_pos h2, Option.map_map]
  congr 1
  funext l
  simp
theorem both_eq {x y : PT} {a b O : List PT} (h : ltB x.1 y.1 = false) (h2 : ltB y.1 x.1 = false) (hc : commonB x.2 y.2 ≠ []) : (bothB (x :: a) (y :: b)).map (O ++ ·) = (bothB a b).map (O ++ [(x.1, commonB x.2 y.2)] ++ ·) := by
  rw [bothB, if_neg (by simp [h]), if_neg (by simp [h2]), if_neg hc, Option.map_map]
  congr 1
  funext l
  simp
theorem both_none {x y : PT} {a b O : List PT} (h : ltB x.1 y.1 = false) (h2 : ltB y.1 x.1 = false) (hc : commonB x.2 y.2 = []) : (bothB (x :: a) (y :: b)).map (O ++ ·) = none := by
  rw [bothB, if_neg (by simp [h]), if_neg (by simp [h2]), if_pos hc]
  rfl
/-- A slice has room for its elements. -/
def CapOk (v : Value) : Prop := ∃ o n c, v = .slice o n c ∧ n ≤ c
def lenV : Value → Nat
  | .slice _ n _ => n
  | _ => 0
theorem tail_terms {w : World} {o : Option Addr} {n c : Nat} {x : TB} {A : List TB} (h : TermsIn w (.slice o n c) (x :: A)) (hc : n ≤ c) :
    TermsIn w (.slice (if c = 1 then o else o.map (·.add 2)) (n - 1) (c - 1)) A := by
  obtain ⟨h1, h2⟩ := h
  refine ⟨fun y hy => h1 y (List.mem_cons_of_mem _ hy), ?_⟩
  rcases h2 with ⟨c', h3, h4⟩ | ⟨g, off, cap, h3, h4, h5, h6⟩
  · cases h4
  · cases h3
    rw [List.length_cons] at h4 hc ⊢
    by_cases hc1 : c = 1
    · have hA : A = [] := List.length_eq_zero_iff.1 (by omega)
      subst hA
      subst hc1
      exact .inr ⟨g, off, 0, rfl, by simp, h5, fun i hi => by cases hi⟩
    · refine .inr ⟨g, off + 2, c - 1, ?_, by omega, h5, fun i hi => ?_⟩
      · rw [if_neg hc1]
        rfl
      · have := h6 (i + 1) (by rw [List.length_cons]; omega)
        rw [show off + (i + 1) * 2 = off + 2 + i * 2 by omega] at this
        exact this
/-- What stands in the slice that is made. -/
structure RO (w : World) (out : Value) (O : List TB) (W : World) : Prop where
  row : W.ownsRow w.heap.size 60 2 out O.length (encTs O)
  vals : ∀ x ∈ O, W.ownsRow w.heap.size 9 1 x.2 x.1.2.length (x.1.2.map encS)
  low : Below w.heap.size w W
theorem RO.start (w : World) : RO w (.slice none 0 0) [] w := ⟨World.ownsRow_nil _ _ _ _, fun x hx => by (cases hx), Below.refl _ _⟩
theorem RO.after {w W W1 : World} {out : Value} {O : List TB} (h : RO w out O W) (hb : Below W.heap.size W W1) : RO w out O W1 := ⟨ownsRow_below h.row hb, fun x hx => ownsRow_below (h.vals x hx) hb, h.low.trans (hb.mono h.low.size)⟩
theorem RO.drew {w W : World} {out : Value} {O : List TB} (h : RO w out O W) : RO w out O W.drew := h.after (Below.refl _ _).drew
theorem RO.alloc {w W : World} {out : Value} {O : List TB} (h : RO w out O W) (o : Obj) : RO w out O (W.alloc o) := h.after ((Below.refl _ _).alloc (Nat.le_refl _) o)
theorem RO.snoc {w W W1 : World} {out out' : Value} {O : List TB} (x : TB) (h : RO w out O W) (hx : W.ownsRow w.heap.size 9 1 x.2 x.1.2.length (x.1.2.map encS))
    (hrow : W1.ownsRow w.heap.size 60 2 out' (O.length + 1) (encTs O ++ [encS x.1.1, x.2])) (hg : W.grownBy W1 out.ownBlock) : RO w out' (O ++ [x]) W1 := by
  refine ⟨by rw [List.length_append, encTs_snoc]; exact hrow, fun y hy => ?_, h.low.grown hg h.low.size fun k hk => (World.ownsRow.lt h.row k hk).1⟩
  have one : ∀ y : TB, W.ownsRow w.heap.size 9 1 y.2 y.1.2.length (y.1.2.map encS) → W1.ownsRow w.heap.size 9 1 y.2 y.1.2.length (y.1.2.map encS) := fun y hy => hy.kept hg (rows_apart hy h.row)
  rcases List.mem_append.1 hy with hy | hy
  · exact one y (h.vals y hy)
  · obtain rfl : y = x := by simpa using hy
    exact one _ hx
theorem RO.terms {w W : World} {out : Value} {O : List TB} (h : RO w out O W) : TermsIn W out O := TermsIn.ofRow h.row h.vals
def BothPost (w : World) (r : Option (List PT)) (e : Ending) (W' : World) : Prop := match r with
  | none => Below w.heap.size w W' ∧ e = .returned (.tuple #[.slice none 0 0, .bool false])
  | some ts => ∃ v O, e = .returned (.tuple #[v, .bool true]) ∧ RO w v O W' ∧ O.map Prod.fst = ts
end Go.Proofs.Ytneogmcmkbhnaaa.T
