/- What is done next for a snapshot: all cases together. -/
import Derived.Test.YtdlbpfallmpkoaaDoorDDel
namespace Go.Proofs.YtdlbpfallmpkoaaDoor.O.B
open Go Go.RowKit Go.Shelf Go.Lib RangeMap KM

theorem snapAll_any (l : List Obj) (v : Value) (ver : Int) (n : ByteArray) (w : World) (hl : ObjsIn w v l) (ht : Tab w) (hall : ∀ s ∈ l, (0 ≤ s.born ∧ s.born ≤ 18446744073709551615) ∧ s.name.size ≤ 140737488351232) :
    Calls Tryd.prog 21 #[v, .int .u64 ver, .string n] w fun e w' => e = .returned (encA (snapD l ver n)) ∧ Below w.heap.size w w' := by
  unfold snapD
  cases hs : getL l 7 n with
  | none => exact snapD_none l v ver n w hl hs
  | some s =>
    by_cases hh : handleD s = E0
    · simp only [if_pos hh]
      exact snapD_long l v ver n w hl ht hall s hs hh
    · simp only [if_neg hh]
      cases hd : s.deleting with
      | false => exact snapD_go l v ver n w hl ht hall s hs hh hd
      | true => exact snapD_del l v ver n w hl ht hall s hs hh hd
end Go.Proofs.YtdlbpfallmpkoaaDoor.O.B
