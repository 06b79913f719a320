/- What every card of this seat shares: the tables' world, and what the rows' lists give. -/
import Derived.Test.YtpoifngepmfgpaaDoorCards
import Derived.Test.YtpoifngepmfgpaaDoorTie
import Derived.Test.YtpoifngepmfgpaaDoorBStr
import Derived.Test.YtpoifngepmfgpaaDoorLawEnd
import Derived.OpenShut
import Derived.Deep.DeepHandedRow
import Derived.Lib.LaidTab
import Derived.Stop.LaidErr
namespace Go.Proofs.YtpoifngepmfgpaaDoor.O.B
open Go.ChangeShapes Go.WideShapes Go.ChangeAt Go.RowKit

theorem own : ownKnob Tryd.prog.godebug = none := by kernel_rfl
theorem laidOut : laidOutB Tryd.prog = true := by kernel_rfl
theorem gTabType : (Tryd.prog.globals[0]?).map (·.type) = some 86 := by kernel_rfl
theorem cellsTab : Tryd.prog.cellsOf 86 = 20 := by kernel_rfl
theorem cellsU64 : Tryd.prog.cellsOf 23 = 1 := by kernel_rfl

/-- The list of all of this seat's rows. -/
def laidAll : List (String × DataW Unit) := [("math/bits.deBruijn32tab", Rows.laid_math_bits_deBruijn32tab), ("math/bits.deBruijn64tab", Rows.laid_math_bits_deBruijn64tab), ("internal/strconv.uint64pow10", Rows.laid_internal_strconv_uint64pow10)]

theorem tab_of_laid {W : World} (h : laidMetH Tryd.prog laidAll W) : Tab W :=
  Lib.tabIs_of_head (rest := []) gTab gTabType Tryd.underlying86 Tryd.underlying23 cellsU64 cellsTab (laidMet.tail (laidMet.tail h))

/-- An array of two numbers, as it comes in. -/
theorem open_pair {H : Type} {enc : TypeId × Value → H} {P : Program} {w : World} {base : Nat} {spare : Nat → Bool} {held : Bool} {r : Reach} {b0 : Nat} {t e : TypeId} {k : IntKind} {v : Value} {d : DataW H} {ps : List MemPlace}
    (ht : P.underlying t = some (.array 2 e)) (he : P.underlying e = some (.int k)) (hce : P.cellsOf e = 1) (hct : P.cellsOf t = 2)
    (hv : Value.okWide P w r b0 t v) (h : DataW.Trod enc P w base spare held t v d ps) : ∃ x y, v = .agg #[.int k x, .int k y] ∧ (Lit.int k x).wf = true ∧ (Lit.int k y).wf = true := by
  simp only [Value.okWide, ht] at hv
  obtain ⟨cs, rfl, hsz, -⟩ := hv
  obtain ⟨l⟩ := cs
  obtain ⟨fuel, hf⟩ := h
  obtain ⟨xs, m, -, -, hlen, hn, hi⟩ := DataW.trod_array ht hf
  rw [hce] at hi
  have hl2 : l.length = 2 := by rw [hct] at hsz; simpa using hsz
  match l, hl2 with
  | [c0, c1], _ =>
    have x0 : ∃ y, xs[0]? = some y := ⟨xs[0]'(by omega), List.getElem?_eq_getElem (by omega)⟩
    have x1 : ∃ y, xs[1]? = some y := ⟨xs[1]'(by omega), List.getElem?_eq_getElem (by omega)⟩
    obtain ⟨y0, e0⟩ := x0
    obtain ⟨y1, e1⟩ := x1
    have h0 := (hi 0 (by omega)).trans e0
    have h1 := (hi 1 (by omega)).trans e1
    obtain ⟨a, ha, -, fa⟩ := DataW.trod_int he h0
    obtain ⟨b, hb, -, fb⟩ := DataW.trod_int he h1
    simp [Value.cells] at ha hb
    exact ⟨a, b, by rw [ha, hb], fa, fb⟩

/-- A world for the witness: the settled one, each table holding what its initialiser lays. -/
def put (i : Nat) (vs : Array Value) (h : Array Go.Obj) : Array Go.Obj := h.modify i fun
  | .cells _ t frozen => .cells vs t frozen
  | o => o
def u8s (l : List Int) : Array Value := (l.map fun z => Value.int .u8 z).toArray
def laidHeap (h : Array Go.Obj) : Array Go.Obj :=
  put 0 ((Lib.pow10Tab.map fun z => Value.int .u64 z).toArray)
    (put 1 (u8s [0, 1, 28, 2, 29, 14, 24, 3, 30, 22, 20, 15, 25, 17, 4, 8, 31, 27, 13, 23, 21, 19, 16, 7, 26, 12, 18, 6, 11, 5, 10, 9])
      (put 2 (u8s [0, 1, 56, 2, 57, 49, 28, 3, 61, 58, 42, 50, 38, 29, 17, 4, 62, 47, 59, 36, 45, 43, 51, 22, 53, 39, 33, 30, 24, 18, 12, 5, 63, 55, 48, 27, 60, 41, 37, 16, 46, 35, 44, 21, 52, 32, 23, 11, 54, 26, 40, 15, 34, 20, 31, 10, 25, 14, 19, 9, 13, 8, 7, 6]) h))
noncomputable def laidWorld (args : Array Value) (os : Os) : World :=
  { World.holding Tryd.prog os ⟨#[], args, []⟩ with heap := laidHeap (World.holding Tryd.prog os ⟨#[], args, []⟩).heap }
end Go.Proofs.YtpoifngepmfgpaaDoor.O.B
