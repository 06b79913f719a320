/- What stands between two rounds of topo.readList at terms. -/
import Derived.Test.YtneogmcmkbhnaaaTTerm
import Derived.Test.YtneogmcmkbhnaaaTLabels
import Derived.Deep.MidRow
namespace Go.Proofs.Ytneogmcmkbhnaaa.T
open Go.RowKit Go.Shelf Go.Lib

/-- A term as it is read: its key, its values, and the slice that holds these. -/
abbrev TB := (List UInt8 × List (List UInt8)) × Value
def keyT (x : List UInt8 × List (List UInt8)) : List UInt8 := x.1
def encTs (l : List TB) : List Value := l.flatMap fun x => [encS x.1.1, x.2]
theorem encTs_snoc (l : List TB) (x : TB) : encTs (l ++ [x]) = encTs l ++ [encS x.1.1, x.2] := by simp [encTs]
theorem encTs_len : ∀ l : List TB, (encTs l).length = l.length * 2
  | [] => rfl
  | x :: l => by
    have := encTs_len l
    show (encS x.1.1 :: x.2 :: encTs l).length = _
    simp only [List.length_cons, this]
    omega
theorem row_none (x : Option Nat) : x = none ∨ x ≠ none := by cases x <;> simp
theorem row_kept {W W' : World} {B nb : Nat} {e : TypeId} {size n : Nat} {v : Value} {xs : List Value} {row : Option Nat} (h : W.ownsRow nb e size v n xs) (hg : W.grownBy W' row) (hr : ∀ r, row = some r → B ≤ r ∧ ∃ o : Obj, W.heap[r]? = some o ∧ o.isCells = false) : W'.ownsRow nb e size v n xs := by
  refine h.kept hg ?_
  rcases h.2 with ⟨rfl, _⟩ | ⟨g, cap, cur, rfl, _, hgb, _⟩
  · exact .inl rfl
  · refine .inr fun e' => ?_
    obtain ⟨-, o, ho, hc⟩ := hr g (by simpa [Value.ownBlock] using e'.symm)
    rw [hgb] at ho; cases ho; cases hc
theorem rows_apart {W : World} {nb nb' : Nat} {n n' : Nat} {v v' : Value} {xs xs' : List Value} (h : W.ownsRow nb 9 1 v n xs) (h' : W.ownsRow nb' 60 2 v' n' xs') : v.ownBlock = none ∨ v.ownBlock ≠ v'.ownBlock := by
  rcases h.2 with ⟨rfl, _⟩ | ⟨g, cap, cur, rfl, _, hg, _⟩
  · exact .inl rfl
  · rcases h'.2 with ⟨rfl, _⟩ | ⟨g', cap', cur', rfl, _, hg', _⟩
    · exact .inr (by simp [Value.ownBlock])
    · refine .inr fun e => ?_
      have e2 : g = g' := by simpa [Value.ownBlock] using e
      rw [e2, hg'] at hg
      have e3 := Option.some.inj hg
      injection e3 with _ e4
      exact absurd e4 (by decide)
/-- The last term's cells. -/
theorem last_term {w : World} {nb : Nat} {o : Option Addr} {cap : Nat} {y0 : TB} {acc : List TB} (h : w.ownsRow nb 60 2 (.slice o (y0 :: acc).length cap) (y0 :: acc).length (encTs (y0 :: acc))) :
    ∃ g cur, o = some ⟨g, 0, none⟩ ∧ w.heap[g]? = some (.cells cur 60 (0, 0)) ∧ cur[acc.length * 2]? = some (encS ((y0 :: acc).getLast (by simp)).1.1) ∧ cur[acc.length * 2 + 1]? = some ((y0 :: acc).getLast (by simp)).2 := by
  rcases h.2 with ⟨h1, h0⟩ | ⟨g, cap', cur, he, -, hg, hc1, hc2, hc3, hc4⟩
  · simp at h0
  · cases he
    have e0 : encTs (y0 :: acc) = encTs (y0 :: acc).dropLast ++ [encS ((y0 :: acc).getLast (by simp)).1.1, ((y0 :: acc).getLast (by simp)).2] := by
      rw [← encTs_snoc, List.dropLast_concat_getLast]
    have hl : (encTs (y0 :: acc).dropLast).length = acc.length * 2 := by rw [encTs_len]; simp
    have at' : ∀ j, j < 2 → cur[acc.length * 2 + j]? = (encTs (y0 :: acc))[acc.length * 2 + j]? := fun j hj => by
      rw [← hc4, List.getElem?_take, if_pos (by simp only [List.length_cons]; omega), Array.getElem?_toList]
    refine ⟨g, cur, rfl, hg, ?_, ?_⟩
    · rw [show acc.length * 2 = acc.length * 2 + 0 from rfl, at' 0 (by omega), e0, List.getElem?_append_right (by omega), hl]
      simp
    · rw [at' 1 (by omega), e0, List.getElem?_append_right (by omega), hl]
      simp

/-- The variables of a call of readList at terms, between two rounds. -/
structure TS (w : World) (nb : Nat) (s : ByteArray) (m : UInt8) (res : Value) (ok : Bool) (acc : List TB) (W : World) : Prop where
  most : Boxed W (w.heap.size) 3 (.int .i64 8)
  rdF : Boxed W (w.heap.size + 1) 76 (.func (.func 40) #[] #[])
  keyF : Boxed W (w.heap.size + 1 + 1) 64 (.func (.func 32) #[] #[])
  resB : Boxed W (w.heap.size + 1 + 1 + 1) 22 res
  okB : Boxed W (w.heap.size + 1 + 1 + 1 + 1) 4 (.bool ok)
  txt : Boxed W (w.heap.size + 1 + 1 + 1 + 1 + 1 + 1) 9 (.string s)
  mark : Boxed W (w.heap.size + 1 + 1 + 1 + 1 + 1 + 1 + 1) 21 (.int .i32 m.toNat)
  row : ∃ v, Boxed W (w.heap.size + 1 + 1 + 1 + 1 + 1) 22 v ∧ W.ownsRow nb 60 2 v acc.length (encTs acc) ∧ True
  low : Below w.heap.size w W
  vals : ∀ x ∈ acc, W.ownsRow nb 9 1 x.2 x.1.2.length (x.1.2.map encS)

theorem ts_own {w : World} {nb : Nat} {s : ByteArray} {m : UInt8} {res : Value} {ok : Bool} {B : Nat} (hB : w.heap.size ≤ B) : OwnFrom B (fun acc W => TS w nb s m res ok acc W) := fun acc W W' row h hg hr => by
  have bx : ∀ {Bx : Nat} {t : TypeId} {v : Value}, Boxed W Bx t v → Boxed W' Bx t v := fun {Bx t v} hb => (Own.from (boxed_own (β := Unit) Bx t (fun _ => v)) B) () W W' row hb hg hr
  exact ⟨bx h.most, bx h.rdF, bx h.keyF, bx h.resB, bx h.okB, bx h.txt, bx h.mark,
    (Own.from (holdsRow_own nb (w.heap.size + 1 + 1 + 1 + 1 + 1) 22 60 2 (fun (acc : List TB) => acc.length) (fun acc => encTs acc) (fun _ _ => True)) B) acc W W' row h.row hg hr,
    (ownFrom_below (β := Unit) (Nat.le_refl _) hB) () W W' row h.low hg hr, fun x hx => row_kept (h.vals x hx) hg hr⟩
theorem ts_below {w : World} {nb : Nat} {s : ByteArray} {m : UInt8} {res : Value} {ok : Bool} {acc : List TB} {W W1 : World} (h : TS w nb s m res ok acc W) (hb : Below W.heap.size W W1) : TS w nb s m res ok acc W1 := by
  obtain ⟨v, h1, h2, -⟩ := h.row
  exact ⟨boxed_below h.most hb, boxed_below h.rdF hb, boxed_below h.keyF hb, boxed_below h.resB hb, boxed_below h.okB hb, boxed_below h.txt hb, boxed_below h.mark hb, ⟨v, boxed_below h1 hb, ownsRow_below h2 hb, trivial⟩, h.low.trans (hb.mono h.low.size), fun x hx => ownsRow_below (h.vals x hx) hb⟩

theorem ts_fail {w : World} {nb : Nat} {s : ByteArray} {m : UInt8} {res : Value} {ok : Bool} {acc : List TB} {W : World} (h : TS w nb s m res ok acc W) (hnb : w.heap.size + 1 + 1 + 1 + 1 + 1 < nb) (res' : Value) (ok' : Bool) :
    TS w nb s m res' ok' acc ((W.setCell ⟨w.heap.size + 1 + 1 + 1, 0, none⟩ res').setCell ⟨w.heap.size + 1 + 1 + 1 + 1, 0, none⟩ (.bool ok')) := by
  obtain ⟨v, h1, h2, -⟩ := h.row
  refine ⟨(h.most.other (by omega) _).other (by omega) _, (h.rdF.other (by omega) _).other (by omega) _, (h.keyF.other (by omega) _).other (by omega) _, (h.resB.set _).other (by omega) _, (h.okB.other (by omega) _).set _,
    (h.txt.other (by omega) _).other (by omega) _, (h.mark.other (by omega) _).other (by omega) _, ⟨v, (h1.other (by omega) _).other (by omega) _, ?_, trivial⟩, (h.low.setCell (p := ⟨w.heap.size + 1 + 1 + 1, 0, none⟩) (by simp; omega) _).setCell (p := ⟨w.heap.size + 1 + 1 + 1 + 1, 0, none⟩) (by simp; omega) _, fun x hx => ((h.vals x hx).kept (grownBy_setCell' W _ _) (.inr (ownBlock_ge (h.vals x hx) (by omega)).symm)).kept (grownBy_setCell' _ _ _) (.inr (ownBlock_ge (h.vals x hx) (by omega)).symm)⟩
  exact (h2.kept (grownBy_setCell' W _ _) (.inr (ownBlock_ge h2 (by omega)).symm)).kept (grownBy_setCell' _ _ _) (.inr (ownBlock_ge h2 (by omega)).symm)

theorem ts_append {w : World} {s : ByteArray} {m : UInt8} {res : Value} {ok : Bool} {acc : List TB} {W w1 : World} {v v' : Value} {tmp : Obj} (x : TB) (hx : W.ownsRow (w.heap.size + 8) 9 1 x.2 x.1.2.length (x.1.2.map encS)) (h : TS w (w.heap.size + 8) s m res ok acc W)
    (hv : Boxed W (w.heap.size + 1 + 1 + 1 + 1 + 1) 22 v) (hrow : W.ownsRow (w.heap.size + 8) 60 2 v acc.length (encTs acc))
    (hown' : w1.ownsRow (w.heap.size + 8) 60 2 v' (acc.length + 1) (encTs acc ++ [encS x.1.1, x.2])) (hgrow : (W.alloc tmp).grownBy w1 v.ownBlock) :
    Boxed w1 (w.heap.size + 1 + 1 + 1 + 1 + 1) 22 v ∧ KeepsOthers W (w1.setCell ⟨w.heap.size + 1 + 1 + 1 + 1 + 1, 0, none⟩ v') ∧ TS w (w.heap.size + 8) s m res ok (acc ++ [x]) (w1.setCell ⟨w.heap.size + 1 + 1 + 1 + 1 + 1, 0, none⟩ v') := by
  obtain ⟨hv1, hv2, hr2, hk2, hb2⟩ := hv.appended (n₀ := w.heap.size) (by decide) (ownsRow_base hrow (by omega)) h.low.size (by omega) (ownsRow_base hown' (by omega)) hgrow
  have bx : ∀ {B : Nat} {t : TypeId} {u : Value}, Boxed W B t u → B < w.heap.size + 8 → B ≠ w.heap.size + 1 + 1 + 1 + 1 + 1 → Boxed (w1.setCell ⟨w.heap.size + 1 + 1 + 1 + 1 + 1, 0, none⟩ v') B t u := fun {B t u} hb hlt hne =>
    ((hb.alloc tmp).kept hgrow (ownBlock_ge hrow hlt)).other hne _
  have rw1 : ∀ y : TB, W.ownsRow (w.heap.size + 8) 9 1 y.2 y.1.2.length (y.1.2.map encS) → (w1.setCell ⟨w.heap.size + 1 + 1 + 1 + 1 + 1, 0, none⟩ v').ownsRow (w.heap.size + 8) 9 1 y.2 y.1.2.length (y.1.2.map encS) := fun y hy =>
    ((((hy.kept (World.grownBy_alloc W tmp none) (row_none _))).kept hgrow (rows_apart hy hrow)).kept (grownBy_setCell' w1 _ v') (.inr (ownBlock_ge hy (by omega)).symm))
  refine ⟨hv1, hk2, ⟨bx h.most (by omega) (by omega), bx h.rdF (by omega) (by omega), bx h.keyF (by omega) (by omega), bx h.resB (by omega) (by omega), bx h.okB (by omega) (by omega), bx h.txt (by omega) (by omega), bx h.mark (by omega) (by omega), ⟨v', hv2, ?_, trivial⟩, h.low.trans hb2, fun y hy => ?_⟩⟩
  · rw [List.length_append, encTs_snoc]
    exact hown'.kept (grownBy_setCell' w1 _ v') (.inr (hv1.not_row (by decide) hown').symm)
  · rcases List.mem_append.1 hy with hy | hy
    · exact rw1 y (h.vals y hy)
    · obtain rfl : y = x := by simpa using hy
      exact rw1 _ hx

end Go.Proofs.Ytneogmcmkbhnaaa.T
