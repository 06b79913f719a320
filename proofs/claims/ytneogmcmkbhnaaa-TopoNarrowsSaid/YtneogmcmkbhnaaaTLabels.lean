/- What stands between two rounds of topo.readList at labels. -/
import Derived.Test.YtneogmcmkbhnaaaTLabel
import Derived.Deep.MidRow
namespace Go.Proofs.Ytneogmcmkbhnaaa.T
open Go.RowKit Go.Shelf Go.Lib

/-- A label as it is read: its key, its value. -/
abbrev LB := List UInt8 × List UInt8
def keyL (x : LB) : List UInt8 := x.1
def encLs (l : List LB) : List Value := l.flatMap fun x => [encS x.1, encS x.2]
theorem encLs_snoc (l : List LB) (x : LB) : encLs (l ++ [x]) = encLs l ++ [encS x.1, encS x.2] := by simp [encLs]
theorem encLs_len : ∀ l : List LB, (encLs l).length = l.length * 2
  | [] => rfl
  | x :: l => by
    have := encLs_len l
    show (encS x.1 :: encS x.2 :: encLs l).length = _
    simp only [List.length_cons, this]
    omega
theorem splitOn_le (m : UInt8) : ∀ (l : List UInt8) (x : List UInt8), x ∈ splitOn m l → x.length ≤ l.length
  | [], x, h => by
    have : x = [] := by simpa [splitOn] using h
    simp [this]
  | c :: l, x, h => by
    have ih := splitOn_le m l
    unfold splitOn at h
    split at h
    · rcases List.mem_cons.1 h with rfl | h
      · simp
      · exact Nat.le_succ_of_le (ih x h)
    · split at h
      · rename_i y t e
        rcases List.mem_cons.1 h with rfl | h
        · have := ih y (by rw [e]; exact List.mem_cons_self ..)
          simpa using this
        · exact Nat.le_succ_of_le (ih x (by rw [e]; exact List.mem_cons_of_mem _ h))
      · have : x = [c] := by simpa using h
        simp [this]
/-- The last label's cells. -/
theorem last_label {w : World} {nb : Nat} {o : Option Addr} {cap : Nat} {y0 : LB} {acc : List LB} (h : w.ownsRow nb 70 2 (.slice o (y0 :: acc).length cap) (y0 :: acc).length (encLs (y0 :: acc))) :
    ∃ g cur, o = some ⟨g, 0, none⟩ ∧ w.heap[g]? = some (.cells cur 70 (0, 0)) ∧ cur[acc.length * 2]? = some (encS ((y0 :: acc).getLast (by simp)).1) ∧ cur[acc.length * 2 + 1]? = some (encS ((y0 :: acc).getLast (by simp)).2) := by
  rcases h.2 with ⟨h1, h0⟩ | ⟨g, cap', cur, he, -, hg, hc1, hc2, hc3, hc4⟩
  · simp at h0
  · cases he
    have e0 : encLs (y0 :: acc) = encLs (y0 :: acc).dropLast ++ [encS ((y0 :: acc).getLast (by simp)).1, encS ((y0 :: acc).getLast (by simp)).2] := by
      rw [← encLs_snoc, List.dropLast_concat_getLast]
    have hl : (encLs (y0 :: acc).dropLast).length = acc.length * 2 := by rw [encLs_len]; simp
    have at' : ∀ j, j < 2 → cur[acc.length * 2 + j]? = (encLs (y0 :: acc))[acc.length * 2 + j]? := fun j hj => by
      rw [← hc4, List.getElem?_take, if_pos (by simp only [List.length_cons]; omega), Array.getElem?_toList]
    refine ⟨g, cur, rfl, hg, ?_, ?_⟩
    · rw [show acc.length * 2 = acc.length * 2 + 0 from rfl, at' 0 (by omega), e0, List.getElem?_append_right (by omega), hl]
      simp
    · rw [at' 1 (by omega), e0, List.getElem?_append_right (by omega), hl]
      simp

/-- The variables of a call of readList at labels, between two rounds. -/
structure LS (w : World) (nb : Nat) (s : ByteArray) (m : UInt8) (res : Value) (ok : Bool) (acc : List LB) (W : World) : Prop where
  most : Boxed W (w.heap.size) 3 (.int .i64 8)
  rdF : Boxed W (w.heap.size + 1) 81 (.func (.func 45) #[] #[])
  keyF : Boxed W (w.heap.size + 1 + 1) 72 (.func (.func 37) #[] #[])
  resB : Boxed W (w.heap.size + 1 + 1 + 1) 23 res
  okB : Boxed W (w.heap.size + 1 + 1 + 1 + 1) 4 (.bool ok)
  txt : Boxed W (w.heap.size + 1 + 1 + 1 + 1 + 1 + 1) 9 (.string s)
  mark : Boxed W (w.heap.size + 1 + 1 + 1 + 1 + 1 + 1 + 1) 21 (.int .i32 m.toNat)
  row : ∃ v, Boxed W (w.heap.size + 1 + 1 + 1 + 1 + 1) 23 v ∧ W.ownsRow nb 70 2 v acc.length (encLs acc) ∧ True
  low : Below w.heap.size w W

theorem ls_own {w : World} {nb : Nat} {s : ByteArray} {m : UInt8} {res : Value} {ok : Bool} {B : Nat} (hB : w.heap.size ≤ B) : OwnFrom B (fun acc W => LS w nb s m res ok acc W) := fun acc W W' row h hg hr => by
  have bx : ∀ {Bx : Nat} {t : TypeId} {v : Value}, Boxed W Bx t v → Boxed W' Bx t v := fun {Bx t v} hb => (Own.from (boxed_own (β := Unit) Bx t (fun _ => v)) B) () W W' row hb hg hr
  exact ⟨bx h.most, bx h.rdF, bx h.keyF, bx h.resB, bx h.okB, bx h.txt, bx h.mark,
    (Own.from (holdsRow_own nb (w.heap.size + 1 + 1 + 1 + 1 + 1) 23 70 2 (fun (acc : List LB) => acc.length) (fun acc => encLs acc) (fun _ _ => True)) B) acc W W' row h.row hg hr,
    (ownFrom_below (β := Unit) (Nat.le_refl _) hB) () W W' row h.low hg hr⟩
theorem ls_below {w : World} {nb : Nat} {s : ByteArray} {m : UInt8} {res : Value} {ok : Bool} {acc : List LB} {W W1 : World} (h : LS w nb s m res ok acc W) (hb : Below W.heap.size W W1) : LS w nb s m res ok acc W1 := by
  obtain ⟨v, h1, h2, -⟩ := h.row
  exact ⟨boxed_below h.most hb, boxed_below h.rdF hb, boxed_below h.keyF hb, boxed_below h.resB hb, boxed_below h.okB hb, boxed_below h.txt hb, boxed_below h.mark hb, ⟨v, boxed_below h1 hb, ownsRow_below h2 hb, trivial⟩, h.low.trans (hb.mono h.low.size)⟩

theorem ls_fail {w : World} {nb : Nat} {s : ByteArray} {m : UInt8} {res : Value} {ok : Bool} {acc : List LB} {W : World} (h : LS w nb s m res ok acc W) (hnb : w.heap.size + 1 + 1 + 1 + 1 + 1 < nb) (res' : Value) (ok' : Bool) :
    LS w nb s m res' ok' acc ((W.setCell ⟨w.heap.size + 1 + 1 + 1, 0, none⟩ res').setCell ⟨w.heap.size + 1 + 1 + 1 + 1, 0, none⟩ (.bool ok')) := by
  obtain ⟨v, h1, h2, -⟩ := h.row
  refine ⟨(h.most.other (by omega) _).other (by omega) _, (h.rdF.other (by omega) _).other (by omega) _, (h.keyF.other (by omega) _).other (by omega) _, (h.resB.set _).other (by omega) _, (h.okB.other (by omega) _).set _,
    (h.txt.other (by omega) _).other (by omega) _, (h.mark.other (by omega) _).other (by omega) _, ⟨v, (h1.other (by omega) _).other (by omega) _, ?_, trivial⟩, (h.low.setCell (p := ⟨w.heap.size + 1 + 1 + 1, 0, none⟩) (by simp; omega) _).setCell (p := ⟨w.heap.size + 1 + 1 + 1 + 1, 0, none⟩) (by simp; omega) _⟩
  exact (h2.kept (grownBy_setCell' W _ _) (.inr (ownBlock_ge h2 (by omega)).symm)).kept (grownBy_setCell' _ _ _) (.inr (ownBlock_ge h2 (by omega)).symm)

theorem ls_append {w : World} {s : ByteArray} {m : UInt8} {res : Value} {ok : Bool} {acc : List LB} {W w1 : World} {v v' : Value} {tmp : Obj} (x : LB) (h : LS w (w.heap.size + 8) s m res ok acc W)
    (hv : Boxed W (w.heap.size + 1 + 1 + 1 + 1 + 1) 23 v) (hrow : W.ownsRow (w.heap.size + 8) 70 2 v acc.length (encLs acc))
    (hown' : w1.ownsRow (w.heap.size + 8) 70 2 v' (acc.length + 1) (encLs acc ++ [encS x.1, encS x.2])) (hgrow : (W.alloc tmp).grownBy w1 v.ownBlock) :
    Boxed w1 (w.heap.size + 1 + 1 + 1 + 1 + 1) 23 v ∧ KeepsOthers W (w1.setCell ⟨w.heap.size + 1 + 1 + 1 + 1 + 1, 0, none⟩ v') ∧ LS w (w.heap.size + 8) s m res ok (acc ++ [x]) (w1.setCell ⟨w.heap.size + 1 + 1 + 1 + 1 + 1, 0, none⟩ v') := by
  obtain ⟨hv1, hv2, hr2, hk2, hb2⟩ := hv.appended (n₀ := w.heap.size) (by decide) (ownsRow_base hrow (by omega)) h.low.size (by omega) (ownsRow_base hown' (by omega)) hgrow
  have bx : ∀ {B : Nat} {t : TypeId} {u : Value}, Boxed W B t u → B < w.heap.size + 8 → B ≠ w.heap.size + 1 + 1 + 1 + 1 + 1 → Boxed (w1.setCell ⟨w.heap.size + 1 + 1 + 1 + 1 + 1, 0, none⟩ v') B t u := fun {B t u} hb hlt hne =>
    ((hb.alloc tmp).kept hgrow (ownBlock_ge hrow hlt)).other hne _
  refine ⟨hv1, hk2, ⟨bx h.most (by omega) (by omega), bx h.rdF (by omega) (by omega), bx h.keyF (by omega) (by omega), bx h.resB (by omega) (by omega), bx h.okB (by omega) (by omega), bx h.txt (by omega) (by omega), bx h.mark (by omega) (by omega), ⟨v', hv2, ?_, trivial⟩, h.low.trans hb2⟩⟩
  rw [List.length_append, encLs_snoc]
  exact hown'.kept (grownBy_setCell' w1 _ v') (.inr (hv1.not_row (by decide) hown').symm)

end Go.Proofs.Ytneogmcmkbhnaaa.T
