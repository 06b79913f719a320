/- topo.readList at strings: the values of a term, read as value reads them. -/
import Derived.Test.YtneogmcmkbhnaaaTCut
import Derived.Test.YtneogmcmkbhnaaaQuietIn
import Derived.Maps.AppendAt
namespace Go.Proofs.Ytneogmcmkbhnaaa.T
open Go.RowKit Go.Shelf Go.Lib
attribute [local go_sem] Oper.semAt_some

theorem value_any (l : List UInt8) (w : World) :
    Calls Try.prog 56 #[encS l] w fun e w' => e = .returned (.tuple #[encS l, .bool (wordB l)]) ∧ Below w.heap.size w w' := by
  obtain ⟨s, rfl⟩ : ∃ s : ByteArray, l = s.data.toList := ⟨⟨l.toArray⟩, rfl⟩
  rw [encS_self]
  go_enter Try.func56, Try.ntmps56
  go_wp2_with fail
  refine (word_any s _).mono ?_
  rintro e w1 ⟨rfl, hb⟩
  have hb' := Lib.hid hb
  clear hb
  go_wp2
  go_ret2
  exact ⟨rfl, hb'.out⟩
theorem itself_any (l : List UInt8) (w : World) :
    Calls Try.prog 57 #[encS l] w fun e w' => e = .returned (encS l) ∧ w = w' := by
  unfold encS
  go_enter Try.func57, Try.ntmps57
  go_wp2
  go_ret
  exact ⟨rfl, rfl⟩

/-- Not above, by bytes. -/
def leB (a b : List UInt8) : Bool := Op.bytesLess a b || a == b
section
variable {α : Type} (rd : List UInt8 → Option α) (key : α → List UInt8)
/-- One part more: it must be readable, there must be room, and its key must be above the last one's. -/
def step (acc : List α) (p : List UInt8) : Option (List α) :=
  match rd p with
  | none => none
  | some x => if acc.length = 8 then none else
    match acc.getLast? with
    | some y => if leB (key x) (key y) then none else some (acc ++ [x])
    | none => some (acc ++ [x])
def readAll (parts : List (List UInt8)) : Option (List α) := parts.foldlM (step rd key) []
theorem readAll_snoc (pre : List (List UInt8)) (p : List UInt8) : readAll rd key (pre ++ [p]) = (readAll rd key pre).bind fun acc => step rd key acc p := by
  unfold readAll
  rw [List.foldlM_append]
  cases h : List.foldlM (step rd key) [] pre with
  | none => rfl
  | some acc =>
    show (List.foldlM (step rd key) acc [p]) = step rd key acc p
    rw [List.foldlM_cons]
    cases step rd key acc p <;> rfl
theorem readAll_none {pre parts : List (List UInt8)} (h : pre <+: parts) (hn : readAll rd key pre = none) : readAll rd key parts = none := by
  obtain ⟨t, rfl⟩ := h
  unfold readAll at *
  rw [List.foldlM_append, hn]; rfl
theorem step_len {acc acc' : List α} {p : List UInt8} (h : step rd key acc p = some acc') : ∃ x, acc' = acc ++ [x] ∧ acc.length ≠ 8 := by
  unfold step at h
  repeat' split at h
  all_goals first | (cases h; done) | (cases h; exact ⟨_, rfl, by assumption⟩)
theorem fold_len : ∀ (pre : List (List UInt8)) (a acc : List α), pre.foldlM (step rd key) a = some acc → acc.length = a.length + pre.length ∧ (a.length ≤ 8 → acc.length ≤ 8)
  | [], a, acc, h => by
    cases h; simp
  | p :: pre, a, acc, h => by
    rw [List.foldlM_cons] at h
    cases hs : step rd key a p with
    | none => rw [hs] at h; cases h
    | some a' =>
      rw [hs] at h
      have ih := fold_len pre a' acc h
      obtain ⟨x, rfl, hne⟩ := step_len rd key hs
      simp at ih ⊢
      omega
theorem readAll_len {pre : List (List UInt8)} {acc : List α} (h : readAll rd key pre = some acc) : acc.length ≤ 8 ∧ acc.length = pre.length := by
  have := fold_len rd key pre [] acc h
  simp at this
  omega
end
/-- A value is read as a word. -/
def rdWord (p : List UInt8) : Option (List UInt8) := if wordB p then some p else none
def keyWord (p : List UInt8) : List UInt8 := p

theorem ownsRow_base {w : World} {n0 nb : Nat} {e : TypeId} {size : Nat} {v : Value} {n : Nat} {xs : List Value} (h : w.ownsRow nb e size v n xs) (hle : n0 ≤ nb) : w.ownsRow n0 e size v n xs := by
  refine ⟨h.1, ?_⟩
  rcases h.2 with h1 | ⟨g, cap, cur, hv, hb, h2⟩
  · exact .inl h1
  · exact .inr ⟨g, cap, cur, hv, by omega, h2⟩
theorem ownBlock_ge {w : World} {nb : Nat} {e : TypeId} {size : Nat} {v : Value} {n : Nat} {xs : List Value} (h : w.ownsRow nb e size v n xs) {j : Nat} (hj : j < nb) : some j ≠ v.ownBlock := by
  rcases h.2 with ⟨rfl, -⟩ | ⟨g, cap, cur, rfl, hb, -⟩
  · simp [Value.ownBlock]
  · intro e'
    simp [Value.ownBlock] at e'
    omega

theorem boxed_below {W W1 : World} {B : Nat} {t : TypeId} {v : Value} (h : Boxed W B t v) (hb : Below W.heap.size W W1) : Boxed W1 B t v := (hb.block B h.lt).trans h
theorem ownsRow_below {W W1 : World} {nb : Nat} {e : TypeId} {size : Nat} {v : Value} {n : Nat} {xs : List Value} (h : W.ownsRow nb e size v n xs) (hb : Below W.heap.size W W1) : W1.ownsRow nb e size v n xs := by
  refine ⟨h.1, ?_⟩
  rcases h.2 with h1 | ⟨g, cap, cur, hv, hn, hg, h2⟩
  · exact .inl h1
  · exact .inr ⟨g, cap, cur, hv, hn, (hb.block g (Array.getElem?_eq_some_iff.1 hg).1).trans hg, h2⟩

/-- The variables of a call of readList at strings, between two rounds. -/
structure RS (w : World) (nb : Nat) (s : ByteArray) (m : UInt8) (res : Value) (ok : Bool) (acc : List (List UInt8)) (W : World) : Prop where
  most : Boxed W (w.heap.size) 3 (.int .i64 8)
  rdF : Boxed W (w.heap.size + 1) 91 (.func (.func 56) #[] #[])
  keyF : Boxed W (w.heap.size + 1 + 1) 92 (.func (.func 57) #[] #[])
  resB : Boxed W (w.heap.size + 1 + 1 + 1) 58 res
  okB : Boxed W (w.heap.size + 1 + 1 + 1 + 1) 4 (.bool ok)
  txt : Boxed W (w.heap.size + 1 + 1 + 1 + 1 + 1 + 1) 9 (.string s)
  mark : Boxed W (w.heap.size + 1 + 1 + 1 + 1 + 1 + 1 + 1) 21 (.int .i32 m.toNat)
  row : ∃ v, Boxed W (w.heap.size + 1 + 1 + 1 + 1 + 1) 58 v ∧ W.ownsRow nb 9 1 v acc.length (acc.map encS) ∧ True
  low : Below w.heap.size w W

theorem rs_own {w : World} {nb : Nat} {s : ByteArray} {m : UInt8} {res : Value} {ok : Bool} {B : Nat} (hB : w.heap.size ≤ B) : OwnFrom B (fun acc W => RS w nb s m res ok acc W) := fun acc W W' row h hg hr => by
  have bx : ∀ {Bx : Nat} {t : TypeId} {v : Value}, Boxed W Bx t v → Boxed W' Bx t v := fun {Bx t v} hb => (Own.from (boxed_own (β := Unit) Bx t (fun _ => v)) B) () W W' row hb hg hr
  exact ⟨bx h.most, bx h.rdF, bx h.keyF, bx h.resB, bx h.okB, bx h.txt, bx h.mark,
    (Own.from (holdsRow_own nb (w.heap.size + 1 + 1 + 1 + 1 + 1) 58 9 1 (fun (acc : List (List UInt8)) => acc.length) (fun acc => acc.map encS) (fun _ _ => True)) B) acc W W' row h.row hg hr,
    (ownFrom_below (β := Unit) (Nat.le_refl _) hB) () W W' row h.low hg hr⟩
theorem rs_below {w : World} {nb : Nat} {s : ByteArray} {m : UInt8} {res : Value} {ok : Bool} {acc : List (List UInt8)} {W W1 : World} (h : RS w nb s m res ok acc W) (hb : Below W.heap.size W W1) : RS w nb s m res ok acc W1 := by
  obtain ⟨v, h1, h2, -⟩ := h.row
  exact ⟨boxed_below h.most hb, boxed_below h.rdF hb, boxed_below h.keyF hb, boxed_below h.resB hb, boxed_below h.okB hb, boxed_below h.txt hb, boxed_below h.mark hb, ⟨v, boxed_below h1 hb, ownsRow_below h2 hb, trivial⟩, h.low.trans (hb.mono h.low.size)⟩

theorem kof {W W1 : World} (hb : Below W.heap.size W W1) : KeepsOthers W W1 := ⟨hb.size, fun k _ hk _ => (hb.block k (Array.getElem?_eq_some_iff.1 hk).1).trans hk⟩
theorem rs_fail {w : World} {nb : Nat} {s : ByteArray} {m : UInt8} {res : Value} {ok : Bool} {acc : List (List UInt8)} {W : World} (h : RS w nb s m res ok acc W) (hnb : w.heap.size + 1 + 1 + 1 + 1 + 1 < nb) (res' : Value) (ok' : Bool) :
    RS w nb s m res' ok' acc ((W.setCell ⟨w.heap.size + 1 + 1 + 1, 0, none⟩ res').setCell ⟨w.heap.size + 1 + 1 + 1 + 1, 0, none⟩ (.bool ok')) := by
  obtain ⟨v, h1, h2, -⟩ := h.row
  refine ⟨(h.most.other (by omega) _).other (by omega) _, (h.rdF.other (by omega) _).other (by omega) _, (h.keyF.other (by omega) _).other (by omega) _, (h.resB.set _).other (by omega) _, (h.okB.other (by omega) _).set _,
    (h.txt.other (by omega) _).other (by omega) _, (h.mark.other (by omega) _).other (by omega) _, ⟨v, (h1.other (by omega) _).other (by omega) _, ?_, trivial⟩, (h.low.setCell (p := ⟨w.heap.size + 1 + 1 + 1, 0, none⟩) (by simp; omega) _).setCell (p := ⟨w.heap.size + 1 + 1 + 1 + 1, 0, none⟩) (by simp; omega) _⟩
  exact (h2.kept (grownBy_setCell' W _ _) (.inr (ownBlock_ge h2 (by omega)).symm)).kept (grownBy_setCell' _ _ _) (.inr (ownBlock_ge h2 (by omega)).symm)

theorem boxed_at (W : World) (t : TypeId) (v : Value) (B : Nat) (h : B = W.heap.size) : Boxed (W.alloc (.cells #[v] t)) B t v := h ▸ Boxed.new W t v
/-- What readList answers at strings: the list that was read, in a row of its own; or nil and no. -/
def ReadPost (w : World) (r : Option (List (List UInt8))) (e : Ending) (W' : World) : Prop := Below w.heap.size w W' ∧ match r with
  | none => e = .returned (.tuple #[.slice none 0 0, .bool false])
  | some acc => ∃ v, e = .returned (.tuple #[v, .bool true]) ∧ W'.ownsRow (w.heap.size + 8) 9 1 v acc.length (acc.map encS)
theorem infoStr : (Try.prog.info? 9).map (fun i => (i.zero, i.size, i.bytes)) = some (some (.string ⟨#[]⟩), 1, 16) := by kernel_rfl
theorem undStrs : Try.prog.underlying 58 = some (.slice 9) := by kernel_rfl
theorem leq_any (t : TypeId) (a b : List UInt8) : binOp .leq t (encS a) (encS b) = pure (.bool (leB a b)) := by
  unfold encS leB
  rw [binOp_string_leq]
  simp [Lib.toList_data]
theorem last_cell {w : World} {nb : Nat} {e : TypeId} {o : Option Addr} {cap : Nat} {y0 : List UInt8} {acc : List (List UInt8)} (h : w.ownsRow nb e 1 (.slice o (y0 :: acc).length cap) (y0 :: acc).length ((y0 :: acc).map encS)) :
    ∃ g cur, o = some ⟨g, 0, none⟩ ∧ w.heap[g]? = some (.cells cur e (0, 0)) ∧ cur[acc.length]? = some (encS ((y0 :: acc).getLast (by simp))) := by
  rcases h.2 with ⟨h1, h0⟩ | ⟨g, cap', cur, he, -, hg, hc1, hc2, hc3, hc4⟩
  · simp at h0
  · cases he
    refine ⟨g, cur, rfl, hg, ?_⟩
    have h2 := congrArg (fun l => l[acc.length]?) hc4
    simp only [Nat.mul_one] at h2
    rw [List.getElem?_take, if_pos (by simp), Array.getElem?_toList, List.getElem?_map] at h2
    rw [h2, List.getLast_eq_getElem]
    simp
theorem rs_append {w : World} {s : ByteArray} {m : UInt8} {res : Value} {ok : Bool} {acc : List (List UInt8)} {W w1 : World} {v v' : Value} {tmp : Obj} (x : List UInt8) (h : RS w (w.heap.size + 8) s m res ok acc W)
    (hv : Boxed W (w.heap.size + 1 + 1 + 1 + 1 + 1) 58 v) (hrow : W.ownsRow (w.heap.size + 8) 9 1 v acc.length (acc.map encS))
    (hown' : w1.ownsRow (w.heap.size + 8) 9 1 v' (acc.length + 1) (acc.map encS ++ [encS x])) (hgrow : (W.alloc tmp).grownBy w1 v.ownBlock) :
    Boxed w1 (w.heap.size + 1 + 1 + 1 + 1 + 1) 58 v ∧ KeepsOthers W (w1.setCell ⟨w.heap.size + 1 + 1 + 1 + 1 + 1, 0, none⟩ v') ∧ RS w (w.heap.size + 8) s m res ok (acc ++ [x]) (w1.setCell ⟨w.heap.size + 1 + 1 + 1 + 1 + 1, 0, none⟩ v') := by
  obtain ⟨hv1, hv2, hr2, hk2, hb2⟩ := hv.appended (n₀ := w.heap.size) (by decide) (ownsRow_base hrow (by omega)) h.low.size (by omega) (ownsRow_base hown' (by omega)) hgrow
  have bx : ∀ {B : Nat} {t : TypeId} {u : Value}, Boxed W B t u → B < w.heap.size + 8 → B ≠ w.heap.size + 1 + 1 + 1 + 1 + 1 → Boxed (w1.setCell ⟨w.heap.size + 1 + 1 + 1 + 1 + 1, 0, none⟩ v') B t u := fun {B t u} hb hlt hne =>
    ((hb.alloc tmp).kept hgrow (ownBlock_ge hrow hlt)).other hne _
  refine ⟨hv1, hk2, ⟨bx h.most (by omega) (by omega), bx h.rdF (by omega) (by omega), bx h.keyF (by omega) (by omega), bx h.resB (by omega) (by omega), bx h.okB (by omega) (by omega), bx h.txt (by omega) (by omega), bx h.mark (by omega) (by omega), ⟨v', hv2, ?_, trivial⟩, h.low.trans hb2⟩⟩
  rw [List.length_append, List.map_append]
  exact hown'.kept (grownBy_setCell' w1 _ v') (.inr (hv1.not_row (by decide) hown').symm)

set_option maxRecDepth 100000 in
set_option maxHeartbeats 2000000 in
theorem readStrs_in (s : ByteArray) (hs : s.size ≤ 9223372036854775807) (m : UInt8) (hm : m.toNat < 128) (w : World) :
    CallsIn Fence.wide 3 Try.prog 65 #[.string s, .int .i32 m.toNat, .int .i64 8, .func (.func 56) #[] #[], .func (.func 57) #[] #[]] w
      (ReadPost w (readAll rdWord keyWord (splitOn m s.data.toList))) := by
  have h1 : 1 ≤ 3 := by omega
  refine callsIn_of_wp_marks Try.func65 rfl trivial ?_ rfl
  simp only [Try.ntmps65, List.size_toArray, List.length_cons, List.length_nil, Nat.reduceAdd, Nat.reduceSub, Array.replicate_succ, Array.replicate_zero, List.push_toArray, List.append_toArray, List.nil_append, List.cons_append]
  gi_wp2_with fail
  refine ⟨trivial, (callsIn_wide.2 (cut_any _ _ _)).mono ?_⟩
  rintro e w' ⟨rfl, rfl⟩
  gi_wp2_with fail
  have hz : ((((((((w.alloc (.cells #[.int .i64 8] 3)).alloc (.cells #[.func (.func 56) #[] #[]] 91)).alloc (.cells #[.func (.func 57) #[] #[]] 92)).alloc (.cells #[.slice none 0 0] 58)).alloc (.cells #[.bool false] 4)).alloc (.cells #[.slice none 0 0] 58)).alloc (.cells #[.string s] 9)).alloc (.cells #[.int .i32 m.toNat] 21)).heap.size = w.heap.size + 8 := by simp
  have hI0 : RS w (w.heap.size + 8) s m (.slice none 0 0) false [] ((((((((w.alloc (.cells #[.int .i64 8] 3)).alloc (.cells #[.func (.func 56) #[] #[]] 91)).alloc (.cells #[.func (.func 57) #[] #[]] 92)).alloc (.cells #[.slice none 0 0] 58)).alloc (.cells #[.bool false] 4)).alloc (.cells #[.slice none 0 0] 58)).alloc (.cells #[.string s] 9)).alloc (.cells #[.int .i32 m.toNat] 21)) := by
    have hl := Below.refl w.heap.size w
    refine ⟨?_, ?_, ?_, ?_, ?_, ?_, ?_, ⟨.slice none 0 0, ?_, World.ownsRow_nil _ _ _ _, trivial⟩, ?_⟩
    iterate 8 (focus (repeat (first | (refine boxed_at _ _ _ _ ?_; simp; done) | refine Boxed.alloc ?_ _)))
    repeat (first | exact Below.refl _ _ | refine Below.alloc ?_ (by simp; try omega) _)
  generalize (((((((w.alloc (.cells #[.int .i64 8] 3)).alloc (.cells #[.func (.func 56) #[] #[]] 91)).alloc (.cells #[.func (.func 57) #[] #[]] 92)).alloc (.cells #[.slice none 0 0] 58)).alloc (.cells #[.bool false] 4)).alloc (.cells #[.slice none 0 0] 58)).alloc (.cells #[.string s] 9)).alloc (.cells #[.int .i32 m.toNat] 21) = W0 at hI0 hz ⊢
  refine wpIn_rangeFunc_ownF (F := Fence.wide) (n := 3) rfl h1 (gf := 79) (lb := #[.pointer (some ⟨w.heap.size + 1 + 1 + 1 + 1 + 1 + 1, 0, none⟩), .pointer (some ⟨w.heap.size + 1 + 1 + 1 + 1 + 1 + 1 + 1, 0, none⟩)]) rfl trivial (enters_of Try.func79 (by kernel_rfl) rfl)
    (cut_stops Fence.wide 2 trivial rfl (by omega) s hs m hm _ _ W0 hI0.txt hI0.mark) kpB_t (kpB_b (by omega) (by omega)) (Below.refl _ _) (fun _ => rfl)
    (fun pre W => ∃ acc, readAll rdWord keyWord pre = some acc ∧ RS w (w.heap.size + 8) s m (.slice none 0 0) false acc W)
    (fun c pre W => c = .ret ∧ readAll rdWord keyWord pre = none ∧ ∃ acc, RS w (w.heap.size + 8) s m (.slice none 0 0) false acc W)
    (fun pre A B row ⟨acc, h, hB⟩ hg hr => ⟨acc, h, rs_own (by omega) acc A B row hB hg hr⟩)
    (fun c pre A B row ⟨hc, h, acc, hB⟩ hg hr => ⟨hc, h, acc, rs_own (by omega) acc A B row hB hg hr⟩)
    ⟨[], rfl, hI0⟩
    (fun x => { tmps := #[.string s, .int .i32 m.toNat, .int .i64 8, .func (.func 56) #[] #[], .func (.func 57) #[] #[], undef, undef, .pointer (some ⟨w.heap.size, 0, none⟩), .pointer (some ⟨w.heap.size + 1, 0, none⟩), .pointer (some ⟨w.heap.size + 1 + 1, 0, none⟩), .pointer (some ⟨w.heap.size + 1 + 1 + 1, 0, none⟩), .pointer (some ⟨w.heap.size + 1 + 1 + 1 + 1, 0, none⟩), .pointer (some ⟨w.heap.size + 1 + 1 + 1 + 1 + 1, 0, none⟩), encS x, undef, undef, .string s, .int .i32 m.toNat, .func (.func 79) #[] #[.pointer (some ⟨w.heap.size + 1 + 1 + 1 + 1 + 1 + 1, 0, none⟩), .pointer (some ⟨w.heap.size + 1 + 1 + 1 + 1 + 1 + 1 + 1, 0, none⟩)], encS x, undef, undef, undef, undef, undef, undef, undef, undef, undef, undef, undef, undef, undef, undef, undef, undef, undef, undef, undef, undef, undef, undef, undef, undef, undef, undef, undef, undef, undef, undef, undef, undef, undef, undef, undef, undef, undef, undef], defers := [] }) ?assign ?body ?done ?stop
  case assign =>
    intro l x W K hK
    simp only [enc1]
    gi_wp2
    exact hK
  case body =>
    rintro l pre x W ⟨acc, hacc, hI⟩ _
    have c1 := hI.rdF.cell
    gi_wp2_with fail
    refine ⟨trivial, ((callsIn_wide.2 (value_any x _)).inRound l).mono ?_⟩
    rintro e W1 ⟨rfl, hb1⟩
    have hI1 := rs_below hI hb1
    have hko : KeepsOthers W W1 := ⟨hb1.size, fun k o hk _ => (hb1.block k (Array.getElem?_eq_some_iff.1 hk).1).trans hk⟩
    cases hwd : wordB x with
    | false =>
      have hnone : Hid (readAll rdWord keyWord (pre ++ [x]) = none) := by
        show _ = _
        rw [readAll_snoc, hacc]
        show step rdWord keyWord acc x = none
        unfold step rdWord; rw [hwd]; rfl
      gi_wp2_with fail
      refine StillIn.wpIn_region_class (fun w' => Below W1.heap.size W1 w') (by kernel_rfl) (by kernel_rfl) (by kernel_rfl) (below_drewN (Below.refl _ _) 1) ?_
      iterate 3 (refine StillIn.quiet_take_to (by first | exact StillIn.asked_wide | exact StillIn.asked_wide0 | quiet_asked_in) (by rfl) (fun _ _ => StillIn.quietAt_of_run (by go_simp; rfl)) (by go_simp; rfl) ?_)
      iterate 4 (refine StillIn.quiet_skip_to (by first | exact StillIn.asked_wide | exact StillIn.asked_wide0 | quiet_asked_in) (by rfl) (by go_simp; rfl) ?_)
      iterate 2 (refine StillIn.quiet_take_to (by first | exact StillIn.asked_wide | exact StillIn.asked_wide0 | quiet_asked_in) (by rfl) (fun _ _ => StillIn.quietAt_of_run (by go_simp; rfl)) (by go_simp; rfl) ?_)
      iterate 17 (refine StillIn.quiet_skip_to (by first | exact StillIn.asked_wide | exact StillIn.asked_wide0 | quiet_asked_in) (by rfl) (by go_simp; rfl) ?_)
      iterate 1 (refine StillIn.quiet_take_to (by first | exact StillIn.asked_wide | exact StillIn.asked_wide0 | quiet_asked_in) (by rfl) (fun _ _ => StillIn.quietAt_of_run (by go_simp; rfl)) (by go_simp; rfl) ?_)
      refine wpQuietIn_nil ?_
      intro W2 hb2
      have hI2 := rs_below hI1 hb2
      have d3 := hI2.resB.cell
      have f3 := hI2.resB.frozen
      have d4 := hI2.okB.cell
      have f4 := hI2.okB.frozen
      have d4' : ∀ v, (W2.setCell ⟨w.heap.size + 1 + 1 + 1, 0, none⟩ v).cell? ⟨w.heap.size + 1 + 1 + 1 + 1, 0, none⟩ = some (.bool false) := fun v => (hI2.okB.other (by omega) v).cell
      have hfin := Lib.hid (rs_fail hI2 (by omega) (.slice none 0 0) false)
      have hkoo := Lib.hid ((hko.trans (kof hb2)).trans ((KeepsOthers.setCell W2 ⟨w.heap.size + 1 + 1 + 1, 0, none⟩ (.slice none 0 0)).trans (KeepsOthers.setCell _ ⟨w.heap.size + 1 + 1 + 1 + 1, 0, none⟩ (.bool false))))
      clear hI hI1 hI2 hb1 hb2 hko
      gi_wp2
      exact ⟨hkoo.out, rfl, hnone.out, acc, hfin.out⟩
    | true =>
      obtain ⟨v, hv1, hv2, -⟩ := hI1.row
      have cl : ∀ w', Below W1.heap.size W1 w' → w'.cell? ⟨w.heap.size + 1 + 1 + 1 + 1 + 1, 0, none⟩ = some v := fun w' hw' => (boxed_below hv1 hw').cell
      have cm : ∀ w', Below W1.heap.size W1 w' → w'.cell? ⟨w.heap.size, 0, none⟩ = some (.int .i64 8) := fun w' hw' => (boxed_below hI1.most hw').cell
      obtain ⟨o, cap, rfl⟩ : ∃ o cap, v = .slice o acc.length cap := by
        rcases hv2.2 with ⟨rfl, h0⟩ | ⟨g, cap, cur, rfl, -⟩
        · exact ⟨none, 0, by rw [h0]⟩
        · exact ⟨_, _, rfl⟩
      have ck : ∀ w', Below W1.heap.size W1 w' → w'.cell? ⟨w.heap.size + 1 + 1, 0, none⟩ = some (.func (.func 57) #[] #[]) := fun w' hw' => (boxed_below hI1.keyF hw').cell
      have hlen := Lib.hid (readAll_len _ _ hacc).1
      gi_wp2_with fail
      refine StillIn.wpIn_region_class (fun w' => Below W1.heap.size W1 w') (by kernel_rfl) (by kernel_rfl) (by kernel_rfl) (below_drewN (Below.refl _ _) 1) ?_
      iterate 3 (refine StillIn.quiet_take_to (by first | exact StillIn.asked_wide | exact StillIn.asked_wide0 | quiet_asked_in) (by rfl) (fun _ _ => StillIn.quietAt_of_run (by go_simp; rfl)) (by go_simp; rfl) ?_)
      refine StillIn.quiet_take_to StillIn.asked_wide (by rfl) (fun w' hw' => StillIn.quietAt_of_run (by have c := cl w' hw'; go_simp; rfl)) (by go_simp; rfl) ?_
      (refine StillIn.quiet_take_to (by first | exact StillIn.asked_wide | exact StillIn.asked_wide0 | quiet_asked_in) (by rfl) (fun _ _ => StillIn.quietAt_of_run (by go_simp; rfl)) (by go_simp; rfl) ?_)
      refine StillIn.quiet_take_to StillIn.asked_wide (by rfl) (fun w' hw' => StillIn.quietAt_of_run (by have c := cm w' hw'; go_simp; rfl)) (by go_simp; rfl) ?_
      by_cases h8 : acc.length = 8
      · refine StillIn.quiet_take_to (v := .bool true) StillIn.asked_wide (by rfl) (fun w' hw' => StillIn.quietAt_of_run (by go_simp)) (by go_simp; rfl) ?_
        iterate 2 (refine StillIn.quiet_take_to (by first | exact StillIn.asked_wide | exact StillIn.asked_wide0 | quiet_asked_in) (by rfl) (fun _ _ => StillIn.quietAt_of_run (by go_simp; rfl)) (by go_simp; rfl) ?_)
        iterate 17 (refine StillIn.quiet_skip_to (by first | exact StillIn.asked_wide | exact StillIn.asked_wide0 | quiet_asked_in) (by rfl) (by go_simp; rfl) ?_)
        (refine StillIn.quiet_take_to (by first | exact StillIn.asked_wide | exact StillIn.asked_wide0 | quiet_asked_in) (by rfl) (fun _ _ => StillIn.quietAt_of_run (by go_simp; rfl)) (by go_simp; rfl) ?_)
        have hnone : Hid (readAll rdWord keyWord (pre ++ [x]) = none) := by
          show _ = _
          rw [readAll_snoc, hacc]
          show step rdWord keyWord acc x = none
          unfold step rdWord; rw [hwd]; simp [h8]
        refine wpQuietIn_nil ?_
        intro W2 hb2
        have hI2 := rs_below hI1 hb2
        have d3 := hI2.resB.cell
        have f3 := hI2.resB.frozen
        have d4 := hI2.okB.cell
        have f4 := hI2.okB.frozen
        have d4' : ∀ v, (W2.setCell ⟨w.heap.size + 1 + 1 + 1, 0, none⟩ v).cell? ⟨w.heap.size + 1 + 1 + 1 + 1, 0, none⟩ = some (.bool false) := fun v => (hI2.okB.other (by omega) v).cell
        have hfin := Lib.hid (rs_fail hI2 (by omega) (.slice none 0 0) false)
        have hkoo := Lib.hid ((hko.trans (kof hb2)).trans ((KeepsOthers.setCell W2 ⟨w.heap.size + 1 + 1 + 1, 0, none⟩ (.slice none 0 0)).trans (KeepsOthers.setCell _ ⟨w.heap.size + 1 + 1 + 1 + 1, 0, none⟩ (.bool false))))
        clear hI hI1 hI2 hb1 hb2 hko
        gi_wp2
        exact ⟨hkoo.out, rfl, hnone.out, acc, hfin.out⟩
      · refine StillIn.quiet_take_to (v := .bool false) StillIn.asked_wide (by rfl) (fun w' hw' => StillIn.quietAt_of_run (by go_simp; omega)) (by go_simp; rfl) ?_
        iterate 2 (refine StillIn.quiet_take_to (by first | exact StillIn.asked_wide | exact StillIn.asked_wide0 | quiet_asked_in) (by rfl) (fun _ _ => StillIn.quietAt_of_run (by go_simp; rfl)) (by go_simp; rfl) ?_)
        refine StillIn.quiet_take_to StillIn.asked_wide (by rfl) (fun w' hw' => StillIn.quietAt_of_run (by have c := cl w' hw'; go_simp; rfl)) (by go_simp; rfl) ?_
        (refine StillIn.quiet_take_to (by first | exact StillIn.asked_wide | exact StillIn.asked_wide0 | quiet_asked_in) (by rfl) (fun _ _ => StillIn.quietAt_of_run (by go_simp; rfl)) (by go_simp; rfl) ?_)
        cases acc with
        | nil =>
          refine StillIn.quiet_take_to (v := .bool false) StillIn.asked_wide (by rfl) (fun w' hw' => StillIn.quietAt_of_run (by go_simp; try rfl)) (by go_simp; rfl) ?_
          (refine StillIn.quiet_take_to (by first | exact StillIn.asked_wide | exact StillIn.asked_wide0 | quiet_asked_in) (by rfl) (fun _ _ => StillIn.quietAt_of_run (by go_simp; rfl)) (by go_simp; rfl) ?_)
          iterate 12 (refine StillIn.quiet_skip_to (by first | exact StillIn.asked_wide | exact StillIn.asked_wide0 | quiet_asked_in) (by rfl) (by go_simp; rfl) ?_)
          iterate 2 (refine StillIn.quiet_take_to (by first | exact StillIn.asked_wide | exact StillIn.asked_wide0 | quiet_asked_in) (by rfl) (fun _ _ => StillIn.quietAt_of_run (by go_simp; rfl)) (by go_simp; rfl) ?_)
          refine wpQuietIn_nil ?_
          intro W2 hb2
          have hI2 := rs_below hI1 hb2
          have hv' := boxed_below hv1 hb2
          have hr' := ownsRow_below hv2 hb2
          have d3 := hv'.cell
          have hsome : Hid (readAll rdWord keyWord (pre ++ [x]) = some ([] ++ [x])) := by
            show _ = _
            rw [readAll_snoc, hacc]
            show step rdWord keyWord [] x = _
            unfold step rdWord; rw [hwd]; rfl
          have hko2 := Lib.hid (hko.trans (kof hb2))
          have hsz := hI2.low.size
          have hsz2 : w.heap.size + 8 ≤ W2.heap.size := by have := hI2.mark.lt; omega
          obtain ⟨i0, hi, hz0, hz1, hz2⟩ := info_parts infoStr
          have hH := Lib.hid hI2
          have hH0 := Lib.hid hI
          clear hI hI1 hb1 hko hI2
          obtain ⟨xs, hxs⟩ : ∃ xs, encS x = .string xs := ⟨_, rfl⟩
          simp only [hxs]
          gi_wp2_with (gi_at_builtin; refine wpListIn_append_own _ rfl _ _ 58 rfl (w.heap.size + 8) 9 i0 (.string ⟨#[]⟩) 1 16 undStrs hi hz0 hz1 hz2 rfl (by decide) _ _ _ rfl (hr'.alloc _) ⟨W2.heap.size, 0, none⟩ 1 1 [.string xs] rfl rfl ?c1 ?c2 ?c3 ?c4 ?c5 ?c6; (focus exact cell_one_new _ _ _); (focus (simp [Value.oneCell'])); (focus (have := hlen.out; simp only [maxLen]; omega)); (focus (have := hlen.out; omega));  (focus (simp; omega)); intro v' w3 hown' hg3 hnil3; obtain ⟨g', cap', rfl⟩ := ownsRow_succ hown'; obtain ⟨hv1', hk3, hI3⟩ := rs_append x hH.out hv' hr' (by rw [hxs]; exact hown') hg3; have hc1 := hv1'.cell; have hf1 := hv1'.frozen)
          exact ⟨hko2.out.trans hk3, ⟨(hko2.out.trans hk3).walks, hI3.txt.trans hH0.out.txt.symm, hI3.mark.trans hH0.out.mark.symm⟩, _, hsome.out, hI3⟩
        | cons y0 acc =>
          obtain ⟨g, cur, rfl, hg, hcur⟩ := last_cell hv2
          have ce : ∀ w', Below W1.heap.size W1 w' → w'.cell? ⟨g, acc.length, none⟩ = some (encS ((y0 :: acc).getLast (by simp))) := fun w' hw' => by
            have := (hw'.block g (Array.getElem?_eq_some_iff.1 hg).1).trans hg
            simp [World.cell?, this, hcur]
          have hl8 : Hid (acc.length ≤ 7) := by have := hlen.out; simp at this; show _ ≤ _; omega
          have h0 : (0 : Int) < ((y0 :: acc).length : Int) := by simp
          refine StillIn.quiet_take_to (v := .bool true) StillIn.asked_wide (by rfl) (fun w' hw' => StillIn.quietAt_of_run (by go_simp)) (by go_simp; rfl) ?_
          (refine StillIn.quiet_take_to (by first | exact StillIn.asked_wide | exact StillIn.asked_wide0 | quiet_asked_in) (by rfl) (fun _ _ => StillIn.quietAt_of_run (by go_simp; rfl)) (by go_simp; rfl) ?_)
          refine StillIn.quiet_take_to StillIn.asked_wide (by rfl) (fun w' hw' => StillIn.quietAt_of_run (by have c := ck w' hw'; go_simp; rfl)) (by go_simp; rfl) ?_
          (refine StillIn.quiet_take_to (by first | exact StillIn.asked_wide | exact StillIn.asked_wide0 | quiet_asked_in) (by rfl) (fun _ _ => StillIn.quietAt_of_run (by go_simp; rfl)) (by go_simp; rfl) ?_)
          refine StillIn.quiet_take_to StillIn.asked_wide (by rfl) (fun w' hw' => StillIn.quietAt_of_call (by go_simp) (fun _ => by omega) ((callsIn_wide.2 (itself_any x w')).inRound l |>.mono fun e w2 ⟨he, hw2⟩ => ⟨he, by rw [← hw2]; exact hw'⟩)) (by go_simp; rfl) ?_
          refine StillIn.quiet_take_to StillIn.asked_wide (by rfl) (fun w' hw' => StillIn.quietAt_of_run (by have c := ck w' hw'; go_simp; rfl)) (by go_simp; rfl) ?_
          iterate 2 (refine StillIn.quiet_take_to StillIn.asked_wide (by rfl) (fun w' hw' => StillIn.quietAt_of_run (by have c := cl w' hw'; go_simp; rfl)) (by go_simp; rfl) ?_)
          (refine StillIn.quiet_take_to (by first | exact StillIn.asked_wide | exact StillIn.asked_wide0 | quiet_asked_in) (by rfl) (fun _ _ => StillIn.quietAt_of_run (by go_simp; rfl)) (by go_simp; rfl) ?_)
          refine StillIn.quiet_take_to (v := .int .i64 (acc.length : Nat)) StillIn.asked_wide (by rfl) (fun w' hw' => StillIn.quietAt_of_run (by go_simp; exact IntWalk.i64_in _ (by have := hl8.out; omega))) (by go_simp; rfl) ?_
          refine StillIn.quiet_take_to (v := .pointer (some ⟨g, acc.length, none⟩)) StillIn.asked_wide (by rfl) (fun w' hw' => StillIn.quietAt_of_run (by go_simp; intro hh; omega)) (by go_simp; rfl) ?_
          refine StillIn.quiet_take_to StillIn.asked_wide (by rfl) (fun w' hw' => StillIn.quietAt_of_run (by have c := ce w' hw'; go_simp; rfl)) (by go_simp; rfl) ?_
          refine StillIn.quiet_take_to StillIn.asked_wide (by rfl) (fun w' hw' => StillIn.quietAt_of_call (by go_simp) (fun _ => by omega) ((callsIn_wide.2 (itself_any ((y0 :: acc).getLast (by simp)) w')).inRound l |>.mono fun e w2 ⟨he, hw2⟩ => ⟨he, by rw [← hw2]; exact hw'⟩)) (by go_simp; rfl) ?_
          refine StillIn.quiet_take_to (v := .bool (leB x ((y0 :: acc).getLast (by simp)))) StillIn.asked_wide (by rfl) (fun w' hw' => StillIn.quietAt_of_run (by go_simp; rw [leq_any]; go_simp)) (by go_simp; rfl) ?_
          iterate 2 (refine StillIn.quiet_take_to (by first | exact StillIn.asked_wide | exact StillIn.asked_wide0 | quiet_asked_in) (by rfl) (fun _ _ => StillIn.quietAt_of_run (by go_simp; rfl)) (by go_simp; rfl) ?_)
          cases hle : leB x ((y0 :: acc).getLast (by simp)) with
          | true =>
            have hnone : Hid (readAll rdWord keyWord (pre ++ [x]) = none) := by
              show _ = _
              rw [readAll_snoc, hacc]
              show step rdWord keyWord (y0 :: acc) x = none
              unfold step rdWord; rw [hwd]; simp only [if_true]
              rw [if_neg h8, List.getLast?_eq_some_getLast (by simp)]
              simp only [keyWord, hle, if_true]
            refine wpQuietIn_nil ?_
            intro W2 hb2
            have hI2 := rs_below hI1 hb2
            have d3 := hI2.resB.cell
            have f3 := hI2.resB.frozen
            have d4 := hI2.okB.cell
            have f4 := hI2.okB.frozen
            have d4' : ∀ v, (W2.setCell ⟨w.heap.size + 1 + 1 + 1, 0, none⟩ v).cell? ⟨w.heap.size + 1 + 1 + 1 + 1, 0, none⟩ = some (.bool false) := fun v => (hI2.okB.other (by omega) v).cell
            have hfin := Lib.hid (rs_fail hI2 (by omega) (.slice none 0 0) false)
            have hkoo := Lib.hid ((hko.trans (kof hb2)).trans ((KeepsOthers.setCell W2 ⟨w.heap.size + 1 + 1 + 1, 0, none⟩ (.slice none 0 0)).trans (KeepsOthers.setCell _ ⟨w.heap.size + 1 + 1 + 1 + 1, 0, none⟩ (.bool false))))
            clear hI hI1 hI2 hb1 hb2 hko
            gi_wp2
            exact ⟨hkoo.out, rfl, hnone.out, _, hfin.out⟩
          | false =>
            refine wpQuietIn_nil ?_
            intro W2 hb2
            have hI2 := rs_below hI1 hb2
            have hv' := boxed_below hv1 hb2
            have hr' := ownsRow_below hv2 hb2
            have d3 := hv'.cell
            have hsome : Hid (readAll rdWord keyWord (pre ++ [x]) = some ((y0 :: acc) ++ [x])) := by
              show _ = _
              rw [readAll_snoc, hacc]
              show step rdWord keyWord (y0 :: acc) x = _
              unfold step rdWord; rw [hwd]; simp only [if_true]
              rw [if_neg h8, List.getLast?_eq_some_getLast (by simp)]
              simp [keyWord, hle]
            have hko2 := Lib.hid (hko.trans (kof hb2))
            have hsz := hI2.low.size
            have hsz2 : w.heap.size + 8 ≤ W2.heap.size := by have := hI2.mark.lt; omega
            obtain ⟨i0, hi, hz0, hz1, hz2⟩ := info_parts infoStr
            have hH := Lib.hid hI2
            have hH0 := Lib.hid hI
            clear hI hI1 hb1 hko hI2
            obtain ⟨xs, hxs⟩ : ∃ xs, encS x = .string xs := ⟨_, rfl⟩
            simp only [hxs]
            gi_wp2_with (gi_at_builtin; refine wpListIn_append_own _ rfl _ _ 58 rfl (w.heap.size + 8) 9 i0 (.string ⟨#[]⟩) 1 16 undStrs hi hz0 hz1 hz2 rfl (by decide) _ _ _ rfl (hr'.alloc _) ⟨W2.heap.size, 0, none⟩ 1 1 [.string xs] rfl rfl ?d1 ?d2 ?d3 ?d4 ?d5 ?d6; (focus exact cell_one_new _ _ _); (focus (simp [Value.oneCell'])); (focus (have := hlen.out; simp only [maxLen]; omega)); (focus (have := hlen.out; omega));  (focus (simp; omega)); intro v' w3 hown' hg3 hnil3; obtain ⟨g', cap', rfl⟩ := ownsRow_succ hown'; obtain ⟨hv1', hk3, hI3⟩ := rs_append x hH.out hv' hr' (by rw [hxs]; exact hown') hg3; have hc1 := hv1'.cell; have hf1 := hv1'.frozen)
            exact ⟨hko2.out.trans hk3, ⟨(hko2.out.trans hk3).walks, hI3.txt.trans hH0.out.txt.symm, hI3.mark.trans hH0.out.mark.symm⟩, _, hsome.out, hI3⟩
  case done =>
    rintro l xs W hle rfl ⟨acc, hacc, hI⟩ hrec
    obtain ⟨v, hv1, hv2, -⟩ := hI.row
    obtain ⟨o, cap, rfl⟩ : ∃ o cap, v = .slice o acc.length cap := by
      rcases hv2.2 with ⟨rfl, h0⟩ | ⟨g, cap, cur, rfl, -⟩
      · exact ⟨none, 0, by rw [h0]⟩
      · exact ⟨_, _, rfl⟩
    have d5 := hv1.cell
    have d3 := hI.resB.cell
    have d4' : ∀ v, (W.setCell ⟨w.heap.size + 1 + 1 + 1, 0, none⟩ v).cell? ⟨w.heap.size + 1 + 1 + 1 + 1, 0, none⟩ = some (.bool false) := fun v => (hI.okB.other (by omega) v).cell
    have f4' : ∀ v, (W.setCell ⟨w.heap.size + 1 + 1 + 1, 0, none⟩ v).frozen? ⟨w.heap.size + 1 + 1 + 1 + 1, 0, none⟩ = false := fun v => (hI.okB.other (by omega) v).frozen
    have f3 := hI.resB.frozen
    have d4 := hI.okB.cell
    have f4 := hI.okB.frozen
    have hS := rs_fail hI (by omega) (.slice o acc.length cap) true
    have hrec' := ((KeepsOthers.setCell W ⟨w.heap.size + 1 + 1 + 1, 0, none⟩ (.slice o acc.length cap)).trans (KeepsOthers.setCell _ ⟨w.heap.size + 1 + 1 + 1 + 1, 0, none⟩ (.bool true))).same l _ hrec rfl
    have hP := Lib.hid ((rs_own (B := w.heap.size + 8) (by omega)).putObj (.deferred none) hS (by omega) hrec' rfl)
    have hR := Lib.hid hrec'
    have hA := Lib.hid hacc
    have hv := Lib.hid ((hv2.kept (grownBy_setCell' W (w.heap.size + 1 + 1 + 1) (.slice o acc.length cap)) (.inr (ownBlock_ge hv2 (by omega)).symm)).kept (grownBy_setCell' _ (w.heap.size + 1 + 1 + 1 + 1) (.bool true)) (.inr (ownBlock_ge hv2 (by omega)).symm))
    clear hS hrec' hacc hI0
    gi_wp2
    refine ⟨by simp, .inl ⟨_, _, rfl, run_takeDeferred hR.out, ?_⟩⟩
    have c1 := hP.out.resB.cell
    have c2 := hP.out.okB.cell
    refine ⟨.tuple #[.slice o acc.length cap, .bool true], ?_, hP.out.low, ?_⟩
    · simp [results, Try.f65, go_sem, c1, c2]
    · rw [hA.out]
      exact ⟨_, rfl, ownsRow_putObj hv.out _ hR.out rfl⟩
  case stop =>
    rintro l c pre W hle hpre ⟨rfl, hnone, acc, hI⟩ hrec
    have hn2 := Lib.hid (readAll_none _ _ hpre hnone)
    have hP := Lib.hid ((rs_own (B := w.heap.size + 8) (by omega)).putObj (.deferred none) hI (by omega) hrec rfl)
    clear hI hI0
    gi_wp2
    refine ⟨by simp, .inl ⟨_, _, rfl, run_takeDeferred hrec, ?_⟩⟩
    have c1 := hP.out.resB.cell
    have c2 := hP.out.okB.cell
    refine ⟨.tuple #[.slice none 0 0, .bool false], ?_, hP.out.low, ?_⟩
    · simp [results, Try.f65, go_sem, c1, c2]
    · rw [hn2.out]
end Go.Proofs.Ytneogmcmkbhnaaa.T
