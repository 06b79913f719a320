/- topo.readTerm, topo.termKey. Laid by hand. -/
import Derived.Test.YtneogmcmkbhnaaaTLabel
namespace Go.Proofs.Ytneogmcmkbhnaaa.T
open Go.RowKit Go.Lib

/-- A term's cells, and its block. -/
def cellsT (k : List UInt8) (v : Value) : Array Value := #[encS k, v]
abbrev noV : Value := .slice none 0 0
def BoxT (W : World) (b : Nat) (k : List UInt8) (v : Value) : Prop := W.heap[b]? = some (.cells (cellsT k v) 60 (0, 0))
theorem undTerm : Try.prog.underlying 60 = some (.struct (Try.prog.fieldsOf 60)) := by kernel_rfl
theorem sizeTerm : (Try.prog.info? 60).map (·.size) = some 2 := by kernel_rfl
theorem one_cellsT (k : List UInt8) {o : Option Addr} {n c : Nat} : (cellsT k (.slice o n c)).all (·.oneCell') = true := by simp [cellsT, encS, Value.oneCell']
theorem BoxT.lt {W : World} {b : Nat} {k : List UInt8} {v : Value} (h : BoxT W b k v) : b < W.heap.size := (Array.getElem?_eq_some_iff.1 h).1
theorem BoxT.after {W W1 : World} {b : Nat} {k : List UInt8} {v : Value} (h : BoxT W b k v) (hb : Below W.heap.size W W1) : BoxT W1 b k v := (hb.block b h.lt).trans h
theorem BoxT.setRow {W : World} {b : Nat} {k : List UInt8} {v : Value} (h : BoxT W b k v) (k' : List UInt8) (v' : Value) : BoxT (W.setRow b (cellsT k' v')) b k' v' := setRow_heap W b _ _ _ _ h
theorem load_term {W : World} {b : Nat} {k : List UInt8} {v : Value} (h : BoxT W b k v) : (loadVar 60 ⟨b, 0, none⟩).run Try.prog W = .ok (.agg (cellsT k v)) W := run_loadVar_row W b 60 60 (cellsT k v) (0, 0) _ h undTerm rfl sizeTerm
theorem grownBy_setRow (W : World) (b : Nat) (cs : Array Value) : W.grownBy (W.setRow b cs) (some b) :=
  have h := below_setRow (Below.refl b W) (Nat.le_refl b) cs
  ⟨h.os, h.tape, h.output, h.size, fun k _ hk => setRow_other W b k cs (fun e => hk (by rw [e]))⟩
/-- What is read of a term. -/
def rdTerm (l : List UInt8) : Option (List UInt8 × List (List UInt8)) := (cutEq l).bind fun x => if wordB x.1 = true then (readAll rdWord keyWord (splitOn 124 x.2)).map fun vs => (x.1, vs) else none
/-- What readTerm answers. -/
def TermPost (w : World) (r : Option (List UInt8 × List (List UInt8))) (e : Ending) (W' : World) : Prop := Below w.heap.size w W' ∧ match r with
  | none => e = .returned (.tuple #[.agg (cellsT [] noV), .bool false])
  | some x => ∃ v, e = .returned (.tuple #[.agg (cellsT x.1 v), .bool true]) ∧ W'.ownsRow w.heap.size 9 1 v x.2.length (x.2.map encS)
theorem readStrs_enc (l : List UInt8) (hl : l.length ≤ 9223372036854775807) (m : UInt8) (hm : m.toNat < 128) (n : Int) (hn : n = m.toNat) (w : World) :
    Calls Try.prog 65 #[encS l, .int .i32 n, .int .i64 8, .func (.func 56) #[] #[], .func (.func 57) #[] #[]] w
      (ReadPost w (readAll rdWord keyWord (splitOn m l))) := by
  obtain ⟨s, rfl⟩ : ∃ s : ByteArray, l = s.data.toList := ⟨⟨l.toArray⟩, rfl⟩
  rw [encS_self, hn]
  exact callsIn_wide.1 (readStrs_in s (by rw [← size_list]; exact hl) m hm w)

set_option maxRecDepth 100000 in
set_option maxHeartbeats 2000000 in
theorem readTerm_none (l : List UInt8) (hl : l.length ≤ 9223372036854775807) (w : World) (HP : Hid (pairV l = .tuple #[encS [], encS [], .bool false])) (HR : Hid (rdTerm l = none)) :
    Calls Try.prog 40 #[encS l] w (TermPost w (rdTerm l)) := by
  go_enter Try.func40, Try.ntmps40
  go_upto_region 1 with (fail)
  refine wp_gen (fun W => BoxT W w.heap.size [] noV ∧ Below w.heap.size w W) ⟨heap_alloc_new w _, (Below.refl _ _).alloc (Nat.le_refl _) _⟩ ?_
  rintro W0 ⟨hb, hlow⟩
  go_wp2_with fail
  refine (pair_any l hl _).mono ?_
  rintro e W1 ⟨rfl, hb1⟩
  rw [HP.out]
  replace hb := hb.after hb1
  replace hlow := hlow.trans (hb1.mono hlow.size)
  clear hb1
  go_wp2_with ((with_reducible refine wpList_store_rowTo rfl 60 _ _ rfl rfl w.heap.size (cellsT [] noV) ?_ ?_ 60 (cellsT [] noV) ?_ ?_ ?_ ?_ ?_); rfl; rfl; exact hb; exact sizeTerm; exact rfl; exact one_cellsT _)
  refine bodyPost_ret (results_ct rfl rfl rfl (load_term (hb.setRow [] noV))) rfl ?_
  rw [HR.out]
  exact ⟨below_setRow hlow (Nat.le_refl _) _, rfl⟩
set_option maxRecDepth 100000 in
set_option maxHeartbeats 2000000 in
theorem readTerm_key (l : List UInt8) (hl : l.length ≤ 9223372036854775807) (w : World) (a b : List UInt8) (HP : Hid (pairV l = .tuple #[encS a, encS b, .bool true])) (HA : Hid (wordB a = false)) (HR : Hid (rdTerm l = none)) :
    Calls Try.prog 40 #[encS l] w (TermPost w (rdTerm l)) := by
  go_enter Try.func40, Try.ntmps40
  go_upto_region 1 with (fail)
  refine wp_gen (fun W => BoxT W w.heap.size [] noV ∧ Below w.heap.size w W) ⟨heap_alloc_new w _, (Below.refl _ _).alloc (Nat.le_refl _) _⟩ ?_
  rintro W0 ⟨hb, hlow⟩
  go_wp2_with fail
  refine (pair_any l hl _).mono ?_
  rintro e W1 ⟨rfl, hb1⟩
  rw [HP.out]
  replace hb := hb.after hb1
  replace hlow := hlow.trans (hb1.mono hlow.size)
  clear hb1
  go_wp2_with fail
  refine (word_enc a _).mono ?_
  rintro e W2 ⟨rfl, hb1⟩
  rw [HA.out]
  replace hb := hb.after hb1
  replace hlow := hlow.trans (hb1.mono hlow.size)
  clear hb1
  go_wp2_with ((with_reducible refine wpList_store_rowTo rfl 60 _ _ rfl rfl w.heap.size (cellsT [] noV) ?_ ?_ 60 (cellsT [] noV) ?_ ?_ ?_ ?_ ?_); rfl; rfl; exact hb; exact sizeTerm; exact rfl; exact one_cellsT _)
  refine bodyPost_ret (results_ct rfl rfl rfl (load_term (hb.setRow [] noV))) rfl ?_
  rw [HR.out]
  exact ⟨below_setRow hlow (Nat.le_refl _) _, rfl⟩
set_option maxRecDepth 100000 in
set_option maxHeartbeats 2000000 in
theorem readTerm_values (l : List UInt8) (hl : l.length ≤ 9223372036854775807) (w : World) (a b : List UInt8) (HP : Hid (pairV l = .tuple #[encS a, encS b, .bool true])) (hlb : b.length ≤ 9223372036854775807) (HA : Hid (wordB a = true)) (HV : Hid (readAll rdWord keyWord (splitOn 124 b) = none)) (HR : Hid (rdTerm l = none)) :
    Calls Try.prog 40 #[encS l] w (TermPost w (rdTerm l)) := by
  go_enter Try.func40, Try.ntmps40
  go_upto_region 1 with (fail)
  refine wp_gen (fun W => BoxT W w.heap.size [] noV ∧ Below w.heap.size w W) ⟨heap_alloc_new w _, (Below.refl _ _).alloc (Nat.le_refl _) _⟩ ?_
  rintro W0 ⟨hb, hlow⟩
  go_wp2_with fail
  refine (pair_any l hl _).mono ?_
  rintro e W1 ⟨rfl, hb1⟩
  rw [HP.out]
  replace hb := hb.after hb1
  replace hlow := hlow.trans (hb1.mono hlow.size)
  clear hb1
  go_wp2_with fail
  refine (word_enc a _).mono ?_
  rintro e W2 ⟨rfl, hb1⟩
  rw [HA.out]
  replace hb := hb.after hb1
  replace hlow := hlow.trans (hb1.mono hlow.size)
  clear hb1
  go_wp2_with fail
  refine (readStrs_enc b hlb 124 (by decide) 124 rfl _).mono ?_
  rintro e W3 ⟨hb1, hr⟩
  rw [HV.out] at hr
  obtain rfl := hr
  replace hb := hb.after hb1
  replace hlow := hlow.trans (hb1.mono hlow.size)
  clear hb1
  go_wp2_with ((with_reducible refine wpList_store_rowTo rfl 60 _ _ rfl rfl w.heap.size (cellsT [] noV) ?_ ?_ 60 (cellsT [] noV) ?_ ?_ ?_ ?_ ?_); rfl; rfl; exact hb; exact sizeTerm; exact rfl; exact one_cellsT _)
  refine bodyPost_ret (results_ct rfl rfl rfl (load_term (hb.setRow [] noV))) rfl ?_
  rw [HR.out]
  exact ⟨below_setRow hlow (Nat.le_refl _) _, rfl⟩
set_option maxRecDepth 100000 in
set_option maxHeartbeats 2000000 in
theorem readTerm_all (l : List UInt8) (hl : l.length ≤ 9223372036854775807) (w : World) (a b : List UInt8) (HP : Hid (pairV l = .tuple #[encS a, encS b, .bool true])) (hlb : b.length ≤ 9223372036854775807) (vs : List (List UInt8)) (HA : Hid (wordB a = true)) (HV : Hid (readAll rdWord keyWord (splitOn 124 b) = some vs)) (HR : Hid (rdTerm l = some (a, vs))) :
    Calls Try.prog 40 #[encS l] w (TermPost w (rdTerm l)) := by
  go_enter Try.func40, Try.ntmps40
  go_upto_region 1 with (fail)
  refine wp_gen (fun W => BoxT W w.heap.size [] noV ∧ Below w.heap.size w W) ⟨heap_alloc_new w _, (Below.refl _ _).alloc (Nat.le_refl _) _⟩ ?_
  rintro W0 ⟨hb, hlow⟩
  go_wp2_with fail
  refine (pair_any l hl _).mono ?_
  rintro e W1 ⟨rfl, hb1⟩
  rw [HP.out]
  replace hb := hb.after hb1
  replace hlow := hlow.trans (hb1.mono hlow.size)
  clear hb1
  go_wp2_with fail
  refine (word_enc a _).mono ?_
  rintro e W2 ⟨rfl, hb1⟩
  rw [HA.out]
  replace hb := hb.after hb1
  replace hlow := hlow.trans (hb1.mono hlow.size)
  clear hb1
  go_wp2_with fail
  refine (readStrs_enc b hlb 124 (by decide) 124 rfl _).mono ?_
  rintro e W3 ⟨hb1, hr⟩
  rw [HV.out] at hr
  obtain ⟨v, rfl, hrow⟩ := hr
  have hlt := hb.lt
  have hrow2 := ownsRow_base hrow (n0 := w.heap.size) (by omega)
  have hne := ownBlock_ge hrow (j := w.heap.size) (by omega)
  obtain ⟨o, n, c, rfl⟩ : ∃ o n c, v = .slice o n c := by
    rcases hrow.2 with ⟨rfl, -⟩ | ⟨g, cap, cur, rfl, -⟩
    · exact ⟨none, 0, 0, rfl⟩
    · exact ⟨_, _, _, rfl⟩
  replace hb := hb.after hb1
  replace hlow := hlow.trans (hb1.mono hlow.size)
  have hfin := Lib.hid (hrow2.kept (grownBy_setRow W3 w.heap.size (cellsT a (.slice o n c))) (.inr hne.symm))
  clear hb1 hrow hrow2 hne
  unfold encS
  go_wp2_with ((with_reducible refine wpList_store_rowTo rfl 60 _ _ rfl rfl w.heap.size (cellsT a (.slice o n c)) ?_ ?_ 60 (cellsT [] noV) ?_ ?_ ?_ ?_ ?_); rfl; rfl; exact hb; exact sizeTerm; exact rfl; exact one_cellsT _)
  refine bodyPost_ret (results_ct rfl rfl rfl (load_term (hb.setRow a (.slice o n c)))) rfl ?_
  rw [HR.out]
  exact ⟨below_setRow hlow (Nat.le_refl _) _, _, rfl, hfin.out⟩
theorem readTerm_any (l : List UInt8) (hl : l.length ≤ 9223372036854775807) (w : World) :
    Calls Try.prog 40 #[encS l] w (TermPost w (rdTerm l)) := by
  cases hc : cutEq l with
  | none => exact readTerm_none l hl w (by show _ = _; unfold pairV; rw [hc]) (by show _ = _; unfold rdTerm; rw [hc]; rfl)
  | some x =>
    have hx := cutEq_len hc
    obtain ⟨a, b⟩ := x
    have hp : Hid (pairV l = .tuple #[encS a, encS b, .bool true]) := by show _ = _; unfold pairV; rw [hc]
    have hlb : b.length ≤ 9223372036854775807 := Nat.le_trans hx.2 hl
    cases ha : wordB a with
    | false => exact readTerm_key l hl w a b hp ha (by show _ = _; unfold rdTerm; rw [hc]; simp [ha])
    | true =>
      cases hv : readAll rdWord keyWord (splitOn 124 b) with
      | none => exact readTerm_values l hl w a b hp hlb ha hv (by show _ = _; unfold rdTerm; rw [hc]; simp [ha, hv])
      | some vs => exact readTerm_all l hl w a b hp hlb vs ha hv (by show _ = _; unfold rdTerm; rw [hc]; simp [ha, hv])
end Go.Proofs.Ytneogmcmkbhnaaa.T
