/- What is done behind a call for a claim that grows, or for a snapshot. -/
import Derived.Test.YtijgieefmnmakaaDoorDDel
import Derived.Test.YtijgieefmnmakaaDoorKActEq
namespace Go.Proofs.YtijgieefmnmakaaDoor.O.B
open Go Go.RowKit Go.Shelf Go.Lib RangeMap KM
attribute [local go_sem] Oper.semAt_some

theorem snapAll_any (l : List Obj) (v : Value) (ver : Int) (n : ByteArray) (w : World) (hl : ObjsIn w v l) (ht : Tab w) (hall : ∀ s ∈ l, (0 ≤ s.born ∧ s.born ≤ 18446744073709551615) ∧ s.name.size ≤ 140737488351232) :
    Calls Tryd.prog 18 #[v, .int .u64 ver, .string n] w fun e w' => e = .returned (encA (snapD l ver n)) ∧ Below w.heap.size w w' := by
  unfold snapD
  cases hs : getL l 7 n with
  | none => exact snapD_none l v ver n w hl hs
  | some s =>
    by_cases hh : handleD s = E0
    · simp only [if_pos hh]
      exact snapD_long l v ver n w hl ht hall s hs hh
    · simp only [if_neg hh]
      cases hd : s.deleting with
      | false => exact snapD_go l v ver n w hl ht hall s hs hh hd
      | true => exact snapD_del l v ver n w hl ht hall s hs hh hd

/-- What a call came to. -/
structure Rs where
  err : Int
  size : Int
  zone : ByteArray
  tag : Int
def encR (r : Rs) : Value := .agg #[.int .i64 r.err, .int .i64 r.size, .string r.zone, .int .u64 r.tag]
def BoxR (W : World) (b : Nat) (r : Rs) : Prop := W.heap[b]? = some (.cells #[.int .i64 r.err, .int .i64 r.size, .string r.zone, .int .u64 r.tag] 44 (0, 0))
def BoxK (W : World) (b : Nat) (k : Int) (n : ByteArray) : Prop := W.heap[b]? = some (.cells #[.int .u8 k, .string n] 41 (0, 0))
theorem BoxR.after {W W' : World} {b : Nat} {r : Rs} (h : BoxR W b r) (hb : Below W.heap.size W W') : BoxR W' b r := (hb.block b (Array.getElem?_eq_some_iff.1 h).1).trans h
theorem BoxK.after {W W' : World} {b : Nat} {k : Int} {n : ByteArray} (h : BoxK W b k n) (hb : Below W.heap.size W W') : BoxK W' b k n := (hb.block b (Array.getElem?_eq_some_iff.1 h).1).trans h
theorem BoxC.after {W W' : World} {b : Nat} {c : Cl} (h : BoxC W b c) (hb : Below W.heap.size W W') : BoxC W' b c := (hb.block b (Array.getElem?_eq_some_iff.1 h).1).trans h
theorem undKey : Tryd.prog.underlying 41 = some (.struct (Tryd.prog.fieldsOf 41)) := by kernel_rfl
theorem sizeKey : (Tryd.prog.info? 41).map (·.size) = some 2 := by kernel_rfl
theorem load_key {W : World} {b : Nat} {k : Int} {n : ByteArray} (h : BoxK W b k n) {oi : Oper} {a : Act} {x : Operand} (ho : oi.op = .load 41 x) (hx : a.eval x = .pointer (some ⟨b, 0, none⟩)) :
    (execOp a.eval oi).run Tryd.prog W = .ok (.value (encK k n)) W := by
  unfold execOp
  simp only [ho, hx, Instr.loadAt, Instr.sureAddr, Sem.run_bind, Sem.run_pure, Result.andThen_ok, run_loadVar_row W b 41 41 _ (0, 0) _ h undKey rfl sizeKey]
  rfl
theorem exec_neq_act {W : World} {A B : Ac} {oi : Oper} {a : Act} {x y : Operand} {t : TypeId} (ho : oi.op = .binOp .neq 36 x y t) (hx : a.eval x = encA A) (hy : a.eval y = encA B) :
    (execOp a.eval oi).run Tryd.prog W = .ok (.value (.bool (!decide (A = B)))) W := by
  have h := neq_act A B W
  have hg : (eqGuard .neq 36 x y (encA A) (encA B)).run Tryd.prog W = .ok () W := by kernel_rfl
  unfold execOp
  simp only [ho, hx, hy, Sem.run_bind, Result.andThen_ok, hg, h]
  rfl
theorem chain4 (w : World) (a b c d : Go.Obj) : ((((w.alloc a).alloc b).alloc c).alloc d).heap[w.heap.size]? = some a ∧ ((((w.alloc a).alloc b).alloc c).alloc d).heap[w.heap.size + 1]? = some b ∧ ((((w.alloc a).alloc b).alloc c).alloc d).heap[w.heap.size + 1 + 1]? = some c ∧
    ((((w.alloc a).alloc b).alloc c).alloc d).heap[w.heap.size + 1 + 1 + 1]? = some d ∧ Below w.heap.size w ((((w.alloc a).alloc b).alloc c).alloc d) := by
  obtain ⟨h1, h2, h3, h4⟩ := chain3 w a b c
  have s3 : (((w.alloc a).alloc b).alloc c).heap.size = w.heap.size + 1 + 1 + 1 := by rw [World.size_alloc, World.size_alloc, World.size_alloc]
  refine ⟨(Below.heap_alloc _ d _ (by omega)).trans h1, (Below.heap_alloc _ d _ (by omega)).trans h2, (Below.heap_alloc _ d _ (by omega)).trans h3, ?_, h4.alloc (by omega) _⟩
  rw [← s3]
  exact heap_alloc_new _ d

def nextD (l : List Obj) (ver k : Int) (n : ByteArray) : Ac := if k = 3 then claimD l ver n else if k = 7 then snapD l ver n else nothing
def askedN (l : List Obj) (k : Int) (n : ByteArray) (c : Cl) : Obj := (if k = 3 then getL l 4 c.target else getL l k n).getD O0
def behindN (o : Obj) (next : Int) (c : Cl) (r : Rs) : Ac :=
  if r.err = 9 then writeA { o with num := next }
  else if r.err = 0 then (if c.verb = 5 then writeA { o with got := r.size, num := 0 } else if c.verb = 6 then writeA { o with phase := 11, tag := r.tag, got := r.size, num := 0 } else if c.verb = 7 then removeA o else nothing)
  else if r.err = 5 then (if c.verb = 6 then writeA { o with phase := 1, volume := E0 } else nothing) else nothing
def afterD (l : List Obj) (ver k : Int) (n : ByteArray) (c : Cl) (r : Rs) : Ac := if nextD l ver k n = askA c then behindN (askedN l k n c) (up ver) c r else nothing


set_option maxRecDepth 100000 in
set_option maxHeartbeats 2000000 in
theorem next_any (l : List Obj) (v : Value) (ver k : Int) (n : ByteArray) (w : World) (hl : ObjsIn w v l) (ht : Tab w) (hall : ∀ s ∈ l, (0 ≤ s.born ∧ s.born ≤ 18446744073709551615) ∧ s.name.size ≤ 140737488351232) :
    Calls Tryd.prog 36 #[v, .int .u64 ver, encK k n] w fun e w' => e = .returned (encA (nextD l ver k n)) ∧ Below w.heap.size w w' := by
  obtain ⟨o, cp, rfl, -, -⟩ := id hl
  have HL := Lib.hid hl
  have HT := Lib.hid ht
  have HSN := Lib.hid (fun V (hV : ObjsIn V (.slice o l.length cp) l) (hT : Tab V) => snapAll_any l _ ver n V hV hT hall)
  have HCL := Lib.hid (fun V (hV : ObjsIn V (.slice o l.length cp) l) => claimD_any l _ ver n V hV)
  clear hl ht hall
  unfold nextD
  generalize claimD l ver n = A at *
  generalize snapD l ver n = B at *
  obtain ⟨x, hx⟩ : ∃ x, (if k = 3 then A else if k = 7 then B else nothing) = x := ⟨_, rfl⟩
  rw [hx]
  have HXX := Lib.hid hx
  clear hx
  unfold encK
  go_enter Tryd.func36, Tryd.ntmps36
  go_upto_region 1 with (fail)
  refine wp_gen (fun V => BoxK V w.heap.size k n ∧ BoxA V (w.heap.size + 1) nothing ∧ Below w.heap.size w V) (chain2 w _ _) ?_
  rintro V ⟨hk, ho, hlw⟩
  have k0 : V.cell? ⟨w.heap.size, 0, none⟩ = some (.int .u8 k) := (cell_of_row V _ 0 _ _ _ hk).trans rfl
  have k1 : V.cell? ⟨w.heap.size, 1, none⟩ = some (.string n) := (cell_of_row V _ 1 _ _ _ hk).trans rfl
  have HO := Lib.hid ho
  have HW := Lib.hid hlw
  have HA := Lib.hid (HCL.out V (HL.out.after hlw))
  have HB := Lib.hid (HSN.out V (HL.out.after hlw) (HT.out.after hlw))
  clear hk ho hlw HSN HCL HL HT
  by_cases h3 : k = 3
  · have e3 : (k == 3) = true := by simpa using h3
    have HVV : Hid (x = A) := HXX.out.symm.trans (if_pos h3)
    clear HXX h3 HB
    go_wp2_with (fail)
    refine HA.out.mono ?_
    rintro e W6 ⟨rfl, hb6⟩
    obtain ⟨V8, hst8, ho8, -, hb8⟩ := acting (HO.out.after hb6) A
    have HO8 := Lib.hid ho8
    have HX8 := Lib.hid (hb8 _ _ (HW.out.trans (hb6.mono HW.out.size)) (by omega))
    clear ho8 hb8 HA HO HW hb6
    go_wp2_with (refine wpList_skip rfl (hst8 rfl rfl rfl) ?_)
    refine bodyPost_ret (v := encA A) (results_cell_row rfl _ _ (w.heap.size + 1) 36 (cellsA A) (0, 0) _ rfl HO8.out undAct rfl sizeAct) rfl ?_
    exact ⟨by rw [HVV.out], HX8.out⟩
  · have e3 : (k == 3) = false := by simpa using h3
    have hxx := HXX.out.symm.trans (if_neg h3)
    clear HXX h3 HA
    by_cases h7 : k = 7
    · have e7 : (k == 7) = true := by simpa using h7
      have HVV : Hid (x = B) := hxx.trans (if_pos h7)
      clear hxx h7
      go_wp2_with (fail)
      refine HB.out.mono ?_
      rintro e W6 ⟨rfl, hb6⟩
      obtain ⟨V8, hst8, ho8, -, hb8⟩ := acting (HO.out.after hb6) B
      have HO8 := Lib.hid ho8
      have HX8 := Lib.hid (hb8 _ _ (HW.out.trans (hb6.mono HW.out.size)) (by omega))
      clear ho8 hb8 HB HO HW hb6
      go_wp2_with (refine wpList_skip rfl (hst8 rfl rfl rfl) ?_)
      refine bodyPost_ret (v := encA B) (results_cell_row rfl _ _ (w.heap.size + 1) 36 (cellsA B) (0, 0) _ rfl HO8.out undAct rfl sizeAct) rfl ?_
      exact ⟨by rw [HVV.out], HX8.out⟩
    · have e7 : (k == 7) = false := by simpa using h7
      have HVV : Hid (x = nothing) := hxx.trans (if_neg h7)
      clear hxx h7
      obtain ⟨V8, hst8, ho8, -, hb8⟩ := acting HO.out nothing
      have HO8 := Lib.hid ho8
      have HX8 := Lib.hid (hb8 _ _ HW.out (by omega))
      clear ho8 hb8 HB HO HW
      go_wp2_with (refine wpList_skip rfl (hst8 rfl rfl rfl) ?_)
      refine bodyPost_ret (v := encA nothing) (results_cell_row rfl _ _ (w.heap.size + 1) 36 (cellsA nothing) (0, 0) _ rfl HO8.out undAct rfl sizeAct) rfl ?_
      exact ⟨by rw [HVV.out], HX8.out⟩

set_option maxRecDepth 100000 in
set_option maxHeartbeats 2000000 in
theorem asked_any (l : List Obj) (v : Value) (k : Int) (n : ByteArray) (c : Cl) (w : World) (hl : ObjsIn w v l) :
    Calls Tryd.prog 37 #[v, encK k n, encC c] w fun e w' => e = .returned (encO (askedN l k n c)) ∧ Below w.heap.size w w' := by
  obtain ⟨o, cp, rfl, -, -⟩ := id hl
  have HL := Lib.hid hl
  clear hl
  by_cases h3 : k = 3
  · have e3 : (k == 3) = true := by simpa using h3
    obtain ⟨r, hr⟩ : ∃ r, getL l 4 c.target = r := ⟨_, rfl⟩
    have hv : askedN l k n c = r.getD O0 := by unfold askedN; rw [if_pos h3, hr]
    have HG : Hid (∀ V : World, ObjsIn V (.slice o l.length cp) l → Calls Tryd.prog 34 #[.slice o l.length cp, .int .u8 4, .string c.target] V fun e w' => e = .returned (.tuple #[encO (r.getD O0), .bool r.isSome]) ∧ Below V.heap.size V w') := fun V hV => by
      rw [← hr]
      exact get_any l _ 4 _ V hV
    rw [hv]
    clear hv hr h3
    unfold encK encC
    go_enter Tryd.func37, Tryd.ntmps37
    go_upto_region 1 with (fail)
    refine wp_gen (fun V => BoxK V w.heap.size k n ∧ BoxC V (w.heap.size + 1) c ∧ BoxO V (w.heap.size + 1 + 1) O0 ∧ Below w.heap.size w V) (chain3 w _ _ _) ?_
    rintro V ⟨hk, hc, ho, hlw⟩
    have k0 : V.cell? ⟨w.heap.size, 0, none⟩ = some (.int .u8 k) := (cell_of_row V _ 0 _ _ _ hk).trans rfl
    have k1 : V.cell? ⟨w.heap.size, 1, none⟩ = some (.string n) := (cell_of_row V _ 1 _ _ _ hk).trans rfl
    have f0 : V.frozen? ⟨w.heap.size, 0, none⟩ = false := frozen_of_row V _ 0 _ _ hk
    have f1 : V.frozen? ⟨w.heap.size, 1, none⟩ = false := frozen_of_row V _ 1 _ _ hk
    have c1 : V.cell? ⟨w.heap.size + 1, 1, none⟩ = some (.string c.target) := (cell_of_row V _ 1 _ _ _ hc).trans rfl
    have HK := Lib.hid hk
    have HO := Lib.hid ho
    have HW := Lib.hid hlw
    clear hk hc ho hlw
    go_upto_region 3 with (fail)
    refine wp_gen (fun V => BoxK V w.heap.size 4 c.target ∧ BoxO V (w.heap.size + 1 + 1) O0 ∧ Below w.heap.size w V) ?_ ?_
    · exact ⟨heap_setCell_same _ w.heap.size 1 _ 41 (.string c.target) (heap_setCell_same V w.heap.size 0 _ 41 (.int .u8 4) HK.out), (heap_setCell_other _ ⟨w.heap.size, 1, none⟩ (w.heap.size + 1 + 1) _ (by show w.heap.size + 1 + 1 ≠ w.heap.size; omega)).trans ((heap_setCell_other _ ⟨w.heap.size, 0, none⟩ (w.heap.size + 1 + 1) _ (by show w.heap.size + 1 + 1 ≠ w.heap.size; omega)).trans HO.out), (HW.out.setCell (Nat.le_refl _) _).setCell (Nat.le_refl _) _⟩
    clear HK HO HW k0 k1 f0 f1 c1
    rintro V2 ⟨hk, ho, hlw⟩
    have k0 : V2.cell? ⟨w.heap.size, 0, none⟩ = some (.int .u8 4) := (cell_of_row V2 _ 0 _ _ _ hk).trans rfl
    have k1 : V2.cell? ⟨w.heap.size, 1, none⟩ = some (.string c.target) := (cell_of_row V2 _ 1 _ _ _ hk).trans rfl
    have HO := Lib.hid ho
    have HW := Lib.hid hlw
    have HC := Lib.hid (HG.out V2 (HL.out.after hlw))
    clear hk ho hlw HG HL
    go_wp2_with (fail)
    refine HC.out.mono ?_
    rintro e W6 ⟨rfl, hb6⟩
    obtain ⟨V7, hst7, hk7, hb7, -⟩ := boxing W6 (r.getD O0)
    have hw6 := HW.out.trans (hb6.mono HW.out.size)
    obtain ⟨V8, hst8, ho8, -, hb8⟩ := storing ((HO.out.after hb6).after hb7) (r.getD O0)
    have hbx := hk7
    have HO8 := Lib.hid ho8
    have HX8 := Lib.hid (hb8 _ _ (hw6.trans (hb7.mono hw6.size)) (by omega))
    clear ho8 hb8 HC HO HW hb6 hw6 hb7 hk7
    go_wp2_with (first | (refine wpList_skip rfl (hst7 rfl rfl rfl) ?_) | (refine wpList_skip rfl (hst8 rfl rfl rfl) ?_) | ((with_reducible refine wpList_load_obj ?_ rfl ?_ hbx ?_); rfl; rfl))
    refine bodyPost_ret (v := encO (r.getD O0)) (results_cell_row rfl _ _ (w.heap.size + 1 + 1) 31 (cellsO (r.getD O0)) (0, 0) _ rfl HO8.out undObj rfl sizeObj) rfl ?_
    exact ⟨rfl, HX8.out⟩
  · have e3 : (k == 3) = false := by simpa using h3
    obtain ⟨r, hr⟩ : ∃ r, getL l k n = r := ⟨_, rfl⟩
    have hv : askedN l k n c = r.getD O0 := by unfold askedN; rw [if_neg h3, hr]
    have HG : Hid (∀ V : World, ObjsIn V (.slice o l.length cp) l → Calls Tryd.prog 34 #[.slice o l.length cp, .int .u8 k, .string n] V fun e w' => e = .returned (.tuple #[encO (r.getD O0), .bool r.isSome]) ∧ Below V.heap.size V w') := fun V hV => by
      rw [← hr]
      exact get_any l _ k _ V hV
    rw [hv]
    clear hv hr h3
    unfold encK encC
    go_enter Tryd.func37, Tryd.ntmps37
    go_upto_region 1 with (fail)
    refine wp_gen (fun V => BoxK V w.heap.size k n ∧ BoxC V (w.heap.size + 1) c ∧ BoxO V (w.heap.size + 1 + 1) O0 ∧ Below w.heap.size w V) (chain3 w _ _ _) ?_
    rintro V2 ⟨hk, hc, ho, hlw⟩
    have k0 : V2.cell? ⟨w.heap.size, 0, none⟩ = some (.int .u8 k) := (cell_of_row V2 _ 0 _ _ _ hk).trans rfl
    have k1 : V2.cell? ⟨w.heap.size, 1, none⟩ = some (.string n) := (cell_of_row V2 _ 1 _ _ _ hk).trans rfl
    have HO := Lib.hid ho
    have HW := Lib.hid hlw
    have HC := Lib.hid (HG.out V2 (HL.out.after hlw))
    clear hk hc ho hlw HG HL
    go_wp2_with (fail)
    refine HC.out.mono ?_
    rintro e W6 ⟨rfl, hb6⟩
    obtain ⟨V7, hst7, hk7, hb7, -⟩ := boxing W6 (r.getD O0)
    have hw6 := HW.out.trans (hb6.mono HW.out.size)
    obtain ⟨V8, hst8, ho8, -, hb8⟩ := storing ((HO.out.after hb6).after hb7) (r.getD O0)
    have hbx := hk7
    have HO8 := Lib.hid ho8
    have HX8 := Lib.hid (hb8 _ _ (hw6.trans (hb7.mono hw6.size)) (by omega))
    clear ho8 hb8 HC HO HW hb6 hw6 hb7 hk7
    go_wp2_with (first | (refine wpList_skip rfl (hst7 rfl rfl rfl) ?_) | (refine wpList_skip rfl (hst8 rfl rfl rfl) ?_) | ((with_reducible refine wpList_load_obj ?_ rfl ?_ hbx ?_); rfl; rfl))
    refine bodyPost_ret (v := encO (r.getD O0)) (results_cell_row rfl _ _ (w.heap.size + 1 + 1) 31 (cellsO (r.getD O0)) (0, 0) _ rfl HO8.out undObj rfl sizeObj) rfl ?_
    exact ⟨rfl, HX8.out⟩
end Go.Proofs.YtijgieefmnmakaaDoor.O.B
