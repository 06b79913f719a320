/- The first object of a kind that fits. -/
import Derived.Test.YtigoghhjncpgfaaKThere
namespace Go.Proofs.Ytigoghhjncpgfaa.O.B
open Go Go.RowKit Go.Shelf Go.Lib RangeMap KM
attribute [local go_sem] Oper.semAt_some

theorem there_any (o : Option Addr) (n c : Nat) (k : Int) (w : World) : Calls Try.prog 58 #[.slice o n c, .int .u8 k] w fun e w' => e = .returned (.func (.func 72) #[] #[.pointer (some ⟨w.heap.size, 0, none⟩), .pointer (some ⟨w.heap.size + 1, 0, none⟩)]) ∧
    (w.alloc (.cells #[.slice o n c] 22)).alloc (.cells #[.int .u8 k] 33) = w' := by
  go_enter Try.func58, Try.ntmps58
  go_wp2
  go_ret
  exact ⟨rfl, rfl⟩
theorem boxed_at (W : World) (t : TypeId) (v : Value) (B : Nat) (h : B = W.heap.size) : Boxed (W.alloc (.cells #[v] t)) B t v := h ▸ Boxed.new W t v
theorem results_cc {P : Program} {fn : Func} {p q : Tmp} {tp tq : TypeId} {tmps : Array Value} {w : World} {g h : Nat} {x y : Value} (hr : fn.results = #[.cell p tp, .cell q tq]) (hp : tmps.getD p undef = .pointer (some ⟨g, 0, none⟩)) (hq : tmps.getD q undef = .pointer (some ⟨h, 0, none⟩))
    (h1 : (loadVar tp ⟨g, 0, none⟩).run P w = .ok x w) (h2 : (loadVar tq ⟨h, 0, none⟩).run P w = .ok y w) : (results fn tmps).run P w = .ok (.tuple #[x, y]) w := by
  have hp' : tmps[p]?.getD undef = .pointer (some ⟨g, 0, none⟩) := by simpa using hp
  have hq' : tmps[q]?.getD undef = .pointer (some ⟨h, 0, none⟩) := by simpa using hq
  simp [results, hr, hp', hq', asAddr, h1, h2]
theorem loadVar_obj {W : World} {b : Nat} {o : Obj} (h : BoxO W b o) : (loadVar 37 ⟨b, 0, none⟩).run Try.prog W = .ok (encO o) W := run_loadVar_row W b 37 37 (cellsO o) (0, 0) _ h undObj rfl sizeObj
theorem loadVar_bool {W : World} {b : Nat} {x : Bool} (h : Boxed W b 4 (.bool x)) : (loadVar 4 ⟨b, 0, none⟩).run Try.prog W = .ok (.bool x) W := by
  have hc := h.cell
  simp [loadVar, isAgg, run_underlying Try.underlying4, go_sem, hc]
theorem stays_cell {lo hi : Nat} {A W : World} {b : Nat} (h : Stays lo hi A W) (hb : lo ≤ b ∧ b < hi) (v : Value) : Stays lo hi A (W.setCell ⟨b, 0, none⟩ v) :=
  h.trans ⟨by simp [World.setCell], fun k _ hk => heap_setCell_other W ⟨b, 0, none⟩ k v (fun e => hk (by rw [show k = b from e]; exact hb))⟩
theorem stays_row {lo hi : Nat} {A W : World} {b : Nat} (h : Stays lo hi A W) (hb : lo ≤ b ∧ b < hi) (cs : Array Value) : Stays lo hi A (W.setRow b cs) :=
  h.trans ⟨by simp [World.setRow], fun k _ hk => setRow_other W b k cs (fun e => hk (by rw [e]; exact hb))⟩
theorem boxed_row {W : World} {b g : Nat} {t : TypeId} {v : Value} (h : Boxed W b t v) (hne : b ≠ g) (cs : Array Value) : Boxed (W.setRow g cs) b t v := (setRow_other W g b cs hne).trans h
theorem cells_own {B : Nat} {W W' : World} {row : Option Nat} (hg : W.grownBy W' row) (hr : ∀ r, row = some r → B ≤ r ∧ ∃ o : Go.Obj, W.heap[r]? = some o ∧ o.isCells = false) {b : Nat} {cs : Array Value} {t : TypeId} {f : Nat × Nat} (h : W.heap[b]? = some (.cells cs t f)) : W'.heap[b]? = some (.cells cs t f) := by
  refine (hg.block b (Array.getElem?_eq_some_iff.1 h).1 (fun e => ?_)).trans h
  obtain ⟨-, o, ho, hc⟩ := hr b e.symm
  rw [h] at ho
  cases ho
  cases hc

/-- A function that is handed in, and tells of an object. -/
structure Tells (w : World) (l : List Obj) (fid : FuncId) (caps : Array Value) (p : Obj → Bool) : Prop where
  enters : ∀ args w, (callFunc fid args).run Try.prog w = .ok (.enter fid args) w
  tells : ∀ o ∈ l, ∀ W, Below w.heap.size w W → Calls Try.prog fid (#[encO o] ++ caps) W fun e W' => e = .returned (.bool (p o)) ∧ Below W.heap.size W W'

set_option maxRecDepth 100000 in
set_option maxHeartbeats 4000000 in
theorem find_in (l : List Obj) (v : Value) (k : Int) (fid : FuncId) (caps : Array Value) (p : Obj → Bool) (w : World) (hl0 : ObjsIn w v l) (hf : Tells w l fid caps p) :
    CallsIn Fence.wide 3 Try.prog 53 #[v, .int .u8 k, .func (.func fid) #[] caps] w fun e w' =>
      e = .returned (.tuple #[encO (((thereL k l).find? p).getD O0), .bool ((thereL k l).find? p).isSome]) ∧ Below w.heap.size w w' := by
  obtain ⟨o, c, rfl, -, -⟩ := id hl0
  have HL := Lib.hid hl0
  have HLA : Hid (∀ g off, (∃ c', Value.slice o l.length c = .slice (some ⟨g, off, none⟩) l.length c') → 0 < l.length → g < w.heap.size) := fun g off ⟨c', hv⟩ hl => by
    obtain ⟨o1, c1, e1, -, hi⟩ := hl0
    obtain ⟨g1, off1, e2, hg, -⟩ := hi 0 hl
    cases e1
    subst e2
    cases hv
    exact hg
  have ef := hf.enters
  have HF := Lib.hid hf
  clear hl0 hf
  have ef2 := enters_of (P := Try.prog) Try.func72 (by kernel_rfl) rfl
  refine callsIn_of_wp_marks Try.func53 rfl trivial ?_ rfl
  simp only [Try.ntmps53, List.size_toArray, List.length_cons, List.length_nil, Nat.reduceAdd, Nat.reduceSub, Array.replicate_succ, Array.replicate_zero, List.push_toArray, List.append_toArray, List.nil_append, List.cons_append]
  gi_wp2_with fail
  refine ⟨trivial, (callsIn_wide.2 (there_any _ _ _ _ _)).mono ?_⟩
  rintro e w' ⟨rfl, rfl⟩
  gi_wp2_with fail
  refine wpIn_gen (fun V => V.heap.size = w.heap.size + 5 ∧ Boxed V w.heap.size 52 (.func (.func fid) #[] caps) ∧ BoxO V (w.heap.size + 1) O0 ∧ Boxed V (w.heap.size + 1 + 1) 4 (.bool false) ∧ Reads V (.slice o l.length c) l k (w.heap.size + 1 + 1 + 1) (w.heap.size + 1 + 1 + 1 + 1) ∧ Below w.heap.size w V) ?_ ?_
  · have hlow : Below w.heap.size w (((((w.alloc (.cells #[.func (.func fid) #[] caps] 52)).alloc (.cells (cellsO O0) 37)).alloc (.cells #[.bool false] 4)).alloc (.cells #[.slice o l.length c] 22)).alloc (.cells #[.int .u8 k] 33)) := by
      refine Below.alloc (Below.alloc (Below.alloc (Below.alloc (Below.alloc (Below.refl _ _) ?_ _) ?_ _) ?_ _) ?_ _) ?_ _ <;> simp <;> omega
    refine ⟨by simp, ?_, ?_, ?_, ⟨HL.out.after hlow, ?_, ?_⟩, hlow⟩
    · exact ((((Boxed.new w _ _).alloc _).alloc _).alloc _).alloc _
    · have h := BoxO.new (w.alloc (.cells #[.func (.func fid) #[] caps] 52)) O0
      rw [World.size_alloc] at h
      exact ((h.alloc _).alloc _).alloc _
    · exact ((boxed_at _ _ _ _ (by simp)).alloc _).alloc _
    · exact (boxed_at _ _ _ _ (by simp)).alloc _
    · exact boxed_at _ _ _ _ (by simp)
  clear HL
  rintro W0 ⟨hs, h1, h2, h3, h4, hlow⟩
  have HS := Lib.hid hs
  have H1 := Lib.hid h1
  have H2 := Lib.hid h2
  have H3 := Lib.hid h3
  have H4 := Lib.hid h4
  have HLO := Lib.hid hlow
  have hclear : Clear (.slice o l.length c) l (w.heap.size + 1 + 1 + 1) (w.heap.size + 1 + 1 + 1 + 1) (w.heap.size + 1) (w.heap.size + 3) := by
    refine ⟨by omega, by omega, fun g off hv hl => ?_⟩
    have := HLA.out g off hv hl
    omega
  clear h1 h2 h3 h4 hlow hs
  obtain ⟨z, hz⟩ : ∃ z, w.heap.size = z := ⟨_, rfl⟩
  rw [hz] at HS H1 H2 H3 H4 HLO hclear ⊢
  refine RangeMap.range (F := Fence.wide) (n := 3) rfl (by omega) (gf := 72) (lb := #[.pointer (some ⟨z + 1 + 1 + 1, 0, none⟩), .pointer (some ⟨z + 1 + 1 + 1 + 1, 0, none⟩)]) rfl trivial ef2 (encs := encE (l := l)) (lo := z + 1) (hi := z + 3) (by rw [HS.out]; omega)
    (there_seq l (.slice o l.length c) k _ _ _ _ 2 W0 H4.out hclear (by rw [HS.out]; omega)) (fun _ => rfl)
    (fun pre W => Boxed W z 52 (.func (.func fid) #[] caps) ∧ BoxO W (z + 1) O0 ∧ Boxed W (z + 1 + 1) 4 (.bool false) ∧ Below z w W ∧ ∀ y ∈ pre, p y.1 = false)
    (fun cd pre W => cd = .ret ∧ ∃ pre0 x, pre = pre0 ++ [x] ∧ (∀ y ∈ pre0, p y.1 = false) ∧ p x.1 = true ∧ BoxO W (z + 1) x.1 ∧ Boxed W (z + 1 + 1) 4 (.bool true) ∧ Below z w W)
    ?_ ?_ ⟨H1.out, H2.out, H3.out, HLO.out, fun y hy => by cases hy⟩
    (fun pre x a1 W => Boxed W z 52 (.func (.func fid) #[] caps) ∧ BoxO W (z + 1) O0 ∧ Boxed W (z + 1 + 1) 4 (.bool false) ∧ Below z w W ∧ (∀ y ∈ pre, p y.1 = false) ∧ ∃ ob, W0.heap.size ≤ ob ∧ BoxO W ob x.1 ∧
      a1 = { tmps := #[.slice o l.length c, .int .u8 k, .func (.func fid) #[] caps, undef, undef, .pointer (some ⟨z, 0, none⟩), .pointer (some ⟨z + 1, 0, none⟩), .pointer (some ⟨z + 1 + 1, 0, none⟩), .pointer (some ⟨ob, 0, none⟩), .slice o l.length c, .int .u8 k, .func (.func 72) #[] #[.pointer (some ⟨z + 1 + 1 + 1, 0, none⟩), .pointer (some ⟨z + 1 + 1 + 1 + 1, 0, none⟩)], encO x.1, undef, undef, undef, undef, undef], defers := [] })
    ?_ ?_ ?_ ?_ ?_
  · intro pre A B row ⟨a, b, c, d, e⟩ hg hr
    exact ⟨cells_own hg hr a, cells_own hg hr b, cells_own hg hr c, ownFrom_below (β := Unit) (n₀ := z) (B := W0.heap.size) (by omega) (by rw [HS.out]; omega) () A B row d hg hr, e⟩
  · intro cd pre A B row ⟨a, pre0, x, b, c, d, e, f, g⟩ hg hr
    exact ⟨a, pre0, x, b, c, d, cells_own hg hr e, cells_own hg hr f, ownFrom_below (β := Unit) (n₀ := z) (B := W0.heap.size) (by omega) (by rw [HS.out]; omega) () A B row g hg hr⟩
  · intro x a1 pre A B row ⟨a, b, c, d, e, ob, f, g, h⟩ hg hr
    exact ⟨cells_own hg hr a, cells_own hg hr b, cells_own hg hr c, ownFrom_below (β := Unit) (n₀ := z) (B := W0.heap.size) (by omega) (by rw [HS.out]; omega) () A B row d hg hr, e, ob, f, cells_own hg hr g, h⟩
  · intro lp pre x W ⟨a, b, c, d, e⟩ _ hsz
    obtain ⟨V, hst, hbx, hlw, -⟩ := boxing W x.1
    have HA := Lib.hid a
    have HB := Lib.hid b
    have HC := Lib.hid c
    have HD := Lib.hid d
    have HE := Lib.hid e
    have HX := Lib.hid hbx
    have HW := Lib.hid hlw
    clear a b c d e hbx hlw
    simp only [encE]
    gi_wp2_with (refine KnownIn.skip rfl (by intro c e; cases e) rfl (hst rfl rfl rfl) ?_)
    exact ⟨Stays.of_below HW.out, (HW.out.block _ HA.out.lt).trans HA.out, HB.out.after HW.out, (HW.out.block _ HC.out.lt).trans HC.out, HD.out.trans (HW.out.mono (by have := HD.out.size; omega)), HE.out, W.heap.size, hsz, HX.out, rfl⟩
  · rintro lp pre x a1 W ⟨a, b, c, d, e, ob, hob, hbx, rfl⟩ _ hsz
    have HB := Lib.hid b
    have HC := Lib.hid c
    have HD := Lib.hid d
    have HE := Lib.hid e
    have HA := Lib.hid a
    have ca := a.cell
    clear a b c d e
    gi_wp2_with (refine KnownIn.value rfl rfl (load_obj hbx rfl rfl) ?_)
    refine ⟨trivial, ((callsIn_wide.2 (HF.out.tells x.1 x.2 W (by rw [hz]; exact HD.out))).inRound lp).mono ?_⟩
    rintro e W2 ⟨rfl, hb2⟩
    have HB2 := Lib.hid hb2
    have hbx2 := hbx.after hb2
    have hc2 : Boxed W2 (z + 1 + 1) 4 (.bool false) := (hb2.block _ HC.out.lt).trans HC.out
    have ho2 := HB.out.after hb2
    cases hpx : p x.1 with
    | false =>
      have HP : Hid (∀ y ∈ pre ++ [x], p y.1 = false) := fun y hy => by
        rcases List.mem_append.1 hy with h | h
        · exact HE.out y h
        · simp at h; subst h; exact hpx
      have HC2 := Lib.hid hc2
      have HO2 := Lib.hid ho2
      clear hpx hc2 ho2 hb2
      gi_wp2
      exact ⟨Stays.of_below HB2.out, (HB2.out.block _ HA.out.lt).trans HA.out, HO2.out, HC2.out, HD.out.trans (HB2.out.mono (by have := HD.out.size; omega)), HP.out⟩
    | true =>
      obtain ⟨V2, hV2⟩ : ∃ V2, W2.setRow (z + 1) (cellsO x.1) = V2 := ⟨_, rfl⟩
      have hst : ∀ {oi : Oper} {a : Act} {p q : Operand}, oi.op = .store 37 p q → a.eval p = .pointer (some ⟨z + 1, 0, none⟩) → a.eval q = encO x.1 → (execOp a.eval oi).run Try.prog W2 = .ok .skip V2 := fun h1 h2 h3 => by
        rw [← hV2]
        exact exec_store_obj ho2 h1 h2 h3
      have hb3 : Boxed V2 (z + 1 + 1) 4 (.bool false) := by rw [← hV2]; exact boxed_row hc2 (by omega) _
      have ho3 : BoxO V2 (z + 1) x.1 := by rw [← hV2]; exact ho2.setRow x.1
      have hs3 : Stays (z + 1) (z + 3) W V2 := by rw [← hV2]; exact stays_row (Stays.of_below hb2) (by omega) _
      have hl3 : Below z w V2 := by rw [← hV2]; exact below_setRow (HD.out.trans (hb2.mono (by have := HD.out.size; omega))) (by omega) _
      have f3 := hb3.frozen
      have c3 := hb3.cell
      have HS3 := Lib.hid (stays_cell hs3 (b := z + 1 + 1) (by omega) (.bool true))
      have HB3 := Lib.hid (hb3.set (.bool true))
      have HO3 := Lib.hid (ho3.other (p := ⟨z + 1 + 1, 0, none⟩) (by show z + 1 ≠ z + 1 + 1; omega) (.bool true))
      have HL3 := Lib.hid (hl3.setCell (p := ⟨z + 1 + 1, 0, none⟩) (by show z ≤ z + 1 + 1; omega) (.bool true))
      have HPX := Lib.hid hpx
      clear hV2 hb3 ho3 hs3 hl3 hpx hc2 ho2 hb2
      gi_wp2_with (first | (refine KnownIn.value rfl rfl (load_obj hbx2 rfl rfl) ?_) | (refine KnownIn.skip rfl (by intro c e; cases e) rfl (hst rfl rfl rfl) ?_))
      exact ⟨HS3.out, rfl, pre, x, rfl, HE.out, HPX.out, HO3.out, HB3.out, HL3.out⟩
  · rintro D xs W hD hS ⟨a, b, c, d, e⟩ hK
    have hnone : (thereL k l).find? p = none := by
      rw [← hS, List.find?_eq_none]
      intro y hy
      obtain ⟨y', hy', rfl⟩ := List.mem_map.1 hy
      simp [e y' hy']
    have HNN := Lib.hid hnone
    obtain ⟨V2, hV2⟩ : ∃ V2, W.setRow (z + 1) (cellsO O0) = V2 := ⟨_, rfl⟩
    have hst : ∀ {oi : Oper} {a : Act} {p q : Operand}, oi.op = .store 37 p q → a.eval p = .pointer (some ⟨z + 1, 0, none⟩) → a.eval q = encO O0 → (execOp a.eval oi).run Try.prog W = .ok .skip V2 := fun h1 h2 h3 => by
      rw [← hV2]
      exact exec_store_obj b h1 h2 h3
    have hb3 : Boxed V2 (z + 1 + 1) 4 (.bool false) := by rw [← hV2]; exact boxed_row c (by omega) _
    have ho3 : BoxO V2 (z + 1) O0 := by rw [← hV2]; exact b.setRow O0
    have hl3 : Below z w V2 := by rw [← hV2]; exact below_setRow d (by omega) _
    have hK3 : V2.heap[D]? = some (.deferred (some [])) := by rw [← hV2]; exact (setRow_other W (z + 1) D _ (by rw [HS.out] at hD; omega)).trans hK
    have f3 := hb3.frozen
    have c3 := hb3.cell
    have HB3 := Lib.hid (hb3.set (.bool false))
    have HO3 := Lib.hid (ho3.other (p := ⟨z + 1 + 1, 0, none⟩) (by show z + 1 ≠ z + 1 + 1; omega) (.bool false))
    have HL3 := Lib.hid (hl3.setCell (p := ⟨z + 1 + 1, 0, none⟩) (by show z ≤ z + 1 + 1; omega) (.bool false))
    have HK3 : Hid ((V2.setCell ⟨z + 1 + 1, 0, none⟩ (.bool false)).heap[D]? = some (.deferred (some []))) := (heap_setCell_other V2 ⟨z + 1 + 1, 0, none⟩ D _ (by rw [HS.out] at hD; show D ≠ z + 1 + 1; omega)).trans hK3
    clear hV2 hb3 ho3 hl3 hnone hS a b c d e hK hK3
    gi_wp2_with (refine KnownIn.skip rfl (by intro c e; cases e) rfl (hst rfl rfl rfl) ?_)
    have hDz : z + 5 ≤ D := by rw [HS.out] at hD; exact hD
    refine ⟨by simp, .inl ⟨_, _, rfl, run_takeDeferred HK3.out, ?_⟩⟩
    have r1 := loadVar_obj (show BoxO (World.putObj _ D (.deferred none)) (z + 1) O0 from (World.putObj_heap_other (by omega)).trans HO3.out)
    have r2 := loadVar_bool (show Boxed (World.putObj _ D (.deferred none)) (z + 1 + 1) 4 (.bool false) from (World.putObj_heap_other (by omega)).trans HB3.out)
    refine ⟨.tuple #[encO O0, .bool false], results_cc rfl rfl rfl r1 r2, ?_, ?_⟩
    · rw [HNN.out]
      rfl
    · rw [hz]
      exact HL3.out.trans (belowK_b (w := w) (by omega) _ D _ _ (by omega) HK3.out rfl rfl)
  · rintro D cd pre W hD hSp ⟨rfl, pre0, x, rfl, h1, h2, ho, hb, hl⟩ hK
    have hsome : (thereL k l).find? p = some x.1 := by
      obtain ⟨t, ht⟩ := hSp
      rw [← ht, List.map_append, List.append_assoc, List.find?_append]
      have h3 : (pre0.map Subtype.val).find? p = none := by
        rw [List.find?_eq_none]
        intro y hy
        obtain ⟨y', hy', rfl⟩ := List.mem_map.1 hy
        simp [h1 y' hy']
      rw [h3]
      simp [h2]
    have HNN := Lib.hid hsome
    have HO3 := Lib.hid ho
    have HB3 := Lib.hid hb
    have HL3 := Lib.hid hl
    have HK3 := Lib.hid hK
    have hDz : z + 5 ≤ D := by rw [HS.out] at hD; exact hD
    clear hsome hSp h1 h2 ho hb hl hK
    gi_wp2
    refine ⟨by simp, .inl ⟨_, _, rfl, run_takeDeferred HK3.out, ?_⟩⟩
    have r1 := loadVar_obj (show BoxO (World.putObj _ D (.deferred none)) (z + 1) x.1 from (World.putObj_heap_other (by omega)).trans HO3.out)
    have r2 := loadVar_bool (show Boxed (World.putObj _ D (.deferred none)) (z + 1 + 1) 4 (.bool true) from (World.putObj_heap_other (by omega)).trans HB3.out)
    refine ⟨.tuple #[encO x.1, .bool true], results_cc rfl rfl rfl r1 r2, ?_, ?_⟩
    · rw [HNN.out]
      rfl
    · rw [hz]
      exact HL3.out.trans (belowK_b (w := w) (by omega) _ D _ _ (by omega) HK3.out rfl rfl)
theorem find_any (l : List Obj) (v : Value) (k : Int) (fid : FuncId) (caps : Array Value) (p : Obj → Bool) (w : World) (hl : ObjsIn w v l) (hf : Tells w l fid caps p) :
    Calls Try.prog 53 #[v, .int .u8 k, .func (.func fid) #[] caps] w fun e w' =>
      e = .returned (.tuple #[encO (((thereL k l).find? p).getD O0), .bool ((thereL k l).find? p).isSome]) ∧ Below w.heap.size w w' := callsIn_wide.1 (find_in l v k fid caps p w hl hf)
/-- Where a code ends as it goes, no more needs to be shown of its other ends. -/
theorem wp_normal {P : Program} {c : Code} {Q : Exit → Act → World → Prop} {a : Act} {w : World} (h : c.wp P (fun e a w => e = .normal ∧ Q e a w) a w) : c.wp P Q a w := Go.wp_mono h (fun _ _ _ h => h.2)
theorem results_ct {P : Program} {fn : Func} {p q : Tmp} {tp : TypeId} {tmps : Array Value} {w : World} {g : Nat} {x y : Value} (hr : fn.results = #[.cell p tp, .tmp q]) (hp : tmps.getD p undef = .pointer (some ⟨g, 0, none⟩)) (hq : tmps.getD q undef = y)
    (h1 : (loadVar tp ⟨g, 0, none⟩).run P w = .ok x w) : (results fn tmps).run P w = .ok (.tuple #[x, y]) w := by
  have hp' : tmps[p]?.getD undef = .pointer (some ⟨g, 0, none⟩) := by simpa using hp
  have hq' : tmps[q]?.getD undef = y := by simpa using hq
  simp [results, hr, hp', hq', asAddr, h1]
/-- A store of a whole object: the world behind it by a name. -/
theorem storing {W : World} {b : Nat} {p : Obj} (h : BoxO W b p) (x : Obj) : ∃ V, (∀ {oi : Oper} {a : Act} {r q : Operand}, oi.op = .store 37 r q → a.eval r = .pointer (some ⟨b, 0, none⟩) → a.eval q = encO x → (execOp a.eval oi).run Try.prog W = .ok .skip V) ∧
    BoxO V b x ∧ (∀ g, g ≠ b → V.heap[g]? = W.heap[g]?) ∧ (∀ B A, Below B A W → B ≤ b → Below B A V) :=
  ⟨W.setRow b (cellsO x), fun h1 h2 h3 => exec_store_obj h h1 h2 h3, h.setRow x, fun g hg => setRow_other W b g _ hg, fun _ _ h1 h2 => below_setRow h1 h2 _⟩
theorem wpList_skip {ops : Array Oper} {rest : List Oper} {oi : Oper} {a : Act} {W W' : World} {Q : Exit → Act → World → Prop} (hw : Region.wanted oi (yielded ops a.tmps) = true) (hv : (execOp a.eval oi).run Try.prog W = .ok .skip W')
    (hn : wpList Try.prog ops Q rest (a.put oi.dst undef) W') : wpList Try.prog ops Q (oi :: rest) a W := by
  unfold wpList
  rw [if_pos hw]
  refine .inl ?_
  unfold Oper.wp
  rw [hv]
  exact hn
theorem chain2 (w : World) (a b : Go.Obj) : ((w.alloc a).alloc b).heap[w.heap.size]? = some a ∧ ((w.alloc a).alloc b).heap[w.heap.size + 1]? = some b ∧ Below w.heap.size w ((w.alloc a).alloc b) := by
  have s1 : (w.alloc a).heap.size = w.heap.size + 1 := World.size_alloc _ _
  refine ⟨(Below.heap_alloc _ b _ (by omega)).trans (heap_alloc_new w a), ?_, ((Below.refl _ _).alloc (Nat.le_refl _) _).alloc (by omega) _⟩
  rw [← s1]
  exact heap_alloc_new _ b
theorem chain3 (w : World) (a b c : Go.Obj) : (((w.alloc a).alloc b).alloc c).heap[w.heap.size]? = some a ∧ (((w.alloc a).alloc b).alloc c).heap[w.heap.size + 1]? = some b ∧ (((w.alloc a).alloc b).alloc c).heap[w.heap.size + 1 + 1]? = some c ∧ Below w.heap.size w (((w.alloc a).alloc b).alloc c) := by
  obtain ⟨h1, h2, h3⟩ := chain2 w a b
  have s2 : ((w.alloc a).alloc b).heap.size = w.heap.size + 1 + 1 := by rw [World.size_alloc, World.size_alloc]
  refine ⟨(Below.heap_alloc _ c _ (by omega)).trans h1, (Below.heap_alloc _ c _ (by omega)).trans h2, ?_, h3.alloc (by omega) _⟩
  rw [← s2]
  exact heap_alloc_new _ c
theorem exec_build {o : Oper} {a : Act} {w : World} (t : TypeId) (parts : Array (Nat × Operand)) (ho : o.op = .build t parts) (cs : Array Value)
    (hf : Try.prog.built t (parts.toList.map fun (i, x) => (i, a.eval x)) = some cs) : (execOp a.eval o).run Try.prog w = .ok (.value (.agg cs)) w := by
  have h : Try.prog.built t (parts.map fun (i, x) => (i, a.eval x)).toList = some cs := by rw [Array.toList_map]; exact hf
  unfold execOp
  simp only [ho, Sem.run_bind, run_build w t _ cs h, Result.andThen_ok]
  rfl
end Go.Proofs.Ytigoghhjncpgfaa.O.B
