/- The document's driver in memory. -/
import Derived.Test.YtbgfccanbgpjiaaIOpen
import Derived.Laws.AppendOwn
namespace Go.Proofs.Ytbgfccanbgpjiaa.O.I
open Go Go.RowKit Go.Lib
attribute [local go_sem] Oper.semAt_some

/-- A slice as it lies in a cell. -/
structure Sl where
  o : Option Addr
  n : Nat
  c : Nat
def nilS : Sl := ⟨none, 0, 0⟩
def encSl (s : Sl) : Value := .slice s.o s.n s.c
/-- The document's driver: its four slices. -/
structure Rd where
  z : Sl
  v : Sl
  s : Sl
  d : Sl
def cellsQ (x : Rd) : Array Value := #[.slice x.z.o x.z.n x.z.c, .slice x.v.o x.v.n x.v.c, .slice x.s.o x.s.n x.s.c, .slice x.d.o x.d.n x.d.c]
def encQ (x : Rd) : Value := .agg (cellsQ x)
def BoxQ (W : World) (b : Nat) (x : Rd) : Prop := W.heap[b]? = some (.cells (cellsQ x) 87 (0, 0))
theorem undQ : Try.prog.underlying 87 = some (.struct (Try.prog.fieldsOf 87)) := by kernel_rfl
theorem sizeQ : (Try.prog.info? 87).map (·.size) = some 4 := by kernel_rfl
theorem one_cellsQ (x : Rd) : (cellsQ x).all (·.oneCell') = true := by simp [cellsQ, Value.oneCell']
section
variable {W W' : World} {b : Nat} {x : Rd}
theorem BoxQ.lt (h : BoxQ W b x) : b < W.heap.size := (Array.getElem?_eq_some_iff.1 h).1
theorem BoxQ.after (h : BoxQ W b x) (hb : Below W.heap.size W W') : BoxQ W' b x := (hb.block b h.lt).trans h
theorem BoxQ.c0 (h : BoxQ W b x) : W.cell? ⟨b, 0, none⟩ = some (.slice x.z.o x.z.n x.z.c) := (cell_of_row W b 0 _ _ _ h).trans rfl
theorem BoxQ.c1 (h : BoxQ W b x) : W.cell? ⟨b, 1, none⟩ = some (.slice x.v.o x.v.n x.v.c) := (cell_of_row W b 1 _ _ _ h).trans rfl
theorem BoxQ.c2 (h : BoxQ W b x) : W.cell? ⟨b, 2, none⟩ = some (.slice x.s.o x.s.n x.s.c) := (cell_of_row W b 2 _ _ _ h).trans rfl
theorem BoxQ.c3 (h : BoxQ W b x) : W.cell? ⟨b, 3, none⟩ = some (.slice x.d.o x.d.n x.d.c) := (cell_of_row W b 3 _ _ _ h).trans rfl
theorem BoxQ.free (h : BoxQ W b x) (i : Nat) : W.frozen? ⟨b, i, none⟩ = false := frozen_of_row W b i _ _ h
theorem loadQ (h : BoxQ W b x) {oi : Oper} {a : Act} {p : Operand} (ho : oi.op = .load 87 p) (hx : a.eval p = .pointer (some ⟨b, 0, none⟩)) : (execOp a.eval oi).run Try.prog W = .ok (.value (encQ x)) W := by
  unfold execOp
  simp only [ho, hx, Instr.loadAt, Instr.sureAddr, Sem.run_bind, Sem.run_pure, Result.andThen_ok, run_loadVar_row W b 87 87 (cellsQ x) (0, 0) _ h undQ rfl sizeQ]
  rfl
end
/-- A store of a whole: the world behind it by a name. -/
theorem stoQ {W : World} {b : Nat} {p : Rd} (h0 : BoxQ W b p) (x : Rd) : ∃ V, (∀ {oi : Oper} {a : Act} {p q : Operand}, oi.op = .store 87 p q → a.eval p = .pointer (some ⟨b, 0, none⟩) → a.eval q = encQ x → (execOp a.eval oi).run Try.prog W = .ok .skip V) ∧
    BoxQ V b x ∧ (∀ g, g ≠ b → V.heap[g]? = W.heap[g]?) ∧ (∀ B A, Below B A W → B ≤ b → Below B A V) := by
  refine ⟨W.setRow b (cellsQ x), fun {oi a p q} ho hp hq => ?_, setRow_heap _ _ _ _ _ _ h0, fun g hg => setRow_other W b g _ hg, fun _ _ h1 h2 => below_setRow h1 h2 _⟩
  have h1 := run_storeVar_row (P := Try.prog) W b 87 87 _ (cellsQ x) h0 sizeQ rfl (one_cellsQ x)
  unfold execOp
  have hq' : a.eval q = .agg (cellsQ x) := hq
  simp [ho, hp, hq', Instr.storeAt, Instr.sureAddr, h1, Result.andThen]
theorem boxQ (W : World) {z : Array Value} (y : Rd) (hz : z = cellsQ y) (x : Rd) : ∃ V, (∀ {oi : Oper} {a : Act} {p q : Operand}, oi.op = .store 87 p q → a.eval p = .pointer (some ⟨W.heap.size, 0, none⟩) → a.eval q = encQ x → (execOp a.eval oi).run Try.prog (W.alloc (.cells z 87 (0, 0))) = .ok .skip V) ∧
    BoxQ V W.heap.size x ∧ Below W.heap.size W V := by
  subst hz
  obtain ⟨V, h1, h2, -, h3⟩ := stoQ (show BoxQ (W.alloc (.cells (cellsQ y) 87 (0, 0))) W.heap.size y from heap_alloc_new W _) x
  exact ⟨V, h1, h2, h3 _ _ ((Below.refl _ _).alloc (Nat.le_refl _) _) (Nat.le_refl _)⟩
theorem built_q (s : Sl) : Try.prog.built 87 [(0, .slice s.o s.n s.c)] = some (cellsQ ⟨s, nilS, nilS, nilS⟩) := by kernel_rfl
/-- What a row's type must be. -/
def Rowy (t e : TypeId) (k : Nat) (z : Value) : Prop := Try.prog.underlying t = some (.slice e) ∧ z.cells.size = k ∧ 0 < k ∧ ∃ i, Try.prog.info? e = some i ∧ i.zero = some z ∧ i.size = k ∧ i.bytes ≤ 1000
/-- More rows behind those that are one's own. -/
theorem add_rows {t e : TypeId} {k : Nat} {z : Value} (hr : Rowy t e k z) (R : Nat) (W : World) (v : Value) (n : Nat) (xs : List Value) (hown : W.ownsRow R e k v n xs) (g off m c : Nat) (news : List Value) (hl : news.length = m * k)
    (hnews : World.rangeAt W g off news) (h1 : ∀ u ∈ news, u.oneCell' = true) (hn : n + m ≤ 1000000) (hR : R ≤ W.heap.size) (ty : TypeId) :
    ∃ v' W', (Builtin.append_ #[t, t] ty #[v, .slice (some ⟨g, off, none⟩) m c]).run Try.prog W = .ok v' W' ∧ W'.ownsRow R e k v' (n + m) (xs ++ news) ∧ Below R W W' ∧ (v' = .slice none 0 0 ↔ v = .slice none 0 0 ∧ m = 0) := by
  obtain ⟨ht, hzs, hk, i, hi, hz, hs, hb⟩ := hr
  obtain ⟨v', W', h2, h3, h4, h5⟩ := run_append_own (P := Try.prog) W R t ty e i z k i.bytes ht hi hz hs rfl hzs hk v n xs hown ⟨g, off, none⟩ m c news hl (fun j u hu => by rw [Addr.add_mid]; exact hnews j u hu) h1 (by unfold maxLen; omega)
    (Nat.le_trans (Nat.mul_le_mul hn hb) (by decide)) hR
  refine ⟨v', W', h2, h3, ?_, h5⟩
  refine (Below.refl R W).grown h4 hR (fun r e => ?_)
  rcases hown.2 with ⟨rfl, -⟩ | ⟨g', cap, cur, rfl, hg, -⟩
  · cases e
  · cases e
    exact hg
theorem own_none (W : World) (R : Nat) (e : TypeId) (k : Nat) : W.ownsRow R e k (.slice none 0 0) 0 [] := ⟨by simp, .inl ⟨rfl, rfl⟩⟩
theorem own_empty {W : World} {R : Nat} {e : TypeId} {k : Nat} (h : R ≤ W.heap.size) : (W.alloc (.cells #[] e (0, 0))).ownsRow R e k (.slice (some ⟨W.heap.size, 0, none⟩) 0 0) 0 [] :=
  ⟨by simp, .inr ⟨W.heap.size, 0, #[], rfl, h, heap_alloc_new W _, Nat.le_refl _, Nat.zero_le _, by simp, by simp⟩⟩
theorem own_after {W W' : World} {R k n : Nat} {e : TypeId} {v : Value} {xs : List Value} (h : W.ownsRow R e k v n xs) (hb : Below W.heap.size W W') : W'.ownsRow R e k v n xs := by
  refine ⟨h.1, ?_⟩
  rcases h.2 with h1 | ⟨g, cap, cur, h1, h2, h3, h4⟩
  · exact .inl h1
  · exact .inr ⟨g, cap, cur, h1, h2, (hb.block g (Array.getElem?_eq_some_iff.1 h3).1).trans h3, h4⟩
theorem own_sl {W : World} {R k n : Nat} {e : TypeId} {v : Value} {xs : List Value} (h : W.ownsRow R e k v n xs) : ∃ s : Sl, v = .slice s.o s.n s.c ∧ s.n = n := by
  rcases h.2 with ⟨rfl, rfl⟩ | ⟨g, cap, cur, rfl, -⟩
  · exact ⟨nilS, rfl, rfl⟩
  · exact ⟨⟨some ⟨g, 0, none⟩, n, cap⟩, rfl, rfl⟩
def catZ (l : List Zn) : List Value := l.flatMap fun z => (cellsZ z).toList
theorem catZ_length (l : List Zn) : (catZ l).length = l.length * 2 := by
  unfold catZ
  induction l with
  | nil => rfl
  | cons z r ih =>
    rw [List.flatMap_cons, List.length_append, ih, List.length_cons, Nat.add_mul]
    show 2 + _ = _
    omega
theorem catZ_one (l : List Zn) : ∀ u ∈ catZ l, u.oneCell' = true := by
  intro u hu
  unfold catZ at hu
  obtain ⟨z, -, h⟩ := List.mem_flatMap.1 hu
  have h' : u ∈ [Value.string z.name, .int .i64 z.room] := h
  simp only [List.mem_cons, List.not_mem_nil, or_false] at h'
  rcases h' with rfl | rfl <;> rfl
theorem catZ_at : ∀ (l : List Zn) (i : Nat) (h : i < l.length) (j : Nat), j < 2 → (catZ l)[i * 2 + j]? = (cellsZ l[i]).toList[j]?
  | z :: r, 0, _, j, hj => by
    unfold catZ
    rw [List.flatMap_cons, List.getElem?_append_left (by show 0 * 2 + j < 2; omega), Nat.zero_mul, Nat.zero_add]
    rfl
  | z :: r, i + 1, h, j, hj => by
    have ih := catZ_at r i (by simpa using h) j hj
    unfold catZ at ih ⊢
    rw [List.flatMap_cons, List.getElem?_append_right (by show 2 ≤ _; omega)]
    show (List.flatMap (fun z => (cellsZ z).toList) r)[(i + 1) * 2 + j - 2]? = _
    rw [show (i + 1) * 2 + j - 2 = i * 2 + j by omega]
    exact ih
/-- Zones that lie in a slice, as one row. -/
theorem ZonesIn.row {W : World} {v : Value} {l : List Zn} (h : ZonesIn W v l) (hne : 1 ≤ l.length) : ∃ g off c, v = .slice (some ⟨g, off, none⟩) l.length c ∧ g < W.heap.size ∧ World.rangeAt W g off (catZ l) := by
  obtain ⟨o, c, rfl, -, hx⟩ := h
  obtain ⟨g, off, rfl, hg, -⟩ := hx 0 (by omega)
  refine ⟨g, off, c, rfl, hg, fun j u hu => ?_⟩
  have hj : j < l.length * 2 := by
    have := (List.getElem?_eq_some_iff.1 hu).1
    rwa [catZ_length] at this
  obtain ⟨g2, off2, he, -, hr⟩ := hx (j / 2) (by omega)
  cases he
  have e : j = j / 2 * 2 + j % 2 := by omega
  rw [e, catZ_at l (j / 2) (by omega) (j % 2) (by omega)] at hu
  have h3 := hr (j % 2) u hu
  rwa [show off + j / 2 * 2 + j % 2 = off + j by omega] at h3
theorem zone_rowy : Rowy 36 42 2 (encZ ⟨E0, 0⟩) := by
  refine ⟨Try.underlying36, by rfl, by decide, ?_⟩
  have h : (Try.prog.info? 42).map (fun i => (i.zero, i.size, decide (i.bytes ≤ 1000))) = some (some (encZ ⟨E0, 0⟩), 2, true) := by kernel_rfl
  cases hi : Try.prog.info? 42 with
  | none => rw [hi] at h; cases h
  | some i =>
    rw [hi] at h
    simp only [Option.map_some, Option.some.injEq, Prod.mk.injEq] at h
    exact ⟨i, rfl, h.1, h.2.1, of_decide_eq_true h.2.2⟩
end Go.Proofs.Ytbgfccanbgpjiaa.O.I
