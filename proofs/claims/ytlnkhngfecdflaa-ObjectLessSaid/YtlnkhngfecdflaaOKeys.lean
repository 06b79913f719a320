/- Three keys, as they come in; and a block that holds a key. -/
import Derived.Test.YtlnkhngfecdflaaOLive
import Derived.Test.YtlnkhngfecdflaaORow
import Derived.Test.YtlnkhngfecdflaaHeldAlloc
import Derived.Deep.MidRow
namespace Go.Proofs.Ytlnkhngfecdflaa.O
open Go.RowKit Go.ChangeShapes Go.WideShapes Go.Deep T
open Go.Lib hiding intOf

theorem undKey : Try.prog.underlying 35 = some (.struct (Try.prog.fieldsOf 35)) := by kernel_rfl
theorem undKeys : Try.prog.underlying 38 = some (.array 3 35) := by kernel_rfl
theorem sizeKey : (Try.prog.info? 35).map (·.size) = some 2 := by kernel_rfl
theorem cellsKey : Try.prog.cellsOf 35 = 2 := by kernel_rfl
theorem cellsKeys : Try.prog.cellsOf 38 = 6 := by kernel_rfl
theorem oneKey : oneCellFields Try.prog (Try.prog.fieldsOf 35) = true := by kernel_rfl
theorem kfld0 : ((Try.prog.fieldsOf 35)[0]?).map (·.type) = some 22 := by kernel_rfl
theorem kfld1 : ((Try.prog.fieldsOf 35)[1]?).map (·.type) = some 9 := by kernel_rfl

def cellsA (k0 : Int) (n0 : ByteArray) (k1 : Int) (n1 : ByteArray) (k2 : Int) (n2 : ByteArray) : Array Value := #[.int .u8 k0, .string n0, .int .u8 k1, .string n1, .int .u8 k2, .string n2]
def encA (k0 : Int) (n0 : ByteArray) (k1 : Int) (n1 : ByteArray) (k2 : Int) (n2 : ByteArray) : Value := .agg (cellsA k0 n0 k1 n1 k2 n2)

theorem open_key {H : Type} {enc : TypeId × Value → H} {w : World} {base : Nat} {spare : Nat → Bool} {held : Bool} {n : Nat} {u v : Value} {y : DataW H × List MemPlace}
    (h : DataW.trod enc Try.prog w base spare held n 35 [u, v] = some y) : ∃ (k : Int) (s : ByteArray), u = .int .u8 k ∧ v = .string s := by
  obtain ⟨xs, n, -, -, -, hlen, hg⟩ := DataW.trod_struct undKey h
  have hg' : ∀ (i : Nat) (f : Field), (Try.prog.fieldsOf 35)[i]? = some f → DataW.trod enc Try.prog w base spare held n f.type (([u, v].drop f.offset).take (Try.prog.cellsOf f.type)) = xs[i]? := fun i f hf => hg i f hf
  obtain ⟨f0, hf0, ht0⟩ : ∃ f, (Try.prog.fieldsOf 35)[0]? = some f ∧ f.type = 22 := by have := kfld0; rw [Option.map_eq_some_iff] at this; exact this
  obtain ⟨y0, hy0, hr0⟩ := field_at oneKey hlen hg' 0 f0 hf0 u rfl
  rw [ht0] at hr0
  obtain ⟨x0, hc0, he0, -⟩ := DataW.trod_int Try.underlying22 hr0
  obtain ⟨f1, hf1, ht1⟩ : ∃ f, (Try.prog.fieldsOf 35)[1]? = some f ∧ f.type = 9 := by have := kfld1; rw [Option.map_eq_some_iff] at this; exact this
  obtain ⟨y1, hy1, hr1⟩ := field_at oneKey hlen hg' 1 f1 hf1 v rfl
  rw [ht1] at hr1
  obtain ⟨x1, hc1, he1, -⟩ := DataW.trod_string Try.underlying9 hr1
  exact ⟨x0, x1, List.head_eq_of_cons_eq hc0, List.head_eq_of_cons_eq hc1⟩

/-- Three keys that come in. -/
theorem open_keys {H : Type} {enc : TypeId × Value → H} {w : World} {base : Nat} {spare : Nat → Bool} {held : Bool} {r : Reach} {b0 : Nat} {v : Value} {d : DataW H} {p : List MemPlace}
    (hv : Value.okWide Try.prog w r b0 38 v) (h : DataW.Trod enc Try.prog w base spare held 38 v d p) :
    ∃ (k0 : Int) (n0 : ByteArray) (k1 : Int) (n1 : ByteArray) (k2 : Int) (n2 : ByteArray), v = encA k0 n0 k1 n1 k2 n2 := by
  obtain ⟨cs, rfl, hsz⟩ : ∃ cs, v = .agg cs ∧ cs.size = Try.prog.cellsOf 38 := by
    simp only [Value.okWide, undKeys] at hv
    obtain ⟨cs, h1, h2, _⟩ := hv
    exact ⟨cs, h1, h2⟩
  rw [cellsKeys] at hsz
  obtain ⟨l⟩ := cs
  obtain ⟨fuel, hf⟩ := h
  obtain ⟨xs, n, -, hx, -, hlen, hg⟩ := DataW.trod_array undKeys hf
  have hl0 : l.length = 6 := by simpa using hsz
  obtain ⟨u0, l0, rfl, hl1⟩ := list_cons hl0
  obtain ⟨u1, l1, rfl, hl2⟩ := list_cons hl1
  obtain ⟨u2, l2, rfl, hl3⟩ := list_cons hl2
  obtain ⟨u3, l3, rfl, hl4⟩ := list_cons hl3
  obtain ⟨u4, l4, rfl, hl5⟩ := list_cons hl4
  obtain ⟨u5, l5, rfl, hl6⟩ := list_cons hl5
  obtain rfl := list_nil hl6
  obtain ⟨y0, t0, rfl, hm1⟩ := list_cons hlen
  obtain ⟨y1, t1, rfl, hm2⟩ := list_cons hm1
  obtain ⟨y2, t2, rfl, hm3⟩ := list_cons hm2
  have h0 := hg 0 (by omega)
  have h1 := hg 1 (by omega)
  have h2 := hg 2 (by omega)
  rw [cellsKey] at h0 h1 h2
  obtain ⟨k0, n0, rfl, rfl⟩ := open_key (y := y0) h0
  obtain ⟨k1, n1, rfl, rfl⟩ := open_key (y := y1) h1
  obtain ⟨k2, n2, rfl, rfl⟩ := open_key (y := y2) h2
  exact ⟨k0, n0, k1, n1, k2, n2, rfl⟩

def cellsK (k : Int) (n : ByteArray) : Array Value := #[.int .u8 k, .string n]
def BoxK (W : World) (b : Nat) (k : Int) (n : ByteArray) : Prop := W.heap[b]? = some (.cells (cellsK k n) 35 (0, 0))
def BoxA (W : World) (b : Nat) (cs : Array Value) : Prop := W.heap[b]? = some (.cells cs 38 (0, 0))
section
variable {W W' : World} {b : Nat} {k : Int} {n : ByteArray} {cs : Array Value}
theorem BoxK.lt (h : BoxK W b k n) : b < W.heap.size := (Array.getElem?_eq_some_iff.1 h).1
theorem BoxK.after (h : BoxK W b k n) (hb : Below W.heap.size W W') : BoxK W' b k n := (hb.block b h.lt).trans h
theorem BoxK.drew (h : BoxK W b k n) : BoxK W.drew b k n := h
theorem BoxK.row (h : BoxK W b k n) {g : Nat} (hp : b ≠ g) (cs : Array Value) : BoxK (W.setRow g cs) b k n := (setRow_other W g b cs hp).trans h
theorem BoxK.setRow (h : BoxK W b k n) (k' : Int) (n' : ByteArray) : BoxK (W.setRow b (cellsK k' n')) b k' n' := setRow_heap W b _ _ _ _ h
theorem BoxA.lt (h : BoxA W b cs) : b < W.heap.size := (Array.getElem?_eq_some_iff.1 h).1
theorem BoxA.after (h : BoxA W b cs) (hb : Below W.heap.size W W') : BoxA W' b cs := (hb.block b h.lt).trans h
theorem BoxA.drew (h : BoxA W b cs) : BoxA W.drew b cs := h
theorem BoxA.row (h : BoxA W b cs) {g : Nat} (hp : b ≠ g) (ds : Array Value) : BoxA (W.setRow g ds) b cs := (setRow_other W g b ds hp).trans h
theorem BoxA.new (W : World) (cs : Array Value) : BoxA (W.alloc (.cells cs 38)) W.heap.size cs := heap_alloc_new W _
theorem load_cells {off : Nat} (h0 : W.cell? ⟨b, off, none⟩ = some (.int .u8 k)) (h1 : W.cell? ⟨b, off + 1, none⟩ = some (.string n)) {oi : Oper} {a : Act} {x : Operand} (ho : oi.op = .load 35 x) (hx : a.eval x = .pointer (some ⟨b, off, none⟩)) :
    (execOp a.eval oi).run Try.prog W = .ok (.value (encK k n)) W := by
  have hq := run_loadAt_mid (P := Try.prog) W b off 35 [.int .u8 k, .string n] _ (fun j v hv => by
    match j, hv with
    | 0, hv => exact h0.trans (by simpa using hv)
    | 1, hv => exact h1.trans (by simpa using hv)) undKey rfl sizeKey
  unfold execOp
  simp only [ho, hx, Sem.run_bind, hq, Result.andThen_ok, Sem.run_pure]
  rfl
/-- A key, loaded. -/
theorem load_key (h : BoxK W b k n) {oi : Oper} {a : Act} {x : Operand} (ho : oi.op = .load 35 x) (hx : a.eval x = .pointer (some ⟨b, 0, none⟩)) :
    (execOp a.eval oi).run Try.prog W = .ok (.value (encK k n)) W :=
  load_cells (cell_of_row W b 0 _ _ _ h) (cell_of_row W b 1 _ _ _ h) ho hx
/-- A key, stored. -/
theorem store_key {k' : Int} {n' : ByteArray} (h : BoxK W b k' n') {oi : Oper} {a : Act} {x y : Operand} (ho : oi.op = .store 35 x y) (hx : a.eval x = .pointer (some ⟨b, 0, none⟩)) (hy : a.eval y = encK k n) :
    (execOp a.eval oi).run Try.prog W = .ok .skip (W.setRow b (cellsK k n)) := by
  have hq := run_storeVar_row (P := Try.prog) W b 35 35 (cellsK k' n') (cellsK k n) h sizeKey rfl (by simp [cellsK, Value.oneCell'])
  have hy' : a.eval y = .agg (cellsK k n) := hy
  unfold execOp
  simp only [ho, hx, hy', Instr.storeAt, Instr.sureAddr, Sem.run_bind, Sem.run_pure, Result.andThen_ok, hq]
end
theorem makes_key {oi : Oper} (ho : oi.op = .alloc 35) : HeldBy.Makes Try.prog oi (.cells (cellsK 0 E0) 35) := by
  intro a w
  unfold execOp
  simp only [ho]
  kernel_rfl
theorem neq_key (k k' : Int) (n n' : ByteArray) (w : World) : (binOp .neq 35 (encK k n) (encK k' n')).run Try.prog w = .ok (.bool (!(decide (k = k') && decide (n.data.toList = n'.data.toList)))) w := by
  have h : (binOp .eql 35 (encK k n) (encK k' n')).run Try.prog w = .ok (.bool (decide (k = k') && decide (n.data.toList = n'.data.toList))) w := by
    unfold encK
    go_simp
    simp only [Lib.toList_data]
    by_cases e1 : k = k' <;> by_cases e2 : n.data = n'.data <;> simp [e1, e2]
  unfold encK at *
  rw [run_eql_struct] at h
  rw [run_neq_struct]
  generalize (Op.equalIn 10000 35 _ _).run Try.prog w = r at *
  cases r with
  | ok b w1 =>
    simp only [Result.andThen, Result.ok.injEq, Value.bool.injEq] at h ⊢
    rw [h.1, h.2]; exact ⟨rfl, rfl⟩
  | halt a b => simp [Result.andThen] at h
theorem neq_keys {oi : Oper} {a : Act} {x y : Operand} {k k' : Int} {n n' : ByteArray} {v : Bool} {W : World} (ho : oi.op = .binOp .neq 35 x y 35) (hx : a.eval x = encK k n) (hy : a.eval y = encK k' n')
    (hv : (!(decide (k = k') && decide (n.data.toList = n'.data.toList))) = v) : (execOp a.eval oi).run Try.prog W = .ok (.value (.bool v)) W := by
  have hq : (eqGuard .neq 35 x y (encK k n) (encK k' n')).run Try.prog W = .ok () W := run_eqGuard_agg W .neq 35 x y (cellsK k n) (cellsK k' n') (by kernel_rfl)
  unfold execOp
  simp only [ho, hx, hy, Sem.run_bind, hq, Result.andThen_ok, neq_key, hv, Sem.run_pure]
end Go.Proofs.Ytlnkhngfecdflaa.O
