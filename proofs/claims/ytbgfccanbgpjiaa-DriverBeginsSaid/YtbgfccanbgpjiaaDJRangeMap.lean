/- Own work. -/
import Derived.RangeFuncNested
import Derived.RangeFuncFrom
import Derived.RangeFuncBound
import Derived.RangeFuncCalls
import Derived.RangeFuncLeaves
import Derived.Below
import Derived.StillTail
import Derived.StillTactics
import Derived.OrdersIn
import Derived.TacticsIn
import Derived.KernelRfl
import Derived.TacticsInMore
import Derived.Test.YtbgfccanbgpjiaaDJ00
import Derived.Test.YtbgfccanbgpjiaaDIBase
namespace Go.RangeMap
open Go Go.RowKit
variable {P : Program} {F : Fence} {n : Nat}
def Stays (lo hi : Nat) (A B : World) : Prop := A.heap.size ≤ B.heap.size ∧ ∀ b, b < A.heap.size → ¬ (lo ≤ b ∧ b < hi) → B.heap[b]? = A.heap[b]?
theorem Stays.refl (lo hi : Nat) (A : World) : Stays lo hi A A := ⟨Nat.le_refl _, fun _ _ _ => rfl⟩
theorem Stays.trans {lo hi : Nat} {A B C : World} (h : Stays lo hi A B) (k : Stays lo hi B C) : Stays lo hi A C :=
  ⟨Nat.le_trans h.1 k.1, fun b hb hx => (k.2 b (Nat.lt_of_lt_of_le hb h.1) hx).trans (h.2 b hb hx)⟩
theorem Stays.of_below {lo hi : Nat} {A B : World} (h : Below A.heap.size A B) : Stays lo hi A B := ⟨h.size, fun b hb _ => h.block b hb⟩
def Kept (lo hi l : Nat) (A B : World) : Prop := A.heap.size ≤ B.heap.size ∧ ∀ b, b < A.heap.size → b ≠ l → ¬ (lo ≤ b ∧ b < hi) → B.heap[b]? = A.heap[b]?
theorem Kept.trans {lo hi l : Nat} {A B C : World} (h : Kept lo hi l A B) (k : Kept lo hi l B C) : Kept lo hi l A C :=
  ⟨Nat.le_trans h.1 k.1, fun b hb hl hx => (k.2 b (Nat.lt_of_lt_of_le hb h.1) hl hx).trans (h.2 b hb hl hx)⟩
theorem Stays.kept {lo hi l : Nat} {A B : World} (h : Stays lo hi A B) : Kept lo hi l A B := ⟨h.1, fun b hb _ hx => h.2 b hb hx⟩
theorem kept_put {lo hi l : Nat} {A : World} (o : Obj) : Kept lo hi l A (A.putObj l o) :=
  ⟨by simp [World.putObj], fun _ _ hl _ => World.putObj_heap_other (fun e => hl e)⟩
def Seq {α : Type} (F : Fence) (n : Nat) (P : Program) (g : Nat) (lb : Array Value) (encs : α → Array Value) (lo hi : Nat) (S Sp : List α → Prop) (N : Nat) (w : World) : Prop :=
  ∀ (l : Nat) (J Jx : List α → World → Prop) (W : World), Below w.heap.size w W → w.heap.size ≤ l → l < W.heap.size → OwnFrom W.heap.size J → OwnFrom W.heap.size Jx →
    (∀ pre x W1, J pre W1 → pre.length < N → YieldAt F (n - 1) P l (encs x) W1 fun e W' =>
      (e = .returned (.bool true) ∧ J (pre ++ [x]) W' ∧ Kept lo hi l W1 W') ∨ (e = .returned (.bool false) ∧ Jx (pre ++ [x]) W')) →
    J [] W →
    CallsIn F n P g (#[.func (.yield l) #[] #[]] ++ lb) W fun e W' => (∃ v, e = .returned v) ∧ ((∃ xs, S xs ∧ J xs W') ∨ (∃ pre, Sp pre ∧ Jx pre W'))
def After {α : Type} (lo hi : Nat) (I : List α → World → Prop) (Ix : Code → List α → World → Prop) (xs : List α) (W : World) : Exit → Act → World → Prop
  | .normal, _, W' => Stays lo hi W W' ∧ I xs W'
  | .ret, _, W' => Stays lo hi W W' ∧ Ix .ret xs W'
  | .exit id, _, W' => Stays lo hi W W' ∧ Ix (.exit id) xs W'
  | .goto t, _, W' => Stays lo hi W W' ∧ Ix (.goto t) xs W'
  | .panic _, _, _ => False
  | .outgrown, _, _ => False
theorem range {α : Type} {g : Operand} {ps : Array Tmp} {assign body : Code} {Q : Exit → Act → World → Prop} {a : Act} {w : World}
    (hro : F.round = none) (h1 : 1 ≤ n) {gf : Nat} {lb : Array Value} (hg : a.eval g = .func (.func gf) #[] lb) (hFg : F.fn gf) (eg : ∀ args w, (callFunc gf args).run P w = .ok (.enter gf args) w)
    {encs : α → Array Value} {lo hi : Nat} (hhi : hi ≤ w.heap.size) {S Sp : List α → Prop} {N : Nat} (hseq : Seq F (n - 1) P gf lb encs lo hi S Sp N w) (hps : ∀ x, (encs x).size = ps.size)
    (I : List α → World → Prop) (Ix : Code → List α → World → Prop) (hI : OwnFrom w.heap.size I) (hIx : ∀ c, OwnFrom w.heap.size (Ix c)) (h0 : I [] w)
    (Ax : List α → α → Act → World → Prop) (hAx : ∀ x a1, OwnFrom w.heap.size (fun pre => Ax pre x a1))
    (hassign : ∀ (l : Nat) (pre : List α) (x : α) (W : World), I pre W → pre.length < N → w.heap.size ≤ W.heap.size →
      assign.wpIn (F.inRound l) (n - 1 - 1) P (Exit.then (fun a1 W1 => Stays lo hi W W1 ∧ Ax pre x a1 W1) (fun _ _ _ => False)) { tmps := (ps.zip (encs x)).foldl (fun t (p, v) => t.setIfInBounds p v) a.tmps, defers := [] } W)
    (hbody : ∀ (l : Nat) (pre : List α) (x : α) (a1 : Act) (W1 : World), Ax pre x a1 W1 → pre.length < N → w.heap.size ≤ W1.heap.size → body.wpIn (F.inRound l) (n - 1 - 1) P (After lo hi I Ix (pre ++ [x]) W1) a1 W1)
    (hdone : ∀ (D : Nat) (xs : List α) (W : World), w.heap.size ≤ D → S xs → I xs W → W.heap[D]? = some (.deferred (some [])) → Q .normal { a with defers := { target := .collected D, args := #[] } :: a.defers } W)
    (hstop : ∀ (D : Nat) (c : Code) (pre : List α) (W : World), w.heap.size ≤ D → Sp pre → Ix c pre W → W.heap[D]? = some (.deferred (some [])) → c.wpIn F n P Q { a with defers := { target := .collected D, args := #[] } :: a.defers } W) :
    (Code.rangeFunc g ps assign body).wpIn F n P Q a w := by
  refine wpIn_rangeFunc ?_
  intro fn hfn
  rw [hro]
  obtain ⟨rec, hrec⟩ : ∃ rec : LoopState → Option Code → Loop, rec = fun st pe => { state := st, pending := pe, fn, tmps := a.tmps, params := ps, assign, body, defers := w.heap.size } := ⟨_, rfl⟩
  obtain ⟨L, hL⟩ : ∃ L, w.heap.size + 1 = L := ⟨_, rfl⟩
  obtain ⟨W1, hW1⟩ : ∃ W1, (w.alloc (.deferred (some []))).alloc (.loop (rec .ready none)) = W1 := ⟨_, rfl⟩
  have hsz : W1.heap.size = L + 1 := by rw [← hW1, ← hL]; simp
  have hl1 : W1.heap[L]? = some (.loop (rec .ready none)) := by
    have h := World.alloc_heap_new (w.alloc (.deferred (some []))) (.loop (rec .ready none))
    rw [World.size_alloc] at h
    rw [← hW1, ← hL]
    exact h
  have hk1 : W1.heap[w.heap.size]? = some (.deferred (some [])) := by
    rw [← hW1]
    exact (Below.heap_alloc _ _ _ (by simp)).trans (World.alloc_heap_new w _)
  have hi1 : I [] W1 := by
    rw [← hW1]
    exact hI.alloc _ (hI.alloc _ h0)
  have hb1 : Below w.heap.size w W1 := by
    rw [← hW1]
    exact ((Below.refl _ w).alloc (Nat.le_refl _) _).alloc (by simp) _
  -- the two blocks of the loop's own stay where a block beyond them turns
  have far : ∀ {A B : World} {row : Option Nat} (_ : A.grownBy B row) (_ : ∀ r, row = some r → W1.heap.size ≤ r ∧ ∃ o : Obj, A.heap[r]? = some o ∧ o.isCells = false) (b : Nat) (o : Obj), b ≤ L → A.heap[b]? = some o → B.heap[b]? = some o := by
    intro A B row hg hr b o hb ho
    refine (hg.block b (Array.getElem?_eq_some_iff.1 ho).1 (fun e => ?_)).trans ho
    have := (hr b e.symm).1
    omega
  have wide : ∀ {A : World} {row : Option Nat}, (∀ r, row = some r → W1.heap.size ≤ r ∧ ∃ o : Obj, A.heap[r]? = some o ∧ o.isCells = false) → ∀ r, row = some r → w.heap.size ≤ r ∧ ∃ o : Obj, A.heap[r]? = some o ∧ o.isCells = false :=
    fun hr r e => ⟨by have := (hr r e).1; omega, (hr r e).2⟩
  refine ⟨L, [{ target := .collected w.heap.size, args := #[] }], W1, { target := .fn (.func gf) lb, args := #[.func (.yield L) #[] #[]] }, W1, gf, #[.func (.yield L) #[] #[]] ++ lb, W1, ?_, ?_, ?_, ?_, fun _ => h1, ?_⟩
  · rw [← hW1, ← hL, hrec]
    exact run_enterLoop_outer _ _ _ _ _
  · simp only [resolve, hg]
    simp [go_sem]
  · intro f' hf'
    simp [Target.leads] at hf'
    subst hf'
    exact hFg
  · simp [invoke, go_sem, eg]
  · refine (hseq L (fun pre W => I pre W ∧ W.heap[L]? = some (.loop (rec .ready none)) ∧ W.heap[w.heap.size]? = some (.deferred (some [])))
      (fun pre W => ∃ c, Ix c pre W ∧ W.heap[L]? = some (.loop (rec .done (some c))) ∧ W.heap[w.heap.size]? = some (.deferred (some [])))
      W1 hb1 (by omega) (by omega)
      (fun s A B row hs hg' hr => ⟨hI s A B row hs.1 hg' (wide hr), far hg' hr L _ (Nat.le_refl _) hs.2.1, far hg' hr _ _ (by omega) hs.2.2⟩)
      (fun s A B row ⟨c, h1, h2, h3⟩ hg' hr => ⟨c, hIx c s A B row h1 hg' (wide hr), far hg' hr L _ (Nat.le_refl _) h2, far hg' hr _ _ (by omega) h3⟩)
      ?_ ⟨hi1, hl1, hk1⟩).mono ?_
    · rintro pre x W ⟨hiW, hl, hk⟩ hlen
      have hWL : L < W.heap.size := (Array.getElem?_eq_some_iff.1 hl).1
      have hy := run_yield (P := P) (args := encs x) hl (by rw [hrec]; exact hps x)
      rw [hrec] at hy
      refine ⟨fn, _, assign, body, hy, roundIn_of_wpIn hfn (wpIn_mono (hassign L pre x W hiW hlen (by omega)) ?_)⟩
      rintro e a1 V hp
      cases e with
      | normal =>
        obtain ⟨hst, hax⟩ := hp
        have hlV : V.heap[L]? = some (.loop (rec .ready none)) := (hst.2 L hWL (by omega)).trans hl
        have hkV : V.heap[w.heap.size]? = some (.deferred (some [])) := (hst.2 _ (by omega) (by omega)).trans hk
        have hVL : L < V.heap.size := (Array.getElem?_eq_some_iff.1 hlV).1
        refine ⟨_, run_beginRound hlV (by rw [hrec]), ?_⟩
        obtain ⟨V2, hV2⟩ : ∃ V2, V.putObj L (.loop { rec .ready none with state := .busy }) = V2 := ⟨_, rfl⟩
        rw [hV2]
        have hl2 : V2.heap[L]? = some (.loop { rec .ready none with state := .busy }) := by rw [← hV2]; exact World.putObj_heap_same hVL
        have hk2 : V2.heap[w.heap.size]? = some (.deferred (some [])) := by rw [← hV2]; exact (World.putObj_heap_other (by omega)).trans hkV
        have hax2 : Ax pre x a1 V2 := by rw [← hV2]; exact (hAx x a1).putObj (s := pre) _ hax (by omega) hlV rfl
        have hkp2 : Kept lo hi L W V2 := by rw [← hV2]; exact hst.kept.trans (kept_put _)
        have h2L : L < V2.heap.size := (Array.getElem?_eq_some_iff.1 hl2).1
        refine wpIn_mono (hbody L pre x a1 V2 hax2 hlen (by omega)) ?_
        have fin : ∀ (jump : Option Code) (V3 : World), Stays lo hi V2 V3 →
            (Instr.endRound L jump).run P V3 = .ok (.bool jump.isNone) (V3.putObj L (.loop (rec (if jump.isNone then .ready else .done) jump))) ∧
            V3.heap[L]? = some (.loop { rec .ready none with state := .busy }) ∧
            (V3.putObj L (.loop (rec (if jump.isNone then .ready else .done) jump))).heap[L]? = some (.loop (rec (if jump.isNone then .ready else .done) jump)) ∧
            (V3.putObj L (.loop (rec (if jump.isNone then .ready else .done) jump))).heap[w.heap.size]? = some (.deferred (some [])) := fun jump V3 h3 => by
          have hl3 := (h3.2 L h2L (by omega)).trans hl2
          have hk3 := (h3.2 _ (by omega) (by omega)).trans hk2
          have he := run_endRound (P := P) jump hl3
          rw [hrec] at he ⊢
          exact ⟨he, by rw [hrec] at hl3; exact hl3, World.putObj_heap_same (Array.getElem?_eq_some_iff.1 hl3).1, (World.putObj_heap_other (by omega)).trans hk3⟩
        rintro e2 a3 V3 hp2
        cases e2 with
        | normal =>
          obtain ⟨hs3, hi3⟩ := hp2
          obtain ⟨hr, hl3, hl4, hk4⟩ := fin none V3 hs3
          exact ⟨_, _, hr, .inl ⟨rfl, ⟨hI.putObj _ hi3 (by omega) hl3 rfl, hl4, hk4⟩, (hkp2.trans hs3.kept).trans (kept_put _)⟩⟩
        | ret =>
          obtain ⟨hs3, hi3⟩ := hp2
          obtain ⟨hr, hl3, hl4, hk4⟩ := fin (some .ret) V3 hs3
          exact ⟨_, _, hr, .inr ⟨rfl, .ret, (hIx _).putObj _ hi3 (by omega) hl3 rfl, hl4, hk4⟩⟩
        | exit id =>
          obtain ⟨hs3, hi3⟩ := hp2
          obtain ⟨hr, hl3, hl4, hk4⟩ := fin (some (.exit id)) V3 hs3
          exact ⟨_, _, hr, .inr ⟨rfl, .exit id, (hIx _).putObj _ hi3 (by omega) hl3 rfl, hl4, hk4⟩⟩
        | goto t =>
          obtain ⟨hs3, hi3⟩ := hp2
          obtain ⟨hr, hl3, hl4, hk4⟩ := fin (some (.goto t)) V3 hs3
          exact ⟨_, _, hr, .inr ⟨rfl, .goto t, (hIx _).putObj _ hi3 (by omega) hl3 rfl, hl4, hk4⟩⟩
        | panic ch => exact hp2.elim
        | outgrown => exact hp2.elim
      | _ => exact hp.elim
    · rintro e W2 ⟨⟨v, rfl⟩, (⟨xs, hS, hi, hl, hk⟩ | ⟨pre, hSp, c, hi, hl, hk⟩)⟩
      · exact ⟨none, _, by have := run_endLoop (P := P) hl (by rw [hrec]; simp); rw [hrec] at this; exact this, hdone _ xs _ (Nat.le_refl _) hS (hI.putObj _ hi (by omega) hl rfl) ((World.putObj_heap_other (by omega)).trans hk)⟩
      · exact ⟨some c, _, by have := run_endLoop (P := P) hl (by rw [hrec]; simp); rw [hrec] at this; exact this, hstop _ c pre _ (Nat.le_refl _) hSp ((hIx c).putObj _ hi (by omega) hl rfl) ((World.putObj_heap_other (by omega)).trans hk)⟩
end Go.RangeMap
namespace Go.StillIn
open Go
def plainOp : Op → Bool
  | .move _ | .assign _ | .pick _ _ _ | .load _ _ | .binOp _ _ _ _ _ | .unOp _ _ _ | .convert _ _ _ | .makeInterface _ _ | .makeFunc _ _ _ | .slice _ _ _ _ _ | .fieldAddr _ _ _ | .field _ _ _ | .indexAddr _ _ _ | .index _ _ _ | .lookup _ _ _ _ | .extract _ _ => true
  | _ => false
section
variable {P : Program} {ops : Array Oper} {md : Region.Mode} {w : World} {F : Fence} {n : Nat}
theorem plain_about {o : Oper} {ρ : Operand → Value} (hp : plainOp o.op = true) : o.about P w ρ = none := by
  unfold Oper.about
  revert hp
  cases o.op <;> intro hp <;> first | rfl | (simp [plainOp] at hp; done)
theorem plain_semAt {ro : Option Nat} {o : Oper} {ρ : Operand → Value} (hp : plainOp o.op = true) : o.semAt ro ρ = execOp ρ o :=
  Oper.semAt_eq ro ρ o (fun c e => by rw [e] at hp; simp [plainOp] at hp)
end
end Go.StillIn
namespace Go.KnownIn
open Go StillIn
variable {F : Fence} {n : Nat} {P : Program} {ops : Array Oper} {Q : Exit → Act → World → Prop} {a : Act} {w w' : World} {rest : List Oper} {o : Oper}
theorem value {v : Value} (hg : o.guard = none) (hp : plainOp o.op = true) (hv : (execOp a.eval o).run P w = .ok (.value v) w') (hn : wpListIn F n P ops Q rest (a.put o.dst v) w') : wpListIn F n P ops Q (o :: rest) a w := by
  refine wpListIn_plain hg fun K hK => ?_
  refine ⟨(fun f hf => by rw [plain_about hp] at hf; cases hf), ?_⟩
  rw [plain_semAt hp, hv]
  exact hK _ _ hn
theorem skip (hg : o.guard = none) (hd : ∀ c, o.op ≠ .defer c) (ha : o.about P w a.eval = none) (hv : (execOp a.eval o).run P w = .ok .skip w') (hn : wpListIn F n P ops Q rest (a.put o.dst undef) w') : wpListIn F n P ops Q (o :: rest) a w := by
  refine wpListIn_plain hg fun K hK => ?_
  refine ⟨(fun f hf => by rw [ha] at hf; cases hf), ?_⟩
  rw [Oper.semAt_eq _ _ o hd, hv]
  exact hK _ _ hn
theorem gen {l : List Oper} (G : World → Prop) (hG : G w) (h : ∀ W1, G W1 → wpListIn F n P ops Q l a W1) : wpListIn F n P ops Q l a w := h w hG
end Go.KnownIn
namespace Go.RangeRow
open Go Go.RowKit
variable {P : Program} {F : Fence} {n : Nat}
def NoRow (E : TypeId) (A : World) (b : Nat) : Prop := ∀ cs f, A.heap[b]? ≠ some (.cells cs E f)
theorem NoRow.of {E : TypeId} {A B : World} {b : Nat} (h : NoRow E A b) (he : B.heap[b]? = A.heap[b]?) : NoRow E B b := fun cs f e => h cs f (he.symm.trans e)
theorem noRow_of {E : TypeId} {A : World} {b : Nat} {o : Obj} (h : A.heap[b]? = some o) (ho : ∀ cs f, o ≠ .cells cs E f) : NoRow E A b := fun cs f e => by
  rw [h] at e
  exact ho cs f (Option.some.inj e)
def Stays (lo hi N : Nat) (E : TypeId) (A B : World) : Prop := A.heap.size ≤ B.heap.size ∧ ∀ b, b < A.heap.size → ¬ (lo ≤ b ∧ b < hi) → (b < N ∨ NoRow E A b) → B.heap[b]? = A.heap[b]?
theorem Stays.refl (lo hi N : Nat) (E : TypeId) (A : World) : Stays lo hi N E A A := ⟨Nat.le_refl _, fun _ _ _ _ => rfl⟩
theorem Stays.trans {lo hi N : Nat} {E : TypeId} {A B C : World} (h : Stays lo hi N E A B) (k : Stays lo hi N E B C) : Stays lo hi N E A C :=
  ⟨Nat.le_trans h.1 k.1, fun b hb hx hr => (k.2 b (Nat.lt_of_lt_of_le hb h.1) hx (hr.imp id (fun q => q.of (h.2 b hb hx (.inr q))))).trans (h.2 b hb hx hr)⟩
theorem Stays.of_below {lo hi N : Nat} {E : TypeId} {A B : World} (h : Below A.heap.size A B) : Stays lo hi N E A B := ⟨h.size, fun b hb _ _ => h.block b hb⟩
def Kept (lo hi N : Nat) (E : TypeId) (l : Nat) (A B : World) : Prop := A.heap.size ≤ B.heap.size ∧ ∀ b, b < A.heap.size → b ≠ l → ¬ (lo ≤ b ∧ b < hi) → (b < N ∨ NoRow E A b) → B.heap[b]? = A.heap[b]?
theorem Kept.trans {lo hi N l : Nat} {E : TypeId} {A B C : World} (h : Kept lo hi N E l A B) (k : Kept lo hi N E l B C) : Kept lo hi N E l A C :=
  ⟨Nat.le_trans h.1 k.1, fun b hb hl hx hr => (k.2 b (Nat.lt_of_lt_of_le hb h.1) hl hx (hr.imp id (fun q => q.of (h.2 b hb hl hx (.inr q))))).trans (h.2 b hb hl hx hr)⟩
theorem Stays.kept {lo hi N l : Nat} {E : TypeId} {A B : World} (h : Stays lo hi N E A B) : Kept lo hi N E l A B := ⟨h.1, fun b hb _ hx hr => h.2 b hb hx hr⟩
theorem kept_put {lo hi N l : Nat} {E : TypeId} {A : World} (o : Obj) : Kept lo hi N E l A (A.putObj l o) :=
  ⟨by simp [World.putObj], fun _ _ hl _ _ => World.putObj_heap_other (fun e => hl e)⟩
theorem Stays.keep {lo hi N : Nat} {E : TypeId} {A B : World} (h : Stays lo hi N E A B) {b : Nat} {o : Obj} (ho : A.heap[b]? = some o) (hx : ¬ (lo ≤ b ∧ b < hi)) (hr : ∀ cs f, o ≠ .cells cs E f) : B.heap[b]? = some o :=
  (h.2 b (Array.getElem?_eq_some_iff.1 ho).1 hx (.inr (noRow_of ho hr))).trans ho
theorem Kept.keep {lo hi N l : Nat} {E : TypeId} {A B : World} (h : Kept lo hi N E l A B) {b : Nat} {o : Obj} (ho : A.heap[b]? = some o) (hl : b ≠ l) (hx : ¬ (lo ≤ b ∧ b < hi)) (hr : ∀ cs f, o ≠ .cells cs E f) : B.heap[b]? = some o :=
  (h.2 b (Array.getElem?_eq_some_iff.1 ho).1 hl hx (.inr (noRow_of ho hr))).trans ho
def Seq {α : Type} (F : Fence) (n : Nat) (P : Program) (g : Nat) (lb : Array Value) (encs : α → Array Value) (lo hi N0 : Nat) (E : TypeId) (S Sp : List α → Prop) (N : Nat) (w : World) : Prop :=
  ∀ (l : Nat) (J Jx : List α → World → Prop) (W : World), Below w.heap.size w W → w.heap.size ≤ l → l < W.heap.size → OwnFrom W.heap.size J → OwnFrom W.heap.size Jx →
    (∀ pre x W1, J pre W1 → pre.length < N → YieldAt F (n - 1) P l (encs x) W1 fun e W' =>
      (e = .returned (.bool true) ∧ J (pre ++ [x]) W' ∧ Kept lo hi N0 E l W1 W') ∨ (e = .returned (.bool false) ∧ Jx (pre ++ [x]) W' ∧ Kept lo hi N0 E l W1 W')) →
    J [] W →
    CallsIn F n P g (#[.func (.yield l) #[] #[]] ++ lb) W fun e W' => (∃ v, e = .returned v) ∧ ((∃ xs, S xs ∧ J xs W') ∨ (∃ pre, Sp pre ∧ Jx pre W'))
def After {α : Type} (lo hi N0 : Nat) (E : TypeId) (I : List α → World → Prop) (Ix : Code → List α → World → Prop) (xs : List α) (W : World) : Exit → Act → World → Prop
  | .normal, _, W' => Stays lo hi N0 E W W' ∧ I xs W'
  | .ret, _, W' => Stays lo hi N0 E W W' ∧ Ix .ret xs W'
  | .exit id, _, W' => Stays lo hi N0 E W W' ∧ Ix (.exit id) xs W'
  | .goto t, _, W' => Stays lo hi N0 E W W' ∧ Ix (.goto t) xs W'
  | .panic _, _, _ => False
  | .outgrown, _, _ => False
theorem range {α : Type} {g : Operand} {ps : Array Tmp} {assign body : Code} {Q : Exit → Act → World → Prop} {a : Act} {w : World}
    (hro : F.round = none) (h1 : 1 ≤ n) {gf : Nat} {lb : Array Value} (hg : a.eval g = .func (.func gf) #[] lb) (hFg : F.fn gf) (eg : ∀ args w, (callFunc gf args).run P w = .ok (.enter gf args) w)
    {encs : α → Array Value} {lo hi N0 : Nat} {E : TypeId} (hhi : hi ≤ w.heap.size) {S Sp : List α → Prop} {N : Nat} (hseq : Seq F (n - 1) P gf lb encs lo hi N0 E S Sp N w) (hps : ∀ x, (encs x).size = ps.size)
    (I : List α → World → Prop) (Ix : Code → List α → World → Prop) (hI : OwnFrom w.heap.size I) (hIx : ∀ c, OwnFrom w.heap.size (Ix c)) (h0 : I [] w)
    (Ax : List α → α → Act → World → Prop) (hAx : ∀ x a1, OwnFrom w.heap.size (fun pre => Ax pre x a1))
    (hassign : ∀ (l : Nat) (pre : List α) (x : α) (W : World), I pre W → pre.length < N → w.heap.size ≤ W.heap.size →
      assign.wpIn (F.inRound l) (n - 1 - 1) P (Exit.then (fun a1 W1 => Stays lo hi N0 E W W1 ∧ Ax pre x a1 W1) (fun _ _ _ => False)) { tmps := (ps.zip (encs x)).foldl (fun t (p, v) => t.setIfInBounds p v) a.tmps, defers := [] } W)
    (hbody : ∀ (l : Nat) (pre : List α) (x : α) (a1 : Act) (W1 : World), Ax pre x a1 W1 → pre.length < N → w.heap.size ≤ W1.heap.size → body.wpIn (F.inRound l) (n - 1 - 1) P (After lo hi N0 E I Ix (pre ++ [x]) W1) a1 W1)
    (hdone : ∀ (D : Nat) (xs : List α) (W : World), w.heap.size ≤ D → S xs → I xs W → W.heap[D]? = some (.deferred (some [])) → Q .normal { a with defers := { target := .collected D, args := #[] } :: a.defers } W)
    (hstop : ∀ (D : Nat) (c : Code) (pre : List α) (W : World), w.heap.size ≤ D → Sp pre → Ix c pre W → W.heap[D]? = some (.deferred (some [])) → c.wpIn F n P Q { a with defers := { target := .collected D, args := #[] } :: a.defers } W) :
    (Code.rangeFunc g ps assign body).wpIn F n P Q a w := by
  refine wpIn_rangeFunc ?_
  intro fn hfn
  rw [hro]
  obtain ⟨rec, hrec⟩ : ∃ rec : LoopState → Option Code → Loop, rec = fun st pe => { state := st, pending := pe, fn, tmps := a.tmps, params := ps, assign, body, defers := w.heap.size } := ⟨_, rfl⟩
  obtain ⟨L, hL⟩ : ∃ L, w.heap.size + 1 = L := ⟨_, rfl⟩
  obtain ⟨W1, hW1⟩ : ∃ W1, (w.alloc (.deferred (some []))).alloc (.loop (rec .ready none)) = W1 := ⟨_, rfl⟩
  have hsz : W1.heap.size = L + 1 := by rw [← hW1, ← hL]; simp
  have hl1 : W1.heap[L]? = some (.loop (rec .ready none)) := by
    have h := World.alloc_heap_new (w.alloc (.deferred (some []))) (.loop (rec .ready none))
    rw [World.size_alloc] at h
    rw [← hW1, ← hL]
    exact h
  have hk1 : W1.heap[w.heap.size]? = some (.deferred (some [])) := by
    rw [← hW1]
    exact (Below.heap_alloc _ _ _ (by simp)).trans (World.alloc_heap_new w _)
  have hi1 : I [] W1 := by
    rw [← hW1]
    exact hI.alloc _ (hI.alloc _ h0)
  have hb1 : Below w.heap.size w W1 := by
    rw [← hW1]
    exact ((Below.refl _ w).alloc (Nat.le_refl _) _).alloc (by simp) _
  -- the two blocks of the loop's own stay where a block beyond them turns
  have far : ∀ {A B : World} {row : Option Nat} (_ : A.grownBy B row) (_ : ∀ r, row = some r → W1.heap.size ≤ r ∧ ∃ o : Obj, A.heap[r]? = some o ∧ o.isCells = false) (b : Nat) (o : Obj), b ≤ L → A.heap[b]? = some o → B.heap[b]? = some o := by
    intro A B row hg hr b o hb ho
    refine (hg.block b (Array.getElem?_eq_some_iff.1 ho).1 (fun e => ?_)).trans ho
    have := (hr b e.symm).1
    omega
  have wide : ∀ {A : World} {row : Option Nat}, (∀ r, row = some r → W1.heap.size ≤ r ∧ ∃ o : Obj, A.heap[r]? = some o ∧ o.isCells = false) → ∀ r, row = some r → w.heap.size ≤ r ∧ ∃ o : Obj, A.heap[r]? = some o ∧ o.isCells = false :=
    fun hr r e => ⟨by have := (hr r e).1; omega, (hr r e).2⟩
  refine ⟨L, [{ target := .collected w.heap.size, args := #[] }], W1, { target := .fn (.func gf) lb, args := #[.func (.yield L) #[] #[]] }, W1, gf, #[.func (.yield L) #[] #[]] ++ lb, W1, ?_, ?_, ?_, ?_, fun _ => h1, ?_⟩
  · rw [← hW1, ← hL, hrec]
    exact run_enterLoop_outer _ _ _ _ _
  · simp only [resolve, hg]
    simp [go_sem]
  · intro f' hf'
    simp [Target.leads] at hf'
    subst hf'
    exact hFg
  · simp [invoke, go_sem, eg]
  · refine (hseq L (fun pre W => I pre W ∧ W.heap[L]? = some (.loop (rec .ready none)) ∧ W.heap[w.heap.size]? = some (.deferred (some [])))
      (fun pre W => ∃ c, Ix c pre W ∧ W.heap[L]? = some (.loop (rec .done (some c))) ∧ W.heap[w.heap.size]? = some (.deferred (some [])))
      W1 hb1 (by omega) (by omega)
      (fun s A B row hs hg' hr => ⟨hI s A B row hs.1 hg' (wide hr), far hg' hr L _ (Nat.le_refl _) hs.2.1, far hg' hr _ _ (by omega) hs.2.2⟩)
      (fun s A B row ⟨c, h1, h2, h3⟩ hg' hr => ⟨c, hIx c s A B row h1 hg' (wide hr), far hg' hr L _ (Nat.le_refl _) h2, far hg' hr _ _ (by omega) h3⟩)
      ?_ ⟨hi1, hl1, hk1⟩).mono ?_
    · rintro pre x W ⟨hiW, hl, hk⟩ hlen
      have hWL : L < W.heap.size := (Array.getElem?_eq_some_iff.1 hl).1
      have hy := run_yield (P := P) (args := encs x) hl (by rw [hrec]; exact hps x)
      rw [hrec] at hy
      refine ⟨fn, _, assign, body, hy, roundIn_of_wpIn hfn (wpIn_mono (hassign L pre x W hiW hlen (by omega)) ?_)⟩
      rintro e a1 V hp
      cases e with
      | normal =>
        obtain ⟨hst, hax⟩ := hp
        have hlV : V.heap[L]? = some (.loop (rec .ready none)) := hst.keep hl (by omega) (by intro cs f e; cases e)
        have hkV : V.heap[w.heap.size]? = some (.deferred (some [])) := hst.keep hk (by omega) (by intro cs f e; cases e)
        have hVL : L < V.heap.size := (Array.getElem?_eq_some_iff.1 hlV).1
        refine ⟨_, run_beginRound hlV (by rw [hrec]), ?_⟩
        obtain ⟨V2, hV2⟩ : ∃ V2, V.putObj L (.loop { rec .ready none with state := .busy }) = V2 := ⟨_, rfl⟩
        rw [hV2]
        have hl2 : V2.heap[L]? = some (.loop { rec .ready none with state := .busy }) := by rw [← hV2]; exact World.putObj_heap_same hVL
        have hk2 : V2.heap[w.heap.size]? = some (.deferred (some [])) := by rw [← hV2]; exact (World.putObj_heap_other (by omega)).trans hkV
        have hax2 : Ax pre x a1 V2 := by rw [← hV2]; exact (hAx x a1).putObj (s := pre) _ hax (by omega) hlV rfl
        have hkp2 : Kept lo hi N0 E L W V2 := by rw [← hV2]; exact hst.kept.trans (kept_put _)
        have h2L : L < V2.heap.size := (Array.getElem?_eq_some_iff.1 hl2).1
        refine wpIn_mono (hbody L pre x a1 V2 hax2 hlen (by omega)) ?_
        have fin : ∀ (jump : Option Code) (V3 : World), Stays lo hi N0 E V2 V3 →
            (Instr.endRound L jump).run P V3 = .ok (.bool jump.isNone) (V3.putObj L (.loop (rec (if jump.isNone then .ready else .done) jump))) ∧
            V3.heap[L]? = some (.loop { rec .ready none with state := .busy }) ∧
            (V3.putObj L (.loop (rec (if jump.isNone then .ready else .done) jump))).heap[L]? = some (.loop (rec (if jump.isNone then .ready else .done) jump)) ∧
            (V3.putObj L (.loop (rec (if jump.isNone then .ready else .done) jump))).heap[w.heap.size]? = some (.deferred (some [])) := fun jump V3 h3 => by
          have hl3 := h3.keep hl2 (by omega) (by intro cs f e; cases e)
          have hk3 := h3.keep hk2 (by omega) (by intro cs f e; cases e)
          have he := run_endRound (P := P) jump hl3
          rw [hrec] at he ⊢
          exact ⟨he, by rw [hrec] at hl3; exact hl3, World.putObj_heap_same (Array.getElem?_eq_some_iff.1 hl3).1, (World.putObj_heap_other (by omega)).trans hk3⟩
        rintro e2 a3 V3 hp2
        cases e2 with
        | normal =>
          obtain ⟨hs3, hi3⟩ := hp2
          obtain ⟨hr, hl3, hl4, hk4⟩ := fin none V3 hs3
          exact ⟨_, _, hr, .inl ⟨rfl, ⟨hI.putObj _ hi3 (by omega) hl3 rfl, hl4, hk4⟩, (hkp2.trans hs3.kept).trans (kept_put _)⟩⟩
        | ret =>
          obtain ⟨hs3, hi3⟩ := hp2
          obtain ⟨hr, hl3, hl4, hk4⟩ := fin (some .ret) V3 hs3
          exact ⟨_, _, hr, .inr ⟨rfl, ⟨.ret, (hIx _).putObj _ hi3 (by omega) hl3 rfl, hl4, hk4⟩, (hkp2.trans hs3.kept).trans (kept_put _)⟩⟩
        | exit id =>
          obtain ⟨hs3, hi3⟩ := hp2
          obtain ⟨hr, hl3, hl4, hk4⟩ := fin (some (.exit id)) V3 hs3
          exact ⟨_, _, hr, .inr ⟨rfl, ⟨.exit id, (hIx _).putObj _ hi3 (by omega) hl3 rfl, hl4, hk4⟩, (hkp2.trans hs3.kept).trans (kept_put _)⟩⟩
        | goto t =>
          obtain ⟨hs3, hi3⟩ := hp2
          obtain ⟨hr, hl3, hl4, hk4⟩ := fin (some (.goto t)) V3 hs3
          exact ⟨_, _, hr, .inr ⟨rfl, ⟨.goto t, (hIx _).putObj _ hi3 (by omega) hl3 rfl, hl4, hk4⟩, (hkp2.trans hs3.kept).trans (kept_put _)⟩⟩
        | panic ch => exact hp2.elim
        | outgrown => exact hp2.elim
      | _ => exact hp.elim
    · rintro e W2 ⟨⟨v, rfl⟩, (⟨xs, hS, hi, hl, hk⟩ | ⟨pre, hSp, c, hi, hl, hk⟩)⟩
      · exact ⟨none, _, by have := run_endLoop (P := P) hl (by rw [hrec]; simp); rw [hrec] at this; exact this, hdone _ xs _ (Nat.le_refl _) hS (hI.putObj _ hi (by omega) hl rfl) ((World.putObj_heap_other (by omega)).trans hk)⟩
      · exact ⟨some c, _, by have := run_endLoop (P := P) hl (by rw [hrec]; simp); rw [hrec] at this; exact this, hstop _ c pre _ (Nat.le_refl _) hSp ((hIx c).putObj _ hi (by omega) hl rfl) ((World.putObj_heap_other (by omega)).trans hk)⟩
end Go.RangeRow
namespace Go.Proofs.Ytbgfccanbgpjiaa.O
open Go.RowKit Go.Lib T
theorem isN_iff {c : UInt8} : isN c = true ↔ c.toNat = 35 ∨ (45 ≤ c.toNat ∧ c.toNat ≤ 57) ∨ (97 ≤ c.toNat ∧ c.toNat ≤ 122) := by
  unfold isN isW
  simp only [Bool.or_eq_true, Bool.and_eq_true, decide_eq_true_eq]
  omega
theorem beq_no {a b : Int} (h : a ≠ b) : (a == b) = false := by simpa using h
set_option maxHeartbeats 1000000 in
theorem refName_any (s : ByteArray) (w : World) (hs : s.size ≤ 9223372036854775807) :
    Calls Try.prog 43 #[.string s] w fun e w' => e = .returned (.bool (nameB s.data.toList)) ∧ w = w' := by
  go_enter Try.func43, Try.ntmps43
  go_wp2
  go_loop [3] (fun i => ∃ k : Nat, k ≤ s.size ∧ i = .int .i64 k ∧ Hid ((s.data.toList.take k).all isN = true)) (fun i => s.size - (intOf i).toNat)
  case atStart => exact ⟨0, Nat.zero_le _, rfl, by show _ = _; simp⟩
  case round =>
    obtain ⟨k, hk, rfl, hd⟩ := hrel
    by_cases hp : k < s.size
    · cases hn : isN s[k] with
      | true =>
        have hd' := Lib.hid (allN_snoc hp hd.out hn)
        have hc := isN_iff.1 hn
        clear hd hn
        have hcase : s[k].toNat = 35 ∨ s[k].toNat = 45 ∨ s[k].toNat = 46 ∨ s[k].toNat = 47 ∨ (48 ≤ s[k].toNat ∧ s[k].toNat ≤ 57) ∨ (97 ≤ s[k].toNat ∧ s[k].toNat ≤ 122) := by omega
        clear hc
        rcases hcase with h | h | h | h | ⟨h, h'⟩ | ⟨h, h'⟩
        all_goals
          try have e35 := beq_no (a := (s[k].toNat : Int)) (b := 35) (by omega)
          try have e45 := beq_no (a := (s[k].toNat : Int)) (b := 45) (by omega)
          try have e46 := beq_no (a := (s[k].toNat : Int)) (b := 46) (by omega)
          try have e47 := beq_no (a := (s[k].toNat : Int)) (b := 47) (by omega)
          go_wp2
          all_goals
            go_round
            case rel => exact ⟨k + 1, by omega, by go_num, hd'⟩
            case measure => simp [intOf]; omega
      | false =>
        have hn' := Lib.hid (nameB_not (allN_not hp hn))
        have hc : ¬ (s[k].toNat = 35 ∨ (45 ≤ s[k].toNat ∧ s[k].toNat ≤ 57) ∨ (97 ≤ s[k].toNat ∧ s[k].toNat ≤ 122)) := fun e => by rw [isN_iff.2 e] at hn; cases hn
        clear hd hn
        have e35 := beq_no (a := (s[k].toNat : Int)) (b := 35) (by omega)
        have e45 := beq_no (a := (s[k].toNat : Int)) (b := 45) (by omega)
        have e46 := beq_no (a := (s[k].toNat : Int)) (b := 46) (by omega)
        have e47 := beq_no (a := (s[k].toNat : Int)) (b := 47) (by omega)
        have hcase : s[k].toNat < 48 ∨ (57 < s[k].toNat ∧ s[k].toNat < 97) ∨ 122 < s[k].toNat := by omega
        clear hc
        rcases hcase with h | ⟨h, h'⟩ | h
        all_goals
          try have d57 : decide ((s[k].toNat : Int) ≤ 57) = false := decide_eq_false (by omega)
          try have d122 : decide ((s[k].toNat : Int) ≤ 122) = false := decide_eq_false (by omega)
          go_wp2
          go_ret
          exact ⟨ret_bool hn'.out.symm, rfl⟩
    · have hall : Hid (s.data.toList.all isN = true) := by
        have := hd.out
        rwa [List.take_of_length_le (by rw [size_list]; omega)] at this
      clear hd
      by_cases h1 : s.size < 1
      · have H := Lib.hid (nameB_off (.inl h1))
        go_wp2
        go_ret
        exact ⟨ret_bool H.out.symm, rfl⟩
      have g1 : 1 ≤ s.size := by omega
      by_cases h2 : 40 < s.size
      · have H := Lib.hid (nameB_off (.inr h2))
        go_wp2
        go_ret
        exact ⟨ret_bool (by rw [H.out]; simp; omega), rfl⟩
      have g2 : s.size ≤ 40 := by omega
      have H : Hid (nameB s.data.toList = true) := (nameB_mid g1 g2).trans hall.out
      clear h1 h2
      go_wp2
      go_ret
      exact ⟨ret_bool (by rw [H.out]; simp; omega), rfl⟩
end Go.Proofs.Ytbgfccanbgpjiaa.O
namespace Go.Proofs.Ytbgfccanbgpjiaa.O.I
open Go Go.RowKit Go.Lib KM
attribute [local go_sem] Oper.semAt_some
theorem exec_neqI {W : World} {t : TypeId} {k : IntKind} {p q : Int} {b : Bool} {oi : Oper} {a : Act} {x y : Operand} {ty : TypeId} (_hu : Try.prog.underlying t = some (.int k)) (ho : oi.op = .binOp .neq t x y ty) (hx : a.eval x = .int k p) (hy : a.eval y = .int k q) (hv : (!decide (p = q)) = b) :
    (execOp a.eval oi).run Try.prog W = .ok (.value (.bool b)) W := by
  subst hv
  unfold execOp
  simp only [ho, hx, hy]
  go_simp
  try rfl
theorem exec_eqI {W : World} {r s : Int} {v : Bool} {oi : Oper} {a : Act} {x y : Operand} {t : TypeId} (ho : oi.op = .binOp .eql 2 x y t) (hx : a.eval x = .int .i64 r) (hy : a.eval y = .int .i64 s) (hv : decide (r = s) = v) :
    (execOp a.eval oi).run Try.prog W = .ok (.value (.bool v)) W := by
  subst hv
  unfold execOp
  simp only [ho, hx, hy]
  go_simp
  try rfl
theorem exec_ltI {W : World} {r s : Int} {v : Bool} {oi : Oper} {a : Act} {x y : Operand} {t : TypeId} (ho : oi.op = .binOp .lss 2 x y t) (hx : a.eval x = .int .i64 r) (hy : a.eval y = .int .i64 s) (hv : decide (r < s) = v) :
    (execOp a.eval oi).run Try.prog W = .ok (.value (.bool v)) W := by
  subst hv
  unfold execOp
  simp only [ho, hx, hy]
  go_simp
  try rfl
theorem exec_gtI {W : World} {r s : Int} {v : Bool} {oi : Oper} {a : Act} {x y : Operand} {t : TypeId} (ho : oi.op = .binOp .gtr 2 x y t) (hx : a.eval x = .int .i64 r) (hy : a.eval y = .int .i64 s) (hv : decide (s < r) = v) :
    (execOp a.eval oi).run Try.prog W = .ok (.value (.bool v)) W := by
  subst hv
  unfold execOp
  simp only [ho, hx, hy]
  go_simp
  try rfl
theorem exec_neqT {W : World} {r s : ByteArray} {b : Bool} {oi : Oper} {a : Act} {x y : Operand} {t : TypeId} (ho : oi.op = .binOp .neq 9 x y t) (hx : a.eval x = .string r) (hy : a.eval y = .string s) (hv : (!decide (r = s)) = b) :
    (execOp a.eval oi).run Try.prog W = .ok (.value (.bool b)) W := by
  subst hv
  rw [← eqB]
  unfold execOp
  simp only [ho, hx, hy]
  go_simp
  try rfl
theorem exec_geU {W : World} {r s : Int} {v : Bool} {oi : Oper} {a : Act} {x y : Operand} {t : TypeId} (ho : oi.op = .binOp .geq 25 x y t) (hx : a.eval x = .int .u64 r) (hy : a.eval y = .int .u64 s) (hv : decide (s ≤ r) = v) :
    (execOp a.eval oi).run Try.prog W = .ok (.value (.bool v)) W := by
  subst hv
  unfold execOp
  simp only [ho, hx, hy]
  go_simp
  try rfl
theorem exec_geI {W : World} {r s : Int} {v : Bool} {oi : Oper} {a : Act} {x y : Operand} {t : TypeId} (ho : oi.op = .binOp .geq 2 x y t) (hx : a.eval x = .int .i64 r) (hy : a.eval y = .int .i64 s) (hv : decide (s ≤ r) = v) :
    (execOp a.eval oi).run Try.prog W = .ok (.value (.bool v)) W := by
  subst hv
  unfold execOp
  simp only [ho, hx, hy]
  go_simp
  try rfl
end Go.Proofs.Ytbgfccanbgpjiaa.O.I
