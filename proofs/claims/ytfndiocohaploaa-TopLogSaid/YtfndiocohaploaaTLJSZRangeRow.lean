/- Own work. -/
import Derived.RangeFuncNested
import Derived.RangeFuncFrom
import Derived.RangeFuncBound
import Derived.RangeFuncCalls
import Derived.RangeFuncLeaves
import Derived.Below
import Derived.StillTail
import Derived.StillTactics
import Derived.OrdersIn
import Derived.TacticsIn
import Derived.KernelRfl
import Derived.TacticsInMore
import Derived.OwnWalkIn
import Derived.OrdersHeld
import Derived.Tactics
import Derived.Deep.RegionHeld
import Derived.Test.YtfndiocohaploaaTLJSZHeldBy
import Derived.Deep.Cut
import Derived.Outline
import Derived.Test.YtfndiocohaploaaTLJLawEnd
import Derived.Laws.IdiomRangeMap
namespace Go.RangeRow
open Go Go.RowKit
variable {P : Program} {F : Fence} {n : Nat}
def NoRow (E : TypeId) (A : World) (b : Nat) : Prop := ∀ cs f, A.heap[b]? ≠ some (.cells cs E f)
theorem NoRow.of {E : TypeId} {A B : World} {b : Nat} (h : NoRow E A b) (he : B.heap[b]? = A.heap[b]?) : NoRow E B b := fun cs f e => h cs f (he.symm.trans e)
theorem noRow_of {E : TypeId} {A : World} {b : Nat} {o : Obj} (h : A.heap[b]? = some o) (ho : ∀ cs f, o ≠ .cells cs E f) : NoRow E A b := fun cs f e => by
  rw [h] at e
  exact ho cs f (Option.some.inj e)
def Stays (lo hi N : Nat) (E : TypeId) (A B : World) : Prop := A.heap.size ≤ B.heap.size ∧ ∀ b, b < A.heap.size → ¬ (lo ≤ b ∧ b < hi) → (b < N ∨ NoRow E A b) → B.heap[b]? = A.heap[b]?
theorem Stays.refl (lo hi N : Nat) (E : TypeId) (A : World) : Stays lo hi N E A A := ⟨Nat.le_refl _, fun _ _ _ _ => rfl⟩
theorem Stays.trans {lo hi N : Nat} {E : TypeId} {A B C : World} (h : Stays lo hi N E A B) (k : Stays lo hi N E B C) : Stays lo hi N E A C :=
  ⟨Nat.le_trans h.1 k.1, fun b hb hx hr => (k.2 b (Nat.lt_of_lt_of_le hb h.1) hx (hr.imp id (fun q => q.of (h.2 b hb hx (.inr q))))).trans (h.2 b hb hx hr)⟩
theorem Stays.of_below {lo hi N : Nat} {E : TypeId} {A B : World} (h : Below A.heap.size A B) : Stays lo hi N E A B := ⟨h.size, fun b hb _ _ => h.block b hb⟩
def Kept (lo hi N : Nat) (E : TypeId) (l : Nat) (A B : World) : Prop := A.heap.size ≤ B.heap.size ∧ ∀ b, b < A.heap.size → b ≠ l → ¬ (lo ≤ b ∧ b < hi) → (b < N ∨ NoRow E A b) → B.heap[b]? = A.heap[b]?
theorem Kept.trans {lo hi N l : Nat} {E : TypeId} {A B C : World} (h : Kept lo hi N E l A B) (k : Kept lo hi N E l B C) : Kept lo hi N E l A C :=
  ⟨Nat.le_trans h.1 k.1, fun b hb hl hx hr => (k.2 b (Nat.lt_of_lt_of_le hb h.1) hl hx (hr.imp id (fun q => q.of (h.2 b hb hl hx (.inr q))))).trans (h.2 b hb hl hx hr)⟩
theorem Stays.kept {lo hi N l : Nat} {E : TypeId} {A B : World} (h : Stays lo hi N E A B) : Kept lo hi N E l A B := ⟨h.1, fun b hb _ hx hr => h.2 b hb hx hr⟩
theorem kept_put {lo hi N l : Nat} {E : TypeId} {A : World} (o : Obj) : Kept lo hi N E l A (A.putObj l o) :=
  ⟨by simp [World.putObj], fun _ _ hl _ _ => World.putObj_heap_other (fun e => hl e)⟩
theorem Stays.keep {lo hi N : Nat} {E : TypeId} {A B : World} (h : Stays lo hi N E A B) {b : Nat} {o : Obj} (ho : A.heap[b]? = some o) (hx : ¬ (lo ≤ b ∧ b < hi)) (hr : ∀ cs f, o ≠ .cells cs E f) : B.heap[b]? = some o :=
  (h.2 b (Array.getElem?_eq_some_iff.1 ho).1 hx (.inr (noRow_of ho hr))).trans ho
theorem Kept.keep {lo hi N l : Nat} {E : TypeId} {A B : World} (h : Kept lo hi N E l A B) {b : Nat} {o : Obj} (ho : A.heap[b]? = some o) (hl : b ≠ l) (hx : ¬ (lo ≤ b ∧ b < hi)) (hr : ∀ cs f, o ≠ .cells cs E f) : B.heap[b]? = some o :=
  (h.2 b (Array.getElem?_eq_some_iff.1 ho).1 hl hx (.inr (noRow_of ho hr))).trans ho
def Seq {α : Type} (F : Fence) (n : Nat) (P : Program) (g : Nat) (lb : Array Value) (encs : α → Array Value) (lo hi N0 : Nat) (E : TypeId) (S Sp : List α → Prop) (N : Nat) (w : World) : Prop :=
  ∀ (l : Nat) (J Jx : List α → World → Prop) (W : World), Below w.heap.size w W → w.heap.size ≤ l → l < W.heap.size → OwnFrom W.heap.size J → OwnFrom W.heap.size Jx →
    (∀ pre x W1, J pre W1 → pre.length < N → YieldAt F (n - 1) P l (encs x) W1 fun e W' =>
      (e = .returned (.bool true) ∧ J (pre ++ [x]) W' ∧ Kept lo hi N0 E l W1 W') ∨ (e = .returned (.bool false) ∧ Jx (pre ++ [x]) W' ∧ Kept lo hi N0 E l W1 W')) →
    J [] W →
    CallsIn F n P g (#[.func (.yield l) #[] #[]] ++ lb) W fun e W' => (∃ v, e = .returned v) ∧ ((∃ xs, S xs ∧ J xs W') ∨ (∃ pre, Sp pre ∧ Jx pre W'))
def After {α : Type} (lo hi N0 : Nat) (E : TypeId) (I : List α → World → Prop) (Ix : Code → List α → World → Prop) (xs : List α) (W : World) : Exit → Act → World → Prop
  | .normal, _, W' => Stays lo hi N0 E W W' ∧ I xs W'
  | .ret, _, W' => Stays lo hi N0 E W W' ∧ Ix .ret xs W'
  | .exit id, _, W' => Stays lo hi N0 E W W' ∧ Ix (.exit id) xs W'
  | .goto t, _, W' => Stays lo hi N0 E W W' ∧ Ix (.goto t) xs W'
  | .panic _, _, _ => False
  | .outgrown, _, _ => False
theorem range {α : Type} {g : Operand} {ps : Array Tmp} {assign body : Code} {Q : Exit → Act → World → Prop} {a : Act} {w : World}
    (hro : F.round = none) (h1 : 1 ≤ n) {gf : Nat} {lb : Array Value} (hg : a.eval g = .func (.func gf) #[] lb) (hFg : F.fn gf) (eg : ∀ args w, (callFunc gf args).run P w = .ok (.enter gf args) w)
    {encs : α → Array Value} {lo hi N0 : Nat} {E : TypeId} (hhi : hi ≤ w.heap.size) {S Sp : List α → Prop} {N : Nat} (hseq : Seq F (n - 1) P gf lb encs lo hi N0 E S Sp N w) (hps : ∀ x, (encs x).size = ps.size)
    (I : List α → World → Prop) (Ix : Code → List α → World → Prop) (hI : OwnFrom w.heap.size I) (hIx : ∀ c, OwnFrom w.heap.size (Ix c)) (h0 : I [] w)
    (Ax : List α → α → Act → World → Prop) (hAx : ∀ x a1, OwnFrom w.heap.size (fun pre => Ax pre x a1))
    (hassign : ∀ (l : Nat) (pre : List α) (x : α) (W : World), I pre W → pre.length < N → w.heap.size ≤ W.heap.size →
      assign.wpIn (F.inRound l) (n - 1 - 1) P (Exit.then (fun a1 W1 => Stays lo hi N0 E W W1 ∧ Ax pre x a1 W1) (fun _ _ _ => False)) { tmps := (ps.zip (encs x)).foldl (fun t (p, v) => t.setIfInBounds p v) a.tmps, defers := [] } W)
    (hbody : ∀ (l : Nat) (pre : List α) (x : α) (a1 : Act) (W1 : World), Ax pre x a1 W1 → pre.length < N → w.heap.size ≤ W1.heap.size → body.wpIn (F.inRound l) (n - 1 - 1) P (After lo hi N0 E I Ix (pre ++ [x]) W1) a1 W1)
    (hdone : ∀ (D : Nat) (xs : List α) (W : World), w.heap.size ≤ D → S xs → I xs W → W.heap[D]? = some (.deferred (some [])) → Q .normal { a with defers := { target := .collected D, args := #[] } :: a.defers } W)
    (hstop : ∀ (D : Nat) (c : Code) (pre : List α) (W : World), w.heap.size ≤ D → Sp pre → Ix c pre W → W.heap[D]? = some (.deferred (some [])) → c.wpIn F n P Q { a with defers := { target := .collected D, args := #[] } :: a.defers } W) :
    (Code.rangeFunc g ps assign body).wpIn F n P Q a w := by
  refine wpIn_rangeFunc ?_
  intro fn hfn
  rw [hro]
  obtain ⟨rec, hrec⟩ : ∃ rec : LoopState → Option Code → Loop, rec = fun st pe => { state := st, pending := pe, fn, tmps := a.tmps, params := ps, assign, body, defers := w.heap.size } := ⟨_, rfl⟩
  obtain ⟨L, hL⟩ : ∃ L, w.heap.size + 1 = L := ⟨_, rfl⟩
  obtain ⟨W1, hW1⟩ : ∃ W1, (w.alloc (.deferred (some []))).alloc (.loop (rec .ready none)) = W1 := ⟨_, rfl⟩
  have hsz : W1.heap.size = L + 1 := by rw [← hW1, ← hL]; simp
  have hl1 : W1.heap[L]? = some (.loop (rec .ready none)) := by
    have h := World.alloc_heap_new (w.alloc (.deferred (some []))) (.loop (rec .ready none))
    rw [World.size_alloc] at h
    rw [← hW1, ← hL]
    exact h
  have hk1 : W1.heap[w.heap.size]? = some (.deferred (some [])) := by
    rw [← hW1]
    exact (Below.heap_alloc _ _ _ (by simp)).trans (World.alloc_heap_new w _)
  have hi1 : I [] W1 := by
    rw [← hW1]
    exact hI.alloc _ (hI.alloc _ h0)
  have hb1 : Below w.heap.size w W1 := by
    rw [← hW1]
    exact ((Below.refl _ w).alloc (Nat.le_refl _) _).alloc (by simp) _
  -- the two blocks of the loop's own stay where a block beyond them turns
  have far : ∀ {A B : World} {row : Option Nat} (_ : A.grownBy B row) (_ : ∀ r, row = some r → W1.heap.size ≤ r ∧ ∃ o : Obj, A.heap[r]? = some o ∧ o.isCells = false) (b : Nat) (o : Obj), b ≤ L → A.heap[b]? = some o → B.heap[b]? = some o := by
    intro A B row hg hr b o hb ho
    refine (hg.block b (Array.getElem?_eq_some_iff.1 ho).1 (fun e => ?_)).trans ho
    have := (hr b e.symm).1
    omega
  have wide : ∀ {A : World} {row : Option Nat}, (∀ r, row = some r → W1.heap.size ≤ r ∧ ∃ o : Obj, A.heap[r]? = some o ∧ o.isCells = false) → ∀ r, row = some r → w.heap.size ≤ r ∧ ∃ o : Obj, A.heap[r]? = some o ∧ o.isCells = false :=
    fun hr r e => ⟨by have := (hr r e).1; omega, (hr r e).2⟩
  refine ⟨L, [{ target := .collected w.heap.size, args := #[] }], W1, { target := .fn (.func gf) lb, args := #[.func (.yield L) #[] #[]] }, W1, gf, #[.func (.yield L) #[] #[]] ++ lb, W1, ?_, ?_, ?_, ?_, fun _ => h1, ?_⟩
  · rw [← hW1, ← hL, hrec]
    exact run_enterLoop_outer _ _ _ _ _
  · simp only [resolve, hg]
    simp [go_sem]
  · intro f' hf'
    simp [Target.leads] at hf'
    subst hf'
    exact hFg
  · simp [invoke, go_sem, eg]
  · refine (hseq L (fun pre W => I pre W ∧ W.heap[L]? = some (.loop (rec .ready none)) ∧ W.heap[w.heap.size]? = some (.deferred (some [])))
      (fun pre W => ∃ c, Ix c pre W ∧ W.heap[L]? = some (.loop (rec .done (some c))) ∧ W.heap[w.heap.size]? = some (.deferred (some [])))
      W1 hb1 (by omega) (by omega)
      (fun s A B row hs hg' hr => ⟨hI s A B row hs.1 hg' (wide hr), far hg' hr L _ (Nat.le_refl _) hs.2.1, far hg' hr _ _ (by omega) hs.2.2⟩)
      (fun s A B row ⟨c, h1, h2, h3⟩ hg' hr => ⟨c, hIx c s A B row h1 hg' (wide hr), far hg' hr L _ (Nat.le_refl _) h2, far hg' hr _ _ (by omega) h3⟩)
      ?_ ⟨hi1, hl1, hk1⟩).mono ?_
    · rintro pre x W ⟨hiW, hl, hk⟩ hlen
      have hWL : L < W.heap.size := (Array.getElem?_eq_some_iff.1 hl).1
      have hy := run_yield (P := P) (args := encs x) hl (by rw [hrec]; exact hps x)
      rw [hrec] at hy
      refine ⟨fn, _, assign, body, hy, roundIn_of_wpIn hfn (wpIn_mono (hassign L pre x W hiW hlen (by omega)) ?_)⟩
      rintro e a1 V hp
      cases e with
      | normal =>
        obtain ⟨hst, hax⟩ := hp
        have hlV : V.heap[L]? = some (.loop (rec .ready none)) := hst.keep hl (by omega) (by intro cs f e; cases e)
        have hkV : V.heap[w.heap.size]? = some (.deferred (some [])) := hst.keep hk (by omega) (by intro cs f e; cases e)
        have hVL : L < V.heap.size := (Array.getElem?_eq_some_iff.1 hlV).1
        refine ⟨_, run_beginRound hlV (by rw [hrec]), ?_⟩
        obtain ⟨V2, hV2⟩ : ∃ V2, V.putObj L (.loop { rec .ready none with state := .busy }) = V2 := ⟨_, rfl⟩
        rw [hV2]
        have hl2 : V2.heap[L]? = some (.loop { rec .ready none with state := .busy }) := by rw [← hV2]; exact World.putObj_heap_same hVL
        have hk2 : V2.heap[w.heap.size]? = some (.deferred (some [])) := by rw [← hV2]; exact (World.putObj_heap_other (by omega)).trans hkV
        have hax2 : Ax pre x a1 V2 := by rw [← hV2]; exact (hAx x a1).putObj (s := pre) _ hax (by omega) hlV rfl
        have hkp2 : Kept lo hi N0 E L W V2 := by rw [← hV2]; exact hst.kept.trans (kept_put _)
        have h2L : L < V2.heap.size := (Array.getElem?_eq_some_iff.1 hl2).1
        refine wpIn_mono (hbody L pre x a1 V2 hax2 hlen (by omega)) ?_
        have fin : ∀ (jump : Option Code) (V3 : World), Stays lo hi N0 E V2 V3 →
            (Instr.endRound L jump).run P V3 = .ok (.bool jump.isNone) (V3.putObj L (.loop (rec (if jump.isNone then .ready else .done) jump))) ∧
            V3.heap[L]? = some (.loop { rec .ready none with state := .busy }) ∧
            (V3.putObj L (.loop (rec (if jump.isNone then .ready else .done) jump))).heap[L]? = some (.loop (rec (if jump.isNone then .ready else .done) jump)) ∧
            (V3.putObj L (.loop (rec (if jump.isNone then .ready else .done) jump))).heap[w.heap.size]? = some (.deferred (some [])) := fun jump V3 h3 => by
          have hl3 := h3.keep hl2 (by omega) (by intro cs f e; cases e)
          have hk3 := h3.keep hk2 (by omega) (by intro cs f e; cases e)
          have he := run_endRound (P := P) jump hl3
          rw [hrec] at he ⊢
          exact ⟨he, by rw [hrec] at hl3; exact hl3, World.putObj_heap_same (Array.getElem?_eq_some_iff.1 hl3).1, (World.putObj_heap_other (by omega)).trans hk3⟩
        rintro e2 a3 V3 hp2
        cases e2 with
        | normal =>
          obtain ⟨hs3, hi3⟩ := hp2
          obtain ⟨hr, hl3, hl4, hk4⟩ := fin none V3 hs3
          exact ⟨_, _, hr, .inl ⟨rfl, ⟨hI.putObj _ hi3 (by omega) hl3 rfl, hl4, hk4⟩, (hkp2.trans hs3.kept).trans (kept_put _)⟩⟩
        | ret =>
          obtain ⟨hs3, hi3⟩ := hp2
          obtain ⟨hr, hl3, hl4, hk4⟩ := fin (some .ret) V3 hs3
          exact ⟨_, _, hr, .inr ⟨rfl, ⟨.ret, (hIx _).putObj _ hi3 (by omega) hl3 rfl, hl4, hk4⟩, (hkp2.trans hs3.kept).trans (kept_put _)⟩⟩
        | exit id =>
          obtain ⟨hs3, hi3⟩ := hp2
          obtain ⟨hr, hl3, hl4, hk4⟩ := fin (some (.exit id)) V3 hs3
          exact ⟨_, _, hr, .inr ⟨rfl, ⟨.exit id, (hIx _).putObj _ hi3 (by omega) hl3 rfl, hl4, hk4⟩, (hkp2.trans hs3.kept).trans (kept_put _)⟩⟩
        | goto t =>
          obtain ⟨hs3, hi3⟩ := hp2
          obtain ⟨hr, hl3, hl4, hk4⟩ := fin (some (.goto t)) V3 hs3
          exact ⟨_, _, hr, .inr ⟨rfl, ⟨.goto t, (hIx _).putObj _ hi3 (by omega) hl3 rfl, hl4, hk4⟩, (hkp2.trans hs3.kept).trans (kept_put _)⟩⟩
        | panic ch => exact hp2.elim
        | outgrown => exact hp2.elim
      | _ => exact hp.elim
    · rintro e W2 ⟨⟨v, rfl⟩, (⟨xs, hS, hi, hl, hk⟩ | ⟨pre, hSp, c, hi, hl, hk⟩)⟩
      · exact ⟨none, _, by have := run_endLoop (P := P) hl (by rw [hrec]; simp); rw [hrec] at this; exact this, hdone _ xs _ (Nat.le_refl _) hS (hI.putObj _ hi (by omega) hl rfl) ((World.putObj_heap_other (by omega)).trans hk)⟩
      · exact ⟨some c, _, by have := run_endLoop (P := P) hl (by rw [hrec]; simp); rw [hrec] at this; exact this, hstop _ c pre _ (Nat.le_refl _) hSp ((hIx c).putObj _ hi (by omega) hl rfl) ((World.putObj_heap_other (by omega)).trans hk)⟩
end Go.RangeRow
namespace Go.RangeSeen
open Go Go.RowKit Go.RangeRow
variable {P : Program} {F : Fence} {n : Nat}
def Seq {α : Type} (F : Fence) (n : Nat) (P : Program) (g : Nat) (lb : Array Value) (encs : α → Array Value) (lo hi N0 : Nat) (E : TypeId) (R : α → World → Prop) (S Sp : List α → Prop) (N : Nat) (w : World) : Prop :=
  ∀ (l : Nat) (J Jx : List α → World → Prop) (W : World), Below w.heap.size w W → w.heap.size ≤ l → l < W.heap.size → OwnFrom W.heap.size J → OwnFrom W.heap.size Jx →
    (∀ pre x W1, J pre W1 → R x W1 → pre.length < N → YieldAt F (n - 1) P l (encs x) W1 fun e W' =>
      (e = .returned (.bool true) ∧ J (pre ++ [x]) W' ∧ Kept lo hi N0 E l W1 W') ∨ (e = .returned (.bool false) ∧ Jx (pre ++ [x]) W' ∧ Kept lo hi N0 E l W1 W')) →
    J [] W →
    CallsIn F n P g (#[.func (.yield l) #[] #[]] ++ lb) W fun e W' => (∃ v, e = .returned v) ∧ ((∃ xs, S xs ∧ J xs W') ∨ (∃ pre, Sp pre ∧ Jx pre W'))
theorem range {α : Type} {g : Operand} {ps : Array Tmp} {assign body : Code} {Q : Exit → Act → World → Prop} {a : Act} {w : World}
    (hro : F.round = none) (h1 : 1 ≤ n) {gf : Nat} {lb : Array Value} (hg : a.eval g = .func (.func gf) #[] lb) (hFg : F.fn gf) (eg : ∀ args w, (callFunc gf args).run P w = .ok (.enter gf args) w)
    {encs : α → Array Value} {lo hi N0 : Nat} {E : TypeId} (hhi : hi ≤ w.heap.size) {R : α → World → Prop} {S Sp : List α → Prop} {N : Nat} (hseq : Seq F (n - 1) P gf lb encs lo hi N0 E R S Sp N w) (hps : ∀ x, (encs x).size = ps.size)
    (I : List α → World → Prop) (Ix : Code → List α → World → Prop) (hI : OwnFrom w.heap.size I) (hIx : ∀ c, OwnFrom w.heap.size (Ix c)) (h0 : I [] w)
    (Ax : List α → α → Act → World → Prop) (hAx : ∀ x a1, OwnFrom w.heap.size (fun pre => Ax pre x a1))
    (hassign : ∀ (l : Nat) (pre : List α) (x : α) (W : World), I pre W → R x W → pre.length < N → w.heap.size ≤ W.heap.size →
      assign.wpIn (F.inRound l) (n - 1 - 1) P (Exit.then (fun a1 W1 => Stays lo hi N0 E W W1 ∧ Ax pre x a1 W1) (fun _ _ _ => False)) { tmps := (ps.zip (encs x)).foldl (fun t (p, v) => t.setIfInBounds p v) a.tmps, defers := [] } W)
    (hbody : ∀ (l : Nat) (pre : List α) (x : α) (a1 : Act) (W1 : World), Ax pre x a1 W1 → pre.length < N → w.heap.size ≤ W1.heap.size → body.wpIn (F.inRound l) (n - 1 - 1) P (After lo hi N0 E I Ix (pre ++ [x]) W1) a1 W1)
    (hdone : ∀ (D : Nat) (xs : List α) (W : World), w.heap.size ≤ D → S xs → I xs W → W.heap[D]? = some (.deferred (some [])) → Q .normal { a with defers := { target := .collected D, args := #[] } :: a.defers } W)
    (hstop : ∀ (D : Nat) (c : Code) (pre : List α) (W : World), w.heap.size ≤ D → Sp pre → Ix c pre W → W.heap[D]? = some (.deferred (some [])) → c.wpIn F n P Q { a with defers := { target := .collected D, args := #[] } :: a.defers } W) :
    (Code.rangeFunc g ps assign body).wpIn F n P Q a w := by
  refine wpIn_rangeFunc ?_
  intro fn hfn
  rw [hro]
  obtain ⟨rec, hrec⟩ : ∃ rec : LoopState → Option Code → Loop, rec = fun st pe => { state := st, pending := pe, fn, tmps := a.tmps, params := ps, assign, body, defers := w.heap.size } := ⟨_, rfl⟩
  obtain ⟨L, hL⟩ : ∃ L, w.heap.size + 1 = L := ⟨_, rfl⟩
  obtain ⟨W1, hW1⟩ : ∃ W1, (w.alloc (.deferred (some []))).alloc (.loop (rec .ready none)) = W1 := ⟨_, rfl⟩
  have hsz : W1.heap.size = L + 1 := by rw [← hW1, ← hL]; simp
  have hl1 : W1.heap[L]? = some (.loop (rec .ready none)) := by
    have h := World.alloc_heap_new (w.alloc (.deferred (some []))) (.loop (rec .ready none))
    rw [World.size_alloc] at h
    rw [← hW1, ← hL]
    exact h
  have hk1 : W1.heap[w.heap.size]? = some (.deferred (some [])) := by
    rw [← hW1]
    exact (Below.heap_alloc _ _ _ (by simp)).trans (World.alloc_heap_new w _)
  have hi1 : I [] W1 := by
    rw [← hW1]
    exact hI.alloc _ (hI.alloc _ h0)
  have hb1 : Below w.heap.size w W1 := by
    rw [← hW1]
    exact ((Below.refl _ w).alloc (Nat.le_refl _) _).alloc (by simp) _
  -- the two blocks of the loop's own stay where a block beyond them turns
  have far : ∀ {A B : World} {row : Option Nat} (_ : A.grownBy B row) (_ : ∀ r, row = some r → W1.heap.size ≤ r ∧ ∃ o : Obj, A.heap[r]? = some o ∧ o.isCells = false) (b : Nat) (o : Obj), b ≤ L → A.heap[b]? = some o → B.heap[b]? = some o := by
    intro A B row hg hr b o hb ho
    refine (hg.block b (Array.getElem?_eq_some_iff.1 ho).1 (fun e => ?_)).trans ho
    have := (hr b e.symm).1
    omega
  have wide : ∀ {A : World} {row : Option Nat}, (∀ r, row = some r → W1.heap.size ≤ r ∧ ∃ o : Obj, A.heap[r]? = some o ∧ o.isCells = false) → ∀ r, row = some r → w.heap.size ≤ r ∧ ∃ o : Obj, A.heap[r]? = some o ∧ o.isCells = false :=
    fun hr r e => ⟨by have := (hr r e).1; omega, (hr r e).2⟩
  refine ⟨L, [{ target := .collected w.heap.size, args := #[] }], W1, { target := .fn (.func gf) lb, args := #[.func (.yield L) #[] #[]] }, W1, gf, #[.func (.yield L) #[] #[]] ++ lb, W1, ?_, ?_, ?_, ?_, fun _ => h1, ?_⟩
  · rw [← hW1, ← hL, hrec]
    exact run_enterLoop_outer _ _ _ _ _
  · simp only [resolve, hg]
    simp [go_sem]
  · intro f' hf'
    simp [Target.leads] at hf'
    subst hf'
    exact hFg
  · simp [invoke, go_sem, eg]
  · refine (hseq L (fun pre W => I pre W ∧ W.heap[L]? = some (.loop (rec .ready none)) ∧ W.heap[w.heap.size]? = some (.deferred (some [])))
      (fun pre W => ∃ c, Ix c pre W ∧ W.heap[L]? = some (.loop (rec .done (some c))) ∧ W.heap[w.heap.size]? = some (.deferred (some [])))
      W1 hb1 (by omega) (by omega)
      (fun s A B row hs hg' hr => ⟨hI s A B row hs.1 hg' (wide hr), far hg' hr L _ (Nat.le_refl _) hs.2.1, far hg' hr _ _ (by omega) hs.2.2⟩)
      (fun s A B row ⟨c, h1, h2, h3⟩ hg' hr => ⟨c, hIx c s A B row h1 hg' (wide hr), far hg' hr L _ (Nat.le_refl _) h2, far hg' hr _ _ (by omega) h3⟩)
      ?_ ⟨hi1, hl1, hk1⟩).mono ?_
    · rintro pre x W ⟨hiW, hl, hk⟩ hrx hlen
      have hWL : L < W.heap.size := (Array.getElem?_eq_some_iff.1 hl).1
      have hy := run_yield (P := P) (args := encs x) hl (by rw [hrec]; exact hps x)
      rw [hrec] at hy
      refine ⟨fn, _, assign, body, hy, roundIn_of_wpIn hfn (wpIn_mono (hassign L pre x W hiW hrx hlen (by omega)) ?_)⟩
      rintro e a1 V hp
      cases e with
      | normal =>
        obtain ⟨hst, hax⟩ := hp
        have hlV : V.heap[L]? = some (.loop (rec .ready none)) := hst.keep hl (by omega) (by intro cs f e; cases e)
        have hkV : V.heap[w.heap.size]? = some (.deferred (some [])) := hst.keep hk (by omega) (by intro cs f e; cases e)
        have hVL : L < V.heap.size := (Array.getElem?_eq_some_iff.1 hlV).1
        refine ⟨_, run_beginRound hlV (by rw [hrec]), ?_⟩
        obtain ⟨V2, hV2⟩ : ∃ V2, V.putObj L (.loop { rec .ready none with state := .busy }) = V2 := ⟨_, rfl⟩
        rw [hV2]
        have hl2 : V2.heap[L]? = some (.loop { rec .ready none with state := .busy }) := by rw [← hV2]; exact World.putObj_heap_same hVL
        have hk2 : V2.heap[w.heap.size]? = some (.deferred (some [])) := by rw [← hV2]; exact (World.putObj_heap_other (by omega)).trans hkV
        have hax2 : Ax pre x a1 V2 := by rw [← hV2]; exact (hAx x a1).putObj (s := pre) _ hax (by omega) hlV rfl
        have hkp2 : Kept lo hi N0 E L W V2 := by rw [← hV2]; exact hst.kept.trans (kept_put _)
        have h2L : L < V2.heap.size := (Array.getElem?_eq_some_iff.1 hl2).1
        refine wpIn_mono (hbody L pre x a1 V2 hax2 hlen (by omega)) ?_
        have fin : ∀ (jump : Option Code) (V3 : World), Stays lo hi N0 E V2 V3 →
            (Instr.endRound L jump).run P V3 = .ok (.bool jump.isNone) (V3.putObj L (.loop (rec (if jump.isNone then .ready else .done) jump))) ∧
            V3.heap[L]? = some (.loop { rec .ready none with state := .busy }) ∧
            (V3.putObj L (.loop (rec (if jump.isNone then .ready else .done) jump))).heap[L]? = some (.loop (rec (if jump.isNone then .ready else .done) jump)) ∧
            (V3.putObj L (.loop (rec (if jump.isNone then .ready else .done) jump))).heap[w.heap.size]? = some (.deferred (some [])) := fun jump V3 h3 => by
          have hl3 := h3.keep hl2 (by omega) (by intro cs f e; cases e)
          have hk3 := h3.keep hk2 (by omega) (by intro cs f e; cases e)
          have he := run_endRound (P := P) jump hl3
          rw [hrec] at he ⊢
          exact ⟨he, by rw [hrec] at hl3; exact hl3, World.putObj_heap_same (Array.getElem?_eq_some_iff.1 hl3).1, (World.putObj_heap_other (by omega)).trans hk3⟩
        rintro e2 a3 V3 hp2
        cases e2 with
        | normal =>
          obtain ⟨hs3, hi3⟩ := hp2
          obtain ⟨hr, hl3, hl4, hk4⟩ := fin none V3 hs3
          exact ⟨_, _, hr, .inl ⟨rfl, ⟨hI.putObj _ hi3 (by omega) hl3 rfl, hl4, hk4⟩, (hkp2.trans hs3.kept).trans (kept_put _)⟩⟩
        | ret =>
          obtain ⟨hs3, hi3⟩ := hp2
          obtain ⟨hr, hl3, hl4, hk4⟩ := fin (some .ret) V3 hs3
          exact ⟨_, _, hr, .inr ⟨rfl, ⟨.ret, (hIx _).putObj _ hi3 (by omega) hl3 rfl, hl4, hk4⟩, (hkp2.trans hs3.kept).trans (kept_put _)⟩⟩
        | exit id =>
          obtain ⟨hs3, hi3⟩ := hp2
          obtain ⟨hr, hl3, hl4, hk4⟩ := fin (some (.exit id)) V3 hs3
          exact ⟨_, _, hr, .inr ⟨rfl, ⟨.exit id, (hIx _).putObj _ hi3 (by omega) hl3 rfl, hl4, hk4⟩, (hkp2.trans hs3.kept).trans (kept_put _)⟩⟩
        | goto t =>
          obtain ⟨hs3, hi3⟩ := hp2
          obtain ⟨hr, hl3, hl4, hk4⟩ := fin (some (.goto t)) V3 hs3
          exact ⟨_, _, hr, .inr ⟨rfl, ⟨.goto t, (hIx _).putObj _ hi3 (by omega) hl3 rfl, hl4, hk4⟩, (hkp2.trans hs3.kept).trans (kept_put _)⟩⟩
        | panic ch => exact hp2.elim
        | outgrown => exact hp2.elim
      | _ => exact hp.elim
    · rintro e W2 ⟨⟨v, rfl⟩, (⟨xs, hS, hi, hl, hk⟩ | ⟨pre, hSp, c, hi, hl, hk⟩)⟩
      · exact ⟨none, _, by have := run_endLoop (P := P) hl (by rw [hrec]; simp); rw [hrec] at this; exact this, hdone _ xs _ (Nat.le_refl _) hS (hI.putObj _ hi (by omega) hl rfl) ((World.putObj_heap_other (by omega)).trans hk)⟩
      · exact ⟨some c, _, by have := run_endLoop (P := P) hl (by rw [hrec]; simp); rw [hrec] at this; exact this, hstop _ c pre _ (Nat.le_refl _) hSp ((hIx c).putObj _ hi (by omega) hl rfl) ((World.putObj_heap_other (by omega)).trans hk)⟩
end Go.RangeSeen
namespace Go.StillIn
open Go
def plainOp : Op → Bool
  | .move _ | .assign _ | .pick _ _ _ | .load _ _ | .binOp _ _ _ _ _ | .unOp _ _ _ | .convert _ _ _ | .makeInterface _ _ | .makeFunc _ _ _ | .slice _ _ _ _ _ | .fieldAddr _ _ _ | .field _ _ _ | .indexAddr _ _ _ | .index _ _ _ | .lookup _ _ _ _ | .extract _ _ => true
  | _ => false
section
variable {P : Program} {ops : Array Oper} {md : Region.Mode} {w : World} {F : Fence} {n : Nat}
theorem plain_about {o : Oper} {ρ : Operand → Value} (hp : plainOp o.op = true) : o.about P w ρ = none := by
  unfold Oper.about
  revert hp
  cases o.op <;> intro hp <;> first | rfl | (simp [plainOp] at hp; done)
theorem plain_semAt {ro : Option Nat} {o : Oper} {ρ : Operand → Value} (hp : plainOp o.op = true) : o.semAt ro ρ = execOp ρ o :=
  Oper.semAt_eq ro ρ o (fun c e => by rw [e] at hp; simp [plainOp] at hp)
end
end Go.StillIn
namespace Go.KnownIn
open Go StillIn
variable {F : Fence} {n : Nat} {P : Program} {ops : Array Oper} {Q : Exit → Act → World → Prop} {a : Act} {w w' : World} {rest : List Oper} {o : Oper}
theorem value {v : Value} (hg : o.guard = none) (hp : plainOp o.op = true) (hv : (execOp a.eval o).run P w = .ok (.value v) w') (hn : wpListIn F n P ops Q rest (a.put o.dst v) w') : wpListIn F n P ops Q (o :: rest) a w := by
  refine wpListIn_plain hg fun K hK => ?_
  refine ⟨(fun f hf => by rw [plain_about hp] at hf; cases hf), ?_⟩
  rw [plain_semAt hp, hv]
  exact hK _ _ hn
theorem skip (hg : o.guard = none) (hd : ∀ c, o.op ≠ .defer c) (ha : o.about P w a.eval = none) (hv : (execOp a.eval o).run P w = .ok .skip w') (hn : wpListIn F n P ops Q rest (a.put o.dst undef) w') : wpListIn F n P ops Q (o :: rest) a w := by
  refine wpListIn_plain hg fun K hK => ?_
  refine ⟨(fun f hf => by rw [ha] at hf; cases hf), ?_⟩
  rw [Oper.semAt_eq _ _ o hd, hv]
  exact hK _ _ hn
theorem gen {l : List Oper} (G : World → Prop) (hG : G w) (h : ∀ W1, G W1 → wpListIn F n P ops Q l a W1) : wpListIn F n P ops Q l a w := h w hG
end Go.KnownIn
namespace Go.KnownIn
open Go StillIn
variable {F : Fence} {n : Nat} {P : Program} {ops : Array Oper} {Q : Exit → Act → World → Prop} {a : Act} {w w' : World} {rest : List Oper} {o : Oper}
theorem appends {v sl sr : Value} (hg : o.guard = none) (s x : Operand) (t : TypeId) (hop : o.op = Op.call { callee := Callee.builtin Builtin.append, args := #[s, x], argTypes := #[t, t] }) (hs : a.eval s = sl) (hx : a.eval x = sr)
    (hrun : (Builtin.append_ #[t, t] o.type #[sl, sr]).run P w = .ok v w') (hn : wpListIn F n P ops Q rest (a.put o.dst v) w') : wpListIn F n P ops Q (o :: rest) a w := by
  refine wpListIn_plain hg fun K hK' => ?_
  unfold Oper.wpIn
  refine ⟨?_, ?_⟩
  · simp [Oper.about, hop, resolve, Target.leads, Sem.run_pure]
  · rw [Oper.semAt_plain F _ _ (by rw [hop]; intro c hc'; cases hc')]
    simp [execOp, hop, resolve, invoke, builtin, hs, hx, hrun, Result.andThen]
    exact hK' _ _ hn
end Go.KnownIn
namespace Go.RoundReg
open Go
def Only (Q : Act → World → Prop) : Exit → Act → World → Prop
  | .normal, a, w => Q a w
  | _, _, _ => False
theorem only_lets {Q : Act → World → Prop} : ¬ LetsOut (Only Q) := fun ⟨_, _, h⟩ => h
theorem only_normal {Q : Exit → Act → World → Prop} {a : Act} {w : World} (h : Q .normal a w) : Only (fun a w => Q .normal a w) .normal a w := h
def noDefer (o : Oper) : Bool := match o.op with
  | .defer _ => false
  | _ => true
section
variable {P : Program} {ops : Array Oper} {md : Region.Mode} {l n : Nat} {R : Act → World → Prop} {Q : Exit → Act → World → Prop}
theorem oper_in {o : Oper} {a : Act} {w : World} {K : Act → World → Prop} (hd : noDefer o = true) (h : o.wp P a w K (Only R)) : o.wpIn (Fence.wide.inRound l) n P a w K Q := by
  refine ⟨fun _ _ => trivial, ?_⟩
  rw [Oper.semAt_eq _ a.eval o (fun c e => by unfold noDefer at hd; rw [e] at hd; cases hd)]
  unfold Oper.wp at h
  generalize (execOp a.eval o).run P w = r at *
  cases r with
  | ok x w' =>
    cases x with
    | value v => exact h
    | skip => exact h
    | defer d => exact h
    | enter f args =>
      refine ⟨fun e => (by cases e), ((callsIn_wide.2 h).inRound l).mono ?_⟩
      rintro e w2 he
      cases e with
      | returned v => exact he
      | panicked ch => exact he.elim
      | outgrown => exact absurd he only_lets
    | row row args => exact ⟨fun e => (by cases e), fun c cs _ => let ⟨v, w2, r, s⟩ := h c cs; ⟨v, w2, r, stepsIn_wide.2 s⟩⟩
    | _ => exact h.elim
  | halt b w' =>
    cases b <;> first | exact h.elim | exact h
theorem op_in {i : Nat} {a : Act} {w : World} {K : Act → World → Prop} (hd : ∀ o, ops[i]? = some o → noDefer o = true) (h : wpOp P ops (Only R) i K a w) : wpOpIn (Fence.wide.inRound l) n P ops Q i K a w := by
  unfold wpOp at h
  unfold wpOpIn
  split
  · rename_i ho; simp only [ho] at h; exact h
  · rename_i o ho
    simp only [ho] at h
    split
    · rename_i hw
      simp only [hw, if_true] at h
      rcases h with h | ⟨-, h⟩
      · exact oper_in (hd o ho) h
      · exact absurd h only_lets
    · rename_i hw
      simp only [hw] at h
      exact ⟨fun _ _ => trivial, h⟩
theorem any_in (hd : ∀ (i : Nat) o, ops[i]? = some o → noDefer o = true) : ∀ (fuel : Nat) (listed : Array Bool) (a : Act) (w : World), wpAny P md ops (Only fun a w => Q .normal a w) fuel listed a w → wpAnyIn (Fence.wide.inRound l) n P md ops Q fuel listed a w
  | 0, _, _, _, h => h
  | fuel + 1, _, _, _, h => ⟨h.1, fun i hi => wpOpIn_mono (fun a' w' h' => any_in hd fuel _ a' w' h') (op_in (R := fun a w => Q .normal a w) (hd i) (h.2 i hi))⟩
theorem region_drawn {id : Nat} {a : Act} {w : World} (S : World → Prop) (hm : P.follows .mixedOrders = true) (hd : ops.toList.all noDefer = true) (hS : S w.drew)
    (h : S w.drew → wpAnyH P .any ops (Only fun a w => Q .normal a w) S ops.size (Array.replicate ops.size false) a w.drew) : (Code.region id ops true).wpIn (Fence.wide.inRound l) n P Q a w :=
  wpIn_region_any hm (any_in (fun i o hi => List.all_eq_true.1 hd o (List.mem_of_getElem? (by simpa using hi))) _ _ _ _ (wpAny_of_held _ _ _ _ (h hS)))
theorem oper_in0 {o : Oper} {a : Act} {w : World} {K : Act → World → Prop} (hd : noDefer o = true) (h : o.wp P a w K (Only R)) : o.wpIn Fence.wide n P a w K Q := by
  refine ⟨fun _ _ => trivial, ?_⟩
  rw [Oper.semAt_eq _ a.eval o (fun c e => by unfold noDefer at hd; rw [e] at hd; cases hd)]
  unfold Oper.wp at h
  generalize (execOp a.eval o).run P w = r at *
  cases r with
  | ok x w' =>
    cases x with
    | value v => exact h
    | skip => exact h
    | defer d => exact h
    | enter f args =>
      refine ⟨fun e => (by cases e), (callsIn_wide.2 h).mono ?_⟩
      rintro e w2 he
      cases e with
      | returned v => exact he
      | panicked ch => exact he.elim
      | outgrown => exact absurd he only_lets
    | row row args => exact ⟨fun e => (by cases e), fun c cs _ => let ⟨v, w2, r, s⟩ := h c cs; ⟨v, w2, r, stepsIn_wide.2 s⟩⟩
    | _ => exact h.elim
  | halt b w' =>
    cases b <;> first | exact h.elim | exact h
theorem op_in0 {i : Nat} {a : Act} {w : World} {K : Act → World → Prop} (hd : ∀ o, ops[i]? = some o → noDefer o = true) (h : wpOp P ops (Only R) i K a w) : wpOpIn Fence.wide n P ops Q i K a w := by
  unfold wpOp at h
  unfold wpOpIn
  split
  · rename_i ho; simp only [ho] at h; exact h
  · rename_i o ho
    simp only [ho] at h
    split
    · rename_i hw
      simp only [hw, if_true] at h
      rcases h with h | ⟨-, h⟩
      · exact oper_in0 (hd o ho) h
      · exact absurd h only_lets
    · rename_i hw
      simp only [hw] at h
      exact ⟨fun _ _ => trivial, h⟩
theorem any_in0 (hd : ∀ (i : Nat) o, ops[i]? = some o → noDefer o = true) : ∀ (fuel : Nat) (listed : Array Bool) (a : Act) (w : World), wpAny P md ops (Only fun a w => Q .normal a w) fuel listed a w → wpAnyIn Fence.wide n P md ops Q fuel listed a w
  | 0, _, _, _, h => h
  | fuel + 1, _, _, _, h => ⟨h.1, fun i hi => wpOpIn_mono (fun a' w' h' => any_in0 hd fuel _ a' w' h') (op_in0 (R := fun a w => Q .normal a w) (hd i) (h.2 i hi))⟩
theorem region_drawn0 {id : Nat} {a : Act} {w : World} (S : World → Prop) (hm : P.follows .mixedOrders = true) (hd : ops.toList.all noDefer = true) (hS : S w.drew)
    (h : S w.drew → wpAnyH P .any ops (Only fun a w => Q .normal a w) S ops.size (Array.replicate ops.size false) a w.drew) : (Code.region id ops true).wpIn Fence.wide n P Q a w :=
  wpIn_region_any hm (any_in0 (fun i o hi => List.all_eq_true.1 hd o (List.mem_of_getElem? (by simpa using hi))) _ _ _ _ (wpAny_of_held _ _ _ _ (h hS)))
end
end Go.RoundReg
namespace Go.HeldBy
open Go
section
variable {P : Program} {ops : Array Oper} {Q : Exit → Act → World → Prop} {md : Region.Mode} {S : World → Prop}
theorem two {i j : Nat} {fuel : Nat} {listed : Array Bool} {a : Act} {w : World} (hr : Region.ready md ops listed = [i, j])
    (h1 : wpOp P ops Q i (fun a' w' => S w' ∧ wpAnyH P md ops Q S fuel (listed.setIfInBounds i true) a' w') a w)
    (h2 : wpOp P ops Q j (fun a' w' => S w' ∧ wpAnyH P md ops Q S fuel (listed.setIfInBounds j true) a' w') a w) : wpAnyH P md ops Q S (fuel + 1) listed a w := by
  refine wpAnyH_all hr (by simp) fun k hk => ?_
  simp only [List.mem_cons, List.not_mem_nil, or_false] at hk
  rcases hk with rfl | rfl
  · exact h1
  · exact h2
theorem op_value {i : Nat} {oi : Oper} {v : Value} {K : Act → World → Prop} {a a' : Act} {w w' : World} (hi : ops[i]? = some oi) (hw : Region.wanted oi (yielded ops a.tmps) = true)
    (hv : (execOp a.eval oi).run P w = .ok (.value v) w') (he : a.put oi.dst v = a') (h : K a' w') : wpOp P ops Q i K a w := by
  unfold wpOp
  simp only [hi, hw, if_true]
  refine .inl ?_
  unfold Oper.wp
  rw [hv]
  show K (a.put oi.dst v) w'
  rw [he]
  exact h
theorem op_call {i : Nat} {oi : Oper} {v : Value} {f : FuncId} {args : Array Value} {K : Act → World → Prop} {a a' : Act} {w : World} (hi : ops[i]? = some oi) (hw : Region.wanted oi (yielded ops a.tmps) = true)
    (hv : (execOp a.eval oi).run P w = .ok (.enter f args) w) (he : a.put oi.dst v = a') (h : Calls P f args w fun e w' => e = .returned v ∧ K a' w') : wpOp P ops Q i K a w := by
  unfold wpOp
  simp only [hi, hw, if_true]
  refine .inl ?_
  unfold Oper.wp
  rw [hv]
  exact h.mono fun e w' ⟨h1, h2⟩ => by
    subst h1
    show K (a.put oi.dst v) w'
    rw [he]
    exact h2
end
end Go.HeldBy
namespace Go.Proofs.Ytfndiocohaploaa.O
open Go.RowKit T
open Go.Lib hiding intOf
set_option maxHeartbeats 1000000 in
theorem key_any (o : Obj) (w : World) :
    Calls Try.prog 38 #[encO o] w fun e w' => e = .returned (encK o.kind o.name) ∧ Below w.heap.size w w' := by
  unfold encO
  go_enter Try.func38, Try.ntmps38
  go_upto_region 1 with (fail)
  refine wp_gen (fun W => BoxO W w.heap.size o ∧ W.heap[w.heap.size + 1]? = some (.cells #[.int .u8 0, .string ⟨#[]⟩] 36 (0, 0)) ∧ Below w.heap.size w W) ⟨(BoxO.new w o).alloc _, heap_alloc2_new w _ _, ((Below.refl _ _).alloc (Nat.le_refl _) _).alloc (by simp) _⟩ ?_
  rintro W1 ⟨hb, hk, hlow⟩
  have c0 := hb.c0
  have c1 := hb.c1
  have k0 : W1.cell? ⟨w.heap.size + 1, 0, none⟩ = some (.int .u8 0) := (cell_of_row W1 _ 0 _ _ _ hk).trans rfl
  have k1 : W1.cell? ⟨w.heap.size + 1, 1, none⟩ = some (.string ⟨#[]⟩) := (cell_of_row W1 _ 1 _ _ _ hk).trans rfl
  have f0 := frozen_of_row W1 _ 0 _ _ hk
  have f1 := frozen_of_row W1 _ 1 _ _ hk
  clear hk
  go_wp2
  go_outline
  refine bodyPost_ret (v := encK o.kind o.name) (by simp [results, Try.results38, go_sem, k0, k1]; rfl) rfl ?_
  exact ⟨rfl, (hlow.setCell (by simp) _).setCell (by simp) _⟩
end Go.Proofs.Ytfndiocohaploaa.O
namespace Go.HeldBy
open Go
section
variable {P : Program} {ops : Array Oper} {Q : Exit → Act → World → Prop} {md : Region.Mode} {S : World → Prop}
theorem wanted_lit {oi : Oper} (hg : oi.guard = none) (t : Nat → Option Bool) : Region.wanted oi t = true := by unfold Region.wanted; rw [hg]
theorem late_lit {i j c : Nat} {oi oj oc : Oper} {u x z : Value} {fuel : Nat} {L L2 : Array Bool} {a A : Act} {w w' : World}
    (r0 : Region.ready md ops L = [i, j]) (r1 : Region.ready md ops (L.setIfInBounds i true) = [j]) (r2 : Region.ready md ops ((L.setIfInBounds i true).setIfInBounds j true) = [c])
    (r3 : Region.ready md ops (L.setIfInBounds j true) = [i, c]) (r4 : Region.ready md ops ((L.setIfInBounds j true).setIfInBounds i true) = [c]) (r5 : Region.ready md ops ((L.setIfInBounds j true).setIfInBounds c true) = [i])
    (hi : ops[i]? = some oi) (hj : ops[j]? = some oj) (hc : ops[c]? = some oc) (gi : oi.guard = none) (gj : oj.guard = none) (gc : oc.guard = none)
    (vi0 : (execOp a.eval oi).run P w = .ok (.value u) w) (vi1 : (execOp (a.put oj.dst x).eval oi).run P w = .ok (.value u) w) (vi2 : (execOp ((a.put oj.dst x).put oc.dst z).eval oi).run P w' = .ok (.value u) w')
    (vj0 : (execOp a.eval oj).run P w = .ok (.value x) w) (vj1 : (execOp (a.put oi.dst u).eval oj).run P w = .ok (.value x) w)
    (vc0 : (execOp ((a.put oi.dst u).put oj.dst x).eval oc).run P w = .ok (.value z) w') (vc1 : (execOp ((a.put oj.dst x).put oi.dst u).eval oc).run P w = .ok (.value z) w') (vc2 : (execOp (a.put oj.dst x).eval oc).run P w = .ok (.value z) w')
    (e1 : ((a.put oi.dst u).put oj.dst x).put oc.dst z = A) (e2 : ((a.put oj.dst x).put oi.dst u).put oc.dst z = A) (e3 : ((a.put oj.dst x).put oc.dst z).put oi.dst u = A)
    (l1 : ((L.setIfInBounds i true).setIfInBounds j true).setIfInBounds c true = L2) (l2 : ((L.setIfInBounds j true).setIfInBounds i true).setIfInBounds c true = L2) (l3 : ((L.setIfInBounds j true).setIfInBounds c true).setIfInBounds i true = L2)
    (hS : S w) (hS' : S w') (h : wpAnyH P md ops Q S fuel L2 A w') : wpAnyH P md ops Q S (fuel + 3) L a w := by
  refine two r0 ?_ ?_
  · refine op_value hi (wanted_lit gi _) vi0 rfl ⟨hS, ?_⟩
    refine value hj r1 (wanted_lit gj _) vj1 rfl hS ?_
    refine value hc r2 (wanted_lit gc _) vc0 e1 hS' ?_
    rw [l1]
    exact h
  · refine op_value hj (wanted_lit gj _) vj0 rfl ⟨hS, ?_⟩
    refine two r3 ?_ ?_
    · refine op_value hi (wanted_lit gi _) vi1 rfl ⟨hS, ?_⟩
      refine value hc r4 (wanted_lit gc _) vc1 e2 hS' ?_
      rw [l2]
      exact h
    · refine op_value hc (wanted_lit gc _) vc2 rfl ⟨hS', ?_⟩
      refine value hi r5 (wanted_lit gi _) vi2 e3 hS' ?_
      rw [l3]
      exact h
end
end Go.HeldBy
namespace Go.HeldBy
open Go Go.RowKit
section
variable {P : Program} {ops : Array Oper} {Q : Exit → Act → World → Prop} {md : Region.Mode} {S : World → Prop}
theorem wanted_none {oi : Oper} (h : oi.guard = none) (y : Nat → Option Bool) : Region.wanted oi y = true := by
  unfold Region.wanted
  rw [h]
def Makes (P : Program) (oi : Oper) (x : Obj) : Prop := ∀ (a : Act) (w : World), (execOp a.eval oi).run P w = .ok (.value (.pointer (some ⟨w.heap.size, 0, none⟩))) (w.alloc x)
def ptr (p : Nat) : Value := .pointer (some ⟨p, 0, none⟩)
end
end Go.HeldBy
namespace Go.HeldBy
open Go Go.RowKit
section
variable {P : Program} {ops : Array Oper} {Q : Exit → Act → World → Prop} {md : Region.Mode} {S : World → Prop}
structure Goes (P : Program) (md : Region.Mode) (ops : Array Oper) (Q : Exit → Act → World → Prop) (S : World → Prop) (w0 : World) (k : Nat) (dk : Option Tmp) (x : Obj) (n : Nat) (L : Array Bool) (a : Act) : Prop where
  without : ∀ w, Below w0.heap.size w0 w → wpAnyH P md ops Q S (n + 1) L a w
  with_ : ∀ p w, w0.heap.size ≤ p → Below w0.heap.size w0 w → w.heap[p]? = some x → wpAnyH P md ops Q S n (L.setIfInBounds k true) (a.put dk (ptr p)) w
def far (ops : Array Oper) (oi : Oper) (dk : Option Tmp) : Bool :=
  match dk with
  | some d => !((oi.looksAt ops).contains d) && (oi.dst != some d)
  | none => true
def noSel (oi : Oper) : Bool := match oi.op with | .select _ _ => false | _ => true
theorem noSel_out {oi : Oper} (h : noSel oi = true) : ∀ cs b, oi.op ≠ .select cs b := fun cs b e => by
  unfold noSel at h
  rw [e] at h
  cases h
theorem far_out {oi : Oper} {dk : Option Tmp} (h : far ops oi dk = true) : (∀ d, dk = some d → d ∉ oi.looksAt ops) ∧ ∀ d, dk = some d → oi.dst ≠ some d := by
  cases dk with
  | none => exact ⟨(fun d hd => by cases hd), (fun d hd => by cases hd)⟩
  | some d =>
    unfold far at h
    simp only [Bool.and_eq_true, Bool.not_eq_true', bne_iff_ne] at h
    refine ⟨fun d' hd hm => ?_, fun d' hd => ?_⟩
    · cases hd
      have := List.contains_iff_mem.2 hm
      rw [h.1] at this
      cases this
    · cases hd
      exact h.2
variable {w0 : World} {k : Nat} {ok : Oper} {dk : Option Tmp} {x : Obj} {L L2 : Array Bool} {a a' : Act} {n : Nat} {i : Nat} {oi : Oper} {v : Value}
theorem Goes.nil {mk : Nat → Act} (hk : ops[k]? = some ok) (hd : ok.dst = dk) (hr : Region.ready md ops L = [k]) (gk : ok.guard = none) (hvk : Makes P ok x) (hS : ∀ w', Below w0.heap.size w0 w' → S w')
    (hl : L.setIfInBounds k true = L2) (ha : ∀ p, a.put dk (ptr p) = mk p)
    (h : ∀ p w, w0.heap.size ≤ p → Below w0.heap.size w0 w → w.heap[p]? = some x → wpAnyH P md ops Q S n L2 (mk p) w) : Goes P md ops Q S w0 k dk x n L a := by
  subst hd
  refine ⟨fun w hw => ?_, fun p w hp hw hx => by rw [hl, ha]; exact h p w hp hw hx⟩
  have hb : Below w0.heap.size w0 (w.alloc x) := hw.alloc hw.size x
  refine value hk hr (wanted_none gk _) (hvk a w) (ha _) (hS _ hb) ?_
  rw [hl]
  exact h _ _ hw.size hb (heap_alloc_new _ _)
theorem Goes.take (hi : ops[i]? = some oi) (hs : Region.noSelect ops = true) (hsi : noSel oi = true) (hf : Region.free md ops L i = true) (hf2 : Region.free md ops (L.setIfInBounds k true) i = true)
    (hr : (Region.ready md ops L).contains i = true) (hr2 : (Region.ready md ops (L.setIfInBounds k true)).contains i = true) (hQ : ∀ c a w, Q (.panic c) (a.put oi.dst v) w → Q (.panic c) a w)
    (gi : oi.guard = none) (hik : i ≠ k) (hap : far ops oi dk = true)
    (hv : ∀ w, S w → (execOp a.eval oi).run P w = .ok (.value v) w) (he : a.put oi.dst v = a') (hS : ∀ w', Below w0.heap.size w0 w' → S w')
    (h : Goes P md ops Q S w0 k dk x n (L.setIfInBounds i true) a') : Goes P md ops Q S w0 k dk x (n + 1) L a := by
  obtain ⟨hap, hdd⟩ := far_out hap
  have hQ2 : ∀ c (a : Act) w, Q (.panic c) (a.put oi.dst v) w → Q (.panic c) a w := hQ
  refine ⟨fun w hw => HeldBy.take hi hs hf hr hQ (wanted_none gi _) hv he (hS w hw) (h.without w hw), fun p w hp hw hx => ?_⟩
  refine HeldBy.take hi hs hf2 hr2 hQ2 (wanted_none gi _) (fun w hw => ?_) ?_ (hS w hw) (?_ : wpAnyH P md ops Q S n _ (a'.put dk (ptr p)) w)
  · rw [execOp_put oi (noSel_out hsi) a dk (ptr p) hap]
    exact hv w hw
  · rw [← Act.put_comm a v (ptr p) (fun d hd e => hdd d e hd), he]
  · rw [Array.setIfInBounds_comm _ _ (fun e => hik e.symm)]
    exact h.with_ p w hp hw hx
theorem Goes.callS {f : FuncId} {args : Array Value} (hi : ops[i]? = some oi) (hk : ops[k]? = some ok) (hd : ok.dst = dk) (gk : ok.guard = none) (hvk : Makes P ok x) (hsi : noSel oi = true) (hr : Region.ready md ops L = [i, k]) (hr2 : Region.ready md ops (L.setIfInBounds k true) = [i])
    (gi : oi.guard = none) (hik : i ≠ k) (hap : far ops oi dk = true)
    (hv : ∀ w, (execOp a.eval oi).run P w = .ok (.enter f args) w) (he : a.put oi.dst v = a') (hS : ∀ w', Below w0.heap.size w0 w' → S w')
    (hc : ∀ w, S w → Calls P f args w fun e w' => e = .returned v ∧ Below w.heap.size w w')
    (h : Goes P md ops Q S w0 k dk x n (L.setIfInBounds i true) a') : Goes P md ops Q S w0 k dk x (n + 1) L a := by
  subst hd
  obtain ⟨hap, hdd⟩ := far_out hap
  have late : ∀ p w, w0.heap.size ≤ p → Below w0.heap.size w0 w → w.heap[p]? = some x → wpAnyH P md ops Q S (n + 1) (L.setIfInBounds k true) (a.put ok.dst (ptr p)) w := fun p w hp hw hx => by
    refine HeldBy.call (a' := a'.put ok.dst (ptr p)) (v := v) (f := f) (args := args) hi hr2 (wanted_none gi _) ?_ ?_ ?_
    · rw [execOp_put oi (noSel_out hsi) a ok.dst (ptr p) hap]
      exact hv w
    · rw [← Act.put_comm a v (ptr p) (fun d hd e => hdd d e hd), he]
    · refine (hc w (hS w hw)).mono ?_
      rintro e w' ⟨rfl, hb⟩
      have hw' : Below w0.heap.size w0 w' := hw.trans (hb.mono hw.size)
      refine ⟨rfl, hS _ hw', ?_⟩
      rw [Array.setIfInBounds_comm _ _ (fun e => hik e.symm)]
      exact h.with_ p w' hp hw' ((hb.block p (Array.getElem?_eq_some_iff.1 hx).1).trans hx)
  refine ⟨fun w hw => ?_, late⟩
  refine two hr ?_ ?_
  · refine op_call hi (wanted_none gi _) (hv w) he ((hc w (hS w hw)).mono ?_)
    rintro e w' ⟨rfl, hb⟩
    have hw' : Below w0.heap.size w0 w' := hw.trans (hb.mono hw.size)
    exact ⟨rfl, hS _ hw', h.without w' hw'⟩
  · have hb : Below w0.heap.size w0 (w.alloc x) := hw.alloc hw.size x
    exact op_value hk (wanted_none gk _) (hvk a w) rfl ⟨hS _ hb, late _ _ hw.size hb (heap_alloc_new _ _)⟩
theorem Goes.call {f : FuncId} {args : Array Value} (hi : ops[i]? = some oi) (hk : ops[k]? = some ok) (hd : ok.dst = dk) (gk : ok.guard = none) (hvk : Makes P ok x) (hsi : noSel oi = true) (hr : Region.ready md ops L = [i, k]) (hr2 : Region.ready md ops (L.setIfInBounds k true) = [i])
    (gi : oi.guard = none) (hik : i ≠ k) (hap : far ops oi dk = true)
    (hv : ∀ w, (execOp a.eval oi).run P w = .ok (.enter f args) w) (he : a.put oi.dst v = a') (hS : ∀ w', Below w0.heap.size w0 w' → S w')
    (hc : ∀ w, Calls P f args w fun e w' => e = .returned v ∧ Below w.heap.size w w')
    (h : Goes P md ops Q S w0 k dk x n (L.setIfInBounds i true) a') : Goes P md ops Q S w0 k dk x (n + 1) L a :=
  Goes.callS hi hk hd gk hvk hsi hr hr2 gi hik hap hv he hS (fun w _ => hc w) h
end
end Go.HeldBy
