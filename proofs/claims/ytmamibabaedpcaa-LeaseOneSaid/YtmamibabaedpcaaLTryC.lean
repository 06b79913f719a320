/- lease.step at what Try does, and lease.Try. -/
import Derived.Test.YtmamibabaedpcaaLStep
namespace Go.Proofs.Ytmamibabaedpcaa.L
open Go.RowKit T O
open Go.Lib

section
variable {P : Program} {fn : Func} {p q : Tmp} {ty tz : TypeId} {tmps : Array Value} {w : World} {g g2 : Nat} {x y : Value}
theorem results_cc (h : fn.results = #[.cell p ty, .cell q tz]) (hp : tmps.getD p undef = .pointer (some ⟨g, 0, none⟩)) (hq : tmps.getD q undef = .pointer (some ⟨g2, 0, none⟩))
    (h1 : (loadVar ty ⟨g, 0, none⟩).run P w = .ok x w) (h2 : (loadVar tz ⟨g2, 0, none⟩).run P w = .ok y w) : (results fn tmps).run P w = .ok (.tuple #[x, y]) w := by
  have hp' : tmps[p]?.getD undef = .pointer (some ⟨g, 0, none⟩) := by simpa using hp
  have hq' : tmps[q]?.getD undef = .pointer (some ⟨g2, 0, none⟩) := by simpa using hq
  simp [results, h, hp', hq', asAddr, h1, h2]
theorem results_ct (h : fn.results = #[.cell p ty, .tmp q]) (hp : tmps.getD p undef = .pointer (some ⟨g, 0, none⟩)) (hq : tmps.getD q undef = y)
    (h1 : (loadVar ty ⟨g, 0, none⟩).run P w = .ok x w) : (results fn tmps).run P w = .ok (.tuple #[x, y]) w := by
  have hp' : tmps[p]?.getD undef = .pointer (some ⟨g, 0, none⟩) := by simpa using hp
  have hq' : tmps[q]?.getD undef = y := by simpa using hq
  simp [results, h, hp', hq', asAddr, h1]
end
theorem load_err {W : World} {b : Nat} {n : Int} (h : W.heap[b]? = some (errAt n)) : (loadVar 27 ⟨b, 0, none⟩).run Try.prog W = .ok (.int .i64 n) W := by
  have hc : W.cell? ⟨b, 0, none⟩ = some (.int .i64 n) := (cell_of_row W b 0 _ _ _ h).trans rfl
  simp [go_sem, hc]
theorem heap2 (w : World) (x y : Go.Obj) : ((w.alloc x).alloc y).heap[w.heap.size + 1]? = some y := by
  have := heap_alloc_new (w.alloc x) y
  rwa [World.size_alloc] at this
theorem grown_trans_above {w W W1 : World} {pl : Nat} (hg : w.grownBy W (some pl)) {B : Nat} (hb : Below B W W1) (hB : w.heap.size ≤ B) : w.grownBy W1 (some pl) :=
  ⟨hb.os.trans hg.os, hb.tape.trans hg.tape, hb.output.trans hg.output, Nat.le_trans hg.size hb.size, fun k hk hne => (hb.block k (by omega)).trans (hg.block k hk hne)⟩

/-- What a step comes to. -/
def Stepped (row : Option Nat) (r : Lz × Int) (w : World) (e : Ending) (w' : World) : Prop := e = .returned (.tuple #[encL r.1, .int .i64 r.2]) ∧ w.grownBy w' row

set_option maxRecDepth 100000 in
set_option maxHeartbeats 2000000 in
theorem stepTry_any (x : Lz) (who : ByteArray) (now span : Int) (pw ps pn pl : Nat) (w : World) (hb : Asked w pw ps pn pl x who now span) (hn : 0 ≤ now) (hs : 0 ≤ span) :
    Calls Try.prog 25 #[.func (.func 26) #[] #[.pointer (some ⟨pw, 0, none⟩), .pointer (some ⟨ps, 0, none⟩), .pointer (some ⟨pn, 0, none⟩), .pointer (some ⟨pl, 0, none⟩)]] w (Stepped (some pl) (tryL x who now span) w) := by
  have hmf : ∀ (fn : Fn) (first cap : Array Value) (w : World), (Instr.makeFunc fn first cap).run Try.prog w = .ok (.func fn first cap) w := fun _ _ _ _ => rfl
  have hpl := hb.l.lt
  have HB := Lib.hid hb
  have HT0 : Hid ((tryL x who now span).2 ≠ 0 → (tryL x who now span).1 = Lz0) := try_err
  clear hb
  obtain ⟨R, hR⟩ : ∃ R, tryL x who now span = R := ⟨_, rfl⟩
  have HC : Hid (∀ W, Asked W pw ps pn pl x who now span → Calls Try.prog 26 #[.pointer (some ⟨pw, 0, none⟩), .pointer (some ⟨ps, 0, none⟩), .pointer (some ⟨pn, 0, none⟩), .pointer (some ⟨pl, 0, none⟩)] W (TrySteps pl R W)) := fun W hW => by
    have := tryDo_any x who now span pw ps pn pl W hW hn hs
    rwa [hR] at this
  rw [hR] at HT0 ⊢
  clear hR
  go_enter_defers Try.func25, Try.ntmps25
  go_upto_region 2 with (fail)
  refine wp_gen (fun W => BoxL W w.heap.size Lz0 ∧ W.heap[w.heap.size + 1]? = some (errAt 0) ∧ Asked W pw ps pn pl x who now span ∧ Below w.heap.size w W ∧ w.heap.size + 1 < W.heap.size)
    ⟨(BoxL.new w Lz0).alloc _, heap2 w _ _, HB.out.after (((Below.refl _ _).alloc (Nat.le_refl _) _).alloc (by simp) _), ((Below.refl _ _).alloc (Nat.le_refl _) _).alloc (by simp) _, by simp⟩ ?_
  clear HB
  rintro W0 ⟨hx, he, hA, hlow, hsz⟩
  have HX := Lib.hid hx
  have HE := Lib.hid he
  have HL := Lib.hid hlow
  have HK := Lib.hid (HC.out W0 hA)
  clear hx he hA hlow HC
  go_wp2_with fail
  refine HK.out.mono ?_
  rintro e W1 ⟨hg, ⟨h0, rfl⟩ | ⟨h0, rfl⟩⟩
  · have hx : BoxL W1 w.heap.size Lz0 := (hg.block _ HX.out.lt (by simp; omega)).trans HX.out
    have he : W1.heap[w.heap.size + 1]? = some (errAt 0) := (hg.block _ hsz (by simp; omega)).trans HE.out
    have HG := Lib.hid ((grown_below HL.out (some pl)).trans hg)
    clear hg HK HX HE HL
    have he2 : (W1.setRow w.heap.size (cellsL R.1)).heap[w.heap.size + 1]? = some (errAt 0) := (setRow_other W1 w.heap.size (w.heap.size + 1) _ (by omega)).trans he
    have fz := frozen_of_row (W1.setRow w.heap.size (cellsL R.1)) (w.heap.size + 1) 0 _ _ he2
    have cz : (W1.setRow w.heap.size (cellsL R.1)).cell? ⟨w.heap.size + 1, 0, none⟩ = some (.int .i64 0) := (cell_of_row _ (w.heap.size + 1) 0 _ _ _ he2).trans rfl
    have HF : Hid (BoxL ((W1.setRow w.heap.size (cellsL R.1)).setCell ⟨w.heap.size + 1, 0, none⟩ (.int .i64 0)) w.heap.size R.1 ∧ ((W1.setRow w.heap.size (cellsL R.1)).setCell ⟨w.heap.size + 1, 0, none⟩ (.int .i64 0)).heap[w.heap.size + 1]? = some (errAt 0) ∧ w.grownBy ((W1.setRow w.heap.size (cellsL R.1)).setCell ⟨w.heap.size + 1, 0, none⟩ (.int .i64 0)) (some pl)) :=
      ⟨(hx.setRow R.1).other (by simp) _, (heap_setCell_same _ (w.heap.size + 1) 0 _ _ _ he2).trans rfl, grown_trans_above (grown_row HG.out (Nat.le_refl _) _) ((Below.refl w.heap.size _).setCell (p := ⟨w.heap.size + 1, 0, none⟩) (by simp) _) (Nat.le_refl _)⟩
    have H0 := Lib.hid h0
    clear he he2 h0 HG
    unfold encL
    go_wp2_with ((with_reducible refine wpList_store_rowTo rfl 24 _ _ rfl rfl w.heap.size (cellsL R.1) ?_ ?_ 24 (cellsL Lz0) ?_ ?_ ?_ ?_ ?_); rfl; rfl; exact hx; exact sizeL; rfl; exact one_L _)
    refine leaves_cons (f := 32) (args := #[.pointer (some ⟨w.heap.size, 0, none⟩), .pointer (some ⟨w.heap.size + 1, 0, none⟩)]) (by simp) (by simp [go_sem]) ?_
    refine (catch_idle w.heap.size (w.heap.size + 1) _).mono ?_
    rintro e u' W4 ⟨rfl, rfl, rfl⟩
    exact ⟨_, results_cc rfl rfl rfl (load_lz HF.out.1) (load_err HF.out.2.1), by rw [H0.out], HF.out.2.2⟩
  · have hx : BoxL W1 w.heap.size Lz0 := (hg.block _ HX.out.lt (by simp; omega)).trans HX.out
    have he : W1.heap[w.heap.size + 1]? = some (errAt 0) := (hg.block _ hsz (by simp; omega)).trans HE.out
    have HG := Lib.hid ((grown_below HL.out (some pl)).trans hg)
    have H0 := Lib.hid h0
    clear hg HK HX HE HL h0
    go_wp2
    refine leaves_cons (f := 32) (args := #[.pointer (some ⟨w.heap.size, 0, none⟩), .pointer (some ⟨w.heap.size + 1, 0, none⟩)]) (by simp) (by simp [go_sem]) ?_
    refine (catch_up w.heap.size w.heap.size (w.heap.size + 1) Lz0 0 R.2 [] W1 hx he (by omega) ⟨by omega, by omega⟩).mono ?_
    rintro e u' W4 ⟨rfl, rfl, hC⟩
    exact ⟨_, results_cc rfl rfl rfl (load_lz hC.x) (load_err hC.e), by rw [HT0.out H0.out], grown_trans_above HG.out hC.low (Nat.le_refl _)⟩

theorem asked_new (w : World) (x : Lz) (who : ByteArray) (now span : Int) :
    Asked (((((w.alloc (.cells (cellsL x) 24 (0, 0))).alloc (.cells #[.string who] 9 (0, 0))).alloc (.cells #[.int .u64 now] 22 (0, 0))).alloc (.cells #[.int .u64 span] 22 (0, 0))).alloc (.cells (cellsL Lz0) 24 (0, 0))) (w.heap.size + 1) (w.heap.size + 1 + 1 + 1) (w.heap.size + 1 + 1) w.heap.size x who now span ∧
    BoxL (((((w.alloc (.cells (cellsL x) 24 (0, 0))).alloc (.cells #[.string who] 9 (0, 0))).alloc (.cells #[.int .u64 now] 22 (0, 0))).alloc (.cells #[.int .u64 span] 22 (0, 0))).alloc (.cells (cellsL Lz0) 24 (0, 0))) (w.heap.size + 1 + 1 + 1 + 1) Lz0 := by
  generalize hc : (Go.Obj.cells (cellsL x) 24 (0, 0)) = o0
  generalize hd : (Go.Obj.cells (cellsL Lz0) 24 (0, 0)) = o4
  have k : ∀ (W : World) (o : Go.Obj) (b : Nat) (v : Go.Obj), W.heap[b]? = some v → (W.alloc o).heap[b]? = some v := fun W o b v h => (Below.heap_alloc W o b (Array.getElem?_eq_some_iff.1 h).1).trans h
  have n : ∀ (W : World) (o : Go.Obj) (b : Nat), W.heap.size = b → (W.alloc o).heap[b]? = some o := fun W o b h => by subst h; exact heap_alloc_new W o
  refine ⟨⟨k _ _ _ _ (k _ _ _ _ (k _ _ _ _ (n _ _ _ (by simp)))), k _ _ _ _ (n _ _ _ (by simp)), k _ _ _ _ (k _ _ _ _ (n _ _ _ (by simp))), ?_⟩, ?_⟩
  · unfold BoxL
    rw [hc]
    exact k _ _ _ _ (k _ _ _ _ (k _ _ _ _ (k _ _ _ _ (n _ _ _ rfl))))
  · unfold BoxL
    rw [hd]
    exact n _ _ _ (by simp)
set_option maxRecDepth 100000 in
set_option maxHeartbeats 2000000 in
theorem try_any (x : Lz) (who : ByteArray) (now span : Int) (w : World) (hn : 0 ≤ now) (hs : 0 ≤ span) :
    Calls Try.prog 11 #[encL x, .string who, .int .u64 now, .int .u64 span] w fun e w' => e = .returned (.tuple #[encL (tryL x who now span).1, .int .i64 (tryL x who now span).2]) ∧ Below w.heap.size w w' := by
  have hmf : ∀ (fn : Fn) (first cap : Array Value) (w : World), (Instr.makeFunc fn first cap).run Try.prog w = .ok (.func fn first cap) w := fun _ _ _ _ => rfl
  have hnew := asked_new w x who now span
  have HN := Lib.hid hnew
  clear hnew
  obtain ⟨R, hR⟩ : ∃ R, tryL x who now span = R := ⟨_, rfl⟩
  have HC0 : Hid (∀ W, Asked W (w.heap.size + 1) (w.heap.size + 1 + 1 + 1) (w.heap.size + 1 + 1) w.heap.size x who now span → Calls Try.prog 25 #[.func (.func 26) #[] #[.pointer (some ⟨w.heap.size + 1, 0, none⟩), .pointer (some ⟨w.heap.size + 1 + 1 + 1, 0, none⟩), .pointer (some ⟨w.heap.size + 1 + 1, 0, none⟩), .pointer (some ⟨w.heap.size, 0, none⟩)]] W (Stepped (some w.heap.size) R W)) := fun W hW => by
    have := stepTry_any x who now span _ _ _ _ W hW hn hs
    rwa [hR] at this
  rw [hR]
  clear hR
  unfold encL
  go_enter Try.func11, Try.ntmps11
  go_upto_region 1 with (fail)
  refine wp_gen (fun W => (Asked W (w.heap.size + 1) (w.heap.size + 1 + 1 + 1) (w.heap.size + 1 + 1) w.heap.size x who now span ∧ BoxL W (w.heap.size + 1 + 1 + 1 + 1) Lz0) ∧ Below w.heap.size w W)
    ⟨HN.out, (((((Below.refl _ _).alloc (Nat.le_refl _) _).alloc (by simp) _).alloc (by simp; omega) _).alloc (by simp; omega) _).alloc (by simp; omega) _⟩ ?_
  clear HN
  rintro W ⟨⟨hA, hr⟩, hlow⟩
  have HR := Lib.hid hr
  have HL := Lib.hid hlow
  have HC := Lib.hid (HC0.out W hA)
  clear hA hr hlow HC0
  go_wp2_with fail
  refine HC.out.mono ?_
  rintro e W1 ⟨rfl, hg⟩
  have hr : BoxL W1 (w.heap.size + 1 + 1 + 1 + 1) Lz0 := (hg.block _ HR.out.lt (by simp; omega)).trans HR.out
  have HG := Lib.hid (HL.out.grown hg (by have := HR.out.lt; omega) (by intro k hk; cases hk; omega))
  clear hg HC HR HL
  have HV := Lib.hid (load_lz (hr.setRow R.1))
  have HF := Lib.hid (below_setRow HG.out (g := w.heap.size + 1 + 1 + 1 + 1) (by omega) (cellsL R.1))
  clear HG
  unfold encL
  go_wp2_with ((with_reducible refine wpList_store_rowTo rfl 24 _ _ rfl rfl (w.heap.size + 1 + 1 + 1 + 1) (cellsL R.1) ?_ ?_ 24 (cellsL Lz0) ?_ ?_ ?_ ?_ ?_); rfl; rfl; exact hr; exact sizeL; rfl; exact one_L _)
  refine bodyPost_ret (v := .tuple #[encL R.1, .int .i64 R.2]) (results_ct rfl rfl rfl HV.out) rfl ⟨rfl, HF.out⟩
end Go.Proofs.Ytmamibabaedpcaa.L
