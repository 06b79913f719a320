/- topo.readList at labels. -/
import Derived.Test.YtneogmcmkbhnaaaTLabels
import Derived.Test.YtneogmcmkbhnaaaTCutB
import Derived.Test.YtneogmcmkbhnaaaQuietIn
namespace Go.Proofs.Ytneogmcmkbhnaaa.T
open Go.RowKit Go.Shelf Go.Lib
attribute [local go_sem] Oper.semAt_some

/-- What readList answers at labels. -/
def LabelsPost (w : World) (r : Option (List LB)) (e : Ending) (W' : World) : Prop := Below w.heap.size w W' ∧ match r with
  | none => e = .returned (.tuple #[.slice none 0 0, .bool false])
  | some acc => ∃ v, e = .returned (.tuple #[v, .bool true]) ∧ W'.ownsRow (w.heap.size + 8) 70 2 v acc.length (encLs acc)
theorem infoLabel : (Try.prog.info? 70).map (fun i => (i.zero, i.size, i.bytes)) = some (some (.agg #[.string ⟨#[]⟩, .string ⟨#[]⟩]), 2, 32) := by kernel_rfl
theorem undLabels : Try.prog.underlying 23 = some (.slice 70) := by kernel_rfl
theorem cell_two_new (w : World) (x y : Value) (t : TypeId) : ∀ j u, [x, y][j]? = some u → (w.alloc (.cells #[x, y] t)).cell? ((⟨w.heap.size, 0, none⟩ : Addr).add j) = some u := by
  intro j u hj
  have h := heap_alloc_new w (.cells #[x, y] t)
  match j, hj with
  | 0, hj =>
    cases hj
    exact (cell_of_row _ w.heap.size 0 _ _ _ h).trans rfl
  | 1, hj =>
    cases hj
    exact (cell_of_row _ w.heap.size 1 _ _ _ h).trans rfl
  | j + 2, hj => simp at hj
theorem exec_load_label {W : World} {k : Nat} {a b : List UInt8} (h : BoxL W k a b) {oi : Oper} {c : Act} {x : Operand} (ho : oi.op = .load 70 x) (hx : c.eval x = .pointer (some ⟨k, 0, none⟩)) :
    (execOp c.eval oi).run Try.prog W = .ok (.value (.agg (cellsL a b))) W := by
  unfold execOp
  simp only [ho, hx, Instr.loadAt, Instr.sureAddr, Sem.run_bind, Sem.run_pure, Result.andThen_ok, load_label h]
theorem exec_load_label_at {W : World} {g o : Nat} {a b : List UInt8} (h1 : W.cell? ⟨g, o, none⟩ = some (encS a)) (h2 : W.cell? ⟨g, o + 1, none⟩ = some (encS b)) {oi : Oper} {c : Act} {x : Operand} (ho : oi.op = .load 70 x) (hx : c.eval x = .pointer (some ⟨g, o, none⟩)) :
    (execOp c.eval oi).run Try.prog W = .ok (.value (.agg (cellsL a b))) W := by
  have hr : W.rangeAt g o [encS a, encS b] := fun j v hj => by
    match j, hj with
    | 0, hj => cases hj; exact h1
    | 1, hj => cases hj; exact h2
    | j + 2, hj => simp at hj
  have hl := run_loadVar_mid W g o 70 [encS a, encS b] _ hr undLabel rfl sizeLabel
  unfold execOp
  simp only [ho, hx, Instr.loadAt, Instr.sureAddr, Sem.run_bind, Sem.run_pure, Result.andThen_ok, hl]
  rfl
def rdT (x : List UInt8) : Option LB := rdLabel (tk x)
theorem wpIn_gen {F : Fence} {n : Nat} {P : Program} {c : Code} {Q : Exit → Act → World → Prop} {a : Act} {W : World} (G : World → Prop) (hG : G W) (h : ∀ W1, G W1 → Code.wpIn F n P c Q a W1) : Code.wpIn F n P c Q a W := h W hG

set_option maxRecDepth 100000 in
set_option maxHeartbeats 2000000 in
theorem readLabelsT_in (s : ByteArray) (hs : s.size ≤ 9223372036854775807) (m : UInt8) (hm : m.toNat < 128) (w : World) :
    CallsIn Fence.wide 3 Try.prog 66 #[.string s, .int .i32 m.toNat, .int .i64 8, .func (.func 45) #[] #[], .func (.func 37) #[] #[]] w
      (LabelsPost w (readAll rdT keyL (splitOn m s.data.toList))) := by
  have h1 : 1 ≤ 3 := by omega
  refine callsIn_of_wp_marks Try.func66 rfl trivial ?_ rfl
  simp only [Try.ntmps66, List.size_toArray, List.length_cons, List.length_nil, Nat.reduceAdd, Nat.reduceSub, Array.replicate_succ, Array.replicate_zero, List.push_toArray, List.append_toArray, List.nil_append, List.cons_append]
  gi_wp2_with fail
  refine ⟨trivial, (callsIn_wide.2 (cut_any _ _ _)).mono ?_⟩
  rintro e w' ⟨rfl, rfl⟩
  gi_wp2_with fail
  have hz : ((((((((w.alloc (.cells #[.int .i64 8] 3)).alloc (.cells #[.func (.func 45) #[] #[]] 81)).alloc (.cells #[.func (.func 37) #[] #[]] 72)).alloc (.cells #[.slice none 0 0] 23)).alloc (.cells #[.bool false] 4)).alloc (.cells #[.slice none 0 0] 23)).alloc (.cells #[.string s] 9)).alloc (.cells #[.int .i32 m.toNat] 21)).heap.size = w.heap.size + 8 := by simp
  have hI0 : LS w (w.heap.size + 8) s m (.slice none 0 0) false [] ((((((((w.alloc (.cells #[.int .i64 8] 3)).alloc (.cells #[.func (.func 45) #[] #[]] 81)).alloc (.cells #[.func (.func 37) #[] #[]] 72)).alloc (.cells #[.slice none 0 0] 23)).alloc (.cells #[.bool false] 4)).alloc (.cells #[.slice none 0 0] 23)).alloc (.cells #[.string s] 9)).alloc (.cells #[.int .i32 m.toNat] 21)) := by
    have hl := Below.refl w.heap.size w
    refine ⟨?_, ?_, ?_, ?_, ?_, ?_, ?_, ⟨.slice none 0 0, ?_, World.ownsRow_nil _ _ _ _, trivial⟩, ?_⟩
    iterate 8 (focus (repeat (first | (refine boxed_at _ _ _ _ ?_; simp; done) | refine Boxed.alloc ?_ _)))
    repeat (first | exact Below.refl _ _ | refine Below.alloc ?_ (by simp; try omega) _)
  generalize (((((((w.alloc (.cells #[.int .i64 8] 3)).alloc (.cells #[.func (.func 45) #[] #[]] 81)).alloc (.cells #[.func (.func 37) #[] #[]] 72)).alloc (.cells #[.slice none 0 0] 23)).alloc (.cells #[.bool false] 4)).alloc (.cells #[.slice none 0 0] 23)).alloc (.cells #[.string s] 9)).alloc (.cells #[.int .i32 m.toNat] 21) = W0 at hI0 hz ⊢
  refine wpIn_rangeFunc_ownF (F := Fence.wide) (n := 3) rfl h1 (gf := 79) (lb := #[.pointer (some ⟨w.heap.size + 1 + 1 + 1 + 1 + 1 + 1, 0, none⟩), .pointer (some ⟨w.heap.size + 1 + 1 + 1 + 1 + 1 + 1 + 1, 0, none⟩)]) rfl trivial (enters_of Try.func79 (by kernel_rfl) rfl)
    (cut_stopsB Fence.wide 2 trivial rfl (by omega) s hs m hm _ _ W0 hI0.txt hI0.mark) kpB_t (kpB_b (by omega) (by omega)) (Below.refl _ _) (fun _ => rfl)
    (fun pre W => ∃ acc, readAll rdT keyL pre = some acc ∧ LS w (w.heap.size + 8) s m (.slice none 0 0) false acc W)
    (fun c pre W => c = .ret ∧ readAll rdT keyL pre = none ∧ ∃ acc, LS w (w.heap.size + 8) s m (.slice none 0 0) false acc W)
    (fun pre A B row ⟨acc, h, hB⟩ hg hr => ⟨acc, h, ls_own (by omega) acc A B row hB hg hr⟩)
    (fun c pre A B row ⟨hc, h, acc, hB⟩ hg hr => ⟨hc, h, acc, ls_own (by omega) acc A B row hB hg hr⟩)
    ⟨[], rfl, hI0⟩
    (fun x => { tmps := #[.string s, .int .i32 m.toNat, .int .i64 8, .func (.func 45) #[] #[], .func (.func 37) #[] #[], undef, undef, .pointer (some ⟨w.heap.size, 0, none⟩), .pointer (some ⟨w.heap.size + 1, 0, none⟩), .pointer (some ⟨w.heap.size + 1 + 1, 0, none⟩), .pointer (some ⟨w.heap.size + 1 + 1 + 1, 0, none⟩), .pointer (some ⟨w.heap.size + 1 + 1 + 1 + 1, 0, none⟩), .pointer (some ⟨w.heap.size + 1 + 1 + 1 + 1 + 1, 0, none⟩), encS (tk x), undef, undef, .string s, .int .i32 m.toNat, .func (.func 79) #[] #[.pointer (some ⟨w.heap.size + 1 + 1 + 1 + 1 + 1 + 1, 0, none⟩), .pointer (some ⟨w.heap.size + 1 + 1 + 1 + 1 + 1 + 1 + 1, 0, none⟩)], encS (tk x), undef, undef, undef, undef, undef, undef, undef, undef, undef, undef, undef, undef, undef, undef, undef, undef, undef, undef, undef, undef, undef, undef, undef, undef, undef, undef, undef, undef, undef, undef, undef, undef, undef, undef, undef, undef, undef, undef], defers := [] }) ?assign ?body ?done ?stop
  case assign =>
    intro l x W K hK
    simp only [encB]
    gi_wp2
    exact hK
  case body =>
    rintro l pre x W ⟨acc, hacc, hI⟩ _
    have c1 := hI.rdF.cell
    gi_wp2_with fail
    refine ⟨trivial, ((callsIn_wide.2 (readLabel_any (tk x) (tk_len x) _)).inRound l).mono ?_⟩
    rintro e W1 ⟨rfl, hb1⟩
    have hI1 := ls_below hI hb1
    have hko : KeepsOthers W W1 := ⟨hb1.size, fun k o hk _ => (hb1.block k (Array.getElem?_eq_some_iff.1 hk).1).trans hk⟩
    have hH0 := Lib.hid hI
    clear hI hb1 c1
    unfold labelV
    cases hwd : rdLabel (tk x) with
    | none =>
      have hnone : Hid (readAll rdT keyL (pre ++ [x]) = none) := by
        show _ = _
        rw [readAll_snoc, hacc]
        show step rdT keyL acc x = none
        unfold step rdT; rw [hwd]
      unfold cellsL encS
      gi_wp2_with fail
      refine wpIn_gen (fun V => LS w (w.heap.size + 8) s m (.slice none 0 0) false acc V ∧ KeepsOthers W V) ⟨ls_below hI1 ((Below.refl _ _).alloc (Nat.le_refl _) _), hko.trans (KeepsOthers.alloc W1 _)⟩ ?_
      clear hI1 hko hwd
      rintro V ⟨hI1, hko⟩
      refine StillIn.wpIn_region_class (fun w' => Below V.heap.size V w') (by kernel_rfl) (by kernel_rfl) (by kernel_rfl) (below_drewN (Below.refl _ _) 1) ?_
      iterate 3 (refine StillIn.quiet_take_to (by first | exact StillIn.asked_wide | exact StillIn.asked_wide0 | quiet_asked_in) (by rfl) (fun _ _ => StillIn.quietAt_of_run (by go_simp; rfl)) (by go_simp; rfl) ?_)
      iterate 4 (refine StillIn.quiet_skip_to (by first | exact StillIn.asked_wide | exact StillIn.asked_wide0 | quiet_asked_in) (by rfl) (by go_simp; rfl) ?_)
      iterate 2 (refine StillIn.quiet_take_to (by first | exact StillIn.asked_wide | exact StillIn.asked_wide0 | quiet_asked_in) (by rfl) (fun _ _ => StillIn.quietAt_of_run (by go_simp; rfl)) (by go_simp; rfl) ?_)
      iterate 17 (refine StillIn.quiet_skip_to (by first | exact StillIn.asked_wide | exact StillIn.asked_wide0 | quiet_asked_in) (by rfl) (by go_simp; rfl) ?_)
      iterate 1 (refine StillIn.quiet_take_to (by first | exact StillIn.asked_wide | exact StillIn.asked_wide0 | quiet_asked_in) (by rfl) (fun _ _ => StillIn.quietAt_of_run (by go_simp; rfl)) (by go_simp; rfl) ?_)
      refine wpQuietIn_nil ?_
      intro W2 hb2
      have hI2 := ls_below hI1 hb2
      have d3 := hI2.resB.cell
      have f3 := hI2.resB.frozen
      have d4 := hI2.okB.cell
      have f4 := hI2.okB.frozen
      have d4' : ∀ v, (W2.setCell ⟨w.heap.size + 1 + 1 + 1, 0, none⟩ v).cell? ⟨w.heap.size + 1 + 1 + 1 + 1, 0, none⟩ = some (.bool false) := fun v => (hI2.okB.other (by omega) v).cell
      have hfin := Lib.hid (ls_fail hI2 (by omega) (.slice none 0 0) false)
      have hkoo := Lib.hid ((hko.trans (kof hb2)).trans ((KeepsOthers.setCell W2 ⟨w.heap.size + 1 + 1 + 1, 0, none⟩ (.slice none 0 0)).trans (KeepsOthers.setCell _ ⟨w.heap.size + 1 + 1 + 1 + 1, 0, none⟩ (.bool false))))
      clear hI1 hI2 hb2 hko
      gi_wp2
      exact ⟨hkoo.out, rfl, hnone.out, _, hfin.out⟩
    | some y =>
      obtain ⟨ka, kb⟩ := y
      unfold cellsL encS
      gi_wp2_with fail
      obtain ⟨bx, hbx⟩ : ∃ b, b = W1.heap.size := ⟨_, rfl⟩
      rw [← hbx]
      refine wpIn_gen (fun V => LS w (w.heap.size + 8) s m (.slice none 0 0) false acc V ∧ KeepsOthers W V ∧ BoxL V bx ka kb) ⟨ls_below hI1 ((Below.refl _ _).alloc (Nat.le_refl _) _), hko.trans (KeepsOthers.alloc W1 _), by rw [hbx]; exact heap_alloc_new W1 _⟩ ?_
      clear hI1 hko hbx
      rintro V ⟨hI1, hko, hbl⟩
      obtain ⟨v, hv1, hv2, -⟩ := hI1.row
      have cx : ∀ w', Below V.heap.size V w' → BoxL w' bx ka kb := fun w' hw' => hbl.after hw'
      have cl : ∀ w', Below V.heap.size V w' → w'.cell? ⟨w.heap.size + 1 + 1 + 1 + 1 + 1, 0, none⟩ = some v := fun w' hw' => (boxed_below hv1 hw').cell
      have cm : ∀ w', Below V.heap.size V w' → w'.cell? ⟨w.heap.size, 0, none⟩ = some (.int .i64 8) := fun w' hw' => (boxed_below hI1.most hw').cell
      obtain ⟨o, cap, rfl⟩ : ∃ o cap, v = .slice o acc.length cap := by
        rcases hv2.2 with ⟨rfl, h0⟩ | ⟨g, cap, cur, rfl, -⟩
        · exact ⟨none, 0, by rw [h0]⟩
        · exact ⟨_, _, rfl⟩
      have ck : ∀ w', Below V.heap.size V w' → w'.cell? ⟨w.heap.size + 1 + 1, 0, none⟩ = some (.func (.func 37) #[] #[]) := fun w' hw' => (boxed_below hI1.keyF hw').cell
      have hlen := Lib.hid (readAll_len _ _ hacc).1
      refine StillIn.wpIn_region_class (fun w' => Below V.heap.size V w') (by kernel_rfl) (by kernel_rfl) (by kernel_rfl) (below_drewN (Below.refl _ _) 1) ?_
      iterate 3 (refine StillIn.quiet_take_to (by first | exact StillIn.asked_wide | exact StillIn.asked_wide0 | quiet_asked_in) (by rfl) (fun _ _ => StillIn.quietAt_of_run (by go_simp; rfl)) (by go_simp; rfl) ?_)
      refine StillIn.quiet_take_to StillIn.asked_wide (by rfl) (fun w' hw' => StillIn.quietAt_of_run (by have c := cl w' hw'; go_simp; rfl)) (by go_simp; rfl) ?_
      (refine StillIn.quiet_take_to (by first | exact StillIn.asked_wide | exact StillIn.asked_wide0 | quiet_asked_in) (by rfl) (fun _ _ => StillIn.quietAt_of_run (by go_simp; rfl)) (by go_simp; rfl) ?_)
      refine StillIn.quiet_take_to StillIn.asked_wide (by rfl) (fun w' hw' => StillIn.quietAt_of_run (by have c := cm w' hw'; go_simp; rfl)) (by go_simp; rfl) ?_
      by_cases h8 : acc.length = 8
      · refine StillIn.quiet_take_to (v := .bool true) StillIn.asked_wide (by rfl) (fun w' hw' => StillIn.quietAt_of_run (by go_simp)) (by go_simp; rfl) ?_
        iterate 2 (refine StillIn.quiet_take_to (by first | exact StillIn.asked_wide | exact StillIn.asked_wide0 | quiet_asked_in) (by rfl) (fun _ _ => StillIn.quietAt_of_run (by go_simp; rfl)) (by go_simp; rfl) ?_)
        iterate 17 (refine StillIn.quiet_skip_to (by first | exact StillIn.asked_wide | exact StillIn.asked_wide0 | quiet_asked_in) (by rfl) (by go_simp; rfl) ?_)
        (refine StillIn.quiet_take_to (by first | exact StillIn.asked_wide | exact StillIn.asked_wide0 | quiet_asked_in) (by rfl) (fun _ _ => StillIn.quietAt_of_run (by go_simp; rfl)) (by go_simp; rfl) ?_)
        have hnone : Hid (readAll rdT keyL (pre ++ [x]) = none) := by
          show _ = _
          rw [readAll_snoc, hacc]
          show step rdT keyL acc x = none
          unfold step rdT; rw [hwd]; simp [h8]
        refine wpQuietIn_nil ?_
        intro W2 hb2
        have hI2 := ls_below hI1 hb2
        have d3 := hI2.resB.cell
        have f3 := hI2.resB.frozen
        have d4 := hI2.okB.cell
        have f4 := hI2.okB.frozen
        have d4' : ∀ v, (W2.setCell ⟨w.heap.size + 1 + 1 + 1, 0, none⟩ v).cell? ⟨w.heap.size + 1 + 1 + 1 + 1, 0, none⟩ = some (.bool false) := fun v => (hI2.okB.other (by omega) v).cell
        have hfin := Lib.hid (ls_fail hI2 (by omega) (.slice none 0 0) false)
        have hkoo := Lib.hid ((hko.trans (kof hb2)).trans ((KeepsOthers.setCell W2 ⟨w.heap.size + 1 + 1 + 1, 0, none⟩ (.slice none 0 0)).trans (KeepsOthers.setCell _ ⟨w.heap.size + 1 + 1 + 1 + 1, 0, none⟩ (.bool false))))
        clear hI1 hI2 hb2 hko
        gi_wp2
        exact ⟨hkoo.out, rfl, hnone.out, _, hfin.out⟩
      · refine StillIn.quiet_take_to (v := .bool false) StillIn.asked_wide (by rfl) (fun w' hw' => StillIn.quietAt_of_run (by go_simp; omega)) (by go_simp; rfl) ?_
        iterate 2 (refine StillIn.quiet_take_to (by first | exact StillIn.asked_wide | exact StillIn.asked_wide0 | quiet_asked_in) (by rfl) (fun _ _ => StillIn.quietAt_of_run (by go_simp; rfl)) (by go_simp; rfl) ?_)
        refine StillIn.quiet_take_to StillIn.asked_wide (by rfl) (fun w' hw' => StillIn.quietAt_of_run (by have c := cl w' hw'; go_simp; rfl)) (by go_simp; rfl) ?_
        (refine StillIn.quiet_take_to (by first | exact StillIn.asked_wide | exact StillIn.asked_wide0 | quiet_asked_in) (by rfl) (fun _ _ => StillIn.quietAt_of_run (by go_simp; rfl)) (by go_simp; rfl) ?_)
        cases acc with
        | nil =>
          refine StillIn.quiet_take_to (v := .bool false) StillIn.asked_wide (by rfl) (fun w' hw' => StillIn.quietAt_of_run (by go_simp; try rfl)) (by go_simp; rfl) ?_
          (refine StillIn.quiet_take_to (by first | exact StillIn.asked_wide | exact StillIn.asked_wide0 | quiet_asked_in) (by rfl) (fun _ _ => StillIn.quietAt_of_run (by go_simp; rfl)) (by go_simp; rfl) ?_)
          iterate 12 (refine StillIn.quiet_skip_to (by first | exact StillIn.asked_wide | exact StillIn.asked_wide0 | quiet_asked_in) (by rfl) (by go_simp; rfl) ?_)
          iterate 2 (refine StillIn.quiet_take_to (by first | exact StillIn.asked_wide | exact StillIn.asked_wide0 | quiet_asked_in) (by rfl) (fun _ _ => StillIn.quietAt_of_run (by go_simp; rfl)) (by go_simp; rfl) ?_)
          refine wpQuietIn_nil ?_
          intro W2 hb2
          have hsome : Hid (readAll rdT keyL (pre ++ [x]) = some ([] ++ [(ka, kb)])) := by
            show _ = _
            rw [readAll_snoc, hacc]
            show step rdT keyL [] x = _
            unfold step rdT; rw [hwd]; rfl
          have hI2 := ls_below hI1 hb2
          have hv' := boxed_below hv1 hb2
          have hr' := ownsRow_below hv2 hb2
          have hx2 := cx W2 hb2
          have x0 : W2.cell? ⟨bx, 0, none⟩ = some (.string ⟨ka.toArray⟩) := (cell_of_row W2 bx 0 _ _ _ hx2).trans rfl
          have x1 : W2.cell? ⟨bx, 1, none⟩ = some (.string ⟨kb.toArray⟩) := (cell_of_row W2 bx 1 _ _ _ hx2).trans rfl
          have d3 := hv'.cell
          have hko2 := Lib.hid (hko.trans (kof hb2))
          have hsz := hI2.low.size
          have hsz2 : w.heap.size + 8 ≤ W2.heap.size := by have := hI2.mark.lt; omega
          obtain ⟨i0, hi, hz0, hz1, hz2⟩ := info_parts infoLabel
          have hH := Lib.hid hI2
          clear hI1 hko hI2 hx2
          gi_wp2_with (gi_at_builtin; refine wpListIn_append_own _ rfl _ _ 23 rfl (w.heap.size + 8) 70 i0 (.agg #[.string ⟨#[]⟩, .string ⟨#[]⟩]) 2 32 undLabels hi hz0 hz1 hz2 rfl (by decide) _ _ _ rfl (hr'.alloc _) ⟨W2.heap.size, 0, none⟩ 1 1 [.string ⟨ka.toArray⟩, .string ⟨kb.toArray⟩] rfl rfl ?c1 ?c2 ?c3 ?c4 ?c5 ?c6; (focus exact cell_two_new _ _ _ _); (focus (simp [Value.oneCell'])); (focus (have := hlen.out; simp only [maxLen]; omega)); (focus (have := hlen.out; omega)); (focus (simp; omega)); intro v' w3 hown' hg3 hnil3; obtain ⟨g', cap', rfl⟩ := ownsRow_succ hown'; obtain ⟨hv1', hk3, hI3⟩ := ls_append (ka, kb) hH.out hv' hr' hown' hg3; have hc1 := hv1'.cell; have hf1 := hv1'.frozen)
          exact ⟨hko2.out.trans hk3, ⟨(hko2.out.trans hk3).walks, hI3.txt.trans hH0.out.txt.symm, hI3.mark.trans hH0.out.mark.symm⟩, _, hsome.out, hI3⟩
        | cons y0 acc =>
          obtain ⟨g, cur, rfl, hg, hcur, hcur1⟩ := last_label hv2
          have ce : ∀ w', Below V.heap.size V w' → w'.cell? ⟨g, acc.length * 2, none⟩ = some (encS ((y0 :: acc).getLast (by simp)).1) ∧ w'.cell? ⟨g, acc.length * 2 + 1, none⟩ = some (encS ((y0 :: acc).getLast (by simp)).2) := fun w' hw' => by
            have := (hw'.block g (Array.getElem?_eq_some_iff.1 hg).1).trans hg
            exact ⟨by simp [World.cell?, this, hcur], by simp [World.cell?, this, hcur1]⟩
          have hl8 : Hid (acc.length ≤ 7) := by have := hlen.out; simp at this; show _ ≤ _; omega
          have h0 : (0 : Int) < ((y0 :: acc).length : Int) := by simp
          refine StillIn.quiet_take_to (v := .bool true) StillIn.asked_wide (by rfl) (fun w' hw' => StillIn.quietAt_of_run (by go_simp)) (by go_simp; rfl) ?_
          (refine StillIn.quiet_take_to (by first | exact StillIn.asked_wide | exact StillIn.asked_wide0 | quiet_asked_in) (by rfl) (fun _ _ => StillIn.quietAt_of_run (by go_simp; rfl)) (by go_simp; rfl) ?_)
          refine StillIn.quiet_take_to StillIn.asked_wide (by rfl) (fun w' hw' => StillIn.quietAt_of_run (by have c := ck w' hw'; go_simp; rfl)) (by go_simp; rfl) ?_
          refine StillIn.quiet_take_to StillIn.asked_wide (by rfl) (fun w' hw' => StillIn.quietAt_of_run (exec_load_label (cx w' hw') rfl rfl)) (by go_simp; rfl) ?_
          refine StillIn.quiet_take_to StillIn.asked_wide (by rfl) (fun w' hw' => StillIn.quietAt_of_call (by go_simp) (fun _ => by omega) ((callsIn_wide.2 (labelKey_any ka kb w')).inRound l |>.mono fun e w2 ⟨he, hw2⟩ => ⟨he, hw'.trans (hw2.mono hw'.size)⟩)) (by go_simp; rfl) ?_
          refine StillIn.quiet_take_to StillIn.asked_wide (by rfl) (fun w' hw' => StillIn.quietAt_of_run (by have c := ck w' hw'; go_simp; rfl)) (by go_simp; rfl) ?_
          refine StillIn.quiet_take_to StillIn.asked_wide (by rfl) (fun w' hw' => StillIn.quietAt_of_run (by have c := cl w' hw'; go_simp; rfl)) (by go_simp; rfl) ?_
          refine StillIn.quiet_take_to StillIn.asked_wide (by rfl) (fun w' hw' => StillIn.quietAt_of_run (by have c := cl w' hw'; go_simp; rfl)) (by go_simp; rfl) ?_
          (refine StillIn.quiet_take_to (by first | exact StillIn.asked_wide | exact StillIn.asked_wide0 | quiet_asked_in) (by rfl) (fun _ _ => StillIn.quietAt_of_run (by go_simp; rfl)) (by go_simp; rfl) ?_)
          refine StillIn.quiet_take_to (v := .int .i64 (acc.length : Nat)) StillIn.asked_wide (by rfl) (fun w' hw' => StillIn.quietAt_of_run (by go_simp; exact IntWalk.i64_in _ (by have := hl8.out; omega))) (by go_simp; rfl) ?_
          refine StillIn.quiet_take_to (v := .pointer (some ⟨g, acc.length * 2, none⟩)) StillIn.asked_wide (by rfl) (fun w' hw' => StillIn.quietAt_of_run (by go_simp; intro hh; omega)) (by go_simp; rfl) ?_
          refine StillIn.quiet_take_to StillIn.asked_wide (by rfl) (fun w' hw' => StillIn.quietAt_of_run (exec_load_label_at (ce w' hw').1 (ce w' hw').2 rfl rfl)) (by go_simp; rfl) ?_
          refine StillIn.quiet_take_to StillIn.asked_wide (by rfl) (fun w' hw' => StillIn.quietAt_of_call (by go_simp) (fun _ => by omega) ((callsIn_wide.2 (labelKey_any ((y0 :: acc).getLast (by simp)).1 ((y0 :: acc).getLast (by simp)).2 w')).inRound l |>.mono fun e w2 ⟨he, hw2⟩ => ⟨he, hw'.trans (hw2.mono hw'.size)⟩)) (by go_simp; rfl) ?_
          refine StillIn.quiet_take_to (v := .bool (leB ka ((y0 :: acc).getLast (by simp)).1)) StillIn.asked_wide (by rfl) (fun w' hw' => StillIn.quietAt_of_run (by go_simp; rw [leq_any]; go_simp)) (by go_simp; rfl) ?_
          iterate 2 (refine StillIn.quiet_take_to (by first | exact StillIn.asked_wide | exact StillIn.asked_wide0 | quiet_asked_in) (by rfl) (fun _ _ => StillIn.quietAt_of_run (by go_simp; rfl)) (by go_simp; rfl) ?_)
          cases hle : leB ka ((y0 :: acc).getLast (by simp)).1 with
          | true =>
            have hnone : Hid (readAll rdT keyL (pre ++ [x]) = none) := by
              show _ = _
              rw [readAll_snoc, hacc]
              show step rdT keyL (y0 :: acc) x = none
              unfold step rdT; rw [hwd]; dsimp only
              rw [if_neg h8, List.getLast?_eq_some_getLast (by simp)]
              simp only [keyL, hle, if_true]
            refine wpQuietIn_nil ?_
            intro W2 hb2
            have hI2 := ls_below hI1 hb2
            have d3 := hI2.resB.cell
            have f3 := hI2.resB.frozen
            have d4 := hI2.okB.cell
            have f4 := hI2.okB.frozen
            have d4' : ∀ v, (W2.setCell ⟨w.heap.size + 1 + 1 + 1, 0, none⟩ v).cell? ⟨w.heap.size + 1 + 1 + 1 + 1, 0, none⟩ = some (.bool false) := fun v => (hI2.okB.other (by omega) v).cell
            have hfin := Lib.hid (ls_fail hI2 (by omega) (.slice none 0 0) false)
            have hkoo := Lib.hid ((hko.trans (kof hb2)).trans ((KeepsOthers.setCell W2 ⟨w.heap.size + 1 + 1 + 1, 0, none⟩ (.slice none 0 0)).trans (KeepsOthers.setCell _ ⟨w.heap.size + 1 + 1 + 1 + 1, 0, none⟩ (.bool false))))
            clear hI1 hI2 hb2 hko
            gi_wp2
            exact ⟨hkoo.out, rfl, hnone.out, _, hfin.out⟩
          | false =>
            refine wpQuietIn_nil ?_
            intro W2 hb2
            have hsome : Hid (readAll rdT keyL (pre ++ [x]) = some ((y0 :: acc) ++ [(ka, kb)])) := by
              show _ = _
              rw [readAll_snoc, hacc]
              show step rdT keyL (y0 :: acc) x = _
              unfold step rdT; rw [hwd]; dsimp only
              rw [if_neg h8, List.getLast?_eq_some_getLast (by simp)]
              simp [keyL, hle]
            have hI2 := ls_below hI1 hb2
            have hv' := boxed_below hv1 hb2
            have hr' := ownsRow_below hv2 hb2
            have hx2 := cx W2 hb2
            have x0 : W2.cell? ⟨bx, 0, none⟩ = some (.string ⟨ka.toArray⟩) := (cell_of_row W2 bx 0 _ _ _ hx2).trans rfl
            have x1 : W2.cell? ⟨bx, 1, none⟩ = some (.string ⟨kb.toArray⟩) := (cell_of_row W2 bx 1 _ _ _ hx2).trans rfl
            have d3 := hv'.cell
            have hko2 := Lib.hid (hko.trans (kof hb2))
            have hsz := hI2.low.size
            have hsz2 : w.heap.size + 8 ≤ W2.heap.size := by have := hI2.mark.lt; omega
            obtain ⟨i0, hi, hz0, hz1, hz2⟩ := info_parts infoLabel
            have hH := Lib.hid hI2
            clear hI1 hko hI2 hx2
            gi_wp2_with (gi_at_builtin; refine wpListIn_append_own _ rfl _ _ 23 rfl (w.heap.size + 8) 70 i0 (.agg #[.string ⟨#[]⟩, .string ⟨#[]⟩]) 2 32 undLabels hi hz0 hz1 hz2 rfl (by decide) _ _ _ rfl (hr'.alloc _) ⟨W2.heap.size, 0, none⟩ 1 1 [.string ⟨ka.toArray⟩, .string ⟨kb.toArray⟩] rfl rfl ?d1 ?d2 ?d3 ?d4 ?d5 ?d6; (focus exact cell_two_new _ _ _ _); (focus (simp [Value.oneCell'])); (focus (have := hlen.out; simp only [maxLen]; omega)); (focus (have := hlen.out; omega)); (focus (simp; omega)); intro v' w3 hown' hg3 hnil3; obtain ⟨g', cap', rfl⟩ := ownsRow_succ hown'; obtain ⟨hv1', hk3, hI3⟩ := ls_append (ka, kb) hH.out hv' hr' hown' hg3; have hc1 := hv1'.cell; have hf1 := hv1'.frozen)
            exact ⟨hko2.out.trans hk3, ⟨(hko2.out.trans hk3).walks, hI3.txt.trans hH0.out.txt.symm, hI3.mark.trans hH0.out.mark.symm⟩, _, hsome.out, hI3⟩
  case done =>
    rintro l xs W hle rfl ⟨acc, hacc, hI⟩ hrec
    obtain ⟨v, hv1, hv2, -⟩ := hI.row
    obtain ⟨o, cap, rfl⟩ : ∃ o cap, v = .slice o acc.length cap := by
      rcases hv2.2 with ⟨rfl, h0⟩ | ⟨g, cap, cur, rfl, -⟩
      · exact ⟨none, 0, by rw [h0]⟩
      · exact ⟨_, _, rfl⟩
    have d5 := hv1.cell
    have d3 := hI.resB.cell
    have d4' : ∀ v, (W.setCell ⟨w.heap.size + 1 + 1 + 1, 0, none⟩ v).cell? ⟨w.heap.size + 1 + 1 + 1 + 1, 0, none⟩ = some (.bool false) := fun v => (hI.okB.other (by omega) v).cell
    have f4' : ∀ v, (W.setCell ⟨w.heap.size + 1 + 1 + 1, 0, none⟩ v).frozen? ⟨w.heap.size + 1 + 1 + 1 + 1, 0, none⟩ = false := fun v => (hI.okB.other (by omega) v).frozen
    have f3 := hI.resB.frozen
    have d4 := hI.okB.cell
    have f4 := hI.okB.frozen
    have hS := ls_fail hI (by omega) (.slice o acc.length cap) true
    have hrec' := ((KeepsOthers.setCell W ⟨w.heap.size + 1 + 1 + 1, 0, none⟩ (.slice o acc.length cap)).trans (KeepsOthers.setCell _ ⟨w.heap.size + 1 + 1 + 1 + 1, 0, none⟩ (.bool true))).same l _ hrec rfl
    have hP := Lib.hid ((ls_own (B := w.heap.size + 8) (by omega)).putObj (.deferred none) hS (by omega) hrec' rfl)
    have hR := Lib.hid hrec'
    have hA := Lib.hid hacc
    have hv := Lib.hid ((hv2.kept (grownBy_setCell' W (w.heap.size + 1 + 1 + 1) (.slice o acc.length cap)) (.inr (ownBlock_ge hv2 (by omega)).symm)).kept (grownBy_setCell' _ (w.heap.size + 1 + 1 + 1 + 1) (.bool true)) (.inr (ownBlock_ge hv2 (by omega)).symm))
    clear hS hrec' hacc hI0
    gi_wp2
    refine ⟨by simp, .inl ⟨_, _, rfl, run_takeDeferred hR.out, ?_⟩⟩
    have c1 := hP.out.resB.cell
    have c2 := hP.out.okB.cell
    refine ⟨.tuple #[.slice o acc.length cap, .bool true], ?_, hP.out.low, ?_⟩
    · simp [results, Try.f66, go_sem, c1, c2]
    · rw [hA.out]
      exact ⟨_, rfl, ownsRow_putObj hv.out _ hR.out rfl⟩
  case stop =>
    rintro l c pre W hle hpre ⟨rfl, hnone, acc, hI⟩ hrec
    have hn2 := Lib.hid (readAll_none _ _ hpre hnone)
    have hP := Lib.hid ((ls_own (B := w.heap.size + 8) (by omega)).putObj (.deferred none) hI (by omega) hrec rfl)
    clear hI hI0
    gi_wp2
    refine ⟨by simp, .inl ⟨_, _, rfl, run_takeDeferred hrec, ?_⟩⟩
    have c1 := hP.out.resB.cell
    have c2 := hP.out.okB.cell
    refine ⟨.tuple #[.slice none 0 0, .bool false], ?_, hP.out.low, ?_⟩
    · simp [results, Try.f66, go_sem, c1, c2]
    · rw [hn2.out]
end Go.Proofs.Ytneogmcmkbhnaaa.T
