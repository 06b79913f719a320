/- Own work. -/
import Derived.Test.YtfndiocohaploaaTLJSPlain
import Derived.Test.YtfndiocohaploaaTLJSZORight
import Derived.Laws.AppendOwn
import Derived.Great.BuildSlice
import Derived.Test.YtfndiocohaploaaTLJSZCBase
import Derived.Test.YtfndiocohaploaaTLJSZHeldBy
import Derived.Test.YtfndiocohaploaaTLJSZRangeRow
namespace Go.Proofs.Ytfndiocohaploaa.C
open Go.RowKit T O
open Go.Lib hiding intOf
theorem evB_eq (e : Ev) : evB e = (([e.version].flatMap intB ++ goneB e.gone) ++ objB e.object) := by
  unfold evB
  simp only [List.flatMap_cons, List.flatMap_nil, List.append_nil, List.append_assoc]
set_option maxRecDepth 100000 in
set_option maxHeartbeats 4000000 in
theorem appendChange_any (e : Ev) (hs : Say e.object) (hv : U64 e.version) (v : Value) (l : Bytes) (B : Nat) (w : World) (hH : Held w B v l) (hB : B ≤ w.heap.size) (hlen : l.length ≤ 90000) :
    Calls Try.prog 69 #[v, encE e] w fun x W' => ∃ v', x = .returned v' ∧ Held W' B v' (l ++ evB e) ∧ Grew w v W' v' := by
  have HS := Lib.hid hs
  have HV := Lib.hid hv
  have HL := Lib.hid hlen
  have hvb : some w.heap.size ≠ v.ownBlock := fun x => by
    have := World.ownsRow.lt hH _ x.symm
    omega
  clear hs hlen hv
  cases hg : e.gone with
  | true =>
    have HG := Lib.hid hg
    clear hg
    unfold encE
    go_enter Try.func69, Try.ntmps69
    go_upto_region 1 with (fail)
    refine wp_gen (fun W => Stage w w.heap.size (objE e) B v l W v [] 90000) ⟨BoxE.new w e, by rw [List.append_nil]; exact hH.alloc _, grew_alloc _ _ _, hvb, by rw [List.append_nil]; exact HL.out⟩ ?_
    rintro W0 HT
    clear hH hvb HL
    have hBW : B ≤ W0.heap.size := Nat.le_trans hB HT.grew.by_.size
    have c0 := BoxE.c0 HT.box
    go_wp2_with fail
    have HM : Hid (∀ x ∈ ([e.version] : List Int), 0 ≤ x ∧ x < 18446744073709551616) := by
      show ∀ x ∈ ([e.version] : List Int), 0 ≤ x ∧ x < 18446744073709551616
      simp only [List.mem_cons, List.not_mem_nil, or_false, forall_eq]
      exact HV.out
    have Hm := Lib.hid (Nat.le_trans (flat_len _ HM.out) (by simp) : (List.flatMap intB [e.version]).length ≤ 300)
    refine (appendNumbers_any [e.version] ?_ W0.heap.size v _ B _ (HT.held.alloc _) (by simp; omega) (by simp) HT.new_ne ?_ ?_).mono ?_
    · exact HM.out
    · intro i hi
      simp only [List.length_cons, List.length_nil] at hi
      have hi' : i = 0 := by omega
      rcases hi' with rfl
      all_goals exact (World.cell?_alloc_mark _ _ _ _ _).trans rfl
    · have := HT.len
      simp only [List.length_cons, List.length_nil]
      omega
    rintro x W1 ⟨v1, rfl, hH2, hG2⟩
    replace HT := HT.step hH2 hG2.alloc Hm.out
    clear hH2 hG2 hBW HM Hm c0
    go_upto_region 2 with (fail)
    have hBW : B ≤ W1.heap.size := Nat.le_trans hB HT.grew.by_.size
    have c1 : W1.cell? ⟨w.heap.size, 1, none⟩ = some (.bool true) := by rw [BoxE.c1 HT.box, HG.out]
    have HX : Hid (_ + 1 ≤ 1000000000000) := Nat.le_trans (Nat.add_le_add_right HT.len 1) (by decide)
    go_upto_region 5 with (at_builtin; refine wpList_append_one rfl (.tmp 12) (.tmp 13) rfl B v1 _ ?_ (HT.held.alloc _) W1.heap.size 1 (1 : UInt8) ?_ ?_ ?_ ?_ ?_; rfl; rfl; (focus exact (cell_one_new _ _ _ 0 _ rfl).trans rfl); exact HX.out; (focus (simp; omega)); intro v2 W2 hH2 hG2)
    replace HT := HT.step hH2 hG2.alloc (by simp)
    clear hH2 hG2 c1 HX hBW
    have hBW : B ≤ W2.heap.size := Nat.le_trans hB HT.grew.by_.size
    have hbe : BoxE W2 w.heap.size e := HT.box
    go_wp2_with ((with_reducible refine wpList_load_evo ?_ rfl ?_ hbe ?_); rfl; rfl)
    clear hbe
    refine (appendObject_any e.object HS.out v2 _ B W2 HT.held hBW (Nat.le_trans HT.len (by decide))).mono ?_
    rintro x W3 ⟨v3, rfl, hH2, hG2⟩
    have HF : Hid (Held W3 B v3 (l ++ evB e) ∧ Grew w v W3 v3) := by
      refine ⟨?_, HT.grew.trans hG2⟩
      rw [evB_eq, HG.out, ← List.append_assoc]
      exact hH2
    clear hH2 hG2 HT hBW
    go_wp2
    go_ret
    exact ⟨_, rfl, HF.out.1, HF.out.2⟩
  | false =>
    have HG := Lib.hid hg
    clear hg
    unfold encE
    go_enter Try.func69, Try.ntmps69
    go_upto_region 1 with (fail)
    refine wp_gen (fun W => Stage w w.heap.size (objE e) B v l W v [] 90000) ⟨BoxE.new w e, by rw [List.append_nil]; exact hH.alloc _, grew_alloc _ _ _, hvb, by rw [List.append_nil]; exact HL.out⟩ ?_
    rintro W0 HT
    clear hH hvb HL
    have hBW : B ≤ W0.heap.size := Nat.le_trans hB HT.grew.by_.size
    have c0 := BoxE.c0 HT.box
    go_wp2_with fail
    have HM : Hid (∀ x ∈ ([e.version] : List Int), 0 ≤ x ∧ x < 18446744073709551616) := by
      show ∀ x ∈ ([e.version] : List Int), 0 ≤ x ∧ x < 18446744073709551616
      simp only [List.mem_cons, List.not_mem_nil, or_false, forall_eq]
      exact HV.out
    have Hm := Lib.hid (Nat.le_trans (flat_len _ HM.out) (by simp) : (List.flatMap intB [e.version]).length ≤ 300)
    refine (appendNumbers_any [e.version] ?_ W0.heap.size v _ B _ (HT.held.alloc _) (by simp; omega) (by simp) HT.new_ne ?_ ?_).mono ?_
    · exact HM.out
    · intro i hi
      simp only [List.length_cons, List.length_nil] at hi
      have hi' : i = 0 := by omega
      rcases hi' with rfl
      all_goals exact (World.cell?_alloc_mark _ _ _ _ _).trans rfl
    · have := HT.len
      simp only [List.length_cons, List.length_nil]
      omega
    rintro x W1 ⟨v1, rfl, hH2, hG2⟩
    replace HT := HT.step hH2 hG2.alloc Hm.out
    clear hH2 hG2 hBW HM Hm c0
    go_upto_region 2 with (fail)
    have hBW : B ≤ W1.heap.size := Nat.le_trans hB HT.grew.by_.size
    have c1 : W1.cell? ⟨w.heap.size, 1, none⟩ = some (.bool false) := by rw [BoxE.c1 HT.box, HG.out]
    have HX : Hid (_ + 1 ≤ 1000000000000) := Nat.le_trans (Nat.add_le_add_right HT.len 1) (by decide)
    go_upto_region 5 with (at_builtin; refine wpList_append_one rfl (.tmp 15) (.tmp 16) rfl B v1 _ ?_ (HT.held.alloc _) W1.heap.size 1 (0 : UInt8) ?_ ?_ ?_ ?_ ?_; rfl; rfl; (focus exact (cell_one_new _ _ _ 0 _ rfl).trans rfl); exact HX.out; (focus (simp; omega)); intro v2 W2 hH2 hG2)
    replace HT := HT.step hH2 hG2.alloc (by simp)
    clear hH2 hG2 c1 HX hBW
    have hBW : B ≤ W2.heap.size := Nat.le_trans hB HT.grew.by_.size
    have hbe : BoxE W2 w.heap.size e := HT.box
    go_wp2_with ((with_reducible refine wpList_load_evo ?_ rfl ?_ hbe ?_); rfl; rfl)
    clear hbe
    refine (appendObject_any e.object HS.out v2 _ B W2 HT.held hBW (Nat.le_trans HT.len (by decide))).mono ?_
    rintro x W3 ⟨v3, rfl, hH2, hG2⟩
    have HF : Hid (Held W3 B v3 (l ++ evB e) ∧ Grew w v W3 v3) := by
      refine ⟨?_, HT.grew.trans hG2⟩
      rw [evB_eq, HG.out, ← List.append_assoc]
      exact hH2
    clear hH2 hG2 HT hBW
    go_wp2
    go_ret
    exact ⟨_, rfl, HF.out.1, HF.out.2⟩
def Wrote (w : World) (ok : Bool) (b : Bytes) (x : Ending) (W' : World) : Prop :=
  Below w.heap.size w W' ∧ ∃ v, x = .returned (.tuple #[v, .int .i64 (if ok then 0 else 2)]) ∧ Held W' w.heap.size v (if ok then b else [])
set_option maxRecDepth 100000 in
set_option maxHeartbeats 2000000 in
theorem change_any (e : Ev) (hv : U64 e.version) (hf : Fits e.object) (w : World) : Calls Try.prog 52 #[encE e] w (Wrote w (rightB e.object) (evB e)) := by
  cases hr : rightB e.object with
  | false =>
    have HR := Lib.hid hr
    clear hr hv
    unfold encE
    go_enter Try.func52, Try.ntmps52
    go_upto_region 1 with (fail)
    refine wp_gen (fun W => BoxE W w.heap.size e ∧ Below w.heap.size w W) ⟨BoxE.new w e, (Below.refl _ _).alloc (Nat.le_refl _) _⟩ ?_
    rintro W1 ⟨hb, hlow⟩
    go_wp2_with ((with_reducible refine wpList_load_evo ?_ rfl ?_ hb ?_); rfl; rfl)
    refine (right_any e.object _).mono ?_
    rintro x W2 ⟨rfl, hb1⟩
    rw [HR.out]
    replace hlow := hlow.trans (hb1.mono hlow.size)
    clear hb1 hb
    go_wp2
    go_ret2
    exact ⟨hlow, _, rfl, Held.nil _ _⟩
  | true =>
    have HR := Lib.hid hr
    have HS := Lib.hid (say_of_right (wf_of_right hr hf.version hf.born hf.num hf.tag) hr)
    have HV := Lib.hid hv
    clear hr hv
    unfold encE
    go_enter Try.func52, Try.ntmps52
    go_upto_region 1 with (fail)
    refine wp_gen (fun W => BoxE W w.heap.size e ∧ Below w.heap.size w W) ⟨BoxE.new w e, (Below.refl _ _).alloc (Nat.le_refl _) _⟩ ?_
    rintro W1 ⟨hb, hlow⟩
    go_wp2_with ((with_reducible refine wpList_load_evo ?_ rfl ?_ hb ?_); rfl; rfl)
    refine (right_any e.object _).mono ?_
    rintro x W2 ⟨rfl, hb1⟩
    rw [HR.out]
    replace hb := hb.after hb1
    replace hlow := hlow.trans (hb1.mono hlow.size)
    clear hb1
    go_wp2_with ((with_reducible refine wpList_load_ev ?_ rfl ?_ hb ?_); rfl; rfl)
    refine (appendChange_any e HS.out HV.out (.slice none 0 0) [] w.heap.size W2 (Held.nil _ _) hlow.size (by simp)).mono ?_
    rintro x W3 ⟨v3, rfl, hH, hG⟩
    rw [List.nil_append] at hH
    replace hlow := hlow.trans (hG.below (Held.nil _ _) hlow.size)
    have HH := Lib.hid hH
    clear hH hG hb
    go_wp2
    go_ret2
    exact ⟨hlow, _, rfl, HH.out⟩
end Go.Proofs.Ytfndiocohaploaa.C
namespace Go.Proofs.Ytfndiocohaploaa.C
open Go.RowKit T O
open Go.Lib hiding intOf
end Go.Proofs.Ytfndiocohaploaa.C
namespace Go.Proofs.Ytfndiocohaploaa.S
open Go Go.RowKit Go.Lib KM
attribute [local go_sem] Oper.semAt_some
abbrev tSt : TypeId := 63
abbrev tEv : TypeId := 45
abbrev tEs : TypeId := 41
abbrev tM : TypeId := 61
def encKy (k : Ky) : Value := O.encK k.1 k.2
theorem key_check (em : Bool) (w : World) (x : Ky) : (Instr.checkKey em 10000 36 (encKy x)).run Try.prog w = .ok () w := by
  unfold encKy O.encK
  kernel_rfl
theorem tl_eq (a b : ByteArray) : (a.toList == b.toList) = decide (a = b) := by
  rw [Bool.eq_iff_iff, beq_iff_eq, decide_eq_true_eq, ByteArray.toList_eq, ByteArray.toList_eq]
  exact ⟨fun h => ByteArray.ext (Array.ext' h), fun h => by rw [h]⟩
theorem key_stays (x : Ky) : Instr.sameBits 10000 (encKy x) (encKy x) = true := by
  unfold encKy O.encK Instr.sameBits
  simp [Instr.sameBits, beq_toListBytes]
theorem key_eq (w : World) (x y : Ky) : (Op.equal 36 (encKy x) (encKy y)).run Try.prog w = .ok (decide (x = y)) w := by
  obtain ⟨a, s⟩ := x
  obtain ⟨b, t⟩ := y
  have h : (decide (((a, s) : Ky) = (b, t))) = (a == b && (s.toList == t.toList)) := by
    rw [tl_eq, Bool.eq_iff_iff]
    simp
  rw [h]
  unfold encKy O.encK
  show (Op.equalIn 10000 _ _ _).run _ _ = _
  cases h1 : (a == b) with
  | false => go_simp
  | true =>
    go_simp
    by_cases h2 : s.toList = t.toList <;> simp [h2]
theorem keyT : KeyT Try.prog 36 encKy := ⟨key_check, key_eq, ⟨_, Try.underlying36⟩, key_stays⟩
theorem und_tM : Try.prog.underlying tM = some (.map 36 30) := Try.underlying61
theorem zero_obj (w : World) : (zeroValue 30).run Try.prog w = .ok (O.encO O.O0) w := by kernel_rfl
def cellsS (bm : Nat) (sl : Value) (ql : Nat) : Array Value := #[.map (some bm), sl, .pointer (some ⟨ql, 0, none⟩)]
def SAt (W : World) (q bm : Nat) (sl : Value) (ql : Nat) : Prop := W.heap[q]? = some (.cells (cellsS bm sl ql) tSt (0, 0))
section
variable {W W' : World} {q bm ql : Nat} {sl : Value}
theorem SAt.lt (h : SAt W q bm sl ql) : q < W.heap.size := (Array.getElem?_eq_some_iff.1 h).1
theorem SAt.of_heap (h : SAt W q bm sl ql) (he : W'.heap[q]? = W.heap[q]?) : SAt W' q bm sl ql := he.trans h
theorem SAt.after (h : SAt W q bm sl ql) (hb : Below W.heap.size W W') : SAt W' q bm sl ql := h.of_heap (hb.block q h.lt)
theorem SAt.c0 (h : SAt W q bm sl ql) : W.cell? ⟨q, 0, none⟩ = some (.map (some bm)) := (cell_of_row W q 0 _ _ _ h).trans rfl
theorem SAt.c1 (h : SAt W q bm sl ql) : W.cell? ⟨q, 1, none⟩ = some sl := (cell_of_row W q 1 _ _ _ h).trans rfl
theorem SAt.c2 (h : SAt W q bm sl ql) : W.cell? ⟨q, 2, none⟩ = some (.pointer (some ⟨ql, 0, none⟩)) := (cell_of_row W q 2 _ _ _ h).trans rfl
theorem SAt.free (h : SAt W q bm sl ql) (i : Nat) : W.frozen? ⟨q, i, none⟩ = false := frozen_of_row W q i _ _ h
theorem SAt.s1 (h : SAt W q bm sl ql) (x : Value) : SAt (W.setCell ⟨q, 1, none⟩ x) q bm x ql := (heap_setCell_same W q 1 _ _ x h).trans rfl
end
def flatE (l : List C.Ev) : List Value := l.flatMap fun e => (C.cellsE e).toList
def EvsAt (W : World) (B : Nat) (v : Value) (l : List C.Ev) : Prop := W.ownsRow B tEv 22 v l.length (flatE l)
theorem EvsAt.nil (W : World) (B : Nat) : EvsAt W B (.slice none 0 0) [] := World.ownsRow_nil W B _ _
theorem EvsAt.lt {W : World} {B g : Nat} {v : Value} {l : List C.Ev} (h : EvsAt W B v l) (hg : v.ownBlock = some g) : g < W.heap.size := (World.ownsRow.lt h g hg).2
theorem EvsAt.low {W : World} {B g : Nat} {v : Value} {l : List C.Ev} (h : EvsAt W B v l) (hg : v.ownBlock = some g) : B ≤ g := (World.ownsRow.lt h g hg).1
theorem EvsAt.of_heap {W W' : World} {B : Nat} {v : Value} {l : List C.Ev} (h : EvsAt W B v l) (he : ∀ g, v.ownBlock = some g → W'.heap[g]? = W.heap[g]?) : EvsAt W' B v l := by
  refine ⟨h.1, ?_⟩
  rcases h.2 with h | ⟨g, cap, cur, rfl, h1, h2, h3⟩
  · exact .inl h
  · exact .inr ⟨g, cap, cur, rfl, h1, (he g rfl).trans h2, h3⟩
theorem EvsAt.after {W W' : World} {B : Nat} {v : Value} {l : List C.Ev} (h : EvsAt W B v l) (hb : Below W.heap.size W W') : EvsAt W' B v l := h.of_heap fun g hg => hb.block g (h.lt hg)
theorem EvsAt.shape {W : World} {B : Nat} {v : Value} {l : List C.Ev} (h : EvsAt W B v l) : ∃ a c, v = .slice a l.length c := by
  rcases h.2 with ⟨rfl, h0⟩ | ⟨g, cap, cur, rfl, -⟩
  · exact ⟨none, 0, by rw [h0]⟩
  · exact ⟨_, _, rfl⟩
theorem EvsAt.apart {W : World} {B g : Nat} {v : Value} {l : List C.Ev} (h : EvsAt W B v l) {o : Go.Obj} (ho : W.heap[g]? = some o) (hn : ∀ cs fr, o ≠ .cells cs tEv fr) : v.ownBlock ≠ some g := by
  intro hg
  rcases h.2 with ⟨rfl, -⟩ | ⟨g2, cap, cur, rfl, -, h2, -⟩
  · cases hg
  · obtain rfl : g2 = g := by simpa [Value.ownBlock] using hg
    rw [h2] at ho
    cases ho
    exact hn _ _ rfl
theorem ev_info : ∃ i z, Try.prog.info? tEv = some i ∧ i.zero = some z ∧ z.cells.size = 22 ∧ i.size = 22 ∧ i.bytes ≤ 1000 := by
  have h : (Try.prog.info? tEv).map (fun i => (i.zero, i.size, decide (i.bytes ≤ 1000))) = some (some (C.encE C.Ev0), 22, true) := by kernel_rfl
  cases hi : Try.prog.info? tEv with
  | none => rw [hi] at h; cases h
  | some i =>
    rw [hi] at h
    simp only [Option.map_some, Option.some.injEq, Prod.mk.injEq] at h
    exact ⟨i, _, rfl, h.1, rfl, h.2.1, of_decide_eq_true h.2.2⟩
theorem one_flat (l : List C.Ev) : ∀ u ∈ flatE l, u.oneCell' = true := fun u hu => by
  obtain ⟨e, -, he⟩ := List.mem_flatMap.1 hu
  exact Array.all_eq_true_iff_forall_mem.1 (C.one_cellsE e) u (by simpa using he)
theorem flat_length (l : List C.Ev) : (flatE l).length = l.length * 22 := by
  induction l with
  | nil => rfl
  | cons e l ih =>
    have e1 : flatE (e :: l) = (C.cellsE e).toList ++ flatE l := rfl
    rw [e1, List.length_append, ih, List.length_cons]
    have : (C.cellsE e).toList.length = 22 := rfl
    omega
theorem run_evs1 (W : World) (e : C.Ev) : (Instr.buildSlice tEs 1 #[(0, C.encE e)]).run Try.prog W = .ok (.slice (some ⟨W.heap.size, 0, none⟩) 1 1) (W.alloc (.cells (C.cellsE e) tEv (0, 0))) := by kernel_rfl
theorem add_ev (W : World) (B : Nat) (v : Value) (l : List C.Ev) (e : C.Ev) (ty : TypeId) (h : EvsAt W B v l) (hn : l.length ≤ 5000) (hB : B ≤ W.heap.size) :
    ∃ v' W', (Builtin.append_ #[tEs, tEs] ty #[v, .slice (some ⟨W.heap.size, 0, none⟩) 1 1]).run Try.prog (W.alloc (.cells (C.cellsE e) tEv (0, 0))) = .ok v' W' ∧ EvsAt W' B v' (l ++ [e]) ∧ L.Grew (W.alloc (.cells (C.cellsE e) tEv (0, 0))) v W' v' := by
  obtain ⟨i, z, hi, hz, hzs, hs, hb⟩ := ev_info
  have hH : EvsAt (W.alloc (.cells (C.cellsE e) tEv (0, 0))) B v l := World.ownsRow.alloc h _
  have hBa : B ≤ (W.alloc (.cells (C.cellsE e) tEv (0, 0))).heap.size := by rw [World.size_alloc]; omega
  have hm : ∀ j u, (flatE [e])[j]? = some u → (W.alloc (.cells (C.cellsE e) tEv (0, 0))).cell? ((⟨W.heap.size, 0, none⟩ : Addr).add j) = some u := fun j u hu => by
    have e1 : (⟨W.heap.size, 0, none⟩ : Addr).add j = ⟨W.heap.size, j, none⟩ := by unfold Addr.add; split <;> simp_all
    rw [e1, cell_of_row _ _ _ _ _ _ (heap_alloc_new W _), ← Array.getElem?_toList]
    have e2 : flatE [e] = (C.cellsE e).toList := by simp [flatE]
    rw [← e2]
    exact hu
  have hl : (flatE [e]).length = 1 * 22 := flat_length [e]
  have h63 : l.length + 1 ≤ maxLen := by unfold maxLen; omega
  have hbb : (l.length + 1) * i.bytes ≤ 140737488355328 := Nat.le_trans (Nat.mul_le_mul (by omega : l.length + 1 ≤ 5001) hb) (by decide)
  obtain ⟨v', W', hr, hown, hgrow, hnil⟩ := run_append_own (P := Try.prog) (W.alloc (.cells (C.cellsE e) tEv (0, 0))) B tEs ty tEv i z 22 i.bytes Try.underlying41 hi hz hs rfl hzs (by decide) v l.length (flatE l) hH ⟨W.heap.size, 0, none⟩ 1 1 (flatE [e]) hl hm (one_flat _) h63 hbb hBa
  refine ⟨v', W', hr, ?_, hgrow, ?_⟩
  · unfold EvsAt
    rw [List.length_append, show flatE (l ++ [e]) = flatE l ++ flatE [e] from List.flatMap_append ..]
    exact hown
  · rcases hH.2 with ⟨rfl, hn0⟩ | ⟨g, cap, cur, rfl, hbg, hg, hnc, hcm, hcs, htake⟩
    · have hr2 := run_append_nil (P := Try.prog) (W.alloc (.cells (C.cellsE e) tEv (0, 0))) tEs ty tEv i z Try.underlying41 hi hz ⟨W.heap.size, 0, none⟩ 1 1 (flatE [e]) (by rw [hs]; exact hl) hm (by omega) (by omega) (by omega)
      rw [hr2] at hr
      cases hr
      exact .inr ⟨_, rfl, Nat.le_refl _⟩
    · by_cases hroom : l.length + 1 ≤ cap
      · have hr2 := run_append_room (P := Try.prog) (W.alloc (.cells (C.cellsE e) tEv (0, 0))) tEs ty tEv i Try.underlying41 hi g l.length cap cur hg ⟨W.heap.size, 0, none⟩ 1 1 (flatE [e]) (by rw [hs]; exact hl) hm (one_flat _) hroom (by rw [hs, hl, hcs]; omega)
        rw [hr2] at hr
        cases hr
        exact .inl rfl
      · have hr2 := run_append_grow (P := Try.prog) (W.alloc (.cells (C.cellsE e) tEv (0, 0))) tEs ty tEv i z Try.underlying41 hi hz ⟨g, 0, none⟩ l.length cap (flatE l) (by rw [hs]; exact hH.1) (World.ownsRow.cells (g := g) hH rfl) ⟨W.heap.size, 0, none⟩ 1 1 (flatE [e]) (by rw [hs]; exact hl) hm (by omega) (by omega) (growslice_fits (by omega) hbb)
        rw [hr2] at hr
        cases hr
        exact .inr ⟨_, rfl, Nat.le_refl _⟩
def encM (s : St) : List (Ky × Value) := s.os.map fun p => (p.1, O.encO p.2)
structure StAt (B : Nat) (W : World) (q bm : Nat) (sl : Value) (ql : Nat) (og : Option Nat) (s : St) : Prop where
  box : SAt W q bm sl ql
  map : IsMap encKy W bm (encM s)
  evs : EvsAt W B sl s.evs
  log : L.IsLog B W ql og s.log
  low : B ≤ q
  lowm : B ≤ bm
  good : Good s
structure STurn (B : Nat) (w w' : World) (q bm : Nat) (sl sl' : Value) (ql : Nat) (og og' : Option Nat) : Prop where
  below : Below B w w'
  keep : ∀ g, g < w.heap.size → g ≠ q → g ≠ bm → sl.ownBlock ≠ some g → g ≠ ql → some g ≠ og → w'.heap[g]? = w.heap[g]?
  sl_ : ∀ g, sl'.ownBlock = some g → sl.ownBlock = some g ∨ w.heap.size ≤ g
  og_ : ∀ g, og' = some g → og = some g ∨ w.heap.size ≤ g
section
variable {B : Nat} {W W' : World} {q bm : Nat} {sl : Value} {ql : Nat} {og : Option Nat} {s : St}
theorem StAt.after (h : StAt B W q bm sl ql og s) (hb : Below W.heap.size W W') : StAt B W' q bm sl ql og s := ⟨h.box.after hb, h.map.after hb, h.evs.after hb, h.log.after hb, h.low, h.lowm, h.good⟩
theorem STurn.of_below {w w' : World} (h : Below w.heap.size w w') (hB : B ≤ w.heap.size) : STurn B w w' q bm sl sl ql og og := ⟨h.mono hB, fun g hg _ _ _ _ _ => h.block g hg, fun _ hg => .inl hg, fun _ hg => .inl hg⟩
theorem STurn.trans {w w1 w2 : World} {sl1 sl2 : Value} {og1 og2 : Option Nat} (h : STurn B w w1 q bm sl sl1 ql og og1) (k : STurn B w1 w2 q bm sl1 sl2 ql og1 og2) : STurn B w w2 q bm sl sl2 ql og og2 := by
  have hs := h.below.size
  refine ⟨h.below.trans k.below, fun g hg h1 h2 h3 h4 h5 => (k.keep g (by omega) h1 h2 (fun e => ?_) h4 (fun e => ?_)).trans (h.keep g hg h1 h2 h3 h4 h5), fun g hg => ?_, fun g hg => ?_⟩
  · rcases h.sl_ g e with h6 | h6
    · exact h3 h6
    · omega
  · rcases h.og_ g e.symm with h6 | h6
    · exact h5 h6.symm
    · omega
  · rcases k.sl_ g hg with h6 | h6
    · exact h.sl_ g h6
    · exact .inr (by omega)
  · rcases k.og_ g hg with h6 | h6
    · exact h.og_ g h6
    · exact .inr (by omega)
theorem StAt.map_ne (h : StAt B W q bm sl ql og s) : bm ≠ q ∧ sl.ownBlock ≠ some bm ∧ bm ≠ ql ∧ some bm ≠ og := by
  obtain ⟨es, clock, hm, -⟩ := h.map
  refine ⟨?_, h.evs.apart hm (fun _ _ => by simp), ?_, ?_⟩
  · rintro rfl
    have h1 : W.heap[bm]? = _ := h.box
    rw [hm] at h1
    cases h1
  · rintro rfl
    obtain ⟨v, k, l1, -⟩ := h.log.at_
    have h1 : W.heap[bm]? = _ := l1
    rw [hm] at h1
    cases h1
  · rintro e
    obtain ⟨v, k, -, l2, l3, -⟩ := h.log.at_
    rcases l2.2 with ⟨rfl, -⟩ | ⟨g2, cap, cur, rfl, -, l4, -⟩
    · rw [← l3] at e; cases e
    · rw [← l3] at e
      obtain rfl : bm = g2 := by simpa [Value.ownBlock] using e
      rw [hm] at l4
      cases l4
theorem StAt.box_ne (h : StAt B W q bm sl ql og s) : sl.ownBlock ≠ some q ∧ q ≠ ql ∧ some q ≠ og := by
  have h1 : W.heap[q]? = _ := h.box
  have h2 := h.log.apart h1 (by decide) (by decide)
  exact ⟨h.evs.apart h1 (fun cs fr e => by cases e), h2.2.1, h2.2.2⟩
theorem StAt.evs_ne (h : StAt B W q bm sl ql og s) {g : Nat} (hg : sl.ownBlock = some g) : g ≠ q ∧ g ≠ bm ∧ g ≠ ql ∧ some g ≠ og := by
  rcases h.evs.2 with ⟨rfl, -⟩ | ⟨g2, cap, cur, rfl, -, h2, -⟩
  · cases hg
  · obtain rfl : g2 = g := by simpa [Value.ownBlock] using hg
    have h3 := h.log.apart h2 (by decide) (by decide)
    exact ⟨fun e => h.box_ne.1 (by rw [← e]; rfl), fun e => h.map_ne.2.1 (by rw [← e]; rfl), h3.2.1, h3.2.2⟩
theorem StAt.turn (h : StAt B W q bm sl ql og s) {og' : Option Nat} {l : L.Lg} (hl : L.IsLog B W' ql og' l) (ht : L.Turn B W W' ql og og') (hg : Good ⟨s.os, s.evs, l⟩) : StAt B W' q bm sl ql og' ⟨s.os, s.evs, l⟩ :=
  ⟨h.box.of_heap (ht.keep q h.box.lt h.box_ne.2.1 h.box_ne.2.2), h.map.of_heap (ht.keep bm h.map.lt h.map_ne.2.2.1 h.map_ne.2.2.2), h.evs.of_heap (fun g hg => ht.keep g (h.evs.lt hg) (h.evs_ne hg).2.2.1 (h.evs_ne hg).2.2.2), hl, h.low, h.lowm, hg⟩
theorem STurn.of_log {og' : Option Nat} (ht : L.Turn B W W' ql og og') : STurn B W W' q bm sl sl ql og og' := ⟨ht.below, fun g hg _ _ _ h4 h5 => ht.keep g hg h4 h5, fun _ hg => .inl hg, ht.at_⟩
end
end Go.Proofs.Ytfndiocohaploaa.S
namespace Go.Proofs.Ytfndiocohaploaa.S
open Go Go.RowKit Go.Lib KM
theorem len_map (bm : Nat) (es : Array MapEntry) (clock : Nat) (w : World) (hm : w.heap[bm]? = some (.map es clock)) : (Builtin.len_ #[tM] 3 #[.map (some bm)]).run Try.prog w = .ok (.int .i64 (es.size : Int)) w := by
  simp [Builtin.len_, run_underlying und_tM, MapKept.run_getObj_map hm, Result.andThen]
  rfl
section
variable {B : Nat} {q bm : Nat} {sl : Value} {ql : Nat} {og : Option Nat} {s : St} {w : World}
theorem StAt.few (h : StAt B w q bm sl ql og s) : s.evs.length ≤ 4096 := by
  obtain ⟨v, k, l1, l2, l3, l4, l5⟩ := h.log.at_
  have h1 := h.good.len
  have h2 := l2.1
  have h3 := h.log.most
  omega
theorem version_any (h : StAt B w q bm sl ql og s) : Calls Try.prog 11 #[.pointer (some ⟨q, 0, none⟩)] w fun e w' => e = .returned (.int .u64 (s.evs.length : Int)) ∧ w' = w := by
  have hf := h.few
  have c1 := h.box.c1
  obtain ⟨a, c, rfl⟩ := h.evs.shape
  clear h
  go_enter Try.func11, Try.ntmps11
  go_wp2
  go_ret
  refine ⟨?_, rfl⟩
  first | rfl | (congr 2; go_num)
theorem next_any (h : StAt B w q bm sl ql og s) : Calls Try.prog 40 #[.pointer (some ⟨q, 0, none⟩)] w fun e w' => e = .returned (.int .u64 s.next) ∧ w' = w := by
  have hf := h.few
  have HV := Lib.hid (version_any h)
  obtain ⟨n, hn⟩ : ∃ n, s.evs.length = n := ⟨_, rfl⟩
  have HN : Hid (s.next = (n : Int) + 1) := by show s.next = _; unfold St.next; rw [hn]
  rw [hn] at HV hf
  clear h hn
  go_enter Try.func40, Try.ntmps40
  go_wp2_with (go_at_call 11; refine HV.out.mono ?_; rintro e _ ⟨rfl, rfl⟩)
  go_ret
  refine ⟨?_, rfl⟩
  rw [HN.out]
  first | rfl | (congr 2; go_num)
set_option maxRecDepth 100000 in
theorem full_any (h : StAt B w q bm sl ql og s) : Calls Try.prog 39 #[.pointer (some ⟨q, 0, none⟩)] w fun e w' => e = .returned (.bool (decide (200 ≤ s.os.length))) ∧ w' = w := by
  have c0 := h.box.c0
  obtain ⟨es, clock, hm, hh⟩ := h.map
  have hl : es.size = s.os.length := by
    have h1 := hh.length
    have h2 : (encM s).length = s.os.length := List.length_map ..
    rw [h2] at h1
    simpa using h1
  have HL := Lib.hid hl
  have hlen := len_map bm es clock w hm
  have hb : es.size ≤ 9223372036854775807 ∨ 9223372036854775807 < es.size := by omega
  clear h hh hl
  go_enter Try.func39, Try.ntmps39
  go_wp2
  go_ret
  refine ⟨?_, rfl⟩
  have e : decide ((200 : Int) ≤ (es.size : Int)) = decide (200 ≤ s.os.length) := by
    have h1 := HL.out
    rw [Bool.eq_iff_iff, decide_eq_true_iff, decide_eq_true_iff]
    omega
  rw [← e]
  rfl
theorem log_any (h : StAt B w q bm sl ql og s) : Calls Try.prog 8 #[.pointer (some ⟨q, 0, none⟩)] w fun e w' => ∃ og', e = .returned (.pointer (some ⟨w.heap.size, 0, none⟩)) ∧ L.IsLog w.heap.size w' w.heap.size og' s.log ∧ Below w.heap.size w w' := by
  have HF := Lib.hid (L.fork_any B ql og s.log w h.log)
  have c2 := h.box.c2
  clear h
  go_enter Try.func8, Try.ntmps8
  go_wp2_with (go_at_call 23; refine HF.out.mono ?_)
  rintro e W1 ⟨og1, rfl, hl, hb⟩
  have HL := Lib.hid hl
  have HB := Lib.hid hb
  clear hl hb HF
  go_wp2
  go_ret
  exact ⟨og1, rfl, HL.out, HB.out⟩
end
def RecD (B ql : Nat) (og : Option Nat) (w : World) (c : Int) (l : L.Lg) (e : Ending) (w' : World) : Prop := e = .returned (.int .i64 c) ∧ ∃ og', L.IsLog B w' ql og' l ∧ L.Turn B w w' ql og og'
def recC (l : L.Lg) (e : C.Ev) : Int × L.Lg := if O.rightB e.object = false then (2, l) else L.appS l (C.evB e)
def WroteD (w : World) (ok : Bool) (b : L.Bytes) (e : Ending) (w' : World) : Prop := C.Wrote w ok b e w'
set_option maxRecDepth 100000 in
theorem record_any (B ql : Nat) (og : Option Nat) (l : L.Lg) (x : C.Ev) (w : World) (h : L.IsLog B w ql og l) (hB : B ≤ w.heap.size) (hv : C.U64 x.version) (hf : C.Fits x.object) :
    Calls Try.prog 29 #[.pointer (some ⟨ql, 0, none⟩), C.encE x] w (RecD B ql og w (recC l x).1 (recC l x).2) := by
  have hbe := C.BoxE.new w x
  have hb0 : Below w.heap.size w (w.alloc (C.objE x)) := (Below.refl _ _).alloc (Nat.le_refl _) _
  have HL0 := Lib.hid (h.after hb0)
  have HB0 := Lib.hid hb0
  have HBE := Lib.hid hbe
  have HCH : Hid (∀ W, Calls Try.prog 52 #[C.encE x] W (WroteD W (O.rightB x.object) (C.evB x))) := fun W => C.change_any x hv hf W
  have HBW := Lib.hid hB
  obtain ⟨z, hz⟩ : ∃ z, recC l x = z := ⟨_, rfl⟩
  rw [hz]
  have HZ := Lib.hid hz
  clear h hB hb0 hz
  unfold C.encE
  go_enter Try.func29, Try.ntmps29
  go_upto_region 1 with (fail)
  refine O.wp_gen (fun W => C.BoxE W w.heap.size x ∧ L.IsLog B W ql og l ∧ Below w.heap.size w W) ⟨HBE.out, HL0.out, HB0.out⟩ ?_
  rintro W1 ⟨hbe, hl, hb⟩
  have HL1 := Lib.hid hl
  have HB1 := Lib.hid hb
  clear HL0 HB0 HBE hl hb
  go_wp2_with (first | ((with_reducible refine C.wpList_load_ev ?_ rfl ?_ hbe ?_); rfl; rfl) | (go_at_call 52; refine (HCH.out _).mono ?_))
  rintro e W2 hw
  obtain ⟨hb2, v2, rfl, hh2⟩ := hw
  have HL2 := Lib.hid (HL1.out.after hb2)
  have HB2 : Hid (Below w.heap.size w W2) := HB1.out.trans (hb2.mono HB1.out.size)
  clear hb2 hbe HL1 HB1 HCH
  cases hr : O.rightB x.object with
  | false =>
    obtain rfl : z = (2, l) := HZ.out.symm.trans (if_pos hr)
    clear hh2
    go_wp2
    go_ret
    exact ⟨rfl, og, HL2.out, L.Turn.of_below HB2.out HBW.out⟩
  | true =>
    have hz2 : L.appS l (C.evB x) = z := (if_neg (by rw [hr]; decide) : recC l x = L.appS l (C.evB x)).symm.trans HZ.out
    rw [hr] at hh2
    have hh3 : L.Held W2 W1.heap.size v2 (C.evB x) := hh2
    have ha := L.append_any B ql og l v2 (C.evB x) W2 HL2.out hh3.bytes
    rw [hz2] at ha
    have HA := Lib.hid ha
    clear hh2 hh3 ha hz2
    go_wp2_with (go_at_call 16; refine HA.out.mono ?_)
    rintro e W3 ⟨rfl, og3, hl3, ht3⟩
    have HL3 := Lib.hid hl3
    have HT3 : Hid (L.Turn B w W3 ql og og3) := (L.Turn.of_below HB2.out HBW.out).trans ht3
    clear hl3 ht3 HA
    go_wp2
    go_ret
    exact ⟨rfl, og3, HL3.out, HT3.out⟩
end Go.Proofs.Ytfndiocohaploaa.S
namespace Go.Proofs.Ytfndiocohaploaa.S
open Go Go.RowKit Go.Lib KM
def KAt (W : World) (b : Nat) (k : Ky) : Prop := W.heap[b]? = some (.cells #[.int .u8 k.1, .string k.2] 36 (0, 0))
theorem KAt.lt {W : World} {b : Nat} {k : Ky} (h : KAt W b k) : b < W.heap.size := (Array.getElem?_eq_some_iff.1 h).1
theorem KAt.after {W W' : World} {b : Nat} {k : Ky} (h : KAt W b k) (hb : Below W.heap.size W W') : KAt W' b k := (hb.block b h.lt).trans h
theorem KAt.c0 {W : World} {b : Nat} {k : Ky} (h : KAt W b k) : W.cell? ⟨b, 0, none⟩ = some (.int .u8 k.1) := (cell_of_row W b 0 _ _ _ h).trans rfl
theorem KAt.c1 {W : World} {b : Nat} {k : Ky} (h : KAt W b k) : W.cell? ⟨b, 1, none⟩ = some (.string k.2) := (cell_of_row W b 1 _ _ _ h).trans rfl
def KeyD (k : Ky) (w : World) (e : Ending) (w' : World) : Prop := e = .returned (encKy k) ∧ Below w.heap.size w w'
def DoD (B : Nat) (q bm : Nat) (sl : Value) (ql : Nat) (og : Option Nat) (s' : St) (w : World) (x : Ending) (w' : World) : Prop := x = .returned (.tuple #[]) ∧ ∃ sl', StAt B w' q bm sl' ql og s' ∧ STurn B w w' q bm sl sl' ql og og
theorem exec_delete {W : World} {b : Nat} {m : List (Ky × Value)} (h : IsMap encKy W b m) (k : Ky) :
    ∃ W', (∀ {oi : Oper} {a : Act} {p r : Operand} {kt : TypeId}, oi.op = .call { callee := .builtin .delete, args := #[p, r], argTypes := #[tM, kt] } → a.eval p = .map (some b) → a.eval r = encKy k → (execOp a.eval oi).run Try.prog W = .ok (.value (.tuple #[])) W') ∧ IsMap encKy W' b (KM.del k m) ∧ Turned W W' b := by
  obtain ⟨W', h1, h2, h3⟩ := run_delete (kt' := 36) keyT und_tM h k 0
  refine ⟨W', fun {oi a p r kt} ho hm hk => ?_, h2, h3⟩
  have h4 : (Builtin.delete_ #[tM, kt] oi.type #[.map (some b), encKy k]).run Try.prog W = .ok (.tuple #[]) W' := h1
  unfold execOp
  simp [ho, resolve, invoke, builtin, hm, hk, h4, Result.andThen]
theorem exec_update {W : World} {b : Nat} {m : List (Ky × Value)} (h : IsMap encKy W b m) (k : Ky) (v : Value) :
    ∃ W', (∀ {oi : Oper} {a : Act} {p r s : Operand}, oi.op = .mapUpdate tM p r s → a.eval p = .map (some b) → a.eval r = encKy k → a.eval s = v → (execOp a.eval oi).run Try.prog W = .ok .skip W') ∧ IsMap encKy W' b (KM.put k v m) ∧ Turned W W' b := by
  obtain ⟨W', h1, h2, h3⟩ := run_update keyT und_tM h k v
  refine ⟨W', fun ho hm hk hv => ?_, h2, h3⟩
  unfold execOp
  simp [ho, hm, hk, hv, h1, Result.andThen]
theorem exec_slice {T : TypeId} {n : Nat} {W W' : World} {v : Value} {vs : Array (Nat × Value)} (hr : (Instr.buildSlice T n vs).run Try.prog W = .ok v W') {oi : Oper} {a : Act} {parts : Array (Nat × Operand)} (ho : oi.op = .buildSlice T n parts)
    (hp : (parts.toList.map fun (i, x) => (i, a.eval x)) = vs.toList) : (execOp a.eval oi).run Try.prog W = .ok (.value v) W' := by
  have hp' : (parts.map fun (i, x) => (i, a.eval x)) = vs := by
    apply Array.toList_inj.1
    rw [Array.toList_map]
    exact hp
  subst hp'
  unfold execOp
  simp only [ho, Sem.run_bind, hr, Result.andThen_ok]
  rfl
theorem exec_append {oi : Oper} {a : Act} {W W' : World} {sl sr v : Value} {t : TypeId} {p r : Operand} (ho : oi.op = .call { callee := .builtin .append, args := #[p, r], argTypes := #[t, t] })
    (h : (Builtin.append_ #[t, t] oi.type #[sl, sr]).run Try.prog W = .ok v W') (hp : a.eval p = sl) (hr : a.eval r = sr) : (execOp a.eval oi).run Try.prog W = .ok (.value v) W' := by
  unfold execOp
  simp [ho, resolve, invoke, builtin, hp, hr, h, Result.andThen]
theorem ne_map {W : World} {b g : Nat} {m : List (Ky × Value)} {cs : Array Value} {t : TypeId} {fr : Nat × Nat} (h : IsMap encKy W b m) (hg : W.heap[g]? = some (.cells cs t fr)) : g ≠ b := by
  rintro rfl
  obtain ⟨es, clock, hm, -⟩ := h
  rw [hm] at hg
  cases hg
section
variable {B : Nat} {W W' : World} {q bm : Nat} {sl : Value} {ql : Nat} {og : Option Nat} {s : St}
structure STurnDrew (B : Nat) (w w' : World) (q bm : Nat) (sl sl' : Value) (ql : Nat) (og og' : Option Nat) : Prop where
  turn : STurn B w w' q bm sl sl' ql og og'
theorem StAt.drew (h : StAt B W q bm sl ql og s) : StAt B W.drew q bm sl ql og s := ⟨h.box, h.map.of_heap rfl, h.evs.of_heap fun _ _ => rfl, h.log.of_heap rfl fun _ _ => rfl, h.low, h.lowm, h.good⟩
theorem STurn.drew {w : World} {sl' : Value} {og' : Option Nat} (h : STurn B w W q bm sl sl' ql og og') : STurnDrew B w W.drew q bm sl sl' ql og og' := ⟨⟨h.below.drew, h.keep, h.sl_, h.og_⟩⟩
theorem StAt.mapped (h : StAt B W q bm sl ql og s) (ht : Turned W W' bm) {os : List (Ky × O.Obj)} (hm : IsMap encKy W' bm (os.map fun p => (p.1, O.encO p.2))) (hg : Good ⟨os, s.evs, s.log⟩) :
    StAt B W' q bm sl ql og ⟨os, s.evs, s.log⟩ ∧ STurn B W W' q bm sl sl ql og og := by
  have n := h.map_ne
  refine ⟨⟨h.box.of_heap (ht.block q fun e => n.1 e.symm), hm, h.evs.of_heap fun g hg => ht.block g fun e => n.2.1 (by rw [← e]; exact hg), h.log.of_heap (ht.block ql fun e => n.2.2.1 e.symm) fun g hg => ht.block g fun e => n.2.2.2 (by rw [← e, hg]), h.low, h.lowm, hg⟩, ht.below h.lowm, fun g _ _ h2 _ _ _ => ht.block g h2, fun _ hg => .inl hg, fun _ hg => .inl hg⟩
theorem StAt.pushed (h : StAt B W q bm sl ql og s) (hB : B ≤ W.heap.size) {o : Go.Obj} {v' : Value} {W2 : World} {L' : List C.Ev} (he : EvsAt W2 B v' L') (hg : L.Grew (W.alloc o) sl W2 v') (hgd : Good ⟨s.os, L', s.log⟩) :
    StAt B (W2.setCell ⟨q, 1, none⟩ v') q bm v' ql og ⟨s.os, L', s.log⟩ ∧ STurn B W (W2.setCell ⟨q, 1, none⟩ v') q bm sl v' ql og og := by
  have hsz : W.heap.size ≤ W2.heap.size := by have := hg.by_.size; rw [World.size_alloc] at this; omega
  have old : ∀ g, g < W.heap.size → sl.ownBlock ≠ some g → W2.heap[g]? = W.heap[g]? := fun g h1 h2 =>
    (hg.by_.block g (by rw [World.size_alloc]; omega) (fun e => h2 e.symm)).trans (Below.heap_alloc W o g h1)
  have n := h.map_ne
  have nb := h.box_ne
  have hbox : SAt W2 q bm sl ql := h.box.of_heap (old q h.box.lt nb.1)
  have own : ∀ g, v'.ownBlock = some g → sl.ownBlock = some g ∨ W.heap.size ≤ g := fun g e => by
    rcases hg.at_ with e2 | ⟨k, e2, h2⟩
    · exact .inl (e2 ▸ e)
    · rw [e2] at e
      cases e
      rw [World.size_alloc] at h2
      exact .inr (by omega)
  have other : ∀ g, g ≠ q → (W2.setCell ⟨q, 1, none⟩ v').heap[g]? = W2.heap[g]? := fun g e => heap_setCell_other _ ⟨q, 1, none⟩ g _ e
  have vq : ∀ g, v'.ownBlock = some g → g ≠ q := fun g e => by
    rcases own g e with h1 | h1
    · exact (h.evs_ne h1).1
    · have := h.box.lt; omega
  refine ⟨⟨hbox.s1 v', ?_, he.of_heap fun g e => other g (vq g e), ?_, h.low, h.lowm, hgd⟩, ⟨?_, ?_, own, fun _ e => .inl e⟩⟩
  · exact h.map.of_heap ((other bm n.1).trans (old bm h.map.lt n.2.1))
  · refine h.log.of_heap ((other ql (fun e => nb.2.1 e.symm)).trans (old ql h.log.lt fun e => (h.evs_ne e).2.2.1 rfl)) fun g e => (other g (fun e2 => nb.2.2 (by rw [← e2, e]))).trans (old g (h.log.own e).1 fun e2 => (h.evs_ne e2).2.2.2 e.symm)
  · refine Below.setCell (p := ⟨q, 1, none⟩) ?_ h.low v'
    refine ⟨hg.by_.os, hg.by_.tape, hg.by_.output, hsz, fun g h1 => old g (by omega) fun e => ?_⟩
    have := h.evs.low e
    omega
  · intro g h1 h2 _ h3 _ _
    exact (other g h2).trans (old g h1 h3)
end
set_option maxRecDepth 100000 in
set_option maxHeartbeats 1000000 in
theorem do_any {B : Nat} {q bm : Nat} {sl : Value} {ql : Nat} {og : Option Nat} {s : St} {w : World} (h : StAt B w q bm sl ql og s) (hB : B ≤ w.heap.size) (e : C.Ev) (hf : C.Fits e.object) (hn : s.evs.length + 1 ≤ s.log.b.length / 64) :
    Calls Try.prog 42 #[.pointer (some ⟨q, 0, none⟩), C.encE e] w (DoD B q bm sl ql og (doS s e) w) := by
  have hb0 : Below w.heap.size w (w.alloc (C.objE e)) := (Below.refl _ _).alloc (Nat.le_refl _) _
  have HS0 := Lib.hid (h.after hb0)
  have HB0 := Lib.hid hb0
  have HBE := Lib.hid (C.BoxE.new w e)
  have HBW := Lib.hid hB
  have HSL : Hid (∀ g, sl.ownBlock = some g → g < w.heap.size) := fun g hg => h.evs.lt hg
  have HGD := Lib.hid (h.good.do hf hn)
  have HG0 := Lib.hid h.good
  have HFW := Lib.hid h.few
  have HK : Hid (∀ W, Calls Try.prog 38 #[O.encO e.object] W (KeyD (keyO e.object) W)) := fun W => O.key_any e.object W
  obtain ⟨os, ho⟩ : ∃ os, (if e.gone then KM.del (keyO e.object) s.os else KM.put (keyO e.object) e.object s.os) = os := ⟨_, rfl⟩
  have hd : doS s e = ⟨os, s.evs ++ [e], s.log⟩ := by unfold doS; rw [ho]
  rw [hd] at HGD ⊢
  have HO := Lib.hid ho
  clear h hb0 hB hf hn hd ho
  have HG1 : Hid (Good ⟨os, s.evs, s.log⟩) := ⟨HGD.out.once, HGD.out.keys, HG0.out.len⟩
  unfold C.encE
  go_enter Try.func42, Try.ntmps42
  go_upto_region 1 with (fail)
  refine O.wp_gen (fun W => C.BoxE W w.heap.size e ∧ StAt B W q bm sl ql og s ∧ Below w.heap.size w W) ⟨HBE.out, HS0.out, HB0.out⟩ ?_
  rintro W1 ⟨hbe, hs, hb⟩
  have HS1 := Lib.hid hs
  have HB1 := Lib.hid hb
  clear HS0 HB0 HBE hs hb
  go_wp2_with (first | ((with_reducible refine C.wpList_load_evo ?_ rfl ?_ hbe ?_); rfl; rfl) | (go_at_call 38; refine (HK.out _).mono ?_))
  rintro x W2 hw
  obtain ⟨rfl, hb2⟩ := hw
  have HS2 := Lib.hid (HS1.out.after hb2)
  have HBE2 := Lib.hid (hbe.after hb2)
  have HB2 : Hid (Below w.heap.size w W2) := HB1.out.trans (hb2.mono HB1.out.size)
  clear hb2 hbe HS1 HB1 HK
  unfold encKy O.encK
  obtain ⟨k, hk⟩ : ∃ k : Ky, keyO e.object = k := ⟨_, rfl⟩
  rw [hk]
  have HKE := Lib.hid hk
  clear hk
  go_upto_region 2 with (fail)
  obtain ⟨qe, hqe⟩ : ∃ g, w.heap.size = g := ⟨_, rfl⟩
  rw [hqe] at HBE2 HSL
  obtain ⟨kb, hkb⟩ : ∃ g, W2.heap.size = g := ⟨_, rfl⟩
  have hal : Below W2.heap.size W2 (W2.alloc (.cells #[.int .u8 k.1, .string k.2] 36)) := (Below.refl _ _).alloc (Nat.le_refl _) _
  refine O.wp_gen (fun W => C.BoxE W qe e ∧ KAt W kb k ∧ StAt B W q bm sl ql og s ∧ Below w.heap.size w W) ⟨HBE2.out.after hal, by rw [← hkb]; exact heap_alloc_new W2 _, HS2.out.after hal, HB2.out.trans (hal.mono HB2.out.size)⟩ ?_
  rw [hqe, hkb]
  clear hal hkb HBE2 HS2 HB2
  rintro W3 ⟨hbe, hka, hs, hb⟩
  have HBE := Lib.hid hbe
  have HKA := Lib.hid hka
  have HST := Lib.hid hs
  have HBL := Lib.hid hb
  have HQE := Lib.hid hqe
  have c1 := hbe.c1
  clear hbe hka hs hb hqe
  cases hg : e.gone with
  | true =>
    rw [hg] at c1
    have HG := Lib.hid hg
    have HSA : Hid (SAt W3 q bm sl ql) := HST.out.box
    clear hg
    go_wp2
    refine wp_region_held_drew (S := fun V => SAt V q bm sl ql ∧ KAt V kb k ∧ C.BoxE V qe e) (by kernel_rfl) ⟨HSA.out, HKA.out, HBE.out⟩ (fun _ => ?_)
    refine HeldBy.gen (fun V => (SAt V q bm sl ql ∧ KAt V kb k ∧ C.BoxE V qe e) ∧ (StAt B V q bm sl ql og s) ∧ (Below qe w V)) ⟨⟨HSA.out, HKA.out, HBE.out⟩, HST.out.drew, HBL.out.drew⟩ ?_
    clear HSA HKA HBE HST HBL
    rintro U0 ⟨HS, HST, HBL⟩
    refine HeldBy.take (i := 0) rfl (by kernel_rfl) (by kernel_rfl) (by kernel_rfl) (fun _ _ _ h => h) (by rfl) (fun _ _ => by first | (go_simp; rfl) | (go_simp; done)) (by first | (go_simp; rfl) | (go_simp; done)) HS ?_
    refine HeldBy.take (i := 1) rfl (by kernel_rfl) (by kernel_rfl) (by kernel_rfl) (fun _ _ _ h => h) (by rfl) (fun _ _ => by first | (go_simp; rfl) | (go_simp; done)) (by first | (go_simp; rfl) | (go_simp; done)) HS ?_
    refine HeldBy.take (i := 2) rfl (by kernel_rfl) (by kernel_rfl) (by kernel_rfl) (fun _ _ _ h => h) (by rfl) (fun _ _ => by first | (go_simp; rfl) | (go_simp; done)) (by first | (go_simp; rfl) | (go_simp; done)) HS ?_
    refine HeldBy.take (i := 3) rfl (by kernel_rfl) (by kernel_rfl) (by kernel_rfl) (fun _ _ _ h => h) (by rfl) (fun V hV => by have hc := hV.1.c0; first | (go_simp; rfl) | (go_simp; done)) (by first | (go_simp; rfl) | (go_simp; done)) HS ?_
    refine HeldBy.take (i := 4) rfl (by kernel_rfl) (by kernel_rfl) (by kernel_rfl) (fun _ _ _ h => h) (by rfl) (fun V hV => by have h0 := hV.2.1.c0; have h1 := hV.2.1.c1; first | (go_simp; rfl) | (go_simp; done)) (by first | (go_simp; rfl) | (go_simp; done)) HS ?_
    have hkn := ne_map HST.map HS.2.1
    have hqn := ne_map HST.map HS.2.2
    obtain ⟨U1, hrun, hm, ht⟩ := exec_delete HST.map k
    have HS1 : SAt U1 q bm sl ql ∧ KAt U1 kb k ∧ C.BoxE U1 qe e := ⟨HS.1.of_heap (ht.block q fun x => HST.map_ne.1 x.symm), (ht.block kb hkn).trans HS.2.1, (ht.block qe hqn).trans HS.2.2⟩
    refine HeldBy.value (i := 5) (v := .tuple #[]) (w' := U1) rfl (by kernel_rfl) (by rfl) (hrun rfl rfl rfl) (by go_simp; rfl) HS1 ?_
    refine wpAnyH_done (by kernel_rfl) ?_ _
    have HMM : IsMap encKy U1 bm (os.map fun p => (p.1, O.encO p.2)) := by have h1 := HO.out; rw [HG.out, HKE.out] at h1; rw [← h1, if_pos rfl, ← del_map]; exact hm
    have hm2 := HST.mapped ht HMM HG1.out
    have hbl2 : STurn B w U1 q bm sl sl ql og og := (STurn.of_below (by rw [HQE.out]; exact HBL) HBW.out).trans hm2.2
    refine L.then_gen (fun V => C.BoxE V qe e ∧ StAt B V q bm sl ql og ⟨os, s.evs, s.log⟩ ∧ STurn B w V q bm sl sl ql og og) ⟨HS1.2.2, hm2.1, hbl2⟩ ?_
    clear hm2 hbl2 hrun hm ht HS HS1 HST HBL HMM hkn hqn
    rintro W5 ⟨g1, g2, g3⟩
    have HBE := Lib.hid g1
    have HST := Lib.hid g2
    have HTU := Lib.hid g3
    have HW : Hid (Below B w W5) := g3.below
    clear g1 g2 g3
    go_wp2
    refine wp_region_held_drew (S := fun V => Below B w V) (by kernel_rfl) HW.out.drew (fun _ => ?_)
    refine HeldBy.gen (fun V => (Below B w V) ∧ (StAt B V q bm sl ql og ⟨os, s.evs, s.log⟩) ∧ (C.BoxE V qe e) ∧ (STurnDrew B w V q bm sl sl ql og og)) ⟨HW.out.drew, HST.out.drew, HBE.out, HTU.out.drew⟩ ?_
    clear HW HST HBE HTU
    rintro U0 ⟨HS, HST, HBE, HTU⟩
    refine HeldBy.take (i := 0) rfl (by kernel_rfl) (by kernel_rfl) (by kernel_rfl) (fun _ _ _ h => h) (by rfl) (fun _ _ => by first | (go_simp; rfl) | (go_simp; done)) (by first | (go_simp; rfl) | (go_simp; done)) HS ?_
    refine HeldBy.take (i := 1) rfl (by kernel_rfl) (by kernel_rfl) (by kernel_rfl) (fun _ _ _ h => h) (by rfl) (fun _ _ => by first | (go_simp; rfl) | (go_simp; done)) (by first | (go_simp; rfl) | (go_simp; done)) HS ?_
    refine HeldBy.take (i := 2) rfl (by kernel_rfl) (by kernel_rfl) (by kernel_rfl) (fun _ _ _ h => h) (by rfl) (fun _ _ => by first | (go_simp; rfl) | (go_simp; done)) (by first | (go_simp; rfl) | (go_simp; done)) HS ?_
    refine HeldBy.take (i := 3) rfl (by kernel_rfl) (by kernel_rfl) (by kernel_rfl) (fun _ _ _ h => h) (by rfl) (fun _ _ => by first | (go_simp; rfl) | (go_simp; done)) (by first | (go_simp; rfl) | (go_simp; done)) HS ?_
    have hBU : B ≤ U0.heap.size := Nat.le_trans HBW.out HS.size
    obtain ⟨U1, hU1⟩ : ∃ U, U = U0.alloc (.cells (C.cellsE e) tEv (0, 0)) := ⟨_, rfl⟩
    have hal : Below U0.heap.size U0 U1 := by rw [hU1]; exact (Below.refl _ _).alloc (Nat.le_refl _) _
    have hc1 := HST.box.c1
    have hc2 := (HST.box.after hal).c1
    have hlit : ∀ {oi : Oper} {a : Act} {parts : Array (Nat × Operand)}, oi.op = .buildSlice tEs 1 parts → (parts.toList.map fun (i, x) => (i, a.eval x)) = [(0, C.encE e)] → (execOp a.eval oi).run Try.prog U0 = .ok (.value (.slice (some ⟨U0.heap.size, 0, none⟩) 1 1)) U1 := fun ho hp => by rw [hU1]; exact exec_slice (run_evs1 U0 e) ho hp
    obtain ⟨v2, U2, hr2, he2, hg2⟩ := add_ev U0 B sl s.evs e tEs HST.evs (Nat.le_trans HFW.out (by decide)) hBU
    have hps := HST.pushed hBU he2 hg2 HGD.out
    rw [← hU1] at hr2 hg2
    clear hU1
    obtain ⟨a2, c2, rfl⟩ := he2.shape
    obtain ⟨n2, hn2⟩ : ∃ n, (s.evs ++ [e]).length = n := ⟨_, rfl⟩
    rw [hn2] at hr2 he2 hg2 hps
    clear hn2
    have nq := HST.box_ne
    have hbox2 : SAt U2 q bm sl ql := (HST.box.after hal).of_heap (hg2.by_.block q (HST.box.after hal).lt (fun x => nq.1 x.symm))
    have hlw1 : Below B w U1 := HS.trans (hal.mono hBU)
    have hlw2 : Below B w U2 := hlw1.trans ⟨hg2.by_.os, hg2.by_.tape, hg2.by_.output, hg2.by_.size, fun g h1 => hg2.by_.block g (by have := hal.size; omega) fun x => by have := HST.evs.low x.symm; omega⟩
    refine HeldBy.late_lit (i := 4) (j := 5) (c := 6) (u := sl) (x := C.encE e) (z := .slice (some ⟨U0.heap.size, 0, none⟩) 1 1) (w' := U1) (by kernel_rfl) (by kernel_rfl) (by kernel_rfl) (by kernel_rfl) (by kernel_rfl) (by kernel_rfl) rfl rfl rfl rfl rfl rfl
      (by first | (go_simp; rfl) | (go_simp; done)) (by first | (go_simp; rfl) | (go_simp; done)) (by first | (go_simp; rfl) | (go_simp; done)) (C.load_ev HBE rfl rfl) (C.load_ev HBE rfl rfl) (hlit rfl rfl) (hlit rfl rfl) (hlit rfl rfl) (by first | (go_simp; rfl) | (go_simp; done)) (by first | (go_simp; rfl) | (go_simp; done)) (by first | (go_simp; rfl) | (go_simp; done)) rfl rfl rfl HS hlw1 ?_
    refine HeldBy.value (i := 7) (v := .slice a2 n2 c2) (w' := U2) rfl (by kernel_rfl) (by rfl) (exec_append rfl hr2 rfl rfl) (by first | (go_simp; rfl) | (go_simp; done)) hlw2 ?_
    refine HeldBy.take (i := 8) rfl (by kernel_rfl) (by kernel_rfl) (by kernel_rfl) (fun _ _ _ h => h) (by rfl) (fun _ _ => by first | (go_simp; rfl) | (go_simp; done)) (by first | (go_simp; rfl) | (go_simp; done)) hlw2 ?_
    refine HeldBy.take (i := 9) rfl (by kernel_rfl) (by kernel_rfl) (by kernel_rfl) (fun _ _ _ h => h) (by rfl) (fun _ _ => by first | (go_simp; rfl) | (go_simp; done)) (by first | (go_simp; rfl) | (go_simp; done)) hlw2 ?_
    refine HeldBy.store (i := 10) (w' := U2.setCell ⟨q, 1, none⟩ (.slice a2 n2 c2)) rfl (by kernel_rfl) (by rfl) (by have hc := hbox2.c1; have hf := hbox2.free 1; first | (go_simp; done) | (go_simp; rfl)) (by first | (go_simp; rfl) | (go_simp; done)) (hlw2.trans ((Below.refl _ _).setCell (p := ⟨q, 1, none⟩) HST.low _)) ?_
    refine wpAnyH_done (by kernel_rfl) ?_ _
    have HF := Lib.hid hps.1
    have HT : Hid (STurn B w (U2.setCell ⟨q, 1, none⟩ (.slice a2 n2 c2)) q bm sl (.slice a2 n2 c2) ql og og) := HTU.turn.trans hps.2
    clear HS HST HBE HTU hal hc1 hc2 hlit hr2 he2 hg2 hps nq hbox2 hlw1 hlw2 hBU
    go_wp2
    go_end0
    exact ⟨rfl, _, HF.out, HT.out⟩
  | false =>
    rw [hg] at c1
    have HG := Lib.hid hg
    have HSA : Hid (SAt W3 q bm sl ql) := HST.out.box
    clear hg
    go_wp2
    refine wp_region_held_drew (S := fun V => SAt V q bm sl ql ∧ KAt V kb k ∧ C.BoxE V qe e) (by kernel_rfl) ⟨HSA.out, HKA.out, HBE.out⟩ (fun _ => ?_)
    refine HeldBy.gen (fun V => (SAt V q bm sl ql ∧ KAt V kb k ∧ C.BoxE V qe e) ∧ (StAt B V q bm sl ql og s) ∧ (Below qe w V)) ⟨⟨HSA.out, HKA.out, HBE.out⟩, HST.out.drew, HBL.out.drew⟩ ?_
    clear HSA HKA HBE HST HBL
    rintro U0 ⟨HS, HST, HBL⟩
    refine HeldBy.take (i := 0) rfl (by kernel_rfl) (by kernel_rfl) (by kernel_rfl) (fun _ _ _ h => h) (by rfl) (fun _ _ => by first | (go_simp; rfl) | (go_simp; done)) (by first | (go_simp; rfl) | (go_simp; done)) HS ?_
    refine HeldBy.take (i := 1) rfl (by kernel_rfl) (by kernel_rfl) (by kernel_rfl) (fun _ _ _ h => h) (by rfl) (fun _ _ => by first | (go_simp; rfl) | (go_simp; done)) (by first | (go_simp; rfl) | (go_simp; done)) HS ?_
    refine HeldBy.take (i := 2) rfl (by kernel_rfl) (by kernel_rfl) (by kernel_rfl) (fun _ _ _ h => h) (by rfl) (fun _ _ => by first | (go_simp; rfl) | (go_simp; done)) (by first | (go_simp; rfl) | (go_simp; done)) HS ?_
    refine HeldBy.take (i := 3) rfl (by kernel_rfl) (by kernel_rfl) (by kernel_rfl) (fun _ _ _ h => h) (by rfl) (fun V hV => by have hc := hV.1.c0; first | (go_simp; rfl) | (go_simp; done)) (by first | (go_simp; rfl) | (go_simp; done)) HS ?_
    refine HeldBy.take (i := 4) rfl (by kernel_rfl) (by kernel_rfl) (by kernel_rfl) (fun _ _ _ h => h) (by rfl) (fun V hV => by have h0 := hV.2.1.c0; have h1 := hV.2.1.c1; first | (go_simp; rfl) | (go_simp; done)) (by first | (go_simp; rfl) | (go_simp; done)) HS ?_
    refine HeldBy.take (i := 5) rfl (by kernel_rfl) (by kernel_rfl) (by kernel_rfl) (fun _ _ _ h => h) (by rfl) (fun _ _ => by first | (go_simp; rfl) | (go_simp; done)) (by first | (go_simp; rfl) | (go_simp; done)) HS ?_
    refine HeldBy.take (i := 6) (v := O.encO e.object) rfl (by kernel_rfl) (by kernel_rfl) (by kernel_rfl) (fun _ _ _ h => h) (by rfl) (fun V hV => C.load_evo hV.2.2 rfl rfl) (by first | (go_simp; rfl) | (go_simp; done)) HS ?_
    have hkn := ne_map HST.map HS.2.1
    have hqn := ne_map HST.map HS.2.2
    obtain ⟨U1, hrun, hm, ht⟩ := exec_update HST.map k (O.encO e.object)
    have HS1 : SAt U1 q bm sl ql ∧ KAt U1 kb k ∧ C.BoxE U1 qe e := ⟨HS.1.of_heap (ht.block q fun x => HST.map_ne.1 x.symm), (ht.block kb hkn).trans HS.2.1, (ht.block qe hqn).trans HS.2.2⟩
    refine HeldBy.store (i := 7) (w' := U1) rfl (by kernel_rfl) (by rfl) (hrun rfl rfl rfl rfl) (by first | (go_simp; rfl) | (go_simp; done)) HS1 ?_
    refine wpAnyH_done (by kernel_rfl) ?_ _
    have HMM : IsMap encKy U1 bm (os.map fun p => (p.1, O.encO p.2)) := by have h1 := HO.out; rw [HG.out, HKE.out] at h1; rw [← h1, if_neg (by decide), ← put_map]; exact hm
    have hm2 := HST.mapped ht HMM HG1.out
    have hbl2 : STurn B w U1 q bm sl sl ql og og := (STurn.of_below (by rw [HQE.out]; exact HBL) HBW.out).trans hm2.2
    refine L.then_gen (fun V => C.BoxE V qe e ∧ StAt B V q bm sl ql og ⟨os, s.evs, s.log⟩ ∧ STurn B w V q bm sl sl ql og og) ⟨HS1.2.2, hm2.1, hbl2⟩ ?_
    clear hm2 hbl2 hrun hm ht HS HS1 HST HBL HMM hkn hqn
    rintro W5 ⟨g1, g2, g3⟩
    have HBE := Lib.hid g1
    have HST := Lib.hid g2
    have HTU := Lib.hid g3
    have HW : Hid (Below B w W5) := g3.below
    clear g1 g2 g3
    go_wp2
    refine wp_region_held_drew (S := fun V => Below B w V) (by kernel_rfl) HW.out.drew (fun _ => ?_)
    refine HeldBy.gen (fun V => (Below B w V) ∧ (StAt B V q bm sl ql og ⟨os, s.evs, s.log⟩) ∧ (C.BoxE V qe e) ∧ (STurnDrew B w V q bm sl sl ql og og)) ⟨HW.out.drew, HST.out.drew, HBE.out, HTU.out.drew⟩ ?_
    clear HW HST HBE HTU
    rintro U0 ⟨HS, HST, HBE, HTU⟩
    refine HeldBy.take (i := 0) rfl (by kernel_rfl) (by kernel_rfl) (by kernel_rfl) (fun _ _ _ h => h) (by rfl) (fun _ _ => by first | (go_simp; rfl) | (go_simp; done)) (by first | (go_simp; rfl) | (go_simp; done)) HS ?_
    refine HeldBy.take (i := 1) rfl (by kernel_rfl) (by kernel_rfl) (by kernel_rfl) (fun _ _ _ h => h) (by rfl) (fun _ _ => by first | (go_simp; rfl) | (go_simp; done)) (by first | (go_simp; rfl) | (go_simp; done)) HS ?_
    refine HeldBy.take (i := 2) rfl (by kernel_rfl) (by kernel_rfl) (by kernel_rfl) (fun _ _ _ h => h) (by rfl) (fun _ _ => by first | (go_simp; rfl) | (go_simp; done)) (by first | (go_simp; rfl) | (go_simp; done)) HS ?_
    refine HeldBy.take (i := 3) rfl (by kernel_rfl) (by kernel_rfl) (by kernel_rfl) (fun _ _ _ h => h) (by rfl) (fun _ _ => by first | (go_simp; rfl) | (go_simp; done)) (by first | (go_simp; rfl) | (go_simp; done)) HS ?_
    have hBU : B ≤ U0.heap.size := Nat.le_trans HBW.out HS.size
    obtain ⟨U1, hU1⟩ : ∃ U, U = U0.alloc (.cells (C.cellsE e) tEv (0, 0)) := ⟨_, rfl⟩
    have hal : Below U0.heap.size U0 U1 := by rw [hU1]; exact (Below.refl _ _).alloc (Nat.le_refl _) _
    have hc1 := HST.box.c1
    have hc2 := (HST.box.after hal).c1
    have hlit : ∀ {oi : Oper} {a : Act} {parts : Array (Nat × Operand)}, oi.op = .buildSlice tEs 1 parts → (parts.toList.map fun (i, x) => (i, a.eval x)) = [(0, C.encE e)] → (execOp a.eval oi).run Try.prog U0 = .ok (.value (.slice (some ⟨U0.heap.size, 0, none⟩) 1 1)) U1 := fun ho hp => by rw [hU1]; exact exec_slice (run_evs1 U0 e) ho hp
    obtain ⟨v2, U2, hr2, he2, hg2⟩ := add_ev U0 B sl s.evs e tEs HST.evs (Nat.le_trans HFW.out (by decide)) hBU
    have hps := HST.pushed hBU he2 hg2 HGD.out
    rw [← hU1] at hr2 hg2
    clear hU1
    obtain ⟨a2, c2, rfl⟩ := he2.shape
    obtain ⟨n2, hn2⟩ : ∃ n, (s.evs ++ [e]).length = n := ⟨_, rfl⟩
    rw [hn2] at hr2 he2 hg2 hps
    clear hn2
    have nq := HST.box_ne
    have hbox2 : SAt U2 q bm sl ql := (HST.box.after hal).of_heap (hg2.by_.block q (HST.box.after hal).lt (fun x => nq.1 x.symm))
    have hlw1 : Below B w U1 := HS.trans (hal.mono hBU)
    have hlw2 : Below B w U2 := hlw1.trans ⟨hg2.by_.os, hg2.by_.tape, hg2.by_.output, hg2.by_.size, fun g h1 => hg2.by_.block g (by have := hal.size; omega) fun x => by have := HST.evs.low x.symm; omega⟩
    refine HeldBy.late_lit (i := 4) (j := 5) (c := 6) (u := sl) (x := C.encE e) (z := .slice (some ⟨U0.heap.size, 0, none⟩) 1 1) (w' := U1) (by kernel_rfl) (by kernel_rfl) (by kernel_rfl) (by kernel_rfl) (by kernel_rfl) (by kernel_rfl) rfl rfl rfl rfl rfl rfl
      (by first | (go_simp; rfl) | (go_simp; done)) (by first | (go_simp; rfl) | (go_simp; done)) (by first | (go_simp; rfl) | (go_simp; done)) (C.load_ev HBE rfl rfl) (C.load_ev HBE rfl rfl) (hlit rfl rfl) (hlit rfl rfl) (hlit rfl rfl) (by first | (go_simp; rfl) | (go_simp; done)) (by first | (go_simp; rfl) | (go_simp; done)) (by first | (go_simp; rfl) | (go_simp; done)) rfl rfl rfl HS hlw1 ?_
    refine HeldBy.value (i := 7) (v := .slice a2 n2 c2) (w' := U2) rfl (by kernel_rfl) (by rfl) (exec_append rfl hr2 rfl rfl) (by first | (go_simp; rfl) | (go_simp; done)) hlw2 ?_
    refine HeldBy.take (i := 8) rfl (by kernel_rfl) (by kernel_rfl) (by kernel_rfl) (fun _ _ _ h => h) (by rfl) (fun _ _ => by first | (go_simp; rfl) | (go_simp; done)) (by first | (go_simp; rfl) | (go_simp; done)) hlw2 ?_
    refine HeldBy.take (i := 9) rfl (by kernel_rfl) (by kernel_rfl) (by kernel_rfl) (fun _ _ _ h => h) (by rfl) (fun _ _ => by first | (go_simp; rfl) | (go_simp; done)) (by first | (go_simp; rfl) | (go_simp; done)) hlw2 ?_
    refine HeldBy.store (i := 10) (w' := U2.setCell ⟨q, 1, none⟩ (.slice a2 n2 c2)) rfl (by kernel_rfl) (by rfl) (by have hc := hbox2.c1; have hf := hbox2.free 1; first | (go_simp; done) | (go_simp; rfl)) (by first | (go_simp; rfl) | (go_simp; done)) (hlw2.trans ((Below.refl _ _).setCell (p := ⟨q, 1, none⟩) HST.low _)) ?_
    refine wpAnyH_done (by kernel_rfl) ?_ _
    have HF := Lib.hid hps.1
    have HT : Hid (STurn B w (U2.setCell ⟨q, 1, none⟩ (.slice a2 n2 c2)) q bm sl (.slice a2 n2 c2) ql og og) := HTU.turn.trans hps.2
    clear HS HST HBE HTU hal hc1 hc2 hlit hr2 he2 hg2 hps nq hbox2 hlw1 hlw2 hBU
    go_wp2
    go_end0
    exact ⟨rfl, _, HF.out, HT.out⟩
end Go.Proofs.Ytfndiocohaploaa.S
namespace Go.Proofs.Ytfndiocohaploaa.S
open Go Go.RowKit Go.Lib KM
def WrD (B : Nat) (q bm : Nat) (sl : Value) (ql : Nat) (og : Option Nat) (r : Int × St) (w : World) (x : Ending) (w' : World) : Prop :=
  x = .returned (.int .i64 r.1) ∧ ∃ sl' og', StAt B w' q bm sl' ql og' r.2 ∧ STurn B w w' q bm sl sl' ql og og'
theorem app_same {l : L.Lg} {r : L.Bytes} (h : (L.appS l r).1 ≠ 0) : (L.appS l r).2 = l := by
  unfold L.appS at h ⊢
  split
  · rfl
  · split
    · rfl
    · next h1 h2 => rw [if_neg h1, if_neg h2] at h; exact absurd rfl h
theorem wrote_ok {s : St} {e : C.Ev} (h : (recC s.log e).1 = 0) : wrote s e = (0, doS ⟨s.os, s.evs, syncL (recC s.log e).2⟩ e) ∧ s.log.b.length / 64 + 1 ≤ (recC s.log e).2.b.length / 64 := by
  unfold recC at h ⊢
  unfold wrote
  split
  · next h1 => rw [if_pos h1] at h; cases h
  · next h1 =>
    rw [if_neg h1] at h
    rw [if_pos h]
    exact ⟨rfl, (app_len h).1⟩
theorem wrote_no {s : St} {e : C.Ev} (h : (recC s.log e).1 ≠ 0) : wrote s e = ((recC s.log e).1, s) ∧ (recC s.log e).2 = s.log := by
  unfold recC at h ⊢
  unfold wrote
  split
  · exact ⟨rfl, rfl⟩
  · next h1 =>
    rw [if_neg h1] at h
    rw [if_neg h]
    exact ⟨rfl, app_same h⟩
set_option maxRecDepth 100000 in
set_option maxHeartbeats 1000000 in
theorem write_any {B : Nat} {q bm : Nat} {sl : Value} {ql : Nat} {og : Option Nat} {s : St} {w : World} (h : StAt B w q bm sl ql og s) (hB : B ≤ w.heap.size) (e : C.Ev) (hv : C.U64 e.version) (hf : C.Fits e.object) :
    Calls Try.prog 20 #[.pointer (some ⟨q, 0, none⟩), C.encE e] w (WrD B q bm sl ql og (wrote s e) w) := by
  have hb0 : Below w.heap.size w (w.alloc (C.objE e)) := (Below.refl _ _).alloc (Nat.le_refl _) _
  have HS0 := Lib.hid (h.after hb0)
  have HB0 := Lib.hid hb0
  have HBE := Lib.hid (C.BoxE.new w e)
  have HBW := Lib.hid hB
  have HRC : Hid (∀ W, L.IsLog B W ql og s.log → B ≤ W.heap.size → Calls Try.prog 29 #[.pointer (some ⟨ql, 0, none⟩), C.encE e] W (RecD B ql og W (recC s.log e).1 (recC s.log e).2)) := fun W h1 h2 => record_any B ql og s.log e W h1 h2 hv hf
  have HLN := Lib.hid h.good
  have HFT := Lib.hid hf
  obtain ⟨wr, hwr⟩ : ∃ z, wrote s e = z := ⟨_, rfl⟩
  rw [hwr]
  have HWR := Lib.hid hwr
  clear h hb0 hB hf hwr
  unfold C.encE
  go_enter Try.func20, Try.ntmps20
  go_upto_region 1 with (fail)
  obtain ⟨qe, hqe⟩ : ∃ g, w.heap.size = g := ⟨_, rfl⟩
  have HQE := Lib.hid hqe
  rw [hqe] at HBE
  refine O.wp_gen (fun W => C.BoxE W qe e ∧ StAt B W q bm sl ql og s ∧ Below w.heap.size w W) ⟨HBE.out, HS0.out, HB0.out⟩ ?_
  rw [hqe]
  rintro W1 ⟨hbe, hs, hb⟩
  have HBE1 := Lib.hid hbe
  have HST := Lib.hid hs
  have HSA : Hid (SAt W1 q bm sl ql) := hs.box
  have HBL := Lib.hid hb
  clear HS0 HB0 HBE hbe hs hb hqe
  refine wp_region_held_drew (S := fun V => SAt V q bm sl ql ∧ C.BoxE V qe e) (by kernel_rfl) ⟨HSA.out, HBE1.out⟩ (fun _ => ?_)
  refine HeldBy.gen (fun V => (SAt V q bm sl ql ∧ C.BoxE V qe e) ∧ (StAt B V q bm sl ql og s) ∧ (Below qe w V)) ⟨⟨HSA.out, HBE1.out⟩, HST.out.drew, HBL.out.drew⟩ ?_
  clear HSA HBE1 HST HBL
  rintro U0 ⟨HS, HST, HBL⟩
  refine HeldBy.take (i := 0) rfl (by kernel_rfl) (by kernel_rfl) (by kernel_rfl) (fun _ _ _ h => h) (by rfl) (fun _ _ => by first | (go_simp; rfl) | (go_simp; done)) (by first | (go_simp; rfl) | (go_simp; done)) HS ?_
  refine HeldBy.take (i := 1) rfl (by kernel_rfl) (by kernel_rfl) (by kernel_rfl) (fun _ _ _ h => h) (by rfl) (fun _ _ => by first | (go_simp; rfl) | (go_simp; done)) (by first | (go_simp; rfl) | (go_simp; done)) HS ?_
  refine HeldBy.take (i := 2) rfl (by kernel_rfl) (by kernel_rfl) (by kernel_rfl) (fun _ _ _ h => h) (by rfl) (fun _ _ => by first | (go_simp; rfl) | (go_simp; done)) (by first | (go_simp; rfl) | (go_simp; done)) HS ?_
  refine HeldBy.take (i := 3) rfl (by kernel_rfl) (by kernel_rfl) (by kernel_rfl) (fun _ _ _ h => h) (by rfl) (fun V hV => by have hc := hV.1.c2; first | (go_simp; rfl) | (go_simp; done)) (by first | (go_simp; rfl) | (go_simp; done)) HS ?_
  refine HeldBy.take (i := 4) (v := C.encE e) rfl (by kernel_rfl) (by kernel_rfl) (by kernel_rfl) (fun _ _ _ h => h) (by rfl) (fun V hV => C.load_ev hV.2 rfl rfl) (by first | (go_simp; rfl) | (go_simp; done)) HS ?_
  obtain ⟨c, hc⟩ : ∃ c, (recC s.log e).1 = c := ⟨_, rfl⟩
  have hBU : B ≤ U0.heap.size := by have h1 := HBL.size; have h2 := HBW.out; have h3 := HQE.out; have h4 := HS.2.lt; omega
  have hrc := HRC.out U0 HST.log hBU
  rw [hc] at hrc
  refine HeldBy.call (i := 5) (v := .int .i64 c) rfl (by kernel_rfl) (by rfl) (by first | (go_simp; done) | (go_simp; first | exact ⟨rfl, rfl⟩ | rfl)) (by first | (go_simp; rfl) | (go_simp; done)) ?_
  refine hrc.mono ?_
  rintro x U1 ⟨rfl, og1, hl1, ht1⟩
  have nq := HST.box_ne
  have ne := HST.log.apart HS.2 (by decide) (by decide)
  have HS1 : SAt U1 q bm sl ql ∧ C.BoxE U1 qe e := ⟨HS.1.of_heap (ht1.keep q HST.box.lt nq.2.1 nq.2.2), (ht1.keep qe ne.1 ne.2.1 ne.2.2).trans HS.2⟩
  refine ⟨rfl, HS1, ?_⟩
  refine HeldBy.take (i := 6) rfl (by kernel_rfl) (by kernel_rfl) (by kernel_rfl) (fun _ _ _ h => h) (by rfl) (fun _ _ => by first | (go_simp; rfl) | (go_simp; done)) (by first | (go_simp; rfl) | (go_simp; done)) HS1 ?_
  refine wpAnyH_done (by kernel_rfl) ?_ _
  have htw : STurn B w U1 q bm sl sl ql og og1 := (STurn.of_below (by rw [HQE.out]; exact HBL) HBW.out).trans (STurn.of_log ht1)
  by_cases hc0 : (recC s.log e).1 = 0
  · have hok := wrote_ok hc0
    obtain ⟨l1, hl⟩ : ∃ l, (recC s.log e).2 = l := ⟨_, rfl⟩
    rw [hl] at hl1 hok
    have hlen := HLN.out.len
    have hgd : Good ⟨s.os, s.evs, l1⟩ := ⟨HLN.out.once, HLN.out.keys, by show s.evs.length ≤ l1.b.length / 64; omega⟩
    have HM := Lib.hid (HST.turn hl1 ht1 hgd)
    have HTW := Lib.hid htw
    have HBE2 := Lib.hid HS1.2
    obtain rfl : c = 0 := hc.symm.trans hc0
    obtain rfl : wr = (0, doS ⟨s.os, s.evs, syncL l1⟩ e) := HWR.out.symm.trans hok.1
    have HLE : Hid (s.evs.length + 1 ≤ l1.b.length / 64) := by show _ ≤ _; omega
    have c2 := HM.out.box.c2
    have HSY : Hid (Calls Try.prog 41 #[.pointer (some ⟨ql, 0, none⟩)] U1 (L.SyncD B ql og1 (syncL l1) U1)) := L.syncD_any B ql og1 l1 U1 HM.out.log
    clear HS HS1 HST HBL hrc hl1 ht1 nq ne htw hgd hok hlen hc hc0 hl hBU HRC
    go_wp2_with (go_at_call 41; refine HSY.out.mono ?_)
    rintro x U2 hsy
    obtain ⟨rfl, hl2, ht2⟩ := hsy
    have hm := HM.out
    have ne := hm.log.apart HBE2.out (by decide) (by decide)
    have HBE3 : Hid (C.BoxE U2 qe e) := (ht2.keep qe ne.1 ne.2.1 ne.2.2).trans HBE2.out
    have HM2 : Hid (StAt B U2 q bm sl ql og1 ⟨s.os, s.evs, syncL l1⟩) := hm.turn hl2 ht2 ⟨hm.good.once, hm.good.keys, hm.good.len⟩
    have HT2 : Hid (STurn B w U2 q bm sl sl ql og og1) := HTW.out.trans (STurn.of_log ht2)
    have HDO := Lib.hid (do_any HM2.out (Nat.le_trans HBW.out HT2.out.below.size) e HFT.out HLE.out)
    clear hl2 ht2 hm ne HBE2 HM HTW HSY c2
    have hbe := HBE3.out
    go_wp2_with (first | ((with_reducible refine C.wpList_load_ev ?_ rfl ?_ hbe ?_); rfl; rfl) | (go_at_call 42; refine HDO.out.mono ?_))
    rintro x U3 hdo
    obtain ⟨rfl, sl3, hs3, ht3⟩ := hdo
    have HS3 := Lib.hid hs3
    have HT3 := Lib.hid (HT2.out.trans ht3)
    clear hs3 ht3 HDO hbe
    go_wp2
    go_ret
    exact ⟨rfl, sl3, og1, HS3.out, HT3.out⟩
  · have hno := wrote_no hc0
    rw [hno.2] at hl1
    have HM := Lib.hid (HST.turn hl1 ht1 ⟨HLN.out.once, HLN.out.keys, HLN.out.len⟩)
    have HTW := Lib.hid htw
    obtain rfl : wr = (c, s) := by rw [← hc]; exact HWR.out.symm.trans hno.1
    have hc1 : ¬ c = 0 := fun x => hc0 (hc.trans x)
    have hc2 : (c == 0) = false := by simpa using hc1
    clear HS HS1 HST HBL hrc hl1 ht1 nq ne htw hno hc hc0 hBU HRC
    go_wp2
    go_ret
    exact ⟨rfl, sl, og1, HM.out, HTW.out⟩
end Go.Proofs.Ytfndiocohaploaa.S
