/- Own work. -/
import Derived.Test.YtbgfccanbgpjiaaDIBase
import Derived.Test.YtbgfccanbgpjiaaDIRight
import Derived.Deep.Fields
import Derived.Deep.Slices
import Derived.Deep.Strs
import Derived.OpenShut
import Derived.SizedLaws
import Derived.ProofKit
import Derived.Below
import Derived.Carry
import Derived.Laws.IdiomRangeMap
import Derived.Test.YtbgfccanbgpjiaaDJ00
namespace Go.Proofs.Ytbgfccanbgpjiaa.O.I
open Go Go.RowKit Go.Lib KM
attribute [local go_sem] Oper.semAt_some
def encS (s : ByteArray) : Value := .string s
theorem strT : KeyS.Key Try.prog 9 encS := ⟨fun em w x => by unfold encS; kernel_rfl, fun x w es m h => by
    have h1 := KeyS.find_now x es m 0 h
    simp only [Instr.findKey, Sem.run_bind, run_underlying Try.underlying9, Result.andThen]
    unfold encS
    rw [h1]
    rfl, fun x => by unfold encS Instr.sameBits; simp [beq_toListBytes]⟩
theorem tgt_check (em : Bool) (w : World) (x : Tg) : (Instr.checkKey em 10000 106 (encT x)).run Try.prog w = .ok () w := by
  unfold encT cellsT
  kernel_rfl
theorem tgt_stays (x : Tg) : Instr.sameBits 10000 (encT x) (encT x) = true := by
  unfold encT cellsT Instr.sameBits
  simp [Instr.sameBits, beq_toListBytes]
theorem tgt_eq (w : World) (x y : Tg) : (Op.equal 106 (encT x) (encT y)).run Try.prog w = .ok (decide (x = y)) w := by
  obtain ⟨a, s⟩ := x
  obtain ⟨b, t⟩ := y
  have h : (decide ((⟨a, s⟩ : Tg) = ⟨b, t⟩)) = (a == b && (s.toList == t.toList)) := by
    rw [eqB, Bool.eq_iff_iff]
    simp
  rw [h]
  unfold encT cellsT
  show (Op.equalIn 10000 _ _ _).run _ _ = _
  cases h1 : (a == b) with
  | false => go_simp
  | true =>
    go_simp
    by_cases h2 : s.toList = t.toList <;> simp [h2]
theorem tgtT : KeyT Try.prog 106 encT := ⟨tgt_check, tgt_eq, ⟨_, Try.underlying106⟩, tgt_stays⟩
abbrev tR : TypeId := 79
abbrev tV : TypeId := 80
abbrev tS : TypeId := 81
abbrev tD : TypeId := 82
theorem und_R : Try.prog.underlying tR = some (.map 9 2) := Try.underlying79
theorem und_V : Try.prog.underlying tV = some (.map 9 95) := Try.underlying80
theorem und_S : Try.prog.underlying tS = some (.map 9 92) := Try.underlying81
theorem und_D : Try.prog.underlying tD = some (.map 106 109) := Try.underlying82
theorem zero_R (w : World) : (zeroValue 2).run Try.prog w = .ok (.int .i64 0) w := by kernel_rfl
theorem zero_V (w : World) : (zeroValue 95).run Try.prog w = .ok (encV zeroV) w := by kernel_rfl
theorem zero_S (w : World) : (zeroValue 92).run Try.prog w = .ok (encK zeroK) w := by kernel_rfl
theorem zero_D (w : World) : (zeroValue 109).run Try.prog w = .ok (encP zeroP) w := by kernel_rfl
def Stamp (W : World) (b : Nat) : Prop := ∃ es clock, W.heap[b]? = some (.map es clock) ∧ MapKept.Stamped es clock
theorem Stamp.of_heap {W W' : World} {b : Nat} (h : Stamp W b) (he : W'.heap[b]? = W.heap[b]?) : Stamp W' b := by
  obtain ⟨es, clock, hb, hs⟩ := h
  exact ⟨es, clock, he.trans hb, hs⟩
theorem run_update_st {t e : TypeId} {w : World} {b : Nat} {m : List (ByteArray × Value)} (ht : Try.prog.underlying t = some (.map 9 e)) (h : IsMap encS w b m) (hst : Stamp w b) (x : ByteArray) (v : Value) :
    ∃ w', (Instr.mapUpdate t (.map (some b)) (encS x) v).run Try.prog w = .ok () w' ∧ IsMap encS w' b (KM.put x v m) ∧ Turned w w' b ∧ Stamp w' b := by
  obtain ⟨es, clock, hb, hh⟩ := h
  obtain ⟨es', clock', hb', hs'⟩ := hst
  rw [hb] at hb'
  cases hb'
  have hf := strT.find x w _ _ hh
  cases hs : seek x m 0 with
  | none =>
    rw [hs] at hf
    refine ⟨_, by simp [Instr.mapUpdate, run_underlying ht, MapKept.run_getObj_map hb, strT.check, hf, MapKept.run_setObj_map _ hb, Result.andThen]; rfl, ⟨_, _, (MapKept.heap_set hb).1, ?_⟩, turned_set hb _, ⟨_, _, (MapKept.heap_set hb).1, MapKept.stamped_push hs' ?_⟩⟩
    · rw [(seek_none (v := v) hs).1]
      unfold Holds at hh ⊢
      simp [hh]
    · intro y hy hk
      have h1 : (y.key, y.val) ∈ es.toList.map (fun e => (e.key, e.val)) := List.mem_map.2 ⟨y, hy, rfl⟩
      rw [show es.toList.map (fun e => (e.key, e.val)) = m.map (fun p => (encS p.1, p.2)) from hh] at h1
      obtain ⟨p, hp, he⟩ := List.mem_map.1 h1
      have h2 : encS p.1 = encS x := (Prod.mk.inj he).1.trans hk
      have h3 : p.1 = x := by
        unfold encS at h2
        exact Value.string.inj h2
      have h4 : KM.get x m = none := by rw [← seek_get x m 0, hs]; rfl
      exact get_none_iff.1 h4 (List.mem_map.2 ⟨p, hp, h3⟩)
  | some q =>
    obtain ⟨j, u⟩ := q
    rw [hs] at hf
    obtain ⟨n, q1, q2, ⟨e0, q3, q4⟩, q5, -⟩ := seek_some (v := v) hs hh
    have hjn : j = n := by omega
    subst hjn
    have hget : es[j]? = some e0 := by simpa using q3
    have hst : (Instr.keyThatStays (encS x) (encS x)).run Try.prog w = .ok (encS x) w := by
      unfold Instr.keyThatStays
      rw [if_pos (strT.stays x)]
      rfl
    refine ⟨_, by simp [Instr.mapUpdate, run_underlying ht, MapKept.run_getObj_map hb, strT.check, hf, hget, q4, hst, MapKept.run_setObj_map _ hb, Result.andThen], ⟨_, _, (MapKept.heap_set hb).1, ?_⟩, turned_set hb _, ⟨_, _, (MapKept.heap_set hb).1, MapKept.stamped_modify hs' j (fun e => { key := encS x, val := v, born := e.born }) (fun _ _ => rfl) (fun e _ he => ?_)⟩⟩
    · have := q5 { e0 with key := encS x, val := v } rfl rfl
      unfold Holds at this ⊢
      refine Eq.trans (congrArg (List.map _) ?_) this
      apply List.ext_getElem?
      intro i
      simp only [Array.toList_modify, List.getElem?_modify]
      by_cases hi : j = i
      · subst hi
        simp [hget]
      · simp [hi]
    · rw [hget] at he
      cases he
      exact q4.symm
section
variable {W : World} {oi : Oper} {a : Act} {p r : Operand} {b : Nat} {k : ByteArray} {m : List (ByteArray × Value)}
theorem exec_look2 {t e : TypeId} {z : Value} (ht : Try.prog.underlying t = some (.map 9 e)) (hz : (zeroValue e).run Try.prog W = .ok z W) (h : IsMap encS W b m) (x : Option Value) (hx : KM.get k m = x) (ho : oi.op = .lookup t p r true) (hm : a.eval p = .map (some b)) (hk : a.eval r = .string k) :
    (execOp a.eval oi).run Try.prog W = .ok (.value (.tuple #[x.getD z, .bool x.isSome])) W := by
  have hk' : a.eval r = encS k := hk
  unfold execOp
  cases x with
  | none => simp [ho, hm, hk', KeyS.run_lookup_no strT ht hz h k hx, Result.andThen]
  | some v => simp [ho, hm, hk', KeyS.run_lookup_ok strT ht h k hx, Result.andThen]
theorem exec_look1 {t e : TypeId} {z : Value} (ht : Try.prog.underlying t = some (.map 9 e)) (hz : (zeroValue e).run Try.prog W = .ok z W) (h : IsMap encS W b m) (x : Option Value) (hx : KM.get k m = x) (ho : oi.op = .lookup t p r false) (hm : a.eval p = .map (some b)) (hk : a.eval r = .string k) :
    (execOp a.eval oi).run Try.prog W = .ok (.value (x.getD z)) W := by
  have hk' : a.eval r = encS k := hk
  unfold execOp
  cases x with
  | none => simp [ho, hm, hk', KeyS.run_lookup1_no strT ht hz h k hx, Result.andThen]
  | some v => simp [ho, hm, hk', KeyS.run_lookup1_ok strT ht h k hx, Result.andThen]
theorem exec_upd {t e : TypeId} (ht : Try.prog.underlying t = some (.map 9 e)) (h : IsMap encS W b m) (k : ByteArray) (v : Value) : ∃ V, (∀ {oi : Oper} {a : Act} {p r q : Operand}, oi.op = .mapUpdate t p r q → a.eval p = .map (some b) → a.eval r = .string k → a.eval q = v → (execOp a.eval oi).run Try.prog W = .ok .skip V) ∧
    IsMap encS V b (KM.put k v m) ∧ Turned W V b := by
  obtain ⟨V, h1, h2, h3⟩ := KeyS.run_update strT ht h k v
  refine ⟨V, fun {oi a p r q} ho hp hr hq => ?_, h2, h3⟩
  have hr' : a.eval r = encS k := hr
  unfold execOp
  simp [ho, hp, hr', hq, h1, Result.andThen]
theorem exec_upds {t e : TypeId} (ht : Try.prog.underlying t = some (.map 9 e)) (h : IsMap encS W b m) (hst : Stamp W b) (k : ByteArray) (v : Value) : ∃ V, (∀ {oi : Oper} {a : Act} {p r q : Operand}, oi.op = .mapUpdate t p r q → a.eval p = .map (some b) → a.eval r = .string k → a.eval q = v → (execOp a.eval oi).run Try.prog W = .ok .skip V) ∧
    IsMap encS V b (KM.put k v m) ∧ Turned W V b ∧ Stamp V b := by
  obtain ⟨V, h1, h2, h3, h4⟩ := run_update_st ht h hst k v
  refine ⟨V, fun {oi a p r q} ho hp hr hq => ?_, h2, h3, h4⟩
  have hr' : a.eval r = encS k := hr
  unfold execOp
  simp [ho, hp, hr', hq, h1, Result.andThen]
variable {x : Tg} {d : List (Tg × Value)}
theorem exec_lookD (h : IsMap encT W b d) (y : Option Value) (hx : KM.get x d = y) (ho : oi.op = .lookup tD p r true) (hm : a.eval p = .map (some b)) (hk : a.eval r = encT x) :
    (execOp a.eval oi).run Try.prog W = .ok (.value (.tuple #[y.getD (encP zeroP), .bool y.isSome])) W := by
  unfold execOp
  cases y with
  | none => simp [ho, hm, hk, run_lookup_no tgtT und_D (zero_D W) h x hx, Result.andThen]
  | some v => simp [ho, hm, hk, run_lookup_ok tgtT und_D h x hx, Result.andThen]
theorem exec_updD (h : IsMap encT W b d) (x : Tg) (v : Value) : ∃ V, (∀ {oi : Oper} {a : Act} {p r q : Operand}, oi.op = .mapUpdate tD p r q → a.eval p = .map (some b) → a.eval r = encT x → a.eval q = v → (execOp a.eval oi).run Try.prog W = .ok .skip V) ∧
    IsMap encT V b (KM.put x v d) ∧ Turned W V b := by
  obtain ⟨V, h1, h2, h3⟩ := run_update tgtT und_D h x v
  refine ⟨V, fun ho hp hr hq => ?_, h2, h3⟩
  unfold execOp
  simp [ho, hp, hr, hq, h1, Result.andThen]
end
theorem Turned.other {W V : World} {b g : Nat} {x : Go.Obj} (h : Turned W V b) (hne : g ≠ b) (hg : W.heap[g]? = some x) : V.heap[g]? = some x := (h.block g hne).trans hg
theorem isMap_turned {κ : Type} [DecidableEq κ] {enc : κ → Value} {W V : World} {b g : Nat} {m : List (κ × Value)} (h : IsMap enc W g m) (ht : Turned W V b) (hne : g ≠ b) : IsMap enc V g m := h.of_heap (ht.block g hne)
def DrAt (W : World) (d r v s n : Nat) (R V S : List (ByteArray × Value)) (N : List (Tg × Value)) : Prop :=
  BoxD W d ⟨some r, some v, some s, some n⟩ ∧ IsMap encS W r R ∧ IsMap encS W v V ∧ IsMap encS W s S ∧ IsMap encT W n N ∧ Stamp W v ∧ Stamp W s
section
variable {W W' : World} {d r v s n : Nat} {R V S : List (ByteArray × Value)} {N : List (Tg × Value)}
theorem DrAt.box (h : DrAt W d r v s n R V S N) : BoxD W d ⟨some r, some v, some s, some n⟩ := h.1
theorem DrAt.rooms (h : DrAt W d r v s n R V S N) : IsMap encS W r R := h.2.1
theorem DrAt.vols (h : DrAt W d r v s n R V S N) : IsMap encS W v V := h.2.2.1
theorem DrAt.snaps (h : DrAt W d r v s n R V S N) : IsMap encS W s S := h.2.2.2.1
theorem DrAt.done (h : DrAt W d r v s n R V S N) : IsMap encT W n N := h.2.2.2.2.1
theorem DrAt.stamp (h : DrAt W d r v s n R V S N) : Stamp W v := h.2.2.2.2.2.1
theorem DrAt.stampS (h : DrAt W d r v s n R V S N) : Stamp W s := h.2.2.2.2.2.2
theorem DrAt.after (h : DrAt W d r v s n R V S N) (hb : Below W.heap.size W W') : DrAt W' d r v s n R V S N := ⟨h.box.after hb, h.rooms.after hb, h.vols.after hb, h.snaps.after hb, h.done.after hb, h.stamp.of_heap (hb.block v h.vols.lt), h.stampS.of_heap (hb.block s h.snaps.lt)⟩
theorem DrAt.lt (h : DrAt W d r v s n R V S N) : d < W.heap.size ∧ r < W.heap.size ∧ v < W.heap.size ∧ s < W.heap.size ∧ n < W.heap.size := ⟨h.box.lt, h.rooms.lt, h.vols.lt, h.snaps.lt, h.done.lt⟩
def Five (d r v s n : Nat) : Prop := d ≠ r ∧ d ≠ v ∧ d ≠ s ∧ d ≠ n ∧ r ≠ v ∧ r ≠ s ∧ r ≠ n ∧ v ≠ s ∧ v ≠ n ∧ s ≠ n
theorem BoxD.turned {x : Dr} {b : Nat} (h : BoxD W d x) (ht : Turned W W' b) (hne : d ≠ b) : BoxD W' d x := (ht.block d hne).trans h
theorem DrAt.putRooms (h : DrAt W d r v s n R V S N) (hf : Five d r v s n) {R' : List (ByteArray × Value)} (ht : Turned W W' r) (hm : IsMap encS W' r R') : DrAt W' d r v s n R' V S N := by
  obtain ⟨h1, h2, h3, h4, h5, h6, h7, h8, h9, h10⟩ := hf
  exact ⟨h.box.turned ht h1, hm, isMap_turned h.vols ht (Ne.symm h5), isMap_turned h.snaps ht (Ne.symm h6), isMap_turned h.done ht (Ne.symm h7), h.stamp.of_heap (ht.block v (Ne.symm h5)), h.stampS.of_heap (ht.block s (Ne.symm h6))⟩
theorem DrAt.putVols (h : DrAt W d r v s n R V S N) (hf : Five d r v s n) {V' : List (ByteArray × Value)} (ht : Turned W W' v) (hm : IsMap encS W' v V') (hst : Stamp W' v) : DrAt W' d r v s n R V' S N := by
  obtain ⟨h1, h2, h3, h4, h5, h6, h7, h8, h9, h10⟩ := hf
  exact ⟨h.box.turned ht h2, isMap_turned h.rooms ht h5, hm, isMap_turned h.snaps ht (Ne.symm h8), isMap_turned h.done ht (Ne.symm h9), hst, h.stampS.of_heap (ht.block s (Ne.symm h8))⟩
theorem DrAt.putSnaps (h : DrAt W d r v s n R V S N) (hf : Five d r v s n) {S' : List (ByteArray × Value)} (ht : Turned W W' s) (hm : IsMap encS W' s S') (hst : Stamp W' s) : DrAt W' d r v s n R V S' N := by
  obtain ⟨h1, h2, h3, h4, h5, h6, h7, h8, h9, h10⟩ := hf
  exact ⟨h.box.turned ht h3, isMap_turned h.rooms ht h6, isMap_turned h.vols ht h8, hm, isMap_turned h.done ht (Ne.symm h10), h.stamp.of_heap (ht.block v h8), hst⟩
end
end Go.Proofs.Ytbgfccanbgpjiaa.O.I
namespace Go.Proofs.Ytbgfccanbgpjiaa.O.I
open Go Go.RowKit Go.Lib KM
attribute [local go_sem] Oper.semAt_some
theorem five (w : World) (x1 x2 x3 x4 x5 : Go.Obj) : ∃ W, ((((w.alloc x1).alloc x2).alloc x3).alloc x4).alloc x5 = W ∧ W.heap[w.heap.size]? = some x1 ∧ W.heap[w.heap.size + 1]? = some x2 ∧ W.heap[w.heap.size + 2]? = some x3 ∧ W.heap[w.heap.size + 3]? = some x4 ∧ W.heap[w.heap.size + 4]? = some x5 ∧ Below w.heap.size w W := by
  refine ⟨_, rfl, ?_, ?_, ?_, ?_, ?_, ?_⟩
  · exact (Below.heap_alloc _ _ _ (by simp only [World.size_alloc]; omega)).trans ((Below.heap_alloc _ _ _ (by simp only [World.size_alloc]; omega)).trans ((Below.heap_alloc _ _ _ (by simp only [World.size_alloc]; omega)).trans ((Below.heap_alloc _ _ _ (by simp only [World.size_alloc]; omega)).trans (heap_alloc_new _ _))))
  · exact (Below.heap_alloc _ _ _ (by simp only [World.size_alloc]; omega)).trans ((Below.heap_alloc _ _ _ (by simp only [World.size_alloc]; omega)).trans ((Below.heap_alloc _ _ _ (by simp only [World.size_alloc]; omega)).trans (heap_alloc2_new w _ _)))
  · have h := heap_alloc2_new (w.alloc x1) x2 x3
    rw [World.size_alloc] at h
    exact (Below.heap_alloc _ _ _ (by simp only [World.size_alloc]; omega)).trans ((Below.heap_alloc _ _ _ (by simp only [World.size_alloc]; omega)).trans h)
  · have h := heap_alloc2_new ((w.alloc x1).alloc x2) x3 x4
    rw [World.size_alloc, World.size_alloc] at h
    exact (Below.heap_alloc _ _ _ (by simp only [World.size_alloc]; omega)).trans h
  · have h := heap_alloc2_new (((w.alloc x1).alloc x2).alloc x3) x4 x5
    rw [World.size_alloc, World.size_alloc, World.size_alloc] at h
    exact h
  · exact (((((Below.refl _ _).alloc (Nat.le_refl _) _).alloc (by simp only [World.size_alloc]; omega) _).alloc (by simp only [World.size_alloc]; omega) _).alloc (by simp only [World.size_alloc]; omega) _).alloc (by simp only [World.size_alloc]; omega) _
theorem five_of (k : Nat) : Five (k + 4) k (k + 1) (k + 2) (k + 3) := by
  unfold Five
  omega
set_option maxRecDepth 100000 in
set_option maxHeartbeats 4000000 in
theorem room_any {d r v s n : Nat} {R V S : List (ByteArray × Value)} {N : List (Tg × Value)} (k : ByteArray) (x : Option Value) (hx : KM.get k R = x) (w : World) (hd : DrAt w d r v s n R V S N) :
    Calls Try.prog 21 #[.pointer (some ⟨d, 0, none⟩), .string k] w fun e w' => e = .returned (.tuple #[x.getD (.int .i64 0), .bool x.isSome]) ∧ w = w' := by
  have c0 := hd.box.c0
  have HR := Lib.hid hd.rooms
  clear hd
  go_enter Try.func21, Try.ntmps21
  go_wp2_with (refine wpList_got rfl (exec_look2 und_R (zero_R _) HR.out x hx rfl rfl rfl) ?_)
  go_ret2
  exact ⟨rfl, rfl⟩
end Go.Proofs.Ytbgfccanbgpjiaa.O.I
namespace Go.Proofs.Ytbgfccanbgpjiaa.O.I
open Go Go.ChangeShapes Go.WideShapes Go.RowKit Go.Deep Go.Lib
set_option maxRecDepth 100000 in
theorem lies_slice' {r : Reach} {b0 : Nat} {t e : TypeId} {w : World} {a : Addr} {n c : Nat} (ht : Try.prog.underlying t = some (.slice e)) (hv : Value.okWide Try.prog w r b0 t (.slice (some a) n c)) : a.spot = none ∧ a.block < w.heap.size := by
  unfold Value.okWide at hv
  rw [ht] at hv
  unfold Cell.okWide Cell.ok at hv
  rw [ht] at hv
  obtain ⟨-, -, -, hsp, row, cells, hsh, -⟩ := hv
  refine ⟨hsp, ?_⟩
  unfold World.shape? at hsh
  rcases Nat.lt_or_ge a.block w.heap.size with hh | hh
  · exact hh
  · rw [Array.getElem?_eq_none hh] at hsh; cases hsh
end Go.Proofs.Ytbgfccanbgpjiaa.O.I
namespace Go.Proofs.Ytbgfccanbgpjiaa.O.I
open Go Go.ChangeShapes Go.WideShapes Go.RowKit Go.Deep Go.Lib
section
variable {H : Type} {enc : TypeId × Value → H} {w : World} {base : Nat} {spare : Nat → Bool} {held : Bool}
theorem list_cons' {α : Type} {l : List α} {n : Nat} (h : l.length = n + 1) : ∃ a t, l = a :: t ∧ t.length = n := by
  cases l with
  | nil => simp at h
  | cons a t => exact ⟨a, t, rfl, by simpa using h⟩
theorem list_nil' {α : Type} {l : List α} (h : l.length = 0) : l = [] := by
  cases l with
  | nil => rfl
  | cons a t => simp at h
theorem field_at' {P : Program} {fs : Array Field} {l : List Value} {xs : List (DataW H × List MemPlace)} {n : Nat} (hone : oneCellFields P fs = true) (hlen : xs.length = fs.size)
    (hg : ∀ (i : Nat) (f : Field), fs[i]? = some f → DataW.trod enc P w base spare held n f.type ((l.drop f.offset).take (P.cellsOf f.type)) = xs[i]?)
    (j : Nat) (f : Field) (hf : fs[j]? = some f) (u : Value) (hu : l[j]? = some u) : ∃ y, xs[j]? = some y ∧ DataW.trod enc P w base spare held n f.type [u] = some y := by
  obtain ⟨ho, hk⟩ := hone_of hone j f hf
  have hjl : j < fs.size := (Array.getElem?_eq_some_iff.1 hf).1
  have h1 := hg j f hf
  rw [ho, hk] at h1
  have hd : (l.drop j).take 1 = [u] := by
    obtain ⟨hlt, he⟩ := List.getElem?_eq_some_iff.1 hu
    rw [List.drop_eq_getElem_cons hlt, he]; rfl
  rw [hd] at h1
  exact ⟨xs[j]'(by omega), List.getElem?_eq_getElem (by omega), h1.trans (List.getElem?_eq_getElem (by omega))⟩
set_option maxRecDepth 100000 in
/-- A slice of structures: each lies there, in its cells. -/
theorem open_rows {t e : TypeId} {k : Nat} (ht : Try.prog.underlying t = some (.slice e)) (hk : Try.prog.cellsOf e = k) {r : Reach} {b0 : Nat} {v : Value} {d : DataW H} {p : List MemPlace}
    (hv : Value.okWide Try.prog w r b0 t v) (h : DataW.Trod enc Try.prog w base spare held t v d p) :
    ∃ o len cap, v = .slice o len cap ∧ len ≤ 9223372036854775807 ∧ ∀ i, i < len → ∃ g off cs fuel x, o = some ⟨g, off, none⟩ ∧ g < w.heap.size ∧ World.rangeAt w g (off + i * k) cs ∧ cs.length = k ∧ DataW.trod enc Try.prog w base spare held fuel e cs = some x := by
  have hv2 := hv
  obtain ⟨a0, len, cap, rfl⟩ := okWide_slice ht hv
  obtain ⟨fuel, hf⟩ := h
  rcases Go.Deep.open_slice ht hf with ⟨hcs, -⟩ | ⟨a, len', cap', m, n, D, Pl, hcs, -, hl, hm, hmm, -, hx⟩
  · have e0 : (Value.slice a0 len cap) = .slice none 0 0 := by simpa [Value.cells] using hcs
    cases e0
    exact ⟨none, 0, 0, rfl, by omega, fun i hi => absurd hi (by omega)⟩
  · have e0 : (Value.slice a0 len cap) = .slice (some a) len' cap' := by simpa [Value.cells] using hcs
    cases e0
    obtain ⟨hsp, hlt⟩ := lies_slice' ht hv2
    obtain ⟨b, off, spot⟩ := a
    obtain rfl : spot = none := hsp
    have hmx : maxLen = 9223372036854775807 := rfl
    have hlm : len ≤ m := by rw [hmm]; split <;> omega
    refine ⟨_, len, cap, rfl, by omega, fun i hi => ?_⟩
    obtain ⟨cs, h1, h2⟩ := hx i (by omega)
    rw [hk] at h1
    obtain ⟨-, hlen, hcell⟩ := World.cells?_some h1
    refine ⟨b, off, cs, _, _, rfl, hlt, fun j u hu => ?_, hlen, h2⟩
    have hj : j < k := by
      have := (List.getElem?_eq_some_iff.1 hu).1
      omega
    have h3 := (hcell j hj).trans hu
    have add_add : ((⟨b, off, none⟩ : Addr).add (i * k)).add j = ⟨b, off + i * k + j, none⟩ := by
      rw [Addr.add_mid, Addr.add_mid]
    rwa [add_add] at h3
theorem zonUnd : Try.prog.underlying 42 = some (.struct (Try.prog.fieldsOf 42)) := by kernel_rfl
end
def ZonesIn (W : World) (v : Value) (l : List Zn) : Prop := ∃ o c, v = .slice o l.length c ∧ l.length ≤ 9223372036854775807 ∧ ∀ i (h : i < l.length), ∃ g off, o = some ⟨g, off, none⟩ ∧ g < W.heap.size ∧ World.rangeAt W g (off + i * 2) (cellsZ l[i]).toList
theorem ZonesIn.after {W W' : World} {v : Value} {l : List Zn} (h : ZonesIn W v l) (hb : Below W.heap.size W W') : ZonesIn W' v l := by
  obtain ⟨o, c, h1, h2, h3⟩ := h
  refine ⟨o, c, h1, h2, fun i hi => ?_⟩
  obtain ⟨g, off, h4, h5, h6⟩ := h3 i hi
  exact ⟨g, off, h4, Nat.lt_of_lt_of_le h5 hb.size, fun j u hu => (hb.cell (p := ⟨g, off + i * 2 + j, none⟩) h5).trans (h6 j u hu)⟩
instance : Inhabited Zn := ⟨⟨E0, 0⟩⟩
def FitZ (z : Zn) : Prop := z.name.size ≤ 9223372036854775807 ∧ -9223372036854775808 ≤ z.room ∧ z.room ≤ 9223372036854775807
set_option maxRecDepth 100000 in
theorem loadZ_at {W : World} {g k : Nat} {x : Zn} (h : World.rangeAt W g k (cellsZ x).toList) {oi : Oper} {a : Act} {p : Operand} (ho : oi.op = .load 42 p) (hx : a.eval p = .pointer (some ⟨g, k, none⟩)) :
    (execOp a.eval oi).run Try.prog W = .ok (.value (encZ x)) W := by
  have h1 := run_loadAt_mid (P := Try.prog) W g k 42 (cellsZ x).toList _ h zonUnd rfl (by kernel_rfl)
  unfold execOp
  simp only [ho, hx, Sem.run_bind, h1, Result.andThen_ok, Sem.run_pure]
  rfl
end Go.Proofs.Ytbgfccanbgpjiaa.O.I
namespace Go.Proofs.Ytbgfccanbgpjiaa.O.I
open Go Go.RowKit Go.Lib KM
attribute [local go_sem] Oper.semAt_some
def roomsZ (l : List Zn) : List (ByteArray × Value) := l.map fun z => (z.name, .int .i64 z.room)
def GoodZ (l : List Zn) : Prop := (∀ z ∈ l, nm z.name = true ∧ inR z.room = true) ∧ (l.map (·.name)).Nodup
def zonesB (l : List Zn) : Bool := decide (1 ≤ l.length) && decide (l.length ≤ 16) && l.all (fun z => nm z.name && inR z.room) && decide ((l.map (·.name)).Nodup)
theorem zonesB_iff (l : List Zn) : zonesB l = true ↔ 1 ≤ l.length ∧ l.length ≤ 16 ∧ GoodZ l := by
  unfold zonesB GoodZ
  simp only [Bool.and_eq_true, decide_eq_true_iff, List.all_eq_true, and_assoc]
theorem rooms_get : ∀ (l : List Zn) (k : ByteArray), KM.get k (roomsZ l) = (l.find? fun z => decide (k = z.name)).map fun z => .int .i64 z.room
  | [], _ => rfl
  | z :: r, k => by
    have h := rooms_get r k
    unfold roomsZ at h ⊢
    rw [List.map_cons]
    unfold KM.get
    by_cases hk : k = z.name
    · rw [if_pos hk, List.find?_cons_of_pos (by simpa using hk)]
      rfl
    · rw [if_neg hk, List.find?_cons_of_neg (by simpa using hk)]
      exact h
theorem rooms_some {l : List Zn} {k : ByteArray} {v : Value} (h : KM.get k (roomsZ l) = some v) : ∃ z ∈ l, z.name = k ∧ v = .int .i64 z.room := by
  rw [rooms_get] at h
  obtain ⟨z, h1, h2⟩ := Option.map_eq_some_iff.1 h
  exact ⟨z, List.mem_of_find?_eq_some h1, (by simpa using List.find?_some h1 : k = z.name).symm, h2.symm⟩
theorem rooms_none {l : List Zn} {k : ByteArray} (h : KM.get k (roomsZ l) = none) : ∀ z ∈ l, z.name ≠ k := by
  rw [rooms_get] at h
  have h1 := List.find?_eq_none.1 (Option.map_eq_none_iff.1 h)
  intro z hz e
  exact h1 z hz (by simpa using e.symm)
theorem put_behind {κ V : Type} [DecidableEq κ] (k : κ) (v : V) : ∀ m : List (κ × V), KM.get k m = none → KM.put k v m = m ++ [(k, v)]
  | [], _ => rfl
  | p :: r, h => by
    unfold KM.get at h
    unfold KM.put
    by_cases hk : k = p.1
    · rw [if_pos hk] at h
      cases h
    · rw [if_neg hk] at h
      rw [if_neg hk, put_behind k v r h]
      rfl
theorem rooms_next {l : List Zn} {j : Nat} (h : j < l.length) (hn : KM.get l[j].name (roomsZ (l.take j)) = none) : KM.put l[j].name (.int .i64 l[j].room) (roomsZ (l.take j)) = roomsZ (l.take (j + 1)) := by
  rw [put_behind _ _ _ hn, List.take_succ_eq_append_getElem h]
  unfold roomsZ
  rw [List.map_append]
  rfl
theorem good_next {l : List Zn} {j : Nat} (h : j < l.length) (hg : GoodZ (l.take j)) (hn : KM.get l[j].name (roomsZ (l.take j)) = none) (h1 : nm l[j].name = true) (h2 : inR l[j].room = true) : GoodZ (l.take (j + 1)) := by
  rw [List.take_succ_eq_append_getElem h]
  refine ⟨fun z hz => ?_, ?_⟩
  · rcases List.mem_append.1 hz with h3 | h3
    · exact hg.1 z h3
    · obtain rfl := List.mem_singleton.1 h3
      exact ⟨h1, h2⟩
  · rw [List.map_append, List.nodup_append]
    refine ⟨hg.2, by simp, fun a ha b hb e => ?_⟩
    obtain ⟨z, hz, rfl⟩ := List.mem_map.1 ha
    have hb' : b = l[j].name := by simpa using hb
    exact rooms_none hn z hz (e.trans hb')
theorem good_not {l : List Zn} {j : Nat} (h : j < l.length) (hb : (∃ v, KM.get l[j].name (roomsZ (l.take j)) = some v) ∨ nm l[j].name = false ∨ inR l[j].room = false) : zonesB l = false := by
  rw [← Bool.not_eq_true, zonesB_iff]
  rintro ⟨-, -, hg⟩
  have hm : l[j] ∈ l := List.getElem_mem h
  rcases hb with ⟨v, hv⟩ | hb | hb
  · obtain ⟨z, hz, he, -⟩ := rooms_some hv
    have hnd := hg.2
    rw [← List.take_append_drop j l, List.map_append, List.nodup_append] at hnd
    exact hnd.2.2 z.name (List.mem_map.2 ⟨z, hz, rfl⟩) l[j].name (List.mem_map.2 ⟨l[j], by rw [List.drop_eq_getElem_cons h]; exact List.mem_cons_self, rfl⟩) he
  · have := (hg.1 _ hm).1
    rw [hb] at this
    cases this
  · have := (hg.1 _ hm).2
    rw [hb] at this
    cases this
def NewZ (l : List Zn) (k : Nat) (w : World) (e : Ending) (w' : World) : Prop := e = .returned (.pointer (if zonesB l then some ⟨k + 4, 0, none⟩ else none)) ∧
  (zonesB l = true → DrAt w' (k + 4) k (k + 1) (k + 2) (k + 3) (roomsZ l) [] [] []) ∧ Below k w w'
def RoundZ (l : List Zn) (k j : Nat) (w W : World) : Prop := DrAt W (k + 4) k (k + 1) (k + 2) (k + 3) (roomsZ (l.take j)) [] [] [] ∧ GoodZ (l.take j) ∧ Below k w W
theorem zones_none {l : List Zn} {w w' : World} (h : zonesB l = false) (hb : Below w.heap.size w w') : NewZ l w.heap.size w (.returned (.pointer none)) w' := by
  refine ⟨by rw [h]; rfl, fun e => ?_, hb⟩
  rw [h] at e
  cases e
set_option maxRecDepth 100000 in
set_option maxHeartbeats 4000000 in
theorem new_any (v : Value) (l : List Zn) (w : World) (hz : ZonesIn w v l) : Calls Try.prog 19 #[v] w fun e w' => NewZ l w.heap.size w e w' := by
  obtain ⟨o, cp, rfl, hmx, hzs⟩ := hz
  have HZS := Lib.hid hzs
  clear hzs
  obtain ⟨W5, hW5, e0, e1, e2, e3, e4, hb5⟩ := five w (.map #[] 0) (.map #[] 0) (.map #[] 0) (.map #[] 0) (.cells #[.map (some w.heap.size), .map (some (w.heap.size + 1)), .map (some (w.heap.size + 2)), .map (some (w.heap.size + 3))] 84 (0, 0))
  have HD0 : Hid (DrAt W5 (w.heap.size + 4) w.heap.size (w.heap.size + 1) (w.heap.size + 2) (w.heap.size + 3) [] [] [] []) := ⟨e4, ⟨#[], 0, e0, rfl⟩, ⟨#[], 0, e1, rfl⟩, ⟨#[], 0, e2, rfl⟩, ⟨#[], 0, e3, rfl⟩, ⟨#[], 0, e1, MapKept.stamped_empty 0⟩, ⟨#[], 0, e2, MapKept.stamped_empty 0⟩⟩
  have HB5 := Lib.hid hb5
  have HE := Lib.hid hW5
  clear hW5 e0 e1 e2 e3 e4 hb5
  have m1 : ∀ w, (Instr.makeMap tR none).run Try.prog w = .ok (.map (some w.heap.size)) (w.alloc (.map #[] 0)) := fun _ => rfl
  have m2 : ∀ w, (Instr.makeMap tV none).run Try.prog w = .ok (.map (some w.heap.size)) (w.alloc (.map #[] 0)) := fun _ => rfl
  have m3 : ∀ w, (Instr.makeMap tS none).run Try.prog w = .ok (.map (some w.heap.size)) (w.alloc (.map #[] 0)) := fun _ => rfl
  have m4 : ∀ w, (Instr.makeMap tD none).run Try.prog w = .ok (.map (some w.heap.size)) (w.alloc (.map #[] 0)) := fun _ => rfl
  go_enter Try.func19, Try.ntmps19
  by_cases h1 : (l.length : Int) < 1
  · have HX : Hid (zonesB l = false) := by
      show _ = _
      rw [← Bool.not_eq_true, zonesB_iff]
      omega
    clear HD0 HB5 HE HZS
    go_wp2
    go_ret
    exact zones_none HX.out (Below.refl _ _)
  by_cases h16 : (16 : Int) < (l.length : Int)
  · have HX : Hid (zonesB l = false) := by
      show _ = _
      rw [← Bool.not_eq_true, zonesB_iff]
      omega
    clear HD0 HB5 HE HZS
    go_wp2
    go_ret
    exact zones_none HX.out (Below.refl _ _)
  go_upto_region 4 with (fail)
  refine wp_gen (fun V => DrAt V (w.heap.size + 4) w.heap.size (w.heap.size + 1) (w.heap.size + 2) (w.heap.size + 3) [] [] [] [] ∧ Below w.heap.size w V) (by
    have h := HE.out
    rw [show (((((w.alloc (.map #[] 0)).alloc (.map #[] 0)).alloc (.map #[] 0)).alloc (.map #[] 0)).alloc (.cells #[.map (some w.heap.size), .map (some (w.heap.size + 1)), .map (some (w.heap.size + 2)), .map (some (w.heap.size + 3))] 84 (0, 0))) = W5 from h]
    exact ⟨HD0.out, HB5.out⟩) ?_
  rintro V ⟨hd, hlw⟩
  have HD := Lib.hid hd
  have HW := Lib.hid hlw
  have HN16 : Hid (1 ≤ l.length ∧ l.length ≤ 16) := by
    show _ ∧ _
    omega
  clear hd hlw HD0 HB5 HE m1 m2 m3 m4 h1
  clear W5
  go_wp2_with (fail)
  go_loopw [24] (fun iv wr => ∃ j : Nat, iv = .int .i64 (j : Int) ∧ j ≤ l.length ∧ RoundZ l w.heap.size j w wr) (fun iv _ => l.length - (RowKit.intOf iv).toNat)
  case atStart => exact ⟨0, rfl, Nat.zero_le _, HD.out, ⟨fun z hz => (by cases hz), List.nodup_nil⟩, HW.out⟩
  case round =>
    obtain ⟨j, rfl, hj, hd, hgood, hlow⟩ := hrel
    clear HD HW
    have HW := Lib.hid hlow
    have HGOOD := Lib.hid hgood
    clear hlow hgood
    by_cases hlt : j < l.length
    · have hlt' : (j : Int) < (l.length : Int) := by omega
      obtain ⟨g, off, rfl, hgw, hrow⟩ := HZS.out j hlt
      have HFLS := Lib.hid (good_not hlt)
      have HRN := Lib.hid (rooms_next hlt)
      have HGN := Lib.hid (good_next hlt HGOOD.out)
      obtain ⟨z, hzz⟩ : ∃ z, l[j] = z := ⟨_, rfl⟩
      rw [hzz] at hrow HFLS HRN HGN
      obtain ⟨pre, hpre⟩ : ∃ pre, l.take j = pre := ⟨_, rfl⟩
      rw [hpre] at hd HFLS HRN HGN
      have hz : World.rangeAt wr g (off + j * 2) (cellsZ z).toList := fun i u hu => (HW.out.cell (p := ⟨g, off + j * 2 + i, none⟩) hgw).trans (hrow i u hu)
      clear hrow hgw hzz hpre HGOOD
      obtain ⟨V, hs, hv, hl⟩ := boxZ wr zeroZ rfl z
      have HD := Lib.hid (hd.after hl)
      have HZ := Lib.hid hv
      have HK : Hid (w.heap.size + 4 < wr.heap.size) := hd.lt.1
      have hw1 := HW.out.trans (hl.mono HW.out.size)
      replace HW := Lib.hid hw1
      clear hd hv hl hw1
      go_upto_region 7 with (first | (refine wpList_got rfl (loadZ_at hz rfl rfl) ?_) | (refine wpList_skip rfl (hs rfl rfl rfl) ?_))
      clear hs hz
      obtain ⟨x, hx⟩ : ∃ x, KM.get z.name (roomsZ pre) = x := ⟨_, rfl⟩
      have HLK := Lib.hid hx
      clear hx
      refine wp_region_held_drew (S := fun V => DrAt V (w.heap.size + 4) w.heap.size (w.heap.size + 1) (w.heap.size + 2) (w.heap.size + 3) (roomsZ pre) [] [] [] ∧ BoxZ V wr.heap.size z ∧ Below w.heap.size w V) (by kernel_rfl) ⟨HD.out, HZ.out, HW.out.drew⟩ (fun _ => ?_)
      refine HeldBy.gen (fun V => DrAt V (w.heap.size + 4) w.heap.size (w.heap.size + 1) (w.heap.size + 2) (w.heap.size + 3) (roomsZ pre) [] [] [] ∧ BoxZ V wr.heap.size z ∧ Below w.heap.size w V) ⟨HD.out, HZ.out, HW.out.drew⟩ ?_
      clear HD HZ HW
      rintro U0 HS
      refine HeldBy.tn (i := 0) rfl HS ?_
      refine HeldBy.tn (i := 1) rfl HS ?_
      refine HeldBy.tn (i := 2) rfl HS ?_
      refine HeldBy.tk (i := 3) (v := .map (some w.heap.size)) rfl (fun V hV => by have hc := hV.1.box.c0; first | (go_simp; rfl) | (go_simp; done)) HS ?_
      refine HeldBy.tn (i := 4) rfl HS ?_
      refine HeldBy.tk (i := 5) rfl (fun V hV => by have hc := hV.2.1.c0; first | (go_simp; rfl) | (go_simp; done)) HS ?_
      refine HeldBy.tk (i := 6) (v := .tuple #[x.getD (.int .i64 0), .bool x.isSome]) rfl (fun V hV => exec_look2 und_R (zero_R _) hV.1.rooms x HLK.out rfl rfl rfl) HS ?_
      refine HeldBy.tn (i := 7) rfl HS ?_
      refine HeldBy.tn (i := 8) rfl HS ?_
      refine HeldBy.tn (i := 9) rfl HS ?_
      refine HeldBy.tn (i := 10) rfl HS ?_
      refine HeldBy.tn (i := 11) rfl HS ?_
      refine wpAnyH_done (by kernel_rfl) ?_ _
      have HD := Lib.hid HS.1
      have HZ := Lib.hid HS.2.1
      have HW := Lib.hid HS.2.2
      clear HS
      cases x with
      | some rv =>
        have HX := Lib.hid (HFLS.out (.inl ⟨rv, HLK.out⟩))
        go_wp2
        go_ret
        exact zones_none HX.out HW.out
      | none =>
        have z0 := HZ.out.c0
        obtain ⟨bn, hbn⟩ : ∃ b, nm z.name = b := ⟨_, rfl⟩
        have HBN := Lib.hid hbn
        clear hbn
        go_wp2_with (fail)
        clear z0
        refine (name_is HBN.out _).mono ?_
        rintro e W2 ⟨rfl, hb⟩
        replace HD := Lib.hid (HD.out.after hb)
        replace HZ := Lib.hid (HZ.out.after hb)
        replace HW := Lib.hid (HW.out.trans (hb.mono HW.out.size))
        clear hb
        cases bn with
        | false =>
          have HX := Lib.hid (HFLS.out (.inr (.inl HBN.out)))
          go_wp2
          go_ret
          exact zones_none HX.out HW.out
        | true =>
          have z1 := HZ.out.c1
          obtain ⟨br, hbr⟩ : ∃ b, inR z.room = b := ⟨_, rfl⟩
          have HBR := Lib.hid hbr
          clear hbr
          go_wp2_with (fail)
          clear z1
          refine (range_is HBR.out _).mono ?_
          rintro e W3 ⟨rfl, hb⟩
          replace HD := Lib.hid (HD.out.after hb)
          replace HZ := Lib.hid (HZ.out.after hb)
          replace HW := Lib.hid (HW.out.trans (hb.mono HW.out.size))
          cases br with
          | false =>
            have HX := Lib.hid (HFLS.out (.inr (.inr HBR.out)))
            clear hb
            go_wp2
            go_ret
            exact zones_none HX.out HW.out
          | true =>
            have HB := Lib.hid HD.out.box
            have HM := Lib.hid HD.out
            clear hb HD
            go_upto_region 10 with (fail)
            refine wp_region_held_drew (S := fun V => BoxD V (w.heap.size + 4) ⟨some w.heap.size, some (w.heap.size + 1), some (w.heap.size + 2), some (w.heap.size + 3)⟩ ∧ BoxZ V wr.heap.size z) (by kernel_rfl) ⟨HB.out, HZ.out⟩ (fun _ => ?_)
            refine HeldBy.gen (fun V => (BoxD V (w.heap.size + 4) ⟨some w.heap.size, some (w.heap.size + 1), some (w.heap.size + 2), some (w.heap.size + 3)⟩ ∧ BoxZ V wr.heap.size z) ∧ (DrAt V (w.heap.size + 4) w.heap.size (w.heap.size + 1) (w.heap.size + 2) (w.heap.size + 3) (roomsZ pre) [] [] []) ∧ (Below w.heap.size w V)) ⟨⟨HB.out, HZ.out⟩, HM.out, HW.out.drew⟩ ?_
            clear HB HZ HM HW
            rintro U0 ⟨HS, HM, HW⟩
            refine HeldBy.tn (i := 0) rfl HS ?_
            refine HeldBy.tn (i := 1) rfl HS ?_
            refine HeldBy.tn (i := 2) rfl HS ?_
            refine HeldBy.tk (i := 3) (v := .map (some w.heap.size)) rfl (fun V hV => by have hc := hV.1.c0; first | (go_simp; rfl) | (go_simp; done)) HS ?_
            refine HeldBy.tn (i := 4) rfl HS ?_
            refine HeldBy.tk (i := 5) rfl (fun V hV => by have hc := hV.2.c0; first | (go_simp; rfl) | (go_simp; done)) HS ?_
            refine HeldBy.tn (i := 6) rfl HS ?_
            refine HeldBy.tk (i := 7) rfl (fun V hV => by have hc := hV.2.c1; first | (go_simp; rfl) | (go_simp; done)) HS ?_
            obtain ⟨V3, hs3, hm3, ht3⟩ := exec_upd und_R HM.rooms z.name (.int .i64 z.room)
            have hS3 : BoxD V3 (w.heap.size + 4) ⟨some w.heap.size, some (w.heap.size + 1), some (w.heap.size + 2), some (w.heap.size + 3)⟩ ∧ BoxZ V3 wr.heap.size z := ⟨HS.1.turned ht3 (by omega), Turned.other ht3 (by have := HK.out; omega) HS.2⟩
            refine HeldBy.store (i := 8) (w' := V3) rfl (by kernel_rfl) (by rfl) (hs3 rfl rfl rfl rfl) (by first | (go_simp; rfl) | (go_simp; done)) hS3 ?_
            refine wpAnyH_done (by kernel_rfl) ?_ _
            have hm4 := hm3
            rw [HRN.out HLK.out] at hm4
            have HX : Hid (RoundZ l w.heap.size (j + 1) w V3) := ⟨HM.putRooms (five_of _) ht3 hm4, HGN.out HLK.out HBN.out HBR.out, HW.trans (ht3.below (Nat.le_refl _))⟩
            clear hs3 hm3 ht3 hS3 HS HM HW hm4
            go_wp2
            go_roundw
            case rel => exact ⟨j + 1, by go_num, by omega, HX.out⟩
            case measure => simp [RowKit.intOf]; omega
    · have hlt' : ¬ (j : Int) < (l.length : Int) := by omega
      have hE : j = l.length := by omega
      rw [hE, List.take_length] at hd
      rw [hE, List.take_length] at HGOOD
      have HX : Hid (NewZ l w.heap.size w (.returned (.pointer (some ⟨w.heap.size + 4, 0, none⟩))) wr) := by
        have hb : zonesB l = true := (zonesB_iff l).2 ⟨HN16.out.1, HN16.out.2, HGOOD.out⟩
        exact ⟨by rw [hb]; rfl, fun _ => hd, HW.out⟩
      clear hd HGOOD hE
      go_wp2
      go_ret
      exact HX.out
end Go.Proofs.Ytbgfccanbgpjiaa.O.I
namespace Go.Proofs.Ytbgfccanbgpjiaa.O.I
open Go Go.RowKit Go.Lib KM
structure DV where
  name : ByteArray
  size : Int
  zone : ByteArray
  tag : Int
  nodes : List ByteArray
structure DS where
  name : ByteArray
  size : Int
  tag : Int
deriving DecidableEq
structure Core where
  zones : List Zn
  vols : List DV
  snaps : List DS
structure St where
  core : Core
  seen : List (Cl × Rs)
def volOf (l : List DV) (k : ByteArray) : Option DV := l.find? fun x => decide (x.name = k)
def snapOf (l : List DS) (k : ByteArray) : Option DS := l.find? fun x => decide (x.name = k)
def zoneOf (l : List Zn) (k : ByteArray) : Option Zn := l.find? fun x => decide (x.name = k)
def insV (x : DV) : List DV → List DV
  | [] => [x]
  | y :: r => if Op.bytesLess x.name.toList y.name.toList then x :: y :: r else y :: insV x r
def insS (x : DS) : List DS → List DS
  | [] => [x]
  | y :: r => if Op.bytesLess x.name.toList y.name.toList then x :: y :: r else y :: insS x r
def modZ (k : ByteArray) (f : Int → Int) : List Zn → List Zn
  | [] => []
  | z :: r => if z.name = k then ⟨z.name, f z.room⟩ :: r else z :: modZ k f r
def modV (k : ByteArray) (f : DV → DV) : List DV → List DV
  | [] => []
  | x :: r => if x.name = k then f x :: r else x :: modV k f r
def delV (k : ByteArray) : List DV → List DV
  | [] => []
  | x :: r => if x.name = k then r else x :: delV k r
def delS (k : ByteArray) : List DS → List DS
  | [] => []
  | x :: r => if x.name = k then r else x :: delS k r
def leB (s y : ByteArray) : Bool := Op.bytesLess s.toList y.toList || (s.toList == y.toList)
def withN (s : ByteArray) : Bool → List ByteArray → List ByteArray
  | p, [] => if p then [] else [s]
  | p, y :: r => (if !p && leB s y then [s] else []) ++ (if y = s then [] else [y]) ++ withN s (p || leB s y) r
def withoutN (s : ByteArray) (l : List ByteArray) : List ByteArray := l.filter fun y => !decide (y = s)
def srcOf (C : Core) (s : ByteArray) : Option Ct := if s = E0 then some zeroK else match snapOf C.snaps s with
  | some x => some ⟨x.size, x.tag⟩
  | none => (volOf C.vols s).map fun x => ⟨x.size, x.tag⟩
def createC (C : Core) (c : Cl) : Rs × Core := match volOf C.vols c.target with
  | some x => if x.size < c.size then (errR 12, C) else (⟨0, x.size, x.zone, x.tag⟩, C)
  | none => match zoneOf C.zones c.zone with
    | none => (errR 5, C)
    | some z => match srcOf C c.source with
      | none => (errR 5, C)
      | some k => if c.size < k.size then (errR 12, C) else if 64 ≤ C.vols.length then (errR 7, C) else if z.room < c.size then (errR 11, C) else
        (⟨0, c.size, c.zone, k.tag⟩, ⟨modZ c.zone (fun r => IntKind.i64.wrap (r - c.size)) C.zones, insV ⟨c.target, c.size, c.zone, k.tag, []⟩ C.vols, C.snaps⟩)
def eraseC (C : Core) (t : ByteArray) : Rs × Core := match volOf C.vols t with
  | none => (zeroR, C)
  | some x => if x.nodes = [] then (zeroR, ⟨modZ x.zone (fun r => IntKind.i64.wrap (r + x.size)) C.zones, delV t C.vols, C.snaps⟩) else (errR 10, C)
def publishC (C : Core) (t s : ByteArray) : Rs × Core := match volOf C.vols t with
  | none => (errR 5, C)
  | some _ => (zeroR, ⟨C.zones, modV t (fun x => ⟨x.name, x.size, x.zone, x.tag, withN s false x.nodes⟩) C.vols, C.snaps⟩)
def unpublishC (C : Core) (t s : ByteArray) : Rs × Core := match volOf C.vols t with
  | none => (zeroR, C)
  | some _ => (zeroR, ⟨C.zones, modV t (fun x => ⟨x.name, x.size, x.zone, x.tag, withoutN s x.nodes⟩) C.vols, C.snaps⟩)
def expandC (C : Core) (t : ByteArray) (sz : Int) : Rs × Core := match volOf C.vols t with
  | none => (errR 5, C)
  | some x => if sz ≤ x.size then (⟨0, x.size, E0, 0⟩, C) else match zoneOf C.zones x.zone with
    | none => (errR 11, C)
    | some z => if z.room < IntKind.i64.wrap (sz - x.size) then (errR 11, C) else
      (⟨0, sz, E0, 0⟩, ⟨modZ x.zone (fun r => IntKind.i64.wrap (r - IntKind.i64.wrap (sz - x.size))) C.zones, modV t (fun y => ⟨y.name, sz, y.zone, y.tag, y.nodes⟩) C.vols, C.snaps⟩)
def cutC (C : Core) (t src : ByteArray) : Rs × Core := match snapOf C.snaps t with
  | some k => (⟨0, k.size, E0, k.tag⟩, C)
  | none => match volOf C.vols src with
    | none => (errR 5, C)
    | some x => if 64 ≤ C.snaps.length then (errR 7, C) else (⟨0, x.size, E0, x.tag⟩, ⟨C.zones, C.vols, insS ⟨t, x.size, x.tag⟩ C.snaps⟩)
def dropC (C : Core) (t : ByteArray) : Rs × Core := (zeroR, ⟨C.zones, C.vols, delS t C.snaps⟩)
def perfC (C : Core) (c : Cl) : Rs × Core := if c.verb = 1 then createC C c else if c.verb = 2 then eraseC C c.target else if c.verb = 3 then publishC C c.target c.node else if c.verb = 4 then unpublishC C c.target c.node
  else if c.verb = 5 then expandC C c.target c.size else if c.verb = 6 then cutC C c.target c.source else dropC C c.target
def memN (s : ByteArray) (l : List ByteArray) : Bool := l.any fun y => decide (y = s)
def lastOf (l : List (Cl × Rs)) (sn : Bool) (t : ByteArray) : Option (Cl × Rs) := l.find? fun p => decide (p.1.target = t) && (snapV p.1.verb == sn)
def delSeen (sn : Bool) (t : ByteArray) : List (Cl × Rs) → List (Cl × Rs)
  | [] => []
  | p :: r => if (decide (p.1.target = t) && (snapV p.1.verb == sn)) = true then r else p :: delSeen sn t r
def runS (S : St) (c : Cl) : Rs × St := ((perfC S.core c).1, ⟨(perfC S.core c).2, delSeen (snapV c.verb) c.target S.seen ++ [(c, (perfC S.core c).1)]⟩)
def doS (S : St) (c : Cl) : Rs × St := if rightB c = false then (errR 2, S) else match lastOf S.seen (snapV c.verb) c.target with
  | some p => if c.num < p.1.num then (errR 9, S) else if c.num = p.1.num then (if c = p.1 then (p.2, S) else (errR 6, S)) else runS S c
  | none => if 256 ≤ S.seen.length then (errR 7, S) else runS S c
def putS (C : Core) (t node : ByteArray) (tag : Int) : Int × Core := match volOf C.vols t with
  | none => (5, C)
  | some x => if memN node x.nodes then (0, ⟨C.zones, modV t (fun y => ⟨y.name, y.size, y.zone, tag, y.nodes⟩) C.vols, C.snaps⟩) else (10, C)
theorem volOf_ins (x : DV) (k : ByteArray) : ∀ l : List DV, volOf l x.name = none → volOf (insV x l) k = if k = x.name then some x else volOf l k
  | [], _ => by
    unfold insV volOf
    by_cases h : k = x.name
    · rw [if_pos h, List.find?_cons_of_pos (by simp [h])]
    · rw [if_neg h, List.find?_cons_of_neg (by simpa using fun e : x.name = k => h e.symm)]
  | y :: r, hn => by
    unfold insV
    have hy : y.name ≠ x.name := fun e => by
      unfold volOf at hn
      rw [List.find?_cons_of_pos (by simp [e])] at hn
      cases hn
    have hr : volOf r x.name = none := by
      unfold volOf at hn ⊢
      rwa [List.find?_cons_of_neg (by simpa using hy)] at hn
    split
    · unfold volOf
      by_cases h : k = x.name
      · rw [if_pos h, List.find?_cons_of_pos (by simp [h])]
      · rw [if_neg h, List.find?_cons_of_neg (by simpa using fun e : x.name = k => h e.symm)]
    · have ih := volOf_ins x k r hr
      unfold volOf at ih ⊢
      by_cases h : y.name = k
      · rw [List.find?_cons_of_pos (by simpa using h), List.find?_cons_of_pos (by simpa using h), if_neg (fun e => hy (h.trans e))]
      · rw [List.find?_cons_of_neg (by simpa using h), List.find?_cons_of_neg (by simpa using h), ih]
theorem length_insV (x : DV) : ∀ l : List DV, (insV x l).length = l.length + 1
  | [] => rfl
  | y :: r => by
    unfold insV
    split
    · rfl
    · rw [List.length_cons, length_insV x r, List.length_cons]
theorem snapOf_ins (x : DS) (k : ByteArray) : ∀ l : List DS, snapOf l x.name = none → snapOf (insS x l) k = if k = x.name then some x else snapOf l k
  | [], _ => by
    unfold insS snapOf
    by_cases h : k = x.name
    · rw [if_pos h, List.find?_cons_of_pos (by simp [h])]
    · rw [if_neg h, List.find?_cons_of_neg (by simpa using fun e : x.name = k => h e.symm)]
  | y :: r, hn => by
    unfold insS
    have hy : y.name ≠ x.name := fun e => by
      unfold snapOf at hn
      rw [List.find?_cons_of_pos (by simp [e])] at hn
      cases hn
    have hr : snapOf r x.name = none := by
      unfold snapOf at hn ⊢
      rwa [List.find?_cons_of_neg (by simpa using hy)] at hn
    split
    · unfold snapOf
      by_cases h : k = x.name
      · rw [if_pos h, List.find?_cons_of_pos (by simp [h])]
      · rw [if_neg h, List.find?_cons_of_neg (by simpa using fun e : x.name = k => h e.symm)]
    · have ih := snapOf_ins x k r hr
      unfold snapOf at ih ⊢
      by_cases h : y.name = k
      · rw [List.find?_cons_of_pos (by simpa using h), List.find?_cons_of_pos (by simpa using h), if_neg (fun e => hy (h.trans e))]
      · rw [List.find?_cons_of_neg (by simpa using h), List.find?_cons_of_neg (by simpa using h), ih]
theorem length_insS (x : DS) : ∀ l : List DS, (insS x l).length = l.length + 1
  | [] => rfl
  | y :: r => by
    unfold insS
    split
    · rfl
    · rw [List.length_cons, length_insS x r, List.length_cons]
theorem volOf_name {l : List DV} {k : ByteArray} {x : DV} (h : volOf l k = some x) : x.name = k := by
  unfold volOf at h
  simpa using List.find?_some h
theorem snapOf_name {l : List DS} {k : ByteArray} {x : DS} (h : snapOf l k = some x) : x.name = k := by
  unfold snapOf at h
  simpa using List.find?_some h
theorem zoneOf_name {l : List Zn} {k : ByteArray} {x : Zn} (h : zoneOf l k = some x) : x.name = k := by
  unfold zoneOf at h
  simpa using List.find?_some h
theorem volOf_mod (t k : ByteArray) (f : DV → DV) (hf : ∀ x, (f x).name = x.name) : ∀ l : List DV, volOf (modV t f l) k = if k = t then (volOf l t).map f else volOf l k
  | [] => by
    unfold modV volOf
    split <;> rfl
  | y :: r => by
    have ih := volOf_mod t k f hf r
    unfold volOf at ih ⊢
    unfold modV
    by_cases hy : y.name = t
    · rw [if_pos hy]
      by_cases h : k = t
      · rw [if_pos h, List.find?_cons_of_pos (by simp [hf, hy, h]), List.find?_cons_of_pos (by simpa using hy)]
        rfl
      · rw [if_neg h, List.find?_cons_of_neg (by simpa [hf, hy] using fun e : t = k => h e.symm), List.find?_cons_of_neg (by simpa [hy] using fun e : t = k => h e.symm)]
    · rw [if_neg hy, List.find?_cons_of_neg (p := fun x : DV => decide (x.name = t)) (l := r) (a := y) (by simpa using hy)]
      by_cases h : y.name = k
      · rw [List.find?_cons_of_pos (p := fun x : DV => decide (x.name = k)) (by simpa using h), List.find?_cons_of_pos (p := fun x : DV => decide (x.name = k)) (by simpa using h), if_neg (fun e => hy (h.trans e))]
      · rw [List.find?_cons_of_neg (p := fun x : DV => decide (x.name = k)) (by simpa using h), List.find?_cons_of_neg (p := fun x : DV => decide (x.name = k)) (l := r) (a := y) (by simpa using h), ih]
theorem length_modV (t : ByteArray) (f : DV → DV) : ∀ l : List DV, (modV t f l).length = l.length
  | [] => rfl
  | y :: r => by
    unfold modV
    split
    · rfl
    · rw [List.length_cons, length_modV t f r, List.length_cons]
def OnceV (l : List DV) : Prop := (l.map (·.name)).Nodup
def OnceS (l : List DS) : Prop := (l.map (·.name)).Nodup
theorem volOf_none {l : List DV} {k : ByteArray} : volOf l k = none ↔ k ∉ l.map (·.name) := by
  unfold volOf
  rw [List.find?_eq_none, List.mem_map]
  constructor
  · rintro h ⟨x, hx, he⟩
    exact h x hx (by simpa using he)
  · intro h x hx he
    exact h ⟨x, hx, by simpa using he⟩
theorem snapOf_none {l : List DS} {k : ByteArray} : snapOf l k = none ↔ k ∉ l.map (·.name) := by
  unfold snapOf
  rw [List.find?_eq_none, List.mem_map]
  constructor
  · rintro h ⟨x, hx, he⟩
    exact h x hx (by simpa using he)
  · intro h x hx he
    exact h ⟨x, hx, by simpa using he⟩
theorem volOf_del (t k : ByteArray) : ∀ l : List DV, OnceV l → volOf (delV t l) k = if k = t then none else volOf l k
  | [], _ => by
    unfold delV volOf
    split <;> rfl
  | y :: r, ho => by
    obtain ⟨h1, h2⟩ := List.nodup_cons.1 (show (y.name :: r.map (·.name)).Nodup from ho)
    have ih := volOf_del t k r h2
    unfold delV
    by_cases hy : y.name = t
    · rw [if_pos hy]
      by_cases h : k = t
      · rw [if_pos h, volOf_none, h, ← hy]
        exact h1
      · rw [if_neg h]
        unfold volOf
        rw [List.find?_cons_of_neg (by simpa [hy] using fun e : t = k => h e.symm)]
    · rw [if_neg hy]
      unfold volOf at ih ⊢
      by_cases h : y.name = k
      · rw [List.find?_cons_of_pos (by simpa using h), List.find?_cons_of_pos (by simpa using h), if_neg (fun e => hy (h.trans e))]
      · rw [List.find?_cons_of_neg (by simpa using h), List.find?_cons_of_neg (l := r) (a := y) (by simpa using h), ih]
theorem length_delV (t : ByteArray) : ∀ l : List DV, (delV t l).length = if (volOf l t).isSome then l.length - 1 else l.length
  | [] => rfl
  | y :: r => by
    have ih := length_delV t r
    unfold delV
    by_cases hy : y.name = t
    · rw [if_pos hy]
      unfold volOf
      rw [List.find?_cons_of_pos (by simpa using hy)]
      rfl
    · rw [if_neg hy, List.length_cons, ih]
      unfold volOf
      rw [List.find?_cons_of_neg (by simpa using hy)]
      cases hv : List.find? (fun x => decide (x.name = t)) r with
      | none => rfl
      | some z =>
        have := List.length_pos_of_mem (List.mem_of_find?_eq_some hv)
        simp only [Option.isSome_some, if_true, List.length_cons]
        omega
theorem snapOf_del (t k : ByteArray) : ∀ l : List DS, OnceS l → snapOf (delS t l) k = if k = t then none else snapOf l k
  | [], _ => by
    unfold delS snapOf
    split <;> rfl
  | y :: r, ho => by
    obtain ⟨h1, h2⟩ := List.nodup_cons.1 (show (y.name :: r.map (·.name)).Nodup from ho)
    have ih := snapOf_del t k r h2
    unfold delS
    by_cases hy : y.name = t
    · rw [if_pos hy]
      by_cases h : k = t
      · rw [if_pos h, snapOf_none, h, ← hy]
        exact h1
      · rw [if_neg h]
        unfold snapOf
        rw [List.find?_cons_of_neg (by simpa [hy] using fun e : t = k => h e.symm)]
    · rw [if_neg hy]
      unfold snapOf at ih ⊢
      by_cases h : y.name = k
      · rw [List.find?_cons_of_pos (by simpa using h), List.find?_cons_of_pos (by simpa using h), if_neg (fun e => hy (h.trans e))]
      · rw [List.find?_cons_of_neg (by simpa using h), List.find?_cons_of_neg (l := r) (a := y) (by simpa using h), ih]
theorem length_delS (t : ByteArray) : ∀ l : List DS, (delS t l).length = if (snapOf l t).isSome then l.length - 1 else l.length
  | [] => rfl
  | y :: r => by
    have ih := length_delS t r
    unfold delS
    by_cases hy : y.name = t
    · rw [if_pos hy]
      unfold snapOf
      rw [List.find?_cons_of_pos (by simpa using hy)]
      rfl
    · rw [if_neg hy, List.length_cons, ih]
      unfold snapOf
      rw [List.find?_cons_of_neg (by simpa using hy)]
      cases hv : List.find? (fun x => decide (x.name = t)) r with
      | none => rfl
      | some z =>
        have := List.length_pos_of_mem (List.mem_of_find?_eq_some hv)
        simp only [Option.isSome_some, if_true, List.length_cons]
        omega
theorem rooms_mod (k : ByteArray) (f : Int → Int) : ∀ (l : List Zn) (z : Zn), zoneOf l k = some z → KM.put k (.int .i64 (f z.room)) (roomsZ l) = roomsZ (modZ k f l)
  | [], z, h => by cases h
  | y :: r, z, h => by
    unfold roomsZ
    unfold zoneOf at h
    rw [List.map_cons]
    unfold KM.put modZ
    by_cases hy : y.name = k
    · rw [List.find?_cons_of_pos (by simpa using hy)] at h
      cases h
      rw [if_pos hy.symm, if_pos hy, List.map_cons, hy]
    · rw [List.find?_cons_of_neg (by simpa using hy)] at h
      rw [if_neg (fun e => hy e.symm), if_neg hy, List.map_cons]
      have ih := rooms_mod k f r z h
      unfold roomsZ at ih
      rw [ih]
theorem rooms_of (l : List Zn) (k : ByteArray) : KM.get k (roomsZ l) = (zoneOf l k).map fun z => .int .i64 z.room := by
  rw [rooms_get]
  unfold zoneOf
  congr 2
  funext z
  exact decide_eq_decide.2 ⟨fun e => e.symm, fun e => e.symm⟩
theorem length_put {κ V : Type} [DecidableEq κ] (k : κ) (v : V) : ∀ m : List (κ × V), (KM.put k v m).length = if (KM.get k m).isSome then m.length else m.length + 1
  | [] => rfl
  | p :: r => by
    have ih := length_put k v r
    unfold KM.put KM.get
    by_cases h : k = p.1
    · rw [if_pos h, if_pos h]
      rfl
    · rw [if_neg h, if_neg h, List.length_cons, ih, List.length_cons]
      split <;> rfl
theorem length_del {κ V : Type} [DecidableEq κ] (k : κ) : ∀ m : List (κ × V), (KM.del k m).length = if (KM.get k m).isSome then m.length - 1 else m.length
  | [] => rfl
  | p :: r => by
    have ih := length_del k r
    unfold KM.del KM.get
    by_cases h : k = p.1
    · rw [if_pos h, if_pos h]
      rfl
    · rw [if_neg h, if_neg h, List.length_cons, ih, List.length_cons]
      cases hg : KM.get k r with
      | none => rfl
      | some u =>
        have : r ≠ [] := fun e => by rw [e] at hg; cases hg
        have := List.length_pos_iff.2 this
        simp only [Option.isSome_some, if_true]
        omega
end Go.Proofs.Ytbgfccanbgpjiaa.O.I
namespace Go.HeldBy
open Go Go.RowKit
section
variable {P : Program} {ops : Array Oper} {Q : Exit → Act → World → Prop} {md : Region.Mode} {S : World → Prop}
theorem wanted_none {oi : Oper} (h : oi.guard = none) (y : Nat → Option Bool) : Region.wanted oi y = true := by
  unfold Region.wanted
  rw [h]
def Makes (P : Program) (oi : Oper) (x : Obj) : Prop := ∀ (a : Act) (w : World), (execOp a.eval oi).run P w = .ok (.value (.pointer (some ⟨w.heap.size, 0, none⟩))) (w.alloc x)
def ptr (p : Nat) : Value := .pointer (some ⟨p, 0, none⟩)
theorem two_allocs {i j : Nat} {oi oj : Oper} {x y : Obj} {fuel : Nat} {listed l2 : Array Bool} {a : Act} {w : World} {mk : Nat → Nat → Act}
    (hr : Region.ready md ops listed = [i, j]) (hri : Region.ready md ops (listed.setIfInBounds i true) = [j]) (hrj : Region.ready md ops (listed.setIfInBounds j true) = [i])
    (hi : ops[i]? = some oi) (hj : ops[j]? = some oj) (gi : oi.guard = none) (gj : oj.guard = none) (hvi : Makes P oi x) (hvj : Makes P oj y)
    (hl1 : (listed.setIfInBounds i true).setIfInBounds j true = l2) (hl2 : (listed.setIfInBounds j true).setIfInBounds i true = l2)
    (ha1 : ∀ p q, (a.put oi.dst (ptr p)).put oj.dst (ptr q) = mk p q) (ha2 : ∀ p q, (a.put oj.dst (ptr q)).put oi.dst (ptr p) = mk p q)
    (hS : ∀ w', Below w.heap.size w w' → S w')
    (h : ∀ p q w', w.heap.size ≤ p → w.heap.size ≤ q → p ≠ q → w'.heap[p]? = some x → w'.heap[q]? = some y → Below w.heap.size w w' → wpAnyH P md ops Q S fuel l2 (mk p q) w') :
    wpAnyH P md ops Q S (fuel + 2) listed a w := by
  have b1 : ∀ z : Obj, Below w.heap.size w (w.alloc z) := fun z => (Below.refl _ _).alloc (Nat.le_refl _) z
  have sz : ∀ z : Obj, (w.alloc z).heap.size = w.heap.size + 1 := fun z => by show (w.heap.push z).size = _; simp
  have b2 : ∀ z z' : Obj, Below w.heap.size w ((w.alloc z).alloc z') := fun z z' => (b1 z).alloc (by rw [sz]; omega) z'
  refine two hr ?_ ?_
  · refine op_value hi (wanted_none gi _) (hvi a w) rfl ⟨hS _ (b1 x), ?_⟩
    refine value hj hri (wanted_none gj _) (hvj _ _) (ha1 _ _) (hS _ (b2 x y)) ?_
    rw [hl1]
    refine h _ _ _ (Nat.le_refl _) (by rw [sz]; omega) (by rw [sz]; omega) ?_ (heap_alloc_new _ _) (b2 x y)
    exact (heap_alloc_old _ _ (by rw [sz]; omega)).trans (heap_alloc_new _ _)
  · refine op_value hj (wanted_none gj _) (hvj a w) rfl ⟨hS _ (b1 y), ?_⟩
    refine value hi hrj (wanted_none gi _) (hvi _ _) (ha2 _ _) (hS _ (b2 y x)) ?_
    rw [hl2]
    refine h _ _ _ (by rw [sz]; omega) (Nat.le_refl _) (by rw [sz]; omega) (heap_alloc_new _ _) ?_ (b2 y x)
    exact (heap_alloc_old _ _ (by rw [sz]; omega)).trans (heap_alloc_new _ _)
end
end Go.HeldBy
