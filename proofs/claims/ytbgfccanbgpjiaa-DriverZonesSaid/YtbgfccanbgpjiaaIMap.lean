/- The driver's maps: what a lookup and a store do. -/
import Derived.Test.YtbgfccanbgpjiaaIBase
namespace Go.Proofs.Ytbgfccanbgpjiaa.O.I
open Go Go.RowKit Go.Lib KM
attribute [local go_sem] Oper.semAt_some

def encS (s : ByteArray) : Value := .string s
theorem strT : KeyS.Key Try.prog 9 encS := ⟨fun em w x => by unfold encS; kernel_rfl, fun x w es m h => by
    have h1 := KeyS.find_now x es m 0 h
    simp only [Instr.findKey, Sem.run_bind, run_underlying Try.underlying9, Result.andThen]
    unfold encS
    rw [h1]
    rfl, fun x => by unfold encS Instr.sameBits; simp [beq_toListBytes]⟩
theorem tgt_check (em : Bool) (w : World) (x : Tg) : (Instr.checkKey em 10000 106 (encT x)).run Try.prog w = .ok () w := by
  unfold encT cellsT
  kernel_rfl
theorem tgt_stays (x : Tg) : Instr.sameBits 10000 (encT x) (encT x) = true := by
  unfold encT cellsT Instr.sameBits
  simp [Instr.sameBits, beq_toListBytes]
theorem tgt_eq (w : World) (x y : Tg) : (Op.equal 106 (encT x) (encT y)).run Try.prog w = .ok (decide (x = y)) w := by
  obtain ⟨a, s⟩ := x
  obtain ⟨b, t⟩ := y
  have h : (decide ((⟨a, s⟩ : Tg) = ⟨b, t⟩)) = (a == b && (s.toList == t.toList)) := by
    rw [eqB, Bool.eq_iff_iff]
    simp
  rw [h]
  unfold encT cellsT
  show (Op.equalIn 10000 _ _ _).run _ _ = _
  cases h1 : (a == b) with
  | false => go_simp
  | true =>
    go_simp
    by_cases h2 : s.toList = t.toList <;> simp [h2]
theorem tgtT : KeyT Try.prog 106 encT := ⟨tgt_check, tgt_eq, ⟨_, Try.underlying106⟩, tgt_stays⟩

abbrev tR : TypeId := 79
abbrev tV : TypeId := 80
abbrev tS : TypeId := 81
abbrev tD : TypeId := 82
theorem und_R : Try.prog.underlying tR = some (.map 9 2) := Try.underlying79
theorem und_V : Try.prog.underlying tV = some (.map 9 95) := Try.underlying80
theorem und_S : Try.prog.underlying tS = some (.map 9 92) := Try.underlying81
theorem und_D : Try.prog.underlying tD = some (.map 106 109) := Try.underlying82
theorem zero_R (w : World) : (zeroValue 2).run Try.prog w = .ok (.int .i64 0) w := by kernel_rfl
theorem zero_V (w : World) : (zeroValue 95).run Try.prog w = .ok (encV zeroV) w := by kernel_rfl
theorem zero_S (w : World) : (zeroValue 92).run Try.prog w = .ok (encK zeroK) w := by kernel_rfl
theorem zero_D (w : World) : (zeroValue 109).run Try.prog w = .ok (encP zeroP) w := by kernel_rfl

/-- The entries' stamps are in order: so sorted keys may be asked for. -/
def Stamp (W : World) (b : Nat) : Prop := ∃ es clock, W.heap[b]? = some (.map es clock) ∧ MapKept.Stamped es clock
theorem Stamp.of_heap {W W' : World} {b : Nat} (h : Stamp W b) (he : W'.heap[b]? = W.heap[b]?) : Stamp W' b := by
  obtain ⟨es, clock, hb, hs⟩ := h
  exact ⟨es, clock, he.trans hb, hs⟩
theorem run_update_st {t e : TypeId} {w : World} {b : Nat} {m : List (ByteArray × Value)} (ht : Try.prog.underlying t = some (.map 9 e)) (h : IsMap encS w b m) (hst : Stamp w b) (x : ByteArray) (v : Value) :
    ∃ w', (Instr.mapUpdate t (.map (some b)) (encS x) v).run Try.prog w = .ok () w' ∧ IsMap encS w' b (KM.put x v m) ∧ Turned w w' b ∧ Stamp w' b := by
  obtain ⟨es, clock, hb, hh⟩ := h
  obtain ⟨es', clock', hb', hs'⟩ := hst
  rw [hb] at hb'
  cases hb'
  have hf := strT.find x w _ _ hh
  cases hs : seek x m 0 with
  | none =>
    rw [hs] at hf
    refine ⟨_, by simp [Instr.mapUpdate, run_underlying ht, MapKept.run_getObj_map hb, strT.check, hf, MapKept.run_setObj_map _ hb, Result.andThen]; rfl, ⟨_, _, (MapKept.heap_set hb).1, ?_⟩, turned_set hb _, ⟨_, _, (MapKept.heap_set hb).1, MapKept.stamped_push hs' ?_⟩⟩
    · rw [(seek_none (v := v) hs).1]
      unfold Holds at hh ⊢
      simp [hh]
    · intro y hy hk
      have h1 : (y.key, y.val) ∈ es.toList.map (fun e => (e.key, e.val)) := List.mem_map.2 ⟨y, hy, rfl⟩
      rw [show es.toList.map (fun e => (e.key, e.val)) = m.map (fun p => (encS p.1, p.2)) from hh] at h1
      obtain ⟨p, hp, he⟩ := List.mem_map.1 h1
      have h2 : encS p.1 = encS x := (Prod.mk.inj he).1.trans hk
      have h3 : p.1 = x := by
        unfold encS at h2
        exact Value.string.inj h2
      have h4 : KM.get x m = none := by rw [← seek_get x m 0, hs]; rfl
      exact get_none_iff.1 h4 (List.mem_map.2 ⟨p, hp, h3⟩)
  | some q =>
    obtain ⟨j, u⟩ := q
    rw [hs] at hf
    obtain ⟨n, q1, q2, ⟨e0, q3, q4⟩, q5, -⟩ := seek_some (v := v) hs hh
    have hjn : j = n := by omega
    subst hjn
    have hget : es[j]? = some e0 := by simpa using q3
    have hst : (Instr.keyThatStays (encS x) (encS x)).run Try.prog w = .ok (encS x) w := by
      unfold Instr.keyThatStays
      rw [if_pos (strT.stays x)]
      rfl
    refine ⟨_, by simp [Instr.mapUpdate, run_underlying ht, MapKept.run_getObj_map hb, strT.check, hf, hget, q4, hst, MapKept.run_setObj_map _ hb, Result.andThen], ⟨_, _, (MapKept.heap_set hb).1, ?_⟩, turned_set hb _, ⟨_, _, (MapKept.heap_set hb).1, MapKept.stamped_modify hs' j (fun e => { key := encS x, val := v, born := e.born }) (fun _ _ => rfl) (fun e _ he => ?_)⟩⟩
    · have := q5 { e0 with key := encS x, val := v } rfl rfl
      unfold Holds at this ⊢
      refine Eq.trans (congrArg (List.map _) ?_) this
      apply List.ext_getElem?
      intro i
      simp only [Array.toList_modify, List.getElem?_modify]
      by_cases hi : j = i
      · subst hi
        simp [hget]
      · simp [hi]
    · rw [hget] at he
      cases he
      exact q4.symm
section
variable {W : World} {oi : Oper} {a : Act} {p r : Operand} {b : Nat} {k : ByteArray} {m : List (ByteArray × Value)}
/-- Texts as keys: a lookup that asks whether it is there. -/
theorem exec_look2 {t e : TypeId} {z : Value} (ht : Try.prog.underlying t = some (.map 9 e)) (hz : (zeroValue e).run Try.prog W = .ok z W) (h : IsMap encS W b m) (x : Option Value) (hx : KM.get k m = x) (ho : oi.op = .lookup t p r true) (hm : a.eval p = .map (some b)) (hk : a.eval r = .string k) :
    (execOp a.eval oi).run Try.prog W = .ok (.value (.tuple #[x.getD z, .bool x.isSome])) W := by
  have hk' : a.eval r = encS k := hk
  unfold execOp
  cases x with
  | none => simp [ho, hm, hk', KeyS.run_lookup_no strT ht hz h k hx, Result.andThen]
  | some v => simp [ho, hm, hk', KeyS.run_lookup_ok strT ht h k hx, Result.andThen]
theorem exec_look1 {t e : TypeId} {z : Value} (ht : Try.prog.underlying t = some (.map 9 e)) (hz : (zeroValue e).run Try.prog W = .ok z W) (h : IsMap encS W b m) (x : Option Value) (hx : KM.get k m = x) (ho : oi.op = .lookup t p r false) (hm : a.eval p = .map (some b)) (hk : a.eval r = .string k) :
    (execOp a.eval oi).run Try.prog W = .ok (.value (x.getD z)) W := by
  have hk' : a.eval r = encS k := hk
  unfold execOp
  cases x with
  | none => simp [ho, hm, hk', KeyS.run_lookup1_no strT ht hz h k hx, Result.andThen]
  | some v => simp [ho, hm, hk', KeyS.run_lookup1_ok strT ht h k hx, Result.andThen]
theorem exec_upd {t e : TypeId} (ht : Try.prog.underlying t = some (.map 9 e)) (h : IsMap encS W b m) (k : ByteArray) (v : Value) : ∃ V, (∀ {oi : Oper} {a : Act} {p r q : Operand}, oi.op = .mapUpdate t p r q → a.eval p = .map (some b) → a.eval r = .string k → a.eval q = v → (execOp a.eval oi).run Try.prog W = .ok .skip V) ∧
    IsMap encS V b (KM.put k v m) ∧ Turned W V b := by
  obtain ⟨V, h1, h2, h3⟩ := KeyS.run_update strT ht h k v
  refine ⟨V, fun {oi a p r q} ho hp hr hq => ?_, h2, h3⟩
  have hr' : a.eval r = encS k := hr
  unfold execOp
  simp [ho, hp, hr', hq, h1, Result.andThen]
theorem exec_upds {t e : TypeId} (ht : Try.prog.underlying t = some (.map 9 e)) (h : IsMap encS W b m) (hst : Stamp W b) (k : ByteArray) (v : Value) : ∃ V, (∀ {oi : Oper} {a : Act} {p r q : Operand}, oi.op = .mapUpdate t p r q → a.eval p = .map (some b) → a.eval r = .string k → a.eval q = v → (execOp a.eval oi).run Try.prog W = .ok .skip V) ∧
    IsMap encS V b (KM.put k v m) ∧ Turned W V b ∧ Stamp V b := by
  obtain ⟨V, h1, h2, h3, h4⟩ := run_update_st ht h hst k v
  refine ⟨V, fun {oi a p r q} ho hp hr hq => ?_, h2, h3, h4⟩
  have hr' : a.eval r = encS k := hr
  unfold execOp
  simp [ho, hp, hr', hq, h1, Result.andThen]
variable {x : Tg} {d : List (Tg × Value)}
/-- What was done. -/
theorem exec_lookD (h : IsMap encT W b d) (y : Option Value) (hx : KM.get x d = y) (ho : oi.op = .lookup tD p r true) (hm : a.eval p = .map (some b)) (hk : a.eval r = encT x) :
    (execOp a.eval oi).run Try.prog W = .ok (.value (.tuple #[y.getD (encP zeroP), .bool y.isSome])) W := by
  unfold execOp
  cases y with
  | none => simp [ho, hm, hk, run_lookup_no tgtT und_D (zero_D W) h x hx, Result.andThen]
  | some v => simp [ho, hm, hk, run_lookup_ok tgtT und_D h x hx, Result.andThen]
theorem exec_updD (h : IsMap encT W b d) (x : Tg) (v : Value) : ∃ V, (∀ {oi : Oper} {a : Act} {p r q : Operand}, oi.op = .mapUpdate tD p r q → a.eval p = .map (some b) → a.eval r = encT x → a.eval q = v → (execOp a.eval oi).run Try.prog W = .ok .skip V) ∧
    IsMap encT V b (KM.put x v d) ∧ Turned W V b := by
  obtain ⟨V, h1, h2, h3⟩ := run_update tgtT und_D h x v
  refine ⟨V, fun ho hp hr hq => ?_, h2, h3⟩
  unfold execOp
  simp [ho, hp, hr, hq, h1, Result.andThen]
end
theorem Turned.other {W V : World} {b g : Nat} {x : Go.Obj} (h : Turned W V b) (hne : g ≠ b) (hg : W.heap[g]? = some x) : V.heap[g]? = some x := (h.block g hne).trans hg
theorem isMap_turned {κ : Type} [DecidableEq κ] {enc : κ → Value} {W V : World} {b g : Nat} {m : List (κ × Value)} (h : IsMap enc W g m) (ht : Turned W V b) (hne : g ≠ b) : IsMap enc V g m := h.of_heap (ht.block g hne)
/-- A driver in memory: its box, and its four maps, each a block of its own. -/
def DrAt (W : World) (d r v s n : Nat) (R V S : List (ByteArray × Value)) (N : List (Tg × Value)) : Prop :=
  BoxD W d ⟨some r, some v, some s, some n⟩ ∧ IsMap encS W r R ∧ IsMap encS W v V ∧ IsMap encS W s S ∧ IsMap encT W n N ∧ Stamp W v
section
variable {W W' : World} {d r v s n : Nat} {R V S : List (ByteArray × Value)} {N : List (Tg × Value)}
theorem DrAt.box (h : DrAt W d r v s n R V S N) : BoxD W d ⟨some r, some v, some s, some n⟩ := h.1
theorem DrAt.rooms (h : DrAt W d r v s n R V S N) : IsMap encS W r R := h.2.1
theorem DrAt.vols (h : DrAt W d r v s n R V S N) : IsMap encS W v V := h.2.2.1
theorem DrAt.snaps (h : DrAt W d r v s n R V S N) : IsMap encS W s S := h.2.2.2.1
theorem DrAt.done (h : DrAt W d r v s n R V S N) : IsMap encT W n N := h.2.2.2.2.1
theorem DrAt.stamp (h : DrAt W d r v s n R V S N) : Stamp W v := h.2.2.2.2.2
theorem DrAt.after (h : DrAt W d r v s n R V S N) (hb : Below W.heap.size W W') : DrAt W' d r v s n R V S N := ⟨h.box.after hb, h.rooms.after hb, h.vols.after hb, h.snaps.after hb, h.done.after hb, h.stamp.of_heap (hb.block v h.vols.lt)⟩
theorem DrAt.lt (h : DrAt W d r v s n R V S N) : d < W.heap.size ∧ r < W.heap.size ∧ v < W.heap.size ∧ s < W.heap.size ∧ n < W.heap.size := ⟨h.box.lt, h.rooms.lt, h.vols.lt, h.snaps.lt, h.done.lt⟩
/-- Five blocks, none of them another. -/
def Five (d r v s n : Nat) : Prop := d ≠ r ∧ d ≠ v ∧ d ≠ s ∧ d ≠ n ∧ r ≠ v ∧ r ≠ s ∧ r ≠ n ∧ v ≠ s ∧ v ≠ n ∧ s ≠ n
theorem BoxD.turned {x : Dr} {b : Nat} (h : BoxD W d x) (ht : Turned W W' b) (hne : d ≠ b) : BoxD W' d x := (ht.block d hne).trans h
theorem DrAt.putRooms (h : DrAt W d r v s n R V S N) (hf : Five d r v s n) {R' : List (ByteArray × Value)} (ht : Turned W W' r) (hm : IsMap encS W' r R') : DrAt W' d r v s n R' V S N := by
  obtain ⟨h1, h2, h3, h4, h5, h6, h7, h8, h9, h10⟩ := hf
  exact ⟨h.box.turned ht h1, hm, isMap_turned h.vols ht (Ne.symm h5), isMap_turned h.snaps ht (Ne.symm h6), isMap_turned h.done ht (Ne.symm h7), h.stamp.of_heap (ht.block v (Ne.symm h5))⟩
theorem DrAt.putVols (h : DrAt W d r v s n R V S N) (hf : Five d r v s n) {V' : List (ByteArray × Value)} (ht : Turned W W' v) (hm : IsMap encS W' v V') (hst : Stamp W' v) : DrAt W' d r v s n R V' S N := by
  obtain ⟨h1, h2, h3, h4, h5, h6, h7, h8, h9, h10⟩ := hf
  exact ⟨h.box.turned ht h2, isMap_turned h.rooms ht h5, hm, isMap_turned h.snaps ht (Ne.symm h8), isMap_turned h.done ht (Ne.symm h9), hst⟩
theorem DrAt.putSnaps (h : DrAt W d r v s n R V S N) (hf : Five d r v s n) {S' : List (ByteArray × Value)} (ht : Turned W W' s) (hm : IsMap encS W' s S') : DrAt W' d r v s n R V S' N := by
  obtain ⟨h1, h2, h3, h4, h5, h6, h7, h8, h9, h10⟩ := hf
  exact ⟨h.box.turned ht h3, isMap_turned h.rooms ht h6, isMap_turned h.vols ht h8, hm, isMap_turned h.done ht (Ne.symm h10), h.stamp.of_heap (ht.block v h8)⟩
theorem DrAt.putDone (h : DrAt W d r v s n R V S N) (hf : Five d r v s n) {N' : List (Tg × Value)} (ht : Turned W W' n) (hm : IsMap encT W' n N') : DrAt W' d r v s n R V S N' := by
  obtain ⟨h1, h2, h3, h4, h5, h6, h7, h8, h9, h10⟩ := hf
  exact ⟨h.box.turned ht h4, isMap_turned h.rooms ht h7, isMap_turned h.vols ht h9, isMap_turned h.snaps ht h10, hm, h.stamp.of_heap (ht.block v h9)⟩
end
end Go.Proofs.Ytbgfccanbgpjiaa.O.I
