/- Own work. -/
import Derived.Test.YtbgfccanbgpjiaaDJ04
import Derived.Test.YtbgfccanbgpjiaaDJ05
import Derived.Test.YtbgfccanbgpjiaaDICreN
namespace Go.Proofs.Ytbgfccanbgpjiaa.O.I
open Go Go.RowKit Go.Lib KM
structure VolsR (d r v s n B : Nat) (W : World) (l : List DV) (Vo : List (ByteArray × Value)) (ms : ByteArray → Nat) : Prop where
  get : ∀ k, KM.get k Vo = (volOf l k).map fun x => encV ⟨x.size, x.tag, x.zone, some (ms k)⟩
  len : Vo.length = l.length
  once : KM.Once Vo
  node : ∀ k x, volOf l k = some x → ∃ M : List ByteArray, IsMap encS W (ms k) (M.map fun y => (y, .agg #[])) ∧ M.Perm x.nodes ∧ Stamp W (ms k)
  far : ∀ k x, volOf l k = some x → B ≤ ms k ∧ ms k ≠ d ∧ ms k ≠ r ∧ ms k ≠ v ∧ ms k ≠ s ∧ ms k ≠ n
  inj : ∀ k1 k2 x1 x2, volOf l k1 = some x1 → volOf l k2 = some x2 → ms k1 = ms k2 → k1 = k2
structure SnapsR (l : List DS) (So : List (ByteArray × Value)) : Prop where
  get : ∀ k, KM.get k So = (snapOf l k).map fun x => encK ⟨x.size, x.tag⟩
  len : So.length = l.length
  once : KM.Once So
structure SeenR (l : List (Cl × Rs)) (No : List (Tg × Value)) : Prop where
  get : ∀ t : Tg, KM.get t No = (lastOf l t.snap t.name).map fun p => encP ⟨p.1, p.2⟩
  len : No.length = l.length
  once : KM.Once No
structure InvC (C : Core) : Prop where
  vols : OnceV C.vols
  snaps : OnceS C.snaps
  zone : ∀ k x, volOf C.vols k = some x → ∃ z, zoneOf C.zones x.zone = some z
  size : ∀ k x, volOf C.vols k = some x → 0 ≤ x.size ∧ x.size ≤ 1125899906842624
  nodes : ∀ k x, volOf C.vols k = some x → x.nodes.Nodup
section
variable {d r v s n B : Nat} {W V : World} {C : Core} {ms : ByteArray → Nat} {No : List (Tg × Value)}
def CoreR (d r v s n B : Nat) (W : World) (No : List (Tg × Value)) (C : Core) (ms : ByteArray → Nat) : Prop :=
  ∃ Vo So, DrAt W d r v s n (roomsZ C.zones) Vo So No ∧ VolsR d r v s n B W C.vols Vo ms ∧ SnapsR C.snaps So
theorem VolsR.move {l : List DV} {Vo : List (ByteArray × Value)} (h : VolsR d r v s n B W l Vo ms) (hk : ∀ k x, volOf l k = some x → V.heap[ms k]? = W.heap[ms k]?) : VolsR d r v s n B V l Vo ms :=
  ⟨h.get, h.len, h.once, fun k x hx => by
    obtain ⟨M, h1, h2, h3⟩ := h.node k x hx
    exact ⟨M, h1.of_heap (hk k x hx), h2, h3.of_heap (hk k x hx)⟩, h.far, h.inj⟩
theorem VolsR.lt {l : List DV} {Vo : List (ByteArray × Value)} (h : VolsR d r v s n B W l Vo ms) {k : ByteArray} {x : DV} (hx : volOf l k = some x) : ms k < W.heap.size := by
  obtain ⟨M, h1, -, -⟩ := h.node k x hx
  exact h1.lt
theorem CoreR.after (h : CoreR d r v s n B W No C ms) (hb : Below W.heap.size W V) : CoreR d r v s n B V No C ms := by
  obtain ⟨Vo, So, h1, h2, h3⟩ := h
  exact ⟨Vo, So, h1.after hb, h2.move (fun k x hx => hb.block _ (h2.lt hx)), h3⟩
def Mine (r v s : Nat) (C : Core) (ms : ByteArray → Nat) (g : Nat) : Prop := g = r ∨ g = v ∨ g = s ∨ ∃ k x, volOf C.vols k = some x ∧ g = ms k
def OpQ (d r v s n B : Nat) (No : List (Tg × Value)) (res : Rs × Core) (w0 k0 : Nat) (q : Rs) (V : World) : Prop := q = res.1 ∧ ∃ ms', CoreR d r v s n B V No res.2 ms' ∧ ∀ k x, volOf res.2.vols k = some x → ms' k < w0 ∨ k0 ≤ ms' k
def OpA (d r v s n B : Nat) (W : World) (No : List (Tg × Value)) (C : Core) (ms : ByteArray → Nat) (w0 : Nat) (res : Rs × Core) (e : Ending) (V : World) : Prop :=
  ∃ q, e = .returned (encR q) ∧ OpQ d r v s n B No res w0 W.heap.size q V ∧ Fr (Mine r v s C ms) B W V
theorem op_same {w0 : Nat} {q : Rs} {fn : Nat} {args : Array Value} (hC : CoreR d r v s n B W No C ms) (hold : ∀ k x, volOf C.vols k = some x → ms k < w0) (hB : B ≤ W.heap.size)
    (h : Calls Try.prog fn args W fun e w' => e = .returned (encR q) ∧ Below W.heap.size W w') : Calls Try.prog fn args W (OpA d r v s n B W No C ms w0 (q, C)) :=
  h.mono fun _ _ ⟨he, hb⟩ => ⟨q, he, ⟨rfl, ms, hC.after hb, fun k x hx => .inl (hold k x hx)⟩, Fr.of_below hb hB⟩
theorem get_vol {l : List DV} {Vo : List (ByteArray × Value)} (h : VolsR d r v s n B W l Vo ms) {k : ByteArray} {y : Option DV} (hy : volOf l k = y) : KM.get k Vo = y.map fun x => encV ⟨x.size, x.tag, x.zone, some (ms k)⟩ := by
  rw [h.get, hy]
theorem get_snap {l : List DS} {So : List (ByteArray × Value)} (h : SnapsR l So) {k : ByteArray} {y : Option DS} (hy : snapOf l k = y) : KM.get k So = y.map fun x => encK ⟨x.size, x.tag⟩ := by
  rw [h.get, hy]
def keysN (M : List ByteArray) : List (ByteArray × Value) := M.map fun y => (y, .agg #[])
theorem put_keysN (t : ByteArray) : ∀ M : List ByteArray, KM.put t (.agg #[]) (keysN M) = keysN (if memN t M then M else M ++ [t])
  | [] => rfl
  | y :: r => by
    have ih := put_keysN t r
    unfold keysN memN at ih ⊢
    rw [List.map_cons]
    unfold KM.put
    rw [List.any_cons]
    by_cases h : t = y
    · subst h
      rw [if_pos rfl]
      simp
    · rw [if_neg h, ih, decide_eq_false (fun e => h e.symm), Bool.false_or]
      split <;> simp
theorem del_keysN (t : ByteArray) : ∀ M : List ByteArray, M.Nodup → KM.del t (keysN M) = keysN (withoutN t M)
  | [], _ => rfl
  | y :: r, hn => by
    obtain ⟨h1, h2⟩ := List.nodup_cons.1 hn
    have ih := del_keysN t r h2
    unfold keysN withoutN at ih ⊢
    rw [List.map_cons]
    unfold KM.del
    by_cases h : t = y
    · subst h
      rw [if_pos rfl, List.filter_cons_of_neg (by simp)]
      congr 1
      exact (List.filter_eq_self.2 fun a ha => by simpa using fun e : a = t => h1 (e ▸ ha)).symm
    · rw [if_neg h, ih, List.filter_cons_of_pos (by simpa using fun e : y = t => h e.symm), List.map_cons]
theorem memN_iff {t : ByteArray} {M : List ByteArray} : memN t M = true ↔ t ∈ M := by
  unfold memN
  rw [List.any_eq_true]
  constructor
  · rintro ⟨y, hy, he⟩
    rw [← (by simpa using he : y = t)]
    exact hy
  · intro h
    exact ⟨t, h, by simp⟩
theorem withN_mem (t : ByteArray) : ∀ (p : Bool) (l : List ByteArray) (y : ByteArray), y ∈ withN t p l ↔ (y = t ∧ p = false) ∨ (y ∈ l ∧ y ≠ t)
  | p, [], y => by
    unfold withN
    cases p <;> simp
  | p, z :: r, y => by
    have ih := withN_mem t (p || leB t z) r y
    unfold withN
    rw [List.mem_append, List.mem_append, ih]
    by_cases hy : y = t
    · subst hy
      have h2 : ¬ y ∈ (if z = y then [] else [z]) := by
        split
        · simp
        · rename_i h
          simpa using fun e : y = z => h e.symm
      cases p <;> cases leB y z <;> simp [h2]
    · have h1 : ¬ y ∈ (if (!p && leB t z) = true then [t] else []) := by split <;> simp [hy]
      by_cases hz : z = t
      · simp [hz, hy]
      · simp [hz, hy]
theorem withN_nodup (t : ByteArray) : ∀ (p : Bool) (l : List ByteArray), l.Nodup → (withN t p l).Nodup
  | p, [], _ => by
    unfold withN
    cases p <;> simp
  | p, z :: r, hn => by
    obtain ⟨h1, h2⟩ := List.nodup_cons.1 hn
    have ih := withN_nodup t (p || leB t z) r h2
    have hm := withN_mem t (p || leB t z) r
    unfold withN
    rw [List.nodup_append, List.nodup_append]
    refine ⟨⟨by split <;> simp, by split <;> simp, ?_⟩, ih, ?_⟩
    · intro a ha b hb e
      split at ha
      · split at hb
        · cases hb
        · rename_i hz
          have e1 : a = t := by simpa using ha
          have e2 : b = z := by simpa using hb
          exact hz (e2.symm.trans (e.symm.trans e1))
      · cases ha
    · intro a ha b hb e
      rw [← e, hm] at hb
      rcases List.mem_append.1 ha with h3 | h3
      · split at h3
        · rename_i hp
          have e1 : a = t := by simpa using h3
          rcases hb with ⟨-, hb⟩ | ⟨-, hb⟩
          · simp at hp hb
            rw [hp.2] at hb
            cases hb.2
          · exact hb e1
        · cases h3
      · split at h3
        · cases h3
        · rename_i hz
          have e1 : a = z := by simpa using h3
          rcases hb with ⟨hb, -⟩ | ⟨hb, -⟩
          · exact hz (e1.symm.trans hb)
          · exact h1 (e1 ▸ hb)
theorem withoutN_nodup (t : ByteArray) {l : List ByteArray} (h : l.Nodup) : (withoutN t l).Nodup := h.sublist List.filter_sublist
theorem perm_with {t : ByteArray} {M l : List ByteArray} (hp : M.Perm l) (hn : l.Nodup) : (if memN t M then M else M ++ [t]).Perm (withN t false l) := by
  have hM : M.Nodup := hp.nodup_iff.2 hn
  refine (List.perm_ext_iff_of_nodup ?_ (withN_nodup t false l hn)).2 fun a => ?_
  · split
    · exact hM
    · rename_i h
      rw [memN_iff] at h
      rw [List.nodup_append]
      refine ⟨hM, by simp, fun x hx y hy e => ?_⟩
      have : y = t := by simpa using hy
      exact h (this ▸ e ▸ hx)
  · rw [withN_mem]
    split
    · rename_i h
      rw [memN_iff] at h
      rw [hp.mem_iff] at h ⊢
      by_cases ha : a = t
      · subst ha
        simp [h]
      · simp [ha]
    · rename_i h
      rw [memN_iff, hp.mem_iff] at h
      rw [List.mem_append, hp.mem_iff, List.mem_singleton]
      by_cases ha : a = t
      · subst ha
        simp
      · simp [ha]
theorem perm_without {t : ByteArray} {M l : List ByteArray} (hp : M.Perm l) : (withoutN t M).Perm (withoutN t l) := hp.filter _
end
end Go.Proofs.Ytbgfccanbgpjiaa.O.I
