/- Own work. -/
import Derived.Test.YtbgfccanbgpjiaaDJIModOp
import Derived.Test.YtbgfccanbgpjiaaDIDoAll
import Derived.Test.YtbgfccanbgpjiaaDJIPerfN
namespace Go.Proofs.Ytbgfccanbgpjiaa.O.I
open Go Go.RowKit Go.Lib KM
def tgOf (p : Cl × Rs) : Tg := ⟨snapV p.1.verb, p.1.target⟩
def OnceL (l : List (Cl × Rs)) : Prop := (l.map tgOf).Nodup
theorem last_is (p : Cl × Rs) (sn : Bool) (t : ByteArray) : (decide (p.1.target = t) && (snapV p.1.verb == sn)) = decide (tgOf p = ⟨sn, t⟩) := by
  unfold tgOf
  rw [Bool.eq_iff_iff]
  simp [and_comm]
theorem lastOf_some {l : List (Cl × Rs)} {sn : Bool} {t : ByteArray} {p : Cl × Rs} (h : lastOf l sn t = some p) : p ∈ l ∧ tgOf p = ⟨sn, t⟩ := by
  unfold lastOf at h
  refine ⟨List.mem_of_find?_eq_some h, ?_⟩
  have h1 := List.find?_some h
  rw [last_is] at h1
  simpa using h1
theorem lastOf_none {l : List (Cl × Rs)} {sn : Bool} {t : ByteArray} : lastOf l sn t = none ↔ (⟨sn, t⟩ : Tg) ∉ l.map tgOf := by
  unfold lastOf
  rw [List.find?_eq_none, List.mem_map]
  constructor
  · rintro h ⟨x, hx, he⟩
    refine h x hx ?_
    rw [last_is]
    simpa using he
  · intro h x hx he
    rw [last_is] at he
    exact h ⟨x, hx, by simpa using he⟩
theorem del_mem {sn : Bool} {t : ByteArray} : ∀ {l : List (Cl × Rs)} {p : Cl × Rs}, p ∈ delSeen sn t l → p ∈ l
  | q :: r, p, h => by
    unfold delSeen at h
    split at h
    · exact .tail _ h
    · rcases List.mem_cons.1 h with rfl | h
      · exact .head _
      · exact .tail _ (del_mem h)
theorem lastOf_del (sn : Bool) (t : ByteArray) (sn' : Bool) (t' : ByteArray) : ∀ l : List (Cl × Rs), OnceL l → lastOf (delSeen sn t l) sn' t' = if (⟨sn', t'⟩ : Tg) = ⟨sn, t⟩ then none else lastOf l sn' t'
  | [], _ => by
    unfold delSeen lastOf
    split <;> rfl
  | p :: r, ho => by
    obtain ⟨h1, h2⟩ := List.nodup_cons.1 (show (tgOf p :: r.map tgOf).Nodup from ho)
    have ih := lastOf_del sn t sn' t' r h2
    unfold delSeen
    rw [last_is]
    by_cases hp : tgOf p = ⟨sn, t⟩
    · rw [if_pos (by simpa using hp)]
      by_cases h : (⟨sn', t'⟩ : Tg) = ⟨sn, t⟩
      · rw [if_pos h, lastOf_none, h, ← hp]
        exact h1
      · rw [if_neg h]
        unfold lastOf
        rw [List.find?_cons_of_neg]
        rw [last_is]
        simpa using fun e => h (e.symm.trans hp)
    · rw [if_neg (by simpa using hp)]
      unfold lastOf at ih ⊢
      by_cases h : tgOf p = ⟨sn', t'⟩
      · rw [List.find?_cons_of_pos (by rw [last_is]; simpa using h), List.find?_cons_of_pos (by rw [last_is]; simpa using h), if_neg (fun e => hp (h.trans e))]
      · rw [List.find?_cons_of_neg (by rw [last_is]; simpa using h), List.find?_cons_of_neg (l := r) (a := p) (by rw [last_is]; simpa using h), ih]
theorem lastOf_app (l : List (Cl × Rs)) (p : Cl × Rs) (sn : Bool) (t : ByteArray) : lastOf (l ++ [p]) sn t = match lastOf l sn t with
    | some q => some q
    | none => if tgOf p = ⟨sn, t⟩ then some p else none := by
  unfold lastOf
  rw [List.find?_append]
  cases List.find? (fun p => decide (p.1.target = t) && (snapV p.1.verb == sn)) l with
  | some q => rfl
  | none =>
    rw [Option.none_or]
    by_cases h : tgOf p = ⟨sn, t⟩
    · rw [if_pos h, List.find?_cons_of_pos (by rw [last_is]; simpa using h)]
    · rw [if_neg h, List.find?_cons_of_neg (by rw [last_is]; simpa using h)]
      rfl
theorem lastOf_run (l : List (Cl × Rs)) (ho : OnceL l) (c : Cl) (q : Rs) (t : Tg) : lastOf (delSeen (snapV c.verb) c.target l ++ [(c, q)]) t.snap t.name = if t = tgOf (c, q) then some (c, q) else lastOf l t.snap t.name := by
  rw [lastOf_app, lastOf_del _ _ _ _ _ ho]
  by_cases h : t = tgOf (c, q)
  · rw [if_pos (show (⟨t.snap, t.name⟩ : Tg) = ⟨snapV c.verb, c.target⟩ from h), if_pos h]
    exact if_pos h.symm
  · rw [if_neg h, if_neg (show ¬ (⟨t.snap, t.name⟩ : Tg) = ⟨snapV c.verb, c.target⟩ from h)]
    cases lastOf l t.snap t.name with
    | some p => rfl
    | none => exact if_neg (fun e => h e.symm)
theorem length_del2 (sn : Bool) (t : ByteArray) : ∀ l : List (Cl × Rs), (delSeen sn t l).length = if (lastOf l sn t).isSome then l.length - 1 else l.length
  | [] => rfl
  | p :: r => by
    have ih := length_del2 sn t r
    unfold delSeen
    rw [last_is]
    by_cases hp : tgOf p = ⟨sn, t⟩
    · rw [if_pos (by simpa using hp)]
      unfold lastOf
      rw [List.find?_cons_of_pos (by rw [last_is]; simpa using hp)]
      rfl
    · rw [if_neg (by simpa using hp), List.length_cons, ih]
      unfold lastOf
      rw [List.find?_cons_of_neg (by rw [last_is]; simpa using hp)]
      cases hv : List.find? (fun p => decide (p.1.target = t) && (snapV p.1.verb == sn)) r with
      | none => rfl
      | some z =>
        have := List.length_pos_of_mem (List.mem_of_find?_eq_some hv)
        simp only [Option.isSome_some, if_true, List.length_cons]
        omega
theorem OnceL.del {sn : Bool} {t : ByteArray} : ∀ {l : List (Cl × Rs)}, OnceL l → OnceL (delSeen sn t l)
  | [], h => h
  | p :: r, ho => by
    obtain ⟨h1, h2⟩ := List.nodup_cons.1 (show (tgOf p :: r.map tgOf).Nodup from ho)
    unfold delSeen
    split
    · exact h2
    · refine List.nodup_cons.2 ⟨fun h => ?_, OnceL.del h2⟩
      obtain ⟨q, hq, he⟩ := List.mem_map.1 h
      exact h1 (List.mem_map.2 ⟨q, del_mem hq, he⟩)
theorem OnceL.run {l : List (Cl × Rs)} (ho : OnceL l) (c : Cl) (q : Rs) : OnceL (delSeen (snapV c.verb) c.target l ++ [(c, q)]) := by
  unfold OnceL
  rw [List.map_append, List.nodup_append]
  refine ⟨ho.del, by simp, fun a ha b hb e => ?_⟩
  have hb' : b = tgOf (c, q) := by simpa using hb
  have hn : lastOf (delSeen (snapV c.verb) c.target l) (snapV c.verb) c.target = none := by rw [lastOf_del _ _ _ _ _ ho, if_pos rfl]
  rw [lastOf_none] at hn
  exact hn (by rw [← show a = (⟨snapV c.verb, c.target⟩ : Tg) from e.trans hb']; exact ha)
theorem SeenR.run {l : List (Cl × Rs)} {No : List (Tg × Value)} (h : SeenR l No) (ho : OnceL l) (c : Cl) (q : Rs) : SeenR (delSeen (snapV c.verb) c.target l ++ [(c, q)]) (KM.put ⟨snapV c.verb, c.target⟩ (encP ⟨c, q⟩) No) := by
  refine ⟨fun t => ?_, ?_, h.once.put⟩
  · rw [KM.get_put, lastOf_run l ho]
    by_cases e : t = ⟨snapV c.verb, c.target⟩
    · rw [if_pos e, if_pos (show t = tgOf (c, q) from e)]
      rfl
    · rw [if_neg e, if_neg (show ¬ t = tgOf (c, q) from e)]
      exact h.get t
  · rw [length_put, List.length_append, length_del2, h.len, h.get ⟨snapV c.verb, c.target⟩]
    show _ = _ + 1
    cases hv : lastOf l (snapV c.verb) c.target with
    | none => rfl
    | some z =>
      have := List.length_pos_of_mem (lastOf_some hv).1
      simp only [Option.map_some, Option.isSome_some, if_true]
      omega
theorem zoneOf_mod (k q : ByteArray) (f : Int → Int) : ∀ l : List Zn, (zoneOf (modZ k f l) q).isSome = (zoneOf l q).isSome
  | [] => rfl
  | z :: r => by
    have ih := zoneOf_mod k q f r
    unfold zoneOf at ih ⊢
    unfold modZ
    by_cases hz : z.name = k
    · rw [if_pos hz]
      by_cases h : z.name = q
      · rw [List.find?_cons_of_pos (by simpa using h), List.find?_cons_of_pos (by simpa using h)]
        rfl
      · rw [List.find?_cons_of_neg (by simpa using h), List.find?_cons_of_neg (by simpa using h)]
    · rw [if_neg hz]
      by_cases h : z.name = q
      · rw [List.find?_cons_of_pos (by simpa using h), List.find?_cons_of_pos (by simpa using h)]
      · rw [List.find?_cons_of_neg (by simpa using h), List.find?_cons_of_neg (l := r) (a := z) (by simpa using h), ih]
theorem zone_mod {k q : ByteArray} {f : Int → Int} {l : List Zn} (h : ∃ z, zoneOf l q = some z) : ∃ z, zoneOf (modZ k f l) q = some z := by
  have h1 := zoneOf_mod k q f l
  obtain ⟨z, hz⟩ := h
  rw [hz] at h1
  exact Option.isSome_iff_exists.1 h1
theorem names_modV (t : ByteArray) (f : DV → DV) (hf : ∀ x, (f x).name = x.name) : ∀ l : List DV, (modV t f l).map (·.name) = l.map (·.name)
  | [] => rfl
  | x :: r => by
    unfold modV
    split
    · rw [List.map_cons, List.map_cons, hf]
    · rw [List.map_cons, List.map_cons, names_modV t f hf r]
theorem names_delV (t : ByteArray) : ∀ l : List DV, ((delV t l).map (·.name)).Sublist (l.map (·.name))
  | [] => List.Sublist.refl _
  | x :: r => by
    unfold delV
    split
    · exact List.sublist_cons_self _ _
    · exact (names_delV t r).cons_cons _
theorem names_delS (t : ByteArray) : ∀ l : List DS, ((delS t l).map (·.name)).Sublist (l.map (·.name))
  | [] => List.Sublist.refl _
  | x :: r => by
    unfold delS
    split
    · exact List.sublist_cons_self _ _
    · exact (names_delS t r).cons_cons _
theorem names_insV (x : DV) : ∀ l : List DV, ((insV x l).map (·.name)).Perm (x.name :: l.map (·.name))
  | [] => List.Perm.refl _
  | y :: r => by
    unfold insV
    split
    · exact List.Perm.refl _
    · exact ((names_insV x r).cons y.name).trans (List.Perm.swap _ _ _)
theorem names_insS (x : DS) : ∀ l : List DS, ((insS x l).map (·.name)).Perm (x.name :: l.map (·.name))
  | [] => List.Perm.refl _
  | y :: r => by
    unfold insS
    split
    · exact List.Perm.refl _
    · exact ((names_insS x r).cons y.name).trans (List.Perm.swap _ _ _)
theorem right_size {c : Cl} (h : rightB c = true) : 0 ≤ c.size ∧ c.size ≤ 1125899906842624 := by
  unfold rightB at h
  simp only [Bool.and_eq_true] at h
  have := h.1.1.2
  unfold inR at this
  simpa using this
theorem InvC.mod {C : Core} (h : InvC C) {t : ByteArray} {zs : List Zn} (f : DV → DV) (hf : ∀ x, (f x).name = x.name ∧ (f x).zone = x.zone) (hz : ∀ q, (∃ z, zoneOf C.zones q = some z) → ∃ z, zoneOf zs q = some z)
    (hs : ∀ x, volOf C.vols t = some x → 0 ≤ (f x).size ∧ (f x).size ≤ 1125899906842624) (hn : ∀ x, volOf C.vols t = some x → (f x).nodes.Nodup) : InvC ⟨zs, modV t f C.vols, C.snaps⟩ := by
  have hm := fun k => volOf_mod t k f (fun x => (hf x).1) C.vols
  have hd : ∀ {k : ByteArray} {y : DV}, volOf (modV t f C.vols) k = some y → volOf C.vols k = some y ∨ ∃ x, volOf C.vols t = some x ∧ y = f x := fun {k y} hy => by
    rw [hm] at hy
    split at hy
    · obtain ⟨x, hx, rfl⟩ := Option.map_eq_some_iff.1 hy
      exact .inr ⟨x, hx, rfl⟩
    · exact .inl hy
  refine ⟨?_, h.snaps, fun k y hy => ?_, fun k y hy => ?_, fun k y hy => ?_⟩
  · show (List.map _ (modV t f C.vols)).Nodup
    rw [names_modV t f (fun x => (hf x).1)]
    exact h.vols
  · rcases hd hy with h1 | ⟨x, h1, rfl⟩
    · exact hz _ (h.zone k y h1)
    · rw [(hf x).2]
      exact hz _ (h.zone t x h1)
  · rcases hd hy with h1 | ⟨x, h1, rfl⟩
    · exact h.size k y h1
    · exact hs x h1
  · rcases hd hy with h1 | ⟨x, h1, rfl⟩
    · exact h.nodes k y h1
    · exact hn x h1
theorem InvC.perf {C : Core} (h : InvC C) {c : Cl} (hri : rightB c = true) : InvC (perfC C c).2 := by
  have hsz := right_size hri
  unfold perfC
  split
  · unfold createC
    split
    · split <;> exact h
    · rename_i hx
      split
      · exact h
      · rename_i z hz
        split
        · exact h
        · rename_i k hk
          split
          · exact h
          · split
            · exact h
            · split
              · exact h
              · have hi := fun q => volOf_ins ⟨c.target, c.size, c.zone, k.tag, []⟩ q C.vols hx
                refine ⟨?_, h.snaps, fun q y hy => ?_, fun q y hy => ?_, fun q y hy => ?_⟩
                · show (List.map _ (insV _ C.vols)).Nodup
                  rw [(names_insV _ C.vols).nodup_iff, List.nodup_cons]
                  exact ⟨volOf_none.1 hx, h.vols⟩
                · have hy' : volOf (insV _ C.vols) q = some y := hy
                  rw [hi] at hy'
                  split at hy'
                  · cases hy'
                    exact zone_mod ⟨z, hz⟩
                  · exact zone_mod (h.zone q y hy')
                · have hy' : volOf (insV _ C.vols) q = some y := hy
                  rw [hi] at hy'
                  split at hy'
                  · cases hy'
                    exact hsz
                  · exact h.size q y hy'
                · have hy' : volOf (insV _ C.vols) q = some y := hy
                  rw [hi] at hy'
                  split at hy'
                  · cases hy'
                    exact List.nodup_nil
                  · exact h.nodes q y hy'
  · split
    · unfold eraseC
      split
      · exact h
      · rename_i x hx
        split
        · have hd : ∀ {k : ByteArray} {y : DV}, volOf (delV c.target C.vols) k = some y → volOf C.vols k = some y := fun {k y} hy => by
            rw [volOf_del _ k _ h.vols] at hy
            split at hy
            · cases hy
            · exact hy
          exact ⟨h.vols.sublist (names_delV _ _), h.snaps, fun q y hy => zone_mod (h.zone q y (hd hy)), fun q y hy => h.size q y (hd hy), fun q y hy => h.nodes q y (hd hy)⟩
        · exact h
    · split
      · unfold publishC
        split
        · exact h
        · exact h.mod _ (fun _ => ⟨rfl, rfl⟩) (fun _ h => h) (fun x hx => h.size _ x hx) (fun x hx => withN_nodup _ _ _ (h.nodes _ x hx))
      · split
        · unfold unpublishC
          split
          · exact h
          · exact h.mod _ (fun _ => ⟨rfl, rfl⟩) (fun _ h => h) (fun x hx => h.size _ x hx) (fun x hx => withoutN_nodup _ (h.nodes _ x hx))
        · split
          · unfold expandC
            split
            · exact h
            · split
              · exact h
              · split
                · exact h
                · split
                  · exact h
                  · exact h.mod _ (fun _ => ⟨rfl, rfl⟩) (fun _ h => zone_mod h) (fun x hx => hsz) (fun x hx => h.nodes _ x hx)
          · split
            · unfold cutC
              split
              · exact h
              · rename_i hk
                split
                · exact h
                · split
                  · exact h
                  · refine ⟨h.vols, ?_, h.zone, h.size, h.nodes⟩
                    show (List.map _ (insS _ C.snaps)).Nodup
                    rw [(names_insS _ C.snaps).nodup_iff, List.nodup_cons]
                    exact ⟨snapOf_none.1 hk, h.snaps⟩
            · exact ⟨h.vols, h.snaps.sublist (names_delS _ _), h.zone, h.size, h.nodes⟩
structure PAt (d r v s n B : Nat) (W : World) (S : St) : Prop where
  five : Five d r v s n
  low : B ≤ r ∧ B ≤ v ∧ B ≤ s ∧ B ≤ n
  inv : InvC S.core
  once : OnceL S.seen
  rel : ∃ No ms, CoreR d r v s n B W No S.core ms ∧ SeenR S.seen No
def CellsStay (W V : World) : Prop := ∀ (g : Nat) (cs : Array Value) (t : TypeId) (f : Nat × Nat), W.heap[g]? = some (Go.Obj.cells cs t f) → V.heap[g]? = some (Go.Obj.cells cs t f)
theorem CellsStay.of_below {W V : World} (h : Below W.heap.size W V) : CellsStay W V := fun g _ _ _ hg => (h.block g (Array.getElem?_eq_some_iff.1 hg).1).trans hg
theorem CellsStay.trans {W V U : World} (h : CellsStay W V) (h2 : CellsStay V U) : CellsStay W U := fun g cs t f hg => h2 g cs t f (h g cs t f hg)
theorem no_map {κ : Type} {enc : κ → Value} {W : World} {g : Nat} {m : List (κ × Value)} {cs : Array Value} {t : TypeId} {f : Nat × Nat} (h : IsMap enc W g m) (hg : W.heap[g]? = some (Go.Obj.cells cs t f)) : False := by
  obtain ⟨es, clock, hb, -⟩ := h
  rw [hb] at hg
  cases hg
section
variable {d r v s n B : Nat} {W : World} {S : St}
theorem PAt.after {V : World} (h : PAt d r v s n B W S) (hb : Below W.heap.size W V) : PAt d r v s n B V S := by
  obtain ⟨No, ms, h1, h2⟩ := h.rel
  exact ⟨h.five, h.low, h.inv, h.once, No, ms, h1.after hb, h2⟩
theorem PAt.lt (h : PAt d r v s n B W S) : d < W.heap.size ∧ r < W.heap.size ∧ v < W.heap.size ∧ s < W.heap.size ∧ n < W.heap.size := by
  obtain ⟨No, ms, ⟨Vo, So, hd, -⟩, -⟩ := h.rel
  exact hd.lt
def DoQ (d r v s n B : Nat) (W : World) (res : Rs × St) (e : Ending) (V : World) : Prop := e = .returned (encR res.1) ∧ PAt d r v s n B V res.2 ∧ Below B W V ∧ CellsStay W V
theorem do_model (h : PAt d r v s n B W S) (c : Cl) : Calls Try.prog 24 #[.pointer (some ⟨d, 0, none⟩), encC c] W (DoQ d r v s n B W (doS S c)) := by
  obtain ⟨No, ms, hC, hN⟩ := h.rel
  obtain ⟨Vo, So, hd, hv, hs⟩ := id hC
  have hlt := hd.lt
  have hBW : B ≤ W.heap.size := by have := h.low.1; omega
  have same : ∀ {q : Rs}, Calls Try.prog 24 #[.pointer (some ⟨d, 0, none⟩), encC c] W (fun e w' => e = .returned (encR q) ∧ Below W.heap.size W w') → Calls Try.prog 24 #[.pointer (some ⟨d, 0, none⟩), encC c] W (DoQ d r v s n B W (q, S)) := fun hc =>
    hc.mono fun e V ⟨he, hb⟩ => ⟨he, h.after hb, hb.mono hBW, CellsStay.of_below hb⟩
  cases hri : rightB c with
  | false =>
    rw [show doS S c = (errR 2, S) by unfold doS; rw [if_pos hri]]
    exact same (d_bad d c W hri)
  | true =>
    -- a call that is performed
    have run : (∀ T T2 : Rs → World → Prop, ∀ D : Nat → Prop,
        (∀ V1, Below W.heap.size W V1 → W.heap.size + 1 < V1.heap.size → Calls Try.prog 50 #[.pointer (some ⟨d, 0, none⟩), encC c] V1 fun e V => ∃ r, e = .returned (encR r) ∧ T r V ∧ Fr D B V1 V) →
        (∀ g, D g → g < W.heap.size ∧ g ≠ d ∧ g ≠ n) → (∀ r V V', T r V → (∀ g, g < V.heap.size → g ≠ W.heap.size + 1 → g ≠ n → V'.heap[g]? = V.heap[g]?) → IsMap encT V' n (KM.put ⟨snapV c.verb, c.target⟩ (encP ⟨c, r⟩) No) → T2 r V') →
        Calls Try.prog 24 #[.pointer (some ⟨d, 0, none⟩), encC c] W fun e w' => ∃ r, e = .returned (encR r) ∧ T2 r w' ∧ Fr (fun g => D g ∨ g = n) B W w') →
        Calls Try.prog 24 #[.pointer (some ⟨d, 0, none⟩), encC c] W (DoQ d r v s n B W (runS S c)) := fun hgen => by
      obtain ⟨f1, f2, f3, f4, f5, f6, f7, f8, f9, f10⟩ := h.five
      refine (hgen (fun q V => q = (perfC S.core c).1 ∧ ∃ ms', CoreR d r v s n B V No (perfC S.core c).2 ms' ∧ ∀ k x, volOf (perfC S.core c).2.vols k = some x → ms' k ≠ W.heap.size + 1)
        (fun q V => q = (perfC S.core c).1 ∧ ∃ ms', CoreR d r v s n B V (KM.put ⟨snapV c.verb, c.target⟩ (encP ⟨c, q⟩) No) (perfC S.core c).2 ms') (Mine r v s S.core ms) ?_ ?_ ?_).mono ?_
      · intro V1 hb1 h1
        refine (mod_perform (w0 := W.heap.size) h.five ⟨h.low.1, h.low.2.1, h.low.2.2.1, by omega⟩ (hC.after hb1) (fun k x hx => hv.lt hx) h.inv c hri (fun k x hx => by have := hv.lt hx; omega) (by omega)).mono ?_
        rintro e V ⟨q, he, ⟨hq, ms', hc', hn⟩, hfr⟩
        refine ⟨q, he, ⟨hq, ms', hc', fun k x hx => ?_⟩, hfr⟩
        rcases hn k x hx with h2 | h2 <;> omega
      · rintro g (rfl | rfl | rfl | ⟨k, x, hx, rfl⟩)
        · exact ⟨hlt.2.1, fun e => f1 e.symm, f7⟩
        · exact ⟨hlt.2.2.1, fun e => f2 e.symm, f9⟩
        · exact ⟨hlt.2.2.2.1, fun e => f3 e.symm, f10⟩
        · obtain ⟨-, k1, -, -, -, k5⟩ := hv.far k x hx
          exact ⟨hv.lt hx, k1, k5⟩
      · rintro q V V' ⟨hq, ms', ⟨Vo', So', hd', hv', hs'⟩, hn'⟩ hk hm
        obtain ⟨l1, l2, l3, l4, l5⟩ := hd'.lt
        refine ⟨hq, ms', Vo', So', ⟨(hk d l1 (by omega) f4).trans hd'.box, hd'.rooms.of_heap (hk r l2 (by omega) f7), hd'.vols.of_heap (hk v l3 (by omega) f9), hd'.snaps.of_heap (hk s l4 (by omega) f10), hm, hd'.stamp.of_heap (hk v l3 (by omega) f9), hd'.stampS.of_heap (hk s l4 (by omega) f10)⟩, hv'.move (fun k x hx => hk _ (hv'.lt hx) (hn' k x hx) (hv'.far k x hx).2.2.2.2.2), hs'⟩
      · rintro e V ⟨q, rfl, ⟨rfl, ms', hc'⟩, hfr⟩
        refine ⟨rfl, ⟨h.five, h.low, h.inv.perf hri, h.once.run c _, _, ms', hc', hN.run h.once c _⟩, hfr.2, fun g cs t f hg => ?_⟩
        refine (hfr.1 g (Array.getElem?_eq_some_iff.1 hg).1 ?_).trans hg
        rintro ((rfl | rfl | rfl | ⟨k, x, hx, rfl⟩) | rfl)
        · exact no_map hd.rooms hg
        · exact no_map hd.vols hg
        · exact no_map hd.snaps hg
        · obtain ⟨M, h1, -⟩ := hv.node k x hx
          exact no_map h1 hg
        · exact no_map hd.done hg
    have hg := hN.get ⟨snapV c.verb, c.target⟩
    cases hp : lastOf S.seen (snapV c.verb) c.target with
    | none =>
      have hg' : KM.get ⟨snapV c.verb, c.target⟩ No = none := by rw [hg]; show Option.map _ (lastOf S.seen (snapV c.verb) c.target) = _; rw [hp]; rfl
      by_cases hl : 256 ≤ S.seen.length
      · rw [show doS S c = (errR 7, S) by unfold doS; rw [if_neg (by rw [hri]; decide), hp]; exact if_pos hl]
        exact same (d_full d r v s n _ Vo So No c _ W hd rfl hg' hri (by rw [hN.len]; omega))
      · rw [show doS S c = runS S c by unfold doS; rw [if_neg (by rw [hri]; decide), hp]; exact if_neg hl]
        exact run (fun T T2 D h1 h2 h3 => d_first B d r v s n _ Vo So No c _ W T T2 D h1 h2 h.five.2.2.2.1 ⟨h.low.2.2.2, hBW⟩ h3 hd rfl hg' hri (by rw [hN.len]; omega))
    | some p =>
      have hg' : KM.get ⟨snapV c.verb, c.target⟩ No = some (encP ⟨p.1, p.2⟩) := by rw [hg]; show Option.map _ (lastOf S.seen (snapV c.verb) c.target) = _; rw [hp]; rfl
      by_cases h1 : c.num < p.1.num
      · rw [show doS S c = (errR 9, S) by unfold doS; rw [if_neg (by rw [hri]; decide), hp]; exact if_pos h1]
        exact same (d_stale d r v s n _ Vo So No c _ W p.1 p.2 hd rfl hg' hri h1)
      · by_cases h2 : c.num = p.1.num
        · by_cases h3 : c = p.1
          · rw [show doS S c = (p.2, S) by unfold doS; rw [if_neg (by rw [hri]; decide), hp]; dsimp only; rw [if_neg h1, if_pos h2]; exact if_pos h3]
            rw [← h3] at hg'
            exact same (d_same d r v s n _ Vo So No c _ W p.2 hd rfl hg' hri)
          · rw [show doS S c = (errR 6, S) by unfold doS; rw [if_neg (by rw [hri]; decide), hp]; dsimp only; rw [if_neg h1, if_pos h2]; exact if_neg h3]
            exact same (d_conflict d r v s n _ Vo So No c _ W p.1 p.2 hd rfl hg' hri h2 h3)
        · rw [show doS S c = runS S c by unfold doS; rw [if_neg (by rw [hri]; decide), hp]; dsimp only; rw [if_neg h1]; exact if_neg h2]
          exact run (fun T T2 D k1 k2 k3 => d_newer B d r v s n _ Vo So No c _ W p.1 p.2 T T2 D k1 k2 h.five.2.2.2.1 ⟨h.low.2.2.2, hBW⟩ k3 hd rfl hg' hri (by omega))
end
end Go.Proofs.Ytbgfccanbgpjiaa.O.I
namespace Go.Proofs.Ytbgfccanbgpjiaa.O.I
open Go Go.RowKit Go.Lib KM
attribute [local go_sem] Oper.semAt_some
theorem get_keysN (t : ByteArray) : ∀ M : List ByteArray, KM.get t (keysN M) = if memN t M then some (.agg #[]) else none
  | [] => rfl
  | y :: r => by
    have ih := get_keysN t r
    unfold keysN memN at ih ⊢
    rw [List.map_cons, List.any_cons]
    unfold KM.get
    by_cases h : t = y
    · subst h
      rw [if_pos rfl]
      simp
    · rw [if_neg h, ih, decide_eq_false (fun e => h e.symm), Bool.false_or]
theorem memN_perm {t : ByteArray} {M l : List ByteArray} (h : M.Perm l) : memN t M = memN t l := by
  rw [Bool.eq_iff_iff, memN_iff, memN_iff]
  exact h.mem_iff
theorem InvC.put {C : Core} (h : InvC C) (t node : ByteArray) (tag : Int) : InvC (putS C t node tag).2 := by
  unfold putS
  split
  · exact h
  · split
    · exact h.mod _ (fun _ => ⟨rfl, rfl⟩) (fun _ h => h) (fun x hx => h.size _ x hx) (fun x hx => h.nodes _ x hx)
    · exact h
section
variable {d r v s n B : Nat} {W : World} {S : St}
theorem put_model (h : PAt d r v s n B W S) (t node : ByteArray) (tag : Int) : Calls Try.prog 30 #[.pointer (some ⟨d, 0, none⟩), .string t, .string node, .int .u64 tag] W fun e V => e = .returned (.int .i64 (putS S.core t node tag).1) ∧ PAt d r v s n B V ⟨(putS S.core t node tag).2, S.seen⟩ ∧ Below B W V ∧ CellsStay W V := by
  obtain ⟨No, ms, hC, hN⟩ := h.rel
  obtain ⟨Vo, So, hd, hv, hs⟩ := id hC
  have hlt := hd.lt
  have hBW : B ≤ W.heap.size := by have := h.low.1; omega
  have same : ∀ {x : Int}, Calls Try.prog 30 #[.pointer (some ⟨d, 0, none⟩), .string t, .string node, .int .u64 tag] W (fun e w' => e = .returned (.int .i64 x) ∧ Below W.heap.size W w') → Calls Try.prog 30 #[.pointer (some ⟨d, 0, none⟩), .string t, .string node, .int .u64 tag] W fun e V => e = .returned (.int .i64 x) ∧ PAt d r v s n B V ⟨S.core, S.seen⟩ ∧ Below B W V ∧ CellsStay W V := fun hc =>
    hc.mono fun e V ⟨he, hb⟩ => ⟨he, h.after hb, hb.mono hBW, CellsStay.of_below hb⟩
  cases hx : volOf S.core.vols t with
  | none =>
    rw [show putS S.core t node tag = (5, S.core) by unfold putS; rw [hx]]
    exact same (put_none d r v s n _ Vo So No t node tag W hd (get_vol hv hx))
  | some x =>
    obtain ⟨M, hm, hp, hst⟩ := hv.node t x hx
    cases hmem : memN node x.nodes with
    | false =>
      rw [show putS S.core t node tag = (10, S.core) by unfold putS; rw [hx]; dsimp only; rw [hmem]; rfl]
      exact same (put_busy d r v s n _ Vo So No t node tag W ⟨x.size, x.tag, x.zone, some (ms t)⟩ (ms t) _ hd (get_vol hv hx) rfl hm (by
        rw [show (M.map fun y => (y, (Value.agg #[]))) = keysN M from rfl, get_keysN, memN_perm hp, hmem]
        rfl))
    | true =>
      have e : putS S.core t node tag = (0, ⟨S.core.zones, modV t (fun y => ⟨y.name, y.size, y.zone, tag, y.nodes⟩) S.core.vols, S.core.snaps⟩) := by unfold putS; rw [hx]; dsimp only; rw [hmem]; rfl
      have hinv := h.inv.put t node tag
      rw [e] at hinv ⊢
      refine (put_ok B d r v s n _ Vo So No t node tag W ⟨x.size, x.tag, x.zone, some (ms t)⟩ (ms t) _ hd h.five (get_vol hv hx) rfl hm (by
        rw [show (M.map fun y => (y, (Value.agg #[]))) = keysN M from rfl, get_keysN, memN_perm hp, hmem]
        rfl) ⟨h.low.2.1, hBW⟩).mono ?_
      rintro e V ⟨rfl, hd2, hfr⟩
      have hk : ∀ k y, volOf S.core.vols k = some y → V.heap[ms k]? = W.heap[ms k]? := fun k y hy => hfr.1 _ (hv.lt hy) (hv.far k y hy).2.2.2.1
      refine ⟨rfl, ⟨h.five, h.low, hinv, h.once, No, ms, ⟨_, So, hd2, hv.mod (fun y => ⟨y.name, y.size, y.zone, tag, y.nodes⟩) (fun _ => ⟨rfl, rfl⟩) hx hk, hs⟩, hN⟩, hfr.2, fun g cs ty f hg => ?_⟩
      refine (hfr.1 g (Array.getElem?_eq_some_iff.1 hg).1 ?_).trans hg
      rintro rfl
      exact no_map hd.vols hg
theorem room_model (h : PAt d r v s n B W S) (k : ByteArray) : Calls Try.prog 21 #[.pointer (some ⟨d, 0, none⟩), .string k] W fun e w' => e = .returned (.tuple #[.int .i64 (((zoneOf S.core.zones k).map (·.room)).getD 0), .bool (zoneOf S.core.zones k).isSome]) ∧ Below W.heap.size W w' := by
  obtain ⟨No, ms, ⟨Vo, So, hd, -⟩, -⟩ := h.rel
  refine (room_any k _ (rooms_of S.core.zones k) W hd).mono ?_
  rintro e w' ⟨rfl, rfl⟩
  refine ⟨?_, Below.refl _ _⟩
  cases zoneOf S.core.zones k <;> rfl
theorem seen_model (h : PAt d r v s n B W S) (vb : Int) (k : ByteArray) : Calls Try.prog 27 #[.pointer (some ⟨d, 0, none⟩), .int .u8 vb, .string k] W fun e w' => e = .returned (.int .u64 (((lastOf S.seen (snapV vb) k).map (·.1.num)).getD 0)) ∧ Below W.heap.size W w' := by
  obtain ⟨No, ms, ⟨Vo, So, hd, -⟩, hN⟩ := h.rel
  have hg : KM.get ⟨snapV vb, k⟩ No = (lastOf S.seen (snapV vb) k).map fun p => encP ⟨p.1, p.2⟩ := hN.get ⟨snapV vb, k⟩
  cases hl : lastOf S.seen (snapV vb) k with
  | none => exact seen_any d r v s n _ Vo So No vb k zeroP (by rw [hg, hl]; rfl) W hd
  | some p => exact seen_any d r v s n _ Vo So No vb k ⟨p.1, p.2⟩ (by rw [hg, hl]; rfl) W hd
end
end Go.Proofs.Ytbgfccanbgpjiaa.O.I
namespace Go.Proofs.Ytbgfccanbgpjiaa.O.I
open Go Go.RowKit Go.Lib KM
attribute [local go_sem] Oper.semAt_some
theorem less_data (x : List UInt8) : ∀ y : List UInt8, Op.bytesLess x y = decide (x < y) := O.less_list x
def ltK (a b : ByteArray) : Prop := a.data.toList < b.data.toList
theorem less_ltK (a b : ByteArray) : Op.bytesLess a.toList b.toList = true ↔ ltK a b := by
  rw [less_data, Lib.toList_data, Lib.toList_data]
  unfold ltK
  simp
theorem ltK_trans {a b c : ByteArray} (h : ltK a b) (h2 : ltK b c) : ltK a c := List.lt_trans h h2
theorem ltK_irr {a : ByteArray} (h : ltK a a) : False := List.lt_irrefl _ h
theorem ltK_total {a b : ByteArray} (h : ¬ ltK a b) (hne : a ≠ b) : ltK b a := by
  rcases O.bytes_total a.data.toList b.data.toList with h1 | h1 | h1
  · exact absurd h1 h
  · exact absurd (ba_ext h1) hne
  · exact h1
theorem nm_size {s : ByteArray} (h : nm s = true) : s.size ≤ 40 := by
  unfold nm O.nameB at h
  simp only [Bool.and_eq_true, decide_eq_true_eq] at h
  have := h.1.2
  show s.data.size ≤ 40
  rw [← Array.length_toList]
  exact this
structure Good (j : Nat) (C : Core) : Prop where
  sv : SortedK (C.vols.map (·.name))
  ss : SortedK (C.snaps.map (·.name))
  nodes : ∀ x ∈ C.vols, SortedK x.nodes ∧ x.nodes.length ≤ j ∧ ∀ y ∈ x.nodes, nm y = true
  nameV : ∀ x ∈ C.vols, nm x.name = true
  nameS : ∀ x ∈ C.snaps, nm x.name = true
theorem Good.weak {j k : Nat} {C : Core} (h : Good j C) (hjk : j ≤ k) : Good k C := ⟨h.sv, h.ss, fun x hx => ⟨(h.nodes x hx).1, Nat.le_trans (h.nodes x hx).2.1 hjk, (h.nodes x hx).2.2⟩, h.nameV, h.nameS⟩
theorem insV_mem {x y : DV} : ∀ {l : List DV}, y ∈ insV x l → y = x ∨ y ∈ l
  | [], h => .inl (by simpa [insV] using h)
  | z :: r, h => by
    unfold insV at h
    split at h
    · rcases List.mem_cons.1 h with h | h
      · exact .inl h
      · exact .inr h
    · rcases List.mem_cons.1 h with h | h
      · exact .inr (h ▸ .head _)
      · rcases insV_mem h with h | h
        · exact .inl h
        · exact .inr (.tail _ h)
theorem insS_mem {x y : DS} : ∀ {l : List DS}, y ∈ insS x l → y = x ∨ y ∈ l
  | [], h => .inl (by simpa [insS] using h)
  | z :: r, h => by
    unfold insS at h
    split at h
    · rcases List.mem_cons.1 h with h | h
      · exact .inl h
      · exact .inr h
    · rcases List.mem_cons.1 h with h | h
      · exact .inr (h ▸ .head _)
      · rcases insS_mem h with h | h
        · exact .inl h
        · exact .inr (.tail _ h)
theorem sorted_insV {x : DV} : ∀ {l : List DV}, SortedK (l.map (·.name)) → x.name ∉ l.map (·.name) → SortedK ((insV x l).map (·.name))
  | [], _, _ => List.pairwise_singleton _ _
  | z :: r, h, hn => by
    obtain ⟨h1, h2⟩ := List.pairwise_cons.1 h
    have hne : x.name ≠ z.name := fun e => hn (by rw [e]; exact .head _)
    have hnr : x.name ∉ r.map (·.name) := fun e => hn (.tail _ e)
    unfold insV
    split
    · rename_i hl
      have hl' := (less_ltK _ _).1 hl
      refine List.pairwise_cons.2 ⟨fun y hy => ?_, h⟩
      rcases List.mem_cons.1 hy with e | e
      · rw [e]; exact hl'
      · exact ltK_trans hl' (h1 y e)
    · rename_i hl
      refine List.pairwise_cons.2 ⟨fun y hy => ?_, sorted_insV h2 hnr⟩
      obtain ⟨w, hw, rfl⟩ := List.mem_map.1 hy
      rcases insV_mem hw with e | e
      · rw [e]; exact ltK_total (fun h3 => hl ((less_ltK _ _).2 h3)) hne
      · exact h1 _ (List.mem_map.2 ⟨w, e, rfl⟩)
theorem sorted_insS {x : DS} : ∀ {l : List DS}, SortedK (l.map (·.name)) → x.name ∉ l.map (·.name) → SortedK ((insS x l).map (·.name))
  | [], _, _ => List.pairwise_singleton _ _
  | z :: r, h, hn => by
    obtain ⟨h1, h2⟩ := List.pairwise_cons.1 h
    have hne : x.name ≠ z.name := fun e => hn (by rw [e]; exact .head _)
    have hnr : x.name ∉ r.map (·.name) := fun e => hn (.tail _ e)
    unfold insS
    split
    · rename_i hl
      have hl' := (less_ltK _ _).1 hl
      refine List.pairwise_cons.2 ⟨fun y hy => ?_, h⟩
      rcases List.mem_cons.1 hy with e | e
      · rw [e]; exact hl'
      · exact ltK_trans hl' (h1 y e)
    · rename_i hl
      refine List.pairwise_cons.2 ⟨fun y hy => ?_, sorted_insS h2 hnr⟩
      obtain ⟨w, hw, rfl⟩ := List.mem_map.1 hy
      rcases insS_mem hw with e | e
      · rw [e]; exact ltK_total (fun h3 => hl ((less_ltK _ _).2 h3)) hne
      · exact h1 _ (List.mem_map.2 ⟨w, e, rfl⟩)
theorem modV_mem {t : ByteArray} {f : DV → DV} {y : DV} : ∀ {l : List DV}, y ∈ modV t f l → y ∈ l ∨ ∃ x ∈ l, y = f x
  | [], h => by cases h
  | z :: r, h => by
    unfold modV at h
    split at h
    · rcases List.mem_cons.1 h with h | h
      · exact .inr ⟨z, .head _, h⟩
      · exact .inl (.tail _ h)
    · rcases List.mem_cons.1 h with h | h
      · exact .inl (h ▸ .head _)
      · rcases modV_mem h with h | ⟨x, hx, h⟩
        · exact .inl (.tail _ h)
        · exact .inr ⟨x, .tail _ hx, h⟩
theorem delV_sub (t : ByteArray) : ∀ l : List DV, (delV t l).Sublist l
  | [] => .slnil
  | z :: r => by
    unfold delV
    split
    · exact .cons _ (List.Sublist.refl _)
    · exact .cons_cons _ (delV_sub t r)
theorem delS_sub (t : ByteArray) : ∀ l : List DS, (delS t l).Sublist l
  | [] => .slnil
  | z :: r => by
    unfold delS
    split
    · exact .cons _ (List.Sublist.refl _)
    · exact .cons_cons _ (delS_sub t r)
theorem leB_lt {s y : ByteArray} (h : leB s y = true) (hne : y ≠ s) : ltK s y := by
  unfold leB at h
  rw [Bool.or_eq_true] at h
  rcases h with h | h
  · exact (less_ltK _ _).1 h
  · refine absurd (ba_ext ?_) hne
    have : s.toList = y.toList := by simpa using h
    rw [Lib.toList_data, Lib.toList_data] at this
    exact this.symm
theorem leB_not {s y : ByteArray} (h : leB s y = false) : ltK y s := by
  unfold leB at h
  rw [Bool.or_eq_false_iff] at h
  refine ltK_total (fun h2 => ?_) (fun e => ?_)
  · rw [(less_ltK _ _).2 h2] at h
    exact absurd h.1 (by decide)
  · rw [e] at h
    simp at h
theorem withN_true (s : ByteArray) : ∀ l : List ByteArray, withN s true l = withoutN s l
  | [] => rfl
  | y :: r => by
    unfold withN
    rw [show (true || leB s y) = true from rfl, withN_true s r]
    unfold withoutN
    by_cases h : y = s
    · simp [h]
    · simp [h]
theorem withN_sorted (s : ByteArray) : ∀ {l : List ByteArray}, SortedK l → SortedK (withN s false l)
  | [], _ => List.pairwise_singleton _ _
  | y :: r, h => by
    obtain ⟨h1, h2⟩ := List.pairwise_cons.1 h
    unfold withN
    cases hl : leB s y with
    | true =>
      rw [show (false || true) = true from rfl, withN_true]
      by_cases he : y = s
      · subst he
        simp only [Bool.not_false, Bool.true_and, if_true, List.append_nil]
        refine List.pairwise_cons.2 ⟨fun z hz => h1 z ((List.mem_filter.1 hz).1), h2.sublist List.filter_sublist⟩
      · simp only [Bool.not_false, Bool.true_and, if_true, if_neg he]
        have hlt := leB_lt hl he
        refine List.pairwise_cons.2 ⟨fun z hz => ?_, List.pairwise_cons.2 ⟨fun z hz => h1 z ((List.mem_filter.1 hz).1), h2.sublist List.filter_sublist⟩⟩
        rcases List.mem_cons.1 hz with e | e
        · rw [e]; exact hlt
        · exact ltK_trans hlt (h1 z ((List.mem_filter.1 e).1))
    | false =>
      have hlt := leB_not hl
      have he : y ≠ s := fun e => ltK_irr (e ▸ hlt)
      rw [show (false || false) = false from rfl, if_neg he]
      simp only [Bool.not_false, Bool.true_and]
      refine List.pairwise_cons.2 ⟨fun z hz => ?_, withN_sorted s h2⟩
      rcases (withN_mem s false r z).1 hz with ⟨e, -⟩ | ⟨e, -⟩
      · rw [e]; exact hlt
      · exact h1 z e
theorem withN_length (s : ByteArray) : ∀ (p : Bool) (l : List ByteArray), (withN s p l).length ≤ l.length + (if p then 0 else 1)
  | p, [] => by
    unfold withN
    cases p <;> simp
  | p, y :: r => by
    have ih := withN_length s (p || leB s y) r
    unfold withN
    rw [List.length_append, List.length_append]
    have h2 : (if y = s then ([] : List ByteArray) else [y]).length ≤ 1 := by split <;> simp
    cases p with
    | true =>
      simp only [Bool.not_true, Bool.false_and, Bool.true_or, if_true] at ih ⊢
      simp only [List.length_cons]
      have h3 : (if False then [s] else ([] : List ByteArray)).length = 0 := by simp
      simp at ih ⊢
      omega
    | false =>
      cases hl : leB s y with
      | true =>
        rw [hl] at ih
        simp at ih ⊢
        omega
      | false =>
        rw [hl] at ih
        simp at ih ⊢
        omega
section
variable {j : Nat} {C : Core}
theorem Good.mod (h : Good j C) {t : ByteArray} {zs : List Zn} (f : DV → DV) (hf : ∀ x, (f x).name = x.name) (hn : ∀ x ∈ C.vols, SortedK (f x).nodes ∧ (f x).nodes.length ≤ j + 1 ∧ ∀ y ∈ (f x).nodes, nm y = true) : Good (j + 1) ⟨zs, modV t f C.vols, C.snaps⟩ := by
  refine ⟨?_, h.ss, fun y hy => ?_, fun y hy => ?_, h.nameS⟩
  · show SortedK (List.map _ (modV t f C.vols))
    rw [names_modV t f hf]
    exact h.sv
  · rcases modV_mem hy with h1 | ⟨x, hx, rfl⟩
    · obtain ⟨h2, h3, h4⟩ := h.nodes y h1
      exact ⟨h2, by omega, h4⟩
    · exact hn x hx
  · rcases modV_mem hy with h1 | ⟨x, hx, rfl⟩
    · exact h.nameV y h1
    · rw [hf]
      exact h.nameV x hx
theorem Good.perf (h : Good j C) {c : Cl} (hri : rightB c = true) : Good (j + 1) (perfC C c).2 := by
  have hw := h.weak (Nat.le_succ j)
  have hb := hri
  unfold rightB at hb
  simp only [Bool.and_eq_true, Bool.not_eq_true', decide_eq_true_eq] at hb
  obtain ⟨⟨⟨⟨htg, -⟩, -⟩, -⟩, hhas⟩ := hb
  unfold perfC
  split
  · unfold createC
    split
    · split <;> exact hw
    · rename_i hx
      split
      · exact hw
      · split
        · exact hw
        · split
          · exact hw
          · split
            · exact hw
            · split
              · exact hw
              · refine ⟨sorted_insV h.sv (volOf_none.1 hx), h.ss, fun y hy => ?_, fun y hy => ?_, h.nameS⟩
                · rcases insV_mem hy with e | e
                  · rw [e]
                    exact ⟨List.Pairwise.nil, Nat.zero_le _, fun z hz => by cases hz⟩
                  · exact hw.nodes y e
                · rcases insV_mem hy with e | e
                  · rw [e]
                    exact htg
                  · exact h.nameV y e
  · split
    · unfold eraseC
      split
      · exact hw
      · split
        · exact ⟨h.sv.sublist ((delV_sub _ _).map _), h.ss, fun y hy => hw.nodes y ((delV_sub _ _).subset hy), fun y hy => h.nameV y ((delV_sub _ _).subset hy), h.nameS⟩
        · exact hw
    · split
      · rename_i h3
        have hnd : nm c.node = true := by
          unfold hasB at hhas
          rw [if_neg (by omega), if_neg (by omega), if_pos (.inl h3)] at hhas
          exact hhas
        unfold publishC
        split
        · exact hw
        · refine h.mod _ (fun _ => rfl) (fun x hx => ?_)
          obtain ⟨h4, h5, h6⟩ := h.nodes x hx
          refine ⟨withN_sorted _ h4, ?_, fun y hy => ?_⟩
          · have h7 : (withN c.node false x.nodes).length ≤ x.nodes.length + 1 := withN_length c.node false x.nodes
            show (withN c.node false x.nodes).length ≤ _
            omega
          · rcases (withN_mem c.node false x.nodes y).1 hy with ⟨e, -⟩ | ⟨e, -⟩
            · rw [e]; exact hnd
            · exact h6 y e
      · split
        · unfold unpublishC
          split
          · exact hw
          · refine h.mod _ (fun _ => rfl) (fun x hx => ?_)
            obtain ⟨h4, h5, h6⟩ := h.nodes x hx
            refine ⟨h4.sublist List.filter_sublist, ?_, fun y hy => h6 y ((List.mem_filter.1 hy).1)⟩
            have := List.length_filter_le (fun y => !decide (y = c.node)) x.nodes
            show (List.filter _ _).length ≤ _
            omega
        · split
          · unfold expandC
            split
            · exact hw
            · split
              · exact hw
              · split
                · exact hw
                · split
                  · exact hw
                  · exact h.mod _ (fun _ => rfl) (fun x hx => hw.nodes x hx)
          · split
            · unfold cutC
              split
              · exact hw
              · rename_i hk
                split
                · exact hw
                · split
                  · exact hw
                  · refine ⟨h.sv, sorted_insS h.ss (snapOf_none.1 hk), hw.nodes, h.nameV, fun y hy => ?_⟩
                    rcases insS_mem hy with e | e
                    · rw [e]
                      exact htg
                    · exact h.nameS y e
            · exact ⟨h.sv, h.ss.sublist ((delS_sub _ _).map _), hw.nodes, h.nameV, fun y hy => h.nameS y ((delS_sub _ _).subset hy)⟩
theorem Good.put (h : Good j C) (t node : ByteArray) (tag : Int) : Good (j + 1) (putS C t node tag).2 := by
  have hw := h.weak (Nat.le_succ j)
  unfold putS
  split
  · exact hw
  · split
    · exact h.mod _ (fun _ => rfl) (fun x hx => hw.nodes x hx)
    · exact hw
theorem Good.do {S : St} (h : Good j S.core) (c : Cl) : Good (j + 1) (doS S c).2.core := by
  have hw := h.weak (Nat.le_succ j)
  unfold doS
  split
  · exact hw
  · rename_i hr
    have hri : rightB c = true := by simpa using hr
    split
    · split
      · exact hw
      · split
        · split <;> exact hw
        · exact h.perf hri
    · split
      · exact hw
      · exact h.perf hri
end
end Go.Proofs.Ytbgfccanbgpjiaa.O.I
