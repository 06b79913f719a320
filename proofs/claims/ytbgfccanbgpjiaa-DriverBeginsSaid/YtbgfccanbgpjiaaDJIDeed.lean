/- Own work. -/
import Derived.Test.YtbgfccanbgpjiaaDJIModDo
import Derived.Test.YtbgfccanbgpjiaaDISnapsQ
namespace Go.Proofs.Ytbgfccanbgpjiaa.O.I
open Go Go.RowKit Go.Lib KM
theorem wrap_in (n : Int) (h : -9223372036854775808 ≤ n ∧ n ≤ 9223372036854775807) : IntKind.i64.wrap n = n := by rw [IntKind.wrap_i64]; omega
theorem lastOf_done (S : St) (ho : OnceL S.seen) (c : Cl) : lastOf (runS S c).2.seen (snapV c.verb) c.target = some (c, (runS S c).1) := by
  have h := lastOf_run S.seen ho c (perfC S.core c).1 ⟨snapV c.verb, c.target⟩
  rw [if_pos (show (⟨snapV c.verb, c.target⟩ : Tg) = tgOf (c, (perfC S.core c).1) from rfl)] at h
  exact h
theorem doS_cases (S : St) (c : Cl) : (rightB c = false ∧ doS S c = (errR 2, S)) ∨ (rightB c = true ∧
    ((∃ p, lastOf S.seen (snapV c.verb) c.target = some p ∧ c.num < p.1.num ∧ doS S c = (errR 9, S)) ∨
     (∃ p, lastOf S.seen (snapV c.verb) c.target = some p ∧ c = p.1 ∧ doS S c = (p.2, S)) ∨
     (∃ p, lastOf S.seen (snapV c.verb) c.target = some p ∧ c.num = p.1.num ∧ c ≠ p.1 ∧ doS S c = (errR 6, S)) ∨
     (lastOf S.seen (snapV c.verb) c.target = none ∧ 256 ≤ S.seen.length ∧ doS S c = (errR 7, S)) ∨
     ((∀ p, lastOf S.seen (snapV c.verb) c.target = some p → p.1.num < c.num) ∧ doS S c = runS S c))) := by
  cases hr : rightB c with
  | false => exact .inl ⟨rfl, by unfold doS; rw [if_pos hr]⟩
  | true =>
    refine .inr ⟨rfl, ?_⟩
    have h0 : ¬ rightB c = false := by rw [hr]; decide
    cases hp : lastOf S.seen (snapV c.verb) c.target with
    | none =>
      by_cases hl : 256 ≤ S.seen.length
      · exact .inr (.inr (.inr (.inl ⟨rfl, hl, by unfold doS; rw [if_neg h0, hp]; exact if_pos hl⟩)))
      · exact .inr (.inr (.inr (.inr ⟨fun p h => (by cases h), by unfold doS; rw [if_neg h0, hp]; exact if_neg hl⟩)))
    | some p =>
      by_cases h1 : c.num < p.1.num
      · exact .inl ⟨p, rfl, h1, by unfold doS; rw [if_neg h0, hp]; exact if_pos h1⟩
      · by_cases h2 : c.num = p.1.num
        · by_cases h3 : c = p.1
          · exact .inr (.inl ⟨p, rfl, h3, by unfold doS; rw [if_neg h0, hp]; dsimp only; rw [if_neg h1, if_pos h2]; exact if_pos h3⟩)
          · exact .inr (.inr (.inl ⟨p, rfl, h2, h3, by unfold doS; rw [if_neg h0, hp]; dsimp only; rw [if_neg h1, if_pos h2]; exact if_neg h3⟩))
        · exact .inr (.inr (.inr (.inr ⟨fun q h => by cases h; omega, by unfold doS; rw [if_neg h0, hp]; dsimp only; rw [if_neg h1]; exact if_neg h2⟩)))
theorem do_twice (S : St) (ho : OnceL S.seen) (c : Cl) : doS (doS S c).2 c = ((doS S c).1, (doS S c).2) := by
  rcases doS_cases S c with ⟨-, h⟩ | ⟨hr, ⟨p, -, -, h⟩ | ⟨p, -, -, h⟩ | ⟨p, -, -, -, h⟩ | ⟨-, -, h⟩ | ⟨-, h⟩⟩
  · rw [h]; exact h
  · rw [h]; exact h
  · rw [h]; exact h
  · rw [h]; exact h
  · rw [h]; exact h
  · rw [h]
    unfold doS
    rw [if_neg (by rw [hr]; decide), lastOf_done S ho c]
    dsimp only
    rw [if_neg (Int.lt_irrefl _), if_pos rfl, if_pos rfl]
def seenN (S : St) (vb : Int) (k : ByteArray) : Int := ((lastOf S.seen (snapV vb) k).map (·.1.num)).getD 0
theorem seenN_none {S : St} {vb : Int} {k : ByteArray} (h : lastOf S.seen (snapV vb) k = none) : seenN S vb k = 0 := by unfold seenN; rw [h]; rfl
theorem seenN_some {S : St} {vb : Int} {k : ByteArray} {p : Cl × Rs} (h : lastOf S.seen (snapV vb) k = some p) : seenN S vb k = p.1.num := by unfold seenN; rw [h]; rfl
theorem right_numS {c : Cl} (h : rightB c = true) : c.num ≠ 0 := by
  unfold rightB at h
  simp only [Bool.and_eq_true, Bool.not_eq_true', decide_eq_false_iff_not] at h
  exact h.1.1.1.2
theorem do_older {S : St} {c : Cl} (hr : rightB c = true) (hn : 0 ≤ c.num) (h : c.num < seenN S c.verb c.target) : doS S c = (errR 9, S) := by
  rcases doS_cases S c with ⟨h1, -⟩ | ⟨-, ⟨p, -, -, h2⟩ | ⟨p, hp, he, -⟩ | ⟨p, hp, he, -⟩ | ⟨hp, -⟩ | ⟨hp, -⟩⟩
  · rw [hr] at h1; cases h1
  · exact h2
  · rw [seenN_some hp, ← he] at h; exact absurd h (Int.lt_irrefl _)
  · rw [seenN_some hp, ← he] at h; exact absurd h (Int.lt_irrefl _)
  · rw [seenN_none hp] at h; omega
  · cases hq : lastOf S.seen (snapV c.verb) c.target with
    | none => rw [seenN_none hq] at h; omega
    | some p => have := hp p hq; rw [seenN_some hq] at h; omega
theorem do_newer {S : St} {c : Cl} (ho : OnceL S.seen) (hr : rightB c = true) (h : seenN S c.verb c.target < c.num) : (doS S c = (errR 7, S) ∧ 256 ≤ S.seen.length) ∨ (doS S c = runS S c ∧ seenN (doS S c).2 c.verb c.target = c.num) := by
  rcases doS_cases S c with ⟨h1, -⟩ | ⟨-, ⟨p, hp, hl, -⟩ | ⟨p, hp, he, -⟩ | ⟨p, hp, he, -⟩ | ⟨-, hl, h2⟩ | ⟨-, h2⟩⟩
  · rw [hr] at h1; cases h1
  · rw [seenN_some hp] at h; omega
  · rw [seenN_some hp, ← he] at h; exact absurd h (Int.lt_irrefl _)
  · rw [seenN_some hp, ← he] at h; exact absurd h (Int.lt_irrefl _)
  · exact .inl ⟨h2, hl⟩
  · exact .inr ⟨h2, by rw [h2, seenN_some (lastOf_done S ho c)]⟩
structure Dd where
  c : Cl
  tag : Int
def deedS (S : St) (x : Dd) : St := if x.tag = 0 then (doS S x.c).2 else ⟨(putS S.core x.c.target x.c.node x.tag).2, S.seen⟩
theorem Good.deed {j : Nat} {S : St} (h : Good j S.core) (x : Dd) : Good (j + 1) (deedS S x).core := by
  unfold deedS
  split
  · exact h.do x.c
  · exact h.put _ _ _
def sumV (k : ByteArray) : List DV → Int
  | [] => 0
  | x :: r => (if x.zone = k then x.size else 0) + sumV k r
theorem sumV_ins (k : ByteArray) (x : DV) : ∀ l : List DV, sumV k (insV x l) = (if x.zone = k then x.size else 0) + sumV k l
  | [] => rfl
  | y :: r => by
    unfold insV
    split
    · rfl
    · unfold sumV
      rw [sumV_ins k x r]
      omega
theorem volOf_cons {y : DV} {r : List DV} {t : ByteArray} : volOf (y :: r) t = if y.name = t then some y else volOf r t := by
  unfold volOf
  by_cases h : y.name = t
  · rw [List.find?_cons_of_pos (by simpa using h), if_pos h]
  · rw [List.find?_cons_of_neg (by simpa using h), if_neg h]
theorem sumV_del (k t : ByteArray) : ∀ (l : List DV) (x : DV), volOf l t = some x → sumV k (delV t l) + (if x.zone = k then x.size else 0) = sumV k l
  | [], x, h => by cases h
  | y :: r, x, h => by
    rw [volOf_cons] at h
    unfold delV
    by_cases hy : y.name = t
    · rw [if_pos hy] at h ⊢
      cases h
      conv => rhs; unfold sumV
      omega
    · rw [if_neg hy] at h ⊢
      have ih := sumV_del k t r x h
      unfold sumV
      omega
theorem sumV_mod (k t : ByteArray) (f : DV → DV) (hf : ∀ x, (f x).zone = x.zone) : ∀ (l : List DV) (x : DV), volOf l t = some x → sumV k (modV t f l) = sumV k l + (if x.zone = k then (f x).size - x.size else 0)
  | [], x, h => by cases h
  | y :: r, x, h => by
    rw [volOf_cons] at h
    unfold modV
    by_cases hy : y.name = t
    · rw [if_pos hy] at h ⊢
      cases h
      unfold sumV
      rw [hf]
      split <;> omega
    · rw [if_neg hy] at h ⊢
      have ih := sumV_mod k t f hf r x h
      unfold sumV
      omega
theorem sumV_pos (k : ByteArray) : ∀ l : List DV, (∀ x ∈ l, 0 ≤ x.size) → 0 ≤ sumV k l
  | [], _ => Int.le_refl _
  | y :: r, h => by
    have ih := sumV_pos k r fun x hx => h x (.tail _ hx)
    have := h y (.head _)
    unfold sumV
    split <;> omega
theorem sumV_take {k : ByteArray} {x : DV} : ∀ {l : List DV} {j : Nat}, l[j]? = some x → sumV k (l.take (j + 1)) = sumV k (l.take j) + (if x.zone = k then x.size else 0)
  | y :: r, 0, h => by
    cases h
    show (if _ then _ else _) + sumV k (List.take 0 r) = sumV k [] + _
    rw [List.take_zero]
    unfold sumV
    omega
  | y :: r, j + 1, h => by
    have ih := sumV_take (k := k) (l := r) (j := j) (by simpa using h)
    rw [List.take_succ_cons, List.take_succ_cons]
    unfold sumV
    omega
theorem zoneOf_cons {y : Zn} {r : List Zn} {t : ByteArray} : zoneOf (y :: r) t = if y.name = t then some y else zoneOf r t := by
  unfold zoneOf
  by_cases h : y.name = t
  · rw [List.find?_cons_of_pos (by simpa using h), if_pos h]
  · rw [List.find?_cons_of_neg (by simpa using h), if_neg h]
theorem zoneOf_mod2 (k q : ByteArray) (f : Int → Int) : ∀ l : List Zn, zoneOf (modZ k f l) q = if q = k then (zoneOf l k).map (fun z => ⟨z.name, f z.room⟩) else zoneOf l q
  | [] => by
    unfold modZ zoneOf
    split <;> rfl
  | y :: r => by
    have ih := zoneOf_mod2 k q f r
    unfold modZ
    rw [zoneOf_cons, zoneOf_cons]
    by_cases hy : y.name = k
    · rw [if_pos hy, zoneOf_cons, if_pos hy]
      dsimp only
      by_cases h : q = k
      · rw [if_pos h, if_pos (hy.trans h.symm)]
        rfl
      · rw [if_neg h, if_neg (fun e => h (e.symm.trans hy)), if_neg (fun e => h (e.symm.trans hy))]
    · rw [if_neg hy, zoneOf_cons, ih, if_neg hy]
      by_cases h : q = k
      · rw [if_pos h, if_neg (fun e => hy (e.trans h))]
        rw [if_pos h]
      · rw [if_neg h]
        rw [if_neg h]
structure RoomOK (I : List Zn) (C : Core) : Prop where
  few : ∀ k z, zoneOf I k = some z → z.room ≤ 1125899906842624
  back : ∀ k z, zoneOf C.zones k = some z → ∃ z0, zoneOf I k = some z0 ∧ 0 ≤ z.room ∧ z.room + sumV k C.vols = z0.room
  there : ∀ k, (zoneOf I k).isSome = true → (zoneOf C.zones k).isSome = true
theorem vols_size {C : Core} (h : InvC C) : ∀ x ∈ C.vols, 0 ≤ x.size := fun x hx => by
  have h1 : volOf C.vols x.name = some x := by
    cases hv : volOf C.vols x.name with
    | none => exact absurd (List.mem_map.2 ⟨x, hx, rfl⟩) (volOf_none.1 hv)
    | some y =>
      have hy := volOf_name hv
      have hm : y ∈ C.vols := List.mem_of_find?_eq_some hv
      have : ∀ {l : List DV}, OnceV l → x ∈ l → y ∈ l → y.name = x.name → y = x := fun {l} ho h1 h2 he => by
        induction l with
        | nil => cases h1
        | cons z r ih =>
          obtain ⟨k1, k2⟩ := List.nodup_cons.1 (show (z.name :: r.map (·.name)).Nodup from ho)
          rcases List.mem_cons.1 h1 with e1 | e1
          · rcases List.mem_cons.1 h2 with e2 | e2
            · rw [e1, e2]
            · exact absurd (List.mem_map.2 ⟨y, e2, by rw [he, e1]⟩) k1
          · rcases List.mem_cons.1 h2 with e2 | e2
            · exact absurd (List.mem_map.2 ⟨x, e1, by rw [← he, e2]⟩) k1
            · exact ih k2 e1 e2
      rw [this h.vols hx hm hy]
  exact (h.size _ x h1).1
section
variable {I : List Zn} {C : Core}
theorem RoomOK.vols (h : RoomOK I C) {vs : List DV} {ss : List DS} (hs : ∀ k, sumV k vs = sumV k C.vols) : RoomOK I ⟨C.zones, vs, ss⟩ :=
  ⟨h.few, fun k z hz => by
    obtain ⟨z0, h1, h2, h3⟩ := h.back k z hz
    exact ⟨z0, h1, h2, by show _ + sumV k vs = _; rw [hs]; exact h3⟩, h.there⟩
theorem RoomOK.turn (h : RoomOK I C) (hp : ∀ k, 0 ≤ sumV k C.vols) {q : ByteArray} {vs : List DV} {ss : List DS} {f : Int → Int} {dz : Int} (hs : ∀ k, sumV k vs = sumV k C.vols + (if q = k then dz else 0)) (hps : 0 ≤ sumV q vs)
    (hf : ∀ z z0, zoneOf C.zones q = some z → zoneOf I q = some z0 → 0 ≤ z.room → z.room ≤ 1125899906842624 → z.room + sumV q C.vols = z0.room → f z.room = z.room - dz ∧ dz ≤ z.room) : RoomOK I ⟨modZ q f C.zones, vs, ss⟩ := by
  refine ⟨h.few, fun k z hz => ?_, fun k hk => ?_⟩
  · have hz' : zoneOf (modZ q f C.zones) k = some z := hz
    rw [zoneOf_mod2] at hz'
    show ∃ z0, _ ∧ _ ∧ _ + sumV k vs = _
    rw [hs]
    split at hz'
    · rename_i e
      subst e
      obtain ⟨y, hy, rfl⟩ := Option.map_eq_some_iff.1 hz'
      obtain ⟨z0, h1, h2, h3⟩ := h.back k y hy
      have h4 := h.few k z0 h1
      have h5 := hp k
      obtain ⟨h6, h7⟩ := hf y z0 hy h1 h2 (by omega) h3
      refine ⟨z0, h1, ?_, ?_⟩
      · show 0 ≤ f y.room
        omega
      · show f y.room + _ = _
        rw [if_pos rfl]
        omega
    · rename_i e
      obtain ⟨z0, h1, h2, h3⟩ := h.back k z hz'
      exact ⟨z0, h1, h2, by rw [if_neg (fun e2 => e e2.symm)]; omega⟩
  · show (zoneOf (modZ q f C.zones) k).isSome = true
    rw [zoneOf_mod]
    exact h.there k hk
theorem RoomOK.perf (h : RoomOK I C) (hi : InvC C) {c : Cl} (hri : rightB c = true) : RoomOK I (perfC C c).2 := by
  have hsz := right_size hri
  have hall := vols_size hi
  have hp := fun k => sumV_pos k C.vols hall
  have mod0 : ∀ (t : ByteArray) (f : DV → DV), (∀ x, (f x).zone = x.zone ∧ (f x).size = x.size) → (∃ x, volOf C.vols t = some x) → RoomOK I ⟨C.zones, modV t f C.vols, C.snaps⟩ := fun t f hf ⟨x, hx⟩ => h.vols fun k => by
    rw [sumV_mod k t f (fun x => (hf x).1) C.vols x hx, (hf x).2]
    split <;> omega
  unfold perfC
  split
  · unfold createC
    split
    · split <;> exact h
    · split
      · exact h
      · rename_i z hz
        split
        · exact h
        · split
          · exact h
          · split
            · exact h
            · split
              · exact h
              · rename_i hro
                refine h.turn (q := c.zone) (dz := c.size) hp (fun k => by rw [sumV_ins]; dsimp only; omega) (by rw [sumV_ins, if_pos rfl]; have := hp c.zone; dsimp only; omega) fun y z0 hy _ h2 h3 _ => ?_
                rw [hz] at hy
                cases hy
                rw [wrap_in _ (by omega)]
                omega
  · split
    · unfold eraseC
      split
      · exact h
      · rename_i x hx
        split
        · have hd := fun k => sumV_del k c.target C.vols x hx
          have hxs := hi.size _ x hx
          have hdp : 0 ≤ sumV x.zone (delV c.target C.vols) := sumV_pos _ _ fun y hy => hall y ((delV_sub _ _).subset hy)
          refine h.turn (q := x.zone) (dz := -x.size) hp (fun k => by have := hd k; by_cases e : x.zone = k <;> simp only [e, if_true, if_false] at this ⊢ <;> omega) hdp fun y z0 hy hz0 h2 h3 h4 => ?_
          rw [wrap_in _ (by omega)]
          omega
        · exact h
    · split
      · unfold publishC
        split
        · exact h
        · rename_i x hx
          exact mod0 _ _ (fun _ => ⟨rfl, rfl⟩) ⟨x, hx⟩
      · split
        · unfold unpublishC
          split
          · exact h
          · rename_i x hx
            exact mod0 _ _ (fun _ => ⟨rfl, rfl⟩) ⟨x, hx⟩
        · split
          · unfold expandC
            split
            · exact h
            · rename_i x hx
              have hxs := hi.size _ x hx
              split
              · exact h
              · rename_i hlt
                split
                · exact h
                · rename_i z hz
                  have hw : IntKind.i64.wrap (c.size - x.size) = c.size - x.size := wrap_in _ (by omega)
                  rw [hw]
                  split
                  · exact h
                  · rename_i hro
                    have hm := fun k => sumV_mod k c.target (fun y => ⟨y.name, c.size, y.zone, y.tag, y.nodes⟩) (fun _ => rfl) C.vols x hx
                    refine h.turn (q := x.zone) (dz := c.size - x.size) hp hm (by rw [hm, if_pos rfl]; have := hp x.zone; show 0 ≤ _ + (c.size - x.size); omega) fun y z0 hy _ h2 h3 _ => ?_
                    rw [hz] at hy
                    cases hy
                    rw [wrap_in _ (by omega)]
                    omega
          · split
            · unfold cutC
              split
              · exact h
              · split
                · exact h
                · split
                  · exact h
                  · exact h.vols fun _ => rfl
            · exact h.vols fun _ => rfl
theorem RoomOK.put (h : RoomOK I C) (t node : ByteArray) (tag : Int) : RoomOK I (putS C t node tag).2 := by
  unfold putS
  split
  · exact h
  · rename_i x hx
    split
    · exact h.vols fun k => by
        rw [sumV_mod k t (fun y => ⟨y.name, y.size, y.zone, tag, y.nodes⟩) (fun _ => rfl) C.vols x hx]
        simp
    · exact h
end
theorem do_core {P : Core → Prop} {S : St} (h : P S.core) (c : Cl) (hp : rightB c = true → P (perfC S.core c).2) : P (doS S c).2.core := by
  rcases doS_cases S c with ⟨-, e⟩ | ⟨hr, ⟨p, -, -, e⟩ | ⟨p, -, -, e⟩ | ⟨p, -, -, -, e⟩ | ⟨-, -, e⟩ | ⟨-, e⟩⟩
  · rw [e]; exact h
  · rw [e]; exact h
  · rw [e]; exact h
  · rw [e]; exact h
  · rw [e]; exact h
  · rw [e]; exact hp hr
theorem RoomOK.deed {I : List Zn} {S : St} (h : RoomOK I S.core) (hi : InvC S.core) (x : Dd) : RoomOK I (deedS S x).core := by
  unfold deedS
  split
  · exact do_core h x.c fun hr => h.perf hi hr
  · exact h.put _ _ _
/-- A volume that was there, behind a call. -/
def KeepsV (c : Cl) (e : Int) (is : List DV) (x : DV) : Prop := match volOf is x.name with
  | none => c.verb = 2 ∧ c.target = x.name ∧ e = 0 ∧ x.nodes = []
  | some y => x.size ≤ y.size ∧ y.zone = x.zone ∧ y.tag = x.tag ∧ (x.size < y.size → c.verb = 5 ∧ y.size = c.size)
theorem keeps_same {c : Cl} {e : Int} {is : List DV} {x : DV} (h : volOf is x.name = some x) : KeepsV c e is x := by
  unfold KeepsV
  rw [h]
  exact ⟨Int.le_refl _, rfl, rfl, fun h => absurd h (Int.lt_irrefl _)⟩
theorem keeps_mod {c : Cl} {e : Int} {l : List DV} {x : DV} {t : ByteArray} {f : DV → DV} (hf : ∀ x, (f x).name = x.name) (h : volOf l x.name = some x) (hk : x.name = t → x.size ≤ (f x).size ∧ (f x).zone = x.zone ∧ (f x).tag = x.tag ∧ (x.size < (f x).size → c.verb = 5 ∧ (f x).size = c.size)) : KeepsV c e (modV t f l) x := by
  unfold KeepsV
  rw [volOf_mod t x.name f hf]
  by_cases ht : x.name = t
  · rw [if_pos ht, ← ht, h]
    exact hk ht
  · rw [if_neg ht, h]
    exact ⟨Int.le_refl _, rfl, rfl, fun h => absurd h (Int.lt_irrefl _)⟩
theorem perf_keeps {C : Core} (hi : InvC C) (c : Cl) {x : DV} (hx : volOf C.vols x.name = some x) : KeepsV c (perfC C c).1.err (perfC C c).2.vols x := by
  unfold perfC
  split
  · unfold createC
    split
    · split <;> exact keeps_same hx
    · rename_i hn
      split
      · exact keeps_same hx
      · split
        · exact keeps_same hx
        · split
          · exact keeps_same hx
          · split
            · exact keeps_same hx
            · split
              · exact keeps_same hx
              · refine keeps_same ?_
                show volOf (insV _ C.vols) x.name = some x
                rw [volOf_ins _ _ _ hn, if_neg]
                · exact hx
                · intro e
                  have e' : x.name = c.target := e
                  rw [e', hn] at hx
                  cases hx
  · split
    · rename_i hv
      unfold eraseC
      split
      · exact keeps_same hx
      · rename_i y hy
        split
        · rename_i hnd
          unfold KeepsV
          show match volOf (delV c.target C.vols) x.name with | none => _ | some y => _
          rw [volOf_del _ _ _ hi.vols]
          by_cases e : x.name = c.target
          · rw [if_pos e]
            rw [e, hy] at hx
            cases hx
            exact ⟨hv, e.symm, rfl, hnd⟩
          · rw [if_neg e, hx]
            exact ⟨Int.le_refl _, rfl, rfl, fun h => absurd h (Int.lt_irrefl _)⟩
        · exact keeps_same hx
    · split
      · unfold publishC
        split
        · exact keeps_same hx
        · exact keeps_mod (fun _ => rfl) hx fun _ => ⟨Int.le_refl _, rfl, rfl, fun h => absurd h (Int.lt_irrefl _)⟩
      · split
        · unfold unpublishC
          split
          · exact keeps_same hx
          · exact keeps_mod (fun _ => rfl) hx fun _ => ⟨Int.le_refl _, rfl, rfl, fun h => absurd h (Int.lt_irrefl _)⟩
        · split
          · rename_i hv
            unfold expandC
            split
            · exact keeps_same hx
            · rename_i y hy
              split
              · exact keeps_same hx
              · rename_i hlt
                split
                · exact keeps_same hx
                · split
                  · exact keeps_same hx
                  · refine keeps_mod (fun _ => rfl) hx fun e => ?_
                    rw [e, hy] at hx
                    cases hx
                    exact ⟨by show x.size ≤ c.size; omega, rfl, rfl, fun _ => ⟨hv, rfl⟩⟩
          · split
            · unfold cutC
              split
              · exact keeps_same hx
              · split
                · exact keeps_same hx
                · split <;> exact keeps_same hx
            · exact keeps_same hx
theorem do_keeps {S : St} (hi : InvC S.core) (c : Cl) {x : DV} (hx : volOf S.core.vols x.name = some x) : KeepsV c (doS S c).1.err (doS S c).2.core.vols x := by
  rcases doS_cases S c with ⟨-, e⟩ | ⟨hr, ⟨p, -, -, e⟩ | ⟨p, -, -, e⟩ | ⟨p, -, -, -, e⟩ | ⟨-, -, e⟩ | ⟨-, e⟩⟩
  · rw [e]; exact keeps_same hx
  · rw [e]; exact keeps_same hx
  · rw [e]; exact keeps_same hx
  · rw [e]; exact keeps_same hx
  · rw [e]; exact keeps_same hx
  · rw [e]; exact perf_keeps hi c hx
theorem perf_more (C : Core) (c : Cl) : (perfC C c).2.vols.length ≤ C.vols.length + 1 := by
  have hm : ∀ (t : ByteArray) (f : DV → DV), (modV t f C.vols).length ≤ C.vols.length + 1 := fun t f => by rw [length_modV]; omega
  unfold perfC
  split
  · unfold createC
    split
    · split <;> exact Nat.le_succ _
    · split
      · exact Nat.le_succ _
      · split
        · exact Nat.le_succ _
        · split
          · exact Nat.le_succ _
          · split
            · exact Nat.le_succ _
            · split
              · exact Nat.le_succ _
              · show (insV _ C.vols).length ≤ _
                rw [length_insV]
                exact Nat.le_refl _
  · split
    · unfold eraseC
      split
      · exact Nat.le_succ _
      · split
        · exact Nat.le_succ_of_le (delV_sub _ _).length_le
        · exact Nat.le_succ _
    · split
      · unfold publishC
        split
        · exact Nat.le_succ _
        · exact hm _ _
      · split
        · unfold unpublishC
          split
          · exact Nat.le_succ _
          · exact hm _ _
        · split
          · unfold expandC
            split
            · exact Nat.le_succ _
            · split
              · exact Nat.le_succ _
              · split
                · exact Nat.le_succ _
                · split
                  · exact Nat.le_succ _
                  · exact hm _ _
          · split
            · unfold cutC
              split
              · exact Nat.le_succ _
              · split
                · exact Nat.le_succ _
                · split <;> exact Nat.le_succ _
            · exact Nat.le_succ _
theorem do_more (S : St) (c : Cl) : (doS S c).2.core.vols.length ≤ S.core.vols.length + 1 := do_core (P := fun C => C.vols.length ≤ S.core.vols.length + 1) (Nat.le_succ _) c fun _ => perf_more S.core c
theorem do_makes {S : St} (_ho : OnceL S.seen) {c : Cl} (hv : c.verb = 1) (hn : volOf S.core.vols c.target = none) (hs : seenN S 1 c.target < c.num) :
    ((doS S c).1.err ≠ 0 ∧ volOf (doS S c).2.core.vols c.target = none) ∨
    ∃ k, srcOf S.core c.source = some k ∧ k.size ≤ c.size ∧ doS S c = runS S c ∧ (doS S c).1 = ⟨0, c.size, c.zone, k.tag⟩ ∧ volOf (doS S c).2.core.vols c.target = some ⟨c.target, c.size, c.zone, k.tag, []⟩ := by
  rcases doS_cases S c with ⟨-, e⟩ | ⟨hr, ⟨p, -, -, e⟩ | ⟨p, hp, he, -⟩ | ⟨p, -, -, -, e⟩ | ⟨-, -, e⟩ | ⟨-, e⟩⟩
  · rw [e]; exact .inl ⟨(by decide : (2 : Int) ≠ 0), hn⟩
  · rw [e]; exact .inl ⟨(by decide : (9 : Int) ≠ 0), hn⟩
  · rw [← hv, seenN_some hp, ← he] at hs; exact absurd hs (Int.lt_irrefl _)
  · rw [e]; exact .inl ⟨(by decide : (6 : Int) ≠ 0), hn⟩
  · rw [e]; exact .inl ⟨(by decide : (7 : Int) ≠ 0), hn⟩
  · rw [e]
    show ((perfC S.core c).1.err ≠ 0 ∧ volOf (perfC S.core c).2.vols c.target = none) ∨ ∃ k, _ ∧ _ ∧ _ ∧ (perfC S.core c).1 = _ ∧ volOf (perfC S.core c).2.vols c.target = _
    unfold perfC
    rw [if_pos hv]
    unfold createC
    rw [hn]
    dsimp only
    split
    · exact .inl ⟨(by decide : (5 : Int) ≠ 0), hn⟩
    · split
      · exact .inl ⟨(by decide : (5 : Int) ≠ 0), hn⟩
      · rename_i k hk
        split
        · exact .inl ⟨(by decide : (12 : Int) ≠ 0), hn⟩
        · split
          · exact .inl ⟨(by decide : (7 : Int) ≠ 0), hn⟩
          · split
            · exact .inl ⟨(by decide : (11 : Int) ≠ 0), hn⟩
            · refine .inr ⟨k, hk, by omega, rfl, rfl, ?_⟩
              show volOf (insV _ S.core.vols) c.target = _
              rw [volOf_ins _ _ _ hn, if_pos rfl]
def SnapSeen (S : St) : Prop := ∀ k x, snapOf S.core.snaps k = some x → ∃ p, lastOf S.seen true k = some p ∧ p.1.num ≠ 0
theorem perf_snaps {C : Core} (hi : InvC C) (c : Cl) (k : ByteArray) (x : DS) (h : snapOf (perfC C c).2.snaps k = some x) : (∃ y, snapOf C.snaps k = some y) ∨ (c.verb = 6 ∧ c.target = k) := by
  unfold perfC at h
  split at h
  · refine .inl ⟨x, ?_⟩
    unfold createC at h
    split at h
    · split at h <;> exact h
    · split at h
      · exact h
      · split at h
        · exact h
        · split at h
          · exact h
          · split at h
            · exact h
            · split at h <;> exact h
  · split at h
    · refine .inl ⟨x, ?_⟩
      unfold eraseC at h
      split at h
      · exact h
      · split at h <;> exact h
    · split at h
      · refine .inl ⟨x, ?_⟩
        unfold publishC at h
        split at h <;> exact h
      · split at h
        · refine .inl ⟨x, ?_⟩
          unfold unpublishC at h
          split at h <;> exact h
        · split at h
          · refine .inl ⟨x, ?_⟩
            unfold expandC at h
            split at h
            · exact h
            · split at h
              · exact h
              · split at h
                · exact h
                · split at h <;> exact h
          · split at h
            · rename_i hv
              unfold cutC at h
              split at h
              · exact .inl ⟨x, h⟩
              · rename_i hn
                split at h
                · exact .inl ⟨x, h⟩
                · split at h
                  · exact .inl ⟨x, h⟩
                  · have h' : snapOf (insS _ C.snaps) k = some x := h
                    rw [snapOf_ins _ _ _ hn] at h'
                    split at h'
                    · rename_i e
                      exact .inr ⟨hv, e.symm⟩
                    · exact .inl ⟨x, h'⟩
            · have h' : snapOf (delS c.target C.snaps) k = some x := h
              rw [snapOf_del _ _ _ hi.snaps] at h'
              split at h'
              · cases h'
              · exact .inl ⟨x, h'⟩
theorem SnapSeen.deed {S : St} (h : SnapSeen S) (hi : InvC S.core) (ho : OnceL S.seen) (x : Dd) : SnapSeen (deedS S x) := by
  unfold deedS
  split
  · rcases doS_cases S x.c with ⟨-, e⟩ | ⟨hr, ⟨p, -, -, e⟩ | ⟨p, -, -, e⟩ | ⟨p, -, -, -, e⟩ | ⟨-, -, e⟩ | ⟨-, e⟩⟩
    · rw [e]; exact h
    · rw [e]; exact h
    · rw [e]; exact h
    · rw [e]; exact h
    · rw [e]; exact h
    · rw [e]
      intro k y hy
      have hl := lastOf_run S.seen ho x.c (perfC S.core x.c).1 ⟨true, k⟩
      show ∃ p, lastOf (delSeen (snapV x.c.verb) x.c.target S.seen ++ [(x.c, (perfC S.core x.c).1)]) true k = some p ∧ _
      rw [show lastOf (delSeen (snapV x.c.verb) x.c.target S.seen ++ [(x.c, (perfC S.core x.c).1)]) true k = _ from hl]
      split
      · exact ⟨_, rfl, right_numS hr⟩
      · rename_i hne
        rcases perf_snaps hi x.c k y hy with ⟨z, hz⟩ | ⟨hv, ht⟩
        · exact h k z hz
        · refine absurd ?_ hne
          unfold tgOf
          show (⟨true, k⟩ : Tg) = ⟨snapV x.c.verb, x.c.target⟩
          rw [hv, ht]
          rfl
  · intro k y hy
    refine h k y ?_
    have hy' : snapOf (putS S.core x.c.target x.c.node x.tag).2.snaps k = some y := hy
    unfold putS at hy'
    split at hy'
    · exact hy'
    · split at hy' <;> exact hy'
theorem do_cuts {S : St} (_ho : OnceL S.seen) (hss : SnapSeen S) {c : Cl} (hv : c.verb = 6) (hs : seenN S 6 c.target = 0) (hn : 0 ≤ c.num) {x : DV} (hx : volOf S.core.vols c.source = some x) :
    ((doS S c).1.err = 2 ∨ (doS S c).1.err = 7) ∨
    (doS S c).1 = ⟨0, x.size, E0, x.tag⟩ ∧ (doS S c).2.core.vols = S.core.vols ∧ snapOf (doS S c).2.core.snaps c.target = some ⟨c.target, x.size, x.tag⟩ := by
  have hsn : snapOf S.core.snaps c.target = none := by
    cases h : snapOf S.core.snaps c.target with
    | none => rfl
    | some y =>
      obtain ⟨p, hp, h0⟩ := hss _ y h
      rw [seenN_some (show lastOf S.seen (snapV 6) c.target = some p from hp)] at hs
      exact absurd hs h0
  rw [← hv] at hs
  rcases doS_cases S c with ⟨-, e⟩ | ⟨hr, ⟨p, hp, hl, -⟩ | ⟨p, hp, he, -⟩ | ⟨p, hp, he, -⟩ | ⟨-, -, e⟩ | ⟨-, e⟩⟩
  · rw [e]; exact .inl (.inl rfl)
  · rw [seenN_some hp] at hs; omega
  · rw [seenN_some hp, ← he] at hs; exact absurd hs (right_numS hr)
  · rw [seenN_some hp, ← he] at hs; exact absurd hs (right_numS hr)
  · rw [e]; exact .inl (.inr rfl)
  · rw [e]
    show ((perfC S.core c).1.err = 2 ∨ (perfC S.core c).1.err = 7) ∨ (perfC S.core c).1 = _ ∧ (perfC S.core c).2.vols = _ ∧ snapOf (perfC S.core c).2.snaps c.target = _
    unfold perfC
    rw [if_neg (by omega), if_neg (by omega), if_neg (by omega), if_neg (by omega), if_neg (by omega), if_pos hv]
    unfold cutC
    rw [hsn, hx]
    dsimp only
    split
    · exact .inl (.inr rfl)
    · refine .inr ⟨rfl, rfl, ?_⟩
      show snapOf (insS _ S.core.snaps) c.target = _
      rw [snapOf_ins _ _ _ hsn, if_pos rfl]
end Go.Proofs.Ytbgfccanbgpjiaa.O.I
namespace Go.Proofs.Ytbgfccanbgpjiaa.O.I
open Go Go.RowKit Go.Lib KM
attribute [local go_sem] Oper.semAt_some
def cellsE (p : Cl × Rs) : Array Value := cellsP ⟨p.1, p.2⟩
def catE (l : List (Cl × Rs)) : List Value := l.flatMap fun p => (cellsE p).toList
theorem catE_at : ∀ (l : List (Cl × Rs)) (i : Nat) (h : i < l.length) (j : Nat), j < 11 → (catE l)[i * 11 + j]? = (cellsE l[i]).toList[j]?
  | z :: r, 0, _, j, hj => by
    unfold catE
    rw [List.flatMap_cons, List.getElem?_append_left (by show 0 * 11 + j < 11; omega), Nat.zero_mul, Nat.zero_add]
    rfl
  | z :: r, i + 1, h, j, hj => by
    have ih := catE_at r i (by simpa using h) j hj
    unfold catE at ih ⊢
    rw [List.flatMap_cons, List.getElem?_append_right (by show 11 ≤ _; omega)]
    show (List.flatMap (fun p => (cellsE p).toList) r)[(i + 1) * 11 + j - 11]? = _
    rw [show (i + 1) * 11 + j - 11 = i * 11 + j by omega]
    exact ih
theorem catE_app (L K : List (Cl × Rs)) : catE (L ++ K) = catE L ++ catE K := by
  unfold catE
  rw [List.flatMap_append]
structure RAt (R : Nat) (W : World) (q : Nat) (S : St) (rd : Rd) (L : List (DV × Sl)) : Prop where
  low : R ≤ q
  box : BoxQ W q rd
  zones : W.ownsRow R 42 2 (encSl rd.z) S.core.zones.length (catZ S.core.zones)
  vols : VOwn W R rd.v L
  told : L.map (·.1) = S.core.vols
  snaps : SOwn W R rd.s S.core.snaps
  seen : W.ownsRow R 121 11 (encSl rd.d) S.seen.length (catE S.seen)
  few : S.core.zones.length ≤ 16 ∧ S.core.vols.length ≤ 64 ∧ S.core.snaps.length ≤ 64 ∧ S.seen.length ≤ 256
theorem SOwn.after {W V : World} {R : Nat} {s : Sl} {l : List DS} (h : SOwn W R s l) (hb : Below W.heap.size W V) : SOwn V R s l := own_after h hb
section
variable {R : Nat} {W V : World} {q : Nat} {S : St} {rd : Rd} {L : List (DV × Sl)}
theorem RAt.after (h : RAt R W q S rd L) (hb : Below W.heap.size W V) : RAt R V q S rd L := ⟨h.low, h.box.after hb, own_after h.zones hb, h.vols.after hb, h.told, h.snaps.after hb, own_after h.seen hb, h.few⟩
theorem RAt.len (h : RAt R W q S rd L) : L.length = S.core.vols.length := by rw [← h.told, List.length_map]
end
theorem own_view {W : World} {R k n : Nat} {e : TypeId} {s : Sl} {xs : List Value} (h : W.ownsRow R e k (encSl s) n xs) : s.n = n ∧ (0 < n → ∃ g cur, s.o = some ⟨g, 0, none⟩ ∧ R ≤ g ∧ W.heap[g]? = some (.cells cur e (0, 0)) ∧ ∀ j v, xs[j]? = some v → W.cell? ⟨g, j, none⟩ = some v) := by
  have hl := h.1
  rcases h.2 with ⟨h1, h2⟩ | ⟨g, cap, cur, h1, h2, h3, h4, h5, h6, h7⟩
  · unfold encSl at h1
    injection h1 with _ hn _
    exact ⟨hn.trans h2.symm, fun hp => absurd hp (by omega)⟩
  · unfold encSl at h1
    injection h1 with ho hn _
    refine ⟨hn, fun _ => ⟨g, cur, ho, h2, h3, fun j v hj => ?_⟩⟩
    rw [← h7, List.getElem?_take] at hj
    split at hj
    · rw [cell_of_row W g j _ _ _ h3, ← Array.getElem?_toList]
      exact hj
    · cases hj
def Found {α : Type} (p : α → Bool) (l : List α) (v : Value) : Prop := (∃ i x, v = .int .i64 (i : Nat) ∧ l[i]? = some x ∧ p x = true ∧ ∀ j y, j < i → l[j]? = some y → p y = false) ∨ (v = .int .i64 (-1) ∧ ∀ x ∈ l, p x = false)
theorem found_none {α : Type} {p : α → Bool} {l : List α} (h : ∀ j y, j < l.length → l[j]? = some y → p y = false) : Found p l (.int .i64 (-1)) := .inr ⟨rfl, fun x hx => by
  obtain ⟨i, hi, rfl⟩ := List.getElem_of_mem hx
  exact h i _ hi (List.getElem?_eq_getElem hi)⟩
theorem found_more {α : Type} {p : α → Bool} {l : List α} {k : Nat} {x : α} (hx : l[k]? = some x) (hp : p x = false) (h : ∀ j y, j < k → l[j]? = some y → p y = false) : ∀ j y, j < k + 1 → l[j]? = some y → p y = false := fun j y hj hy => by
  rcases Nat.lt_or_ge j k with h1 | h1
  · exact h j y h1 hy
  · obtain rfl : j = k := by omega
    rw [hx] at hy
    cases hy
    exact hp
theorem found_find {α : Type} {p : α → Bool} : ∀ {l : List α} {i : Nat} {x : α}, l[i]? = some x → p x = true → (∀ j y, j < i → l[j]? = some y → p y = false) → l.find? p = some x
  | y :: r, 0, x, h, hp, _ => by
    cases h
    exact List.find?_cons_of_pos hp
  | y :: r, i + 1, x, h, hp, hn => by
    rw [List.find?_cons_of_neg (by rw [hn 0 y (Nat.succ_pos _) rfl]; decide)]
    exact found_find (by simpa using h) hp (fun j z hj hz => hn (j + 1) z (by omega) (by simpa using hz))
theorem isnap_any (v : Int) (w : World) : Calls Try.prog 78 #[.int .u8 v] w fun e w' => e = .returned (.bool (snapV v)) ∧ w = w' := by
  go_enter Try.func78, Try.ntmps78
  by_cases h6 : v = 6
  · subst h6
    go_wp2
    go_ret
    exact ⟨rfl, rfl⟩
  · by_cases h7 : v = 7
    · subst h7
      go_wp2
      go_ret
      exact ⟨rfl, rfl⟩
    · have e1 : snapV v = false := by simp [snapV, h6, h7]
      rw [e1]
      have e7 : (v == 7) = false := by simpa using h7
      go_wp2
      go_ret
      exact ⟨by first | rfl | simp [h6], rfl⟩
section
variable {R : Nat} {W : World} {q : Nat} {S : St} {rd : Rd} {L : List (DV × Sl)} (h : RAt R W q S rd L)
include h
set_option maxRecDepth 100000 in
set_option maxHeartbeats 1000000 in
theorem rzone_any (k : ByteArray) : Calls Try.prog 58 #[.pointer (some ⟨q, 0, none⟩), .string k] W fun e w' => ∃ v, e = .returned v ∧ Found (fun x : Zn => decide (x.name = k)) S.core.zones v ∧ W = w' := by
  have hv := own_view h.zones
  obtain ⟨hn, hv⟩ := hv
  have c1 := h.box.c0
  rw [hn] at c1
  have HV := Lib.hid hv
  have hfew : S.core.zones.length ≤ 256 := by have := h.few; omega
  have HH := Lib.hid h
  clear hv hn
  go_enter Try.func58, Try.ntmps58
  go_wp2
  go_loopw [5] (fun iv wr => ∃ j : Nat, iv = .int .i64 (j : Int) ∧ j ≤ S.core.zones.length ∧ (∀ i y, i < j → S.core.zones[i]? = some y → decide (y.name = k) = false) ∧ W = wr) (fun iv _ => S.core.zones.length - (RowKit.intOf iv).toNat)
  case atStart => exact ⟨0, rfl, Nat.zero_le _, fun i _ hi => absurd hi (by omega), rfl⟩
  case round =>
    obtain ⟨j, rfl, hj, hno, rfl⟩ := hrel
    have HNO := Lib.hid hno
    clear hno
    by_cases hlt : j < S.core.zones.length
    · have hlt' : (j : Int) < (S.core.zones.length : Int) := by omega
      obtain ⟨g, cur, ho, hgR, hgh, hcell⟩ := HV.out (by omega)
      rw [ho] at c1
      have y0 : W.cell? ⟨g, j * 2, none⟩ = some (.string (S.core.zones[j]'hlt).name) := by
        have h1 := catZ_at S.core.zones j hlt 0 (by decide)
        rw [Nat.add_zero] at h1
        exact hcell _ _ (h1.trans rfl)
      obtain ⟨x, hx⟩ : ∃ x, S.core.zones[j]'hlt = x := ⟨_, rfl⟩
      rw [hx] at y0
      have HX : Hid (S.core.zones[j]? = some x) := by show _ = _; rw [List.getElem?_eq_getElem hlt, hx]
      clear hcell hgh hgR ho hx
      by_cases hk : x.name = k
      · have e1 : (x.name.toList == k.toList) = true := by rw [hk]; exact beq_self_eq_true _
        have HF : Hid (Found (fun x : Zn => decide (x.name = k)) S.core.zones (.int .i64 (j : Int))) := .inl ⟨j, x, rfl, HX.out, by simpa using hk, HNO.out⟩
        go_wp2
        go_ret
        exact ⟨_, rfl, HF.out, rfl⟩
      · have e1 : (x.name.toList == k.toList) = false := by rw [eqB]; exact decide_eq_false hk
        have HN2 : Hid (∀ i y, i < j + 1 → S.core.zones[i]? = some y → decide (y.name = k) = false) := found_more (p := fun x : Zn => decide (x.name = k)) HX.out (by simpa using hk) HNO.out
        go_wp2
        go_roundw
        case rel => exact ⟨j + 1, by go_num, by omega, HN2.out, by first | trivial | rfl⟩
        case measure => simp [RowKit.intOf]; omega
    · have hlt' : ¬ (j : Int) < (S.core.zones.length : Int) := by omega
      obtain rfl : j = S.core.zones.length := by omega
      have HF : Hid (Found (fun x : Zn => decide (x.name = k)) S.core.zones (.int .i64 (-1))) := found_none HNO.out
      go_wp2
      go_ret
      exact ⟨_, rfl, HF.out, rfl⟩
set_option maxRecDepth 100000 in
set_option maxHeartbeats 1000000 in
theorem rvol_any (k : ByteArray) : Calls Try.prog 76 #[.pointer (some ⟨q, 0, none⟩), .string k] W fun e w' => ∃ v, e = .returned v ∧ Found (fun x : DV => decide (x.name = k)) S.core.vols v ∧ W = w' := by
  have hv := own_view h.vols.1
  rw [h.len] at hv
  obtain ⟨hn, hv⟩ := hv
  have c1 := h.box.c1
  rw [hn] at c1
  have HV := Lib.hid hv
  have hfew : S.core.vols.length ≤ 256 := by have := h.few; omega
  have HH := Lib.hid h
  clear hv hn
  go_enter Try.func76, Try.ntmps76
  go_wp2
  go_loopw [5] (fun iv wr => ∃ j : Nat, iv = .int .i64 (j : Int) ∧ j ≤ S.core.vols.length ∧ (∀ i y, i < j → S.core.vols[i]? = some y → decide (y.name = k) = false) ∧ W = wr) (fun iv _ => S.core.vols.length - (RowKit.intOf iv).toNat)
  case atStart => exact ⟨0, rfl, Nat.zero_le _, fun i _ hi => absurd hi (by omega), rfl⟩
  case round =>
    obtain ⟨j, rfl, hj, hno, rfl⟩ := hrel
    have HNO := Lib.hid hno
    clear hno
    by_cases hlt : j < S.core.vols.length
    · have hlt' : (j : Int) < (S.core.vols.length : Int) := by omega
      obtain ⟨g, cur, ho, hgR, hgh, hcell⟩ := HV.out (by omega)
      rw [ho] at c1
      have hlt2 : j < L.length := by rw [h.len]; exact hlt
      have hx2 : (L[j]'hlt2).1 = S.core.vols[j]'hlt := by
        have h1 := congrArg (fun l => l[j]?) h.told
        simp only [List.getElem?_map, List.getElem?_eq_getElem hlt2, List.getElem?_eq_getElem hlt, Option.map_some, Option.some.injEq] at h1
        exact h1
      have y0 : W.cell? ⟨g, j * 5, none⟩ = some (.string (S.core.vols[j]'hlt).name) := by
        have h1 := catW_at L j hlt2 0 (by decide)
        rw [Nat.add_zero] at h1
        rw [← hx2]
        exact hcell _ _ (h1.trans rfl)
      obtain ⟨x, hx⟩ : ∃ x, S.core.vols[j]'hlt = x := ⟨_, rfl⟩
      rw [hx] at y0
      have HX : Hid (S.core.vols[j]? = some x) := by show _ = _; rw [List.getElem?_eq_getElem hlt, hx]
      clear hcell hgh hgR ho hx
      by_cases hk : x.name = k
      · have e1 : (x.name.toList == k.toList) = true := by rw [hk]; exact beq_self_eq_true _
        have HF : Hid (Found (fun x : DV => decide (x.name = k)) S.core.vols (.int .i64 (j : Int))) := .inl ⟨j, x, rfl, HX.out, by simpa using hk, HNO.out⟩
        go_wp2
        go_ret
        exact ⟨_, rfl, HF.out, rfl⟩
      · have e1 : (x.name.toList == k.toList) = false := by rw [eqB]; exact decide_eq_false hk
        have HN2 : Hid (∀ i y, i < j + 1 → S.core.vols[i]? = some y → decide (y.name = k) = false) := found_more (p := fun x : DV => decide (x.name = k)) HX.out (by simpa using hk) HNO.out
        go_wp2
        go_roundw
        case rel => exact ⟨j + 1, by go_num, by omega, HN2.out, by first | trivial | rfl⟩
        case measure => simp [RowKit.intOf]; omega
    · have hlt' : ¬ (j : Int) < (S.core.vols.length : Int) := by omega
      obtain rfl : j = S.core.vols.length := by omega
      have HF : Hid (Found (fun x : DV => decide (x.name = k)) S.core.vols (.int .i64 (-1))) := found_none HNO.out
      go_wp2
      go_ret
      exact ⟨_, rfl, HF.out, rfl⟩
set_option maxRecDepth 100000 in
set_option maxHeartbeats 1000000 in
theorem rsnap_any (k : ByteArray) : Calls Try.prog 94 #[.pointer (some ⟨q, 0, none⟩), .string k] W fun e w' => ∃ v, e = .returned v ∧ Found (fun x : DS => decide (x.name = k)) S.core.snaps v ∧ W = w' := by
  have hv := own_view h.snaps
  obtain ⟨hn, hv⟩ := hv
  have c1 := h.box.c2
  rw [hn] at c1
  have HV := Lib.hid hv
  have hfew : S.core.snaps.length ≤ 256 := by have := h.few; omega
  have HH := Lib.hid h
  clear hv hn
  go_enter Try.func94, Try.ntmps94
  go_wp2
  go_loopw [5] (fun iv wr => ∃ j : Nat, iv = .int .i64 (j : Int) ∧ j ≤ S.core.snaps.length ∧ (∀ i y, i < j → S.core.snaps[i]? = some y → decide (y.name = k) = false) ∧ W = wr) (fun iv _ => S.core.snaps.length - (RowKit.intOf iv).toNat)
  case atStart => exact ⟨0, rfl, Nat.zero_le _, fun i _ hi => absurd hi (by omega), rfl⟩
  case round =>
    obtain ⟨j, rfl, hj, hno, rfl⟩ := hrel
    have HNO := Lib.hid hno
    clear hno
    by_cases hlt : j < S.core.snaps.length
    · have hlt' : (j : Int) < (S.core.snaps.length : Int) := by omega
      obtain ⟨g, cur, ho, hgR, hgh, hcell⟩ := HV.out (by omega)
      rw [ho] at c1
      have y0 : W.cell? ⟨g, j * 3, none⟩ = some (.string (S.core.snaps[j]'hlt).name) := by
        have h1 := catS_at S.core.snaps j hlt 0 (by decide)
        rw [Nat.add_zero] at h1
        exact hcell _ _ (h1.trans rfl)
      obtain ⟨x, hx⟩ : ∃ x, S.core.snaps[j]'hlt = x := ⟨_, rfl⟩
      rw [hx] at y0
      have HX : Hid (S.core.snaps[j]? = some x) := by show _ = _; rw [List.getElem?_eq_getElem hlt, hx]
      clear hcell hgh hgR ho hx
      by_cases hk : x.name = k
      · have e1 : (x.name.toList == k.toList) = true := by rw [hk]; exact beq_self_eq_true _
        have HF : Hid (Found (fun x : DS => decide (x.name = k)) S.core.snaps (.int .i64 (j : Int))) := .inl ⟨j, x, rfl, HX.out, by simpa using hk, HNO.out⟩
        go_wp2
        go_ret
        exact ⟨_, rfl, HF.out, rfl⟩
      · have e1 : (x.name.toList == k.toList) = false := by rw [eqB]; exact decide_eq_false hk
        have HN2 : Hid (∀ i y, i < j + 1 → S.core.snaps[i]? = some y → decide (y.name = k) = false) := found_more (p := fun x : DS => decide (x.name = k)) HX.out (by simpa using hk) HNO.out
        go_wp2
        go_roundw
        case rel => exact ⟨j + 1, by go_num, by omega, HN2.out, by first | trivial | rfl⟩
        case measure => simp [RowKit.intOf]; omega
    · have hlt' : ¬ (j : Int) < (S.core.snaps.length : Int) := by omega
      obtain rfl : j = S.core.snaps.length := by omega
      have HF : Hid (Found (fun x : DS => decide (x.name = k)) S.core.snaps (.int .i64 (-1))) := found_none HNO.out
      go_wp2
      go_ret
      exact ⟨_, rfl, HF.out, rfl⟩
set_option maxRecDepth 100000 in
set_option maxHeartbeats 1000000 in
theorem rlast_any (vb : Int) (k : ByteArray) : Calls Try.prog 59 #[.pointer (some ⟨q, 0, none⟩), .int .u8 vb, .string k] W fun e w' => ∃ v, e = .returned v ∧ Found (fun p : Cl × Rs => decide (p.1.target = k) && (snapV p.1.verb == snapV vb)) S.seen v ∧ W = w' := by
  obtain ⟨hn, hv⟩ := own_view h.seen
  have c1 := h.box.c3
  rw [hn] at c1
  have HV := Lib.hid hv
  have hfew : S.seen.length ≤ 256 := by have := h.few; omega
  clear hv hn
  go_enter Try.func59, Try.ntmps59
  go_wp2
  go_loopw [7] (fun iv wr => ∃ j : Nat, iv = .int .i64 (j : Int) ∧ j ≤ S.seen.length ∧ (∀ i y, i < j → S.seen[i]? = some y → (decide (y.1.target = k) && (snapV y.1.verb == snapV vb)) = false) ∧ W = wr) (fun iv _ => S.seen.length - (RowKit.intOf iv).toNat)
  case atStart => exact ⟨0, rfl, Nat.zero_le _, fun i _ hi => absurd hi (by omega), rfl⟩
  case round =>
    obtain ⟨j, rfl, hj, hno, rfl⟩ := hrel
    have HNO := Lib.hid hno
    clear hno
    by_cases hlt : j < S.seen.length
    · have hlt' : (j : Int) < (S.seen.length : Int) := by omega
      obtain ⟨g, cur, ho, hgR, hgh, hcell⟩ := HV.out (by omega)
      rw [ho] at c1
      have y0 : W.cell? ⟨g, j * 11 + 1, none⟩ = some (.string (S.seen[j]'hlt).1.target) := hcell _ _ ((catE_at S.seen j hlt 1 (by decide)).trans rfl)
      have y1 : W.cell? ⟨g, j * 11, none⟩ = some (.int .u8 (S.seen[j]'hlt).1.verb) := by
        have h1 := catE_at S.seen j hlt 0 (by decide)
        rw [Nat.add_zero] at h1
        exact hcell _ _ (h1.trans rfl)
      obtain ⟨x, hx⟩ : ∃ x, S.seen[j]'hlt = x := ⟨_, rfl⟩
      rw [hx] at y0 y1
      have HX : Hid (S.seen[j]? = some x) := by show _ = _; rw [List.getElem?_eq_getElem hlt, hx]
      clear hcell hgh hgR ho hx
      by_cases hk : x.1.target = k
      · have e1 : (x.1.target.toList == k.toList) = true := by rw [hk]; exact beq_self_eq_true _
        go_wp2_with (fail)
        refine (isnap_any x.1.verb W).mono ?_
        rintro e w2 ⟨rfl, rfl⟩
        go_wp2_with (fail)
        refine (isnap_any vb W).mono ?_
        rintro e w2 ⟨rfl, rfl⟩
        cases hs : (snapV x.1.verb == snapV vb) with
        | true =>
          have HF : Hid (Found (fun p : Cl × Rs => decide (p.1.target = k) && (snapV p.1.verb == snapV vb)) S.seen (.int .i64 (j : Int))) := .inl ⟨j, x, rfl, HX.out, by simp only [hs, decide_eq_true hk, Bool.and_self], HNO.out⟩
          go_wp2
          go_ret
          exact ⟨_, rfl, HF.out, rfl⟩
        | false =>
          have HN2 : Hid (∀ i y, i < j + 1 → S.seen[i]? = some y → (decide (y.1.target = k) && (snapV y.1.verb == snapV vb)) = false) := found_more (p := fun p : Cl × Rs => decide (p.1.target = k) && (snapV p.1.verb == snapV vb)) HX.out (by simp only [hs, Bool.and_false]) HNO.out
          go_wp2
          go_roundw
          case rel => exact ⟨j + 1, by go_num, by omega, HN2.out, by first | trivial | rfl⟩
          case measure => simp [RowKit.intOf]; omega
      · have e1 : (x.1.target.toList == k.toList) = false := by rw [eqB]; exact decide_eq_false hk
        have HN2 : Hid (∀ i y, i < j + 1 → S.seen[i]? = some y → (decide (y.1.target = k) && (snapV y.1.verb == snapV vb)) = false) := found_more (p := fun p : Cl × Rs => decide (p.1.target = k) && (snapV p.1.verb == snapV vb)) HX.out (by simp only [decide_eq_false hk, Bool.false_and]) HNO.out
        go_wp2
        go_roundw
        case rel => exact ⟨j + 1, by go_num, by omega, HN2.out, by first | trivial | rfl⟩
        case measure => simp [RowKit.intOf]; omega
    · have hlt' : ¬ (j : Int) < (S.seen.length : Int) := by omega
      obtain rfl : j = S.seen.length := by omega
      have HF : Hid (Found (fun p : Cl × Rs => decide (p.1.target = k) && (snapV p.1.verb == snapV vb)) S.seen (.int .i64 (-1))) := found_none HNO.out
      go_wp2
      go_ret
      exact ⟨_, rfl, HF.out, rfl⟩
end
end Go.Proofs.Ytbgfccanbgpjiaa.O.I
namespace Go.Proofs.Ytbgfccanbgpjiaa.O.I
open Go Go.RowKit Go.Lib KM
attribute [local go_sem] Oper.semAt_some
def Soft (W : World) (g : Nat) : Prop := ∃ cs t f, W.heap[g]? = some (Go.Obj.cells cs t f) ∧ (t = 87 ∨ t = 42 ∨ t = 58)
def DocStay (R : Nat) (W V : World) : Prop := Below R W V ∧ ∀ g, g < W.heap.size → ¬ Soft W g → V.heap[g]? = W.heap[g]?
section
variable {R : Nat} {W V U : World}
theorem DocStay.refl : DocStay R W W := ⟨Below.refl _ _, fun _ _ _ => rfl⟩
theorem DocStay.of_below (h : Below W.heap.size W V) (hR : R ≤ W.heap.size) : DocStay R W V := ⟨h.mono hR, fun g hg _ => h.block g hg⟩
theorem DocStay.trans (h : DocStay R W V) (k : DocStay R V U) : DocStay R W U := ⟨h.1.trans k.1, fun g hg hs => by
  have e := h.2 g hg hs
  refine (k.2 g (by have := h.1.size; omega) ?_).trans e
  rintro ⟨cs, t, f, h1, h2⟩
  exact hs ⟨cs, t, f, e ▸ h1, h2⟩⟩
theorem DocStay.set (h : DocStay R W V) {g i : Nat} {v : Value} (hg : R ≤ g) (hs : Soft V g) : DocStay R W (V.setCell ⟨g, i, none⟩ v) := by
  refine h.trans ⟨(Below.refl R V).setCell hg _, fun b hb hn => heap_setCell_other _ ⟨g, i, none⟩ b _ (fun e => ?_)⟩
  have : b = g := e
  exact hn (this ▸ hs)
theorem BoxQ.soft {q : Nat} {x : Rd} (h : BoxQ W q x) : Soft W q := ⟨_, _, _, h, .inl rfl⟩
theorem StrIn.doc {s : Sl} {l : List ByteArray} (h : StrIn W s l) (hd : DocStay R W V) : StrIn V s l := h.stay fun g cur hg => (hd.2 g (Array.getElem?_eq_some_iff.1 hg).1 (by
  rintro ⟨cs, t, f, h1, h2⟩
  rw [hg] at h1
  injection h1 with h1
  injection h1 with _ h1 _
  rw [← h1] at h2
  exact absurd h2 (by decide))).trans hg
end
theorem own_set {W : World} {R k n g : Nat} {e : TypeId} {s : Sl} {xs : List Value} (h : W.ownsRow R e k (encSl s) n xs) (hg : s.o = some ⟨g, 0, none⟩) {i : Nat} (hi : i < xs.length) (v : Value) : (W.setCell ⟨g, i, none⟩ v).ownsRow R e k (encSl s) n (xs.set i v) := by
  refine ⟨by rw [List.length_set]; exact h.1, ?_⟩
  rcases h.2 with ⟨h1, h2⟩ | ⟨g', cap, cur, h1, h2, h3, h4, h5, h6, h7⟩
  · have := h.1
    rw [h2, Nat.zero_mul] at this
    omega
  · unfold encSl at h1
    injection h1 with ho hn hc
    rw [hg] at ho
    injection ho with ho
    injection ho with ho
    subst ho
    refine .inr ⟨g, cap, cur.setIfInBounds i v, by unfold encSl; rw [hg, hn, hc], h2, (heap_setCell_same _ g i _ _ v h3).trans rfl, h4, h5, by rw [Array.size_setIfInBounds]; exact h6, ?_⟩
    rw [Array.toList_setIfInBounds, ← h7, List.take_set]
theorem own_other {W : World} {R k n g i : Nat} {e : TypeId} {v : Value} {xs : List Value} (h : W.ownsRow R e k v n xs) (u : Value) (hne : ∀ cur, W.heap[g]? ≠ some (Go.Obj.cells cur e (0, 0))) : (W.setCell ⟨g, i, none⟩ u).ownsRow R e k v n xs := by
  refine ⟨h.1, ?_⟩
  rcases h.2 with h1 | ⟨g', cap, cur, h1, h2, h3, h4⟩
  · exact .inl h1
  · refine .inr ⟨g', cap, cur, h1, h2, (heap_setCell_other _ ⟨g, i, none⟩ g' _ (fun e2 => ?_)).trans h3, h4⟩
    have : g' = g := e2
    exact hne cur (this ▸ h3)
theorem set_at {α : Type} {l : List α} {i : Nat} {x : α} (h : l[i]? = some x) : i < l.length := (List.getElem?_eq_some_iff.1 h).1
theorem cat_set {α : Type} (f : α → List Value) (k : Nat) (hf : ∀ x, (f x).length = k) : ∀ (l : List α) (i : Nat) (x : α), l[i]? = some x → ∀ (j : Nat) (v : Value) (y : α), j < k → f y = (f x).set j v → (l.flatMap f).set (i * k + j) v = (l.set i y).flatMap f
  | z :: r, 0, x, h, j, v, y, hj, hy => by
    cases h
    rw [List.set_cons_zero, List.flatMap_cons, List.flatMap_cons, List.set_append_left _ _ (by rw [hf]; omega), hy, Nat.zero_mul, Nat.zero_add]
  | z :: r, i + 1, x, h, j, v, y, hj, hy => by
    have ih := cat_set f k hf r i x (by simpa using h) j v y hj hy
    rw [List.set_cons_succ, List.flatMap_cons, List.flatMap_cons, List.set_append_right _ _ (by rw [hf, Nat.add_mul]; omega), hf, ← ih]
    congr 2
    rw [Nat.add_mul]
    omega
theorem modZ_set {k : ByteArray} {f : Int → Int} : ∀ {l : List Zn} {i : Nat} {z : Zn}, l[i]? = some z → z.name = k → (∀ j y, j < i → l[j]? = some y → decide (y.name = k) = false) → modZ k f l = l.set i ⟨z.name, f z.room⟩
  | y :: r, 0, z, h, hz, _ => by
    cases h
    unfold modZ
    rw [if_pos hz]
    rfl
  | y :: r, i + 1, z, h, hz, hn => by
    unfold modZ
    rw [if_neg (by simpa using hn 0 y (Nat.succ_pos _) rfl), modZ_set (by simpa using h) hz (fun j x hj hx => hn (j + 1) x (by omega) (by simpa using hx))]
    rfl
theorem modV_set {k : ByteArray} {f : DV → DV} : ∀ {l : List DV} {i : Nat} {z : DV}, l[i]? = some z → z.name = k → (∀ j y, j < i → l[j]? = some y → decide (y.name = k) = false) → modV k f l = l.set i (f z)
  | y :: r, 0, z, h, hz, _ => by
    cases h
    unfold modV
    rw [if_pos hz]
    rfl
  | y :: r, i + 1, z, h, hz, hn => by
    unfold modV
    rw [if_neg (by simpa using hn 0 y (Nat.succ_pos _) rfl), modV_set (by simpa using h) hz (fun j x hj hx => hn (j + 1) x (by omega) (by simpa using hx))]
    rfl
theorem delV_erase {k : ByteArray} : ∀ {l : List DV} {i : Nat} {z : DV}, l[i]? = some z → z.name = k → (∀ j y, j < i → l[j]? = some y → decide (y.name = k) = false) → delV k l = l.take i ++ l.drop (i + 1)
  | y :: r, 0, z, h, hz, _ => by
    cases h
    unfold delV
    rw [if_pos hz]
    rfl
  | y :: r, i + 1, z, h, hz, hn => by
    unfold delV
    rw [if_neg (by simpa using hn 0 y (Nat.succ_pos _) rfl), delV_erase (by simpa using h) hz (fun j x hj hx => hn (j + 1) x (by omega) (by simpa using hx))]
    rfl
theorem delS_erase {k : ByteArray} : ∀ {l : List DS} {i : Nat} {z : DS}, l[i]? = some z → z.name = k → (∀ j y, j < i → l[j]? = some y → decide (y.name = k) = false) → delS k l = l.take i ++ l.drop (i + 1)
  | y :: r, 0, z, h, hz, _ => by
    cases h
    unfold delS
    rw [if_pos hz]
    rfl
  | y :: r, i + 1, z, h, hz, hn => by
    unfold delS
    rw [if_neg (by simpa using hn 0 y (Nat.succ_pos _) rfl), delS_erase (by simpa using h) hz (fun j x hj hx => hn (j + 1) x (by omega) (by simpa using hx))]
    rfl
theorem built_rerr (e : Int) : Try.prog.built 50 [(0, .int .i64 e)] = some (cellsR (errR e)) := by kernel_rfl
set_option maxRecDepth 100000 in
set_option maxHeartbeats 1000000 in
theorem rfailed_any (x : Int) (w : World) : Calls Try.prog 89 #[.int .i64 x] w fun e w' => e = .returned (encR (errR x)) ∧ Below w.heap.size w w' := by
  obtain ⟨V, hs, hv, hl⟩ := boxR w zeroR rfl (errR x)
  have HV := Lib.hid hv
  have HW := Lib.hid hl
  clear hv hl
  go_enter Try.func89, Try.ntmps89
  go_wp2_with (first | ((with_reducible refine wpList_build_to rfl 50 _ rfl (cellsR (errR x)) ?_ ?_); exact built_rerr _) | (refine wpList_skip rfl (hs rfl rfl rfl) ?_))
  refine bodyPost_ret (v := encR (errR x)) (results_cell_row rfl _ _ w.heap.size 50 (cellsR (errR x)) (0, 0) _ rfl HV.out undR rfl sizeR) rfl ?_
  exact ⟨rfl, HW.out⟩
section
variable {R : Nat} {W : World} {q : Nat} {S : St} {rd : Rd} {L : List (DV × Sl)}
theorem RAt.zone_at (h : RAt R W q S rd L) {i : Nat} {z : Zn} (hz : S.core.zones[i]? = some z) : ∃ g cur, rd.z.o = some ⟨g, 0, none⟩ ∧ R ≤ g ∧ W.heap[g]? = some (Go.Obj.cells cur 42 (0, 0)) ∧ W.cell? ⟨g, i * 2, none⟩ = some (.string z.name) ∧ W.cell? ⟨g, i * 2 + 1, none⟩ = some (.int .i64 z.room) ∧ i < S.core.zones.length ∧ rd.z.n = S.core.zones.length := by
  obtain ⟨hn, hv⟩ := own_view h.zones
  have hlt := set_at hz
  obtain ⟨g, cur, h1, h2, h3, h4⟩ := hv (by omega)
  have hzz : S.core.zones[i]'hlt = z := by rw [List.getElem?_eq_getElem hlt] at hz; exact Option.some.inj hz
  have e0 := catZ_at S.core.zones i hlt 0 (by decide)
  have e1 := catZ_at S.core.zones i hlt 1 (by decide)
  rw [hzz] at e0 e1
  rw [Nat.add_zero] at e0
  exact ⟨g, cur, h1, h2, h3, h4 _ _ (e0.trans rfl), h4 _ _ (e1.trans rfl), hlt, hn⟩
theorem RAt.vol_at (h : RAt R W q S rd L) {i : Nat} {x : DV} (hx : S.core.vols[i]? = some x) : ∃ g cur s, L[i]? = some (x, s) ∧ rd.v.o = some ⟨g, 0, none⟩ ∧ R ≤ g ∧ W.heap[g]? = some (Go.Obj.cells cur 58 (0, 0)) ∧ World.rangeAt W g (i * 5) (cellsDV x s).toList ∧ StrIn W s x.nodes ∧ i < S.core.vols.length ∧ rd.v.n = S.core.vols.length := by
  obtain ⟨hn, hv⟩ := own_view h.vols.1
  have hlt := set_at hx
  have hl := h.len
  have hlt2 : i < L.length := by omega
  obtain ⟨g, cur, h1, h2, h3, h4⟩ := hv (by omega)
  have e0 : (L[i]'hlt2).1 = x := by
    have h5 := congrArg (fun l => l[i]?) h.told
    simp only [List.getElem?_map, List.getElem?_eq_getElem hlt2, hx, Option.map_some, Option.some.injEq] at h5
    exact h5
  refine ⟨g, cur, (L[i]'hlt2).2, by rw [List.getElem?_eq_getElem hlt2, ← e0], h1, h2, h3, fun j u hu => ?_, ?_, hlt, by omega⟩
  · have hj : j < 5 := (List.getElem?_eq_some_iff.1 hu).1
    have h6 := catW_at L i hlt2 j hj
    rw [e0] at h6
    exact h4 _ _ (h6.trans hu)
  · have h6 := h.vols.2 _ (List.getElem_mem hlt2)
    rw [e0] at h6
    exact h6
theorem RAt.snap_at (h : RAt R W q S rd L) {i : Nat} {x : DS} (hx : S.core.snaps[i]? = some x) : ∃ g cur, rd.s.o = some ⟨g, 0, none⟩ ∧ R ≤ g ∧ W.heap[g]? = some (Go.Obj.cells cur 63 (0, 0)) ∧ World.rangeAt W g (i * 3) (cellsDS x).toList ∧ i < S.core.snaps.length ∧ rd.s.n = S.core.snaps.length := by
  obtain ⟨hn, hv⟩ := own_view h.snaps
  have hlt := set_at hx
  obtain ⟨g, cur, h1, h2, h3, h4⟩ := hv (by omega)
  have e0 : S.core.snaps[i]'hlt = x := by rw [List.getElem?_eq_getElem hlt] at hx; exact Option.some.inj hx
  refine ⟨g, cur, h1, h2, h3, fun j u hu => ?_, hlt, hn⟩
  have hj : j < 3 := (List.getElem?_eq_some_iff.1 hu).1
  have h6 := catS_at S.core.snaps i hlt j hj
  rw [e0] at h6
  exact h4 _ _ (h6.trans hu)
theorem RAt.seen_at (h : RAt R W q S rd L) {i : Nat} {x : Cl × Rs} (hx : S.seen[i]? = some x) : ∃ g cur, rd.d.o = some ⟨g, 0, none⟩ ∧ R ≤ g ∧ W.heap[g]? = some (Go.Obj.cells cur 121 (0, 0)) ∧ World.rangeAt W g (i * 11) (cellsE x).toList ∧ i < S.seen.length ∧ rd.d.n = S.seen.length := by
  obtain ⟨hn, hv⟩ := own_view h.seen
  have hlt := set_at hx
  obtain ⟨g, cur, h1, h2, h3, h4⟩ := hv (by omega)
  have e0 : S.seen[i]'hlt = x := by rw [List.getElem?_eq_getElem hlt] at hx; exact Option.some.inj hx
  refine ⟨g, cur, h1, h2, h3, fun j u hu => ?_, hlt, hn⟩
  have hj : j < 11 := (List.getElem?_eq_some_iff.1 hu).1
  have h6 := catE_at S.seen i hlt j hj
  rw [e0] at h6
  exact h4 _ _ (h6.trans hu)
end
end Go.Proofs.Ytbgfccanbgpjiaa.O.I
