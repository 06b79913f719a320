/- Own work. -/
import Derived.Laws.AppendOwn
import Derived.Test.YtbgfccanbgpjiaaDJ04
import Derived.Test.YtbgfccanbgpjiaaIter
import Derived.Shelf.Abstract
import Derived.Shelf.RegionOpen
import Derived.OwnWalkIn
import Derived.TacticsInMore
import Derived.LoopNIn
import Derived.LoopIn
import Derived.RangeFuncBox
import Derived.Test.YtbgfccanbgpjiaaDINamed
import Derived.Test.YtbgfccanbgpjiaaDJRangeMap
namespace Go.Proofs.Ytbgfccanbgpjiaa.O.I
open Go Go.RowKit Go.Lib
attribute [local go_sem] Oper.semAt_some
structure Sl where
  o : Option Addr
  n : Nat
  c : Nat
def nilS : Sl := ⟨none, 0, 0⟩
def encSl (s : Sl) : Value := .slice s.o s.n s.c
structure Rd where
  z : Sl
  v : Sl
  s : Sl
  d : Sl
def cellsQ (x : Rd) : Array Value := #[.slice x.z.o x.z.n x.z.c, .slice x.v.o x.v.n x.v.c, .slice x.s.o x.s.n x.s.c, .slice x.d.o x.d.n x.d.c]
def encQ (x : Rd) : Value := .agg (cellsQ x)
def BoxQ (W : World) (b : Nat) (x : Rd) : Prop := W.heap[b]? = some (.cells (cellsQ x) 87 (0, 0))
section
variable {W W' : World} {b : Nat} {x : Rd}
theorem BoxQ.lt (h : BoxQ W b x) : b < W.heap.size := (Array.getElem?_eq_some_iff.1 h).1
theorem BoxQ.after (h : BoxQ W b x) (hb : Below W.heap.size W W') : BoxQ W' b x := (hb.block b h.lt).trans h
theorem BoxQ.c0 (h : BoxQ W b x) : W.cell? ⟨b, 0, none⟩ = some (.slice x.z.o x.z.n x.z.c) := (cell_of_row W b 0 _ _ _ h).trans rfl
theorem BoxQ.c1 (h : BoxQ W b x) : W.cell? ⟨b, 1, none⟩ = some (.slice x.v.o x.v.n x.v.c) := (cell_of_row W b 1 _ _ _ h).trans rfl
theorem BoxQ.c2 (h : BoxQ W b x) : W.cell? ⟨b, 2, none⟩ = some (.slice x.s.o x.s.n x.s.c) := (cell_of_row W b 2 _ _ _ h).trans rfl
theorem BoxQ.c3 (h : BoxQ W b x) : W.cell? ⟨b, 3, none⟩ = some (.slice x.d.o x.d.n x.d.c) := (cell_of_row W b 3 _ _ _ h).trans rfl
theorem BoxQ.free (h : BoxQ W b x) (i : Nat) : W.frozen? ⟨b, i, none⟩ = false := frozen_of_row W b i _ _ h
end
theorem built_q (s : Sl) : Try.prog.built 87 [(0, .slice s.o s.n s.c)] = some (cellsQ ⟨s, nilS, nilS, nilS⟩) := by kernel_rfl
def Rowy (t e : TypeId) (k : Nat) (z : Value) : Prop := Try.prog.underlying t = some (.slice e) ∧ z.cells.size = k ∧ 0 < k ∧ ∃ i, Try.prog.info? e = some i ∧ i.zero = some z ∧ i.size = k ∧ i.bytes ≤ 1000
theorem add_rows {t e : TypeId} {k : Nat} {z : Value} (hr : Rowy t e k z) (R : Nat) (W : World) (v : Value) (n : Nat) (xs : List Value) (hown : W.ownsRow R e k v n xs) (g off m c : Nat) (news : List Value) (hl : news.length = m * k)
    (hnews : World.rangeAt W g off news) (h1 : ∀ u ∈ news, u.oneCell' = true) (hn : n + m ≤ 1000000) (hR : R ≤ W.heap.size) (ty : TypeId) :
    ∃ v' W', (Builtin.append_ #[t, t] ty #[v, .slice (some ⟨g, off, none⟩) m c]).run Try.prog W = .ok v' W' ∧ W'.ownsRow R e k v' (n + m) (xs ++ news) ∧ Below R W W' ∧ (v' = .slice none 0 0 ↔ v = .slice none 0 0 ∧ m = 0) := by
  obtain ⟨ht, hzs, hk, i, hi, hz, hs, hb⟩ := hr
  obtain ⟨v', W', h2, h3, h4, h5⟩ := run_append_own (P := Try.prog) W R t ty e i z k i.bytes ht hi hz hs rfl hzs hk v n xs hown ⟨g, off, none⟩ m c news hl (fun j u hu => by rw [Addr.add_mid]; exact hnews j u hu) h1 (by unfold maxLen; omega)
    (Nat.le_trans (Nat.mul_le_mul hn hb) (by decide)) hR
  refine ⟨v', W', h2, h3, ?_, h5⟩
  refine (Below.refl R W).grown h4 hR (fun r e => ?_)
  rcases hown.2 with ⟨rfl, -⟩ | ⟨g', cap, cur, rfl, hg, -⟩
  · cases e
  · cases e
    exact hg
theorem own_none (W : World) (R : Nat) (e : TypeId) (k : Nat) : W.ownsRow R e k (.slice none 0 0) 0 [] := ⟨by simp, .inl ⟨rfl, rfl⟩⟩
theorem own_empty {W : World} {R : Nat} {e : TypeId} {k : Nat} (h : R ≤ W.heap.size) : (W.alloc (.cells #[] e (0, 0))).ownsRow R e k (.slice (some ⟨W.heap.size, 0, none⟩) 0 0) 0 [] :=
  ⟨by simp, .inr ⟨W.heap.size, 0, #[], rfl, h, heap_alloc_new W _, Nat.le_refl _, Nat.zero_le _, by simp, by simp⟩⟩
theorem own_after {W W' : World} {R k n : Nat} {e : TypeId} {v : Value} {xs : List Value} (h : W.ownsRow R e k v n xs) (hb : Below W.heap.size W W') : W'.ownsRow R e k v n xs := by
  refine ⟨h.1, ?_⟩
  rcases h.2 with h1 | ⟨g, cap, cur, h1, h2, h3, h4⟩
  · exact .inl h1
  · exact .inr ⟨g, cap, cur, h1, h2, (hb.block g (Array.getElem?_eq_some_iff.1 h3).1).trans h3, h4⟩
theorem own_sl {W : World} {R k n : Nat} {e : TypeId} {v : Value} {xs : List Value} (h : W.ownsRow R e k v n xs) : ∃ s : Sl, v = .slice s.o s.n s.c ∧ s.n = n := by
  rcases h.2 with ⟨rfl, rfl⟩ | ⟨g, cap, cur, rfl, -⟩
  · exact ⟨nilS, rfl, rfl⟩
  · exact ⟨⟨some ⟨g, 0, none⟩, n, cap⟩, rfl, rfl⟩
def catZ (l : List Zn) : List Value := l.flatMap fun z => (cellsZ z).toList
theorem catZ_length (l : List Zn) : (catZ l).length = l.length * 2 := by
  unfold catZ
  induction l with
  | nil => rfl
  | cons z r ih =>
    rw [List.flatMap_cons, List.length_append, ih, List.length_cons, Nat.add_mul]
    show 2 + _ = _
    omega
theorem catZ_one (l : List Zn) : ∀ u ∈ catZ l, u.oneCell' = true := by
  intro u hu
  unfold catZ at hu
  obtain ⟨z, -, h⟩ := List.mem_flatMap.1 hu
  have h' : u ∈ [Value.string z.name, .int .i64 z.room] := h
  simp only [List.mem_cons, List.not_mem_nil, or_false] at h'
  rcases h' with rfl | rfl <;> rfl
theorem catZ_at : ∀ (l : List Zn) (i : Nat) (h : i < l.length) (j : Nat), j < 2 → (catZ l)[i * 2 + j]? = (cellsZ l[i]).toList[j]?
  | z :: r, 0, _, j, hj => by
    unfold catZ
    rw [List.flatMap_cons, List.getElem?_append_left (by show 0 * 2 + j < 2; omega), Nat.zero_mul, Nat.zero_add]
    rfl
  | z :: r, i + 1, h, j, hj => by
    have ih := catZ_at r i (by simpa using h) j hj
    unfold catZ at ih ⊢
    rw [List.flatMap_cons, List.getElem?_append_right (by show 2 ≤ _; omega)]
    show (List.flatMap (fun z => (cellsZ z).toList) r)[(i + 1) * 2 + j - 2]? = _
    rw [show (i + 1) * 2 + j - 2 = i * 2 + j by omega]
    exact ih
theorem ZonesIn.row {W : World} {v : Value} {l : List Zn} (h : ZonesIn W v l) (hne : 1 ≤ l.length) : ∃ g off c, v = .slice (some ⟨g, off, none⟩) l.length c ∧ g < W.heap.size ∧ World.rangeAt W g off (catZ l) := by
  obtain ⟨o, c, rfl, -, hx⟩ := h
  obtain ⟨g, off, rfl, hg, -⟩ := hx 0 (by omega)
  refine ⟨g, off, c, rfl, hg, fun j u hu => ?_⟩
  have hj : j < l.length * 2 := by
    have := (List.getElem?_eq_some_iff.1 hu).1
    rwa [catZ_length] at this
  obtain ⟨g2, off2, he, -, hr⟩ := hx (j / 2) (by omega)
  cases he
  have e : j = j / 2 * 2 + j % 2 := by omega
  rw [e, catZ_at l (j / 2) (by omega) (j % 2) (by omega)] at hu
  have h3 := hr (j % 2) u hu
  rwa [show off + j / 2 * 2 + j % 2 = off + j by omega] at h3
theorem zone_rowy : Rowy 36 42 2 (encZ ⟨E0, 0⟩) := by
  refine ⟨Try.underlying36, by rfl, by decide, ?_⟩
  have h : (Try.prog.info? 42).map (fun i => (i.zero, i.size, decide (i.bytes ≤ 1000))) = some (some (encZ ⟨E0, 0⟩), 2, true) := by kernel_rfl
  cases hi : Try.prog.info? 42 with
  | none => rw [hi] at h; cases h
  | some i =>
    rw [hi] at h
    simp only [Option.map_some, Option.some.injEq, Prod.mk.injEq] at h
    exact ⟨i, rfl, h.1, h.2.1, of_decide_eq_true h.2.2⟩
end Go.Proofs.Ytbgfccanbgpjiaa.O.I
namespace Go.Proofs.Ytbgfccanbgpjiaa.O.I
open Go Go.RowKit Go.Lib Go.Shelf RangeMap KM
attribute [local go_sem] Oper.semAt_some
theorem own_below {β : Type} {B : Nat} {J : β → World → Prop} (hJ : OwnFrom B J) {s : β} {W W' : World} (h : J s W) (hb : Below W.heap.size W W') : J s W' :=
  hJ s W W' none h ⟨hb.os, hb.tape, hb.output, hb.size, fun b hlt _ => hb.block b hlt⟩ (fun r e => by cases e)
theorem inOrder_any (mb : Option Nat) (w : World) : Calls Try.prog 44 #[.map mb] w fun e w' => e = .returned (.func (.func 61) #[] #[.pointer (some ⟨w.heap.size, 0, none⟩)]) ∧ w' = w.alloc (.cells #[.map mb] tV) := by
  go_enter Try.func44, Try.ntmps44
  go_wp2
  go_ret
  exact ⟨rfl, rfl⟩
end Go.Proofs.Ytbgfccanbgpjiaa.O.I
namespace Go.Proofs.Ytbgfccanbgpjiaa.O.I
open Go Go.RowKit Go.Lib Go.Shelf KM
theorem rd_of {e : MapEntry} {k : ByteArray} (hk : k.size ≤ maxLen) (h : e.key = .string k) : WideElems.rd Try.prog 9 (fun _ => some ((DataW.nil : DataW Unit), [])) e = some (.string k.data.toList, .nil) := by
  unfold WideElems.rd
  rw [h, WideMaps.keyOf_string_mk (P := Try.prog) Try.underlying9 hk]
  rfl
theorem rgs_of : ∀ (l : List MapEntry) (m : List (ByteArray × Value)), KM.Holds encS l m → (∀ p ∈ m, p.1.size ≤ maxLen) →
    l.map (WideElems.rg Try.prog 9 (fun _ => some ((DataW.nil : DataW Unit), []))) = m.map fun p => (Lit.string p.1.data.toList, (DataW.nil : DataW Unit))
  | [], m, h, _ => by rw [h.nil]; rfl
  | e :: l, m, h, hk => by
    obtain ⟨p, r, rfl, ⟨h1, -⟩, h3⟩ := h.cons_inv
    rw [List.map_cons, List.map_cons, rgs_of l r h3 (fun q hq => hk q (.tail _ hq)), WideElems.rg_of (rd_of (hk p (.head _)) h1)]
def datum (m : List (ByteArray × Value)) : DataW Unit := .map ((m.map fun p => (Lit.string p.1.data.toList, (DataW.nil : DataW Unit))).foldr DataW.insert [])
theorem datum_size (m : List (ByteArray × Value)) : Maps.size (datum m) = m.length := by
  unfold datum
  show (List.foldr DataW.insert [] _).length = _
  rw [(WideShapes.sorted_perm _).length_eq, List.length_map]
theorem datum_keys (m : List (ByteArray × Value)) : (strKeys (datum m)).Perm (m.map fun p => p.1.data.toList) := by
  unfold datum
  show (List.map _ (List.foldr DataW.insert [] _)).Perm _
  refine ((WideShapes.sorted_perm _).map _).trans ?_
  rw [List.map_map]
  exact List.Perm.of_eq (List.map_congr_left fun p _ => rfl)
theorem owns_any {W : World} {mb : Nat} {m : List (ByteArray × Value)} (hk : ∀ p ∈ m, p.1.size ≤ maxLen) (hl : m.length ≤ maxLen) (hm : IsMap encS W mb m) (hst : Stamp W mb) :
    W.ownsMap Try.prog 9 (fun _ => some ((DataW.nil : DataW Unit), [])) mb m.length (datum m) := by
  obtain ⟨es, clock, hb, hh⟩ := hm
  obtain ⟨es', clock', hb', hs'⟩ := hst
  rw [hb] at hb'
  cases hb'
  have hlen : es.size = m.length := by rw [← hh.length]; simp
  refine ⟨es, clock, hb, ⟨by omega, hs', fun x hx => ?_⟩, by omega, ?_⟩
  · have h1 : (x.key, x.val) ∈ es.toList.map (fun e => (e.key, e.val)) := List.mem_map.2 ⟨x, hx, rfl⟩
    rw [show es.toList.map (fun e => (e.key, e.val)) = m.map (fun p => (encS p.1, p.2)) from hh] at h1
    obtain ⟨p, hp, he⟩ := List.mem_map.1 h1
    exact ⟨_, rd_of (hk p hp) (Prod.mk.inj he).1.symm⟩
  · unfold datum
    rw [rgs_of _ _ hh hk]
end Go.Proofs.Ytbgfccanbgpjiaa.O.I
namespace Go.Proofs.Ytbgfccanbgpjiaa.O.I.Q
open Go Go.RowKit Go.Lib Go.Shelf RangeRow KM
attribute [local go_sem] Oper.semAt_some
theorem noRow_map {κ : Type} {enc : κ → Value} {W : World} {b : Nat} {m : List (κ × Value)} {E : TypeId} (h : IsMap enc W b m) : NoRow E W b := by
  obtain ⟨es, clock, hb, -⟩ := h
  exact noRow_of hb (fun cs f e => by cases e)
abbrev El (m : List (ByteArray × Vl)) := { p : ByteArray × Vl // p ∈ m }
def encM (m : List (ByteArray × Vl)) (x : El m) : Array Value := #[.string x.1.1, encV x.1.2]
def held (m : List (ByteArray × Vl)) : List (ByteArray × Value) := m.map fun p => (p.1, encV p.2)
theorem get_held : ∀ {m : List (ByteArray × Vl)}, (m.map (·.1)).Nodup → ∀ p ∈ m, KM.get p.1 (held m) = some (encV p.2)
  | q :: r, h, p, hp => by
    obtain ⟨h1, h2⟩ := List.nodup_cons.1 (show (q.1 :: r.map (·.1)).Nodup from h)
    unfold held
    rw [List.map_cons]
    unfold KM.get
    rcases List.mem_cons.1 hp with rfl | h3
    · rw [if_pos rfl]
    · rw [if_neg (fun e => h1 (List.mem_map.2 ⟨p, h3, e⟩))]
      exact get_held h2 p h3
def keyOf (p : ByteArray × Vl) : List UInt8 := p.1.data.toList
def Ordered (m : List (ByteArray × Vl)) (L : List (List UInt8)) : Prop := ∃ ss : List (List UInt8), ss.Perm (m.map keyOf) ∧ L = ss.mergeSort fun x y => decide (x ≤ y)
theorem Ordered.length {m : List (ByteArray × Vl)} {L : List (List UInt8)} (h : Ordered m L) : L.length = m.length := by
  obtain ⟨ss, hp, rfl⟩ := h
  rw [List.length_mergeSort, hp.length_eq, List.length_map]
theorem Ordered.mem {m : List (ByteArray × Vl)} {L : List (List UInt8)} (h : Ordered m L) {k : List UInt8} (hk : k ∈ L) : ∃ p ∈ m, keyOf p = k := by
  obtain ⟨ss, hp, rfl⟩ := h
  exact List.mem_map.1 ((hp.mem_iff).1 (List.mem_mergeSort.1 hk))
def Part (m : List (ByteArray × Vl)) (xs : List (El m)) : Prop := ∃ L, Ordered m L ∧ xs.map (fun x => keyOf x.1) <+: L
def Whole (m : List (ByteArray × Vl)) (xs : List (El m)) : Prop := Ordered m (xs.map fun x => keyOf x.1)
structure AtN (b mb g : Nat) (cur : Array Value) (m : List (ByteArray × Vl)) (L : List (List UInt8)) (J : List (El m) → World → Prop) (i : Nat) (W : World) : Prop where
  box : Boxed W b tV (.map (some mb))
  map : IsMap encS W mb (held m)
  row : W.heap[g]? = some (.cells cur 9 (0, 0))
  inv : ∃ pre : List (El m), pre.map (fun x => keyOf x.1) = L.take i ∧ J pre W
set_option maxRecDepth 100000 in
theorem sorted_any (m : List (ByteArray × Vl)) (hlen : m.length ≤ 1000000) (hne : m ≠ []) (mb : Nat) (W : World) (hown : W.ownsMap Try.prog 9 (fun _ => some ((DataW.nil : DataW Unit), [])) mb (held m).length (datum (held m))) :
    CallsIn Fence.wide 5 Try.prog 45 #[.func (.func 80) #[] #[.pointer (some ⟨W.heap.size, 0, none⟩)]] (W.alloc (.cells #[.map (some mb)] tV)) fun e W2 => ∃ L g cap cur, Ordered m L ∧ e = .returned (.slice (some ⟨g, 0, none⟩) L.length cap) ∧ W2.heap[g]? = some (.cells cur 9 (0, 0)) ∧ (∀ i (h : i < L.length), cur[i]? = some (.string ⟨L[i].toArray⟩)) ∧ W.heap.size ≤ g ∧ Below W.heap.size W W2 := by
  have hsz : Maps.size (datum (held m)) = m.length := by rw [datum_size]; unfold held; rw [List.length_map]
  refine (Try.slices_Sorted_keys_45_62 mb _ _ _ W hown (by rw [hsz]; exact Nat.le_trans hlen (by decide)) (by rw [hsz]; omega)).mono ?_
  rintro e W2 ⟨v, ss, rfl, hS, hrow, -, hb⟩
  have hkeys : ss.Perm (m.map keyOf) := hS.trans ((datum_keys (held m)).trans (List.Perm.of_eq (by unfold held; rw [List.map_map]; rfl)))
  rcases hrow.2 with ⟨-, h0⟩ | ⟨g, cap, cur, rfl, hg, hh, -, -, -, ht⟩
  · have : m.length = 0 := by rw [← List.length_map (f := keyOf), ← hkeys.length_eq]; exact h0
    exact absurd (List.length_eq_zero_iff.1 this) hne
  refine ⟨ss.mergeSort (fun x y => decide (x ≤ y)), g, cap, cur, ⟨ss, hkeys, rfl⟩, by rw [List.length_mergeSort], hh, fun i h => ?_, Nat.le_trans (by simp) hg, ((Below.refl _ _).alloc (Nat.le_refl _) _).trans (hb.mono (by simp))⟩
  have hi : i < ss.length := by rw [List.length_mergeSort] at h; exact h
  have h1 := congrArg (fun l => l[i]?) ht
  simp only [List.getElem?_map, List.getElem?_take] at h1
  rw [if_pos (by omega)] at h1
  rw [← Array.getElem?_toList, h1, List.getElem?_eq_getElem h]
  rfl
set_option maxRecDepth 100000 in
set_option maxHeartbeats 2000000 in
theorem vols_seqN (n : Nat) (hn : n = 6) (m : List (ByteArray × Vl)) (hk : ∀ p ∈ m, p.1.size ≤ maxLen) (hlen : m.length ≤ 1000000) (hne : m ≠ []) (hon : (m.map (·.1)).Nodup) (b mb lo hi N0 : Nat) (w : World) (hlh : hi ≤ w.heap.size ∧ ¬ (lo ≤ b ∧ b < hi) ∧ ¬ (lo ≤ mb ∧ mb < hi)) (hbox : Boxed w b tV (.map (some mb))) (hm : IsMap encS w mb (held m)) (hst : Stamp w mb) :
    Seq Fence.wide n Try.prog 61 #[.pointer (some ⟨b, 0, none⟩)] (encM m) lo hi N0 58 (Whole m) (Part m) m.length w := fun L0 J Jx W hW hL hLW hJ hJx hY h0 => by
  have hmW : IsMap encS W mb (held m) := hm.after hW
  have hown := owns_any (m := held m) (fun p hp => by obtain ⟨q, hq, rfl⟩ := List.mem_map.1 hp; exact hk q hq) (by unfold held; rw [List.length_map]; exact Nat.le_trans hlen (by decide)) hmW (hst.of_heap (hW.block mb hm.lt))
  have hboxW : Boxed W b tV (.map (some mb)) := (hW.block b hbox.lt).trans hbox
  have HBX := Lib.hid hboxW
  have HM := Lib.hid hmW
  have HLH := Lib.hid hlh
  have HLT : Hid (b < w.heap.size ∧ mb < w.heap.size) := ⟨hbox.lt, hm.lt⟩
  have H0 := Lib.hid h0
  have HJ := Lib.hid hJ
  have HY := Lib.hid hY
  have HOW := Lib.hid hown
  have HON := Lib.hid hon
  have hNW := hW.size
  have b1 := hboxW.cell
  have HMK : Hid (∀ w, CallsIn Fence.wide (n - 1) Try.prog 62 #[.map (some mb)] w fun e w' => e = .returned (.func (.func 80) #[] #[.pointer (some ⟨w.heap.size, 0, none⟩)]) ∧ w' = w.alloc (.cells #[.map (some mb)] tV)) := by
    subst hn
    exact fun w => Try.maps_Keys_62 _ _
  have HSO : Hid (CallsIn Fence.wide (n - 1) Try.prog 45 #[.func (.func 80) #[] #[.pointer (some ⟨W.heap.size, 0, none⟩)]] (W.alloc (.cells #[.map (some mb)] tV)) fun e W2 => ∃ L g cap cur, Ordered m L ∧ e = .returned (.slice (some ⟨g, 0, none⟩) L.length cap) ∧ W2.heap[g]? = some (.cells cur 9 (0, 0)) ∧ (∀ i (h : i < L.length), cur[i]? = some (.string ⟨L[i].toArray⟩)) ∧ W.heap.size ≤ g ∧ Below W.heap.size W W2) := by
    subst hn
    exact sorted_any m hlen hne mb W HOW.out
  clear hn hlh
  clear hbox hm hst hW hJ hJx hY h0 hmW hboxW hown hon
  refine callsIn_of_wp Try.func61 rfl trivial ?_ rfl
  simp only [Try.ntmps61, List.size_toArray, List.length_cons, List.length_nil, Nat.reduceAdd, Nat.reduceSub, Array.replicate_succ, Array.replicate_zero, List.push_toArray, List.append_toArray, List.nil_append, List.cons_append]
  gi_wp2_with fail
  refine ⟨trivial, fun h => (by cases h), (HMK.out _).mono ?_⟩
  rintro e w' ⟨rfl, rfl⟩
  gi_wp2_with fail
  refine ⟨trivial, fun h => (by cases h), HSO.out.mono ?_⟩
  rintro e W2 ⟨L, g, cap, cur, hord, rfl, hh, hcur, hgW, hW2⟩
  have HG : Hid (AtN b mb g cur m L J 0 W2) := ⟨(hW2.block b (by have := HLT.out; omega)).trans HBX.out, HM.out.after hW2, hh, [], rfl, own_below HJ.out H0.out hW2⟩
  have HC := Lib.hid hcur
  have HGW := Lib.hid hgW
  have HO := Lib.hid hord
  have hLL : L.length ≤ 1000000 := by have := hord.length; omega
  clear hh hcur hW2 hgW HMK HSO HBX HM H0 HOW b1 hord
  gi_wp2
  gi_loopw [9] (fun iv wr => ∃ i : Nat, iv = .int .i64 (i : Int) ∧ i ≤ L.length ∧ AtN b mb g cur m L J i wr) (fun iv _ => L.length - (RowKit.intOf iv).toNat)
  case atStart => exact ⟨0, rfl, Nat.zero_le _, HG.out⟩
  case round =>
    clear HG
    obtain ⟨i, rfl, hi, hat⟩ := hrel
    by_cases hlt : i < L.length
    · have hlt' : (i : Int) < (L.length : Int) := by omega
      obtain ⟨pre, hp1, hp2⟩ := hat.inv
      obtain ⟨p, hpm, hpk⟩ := HO.out.mem (List.getElem_mem hlt)
      have hpb : p.1 = ⟨L[i].toArray⟩ := by rw [← hpk]; rfl
      have hplen : pre.length < m.length := by
        have h1 := congrArg List.length hp1
        rw [List.length_map, List.length_take] at h1
        have := HO.out.length
        omega
      obtain ⟨fn, tmps, assign, body, hy, hR⟩ := HY.out pre ⟨p, hpm⟩ wr hp2 hplen
      change Sem.run Try.prog (Instr.yield L0 #[.string p.1, encV p.2]) _ = _ at hy
      have HR := Lib.hid hR
      have HAT := Lib.hid hat
      have hmap := hat.map
      have hget := get_held HON.out p hpm
      have hlk : ∀ {oi : Oper} {a : Act} {q r : Operand}, oi.op = .lookup tV q r false → a.eval q = .map (some mb) → a.eval r = .string p.1 → (execOp a.eval oi).run Try.prog wr = .ok (.value (encV p.2)) wr :=
        fun ho h1 h2 => exec_look1 und_V (zero_V _) hmap (some (encV p.2)) hget ho h1 h2
      have d1 := hat.box.cell
      have e1 : wr.cell? ⟨g, i, none⟩ = some (.string p.1) := by rw [hpb]; exact (cell_of_row wr g i _ _ _ hat.row).trans (HC.out i hlt)
      have HPRE : Hid ((pre ++ [(⟨p, hpm⟩ : El m)]).map (fun x => keyOf x.1) = L.take (i + 1)) := by
        show _ = _
        rw [List.map_append, hp1, List.take_add_one, List.getElem?_eq_getElem hlt, ← hpk]
        rfl
      clear hR hat hp1 hp2 hget hpk hpb hplen
      gi_wp2_with (refine KnownIn.value rfl rfl (hlk rfl rfl rfl) ?_)
      refine ⟨fun h => (by cases h), HR.out.mono ?_⟩
      rintro e W6 (⟨rfl, hJ6, hk6⟩ | ⟨rfl, hJx6, -⟩)
      · have hat := HAT.out
        have hbl := HLT.out
        have hml := hat.map.lt
        have hgl := (Array.getElem?_eq_some_iff.1 hat.row).1
        have hgw := HGW.out
        obtain ⟨hh1, hh2, hh3⟩ := HLH.out
        have hbw := hat.box.lt
        have HN : Hid (AtN b mb g cur m L J (i + 1) W6) := ⟨hk6.keep hat.box (by omega) hh2 (fun cs f e => by injection e with _ h _; exact absurd h (by decide)), hat.map.of_heap (hk6.2 mb hml (by omega) hh3 (.inr (noRow_map hat.map))), hk6.keep hat.row (by omega) (by omega) (fun cs f e => by injection e with _ h _; exact absurd h (by decide)), _, HPRE.out, hJ6⟩
        clear hJ6 hk6 hy hmap hlk d1 e1 hat hbl hml hgl hgw hbw hh1 hh2 hh3 HAT
        gi_wp2
        exact ⟨⟨i + 1, by go_num, by omega, HN.out⟩, by simp [RowKit.intOf]; omega⟩
      · have HX6 := Lib.hid hJx6
        clear hJx6 hy hmap hlk d1 e1 HAT
        gi_wp2
        refine bodyPost_ret (results_none rfl _ _ _) rfl ?_
        exact ⟨⟨_, rfl⟩, .inr ⟨_, ⟨L, HO.out, by rw [HPRE.out]; exact List.take_prefix _ _⟩, HX6.out⟩⟩
    · have hlt' : ¬ (i : Int) < (L.length : Int) := by omega
      have hE : i = L.length := by omega
      obtain ⟨pre, hp1, hp2⟩ := hat.inv
      rw [hE, List.take_length] at hp1
      have HP := Lib.hid hp1
      have HJ2 := Lib.hid hp2
      clear hat hp1 hp2 hi hlt hE
      gi_wp2
      go_end0
      exact ⟨⟨_, rfl⟩, .inl ⟨pre, by unfold Whole; rw [HP.out]; exact HO.out, HJ2.out⟩⟩
theorem sorted_none (mb : Nat) (W : World) (hm : IsMap encS W mb []) : CallsIn Fence.wide 5 Try.prog 45 #[.func (.func 80) #[] #[.pointer (some ⟨W.heap.size, 0, none⟩)]] (W.alloc (.cells #[.map (some mb)] tV)) fun e W2 => e = .returned (.slice none 0 0) ∧ Below W.heap.size W W2 := by
  have hown : W.ownsMap Try.prog 9 (fun _ => some ((DataW.nil : DataW Unit), [])) mb 0 (.map []) := by
    obtain ⟨es, clock, hb, hh⟩ := hm
    obtain ⟨l⟩ := es
    cases l with
    | cons e r => unfold Holds at hh; simp at hh
    | nil => exact ⟨#[], clock, hb, ⟨by simp, MapKept.stamped_empty clock, by simp⟩, Nat.le_refl _, rfl⟩
  refine (Try.slices_Sorted_keys_45_62 mb 0 _ _ W hown (by show 0 ≤ maxLen; omega) (by show 0 * 16 ≤ 140737488355328; omega)).mono ?_
  rintro e W2 ⟨v, ss, rfl, hS, -, hnil, hb⟩
  have hss : ss = [] := List.perm_nil.1 hS
  exact ⟨by rw [hnil.2 hss], ((Below.refl _ _).alloc (Nat.le_refl _) _).trans (hb.mono (by simp))⟩
set_option maxRecDepth 100000 in
set_option maxHeartbeats 2000000 in
theorem vols_seq0 (n : Nat) (hn : n = 6) (b mb lo hi N0 : Nat) (w : World) (hbox : Boxed w b tV (.map (some mb))) (hm : IsMap encS w mb []) :
    Seq Fence.wide n Try.prog 61 #[.pointer (some ⟨b, 0, none⟩)] (encM []) lo hi N0 58 (Whole []) (Part []) 0 w := fun L0 J Jx W hW hL hLW hJ hJx hY h0 => by
  have hmW : IsMap encS W mb [] := hm.after hW
  have hboxW : Boxed W b tV (.map (some mb)) := (hW.block b hbox.lt).trans hbox
  have H0 := Lib.hid h0
  have HJ := Lib.hid hJ
  have b1 := hboxW.cell
  have HMK : Hid (∀ w, CallsIn Fence.wide (n - 1) Try.prog 62 #[.map (some mb)] w fun e w' => e = .returned (.func (.func 80) #[] #[.pointer (some ⟨w.heap.size, 0, none⟩)]) ∧ w' = w.alloc (.cells #[.map (some mb)] tV)) := by
    subst hn
    exact fun w => Try.maps_Keys_62 _ _
  have HSO : Hid (CallsIn Fence.wide (n - 1) Try.prog 45 #[.func (.func 80) #[] #[.pointer (some ⟨W.heap.size, 0, none⟩)]] (W.alloc (.cells #[.map (some mb)] tV)) fun e W2 => e = .returned (.slice none 0 0) ∧ Below W.heap.size W W2) := by
    subst hn
    exact sorted_none mb W hmW
  clear hn hbox hm hW hL hLW hJ hJx hY h0 hmW hboxW
  refine callsIn_of_wp Try.func61 rfl trivial ?_ rfl
  simp only [Try.ntmps61, List.size_toArray, List.length_cons, List.length_nil, Nat.reduceAdd, Nat.reduceSub, Array.replicate_succ, Array.replicate_zero, List.push_toArray, List.append_toArray, List.nil_append, List.cons_append]
  gi_wp2_with fail
  refine ⟨trivial, fun h => (by cases h), (HMK.out _).mono ?_⟩
  rintro e w' ⟨rfl, rfl⟩
  gi_wp2_with fail
  refine ⟨trivial, fun h => (by cases h), HSO.out.mono ?_⟩
  rintro e W2 ⟨rfl, hW2⟩
  have HG : Hid (J [] W2) := own_below HJ.out H0.out hW2
  clear hW2 HMK HSO H0 b1
  gi_wp2
  gi_loopw [9] (fun iv wr => iv = .int .i64 0 ∧ J [] wr) (fun _ _ => 0)
  case atStart => exact ⟨rfl, HG.out⟩
  case round =>
    clear HG
    obtain ⟨rfl, hat⟩ := hrel
    have HJ2 := Lib.hid hat
    clear hat
    gi_wp2
    go_end0
    exact ⟨⟨_, rfl⟩, .inl ⟨[], ⟨[], List.Perm.refl _, by simp⟩, HJ2.out⟩⟩
end Go.Proofs.Ytbgfccanbgpjiaa.O.I.Q
namespace Go.Proofs.Ytbgfccanbgpjiaa.O.I.Qs
open Go Go.RowKit Go.Lib Go.Shelf RangeRow KM
attribute [local go_sem] Oper.semAt_some
theorem noRow_map {κ : Type} {enc : κ → Value} {W : World} {b : Nat} {m : List (κ × Value)} {E : TypeId} (h : IsMap enc W b m) : NoRow E W b := by
  obtain ⟨es, clock, hb, -⟩ := h
  exact noRow_of hb (fun cs f e => by cases e)
abbrev El (m : List (ByteArray × Ct)) := { p : ByteArray × Ct // p ∈ m }
def encM (m : List (ByteArray × Ct)) (x : El m) : Array Value := #[.string x.1.1, encK x.1.2]
def held (m : List (ByteArray × Ct)) : List (ByteArray × Value) := m.map fun p => (p.1, encK p.2)
theorem get_held : ∀ {m : List (ByteArray × Ct)}, (m.map (·.1)).Nodup → ∀ p ∈ m, KM.get p.1 (held m) = some (encK p.2)
  | q :: r, h, p, hp => by
    obtain ⟨h1, h2⟩ := List.nodup_cons.1 (show (q.1 :: r.map (·.1)).Nodup from h)
    unfold held
    rw [List.map_cons]
    unfold KM.get
    rcases List.mem_cons.1 hp with rfl | h3
    · rw [if_pos rfl]
    · rw [if_neg (fun e => h1 (List.mem_map.2 ⟨p, h3, e⟩))]
      exact get_held h2 p h3
def keyOf (p : ByteArray × Ct) : List UInt8 := p.1.data.toList
def Ordered (m : List (ByteArray × Ct)) (L : List (List UInt8)) : Prop := ∃ ss : List (List UInt8), ss.Perm (m.map keyOf) ∧ L = ss.mergeSort fun x y => decide (x ≤ y)
theorem Ordered.length {m : List (ByteArray × Ct)} {L : List (List UInt8)} (h : Ordered m L) : L.length = m.length := by
  obtain ⟨ss, hp, rfl⟩ := h
  rw [List.length_mergeSort, hp.length_eq, List.length_map]
theorem Ordered.mem {m : List (ByteArray × Ct)} {L : List (List UInt8)} (h : Ordered m L) {k : List UInt8} (hk : k ∈ L) : ∃ p ∈ m, keyOf p = k := by
  obtain ⟨ss, hp, rfl⟩ := h
  exact List.mem_map.1 ((hp.mem_iff).1 (List.mem_mergeSort.1 hk))
def Part (m : List (ByteArray × Ct)) (xs : List (El m)) : Prop := ∃ L, Ordered m L ∧ xs.map (fun x => keyOf x.1) <+: L
def Whole (m : List (ByteArray × Ct)) (xs : List (El m)) : Prop := Ordered m (xs.map fun x => keyOf x.1)
structure AtN (b mb g : Nat) (cur : Array Value) (m : List (ByteArray × Ct)) (L : List (List UInt8)) (J : List (El m) → World → Prop) (i : Nat) (W : World) : Prop where
  box : Boxed W b tS (.map (some mb))
  map : IsMap encS W mb (held m)
  row : W.heap[g]? = some (.cells cur 9 (0, 0))
  inv : ∃ pre : List (El m), pre.map (fun x => keyOf x.1) = L.take i ∧ J pre W
set_option maxRecDepth 100000 in
theorem sorted_any (m : List (ByteArray × Ct)) (hlen : m.length ≤ 1000000) (hne : m ≠ []) (mb : Nat) (W : World) (hown : W.ownsMap Try.prog 9 (fun _ => some ((DataW.nil : DataW Unit), [])) mb (held m).length (datum (held m))) :
    CallsIn Fence.wide 5 Try.prog 45 #[.func (.func 84) #[] #[.pointer (some ⟨W.heap.size, 0, none⟩)]] (W.alloc (.cells #[.map (some mb)] tS)) fun e W2 => ∃ L g cap cur, Ordered m L ∧ e = .returned (.slice (some ⟨g, 0, none⟩) L.length cap) ∧ W2.heap[g]? = some (.cells cur 9 (0, 0)) ∧ (∀ i (h : i < L.length), cur[i]? = some (.string ⟨L[i].toArray⟩)) ∧ W.heap.size ≤ g ∧ Below W.heap.size W W2 := by
  have hsz : Maps.size (datum (held m)) = m.length := by rw [datum_size]; unfold held; rw [List.length_map]
  refine (Try.slices_Sorted_keys_45_67 mb _ _ _ W hown (by rw [hsz]; exact Nat.le_trans hlen (by decide)) (by rw [hsz]; omega)).mono ?_
  rintro e W2 ⟨v, ss, rfl, hS, hrow, -, hb⟩
  have hkeys : ss.Perm (m.map keyOf) := hS.trans ((datum_keys (held m)).trans (List.Perm.of_eq (by unfold held; rw [List.map_map]; rfl)))
  rcases hrow.2 with ⟨-, h0⟩ | ⟨g, cap, cur, rfl, hg, hh, -, -, -, ht⟩
  · have : m.length = 0 := by rw [← List.length_map (f := keyOf), ← hkeys.length_eq]; exact h0
    exact absurd (List.length_eq_zero_iff.1 this) hne
  refine ⟨ss.mergeSort (fun x y => decide (x ≤ y)), g, cap, cur, ⟨ss, hkeys, rfl⟩, by rw [List.length_mergeSort], hh, fun i h => ?_, Nat.le_trans (by simp) hg, ((Below.refl _ _).alloc (Nat.le_refl _) _).trans (hb.mono (by simp))⟩
  have hi : i < ss.length := by rw [List.length_mergeSort] at h; exact h
  have h1 := congrArg (fun l => l[i]?) ht
  simp only [List.getElem?_map, List.getElem?_take] at h1
  rw [if_pos (by omega)] at h1
  rw [← Array.getElem?_toList, h1, List.getElem?_eq_getElem h]
  rfl
set_option maxRecDepth 100000 in
set_option maxHeartbeats 2000000 in
theorem snaps_seqN (n : Nat) (hn : n = 6) (m : List (ByteArray × Ct)) (hk : ∀ p ∈ m, p.1.size ≤ maxLen) (hlen : m.length ≤ 1000000) (hne : m ≠ []) (hon : (m.map (·.1)).Nodup) (b mb lo hi N0 : Nat) (w : World) (hlh : hi ≤ w.heap.size ∧ ¬ (lo ≤ b ∧ b < hi) ∧ ¬ (lo ≤ mb ∧ mb < hi)) (hbox : Boxed w b tS (.map (some mb))) (hm : IsMap encS w mb (held m)) (hst : Stamp w mb) :
    Seq Fence.wide n Try.prog 66 #[.pointer (some ⟨b, 0, none⟩)] (encM m) lo hi N0 63 (Whole m) (Part m) m.length w := fun L0 J Jx W hW hL hLW hJ hJx hY h0 => by
  have hmW : IsMap encS W mb (held m) := hm.after hW
  have hown := owns_any (m := held m) (fun p hp => by obtain ⟨q, hq, rfl⟩ := List.mem_map.1 hp; exact hk q hq) (by unfold held; rw [List.length_map]; exact Nat.le_trans hlen (by decide)) hmW (hst.of_heap (hW.block mb hm.lt))
  have hboxW : Boxed W b tS (.map (some mb)) := (hW.block b hbox.lt).trans hbox
  have HBX := Lib.hid hboxW
  have HM := Lib.hid hmW
  have HLH := Lib.hid hlh
  have HLT : Hid (b < w.heap.size ∧ mb < w.heap.size) := ⟨hbox.lt, hm.lt⟩
  have H0 := Lib.hid h0
  have HJ := Lib.hid hJ
  have HY := Lib.hid hY
  have HOW := Lib.hid hown
  have HON := Lib.hid hon
  have hNW := hW.size
  have b1 := hboxW.cell
  have HMK : Hid (∀ w, CallsIn Fence.wide (n - 1) Try.prog 67 #[.map (some mb)] w fun e w' => e = .returned (.func (.func 84) #[] #[.pointer (some ⟨w.heap.size, 0, none⟩)]) ∧ w' = w.alloc (.cells #[.map (some mb)] tS)) := by
    subst hn
    exact fun w => Try.maps_Keys_67 _ _
  have HSO : Hid (CallsIn Fence.wide (n - 1) Try.prog 45 #[.func (.func 84) #[] #[.pointer (some ⟨W.heap.size, 0, none⟩)]] (W.alloc (.cells #[.map (some mb)] tS)) fun e W2 => ∃ L g cap cur, Ordered m L ∧ e = .returned (.slice (some ⟨g, 0, none⟩) L.length cap) ∧ W2.heap[g]? = some (.cells cur 9 (0, 0)) ∧ (∀ i (h : i < L.length), cur[i]? = some (.string ⟨L[i].toArray⟩)) ∧ W.heap.size ≤ g ∧ Below W.heap.size W W2) := by
    subst hn
    exact sorted_any m hlen hne mb W HOW.out
  clear hn hlh
  clear hbox hm hst hW hJ hJx hY h0 hmW hboxW hown hon
  refine callsIn_of_wp Try.func66 rfl trivial ?_ rfl
  simp only [Try.ntmps66, List.size_toArray, List.length_cons, List.length_nil, Nat.reduceAdd, Nat.reduceSub, Array.replicate_succ, Array.replicate_zero, List.push_toArray, List.append_toArray, List.nil_append, List.cons_append]
  gi_wp2_with fail
  refine ⟨trivial, fun h => (by cases h), (HMK.out _).mono ?_⟩
  rintro e w' ⟨rfl, rfl⟩
  gi_wp2_with fail
  refine ⟨trivial, fun h => (by cases h), HSO.out.mono ?_⟩
  rintro e W2 ⟨L, g, cap, cur, hord, rfl, hh, hcur, hgW, hW2⟩
  have HG : Hid (AtN b mb g cur m L J 0 W2) := ⟨(hW2.block b (by have := HLT.out; omega)).trans HBX.out, HM.out.after hW2, hh, [], rfl, own_below HJ.out H0.out hW2⟩
  have HC := Lib.hid hcur
  have HGW := Lib.hid hgW
  have HO := Lib.hid hord
  have hLL : L.length ≤ 1000000 := by have := hord.length; omega
  clear hh hcur hW2 hgW HMK HSO HBX HM H0 HOW b1 hord
  gi_wp2
  gi_loopw [9] (fun iv wr => ∃ i : Nat, iv = .int .i64 (i : Int) ∧ i ≤ L.length ∧ AtN b mb g cur m L J i wr) (fun iv _ => L.length - (RowKit.intOf iv).toNat)
  case atStart => exact ⟨0, rfl, Nat.zero_le _, HG.out⟩
  case round =>
    clear HG
    obtain ⟨i, rfl, hi, hat⟩ := hrel
    by_cases hlt : i < L.length
    · have hlt' : (i : Int) < (L.length : Int) := by omega
      obtain ⟨pre, hp1, hp2⟩ := hat.inv
      obtain ⟨p, hpm, hpk⟩ := HO.out.mem (List.getElem_mem hlt)
      have hpb : p.1 = ⟨L[i].toArray⟩ := by rw [← hpk]; rfl
      have hplen : pre.length < m.length := by
        have h1 := congrArg List.length hp1
        rw [List.length_map, List.length_take] at h1
        have := HO.out.length
        omega
      obtain ⟨fn, tmps, assign, body, hy, hR⟩ := HY.out pre ⟨p, hpm⟩ wr hp2 hplen
      change Sem.run Try.prog (Instr.yield L0 #[.string p.1, encK p.2]) _ = _ at hy
      have HR := Lib.hid hR
      have HAT := Lib.hid hat
      have hmap := hat.map
      have hget := get_held HON.out p hpm
      have hlk : ∀ {oi : Oper} {a : Act} {q r : Operand}, oi.op = .lookup tS q r false → a.eval q = .map (some mb) → a.eval r = .string p.1 → (execOp a.eval oi).run Try.prog wr = .ok (.value (encK p.2)) wr :=
        fun ho h1 h2 => exec_look1 und_S (zero_S _) hmap (some (encK p.2)) hget ho h1 h2
      have d1 := hat.box.cell
      have e1 : wr.cell? ⟨g, i, none⟩ = some (.string p.1) := by rw [hpb]; exact (cell_of_row wr g i _ _ _ hat.row).trans (HC.out i hlt)
      have HPRE : Hid ((pre ++ [(⟨p, hpm⟩ : El m)]).map (fun x => keyOf x.1) = L.take (i + 1)) := by
        show _ = _
        rw [List.map_append, hp1, List.take_add_one, List.getElem?_eq_getElem hlt, ← hpk]
        rfl
      clear hR hat hp1 hp2 hget hpk hpb hplen
      gi_wp2_with (refine KnownIn.value rfl rfl (hlk rfl rfl rfl) ?_)
      refine ⟨fun h => (by cases h), HR.out.mono ?_⟩
      rintro e W6 (⟨rfl, hJ6, hk6⟩ | ⟨rfl, hJx6, -⟩)
      · have hat := HAT.out
        have hbl := HLT.out
        have hml := hat.map.lt
        have hgl := (Array.getElem?_eq_some_iff.1 hat.row).1
        have hgw := HGW.out
        obtain ⟨hh1, hh2, hh3⟩ := HLH.out
        have hbw := hat.box.lt
        have HN : Hid (AtN b mb g cur m L J (i + 1) W6) := ⟨hk6.keep hat.box (by omega) hh2 (fun cs f e => by injection e with _ h _; exact absurd h (by decide)), hat.map.of_heap (hk6.2 mb hml (by omega) hh3 (.inr (noRow_map hat.map))), hk6.keep hat.row (by omega) (by omega) (fun cs f e => by injection e with _ h _; exact absurd h (by decide)), _, HPRE.out, hJ6⟩
        clear hJ6 hk6 hy hmap hlk d1 e1 hat hbl hml hgl hgw hbw hh1 hh2 hh3 HAT
        gi_wp2
        exact ⟨⟨i + 1, by go_num, by omega, HN.out⟩, by simp [RowKit.intOf]; omega⟩
      · have HX6 := Lib.hid hJx6
        clear hJx6 hy hmap hlk d1 e1 HAT
        gi_wp2
        refine bodyPost_ret (results_none rfl _ _ _) rfl ?_
        exact ⟨⟨_, rfl⟩, .inr ⟨_, ⟨L, HO.out, by rw [HPRE.out]; exact List.take_prefix _ _⟩, HX6.out⟩⟩
    · have hlt' : ¬ (i : Int) < (L.length : Int) := by omega
      have hE : i = L.length := by omega
      obtain ⟨pre, hp1, hp2⟩ := hat.inv
      rw [hE, List.take_length] at hp1
      have HP := Lib.hid hp1
      have HJ2 := Lib.hid hp2
      clear hat hp1 hp2 hi hlt hE
      gi_wp2
      go_end0
      exact ⟨⟨_, rfl⟩, .inl ⟨pre, by unfold Whole; rw [HP.out]; exact HO.out, HJ2.out⟩⟩
theorem sorted_none (mb : Nat) (W : World) (hm : IsMap encS W mb []) : CallsIn Fence.wide 5 Try.prog 45 #[.func (.func 84) #[] #[.pointer (some ⟨W.heap.size, 0, none⟩)]] (W.alloc (.cells #[.map (some mb)] tS)) fun e W2 => e = .returned (.slice none 0 0) ∧ Below W.heap.size W W2 := by
  have hown : W.ownsMap Try.prog 9 (fun _ => some ((DataW.nil : DataW Unit), [])) mb 0 (.map []) := by
    obtain ⟨es, clock, hb, hh⟩ := hm
    obtain ⟨l⟩ := es
    cases l with
    | cons e r => unfold Holds at hh; simp at hh
    | nil => exact ⟨#[], clock, hb, ⟨by simp, MapKept.stamped_empty clock, by simp⟩, Nat.le_refl _, rfl⟩
  refine (Try.slices_Sorted_keys_45_67 mb 0 _ _ W hown (by show 0 ≤ maxLen; omega) (by show 0 * 16 ≤ 140737488355328; omega)).mono ?_
  rintro e W2 ⟨v, ss, rfl, hS, -, hnil, hb⟩
  have hss : ss = [] := List.perm_nil.1 hS
  exact ⟨by rw [hnil.2 hss], ((Below.refl _ _).alloc (Nat.le_refl _) _).trans (hb.mono (by simp))⟩
set_option maxRecDepth 100000 in
set_option maxHeartbeats 2000000 in
theorem snaps_seq0 (n : Nat) (hn : n = 6) (b mb lo hi N0 : Nat) (w : World) (hbox : Boxed w b tS (.map (some mb))) (hm : IsMap encS w mb []) :
    Seq Fence.wide n Try.prog 66 #[.pointer (some ⟨b, 0, none⟩)] (encM []) lo hi N0 63 (Whole []) (Part []) 0 w := fun L0 J Jx W hW hL hLW hJ hJx hY h0 => by
  have hmW : IsMap encS W mb [] := hm.after hW
  have hboxW : Boxed W b tS (.map (some mb)) := (hW.block b hbox.lt).trans hbox
  have H0 := Lib.hid h0
  have HJ := Lib.hid hJ
  have b1 := hboxW.cell
  have HMK : Hid (∀ w, CallsIn Fence.wide (n - 1) Try.prog 67 #[.map (some mb)] w fun e w' => e = .returned (.func (.func 84) #[] #[.pointer (some ⟨w.heap.size, 0, none⟩)]) ∧ w' = w.alloc (.cells #[.map (some mb)] tS)) := by
    subst hn
    exact fun w => Try.maps_Keys_67 _ _
  have HSO : Hid (CallsIn Fence.wide (n - 1) Try.prog 45 #[.func (.func 84) #[] #[.pointer (some ⟨W.heap.size, 0, none⟩)]] (W.alloc (.cells #[.map (some mb)] tS)) fun e W2 => e = .returned (.slice none 0 0) ∧ Below W.heap.size W W2) := by
    subst hn
    exact sorted_none mb W hmW
  clear hn hbox hm hW hL hLW hJ hJx hY h0 hmW hboxW
  refine callsIn_of_wp Try.func66 rfl trivial ?_ rfl
  simp only [Try.ntmps66, List.size_toArray, List.length_cons, List.length_nil, Nat.reduceAdd, Nat.reduceSub, Array.replicate_succ, Array.replicate_zero, List.push_toArray, List.append_toArray, List.nil_append, List.cons_append]
  gi_wp2_with fail
  refine ⟨trivial, fun h => (by cases h), (HMK.out _).mono ?_⟩
  rintro e w' ⟨rfl, rfl⟩
  gi_wp2_with fail
  refine ⟨trivial, fun h => (by cases h), HSO.out.mono ?_⟩
  rintro e W2 ⟨rfl, hW2⟩
  have HG : Hid (J [] W2) := own_below HJ.out H0.out hW2
  clear hW2 HMK HSO H0 b1
  gi_wp2
  gi_loopw [9] (fun iv wr => iv = .int .i64 0 ∧ J [] wr) (fun _ _ => 0)
  case atStart => exact ⟨rfl, HG.out⟩
  case round =>
    clear HG
    obtain ⟨rfl, hat⟩ := hrel
    have HJ2 := Lib.hid hat
    clear hat
    gi_wp2
    go_end0
    exact ⟨⟨_, rfl⟩, .inl ⟨[], ⟨[], List.Perm.refl _, by simp⟩, HJ2.out⟩⟩
end Go.Proofs.Ytbgfccanbgpjiaa.O.I.Qs
namespace Go.Proofs.Ytbgfccanbgpjiaa.O.I
open Go Go.RowKit Go.Lib Go.Shelf RangeMap KM
attribute [local go_sem] Oper.semAt_some
abbrev El (m : List (ByteArray × Vl)) := { p : ByteArray × Vl // p ∈ m }
def encM (m : List (ByteArray × Vl)) (x : El m) : Array Value := #[.string x.1.1, encV x.1.2]
def held (m : List (ByteArray × Vl)) : List (ByteArray × Value) := m.map fun p => (p.1, encV p.2)
theorem get_held : ∀ {m : List (ByteArray × Vl)}, (m.map (·.1)).Nodup → ∀ p ∈ m, KM.get p.1 (held m) = some (encV p.2)
  | q :: r, h, p, hp => by
    obtain ⟨h1, h2⟩ := List.nodup_cons.1 (show (q.1 :: r.map (·.1)).Nodup from h)
    unfold held
    rw [List.map_cons]
    unfold KM.get
    rcases List.mem_cons.1 hp with rfl | h3
    · rw [if_pos rfl]
    · rw [if_neg (fun e => h1 (List.mem_map.2 ⟨p, h3, e⟩))]
      exact get_held h2 p h3
def keyOf (p : ByteArray × Vl) : List UInt8 := p.1.data.toList
def Ordered (m : List (ByteArray × Vl)) (L : List (List UInt8)) : Prop := ∃ ss : List (List UInt8), ss.Perm (m.map keyOf) ∧ L = ss.mergeSort fun x y => decide (x ≤ y)
theorem Ordered.length {m : List (ByteArray × Vl)} {L : List (List UInt8)} (h : Ordered m L) : L.length = m.length := by
  obtain ⟨ss, hp, rfl⟩ := h
  rw [List.length_mergeSort, hp.length_eq, List.length_map]
theorem Ordered.mem {m : List (ByteArray × Vl)} {L : List (List UInt8)} (h : Ordered m L) {k : List UInt8} (hk : k ∈ L) : ∃ p ∈ m, keyOf p = k := by
  obtain ⟨ss, hp, rfl⟩ := h
  exact List.mem_map.1 ((hp.mem_iff).1 (List.mem_mergeSort.1 hk))
def Part (m : List (ByteArray × Vl)) (xs : List (El m)) : Prop := ∃ L, Ordered m L ∧ xs.map (fun x => keyOf x.1) <+: L
def Whole (m : List (ByteArray × Vl)) (xs : List (El m)) : Prop := Ordered m (xs.map fun x => keyOf x.1)
structure AtN (b mb g : Nat) (cur : Array Value) (m : List (ByteArray × Vl)) (L : List (List UInt8)) (J : List (El m) → World → Prop) (i : Nat) (W : World) : Prop where
  box : Boxed W b tV (.map (some mb))
  map : IsMap encS W mb (held m)
  row : W.heap[g]? = some (.cells cur 9 (0, 0))
  inv : ∃ pre : List (El m), pre.map (fun x => keyOf x.1) = L.take i ∧ J pre W
set_option maxRecDepth 100000 in
theorem sorted_any (m : List (ByteArray × Vl)) (hlen : m.length ≤ 1000000) (hne : m ≠ []) (mb : Nat) (W : World) (hown : W.ownsMap Try.prog 9 (fun _ => some ((DataW.nil : DataW Unit), [])) mb (held m).length (datum (held m))) :
    CallsIn Fence.wide 5 Try.prog 45 #[.func (.func 80) #[] #[.pointer (some ⟨W.heap.size, 0, none⟩)]] (W.alloc (.cells #[.map (some mb)] tV)) fun e W2 => ∃ L g cap cur, Ordered m L ∧ e = .returned (.slice (some ⟨g, 0, none⟩) L.length cap) ∧ W2.heap[g]? = some (.cells cur 9 (0, 0)) ∧ (∀ i (h : i < L.length), cur[i]? = some (.string ⟨L[i].toArray⟩)) ∧ W.heap.size ≤ g ∧ Below W.heap.size W W2 := by
  have hsz : Maps.size (datum (held m)) = m.length := by rw [datum_size]; unfold held; rw [List.length_map]
  refine (Try.slices_Sorted_keys_45_62 mb _ _ _ W hown (by rw [hsz]; exact Nat.le_trans hlen (by decide)) (by rw [hsz]; omega)).mono ?_
  rintro e W2 ⟨v, ss, rfl, hS, hrow, -, hb⟩
  have hkeys : ss.Perm (m.map keyOf) := hS.trans ((datum_keys (held m)).trans (List.Perm.of_eq (by unfold held; rw [List.map_map]; rfl)))
  rcases hrow.2 with ⟨-, h0⟩ | ⟨g, cap, cur, rfl, hg, hh, -, -, -, ht⟩
  · have : m.length = 0 := by rw [← List.length_map (f := keyOf), ← hkeys.length_eq]; exact h0
    exact absurd (List.length_eq_zero_iff.1 this) hne
  refine ⟨ss.mergeSort (fun x y => decide (x ≤ y)), g, cap, cur, ⟨ss, hkeys, rfl⟩, by rw [List.length_mergeSort], hh, fun i h => ?_, Nat.le_trans (by simp) hg, ((Below.refl _ _).alloc (Nat.le_refl _) _).trans (hb.mono (by simp))⟩
  have hi : i < ss.length := by rw [List.length_mergeSort] at h; exact h
  have h1 := congrArg (fun l => l[i]?) ht
  simp only [List.getElem?_map, List.getElem?_take] at h1
  rw [if_pos (by omega)] at h1
  rw [← Array.getElem?_toList, h1, List.getElem?_eq_getElem h]
  rfl
set_option maxRecDepth 100000 in
set_option maxHeartbeats 2000000 in
theorem vols_seqN (n : Nat) (hn : n = 6) (m : List (ByteArray × Vl)) (hk : ∀ p ∈ m, p.1.size ≤ maxLen) (hlen : m.length ≤ 1000000) (hne : m ≠ []) (hon : (m.map (·.1)).Nodup) (b mb lo hi : Nat) (w : World) (hlh : hi ≤ w.heap.size ∧ ¬ (lo ≤ b ∧ b < hi) ∧ ¬ (lo ≤ mb ∧ mb < hi)) (hbox : Boxed w b tV (.map (some mb))) (hm : IsMap encS w mb (held m)) (hst : Stamp w mb) :
    Seq Fence.wide n Try.prog 61 #[.pointer (some ⟨b, 0, none⟩)] (encM m) lo hi (Whole m) (Part m) m.length w := fun L0 J Jx W hW hL hLW hJ hJx hY h0 => by
  have hmW : IsMap encS W mb (held m) := hm.after hW
  have hown := owns_any (m := held m) (fun p hp => by obtain ⟨q, hq, rfl⟩ := List.mem_map.1 hp; exact hk q hq) (by unfold held; rw [List.length_map]; exact Nat.le_trans hlen (by decide)) hmW (hst.of_heap (hW.block mb hm.lt))
  have hboxW : Boxed W b tV (.map (some mb)) := (hW.block b hbox.lt).trans hbox
  have HBX := Lib.hid hboxW
  have HM := Lib.hid hmW
  have HLH := Lib.hid hlh
  have HLT : Hid (b < w.heap.size ∧ mb < w.heap.size) := ⟨hbox.lt, hm.lt⟩
  have H0 := Lib.hid h0
  have HJ := Lib.hid hJ
  have HY := Lib.hid hY
  have HOW := Lib.hid hown
  have HON := Lib.hid hon
  have hNW := hW.size
  have b1 := hboxW.cell
  have HMK : Hid (∀ w, CallsIn Fence.wide (n - 1) Try.prog 62 #[.map (some mb)] w fun e w' => e = .returned (.func (.func 80) #[] #[.pointer (some ⟨w.heap.size, 0, none⟩)]) ∧ w' = w.alloc (.cells #[.map (some mb)] tV)) := by
    subst hn
    exact fun w => Try.maps_Keys_62 _ _
  have HSO : Hid (CallsIn Fence.wide (n - 1) Try.prog 45 #[.func (.func 80) #[] #[.pointer (some ⟨W.heap.size, 0, none⟩)]] (W.alloc (.cells #[.map (some mb)] tV)) fun e W2 => ∃ L g cap cur, Ordered m L ∧ e = .returned (.slice (some ⟨g, 0, none⟩) L.length cap) ∧ W2.heap[g]? = some (.cells cur 9 (0, 0)) ∧ (∀ i (h : i < L.length), cur[i]? = some (.string ⟨L[i].toArray⟩)) ∧ W.heap.size ≤ g ∧ Below W.heap.size W W2) := by
    subst hn
    exact sorted_any m hlen hne mb W HOW.out
  clear hn hlh
  clear hbox hm hst hW hJ hJx hY h0 hmW hboxW hown hon
  refine callsIn_of_wp Try.func61 rfl trivial ?_ rfl
  simp only [Try.ntmps61, List.size_toArray, List.length_cons, List.length_nil, Nat.reduceAdd, Nat.reduceSub, Array.replicate_succ, Array.replicate_zero, List.push_toArray, List.append_toArray, List.nil_append, List.cons_append]
  gi_wp2_with fail
  refine ⟨trivial, fun h => (by cases h), (HMK.out _).mono ?_⟩
  rintro e w' ⟨rfl, rfl⟩
  gi_wp2_with fail
  refine ⟨trivial, fun h => (by cases h), HSO.out.mono ?_⟩
  rintro e W2 ⟨L, g, cap, cur, hord, rfl, hh, hcur, hgW, hW2⟩
  have HG : Hid (AtN b mb g cur m L J 0 W2) := ⟨(hW2.block b (by have := HLT.out; omega)).trans HBX.out, HM.out.after hW2, hh, [], rfl, own_below HJ.out H0.out hW2⟩
  have HC := Lib.hid hcur
  have HGW := Lib.hid hgW
  have HO := Lib.hid hord
  have hLL : L.length ≤ 1000000 := by have := hord.length; omega
  clear hh hcur hW2 hgW HMK HSO HBX HM H0 HOW b1 hord
  gi_wp2
  gi_loopw [9] (fun iv wr => ∃ i : Nat, iv = .int .i64 (i : Int) ∧ i ≤ L.length ∧ AtN b mb g cur m L J i wr) (fun iv _ => L.length - (RowKit.intOf iv).toNat)
  case atStart => exact ⟨0, rfl, Nat.zero_le _, HG.out⟩
  case round =>
    clear HG
    obtain ⟨i, rfl, hi, hat⟩ := hrel
    by_cases hlt : i < L.length
    · have hlt' : (i : Int) < (L.length : Int) := by omega
      obtain ⟨pre, hp1, hp2⟩ := hat.inv
      obtain ⟨p, hpm, hpk⟩ := HO.out.mem (List.getElem_mem hlt)
      have hpb : p.1 = ⟨L[i].toArray⟩ := by rw [← hpk]; rfl
      have hplen : pre.length < m.length := by
        have h1 := congrArg List.length hp1
        rw [List.length_map, List.length_take] at h1
        have := HO.out.length
        omega
      obtain ⟨fn, tmps, assign, body, hy, hR⟩ := HY.out pre ⟨p, hpm⟩ wr hp2 hplen
      change Sem.run Try.prog (Instr.yield L0 #[.string p.1, encV p.2]) _ = _ at hy
      have HR := Lib.hid hR
      have HAT := Lib.hid hat
      have hmap := hat.map
      have hget := get_held HON.out p hpm
      have hlk : ∀ {oi : Oper} {a : Act} {q r : Operand}, oi.op = .lookup tV q r false → a.eval q = .map (some mb) → a.eval r = .string p.1 → (execOp a.eval oi).run Try.prog wr = .ok (.value (encV p.2)) wr :=
        fun ho h1 h2 => exec_look1 und_V (zero_V _) hmap (some (encV p.2)) hget ho h1 h2
      have d1 := hat.box.cell
      have e1 : wr.cell? ⟨g, i, none⟩ = some (.string p.1) := by rw [hpb]; exact (cell_of_row wr g i _ _ _ hat.row).trans (HC.out i hlt)
      have HPRE : Hid ((pre ++ [(⟨p, hpm⟩ : El m)]).map (fun x => keyOf x.1) = L.take (i + 1)) := by
        show _ = _
        rw [List.map_append, hp1, List.take_add_one, List.getElem?_eq_getElem hlt, ← hpk]
        rfl
      clear hR hat hp1 hp2 hget hpk hpb hplen
      gi_wp2_with (refine KnownIn.value rfl rfl (hlk rfl rfl rfl) ?_)
      refine ⟨fun h => (by cases h), HR.out.mono ?_⟩
      rintro e W6 (⟨rfl, hJ6, hk6⟩ | ⟨rfl, hJx6⟩)
      · have hat := HAT.out
        have hbl := HLT.out
        have hml := hat.map.lt
        have hgl := (Array.getElem?_eq_some_iff.1 hat.row).1
        have hgw := HGW.out
        obtain ⟨hh1, hh2, hh3⟩ := HLH.out
        have hbw := hat.box.lt
        have HN : Hid (AtN b mb g cur m L J (i + 1) W6) := ⟨(hk6.2 b hbw (by omega) hh2).trans hat.box, hat.map.of_heap (hk6.2 mb hml (by omega) hh3), (hk6.2 g hgl (by omega) (by omega)).trans hat.row, _, HPRE.out, hJ6⟩
        clear hJ6 hk6 hy hmap hlk d1 e1 hat hbl hml hgl hgw hbw hh1 hh2 hh3 HAT
        gi_wp2
        exact ⟨⟨i + 1, by go_num, by omega, HN.out⟩, by simp [RowKit.intOf]; omega⟩
      · have HX6 := Lib.hid hJx6
        clear hJx6 hy hmap hlk d1 e1 HAT
        gi_wp2
        refine bodyPost_ret (results_none rfl _ _ _) rfl ?_
        exact ⟨⟨_, rfl⟩, .inr ⟨_, ⟨L, HO.out, by rw [HPRE.out]; exact List.take_prefix _ _⟩, HX6.out⟩⟩
    · have hlt' : ¬ (i : Int) < (L.length : Int) := by omega
      have hE : i = L.length := by omega
      obtain ⟨pre, hp1, hp2⟩ := hat.inv
      rw [hE, List.take_length] at hp1
      have HP := Lib.hid hp1
      have HJ2 := Lib.hid hp2
      clear hat hp1 hp2 hi hlt hE
      gi_wp2
      go_end0
      exact ⟨⟨_, rfl⟩, .inl ⟨pre, by unfold Whole; rw [HP.out]; exact HO.out, HJ2.out⟩⟩
end Go.Proofs.Ytbgfccanbgpjiaa.O.I
namespace Go.Proofs.Ytbgfccanbgpjiaa.O.I
open Go Go.RowKit Go.Lib Go.Shelf RangeMap KM
attribute [local go_sem] Oper.semAt_some
theorem sorted_none (mb : Nat) (W : World) (hm : IsMap encS W mb []) : CallsIn Fence.wide 5 Try.prog 45 #[.func (.func 80) #[] #[.pointer (some ⟨W.heap.size, 0, none⟩)]] (W.alloc (.cells #[.map (some mb)] tV)) fun e W2 => e = .returned (.slice none 0 0) ∧ Below W.heap.size W W2 := by
  have hown : W.ownsMap Try.prog 9 (fun _ => some ((DataW.nil : DataW Unit), [])) mb 0 (.map []) := by
    obtain ⟨es, clock, hb, hh⟩ := hm
    obtain ⟨l⟩ := es
    cases l with
    | cons e r => unfold Holds at hh; simp at hh
    | nil => exact ⟨#[], clock, hb, ⟨by simp, MapKept.stamped_empty clock, by simp⟩, Nat.le_refl _, rfl⟩
  refine (Try.slices_Sorted_keys_45_62 mb 0 _ _ W hown (by show 0 ≤ maxLen; omega) (by show 0 * 16 ≤ 140737488355328; omega)).mono ?_
  rintro e W2 ⟨v, ss, rfl, hS, -, hnil, hb⟩
  have hss : ss = [] := List.perm_nil.1 hS
  exact ⟨by rw [hnil.2 hss], ((Below.refl _ _).alloc (Nat.le_refl _) _).trans (hb.mono (by simp))⟩
set_option maxRecDepth 100000 in
set_option maxHeartbeats 2000000 in
theorem vols_seq0 (n : Nat) (hn : n = 6) (b mb lo hi : Nat) (w : World) (hbox : Boxed w b tV (.map (some mb))) (hm : IsMap encS w mb []) :
    Seq Fence.wide n Try.prog 61 #[.pointer (some ⟨b, 0, none⟩)] (encM []) lo hi (Whole []) (Part []) 0 w := fun L0 J Jx W hW hL hLW hJ hJx hY h0 => by
  have hmW : IsMap encS W mb [] := hm.after hW
  have hboxW : Boxed W b tV (.map (some mb)) := (hW.block b hbox.lt).trans hbox
  have H0 := Lib.hid h0
  have HJ := Lib.hid hJ
  have b1 := hboxW.cell
  have HMK : Hid (∀ w, CallsIn Fence.wide (n - 1) Try.prog 62 #[.map (some mb)] w fun e w' => e = .returned (.func (.func 80) #[] #[.pointer (some ⟨w.heap.size, 0, none⟩)]) ∧ w' = w.alloc (.cells #[.map (some mb)] tV)) := by
    subst hn
    exact fun w => Try.maps_Keys_62 _ _
  have HSO : Hid (CallsIn Fence.wide (n - 1) Try.prog 45 #[.func (.func 80) #[] #[.pointer (some ⟨W.heap.size, 0, none⟩)]] (W.alloc (.cells #[.map (some mb)] tV)) fun e W2 => e = .returned (.slice none 0 0) ∧ Below W.heap.size W W2) := by
    subst hn
    exact sorted_none mb W hmW
  clear hn hbox hm hW hL hLW hJ hJx hY h0 hmW hboxW
  refine callsIn_of_wp Try.func61 rfl trivial ?_ rfl
  simp only [Try.ntmps61, List.size_toArray, List.length_cons, List.length_nil, Nat.reduceAdd, Nat.reduceSub, Array.replicate_succ, Array.replicate_zero, List.push_toArray, List.append_toArray, List.nil_append, List.cons_append]
  gi_wp2_with fail
  refine ⟨trivial, fun h => (by cases h), (HMK.out _).mono ?_⟩
  rintro e w' ⟨rfl, rfl⟩
  gi_wp2_with fail
  refine ⟨trivial, fun h => (by cases h), HSO.out.mono ?_⟩
  rintro e W2 ⟨rfl, hW2⟩
  have HG : Hid (J [] W2) := own_below HJ.out H0.out hW2
  clear hW2 HMK HSO H0 b1
  gi_wp2
  gi_loopw [9] (fun iv wr => iv = .int .i64 0 ∧ J [] wr) (fun _ _ => 0)
  case atStart => exact ⟨rfl, HG.out⟩
  case round =>
    clear HG
    obtain ⟨rfl, hat⟩ := hrel
    have HJ2 := Lib.hid hat
    clear hat
    gi_wp2
    go_end0
    exact ⟨⟨_, rfl⟩, .inl ⟨[], ⟨[], List.Perm.refl _, by simp⟩, HJ2.out⟩⟩
end Go.Proofs.Ytbgfccanbgpjiaa.O.I
