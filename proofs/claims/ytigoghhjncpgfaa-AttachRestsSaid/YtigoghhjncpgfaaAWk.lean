/- The names of the claims that have a volume; where it is wanted. -/
import Derived.Sort.Row
import Derived.Sort.Grow
import Derived.Sort.EncStr
import Derived.Below
import Derived.Laws.AppendOwn
import Derived.Laws.Tables
import Derived.ProofKit
import Derived.Test.YtigoghhjncpgfaaAIt
import Derived.Test.YtigoghhjncpgfaaShelf
import Derived.Test.YtigoghhjncpgfaaSortL
import Derived.Handy
import Derived.Test.YtigoghhjncpgfaaKOpen
namespace Go.RowPut
open Go Go.RowKit
open Go.Sort hiding Below
open Go.Proofs (encStr)

theorem holds_row {W : World} {g : Nat} {cur : Array Value} {E : TypeId} {F : Array Value} (h : W.heap[g]? = some (.cells cur E (0, 0))) (hs : F.size ≤ cur.size) (ht : cur.toList.take F.size = F.toList) : Holds id W g 0 F := fun j hj => by
  rw [Nat.zero_add]
  have hc : j < cur.size := Nat.lt_of_lt_of_le hj hs
  have h1 := congrArg (fun l => l[j]?) ht
  simp only [List.getElem?_take, Array.getElem?_toList] at h1
  rw [if_pos hj, Array.getElem?_eq_getElem hc, Array.getElem?_eq_getElem hj] at h1
  refine ⟨?_, ?_⟩
  · rw [getElem!_pos F j hj]
    simp [World.cell?, h, Array.getElem?_eq_getElem hc, Option.some.inj h1]
  · simp [World.frozen?, h]
theorem putCells_size (d c : Array Value) : (putCells id 0 d c).size = c.size := by simp [putCells]
theorem putCells_take (d c : Array Value) (h : d.size ≤ c.size) : (putCells id 0 d c).toList.take d.size = d.toList := by
  apply List.ext_getElem?
  intro j
  rw [List.getElem?_take, Array.getElem?_toList, Array.getElem?_toList]
  by_cases hj : j < d.size
  · rw [if_pos hj]
    have hc : j < c.size := Nat.lt_of_lt_of_le hj h
    simp [putCells, hj, hc]
  · rw [if_neg hj, Array.getElem?_eq_none (by omega)]
theorem putRow_enc {α : Type} [Inhabited α] (enc : α → Value) (w : World) (g : Nat) (d : Array α) : putRow enc w g 0 d = putRow id w g 0 (d.map enc) := by
  unfold putRow
  congr 1
  funext c
  unfold putCells
  apply Array.ext_getElem?
  intro j
  simp only [Array.getElem?_mapIdx, Nat.zero_le, true_and, Nat.zero_add, Nat.sub_zero, Array.size_map]
  by_cases hj : j < d.size
  · simp [hj]
  · simp [hj]
theorem heap_put {W : World} {g : Nat} {cur : Array Value} {E : TypeId} (h : W.heap[g]? = some (.cells cur E (0, 0))) (F : Array Value) (q : Nat) (os : Array Obj) : (grow (putRow id (Sort.ahead W q) g 0 F) os).heap[g]? = some (.cells (putCells id 0 F cur) E (0, 0)) := by
  obtain ⟨hlt, hk⟩ := Array.getElem?_eq_some_iff.1 h
  show (((Sort.ahead W q).heap.modify g (onCells (putCells id 0 F))) ++ os)[g]? = _
  rw [Array.getElem?_append_left (by rw [Array.size_modify]; exact hlt), Array.getElem?_modify]
  simp [Sort.ahead, h, onCells]
theorem below_put {B g : Nat} (hg : B ≤ g) (W : World) (F : Array Value) (q : Nat) (os : Array Obj) (hB : B ≤ W.heap.size) : Below B W (grow (putRow id (Sort.ahead W q) g 0 F) os) := by
  refine ⟨rfl, rfl, rfl, ?_, fun k hk => ?_⟩
  · show W.heap.size ≤ (((Sort.ahead W q).heap.modify g (onCells (putCells id 0 F))) ++ os).size
    rw [Array.size_append, Array.size_modify]
    exact Nat.le_add_right _ _
  · show (((Sort.ahead W q).heap.modify g (onCells (putCells id 0 F))) ++ os)[k]? = W.heap[k]?
    rw [Array.getElem?_append_left (by rw [Array.size_modify]; exact Nat.lt_of_lt_of_le hk hB), Array.getElem?_modify, if_neg (by omega)]
    rfl
theorem other_put {b g : Nat} (hb : b ≠ g) (W : World) (F : Array Value) (q : Nat) (os : Array Obj) (hB : b < W.heap.size) : (grow (putRow id (Sort.ahead W q) g 0 F) os).heap[b]? = W.heap[b]? := by
  show (((Sort.ahead W q).heap.modify g (onCells (putCells id 0 F))) ++ os)[b]? = W.heap[b]?
  rw [Array.getElem?_append_left (by rw [Array.size_modify]; exact hB), Array.getElem?_modify, if_neg (fun e => hb e.symm)]
  rfl
theorem row_holds {W : World} {B n size g cap : Nat} {E : TypeId} {xs : List Value} (h : W.ownsRow B E size (.slice (some ⟨g, 0, none⟩) n cap) n xs) : Holds id W g 0 xs.toArray ∧ g < W.heap.size ∧ n ≤ cap ∧ B ≤ g := by
  rcases h.2 with ⟨h0, -⟩ | ⟨g', cap', cur, e, hB, hh, hc1, hc2, hc3, ht⟩
  · cases h0
  · cases e
    refine ⟨holds_row hh ?_ ?_, (Array.getElem?_eq_some_iff.1 hh).1, hc1, hB⟩
    · rw [List.size_toArray, h.1, hc3]
      exact Nat.mul_le_mul_right _ hc1
    · rw [List.size_toArray, h.1]
      exact ht
theorem row_puts {W : World} {B n size g cap : Nat} {E : TypeId} {xs : List Value} (h : W.ownsRow B E size (.slice (some ⟨g, 0, none⟩) n cap) n xs) (F : Array Value) (hF : F.size = n * size) (q : Nat) (os : Array Obj) (m : Nat) (hm : m ≤ n) :
    (grow (putRow id (Sort.ahead W q) g 0 F) os).ownsRow B E size (.slice (some ⟨g, 0, none⟩) m cap) m (F.toList.take (m * size)) := by
  rcases h.2 with ⟨h0, -⟩ | ⟨g', cap', cur, e, hB, hh, hc1, hc2, hc3, ht⟩
  · cases h0
  · cases e
    have hms : m * size ≤ n * size := Nat.mul_le_mul_right _ hm
    refine ⟨by rw [List.length_take, Array.length_toList, hF]; omega, .inr ⟨g, cap, putCells id 0 F cur, rfl, hB, heap_put hh F q os, by omega, hc2, by rw [putCells_size, hc3], ?_⟩⟩
    have h1 := putCells_take F cur (by rw [hF, hc3]; exact Nat.mul_le_mul_right _ hc1)
    rw [← h1, List.take_take, hF, Nat.min_eq_left hms]
end Go.RowPut
namespace Go.Proofs.Ytigoghhjncpgfaa.O.B
open Go Go.RowKit Go.Shelf Go.Lib KM
open Go.Sort hiding Below
attribute [local go_sem] Oper.semAt_some

def mkB (x : List UInt8) : ByteArray := ⟨x.toArray⟩
theorem mkB_list (x : List UInt8) : (mkB x).data.toList = x := rfl
theorem mkB_key (s : ByteArray) : mkB s.data.toList = s := rfl
def keysB (l : List ByteArray) : List (List UInt8) := l.map fun s => s.data.toList
def sortB (l : List ByteArray) : List ByteArray := ((keysB l).mergeSort fun x y => decide (x ≤ y)).map mkB
/-- Texts that rise, each once. -/
def risB (l : List ByteArray) : List ByteArray := (risS (keysB l)).map mkB
theorem keys_mk (x : List (List UInt8)) : keysB (x.map mkB) = x := by
  unfold keysB
  rw [List.map_map]
  exact (List.map_congr_left (fun a _ => mkB_list a)).trans (List.map_id' x)
theorem enc_keys (l : List ByteArray) : (keysB l).map encStr = l.map fun s => Value.string s := by
  unfold keysB
  rw [List.map_map]
  rfl
theorem sortB_length (l : List ByteArray) : (sortB l).length = l.length := by
  unfold sortB keysB
  rw [List.length_map, List.length_mergeSort, List.length_map]
theorem risB_spec (l : List ByteArray) : (risB l).Pairwise (fun a b => a.data.toList < b.data.toList) ∧ ∀ y, y ∈ risB l ↔ y ∈ l := by
  obtain ⟨h1, h2⟩ := ris_spec (keysB l)
  unfold risB
  refine ⟨by rw [List.pairwise_map]; exact h1, fun y => ?_⟩
  rw [List.mem_map]
  constructor
  · rintro ⟨x, hx, rfl⟩
    obtain ⟨z, hz, rfl⟩ := List.mem_map.1 ((h2 x).1 hx)
    exact hz
  · intro hy
    exact ⟨y.data.toList, (h2 _).2 (List.mem_map.2 ⟨y, hy, rfl⟩), rfl⟩
theorem risB_len (l : List ByteArray) : (risB l).length ≤ l.length := by
  unfold risB
  rw [List.length_map, ← compact_ris]
  refine Nat.le_trans (Lib.compact_length_le _) ?_
  rw [List.length_mergeSort]
  unfold keysB
  rw [List.length_map]
  exact Nat.le_refl _
theorem TxtIn.slice {W : World} {B : Nat} {v : Value} {l : List ByteArray} (h : TxtIn W B v l) (hl : l ≠ []) : ∃ g cap, v = .slice (some ⟨g, 0, none⟩) l.length cap := by
  rcases h.2 with ⟨-, h0⟩ | ⟨g, cap, cur, rfl, -⟩
  · exact absurd (List.length_eq_zero_iff.1 h0) hl
  · exact ⟨g, cap, rfl⟩
theorem TxtIn.nil {W : World} {B : Nat} {v : Value} (h : TxtIn W B v []) : ∃ p cap, v = .slice p 0 cap := by
  rcases h.2 with ⟨rfl, -⟩ | ⟨g, cap, cur, rfl, -⟩
  · exact ⟨_, _, rfl⟩
  · exact ⟨_, _, rfl⟩

theorem sortS_any (v : Value) (l : List ByteArray) (B : Nat) (w : World) (h : TxtIn w B v l) (hn : l.length < 100000) (hB : B ≤ w.heap.size) :
    Calls Try.prog 71 #[v] w fun e w' => e = .returned (.tuple #[]) ∧ TxtIn w' B v (sortB l) ∧ Below B w w' := by
  by_cases hl : l = []
  · subst hl
    obtain ⟨p, cap, rfl⟩ := h.nil
    refine (Try.slices_Sort_string_none p cap w).mono ?_
    rintro e w' ⟨rfl, rfl⟩
    exact ⟨rfl, by unfold sortB keysB; simpa using h, Below.refl _ _⟩
  · obtain ⟨g, cap, rfl⟩ := h.slice hl
    obtain ⟨hH, hg, hc, hBg⟩ := RowPut.row_holds h
    have hlen : (keysB l).length = l.length := by unfold keysB; rw [List.length_map]
    have hH' : Holds encStr w g 0 (keysB l).toArray := fun j hj => by
      have hj' : j < l.length := by rw [List.size_toArray, hlen] at hj; exact hj
      have h1 := hH j (by rw [List.size_toArray, List.length_map]; exact hj')
      rw [getElem!_pos _ j (by rw [List.size_toArray, List.length_map]; exact hj')] at h1
      rw [getElem!_pos _ j hj]
      simp only [List.getElem_toArray, List.getElem_map, id_eq] at h1
      simp only [List.getElem_toArray, keysB, List.getElem_map]
      exact h1
    have hcon := Try.slices_Sort_string g 0 cap (keysB l) w hH' hg (by rw [hlen]; omega)
    rw [hlen] at hcon
    refine hcon.mono ?_
    rintro e w' ⟨rfl, n, os, rfl⟩
    rw [RowPut.putRow_enc]
    have hF : ((((keysB l).mergeSort fun x y => decide (x ≤ y)).toArray.map encStr)).toList = (sortB l).map fun s => Value.string s := by
      rw [Array.toList_map]
      unfold sortB
      rw [List.map_map]
      rfl
    have hs : ((((keysB l).mergeSort fun x y => decide (x ≤ y)).toArray.map encStr)).size = l.length * 1 := by
      rw [← Array.length_toList, hF, List.length_map, sortB_length, Nat.mul_one]
    have hp := RowPut.row_puts h _ hs n os l.length (Nat.le_refl _)
    refine ⟨rfl, ?_, RowPut.below_put hBg w _ n os hB⟩
    unfold TxtIn
    rw [hF, List.take_of_length_le (by rw [List.length_map, sortB_length]; omega)] at hp
    rw [sortB_length]
    exact hp
theorem compactS_any (v : Value) (l : List ByteArray) (B : Nat) (w : World) (h : TxtIn w B v (sortB l)) (hn : l.length < 100000) (hB : B ≤ w.heap.size) :
    Calls Try.prog 55 #[v] w fun e w' => ∃ v', e = .returned v' ∧ TxtIn w' B v' (risB l) ∧ Below B w w' := by
  by_cases hl : l = []
  · subst hl
    have h0 : TxtIn w B v [] := by unfold sortB keysB at h; simpa using h
    obtain ⟨p, cap, rfl⟩ := h0.nil
    refine (Try.slices_Compact_string_empty p cap w).mono ?_
    rintro e w' ⟨rfl, rfl⟩
    exact ⟨_, rfl, h0, Below.refl _ _⟩
  · obtain ⟨g, cap, rfl⟩ := h.slice (fun e => hl (by have := congrArg List.length e; rw [sortB_length] at this; exact List.length_eq_zero_iff.1 this))
    obtain ⟨hH, hg, hc, hBg⟩ := RowPut.row_holds h
    obtain ⟨zs, hzs⟩ : ∃ zs, (keysB l).mergeSort (fun x y => decide (x ≤ y)) = zs := ⟨_, rfl⟩
    have hsb : sortB l = zs.map mkB := by unfold sortB; rw [hzs]
    have hlen : zs.length = l.length := by rw [← hzs, List.length_mergeSort]; unfold keysB; rw [List.length_map]
    have hris : Lib.compact zs = risS (keysB l) := by rw [← hzs]; exact compact_ris _
    rw [hsb] at h hH hc ⊢
    rw [List.length_map, hlen] at hc ⊢
    have h2 : w.ownsRow B 9 1 (.slice (some ⟨g, 0, none⟩) l.length cap) l.length ((zs.map mkB).map fun s => Value.string s) := by
      unfold TxtIn at h
      rwa [List.length_map, hlen] at h
    have hH' : Holds encStr w g 0 zs.toArray := fun j hj => by
      have hj' : j < zs.length := by rw [List.size_toArray] at hj; exact hj
      have h1 := hH j (by rw [List.size_toArray, List.length_map, List.length_map]; exact hj')
      rw [getElem!_pos _ j (by rw [List.size_toArray, List.length_map, List.length_map]; exact hj')] at h1
      rw [getElem!_pos _ j hj]
      simp only [List.getElem_toArray, List.getElem_map, id_eq] at h1
      simp only [List.getElem_toArray]
      exact h1
    have hcon := Try.slices_Compact_string g 0 cap zs w hH' (by omega) (by omega)
    rw [hlen, hris] at hcon
    have hrl : (risS (keysB l)).length ≤ l.length := by have := risB_len l; unfold risB at this; rwa [List.length_map] at this
    refine hcon.mono ?_
    rintro e w' ⟨rfl, q, rfl⟩
    rw [RowPut.putRow_enc]
    obtain ⟨F, hF⟩ : ∃ F, ((risS (keysB l) ++ List.replicate (l.length - (risS (keysB l)).length) []).toArray.map encStr) = F := ⟨_, rfl⟩
    have hFl : F.toList = (risS (keysB l)).map encStr ++ (List.replicate (l.length - (risS (keysB l)).length) []).map encStr := by rw [← hF, Array.toList_map]; exact List.map_append
    have hs : F.size = l.length * 1 := by
      rw [← Array.length_toList, hFl, List.length_append, List.length_map, List.length_map, List.length_replicate]
      omega
    have hp := RowPut.row_puts h2 F hs q #[] (risS (keysB l)).length hrl
    rw [grow_empty] at hp
    have hb := RowPut.below_put hBg w F q #[] hB
    rw [grow_empty] at hb
    rw [hF]
    refine ⟨_, rfl, ?_, hb⟩
    have hrb : (risB l).length = (risS (keysB l)).length := by unfold risB; rw [List.length_map]
    unfold TxtIn
    rw [hrb]
    have ht : F.toList.take ((risS (keysB l)).length * 1) = (risB l).map fun s => Value.string s := by
      rw [hFl, Nat.mul_one, ← List.length_map (f := encStr), List.take_left]
      unfold risB
      rw [List.map_map]
      rfl
    rw [ht] at hp
    exact hp
end Go.Proofs.Ytigoghhjncpgfaa.O.B
namespace Go.Proofs.Ytigoghhjncpgfaa.O.B
open Go Go.RowKit Go.Shelf Go.Lib KM
open Go.Sort hiding Below
attribute [local go_sem] Oper.semAt_some

theorem less_list (x : List UInt8) : ∀ y : List UInt8, Op.bytesLess x y = decide (x < y) := by
  induction x with
  | nil => intro y; cases y <;> simp [Op.bytesLess]
  | cons a x ih =>
    intro y
    cases y with
    | nil => simp [Op.bytesLess]
    | cons b y =>
      rw [Op.bytesLess, ih y, Bool.eq_iff_iff]
      simp only [List.cons_lt_cons_iff, Bool.or_eq_true, Bool.and_eq_true, decide_eq_true_eq, beq_iff_eq]
def cmpS (a b : ByteArray) : Int := if Op.bytesLess a.toList b.toList then -1 else if a.toList == b.toList then 0 else 1
theorem cmpS_neg (a b : ByteArray) : decide (cmpS a b < 0) = Op.bytesLess a.toList b.toList := by
  unfold cmpS
  cases h : Op.bytesLess a.toList b.toList
  · cases h2 : a.toList == b.toList <;> simp
  · simp
set_option maxRecDepth 100000 in
set_option maxHeartbeats 2000000 in
theorem compareS_any (a b : ByteArray) (w : World) :
    Calls Try.prog 62 #[.string a, .string b] w fun e w' => e = .returned (.int .i64 (cmpS a b)) ∧ w' = w := by
  have he : ∀ s : ByteArray, (s.toList != s.toList) = false := fun s => by simp
  obtain ⟨c, hc⟩ : ∃ c, cmpS a b = c := ⟨_, rfl⟩
  rw [hc]
  unfold cmpS at hc
  cases h1 : Op.bytesLess a.toList b.toList with
  | true =>
    rw [h1] at hc
    obtain rfl : (-1 : Int) = c := hc
    go_enter Try.func62, Try.ntmps62
    go_wp2
    go_ret
    exact ⟨rfl, rfl⟩
  | false =>
    cases h2 : a.toList == b.toList with
    | true =>
      rw [h1, h2] at hc
      obtain rfl : (0 : Int) = c := hc
      go_enter Try.func62, Try.ntmps62
      go_wp2
      go_ret
      exact ⟨rfl, rfl⟩
    | false =>
      rw [h1, h2] at hc
      obtain rfl : (1 : Int) = c := hc
      go_enter Try.func62, Try.ntmps62
      go_wp2
      go_ret
      exact ⟨rfl, rfl⟩
theorem grow2 (w : World) (a b : Go.Obj) : (w.alloc a).alloc b = grow w #[a, b] := by
  rw [alloc_eq_grow, alloc_eq_grow, grow_grow]
  rfl
set_option maxRecDepth 100000 in
set_option maxHeartbeats 2000000 in
theorem byName_grow (a b : Obj) (w : World) :
    Calls Try.prog 35 #[encO a, encO b] w fun e w' => e = .returned (.int .i64 (cmpS a.name b.name)) ∧ ∃ q os, w' = grow (w.drewN q) os := by
  unfold encO
  go_enter Try.func35, Try.ntmps35
  go_upto_region 1 with (fail)
  refine wp_gen (fun V => BoxO V w.heap.size a ∧ BoxO V (w.heap.size + 1) b ∧ ∃ q os, V = grow (w.drewN q) os) ⟨(chain2 w _ _).1, (chain2 w _ _).2.1, 0, _, grow2 w _ _⟩ ?_
  rintro V ⟨h1, h2, hl⟩
  have c1 := h1.c1
  have c2 := h2.c1
  have HL := Lib.hid hl
  clear h1 h2 hl
  go_wp2_with (fail)
  refine (compareS_any _ _ _).mono ?_
  rintro e W ⟨rfl, rfl⟩
  go_wp2
  go_ret
  exact ⟨rfl, HL.out⟩

def cmpN (a b : Obj) : Int := cmpS a.name b.name
theorem ltN (a b : Obj) : ltOf cmpN a b = decide (kn a < kn b) := by
  unfold ltOf cmpN
  rw [cmpS_neg, less_list, Lib.toList_data, Lib.toList_data]
  rfl
theorem swoN : SWO (ltOf cmpN) where
  irrefl x := by rw [ltN]; simp [List.lt_irrefl]
  trans x y z h1 h2 := by
    rw [ltN] at *
    simp only [decide_eq_true_eq] at *
    exact List.lt_trans h1 h2
  ntrans x y z h1 h2 := by
    rw [ltN] at *
    simp only [decide_eq_false_iff_not] at *
    intro h
    rcases le_cases (List.not_lt.1 h1) with e | e
    · exact h2 (List.lt_trans e h)
    · exact h2 (by rw [e]; exact h)
def encL (o : Obj) : List Value := (cellsO o).toList
theorem flat_cat (l : List Obj) : flatK encL 20 l.toArray = catO l := by
  apply Array.ext_getElem?
  intro j
  unfold flatK
  rw [Array.getElem?_map, Array.getElem?_range]
  simp only [List.size_toArray]
  by_cases hj : j < l.length * 20
  · rw [if_pos hj]
    have hd : j / 20 < l.length := by omega
    have e : j = j / 20 * 20 + j % 20 := by omega
    rw [Option.map_some]
    conv => rhs; rw [e]
    rw [catO_at l (j / 20) hd (j % 20) (by omega), getElem!_pos l.toArray (j / 20) (by simpa using hd)]
    simp only [List.getElem_toArray]
    have h20 : j % 20 < (encL l[j / 20]).length := by show _ < 20; omega
    rw [getElem!_pos (encL l[j / 20]) (j % 20) h20]
    show _ = (encL l[j / 20])[j % 20]?
    rw [List.getElem?_eq_getElem h20]
  · rw [if_neg hj, Option.map_none, Array.getElem?_eq_none (by rw [catO_size]; omega)]
theorem sortO_any (v : Value) (l : List Obj) (B : Nat) (w : World) (h : OutIn w B v l) (hn : l.length < 100000) (hB : B ≤ w.heap.size) :
    Calls Try.prog 60 #[v, .func (.func 35) #[] #[]] w fun e w' => e = .returned (.tuple #[]) ∧ ∃ d, OutIn w' B v d ∧ d.Perm l ∧ d.Pairwise (fun a b => ¬ kn b < kn a) ∧ Below B w w' := by
  rcases id h.2 with ⟨rfl, h0⟩ | ⟨g, cap, cur, rfl, hBg, -⟩
  · obtain rfl : l = [] := List.length_eq_zero_iff.1 h0
    have hcon := AnyF.slices_SortFunc_none { Try.sortObj with } none 0 (.func (.func 35) #[] #[]) w
    refine (show Calls Try.prog 60 _ _ _ from hcon).mono ?_
    rintro e w' ⟨rfl, rfl⟩
    exact ⟨rfl, [], h, List.Perm.refl _, List.Pairwise.nil, Below.refl _ _⟩
  · obtain ⟨hH, hg, hc, -⟩ := RowPut.row_holds h
    have hHK : HoldsK encL 20 w g 0 l.toArray := by
      unfold HoldsK
      rw [flat_cat]
      exact hH
    have eg := enters_of (P := Try.prog) Try.func35 (by kernel_rfl) rfl
    have hcon := AnyQ.slices_SortFunc Try.sortObj 20 (fun w => by kernel_rfl) (fun w => by kernel_rfl) encL (fun _ => rfl) (fun x u hu => Array.all_eq_true_iff_forall_mem.1 (one_cells x) u (by simpa [encL] using hu)) cmpN swoN 35 #[] g 0 cap l.toArray w eg
      (fun m os dk hs x y => byName_grow x y _) hHK hg (by rw [List.size_toArray]; omega)
    refine (show Calls Try.prog 60 _ _ _ from hcon).mono ?_
    rintro e w' ⟨rfl, d', n, os, ⟨hp1, -, hp3⟩, hs, rfl⟩
    have hsz : d'.size = l.length := by rw [hp1]; simp
    have hd : d'.toList.toArray = d' := by simp
    have hperm : d'.toList.Perm l := by
      have e1 : (d'.extract 0 l.toArray.size) = d' := by rw [show l.toArray.size = d'.size by rw [hsz]; simp]; simp
      have e2 : (l.toArray.extract 0 l.toArray.size) = l.toArray := by simp
      rw [e1, e2] at hp3
      simpa using hp3
    have hF : flatK encL 20 d' = catO d'.toList := by rw [← flat_cat, hd]
    have hlen : d'.toList.length = l.length := by rw [Array.length_toList, hsz]
    have hsz2 : (catO d'.toList).size = l.length * 20 := by rw [catO_size, hlen]
    have hput := RowPut.row_puts h (catO d'.toList) hsz2 n os l.length (Nat.le_refl _)
    refine ⟨rfl, d'.toList, ?_, hperm, ?_, ?_⟩
    · unfold sortWorldK putRowK
      rw [hF]
      unfold OutIn
      rw [hlen]
      rw [List.take_of_length_le (by rw [Array.length_toList, hsz2]; exact Nat.le_refl _)] at hput
      exact hput
    · rw [List.pairwise_iff_getElem]
      intro i j hi hj hij
      have hi' : i < d'.size := by rw [Array.length_toList] at hi; exact hi
      have hj' : j < d'.size := by rw [Array.length_toList] at hj; exact hj
      have h1 := hs i j (Nat.zero_le _) hij (by rw [List.size_toArray, ← hsz]; exact hj')
      rw [ltN, getElem!_pos d' i hi', getElem!_pos d' j hj'] at h1
      simpa using h1
    · unfold sortWorldK putRowK
      rw [hF]
      exact RowPut.below_put hBg w _ n os hB
end Go.Proofs.Ytigoghhjncpgfaa.O.B
namespace Go.Proofs.Ytigoghhjncpgfaa.O.B
open Go Go.RowKit Go.Shelf Go.Lib KM
open Go.Sort hiding Below
attribute [local go_sem] Oper.semAt_some

/-- A call handed back objects that lie in a slice of its own. -/
def HandsO (P : List Obj → Prop) (w : World) (e : Ending) (w' : World) : Prop := ∃ l v, P l ∧ e = .returned v ∧ OutIn w' w.heap.size v l ∧ Below w.heap.size w w'
def HandsS (P : List ByteArray → Prop) (w : World) (e : Ending) (w' : World) : Prop := ∃ l v, P l ∧ e = .returned v ∧ TxtIn w' w.heap.size v l ∧ Below w.heap.size w w'

set_option maxRecDepth 100000 in
set_option maxHeartbeats 1000000 in
theorem collO_any {α : Type} (f : α → Obj) (gf : FuncId) (lb : Array Value) (S Sp : List α → Prop) (N : Nat) (hN : N < 100000) (w : World) (ef : ∀ args w, (callFunc gf args).run Try.prog w = .ok (.enter gf args) w) (hs : SeqAt w gf lb (fun x => #[encO (f x)]) 37 S Sp N) :
    Calls Try.prog 59 #[.func (.func gf) #[] lb] w (HandsO (fun l => ∃ xs, S xs ∧ xs.length ≤ N ∧ l = xs.map f) w) := by
  have HC := Lib.hid (appO_any f gf lb S Sp N hN w ef hs)
  clear hs hN ef
  go_enter Try.func59, Try.ntmps59
  go_wp2_with (fail)
  refine HC.out.mono ?_
  rintro e w' ⟨xs, v, h1, h2, rfl, h3, h4⟩
  have H1 := Lib.hid h1
  have H2 := Lib.hid h2
  have H3 := Lib.hid h3
  have H4 := Lib.hid h4
  clear h1 h2 h3 h4 HC
  go_wp2
  go_ret
  exact ⟨_, v, ⟨xs, H1.out, H2.out, rfl⟩, rfl, H3.out, H4.out⟩
set_option maxRecDepth 100000 in
set_option maxHeartbeats 1000000 in
theorem sortedO_any {α : Type} (f : α → Obj) (gf : FuncId) (lb : Array Value) (S Sp : List α → Prop) (N : Nat) (hN : N < 100000) (w : World) (ef : ∀ args w, (callFunc gf args).run Try.prog w = .ok (.enter gf args) w) (hs : SeqAt w gf lb (fun x => #[encO (f x)]) 37 S Sp N) :
    Calls Try.prog 33 #[.func (.func gf) #[] lb, .func (.func 35) #[] #[]] w (HandsO (fun l => ∃ xs, S xs ∧ l.Perm (xs.map f) ∧ l.Pairwise (fun a b => ¬ kn b < kn a)) w) := by
  have HC := Lib.hid (collO_any f gf lb S Sp N hN w ef hs)
  have HN := Lib.hid hN
  clear hs hN ef
  go_enter Try.func33, Try.ntmps33
  go_wp2_with (fail)
  refine HC.out.mono ?_
  rintro e w1 ⟨l, v, ⟨xs, h1, h2, rfl⟩, rfl, h3, h4⟩
  have HO := Lib.hid (sortO_any v (xs.map f) w.heap.size w1 h3 (by rw [List.length_map]; have := HN.out; omega) h4.size)
  have H1 := Lib.hid h1
  have H4 := Lib.hid h4
  clear h1 h2 h3 h4 HC
  go_wp2_with (fail)
  refine HO.out.mono ?_
  rintro e w2 ⟨rfl, d, h5, h6, h7, h8⟩
  have H5 := Lib.hid h5
  have H6 := Lib.hid h6
  have H7 := Lib.hid h7
  have H8 := Lib.hid (H4.out.trans h8)
  clear h5 h6 h7 h8 HO H4
  go_wp2
  go_ret
  exact ⟨d, v, ⟨xs, H1.out, H6.out, H7.out⟩, rfl, H5.out, H8.out⟩
set_option maxRecDepth 100000 in
set_option maxHeartbeats 1000000 in
theorem collS_any (gf : FuncId) (lb : Array Value) (S Sp : List ByteArray → Prop) (N : Nat) (hN : N < 100000) (w : World) (ef : ∀ args w, (callFunc gf args).run Try.prog w = .ok (.enter gf args) w) (hs : SeqAt w gf lb encB 9 S Sp N) :
    Calls Try.prog 70 #[.func (.func gf) #[] lb] w (HandsS (fun l => S l ∧ l.length ≤ N) w) := by
  have HC := Lib.hid (appS_any gf lb S Sp N hN w ef hs)
  clear hs hN ef
  go_enter Try.func70, Try.ntmps70
  go_wp2_with (fail)
  refine HC.out.mono ?_
  rintro e w' ⟨xs, v, h1, h2, rfl, h3, h4⟩
  have H1 := Lib.hid h1
  have H2 := Lib.hid h2
  have H3 := Lib.hid h3
  have H4 := Lib.hid h4
  clear h1 h2 h3 h4 HC
  go_wp2
  go_ret
  exact ⟨_, v, ⟨H1.out, H2.out⟩, rfl, H3.out, H4.out⟩
set_option maxRecDepth 100000 in
set_option maxHeartbeats 1000000 in
theorem sortedS_any (gf : FuncId) (lb : Array Value) (S Sp : List ByteArray → Prop) (N : Nat) (hN : N < 100000) (w : World) (ef : ∀ args w, (callFunc gf args).run Try.prog w = .ok (.enter gf args) w) (hs : SeqAt w gf lb encB 9 S Sp N) :
    Calls Try.prog 56 #[.func (.func gf) #[] lb] w (HandsS (fun l => ∃ xs, S xs ∧ xs.length ≤ N ∧ l = sortB xs) w) := by
  have HC := Lib.hid (collS_any gf lb S Sp N hN w ef hs)
  have HN := Lib.hid hN
  clear hs hN ef
  go_enter Try.func56, Try.ntmps56
  go_wp2_with (fail)
  refine HC.out.mono ?_
  rintro e w1 ⟨l, v, ⟨h1, h2⟩, rfl, h3, h4⟩
  have HO := Lib.hid (sortS_any v l w.heap.size w1 h3 (by have := HN.out; omega) h4.size)
  have H1 := Lib.hid h1
  have H2 := Lib.hid h2
  have H4 := Lib.hid h4
  clear h1 h2 h3 h4 HC
  go_wp2_with (fail)
  refine HO.out.mono ?_
  rintro e w2 ⟨rfl, h5, h8⟩
  have H5 := Lib.hid h5
  have H8 := Lib.hid (H4.out.trans h8)
  clear h5 h8 HO H4
  go_wp2
  go_ret
  exact ⟨_, v, ⟨l, H1.out, H2.out, rfl⟩, rfl, H5.out, H8.out⟩
set_option maxRecDepth 100000 in
set_option maxHeartbeats 1000000 in
theorem rising_any (gf : FuncId) (lb : Array Value) (S Sp : List ByteArray → Prop) (N : Nat) (hN : N < 100000) (w : World) (ef : ∀ args w, (callFunc gf args).run Try.prog w = .ok (.enter gf args) w) (hs : SeqAt w gf lb encB 9 S Sp N) :
    Calls Try.prog 27 #[.func (.func gf) #[] lb] w (HandsS (fun l => ∃ xs, S xs ∧ xs.length ≤ N ∧ l = risB xs) w) := by
  have HC := Lib.hid (sortedS_any gf lb S Sp N hN w ef hs)
  have HN := Lib.hid hN
  clear hs hN ef
  go_enter Try.func27, Try.ntmps27
  go_wp2_with (fail)
  refine HC.out.mono ?_
  rintro e w1 ⟨l, v, ⟨xs, h1, h2, rfl⟩, rfl, h3, h4⟩
  have HO := Lib.hid (compactS_any v xs w.heap.size w1 h3 (by have := HN.out; omega) h4.size)
  have H1 := Lib.hid h1
  have H2 := Lib.hid h2
  have H4 := Lib.hid h4
  clear h1 h2 h3 h4 HC
  go_wp2_with (fail)
  refine HO.out.mono ?_
  rintro e w2 ⟨v', rfl, h5, h8⟩
  have H5 := Lib.hid h5
  have H8 := Lib.hid (H4.out.trans h8)
  clear h5 h8 HO H4
  go_wp2
  go_ret
  exact ⟨_, v', ⟨xs, H1.out, H2.out, rfl⟩, rfl, H5.out, H8.out⟩

theorem below2 (w : World) (a b : Go.Obj) : Below w.heap.size w ((w.alloc a).alloc b) := (chain2 w a b).2.2
set_option maxRecDepth 100000 in
set_option maxHeartbeats 1000000 in
theorem atts_any (l : List Obj) (v : Value) (vol : ByteArray) (w : World) (hl : ObjsIn w v l) (hn : l.length < 100000) :
    Calls Try.prog 17 #[v, .string vol] w (HandsO (· = attsL l vol) w) := by
  obtain ⟨o, c, rfl, -, -⟩ := id hl
  obtain ⟨e1, e2, e3⟩ := chain2 w (.cells #[.slice o l.length c] 22 (0, 0)) (.cells #[.string vol] 9 (0, 0))
  have hseq := attOf_seq l (.slice o l.length c) vol w.heap.size (w.heap.size + 1) ((w.alloc (.cells #[.slice o l.length c] 22 (0, 0))).alloc (.cells #[.string vol] 9 (0, 0))) (hl.after e3) e1 e2
  have ef := enters_of (P := Try.prog) Try.func61 (by kernel_rfl) rfl
  have HC := Lib.hid (sortedO_any (fun x : El l => x.1) 61 _ _ _ _ hn _ ef hseq)
  have HB := Lib.hid e3
  clear hl hn e1 e2 e3 hseq ef
  go_enter Try.func17, Try.ntmps17
  go_wp2_with (fail)
  refine (attOf_any _ _ _ _ _).mono ?_
  rintro e w' ⟨rfl, rfl⟩
  go_wp2_with (fail)
  refine HC.out.mono ?_
  rintro e w1 ⟨d, v, ⟨xs, h1, h2, h3⟩, rfl, h4, h5⟩
  have H1 := Lib.hid (atts_of (l := l) (vol := vol) (by rw [← h1]; exact h2) h3)
  have H4 : Hid (OutIn w1 w.heap.size v d) := ⟨h4.1, h4.2.imp id (fun ⟨g, cap, cur, q1, q2, q3⟩ => ⟨g, cap, cur, q1, Nat.le_trans (by simp; omega) q2, q3⟩)⟩
  have H5 := Lib.hid (HB.out.trans (h5.mono HB.out.size))
  clear h1 h2 h3 h4 h5 HC HB
  go_wp2
  go_ret
  exact ⟨d, v, H1.out, rfl, H4.out, H5.out⟩
end Go.Proofs.Ytigoghhjncpgfaa.O.B
namespace Go.Proofs.Ytigoghhjncpgfaa.O.B
open Go Go.RowKit Go.Shelf Go.Lib KM
attribute [local go_sem] Oper.semAt_some

/-- Has a claim that volume? -/
def hasV (vol : ByteArray) (c : Obj) : Bool := decide (c.phase = 3) && decide (c.volume = vol)
def stepC (vol : ByteArray) (m : List (ByteArray × Value)) (o : Obj) : List (ByteArray × Value) := if hasV vol o = true then KM.put o.name unit m else m
def claimsM (l : List Obj) (vol : ByteArray) : List (ByteArray × Value) := (thereL 3 l).foldl (stepC vol) []
theorem stepC_get (vol n : ByteArray) (l : List Obj) : ∀ m : List (ByteArray × Value), KM.get n (l.foldl (stepC vol) m) = if (l.any fun o => hasV vol o && decide (o.name = n)) = true then some unit else KM.get n m := by
  induction l with
  | nil => intro m; simp
  | cons x r ih =>
    intro m
    rw [List.foldl_cons, ih, List.any_cons]
    unfold stepC
    cases hx : hasV vol x with
    | false => simp
    | true =>
      rw [if_pos rfl, KM.get_put]
      by_cases hn : x.name = n
      · simp [hn]
      · have hn' : ¬ n = x.name := fun e => hn e.symm
        simp [hn, hn']
theorem there_apart (k : Int) (l : List Obj) : (thereL k l).Pairwise fun a b => a.name ≠ b.name := by
  rw [there_uniq]
  refine ((apart_uniq l).sublist List.filter_sublist).imp_of_mem fun {a b} ha hb hab e => hab ⟨?_, e⟩
  have h1 := of_decide_eq_true (List.mem_filter.1 ha).2
  have h2 := of_decide_eq_true (List.mem_filter.1 hb).2
  rw [h1, h2]
theorem apart_one {l : List Obj} (h : l.Pairwise fun a b => a.name ≠ b.name) {a b : Obj} (ha : a ∈ l) (hb : b ∈ l) (e : a.name = b.name) : a = b := by
  induction l with
  | nil => cases ha
  | cons x r ih =>
    obtain ⟨h1, h2⟩ := List.pairwise_cons.1 h
    rcases List.mem_cons.1 ha with e1 | e1 <;> rcases List.mem_cons.1 hb with e2 | e2
    · rw [e1, e2]
    · subst e1
      exact absurd e (h1 b e2)
    · subst e2
      exact absurd e.symm (h1 a e1)
    · exact ih h2 e1 e2
/-- Is there such a claim, that has the volume? -/
def boundB (l : List Obj) (vol n : ByteArray) : Bool := (getL l 3 n).any (hasV vol)
theorem claims_get (l : List Obj) (vol n : ByteArray) : KM.get n (claimsM l vol) = if boundB l vol n = true then some unit else none := by
  unfold claimsM
  rw [stepC_get]
  have e : ((thereL 3 l).any fun o => hasV vol o && decide (o.name = n)) = boundB l vol n := by
    rw [Bool.eq_iff_iff, List.any_eq_true]
    unfold boundB
    rw [← there_find 3 n l]
    constructor
    · rintro ⟨o, ho, hp⟩
      obtain ⟨h1, h2⟩ := Bool.and_eq_true_iff.1 hp
      cases hf : (thereL 3 l).find? fun o => decide (o.name = n) with
      | none =>
        rw [List.find?_eq_none] at hf
        exact absurd h2 (hf o ho)
      | some c =>
        have hc := List.mem_of_find?_eq_some hf
        have hn := List.find?_some hf
        have : o = c := apart_one (there_apart 3 l) ho hc ((of_decide_eq_true h2).trans (of_decide_eq_true hn).symm)
        subst this
        exact h1
    · intro h
      cases hf : (thereL 3 l).find? fun o => decide (o.name = n) with
      | none => rw [hf] at h; cases h
      | some c =>
        rw [hf] at h
        exact ⟨c, List.mem_of_find?_eq_some hf, Bool.and_eq_true_iff.2 ⟨h, by have := List.find?_some hf; simpa using this⟩⟩
  rw [e]
  rfl
/-- The nodes at which a volume is wanted, by pods. -/
def nodesL (l : List Obj) (vol : ByteArray) : List ByteArray := ((thereL 6 l).filter fun p => boundB l vol p.claim && (!p.node.toList.isEmpty && !p.deleting)).map Obj.node
theorem pods_nodes (l : List Obj) (vol : ByteArray) : podsL l (claimsM l vol) = nodesL l vol := by
  unfold podsL nodesL asksB
  congr 2
  funext p
  rw [claims_get]
  cases boundB l vol p.claim <;> rfl

set_option maxRecDepth 100000 in
set_option maxHeartbeats 4000000 in
theorem claims_any (l : List Obj) (v : Value) (vol : ByteArray) (w : World) (hl0 : ObjsIn w v l) :
    Calls Try.prog 29 #[v, .string vol] w fun e w' => ∃ m, e = .returned (.map (some m)) ∧ IsMap encT w' m (claimsM l vol) ∧ w.heap.size ≤ m ∧ Below w.heap.size w w' := by
  have HLA := Lib.hid hl0.low
  obtain ⟨o, c, rfl, -, -⟩ := id hl0
  have HL := Lib.hid hl0
  clear hl0
  have ef2 := enters_of (P := Try.prog) Try.func72 (by kernel_rfl) rfl
  have m1 : ∀ w, (Instr.makeMap 68 none).run Try.prog w = .ok (.map (some w.heap.size)) (w.alloc (.map #[] 0)) := fun _ => rfl
  refine callsIn_wide.1 (callsIn_of_wp_marks (n := 5) Try.func29 rfl trivial ?_ rfl)
  simp only [Try.ntmps29, List.size_toArray, List.length_cons, List.length_nil, Nat.reduceAdd, Nat.reduceSub, Array.replicate_succ, Array.replicate_zero, List.push_toArray, List.append_toArray, List.nil_append, List.cons_append]
  gi_wp2_with fail
  refine ⟨trivial, (callsIn_wide.2 (there_any _ _ _ _ _)).mono ?_⟩
  rintro e w' ⟨rfl, rfl⟩
  gi_wp2_with fail
  obtain ⟨z, hz⟩ : ∃ z, w.heap.size = z := ⟨_, rfl⟩
  refine wpIn_gen (fun V => V.heap.size = z + 5 ∧ Boxed V z 9 (.string vol) ∧ IsMap encT V (z + 1) [] ∧ Boxed V (z + 1 + 1) 68 (.map (some (z + 1))) ∧ Reads V (.slice o l.length c) l 3 (z + 1 + 1 + 1) (z + 1 + 1 + 1 + 1) ∧ Below w.heap.size w V) ?_ ?_
  · have hlow : Below w.heap.size w (((((w.alloc (.cells #[.string vol] 9)).alloc (.map #[] 0)).alloc (.cells #[.map (some (w.heap.size + 1))] 68)).alloc (.cells #[.slice o l.length c] 22)).alloc (.cells #[.int .u8 3] 33)) := by
      refine Below.alloc (Below.alloc (Below.alloc (Below.alloc (Below.alloc (Below.refl _ _) ?_ _) ?_ _) ?_ _) ?_ _) ?_ _ <;> simp <;> omega
    subst hz
    have hm := isMap_new (enc := encT) (w.alloc (.cells #[.string vol] 9))
    rw [World.size_alloc] at hm
    refine ⟨by simp, (((Boxed.new w _ _).alloc _).alloc _).alloc _ |>.alloc _, ?_, ((boxed_at _ _ _ _ (by simp)).alloc _).alloc _, ⟨HL.out.after hlow, (boxed_at _ _ _ _ (by simp)).alloc _, boxed_at _ _ _ _ (by simp)⟩, hlow⟩
    exact ((hm.after ((Below.refl _ _).alloc (Nat.le_refl _) _)).after ((Below.refl _ _).alloc (Nat.le_refl _) _)).after ((Below.refl _ _).alloc (Nat.le_refl _) _)
  clear HL m1
  rw [hz]
  rintro W1 ⟨hs, h1, h2, h3, h4, h5⟩
  have HS := Lib.hid hs
  have H1 := Lib.hid h1
  have H2 := Lib.hid h2
  have H3 := Lib.hid h3
  have H4 := Lib.hid h4
  have H5 := Lib.hid h5
  rw [hz] at HLA
  clear hs h1 h2 h3 h4 h5
  have hclear : Clear (.slice o l.length c) l (z + 1 + 1 + 1) (z + 1 + 1 + 1 + 1) (z + 1) (z + 1 + 1) := by
    refine ⟨by omega, by omega, fun g off hv hl => ?_⟩
    have := HLA.out g off hv hl
    omega
  refine RangeRow.range (F := Fence.wide) (n := 5) rfl (by omega) (gf := 72) (lb := #[.pointer (some ⟨z + 1 + 1 + 1, 0, none⟩), .pointer (some ⟨z + 1 + 1 + 1 + 1, 0, none⟩)]) rfl trivial ef2 (encs := encE (l := l)) (lo := z + 1) (hi := z + 1 + 1) (N0 := z) (E := 4) (by rw [HS.out]; omega)
    (there_row l (.slice o l.length c) 3 _ _ (z + 1) (z + 1 + 1) z 4 4 W1 H4.out hclear (by rw [HS.out]; omega) (fun g off hv hl => by have := HLA.out g off hv hl; omega) ⟨by decide, by decide⟩) (fun _ => rfl)
    (fun pre V => Boxed V z 9 (.string vol) ∧ IsMap encT V (z + 1) ((pre.map Subtype.val).foldl (stepC vol) []) ∧ Boxed V (z + 1 + 1) 68 (.map (some (z + 1))) ∧ Below z w V)
    (fun _ _ _ => False)
    ?_ ?_ ⟨H1.out, H2.out, H3.out, H5.out⟩
    (fun pre x a1 V => (Boxed V z 9 (.string vol) ∧ IsMap encT V (z + 1) ((pre.map Subtype.val).foldl (stepC vol) []) ∧ Boxed V (z + 1 + 1) 68 (.map (some (z + 1))) ∧ Below z w V) ∧ ∃ ob, W1.heap.size ≤ ob ∧ BoxO V ob x.1 ∧
      a1 = { tmps := #[.slice o l.length c, .string vol, undef, .pointer (some ⟨z, 0, none⟩), .map none, .pointer (some ⟨z + 1 + 1, 0, none⟩), .pointer (some ⟨ob, 0, none⟩), .map (some (z + 1)), .slice o l.length c, .func (.func 72) #[] #[.pointer (some ⟨z + 1 + 1 + 1, 0, none⟩), .pointer (some ⟨z + 1 + 1 + 1 + 1, 0, none⟩)], encO x.1, undef, undef, undef, undef, undef, undef, undef, undef, undef, undef, undef, undef, undef, undef], defers := [] })
    ?_ ?_ ?_ ?_ ?_
  · intro pre A B row ⟨a, b, d, e⟩ hg hr
    exact ⟨cells_own hg hr a, b.of_heap (hg.block _ b.lt (fun q => by have := (hr _ q.symm).1; rw [HS.out] at this; omega)), cells_own hg hr d, ownFrom_below (β := Unit) (n₀ := z) (B := W1.heap.size) (by omega) (by rw [HS.out]; omega) () A B row e hg hr⟩
  · intro _ _ _ _ _ h
    exact h.elim
  · intro x a1 pre A B row ⟨⟨a, b, d, e⟩, ob, f, g, h⟩ hg hr
    exact ⟨⟨cells_own hg hr a, b.of_heap (hg.block _ b.lt (fun q => by have := (hr _ q.symm).1; rw [HS.out] at this; omega)), cells_own hg hr d, ownFrom_below (β := Unit) (n₀ := z) (B := W1.heap.size) (by omega) (by rw [HS.out]; omega) () A B row e hg hr⟩, ob, f, cells_own hg hr g, h⟩
  · intro lp pre x V ⟨a, b, d, e⟩ _ hsz
    obtain ⟨V2, hst, hbx, hlw, -⟩ := boxing V x.1
    have HA := Lib.hid a
    have HB := Lib.hid (b.after hlw)
    have HD := Lib.hid d
    have HE := Lib.hid (e.trans (hlw.mono (by have := e.size; omega)))
    have HX := Lib.hid hbx
    have HW := Lib.hid hlw
    clear a b d e hbx hlw
    simp only [encE]
    gi_wp2_with (refine KnownIn.skip rfl (by intro c e; cases e) rfl (hst rfl rfl rfl) ?_)
    exact ⟨RangeRow.Stays.of_below HW.out, ⟨(HW.out.block _ HA.out.lt).trans HA.out, HB.out, (HW.out.block _ HD.out.lt).trans HD.out, HE.out⟩, V.heap.size, hsz, HX.out, rfl⟩
  · rintro lp pre x a1 V ⟨⟨a, b, d, e⟩, ob, hob, hbx, rfl⟩ hlen hsz
    have HA := Lib.hid a
    have HB := Lib.hid b
    have HD := Lib.hid d
    have HE := Lib.hid e
    have ca := a.cell
    have cd := d.cell
    have c17 := hbx.c17
    have c15 := hbx.c15
    have c1 := hbx.c1
    have hF : ((pre ++ [x]).map Subtype.val).foldl (stepC vol) [] = stepC vol ((pre.map Subtype.val).foldl (stepC vol) []) x.1 := by
      rw [List.map_append, List.foldl_append]
      rfl
    have HF := Lib.hid hF
    clear hF a b d e
    by_cases hp : x.1.phase = 3
    · by_cases hv : x.1.volume = vol
      · have hk : (x.1.volume.toList == vol.toList) = true := by rw [hv]; simp
        have hk2 : (x.1.phase == 3) = true := by rw [hp]; rfl
        have HG : Hid (stepC vol ((pre.map Subtype.val).foldl (stepC vol) []) x.1 = KM.put x.1.name unit ((pre.map Subtype.val).foldl (stepC vol) [])) := by
          show _ = _
          unfold stepC hasV
          rw [if_pos (by simp [hp, hv])]
        obtain ⟨W5, hrun, hm5, ht5⟩ := exec_seen_put HB.out x.1.name
        have HM5 := Lib.hid hm5
        have HT5 := Lib.hid ht5
        clear hv hp hbx hm5 ht5
        gi_wp2_with (refine KnownIn.skip rfl (by intro c e; cases e) rfl (hrun rfl rfl rfl rfl) ?_)
        refine ⟨⟨by rw [HT5.out.size]; exact Nat.le_refl _, fun q hq hx hr => HT5.out.block q (by omega)⟩, (HT5.out.block _ (by omega)).trans HA.out, ?_, (HT5.out.block _ (by omega)).trans HD.out, HE.out.trans (HT5.out.below (by omega))⟩
        rw [HF.out, HG.out]
        exact HM5.out
      · have hk : (x.1.volume.toList == vol.toList) = false := by rw [eqB]; simpa using hv
        have hk2 : (x.1.phase == 3) = true := by rw [hp]; rfl
        have HG : Hid (stepC vol ((pre.map Subtype.val).foldl (stepC vol) []) x.1 = (pre.map Subtype.val).foldl (stepC vol) []) := by
          show _ = _
          unfold stepC hasV
          rw [if_neg (by simp [hv])]
        clear hv hp hbx
        gi_wp2
        refine ⟨RangeRow.Stays.refl _ _ _ _ _, HA.out, ?_, HD.out, HE.out⟩
        rw [HF.out, HG.out]
        exact HB.out
    · have hk2 : (x.1.phase == 3) = false := by simpa using hp
      have HG : Hid (stepC vol ((pre.map Subtype.val).foldl (stepC vol) []) x.1 = (pre.map Subtype.val).foldl (stepC vol) []) := by
        show _ = _
        unfold stepC hasV
        rw [if_neg (by simp [hp])]
      clear hp hbx
      gi_wp2
      refine ⟨RangeRow.Stays.refl _ _ _ _ _, HA.out, ?_, HD.out, HE.out⟩
      rw [HF.out, HG.out]
      exact HB.out
  · rintro D xs V hD hS ⟨a, b, d, e⟩ hK
    have cd := d.cell
    have HB := Lib.hid b
    have HE := Lib.hid e
    have HK := Lib.hid hK
    have HXS := Lib.hid hS
    clear a b d e hK hS
    gi_wp2
    refine ⟨by simp, .inl ⟨_, _, rfl, run_takeDeferred HK.out, ?_⟩⟩
    refine ⟨.map (some (z + 1)), (results_tmp (t := 4) rfl _ _ _).trans rfl, z + 1, rfl, ?_, by omega, ?_⟩
    · have h := HB.out.of_heap (W' := V.putObj D (.deferred none)) (World.putObj_heap_other (by rw [HS.out] at hD; omega))
      rw [HXS.out] at h
      exact h
    · rw [hz]
      exact HE.out.trans (belowK_b (w := w) (by omega) _ D _ _ (by rw [HS.out] at hD; omega) HK.out rfl rfl)
  · intro _ _ _ _ _ _ h _
    exact h.elim
end Go.Proofs.Ytigoghhjncpgfaa.O.B
