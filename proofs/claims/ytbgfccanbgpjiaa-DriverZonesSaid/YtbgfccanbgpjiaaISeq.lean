/- The iterator over volumes in the order of their names, where there is one. -/
import Derived.Test.YtbgfccanbgpjiaaIMap
import Derived.Test.YtbgfccanbgpjiaaINamed
import Derived.Test.YtbgfccanbgpjiaaIter
import Derived.Test.YtbgfccanbgpjiaaRangeMap
import Derived.Test.YtbgfccanbgpjiaaKnownIn
import Derived.Shelf.Abstract
import Derived.Shelf.RegionOpen
import Derived.OwnWalkIn
import Derived.TacticsInMore
import Derived.LoopNIn
import Derived.LoopIn
import Derived.RangeFuncBox
namespace Go.Proofs.Ytbgfccanbgpjiaa.O.I
open Go Go.RowKit Go.Lib Go.Shelf RangeMap KM
attribute [local go_sem] Oper.semAt_some

theorem own_below {β : Type} {B : Nat} {J : β → World → Prop} (hJ : OwnFrom B J) {s : β} {W W' : World} (h : J s W) (hb : Below W.heap.size W W') : J s W' :=
  hJ s W W' none h ⟨hb.os, hb.tape, hb.output, hb.size, fun b hlt _ => hb.block b hlt⟩ (fun r e => by cases e)
def encKV (k : ByteArray) (x : Vl) (_ : Unit) : Array Value := #[.string k, encV x]
/-- A map of one key reads as a map of one key. -/
theorem owns_one {W : World} {mb : Nat} {k : ByteArray} {v : Value} (hk : k.size ≤ maxLen) (hm : IsMap encS W mb [(k, v)]) (hst : Stamp W mb) :
    W.ownsMap Try.prog 9 (fun _ => some ((DataW.nil : DataW Unit), [])) mb 1 (.map [(.string k.data.toList, .nil)]) := by
  obtain ⟨es, clock, hb, hh⟩ := hm
  obtain ⟨es', clock', hb', hs'⟩ := hst
  rw [hb] at hb'
  cases hb'
  obtain ⟨l⟩ := es
  cases l with
  | nil => unfold Holds at hh; simp at hh
  | cons e r =>
    obtain ⟨⟨h1, h2⟩, h3⟩ := Holds.cons.1 hh
    cases r with
    | cons e2 r2 => unfold Holds at h3; simp at h3
    | nil =>
      have hkey : e.key = .string k := h1
      have hrd : WideElems.rd Try.prog 9 (fun _ => some ((DataW.nil : DataW Unit), [])) e = some (.string k.data.toList, .nil) := by
        unfold WideElems.rd
        rw [hkey, WideMaps.keyOf_string_mk (P := Try.prog) Try.underlying9 hk]
        rfl
      refine ⟨_, _, hb, ⟨by simp; decide, hs', fun x hx => ?_⟩, by simp, ?_⟩
      · simp only [List.mem_singleton] at hx
        subst hx
        exact ⟨_, hrd⟩
      · simp [WideElems.rg, hrd, DataW.insert]
theorem inOrder_any (mb : Option Nat) (w : World) : Calls Try.prog 44 #[.map mb] w fun e w' => e = .returned (.func (.func 61) #[] #[.pointer (some ⟨w.heap.size, 0, none⟩)]) ∧ w' = w.alloc (.cells #[.map mb] tV) := by
  go_enter Try.func44, Try.ntmps44
  go_wp2
  go_ret
  exact ⟨rfl, rfl⟩
/-- Where the iterator stands. -/
structure At (b mb g : Nat) (cur : Array Value) (k : ByteArray) (x : Vl) (J : List Unit → World → Prop) (i : Nat) (W : World) : Prop where
  box : Boxed W b tV (.map (some mb))
  map : IsMap encS W mb [(k, encV x)]
  row : W.heap[g]? = some (.cells cur 9 (0, 0))
  inv : J (if i = 0 then [] else [()]) W
set_option maxRecDepth 100000 in
set_option maxHeartbeats 4000000 in
theorem vols_seq (n : Nat) (hn : n = 6) (k : ByteArray) (x : Vl) (hk : k.size ≤ maxLen) (b mb lo hi : Nat) (w : World) (hlh : hi ≤ w.heap.size ∧ ¬ (lo ≤ b ∧ b < hi) ∧ ¬ (lo ≤ mb ∧ mb < hi)) (hbox : Boxed w b tV (.map (some mb))) (hm : IsMap encS w mb [(k, encV x)]) (hst : Stamp w mb) :
    Seq Fence.wide n Try.prog 61 #[.pointer (some ⟨b, 0, none⟩)] (encKV k x) lo hi (fun xs => xs = [()]) (fun pre => pre = [()]) 1 w := fun L J Jx W hW hL hLW hJ hJx hY h0 => by
  have hmW : IsMap encS W mb [(k, encV x)] := hm.after hW
  have hown := owns_one hk hmW (hst.of_heap (hW.block mb hm.lt))
  have hboxW : Boxed W b tV (.map (some mb)) := (hW.block b hbox.lt).trans hbox
  have HBX := Lib.hid hboxW
  have HM := Lib.hid hmW
  have HLH := Lib.hid hlh
  have HLT : Hid (b < w.heap.size ∧ mb < w.heap.size) := ⟨hbox.lt, hm.lt⟩
  have H0 := Lib.hid h0
  have HJ := Lib.hid hJ
  have HJX := Lib.hid hJx
  have HY := Lib.hid hY
  have HOW := Lib.hid hown
  have hNW := hW.size
  have b1 := hboxW.cell
  have HMK : Hid (∀ w, CallsIn Fence.wide (n - 1) Try.prog 62 #[.map (some mb)] w fun e w' => e = .returned (.func (.func 80) #[] #[.pointer (some ⟨w.heap.size, 0, none⟩)]) ∧ w' = w.alloc (.cells #[.map (some mb)] tV)) := by
    subst hn
    exact fun w => Try.maps_Keys_62 _ _
  have HSO : Hid (CallsIn Fence.wide (n - 1) Try.prog 45 #[.func (.func 80) #[] #[.pointer (some ⟨W.heap.size, 0, none⟩)]] (W.alloc (.cells #[.map (some mb)] tV)) fun e W2 => ∃ g cap cur, e = .returned (.slice (some ⟨g, 0, none⟩) 1 cap) ∧ W2.heap[g]? = some (.cells cur 9 (0, 0)) ∧ cur[0]? = some (.string k) ∧ W.heap.size ≤ g ∧ Below W.heap.size W W2) := by
    subst hn
    refine (Try.slices_Sorted_keys_45_62 mb 1 _ _ W HOW.out (by show 1 ≤ maxLen; decide) (by show 1 * 16 ≤ 140737488355328; decide)).mono ?_
    rintro e W2 ⟨v, ss, rfl, hS, hrow, -, hb⟩
    have hss : ss = [k.data.toList] := List.perm_singleton.1 hS
    subst hss
    rcases hrow.2 with ⟨-, h0⟩ | ⟨g, cap, cur, rfl, hg, hh, -, -, -, ht⟩
    · exact absurd h0 (by simp)
    have hcur : cur[0]? = some (.string k) := by
      have h1 : (cur.toList.take 1)[0]? = some (Value.string ⟨k.data.toList.toArray⟩) := by
        have h2 : cur.toList.take 1 = [Value.string ⟨k.data.toList.toArray⟩] := by
          refine Eq.trans ?_ (ht.trans ?_)
          · rfl
          · rw [List.mergeSort_singleton]; rfl
        rw [h2]; rfl
      rw [List.getElem?_take] at h1
      rw [← Array.getElem?_toList]
      simpa using h1
    exact ⟨g, cap, cur, rfl, hh, hcur, Nat.le_trans (by simp) hg, ((Below.refl _ _).alloc (Nat.le_refl _) _).trans (hb.mono (by simp))⟩
  clear hn hlh
  clear hbox hm hst hW hJ hJx hY h0 hmW hboxW hown
  refine callsIn_of_wp Try.func61 rfl trivial ?_ rfl
  simp only [Try.ntmps61, List.size_toArray, List.length_cons, List.length_nil, Nat.reduceAdd, Nat.reduceSub, Array.replicate_succ, Array.replicate_zero, List.push_toArray, List.append_toArray, List.nil_append, List.cons_append]
  gi_wp2_with fail
  refine ⟨trivial, fun h => (by cases h), (HMK.out _).mono ?_⟩
  rintro e w' ⟨rfl, rfl⟩
  gi_wp2_with fail
  refine ⟨trivial, fun h => (by cases h), HSO.out.mono ?_⟩
  rintro e W2 ⟨g, cap, cur, rfl, hh, hcur, hgW, hW2⟩
  have HG : Hid (At b mb g cur k x J 0 W2) := ⟨(hW2.block b (by have := HLT.out; omega)).trans HBX.out, HM.out.after hW2, hh, own_below HJ.out H0.out hW2⟩
  have HC := Lib.hid hcur
  have HGW := Lib.hid hgW
  clear hh hcur hW2 hgW HMK HSO HBX HM H0 HOW b1
  gi_wp2
  gi_loopw [9] (fun iv wr => ∃ i : Nat, iv = .int .i64 (i : Int) ∧ i ≤ 1 ∧ At b mb g cur k x J i wr) (fun iv _ => 1 - (RowKit.intOf iv).toNat)
  case atStart => exact ⟨0, rfl, Nat.zero_le _, HG.out⟩
  case round =>
    clear HG
    obtain ⟨i, rfl, hi, hat⟩ := hrel
    by_cases hlt : i < 1
    · obtain rfl : i = 0 := by omega
      obtain ⟨fn, tmps, assign, body, hy, hR⟩ := HY.out [] () wr hat.inv (by simp)
      change Sem.run Try.prog (Instr.yield L #[.string k, encV x]) _ = _ at hy
      have HR := Lib.hid hR
      have HAT := Lib.hid hat
      have hmap := hat.map
      have hlk : ∀ {oi : Oper} {a : Act} {p r : Operand}, oi.op = .lookup tV p r false → a.eval p = .map (some mb) → a.eval r = .string k → (execOp a.eval oi).run Try.prog wr = .ok (.value (encV x)) wr :=
        fun ho h1 h2 => exec_look1 und_V (zero_V _) hmap (some (encV x)) (by simp [KM.get]) ho h1 h2
      have d1 := hat.box.cell
      have e1 : wr.cell? ⟨g, 0, none⟩ = some (.string k) := (cell_of_row wr g 0 _ _ _ hat.row).trans HC.out
      clear hR hat
      gi_wp2_with (refine KnownIn.value rfl rfl (hlk rfl rfl rfl) ?_)
      refine ⟨fun h => (by cases h), HR.out.mono ?_⟩
      rintro e W6 (⟨rfl, hJ6, hk6⟩ | ⟨rfl, hJx6⟩)
      · have hat := HAT.out
        have hbl := HLT.out
        have hml := hat.map.lt
        have hgl := (Array.getElem?_eq_some_iff.1 hat.row).1
        have hgw := HGW.out
        obtain ⟨hh1, hh2, hh3⟩ := HLH.out
        have hbw := hat.box.lt
        have HN : Hid (At b mb g cur k x J 1 W6) := ⟨(hk6.2 b hbw (by omega) hh2).trans hat.box, hat.map.of_heap (hk6.2 mb hml (by omega) hh3), (hk6.2 g hgl (by omega) (by omega)).trans hat.row, hJ6⟩
        clear hJ6 hk6 hy hmap hlk d1 e1 hat hbl hml hgl hgw hbw hh1 hh2 hh3 HAT
        gi_wp2
        exact ⟨⟨1, by go_num, by omega, HN.out⟩, by simp [RowKit.intOf]⟩
      · have HX6 := Lib.hid hJx6
        clear hJx6 hy hmap hlk d1 e1 HAT
        gi_wp2
        refine bodyPost_ret (results_none rfl _ _ _) rfl ?_
        exact ⟨⟨_, rfl⟩, .inr ⟨_, rfl, HX6.out⟩⟩
    · obtain rfl : i = 1 := by omega
      have HJ2 := Lib.hid hat.inv
      clear hat hi hlt
      gi_wp2
      go_end0
      exact ⟨⟨_, rfl⟩, .inl ⟨_, rfl, HJ2.out⟩⟩
end Go.Proofs.Ytbgfccanbgpjiaa.O.I
