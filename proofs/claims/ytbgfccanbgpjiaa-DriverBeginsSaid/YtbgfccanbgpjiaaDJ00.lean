/- Own work. -/
import Derived.Lib.Strings
import Derived.Lib.SpaceUEq
import Derived.Laws.RangeAny
import Derived.Lib.DecodeN
import Derived.OwnWalk
import Derived.Outline
import Derived.WalkKit
import Derived.WalkSpells
import Derived.WalkLawsBesides
import Derived.KernelRfl
import Derived.Lib.Hide
import Derived.Lib.IndexBytes
import Derived.Laws.StructEq
import Derived.Deep.RegionHeld3
import Derived.BigRegion
import Derived.Laws.Tables
import Derived.Deep.WholeRow
import Derived.Laws.CopyOwn
import Derived.Great.BuildSlice
import Derived.Deep.Cut
import Derived.Test.YtbgfccanbgpjiaaProg
import Derived.Test.YtbgfccanbgpjiaaChecked
import Derived.Laws.RangeString
import Derived.Lib.RuneCount
import Derived.BigQuiet
import Derived.Deep.QuietTactic
import Derived.Laws.Runes
import Derived.Maps.OwnSet
import Derived.Below
import Derived.Deep.RegionHeld
import Derived.Tactics
namespace Go.Proofs.Ytbgfccanbgpjiaa.T
open Go.Lib
def isW (c : UInt8) : Bool := (decide (97 ≤ c.toNat) && decide (c.toNat ≤ 122)) || (decide (48 ≤ c.toNat) && decide (c.toNat ≤ 57)) || decide (c.toNat = 45)
def wordB (l : List UInt8) : Bool := decide (1 ≤ l.length) && decide (l.length ≤ 24) && l.all isW
theorem high_step (s : ByteArray) (pos : Nat) (h : pos < s.size) (ha : 128 ≤ (s[pos]'h).toNat) :
    pos + (Utf8.decode s pos).2 ≤ s.size ∧ ∀ j, pos ≤ j → j < pos + (Utf8.decode s pos).2 → ∀ hj : j < s.size, 128 ≤ (s[j]'hj).toNat := by
  have e : ∀ j (hj : j < s.size), s.get! j = s[j]'hj := fun j hj => by
    show s.get! j = _
    simp [ByteArray.get!, getElem!_pos, hj]
    rfl
  have w1 := (decode_high s pos h ha).2
  rw [decode_at] at w1 ⊢
  obtain ⟨c1, c2, c3, c4⟩ := decodeN_conts (s.size - pos) (s.get! pos).toNat (s.get! (pos + 1)).toNat (s.get! (pos + 2)).toNat (s.get! (pos + 3)).toNat
  generalize (decodeN (s.size - pos) (s.get! pos).toNat (s.get! (pos + 1)).toNat (s.get! (pos + 2)).toNat (s.get! (pos + 3)).toNat).2 = k at *
  refine ⟨by omega, fun j hj1 hj2 hj => ?_⟩
  obtain rfl | rfl | rfl | rfl : j = pos ∨ j = pos + 1 ∨ j = pos + 2 ∨ j = pos + 3 := by omega
  · exact ha
  · have := (c1 (by omega)).1; rw [e _ hj] at this; omega
  · have := (c2 (by omega)).1; rw [e _ hj] at this; omega
  · have := (c3 (by omega)).1; rw [e _ hj] at this; omega
theorem get_list (s : ByteArray) (k : Nat) (h : k < s.size) : s.data.toList[k]'(by simpa using h) = s[k] := rfl
theorem size_list (s : ByteArray) : s.data.toList.length = s.size := by simp
end Go.Proofs.Ytbgfccanbgpjiaa.T
namespace Go.Proofs.Ytbgfccanbgpjiaa.O
open Go.Lib T
def isN (c : UInt8) : Bool := isW c || (decide (c.toNat = 46) || (decide (c.toNat = 35) || decide (c.toNat = 47)))
def nameB (l : List UInt8) : Bool := decide (1 ≤ l.length) && decide (l.length ≤ 40) && l.all isN
def okT (s : ByteArray) : Bool := decide (s.data.toList = []) || nameB s.data.toList
def emp (s : ByteArray) : Bool := decide (s.data.toList = [])
def noSl (s : ByteArray) : Bool := !s.data.toList.contains 47
structure Obj where
  kind : Int
  name : ByteArray
  version : Int
  born : Int
  deleting : Bool
  hold : Bool
  cls : ByteArray
  size : Int
  got : Int
  mode : Int
  keep : Bool
  wait : Bool
  zone : ByteArray
  node : ByteArray
  claim : ByteArray
  volume : ByteArray
  source : ByteArray
  phase : Int
  num : Int
  tag : Int
deriving DecidableEq
def E0 : ByteArray := ⟨#[]⟩
def bareO (o : Obj) : Obj :=
  if o.kind = 1 then ⟨o.kind, o.name, o.version, o.born, o.deleting, o.hold, E0, 0, 0, 0, o.keep, o.wait, o.zone, E0, E0, E0, E0, 0, 0, 0⟩
  else if o.kind = 2 then ⟨o.kind, o.name, o.version, o.born, o.deleting, o.hold, E0, 0, 0, 0, false, false, o.zone, E0, E0, E0, E0, 0, 0, 0⟩
  else if o.kind = 3 then ⟨o.kind, o.name, o.version, o.born, o.deleting, o.hold, o.cls, o.size, o.got, o.mode, false, false, o.zone, o.node, E0, o.volume, o.source, o.phase, o.num, 0⟩
  else if o.kind = 4 then ⟨o.kind, o.name, o.version, o.born, o.deleting, o.hold, o.cls, o.size, o.got, o.mode, o.keep, false, o.zone, E0, o.claim, E0, E0, o.phase, o.num, 0⟩
  else if o.kind = 5 then ⟨o.kind, o.name, o.version, o.born, o.deleting, o.hold, E0, 0, 0, 0, false, false, E0, o.node, E0, o.volume, E0, o.phase, o.num, 0⟩
  else if o.kind = 6 then ⟨o.kind, o.name, o.version, o.born, o.deleting, o.hold, E0, 0, 0, 0, false, false, E0, o.node, o.claim, E0, E0, 0, 0, 0⟩
  else if o.kind = 7 then ⟨o.kind, o.name, o.version, o.born, o.deleting, o.hold, E0, 0, o.got, 0, false, false, E0, E0, E0, o.volume, o.source, o.phase, o.num, o.tag⟩
  else ⟨o.kind, o.name, o.version, o.born, o.deleting, o.hold, E0, 0, 0, 0, false, false, E0, E0, E0, E0, E0, 0, 0, 0⟩
def attachN (v n : ByteArray) : ByteArray := v ++ ⟨#[47]⟩ ++ n
def modeB (m : Int) : Bool := decide (m = 1) || decide (m = 2)
def inR (n : Int) : Bool := decide (0 ≤ n) && decide (n ≤ 1125899906842624)
def ph3 (p a b c : Int) : Bool := decide (p = a) || (decide (p = b) || decide (p = c))
def ph4 (p a b c d : Int) : Bool := decide (p = a) || (decide (p = b) || (decide (p = c) || decide (p = d)))
def claimB (o : Obj) : Bool := !emp o.cls && (decide (o.size ≠ 0) && (modeB o.mode && (ph3 o.phase 1 2 3 && ((!emp o.volume) == decide (o.phase = 3)))))
def volumeB (o : Obj) : Bool := (!emp o.cls && !emp o.zone) && (decide (o.size ≠ 0) && (decide (o.got ≠ 0) && (modeB o.mode && (ph4 o.phase 4 3 5 6 && (!emp o.claim || !(decide (o.phase = 3) || decide (o.phase = 5)))))))
def attachB (o : Obj) : Bool := (!emp o.volume && !emp o.node) && (noSl o.node && (decide (o.name = attachN o.volume o.node) && ph3 o.phase 7 8 9))
def kindB (o : Obj) : Bool :=
  if o.kind = 1 then true
  else if o.kind = 2 then !emp o.zone && noSl o.name
  else if o.kind = 3 then claimB o
  else if o.kind = 4 then volumeB o
  else if o.kind = 5 then attachB o
  else if o.kind = 6 then !emp o.claim
  else if o.kind = 7 then !emp o.source && ph4 o.phase 1 10 11 6
  else false
def textsB (o : Obj) : Bool := okT o.cls && (okT o.zone && (okT o.node && (okT o.claim && (okT o.volume && okT o.source))))
def rightB (o : Obj) : Bool := nameB o.name.data.toList && (decide (o = bareO o) && (textsB o && (inR o.size && (inR o.got && kindB o))))
theorem ba_ext {a b : ByteArray} (h : a.data.toList = b.data.toList) : a = b := by
  obtain ⟨⟨x⟩⟩ := a
  obtain ⟨⟨y⟩⟩ := b
  simp at h
  rw [h]
end Go.Proofs.Ytbgfccanbgpjiaa.O
namespace Go.Proofs.Ytbgfccanbgpjiaa.O
open Go.RowKit T
open Go.Lib
theorem eqB {a b : ByteArray} : (a.toList == b.toList) = decide (a = b) := by
  rw [Bool.eq_iff_iff, beq_iff_eq, decide_eq_true_iff, Lib.toList_data, Lib.toList_data]
  exact ⟨fun h => ba_ext h, fun h => by rw [h]⟩
theorem eqT {a b : ByteArray} : a.toList = b.toList ↔ a = b := by
  rw [Lib.toList_data, Lib.toList_data]
  exact ⟨fun h => ba_ext h, fun h => by rw [h]⟩
theorem and_if {P : Prop} [Decidable P] {X : Result Value} {b : Bool} {w : World} (h : X = .ok (.bool b) w) : (if P then X else .ok (.bool false) w) = .ok (.bool (decide P && b)) w := by
  by_cases hP : P <;> simp [hP, h]
theorem last_if {P : Prop} [Decidable P] {w : World} : (if P then (.ok (.bool true) w : Result Value) else .ok (.bool false) w) = .ok (.bool (decide P)) w := by
  by_cases hP : P <;> simp [hP]
theorem wp_gen {P : Program} {c : Code} {Q : Exit → Act → World → Prop} {a : Act} {W : World} (F : World → Prop) (hF : F W) (h : ∀ W1, F W1 → Code.wp P c Q a W1) : Code.wp P c Q a W := h W hF
theorem wpList_build_to {P : Program} {ops : Array Oper} {rest : List Oper} {o : Oper} {a : Act} {w : World} {Q : Exit → Act → World → Prop} (hg : o.guard = none) (t : TypeId) (parts : Array (Nat × Operand)) (ho : o.op = .build t parts) (cs : Array Value)
    (hf : P.built t (parts.toList.map fun (i, x) => (i, a.eval x)) = some cs) (h : wpList P ops Q rest (a.put o.dst (.agg cs)) w) : wpList P ops Q (o :: rest) a w :=
  wpList_build hg t parts ho (by rw [Array.toList_map, hf]; rfl) (by rw [Array.toList_map, hf]; exact h)
end Go.Proofs.Ytbgfccanbgpjiaa.O
namespace Go.Proofs.Ytbgfccanbgpjiaa.T
open Go.RowKit Go.Lib
def runeB (r : Int) : Bool := (decide (97 ≤ r) && decide (r ≤ 122)) || (decide (48 ≤ r) && decide (r ≤ 57)) || (r == 45)
theorem ret_bool {a b : Bool} (h : a = b) : Ending.returned (.bool a) = .returned (.bool b) := by rw [h]
theorem wordRune_any (r : Int) (w : World) :
    Calls Try.prog 95 #[.int .i32 r] w fun e w' => e = .returned (.bool (runeB r)) ∧ w = w' := by
  have hcase : r < 45 ∨ r = 45 ∨ (45 < r ∧ r < 48) ∨ (48 ≤ r ∧ r ≤ 57) ∨ (57 < r ∧ r < 97) ∨ (97 ≤ r ∧ r ≤ 122) ∨ 122 < r := by omega
  rcases hcase with h | rfl | ⟨h, h'⟩ | ⟨h, h'⟩ | ⟨h, h'⟩ | ⟨h, h'⟩ | h
  all_goals
    try have e45 : (r == 45) = false := by simp; omega
    go_enter Try.func95, Try.ntmps95
    go_wp2
    go_ret
    refine ⟨ret_bool ?_, rfl⟩
    first | rfl | (rw [Bool.eq_iff_iff]; simp [runeB]; done) | (rw [Bool.eq_iff_iff]; simp [runeB]; omega) | (unfold runeB; rw [e45]; simp; omega)
theorem runeB_byte (c : UInt8) : runeB (c.toNat : Int) = isW c := by
  unfold runeB isW
  have e : ((c.toNat : Int) == 45) = decide (c.toNat = 45) := by
    by_cases h : c.toNat = 45
    · simp [h]
    · simp only [h, decide_false]; simp; omega
  rw [e]
  congr 2
  · congr 1 <;> (apply decide_eq_decide.2; omega)
  · congr 1 <;> (apply decide_eq_decide.2; omega)
theorem runeB_high {r : Int} (h : 128 ≤ r) : runeB r = false := by
  unfold runeB
  simp only [Bool.or_eq_false_iff, Bool.and_eq_false_iff, decide_eq_false_iff_not, beq_eq_false_iff_ne]
  omega
theorem take_snoc (s : ByteArray) (k : Nat) (h : k < s.size) : s.data.toList.take (k + 1) = s.data.toList.take k ++ [s[k]] := by
  rw [List.take_succ_eq_append_getElem (by simpa using h)]; rfl
theorem all_snoc {s : ByteArray} {k : Nat} (h : k < s.size) (hd : (s.data.toList.take k).all isW = true) (hk : isW s[k] = true) : (s.data.toList.take (k + 1)).all isW = true := by
  rw [take_snoc s k h, List.all_append, hd]; simp [hk]
theorem all_not {s : ByteArray} {k : Nat} (h : k < s.size) (hk : isW s[k] = false) : s.data.toList.all isW = false := by
  rw [List.all_eq_false]
  exact ⟨s[k], by rw [← get_list s k h]; exact List.getElem_mem _, by simp [hk]⟩
theorem isW_low {c : UInt8} (h : isW c = true) : c.toNat < 128 := by
  unfold isW at h
  simp only [Bool.or_eq_true, Bool.and_eq_true, decide_eq_true_eq] at h
  omega
theorem below_iter {w : World} (s : ByteArray) (pos : Nat) : Below w.heap.size w (w.iter s pos) := (Below.refl _ w).alloc (Nat.le_refl _) _
set_option maxHeartbeats 400000 in
theorem word_any (s : ByteArray) (w : World) :
    Calls Try.prog 79 #[.string s] w fun e w' => e = .returned (.bool (wordB s.data.toList)) ∧ Below w.heap.size w w' := by
  by_cases h1 : s.size < 1
  · have H : Hid (wordB s.data.toList = false) := by unfold wordB; show _ = _; simp only [size_list, Bool.and_eq_false_iff, decide_eq_false_iff_not]; omega
    go_enter Try.func79, Try.ntmps79
    go_wp2
    go_ret
    exact ⟨ret_bool H.out.symm, Below.refl _ _⟩
  by_cases h2 : 24 < s.size
  · have H : Hid (wordB s.data.toList = false) := by unfold wordB; show _ = _; simp only [size_list, Bool.and_eq_false_iff, decide_eq_false_iff_not]; omega
    go_enter Try.func79, Try.ntmps79
    go_wp2
    go_ret
    exact ⟨ret_bool H.out.symm, Below.refl _ _⟩
  have H : Hid (wordB s.data.toList = s.data.toList.all isW) := by
    show _ = _
    unfold wordB
    simp only [size_list]
    rw [show decide (1 ≤ s.size) = true by simp; omega, show decide (s.size ≤ 24) = true by simp; omega]
    rfl
  have g1 : 1 ≤ s.size := by omega
  have g2 : s.size ≤ 24 := by omega
  clear h1 h2
  go_enter Try.func79, Try.ntmps79
  go_wp2
  go_loopw [] (fun w' => ∃ pos : Nat, pos ≤ s.size ∧ w' = w.iter s pos ∧ Hid ((s.data.toList.take pos).all isW = true)) (fun w' => s.size - w'.iterPos w.heap.size)
  case atStart => exact ⟨0, Nat.zero_le _, rfl, by show _ = _; simp⟩
  case round =>
    obtain ⟨pos, hpos, rfl, hd⟩ := hrel
    by_cases hp : pos < s.size
    · cases hk : isW s[pos] with
      | true =>
        have hd' := Lib.hid (all_snoc hp hd.out hk)
        have hlow := isW_low hk
        have hrb := Lib.hid ((runeB_byte s[pos]).trans hk)
        clear hd hk
        have hnx : ∀ ty, (Instr.next (.pointer (some ⟨w.heap.size, 0, none⟩)) true ty).run Try.prog (w.iter s pos) = _ := fun ty => run_next_ascii w s pos ty hp hlow
        go_wp2_with fail
        refine (wordRune_any _ _).mono ?_
        rintro e w1 ⟨rfl, rfl⟩
        rw [hrb.out]
        go_wp2
        exact ⟨⟨pos + 1, by omega, rfl, hd'⟩, by simp; omega⟩
      | false =>
        have hn := Lib.hid (all_not hp hk)
        by_cases ha : s[pos].toNat < 128
        · have hrb := Lib.hid ((runeB_byte s[pos]).trans hk)
          clear hd hk
          have hnx : ∀ ty, (Instr.next (.pointer (some ⟨w.heap.size, 0, none⟩)) true ty).run Try.prog (w.iter s pos) = _ := fun ty => run_next_ascii w s pos ty hp ha
          go_wp2_with fail
          refine (wordRune_any _ _).mono ?_
          rintro e w1 ⟨rfl, rfl⟩
          rw [hrb.out]
          go_wp2
          go_ret
          exact ⟨ret_bool (by rw [H.out, hn.out]), below_iter _ _⟩
        · have hh := (decode_high s pos hp (by omega)).1
          have hrb := Lib.hid (runeB_high (r := ((Utf8.decode s pos).1 : Int)) (by omega))
          clear hd hk ha hh
          have hnx : ∀ ty, (Instr.next (.pointer (some ⟨w.heap.size, 0, none⟩)) true ty).run Try.prog (w.iter s pos) = _ := fun ty => run_next_any w s pos ty hp
          go_wp2_with fail
          refine (wordRune_any _ _).mono ?_
          rintro e w1 ⟨rfl, rfl⟩
          rw [hrb.out]
          go_wp2
          go_ret
          exact ⟨ret_bool (by rw [H.out, hn.out]), below_iter _ _⟩
    · have hn : Hid (s.data.toList.all isW = true) := by
        have := hd.out
        rwa [List.take_of_length_le (by rw [size_list]; omega)] at this
      have hnx : ∀ ty, (Instr.next (.pointer (some ⟨w.heap.size, 0, none⟩)) true ty).run Try.prog (w.iter s pos) = _ := fun ty => run_next_end w s pos ty hp
      clear hd
      go_wp2
      go_ret
      exact ⟨ret_bool (by rw [H.out, hn.out]), below_iter _ _⟩
end Go.Proofs.Ytbgfccanbgpjiaa.T
namespace Go.Proofs.Ytbgfccanbgpjiaa.O
open Go.Lib T
theorem emp_iff {s : ByteArray} : emp s = true ↔ s = E0 := by
  unfold emp
  rw [decide_eq_true_iff]
  exact ⟨fun h => ba_ext (by rw [h]; rfl), fun h => by rw [h]; rfl⟩
theorem less_list (x : List UInt8) : ∀ y : List UInt8, Op.bytesLess x y = decide (x < y) := by
  induction x with
  | nil => intro y; cases y <;> simp [Op.bytesLess]
  | cons a x ih =>
    intro y
    cases y with
    | nil => simp [Op.bytesLess]
    | cons b y =>
      rw [Op.bytesLess, ih y, Bool.eq_iff_iff]
      simp only [List.cons_lt_cons_iff, Bool.or_eq_true, Bool.and_eq_true, decide_eq_true_eq, beq_iff_eq]
theorem bytes_total (x y : List UInt8) : x < y ∨ x = y ∨ y < x := by
  by_cases h1 : x < y
  · exact .inl h1
  by_cases h2 : y < x
  · exact .inr (.inr h2)
  exact .inr (.inl (List.le_antisymm (List.not_lt.1 h2) (List.not_lt.1 h1)))
end Go.Proofs.Ytbgfccanbgpjiaa.O
namespace Go.Proofs.Ytbgfccanbgpjiaa.O
open Go.RowKit Go.Lib T
theorem encode_low {r : Int} (h0 : 0 ≤ r) (h : r < 128) : Utf8.encode r = ⟨#[UInt8.ofNat r.toNat]⟩ := by
  have hv : Utf8.valid r = true := by unfold Utf8.valid; simp; omega
  have hc : r.toNat < 128 := by omega
  unfold Utf8.encode
  simp only [hv, if_true, hc]
theorem wordB_one (c : UInt8) : wordB [c] = isW c := by simp [wordB]
theorem isW_high {c : UInt8} (h : 128 ≤ c.toNat) : isW c = false := by
  unfold isW
  simp only [Bool.or_eq_false_iff, Bool.and_eq_false_iff, decide_eq_false_iff_not]
  omega
theorem wordB_high {l : List UInt8} {c : UInt8} (hm : c ∈ l) (hc : 128 ≤ c.toNat) : wordB l = false := by
  unfold wordB
  rw [Bool.and_eq_false_iff]
  exact .inr (List.all_eq_false.2 ⟨c, hm, by rw [isW_high hc]; simp⟩)
theorem encode_high {r : Int} (h : 128 ≤ r) : wordB (Utf8.encode r).data.toList = false := by
  by_cases hv : Utf8.valid r = true
  · obtain ⟨h1, -, h3⟩ := encode_facts r hv h
    have hlt : (Utf8.encode r).size - 1 < (Utf8.encode r).size := by omega
    exact wordB_high (c := (Utf8.encode r)[(Utf8.encode r).size - 1]'hlt) (by rw [← get_list _ _ hlt]; exact List.getElem_mem _) (h3 hlt)
  · have e : Utf8.encode r = ⟨#[239, 191, 189]⟩ := by
      have hv' : Utf8.valid r = false := by simpa using hv
      unfold Utf8.encode
      simp only [hv', Bool.false_eq_true, if_false, Utf8.runeError]
      decide
    rw [e]; rfl
def nrB (r : Int) : Bool := decide (r < 128) && isN (UInt8.ofNat r.toNat)
set_option maxHeartbeats 400000 in
theorem nameRune_any (r : Int) (w : World) (h0 : 0 ≤ r) :
    Calls Try.prog 60 #[.int .i32 r] w fun e w' => e = .returned (.bool (nrB r)) ∧ Below w.heap.size w w' := by
  by_cases hl : r < 128
  · obtain ⟨c, rfl⟩ : ∃ c : UInt8, r = (c.toNat : Int) := ⟨UInt8.ofNat r.toNat, by simp; omega⟩
    have hc : c.toNat < 128 := by omega
    have hN : Hid (nrB (c.toNat : Int) = isN c) := by
      show _ = _
      unfold nrB
      rw [show decide ((c.toNat : Int) < 128) = true by simp; omega]
      simp
    by_cases e46 : c = 46
    · subst e46
      go_enter Try.func60, Try.ntmps60
      go_wp2
      go_ret
      exact ⟨ret_bool (by rw [hN.out]; decide), Below.refl _ _⟩
    by_cases e35 : c = 35
    · subst e35
      go_enter Try.func60, Try.ntmps60
      go_wp2
      go_ret
      exact ⟨ret_bool (by rw [hN.out]; decide), Below.refl _ _⟩
    by_cases e47 : c = 47
    · subst e47
      go_enter Try.func60, Try.ntmps60
      go_wp2
      go_ret
      exact ⟨ret_bool (by rw [hN.out]; decide), Below.refl _ _⟩
    have n46 : ((c.toNat : Int) == 46) = false := by simp only [beq_eq_false_iff_ne]; intro e; exact e46 (UInt8.toNat_inj.1 (by simp; omega))
    have n35 : ((c.toNat : Int) == 35) = false := by simp only [beq_eq_false_iff_ne]; intro e; exact e35 (UInt8.toNat_inj.1 (by simp; omega))
    have n47 : ((c.toNat : Int) == 47) = false := by simp only [beq_eq_false_iff_ne]; intro e; exact e47 (UInt8.toNat_inj.1 (by simp; omega))
    have hE : Hid (wordB (Utf8.encode (c.toNat : Int)).data.toList = isW c) := by
      show _ = _
      rw [encode_low (by omega) hl]
      show wordB [UInt8.ofNat c.toNat] = _
      rw [wordB_one]; simp
    have hF : Hid (isN c = isW c) := by
      show _ = _
      unfold isN
      have : decide (c.toNat = 46) = false ∧ decide (c.toNat = 35) = false ∧ decide (c.toNat = 47) = false := by
        refine ⟨?_, ?_, ?_⟩
        · simp only [beq_eq_false_iff_ne] at n46; simp; omega
        · simp only [beq_eq_false_iff_ne] at n35; simp; omega
        · simp only [beq_eq_false_iff_ne] at n47; simp; omega
      rw [this.1, this.2.1, this.2.2]; simp
    clear e46 e35 e47
    go_enter Try.func60, Try.ntmps60
    go_wp2_with fail
    refine (word_any _ _).mono ?_
    rintro e w1 ⟨rfl, hb⟩
    rw [hE.out]
    go_wp2
    go_ret
    exact ⟨ret_bool (by rw [hN.out, hF.out]), hb⟩
  · have hN : Hid (nrB r = false) := by show _ = _; unfold nrB; rw [show decide (r < 128) = false by simp; omega]; rfl
    have hE := Lib.hid (encode_high (r := r) (by omega))
    have n46 : (r == 46) = false := by simp only [beq_eq_false_iff_ne]; omega
    have n35 : (r == 35) = false := by simp only [beq_eq_false_iff_ne]; omega
    have n47 : (r == 47) = false := by simp only [beq_eq_false_iff_ne]; omega
    clear hl
    go_enter Try.func60, Try.ntmps60
    go_wp2_with fail
    refine (word_any _ _).mono ?_
    rintro e w1 ⟨rfl, hb⟩
    rw [hE.out]
    go_wp2
    go_ret
    exact ⟨ret_bool hN.out.symm, hb⟩
end Go.Proofs.Ytbgfccanbgpjiaa.O
namespace Go.Proofs.Ytbgfccanbgpjiaa.O
open Go.RowKit Go.Lib T
theorem nrB_low {c : UInt8} (h : c.toNat < 128) : nrB (c.toNat : Int) = isN c := by
  unfold nrB
  rw [show decide ((c.toNat : Int) < 128) = true by simp; omega]
  simp
theorem nrB_high {r : Int} (h : 128 ≤ r) : nrB r = false := by
  unfold nrB; rw [show decide (r < 128) = false by simp; omega]; rfl
theorem isN_low {c : UInt8} (h : isN c = true) : c.toNat < 128 := by
  unfold isN at h
  simp only [Bool.or_eq_true, decide_eq_true_eq] at h
  rcases h with h | h | h | h
  · exact isW_low h
  · omega
  · omega
  · omega
theorem isN_high {c : UInt8} (h : 128 ≤ c.toNat) : isN c = false := by
  rw [Bool.eq_false_iff]; intro e; have := isN_low e; omega
theorem allN_snoc {s : ByteArray} {k : Nat} (h : k < s.size) (hd : (s.data.toList.take k).all isN = true) (hk : isN s[k] = true) : (s.data.toList.take (k + 1)).all isN = true := by
  rw [take_snoc s k h, List.all_append, hd]; simp [hk]
theorem allN_not {s : ByteArray} {k : Nat} (h : k < s.size) (hk : isN s[k] = false) : s.data.toList.all isN = false := by
  rw [List.all_eq_false]
  exact ⟨s[k], by rw [← get_list s k h]; exact List.getElem_mem _, by simp [hk]⟩
theorem nameB_mid {s : ByteArray} (h1 : 1 ≤ s.size) (h2 : s.size ≤ 40) : nameB s.data.toList = s.data.toList.all isN := by
  unfold nameB
  simp only [size_list]
  rw [show decide (1 ≤ s.size) = true by simp; omega, show decide (s.size ≤ 40) = true by simp; omega]
  rfl
theorem nameB_off {s : ByteArray} (h : s.size < 1 ∨ 40 < s.size) : nameB s.data.toList = false := by
  unfold nameB; simp only [size_list, Bool.and_eq_false_iff, decide_eq_false_iff_not]; omega
theorem nameB_not {s : ByteArray} (h : s.data.toList.all isN = false) : nameB s.data.toList = false := by
  unfold nameB; rw [h]; simp
theorem below_iterAt {w wr : World} {s : ByteArray} {p : Nat} (h : Below w.heap.size w wr) : Below w.heap.size w (wr.iterAt w.heap.size s p) :=
  h.grown (row := some w.heap.size) ⟨rfl, rfl, rfl, by rw [iterAt_size]; exact Nat.le_refl _, fun j _ hj => iterAt_other wr w.heap.size j s p (fun e => hj (by rw [e]))⟩ h.size (fun k hk => by cases hk; exact Nat.le_refl _)
set_option maxHeartbeats 400000 in
theorem name_any (s : ByteArray) (w : World) :
    Calls Try.prog 39 #[.string s] w fun e w' => e = .returned (.bool (nameB s.data.toList)) ∧ Below w.heap.size w w' := by
  by_cases h1 : s.size < 1
  · have H := Lib.hid (nameB_off (.inl h1))
    go_enter Try.func39, Try.ntmps39
    go_wp2
    go_ret
    exact ⟨ret_bool H.out.symm, Below.refl _ _⟩
  by_cases h2 : 40 < s.size
  · have H := Lib.hid (nameB_off (.inr h2))
    go_enter Try.func39, Try.ntmps39
    go_wp2
    go_ret
    exact ⟨ret_bool H.out.symm, Below.refl _ _⟩
  have H := Lib.hid (nameB_mid (s := s) (by omega) (by omega))
  have g1 : 1 ≤ s.size := by omega
  have g2 : s.size ≤ 40 := by omega
  clear h1 h2
  go_enter Try.func39, Try.ntmps39
  go_wp2
  go_loopw [] (fun w' => ∃ pos : Nat, pos ≤ s.size ∧ Below w.heap.size w w' ∧ w'.heap[w.heap.size]? = some (.stringIter s pos) ∧ Hid ((s.data.toList.take pos).all isN = true)) (fun w' => s.size - w'.iterPos w.heap.size)
  case atStart => exact ⟨0, Nat.zero_le _, below_iter _ _, World.iter_heap w s 0, by show _ = _; simp⟩
  case round =>
    obtain ⟨pos, hpos, hbw, hit, hd⟩ := hrel
    rename_i wr
    by_cases hp : pos < s.size
    · have hbi : Below w.heap.size w (wr.iterAt w.heap.size s (pos + (Utf8.decode s pos).2)) := below_iterAt hbw
      have hii := iterAt_heap wr w.heap.size s pos (pos + (Utf8.decode s pos).2) hit
      have hwd := decode_width_pos s pos hp
      have hle : pos + (Utf8.decode s pos).2 ≤ s.size := by
        by_cases ha : s[pos].toNat < 128
        · rw [decode_ascii s pos hp ha]; omega
        · exact (high_step s pos hp (by omega)).1
      have hr0 : (0 : Int) ≤ ((Utf8.decode s pos).1 : Int) := by omega
      have hnx : ∀ ty, (Instr.next (.pointer (some ⟨w.heap.size, 0, none⟩)) true ty).run Try.prog wr = _ := fun ty => run_next_any_at wr w.heap.size s pos ty hit hp
      have hpr : wr.iterPos w.heap.size = pos := by simp [World.iterPos, hit]
      cases hk : nrB ((Utf8.decode s pos).1 : Int) with
      | true =>
        have hlow : s[pos].toNat < 128 := by
          rcases Nat.lt_or_ge s[pos].toNat 128 with h | h
          · exact h
          · have h3 := (decode_high s pos hp (by omega)).1
            rw [nrB_high (by omega)] at hk; cases hk
        have hd' : Hid ((s.data.toList.take (pos + (Utf8.decode s pos).2)).all isN = true) := by
          show _ = _
          rw [decode_ascii s pos hp hlow] at hk ⊢
          exact allN_snoc hp hd.out (by rw [← nrB_low hlow]; exact hk)
        have HK := Lib.hid hk
        have HII := Lib.hid hii
        have HPR := Lib.hid hpr
        clear hd hk hii hlow hpr hit
        go_wp2_with fail
        refine (nameRune_any _ _ hr0).mono ?_
        rintro e w1 ⟨rfl, hb1⟩
        rw [HK.out]
        have hb2 := hbi.trans (hb1.mono hbi.size)
        have hlt : w.heap.size < (wr.iterAt w.heap.size s (pos + (Utf8.decode s pos).2)).heap.size := (Array.getElem?_eq_some_iff.1 HII.out).1
        have hi1 := Lib.hid ((hb1.block w.heap.size hlt).trans HII.out)
        have hp1 : Hid (w1.iterPos w.heap.size = pos + (Utf8.decode s pos).2) := by show _ = _; simp [World.iterPos, hi1.out]
        clear hb1 hlt hbi
        go_wp2
        exact ⟨⟨_, hle, hb2, hi1.out, hd'⟩, by rw [hp1.out, HPR.out]; omega⟩
      | false =>
        have hn : Hid (nameB s.data.toList = false) := by
          show _ = _
          refine nameB_not (allN_not hp ?_)
          by_cases ha : s[pos].toNat < 128
          · rw [decode_ascii s pos hp ha] at hk
            rw [← nrB_low ha]; exact hk
          · exact isN_high (by omega)
        have HK := Lib.hid hk
        clear hd hk hii hpr hit
        go_wp2_with fail
        refine (nameRune_any _ _ hr0).mono ?_
        rintro e w1 ⟨rfl, hb1⟩
        rw [HK.out]
        have hb2 := hbi.trans (hb1.mono hbi.size)
        clear hb1 hbi
        go_wp2
        go_ret
        exact ⟨ret_bool hn.out.symm, hb2⟩
    · have hn : Hid (s.data.toList.all isN = true) := by
        have := hd.out
        rwa [List.take_of_length_le (by rw [size_list]; omega)] at this
      have hnx : ∀ ty, (Instr.next (.pointer (some ⟨w.heap.size, 0, none⟩)) true ty).run Try.prog wr = _ := fun ty => run_next_end_at wr w.heap.size s pos ty hit hp
      clear hd hit
      go_wp2
      go_ret
      exact ⟨ret_bool (by rw [H.out, hn.out]), hbw⟩
end Go.Proofs.Ytbgfccanbgpjiaa.O
set_option linter.unusedSectionVars false
namespace Go.KM
open Go Go.RowKit
section plain
variable {κ V : Type} [DecidableEq κ]
def get (x : κ) : List (κ × V) → Option V
  | [] => none
  | p :: r => if x = p.1 then some p.2 else get x r
def put (x : κ) (v : V) : List (κ × V) → List (κ × V)
  | [] => [(x, v)]
  | p :: r => if x = p.1 then (x, v) :: r else p :: put x v r
def del (x : κ) : List (κ × V) → List (κ × V)
  | [] => []
  | p :: r => if x = p.1 then r else p :: del x r
def seek (x : κ) : List (κ × V) → Nat → Option (Nat × V)
  | [], _ => none
  | p :: r, i => if x = p.1 then some (i, p.2) else seek x r (i + 1)
def Once (m : List (κ × V)) : Prop := (m.map (·.1)).Nodup
theorem get_put (x y : κ) (v : V) : ∀ m : List (κ × V), get y (put x v m) = if y = x then some v else get y m
  | [] => by simp [put, get]
  | p :: r => by
    by_cases h : x = p.1
    · by_cases h2 : y = x <;> simp_all [put, get]
    · by_cases h2 : y = p.1
      · have h3 : y ≠ x := fun e => h (e ▸ h2)
        simp [put, get, h, h2]
        intro h4
        exact absurd (h4.symm ▸ rfl : x = p.1) h
      · simp [put, get, h, h2, get_put x y v r]
theorem get_mem {x : κ} {v : V} : ∀ {m : List (κ × V)}, get x m = some v → (x, v) ∈ m
  | p :: r, h => by
    unfold get at h
    split at h
    · rename_i e
      cases h
      subst e
      exact .head _
    · exact .tail _ (get_mem h)
theorem get_none_iff {x : κ} : ∀ {m : List (κ × V)}, get x m = none ↔ x ∉ m.map (·.1)
  | [] => by simp [get]
  | p :: r => by
    by_cases h : x = p.1
    · simp [get, h]
    · simp [get, h, get_none_iff (m := r)]
theorem put_keys (x : κ) (v : V) : ∀ m : List (κ × V), ∀ y, y ∈ (put x v m).map (·.1) ↔ y = x ∨ y ∈ m.map (·.1)
  | [], y => by simp [put]
  | p :: r, y => by
    by_cases h : x = p.1
    · simp [put, h]
    · have := put_keys x v r y
      simp only [put, h, if_false, List.map_cons, List.mem_cons, this]
      constructor
      · rintro (h | h | h)
        · exact .inr (.inl h)
        · exact .inl h
        · exact .inr (.inr h)
      · rintro (h | h | h)
        · exact .inr (.inl h)
        · exact .inl h
        · exact .inr (.inr h)
theorem Once.put {x : κ} {v : V} : ∀ {m : List (κ × V)}, Once m → Once (put x v m)
  | [], _ => by simp [KM.put, Once]
  | p :: r, h => by
    obtain ⟨h1, h2⟩ := List.nodup_cons.1 (show (p.1 :: r.map (·.1)).Nodup from h)
    by_cases hx : x = p.1
    · simp only [KM.put, hx, if_true]
      exact List.nodup_cons.2 ⟨h1, h2⟩
    · simp only [KM.put, hx, if_false]
      refine List.nodup_cons.2 ⟨fun hm => ?_, Once.put (m := r) h2⟩
      rcases (put_keys x v r p.1).1 hm with e | e
      · exact hx e.symm
      · exact h1 e
theorem del_keys (x : κ) : ∀ m : List (κ × V), ∀ y, y ∈ (del x m).map (·.1) → y ∈ m.map (·.1)
  | [], y, h => h
  | p :: r, y, h => by
    by_cases hx : x = p.1
    · simp only [del, hx, if_true] at h
      exact .tail _ h
    · simp only [del, hx, if_false] at h
      rcases List.mem_cons.1 h with e | e
      · exact e ▸ .head _
      · exact .tail _ (del_keys x r y e)
theorem Once.del {x : κ} : ∀ {m : List (κ × V)}, Once m → Once (del x m)
  | [], h => h
  | p :: r, h => by
    obtain ⟨h1, h2⟩ := List.nodup_cons.1 (show (p.1 :: r.map (·.1)).Nodup from h)
    by_cases hx : x = p.1
    · simp only [KM.del, hx, if_true]
      exact h2
    · simp only [KM.del, hx, if_false]
      exact List.nodup_cons.2 ⟨fun hm => h1 (del_keys x r p.1 hm), Once.del (m := r) h2⟩
theorem get_del {x : κ} (y : κ) : ∀ {m : List (κ × V)}, Once m → get y (KM.del x m) = if y = x then none else get y m
  | [], _ => by simp [KM.del, get]
  | p :: r, h => by
    obtain ⟨h1, h2⟩ := List.nodup_cons.1 (show (p.1 :: r.map (·.1)).Nodup from h)
    by_cases hx : x = p.1
    · simp only [KM.del, hx, if_true]
      by_cases hy : y = p.1
      · simp only [hy, if_true]
        exact get_none_iff.2 h1
      · simp [get, hy]
    · simp only [KM.del, hx, if_false]
      by_cases hy : y = p.1
      · have : y ≠ x := fun e => hx (e ▸ hy)
        simp only [get, hy, if_true]
        rw [if_neg (fun e => hx e.symm)]
      · simp only [get, hy, if_false]
        exact get_del y (m := r) h2
theorem seek_get (x : κ) : ∀ (m : List (κ × V)) (i : Nat), (seek x m i).map (·.2) = get x m
  | [], _ => rfl
  | p :: r, i => by
    by_cases h : x = p.1
    · simp [seek, get, h]
    · simp only [seek, get, h, if_false]
      exact seek_get x r (i + 1)
end plain
structure KeyT (P : Program) (kt : TypeId) {κ : Type} [DecidableEq κ] (enc : κ → Value) : Prop where
  check : ∀ (em : Bool) (w : World) (x : κ), (Instr.checkKey em 10000 kt (enc x)).run P w = .ok () w
  eq : ∀ (w : World) (x y : κ), (Op.equal kt (enc x) (enc y)).run P w = .ok (decide (x = y)) w
  now : ∃ fs, P.underlying kt = some (.struct fs)
  stays : ∀ x, Instr.sameBits 10000 (enc x) (enc x) = true
section
variable {P : Program} {kt : TypeId} {κ : Type} [DecidableEq κ] {enc : κ → Value}
def Holds (enc : κ → Value) (es : List MapEntry) (m : List (κ × Value)) : Prop := es.map (fun e => (e.key, e.val)) = m.map (fun p => (enc p.1, p.2))
theorem Holds.cons {e : MapEntry} {es : List MapEntry} {p : κ × Value} {m : List (κ × Value)} : Holds enc (e :: es) (p :: m) ↔ (e.key = enc p.1 ∧ e.val = p.2) ∧ Holds enc es m := by
  unfold Holds
  simp
theorem Holds.nil {m : List (κ × Value)} (h : Holds enc [] m) : m = [] := by
  cases m with
  | nil => rfl
  | cons p r => unfold Holds at h; simp at h
theorem Holds.cons_inv {e : MapEntry} {es : List MapEntry} {m : List (κ × Value)} (h : Holds enc (e :: es) m) : ∃ p r, m = p :: r ∧ (e.key = enc p.1 ∧ e.val = p.2) ∧ Holds enc es r := by
  cases m with
  | nil => unfold Holds at h; simp at h
  | cons p r => exact ⟨p, r, rfl, Holds.cons.1 h⟩
theorem Holds.length {es : List MapEntry} {m : List (κ × Value)} (h : Holds enc es m) : es.length = m.length := by
  have := congrArg List.length h
  simpa using this
theorem run_asking (K : KeyT P kt enc) (x : κ) (w : World) : ∀ (es : List MapEntry) (m : List (κ × Value)) (i : Nat), Holds enc es m → (Instr.findAsking kt (enc x) es i).run P w = .ok (seek x m i) w
  | [], m, i, h => by
    rw [h.nil]
    rfl
  | e :: es, m, i, h => by
    obtain ⟨p, r, rfl, ⟨h1, h2⟩, h3⟩ := h.cons_inv
    unfold Instr.findAsking
    simp only [Sem.run_bind, h1, K.eq, Result.andThen]
    by_cases hx : x = p.1
    · simp [hx, seek, h2]
    · simp only [hx, decide_false, Bool.false_eq_true, if_false, seek]
      exact run_asking K x w es r (i + 1) h3
theorem run_find (K : KeyT P kt enc) (x : κ) (w : World) {es : List MapEntry} {m : List (κ × Value)} (h : Holds enc es m) : (Instr.findKey kt (enc x) es).run P w = .ok (seek x m 0) w := by
  obtain ⟨fs, hf⟩ := K.now
  cases es with
  | nil =>
    rw [h.nil]
    simp [Instr.findKey, run_underlying hf, Result.andThen, Instr.findNow, seek]
  | cons e es =>
    have : Instr.findNow (.struct fs) (enc x) (e :: es) 0 = none := by
      unfold Instr.findNow Instr.sameNow
      rfl
    simp only [Instr.findKey, Sem.run_bind, run_underlying hf, Result.andThen, this]
    exact run_asking K x w _ m 0 h
def IsMap (enc : κ → Value) (W : World) (b : Nat) (m : List (κ × Value)) : Prop := ∃ es clock, W.heap[b]? = some (.map es clock) ∧ Holds enc es.toList m
theorem IsMap.lt {W : World} {b : Nat} {m : List (κ × Value)} (h : IsMap enc W b m) : b < W.heap.size := by
  obtain ⟨es, clock, hb, -⟩ := h
  exact (Array.getElem?_eq_some_iff.1 hb).1
theorem IsMap.of_heap {W W' : World} {b : Nat} {m : List (κ × Value)} (h : IsMap enc W b m) (he : W'.heap[b]? = W.heap[b]?) : IsMap enc W' b m := by
  obtain ⟨es, clock, hb, hh⟩ := h
  exact ⟨es, clock, he.trans hb, hh⟩
theorem IsMap.after {W W' : World} {b : Nat} {m : List (κ × Value)} (h : IsMap enc W b m) (hb : Below W.heap.size W W') : IsMap enc W' b m := h.of_heap (hb.block b h.lt)
structure Turned (w w' : World) (b : Nat) : Prop where
  os : w'.os = w.os
  tape : w'.tape = w.tape
  output : w'.output = w.output
  size : w'.heap.size = w.heap.size
  block : ∀ k, k ≠ b → w'.heap[k]? = w.heap[k]?
theorem Turned.below {w w' : World} {b B : Nat} (h : Turned w w' b) (hB : B ≤ b) : Below B w w' := ⟨h.os, h.tape, h.output, by rw [h.size]; exact Nat.le_refl _, fun k hk => h.block k (by omega)⟩
theorem turned_set {w : World} {b : Nat} {es : Array MapEntry} {clock : Nat} (hb : w.heap[b]? = some (.map es clock)) (o : Obj) : Turned w { w with heap := w.heap.setIfInBounds b o } b :=
  ⟨rfl, rfl, rfl, by simp, (MapKept.heap_set hb).2⟩
variable {t e : TypeId} {b : Nat} {m : List (κ × Value)} {w : World}
theorem run_lookup_ok (K : KeyT P kt enc) (ht : P.underlying t = some (.map kt e)) (h : IsMap enc w b m) (x : κ) {v : Value} (hv : get x m = some v) : (Instr.lookup t (.map (some b)) (enc x) true).run P w = .ok (.tuple #[v, .bool true]) w := by
  obtain ⟨es, clock, hb, hh⟩ := h
  have hs := seek_get x m 0
  rw [hv] at hs
  obtain ⟨⟨j, u⟩, hj, rfl⟩ := Option.map_eq_some_iff.1 hs
  simp [Instr.lookup, run_underlying ht, MapKept.run_getObj_map hb, K.check, run_find K x w hh, hj, Result.andThen]
theorem run_lookup_no (K : KeyT P kt enc) (ht : P.underlying t = some (.map kt e)) {z : Value} (hz : (zeroValue e).run P w = .ok z w) (h : IsMap enc w b m) (x : κ) (hv : get x m = none) : (Instr.lookup t (.map (some b)) (enc x) true).run P w = .ok (.tuple #[z, .bool false]) w := by
  obtain ⟨es, clock, hb, hh⟩ := h
  have hs := seek_get x m 0
  rw [hv] at hs
  have hj := Option.map_eq_none_iff.1 hs
  simp [Instr.lookup, run_underlying ht, MapKept.run_getObj_map hb, K.check, run_find K x w hh, hj, hz, Result.andThen]
theorem run_lookup1_ok (K : KeyT P kt enc) (ht : P.underlying t = some (.map kt e)) (h : IsMap enc w b m) (x : κ) {v : Value} (hv : get x m = some v) : (Instr.lookup t (.map (some b)) (enc x) false).run P w = .ok v w := by
  obtain ⟨es, clock, hb, hh⟩ := h
  have hs := seek_get x m 0
  rw [hv] at hs
  obtain ⟨⟨j, u⟩, hj, rfl⟩ := Option.map_eq_some_iff.1 hs
  simp [Instr.lookup, run_underlying ht, MapKept.run_getObj_map hb, K.check, run_find K x w hh, hj, Result.andThen]
theorem run_lookup1_no (K : KeyT P kt enc) (ht : P.underlying t = some (.map kt e)) {z : Value} (hz : (zeroValue e).run P w = .ok z w) (h : IsMap enc w b m) (x : κ) (hv : get x m = none) : (Instr.lookup t (.map (some b)) (enc x) false).run P w = .ok z w := by
  obtain ⟨es, clock, hb, hh⟩ := h
  have hs := seek_get x m 0
  rw [hv] at hs
  have hj := Option.map_eq_none_iff.1 hs
  simp [Instr.lookup, run_underlying ht, MapKept.run_getObj_map hb, K.check, run_find K x w hh, hj, hz, Result.andThen]
theorem seek_some {x : κ} {v : Value} : ∀ {m : List (κ × Value)} {i j : Nat} {u : Value}, seek x m i = some (j, u) → ∀ {es : List MapEntry}, Holds enc es m →
    ∃ n, j = i + n ∧ n < es.length ∧ (∃ e, es[n]? = some e ∧ e.key = enc x) ∧ (∀ e : MapEntry, e.key = enc x → e.val = v → Holds enc (es.modify n fun _ => e) (put x v m)) ∧ Holds enc (es.eraseIdx n) (del x m)
  | [], i, j, u, h, es, hh => by cases h
  | p :: r, i, j, u, h, es, hh => by
    cases es with
    | nil => exact absurd hh.nil (by simp)
    | cons e es =>
      obtain ⟨⟨h1, h2⟩, h3⟩ := Holds.cons.1 hh
      unfold seek at h
      split at h
      · rename_i hx
        cases h
        refine ⟨0, rfl, by simp, ⟨e, rfl, by rw [h1, hx]⟩, fun e' k1 k2 => ?_, ?_⟩
        · simp only [List.modify_zero_cons, put, hx, if_true]
          exact Holds.cons.2 ⟨⟨by rw [k1, hx], k2⟩, h3⟩
        · simp only [List.eraseIdx_zero, List.tail_cons, del, hx, if_true]
          exact h3
      · rename_i hx
        obtain ⟨n, q1, q2, ⟨e0, q3, q4⟩, q5, q6⟩ := seek_some (v := v) h h3
        refine ⟨n + 1, by omega, by simpa using q2, ⟨e0, by simpa using q3, q4⟩, fun e' k1 k2 => ?_, ?_⟩
        · simp only [List.modify_succ_cons, put, hx, if_false]
          exact Holds.cons.2 ⟨⟨h1, h2⟩, q5 e' k1 k2⟩
        · simp only [List.eraseIdx_cons_succ, del, hx, if_false]
          exact Holds.cons.2 ⟨⟨h1, h2⟩, q6⟩
theorem seek_none {x : κ} {v : Value} : ∀ {m : List (κ × Value)} {i : Nat}, seek x m i = none → put x v m = m ++ [(x, v)] ∧ del x m = m
  | [], _, _ => ⟨rfl, rfl⟩
  | p :: r, i, h => by
    unfold seek at h
    split at h
    · cases h
    · rename_i hx
      obtain ⟨h1, h2⟩ := seek_none (v := v) h
      simp [put, del, hx, h1, h2]
theorem run_update (K : KeyT P kt enc) (ht : P.underlying t = some (.map kt e)) (h : IsMap enc w b m) (x : κ) (v : Value) : ∃ w', (Instr.mapUpdate t (.map (some b)) (enc x) v).run P w = .ok () w' ∧ IsMap enc w' b (put x v m) ∧ Turned w w' b := by
  obtain ⟨es, clock, hb, hh⟩ := h
  have hf := run_find K x w hh
  cases hs : seek x m 0 with
  | none =>
    rw [hs] at hf
    refine ⟨_, by simp [Instr.mapUpdate, run_underlying ht, MapKept.run_getObj_map hb, K.check, hf, MapKept.run_setObj_map _ hb, Result.andThen]; rfl, ⟨_, _, (MapKept.heap_set hb).1, ?_⟩, turned_set hb _⟩
    rw [(seek_none (v := v) hs).1]
    unfold Holds at hh ⊢
    simp [hh]
  | some q =>
    obtain ⟨j, u⟩ := q
    rw [hs] at hf
    obtain ⟨n, q1, q2, ⟨e0, q3, q4⟩, q5, -⟩ := seek_some (v := v) hs hh
    have hjn : j = n := by omega
    subst hjn
    have hget : es[j]? = some e0 := by simpa using q3
    have hst : (Instr.keyThatStays (enc x) (enc x)).run P w = .ok (enc x) w := by
      unfold Instr.keyThatStays
      rw [if_pos (K.stays x)]
      rfl
    refine ⟨_, by simp [Instr.mapUpdate, run_underlying ht, MapKept.run_getObj_map hb, K.check, hf, hget, q4, hst, MapKept.run_setObj_map _ hb, Result.andThen]; rfl, ⟨_, _, (MapKept.heap_set hb).1, ?_⟩, turned_set hb _⟩
    have := q5 { e0 with key := enc x, val := v } rfl rfl
    unfold Holds at this ⊢
    rw [← this]
    congr 1
    apply List.ext_getElem?
    intro i
    simp only [Array.toList_modify, List.getElem?_modify]
    by_cases hi : j = i
    · subst hi
      simp [hget]
    · simp [hi]
theorem isMap_new (w : World) : IsMap enc (w.alloc (.map #[] 0)) w.heap.size [] := ⟨#[], 0, (MapKept.heap_alloc w _).1, rfl⟩
end
end Go.KM
namespace Go.KeyS
open Go KM
structure Key (P : Program) (kt : TypeId) {κ : Type} [DecidableEq κ] (enc : κ → Value) : Prop where
  check : ∀ (em : Bool) (w : World) (x : κ), (Instr.checkKey em 10000 kt (enc x)).run P w = .ok () w
  find : ∀ (x : κ) (w : World) (es : List MapEntry) (m : List (κ × Value)), KM.Holds enc es m → (Instr.findKey kt (enc x) es).run P w = .ok (seek x m 0) w
  stays : ∀ x, Instr.sameBits 10000 (enc x) (enc x) = true
variable {P : Program} {kt : TypeId} {κ : Type} [DecidableEq κ] {enc : κ → Value}
variable {t e : TypeId} {b : Nat} {m : List (κ × Value)} {w : World}
theorem run_lookup_ok (K : Key P kt enc) (ht : P.underlying t = some (.map kt e)) (h : IsMap enc w b m) (x : κ) {v : Value} (hv : get x m = some v) : (Instr.lookup t (.map (some b)) (enc x) true).run P w = .ok (.tuple #[v, .bool true]) w := by
  obtain ⟨es, clock, hb, hh⟩ := h
  have hs := seek_get x m 0
  rw [hv] at hs
  obtain ⟨⟨j, u⟩, hj, rfl⟩ := Option.map_eq_some_iff.1 hs
  simp [Instr.lookup, run_underlying ht, MapKept.run_getObj_map hb, K.check, K.find x w _ _ hh, hj, Result.andThen]
theorem run_lookup_no (K : Key P kt enc) (ht : P.underlying t = some (.map kt e)) {z : Value} (hz : (zeroValue e).run P w = .ok z w) (h : IsMap enc w b m) (x : κ) (hv : get x m = none) : (Instr.lookup t (.map (some b)) (enc x) true).run P w = .ok (.tuple #[z, .bool false]) w := by
  obtain ⟨es, clock, hb, hh⟩ := h
  have hs := seek_get x m 0
  rw [hv] at hs
  have hj := Option.map_eq_none_iff.1 hs
  simp [Instr.lookup, run_underlying ht, MapKept.run_getObj_map hb, K.check, K.find x w _ _ hh, hj, hz, Result.andThen]
theorem run_lookup1_ok (K : Key P kt enc) (ht : P.underlying t = some (.map kt e)) (h : IsMap enc w b m) (x : κ) {v : Value} (hv : get x m = some v) : (Instr.lookup t (.map (some b)) (enc x) false).run P w = .ok v w := by
  obtain ⟨es, clock, hb, hh⟩ := h
  have hs := seek_get x m 0
  rw [hv] at hs
  obtain ⟨⟨j, u⟩, hj, rfl⟩ := Option.map_eq_some_iff.1 hs
  simp [Instr.lookup, run_underlying ht, MapKept.run_getObj_map hb, K.check, K.find x w _ _ hh, hj, Result.andThen]
theorem run_lookup1_no (K : Key P kt enc) (ht : P.underlying t = some (.map kt e)) {z : Value} (hz : (zeroValue e).run P w = .ok z w) (h : IsMap enc w b m) (x : κ) (hv : get x m = none) : (Instr.lookup t (.map (some b)) (enc x) false).run P w = .ok z w := by
  obtain ⟨es, clock, hb, hh⟩ := h
  have hs := seek_get x m 0
  rw [hv] at hs
  have hj := Option.map_eq_none_iff.1 hs
  simp [Instr.lookup, run_underlying ht, MapKept.run_getObj_map hb, K.check, K.find x w _ _ hh, hj, hz, Result.andThen]
theorem run_update (K : Key P kt enc) (ht : P.underlying t = some (.map kt e)) (h : IsMap enc w b m) (x : κ) (v : Value) : ∃ w', (Instr.mapUpdate t (.map (some b)) (enc x) v).run P w = .ok () w' ∧ IsMap enc w' b (put x v m) ∧ Turned w w' b := by
  obtain ⟨es, clock, hb, hh⟩ := h
  have hf := K.find x w _ _ hh
  cases hs : seek x m 0 with
  | none =>
    rw [hs] at hf
    refine ⟨_, by simp [Instr.mapUpdate, run_underlying ht, MapKept.run_getObj_map hb, K.check, hf, MapKept.run_setObj_map _ hb, Result.andThen]; rfl, ⟨_, _, (MapKept.heap_set hb).1, ?_⟩, turned_set hb _⟩
    rw [(seek_none (v := v) hs).1]
    unfold Holds at hh ⊢
    simp [hh]
  | some q =>
    obtain ⟨j, u⟩ := q
    rw [hs] at hf
    obtain ⟨n, q1, q2, ⟨e0, q3, q4⟩, q5, -⟩ := seek_some (v := v) hs hh
    have hjn : j = n := by omega
    subst hjn
    have hget : es[j]? = some e0 := by simpa using q3
    have hst : (Instr.keyThatStays (enc x) (enc x)).run P w = .ok (enc x) w := by
      unfold Instr.keyThatStays
      rw [if_pos (K.stays x)]
      rfl
    refine ⟨_, by simp [Instr.mapUpdate, run_underlying ht, MapKept.run_getObj_map hb, K.check, hf, hget, q4, hst, MapKept.run_setObj_map _ hb, Result.andThen]; rfl, ⟨_, _, (MapKept.heap_set hb).1, ?_⟩, turned_set hb _⟩
    have := q5 { e0 with key := enc x, val := v } rfl rfl
    unfold Holds at this ⊢
    rw [← this]
    congr 1
    apply List.ext_getElem?
    intro i
    simp only [Array.toList_modify, List.getElem?_modify]
    by_cases hi : j = i
    · subst hi
      simp [hget]
    · simp [hi]
theorem beq_ba (a b : ByteArray) : (a == b) = decide (a = b) := by
  rw [beq_toListBytes, Bool.eq_iff_iff, beq_iff_eq, decide_eq_true_eq, Lib.toList_data, Lib.toList_data]
  exact ⟨fun h => ByteArray.ext (Array.ext' h), fun h => by rw [h]⟩
theorem find_now (x : ByteArray) : ∀ (es : List MapEntry) (m : List (ByteArray × Value)) (i : Nat), KM.Holds (fun s : ByteArray => Value.string s) es m → Instr.findNow .string (.string x) es i = some (seek x m i)
  | [], m, i, h => by
    rw [h.nil]
    rfl
  | e :: es, m, i, h => by
    obtain ⟨p, r, rfl, ⟨h1, h2⟩, h3⟩ := h.cons_inv
    unfold Instr.findNow
    have ih := find_now x es r (i + 1) h3
    by_cases hx : x = p.1
    · simp [h1, Instr.sameNow, hx, seek, h2, beq_ba]
    · simp [h1, Instr.sameNow, hx, seek, ih, beq_ba]
end Go.KeyS
namespace Go.HeldBy
open Go
section
variable {P : Program} {ops : Array Oper} {Q : Exit → Act → World → Prop} {md : Region.Mode} {S : World → Prop}
theorem take {i : Nat} {oi : Oper} {v : Value} {fuel : Nat} {listed : Array Bool} {a a' : Act} {w : World} (hi : ops[i]? = some oi) (hs : Region.noSelect ops = true) (hf : Region.free md ops listed i = true)
    (hr : (Region.ready md ops listed).contains i = true) (hQ : ∀ c a w, Q (.panic c) (a.put oi.dst v) w → Q (.panic c) a w) (hw : Region.wanted oi (yielded ops a.tmps) = true)
    (hv : ∀ w, S w → (execOp a.eval oi).run P w = .ok (.value v) w) (he : a.put oi.dst v = a') (hS : S w) (h : wpAnyH P md ops Q S fuel (listed.setIfInBounds i true) a' w) : wpAnyH P md ops Q S (fuel + 1) listed a w :=
  wpAnyH_take hi hs hf hr hQ (.inl ⟨hw, hv⟩) hS (he ▸ h)
theorem skip {i : Nat} {oi : Oper} {fuel : Nat} {listed : Array Bool} {a a' : Act} {w : World} (hi : ops[i]? = some oi) (hs : Region.noSelect ops = true) (hf : Region.free md ops listed i = true)
    (hr : (Region.ready md ops listed).contains i = true) (hQ : ∀ c a w, Q (.panic c) (a.put oi.dst undef) w → Q (.panic c) a w) (hw : Region.wanted oi (yielded ops a.tmps) = false)
    (he : a.put oi.dst undef = a') (hS : S w) (h : wpAnyH P md ops Q S fuel (listed.setIfInBounds i true) a' w) : wpAnyH P md ops Q S (fuel + 1) listed a w :=
  wpAnyH_take hi hs hf hr hQ (.inr ⟨hw, rfl⟩) hS (he ▸ h)
theorem value {i : Nat} {oi : Oper} {v : Value} {fuel : Nat} {listed : Array Bool} {a a' : Act} {w w' : World} (hi : ops[i]? = some oi) (hr : Region.ready md ops listed = [i]) (hw : Region.wanted oi (yielded ops a.tmps) = true)
    (hv : (execOp a.eval oi).run P w = .ok (.value v) w') (he : a.put oi.dst v = a') (hS : S w') (h : wpAnyH P md ops Q S fuel (listed.setIfInBounds i true) a' w') : wpAnyH P md ops Q S (fuel + 1) listed a w := by
  refine wpAnyH_all hr (by simp) fun j hj => ?_
  obtain rfl : j = i := by simpa using hj
  unfold wpOp
  simp only [hi, hw, if_true]
  refine .inl ?_
  unfold Oper.wp
  rw [hv]
  exact ⟨hS, he ▸ h⟩
theorem store {i : Nat} {oi : Oper} {fuel : Nat} {listed : Array Bool} {a a' : Act} {w w' : World} (hi : ops[i]? = some oi) (hr : Region.ready md ops listed = [i]) (hw : Region.wanted oi (yielded ops a.tmps) = true)
    (hv : (execOp a.eval oi).run P w = .ok .skip w') (he : a.put oi.dst undef = a') (hS : S w') (h : wpAnyH P md ops Q S fuel (listed.setIfInBounds i true) a' w') : wpAnyH P md ops Q S (fuel + 1) listed a w := by
  refine wpAnyH_all hr (by simp) fun j hj => ?_
  obtain rfl : j = i := by simpa using hj
  unfold wpOp
  simp only [hi, hw, if_true]
  refine .inl ?_
  unfold Oper.wp
  rw [hv]
  exact ⟨hS, he ▸ h⟩
theorem call {i : Nat} {oi : Oper} {v : Value} {f : FuncId} {args : Array Value} {fuel : Nat} {listed : Array Bool} {a a' : Act} {w : World} (hi : ops[i]? = some oi) (hr : Region.ready md ops listed = [i]) (hw : Region.wanted oi (yielded ops a.tmps) = true)
    (hv : (execOp a.eval oi).run P w = .ok (.enter f args) w) (he : a.put oi.dst v = a')
    (h : Calls P f args w fun e w' => e = .returned v ∧ S w' ∧ wpAnyH P md ops Q S fuel (listed.setIfInBounds i true) a' w') : wpAnyH P md ops Q S (fuel + 1) listed a w := by
  refine wpAnyH_all hr (by simp) fun j hj => ?_
  obtain rfl : j = i := by simpa using hj
  unfold wpOp
  simp only [hi, hw, if_true]
  refine .inl ?_
  unfold Oper.wp
  rw [hv]
  exact h.mono fun e w' ⟨h1, h2, h3⟩ => by subst h1; exact ⟨h2, he ▸ h3⟩
theorem gen {fuel : Nat} {listed : Array Bool} {a : Act} {w : World} (F : World → Prop) (hF : F w) (h : ∀ w1, F w1 → wpAnyH P md ops Q S fuel listed a w1) : wpAnyH P md ops Q S fuel listed a w := h w hF
end
end Go.HeldBy
namespace Go.HeldBy
open Go

section
variable {P : Program} {ops : Array Oper} {Q : Exit → Act → World → Prop} {md : Region.Mode} {S : World → Prop}
theorem tk {i : Nat} {oi : Oper} {v : Value} {fuel : Nat} {listed : Array Bool} {a a' : Act} {w : World} (hi : ops[i]? = some oi) (hv : ∀ w, S w → (execOp a.eval oi).run P w = .ok (.value v) w) (hS : S w) (h : wpAnyH P md ops Q S fuel (listed.setIfInBounds i true) a' w)
    (hs : Region.noSelect ops = true := by kernel_rfl) (hf : Region.free md ops listed i = true := by kernel_rfl) (hr : (Region.ready md ops listed).contains i = true := by kernel_rfl) (hQ : ∀ c a w, Q (.panic c) (a.put oi.dst v) w → Q (.panic c) a w := by exact fun _ _ _ h => h)
    (hw : Region.wanted oi (yielded ops a.tmps) = true := by rfl) (he : a.put oi.dst v = a' := by first | (go_simp; rfl) | (go_simp; done)) : wpAnyH P md ops Q S (fuel + 1) listed a w := take hi hs hf hr hQ hw hv he hS h
theorem tn {i : Nat} {oi : Oper} {v : Value} {fuel : Nat} {listed : Array Bool} {a a' : Act} {w : World} (hi : ops[i]? = some oi) (hS : S w) (h : wpAnyH P md ops Q S fuel (listed.setIfInBounds i true) a' w)
    (hs : Region.noSelect ops = true := by kernel_rfl) (hf : Region.free md ops listed i = true := by kernel_rfl) (hr : (Region.ready md ops listed).contains i = true := by kernel_rfl) (hQ : ∀ c a w, Q (.panic c) (a.put oi.dst v) w → Q (.panic c) a w := by exact fun _ _ _ h => h)
    (hw : Region.wanted oi (yielded ops a.tmps) = true := by rfl) (hv : ∀ w, S w → (execOp a.eval oi).run P w = .ok (.value v) w := by exact fun _ _ => by first | (go_simp; rfl) | (go_simp; done)) (he : a.put oi.dst v = a' := by first | (go_simp; rfl) | (go_simp; done)) : wpAnyH P md ops Q S (fuel + 1) listed a w := take hi hs hf hr hQ hw hv he hS h
end
end Go.HeldBy
namespace Go.HeldBy
open Go
section
variable {P : Program} {ops : Array Oper} {Q : Exit → Act → World → Prop} {md : Region.Mode} {S : World → Prop}
theorem two {i j : Nat} {fuel : Nat} {listed : Array Bool} {a : Act} {w : World} (hr : Region.ready md ops listed = [i, j])
    (h1 : wpOp P ops Q i (fun a' w' => S w' ∧ wpAnyH P md ops Q S fuel (listed.setIfInBounds i true) a' w') a w)
    (h2 : wpOp P ops Q j (fun a' w' => S w' ∧ wpAnyH P md ops Q S fuel (listed.setIfInBounds j true) a' w') a w) : wpAnyH P md ops Q S (fuel + 1) listed a w := by
  refine wpAnyH_all hr (by simp) fun k hk => ?_
  simp only [List.mem_cons, List.not_mem_nil, or_false] at hk
  rcases hk with rfl | rfl
  · exact h1
  · exact h2
theorem op_value {i : Nat} {oi : Oper} {v : Value} {K : Act → World → Prop} {a a' : Act} {w w' : World} (hi : ops[i]? = some oi) (hw : Region.wanted oi (yielded ops a.tmps) = true)
    (hv : (execOp a.eval oi).run P w = .ok (.value v) w') (he : a.put oi.dst v = a') (h : K a' w') : wpOp P ops Q i K a w := by
  unfold wpOp
  simp only [hi, hw, if_true]
  refine .inl ?_
  unfold Oper.wp
  rw [hv]
  show K (a.put oi.dst v) w'
  rw [he]
  exact h
theorem op_call {i : Nat} {oi : Oper} {v : Value} {f : FuncId} {args : Array Value} {K : Act → World → Prop} {a a' : Act} {w : World} (hi : ops[i]? = some oi) (hw : Region.wanted oi (yielded ops a.tmps) = true)
    (hv : (execOp a.eval oi).run P w = .ok (.enter f args) w) (he : a.put oi.dst v = a') (h : Calls P f args w fun e w' => e = .returned v ∧ K a' w') : wpOp P ops Q i K a w := by
  unfold wpOp
  simp only [hi, hw, if_true]
  refine .inl ?_
  unfold Oper.wp
  rw [hv]
  exact h.mono fun e w' ⟨h1, h2⟩ => by
    subst h1
    show K (a.put oi.dst v) w'
    rw [he]
    exact h2
end
end Go.HeldBy
