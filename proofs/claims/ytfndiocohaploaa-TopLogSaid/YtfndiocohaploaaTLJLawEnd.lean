/- Own work. -/
import Derived.ProofKit
import Derived.Below
import Derived.Carry
import Derived.OpenShut
import Derived.Lib.Strings
import Derived.Lib.SpaceUEq
import Derived.Laws.RangeAny
import Derived.Lib.DecodeN
import Derived.Test.YtfndiocohaploaaChecked
import Derived.WalkKit
import Derived.WalkSpells
import Derived.WalkLawsBesides
import Derived.Laws.RangeString
import Derived.Lib.Hide
import Derived.Lib.IndexBytes
import Derived.Lib.RuneCount
import Derived.BigQuiet
import Derived.Deep.QuietTactic
import Derived.Laws.Runes
import Derived.Test.YtfndiocohaploaaShelf
import Derived.Lib.IndexLaws
import Derived.Lib.Bytealg
import Derived.OwnWalk
import Derived.Outline
import Derived.Laws.StructEq
import Derived.Deep.RegionHeld3
import Derived.BigRegion
import Derived.Laws.Tables
import Derived.Deep.WholeRow
import Derived.Laws.CopyOwn
import Derived.Great.BuildSlice
import Derived.Deep.Fields
import Derived.SizedLaws
import Derived.Deep.Cut
import Derived.Test.YtfndiocohaploaaTLJSZHeldBy
namespace Go.LawEnd
open Go.ChangeShapes Go.WideShapes Go.RowKit
def rowsB (P : Program) (ts : List TypeId) : Bool := ts.all fun t => P.readableRec t && decide (t < P.types.size)
theorem trodAll_below {H : Type} {enc : TypeId × Value → H} {P : Program} (hl : laidOutB P = true) {W W' : World} (hb : Below W.heap.size W W') :
    ∀ {ts : List TypeId} {vs : List Value} {ds : List (DataW H)} {ps : List MemPlace}, rowsB P ts = true → DataW.TrodAll enc P W 0 (fun _ => true) true ts vs ds ps → (∀ x ∈ ps, x.block < W.heap.size) →
      DataW.TrodAll enc P W' 0 (fun b => decide (b < W.heap.size)) true ts vs ds ps
  | [], vs, ds, ps, _, h, _ => by
    obtain ⟨rfl, rfl, rfl⟩ := trodAll_nil h
    exact trodAll_mk0
  | t :: ts, vs, ds, ps, hr, h, hlt => by
    obtain ⟨v, vs', d, ds', p, q, rfl, rfl, rfl, h0, r0⟩ := trodAll_cons h
    simp only [rowsB, List.all_cons, Bool.and_eq_true, decide_eq_true_eq] at hr
    refine trodAll_cons_mk (Below.trod hl hr.1.1 hr.1.2 h0 hb (fun x hx => hlt x (List.mem_append_left _ hx))) ?_
    exact trodAll_below hl hb (by simp only [rowsB]; exact hr.2) r0 (fun x hx => hlt x (List.mem_append_right _ hx))
theorem post_true {H : Type} {enc : TypeId × Value → H} {P : Program} {f : Func} {s : ChangeSpec} {apart fresh handsOn : Bool} {W W' : World} {args : Array Value} {ds gs : List (DataW H)} {before : List MemPlace} {tb : TypeId}
    (hl : laidOutB P = true) (hrows : rowsB P f.params.toList = true) (hres : f.resultTypes = #[tb]) (htb : P.underlying tb = some .bool) (hvars : s.vars = [])
    (hW : DataW.Whole enc P f.params.toList s.vars apart W args.toList ds gs before) (hfn : s.fn H ds = { results := [.lit (.bool true)], args := ds }) (hb : Below W.heap.size W W') :
    s.post enc P f apart fresh handsOn false W args (.bool true) W' := by
  have hlt := fun p (hp : p ∈ before) => hW.lt p hp
  obtain ⟨p, q, hA, hV, rfl, hz, hn⟩ := id hW
  rw [hvars] at hV
  obtain ⟨rfl, rfl⟩ := trodVars_none hV
  refine ⟨ds, [], p ++ [], [], p, [], hW, ?_, ?_, ?_, World.keptBut_mono (fun x hx => ⟨by simpa using hx, Or.inr (Or.inl (by simpa using hx))⟩) (hb.frame (· ∈ p ++ [])), fun h => by cases h⟩
  · rw [List.append_nil, hfn, hres]
    exact trodAll_mk1 (shut_bool htb true)
  · rw [List.append_nil, hfn]
    exact trodAll_below hl hb hrows hA (fun x hx => hlt x (by simpa using hx))
  · rw [List.append_nil, hfn, hvars]
    exact rfl
end Go.LawEnd
namespace Go.Proofs.Ytfndiocohaploaa.T
open Go.Lib
def isW (c : UInt8) : Bool := (decide (97 ≤ c.toNat) && decide (c.toNat ≤ 122)) || (decide (48 ≤ c.toNat) && decide (c.toNat ≤ 57)) || decide (c.toNat = 45)
def wordB (l : List UInt8) : Bool := decide (1 ≤ l.length) && decide (l.length ≤ 24) && l.all isW
theorem high_step (s : ByteArray) (pos : Nat) (h : pos < s.size) (ha : 128 ≤ (s[pos]'h).toNat) :
    pos + (Utf8.decode s pos).2 ≤ s.size ∧ ∀ j, pos ≤ j → j < pos + (Utf8.decode s pos).2 → ∀ hj : j < s.size, 128 ≤ (s[j]'hj).toNat := by
  have e : ∀ j (hj : j < s.size), s.get! j = s[j]'hj := fun j hj => by
    show s.get! j = _
    simp [ByteArray.get!, getElem!_pos, hj]
    rfl
  have w1 := (decode_high s pos h ha).2
  rw [decode_at] at w1 ⊢
  obtain ⟨c1, c2, c3, c4⟩ := decodeN_conts (s.size - pos) (s.get! pos).toNat (s.get! (pos + 1)).toNat (s.get! (pos + 2)).toNat (s.get! (pos + 3)).toNat
  generalize (decodeN (s.size - pos) (s.get! pos).toNat (s.get! (pos + 1)).toNat (s.get! (pos + 2)).toNat (s.get! (pos + 3)).toNat).2 = k at *
  refine ⟨by omega, fun j hj1 hj2 hj => ?_⟩
  obtain rfl | rfl | rfl | rfl : j = pos ∨ j = pos + 1 ∨ j = pos + 2 ∨ j = pos + 3 := by omega
  · exact ha
  · have := (c1 (by omega)).1; rw [e _ hj] at this; omega
  · have := (c2 (by omega)).1; rw [e _ hj] at this; omega
  · have := (c3 (by omega)).1; rw [e _ hj] at this; omega
theorem get_list (s : ByteArray) (k : Nat) (h : k < s.size) : s.data.toList[k]'(by simpa using h) = s[k] := rfl
theorem size_list (s : ByteArray) : s.data.toList.length = s.size := by simp
end Go.Proofs.Ytfndiocohaploaa.T
namespace Go.Proofs.Ytfndiocohaploaa.T
open Go.RowKit Go.Lib
def runeB (r : Int) : Bool := (decide (97 ≤ r) && decide (r ≤ 122)) || (decide (48 ≤ r) && decide (r ≤ 57)) || (r == 45)
theorem ret_bool {a b : Bool} (h : a = b) : Ending.returned (.bool a) = .returned (.bool b) := by rw [h]
theorem wordRune_any (r : Int) (w : World) :
    Calls Try.prog 87 #[.int .i32 r] w fun e w' => e = .returned (.bool (runeB r)) ∧ w = w' := by
  have hcase : r < 45 ∨ r = 45 ∨ (45 < r ∧ r < 48) ∨ (48 ≤ r ∧ r ≤ 57) ∨ (57 < r ∧ r < 97) ∨ (97 ≤ r ∧ r ≤ 122) ∨ 122 < r := by omega
  rcases hcase with h | rfl | ⟨h, h'⟩ | ⟨h, h'⟩ | ⟨h, h'⟩ | ⟨h, h'⟩ | h
  all_goals
    try have e45 : (r == 45) = false := by simp; omega
    go_enter Try.func87, Try.ntmps87
    go_wp2
    go_ret
    refine ⟨ret_bool ?_, rfl⟩
    first | rfl | (rw [Bool.eq_iff_iff]; simp [runeB]; done) | (rw [Bool.eq_iff_iff]; simp [runeB]; omega) | (unfold runeB; rw [e45]; simp; omega)
theorem runeB_byte (c : UInt8) : runeB (c.toNat : Int) = isW c := by
  unfold runeB isW
  have e : ((c.toNat : Int) == 45) = decide (c.toNat = 45) := by
    by_cases h : c.toNat = 45
    · simp [h]
    · simp only [h, decide_false]; simp; omega
  rw [e]
  congr 2
  · congr 1 <;> (apply decide_eq_decide.2; omega)
  · congr 1 <;> (apply decide_eq_decide.2; omega)
theorem runeB_high {r : Int} (h : 128 ≤ r) : runeB r = false := by
  unfold runeB
  simp only [Bool.or_eq_false_iff, Bool.and_eq_false_iff, decide_eq_false_iff_not, beq_eq_false_iff_ne]
  omega
theorem take_snoc (s : ByteArray) (k : Nat) (h : k < s.size) : s.data.toList.take (k + 1) = s.data.toList.take k ++ [s[k]] := by
  rw [List.take_succ_eq_append_getElem (by simpa using h)]; rfl
theorem all_snoc {s : ByteArray} {k : Nat} (h : k < s.size) (hd : (s.data.toList.take k).all isW = true) (hk : isW s[k] = true) : (s.data.toList.take (k + 1)).all isW = true := by
  rw [take_snoc s k h, List.all_append, hd]; simp [hk]
theorem all_not {s : ByteArray} {k : Nat} (h : k < s.size) (hk : isW s[k] = false) : s.data.toList.all isW = false := by
  rw [List.all_eq_false]
  exact ⟨s[k], by rw [← get_list s k h]; exact List.getElem_mem _, by simp [hk]⟩
theorem isW_low {c : UInt8} (h : isW c = true) : c.toNat < 128 := by
  unfold isW at h
  simp only [Bool.or_eq_true, Bool.and_eq_true, decide_eq_true_eq] at h
  omega
theorem below_iter {w : World} (s : ByteArray) (pos : Nat) : Below w.heap.size w (w.iter s pos) := (Below.refl _ w).alloc (Nat.le_refl _) _
set_option maxHeartbeats 400000 in
theorem word_any (s : ByteArray) (w : World) :
    Calls Try.prog 81 #[.string s] w fun e w' => e = .returned (.bool (wordB s.data.toList)) ∧ Below w.heap.size w w' := by
  by_cases h1 : s.size < 1
  · have H : Hid (wordB s.data.toList = false) := by unfold wordB; show _ = _; simp only [size_list, Bool.and_eq_false_iff, decide_eq_false_iff_not]; omega
    go_enter Try.func81, Try.ntmps81
    go_wp2
    go_ret
    exact ⟨ret_bool H.out.symm, Below.refl _ _⟩
  by_cases h2 : 24 < s.size
  · have H : Hid (wordB s.data.toList = false) := by unfold wordB; show _ = _; simp only [size_list, Bool.and_eq_false_iff, decide_eq_false_iff_not]; omega
    go_enter Try.func81, Try.ntmps81
    go_wp2
    go_ret
    exact ⟨ret_bool H.out.symm, Below.refl _ _⟩
  have H : Hid (wordB s.data.toList = s.data.toList.all isW) := by
    show _ = _
    unfold wordB
    simp only [size_list]
    rw [show decide (1 ≤ s.size) = true by simp; omega, show decide (s.size ≤ 24) = true by simp; omega]
    rfl
  have g1 : 1 ≤ s.size := by omega
  have g2 : s.size ≤ 24 := by omega
  clear h1 h2
  go_enter Try.func81, Try.ntmps81
  go_wp2
  go_loopw [] (fun w' => ∃ pos : Nat, pos ≤ s.size ∧ w' = w.iter s pos ∧ Hid ((s.data.toList.take pos).all isW = true)) (fun w' => s.size - w'.iterPos w.heap.size)
  case atStart => exact ⟨0, Nat.zero_le _, rfl, by show _ = _; simp⟩
  case round =>
    obtain ⟨pos, hpos, rfl, hd⟩ := hrel
    by_cases hp : pos < s.size
    · cases hk : isW s[pos] with
      | true =>
        have hd' := Lib.hid (all_snoc hp hd.out hk)
        have hlow := isW_low hk
        have hrb := Lib.hid ((runeB_byte s[pos]).trans hk)
        clear hd hk
        have hnx : ∀ ty, (Instr.next (.pointer (some ⟨w.heap.size, 0, none⟩)) true ty).run Try.prog (w.iter s pos) = _ := fun ty => run_next_ascii w s pos ty hp hlow
        go_wp2_with fail
        refine (wordRune_any _ _).mono ?_
        rintro e w1 ⟨rfl, rfl⟩
        rw [hrb.out]
        go_wp2
        exact ⟨⟨pos + 1, by omega, rfl, hd'⟩, by simp; omega⟩
      | false =>
        have hn := Lib.hid (all_not hp hk)
        by_cases ha : s[pos].toNat < 128
        · have hrb := Lib.hid ((runeB_byte s[pos]).trans hk)
          clear hd hk
          have hnx : ∀ ty, (Instr.next (.pointer (some ⟨w.heap.size, 0, none⟩)) true ty).run Try.prog (w.iter s pos) = _ := fun ty => run_next_ascii w s pos ty hp ha
          go_wp2_with fail
          refine (wordRune_any _ _).mono ?_
          rintro e w1 ⟨rfl, rfl⟩
          rw [hrb.out]
          go_wp2
          go_ret
          exact ⟨ret_bool (by rw [H.out, hn.out]), below_iter _ _⟩
        · have hh := (decode_high s pos hp (by omega)).1
          have hrb := Lib.hid (runeB_high (r := ((Utf8.decode s pos).1 : Int)) (by omega))
          clear hd hk ha hh
          have hnx : ∀ ty, (Instr.next (.pointer (some ⟨w.heap.size, 0, none⟩)) true ty).run Try.prog (w.iter s pos) = _ := fun ty => run_next_any w s pos ty hp
          go_wp2_with fail
          refine (wordRune_any _ _).mono ?_
          rintro e w1 ⟨rfl, rfl⟩
          rw [hrb.out]
          go_wp2
          go_ret
          exact ⟨ret_bool (by rw [H.out, hn.out]), below_iter _ _⟩
    · have hn : Hid (s.data.toList.all isW = true) := by
        have := hd.out
        rwa [List.take_of_length_le (by rw [size_list]; omega)] at this
      have hnx : ∀ ty, (Instr.next (.pointer (some ⟨w.heap.size, 0, none⟩)) true ty).run Try.prog (w.iter s pos) = _ := fun ty => run_next_end w s pos ty hp
      clear hd
      go_wp2
      go_ret
      exact ⟨ret_bool (by rw [H.out, hn.out]), below_iter _ _⟩
end Go.Proofs.Ytfndiocohaploaa.T
namespace Go.Proofs.Ytfndiocohaploaa.O
open Go.Lib T
def isN (c : UInt8) : Bool := isW c || (decide (c.toNat = 46) || (decide (c.toNat = 35) || decide (c.toNat = 47)))
def nameB (l : List UInt8) : Bool := decide (1 ≤ l.length) && decide (l.length ≤ 40) && l.all isN
def okT (s : ByteArray) : Bool := decide (s.data.toList = []) || nameB s.data.toList
def emp (s : ByteArray) : Bool := decide (s.data.toList = [])
def noSl (s : ByteArray) : Bool := !s.data.toList.contains 47
structure Obj where
  kind : Int
  name : ByteArray
  version : Int
  born : Int
  deleting : Bool
  hold : Bool
  cls : ByteArray
  size : Int
  got : Int
  mode : Int
  keep : Bool
  wait : Bool
  zone : ByteArray
  node : ByteArray
  claim : ByteArray
  volume : ByteArray
  source : ByteArray
  phase : Int
  num : Int
  tag : Int
deriving DecidableEq
def E0 : ByteArray := ⟨#[]⟩
def bareO (o : Obj) : Obj :=
  if o.kind = 1 then ⟨o.kind, o.name, o.version, o.born, o.deleting, o.hold, E0, 0, 0, 0, o.keep, o.wait, o.zone, E0, E0, E0, E0, 0, 0, 0⟩
  else if o.kind = 2 then ⟨o.kind, o.name, o.version, o.born, o.deleting, o.hold, E0, 0, 0, 0, false, false, o.zone, E0, E0, E0, E0, 0, 0, 0⟩
  else if o.kind = 3 then ⟨o.kind, o.name, o.version, o.born, o.deleting, o.hold, o.cls, o.size, o.got, o.mode, false, false, o.zone, o.node, E0, o.volume, o.source, o.phase, o.num, 0⟩
  else if o.kind = 4 then ⟨o.kind, o.name, o.version, o.born, o.deleting, o.hold, o.cls, o.size, o.got, o.mode, o.keep, false, o.zone, E0, o.claim, E0, E0, o.phase, o.num, 0⟩
  else if o.kind = 5 then ⟨o.kind, o.name, o.version, o.born, o.deleting, o.hold, E0, 0, 0, 0, false, false, E0, o.node, E0, o.volume, E0, o.phase, o.num, 0⟩
  else if o.kind = 6 then ⟨o.kind, o.name, o.version, o.born, o.deleting, o.hold, E0, 0, 0, 0, false, false, E0, o.node, o.claim, E0, E0, 0, 0, 0⟩
  else if o.kind = 7 then ⟨o.kind, o.name, o.version, o.born, o.deleting, o.hold, E0, 0, o.got, 0, false, false, E0, E0, E0, o.volume, o.source, o.phase, o.num, o.tag⟩
  else ⟨o.kind, o.name, o.version, o.born, o.deleting, o.hold, E0, 0, 0, 0, false, false, E0, E0, E0, E0, E0, 0, 0, 0⟩
def attachN (v n : ByteArray) : ByteArray := v ++ ⟨#[47]⟩ ++ n
def modeB (m : Int) : Bool := decide (m = 1) || decide (m = 2)
def inR (n : Int) : Bool := decide (0 ≤ n) && decide (n ≤ 1125899906842624)
def ph3 (p a b c : Int) : Bool := decide (p = a) || (decide (p = b) || decide (p = c))
def ph4 (p a b c d : Int) : Bool := decide (p = a) || (decide (p = b) || (decide (p = c) || decide (p = d)))
def claimB (o : Obj) : Bool := !emp o.cls && (decide (o.size ≠ 0) && (modeB o.mode && (ph3 o.phase 1 2 3 && ((!emp o.volume) == decide (o.phase = 3)))))
def volumeB (o : Obj) : Bool := (!emp o.cls && !emp o.zone) && (decide (o.size ≠ 0) && (decide (o.got ≠ 0) && (modeB o.mode && (ph4 o.phase 4 3 5 6 && (!emp o.claim || !(decide (o.phase = 3) || decide (o.phase = 5)))))))
def attachB (o : Obj) : Bool := (!emp o.volume && !emp o.node) && (noSl o.node && (decide (o.name = attachN o.volume o.node) && ph3 o.phase 7 8 9))
def kindB (o : Obj) : Bool :=
  if o.kind = 1 then true
  else if o.kind = 2 then !emp o.zone && noSl o.name
  else if o.kind = 3 then claimB o
  else if o.kind = 4 then volumeB o
  else if o.kind = 5 then attachB o
  else if o.kind = 6 then !emp o.claim
  else if o.kind = 7 then !emp o.source && ph4 o.phase 1 10 11 6
  else false
def textsB (o : Obj) : Bool := okT o.cls && (okT o.zone && (okT o.node && (okT o.claim && (okT o.volume && okT o.source))))
def rightB (o : Obj) : Bool := nameB o.name.data.toList && (decide (o = bareO o) && (textsB o && (inR o.size && (inR o.got && kindB o))))
theorem ba_ext {a b : ByteArray} (h : a.data.toList = b.data.toList) : a = b := by
  obtain ⟨⟨x⟩⟩ := a
  obtain ⟨⟨y⟩⟩ := b
  simp at h
  rw [h]
end Go.Proofs.Ytfndiocohaploaa.O
namespace Go.Proofs.Ytfndiocohaploaa.O
open Go.Lib T
theorem right_parts {o : Obj} (h : rightB o = true) : nameB o.name.data.toList = true ∧ o = bareO o ∧ textsB o = true ∧ inR o.size = true ∧ inR o.got = true ∧ kindB o = true := by
  unfold rightB at h
  simp only [Bool.and_eq_true, decide_eq_true_eq] at h
  exact h
theorem kind_cases {o : Obj} (h : kindB o = true) : o.kind = 1 ∨ o.kind = 2 ∨ o.kind = 3 ∨ o.kind = 4 ∨ o.kind = 5 ∨ o.kind = 6 ∨ o.kind = 7 := by
  by_cases h1 : o.kind = 1
  · exact .inl h1
  by_cases h2 : o.kind = 2
  · exact .inr (.inl h2)
  by_cases h3 : o.kind = 3
  · exact .inr (.inr (.inl h3))
  by_cases h4 : o.kind = 4
  · exact .inr (.inr (.inr (.inl h4)))
  by_cases h5 : o.kind = 5
  · exact .inr (.inr (.inr (.inr (.inl h5))))
  by_cases h6 : o.kind = 6
  · exact .inr (.inr (.inr (.inr (.inr (.inl h6)))))
  by_cases h7 : o.kind = 7
  · exact .inr (.inr (.inr (.inr (.inr (.inr h7)))))
  unfold kindB at h
  rw [if_neg h1, if_neg h2, if_neg h3, if_neg h4, if_neg h5, if_neg h6, if_neg h7] at h
  cases h
theorem kind3 {o : Obj} (e : o.kind = 3) : kindB o = claimB o := by unfold kindB; simp [e]
theorem kind4 {o : Obj} (e : o.kind = 4) : kindB o = volumeB o := by unfold kindB; simp [e]
theorem kind5 {o : Obj} (e : o.kind = 5) : kindB o = attachB o := by unfold kindB; simp [e]
theorem kind7 {o : Obj} (e : o.kind = 7) : kindB o = (!emp o.source && ph4 o.phase 1 10 11 6) := by unfold kindB; simp [e]
end Go.Proofs.Ytfndiocohaploaa.O
namespace Go.Proofs.Ytfndiocohaploaa.O
open Go.RowKit Go.Lib T
theorem encode_low {r : Int} (h0 : 0 ≤ r) (h : r < 128) : Utf8.encode r = ⟨#[UInt8.ofNat r.toNat]⟩ := by
  have hv : Utf8.valid r = true := by unfold Utf8.valid; simp; omega
  have hc : r.toNat < 128 := by omega
  unfold Utf8.encode
  simp only [hv, if_true, hc]
theorem wordB_one (c : UInt8) : wordB [c] = isW c := by simp [wordB]
theorem isW_high {c : UInt8} (h : 128 ≤ c.toNat) : isW c = false := by
  unfold isW
  simp only [Bool.or_eq_false_iff, Bool.and_eq_false_iff, decide_eq_false_iff_not]
  omega
theorem wordB_high {l : List UInt8} {c : UInt8} (hm : c ∈ l) (hc : 128 ≤ c.toNat) : wordB l = false := by
  unfold wordB
  rw [Bool.and_eq_false_iff]
  exact .inr (List.all_eq_false.2 ⟨c, hm, by rw [isW_high hc]; simp⟩)
theorem encode_high {r : Int} (h : 128 ≤ r) : wordB (Utf8.encode r).data.toList = false := by
  by_cases hv : Utf8.valid r = true
  · obtain ⟨h1, -, h3⟩ := encode_facts r hv h
    have hlt : (Utf8.encode r).size - 1 < (Utf8.encode r).size := by omega
    exact wordB_high (c := (Utf8.encode r)[(Utf8.encode r).size - 1]'hlt) (by rw [← get_list _ _ hlt]; exact List.getElem_mem _) (h3 hlt)
  · have e : Utf8.encode r = ⟨#[239, 191, 189]⟩ := by
      have hv' : Utf8.valid r = false := by simpa using hv
      unfold Utf8.encode
      simp only [hv', Bool.false_eq_true, if_false, Utf8.runeError]
      decide
    rw [e]; rfl
def nrB (r : Int) : Bool := decide (r < 128) && isN (UInt8.ofNat r.toNat)
set_option maxHeartbeats 400000 in
theorem nameRune_any (r : Int) (w : World) (h0 : 0 ≤ r) :
    Calls Try.prog 71 #[.int .i32 r] w fun e w' => e = .returned (.bool (nrB r)) ∧ Below w.heap.size w w' := by
  by_cases hl : r < 128
  · obtain ⟨c, rfl⟩ : ∃ c : UInt8, r = (c.toNat : Int) := ⟨UInt8.ofNat r.toNat, by simp; omega⟩
    have hc : c.toNat < 128 := by omega
    have hN : Hid (nrB (c.toNat : Int) = isN c) := by
      show _ = _
      unfold nrB
      rw [show decide ((c.toNat : Int) < 128) = true by simp; omega]
      simp
    by_cases e46 : c = 46
    · subst e46
      go_enter Try.func71, Try.ntmps71
      go_wp2
      go_ret
      exact ⟨ret_bool (by rw [hN.out]; decide), Below.refl _ _⟩
    by_cases e35 : c = 35
    · subst e35
      go_enter Try.func71, Try.ntmps71
      go_wp2
      go_ret
      exact ⟨ret_bool (by rw [hN.out]; decide), Below.refl _ _⟩
    by_cases e47 : c = 47
    · subst e47
      go_enter Try.func71, Try.ntmps71
      go_wp2
      go_ret
      exact ⟨ret_bool (by rw [hN.out]; decide), Below.refl _ _⟩
    have n46 : ((c.toNat : Int) == 46) = false := by simp only [beq_eq_false_iff_ne]; intro e; exact e46 (UInt8.toNat_inj.1 (by simp; omega))
    have n35 : ((c.toNat : Int) == 35) = false := by simp only [beq_eq_false_iff_ne]; intro e; exact e35 (UInt8.toNat_inj.1 (by simp; omega))
    have n47 : ((c.toNat : Int) == 47) = false := by simp only [beq_eq_false_iff_ne]; intro e; exact e47 (UInt8.toNat_inj.1 (by simp; omega))
    have hE : Hid (wordB (Utf8.encode (c.toNat : Int)).data.toList = isW c) := by
      show _ = _
      rw [encode_low (by omega) hl]
      show wordB [UInt8.ofNat c.toNat] = _
      rw [wordB_one]; simp
    have hF : Hid (isN c = isW c) := by
      show _ = _
      unfold isN
      have : decide (c.toNat = 46) = false ∧ decide (c.toNat = 35) = false ∧ decide (c.toNat = 47) = false := by
        refine ⟨?_, ?_, ?_⟩
        · simp only [beq_eq_false_iff_ne] at n46; simp; omega
        · simp only [beq_eq_false_iff_ne] at n35; simp; omega
        · simp only [beq_eq_false_iff_ne] at n47; simp; omega
      rw [this.1, this.2.1, this.2.2]; simp
    clear e46 e35 e47
    go_enter Try.func71, Try.ntmps71
    go_wp2_with fail
    refine (word_any _ _).mono ?_
    rintro e w1 ⟨rfl, hb⟩
    rw [hE.out]
    go_wp2
    go_ret
    exact ⟨ret_bool (by rw [hN.out, hF.out]), hb⟩
  · have hN : Hid (nrB r = false) := by show _ = _; unfold nrB; rw [show decide (r < 128) = false by simp; omega]; rfl
    have hE := Lib.hid (encode_high (r := r) (by omega))
    have n46 : (r == 46) = false := by simp only [beq_eq_false_iff_ne]; omega
    have n35 : (r == 35) = false := by simp only [beq_eq_false_iff_ne]; omega
    have n47 : (r == 47) = false := by simp only [beq_eq_false_iff_ne]; omega
    clear hl
    go_enter Try.func71, Try.ntmps71
    go_wp2_with fail
    refine (word_any _ _).mono ?_
    rintro e w1 ⟨rfl, hb⟩
    rw [hE.out]
    go_wp2
    go_ret
    exact ⟨ret_bool hN.out.symm, hb⟩
end Go.Proofs.Ytfndiocohaploaa.O
namespace Go.Proofs.Ytfndiocohaploaa.O
open Go.RowKit Go.Lib T
theorem nrB_low {c : UInt8} (h : c.toNat < 128) : nrB (c.toNat : Int) = isN c := by
  unfold nrB
  rw [show decide ((c.toNat : Int) < 128) = true by simp; omega]
  simp
theorem nrB_high {r : Int} (h : 128 ≤ r) : nrB r = false := by
  unfold nrB; rw [show decide (r < 128) = false by simp; omega]; rfl
theorem isN_low {c : UInt8} (h : isN c = true) : c.toNat < 128 := by
  unfold isN at h
  simp only [Bool.or_eq_true, decide_eq_true_eq] at h
  rcases h with h | h | h | h
  · exact isW_low h
  · omega
  · omega
  · omega
theorem isN_high {c : UInt8} (h : 128 ≤ c.toNat) : isN c = false := by
  rw [Bool.eq_false_iff]; intro e; have := isN_low e; omega
theorem allN_snoc {s : ByteArray} {k : Nat} (h : k < s.size) (hd : (s.data.toList.take k).all isN = true) (hk : isN s[k] = true) : (s.data.toList.take (k + 1)).all isN = true := by
  rw [take_snoc s k h, List.all_append, hd]; simp [hk]
theorem allN_not {s : ByteArray} {k : Nat} (h : k < s.size) (hk : isN s[k] = false) : s.data.toList.all isN = false := by
  rw [List.all_eq_false]
  exact ⟨s[k], by rw [← get_list s k h]; exact List.getElem_mem _, by simp [hk]⟩
theorem nameB_mid {s : ByteArray} (h1 : 1 ≤ s.size) (h2 : s.size ≤ 40) : nameB s.data.toList = s.data.toList.all isN := by
  unfold nameB
  simp only [size_list]
  rw [show decide (1 ≤ s.size) = true by simp; omega, show decide (s.size ≤ 40) = true by simp; omega]
  rfl
theorem nameB_off {s : ByteArray} (h : s.size < 1 ∨ 40 < s.size) : nameB s.data.toList = false := by
  unfold nameB; simp only [size_list, Bool.and_eq_false_iff, decide_eq_false_iff_not]; omega
theorem nameB_not {s : ByteArray} (h : s.data.toList.all isN = false) : nameB s.data.toList = false := by
  unfold nameB; rw [h]; simp
theorem nameB_le {s : ByteArray} (h : nameB s.data.toList = true) : 1 ≤ s.size ∧ s.size ≤ 40 := by
  unfold nameB at h
  simp only [size_list, Bool.and_eq_true, decide_eq_true_eq] at h
  exact h.1
theorem below_iterAt {w wr : World} {s : ByteArray} {p : Nat} (h : Below w.heap.size w wr) : Below w.heap.size w (wr.iterAt w.heap.size s p) :=
  h.grown (row := some w.heap.size) ⟨rfl, rfl, rfl, by rw [iterAt_size]; exact Nat.le_refl _, fun j _ hj => iterAt_other wr w.heap.size j s p (fun e => hj (by rw [e]))⟩ h.size (fun k hk => by cases hk; exact Nat.le_refl _)
set_option maxHeartbeats 400000 in
theorem name_any (s : ByteArray) (w : World) :
    Calls Try.prog 56 #[.string s] w fun e w' => e = .returned (.bool (nameB s.data.toList)) ∧ Below w.heap.size w w' := by
  by_cases h1 : s.size < 1
  · have H := Lib.hid (nameB_off (.inl h1))
    go_enter Try.func56, Try.ntmps56
    go_wp2
    go_ret
    exact ⟨ret_bool H.out.symm, Below.refl _ _⟩
  by_cases h2 : 40 < s.size
  · have H := Lib.hid (nameB_off (.inr h2))
    go_enter Try.func56, Try.ntmps56
    go_wp2
    go_ret
    exact ⟨ret_bool H.out.symm, Below.refl _ _⟩
  have H := Lib.hid (nameB_mid (s := s) (by omega) (by omega))
  have g1 : 1 ≤ s.size := by omega
  have g2 : s.size ≤ 40 := by omega
  clear h1 h2
  go_enter Try.func56, Try.ntmps56
  go_wp2
  go_loopw [] (fun w' => ∃ pos : Nat, pos ≤ s.size ∧ Below w.heap.size w w' ∧ w'.heap[w.heap.size]? = some (.stringIter s pos) ∧ Hid ((s.data.toList.take pos).all isN = true)) (fun w' => s.size - w'.iterPos w.heap.size)
  case atStart => exact ⟨0, Nat.zero_le _, below_iter _ _, World.iter_heap w s 0, by show _ = _; simp⟩
  case round =>
    obtain ⟨pos, hpos, hbw, hit, hd⟩ := hrel
    rename_i wr
    by_cases hp : pos < s.size
    · have hbi : Below w.heap.size w (wr.iterAt w.heap.size s (pos + (Utf8.decode s pos).2)) := below_iterAt hbw
      have hii := iterAt_heap wr w.heap.size s pos (pos + (Utf8.decode s pos).2) hit
      have hwd := decode_width_pos s pos hp
      have hle : pos + (Utf8.decode s pos).2 ≤ s.size := by
        by_cases ha : s[pos].toNat < 128
        · rw [decode_ascii s pos hp ha]; omega
        · exact (high_step s pos hp (by omega)).1
      have hr0 : (0 : Int) ≤ ((Utf8.decode s pos).1 : Int) := by omega
      have hnx : ∀ ty, (Instr.next (.pointer (some ⟨w.heap.size, 0, none⟩)) true ty).run Try.prog wr = _ := fun ty => run_next_any_at wr w.heap.size s pos ty hit hp
      have hpr : wr.iterPos w.heap.size = pos := by simp [World.iterPos, hit]
      cases hk : nrB ((Utf8.decode s pos).1 : Int) with
      | true =>
        have hlow : s[pos].toNat < 128 := by
          rcases Nat.lt_or_ge s[pos].toNat 128 with h | h
          · exact h
          · have h3 := (decode_high s pos hp (by omega)).1
            rw [nrB_high (by omega)] at hk; cases hk
        have hd' : Hid ((s.data.toList.take (pos + (Utf8.decode s pos).2)).all isN = true) := by
          show _ = _
          rw [decode_ascii s pos hp hlow] at hk ⊢
          exact allN_snoc hp hd.out (by rw [← nrB_low hlow]; exact hk)
        have HK := Lib.hid hk
        have HII := Lib.hid hii
        have HPR := Lib.hid hpr
        clear hd hk hii hlow hpr hit
        go_wp2_with fail
        refine (nameRune_any _ _ hr0).mono ?_
        rintro e w1 ⟨rfl, hb1⟩
        rw [HK.out]
        have hb2 := hbi.trans (hb1.mono hbi.size)
        have hlt : w.heap.size < (wr.iterAt w.heap.size s (pos + (Utf8.decode s pos).2)).heap.size := (Array.getElem?_eq_some_iff.1 HII.out).1
        have hi1 := Lib.hid ((hb1.block w.heap.size hlt).trans HII.out)
        have hp1 : Hid (w1.iterPos w.heap.size = pos + (Utf8.decode s pos).2) := by show _ = _; simp [World.iterPos, hi1.out]
        clear hb1 hlt hbi
        go_wp2
        exact ⟨⟨_, hle, hb2, hi1.out, hd'⟩, by rw [hp1.out, HPR.out]; omega⟩
      | false =>
        have hn : Hid (nameB s.data.toList = false) := by
          show _ = _
          refine nameB_not (allN_not hp ?_)
          by_cases ha : s[pos].toNat < 128
          · rw [decode_ascii s pos hp ha] at hk
            rw [← nrB_low ha]; exact hk
          · exact isN_high (by omega)
        have HK := Lib.hid hk
        clear hd hk hii hpr hit
        go_wp2_with fail
        refine (nameRune_any _ _ hr0).mono ?_
        rintro e w1 ⟨rfl, hb1⟩
        rw [HK.out]
        have hb2 := hbi.trans (hb1.mono hbi.size)
        clear hb1 hbi
        go_wp2
        go_ret
        exact ⟨ret_bool hn.out.symm, hb2⟩
    · have hn : Hid (s.data.toList.all isN = true) := by
        have := hd.out
        rwa [List.take_of_length_le (by rw [size_list]; omega)] at this
      have hnx : ∀ ty, (Instr.next (.pointer (some ⟨w.heap.size, 0, none⟩)) true ty).run Try.prog wr = _ := fun ty => run_next_end_at wr w.heap.size s pos ty hit hp
      clear hd hit
      go_wp2
      go_ret
      exact ⟨ret_bool (by rw [H.out, hn.out]), hbw⟩
end Go.Proofs.Ytfndiocohaploaa.O
namespace Go.Proofs.Ytfndiocohaploaa.O
open Go.RowKit Go.Lib T
theorem beq_no {a b : Int} (h : a ≠ b) : (a == b) = false := by simpa using h
theorem beq_yes {a b : Int} (h : a = b) : (a == b) = true := by simpa using h
end Go.Proofs.Ytfndiocohaploaa.O
namespace Go.Proofs.Ytfndiocohaploaa.O
open Go.RowKit Go.Lib T
def cellsO (o : Obj) : Array Value := #[.int .u8 o.kind, .string o.name, .int .u64 o.version, .int .u64 o.born, .bool o.deleting, .bool o.hold, .string o.cls, .int .i64 o.size, .int .i64 o.got, .int .u8 o.mode, .bool o.keep, .bool o.wait,
  .string o.zone, .string o.node, .string o.claim, .string o.volume, .string o.source, .int .u8 o.phase, .int .u64 o.num, .int .u64 o.tag]
def encO (o : Obj) : Value := .agg (cellsO o)
def encK (k : Int) (n : ByteArray) : Value := .agg #[.int .u8 k, .string n]
theorem attachName_any (v n : ByteArray) (w : World) (h1 : v.size ≤ 140737488351232) (h2 : n.size ≤ 140737488351232) :
    Calls Try.prog 84 #[.string v, .string n] w fun e w' => e = .returned (.string (attachN v n)) ∧ w = w' := by
  go_enter Try.func84, Try.ntmps84
  go_wp2
  go_ret
  exact ⟨rfl, rfl⟩
theorem inRange_any (n : Int) (w : World) :
    Calls Try.prog 59 #[.int .i64 n] w fun e w' => e = .returned (.bool (inR n)) ∧ w = w' := by
  have hcase : n < 0 ∨ (0 ≤ n ∧ n ≤ 1125899906842624) ∨ (0 ≤ n ∧ 1125899906842624 < n) := by omega
  rcases hcase with h | ⟨h, h'⟩ | ⟨h, h'⟩
  all_goals
    go_enter Try.func59, Try.ntmps59
    go_wp2
    go_ret
    refine ⟨ret_bool ?_, rfl⟩
    rw [Bool.eq_iff_iff]
    simp [inR]
    try omega
theorem rightMode_any (n : Int) (w : World) :
    Calls Try.prog 83 #[.int .u8 n] w fun e w' => e = .returned (.bool (modeB n)) ∧ w = w' := by
  by_cases h1 : n = 1
  · subst h1
    go_enter Try.func83, Try.ntmps83
    go_wp2
    go_ret
    exact ⟨rfl, rfl⟩
  · have e1 := beq_no h1
    have H : Hid (modeB n = (n == 2)) := by show _ = _; unfold modeB; rw [decide_eq_false h1]; simp; rw [Bool.eq_iff_iff]; simp
    clear h1
    go_enter Try.func83, Try.ntmps83
    go_wp2
    go_ret
    exact ⟨ret_bool H.out.symm, rfl⟩
theorem index_ge {l : List UInt8} : decide ((0 : Int) ≤ Lib.indexByte l 47) = l.contains 47 := by
  have hge := Lib.indexByte_ge l 47
  by_cases h : (0 : Int) ≤ Lib.indexByte l 47
  · obtain ⟨o, ho⟩ := Int.eq_ofNat_of_zero_le h
    have := (Lib.indexByte_some (l := l) (c := 47) (o := o) ho).1
    rw [decide_eq_true h]
    exact (List.contains_iff_mem.2 (List.mem_of_getElem? this)).symm
  · have hn := Lib.indexByte_none (l := l) (c := 47) (by omega)
    rw [decide_eq_false h]
    refine (Bool.eq_false_iff.2 fun e => ?_).symm
    obtain ⟨k, hk⟩ := List.getElem?_of_mem (List.contains_iff_mem.1 e)
    exact hn k hk
theorem noSlash_any (s : ByteArray) (w : World) :
    Calls Try.prog 73 #[.string s] w fun e w' => e = .returned (.bool (noSl s)) ∧ w = w' := by
  have H : Hid (noSl s = !decide ((0 : Int) ≤ Lib.indexByte s.data.toList 47)) := by show _ = _; unfold noSl; rw [index_ge]
  by_cases he : s = ⟨#[47]⟩
  · subst he
    clear H
    go_enter Try.func73, Try.ntmps73
    go_wp2
    go_ret
    exact ⟨ret_bool (by decide), rfl⟩
  · have e1 : ([47] == s.toList) = false := by
      simp only [beq_eq_false_iff_ne]
      intro e
      rw [Lib.toList_data] at e
      exact he (ba_ext e.symm)
    have hc := Lib.hid fun w0 => Try.stringslite_IndexByte s 47 w0
    clear he
    go_enter Try.func73, Try.ntmps73
    go_wp2_with (first | (go_at_call 91; refine (hc.out _).mono ?_; rintro e w1 ⟨rfl, rfl⟩) | (go_at_call 82; go_in) | (go_at_call 88; go_in) | (go_at_call 90; go_in))
    go_outline
    go_ret
    exact ⟨ret_bool H.out.symm, rfl⟩
end Go.Proofs.Ytfndiocohaploaa.O
namespace Go.Proofs.Ytfndiocohaploaa.O
open Go.RowKit T
open Go.Lib hiding intOf
def Txts (W : World) (g : Nat) (l : List ByteArray) : Prop := g < W.heap.size ∧ ∀ i (h : i < l.length), W.cell? ⟨g, i, none⟩ = some (.string l[i])
def Phs (W : World) (g : Nat) (l : List Int) : Prop := ∀ i (h : i < l.length), W.cell? ⟨g, i, none⟩ = some (.int .u8 l[i])
theorem Txts.below {W W' : World} {g : Nat} {l : List ByteArray} (h : Txts W g l) (hb : Below W.heap.size W W') : Txts W' g l :=
  ⟨Nat.lt_of_lt_of_le h.1 hb.size, fun i hi => (hb.cell (p := ⟨g, i, none⟩) h.1).trans (h.2 i hi)⟩
theorem all_take_snoc {α : Type} {l : List α} {p : α → Bool} {k : Nat} (h : k < l.length) (hd : (l.take k).all p = true) (hk : p l[k] = true) : (l.take (k + 1)).all p = true := by
  rw [List.take_succ_eq_append_getElem h, List.all_append, hd]; simp [hk]
theorem all_take_not {α : Type} {l : List α} {p : α → Bool} {k : Nat} (h : k < l.length) (hk : p l[k] = false) : l.all p = false := by
  rw [List.all_eq_false]
  exact ⟨l[k], List.getElem_mem _, by simp [hk]⟩
theorem all_take_end {α : Type} {l : List α} {p : α → Bool} {k : Nat} (h : ¬ k < l.length) (hd : (l.take k).all p = true) : l.all p = true := by
  rwa [List.take_of_length_le (by omega)] at hd
theorem emp_true {s : ByteArray} (h : emp s = true) : s.toList.isEmpty = true := by
  unfold emp at h; rw [Lib.toList_data, of_decide_eq_true h]; rfl
theorem emp_false {s : ByteArray} (h : emp s = false) : s.toList.isEmpty = false := by
  unfold emp at h; rw [Lib.toList_data]; simpa using h
theorem emp_true' {s : ByteArray} (h : emp s = true) : s.toList = [] := by
  unfold emp at h; rw [Lib.toList_data, of_decide_eq_true h]
set_option maxHeartbeats 400000 in
theorem noneEmpty_any (l : List ByteArray) (g : Nat) (w : World) (hl : l.length ≤ 100) (ht : Txts w g l) :
    Calls Try.prog 72 #[.slice (some ⟨g, 0, none⟩) l.length l.length] w fun e w' => e = .returned (.bool (l.all fun s => !emp s)) ∧ w = w' := by
  have HT := Lib.hid ht
  clear ht
  go_enter Try.func72, Try.ntmps72
  go_wp2
  go_loop [7] (fun i => ∃ k : Nat, k ≤ l.length ∧ i = .int .i64 k ∧ Hid ((l.take k).all (fun s => !emp s) = true)) (fun i => l.length - (intOf i).toNat)
  case atStart => exact ⟨0, Nat.zero_le _, rfl, by show _ = _; simp⟩
  case round =>
    obtain ⟨k, hk, rfl, hd⟩ := hrel
    by_cases hp : k < l.length
    · have hc := HT.out.2 k hp
      cases hn : emp l[k] with
      | false =>
        have hd' := Lib.hid (all_take_snoc (p := fun s => !emp s) hp hd.out (by simp [hn]))
        have h1 := emp_false hn
        clear hd hn
        go_wp2
        go_round
        case rel => exact ⟨k + 1, by omega, by go_num, hd'⟩
        case measure => simp [intOf]; omega
      | true =>
        have hn' := Lib.hid (all_take_not (p := fun s => !emp s) hp (by simp [hn]))
        have h1 := emp_true hn
        have h2 := emp_true' hn
        clear hd hn
        go_wp2
        go_ret
        exact ⟨ret_bool hn'.out.symm, rfl⟩
    · have H := Lib.hid (all_take_end (p := fun s => !emp s) hp hd.out)
      clear hd
      go_wp2
      go_ret
      exact ⟨ret_bool H.out.symm, rfl⟩
set_option maxHeartbeats 400000 in
theorem oneOf_any (p : Int) (l : List Int) (g : Nat) (w : World) (hl : l.length ≤ 100) (ht : Phs w g l) :
    Calls Try.prog 77 #[.int .u8 p, .slice (some ⟨g, 0, none⟩) l.length l.length] w fun e w' => e = .returned (.bool (l.any fun x => decide (p = x))) ∧ w = w' := by
  have HT := Lib.hid ht
  clear ht
  go_enter Try.func77, Try.ntmps77
  go_wp2
  go_loop [9] (fun i => ∃ k : Nat, k ≤ l.length ∧ i = .int .i64 k ∧ Hid (∀ x ∈ l.take k, p ≠ x)) (fun i => l.length - (intOf i).toNat)
  case atStart => exact ⟨0, Nat.zero_le _, rfl, by show ∀ x ∈ _, _; simp⟩
  case round =>
    obtain ⟨k, hk, rfl, hd⟩ := hrel
    by_cases hp : k < l.length
    · have hc := HT.out k hp
      by_cases hn : l[k] = p
      · have hn' : Hid ((l.any fun x => decide (p = x)) = true) := List.any_eq_true.2 ⟨l[k], List.getElem_mem _, by simp [hn]⟩
        have h1 := beq_yes hn
        clear hd hn
        go_wp2
        go_ret
        exact ⟨ret_bool hn'.out.symm, rfl⟩
      · have hd' : Hid (∀ x ∈ l.take (k + 1), p ≠ x) := by
          show ∀ x ∈ _, _
          rw [List.take_succ_eq_append_getElem hp]
          intro x hx
          rcases List.mem_append.1 hx with h | h
          · exact hd.out x h
          · simp at h; subst h; exact fun e => hn e.symm
        have h1 := beq_no hn
        clear hd hn
        go_wp2
        go_round
        case rel => exact ⟨k + 1, by omega, by go_num, hd'⟩
        case measure => simp [intOf]; omega
    · have H : Hid ((l.any fun x => decide (p = x)) = false) := by
        show _ = _
        rw [List.any_eq_false]
        intro x hx
        have := hd.out x (by rwa [List.take_of_length_le (by omega)])
        simpa using this
      clear hd
      go_wp2
      go_ret
      exact ⟨ret_bool H.out.symm, rfl⟩
set_option maxHeartbeats 400000 in
theorem namesOrEmpty_any (l : List ByteArray) (g : Nat) (w : World) (hl : l.length ≤ 100) (ht : Txts w g l) :
    Calls Try.prog 58 #[.slice (some ⟨g, 0, none⟩) l.length l.length] w fun e w' => e = .returned (.bool (l.all okT)) ∧ Below w.heap.size w w' := by
  have HT := Lib.hid ht
  clear ht
  go_enter Try.func58, Try.ntmps58
  go_wp2
  go_loopw [7] (fun i wr => ∃ k : Nat, k ≤ l.length ∧ i = .int .i64 k ∧ Below w.heap.size w wr ∧ Hid ((l.take k).all okT = true)) (fun i _ => l.length - (intOf i).toNat)
  case atStart => exact ⟨0, Nat.zero_le _, rfl, Below.refl _ _, by show _ = _; simp⟩
  case round =>
    obtain ⟨k, hk, rfl, hb, hd⟩ := hrel
    rename_i wr
    by_cases hp : k < l.length
    · have hc := (HT.out.below hb).2 k hp
      cases he : emp l[k] with
      | true =>
        have hd' := Lib.hid (all_take_snoc hp hd.out (show okT l[k] = true by unfold okT; unfold emp at he; rw [he]; rfl))
        have h1 := emp_true he
        have h2 := emp_true' he
        clear hd he
        go_wp2
        go_roundw
        case rel => exact ⟨k + 1, by omega, by go_num, hb, hd'⟩
        case measure => simp [intOf]; omega
      | false =>
        have h1 := emp_false he
        have hok : okT l[k] = nameB l[k].data.toList := by unfold okT; unfold emp at he; rw [he]; rfl
        cases hn : nameB l[k].data.toList with
        | true =>
          have hd' := Lib.hid (all_take_snoc (p := okT) hp hd.out (hok.trans hn))
          have HN := Lib.hid hn
          clear hd he hok hn
          go_wp2_with fail
          refine (name_any _ _).mono ?_
          rintro e w1 ⟨rfl, hb1⟩
          rw [HN.out]
          have hb2 := hb.trans (hb1.mono hb.size)
          clear hb1
          go_wp2
          go_roundw
          case rel => exact ⟨k + 1, by omega, by go_num, hb2, hd'⟩
          case measure => simp [intOf]; omega
        | false =>
          have hn' := Lib.hid (all_take_not (p := okT) hp (hok.trans hn))
          have HN := Lib.hid hn
          clear hd he hok hn
          go_wp2_with fail
          refine (name_any _ _).mono ?_
          rintro e w1 ⟨rfl, hb1⟩
          rw [HN.out]
          have hb2 := hb.trans (hb1.mono hb.size)
          clear hb1
          go_wp2
          go_ret
          exact ⟨ret_bool hn'.out.symm, hb2⟩
    · have H := Lib.hid (all_take_end (p := okT) hp hd.out)
      clear hd
      go_wp2
      go_ret
      exact ⟨ret_bool H.out.symm, hb⟩
end Go.Proofs.Ytfndiocohaploaa.O
namespace Go.Proofs.Ytfndiocohaploaa.O
open Go.RowKit T
open Go.Lib hiding intOf
theorem eqB {a b : ByteArray} : (a.toList == b.toList) = decide (a = b) := by
  rw [Bool.eq_iff_iff, beq_iff_eq, decide_eq_true_iff, Lib.toList_data, Lib.toList_data]
  exact ⟨fun h => ba_ext h, fun h => by rw [h]⟩
theorem eqT {a b : ByteArray} : a.toList = b.toList ↔ a = b := by
  rw [Lib.toList_data, Lib.toList_data]
  exact ⟨fun h => ba_ext h, fun h => by rw [h]⟩
theorem and_if {P : Prop} [Decidable P] {X : Result Value} {b : Bool} {w : World} (h : X = .ok (.bool b) w) : (if P then X else .ok (.bool false) w) = .ok (.bool (decide P && b)) w := by
  by_cases hP : P <;> simp [hP, h]
theorem last_if {P : Prop} [Decidable P] {w : World} : (if P then (.ok (.bool true) w : Result Value) else .ok (.bool false) w) = .ok (.bool (decide P)) w := by
  by_cases hP : P <;> simp [hP]
set_option maxRecDepth 100000 in
set_option maxHeartbeats 1000000 in
theorem eql_obj (o p : Obj) (w : World) : (binOp .eql 30 (encO o) (encO p)).run Try.prog w = .ok (.bool (decide (o = p))) w := by
  obtain ⟨a1, a2, a3, a4, a5, a6, a7, a8, a9, a10, a11, a12, a13, a14, a15, a16, a17, a18, a19, a20⟩ := o
  obtain ⟨b1, b2, b3, b4, b5, b6, b7, b8, b9, b10, b11, b12, b13, b14, b15, b16, b17, b18, b19, b20⟩ := p
  unfold encO cellsO
  dsimp only
  go_simp
  simp only [eqT]
  iterate 19 refine and_if ?_
  exact last_if
end Go.Proofs.Ytfndiocohaploaa.O
namespace Go.Proofs.Ytfndiocohaploaa.O
open Go.RowKit T
open Go.Lib hiding intOf
def BoxO (W : World) (b : Nat) (o : Obj) : Prop := W.heap[b]? = some (.cells (cellsO o) 30 (0, 0))
def O0 : Obj := ⟨0, E0, 0, 0, false, false, E0, 0, 0, 0, false, false, E0, E0, E0, E0, E0, 0, 0, 0⟩
def baseO (o : Obj) : Obj := ⟨o.kind, o.name, o.version, o.born, o.deleting, o.hold, E0, 0, 0, 0, false, false, E0, E0, E0, E0, E0, 0, 0, 0⟩
theorem wp_gen {P : Program} {c : Code} {Q : Exit → Act → World → Prop} {a : Act} {W : World} (F : World → Prop) (hF : F W) (h : ∀ W1, F W1 → Code.wp P c Q a W1) : Code.wp P c Q a W := h W hF
section
variable {W W' : World} {b : Nat} {o : Obj}
theorem BoxO.lt (h : BoxO W b o) : b < W.heap.size := (Array.getElem?_eq_some_iff.1 h).1
theorem BoxO.below (h : BoxO W b o) {B : Nat} (hb : Below B W W') (hB : b < B) : BoxO W' b o := (hb.block b hB).trans h
theorem BoxO.after (h : BoxO W b o) (hb : Below W.heap.size W W') : BoxO W' b o := h.below hb h.lt
theorem BoxO.alloc (h : BoxO W b o) (x : Go.Obj) : BoxO (W.alloc x) b o := (Below.heap_alloc W x b h.lt).trans h
theorem BoxO.drew (h : BoxO W b o) : BoxO W.drew b o := h
theorem BoxO.other (h : BoxO W b o) {p : Addr} (hp : b ≠ p.block) (v : Value) : BoxO (W.setCell p v) b o := (heap_setCell_other W p b v hp).trans h
theorem BoxO.row (h : BoxO W b o) {g : Nat} (hp : b ≠ g) (cs : Array Value) : BoxO (W.setRow g cs) b o := (setRow_other W g b cs hp).trans h
theorem BoxO.at (h : BoxO W b o) (i : Nat) : W.cell? ⟨b, i, none⟩ = (cellsO o)[i]? := cell_of_row W b i _ _ _ h
theorem BoxO.free (h : BoxO W b o) (i : Nat) : W.frozen? ⟨b, i, none⟩ = false := frozen_of_row W b i _ _ h
theorem BoxO.setAt (h : BoxO W b o) (i : Nat) (v : Value) {o' : Obj} (he : (cellsO o).setIfInBounds i v = cellsO o') : BoxO (W.setCell ⟨b, i, none⟩ v) b o' := by
  have := heap_setCell_same W b i (cellsO o) 30 v h
  rw [he] at this; exact this
theorem BoxO.new (W : World) (o : Obj) : BoxO (W.alloc (.cells (cellsO o) 30)) W.heap.size o := heap_alloc_new W _
theorem BoxO.setRow (h : BoxO W b o) (o' : Obj) : BoxO (W.setRow b (cellsO o')) b o' := setRow_heap W b _ _ _ _ h
theorem BoxO.c0 (h : BoxO W b o) : W.cell? ⟨b, 0, none⟩ = some (.int .u8 o.kind) := (h.at 0).trans rfl
theorem BoxO.c1 (h : BoxO W b o) : W.cell? ⟨b, 1, none⟩ = some (.string o.name) := (h.at 1).trans rfl
theorem BoxO.c2 (h : BoxO W b o) : W.cell? ⟨b, 2, none⟩ = some (.int .u64 o.version) := (h.at 2).trans rfl
theorem BoxO.c3 (h : BoxO W b o) : W.cell? ⟨b, 3, none⟩ = some (.int .u64 o.born) := (h.at 3).trans rfl
theorem BoxO.c4 (h : BoxO W b o) : W.cell? ⟨b, 4, none⟩ = some (.bool o.deleting) := (h.at 4).trans rfl
theorem BoxO.c5 (h : BoxO W b o) : W.cell? ⟨b, 5, none⟩ = some (.bool o.hold) := (h.at 5).trans rfl
theorem BoxO.c6 (h : BoxO W b o) : W.cell? ⟨b, 6, none⟩ = some (.string o.cls) := (h.at 6).trans rfl
theorem BoxO.c7 (h : BoxO W b o) : W.cell? ⟨b, 7, none⟩ = some (.int .i64 o.size) := (h.at 7).trans rfl
theorem BoxO.c8 (h : BoxO W b o) : W.cell? ⟨b, 8, none⟩ = some (.int .i64 o.got) := (h.at 8).trans rfl
theorem BoxO.c9 (h : BoxO W b o) : W.cell? ⟨b, 9, none⟩ = some (.int .u8 o.mode) := (h.at 9).trans rfl
theorem BoxO.c10 (h : BoxO W b o) : W.cell? ⟨b, 10, none⟩ = some (.bool o.keep) := (h.at 10).trans rfl
theorem BoxO.c11 (h : BoxO W b o) : W.cell? ⟨b, 11, none⟩ = some (.bool o.wait) := (h.at 11).trans rfl
theorem BoxO.c12 (h : BoxO W b o) : W.cell? ⟨b, 12, none⟩ = some (.string o.zone) := (h.at 12).trans rfl
theorem BoxO.c13 (h : BoxO W b o) : W.cell? ⟨b, 13, none⟩ = some (.string o.node) := (h.at 13).trans rfl
theorem BoxO.c14 (h : BoxO W b o) : W.cell? ⟨b, 14, none⟩ = some (.string o.claim) := (h.at 14).trans rfl
theorem BoxO.c15 (h : BoxO W b o) : W.cell? ⟨b, 15, none⟩ = some (.string o.volume) := (h.at 15).trans rfl
theorem BoxO.c16 (h : BoxO W b o) : W.cell? ⟨b, 16, none⟩ = some (.string o.source) := (h.at 16).trans rfl
theorem BoxO.c17 (h : BoxO W b o) : W.cell? ⟨b, 17, none⟩ = some (.int .u8 o.phase) := (h.at 17).trans rfl
theorem BoxO.c18 (h : BoxO W b o) : W.cell? ⟨b, 18, none⟩ = some (.int .u64 o.num) := (h.at 18).trans rfl
theorem BoxO.c19 (h : BoxO W b o) : W.cell? ⟨b, 19, none⟩ = some (.int .u64 o.tag) := (h.at 19).trans rfl
theorem BoxO.s0 (h : BoxO W b o) (v : Int) : BoxO (W.setCell ⟨b, 0, none⟩ (.int .u8 v)) b { o with kind := v } := h.setAt 0 _ (o' := { o with kind := v }) (by simp [cellsO])
theorem BoxO.s1 (h : BoxO W b o) (v : ByteArray) : BoxO (W.setCell ⟨b, 1, none⟩ (.string v)) b { o with name := v } := h.setAt 1 _ (o' := { o with name := v }) (by simp [cellsO])
theorem BoxO.s2 (h : BoxO W b o) (v : Int) : BoxO (W.setCell ⟨b, 2, none⟩ (.int .u64 v)) b { o with version := v } := h.setAt 2 _ (o' := { o with version := v }) (by simp [cellsO])
theorem BoxO.s3 (h : BoxO W b o) (v : Int) : BoxO (W.setCell ⟨b, 3, none⟩ (.int .u64 v)) b { o with born := v } := h.setAt 3 _ (o' := { o with born := v }) (by simp [cellsO])
theorem BoxO.s4 (h : BoxO W b o) (v : Bool) : BoxO (W.setCell ⟨b, 4, none⟩ (.bool v)) b { o with deleting := v } := h.setAt 4 _ (o' := { o with deleting := v }) (by simp [cellsO])
theorem BoxO.s5 (h : BoxO W b o) (v : Bool) : BoxO (W.setCell ⟨b, 5, none⟩ (.bool v)) b { o with hold := v } := h.setAt 5 _ (o' := { o with hold := v }) (by simp [cellsO])
theorem BoxO.s6 (h : BoxO W b o) (v : ByteArray) : BoxO (W.setCell ⟨b, 6, none⟩ (.string v)) b { o with cls := v } := h.setAt 6 _ (o' := { o with cls := v }) (by simp [cellsO])
theorem BoxO.s7 (h : BoxO W b o) (v : Int) : BoxO (W.setCell ⟨b, 7, none⟩ (.int .i64 v)) b { o with size := v } := h.setAt 7 _ (o' := { o with size := v }) (by simp [cellsO])
theorem BoxO.s8 (h : BoxO W b o) (v : Int) : BoxO (W.setCell ⟨b, 8, none⟩ (.int .i64 v)) b { o with got := v } := h.setAt 8 _ (o' := { o with got := v }) (by simp [cellsO])
theorem BoxO.s9 (h : BoxO W b o) (v : Int) : BoxO (W.setCell ⟨b, 9, none⟩ (.int .u8 v)) b { o with mode := v } := h.setAt 9 _ (o' := { o with mode := v }) (by simp [cellsO])
theorem BoxO.s10 (h : BoxO W b o) (v : Bool) : BoxO (W.setCell ⟨b, 10, none⟩ (.bool v)) b { o with keep := v } := h.setAt 10 _ (o' := { o with keep := v }) (by simp [cellsO])
theorem BoxO.s11 (h : BoxO W b o) (v : Bool) : BoxO (W.setCell ⟨b, 11, none⟩ (.bool v)) b { o with wait := v } := h.setAt 11 _ (o' := { o with wait := v }) (by simp [cellsO])
theorem BoxO.s12 (h : BoxO W b o) (v : ByteArray) : BoxO (W.setCell ⟨b, 12, none⟩ (.string v)) b { o with zone := v } := h.setAt 12 _ (o' := { o with zone := v }) (by simp [cellsO])
theorem BoxO.s13 (h : BoxO W b o) (v : ByteArray) : BoxO (W.setCell ⟨b, 13, none⟩ (.string v)) b { o with node := v } := h.setAt 13 _ (o' := { o with node := v }) (by simp [cellsO])
theorem BoxO.s14 (h : BoxO W b o) (v : ByteArray) : BoxO (W.setCell ⟨b, 14, none⟩ (.string v)) b { o with claim := v } := h.setAt 14 _ (o' := { o with claim := v }) (by simp [cellsO])
theorem BoxO.s15 (h : BoxO W b o) (v : ByteArray) : BoxO (W.setCell ⟨b, 15, none⟩ (.string v)) b { o with volume := v } := h.setAt 15 _ (o' := { o with volume := v }) (by simp [cellsO])
theorem BoxO.s16 (h : BoxO W b o) (v : ByteArray) : BoxO (W.setCell ⟨b, 16, none⟩ (.string v)) b { o with source := v } := h.setAt 16 _ (o' := { o with source := v }) (by simp [cellsO])
theorem BoxO.s17 (h : BoxO W b o) (v : Int) : BoxO (W.setCell ⟨b, 17, none⟩ (.int .u8 v)) b { o with phase := v } := h.setAt 17 _ (o' := { o with phase := v }) (by simp [cellsO])
theorem BoxO.s18 (h : BoxO W b o) (v : Int) : BoxO (W.setCell ⟨b, 18, none⟩ (.int .u64 v)) b { o with num := v } := h.setAt 18 _ (o' := { o with num := v }) (by simp [cellsO])
theorem BoxO.s19 (h : BoxO W b o) (v : Int) : BoxO (W.setCell ⟨b, 19, none⟩ (.int .u64 v)) b { o with tag := v } := h.setAt 19 _ (o' := { o with tag := v }) (by simp [cellsO])
end
theorem built_base (o : Obj) : Try.prog.built 30 [(0, .int .u8 o.kind), (1, .string o.name), (2, .int .u64 o.version), (3, .int .u64 o.born), (4, .bool o.deleting), (5, .bool o.hold)] = some (cellsO (baseO o)) := by kernel_rfl
theorem wpList_build_to {P : Program} {ops : Array Oper} {rest : List Oper} {o : Oper} {a : Act} {w : World} {Q : Exit → Act → World → Prop} (hg : o.guard = none) (t : TypeId) (parts : Array (Nat × Operand)) (ho : o.op = .build t parts) (cs : Array Value)
    (hf : P.built t (parts.toList.map fun (i, x) => (i, a.eval x)) = some cs) (h : wpList P ops Q rest (a.put o.dst (.agg cs)) w) : wpList P ops Q (o :: rest) a w :=
  wpList_build hg t parts ho (by rw [Array.toList_map, hf]; rfl) (by rw [Array.toList_map, hf]; exact h)
theorem sz_cells (o p : Obj) : (cellsO o).size = (cellsO p).size := rfl
theorem undObj : Try.prog.underlying 30 = some (.struct (Try.prog.fieldsOf 30)) := by kernel_rfl
theorem sizeObj : (Try.prog.info? 30).map (·.size) = some 20 := by kernel_rfl
theorem one_cells (o : Obj) : (cellsO o).all (·.oneCell') = true := by simp [cellsO, Value.oneCell']
end Go.Proofs.Ytfndiocohaploaa.O
namespace Go.Proofs.Ytfndiocohaploaa.O
open Go.ChangeShapes Go.WideShapes Go.RowKit Go.Deep
open Go.ChangeMaps (open_string)
theorem own : ownKnob Try.prog.godebug = none := by kernel_rfl
end Go.Proofs.Ytfndiocohaploaa.O
namespace Go.Proofs.Ytfndiocohaploaa.O
open Go.RowKit T
open Go.Lib hiding intOf
theorem txts_of {W : World} {g : Nat} {l : List ByteArray} (hne : 0 < l.length) (h : ∀ i (h : i < l.length), W.cell? ⟨g, i, none⟩ = some (.string l[i])) : Txts W g l :=
  ⟨World.block_lt_of_cell? W ⟨g, 0, none⟩ (h 0 hne), h⟩
theorem noneEmpty1 (s : ByteArray) (g : Nat) (w : World) (h0 : w.cell? ⟨g, 0, none⟩ = some (.string s)) :
    Calls Try.prog 72 #[.slice (some ⟨g, 0, none⟩) 1 1] w fun e w' => e = .returned (.bool (!emp s)) ∧ w = w' :=
  (noneEmpty_any [s] g w (by simp) (txts_of (by simp) (fun i hi => by match i, hi with | 0, _ => exact h0))).mono fun e w' ⟨h, hw⟩ => ⟨by rw [h]; simp, hw⟩
theorem noneEmpty2 (s t : ByteArray) (g : Nat) (w : World) (h0 : w.cell? ⟨g, 0, none⟩ = some (.string s)) (h1 : w.cell? ⟨g, 1, none⟩ = some (.string t)) :
    Calls Try.prog 72 #[.slice (some ⟨g, 0, none⟩) 2 2] w fun e w' => e = .returned (.bool (!emp s && !emp t)) ∧ w = w' :=
  (noneEmpty_any [s, t] g w (by simp) (txts_of (by simp) (fun i hi => by match i, hi with | 0, _ => exact h0 | 1, _ => exact h1))).mono fun e w' ⟨h, hw⟩ => ⟨by rw [h]; simp, hw⟩
theorem oneOf3 (p a b c : Int) (g : Nat) (w : World) (h0 : w.cell? ⟨g, 0, none⟩ = some (.int .u8 a)) (h1 : w.cell? ⟨g, 1, none⟩ = some (.int .u8 b)) (h2 : w.cell? ⟨g, 2, none⟩ = some (.int .u8 c)) :
    Calls Try.prog 77 #[.int .u8 p, .slice (some ⟨g, 0, none⟩) 3 3] w fun e w' => e = .returned (.bool (ph3 p a b c)) ∧ w = w' :=
  (oneOf_any p [a, b, c] g w (by simp) (fun i hi => by match i, hi with | 0, _ => exact h0 | 1, _ => exact h1 | 2, _ => exact h2)).mono fun e w' ⟨h, hw⟩ => ⟨by rw [h]; simp [ph3], hw⟩
theorem oneOf4 (p a b c d : Int) (g : Nat) (w : World) (h0 : w.cell? ⟨g, 0, none⟩ = some (.int .u8 a)) (h1 : w.cell? ⟨g, 1, none⟩ = some (.int .u8 b)) (h2 : w.cell? ⟨g, 2, none⟩ = some (.int .u8 c)) (h3 : w.cell? ⟨g, 3, none⟩ = some (.int .u8 d)) :
    Calls Try.prog 77 #[.int .u8 p, .slice (some ⟨g, 0, none⟩) 4 4] w fun e w' => e = .returned (.bool (ph4 p a b c d)) ∧ w = w' :=
  (oneOf_any p [a, b, c, d] g w (by simp) (fun i hi => by match i, hi with | 0, _ => exact h0 | 1, _ => exact h1 | 2, _ => exact h2 | 3, _ => exact h3)).mono fun e w' ⟨h, hw⟩ => ⟨by rw [h]; simp [ph4], hw⟩
theorem neB (n : Int) : (n != 0) = decide (n ≠ 0) := by rw [Bool.eq_iff_iff]; simp
theorem load_obj {W : World} {b : Nat} {o : Obj} (h : BoxO W b o) {oi : Oper} {a : Act} {x : Operand} (ho : oi.op = .load 30 x) (hx : a.eval x = .pointer (some ⟨b, 0, none⟩)) :
    (execOp a.eval oi).run Try.prog W = .ok (.value (encO o)) W := by
  unfold execOp
  simp only [ho, hx, Instr.loadAt, Instr.sureAddr, Sem.run_bind, Sem.run_pure, Result.andThen_ok, run_loadVar_row W b 30 30 (cellsO o) (0, 0) _ h undObj rfl sizeObj]
  rfl
end Go.Proofs.Ytfndiocohaploaa.O
namespace Go.Proofs.Ytfndiocohaploaa.L
open Go Go.RowKit
open Go.Lib
theorem take_blk {l : Bytes} {i : Nat} : l.take ((i + 1) * 64) = l.take (i * 64) ++ blk l i := by
  unfold blk
  rw [Nat.succ_mul, List.take_add]
theorem make_bytes (W : World) (n : Nat) (hn : n ≤ 100000000000) : ∃ W', (Instr.makeSlice 48 (.int .i64 0) (.int .i64 (n : Int))).run Try.prog W = .ok (.slice (some ⟨W.heap.size, 0, none⟩) 0 n) W' ∧ Held W' W.heap.size (.slice (some ⟨W.heap.size, 0, none⟩) 0 n) [] ∧ Below W.heap.size W W' := by
  obtain ⟨i, hi, hz, hs, hb⟩ := info_parts infoByte
  obtain ⟨W', h1, h2, h3⟩ := run_make_own (P := Try.prog) W W.heap.size 48 5 i _ 1 Try.underlying48 hi hz hs .i64 .i64 n (by rw [hb]; omega) (by have : maxLen = 9223372036854775807 := rfl; omega) (Nat.le_refl _)
  exact ⟨W', h1, h2, ⟨h3.os, h3.tape, h3.output, h3.size, fun k hk => h3.block k hk (by simp)⟩⟩
theorem wpList_make_bytes {ops : Array Oper} {rest : List Oper} {o : Oper} {a : Act} {W : World} {Q : Exit → Act → World → Prop} (hg : o.guard = none) (p q : Operand) (ho : o.op = .makeSlice 48 p q) (n : Nat) (hn : n ≤ 100000000000) (hp : a.eval p = .int .i64 0) {m : Int} (hq : a.eval q = .int .i64 m) (hm : m = n)
    (h : ∀ W2 v, Held W2 W.heap.size v [] → Below W.heap.size W W2 → wpList Try.prog ops Q rest (a.put o.dst v) W2) : wpList Try.prog ops Q (o :: rest) a W := by
  subst hm
  obtain ⟨W2, h1, h2, h3⟩ := make_bytes W n hn
  refine wpList_plain hg fun K hK => ?_
  unfold Oper.wp execOp
  simp only [ho, hp, hq, Sem.run_bind, h1, Result.andThen_ok, Sem.run_pure]
  exact hK _ _ (h _ _ h2 h3)
set_option maxHeartbeats 400000 in
set_option maxRecDepth 100000 in
theorem joined_any (v : Value) (k : Nat) (l : Bytes) (w : World) (hv : BlksIn w v k l) (hk : k ≤ 1000000) :
    Calls Try.prog 62 #[v] w fun e w' => ∃ r, e = .returned r ∧ Held w' w.heap.size r l ∧ Below w.heap.size w w' := by
  obtain ⟨a, c, rfl⟩ := hv.shape
  have HV := Lib.hid hv
  clear hv
  go_enter Try.func62, Try.ntmps62
  go_wp2_with (refine wpList_make_bytes rfl _ _ rfl (k * 64) (by omega) rfl rfl (by omega) ?_)
  intro W2 b hH hB
  have HI : Hid (Held W2 w.heap.size b (l.take (0 * 64)) ∧ Below w.heap.size w W2) := ⟨by simpa using hH, hB⟩
  clear hH hB
  go_wp2
  go_loopw [3, 12] (fun b iv wr => ∃ i : Nat, i ≤ k ∧ iv = .int .i64 (i : Int) ∧ Held wr w.heap.size b (l.take (i * 64)) ∧ Below w.heap.size w wr) (fun _ iv _ => k - (RowKit.intOf iv).toNat)
  case atStart => exact ⟨0, Nat.zero_le _, rfl, HI.out⟩
  case round =>
    clear HI
    obtain ⟨i, hi, rfl, hH, hB⟩ := hrel
    have HH := Lib.hid hH
    have HB := Lib.hid hB
    clear hH hB
    by_cases hp : i < k
    · have hp' : (i : Int) < (k : Int) := by omega
      obtain ⟨g, off, cap, he, hg, hA⟩ := (HV.out.after HB.out).at hp
      obtain ⟨rfl, rfl⟩ : a = some ⟨g, off, none⟩ ∧ c = cap := by cases he; exact ⟨rfl, rfl⟩
      have HA := Lib.hid hA
      have HL : Hid ((blk l i).length = 64) := blk_length HV.out.1 hp
      clear hA hg he
      go_wp2_with (first | refine wpList_load_blk rfl rfl rfl HA.out HL.out ?_ | refine wpList_alloc_box rfl t64 rfl (zs 64) zero64 ?_)
      intro W3 hx3 hb3
      have HX3 := Lib.hid hx3
      have HB3 := Lib.hid hb3
      clear hx3 hb3
      go_wp2_with (refine wpList_store_box rfl t64 _ _ rfl wr.heap.size (zs 64) (blk l i) rfl rfl HX3.out (by rw [HL.out]; exact zs_length 64) (by rw [HL.out]; exact sizeBlk) ?_)
      intro W4 hx4 ho4 hb4
      have HX4 := Lib.hid hx4
      have HW4 : Hid (Below w.heap.size w W4) := hb4 _ _ (HB.out.trans (HB3.out.mono HB.out.size)) HB.out.size
      have HH4 : Hid (Held W4 w.heap.size u3 (l.take (i * 64))) := (HH.out.after HB3.out).of_heap fun g hg => ho4 g (by have := HH.out.lt hg; omega)
      clear hx4 ho4 hb4
      have hlen : (l.take (i * 64)).length + (blk l i).length ≤ 140737488355328 := by rw [HL.out, List.length_take, HV.out.1]; omega
      go_wp2_with (at_builtin; refine wpList_append_bytes rfl _ _ rfl w.heap.size _ _ rfl HH4.out _ _ rfl (HX4.out.bytesN HL.out (by decide)) hlen HW4.out.size ?_)
      intro b5 W5 hH5 hG5
      have HH5 : Hid (Held W5 w.heap.size b5 (l.take ((i + 1) * 64))) := by rw [take_blk]; exact hH5
      have HB5 : Hid (Below w.heap.size w W5) := HW4.out.trans (hG5.below HH4.out HW4.out.size)
      clear hH5 hG5 hlen
      go_wp2
      exact ⟨⟨i + 1, by omega, by go_num, HH5.out, HB5.out⟩, by simp [RowKit.intOf]; omega⟩
    · have hp' : ¬ (i : Int) < (k : Int) := by omega
      obtain rfl : i = k := by omega
      go_wp2
      go_ret
      exact ⟨_, rfl, by have := HH.out; rwa [List.take_of_length_le (by rw [HV.out.1]; omega)] at this, HB.out⟩
end Go.Proofs.Ytfndiocohaploaa.L
namespace Go.Proofs.Ytfndiocohaploaa.L
open Go Go.RowKit
open Go.Lib
theorem take_eq_step {l1 l2 : Bytes} {i : Nat} (h : l1.take (i * 64) = l2.take (i * 64)) (hb : blk l1 i = blk l2 i) : l1.take ((i + 1) * 64) = l2.take ((i + 1) * 64) := by rw [take_blk, take_blk, h, hb]
theorem blk_of_eq {l1 l2 : Bytes} (h : l1 = l2) (i : Nat) : blk l1 i = blk l2 i := by rw [h]
set_option maxRecDepth 100000 in
set_option maxHeartbeats 400000 in
theorem equal_any (v1 v2 : Value) (k1 k2 : Nat) (l1 l2 : Bytes) (w : World) (h1 : BlksIn w v1 k1 l1) (h2 : BlksIn w v2 k2 l2) :
    Calls Try.prog 63 #[v1, v2] w fun e w' => e = .returned (.bool (decide (l1 = l2))) ∧ Below w.heap.size w w' := by
  obtain ⟨a1, c1, rfl⟩ := h1.shape
  obtain ⟨a2, c2, rfl⟩ := h2.shape
  have hsm : k1 ≤ 9223372036854775807 ∧ k2 ≤ 9223372036854775807 := ⟨h1.small, h2.small⟩
  have HV1 := Lib.hid h1
  have HV2 := Lib.hid h2
  clear h1 h2
  by_cases hk : k1 = k2
  · subst hk
    go_enter Try.func63, Try.ntmps63
    go_wp2
    go_loopw [13] (fun iv wr => ∃ i : Nat, i ≤ k1 ∧ iv = .int .i64 (i : Int) ∧ Below w.heap.size w wr ∧ l1.take (i * 64) = l2.take (i * 64)) (fun iv _ => k1 - (RowKit.intOf iv).toNat)
    case atStart => exact ⟨0, Nat.zero_le _, rfl, Below.refl _ _, by simp⟩
    case round =>
      obtain ⟨i, hi, rfl, hB, hE⟩ := hrel
      have HB := Lib.hid hB
      have HE := Lib.hid hE
      clear hB hE
      by_cases hp : i < k1
      · have hp' : (i : Int) < (k1 : Int) := by omega
        obtain ⟨g1, o1, d1, he1, hg1, hA1⟩ := (HV1.out.after HB.out).at hp
        obtain ⟨g2, o2, d2, he2, hg2, hA2⟩ := (HV2.out.after HB.out).at hp
        obtain ⟨rfl, rfl⟩ : a1 = some ⟨g1, o1, none⟩ ∧ c1 = d1 := by cases he1; exact ⟨rfl, rfl⟩
        obtain ⟨rfl, rfl⟩ : a2 = some ⟨g2, o2, none⟩ ∧ c2 = d2 := by cases he2; exact ⟨rfl, rfl⟩
        have HC1 := Lib.hid hA1
        have HC2 := Lib.hid hA2
        have HL1 : Hid ((blk l1 i).length = 64) := blk_length HV1.out.1 hp
        have HL2 : Hid ((blk l2 i).length = 64) := blk_length HV2.out.1 hp
        clear hA1 hA2 hg1 hg2 he1 he2
        obtain ⟨bb, hbb⟩ : ∃ bb, bb = decide (blk l1 i = blk l2 i) := ⟨_, rfl⟩
        have HBB := Lib.hid hbb
        clear hbb
        go_wp2
        refine wp_region_held_drew (S := fun V => Below w.heap.size w V ∧ LiesA V g1 (o1 + i * 64) (blk l1 i) ∧ LiesA V g2 (o2 + i * 64) (blk l2 i)) (by kernel_rfl) ⟨HB.out.drew, HC1.out, HC2.out⟩ (fun _ => ?_)
        refine HeldBy.gen (fun V => Below w.heap.size w V ∧ LiesA V g1 (o1 + i * 64) (blk l1 i) ∧ LiesA V g2 (o2 + i * 64) (blk l2 i)) ⟨HB.out.drew, HC1.out, HC2.out⟩ ?_
        clear HB HC1 HC2
        rintro U0 HS
        refine HeldBy.take (i := 0) rfl (by kernel_rfl) (by kernel_rfl) (by kernel_rfl) (fun _ _ _ h => h) (by rfl) (fun _ _ => by first | (go_simp; rfl) | (go_simp; done)) (by go_simp; rfl) HS ?_
        refine HeldBy.take (i := 1) rfl (by kernel_rfl) (by kernel_rfl) (by kernel_rfl) (fun _ _ _ h => h) (by rfl) (fun _ _ => by first | (go_simp; rfl) | (go_simp; done)) (by go_simp; rfl) HS ?_
        refine HeldBy.take (i := 2) rfl (by kernel_rfl) (by kernel_rfl) (by kernel_rfl) (fun _ _ _ h => h) (by rfl) (fun _ _ => by first | (go_simp; rfl) | (go_simp; done)) (by go_simp; rfl) HS ?_
        refine HeldBy.take (i := 3) (v := encA (blk l1 i)) rfl (by kernel_rfl) (by kernel_rfl) (by kernel_rfl) (fun _ _ _ h => h) (by rfl) (fun V hV => load_blk hV.2.1 HL1.out rfl rfl) (by go_simp; rfl) HS ?_
        refine HeldBy.take (i := 4) rfl (by kernel_rfl) (by kernel_rfl) (by kernel_rfl) (fun _ _ _ h => h) (by rfl) (fun _ _ => by first | (go_simp; rfl) | (go_simp; done)) (by go_simp; rfl) HS ?_
        refine HeldBy.take (i := 5) rfl (by kernel_rfl) (by kernel_rfl) (by kernel_rfl) (fun _ _ _ h => h) (by rfl) (fun _ _ => by first | (go_simp; rfl) | (go_simp; done)) (by go_simp; rfl) HS ?_
        refine HeldBy.take (i := 6) rfl (by kernel_rfl) (by kernel_rfl) (by kernel_rfl) (fun _ _ _ h => h) (by rfl) (fun _ _ => by first | (go_simp; rfl) | (go_simp; done)) (by go_simp; rfl) HS ?_
        refine HeldBy.take (i := 7) (v := encA (blk l2 i)) rfl (by kernel_rfl) (by kernel_rfl) (by kernel_rfl) (fun _ _ _ h => h) (by rfl) (fun V hV => load_blk hV.2.2 HL2.out rfl rfl) (by go_simp; rfl) HS ?_
        refine HeldBy.take (i := 8) (v := .bool (!bb)) rfl (by kernel_rfl) (by kernel_rfl) (by kernel_rfl) (fun _ _ _ h => h) (by rfl) (fun V hV => by rw [HBB.out]; exact exec_neq_blk V HL1.out HL2.out rfl rfl rfl) (by go_simp; rfl) HS ?_
        refine wpAnyH_done (by kernel_rfl) ?_ _
        have HBN : Hid (Below w.heap.size w U0) := HS.1
        clear HS
        cases bb with
        | true =>
          have HE2 : Hid (l1.take ((i + 1) * 64) = l2.take ((i + 1) * 64)) := take_eq_step HE.out (of_decide_eq_true HBB.out.symm)
          go_wp2
          exact ⟨⟨i + 1, by omega, by go_num, HBN.out, HE2.out⟩, by simp [RowKit.intOf]; omega⟩
        | false =>
          have HQ : Hid (decide (l1 = l2) = false) := decide_eq_false fun e => of_decide_eq_false HBB.out.symm (blk_of_eq e i)
          go_wp2
          go_ret
          exact ⟨by rw [HQ.out]; rfl, HBN.out⟩
      · have hp' : ¬ (i : Int) < (k1 : Int) := by omega
        obtain rfl : i = k1 := by omega
        have HQ : Hid (decide (l1 = l2) = true) := by
          have := HE.out
          rw [List.take_of_length_le (by rw [HV1.out.1]; omega), List.take_of_length_le (by rw [HV2.out.1]; omega)] at this
          exact decide_eq_true this
        go_wp2
        go_ret
        exact ⟨by rw [HQ.out]; rfl, HB.out⟩
  · have hk' : ¬ (k1 : Int) = (k2 : Int) := by omega
    have HQ : Hid (decide (l1 = l2) = false) := decide_eq_false fun e => hk (by have e1 := HV1.out.1; have e2 := HV2.out.1; rw [e] at e1; omega)
    go_enter Try.func63, Try.ntmps63
    go_wp2
    go_ret
    exact ⟨by rw [HQ.out]; rfl, Below.refl _ _⟩
end Go.Proofs.Ytfndiocohaploaa.L
