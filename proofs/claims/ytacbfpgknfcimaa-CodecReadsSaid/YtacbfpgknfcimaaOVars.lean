/- The small functions of object: names of attachments, ranges, modes, what is left out, keys, and those that take any number of texts. -/
import Derived.Test.YtacbfpgknfcimaaORefName
import Derived.Test.YtacbfpgknfcimaaShelf
import Derived.Lib.IndexLaws
import Derived.Lib.Bytealg
import Derived.OwnWalk
import Derived.Outline
namespace Go.Proofs.Ytacbfpgknfcimaa.O
open Go.RowKit Go.Lib T

/-- A block that holds an object; an object as a value. -/
def cellsO (o : Obj) : Array Value := #[.int .u8 o.kind, .string o.name, .int .u64 o.version, .int .u64 o.born, .bool o.deleting, .bool o.hold, .string o.cls, .int .i64 o.size, .int .i64 o.got, .int .u8 o.mode, .bool o.keep, .bool o.wait,
  .string o.zone, .string o.node, .string o.claim, .string o.volume, .string o.source, .int .u8 o.phase, .int .u64 o.num, .int .u64 o.tag]
def encO (o : Obj) : Value := .agg (cellsO o)
def encK (k : Int) (n : ByteArray) : Value := .agg #[.int .u8 k, .string n]

theorem ret_str {a b : ByteArray} (h : a = b) : Ending.returned (.string a) = .returned (.string b) := by rw [h]

theorem attachName_any (v n : ByteArray) (w : World) (h1 : v.size ≤ 140737488351232) (h2 : n.size ≤ 140737488351232) :
    Calls Try.prog 47 #[.string v, .string n] w fun e w' => e = .returned (.string (attachN v n)) ∧ w = w' := by
  go_enter Try.func47, Try.ntmps47
  go_wp2
  go_ret
  exact ⟨rfl, rfl⟩
theorem refAttachName_any (v n : ByteArray) (w : World) (h1 : v.size ≤ 140737488351232) (h2 : n.size ≤ 140737488351232) :
    Calls Try.prog 42 #[.string v, .string n] w fun e w' => e = .returned (.string (attachN v n)) ∧ w = w' := by
  go_enter Try.func42, Try.ntmps42
  go_wp2
  go_ret
  exact ⟨rfl, rfl⟩

theorem inRange_any (n : Int) (w : World) :
    Calls Try.prog 53 #[.int .i64 n] w fun e w' => e = .returned (.bool (inR n)) ∧ w = w' := by
  have hcase : n < 0 ∨ (0 ≤ n ∧ n ≤ 1125899906842624) ∨ (0 ≤ n ∧ 1125899906842624 < n) := by omega
  rcases hcase with h | ⟨h, h'⟩ | ⟨h, h'⟩
  all_goals
    go_enter Try.func53, Try.ntmps53
    go_wp2
    go_ret
    refine ⟨ret_bool ?_, rfl⟩
    rw [Bool.eq_iff_iff]
    simp [inR]
    try omega

theorem rightMode_any (n : Int) (w : World) :
    Calls Try.prog 81 #[.int .u8 n] w fun e w' => e = .returned (.bool (modeB n)) ∧ w = w' := by
  by_cases h1 : n = 1
  · subst h1
    go_enter Try.func81, Try.ntmps81
    go_wp2
    go_ret
    exact ⟨rfl, rfl⟩
  · have e1 := beq_no h1
    have H : Hid (modeB n = (n == 2)) := by show _ = _; unfold modeB; rw [decide_eq_false h1]; simp; rw [Bool.eq_iff_iff]; simp
    clear h1
    go_enter Try.func81, Try.ntmps81
    go_wp2
    go_ret
    exact ⟨ret_bool H.out.symm, rfl⟩

theorem orPhase_any (x y : Int) (w : World) :
    Calls Try.prog 43 #[.int .u8 x, .int .u8 y] w fun e w' => e = .returned (.int .u8 (if x = 0 then y else x)) ∧ w = w' := by
  by_cases h : x = 0
  · subst h
    go_enter Try.func43, Try.ntmps43
    go_wp2
    go_ret
    exact ⟨by simp, rfl⟩
  · have e1 := beq_no h
    have h' := Lib.hid h
    clear h
    go_enter Try.func43, Try.ntmps43
    go_wp2
    go_ret
    exact ⟨rfl, rfl⟩
theorem orMode_any (x y : Int) (w : World) :
    Calls Try.prog 44 #[.int .u8 x, .int .u8 y] w fun e w' => e = .returned (.int .u8 (if x = 0 then y else x)) ∧ w = w' := by
  by_cases h : x = 0
  · subst h
    go_enter Try.func44, Try.ntmps44
    go_wp2
    go_ret
    exact ⟨by simp, rfl⟩
  · have e1 := beq_no h
    have h' := Lib.hid h
    clear h
    go_enter Try.func44, Try.ntmps44
    go_wp2
    go_ret
    exact ⟨rfl, rfl⟩
theorem orInt_any (x y : Int) (w : World) :
    Calls Try.prog 45 #[.int .i64 x, .int .i64 y] w fun e w' => e = .returned (.int .i64 (if x = 0 then y else x)) ∧ w = w' := by
  by_cases h : x = 0
  · subst h
    go_enter Try.func45, Try.ntmps45
    go_wp2
    go_ret
    exact ⟨by simp, rfl⟩
  · have e1 := beq_no h
    have h' := Lib.hid h
    clear h
    go_enter Try.func45, Try.ntmps45
    go_wp2
    go_ret
    exact ⟨rfl, rfl⟩
theorem orStr_any (x y : ByteArray) (w : World) :
    Calls Try.prog 46 #[.string x, .string y] w fun e w' => e = .returned (.string (if x.data.toList = [] then y else x)) ∧ w = w' := by
  by_cases h : x.data.toList = []
  · have h1 : x.toList.isEmpty = true := by rw [Lib.toList_data, h]; rfl
    have h' := Lib.hid h
    clear h
    go_enter Try.func46, Try.ntmps46
    go_wp2
    go_ret
    exact ⟨rfl, rfl⟩
  · have h1 : x.toList.isEmpty = false := by rw [Lib.toList_data]; simpa using h
    have h' := Lib.hid h
    clear h
    go_enter Try.func46, Try.ntmps46
    go_wp2
    go_ret
    exact ⟨rfl, rfl⟩

theorem index_ge {l : List UInt8} : decide ((0 : Int) ≤ Lib.indexByte l 47) = l.contains 47 := by
  have hge := Lib.indexByte_ge l 47
  by_cases h : (0 : Int) ≤ Lib.indexByte l 47
  · obtain ⟨o, ho⟩ := Int.eq_ofNat_of_zero_le h
    have := (Lib.indexByte_some (l := l) (c := 47) (o := o) ho).1
    rw [decide_eq_true h]
    exact (List.contains_iff_mem.2 (List.mem_of_getElem? this)).symm
  · have hn := Lib.indexByte_none (l := l) (c := 47) (by omega)
    rw [decide_eq_false h]
    refine (Bool.eq_false_iff.2 fun e => ?_).symm
    obtain ⟨k, hk⟩ := List.getElem?_of_mem (List.contains_iff_mem.1 e)
    exact hn k hk
theorem noSlash_any (s : ByteArray) (w : World) :
    Calls Try.prog 72 #[.string s] w fun e w' => e = .returned (.bool (noSl s)) ∧ w = w' := by
  have H : Hid (noSl s = !decide ((0 : Int) ≤ Lib.indexByte s.data.toList 47)) := by show _ = _; unfold noSl; rw [index_ge]
  by_cases he : s = ⟨#[47]⟩
  · subst he
    clear H
    go_enter Try.func72, Try.ntmps72
    go_wp2
    go_ret
    exact ⟨ret_bool (by decide), rfl⟩
  · have e1 : ([47] == s.toList) = false := by
      simp only [beq_eq_false_iff_ne]
      intro e
      rw [Lib.toList_data] at e
      exact he (ba_ext e.symm)
    have hc := Lib.hid fun w0 => Try.stringslite_IndexByte s 47 w0
    clear he
    go_enter Try.func72, Try.ntmps72
    go_wp2_with (first | (go_at_call 84; refine (hc.out _).mono ?_; rintro e w1 ⟨rfl, rfl⟩) | (go_at_call 80; go_in) | (go_at_call 82; go_in) | (go_at_call 83; go_in))
    go_outline
    go_ret
    exact ⟨ret_bool H.out.symm, rfl⟩
end Go.Proofs.Ytacbfpgknfcimaa.O
