/- Plain facts on objects, names and keys: no program is named here. -/
import Derived.Test.YtbgfccanbgpjiaaTPlain
namespace Go.Proofs.Ytbgfccanbgpjiaa.O
open Go.Lib T

/-- May a byte stand in a name? -/
def isN (c : UInt8) : Bool := isW c || (decide (c.toNat = 46) || (decide (c.toNat = 35) || decide (c.toNat = 47)))
def nameB (l : List UInt8) : Bool := decide (1 ≤ l.length) && decide (l.length ≤ 40) && l.all isN
/-- A text but the name: a name, or empty. -/
def okT (s : ByteArray) : Bool := decide (s.data.toList = []) || nameB s.data.toList
def emp (s : ByteArray) : Bool := decide (s.data.toList = [])
/-- No / in a text. -/
def noSl (s : ByteArray) : Bool := !s.data.toList.contains 47

/-- An object. -/
structure Obj where
  kind : Int
  name : ByteArray
  version : Int
  born : Int
  deleting : Bool
  hold : Bool
  cls : ByteArray
  size : Int
  got : Int
  mode : Int
  keep : Bool
  wait : Bool
  zone : ByteArray
  node : ByteArray
  claim : ByteArray
  volume : ByteArray
  source : ByteArray
  phase : Int
  num : Int
  tag : Int
deriving DecidableEq

def E0 : ByteArray := ⟨#[]⟩

/-- What its kind names, and what all have. -/
def bareO (o : Obj) : Obj :=
  if o.kind = 1 then ⟨o.kind, o.name, o.version, o.born, o.deleting, o.hold, E0, 0, 0, 0, o.keep, o.wait, o.zone, E0, E0, E0, E0, 0, 0, 0⟩
  else if o.kind = 2 then ⟨o.kind, o.name, o.version, o.born, o.deleting, o.hold, E0, 0, 0, 0, false, false, o.zone, E0, E0, E0, E0, 0, 0, 0⟩
  else if o.kind = 3 then ⟨o.kind, o.name, o.version, o.born, o.deleting, o.hold, o.cls, o.size, o.got, o.mode, false, false, o.zone, o.node, E0, o.volume, o.source, o.phase, o.num, 0⟩
  else if o.kind = 4 then ⟨o.kind, o.name, o.version, o.born, o.deleting, o.hold, o.cls, o.size, o.got, o.mode, o.keep, false, o.zone, E0, o.claim, E0, E0, o.phase, o.num, 0⟩
  else if o.kind = 5 then ⟨o.kind, o.name, o.version, o.born, o.deleting, o.hold, E0, 0, 0, 0, false, false, E0, o.node, E0, o.volume, E0, o.phase, o.num, 0⟩
  else if o.kind = 6 then ⟨o.kind, o.name, o.version, o.born, o.deleting, o.hold, E0, 0, 0, 0, false, false, E0, o.node, o.claim, E0, E0, 0, 0, 0⟩
  else if o.kind = 7 then ⟨o.kind, o.name, o.version, o.born, o.deleting, o.hold, E0, 0, o.got, 0, false, false, E0, E0, E0, o.volume, o.source, o.phase, o.num, o.tag⟩
  else ⟨o.kind, o.name, o.version, o.born, o.deleting, o.hold, E0, 0, 0, 0, false, false, E0, E0, E0, E0, E0, 0, 0, 0⟩

def attachN (v n : ByteArray) : ByteArray := v ++ ⟨#[47]⟩ ++ n
def modeB (m : Int) : Bool := decide (m = 1) || decide (m = 2)
def inR (n : Int) : Bool := decide (0 ≤ n) && decide (n ≤ 1125899906842624)
def ph3 (p a b c : Int) : Bool := decide (p = a) || (decide (p = b) || decide (p = c))
def ph4 (p a b c d : Int) : Bool := decide (p = a) || (decide (p = b) || (decide (p = c) || decide (p = d)))

def claimB (o : Obj) : Bool := !emp o.cls && (decide (o.size ≠ 0) && (modeB o.mode && (ph3 o.phase 1 2 3 && ((!emp o.volume) == decide (o.phase = 3)))))
def volumeB (o : Obj) : Bool := (!emp o.cls && !emp o.zone) && (decide (o.size ≠ 0) && (decide (o.got ≠ 0) && (modeB o.mode && (ph4 o.phase 4 3 5 6 && (!emp o.claim || !(decide (o.phase = 3) || decide (o.phase = 5)))))))
def attachB (o : Obj) : Bool := (!emp o.volume && !emp o.node) && (noSl o.node && (decide (o.name = attachN o.volume o.node) && ph3 o.phase 7 8 9))
/-- What its kind asks. -/
def kindB (o : Obj) : Bool :=
  if o.kind = 1 then true
  else if o.kind = 2 then !emp o.zone && noSl o.name
  else if o.kind = 3 then claimB o
  else if o.kind = 4 then volumeB o
  else if o.kind = 5 then attachB o
  else if o.kind = 6 then !emp o.claim
  else if o.kind = 7 then !emp o.source && ph4 o.phase 1 10 11 6
  else false
def textsB (o : Obj) : Bool := okT o.cls && (okT o.zone && (okT o.node && (okT o.claim && (okT o.volume && okT o.source))))
def rightB (o : Obj) : Bool := nameB o.name.data.toList && (decide (o = bareO o) && (textsB o && (inR o.size && (inR o.got && kindB o))))

def untouchedB (o : Obj) : Bool := decide (o.version = 0) && (decide (o.born = 0) && (decide (o.num = 0) && (decide (o.tag = 0) && !o.deleting)))
/-- What a user asks of an object of its kind. -/
def userK (o : Obj) : Bool :=
  if o.kind = 1 then true
  else if o.kind = 2 then true
  else if o.kind = 3 then decide (o.phase = 1) && ((emp o.node && (emp o.zone && emp o.volume)) && decide (o.got = 0))
  else if o.kind = 4 then decide (o.phase = 4) && (emp o.claim && decide (o.got = o.size))
  else if o.kind = 6 then emp o.node
  else if o.kind = 7 then decide (o.phase = 1) && (emp o.volume && decide (o.got = 0))
  else false
def userB (o : Obj) : Bool := rightB o && (untouchedB o && userK o)

def defO (o : Obj) : Obj :=
  if o.kind = 3 then { o with hold := true, phase := if o.phase = 0 then 1 else o.phase, mode := if o.mode = 0 then 1 else o.mode }
  else if o.kind = 4 then { o with hold := true, phase := if o.phase = 0 then 4 else o.phase, mode := if o.mode = 0 then 1 else o.mode, got := if o.got = 0 then o.size else o.got }
  else if o.kind = 7 then { o with hold := true, phase := if o.phase = 0 then 1 else o.phase }
  else if o.kind = 5 then { o with name := if o.name.data.toList = [] then attachN o.volume o.node else o.name }
  else o

theorem attachN_list (v n : ByteArray) : (attachN v n).data.toList = v.data.toList ++ 47 :: n.data.toList := by
  simp [attachN, ByteArray.data_append]
theorem ba_ext {a b : ByteArray} (h : a.data.toList = b.data.toList) : a = b := by
  obtain ⟨⟨x⟩⟩ := a
  obtain ⟨⟨y⟩⟩ := b
  simp at h
  rw [h]
theorem attachN_ne (v n : ByteArray) : (attachN v n).data.toList ≠ [] := by rw [attachN_list]; simp

theorem defO_kind (o : Obj) : (defO o).kind = o.kind := by
  unfold defO
  repeat' split
  all_goals rfl
theorem defO_twice (o : Obj) : defO (defO o) = defO o := by
  by_cases h3 : o.kind = 3
  · simp only [defO, h3, if_true]
    by_cases hp : o.phase = 0 <;> by_cases hm : o.mode = 0 <;> simp [hp, hm]
  by_cases h4 : o.kind = 4
  · simp only [defO, h4, if_true]
    by_cases hp : o.phase = 0 <;> by_cases hm : o.mode = 0 <;> by_cases hg : o.got = 0 <;> simp [hp, hm, hg]
  by_cases h7 : o.kind = 7
  · simp only [defO, h7, if_true]
    by_cases hp : o.phase = 0 <;> simp [hp]
  by_cases h5 : o.kind = 5
  · simp only [defO, h5, if_true]
    by_cases hn : o.name.data.toList = []
    · have := attachN_ne o.volume o.node
      simp [hn, this]
    · simp [hn]
  simp [defO, h3, h4, h7, h5]
end Go.Proofs.Ytbgfccanbgpjiaa.O
