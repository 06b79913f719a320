/- What is done next for claims that grow and for snapshots, in plain Lean. -/
import Derived.Test.YtfpdchabknoklaaDoorKAct
import Derived.Test.YtfpdchabknoklaaDoorKBorn
namespace Go.Proofs.YtfpdchabknoklaaDoor.O.B
open Go Go.Lib

/-- The next number. -/
def up (t : Int) : Int := IntKind.u64.wrap (t + 1)
/-- A claim, its volume, and whether both are bound. -/
def clD (l : List Obj) (n : ByteArray) : Obj := (getL l 3 n).getD O0
def voD (l : List Obj) (n : ByteArray) : Obj := (getL l 4 (clD l n).volume).getD O0
def okD (l : List Obj) (n : ByteArray) : Bool := (getL l 3 n).isSome && ((getL l 4 (clD l n).volume).isSome && (((clD l n).phase == 3) && ((voD l n).phase == 3)))
def growN (c v : Obj) (next : Int) : Ac :=
  if v.got < c.size then (if c.size ≤ v.size ∧ v.num ≠ 0 then askA ⟨5, v.name, v.num, v.size, E0, E0, E0⟩ else writeA { v with size := max v.size c.size, num := next })
  else if c.got = v.got then nothing else writeA { c with got := v.got }
def claimD (l : List Obj) (ver : Int) (n : ByteArray) : Ac := if okD l n = true then growN (clD l n) (voD l n) (up ver) else nothing
/-- A snapshot's name at the driver. -/
def snapP : ByteArray := ⟨#[115, 110, 97, 112, 47]⟩
def snapN (o : Obj) : ByteArray := snapP ++ bornN o
def handleD (o : Obj) : ByteArray := if 40 < (snapN o).size then E0 else snapN o
/-- Whether a volume is being made of it. -/
def madeOf (l : List Obj) (s : Obj) : Bool := ((thereL 3 l).find? fun c => (c.phase == 2) && decide (c.source = s.name)).isSome
def renewN (s : Obj) (next : Int) : Ac := writeA { s with num := next }
def dropN (s : Obj) : Ac := askA ⟨7, handleD s, s.num, 0, E0, E0, E0⟩
def goN (l : List Obj) (s : Obj) (next : Int) : Ac :=
  if s.deleting = true then (if madeOf l s = true then nothing else if s.phase = 6 then dropN s else writeA { s with phase := 6, num := next })
  else if s.phase = 6 then dropN s
  else if s.phase = 1 then (if okD l s.source = true then writeA { s with phase := 10, volume := (voD l s.source).name, num := next } else nothing)
  else if s.phase = 10 then askA ⟨6, handleD s, s.num, 0, E0, E0, s.volume⟩ else nothing
def snapD (l : List Obj) (ver : Int) (n : ByteArray) : Ac := match getL l 7 n with
  | none => nothing
  | some s => if handleD s = E0 then nothing else goN l s (up ver)
end Go.Proofs.YtfpdchabknoklaaDoor.O.B
