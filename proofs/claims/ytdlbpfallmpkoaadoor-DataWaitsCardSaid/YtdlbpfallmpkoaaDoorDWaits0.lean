/- A snapshot that goes waits while a claim is being made of it: in plain Lean. -/
import Derived.Test.YtdlbpfallmpkoaaDoorDFew
import Derived.Test.YtdlbpfallmpkoaaDoorKUniqP
namespace Go.Proofs.YtdlbpfallmpkoaaDoor.O.B
open Go Go.Lib

def zzN : ByteArray := ⟨#[122, 122]⟩
/-- The claim that is being made. -/
def zzC (n : ByteArray) : Obj := { Z0 with kind := 3, name := zzN, phase := 2, source := n }
theorem there_zz (l : List Obj) (n : ByteArray) (hz : getL l 3 zzN = none) : thereL 3 (l ++ [zzC n]) = thereL 3 l ++ [zzC n] := by
  unfold thereL
  rw [List.foldl_append]
  show stepT 3 (thereL 3 l) (zzC n) = _
  have h : ((thereL 3 l).find? fun y => decide (y.name = (zzC n).name)).isNone = true := by
    show ((thereL 3 l).find? fun y => decide (y.name = zzN)).isNone = true
    rw [there_find, hz]
    rfl
  unfold stepT
  rw [if_pos ⟨rfl, h⟩]
  rfl
theorem waits_plain (l : List Obj) (ver : Int) (n : ByteArray) (s : Obj) (hs : getL l 7 n = some s) (hd : s.deleting = true) (hz : getL l 3 zzN = none) : snapD (l ++ [zzC n]) ver n = nothing := by
  have hg : getL (l ++ [zzC n]) 7 n = some s := by rw [getL_append, hs]; rfl
  have hn : s.name = n := (get_some hs).2
  have hm : madeOf (l ++ [zzC n]) s = true := by
    unfold madeOf
    rw [there_zz l n hz, List.find?_append, Option.isSome_or]
    have : ([zzC n].find? fun c => (c.phase == 2) && decide (c.source = s.name)).isSome = true := by
      rw [List.find?_cons_of_pos (by rw [hn]; simp [zzC])]
      rfl
    rw [this, Bool.or_true]
  unfold snapD
  rw [hg]
  show (if handleD s = E0 then nothing else goN (l ++ [zzC n]) s (up ver)) = nothing
  unfold goN
  rw [if_pos hd, if_pos hm]
  split <;> rfl
end Go.Proofs.YtdlbpfallmpkoaaDoor.O.B
