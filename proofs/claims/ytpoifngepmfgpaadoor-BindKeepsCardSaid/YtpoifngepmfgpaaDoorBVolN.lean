/- What is done next for a volume, in plain Lean; a claim that is bound, and its volume, rest; what is given up has no claim. -/
import Derived.Test.YtpoifngepmfgpaaDoorBFits0
import Derived.Test.YtpoifngepmfgpaaDoorBClaim
namespace Go.Proofs.YtpoifngepmfgpaaDoor.O.B
open Go Go.Lib

def claimedN (l : List Obj) (v : Obj) : Bool := ((thereL 3 l).find? fun c => decide (refN c = v.claim)).isSome
def atN (l : List Obj) (v : Obj) : Bool := ((thereL 5 l).find? fun a => decide (a.volume = v.name)).isSome
def cutN (l : List Obj) (v : Obj) : Bool := ((thereL 7 l).find? fun s => decide (s.volume = v.name) && (s.phase == 10)).isSome
def inUseN (l : List Obj) (v : Obj) : Bool := atN l v || cutN l v
def erasingN (v : Obj) (next : Int) : Obj := { v with phase := 6, num := next }
def givenN (v : Obj) (next : Int) : Obj := if v.keep = true then { v with phase := 5 } else erasingN v next
def volumeN (l : List Obj) (ver : Int) (name : ByteArray) : Ac := match getL l 4 name with
  | none => nothing
  | some v => if v.phase = 4 ∧ v.deleting = true ∧ v.keep = false then writeA (erasingN v (IntKind.u64.wrap (ver + 1)))
    else if v.phase = 3 ∧ claimedN l v = false then writeA (givenN v (IntKind.u64.wrap (ver + 1)))
    else if v.phase = 6 ∧ inUseN l v = false then askA ⟨2, v.name, v.num, 0, E0, E0, E0⟩ else nothing

/-- A claim that is bound, and its volume. -/
def restC (c : Obj) : Obj := { c with kind := 3, phase := 3, deleting := false }
def restV (c : Obj) : Obj := { Z0 with kind := 4, name := c.volume, phase := 3, claim := refN (restC c) }
theorem rest_claim (l : List Obj) (c : Obj) (ver : Int) : claimN (restC c :: restV c :: l) ver c.name = nothing := by
  have hg : getL (restC c :: restV c :: l) 3 c.name = some (restC c) := by
    unfold getL
    exact List.find?_cons_of_pos (by simp [restC])
  unfold claimN
  rw [hg]
  show (if handleN (restC c) = E0 then nothing else if (3 : Int) = 3 then letN (restC c :: restV c :: l) (restC c) else _) = nothing
  split
  · rfl
  · rw [if_pos rfl]
    unfold letN
    rw [if_pos]
    show (!false || _) = true
    rfl
theorem rest_volume (l : List Obj) (c : Obj) (ver : Int) : volumeN (restC c :: restV c :: l) ver c.volume = nothing := by
  have hg : getL (restC c :: restV c :: l) 4 c.volume = some (restV c) := by
    unfold getL
    rw [List.find?_cons_of_neg (by simp [restC])]
    exact List.find?_cons_of_pos (by simp [restV])
  have hin : restC c ∈ thereL 3 (restC c :: restV c :: l) := there_in (i := 0) (by simp) rfl (fun j hj => absurd hj (by omega))
  have hc : claimedN (restC c :: restV c :: l) (restV c) = true := by
    unfold claimedN
    rw [List.find?_isSome]
    exact ⟨restC c, hin, by simp [restV]⟩
  unfold volumeN
  rw [hg]
  dsimp only
  rw [if_neg (fun h : (restV c).phase = 4 ∧ _ => absurd (show (3 : Int) = 4 from h.1) (by decide)), if_neg (fun h : (restV c).phase = 3 ∧ _ => by rw [hc] at h; cases h.2), if_neg (fun h : (restV c).phase = 6 ∧ _ => absurd (show (3 : Int) = 6 from h.1) (by decide))]
/-- What is written for a volume: given up with Keep, or erased; then it had no claim, or was nobody's. -/
theorem keeps_cases (l : List Obj) (ver : Int) (name : ByteArray) : (volumeN l ver name).act ≠ 1 ∨ ((volumeN l ver name).act = 1 ∧ (volumeN l ver name).obj.phase = 5 ∧ (volumeN l ver name).obj.keep = true) ∨
    ∃ v, getL l 4 name = some v ∧ volumeN l ver name = writeA (erasingN v (IntKind.u64.wrap (ver + 1))) ∧ v.keep = false ∧ (v.phase = 4 ∨ v.phase = 3 ∧ claimedN l v = false) := by
  unfold volumeN
  cases hg : getL l 4 name with
  | none => exact .inl (by show (0 : Int) ≠ 1; decide)
  | some v =>
    dsimp only
    by_cases h1 : v.phase = 4 ∧ v.deleting = true ∧ v.keep = false
    · rw [if_pos h1]
      exact .inr (.inr ⟨v, rfl, rfl, h1.2.2, .inl h1.1⟩)
    rw [if_neg h1]
    by_cases h2 : v.phase = 3 ∧ claimedN l v = false
    · rw [if_pos h2]
      unfold givenN
      cases hk : v.keep with
      | true => exact .inr (.inl ⟨rfl, rfl, rfl⟩)
      | false => exact .inr (.inr ⟨v, rfl, rfl, hk, .inr h2⟩)
    rw [if_neg h2]
    by_cases h3 : v.phase = 6 ∧ inUseN l v = false
    · rw [if_pos h3]
      exact .inl (by show (3 : Int) ≠ 1; decide)
    · rw [if_neg h3]
      exact .inl (by show (0 : Int) ≠ 1; decide)
theorem not_claimed {l : List Obj} {v : Obj} {i : Nat} (h : claimedN l v = false) (hi : i < l.length) (hk : l[i].kind = 3) (hr : refN l[i] = v.claim) (hf : ∀ j (hj : j < i), ¬ (l[j].kind = l[i].kind ∧ l[j].name = l[i].name)) : False := by
  unfold claimedN at h
  have h1 : ((thereL 3 l).find? fun c => decide (refN c = v.claim)).isSome = true := by
    rw [List.find?_isSome]
    exact ⟨l[i], there_in hi hk hf, by simpa using hr⟩
  rw [h] at h1
  cases h1
end Go.Proofs.YtpoifngepmfgpaaDoor.O.B
