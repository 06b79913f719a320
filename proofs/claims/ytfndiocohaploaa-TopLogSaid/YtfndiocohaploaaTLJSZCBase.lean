/- Own work. -/
import Derived.Laws.Bits64
import Derived.WalkArith
import Derived.Test.YtfndiocohaploaaTLJLawEnd
import Derived.Deep.DeepCutAuto
import Derived.Test.YtfndiocohaploaaTLJSZORightB
namespace Go.Proofs.Ytfndiocohaploaa.C
open Go.Lib T O
abbrev Bytes := List UInt8
abbrev Rd (α : Type) := Bytes → Option (α × Bytes)
structure Law {α : Type} (P : Rd α) (W : α → Bytes) (G : α → Prop) : Prop where
  back : ∀ a r, G a → P (W a ++ r) = some (a, r)
  only : ∀ bs a r, P bs = some (a, r) → G a ∧ bs = W a ++ r
section
variable {α β : Type} {P : Rd α} {W : α → Bytes} {G : α → Prop} {P2 : Rd β} {W2 : β → Bytes} {G2 : β → Prop}
def mapR (f : α → β) (P : Rd α) : Rd β := fun bs => (P bs).map fun x => (f x.1, x.2)
def keepR (c : α → Bool) (P : Rd α) : Rd α := fun bs => (P bs).bind fun x => if c x.1 then some x else none
def pairR (P : Rd α) (P2 : Rd β) : Rd (α × β) := fun bs => (P bs).bind fun x => (P2 x.2).map fun y => ((x.1, y.1), y.2)
theorem Law.map (L : Law P W G) (f : α → β) (g : β → α) (G' : β → Prop) (h1 : ∀ b, G' b → G (g b) ∧ f (g b) = b) (h2 : ∀ a, G a → G' (f a) ∧ g (f a) = a) : Law (mapR f P) (fun b => W (g b)) G' where
  back := fun b r hb => by
    unfold mapR
    rw [L.back _ r (h1 b hb).1]
    simp [(h1 b hb).2]
  only := fun bs b r h => by
    unfold mapR at h
    cases hp : P bs with
    | none => rw [hp] at h; cases h
    | some x =>
      rw [hp] at h
      simp only [Option.map_some, Option.some.injEq, Prod.mk.injEq] at h
      obtain ⟨rfl, rfl⟩ := h
      obtain ⟨hg, he⟩ := L.only bs x.1 x.2 hp
      exact ⟨(h2 _ hg).1, by rw [(h2 _ hg).2]; exact he⟩
theorem Law.keep (L : Law P W G) (c : α → Bool) : Law (keepR c P) W (fun a => G a ∧ c a = true) where
  back := fun a r ⟨ha, hc⟩ => by
    unfold keepR
    rw [L.back _ r ha]
    simp [hc]
  only := fun bs a r h => by
    unfold keepR at h
    cases hp : P bs with
    | none => rw [hp] at h; cases h
    | some x =>
      rw [hp] at h
      simp only [Option.bind_some] at h
      by_cases hc : c x.1 = true
      · rw [if_pos hc] at h
        obtain rfl := Option.some.inj h
        obtain ⟨hg, he⟩ := L.only bs a r hp
        exact ⟨⟨hg, hc⟩, he⟩
      · rw [if_neg hc] at h; cases h
theorem Law.pair (L : Law P W G) (L2 : Law P2 W2 G2) : Law (pairR P P2) (fun x => W x.1 ++ W2 x.2) (fun x => G x.1 ∧ G2 x.2) where
  back := fun x r ⟨h1, h2⟩ => by
    unfold pairR
    rw [List.append_assoc, L.back _ _ h1]
    simp [L2.back _ _ h2]
  only := fun bs x r h => by
    unfold pairR at h
    cases hp : P bs with
    | none => rw [hp] at h; cases h
    | some y =>
      rw [hp] at h
      simp only [Option.bind_some] at h
      cases hp2 : P2 y.2 with
      | none => rw [hp2] at h; cases h
      | some z =>
        rw [hp2] at h
        simp only [Option.map_some, Option.some.injEq, Prod.mk.injEq] at h
        obtain ⟨rfl, rfl⟩ := h
        obtain ⟨g1, e1⟩ := L.only bs y.1 y.2 hp
        obtain ⟨g2, e2⟩ := L2.only y.2 z.1 z.2 hp2
        exact ⟨⟨g1, g2⟩, by rw [e1, e2, List.append_assoc]⟩
def allR (P : Rd α) (bs : Bytes) : Option α := (P bs).bind fun x => if x.2 = [] then some x.1 else none
theorem Law.all_back (L : Law P W G) {a : α} (h : G a) : allR P (W a) = some a := by
  unfold allR
  have := L.back a [] h
  rw [List.append_nil] at this
  rw [this]; rfl
theorem Law.more (L : Law P W G) {a : α} (h : G a) {r : Bytes} (hr : r ≠ []) : allR P (W a ++ r) = none := by
  unfold allR
  rw [L.back a r h]
  simp [hr]
theorem Law.inj (L : Law P W G) {a b : α} (ha : G a) (hb : G b) (h : W a = W b) : a = b := by
  have h1 := L.all_back ha
  rw [h, L.all_back hb] at h1
  exact (Option.some.inj h1).symm
end
def numB (n : Nat) : Bytes := if h : n < 128 then [UInt8.ofNat n] else UInt8.ofNat (n % 128 + 128) :: numB (n / 128)
termination_by n
decreasing_by omega
theorem numB_small {n : Nat} (h : n < 128) : numB n = [UInt8.ofNat n] := by rw [numB, dif_pos h]
theorem numB_big {n : Nat} (h : ¬ n < 128) : numB n = UInt8.ofNat (n % 128 + 128) :: numB (n / 128) := by rw [numB, dif_neg h]
def badAt (i : Nat) (b : UInt8) : Bool := (decide (0 < i) && decide (b.toNat = 0)) || (decide (i = 9) && decide (1 < b.toNat))
def rdN (i acc : Nat) : Rd Nat
  | [] => none
  | b :: bs => if badAt i b then none else if b.toNat < 128 then some (acc + b.toNat * 2 ^ (7 * i), bs) else rdN (i + 1) (acc + b.toNat % 128 * 2 ^ (7 * i)) bs
def rdNum : Rd Nat := rdN 0 0
theorem pow_step {i : Nat} (h : i + 1 ≤ 9) : 2 ^ (64 - 7 * i) = 128 * 2 ^ (64 - 7 * (i + 1)) := by
  rw [show 64 - 7 * i = 7 + (64 - 7 * (i + 1)) by omega, Nat.pow_add]
theorem pow_next (i : Nat) : 2 ^ (7 * (i + 1)) = 128 * 2 ^ (7 * i) := by
  rw [show 7 * (i + 1) = 7 + 7 * i by omega, Nat.pow_add]
theorem pow_big {i : Nat} (h : i ≤ 8) : 256 ≤ 2 ^ (64 - 7 * i) := by
  rw [show (256 : Nat) = 2 ^ 8 from rfl]
  exact Nat.pow_le_pow_right (by decide) (by omega)
theorem toNat_ofNat {n : Nat} (h : n < 256) : (UInt8.ofNat n).toNat = n := by
  rw [UInt8.toNat_ofNat']
  omega
theorem rdN_back : ∀ (m i acc : Nat) (r : Bytes), i ≤ 9 → m < 2 ^ (64 - 7 * i) → (0 < i → 0 < m) → rdN i acc (numB m ++ r) = some (acc + m * 2 ^ (7 * i), r) := by
  intro m
  induction m using Nat.strongRecOn with
  | ind m ih =>
    intro i acc r hi hm h0
    by_cases h : m < 128
    · rw [numB_small h]
      have e : (UInt8.ofNat m).toNat = m := toNat_ofNat (by omega)
      have hb : badAt i (UInt8.ofNat m) = false := by
        unfold badAt
        rw [e]
        by_cases i9 : i = 9
        · subst i9
          have : m < 2 := by simpa using hm
          have := h0 (by decide)
          simp; omega
        · simp [i9]; omega
      simp [rdN, hb, e, h]
    · rw [numB_big h]
      have e : (UInt8.ofNat (m % 128 + 128)).toNat = m % 128 + 128 := toNat_ofNat (by omega)
      have i9 : i + 1 ≤ 9 := by
        by_cases i9 : i = 9
        · subst i9
          have : m < 2 := by simpa using hm
          omega
        · omega
      have hb : badAt i (UInt8.ofNat (m % 128 + 128)) = false := by
        unfold badAt
        rw [e]
        simp; omega
      have hp := pow_step i9
      have hx := pow_next i
      have hl : m / 128 < 2 ^ (64 - 7 * (i + 1)) := by rw [hp] at hm; omega
      have := ih (m / 128) (by omega) (i + 1) (acc + (m % 128 + 128) % 128 * 2 ^ (7 * i)) r i9 hl (fun _ => by omega)
      rw [List.cons_append, rdN, hb, e, if_neg (by simp), if_neg (by omega), this, hx]
      congr 2
      rw [show (m % 128 + 128) % 128 = m % 128 by omega, Nat.add_assoc]
      congr 1
      rw [show m / 128 * (128 * 2 ^ (7 * i)) = (128 * (m / 128)) * 2 ^ (7 * i) by rw [← Nat.mul_assoc, Nat.mul_comm (m / 128) 128], ← Nat.add_mul]
      congr 1
      omega
theorem rdN_only : ∀ (bs : Bytes) (i acc n : Nat) (r : Bytes), i ≤ 9 → rdN i acc bs = some (n, r) → ∃ m, n = acc + m * 2 ^ (7 * i) ∧ bs = numB m ++ r ∧ m < 2 ^ (64 - 7 * i) ∧ (0 < i → 0 < m) := by
  intro bs
  induction bs with
  | nil => intro i acc n r _ h; cases h
  | cons b bs ih =>
    intro i acc n r hi h
    rw [rdN] at h
    by_cases hb : badAt i b = true
    · rw [if_pos hb] at h; cases h
    rw [if_neg hb] at h
    have hb' : ¬ (0 < i ∧ b.toNat = 0) ∧ ¬ (i = 9 ∧ 1 < b.toNat) := by
      unfold badAt at hb
      simpa using hb
    have hlt : b.toNat < 256 := b.toNat_lt
    by_cases hs : b.toNat < 128
    · rw [if_pos hs] at h
      simp only [Option.some.injEq, Prod.mk.injEq] at h
      obtain ⟨rfl, rfl⟩ := h
      refine ⟨b.toNat, rfl, ?_, ?_, fun hi0 => ?_⟩
      · rw [numB_small hs]; simp
      · by_cases i9 : i = 9
        · subst i9
          show b.toNat < 2
          have := hb'.2
          omega
        · have := pow_big (i := i) (by omega)
          omega
      · have := hb'.1
        omega
    · rw [if_neg hs] at h
      have i9 : i + 1 ≤ 9 := by
        by_cases i9 : i = 9
        · exact absurd ⟨i9, by omega⟩ hb'.2
        · omega
      obtain ⟨m, rfl, rfl, hm, hm0⟩ := ih (i + 1) _ n r i9 h
      have hm1 := hm0 (by omega)
      have hp := pow_step i9
      have hx := pow_next i
      refine ⟨b.toNat % 128 + 128 * m, ?_, ?_, ?_, fun _ => by omega⟩
      · rw [hx, Nat.add_assoc]
        congr 1
        rw [show m * (128 * 2 ^ (7 * i)) = (128 * m) * 2 ^ (7 * i) by rw [← Nat.mul_assoc, Nat.mul_comm m 128], ← Nat.add_mul]
      · rw [numB_big (n := b.toNat % 128 + 128 * m) (by omega), show (b.toNat % 128 + 128 * m) % 128 + 128 = b.toNat by omega, show (b.toNat % 128 + 128 * m) / 128 = m by omega]
        simp
      · rw [hp]; omega
theorem lawNum : Law rdNum numB (fun n => n < 2 ^ 64) where
  back := fun n r h => by
    have := rdN_back n 0 0 r (by decide) h (fun h => absurd h (by decide))
    rw [Nat.mul_zero, Nat.pow_zero, Nat.mul_one, Nat.zero_add] at this
    exact this
  only := fun bs n r h => by
    obtain ⟨m, h1, h2, h3, -⟩ := rdN_only bs 0 0 n r (by decide) h
    rw [Nat.mul_zero, Nat.pow_zero, Nat.mul_one, Nat.zero_add] at h1
    subst h1
    exact ⟨h3, h2⟩
def txtB (s : ByteArray) : Bytes := numB s.size ++ s.data.toList
def rdTxt : Rd ByteArray := fun bs => (rdNum bs).bind fun x => if x.1 ≤ x.2.length then some (⟨(x.2.take x.1).toArray⟩, x.2.drop x.1) else none
theorem lawTxt : Law rdTxt txtB (fun s => s.size < 2 ^ 64) where
  back := fun s r h => by
    unfold rdTxt txtB
    rw [List.append_assoc, lawNum.back _ _ h]
    have e : s.data.toList.length = s.size := size_list s
    show (if s.size ≤ (s.data.toList ++ r).length then some (⟨((s.data.toList ++ r).take s.size).toArray⟩, (s.data.toList ++ r).drop s.size) else none) = some (s, r)
    rw [if_pos (by rw [List.length_append, e]; omega), ← e, List.take_left, List.drop_left]
  only := fun bs s r h => by
    unfold rdTxt at h
    cases hp : rdNum bs with
    | none => rw [hp] at h; cases h
    | some x =>
      rw [hp] at h
      simp only [Option.bind_some] at h
      by_cases hx : x.1 ≤ x.2.length
      · rw [if_pos hx] at h
        simp only [Option.some.injEq, Prod.mk.injEq] at h
        obtain ⟨rfl, rfl⟩ := h
        obtain ⟨hg, he⟩ := lawNum.only bs x.1 x.2 hp
        have e : (ByteArray.mk (x.2.take x.1).toArray).size = x.1 := by
          rw [← size_list]
          show ((x.2.take x.1).toArray.toList).length = x.1
          rw [List.length_take]
          omega
        refine ⟨by rw [e]; exact hg, ?_⟩
        unfold txtB
        rw [e, he, List.append_assoc]
        simp
      · rw [if_neg hx] at h; cases h
def rdByte : Rd UInt8
  | [] => none
  | b :: bs => some (b, bs)
theorem lawByte : Law rdByte (fun b => [b]) (fun _ => True) where
  back := fun b r _ => rfl
  only := fun bs b r h => by
    cases bs with
    | nil => cases h
    | cons c cs =>
      simp only [rdByte, Option.some.injEq, Prod.mk.injEq] at h
      obtain ⟨rfl, rfl⟩ := h
      exact ⟨trivial, rfl⟩
end Go.Proofs.Ytfndiocohaploaa.C
namespace Go.Proofs.Ytfndiocohaploaa.C
open Go.Lib T O
def byteB (n : Int) : Bytes := [UInt8.ofNat n.toNat]
def rdU8 : Rd Int := mapR (fun b => (b.toNat : Int)) rdByte
theorem lawU8 : Law rdU8 byteB (fun n => 0 ≤ n ∧ n ≤ 255) :=
  lawByte.map (fun b => (b.toNat : Int)) (fun n => UInt8.ofNat n.toNat) _ (fun n h => ⟨trivial, by rw [toNat_ofNat (by omega)]; omega⟩) (fun b _ => ⟨by have := b.toNat_lt; omega, by simp⟩)
def intB (n : Int) : Bytes := numB n.toNat
def rdU64 : Rd Int := mapR (fun n : Nat => (n : Int)) rdNum
theorem lawU64 : Law rdU64 intB (fun n => 0 ≤ n ∧ n < 18446744073709551616) :=
  lawNum.map (fun n : Nat => (n : Int)) (fun n => n.toNat) _ (fun n h => ⟨by show n.toNat < 18446744073709551616; omega, by show ((n.toNat : Nat) : Int) = n; omega⟩) (fun n h => ⟨by have : n < 18446744073709551616 := h; omega, by show (n : Int).toNat = n; omega⟩)
def rdSize : Rd Int := keepR (fun n => decide (n ≤ 1125899906842624)) rdU64
theorem lawSize : Law rdSize intB (fun n => (0 ≤ n ∧ n < 18446744073709551616) ∧ decide (n ≤ 1125899906842624) = true) := lawU64.keep _
def flagN (d h k w : Bool) : Nat := (if d then 1 else 0) + (if h then 2 else 0) + (if k then 4 else 0) + (if w then 8 else 0)
def flagsOf (b : UInt8) : Bool × Bool × Bool × Bool := (decide (b.toNat % 2 = 1), decide (b.toNat / 2 % 2 = 1), decide (b.toNat / 4 % 2 = 1), decide (b.toNat / 8 % 2 = 1))
def flagsB (x : Bool × Bool × Bool × Bool) : Bytes := [UInt8.ofNat (flagN x.1 x.2.1 x.2.2.1 x.2.2.2)]
def rdFlags : Rd (Bool × Bool × Bool × Bool) := mapR flagsOf (keepR (fun b => decide (b.toNat < 16)) rdByte)
theorem flags_back : ∀ d h k w : Bool, (UInt8.ofNat (flagN d h k w)).toNat < 16 ∧ flagsOf (UInt8.ofNat (flagN d h k w)) = (d, h, k, w) := by decide
theorem flags_only (n : Nat) (h : n < 16) : UInt8.ofNat (flagN (decide (n % 2 = 1)) (decide (n / 2 % 2 = 1)) (decide (n / 4 % 2 = 1)) (decide (n / 8 % 2 = 1))) = UInt8.ofNat n := by
  revert n; decide
theorem lawFlags : Law rdFlags flagsB (fun _ => True) :=
  (lawByte.keep _).map flagsOf (fun x => UInt8.ofNat (flagN x.1 x.2.1 x.2.2.1 x.2.2.2)) _
    (fun x _ => ⟨⟨trivial, decide_eq_true (flags_back x.1 x.2.1 x.2.2.1 x.2.2.2).1⟩, (flags_back x.1 x.2.1 x.2.2.1 x.2.2.2).2⟩)
    (fun b h => ⟨trivial, by
      have h2 : b.toNat < 16 := of_decide_eq_true h.2
      have := flags_only b.toNat h2
      exact this.trans (by simp)⟩)
def goneB (g : Bool) : Bytes := [if g then 1 else 0]
def rdGone : Rd Bool := mapR (fun b => decide (b.toNat = 1)) (keepR (fun b => decide (b.toNat ≤ 1)) rdByte)
theorem lawGone : Law rdGone goneB (fun _ => True) :=
  (lawByte.keep _).map (fun b => decide (b.toNat = 1)) (fun g => if g then 1 else 0) _
    (fun g _ => by cases g <;> exact ⟨⟨trivial, by decide⟩, by decide⟩)
    (fun b h => ⟨trivial, by
      have h2 : b.toNat ≤ 1 := of_decide_eq_true h.2
      have h3 : b.toNat = 0 ∨ b.toNat = 1 := by omega
      rcases h3 with h3 | h3
      · rw [h3]; exact (UInt8.toNat_inj.1 h3).symm
      · rw [h3]; exact (UInt8.toNat_inj.1 h3).symm⟩)
abbrev Row := Int × ByteArray × Int × Int × (Bool × Bool × Bool × Bool) × ByteArray × Int × Int × Int × ByteArray × ByteArray × ByteArray × ByteArray × ByteArray × Int × Int × Int
def toRow (o : O.Obj) : Row := (o.kind, o.name, o.version, o.born, (o.deleting, o.hold, o.keep, o.wait), o.cls, o.size, o.got, o.mode, o.zone, o.node, o.claim, o.volume, o.source, o.phase, o.num, o.tag)
def ofRow (x : Row) : O.Obj :=
  ⟨x.1, x.2.1, x.2.2.1, x.2.2.2.1, x.2.2.2.2.1.1, x.2.2.2.2.1.2.1, x.2.2.2.2.2.1, x.2.2.2.2.2.2.1, x.2.2.2.2.2.2.2.1, x.2.2.2.2.2.2.2.2.1, x.2.2.2.2.1.2.2.1, x.2.2.2.2.1.2.2.2, x.2.2.2.2.2.2.2.2.2.1, x.2.2.2.2.2.2.2.2.2.2.1,
   x.2.2.2.2.2.2.2.2.2.2.2.1, x.2.2.2.2.2.2.2.2.2.2.2.2.1, x.2.2.2.2.2.2.2.2.2.2.2.2.2.1, x.2.2.2.2.2.2.2.2.2.2.2.2.2.2.1, x.2.2.2.2.2.2.2.2.2.2.2.2.2.2.2.1, x.2.2.2.2.2.2.2.2.2.2.2.2.2.2.2.2⟩
def rdRow : Rd Row := pairR rdU8 (pairR rdTxt (pairR rdU64 (pairR rdU64 (pairR rdFlags (pairR rdTxt (pairR rdSize (pairR rdSize (pairR rdU8 (pairR rdTxt (pairR rdTxt (pairR rdTxt (pairR rdTxt (pairR rdTxt (pairR rdU8 (pairR rdU64 rdU64)))))))))))))))
def objB (o : O.Obj) : Bytes :=
  byteB o.kind ++ (txtB o.name ++ (intB o.version ++ (intB o.born ++ (flagsB (o.deleting, o.hold, o.keep, o.wait) ++ (txtB o.cls ++ (intB o.size ++ (intB o.got ++ (byteB o.mode ++ (txtB o.zone ++ (txtB o.node ++ (txtB o.claim ++ (txtB o.volume ++ (txtB o.source ++ (byteB o.phase ++ (intB o.num ++ intB o.tag)))))))))))))))
def rdObj : Rd O.Obj := keepR rightB (mapR ofRow rdRow)
def WfO (o : O.Obj) : Prop :=
  (0 ≤ o.kind ∧ o.kind ≤ 255) ∧ o.name.size < 2 ^ 64 ∧ (0 ≤ o.version ∧ o.version < 18446744073709551616) ∧ (0 ≤ o.born ∧ o.born < 18446744073709551616) ∧ True ∧ o.cls.size < 2 ^ 64 ∧
  ((0 ≤ o.size ∧ o.size < 18446744073709551616) ∧ decide (o.size ≤ 1125899906842624) = true) ∧ ((0 ≤ o.got ∧ o.got < 18446744073709551616) ∧ decide (o.got ≤ 1125899906842624) = true) ∧ (0 ≤ o.mode ∧ o.mode ≤ 255) ∧
  o.zone.size < 2 ^ 64 ∧ o.node.size < 2 ^ 64 ∧ o.claim.size < 2 ^ 64 ∧ o.volume.size < 2 ^ 64 ∧ o.source.size < 2 ^ 64 ∧ (0 ≤ o.phase ∧ o.phase ≤ 255) ∧ (0 ≤ o.num ∧ o.num < 18446744073709551616) ∧ (0 ≤ o.tag ∧ o.tag < 18446744073709551616)
theorem lawObj : Law rdObj objB (fun o => WfO o ∧ rightB o = true) :=
  ((lawU8.pair (lawTxt.pair (lawU64.pair (lawU64.pair (lawFlags.pair (lawTxt.pair (lawSize.pair (lawSize.pair (lawU8.pair (lawTxt.pair (lawTxt.pair (lawTxt.pair (lawTxt.pair (lawTxt.pair (lawU8.pair (lawU64.pair lawU64)))))))))))))))).map ofRow toRow WfO (fun _ h => ⟨h, rfl⟩) (fun _ h => ⟨h, rfl⟩)).keep rightB
structure Ev where
  version : Int
  gone : Bool
  object : O.Obj
deriving DecidableEq
def evB (e : Ev) : Bytes := intB e.version ++ (goneB e.gone ++ objB e.object)
def rdEv : Rd Ev := mapR (fun x => ⟨x.1, x.2.1, x.2.2⟩) (pairR rdU64 (pairR rdGone rdObj))
def WfE (e : Ev) : Prop := (0 ≤ e.version ∧ e.version < 18446744073709551616) ∧ True ∧ WfO e.object ∧ rightB e.object = true
theorem lawEv : Law rdEv evB WfE :=
  (lawU64.pair (lawGone.pair lawObj)).map (fun x => (⟨x.1, x.2.1, x.2.2⟩ : Ev)) (fun e => (e.version, e.gone, e.object)) WfE (fun _ h => ⟨h, rfl⟩) (fun _ h => ⟨h, rfl⟩)
end Go.Proofs.Ytfndiocohaploaa.C
namespace Go.Proofs.Ytfndiocohaploaa.C
open Go.Lib T O
theorem numB_len : ∀ (k n : Nat), 1 ≤ k → n < 2 ^ (7 * k) → (numB n).length ≤ k := by
  intro k
  induction k with
  | zero => intro n h; omega
  | succ k ih =>
    intro n _ hn
    by_cases h : n < 128
    · rw [numB_small h]; simp
    · rw [numB_big h]
      have hk : 1 ≤ k := by
        cases k with
        | zero => exact absurd hn (by omega)
        | succ k => omega
      have hp := pow_next k
      have := ih (n / 128) hk (by omega)
      simp only [List.length_cons]
      omega
theorem numB_ten {n : Nat} (h : n < 2 ^ 64) : (numB n).length ≤ 10 := numB_len 10 n (by decide) (Nat.lt_of_lt_of_le h (by decide))
theorem intB_ten {n : Int} (h : 0 ≤ n ∧ n < 18446744073709551616) : (intB n).length ≤ 10 := numB_ten (by omega)
theorem txtB_len {s : ByteArray} (h : s.size ≤ 40) : (txtB s).length ≤ 41 := by
  unfold txtB
  rw [List.length_append, size_list, numB_small (by omega), List.length_singleton]
  omega
theorem okT_le40 {s : ByteArray} (h : okT s = true) : s.size ≤ 40 := by
  unfold okT at h
  rw [Bool.or_eq_true] at h
  rcases h with h | h
  · have := of_decide_eq_true h
    have e : s.data.toList.length = s.size := size_list s
    rw [this] at e; simp at e; omega
  · unfold nameB at h
    simp only [Bool.and_eq_true, decide_eq_true_eq] at h
    have e : s.data.toList.length = s.size := size_list s
    omega
theorem name_le40 {s : ByteArray} (h : nameB s.data.toList = true) : 1 ≤ s.size ∧ s.size ≤ 40 := by
  unfold nameB at h
  simp only [Bool.and_eq_true, decide_eq_true_eq] at h
  have e : s.data.toList.length = s.size := size_list s
  omega
end Go.Proofs.Ytfndiocohaploaa.C
namespace Go.Proofs.Ytfndiocohaploaa.C
open Go.Lib T O
theorem mode_le {m : Int} (h : modeB m = true) : 0 ≤ m ∧ m ≤ 255 := by
  unfold modeB at h
  simp only [Bool.or_eq_true, decide_eq_true_eq] at h
  omega
theorem ph3_le {p a b c : Int} (h : ph3 p a b c = true) (ha : 0 ≤ a ∧ a ≤ 255) (hb : 0 ≤ b ∧ b ≤ 255) (hc : 0 ≤ c ∧ c ≤ 255) : 0 ≤ p ∧ p ≤ 255 := by
  unfold ph3 at h
  simp only [Bool.or_eq_true, decide_eq_true_eq] at h
  omega
theorem ph4_le {p a b c d : Int} (h : ph4 p a b c d = true) (ha : 0 ≤ a ∧ a ≤ 255) (hb : 0 ≤ b ∧ b ≤ 255) (hc : 0 ≤ c ∧ c ≤ 255) (hd : 0 ≤ d ∧ d ≤ 255) : 0 ≤ p ∧ p ≤ 255 := by
  unfold ph4 at h
  simp only [Bool.or_eq_true, decide_eq_true_eq] at h
  omega
theorem small_of_right {o : O.Obj} (h : rightB o = true) : (0 ≤ o.kind ∧ o.kind ≤ 255) ∧ (0 ≤ o.mode ∧ o.mode ≤ 255) ∧ (0 ≤ o.phase ∧ o.phase ≤ 255) := by
  obtain ⟨-, hb, -, -, -, hk⟩ := right_parts h
  have hm := congrArg O.Obj.mode hb
  have hp := congrArg O.Obj.phase hb
  rcases kind_cases hk with e | e | e | e | e | e | e
  · simp [bareO, e] at hm hp; omega
  · simp [bareO, e] at hm hp; omega
  · rw [kind3 e] at hk
    unfold claimB at hk
    simp only [Bool.and_eq_true] at hk
    have := mode_le hk.2.2.1
    have := ph3_le hk.2.2.2.1 (by decide) (by decide) (by decide)
    omega
  · rw [kind4 e] at hk
    unfold volumeB at hk
    simp only [Bool.and_eq_true] at hk
    have := mode_le hk.2.2.2.1
    have := ph4_le hk.2.2.2.2.1 (by decide) (by decide) (by decide) (by decide)
    omega
  · rw [kind5 e] at hk
    unfold attachB at hk
    simp only [Bool.and_eq_true] at hk
    have := ph3_le hk.2.2.2 (by decide) (by decide) (by decide)
    simp [bareO, e] at hm
    omega
  · simp [bareO, e] at hm hp; omega
  · rw [kind7 e] at hk
    simp only [Bool.and_eq_true] at hk
    have := ph4_le hk.2 (by decide) (by decide) (by decide) (by decide)
    simp [bareO, e] at hm
    omega
def U64 (n : Int) : Prop := 0 ≤ n ∧ n < 18446744073709551616
theorem wf_of_right {o : O.Obj} (h : rightB o = true) (hv : U64 o.version) (hb : U64 o.born) (hn : U64 o.num) (ht : U64 o.tag) : WfO o := by
  obtain ⟨hk, hm, hp⟩ := small_of_right h
  obtain ⟨n0, -, h2, hs, hg, -⟩ := right_parts h
  unfold textsB at h2
  simp only [Bool.and_eq_true] at h2
  obtain ⟨t1, t2, t3, t4, t5, t6⟩ := h2
  have T1 := okT_le40 t1
  have T2 := okT_le40 t2
  have T3 := okT_le40 t3
  have T4 := okT_le40 t4
  have T5 := okT_le40 t5
  have T6 := okT_le40 t6
  have T0 := name_le40 n0
  unfold inR at hs hg
  simp only [Bool.and_eq_true, decide_eq_true_eq] at hs hg
  have P : (40 : Nat) < 2 ^ 64 := by decide
  have lt : ∀ {n : Nat}, n ≤ 40 → n < 2 ^ 64 := fun h => Nat.lt_of_le_of_lt h P
  exact ⟨hk, lt T0.2, hv, hb, trivial, lt T1, ⟨⟨hs.1, by omega⟩, decide_eq_true hs.2⟩, ⟨⟨hg.1, by omega⟩, decide_eq_true hg.2⟩, hm, lt T2, lt T3, lt T4, lt T5, lt T6, hp, hn, ht⟩
end Go.Proofs.Ytfndiocohaploaa.C
namespace Go.Proofs.Ytfndiocohaploaa.C
open Go.Lib T O
section
variable {α β : Type} {P : Rd α} {Q : Rd β} {l l' : Bytes}
theorem pair_none (h : P l = none) {γ : Type} (F : (α × β) × Bytes → Option γ) : (pairR P Q l).bind F = none := by simp [pairR, h]
theorem pair_some {x : α} (h : P l = some (x, l')) {γ : Type} (F : (α × β) × Bytes → Option γ) : (pairR P Q l).bind F = (Q l').bind fun y => F ((x, y.1), y.2) := by
  simp only [pairR, h, Option.bind_some]
  cases Q l' <;> rfl
def Got (X : Option Bytes) (P : Rd α) (a : α) (X' : Option Bytes) : Prop := X' = (X.bind P).map (·.2) ∧ ∀ x, X.bind P = some x → a = x.1
variable {X X1 X2 : Option Bytes} {a : α} {b : β}
theorem Got.pair (h : Got X P a X1) (k : Got X1 Q b X2) : Got X (pairR P Q) (a, b) X2 := by
  obtain ⟨rfl, h2⟩ := h
  obtain ⟨rfl, k2⟩ := k
  cases X with
  | none => exact ⟨rfl, fun x hx => by cases hx⟩
  | some l =>
    have e : (some l).bind (pairR P Q) = (P l).bind fun x => (Q x.2).map fun y => ((x.1, y.1), y.2) := rfl
    unfold Got
    rw [e]
    cases hp : P l with
    | none => simp [hp]
    | some x =>
      have hx : a = x.1 := h2 x (by simp [hp])
      simp only [Option.bind_some, hp, Option.map_some] at k2 ⊢
      cases hq : Q x.2 with
      | none => simp
      | some y =>
        have hy := k2 y hq
        simp [hx, hy]
theorem Got.map (h : Got X P a X1) (f : α → β) : Got X (mapR f P) (f a) X1 := by
  obtain ⟨rfl, h2⟩ := h
  cases X with
  | none => exact ⟨rfl, fun x hx => by cases hx⟩
  | some l =>
    unfold Got mapR
    simp only [Option.bind_some] at h2 ⊢
    cases hp : P l with
    | none => simp
    | some x => simp [h2 x hp]
theorem Got.keep (h : Got X P a X1) (c : α → Bool) (a' : α) (ha : c a = true → a' = a) (X' : Option Bytes) (hX : X' = if c a = true then X1 else none) : Got X (keepR c P) a' X' := by
  obtain ⟨rfl, h2⟩ := h
  subst hX
  cases X with
  | none => exact ⟨by simp, fun x hx => by cases hx⟩
  | some l =>
    unfold Got keepR
    simp only [Option.bind_some] at h2 ⊢
    cases hp : P l with
    | none => simp
    | some x =>
      have hx := h2 x hp
      by_cases hc : c x.1 = true
      · rw [hx] at ha ⊢
        simp [hc, ha hc]
      · rw [hx]
        simp [hc]
theorem Got.none {a : α} : Got none P a none := ⟨rfl, fun x hx => by cases hx⟩
end
def finR (x : Row × Bytes) : Option (O.Obj × Bytes) := if rightB (ofRow x.1) = true then some (ofRow x.1, x.2) else none
theorem rdObj_eq (l : Bytes) : rdObj l = (rdRow l).bind finR := by
  unfold rdObj keepR mapR finR
  cases rdRow l <;> rfl
end Go.Proofs.Ytfndiocohaploaa.C
namespace Go.Proofs.Ytfndiocohaploaa.C
open Go.RowKit
theorem bits_or_u64_nat (a b : Nat) (ha : a < 18446744073709551616) (hb : b < 18446744073709551616) : bits .or .u64 (a : Int) (b : Int) = ((a ||| b : Nat) : Int) := by
  have hlt : a ||| b < 2 ^ 64 := Nat.or_lt_two_pow (n := 64) ha hb
  have h1 : (BitVec.ofInt 64 (a : Int)).toNat = a := by
    rw [BitVec.ofInt_natCast, BitVec.toNat_ofNat]; exact Nat.mod_eq_of_lt (by omega)
  have h2 : (BitVec.ofInt 64 (b : Int)).toNat = b := by
    rw [BitVec.ofInt_natCast, BitVec.toNat_ofNat]; exact Nat.mod_eq_of_lt (by omega)
  show IntKind.u64.wrap ((BitVec.ofInt 64 (a : Int) ||| BitVec.ofInt 64 (b : Int)).toNat : Int) = _
  rw [BitVec.toNat_or, h1, h2, IntKind.wrap_u64]
  omega
theorem andNot_byte : ∀ x : Nat, x < 256 → bits .andNot .u8 (x : Int) 128 = ((x % 128 : Nat) : Int) := by decide +kernel
theorem or_shift {acc c k : Nat} (ha : acc < 2 ^ (7 * k)) (hk : k ≤ 9) (hc : c < 128) (h9 : k = 9 → c ≤ 1) {sh : Int} (hs : ((7 * k : Nat) : Int) = sh) :
    bits .or .u64 (acc : Int) (IntKind.u64.wrap (IntKind.u64.wrap (c : Int) * 2 ^ sh.toNat)) = ((acc + c * 2 ^ (7 * k) : Nat) : Int) ∧ acc + c * 2 ^ (7 * k) < 2 ^ 64 ∧ (k < 9 → acc + c * 2 ^ (7 * k) < 2 ^ (7 * (k + 1))) := by
  subst hs
  have hp : 2 ^ (7 * (k + 1)) = 128 * 2 ^ (7 * k) := pow_next k
  have hlt : c * 2 ^ (7 * k) < 2 ^ 64 := by
    by_cases h : k = 9
    · subst h
      have := h9 rfl
      have : c = 0 ∨ c = 1 := by omega
      rcases this with rfl | rfl <;> decide
    · have h1 : 2 ^ (7 * (k + 1)) ≤ 2 ^ 63 := Nat.pow_le_pow_right (by decide) (by omega)
      have h2 : c * 2 ^ (7 * k) < 128 * 2 ^ (7 * k) := Nat.mul_lt_mul_of_pos_right hc (Nat.two_pow_pos _)
      omega
  have hacc : acc < 2 ^ 64 := Nat.lt_of_lt_of_le ha (Nat.pow_le_pow_right (by decide) (by omega))
  have e : acc ||| c * 2 ^ (7 * k) = acc + c * 2 ^ (7 * k) := by
    rw [Nat.or_comm, ← Nat.shiftLeft_eq, ← Nat.shiftLeft_add_eq_or_of_lt ha, Nat.add_comm]
  refine ⟨?_, ?_, fun h => ?_⟩
  · have i1 : IntKind.u64.wrap (c : Int) = c := by rw [IntKind.wrap_u64]; omega
    have hc' : ((c : Int) * 2 ^ (7 * k)) = ((c * 2 ^ (7 * k) : Nat) : Int) := by rw [Int.natCast_mul, Int.natCast_pow]; rfl
    have i2 : IntKind.u64.wrap ((c * 2 ^ (7 * k) : Nat) : Int) = ((c * 2 ^ (7 * k) : Nat) : Int) := by
      rw [IntKind.wrap_u64]
      generalize c * 2 ^ (7 * k) = m at hlt
      omega
    rw [i1, Int.toNat_natCast, hc', i2, bits_or_u64_nat _ _ hacc hlt, e]
  · rw [← e]
    exact Nat.or_lt_two_pow hacc hlt
  · rw [hp]
    have h2 : (c + 1) * 2 ^ (7 * k) ≤ 128 * 2 ^ (7 * k) := Nat.mul_le_mul_right _ (by omega)
    rw [Nat.add_mul] at h2
    omega
end Go.Proofs.Ytfndiocohaploaa.C
namespace Go.Proofs.Ytfndiocohaploaa.O
open Go.RowKit T
open Go.Lib hiding intOf
def belongs (o : Obj) : Bool := decide (o.phase = 3) || decide (o.phase = 5)
theorem beqD (a b : Int) : (a == b) = decide (a = b) := by rw [Bool.eq_iff_iff]; simp
set_option maxRecDepth 100000 in
set_option maxHeartbeats 4000000 in
theorem rightVolume_any (o : Obj) (w : World) :
    Calls Try.prog 75 #[encO o] w fun e w' => e = .returned (.bool (volumeB o)) ∧ Below w.heap.size w w' := by
  unfold encO
  have H : Hid (volumeB o = ((!emp o.cls && !emp o.zone) && (decide (o.size ≠ 0) && (decide (o.got ≠ 0) && (modeB o.mode && (ph4 o.phase 4 3 5 6 && (!emp o.claim || !belongs o))))))) := rfl
  have es := neB o.size
  have eg := neB o.got
  go_enter Try.func75, Try.ntmps75
  go_upto_region 1 with (fail)
  refine wp_gen (fun W => BoxO W w.heap.size o ∧ Below w.heap.size w W) ⟨BoxO.new w o, (Below.refl _ _).alloc (Nat.le_refl _) _⟩ ?_
  rintro W1 ⟨hb, hlow⟩
  have c6 := hb.c6
  have c7 := hb.c7
  have c8 := hb.c8
  have c9 := hb.c9
  have c12 := hb.c12
  have c14 := hb.c14
  have c17 := hb.c17
  go_cut [3] (fun s3 wx => s3 = .bool (belongs o) ∧ W1 = wx)
  case first =>
    have ed : Hid (belongs o = (decide (o.phase = 3) || decide (o.phase = 5))) := rfl
    by_cases h3 : o.phase = 3
    · have e3 := beq_yes h3
      have h3' := Lib.hid h3
      clear h3
      go_wp2
      go_meet
      case rel => exact ⟨by rw [ed.out, h3'.out]; rfl, rfl⟩
    · have e3 := beq_no h3
      have h3' := Lib.hid h3
      have e5 := beqD o.phase 5
      clear h3
      go_wp2
      go_meet
      case rel => exact ⟨by rw [ed.out, decide_eq_false h3'.out]; simp, rfl⟩
  case rest =>
    obtain ⟨rfl, rfl⟩ := hcut
    have hsz := hlow.size
    have lt := hb.lt
    have d7 := fun X => (hb.alloc X).c7
    have d8 := fun X => (hb.alloc X).c8
    have d9 := fun X => (hb.alloc X).c9
    have d17 := fun X => (hb.alloc X).c17
    have d14 := fun X Y => ((hb.alloc X).alloc Y).c14
    have hlow' := Lib.hid hlow
    clear lt hlow hb es eg
    go_wp2_with fail
    refine (noneEmpty2 o.cls o.zone _ _ ?_ ?_).mono ?_
    · go_simp
    · go_simp
    rintro e w' ⟨rfl, rfl⟩
    cases b0 : (!emp o.cls && !emp o.zone) with
    | false =>
      have H' : Hid (volumeB o = false) := by show _ = _; rw [H.out, b0]; rfl
      go_wp2
      go_ret
      exact ⟨ret_bool H'.out.symm, hlow'.out.alloc hsz _⟩
    | true =>
    cases b1 : (o.size != 0) with
    | false =>
      have H' : Hid (volumeB o = false) := by show _ = _; rw [H.out, b0, ← neB, b1]; rfl
      go_wp2
      go_ret
      exact ⟨ret_bool H'.out.symm, hlow'.out.alloc hsz _⟩
    | true =>
    cases b2 : (o.got != 0) with
    | false =>
      have H' : Hid (volumeB o = false) := by show _ = _; rw [H.out, b0, ← neB, ← neB, b1, b2]; rfl
      go_wp2
      go_ret
      exact ⟨ret_bool H'.out.symm, hlow'.out.alloc hsz _⟩
    | true =>
    go_wp2_with fail
    refine (rightMode_any o.mode _).mono ?_
    rintro e w' ⟨rfl, rfl⟩
    cases b3 : modeB o.mode with
    | false =>
      have H' : Hid (volumeB o = false) := by show _ = _; rw [H.out, b0, ← neB, ← neB, b1, b2, b3]; rfl
      go_wp2
      go_ret
      exact ⟨ret_bool H'.out.symm, hlow'.out.alloc hsz _⟩
    | true =>
    go_wp2_with fail
    refine (oneOf4 o.phase 4 3 5 6 _ _ ?_ ?_ ?_ ?_).mono ?_
    · go_simp
    · go_simp
    · go_simp
    · go_simp
    rintro e w' ⟨rfl, rfl⟩
    cases b4 : ph4 o.phase 4 3 5 6 with
    | false =>
      have H' : Hid (volumeB o = false) := by show _ = _; rw [H.out, b0, ← neB, ← neB, b1, b2, b3, b4]; rfl
      go_wp2
      go_ret
      exact ⟨ret_bool H'.out.symm, (hlow'.out.alloc hsz _).alloc (by simp; omega) _⟩
    | true =>
    have H' : Hid (volumeB o = (!emp o.claim || !belongs o)) := by show _ = _; rw [H.out, b0, ← neB, ← neB, b1, b2, b3, b4]; rfl
    go_wp2_with fail
    refine (noneEmpty1 o.claim _ _ ?_).mono ?_
    · go_simp
    rintro e w' ⟨rfl, rfl⟩
    cases b5 : emp o.claim with
    | false =>
      have H2 : Hid (volumeB o = true) := by show _ = _; rw [H'.out, b5]; rfl
      go_wp2
      go_ret
      exact ⟨ret_bool H2.out.symm, ((hlow'.out.alloc hsz _).alloc (by simp; omega) _).alloc (by simp; omega) _⟩
    | true =>
      have H2 : Hid (volumeB o = !belongs o) := by show _ = _; rw [H'.out, b5]; rfl
      go_wp2
      go_ret
      exact ⟨ret_bool H2.out.symm, ((hlow'.out.alloc hsz _).alloc (by simp; omega) _).alloc (by simp; omega) _⟩
set_option maxRecDepth 100000 in
set_option maxHeartbeats 4000000 in
theorem rightOfKind_any (o : Obj) (w : World) (hz : o.volume.size ≤ 140737488351232 ∧ o.node.size ≤ 140737488351232) :
    Calls Try.prog 60 #[encO o] w fun e w' => e = .returned (.bool (kindB o)) ∧ Below w.heap.size w w' := by
  have HZ := Lib.hid hz
  clear hz
  unfold encO
  have H : Hid (kindB o = if o.kind = 1 then true
    else if o.kind = 2 then !emp o.zone && noSl o.name
    else if o.kind = 3 then claimB o
    else if o.kind = 4 then volumeB o
    else if o.kind = 5 then attachB o
    else if o.kind = 6 then !emp o.claim
    else if o.kind = 7 then !emp o.source && ph4 o.phase 1 10 11 6
    else false) := rfl
  go_enter Try.func60, Try.ntmps60
  go_upto_region 1 with (fail)
  refine wp_gen (fun W => BoxO W w.heap.size o ∧ Below w.heap.size w W) ⟨BoxO.new w o, (Below.refl _ _).alloc (Nat.le_refl _) _⟩ ?_
  rintro W1 ⟨hb, hlow⟩
  have hsz := hlow.size
  have lt := hb.lt
  have HB := Lib.hid hb
  have HL := Lib.hid hlow
  have c0 := hb.c0
  clear lt hlow hb
  by_cases k1 : o.kind = 1
  · have e1 := beq_yes k1
    have H' : Hid (kindB o = true) := by show _ = _; rw [H.out, if_pos k1]
    clear k1
    go_wp2
    go_ret
    exact ⟨ret_bool H'.out.symm, HL.out⟩
  have e1 := beq_no k1
  by_cases k2 : o.kind = 2
  · have e2 := beq_yes k2
    have H' : Hid (kindB o = (!emp o.zone && noSl o.name)) := by show _ = _; rw [H.out, if_neg k1, if_pos k2]
    clear k1 k2
    have c12 := HB.out.c12
    have d1 := fun X => (HB.out.alloc X).c1
    go_wp2_with fail
    refine (noneEmpty1 o.zone _ _ ?_).mono ?_
    · go_simp
    rintro e w' ⟨rfl, rfl⟩
    cases b0 : emp o.zone with
    | true =>
      have H2 : Hid (kindB o = false) := by show _ = _; rw [H'.out, b0]; rfl
      go_wp2
      go_ret
      exact ⟨ret_bool H2.out.symm, HL.out.alloc hsz _⟩
    | false =>
      have H2 : Hid (kindB o = noSl o.name) := by show _ = _; rw [H'.out, b0]; rfl
      go_wp2_with fail
      refine (noSlash_any o.name _).mono ?_
      rintro e w' ⟨rfl, rfl⟩
      go_wp2
      go_ret
      exact ⟨ret_bool H2.out.symm, HL.out.alloc hsz _⟩
  have e2 := beq_no k2
  by_cases k3 : o.kind = 3
  · have e3 := beq_yes k3
    have H' : Hid (kindB o = claimB o) := by show _ = _; rw [H.out, if_neg k1, if_neg k2, if_pos k3]
    clear k1 k2 k3
    go_wp2_with ((with_reducible refine wpList_load_row rfl 30 _ rfl w.heap.size ?_ 30 (cellsO o) (0, 0) _ ?_ undObj ?_ ?_ ?_); rfl; exact HB.out; rfl; exact sizeObj)
    refine (rightClaim_any o _).mono ?_
    rintro e w2 ⟨rfl, hb2⟩
    go_wp2
    go_ret
    exact ⟨ret_bool H'.out.symm, HL.out.trans (hb2.mono hsz)⟩
  have e3 := beq_no k3
  by_cases k4 : o.kind = 4
  · have e4 := beq_yes k4
    have H' : Hid (kindB o = volumeB o) := by show _ = _; rw [H.out, if_neg k1, if_neg k2, if_neg k3, if_pos k4]
    clear k1 k2 k3 k4
    go_wp2_with ((with_reducible refine wpList_load_row rfl 30 _ rfl w.heap.size ?_ 30 (cellsO o) (0, 0) _ ?_ undObj ?_ ?_ ?_); rfl; exact HB.out; rfl; exact sizeObj)
    refine (rightVolume_any o _).mono ?_
    rintro e w2 ⟨rfl, hb2⟩
    go_wp2
    go_ret
    exact ⟨ret_bool H'.out.symm, HL.out.trans (hb2.mono hsz)⟩
  have e4 := beq_no k4
  by_cases k5 : o.kind = 5
  · have e5 := beq_yes k5
    have H' : Hid (kindB o = attachB o) := by show _ = _; rw [H.out, if_neg k1, if_neg k2, if_neg k3, if_neg k4, if_pos k5]
    clear k1 k2 k3 k4 k5
    go_wp2_with ((with_reducible refine wpList_load_row rfl 30 _ rfl w.heap.size ?_ 30 (cellsO o) (0, 0) _ ?_ undObj ?_ ?_ ?_); rfl; exact HB.out; rfl; exact sizeObj)
    refine (rightAttach_any o _ HZ.out).mono ?_
    rintro e w2 ⟨rfl, hb2⟩
    go_wp2
    go_ret
    exact ⟨ret_bool H'.out.symm, HL.out.trans (hb2.mono hsz)⟩
  have e5 := beq_no k5
  by_cases k6 : o.kind = 6
  · have e6 := beq_yes k6
    have H' : Hid (kindB o = !emp o.claim) := by show _ = _; rw [H.out, if_neg k1, if_neg k2, if_neg k3, if_neg k4, if_neg k5, if_pos k6]
    clear k1 k2 k3 k4 k5 k6
    have c14 := HB.out.c14
    go_wp2_with fail
    refine (noneEmpty1 o.claim _ _ ?_).mono ?_
    · go_simp
    rintro e w' ⟨rfl, rfl⟩
    go_wp2
    go_ret
    exact ⟨ret_bool H'.out.symm, HL.out.alloc hsz _⟩
  have e6 := beq_no k6
  by_cases k7 : o.kind = 7
  · have e7 := beq_yes k7
    have H' : Hid (kindB o = (!emp o.source && ph4 o.phase 1 10 11 6)) := by show _ = _; rw [H.out, if_neg k1, if_neg k2, if_neg k3, if_neg k4, if_neg k5, if_neg k6, if_pos k7]
    clear k1 k2 k3 k4 k5 k6 k7
    have c16 := HB.out.c16
    have d17 := fun X => (HB.out.alloc X).c17
    go_wp2_with fail
    refine (noneEmpty1 o.source _ _ ?_).mono ?_
    · go_simp
    rintro e w' ⟨rfl, rfl⟩
    cases b0 : emp o.source with
    | true =>
      have H2 : Hid (kindB o = false) := by show _ = _; rw [H'.out, b0]; rfl
      go_wp2
      go_ret
      exact ⟨ret_bool H2.out.symm, HL.out.alloc hsz _⟩
    | false =>
      have H2 : Hid (kindB o = ph4 o.phase 1 10 11 6) := by show _ = _; rw [H'.out, b0]; rfl
      go_wp2_with fail
      refine (oneOf4 o.phase 1 10 11 6 _ _ ?_ ?_ ?_ ?_).mono ?_
      · go_simp
      · go_simp
      · go_simp
      · go_simp
      rintro e w' ⟨rfl, rfl⟩
      go_wp2
      go_ret
      exact ⟨ret_bool H2.out.symm, (HL.out.alloc hsz _).alloc (by simp; omega) _⟩
  have e7 := beq_no k7
  have H' : Hid (kindB o = false) := by show _ = _; rw [H.out, if_neg k1, if_neg k2, if_neg k3, if_neg k4, if_neg k5, if_neg k6, if_neg k7]
  clear k1 k2 k3 k4 k5 k6 k7
  go_wp2
  go_ret
  exact ⟨ret_bool H'.out.symm, HL.out⟩
end Go.Proofs.Ytfndiocohaploaa.O
namespace Go.Proofs.Ytfndiocohaploaa.L
open Go Go.RowKit
open Go.Lib
def ElAt (W : World) (g k : Nat) (x : Value) (l : Bytes) : Prop := g < W.heap.size ∧ W.cell? ⟨g, k, none⟩ = some x ∧ BytesIn W x l
theorem ElAt.after {W W' : World} {g k : Nat} {x : Value} {l : Bytes} (h : ElAt W g k x l) (hb : Below W.heap.size W W') : ElAt W' g k x l :=
  ⟨Nat.lt_of_lt_of_le h.1 hb.size, (hb.cell (p := ⟨g, k, none⟩) h.1).trans h.2.1, h.2.2.after hb⟩
def RowsAt (W : World) (a : Option Addr) (c : Nat) (A : List Bytes) : Prop :=
  A.length ≤ c ∧ c ≤ maxLen ∧ ((a = none ∧ A = []) ∨ ∃ g off, a = some ⟨g, off, none⟩ ∧ ∃ xs : Nat → Value, ∀ i (h : i < A.length), ElAt W g (off + i) (xs i) A[i])
theorem RowsAt.after {W W' : World} {a : Option Addr} {c : Nat} {A : List Bytes} (h : RowsAt W a c A) (hb : Below W.heap.size W W') : RowsAt W' a c A := by
  obtain ⟨h1, h2, h3⟩ := h
  refine ⟨h1, h2, ?_⟩
  rcases h3 with h3 | ⟨g, off, e, xs, h4⟩
  · exact .inl h3
  · exact .inr ⟨g, off, e, xs, fun i hi => (h4 i hi).after hb⟩
theorem RowsAt.at {W : World} {a : Option Addr} {c : Nat} {A : List Bytes} (h : RowsAt W a c A) {i : Nat} (hi : i < A.length) : ∃ g off x, a = some ⟨g, off, none⟩ ∧ ElAt W g (off + i) x A[i] := by
  obtain ⟨-, -, h3⟩ := h
  rcases h3 with ⟨-, rfl⟩ | ⟨g, off, e, xs, h4⟩
  · simp at hi
  · exact ⟨g, off, xs i, e, h4 i hi⟩
theorem RowsAt.of_recs {W : World} {B : Nat} {v : Value} {A : List Bytes} (h : RecsIn W B v A) : ∃ a c, v = .slice a A.length c ∧ RowsAt W a c A := by
  obtain ⟨xs, rfl, h1, h2⟩ := h
  have hcells := fun g (hg : v.ownBlock = some g) => World.ownsRow.cells (g := g) h1 hg
  rcases h1.2 with ⟨rfl, h0⟩ | ⟨g, cap, cur, rfl, -, hg, hnc, hcm, -⟩
  · rw [List.length_map] at h0
    obtain rfl : xs = [] := List.length_eq_zero_iff.1 h0
    exact ⟨none, 0, rfl, Nat.le_refl _, Nat.zero_le _, .inl ⟨rfl, rfl⟩⟩
  · rw [List.length_map] at hnc ⊢
    refine ⟨some ⟨g, 0, none⟩, cap, by rw [List.length_map], by rw [List.length_map]; exact hnc, hcm, .inr ⟨g, 0, rfl, fun i => (xs.map (·.1)).getD i default, fun i hi => ?_⟩⟩
    rw [List.length_map] at hi
    have e : (xs.map (·.1)).getD i default = xs[i].1 := by rw [List.getD_eq_getElem?_getD, List.getElem?_map, List.getElem?_eq_getElem hi]; rfl
    have := hcells g rfl i xs[i].1 (by rw [List.getElem?_map, List.getElem?_eq_getElem hi]; rfl)
    rw [add_lit'] at this
    have e2 : ElAt W g (0 + i) xs[i].1 (xs.map (·.2))[i] := by
      refine ⟨(Array.getElem?_eq_some_iff.1 hg).1, this, ?_⟩
      rw [List.getElem_map]
      exact (h2 xs[i] (List.getElem_mem hi)).bytes
    rw [← e] at e2
    exact e2
theorem RowsAt.head {W : World} {a : Option Addr} {c : Nat} {A : List Bytes} (h : RowsAt W a c A) {n : Nat} (hn : n ≤ A.length) : RowsAt W a c (A.take n) := by
  obtain ⟨h1, h2, h3⟩ := h
  refine ⟨by rw [List.length_take]; omega, h2, ?_⟩
  rcases h3 with ⟨h3, rfl⟩ | ⟨g, off, e, xs, h4⟩
  · exact .inl ⟨h3, by simp⟩
  · refine .inr ⟨g, off, e, xs, fun i hi => ?_⟩
    rw [List.length_take] at hi
    rw [List.getElem_take]
    exact h4 i (by omega)
end Go.Proofs.Ytfndiocohaploaa.L
namespace Go.Proofs.Ytfndiocohaploaa.L
open Go Go.RowKit
open Go.Lib
def SyncD (B q : Nat) (og : Option Nat) (s : Lg) (w : World) (e : Ending) (w' : World) : Prop := e = .returned (.int .i64 0) ∧ IsLog B w' q og s ∧ Turn B w w' q og og
def RecsD (L : List Bytes) (w : World) (e : Ending) (w' : World) : Prop := ∃ v, e = .returned v ∧ RecsIn w' w.heap.size v L ∧ Below w.heap.size w w'
theorem syncD_any (B q : Nat) (og : Option Nat) (s : Lg) (w : World) (h : IsLog B w q og s) : Calls Try.prog 41 #[.pointer (some ⟨q, 0, none⟩)] w (SyncD B q og ⟨s.most, s.b.length / 64, s.b⟩ w) := sync_any B q og s w h
theorem recsD_any (B q : Nat) (og : Option Nat) (s : Lg) (w : World) (h : IsLog B w q og s) : Calls Try.prog 9 #[.pointer (some ⟨q, 0, none⟩)] w (RecsD (recs s.b) w) := records_any B q og s w h
theorem IsLog.apart {B : Nat} {W : World} {q : Nat} {og : Option Nat} {s : Lg} (h : IsLog B W q og s) {g : Nat} {cs : Array Value} {t : TypeId} (hg : W.heap[g]? = some (.cells cs t (0, 0))) (h1 : t ≠ 70) (h2 : t ≠ 88) : g < W.heap.size ∧ g ≠ q ∧ some g ≠ og := by
  obtain ⟨v, k, l1, l2, l3, -⟩ := h.at_
  refine ⟨(Array.getElem?_eq_some_iff.1 hg).1, ?_, ?_⟩
  · rintro rfl
    have l4 : W.heap[g]? = _ := l1
    rw [l4] at hg
    simp only [Option.some.injEq, Obj.cells.injEq] at hg
    exact h1 hg.2.1.symm
  · rintro rfl
    rcases l2.2 with ⟨rfl, -⟩ | ⟨g2, cap, cur, rfl, -, l4, -⟩
    · cases l3
    · obtain rfl : g2 = g := by simpa [Value.ownBlock] using l3
      rw [l4] at hg
      simp only [Option.some.injEq, Obj.cells.injEq] at hg
      exact h2 hg.2.1.symm
theorem RecsIn.turn {B C : Nat} {W W' : World} {q : Nat} {og og' : Option Nat} {s : Lg} {v : Value} {L : List Bytes} (h : RecsIn W C v L) (hl : IsLog B W q og s) (ht : Turn B W W' q og og') : RecsIn W' C v L := by
  obtain ⟨xs, e, h1, h2⟩ := h
  refine ⟨xs, e, h1.of fun g cs hg _ => ?_, fun x hx => (h2 x hx).of fun g cs hg _ => ?_⟩
  · obtain ⟨z1, z2, z3⟩ := hl.apart hg (by decide) (by decide)
    exact ht.keep g z1 z2 z3
  · obtain ⟨z1, z2, z3⟩ := hl.apart hg (by decide) (by decide)
    exact ht.keep g z1 z2 z3
theorem RecsIn.after {C : Nat} {W W' : World} {v : Value} {L : List Bytes} (h : RecsIn W C v L) (hb : Below W.heap.size W W') : RecsIn W' C v L := by
  obtain ⟨xs, e, h1, h2⟩ := h
  exact ⟨xs, e, h1.after hb, fun x hx => (h2 x hx).after hb⟩
theorem RecsIn.rows {C : Nat} {W : World} {a : Option Addr} {n c : Nat} {L : List Bytes} (h : RecsIn W C (.slice a n c) L) : RowsAt W a c L ∧ L.length = n := by
  obtain ⟨a2, c2, e, h2⟩ := RowsAt.of_recs h
  cases e
  exact ⟨h2, rfl⟩
end Go.Proofs.Ytfndiocohaploaa.L
