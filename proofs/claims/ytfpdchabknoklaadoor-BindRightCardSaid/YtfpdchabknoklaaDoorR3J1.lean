/- The document's own Right: what its walks share. Laid by mkref.py. -/
import Derived.Test.YtfpdchabknoklaaDoorOPlain
import Derived.Test.YtfpdchabknoklaaDoorOCore
import Derived.Laws.Runes
import Derived.Test.YtfpdchabknoklaaDoorHeldBy
import Derived.Deep.Cut
import Derived.Deep.DeepCutAuto
import Derived.Deep.RegionHeld3
namespace Go.Proofs.YtfpdchabknoklaaDoor.O
open Go.Lib T

theorem E0_list : E0.data.toList = [] := rfl
theorem emp_E0 : emp E0 = true := rfl
theorem emp_iff {s : ByteArray} : emp s = true ↔ s = E0 := by
  unfold emp
  rw [decide_eq_true_iff]
  exact ⟨fun h => ba_ext (by rw [h]; rfl), fun h => by rw [h]; rfl⟩

theorem bareO_hold (o : Obj) (h : Bool) : bareO { o with hold := h } = { bareO o with hold := h } := by
  unfold bareO
  repeat' split
  all_goals first | rfl | contradiction
theorem bareO_holds (o : Obj) : (bareO o).hold = o.hold := by
  unfold bareO
  repeat' split
  all_goals rfl
theorem hold_inj {a b : Obj} {h : Bool} (e : a.hold = b.hold) : ({ a with hold := h } : Obj) = { b with hold := h } ↔ a = b := by
  obtain ⟨a1, a2, a3, a4, a5, a6, a7, a8, a9, a10, a11, a12, a13, a14, a15, a16, a17, a18, a19, a20⟩ := a
  obtain ⟨b1, b2, b3, b4, b5, b6, b7, b8, b9, b10, b11, b12, b13, b14, b15, b16, b17, b18, b19, b20⟩ := b
  dsimp only at e
  subst e
  simp only [Obj.mk.injEq, true_and]
theorem rightB_hold (o : Obj) (h : Bool) : rightB { o with hold := h } = rightB o := by
  unfold rightB
  have e : decide (({ o with hold := h } : Obj) = bareO { o with hold := h }) = decide (o = bareO o) := by
    rw [decide_eq_decide, bareO_hold]
    exact hold_inj (bareO_holds o).symm
  rw [e]
  rfl

theorem right_parts {o : Obj} (h : rightB o = true) : nameB o.name.data.toList = true ∧ o = bareO o ∧ textsB o = true ∧ inR o.size = true ∧ inR o.got = true ∧ kindB o = true := by
  unfold rightB at h
  simp only [Bool.and_eq_true, decide_eq_true_eq] at h
  exact h
theorem kind_cases {o : Obj} (h : kindB o = true) : o.kind = 1 ∨ o.kind = 2 ∨ o.kind = 3 ∨ o.kind = 4 ∨ o.kind = 5 ∨ o.kind = 6 ∨ o.kind = 7 := by
  by_cases h1 : o.kind = 1
  · exact .inl h1
  by_cases h2 : o.kind = 2
  · exact .inr (.inl h2)
  by_cases h3 : o.kind = 3
  · exact .inr (.inr (.inl h3))
  by_cases h4 : o.kind = 4
  · exact .inr (.inr (.inr (.inl h4)))
  by_cases h5 : o.kind = 5
  · exact .inr (.inr (.inr (.inr (.inl h5))))
  by_cases h6 : o.kind = 6
  · exact .inr (.inr (.inr (.inr (.inr (.inl h6)))))
  by_cases h7 : o.kind = 7
  · exact .inr (.inr (.inr (.inr (.inr (.inr h7)))))
  unfold kindB at h
  rw [if_neg h1, if_neg h2, if_neg h3, if_neg h4, if_neg h5, if_neg h6, if_neg h7] at h
  cases h

theorem name_ne {o : Obj} (h : nameB o.name.data.toList = true) : o.name.data.toList ≠ [] := by
  intro e
  rw [e] at h
  cases h
theorem phase3_ne {p a b c : Int} (h : ph3 p a b c = true) (ha : 0 < a) (hb : 0 < b) (hc : 0 < c) : p ≠ 0 := by
  unfold ph3 at h
  simp only [Bool.or_eq_true, decide_eq_true_eq] at h
  omega
theorem phase4_ne {p a b c d : Int} (h : ph4 p a b c d = true) (ha : 0 < a) (hb : 0 < b) (hc : 0 < c) (hd : 0 < d) : p ≠ 0 := by
  unfold ph4 at h
  simp only [Bool.or_eq_true, decide_eq_true_eq] at h
  omega
theorem mode_ne {m : Int} (h : modeB m = true) : m ≠ 0 := by
  unfold modeB at h
  simp only [Bool.or_eq_true, decide_eq_true_eq] at h
  omega

theorem kind3 {o : Obj} (e : o.kind = 3) : kindB o = claimB o := by unfold kindB; simp [e]
theorem kind4 {o : Obj} (e : o.kind = 4) : kindB o = volumeB o := by unfold kindB; simp [e]
theorem kind5 {o : Obj} (e : o.kind = 5) : kindB o = attachB o := by unfold kindB; simp [e]
theorem kind7 {o : Obj} (e : o.kind = 7) : kindB o = (!emp o.source && ph4 o.phase 1 10 11 6) := by unfold kindB; simp [e]

/-- What is right stays right by default. -/
theorem right_default {o : Obj} (h : rightB o = true) : rightB (defO o) = true := by
  obtain ⟨hn, -, -, -, -, hk⟩ := right_parts h
  have hne := name_ne hn
  rcases kind_cases hk with e | e | e | e | e | e | e
  · rw [show defO o = o by unfold defO; simp [e]]; exact h
  · rw [show defO o = o by unfold defO; simp [e]]; exact h
  · rw [kind3 e] at hk
    unfold claimB at hk
    simp only [Bool.and_eq_true] at hk
    have hp := phase3_ne hk.2.2.2.1 (by decide) (by decide) (by decide)
    have hm := mode_ne hk.2.2.1
    rw [show defO o = { o with hold := true } by unfold defO; simp [e, hp, hm], rightB_hold]; exact h
  · rw [kind4 e] at hk
    unfold volumeB at hk
    simp only [Bool.and_eq_true] at hk
    have hp := phase4_ne hk.2.2.2.2.1 (by decide) (by decide) (by decide) (by decide)
    have hm := mode_ne hk.2.2.2.1
    have hg : o.got ≠ 0 := of_decide_eq_true hk.2.2.1
    rw [show defO o = { o with hold := true } by unfold defO; simp [e, hp, hm, hg], rightB_hold]; exact h
  · rw [show defO o = o by unfold defO; rw [if_neg (by omega), if_neg (by omega), if_neg (by omega), if_pos e, if_neg hne]]; exact h
  · rw [show defO o = o by unfold defO; simp [e]]; exact h
  · rw [kind7 e] at hk
    simp only [Bool.and_eq_true] at hk
    have hp := phase4_ne hk.2 (by decide) (by decide) (by decide) (by decide)
    rw [show defO o = { o with hold := true } by unfold defO; simp [e, hp], rightB_hold]; exact h

/-- What a user may make. -/
theorem user_new {o : Obj} (h : userB o = true) : rightB o = true ∧ o.version = 0 ∧ o.born = 0 ∧ o.deleting = false ∧ o.num = 0 ∧ o.tag = 0 ∧ o.kind ≠ 5 ∧ emp o.volume = true ∧ emp o.node = true := by
  unfold userB at h
  simp only [Bool.and_eq_true] at h
  obtain ⟨hr, hu, hk⟩ := h
  obtain ⟨-, hb, -, -, -, hkd⟩ := right_parts hr
  unfold untouchedB at hu
  simp only [Bool.and_eq_true, decide_eq_true_eq, Bool.not_eq_true'] at hu
  obtain ⟨u1, u2, u3, u4, u5⟩ := hu
  have hvol := congrArg Obj.volume hb
  have hnode := congrArg Obj.node hb
  refine ⟨hr, u1, u2, u5, u3, u4, ?_⟩
  rcases kind_cases hkd with e | e | e | e | e | e | e
  · simp [bareO, e] at hvol hnode
    rw [hvol, hnode]; exact ⟨by omega, rfl, rfl⟩
  · simp [bareO, e] at hvol hnode
    rw [hvol, hnode]; exact ⟨by omega, rfl, rfl⟩
  · unfold userK at hk
    simp [e] at hk
    exact ⟨by omega, hk.2.1.2.2, hk.2.1.1⟩
  · simp [bareO, e] at hvol hnode
    rw [hvol, hnode]; exact ⟨by omega, rfl, rfl⟩
  · unfold userK at hk
    simp [e] at hk
  · unfold userK at hk
    simp [e] at hk
    simp [bareO, e] at hvol
    rw [hvol]
    exact ⟨by omega, rfl, hk⟩
  · unfold userK at hk
    simp [e] at hk
    simp [bareO, e] at hnode
    rw [hnode]
    exact ⟨by omega, hk.2.1, rfl⟩

/-- A tag is of a snapshot alone. -/
theorem right_tag {o : Obj} (h : rightB o = true) (t : Int) : rightB { o with tag := t } = (decide (t = 0) || decide (o.kind = 7)) := by
  obtain ⟨hn, hb, ht, hs, hg, hk⟩ := right_parts h
  have e1 : rightB { o with tag := t } = decide (({ o with tag := t } : Obj) = bareO { o with tag := t }) := by
    unfold rightB
    rw [show nameB ({ o with tag := t } : Obj).name.data.toList = true from hn, show textsB { o with tag := t } = true from ht, show inR ({ o with tag := t } : Obj).size = true from hs, show inR ({ o with tag := t } : Obj).got = true from hg, show kindB { o with tag := t } = true from hk]
    simp
  rw [e1]
  obtain ⟨kind, name, version, born, deleting, hold, cls, size, got, mode, keep, wait, zone, node, claim, volume, source, phase, num, tag⟩ := o
  rcases kind_cases hk with e | e | e | e | e | e | e <;> dsimp only at e <;> subst e <;> simp [bareO, Obj.mk.injEq] at hb ⊢ <;> simp [hb]
/-- Wait is of a class alone. -/
theorem right_wait {o : Obj} (h : rightB o = true) : rightB { o with wait := true } = decide (o.kind = 1) := by
  obtain ⟨hn, hb, ht, hs, hg, hk⟩ := right_parts h
  have e1 : rightB { o with wait := true } = decide (({ o with wait := true } : Obj) = bareO { o with wait := true }) := by
    unfold rightB
    rw [show nameB ({ o with wait := true } : Obj).name.data.toList = true from hn, show textsB { o with wait := true } = true from ht, show inR ({ o with wait := true } : Obj).size = true from hs, show inR ({ o with wait := true } : Obj).got = true from hg, show kindB { o with wait := true } = true from hk]
    simp
  rw [e1]
  obtain ⟨kind, name, version, born, deleting, hold, cls, size, got, mode, keep, wait, zone, node, claim, volume, source, phase, num, tag⟩ := o
  rcases kind_cases hk with e | e | e | e | e | e | e <;> dsimp only at e <;> subst e <;> simp [bareO, Obj.mk.injEq] at hb ⊢ <;> simp [hb]

theorem split_last {a b c d : List UInt8} (hb : (47 : UInt8) ∉ b) (hd : (47 : UInt8) ∉ d) (h : a ++ 47 :: b = c ++ 47 :: d) : a = c ∧ b = d := by
  rcases List.append_eq_append_iff.1 h with ⟨x, hx, hy⟩ | ⟨x, hx, hy⟩
  · cases x with
    | nil => simp at hx hy; exact ⟨hx.symm, hy⟩
    | cons y x =>
      simp at hy
      exact absurd (by rw [hy.2]; simp) hb
  · cases x with
    | nil => simp at hx hy; exact ⟨hx, hy.symm⟩
    | cons y x =>
      simp at hy
      exact absurd (by rw [hy.2]; simp) hd
theorem noSl_mem {s : ByteArray} (h : noSl s = true) : (47 : UInt8) ∉ s.data.toList := by
  unfold noSl at h
  simpa using h
/-- The name of an attachment tells its volume and its node. -/
theorem attach_parts {a b : Obj} (ha : rightB a = true) (hb : rightB b = true) (ka : a.kind = 5) (kb : b.kind = 5) (hn : a.name = b.name) : a.volume = b.volume ∧ a.node = b.node := by
  have h1 := (right_parts ha).2.2.2.2.2
  have h2 := (right_parts hb).2.2.2.2.2
  rw [kind5 ka] at h1
  rw [kind5 kb] at h2
  unfold attachB at h1 h2
  simp only [Bool.and_eq_true, decide_eq_true_eq] at h1 h2
  have e : (attachN a.volume a.node).data.toList = (attachN b.volume b.node).data.toList := by rw [← h1.2.2.1, ← h2.2.2.1, hn]
  rw [attachN_list, attachN_list] at e
  obtain ⟨p, q⟩ := split_last (noSl_mem h1.2.1) (noSl_mem h2.2.1) e
  exact ⟨ba_ext p, ba_ext q⟩

/-- Go's order of texts is the order of their lists. -/
theorem less_list (x : List UInt8) : ∀ y : List UInt8, Op.bytesLess x y = decide (x < y) := by
  induction x with
  | nil => intro y; cases y <;> simp [Op.bytesLess]
  | cons a x ih =>
    intro y
    cases y with
    | nil => simp [Op.bytesLess]
    | cons b y =>
      rw [Op.bytesLess, ih y, Bool.eq_iff_iff]
      simp only [List.cons_lt_cons_iff, Bool.or_eq_true, Bool.and_eq_true, decide_eq_true_eq, beq_iff_eq]
/-- Keys stand in one order. -/
def lessB (k1 : Int) (n1 : ByteArray) (k2 : Int) (n2 : ByteArray) : Bool := decide (k1 < k2) || (decide (k1 = k2) && Op.bytesLess n1.data.toList n2.data.toList)
theorem less_iff {k1 k2 : Int} {n1 n2 : ByteArray} : lessB k1 n1 k2 n2 = true ↔ k1 < k2 ∨ (k1 = k2 ∧ n1.data.toList < n2.data.toList) := by
  unfold lessB
  rw [less_list]
  simp
theorem bytes_total (x y : List UInt8) : x < y ∨ x = y ∨ y < x := by
  by_cases h1 : x < y
  · exact .inl h1
  by_cases h2 : y < x
  · exact .inr (.inr h2)
  exact .inr (.inl (List.le_antisymm (List.not_lt.1 h2) (List.not_lt.1 h1)))
theorem less_asymm {k1 k2 : Int} {n1 n2 : ByteArray} (h : lessB k1 n1 k2 n2 = true) : lessB k2 n2 k1 n1 = false := by
  rw [Bool.eq_false_iff]
  intro h'
  rw [less_iff] at h h'
  rcases h with h | ⟨h, g⟩ <;> rcases h' with h' | ⟨h', g'⟩
  · omega
  · omega
  · omega
  · exact List.lt_asymm g g'
theorem less_trans {k1 k2 k3 : Int} {n1 n2 n3 : ByteArray} (h : lessB k1 n1 k2 n2 = true) (h' : lessB k2 n2 k3 n3 = true) : lessB k1 n1 k3 n3 = true := by
  rw [less_iff] at h h' ⊢
  rcases h with h | ⟨h, g⟩ <;> rcases h' with h' | ⟨h', g'⟩
  · omega
  · omega
  · omega
  · exact .inr ⟨by omega, List.lt_trans g g'⟩
theorem less_total (k1 k2 : Int) (n1 n2 : ByteArray) : (lessB k1 n1 k2 n2 || lessB k2 n2 k1 n1) = !(decide (k1 = k2) && decide (n1.data.toList = n2.data.toList)) := by
  rw [Bool.eq_iff_iff]
  simp only [Bool.or_eq_true, less_iff, Bool.not_eq_true', Bool.and_eq_false_iff, decide_eq_false_iff_not]
  constructor
  · rintro ((h | ⟨h, g⟩) | (h | ⟨h, g⟩))
    · exact .inl (by omega)
    · exact .inr (fun e => List.lt_irrefl _ (e ▸ g))
    · exact .inl (by omega)
    · exact .inr (fun e => List.lt_irrefl _ (e ▸ g))
  · intro h
    rcases Int.lt_trichotomy k1 k2 with h1 | h1 | h1
    · exact .inl (.inl h1)
    · rcases h with h | h
      · exact absurd h1 h
      · rcases bytes_total n1.data.toList n2.data.toList with g | g | g
        · exact .inl (.inr ⟨h1, g⟩)
        · exact absurd g h
        · exact .inr (.inr ⟨h1.symm, g⟩)
    · exact .inr (.inl h1)
end Go.Proofs.YtfpdchabknoklaaDoor.O
namespace Go.Proofs.YtfpdchabknoklaaDoor.O
open Go.RowKit Go.Lib T

theorem ret_bool {a b : Bool} (h : a = b) : Ending.returned (.bool a) = .returned (.bool b) := by rw [h]

theorem take_snoc (s : ByteArray) (k : Nat) (h : k < s.size) : s.data.toList.take (k + 1) = s.data.toList.take k ++ [s[k]] := by
  rw [List.take_succ_eq_append_getElem (by simpa using h)]; rfl

theorem allN_snoc {s : ByteArray} {k : Nat} (h : k < s.size) (hd : (s.data.toList.take k).all isN = true) (hk : isN s[k] = true) : (s.data.toList.take (k + 1)).all isN = true := by
  rw [take_snoc s k h, List.all_append, hd]; simp [hk]

theorem allN_not {s : ByteArray} {k : Nat} (h : k < s.size) (hk : isN s[k] = false) : s.data.toList.all isN = false := by
  rw [List.all_eq_false]
  exact ⟨s[k], by rw [← get_list s k h]; exact List.getElem_mem _, by simp [hk]⟩

theorem nameB_mid {s : ByteArray} (h1 : 1 ≤ s.size) (h2 : s.size ≤ 40) : nameB s.data.toList = s.data.toList.all isN := by
  unfold nameB
  simp only [size_list]
  rw [show decide (1 ≤ s.size) = true by simp; omega, show decide (s.size ≤ 40) = true by simp; omega]
  rfl

theorem nameB_off {s : ByteArray} (h : s.size < 1 ∨ 40 < s.size) : nameB s.data.toList = false := by
  unfold nameB; simp only [size_list, Bool.and_eq_false_iff, decide_eq_false_iff_not]; omega

theorem nameB_not {s : ByteArray} (h : s.data.toList.all isN = false) : nameB s.data.toList = false := by
  unfold nameB; rw [h]; simp

theorem nameB_le {s : ByteArray} (h : nameB s.data.toList = true) : 1 ≤ s.size ∧ s.size ≤ 40 := by
  unfold nameB at h
  simp only [size_list, Bool.and_eq_true, decide_eq_true_eq] at h
  exact h.1

theorem isN_iff {c : UInt8} : isN c = true ↔ c.toNat = 35 ∨ (45 ≤ c.toNat ∧ c.toNat ≤ 57) ∨ (97 ≤ c.toNat ∧ c.toNat ≤ 122) := by
  unfold isN isW
  simp only [Bool.or_eq_true, Bool.and_eq_true, decide_eq_true_eq]
  omega
theorem isN_false {c : UInt8} (h : ¬ (c.toNat = 35 ∨ (45 ≤ c.toNat ∧ c.toNat ≤ 57) ∨ (97 ≤ c.toNat ∧ c.toNat ≤ 122))) : isN c = false := by
  rw [Bool.eq_false_iff]; exact fun e => h (isN_iff.1 e)
theorem beq_no {a b : Int} (h : a ≠ b) : (a == b) = false := by simpa using h
theorem beq_yes {a b : Int} (h : a = b) : (a == b) = true := by simpa using h

set_option maxHeartbeats 1000000 in
theorem refName_any (s : ByteArray) (w : World) (hs : s.size ≤ 9223372036854775807) :
    Calls Tryd.prog 48 #[.string s] w fun e w' => e = .returned (.bool (nameB s.data.toList)) ∧ w = w' := by
  go_enter Tryd.func48, Tryd.ntmps48
  go_wp2
  go_loop [3] (fun i => ∃ k : Nat, k ≤ s.size ∧ i = .int .i64 k ∧ Hid ((s.data.toList.take k).all isN = true)) (fun i => s.size - (intOf i).toNat)
  case atStart => exact ⟨0, Nat.zero_le _, rfl, by show _ = _; simp⟩
  case round =>
    obtain ⟨k, hk, rfl, hd⟩ := hrel
    by_cases hp : k < s.size
    · cases hn : isN s[k] with
      | true =>
        have hd' := Lib.hid (allN_snoc hp hd.out hn)
        have hc := isN_iff.1 hn
        clear hd hn
        have hcase : s[k].toNat = 35 ∨ s[k].toNat = 45 ∨ s[k].toNat = 46 ∨ s[k].toNat = 47 ∨ (48 ≤ s[k].toNat ∧ s[k].toNat ≤ 57) ∨ (97 ≤ s[k].toNat ∧ s[k].toNat ≤ 122) := by omega
        clear hc
        rcases hcase with h | h | h | h | ⟨h, h'⟩ | ⟨h, h'⟩
        all_goals
          try have e35 := beq_no (a := (s[k].toNat : Int)) (b := 35) (by omega)
          try have e45 := beq_no (a := (s[k].toNat : Int)) (b := 45) (by omega)
          try have e46 := beq_no (a := (s[k].toNat : Int)) (b := 46) (by omega)
          try have e47 := beq_no (a := (s[k].toNat : Int)) (b := 47) (by omega)
          go_wp2
          all_goals
            go_round
            case rel => exact ⟨k + 1, by omega, by go_num, hd'⟩
            case measure => simp [intOf]; omega
      | false =>
        have hn' := Lib.hid (nameB_not (allN_not hp hn))
        have hc : ¬ (s[k].toNat = 35 ∨ (45 ≤ s[k].toNat ∧ s[k].toNat ≤ 57) ∨ (97 ≤ s[k].toNat ∧ s[k].toNat ≤ 122)) := fun e => by rw [isN_iff.2 e] at hn; cases hn
        clear hd hn
        have e35 := beq_no (a := (s[k].toNat : Int)) (b := 35) (by omega)
        have e45 := beq_no (a := (s[k].toNat : Int)) (b := 45) (by omega)
        have e46 := beq_no (a := (s[k].toNat : Int)) (b := 46) (by omega)
        have e47 := beq_no (a := (s[k].toNat : Int)) (b := 47) (by omega)
        have hcase : s[k].toNat < 48 ∨ (57 < s[k].toNat ∧ s[k].toNat < 97) ∨ 122 < s[k].toNat := by omega
        clear hc
        rcases hcase with h | ⟨h, h'⟩ | h
        all_goals
          try have d57 : decide ((s[k].toNat : Int) ≤ 57) = false := decide_eq_false (by omega)
          try have d122 : decide ((s[k].toNat : Int) ≤ 122) = false := decide_eq_false (by omega)
          go_wp2
          go_ret
          exact ⟨ret_bool hn'.out.symm, rfl⟩
    · have hall : Hid (s.data.toList.all isN = true) := by
        have := hd.out
        rwa [List.take_of_length_le (by rw [size_list]; omega)] at this
      clear hd
      by_cases h1 : s.size < 1
      · have H := Lib.hid (nameB_off (.inl h1))
        go_wp2
        go_ret
        exact ⟨ret_bool H.out.symm, rfl⟩
      have g1 : 1 ≤ s.size := by omega
      by_cases h2 : 40 < s.size
      · have H := Lib.hid (nameB_off (.inr h2))
        go_wp2
        go_ret
        exact ⟨ret_bool (by rw [H.out]; simp; omega), rfl⟩
      have g2 : s.size ≤ 40 := by omega
      have H : Hid (nameB s.data.toList = true) := (nameB_mid g1 g2).trans hall.out
      clear h1 h2
      go_wp2
      go_ret
      exact ⟨ret_bool (by rw [H.out]; simp; omega), rfl⟩

theorem maybe_any (s : ByteArray) (w : World) (hs : s.size ≤ 9223372036854775807) :
    Calls Tryd.prog 47 #[.string s] w fun e w' => e = .returned (.bool (okT s)) ∧ w = w' := by
  by_cases h : s.data.toList = []
  · have H : Hid (okT s = true) := by show _ = _; unfold okT; rw [h]; rfl
    have h1 : s.toList = [] := by rw [Lib.toList_data]; exact h
    clear h
    go_enter Tryd.func47, Tryd.ntmps47
    go_wp2
    go_ret
    exact ⟨ret_bool H.out.symm, rfl⟩
  · have H : Hid (okT s = nameB s.data.toList) := by show _ = _; unfold okT; rw [decide_eq_false h]; rfl
    have h1 : s.toList.isEmpty = false := by rw [Lib.toList_data]; simpa using h
    clear h
    go_enter Tryd.func47, Tryd.ntmps47
    go_wp2_with fail
    refine (refName_any s _ hs).mono ?_
    rintro e w1 ⟨rfl, rfl⟩
    go_wp2
    go_ret
    exact ⟨ret_bool (by rw [H.out]), rfl⟩

theorem noSl_snoc {s : ByteArray} {k : Nat} (h : k < s.size) (hd : (47 : UInt8) ∉ s.data.toList.take k) (hk : s[k] ≠ 47) : (47 : UInt8) ∉ s.data.toList.take (k + 1) := by
  rw [take_snoc s k h]
  simp only [List.mem_append, List.mem_singleton, not_or]
  exact ⟨hd, fun e => hk e.symm⟩
theorem noSl_at {s : ByteArray} {k : Nat} (h : k < s.size) (hk : s[k] = 47) : noSl s = false := by
  unfold noSl
  have : (47 : UInt8) ∈ s.data.toList := by rw [← hk, ← get_list s k h]; exact List.getElem_mem _
  simp [this]
theorem noSl_of {s : ByteArray} (h : (47 : UInt8) ∉ s.data.toList) : noSl s = true := by
  unfold noSl; simp [h]

set_option maxHeartbeats 400000 in
theorem plain_any (s : ByteArray) (w : World) (hs : s.size ≤ 9223372036854775807) :
    Calls Tryd.prog 50 #[.string s] w fun e w' => e = .returned (.bool (noSl s)) ∧ w = w' := by
  go_enter Tryd.func50, Tryd.ntmps50
  go_wp2
  go_loop [3] (fun i => ∃ k : Nat, k ≤ s.size ∧ i = .int .i64 k ∧ Hid ((47 : UInt8) ∉ s.data.toList.take k)) (fun i => s.size - (intOf i).toNat)
  case atStart => exact ⟨0, Nat.zero_le _, rfl, by show ¬ _; simp⟩
  case round =>
    obtain ⟨k, hk, rfl, hd⟩ := hrel
    by_cases hp : k < s.size
    · by_cases hc : s[k] = 47
      · have H := Lib.hid (noSl_at hp hc)
        have e47 := beq_yes (a := (s[k].toNat : Int)) (b := 47) (by rw [hc]; rfl)
        clear hd hc
        go_wp2
        go_ret
        exact ⟨ret_bool H.out.symm, rfl⟩
      · have hd' := Lib.hid (noSl_snoc hp hd.out hc)
        have e47 := beq_no (a := (s[k].toNat : Int)) (b := 47) (fun e => hc (UInt8.toNat_inj.1 (by simp; omega)))
        clear hd hc
        go_wp2
        go_round
        case rel => exact ⟨k + 1, by omega, by go_num, hd'⟩
        case measure => simp [intOf]; omega
    · have H : Hid (noSl s = true) := by
        have := hd.out
        rw [List.take_of_length_le (by rw [size_list]; omega)] at this
        exact noSl_of this
      clear hd
      go_wp2
      go_ret
      exact ⟨ret_bool H.out.symm, rfl⟩
theorem emp_true {s : ByteArray} (h : emp s = true) : s.toList.isEmpty = true := by
  unfold emp at h; rw [Lib.toList_data, of_decide_eq_true h]; rfl

theorem emp_false {s : ByteArray} (h : emp s = false) : s.toList.isEmpty = false := by
  unfold emp at h; rw [Lib.toList_data]; simpa using h

theorem emp_true' {s : ByteArray} (h : emp s = true) : s.toList = [] := by
  unfold emp at h; rw [Lib.toList_data, of_decide_eq_true h]

theorem neB (n : Int) : (n != 0) = decide (n ≠ 0) := by rw [Bool.eq_iff_iff]; simp

theorem beqD (a b : Int) : (a == b) = decide (a = b) := by rw [Bool.eq_iff_iff]; simp

theorem refAttachName_any (v n : ByteArray) (w : World) (h1 : v.size ≤ 140737488351232) (h2 : n.size ≤ 140737488351232) :
    Calls Tryd.prog 51 #[.string v, .string n] w fun e w' => e = .returned (.string (attachN v n)) ∧ w = w' := by
  go_enter Tryd.func51, Tryd.ntmps51
  go_wp2
  go_ret
  exact ⟨rfl, rfl⟩
end Go.Proofs.YtfpdchabknoklaaDoor.O
namespace Go.Proofs.YtfpdchabknoklaaDoor.O
open Go.RowKit T
open Go.Lib

set_option maxRecDepth 100000 in
set_option maxHeartbeats 4000000 in
theorem bare_1 (o : Obj) (w : World) (hk : o.kind = 1) :
    Calls Tryd.prog 49 #[encO o] w fun e w' => e = .returned (encO (bareO o)) ∧ Below w.heap.size w w' := by
  have hE : Hid (bareO o = { baseO o with zone := o.zone, wait := o.wait, keep := o.keep }) := by show _ = _; unfold bareO baseO; simp [hk]
  have HK := Lib.hid hk
  clear hk
  unfold encO
  go_enter Tryd.func49, Tryd.ntmps49
  go_upto_region 1 with (fail)
  refine wp_gen (fun W => BoxO W w.heap.size o ∧ BoxO W (w.heap.size + 1) O0 ∧ Below w.heap.size w W ∧ W.heap.size = w.heap.size + 2) ?_ ?_
  · exact ⟨(BoxO.new w o).alloc _, heap_alloc2_new w _ _, ((Below.refl _ _).alloc (Nat.le_refl _) _).alloc (by simp) _, by simp⟩
  rintro W1 ⟨hb, hr, hlow, hsz⟩
  have c0 := hb.c0
  have c1 := hb.c1
  have c2 := hb.c2
  have c3 := hb.c3
  have c4 := hb.c4
  have c5 := hb.c5
  have hn := BoxO.new W1 O0
  rw [hsz] at hn
  go_upto_region 2 with (first | ((with_reducible refine wpList_build_to rfl 31 _ rfl (cellsO (baseO o)) ?_ ?_); exact built_base o) | ((with_reducible refine wpList_store_rowTo rfl 31 _ _ rfl rfl (w.heap.size + 2) (cellsO (baseO o)) ?_ ?_ 31 (cellsO O0) ?_ ?_ ?_ ?_ ?_); rfl; rfl; exact hn; exact sizeObj; exact sz_cells _ _; exact one_cells _))
  refine wp_gen (fun W => BoxO W w.heap.size o ∧ BoxO W (w.heap.size + 1) O0 ∧ BoxO W (w.heap.size + 2) (baseO o) ∧ Below w.heap.size w W) ?_ ?_
  · exact ⟨(hb.alloc _).row (by omega) _, (hr.alloc _).row (by omega) _, hn.setRow _, below_setRow (hlow.alloc (by omega) _) (by omega) _⟩
  clear c0 c1 c2 c3 c4 c5 hb hr hlow hsz hn
  rintro W2 ⟨hb, hr, hn, hlow⟩
  have c0 := hb.c0
  have e1 : (o.kind == 1) = true := by rw [HK.out]; rfl
  go_wp2_with fail
  refine wp_region_held_drew (S := fun W => BoxO W w.heap.size o) (by kernel_rfl) hb.drew (fun _ => ?_)
  refine HeldBy.gen (fun W => BoxO W w.heap.size o ∧ BoxO W (w.heap.size + 1) O0 ∧ BoxO W (w.heap.size + 2) (baseO o) ∧ Below w.heap.size w W) ⟨hb.drew, hr.drew, hn.drew, hlow.drew⟩ ?_
  clear hb hr hn hlow
  rintro V2 ⟨hb, hr, hn, hlow⟩
  clear c0 e1
  refine HeldBy.take (i := 0) rfl (by kernel_rfl) (by kernel_rfl) (by kernel_rfl) (fun _ _ _ h => h) (by rfl) (fun _ _ => by go_simp; rfl) (by go_simp; rfl) hb ?_
  refine HeldBy.take (i := 1) rfl (by kernel_rfl) (by kernel_rfl) (by kernel_rfl) (fun _ _ _ h => h) (by rfl) (fun _ h => by have c := BoxO.c12 h; go_simp; rfl) (by go_simp; rfl) hb ?_
  refine HeldBy.take (i := 2) rfl (by kernel_rfl) (by kernel_rfl) (by kernel_rfl) (fun _ _ _ h => h) (by rfl) (fun _ _ => by go_simp; rfl) (by go_simp; rfl) hb ?_
  refine HeldBy.take (i := 3) rfl (by kernel_rfl) (by kernel_rfl) (by kernel_rfl) (fun _ _ _ h => h) (by rfl) (fun _ h => by have c := BoxO.c11 h; go_simp; rfl) (by go_simp; rfl) hb ?_
  refine HeldBy.take (i := 4) rfl (by kernel_rfl) (by kernel_rfl) (by kernel_rfl) (fun _ _ _ h => h) (by rfl) (fun _ _ => by go_simp; rfl) (by go_simp; rfl) hb ?_
  refine HeldBy.take (i := 5) rfl (by kernel_rfl) (by kernel_rfl) (by kernel_rfl) (fun _ _ _ h => h) (by rfl) (fun _ h => by have c := BoxO.c10 h; go_simp; rfl) (by go_simp; rfl) hb ?_
  refine HeldBy.take (i := 6) rfl (by kernel_rfl) (by kernel_rfl) (by kernel_rfl) (fun _ _ _ h => h) (by rfl) (fun _ _ => by go_simp; rfl) (by go_simp; rfl) hb ?_
  have n12 := hn.c12
  have f12 := hn.free 12
  refine HeldBy.store (i := 7) rfl (by kernel_rfl) (by rfl) (by go_simp; rfl) (by go_simp; rfl) (hb.other (by simp) _) ?_
  clear n12 f12
  refine HeldBy.gen (fun W => BoxO W w.heap.size o ∧ BoxO W (w.heap.size + 1) O0 ∧ BoxO W (w.heap.size + 2) ({ baseO o with zone := o.zone }) ∧ Below w.heap.size w W) ⟨hb.other (by simp) _, hr.other (by simp) _, hn.s12 o.zone, hlow.setCell (by simp) _⟩ ?_
  clear hb hr hn hlow
  rintro V2x ⟨hb, hr, hn, hlow⟩
  refine HeldBy.take (i := 8) rfl (by kernel_rfl) (by kernel_rfl) (by kernel_rfl) (fun _ _ _ h => h) (by rfl) (fun _ _ => by go_simp; rfl) (by go_simp; rfl) hb ?_
  have n11 := hn.c11
  have f11 := hn.free 11
  refine HeldBy.store (i := 9) rfl (by kernel_rfl) (by rfl) (by go_simp; rfl) (by go_simp; rfl) (hb.other (by simp) _) ?_
  clear n11 f11
  refine HeldBy.gen (fun W => BoxO W w.heap.size o ∧ BoxO W (w.heap.size + 1) O0 ∧ BoxO W (w.heap.size + 2) ({ baseO o with zone := o.zone, wait := o.wait }) ∧ Below w.heap.size w W) ⟨hb.other (by simp) _, hr.other (by simp) _, hn.s11 o.wait, hlow.setCell (by simp) _⟩ ?_
  clear hb hr hn hlow
  rintro V2xx ⟨hb, hr, hn, hlow⟩
  refine HeldBy.take (i := 10) rfl (by kernel_rfl) (by kernel_rfl) (by kernel_rfl) (fun _ _ _ h => h) (by rfl) (fun _ _ => by go_simp; rfl) (by go_simp; rfl) hb ?_
  have n10 := hn.c10
  have f10 := hn.free 10
  refine HeldBy.store (i := 11) rfl (by kernel_rfl) (by rfl) (by go_simp; rfl) (by go_simp; rfl) (hb.other (by simp) _) ?_
  clear n10 f10
  refine HeldBy.gen (fun W => BoxO W w.heap.size o ∧ BoxO W (w.heap.size + 1) O0 ∧ BoxO W (w.heap.size + 2) ({ baseO o with zone := o.zone, wait := o.wait, keep := o.keep }) ∧ Below w.heap.size w W) ⟨hb.other (by simp) _, hr.other (by simp) _, hn.s10 o.keep, hlow.setCell (by simp) _⟩ ?_
  clear hb hr hn hlow
  rintro V2xxx ⟨hb, hr, hn, hlow⟩
  refine wpAnyH_done (by kernel_rfl) ?_ _
  go_upto_region 17 with (fail)
  refine wp_gen (fun W => BoxO W w.heap.size o ∧ BoxO W (w.heap.size + 1) O0 ∧ BoxO W (w.heap.size + 2) ({ baseO o with zone := o.zone, wait := o.wait, keep := o.keep }) ∧ Below w.heap.size w W) ⟨hb, hr, hn, hlow⟩ ?_
  clear hb hr hn hlow
  rintro W3 ⟨hb, hr, hn, hlow⟩
  have hn' := hE.out ▸ hn
  clear hb
  go_wp2_with (first | ((with_reducible refine wpList_load_row rfl 31 _ rfl (w.heap.size + 2) ?_ 31 (cellsO (bareO o)) (0, 0) _ ?_ undObj ?_ ?_ ?_); rfl; exact hn'; rfl; exact sizeObj) | ((with_reducible refine wpList_store_rowTo rfl 31 _ _ rfl rfl (w.heap.size + 1) (cellsO (bareO o)) ?_ ?_ 31 (cellsO O0) ?_ ?_ ?_ ?_ ?_); rfl; rfl; exact hr; exact sizeObj; exact sz_cells _ _; exact one_cells _))
  refine bodyPost_ret (v := encO (bareO o)) (results_cell_row rfl _ _ (w.heap.size + 1) 31 (cellsO (bareO o)) (0, 0) _ rfl (hr.setRow _) undObj rfl sizeObj) rfl ?_
  exact ⟨rfl, below_setRow hlow (by omega) _⟩

set_option maxRecDepth 100000 in
set_option maxHeartbeats 4000000 in
theorem bare_2 (o : Obj) (w : World) (hk : o.kind = 2) :
    Calls Tryd.prog 49 #[encO o] w fun e w' => e = .returned (encO (bareO o)) ∧ Below w.heap.size w w' := by
  have hE : Hid (bareO o = { baseO o with zone := o.zone }) := by show _ = _; unfold bareO baseO; simp [hk]
  have HK := Lib.hid hk
  clear hk
  unfold encO
  go_enter Tryd.func49, Tryd.ntmps49
  go_upto_region 1 with (fail)
  refine wp_gen (fun W => BoxO W w.heap.size o ∧ BoxO W (w.heap.size + 1) O0 ∧ Below w.heap.size w W ∧ W.heap.size = w.heap.size + 2) ?_ ?_
  · exact ⟨(BoxO.new w o).alloc _, heap_alloc2_new w _ _, ((Below.refl _ _).alloc (Nat.le_refl _) _).alloc (by simp) _, by simp⟩
  rintro W1 ⟨hb, hr, hlow, hsz⟩
  have c0 := hb.c0
  have c1 := hb.c1
  have c2 := hb.c2
  have c3 := hb.c3
  have c4 := hb.c4
  have c5 := hb.c5
  have hn := BoxO.new W1 O0
  rw [hsz] at hn
  go_upto_region 2 with (first | ((with_reducible refine wpList_build_to rfl 31 _ rfl (cellsO (baseO o)) ?_ ?_); exact built_base o) | ((with_reducible refine wpList_store_rowTo rfl 31 _ _ rfl rfl (w.heap.size + 2) (cellsO (baseO o)) ?_ ?_ 31 (cellsO O0) ?_ ?_ ?_ ?_ ?_); rfl; rfl; exact hn; exact sizeObj; exact sz_cells _ _; exact one_cells _))
  refine wp_gen (fun W => BoxO W w.heap.size o ∧ BoxO W (w.heap.size + 1) O0 ∧ BoxO W (w.heap.size + 2) (baseO o) ∧ Below w.heap.size w W) ?_ ?_
  · exact ⟨(hb.alloc _).row (by omega) _, (hr.alloc _).row (by omega) _, hn.setRow _, below_setRow (hlow.alloc (by omega) _) (by omega) _⟩
  clear c0 c1 c2 c3 c4 c5 hb hr hlow hsz hn
  rintro W2 ⟨hb, hr, hn, hlow⟩
  have c0 := hb.c0
  have e1 : (o.kind == 1) = false := by rw [HK.out]; rfl
  have e2 : (o.kind == 2) = true := by rw [HK.out]; rfl
  have c12 := hb.c12
  have n12 := hn.c12
  have f12 := hn.free 12
  go_upto_region 17 with (fail)
  refine wp_gen (fun W => BoxO W w.heap.size o ∧ BoxO W (w.heap.size + 1) O0 ∧ BoxO W (w.heap.size + 2) ({ baseO o with zone := o.zone }) ∧ Below w.heap.size w W) ?_ ?_
  · exact ⟨hb.other (by simp) _, hr.other (by simp) _, hn.s12 o.zone, hlow.setCell (by simp) _⟩
  clear c0 e1 e2 c12 n12 f12 hb hr hn hlow
  rintro W3 ⟨hb, hr, hn, hlow⟩
  have hn' := hE.out ▸ hn
  clear hb
  go_wp2_with (first | ((with_reducible refine wpList_load_row rfl 31 _ rfl (w.heap.size + 2) ?_ 31 (cellsO (bareO o)) (0, 0) _ ?_ undObj ?_ ?_ ?_); rfl; exact hn'; rfl; exact sizeObj) | ((with_reducible refine wpList_store_rowTo rfl 31 _ _ rfl rfl (w.heap.size + 1) (cellsO (bareO o)) ?_ ?_ 31 (cellsO O0) ?_ ?_ ?_ ?_ ?_); rfl; rfl; exact hr; exact sizeObj; exact sz_cells _ _; exact one_cells _))
  refine bodyPost_ret (v := encO (bareO o)) (results_cell_row rfl _ _ (w.heap.size + 1) 31 (cellsO (bareO o)) (0, 0) _ rfl (hr.setRow _) undObj rfl sizeObj) rfl ?_
  exact ⟨rfl, below_setRow hlow (by omega) _⟩

set_option maxRecDepth 100000 in
set_option maxHeartbeats 4000000 in
theorem bare_3 (o : Obj) (w : World) (hk : o.kind = 3) :
    Calls Tryd.prog 49 #[encO o] w fun e w' => e = .returned (encO (bareO o)) ∧ Below w.heap.size w w' := by
  have hE : Hid (bareO o = { baseO o with cls := o.cls, size := o.size, got := o.got, mode := o.mode, zone := o.zone, node := o.node, volume := o.volume, source := o.source, phase := o.phase, num := o.num }) := by show _ = _; unfold bareO baseO; simp [hk]
  have HK := Lib.hid hk
  clear hk
  unfold encO
  go_enter Tryd.func49, Tryd.ntmps49
  go_upto_region 1 with (fail)
  refine wp_gen (fun W => BoxO W w.heap.size o ∧ BoxO W (w.heap.size + 1) O0 ∧ Below w.heap.size w W ∧ W.heap.size = w.heap.size + 2) ?_ ?_
  · exact ⟨(BoxO.new w o).alloc _, heap_alloc2_new w _ _, ((Below.refl _ _).alloc (Nat.le_refl _) _).alloc (by simp) _, by simp⟩
  rintro W1 ⟨hb, hr, hlow, hsz⟩
  have c0 := hb.c0
  have c1 := hb.c1
  have c2 := hb.c2
  have c3 := hb.c3
  have c4 := hb.c4
  have c5 := hb.c5
  have hn := BoxO.new W1 O0
  rw [hsz] at hn
  go_upto_region 2 with (first | ((with_reducible refine wpList_build_to rfl 31 _ rfl (cellsO (baseO o)) ?_ ?_); exact built_base o) | ((with_reducible refine wpList_store_rowTo rfl 31 _ _ rfl rfl (w.heap.size + 2) (cellsO (baseO o)) ?_ ?_ 31 (cellsO O0) ?_ ?_ ?_ ?_ ?_); rfl; rfl; exact hn; exact sizeObj; exact sz_cells _ _; exact one_cells _))
  refine wp_gen (fun W => BoxO W w.heap.size o ∧ BoxO W (w.heap.size + 1) O0 ∧ BoxO W (w.heap.size + 2) (baseO o) ∧ Below w.heap.size w W) ?_ ?_
  · exact ⟨(hb.alloc _).row (by omega) _, (hr.alloc _).row (by omega) _, hn.setRow _, below_setRow (hlow.alloc (by omega) _) (by omega) _⟩
  clear c0 c1 c2 c3 c4 c5 hb hr hlow hsz hn
  rintro W2 ⟨hb, hr, hn, hlow⟩
  have c0 := hb.c0
  have e1 : (o.kind == 1) = false := by rw [HK.out]; rfl
  have e2 : (o.kind == 2) = false := by rw [HK.out]; rfl
  have e3 : (o.kind == 3) = true := by rw [HK.out]; rfl
  go_wp2_with fail
  refine wp_region_held_drew (S := fun W => BoxO W w.heap.size o) (by kernel_rfl) hb.drew (fun _ => ?_)
  refine HeldBy.gen (fun W => BoxO W w.heap.size o ∧ BoxO W (w.heap.size + 1) O0 ∧ BoxO W (w.heap.size + 2) (baseO o) ∧ Below w.heap.size w W) ⟨hb.drew, hr.drew, hn.drew, hlow.drew⟩ ?_
  clear hb hr hn hlow
  rintro V2 ⟨hb, hr, hn, hlow⟩
  clear c0 e1 e2 e3
  refine HeldBy.take (i := 0) rfl (by kernel_rfl) (by kernel_rfl) (by kernel_rfl) (fun _ _ _ h => h) (by rfl) (fun _ _ => by go_simp; rfl) (by go_simp; rfl) hb ?_
  refine HeldBy.take (i := 1) rfl (by kernel_rfl) (by kernel_rfl) (by kernel_rfl) (fun _ _ _ h => h) (by rfl) (fun _ h => by have c := BoxO.c6 h; go_simp; rfl) (by go_simp; rfl) hb ?_
  refine HeldBy.take (i := 2) rfl (by kernel_rfl) (by kernel_rfl) (by kernel_rfl) (fun _ _ _ h => h) (by rfl) (fun _ _ => by go_simp; rfl) (by go_simp; rfl) hb ?_
  refine HeldBy.take (i := 3) rfl (by kernel_rfl) (by kernel_rfl) (by kernel_rfl) (fun _ _ _ h => h) (by rfl) (fun _ h => by have c := BoxO.c7 h; go_simp; rfl) (by go_simp; rfl) hb ?_
  refine HeldBy.take (i := 4) rfl (by kernel_rfl) (by kernel_rfl) (by kernel_rfl) (fun _ _ _ h => h) (by rfl) (fun _ _ => by go_simp; rfl) (by go_simp; rfl) hb ?_
  refine HeldBy.take (i := 5) rfl (by kernel_rfl) (by kernel_rfl) (by kernel_rfl) (fun _ _ _ h => h) (by rfl) (fun _ h => by have c := BoxO.c8 h; go_simp; rfl) (by go_simp; rfl) hb ?_
  refine HeldBy.take (i := 6) rfl (by kernel_rfl) (by kernel_rfl) (by kernel_rfl) (fun _ _ _ h => h) (by rfl) (fun _ _ => by go_simp; rfl) (by go_simp; rfl) hb ?_
  refine HeldBy.take (i := 7) rfl (by kernel_rfl) (by kernel_rfl) (by kernel_rfl) (fun _ _ _ h => h) (by rfl) (fun _ h => by have c := BoxO.c9 h; go_simp; rfl) (by go_simp; rfl) hb ?_
  refine HeldBy.take (i := 8) rfl (by kernel_rfl) (by kernel_rfl) (by kernel_rfl) (fun _ _ _ h => h) (by rfl) (fun _ _ => by go_simp; rfl) (by go_simp; rfl) hb ?_
  refine HeldBy.take (i := 9) rfl (by kernel_rfl) (by kernel_rfl) (by kernel_rfl) (fun _ _ _ h => h) (by rfl) (fun _ h => by have c := BoxO.c12 h; go_simp; rfl) (by go_simp; rfl) hb ?_
  refine HeldBy.take (i := 10) rfl (by kernel_rfl) (by kernel_rfl) (by kernel_rfl) (fun _ _ _ h => h) (by rfl) (fun _ _ => by go_simp; rfl) (by go_simp; rfl) hb ?_
  refine HeldBy.take (i := 11) rfl (by kernel_rfl) (by kernel_rfl) (by kernel_rfl) (fun _ _ _ h => h) (by rfl) (fun _ h => by have c := BoxO.c13 h; go_simp; rfl) (by go_simp; rfl) hb ?_
  refine HeldBy.take (i := 12) rfl (by kernel_rfl) (by kernel_rfl) (by kernel_rfl) (fun _ _ _ h => h) (by rfl) (fun _ _ => by go_simp; rfl) (by go_simp; rfl) hb ?_
  refine HeldBy.take (i := 13) rfl (by kernel_rfl) (by kernel_rfl) (by kernel_rfl) (fun _ _ _ h => h) (by rfl) (fun _ h => by have c := BoxO.c15 h; go_simp; rfl) (by go_simp; rfl) hb ?_
  refine HeldBy.take (i := 14) rfl (by kernel_rfl) (by kernel_rfl) (by kernel_rfl) (fun _ _ _ h => h) (by rfl) (fun _ _ => by go_simp; rfl) (by go_simp; rfl) hb ?_
  refine HeldBy.take (i := 15) rfl (by kernel_rfl) (by kernel_rfl) (by kernel_rfl) (fun _ _ _ h => h) (by rfl) (fun _ h => by have c := BoxO.c16 h; go_simp; rfl) (by go_simp; rfl) hb ?_
  refine HeldBy.take (i := 16) rfl (by kernel_rfl) (by kernel_rfl) (by kernel_rfl) (fun _ _ _ h => h) (by rfl) (fun _ _ => by go_simp; rfl) (by go_simp; rfl) hb ?_
  refine HeldBy.take (i := 17) rfl (by kernel_rfl) (by kernel_rfl) (by kernel_rfl) (fun _ _ _ h => h) (by rfl) (fun _ h => by have c := BoxO.c17 h; go_simp; rfl) (by go_simp; rfl) hb ?_
  refine HeldBy.take (i := 18) rfl (by kernel_rfl) (by kernel_rfl) (by kernel_rfl) (fun _ _ _ h => h) (by rfl) (fun _ _ => by go_simp; rfl) (by go_simp; rfl) hb ?_
  refine HeldBy.take (i := 19) rfl (by kernel_rfl) (by kernel_rfl) (by kernel_rfl) (fun _ _ _ h => h) (by rfl) (fun _ h => by have c := BoxO.c18 h; go_simp; rfl) (by go_simp; rfl) hb ?_
  refine HeldBy.take (i := 20) rfl (by kernel_rfl) (by kernel_rfl) (by kernel_rfl) (fun _ _ _ h => h) (by rfl) (fun _ _ => by go_simp; rfl) (by go_simp; rfl) hb ?_
  have n6 := hn.c6
  have f6 := hn.free 6
  refine HeldBy.store (i := 21) rfl (by kernel_rfl) (by rfl) (by go_simp; rfl) (by go_simp; rfl) (hb.other (by simp) _) ?_
  clear n6 f6
  refine HeldBy.gen (fun W => BoxO W w.heap.size o ∧ BoxO W (w.heap.size + 1) O0 ∧ BoxO W (w.heap.size + 2) ({ baseO o with cls := o.cls }) ∧ Below w.heap.size w W) ⟨hb.other (by simp) _, hr.other (by simp) _, hn.s6 o.cls, hlow.setCell (by simp) _⟩ ?_
  clear hb hr hn hlow
  rintro V2x ⟨hb, hr, hn, hlow⟩
  refine HeldBy.take (i := 22) rfl (by kernel_rfl) (by kernel_rfl) (by kernel_rfl) (fun _ _ _ h => h) (by rfl) (fun _ _ => by go_simp; rfl) (by go_simp; rfl) hb ?_
  have n7 := hn.c7
  have f7 := hn.free 7
  refine HeldBy.store (i := 23) rfl (by kernel_rfl) (by rfl) (by go_simp; rfl) (by go_simp; rfl) (hb.other (by simp) _) ?_
  clear n7 f7
  refine HeldBy.gen (fun W => BoxO W w.heap.size o ∧ BoxO W (w.heap.size + 1) O0 ∧ BoxO W (w.heap.size + 2) ({ baseO o with cls := o.cls, size := o.size }) ∧ Below w.heap.size w W) ⟨hb.other (by simp) _, hr.other (by simp) _, hn.s7 o.size, hlow.setCell (by simp) _⟩ ?_
  clear hb hr hn hlow
  rintro V2xx ⟨hb, hr, hn, hlow⟩
  refine HeldBy.take (i := 24) rfl (by kernel_rfl) (by kernel_rfl) (by kernel_rfl) (fun _ _ _ h => h) (by rfl) (fun _ _ => by go_simp; rfl) (by go_simp; rfl) hb ?_
  have n8 := hn.c8
  have f8 := hn.free 8
  refine HeldBy.store (i := 25) rfl (by kernel_rfl) (by rfl) (by go_simp; rfl) (by go_simp; rfl) (hb.other (by simp) _) ?_
  clear n8 f8
  refine HeldBy.gen (fun W => BoxO W w.heap.size o ∧ BoxO W (w.heap.size + 1) O0 ∧ BoxO W (w.heap.size + 2) ({ baseO o with cls := o.cls, size := o.size, got := o.got }) ∧ Below w.heap.size w W) ⟨hb.other (by simp) _, hr.other (by simp) _, hn.s8 o.got, hlow.setCell (by simp) _⟩ ?_
  clear hb hr hn hlow
  rintro V2xxx ⟨hb, hr, hn, hlow⟩
  refine HeldBy.take (i := 26) rfl (by kernel_rfl) (by kernel_rfl) (by kernel_rfl) (fun _ _ _ h => h) (by rfl) (fun _ _ => by go_simp; rfl) (by go_simp; rfl) hb ?_
  have n9 := hn.c9
  have f9 := hn.free 9
  refine HeldBy.store (i := 27) rfl (by kernel_rfl) (by rfl) (by go_simp; rfl) (by go_simp; rfl) (hb.other (by simp) _) ?_
  clear n9 f9
  refine HeldBy.gen (fun W => BoxO W w.heap.size o ∧ BoxO W (w.heap.size + 1) O0 ∧ BoxO W (w.heap.size + 2) ({ baseO o with cls := o.cls, size := o.size, got := o.got, mode := o.mode }) ∧ Below w.heap.size w W) ⟨hb.other (by simp) _, hr.other (by simp) _, hn.s9 o.mode, hlow.setCell (by simp) _⟩ ?_
  clear hb hr hn hlow
  rintro V2xxxx ⟨hb, hr, hn, hlow⟩
  refine HeldBy.take (i := 28) rfl (by kernel_rfl) (by kernel_rfl) (by kernel_rfl) (fun _ _ _ h => h) (by rfl) (fun _ _ => by go_simp; rfl) (by go_simp; rfl) hb ?_
  have n12 := hn.c12
  have f12 := hn.free 12
  refine HeldBy.store (i := 29) rfl (by kernel_rfl) (by rfl) (by go_simp; rfl) (by go_simp; rfl) (hb.other (by simp) _) ?_
  clear n12 f12
  refine HeldBy.gen (fun W => BoxO W w.heap.size o ∧ BoxO W (w.heap.size + 1) O0 ∧ BoxO W (w.heap.size + 2) ({ baseO o with cls := o.cls, size := o.size, got := o.got, mode := o.mode, zone := o.zone }) ∧ Below w.heap.size w W) ⟨hb.other (by simp) _, hr.other (by simp) _, hn.s12 o.zone, hlow.setCell (by simp) _⟩ ?_
  clear hb hr hn hlow
  rintro V2xxxxx ⟨hb, hr, hn, hlow⟩
  refine HeldBy.take (i := 30) rfl (by kernel_rfl) (by kernel_rfl) (by kernel_rfl) (fun _ _ _ h => h) (by rfl) (fun _ _ => by go_simp; rfl) (by go_simp; rfl) hb ?_
  have n13 := hn.c13
  have f13 := hn.free 13
  refine HeldBy.store (i := 31) rfl (by kernel_rfl) (by rfl) (by go_simp; rfl) (by go_simp; rfl) (hb.other (by simp) _) ?_
  clear n13 f13
  refine HeldBy.gen (fun W => BoxO W w.heap.size o ∧ BoxO W (w.heap.size + 1) O0 ∧ BoxO W (w.heap.size + 2) ({ baseO o with cls := o.cls, size := o.size, got := o.got, mode := o.mode, zone := o.zone, node := o.node }) ∧ Below w.heap.size w W) ⟨hb.other (by simp) _, hr.other (by simp) _, hn.s13 o.node, hlow.setCell (by simp) _⟩ ?_
  clear hb hr hn hlow
  rintro V2xxxxxx ⟨hb, hr, hn, hlow⟩
  refine HeldBy.take (i := 32) rfl (by kernel_rfl) (by kernel_rfl) (by kernel_rfl) (fun _ _ _ h => h) (by rfl) (fun _ _ => by go_simp; rfl) (by go_simp; rfl) hb ?_
  have n15 := hn.c15
  have f15 := hn.free 15
  refine HeldBy.store (i := 33) rfl (by kernel_rfl) (by rfl) (by go_simp; rfl) (by go_simp; rfl) (hb.other (by simp) _) ?_
  clear n15 f15
  refine HeldBy.gen (fun W => BoxO W w.heap.size o ∧ BoxO W (w.heap.size + 1) O0 ∧ BoxO W (w.heap.size + 2) ({ baseO o with cls := o.cls, size := o.size, got := o.got, mode := o.mode, zone := o.zone, node := o.node, volume := o.volume }) ∧ Below w.heap.size w W) ⟨hb.other (by simp) _, hr.other (by simp) _, hn.s15 o.volume, hlow.setCell (by simp) _⟩ ?_
  clear hb hr hn hlow
  rintro V2xxxxxxx ⟨hb, hr, hn, hlow⟩
  refine HeldBy.take (i := 34) rfl (by kernel_rfl) (by kernel_rfl) (by kernel_rfl) (fun _ _ _ h => h) (by rfl) (fun _ _ => by go_simp; rfl) (by go_simp; rfl) hb ?_
  have n16 := hn.c16
  have f16 := hn.free 16
  refine HeldBy.store (i := 35) rfl (by kernel_rfl) (by rfl) (by go_simp; rfl) (by go_simp; rfl) (hb.other (by simp) _) ?_
  clear n16 f16
  refine HeldBy.gen (fun W => BoxO W w.heap.size o ∧ BoxO W (w.heap.size + 1) O0 ∧ BoxO W (w.heap.size + 2) ({ baseO o with cls := o.cls, size := o.size, got := o.got, mode := o.mode, zone := o.zone, node := o.node, volume := o.volume, source := o.source }) ∧ Below w.heap.size w W) ⟨hb.other (by simp) _, hr.other (by simp) _, hn.s16 o.source, hlow.setCell (by simp) _⟩ ?_
  clear hb hr hn hlow
  rintro V2xxxxxxxx ⟨hb, hr, hn, hlow⟩
  refine HeldBy.take (i := 36) rfl (by kernel_rfl) (by kernel_rfl) (by kernel_rfl) (fun _ _ _ h => h) (by rfl) (fun _ _ => by go_simp; rfl) (by go_simp; rfl) hb ?_
  have n17 := hn.c17
  have f17 := hn.free 17
  refine HeldBy.store (i := 37) rfl (by kernel_rfl) (by rfl) (by go_simp; rfl) (by go_simp; rfl) (hb.other (by simp) _) ?_
  clear n17 f17
  refine HeldBy.gen (fun W => BoxO W w.heap.size o ∧ BoxO W (w.heap.size + 1) O0 ∧ BoxO W (w.heap.size + 2) ({ baseO o with cls := o.cls, size := o.size, got := o.got, mode := o.mode, zone := o.zone, node := o.node, volume := o.volume, source := o.source, phase := o.phase }) ∧ Below w.heap.size w W) ⟨hb.other (by simp) _, hr.other (by simp) _, hn.s17 o.phase, hlow.setCell (by simp) _⟩ ?_
  clear hb hr hn hlow
  rintro V2xxxxxxxxx ⟨hb, hr, hn, hlow⟩
  refine HeldBy.take (i := 38) rfl (by kernel_rfl) (by kernel_rfl) (by kernel_rfl) (fun _ _ _ h => h) (by rfl) (fun _ _ => by go_simp; rfl) (by go_simp; rfl) hb ?_
  have n18 := hn.c18
  have f18 := hn.free 18
  refine HeldBy.store (i := 39) rfl (by kernel_rfl) (by rfl) (by go_simp; rfl) (by go_simp; rfl) (hb.other (by simp) _) ?_
  clear n18 f18
  refine HeldBy.gen (fun W => BoxO W w.heap.size o ∧ BoxO W (w.heap.size + 1) O0 ∧ BoxO W (w.heap.size + 2) ({ baseO o with cls := o.cls, size := o.size, got := o.got, mode := o.mode, zone := o.zone, node := o.node, volume := o.volume, source := o.source, phase := o.phase, num := o.num }) ∧ Below w.heap.size w W) ⟨hb.other (by simp) _, hr.other (by simp) _, hn.s18 o.num, hlow.setCell (by simp) _⟩ ?_
  clear hb hr hn hlow
  rintro V2xxxxxxxxxx ⟨hb, hr, hn, hlow⟩
  refine wpAnyH_done (by kernel_rfl) ?_ _
  go_upto_region 17 with (fail)
  refine wp_gen (fun W => BoxO W w.heap.size o ∧ BoxO W (w.heap.size + 1) O0 ∧ BoxO W (w.heap.size + 2) ({ baseO o with cls := o.cls, size := o.size, got := o.got, mode := o.mode, zone := o.zone, node := o.node, volume := o.volume, source := o.source, phase := o.phase, num := o.num }) ∧ Below w.heap.size w W) ⟨hb, hr, hn, hlow⟩ ?_
  clear hb hr hn hlow
  rintro W3 ⟨hb, hr, hn, hlow⟩
  have hn' := hE.out ▸ hn
  clear hb
  go_wp2_with (first | ((with_reducible refine wpList_load_row rfl 31 _ rfl (w.heap.size + 2) ?_ 31 (cellsO (bareO o)) (0, 0) _ ?_ undObj ?_ ?_ ?_); rfl; exact hn'; rfl; exact sizeObj) | ((with_reducible refine wpList_store_rowTo rfl 31 _ _ rfl rfl (w.heap.size + 1) (cellsO (bareO o)) ?_ ?_ 31 (cellsO O0) ?_ ?_ ?_ ?_ ?_); rfl; rfl; exact hr; exact sizeObj; exact sz_cells _ _; exact one_cells _))
  refine bodyPost_ret (v := encO (bareO o)) (results_cell_row rfl _ _ (w.heap.size + 1) 31 (cellsO (bareO o)) (0, 0) _ rfl (hr.setRow _) undObj rfl sizeObj) rfl ?_
  exact ⟨rfl, below_setRow hlow (by omega) _⟩

set_option maxRecDepth 100000 in
set_option maxHeartbeats 4000000 in
theorem bare_4 (o : Obj) (w : World) (hk : o.kind = 4) :
    Calls Tryd.prog 49 #[encO o] w fun e w' => e = .returned (encO (bareO o)) ∧ Below w.heap.size w w' := by
  have hE : Hid (bareO o = { baseO o with cls := o.cls, size := o.size, got := o.got, mode := o.mode, keep := o.keep, zone := o.zone, claim := o.claim, phase := o.phase, num := o.num }) := by show _ = _; unfold bareO baseO; simp [hk]
  have HK := Lib.hid hk
  clear hk
  unfold encO
  go_enter Tryd.func49, Tryd.ntmps49
  go_upto_region 1 with (fail)
  refine wp_gen (fun W => BoxO W w.heap.size o ∧ BoxO W (w.heap.size + 1) O0 ∧ Below w.heap.size w W ∧ W.heap.size = w.heap.size + 2) ?_ ?_
  · exact ⟨(BoxO.new w o).alloc _, heap_alloc2_new w _ _, ((Below.refl _ _).alloc (Nat.le_refl _) _).alloc (by simp) _, by simp⟩
  rintro W1 ⟨hb, hr, hlow, hsz⟩
  have c0 := hb.c0
  have c1 := hb.c1
  have c2 := hb.c2
  have c3 := hb.c3
  have c4 := hb.c4
  have c5 := hb.c5
  have hn := BoxO.new W1 O0
  rw [hsz] at hn
  go_upto_region 2 with (first | ((with_reducible refine wpList_build_to rfl 31 _ rfl (cellsO (baseO o)) ?_ ?_); exact built_base o) | ((with_reducible refine wpList_store_rowTo rfl 31 _ _ rfl rfl (w.heap.size + 2) (cellsO (baseO o)) ?_ ?_ 31 (cellsO O0) ?_ ?_ ?_ ?_ ?_); rfl; rfl; exact hn; exact sizeObj; exact sz_cells _ _; exact one_cells _))
  refine wp_gen (fun W => BoxO W w.heap.size o ∧ BoxO W (w.heap.size + 1) O0 ∧ BoxO W (w.heap.size + 2) (baseO o) ∧ Below w.heap.size w W) ?_ ?_
  · exact ⟨(hb.alloc _).row (by omega) _, (hr.alloc _).row (by omega) _, hn.setRow _, below_setRow (hlow.alloc (by omega) _) (by omega) _⟩
  clear c0 c1 c2 c3 c4 c5 hb hr hlow hsz hn
  rintro W2 ⟨hb, hr, hn, hlow⟩
  have c0 := hb.c0
  have e1 : (o.kind == 1) = false := by rw [HK.out]; rfl
  have e2 : (o.kind == 2) = false := by rw [HK.out]; rfl
  have e3 : (o.kind == 3) = false := by rw [HK.out]; rfl
  have e4 : (o.kind == 4) = true := by rw [HK.out]; rfl
  go_wp2_with fail
  refine wp_region_held_drew (S := fun W => BoxO W w.heap.size o) (by kernel_rfl) hb.drew (fun _ => ?_)
  refine HeldBy.gen (fun W => BoxO W w.heap.size o ∧ BoxO W (w.heap.size + 1) O0 ∧ BoxO W (w.heap.size + 2) (baseO o) ∧ Below w.heap.size w W) ⟨hb.drew, hr.drew, hn.drew, hlow.drew⟩ ?_
  clear hb hr hn hlow
  rintro V2 ⟨hb, hr, hn, hlow⟩
  clear c0 e1 e2 e3 e4
  refine HeldBy.take (i := 0) rfl (by kernel_rfl) (by kernel_rfl) (by kernel_rfl) (fun _ _ _ h => h) (by rfl) (fun _ _ => by go_simp; rfl) (by go_simp; rfl) hb ?_
  refine HeldBy.take (i := 1) rfl (by kernel_rfl) (by kernel_rfl) (by kernel_rfl) (fun _ _ _ h => h) (by rfl) (fun _ h => by have c := BoxO.c6 h; go_simp; rfl) (by go_simp; rfl) hb ?_
  refine HeldBy.take (i := 2) rfl (by kernel_rfl) (by kernel_rfl) (by kernel_rfl) (fun _ _ _ h => h) (by rfl) (fun _ _ => by go_simp; rfl) (by go_simp; rfl) hb ?_
  refine HeldBy.take (i := 3) rfl (by kernel_rfl) (by kernel_rfl) (by kernel_rfl) (fun _ _ _ h => h) (by rfl) (fun _ h => by have c := BoxO.c7 h; go_simp; rfl) (by go_simp; rfl) hb ?_
  refine HeldBy.take (i := 4) rfl (by kernel_rfl) (by kernel_rfl) (by kernel_rfl) (fun _ _ _ h => h) (by rfl) (fun _ _ => by go_simp; rfl) (by go_simp; rfl) hb ?_
  refine HeldBy.take (i := 5) rfl (by kernel_rfl) (by kernel_rfl) (by kernel_rfl) (fun _ _ _ h => h) (by rfl) (fun _ h => by have c := BoxO.c8 h; go_simp; rfl) (by go_simp; rfl) hb ?_
  refine HeldBy.take (i := 6) rfl (by kernel_rfl) (by kernel_rfl) (by kernel_rfl) (fun _ _ _ h => h) (by rfl) (fun _ _ => by go_simp; rfl) (by go_simp; rfl) hb ?_
  refine HeldBy.take (i := 7) rfl (by kernel_rfl) (by kernel_rfl) (by kernel_rfl) (fun _ _ _ h => h) (by rfl) (fun _ h => by have c := BoxO.c9 h; go_simp; rfl) (by go_simp; rfl) hb ?_
  refine HeldBy.take (i := 8) rfl (by kernel_rfl) (by kernel_rfl) (by kernel_rfl) (fun _ _ _ h => h) (by rfl) (fun _ _ => by go_simp; rfl) (by go_simp; rfl) hb ?_
  refine HeldBy.take (i := 9) rfl (by kernel_rfl) (by kernel_rfl) (by kernel_rfl) (fun _ _ _ h => h) (by rfl) (fun _ h => by have c := BoxO.c10 h; go_simp; rfl) (by go_simp; rfl) hb ?_
  refine HeldBy.take (i := 10) rfl (by kernel_rfl) (by kernel_rfl) (by kernel_rfl) (fun _ _ _ h => h) (by rfl) (fun _ _ => by go_simp; rfl) (by go_simp; rfl) hb ?_
  refine HeldBy.take (i := 11) rfl (by kernel_rfl) (by kernel_rfl) (by kernel_rfl) (fun _ _ _ h => h) (by rfl) (fun _ h => by have c := BoxO.c12 h; go_simp; rfl) (by go_simp; rfl) hb ?_
  refine HeldBy.take (i := 12) rfl (by kernel_rfl) (by kernel_rfl) (by kernel_rfl) (fun _ _ _ h => h) (by rfl) (fun _ _ => by go_simp; rfl) (by go_simp; rfl) hb ?_
  refine HeldBy.take (i := 13) rfl (by kernel_rfl) (by kernel_rfl) (by kernel_rfl) (fun _ _ _ h => h) (by rfl) (fun _ h => by have c := BoxO.c14 h; go_simp; rfl) (by go_simp; rfl) hb ?_
  refine HeldBy.take (i := 14) rfl (by kernel_rfl) (by kernel_rfl) (by kernel_rfl) (fun _ _ _ h => h) (by rfl) (fun _ _ => by go_simp; rfl) (by go_simp; rfl) hb ?_
  refine HeldBy.take (i := 15) rfl (by kernel_rfl) (by kernel_rfl) (by kernel_rfl) (fun _ _ _ h => h) (by rfl) (fun _ h => by have c := BoxO.c17 h; go_simp; rfl) (by go_simp; rfl) hb ?_
  refine HeldBy.take (i := 16) rfl (by kernel_rfl) (by kernel_rfl) (by kernel_rfl) (fun _ _ _ h => h) (by rfl) (fun _ _ => by go_simp; rfl) (by go_simp; rfl) hb ?_
  refine HeldBy.take (i := 17) rfl (by kernel_rfl) (by kernel_rfl) (by kernel_rfl) (fun _ _ _ h => h) (by rfl) (fun _ h => by have c := BoxO.c18 h; go_simp; rfl) (by go_simp; rfl) hb ?_
  refine HeldBy.take (i := 18) rfl (by kernel_rfl) (by kernel_rfl) (by kernel_rfl) (fun _ _ _ h => h) (by rfl) (fun _ _ => by go_simp; rfl) (by go_simp; rfl) hb ?_
  have n6 := hn.c6
  have f6 := hn.free 6
  refine HeldBy.store (i := 19) rfl (by kernel_rfl) (by rfl) (by go_simp; rfl) (by go_simp; rfl) (hb.other (by simp) _) ?_
  clear n6 f6
  refine HeldBy.gen (fun W => BoxO W w.heap.size o ∧ BoxO W (w.heap.size + 1) O0 ∧ BoxO W (w.heap.size + 2) ({ baseO o with cls := o.cls }) ∧ Below w.heap.size w W) ⟨hb.other (by simp) _, hr.other (by simp) _, hn.s6 o.cls, hlow.setCell (by simp) _⟩ ?_
  clear hb hr hn hlow
  rintro V2x ⟨hb, hr, hn, hlow⟩
  refine HeldBy.take (i := 20) rfl (by kernel_rfl) (by kernel_rfl) (by kernel_rfl) (fun _ _ _ h => h) (by rfl) (fun _ _ => by go_simp; rfl) (by go_simp; rfl) hb ?_
  have n7 := hn.c7
  have f7 := hn.free 7
  refine HeldBy.store (i := 21) rfl (by kernel_rfl) (by rfl) (by go_simp; rfl) (by go_simp; rfl) (hb.other (by simp) _) ?_
  clear n7 f7
  refine HeldBy.gen (fun W => BoxO W w.heap.size o ∧ BoxO W (w.heap.size + 1) O0 ∧ BoxO W (w.heap.size + 2) ({ baseO o with cls := o.cls, size := o.size }) ∧ Below w.heap.size w W) ⟨hb.other (by simp) _, hr.other (by simp) _, hn.s7 o.size, hlow.setCell (by simp) _⟩ ?_
  clear hb hr hn hlow
  rintro V2xx ⟨hb, hr, hn, hlow⟩
  refine HeldBy.take (i := 22) rfl (by kernel_rfl) (by kernel_rfl) (by kernel_rfl) (fun _ _ _ h => h) (by rfl) (fun _ _ => by go_simp; rfl) (by go_simp; rfl) hb ?_
  have n8 := hn.c8
  have f8 := hn.free 8
  refine HeldBy.store (i := 23) rfl (by kernel_rfl) (by rfl) (by go_simp; rfl) (by go_simp; rfl) (hb.other (by simp) _) ?_
  clear n8 f8
  refine HeldBy.gen (fun W => BoxO W w.heap.size o ∧ BoxO W (w.heap.size + 1) O0 ∧ BoxO W (w.heap.size + 2) ({ baseO o with cls := o.cls, size := o.size, got := o.got }) ∧ Below w.heap.size w W) ⟨hb.other (by simp) _, hr.other (by simp) _, hn.s8 o.got, hlow.setCell (by simp) _⟩ ?_
  clear hb hr hn hlow
  rintro V2xxx ⟨hb, hr, hn, hlow⟩
  refine HeldBy.take (i := 24) rfl (by kernel_rfl) (by kernel_rfl) (by kernel_rfl) (fun _ _ _ h => h) (by rfl) (fun _ _ => by go_simp; rfl) (by go_simp; rfl) hb ?_
  have n9 := hn.c9
  have f9 := hn.free 9
  refine HeldBy.store (i := 25) rfl (by kernel_rfl) (by rfl) (by go_simp; rfl) (by go_simp; rfl) (hb.other (by simp) _) ?_
  clear n9 f9
  refine HeldBy.gen (fun W => BoxO W w.heap.size o ∧ BoxO W (w.heap.size + 1) O0 ∧ BoxO W (w.heap.size + 2) ({ baseO o with cls := o.cls, size := o.size, got := o.got, mode := o.mode }) ∧ Below w.heap.size w W) ⟨hb.other (by simp) _, hr.other (by simp) _, hn.s9 o.mode, hlow.setCell (by simp) _⟩ ?_
  clear hb hr hn hlow
  rintro V2xxxx ⟨hb, hr, hn, hlow⟩
  refine HeldBy.take (i := 26) rfl (by kernel_rfl) (by kernel_rfl) (by kernel_rfl) (fun _ _ _ h => h) (by rfl) (fun _ _ => by go_simp; rfl) (by go_simp; rfl) hb ?_
  have n10 := hn.c10
  have f10 := hn.free 10
  refine HeldBy.store (i := 27) rfl (by kernel_rfl) (by rfl) (by go_simp; rfl) (by go_simp; rfl) (hb.other (by simp) _) ?_
  clear n10 f10
  refine HeldBy.gen (fun W => BoxO W w.heap.size o ∧ BoxO W (w.heap.size + 1) O0 ∧ BoxO W (w.heap.size + 2) ({ baseO o with cls := o.cls, size := o.size, got := o.got, mode := o.mode, keep := o.keep }) ∧ Below w.heap.size w W) ⟨hb.other (by simp) _, hr.other (by simp) _, hn.s10 o.keep, hlow.setCell (by simp) _⟩ ?_
  clear hb hr hn hlow
  rintro V2xxxxx ⟨hb, hr, hn, hlow⟩
  refine HeldBy.take (i := 28) rfl (by kernel_rfl) (by kernel_rfl) (by kernel_rfl) (fun _ _ _ h => h) (by rfl) (fun _ _ => by go_simp; rfl) (by go_simp; rfl) hb ?_
  have n12 := hn.c12
  have f12 := hn.free 12
  refine HeldBy.store (i := 29) rfl (by kernel_rfl) (by rfl) (by go_simp; rfl) (by go_simp; rfl) (hb.other (by simp) _) ?_
  clear n12 f12
  refine HeldBy.gen (fun W => BoxO W w.heap.size o ∧ BoxO W (w.heap.size + 1) O0 ∧ BoxO W (w.heap.size + 2) ({ baseO o with cls := o.cls, size := o.size, got := o.got, mode := o.mode, keep := o.keep, zone := o.zone }) ∧ Below w.heap.size w W) ⟨hb.other (by simp) _, hr.other (by simp) _, hn.s12 o.zone, hlow.setCell (by simp) _⟩ ?_
  clear hb hr hn hlow
  rintro V2xxxxxx ⟨hb, hr, hn, hlow⟩
  refine HeldBy.take (i := 30) rfl (by kernel_rfl) (by kernel_rfl) (by kernel_rfl) (fun _ _ _ h => h) (by rfl) (fun _ _ => by go_simp; rfl) (by go_simp; rfl) hb ?_
  have n14 := hn.c14
  have f14 := hn.free 14
  refine HeldBy.store (i := 31) rfl (by kernel_rfl) (by rfl) (by go_simp; rfl) (by go_simp; rfl) (hb.other (by simp) _) ?_
  clear n14 f14
  refine HeldBy.gen (fun W => BoxO W w.heap.size o ∧ BoxO W (w.heap.size + 1) O0 ∧ BoxO W (w.heap.size + 2) ({ baseO o with cls := o.cls, size := o.size, got := o.got, mode := o.mode, keep := o.keep, zone := o.zone, claim := o.claim }) ∧ Below w.heap.size w W) ⟨hb.other (by simp) _, hr.other (by simp) _, hn.s14 o.claim, hlow.setCell (by simp) _⟩ ?_
  clear hb hr hn hlow
  rintro V2xxxxxxx ⟨hb, hr, hn, hlow⟩
  refine HeldBy.take (i := 32) rfl (by kernel_rfl) (by kernel_rfl) (by kernel_rfl) (fun _ _ _ h => h) (by rfl) (fun _ _ => by go_simp; rfl) (by go_simp; rfl) hb ?_
  have n17 := hn.c17
  have f17 := hn.free 17
  refine HeldBy.store (i := 33) rfl (by kernel_rfl) (by rfl) (by go_simp; rfl) (by go_simp; rfl) (hb.other (by simp) _) ?_
  clear n17 f17
  refine HeldBy.gen (fun W => BoxO W w.heap.size o ∧ BoxO W (w.heap.size + 1) O0 ∧ BoxO W (w.heap.size + 2) ({ baseO o with cls := o.cls, size := o.size, got := o.got, mode := o.mode, keep := o.keep, zone := o.zone, claim := o.claim, phase := o.phase }) ∧ Below w.heap.size w W) ⟨hb.other (by simp) _, hr.other (by simp) _, hn.s17 o.phase, hlow.setCell (by simp) _⟩ ?_
  clear hb hr hn hlow
  rintro V2xxxxxxxx ⟨hb, hr, hn, hlow⟩
  refine HeldBy.take (i := 34) rfl (by kernel_rfl) (by kernel_rfl) (by kernel_rfl) (fun _ _ _ h => h) (by rfl) (fun _ _ => by go_simp; rfl) (by go_simp; rfl) hb ?_
  have n18 := hn.c18
  have f18 := hn.free 18
  refine HeldBy.store (i := 35) rfl (by kernel_rfl) (by rfl) (by go_simp; rfl) (by go_simp; rfl) (hb.other (by simp) _) ?_
  clear n18 f18
  refine HeldBy.gen (fun W => BoxO W w.heap.size o ∧ BoxO W (w.heap.size + 1) O0 ∧ BoxO W (w.heap.size + 2) ({ baseO o with cls := o.cls, size := o.size, got := o.got, mode := o.mode, keep := o.keep, zone := o.zone, claim := o.claim, phase := o.phase, num := o.num }) ∧ Below w.heap.size w W) ⟨hb.other (by simp) _, hr.other (by simp) _, hn.s18 o.num, hlow.setCell (by simp) _⟩ ?_
  clear hb hr hn hlow
  rintro V2xxxxxxxxx ⟨hb, hr, hn, hlow⟩
  refine wpAnyH_done (by kernel_rfl) ?_ _
  go_upto_region 17 with (fail)
  refine wp_gen (fun W => BoxO W w.heap.size o ∧ BoxO W (w.heap.size + 1) O0 ∧ BoxO W (w.heap.size + 2) ({ baseO o with cls := o.cls, size := o.size, got := o.got, mode := o.mode, keep := o.keep, zone := o.zone, claim := o.claim, phase := o.phase, num := o.num }) ∧ Below w.heap.size w W) ⟨hb, hr, hn, hlow⟩ ?_
  clear hb hr hn hlow
  rintro W3 ⟨hb, hr, hn, hlow⟩
  have hn' := hE.out ▸ hn
  clear hb
  go_wp2_with (first | ((with_reducible refine wpList_load_row rfl 31 _ rfl (w.heap.size + 2) ?_ 31 (cellsO (bareO o)) (0, 0) _ ?_ undObj ?_ ?_ ?_); rfl; exact hn'; rfl; exact sizeObj) | ((with_reducible refine wpList_store_rowTo rfl 31 _ _ rfl rfl (w.heap.size + 1) (cellsO (bareO o)) ?_ ?_ 31 (cellsO O0) ?_ ?_ ?_ ?_ ?_); rfl; rfl; exact hr; exact sizeObj; exact sz_cells _ _; exact one_cells _))
  refine bodyPost_ret (v := encO (bareO o)) (results_cell_row rfl _ _ (w.heap.size + 1) 31 (cellsO (bareO o)) (0, 0) _ rfl (hr.setRow _) undObj rfl sizeObj) rfl ?_
  exact ⟨rfl, below_setRow hlow (by omega) _⟩

set_option maxRecDepth 100000 in
set_option maxHeartbeats 4000000 in
theorem bare_5 (o : Obj) (w : World) (hk : o.kind = 5) :
    Calls Tryd.prog 49 #[encO o] w fun e w' => e = .returned (encO (bareO o)) ∧ Below w.heap.size w w' := by
  have hE : Hid (bareO o = { baseO o with volume := o.volume, node := o.node, phase := o.phase, num := o.num }) := by show _ = _; unfold bareO baseO; simp [hk]
  have HK := Lib.hid hk
  clear hk
  unfold encO
  go_enter Tryd.func49, Tryd.ntmps49
  go_upto_region 1 with (fail)
  refine wp_gen (fun W => BoxO W w.heap.size o ∧ BoxO W (w.heap.size + 1) O0 ∧ Below w.heap.size w W ∧ W.heap.size = w.heap.size + 2) ?_ ?_
  · exact ⟨(BoxO.new w o).alloc _, heap_alloc2_new w _ _, ((Below.refl _ _).alloc (Nat.le_refl _) _).alloc (by simp) _, by simp⟩
  rintro W1 ⟨hb, hr, hlow, hsz⟩
  have c0 := hb.c0
  have c1 := hb.c1
  have c2 := hb.c2
  have c3 := hb.c3
  have c4 := hb.c4
  have c5 := hb.c5
  have hn := BoxO.new W1 O0
  rw [hsz] at hn
  go_upto_region 2 with (first | ((with_reducible refine wpList_build_to rfl 31 _ rfl (cellsO (baseO o)) ?_ ?_); exact built_base o) | ((with_reducible refine wpList_store_rowTo rfl 31 _ _ rfl rfl (w.heap.size + 2) (cellsO (baseO o)) ?_ ?_ 31 (cellsO O0) ?_ ?_ ?_ ?_ ?_); rfl; rfl; exact hn; exact sizeObj; exact sz_cells _ _; exact one_cells _))
  refine wp_gen (fun W => BoxO W w.heap.size o ∧ BoxO W (w.heap.size + 1) O0 ∧ BoxO W (w.heap.size + 2) (baseO o) ∧ Below w.heap.size w W) ?_ ?_
  · exact ⟨(hb.alloc _).row (by omega) _, (hr.alloc _).row (by omega) _, hn.setRow _, below_setRow (hlow.alloc (by omega) _) (by omega) _⟩
  clear c0 c1 c2 c3 c4 c5 hb hr hlow hsz hn
  rintro W2 ⟨hb, hr, hn, hlow⟩
  have c0 := hb.c0
  have e1 : (o.kind == 1) = false := by rw [HK.out]; rfl
  have e2 : (o.kind == 2) = false := by rw [HK.out]; rfl
  have e3 : (o.kind == 3) = false := by rw [HK.out]; rfl
  have e4 : (o.kind == 4) = false := by rw [HK.out]; rfl
  have e5 : (o.kind == 5) = true := by rw [HK.out]; rfl
  go_wp2_with fail
  refine wp_region_held_drew (S := fun W => BoxO W w.heap.size o) (by kernel_rfl) hb.drew (fun _ => ?_)
  refine HeldBy.gen (fun W => BoxO W w.heap.size o ∧ BoxO W (w.heap.size + 1) O0 ∧ BoxO W (w.heap.size + 2) (baseO o) ∧ Below w.heap.size w W) ⟨hb.drew, hr.drew, hn.drew, hlow.drew⟩ ?_
  clear hb hr hn hlow
  rintro V2 ⟨hb, hr, hn, hlow⟩
  clear c0 e1 e2 e3 e4 e5
  refine HeldBy.take (i := 0) rfl (by kernel_rfl) (by kernel_rfl) (by kernel_rfl) (fun _ _ _ h => h) (by rfl) (fun _ _ => by go_simp; rfl) (by go_simp; rfl) hb ?_
  refine HeldBy.take (i := 1) rfl (by kernel_rfl) (by kernel_rfl) (by kernel_rfl) (fun _ _ _ h => h) (by rfl) (fun _ h => by have c := BoxO.c15 h; go_simp; rfl) (by go_simp; rfl) hb ?_
  refine HeldBy.take (i := 2) rfl (by kernel_rfl) (by kernel_rfl) (by kernel_rfl) (fun _ _ _ h => h) (by rfl) (fun _ _ => by go_simp; rfl) (by go_simp; rfl) hb ?_
  refine HeldBy.take (i := 3) rfl (by kernel_rfl) (by kernel_rfl) (by kernel_rfl) (fun _ _ _ h => h) (by rfl) (fun _ h => by have c := BoxO.c13 h; go_simp; rfl) (by go_simp; rfl) hb ?_
  refine HeldBy.take (i := 4) rfl (by kernel_rfl) (by kernel_rfl) (by kernel_rfl) (fun _ _ _ h => h) (by rfl) (fun _ _ => by go_simp; rfl) (by go_simp; rfl) hb ?_
  refine HeldBy.take (i := 5) rfl (by kernel_rfl) (by kernel_rfl) (by kernel_rfl) (fun _ _ _ h => h) (by rfl) (fun _ h => by have c := BoxO.c17 h; go_simp; rfl) (by go_simp; rfl) hb ?_
  refine HeldBy.take (i := 6) rfl (by kernel_rfl) (by kernel_rfl) (by kernel_rfl) (fun _ _ _ h => h) (by rfl) (fun _ _ => by go_simp; rfl) (by go_simp; rfl) hb ?_
  refine HeldBy.take (i := 7) rfl (by kernel_rfl) (by kernel_rfl) (by kernel_rfl) (fun _ _ _ h => h) (by rfl) (fun _ h => by have c := BoxO.c18 h; go_simp; rfl) (by go_simp; rfl) hb ?_
  refine HeldBy.take (i := 8) rfl (by kernel_rfl) (by kernel_rfl) (by kernel_rfl) (fun _ _ _ h => h) (by rfl) (fun _ _ => by go_simp; rfl) (by go_simp; rfl) hb ?_
  have n15 := hn.c15
  have f15 := hn.free 15
  refine HeldBy.store (i := 9) rfl (by kernel_rfl) (by rfl) (by go_simp; rfl) (by go_simp; rfl) (hb.other (by simp) _) ?_
  clear n15 f15
  refine HeldBy.gen (fun W => BoxO W w.heap.size o ∧ BoxO W (w.heap.size + 1) O0 ∧ BoxO W (w.heap.size + 2) ({ baseO o with volume := o.volume }) ∧ Below w.heap.size w W) ⟨hb.other (by simp) _, hr.other (by simp) _, hn.s15 o.volume, hlow.setCell (by simp) _⟩ ?_
  clear hb hr hn hlow
  rintro V2x ⟨hb, hr, hn, hlow⟩
  refine HeldBy.take (i := 10) rfl (by kernel_rfl) (by kernel_rfl) (by kernel_rfl) (fun _ _ _ h => h) (by rfl) (fun _ _ => by go_simp; rfl) (by go_simp; rfl) hb ?_
  have n13 := hn.c13
  have f13 := hn.free 13
  refine HeldBy.store (i := 11) rfl (by kernel_rfl) (by rfl) (by go_simp; rfl) (by go_simp; rfl) (hb.other (by simp) _) ?_
  clear n13 f13
  refine HeldBy.gen (fun W => BoxO W w.heap.size o ∧ BoxO W (w.heap.size + 1) O0 ∧ BoxO W (w.heap.size + 2) ({ baseO o with volume := o.volume, node := o.node }) ∧ Below w.heap.size w W) ⟨hb.other (by simp) _, hr.other (by simp) _, hn.s13 o.node, hlow.setCell (by simp) _⟩ ?_
  clear hb hr hn hlow
  rintro V2xx ⟨hb, hr, hn, hlow⟩
  refine HeldBy.take (i := 12) rfl (by kernel_rfl) (by kernel_rfl) (by kernel_rfl) (fun _ _ _ h => h) (by rfl) (fun _ _ => by go_simp; rfl) (by go_simp; rfl) hb ?_
  have n17 := hn.c17
  have f17 := hn.free 17
  refine HeldBy.store (i := 13) rfl (by kernel_rfl) (by rfl) (by go_simp; rfl) (by go_simp; rfl) (hb.other (by simp) _) ?_
  clear n17 f17
  refine HeldBy.gen (fun W => BoxO W w.heap.size o ∧ BoxO W (w.heap.size + 1) O0 ∧ BoxO W (w.heap.size + 2) ({ baseO o with volume := o.volume, node := o.node, phase := o.phase }) ∧ Below w.heap.size w W) ⟨hb.other (by simp) _, hr.other (by simp) _, hn.s17 o.phase, hlow.setCell (by simp) _⟩ ?_
  clear hb hr hn hlow
  rintro V2xxx ⟨hb, hr, hn, hlow⟩
  refine HeldBy.take (i := 14) rfl (by kernel_rfl) (by kernel_rfl) (by kernel_rfl) (fun _ _ _ h => h) (by rfl) (fun _ _ => by go_simp; rfl) (by go_simp; rfl) hb ?_
  have n18 := hn.c18
  have f18 := hn.free 18
  refine HeldBy.store (i := 15) rfl (by kernel_rfl) (by rfl) (by go_simp; rfl) (by go_simp; rfl) (hb.other (by simp) _) ?_
  clear n18 f18
  refine HeldBy.gen (fun W => BoxO W w.heap.size o ∧ BoxO W (w.heap.size + 1) O0 ∧ BoxO W (w.heap.size + 2) ({ baseO o with volume := o.volume, node := o.node, phase := o.phase, num := o.num }) ∧ Below w.heap.size w W) ⟨hb.other (by simp) _, hr.other (by simp) _, hn.s18 o.num, hlow.setCell (by simp) _⟩ ?_
  clear hb hr hn hlow
  rintro V2xxxx ⟨hb, hr, hn, hlow⟩
  refine wpAnyH_done (by kernel_rfl) ?_ _
  go_upto_region 17 with (fail)
  refine wp_gen (fun W => BoxO W w.heap.size o ∧ BoxO W (w.heap.size + 1) O0 ∧ BoxO W (w.heap.size + 2) ({ baseO o with volume := o.volume, node := o.node, phase := o.phase, num := o.num }) ∧ Below w.heap.size w W) ⟨hb, hr, hn, hlow⟩ ?_
  clear hb hr hn hlow
  rintro W3 ⟨hb, hr, hn, hlow⟩
  have hn' := hE.out ▸ hn
  clear hb
  go_wp2_with (first | ((with_reducible refine wpList_load_row rfl 31 _ rfl (w.heap.size + 2) ?_ 31 (cellsO (bareO o)) (0, 0) _ ?_ undObj ?_ ?_ ?_); rfl; exact hn'; rfl; exact sizeObj) | ((with_reducible refine wpList_store_rowTo rfl 31 _ _ rfl rfl (w.heap.size + 1) (cellsO (bareO o)) ?_ ?_ 31 (cellsO O0) ?_ ?_ ?_ ?_ ?_); rfl; rfl; exact hr; exact sizeObj; exact sz_cells _ _; exact one_cells _))
  refine bodyPost_ret (v := encO (bareO o)) (results_cell_row rfl _ _ (w.heap.size + 1) 31 (cellsO (bareO o)) (0, 0) _ rfl (hr.setRow _) undObj rfl sizeObj) rfl ?_
  exact ⟨rfl, below_setRow hlow (by omega) _⟩

set_option maxRecDepth 100000 in
set_option maxHeartbeats 4000000 in
theorem bare_6 (o : Obj) (w : World) (hk : o.kind = 6) :
    Calls Tryd.prog 49 #[encO o] w fun e w' => e = .returned (encO (bareO o)) ∧ Below w.heap.size w w' := by
  have hE : Hid (bareO o = { baseO o with claim := o.claim, node := o.node }) := by show _ = _; unfold bareO baseO; simp [hk]
  have HK := Lib.hid hk
  clear hk
  unfold encO
  go_enter Tryd.func49, Tryd.ntmps49
  go_upto_region 1 with (fail)
  refine wp_gen (fun W => BoxO W w.heap.size o ∧ BoxO W (w.heap.size + 1) O0 ∧ Below w.heap.size w W ∧ W.heap.size = w.heap.size + 2) ?_ ?_
  · exact ⟨(BoxO.new w o).alloc _, heap_alloc2_new w _ _, ((Below.refl _ _).alloc (Nat.le_refl _) _).alloc (by simp) _, by simp⟩
  rintro W1 ⟨hb, hr, hlow, hsz⟩
  have c0 := hb.c0
  have c1 := hb.c1
  have c2 := hb.c2
  have c3 := hb.c3
  have c4 := hb.c4
  have c5 := hb.c5
  have hn := BoxO.new W1 O0
  rw [hsz] at hn
  go_upto_region 2 with (first | ((with_reducible refine wpList_build_to rfl 31 _ rfl (cellsO (baseO o)) ?_ ?_); exact built_base o) | ((with_reducible refine wpList_store_rowTo rfl 31 _ _ rfl rfl (w.heap.size + 2) (cellsO (baseO o)) ?_ ?_ 31 (cellsO O0) ?_ ?_ ?_ ?_ ?_); rfl; rfl; exact hn; exact sizeObj; exact sz_cells _ _; exact one_cells _))
  refine wp_gen (fun W => BoxO W w.heap.size o ∧ BoxO W (w.heap.size + 1) O0 ∧ BoxO W (w.heap.size + 2) (baseO o) ∧ Below w.heap.size w W) ?_ ?_
  · exact ⟨(hb.alloc _).row (by omega) _, (hr.alloc _).row (by omega) _, hn.setRow _, below_setRow (hlow.alloc (by omega) _) (by omega) _⟩
  clear c0 c1 c2 c3 c4 c5 hb hr hlow hsz hn
  rintro W2 ⟨hb, hr, hn, hlow⟩
  have c0 := hb.c0
  have e1 : (o.kind == 1) = false := by rw [HK.out]; rfl
  have e2 : (o.kind == 2) = false := by rw [HK.out]; rfl
  have e3 : (o.kind == 3) = false := by rw [HK.out]; rfl
  have e4 : (o.kind == 4) = false := by rw [HK.out]; rfl
  have e5 : (o.kind == 5) = false := by rw [HK.out]; rfl
  have e6 : (o.kind == 6) = true := by rw [HK.out]; rfl
  go_wp2_with fail
  refine wp_region_held_drew (S := fun W => BoxO W w.heap.size o) (by kernel_rfl) hb.drew (fun _ => ?_)
  refine HeldBy.gen (fun W => BoxO W w.heap.size o ∧ BoxO W (w.heap.size + 1) O0 ∧ BoxO W (w.heap.size + 2) (baseO o) ∧ Below w.heap.size w W) ⟨hb.drew, hr.drew, hn.drew, hlow.drew⟩ ?_
  clear hb hr hn hlow
  rintro V2 ⟨hb, hr, hn, hlow⟩
  clear c0 e1 e2 e3 e4 e5 e6
  refine HeldBy.take (i := 0) rfl (by kernel_rfl) (by kernel_rfl) (by kernel_rfl) (fun _ _ _ h => h) (by rfl) (fun _ _ => by go_simp; rfl) (by go_simp; rfl) hb ?_
  refine HeldBy.take (i := 1) rfl (by kernel_rfl) (by kernel_rfl) (by kernel_rfl) (fun _ _ _ h => h) (by rfl) (fun _ h => by have c := BoxO.c14 h; go_simp; rfl) (by go_simp; rfl) hb ?_
  refine HeldBy.take (i := 2) rfl (by kernel_rfl) (by kernel_rfl) (by kernel_rfl) (fun _ _ _ h => h) (by rfl) (fun _ _ => by go_simp; rfl) (by go_simp; rfl) hb ?_
  refine HeldBy.take (i := 3) rfl (by kernel_rfl) (by kernel_rfl) (by kernel_rfl) (fun _ _ _ h => h) (by rfl) (fun _ h => by have c := BoxO.c13 h; go_simp; rfl) (by go_simp; rfl) hb ?_
  refine HeldBy.take (i := 4) rfl (by kernel_rfl) (by kernel_rfl) (by kernel_rfl) (fun _ _ _ h => h) (by rfl) (fun _ _ => by go_simp; rfl) (by go_simp; rfl) hb ?_
  have n14 := hn.c14
  have f14 := hn.free 14
  refine HeldBy.store (i := 5) rfl (by kernel_rfl) (by rfl) (by go_simp; rfl) (by go_simp; rfl) (hb.other (by simp) _) ?_
  clear n14 f14
  refine HeldBy.gen (fun W => BoxO W w.heap.size o ∧ BoxO W (w.heap.size + 1) O0 ∧ BoxO W (w.heap.size + 2) ({ baseO o with claim := o.claim }) ∧ Below w.heap.size w W) ⟨hb.other (by simp) _, hr.other (by simp) _, hn.s14 o.claim, hlow.setCell (by simp) _⟩ ?_
  clear hb hr hn hlow
  rintro V2x ⟨hb, hr, hn, hlow⟩
  refine HeldBy.take (i := 6) rfl (by kernel_rfl) (by kernel_rfl) (by kernel_rfl) (fun _ _ _ h => h) (by rfl) (fun _ _ => by go_simp; rfl) (by go_simp; rfl) hb ?_
  have n13 := hn.c13
  have f13 := hn.free 13
  refine HeldBy.store (i := 7) rfl (by kernel_rfl) (by rfl) (by go_simp; rfl) (by go_simp; rfl) (hb.other (by simp) _) ?_
  clear n13 f13
  refine HeldBy.gen (fun W => BoxO W w.heap.size o ∧ BoxO W (w.heap.size + 1) O0 ∧ BoxO W (w.heap.size + 2) ({ baseO o with claim := o.claim, node := o.node }) ∧ Below w.heap.size w W) ⟨hb.other (by simp) _, hr.other (by simp) _, hn.s13 o.node, hlow.setCell (by simp) _⟩ ?_
  clear hb hr hn hlow
  rintro V2xx ⟨hb, hr, hn, hlow⟩
  refine wpAnyH_done (by kernel_rfl) ?_ _
  go_upto_region 17 with (fail)
  refine wp_gen (fun W => BoxO W w.heap.size o ∧ BoxO W (w.heap.size + 1) O0 ∧ BoxO W (w.heap.size + 2) ({ baseO o with claim := o.claim, node := o.node }) ∧ Below w.heap.size w W) ⟨hb, hr, hn, hlow⟩ ?_
  clear hb hr hn hlow
  rintro W3 ⟨hb, hr, hn, hlow⟩
  have hn' := hE.out ▸ hn
  clear hb
  go_wp2_with (first | ((with_reducible refine wpList_load_row rfl 31 _ rfl (w.heap.size + 2) ?_ 31 (cellsO (bareO o)) (0, 0) _ ?_ undObj ?_ ?_ ?_); rfl; exact hn'; rfl; exact sizeObj) | ((with_reducible refine wpList_store_rowTo rfl 31 _ _ rfl rfl (w.heap.size + 1) (cellsO (bareO o)) ?_ ?_ 31 (cellsO O0) ?_ ?_ ?_ ?_ ?_); rfl; rfl; exact hr; exact sizeObj; exact sz_cells _ _; exact one_cells _))
  refine bodyPost_ret (v := encO (bareO o)) (results_cell_row rfl _ _ (w.heap.size + 1) 31 (cellsO (bareO o)) (0, 0) _ rfl (hr.setRow _) undObj rfl sizeObj) rfl ?_
  exact ⟨rfl, below_setRow hlow (by omega) _⟩

set_option maxRecDepth 100000 in
set_option maxHeartbeats 4000000 in
theorem bare_7 (o : Obj) (w : World) (hk : o.kind = 7) :
    Calls Tryd.prog 49 #[encO o] w fun e w' => e = .returned (encO (bareO o)) ∧ Below w.heap.size w w' := by
  have hE : Hid (bareO o = { baseO o with source := o.source, volume := o.volume, got := o.got, phase := o.phase, num := o.num, tag := o.tag }) := by show _ = _; unfold bareO baseO; simp [hk]
  have HK := Lib.hid hk
  clear hk
  unfold encO
  go_enter Tryd.func49, Tryd.ntmps49
  go_upto_region 1 with (fail)
  refine wp_gen (fun W => BoxO W w.heap.size o ∧ BoxO W (w.heap.size + 1) O0 ∧ Below w.heap.size w W ∧ W.heap.size = w.heap.size + 2) ?_ ?_
  · exact ⟨(BoxO.new w o).alloc _, heap_alloc2_new w _ _, ((Below.refl _ _).alloc (Nat.le_refl _) _).alloc (by simp) _, by simp⟩
  rintro W1 ⟨hb, hr, hlow, hsz⟩
  have c0 := hb.c0
  have c1 := hb.c1
  have c2 := hb.c2
  have c3 := hb.c3
  have c4 := hb.c4
  have c5 := hb.c5
  have hn := BoxO.new W1 O0
  rw [hsz] at hn
  go_upto_region 2 with (first | ((with_reducible refine wpList_build_to rfl 31 _ rfl (cellsO (baseO o)) ?_ ?_); exact built_base o) | ((with_reducible refine wpList_store_rowTo rfl 31 _ _ rfl rfl (w.heap.size + 2) (cellsO (baseO o)) ?_ ?_ 31 (cellsO O0) ?_ ?_ ?_ ?_ ?_); rfl; rfl; exact hn; exact sizeObj; exact sz_cells _ _; exact one_cells _))
  refine wp_gen (fun W => BoxO W w.heap.size o ∧ BoxO W (w.heap.size + 1) O0 ∧ BoxO W (w.heap.size + 2) (baseO o) ∧ Below w.heap.size w W) ?_ ?_
  · exact ⟨(hb.alloc _).row (by omega) _, (hr.alloc _).row (by omega) _, hn.setRow _, below_setRow (hlow.alloc (by omega) _) (by omega) _⟩
  clear c0 c1 c2 c3 c4 c5 hb hr hlow hsz hn
  rintro W2 ⟨hb, hr, hn, hlow⟩
  have c0 := hb.c0
  have e1 : (o.kind == 1) = false := by rw [HK.out]; rfl
  have e2 : (o.kind == 2) = false := by rw [HK.out]; rfl
  have e3 : (o.kind == 3) = false := by rw [HK.out]; rfl
  have e4 : (o.kind == 4) = false := by rw [HK.out]; rfl
  have e5 : (o.kind == 5) = false := by rw [HK.out]; rfl
  have e6 : (o.kind == 6) = false := by rw [HK.out]; rfl
  have e7 : (o.kind == 7) = true := by rw [HK.out]; rfl
  go_wp2_with fail
  refine wp_region_held_drew (S := fun W => BoxO W w.heap.size o) (by kernel_rfl) hb.drew (fun _ => ?_)
  refine HeldBy.gen (fun W => BoxO W w.heap.size o ∧ BoxO W (w.heap.size + 1) O0 ∧ BoxO W (w.heap.size + 2) (baseO o) ∧ Below w.heap.size w W) ⟨hb.drew, hr.drew, hn.drew, hlow.drew⟩ ?_
  clear hb hr hn hlow
  rintro V2 ⟨hb, hr, hn, hlow⟩
  clear c0 e1 e2 e3 e4 e5 e6 e7
  refine HeldBy.take (i := 0) rfl (by kernel_rfl) (by kernel_rfl) (by kernel_rfl) (fun _ _ _ h => h) (by rfl) (fun _ _ => by go_simp; rfl) (by go_simp; rfl) hb ?_
  refine HeldBy.take (i := 1) rfl (by kernel_rfl) (by kernel_rfl) (by kernel_rfl) (fun _ _ _ h => h) (by rfl) (fun _ h => by have c := BoxO.c16 h; go_simp; rfl) (by go_simp; rfl) hb ?_
  refine HeldBy.take (i := 2) rfl (by kernel_rfl) (by kernel_rfl) (by kernel_rfl) (fun _ _ _ h => h) (by rfl) (fun _ _ => by go_simp; rfl) (by go_simp; rfl) hb ?_
  refine HeldBy.take (i := 3) rfl (by kernel_rfl) (by kernel_rfl) (by kernel_rfl) (fun _ _ _ h => h) (by rfl) (fun _ h => by have c := BoxO.c15 h; go_simp; rfl) (by go_simp; rfl) hb ?_
  refine HeldBy.take (i := 4) rfl (by kernel_rfl) (by kernel_rfl) (by kernel_rfl) (fun _ _ _ h => h) (by rfl) (fun _ _ => by go_simp; rfl) (by go_simp; rfl) hb ?_
  refine HeldBy.take (i := 5) rfl (by kernel_rfl) (by kernel_rfl) (by kernel_rfl) (fun _ _ _ h => h) (by rfl) (fun _ h => by have c := BoxO.c8 h; go_simp; rfl) (by go_simp; rfl) hb ?_
  refine HeldBy.take (i := 6) rfl (by kernel_rfl) (by kernel_rfl) (by kernel_rfl) (fun _ _ _ h => h) (by rfl) (fun _ _ => by go_simp; rfl) (by go_simp; rfl) hb ?_
  refine HeldBy.take (i := 7) rfl (by kernel_rfl) (by kernel_rfl) (by kernel_rfl) (fun _ _ _ h => h) (by rfl) (fun _ h => by have c := BoxO.c17 h; go_simp; rfl) (by go_simp; rfl) hb ?_
  refine HeldBy.take (i := 8) rfl (by kernel_rfl) (by kernel_rfl) (by kernel_rfl) (fun _ _ _ h => h) (by rfl) (fun _ _ => by go_simp; rfl) (by go_simp; rfl) hb ?_
  refine HeldBy.take (i := 9) rfl (by kernel_rfl) (by kernel_rfl) (by kernel_rfl) (fun _ _ _ h => h) (by rfl) (fun _ h => by have c := BoxO.c18 h; go_simp; rfl) (by go_simp; rfl) hb ?_
  refine HeldBy.take (i := 10) rfl (by kernel_rfl) (by kernel_rfl) (by kernel_rfl) (fun _ _ _ h => h) (by rfl) (fun _ _ => by go_simp; rfl) (by go_simp; rfl) hb ?_
  refine HeldBy.take (i := 11) rfl (by kernel_rfl) (by kernel_rfl) (by kernel_rfl) (fun _ _ _ h => h) (by rfl) (fun _ h => by have c := BoxO.c19 h; go_simp; rfl) (by go_simp; rfl) hb ?_
  refine HeldBy.take (i := 12) rfl (by kernel_rfl) (by kernel_rfl) (by kernel_rfl) (fun _ _ _ h => h) (by rfl) (fun _ _ => by go_simp; rfl) (by go_simp; rfl) hb ?_
  have n16 := hn.c16
  have f16 := hn.free 16
  refine HeldBy.store (i := 13) rfl (by kernel_rfl) (by rfl) (by go_simp; rfl) (by go_simp; rfl) (hb.other (by simp) _) ?_
  clear n16 f16
  refine HeldBy.gen (fun W => BoxO W w.heap.size o ∧ BoxO W (w.heap.size + 1) O0 ∧ BoxO W (w.heap.size + 2) ({ baseO o with source := o.source }) ∧ Below w.heap.size w W) ⟨hb.other (by simp) _, hr.other (by simp) _, hn.s16 o.source, hlow.setCell (by simp) _⟩ ?_
  clear hb hr hn hlow
  rintro V2x ⟨hb, hr, hn, hlow⟩
  refine HeldBy.take (i := 14) rfl (by kernel_rfl) (by kernel_rfl) (by kernel_rfl) (fun _ _ _ h => h) (by rfl) (fun _ _ => by go_simp; rfl) (by go_simp; rfl) hb ?_
  have n15 := hn.c15
  have f15 := hn.free 15
  refine HeldBy.store (i := 15) rfl (by kernel_rfl) (by rfl) (by go_simp; rfl) (by go_simp; rfl) (hb.other (by simp) _) ?_
  clear n15 f15
  refine HeldBy.gen (fun W => BoxO W w.heap.size o ∧ BoxO W (w.heap.size + 1) O0 ∧ BoxO W (w.heap.size + 2) ({ baseO o with source := o.source, volume := o.volume }) ∧ Below w.heap.size w W) ⟨hb.other (by simp) _, hr.other (by simp) _, hn.s15 o.volume, hlow.setCell (by simp) _⟩ ?_
  clear hb hr hn hlow
  rintro V2xx ⟨hb, hr, hn, hlow⟩
  refine HeldBy.take (i := 16) rfl (by kernel_rfl) (by kernel_rfl) (by kernel_rfl) (fun _ _ _ h => h) (by rfl) (fun _ _ => by go_simp; rfl) (by go_simp; rfl) hb ?_
  have n8 := hn.c8
  have f8 := hn.free 8
  refine HeldBy.store (i := 17) rfl (by kernel_rfl) (by rfl) (by go_simp; rfl) (by go_simp; rfl) (hb.other (by simp) _) ?_
  clear n8 f8
  refine HeldBy.gen (fun W => BoxO W w.heap.size o ∧ BoxO W (w.heap.size + 1) O0 ∧ BoxO W (w.heap.size + 2) ({ baseO o with source := o.source, volume := o.volume, got := o.got }) ∧ Below w.heap.size w W) ⟨hb.other (by simp) _, hr.other (by simp) _, hn.s8 o.got, hlow.setCell (by simp) _⟩ ?_
  clear hb hr hn hlow
  rintro V2xxx ⟨hb, hr, hn, hlow⟩
  refine HeldBy.take (i := 18) rfl (by kernel_rfl) (by kernel_rfl) (by kernel_rfl) (fun _ _ _ h => h) (by rfl) (fun _ _ => by go_simp; rfl) (by go_simp; rfl) hb ?_
  have n17 := hn.c17
  have f17 := hn.free 17
  refine HeldBy.store (i := 19) rfl (by kernel_rfl) (by rfl) (by go_simp; rfl) (by go_simp; rfl) (hb.other (by simp) _) ?_
  clear n17 f17
  refine HeldBy.gen (fun W => BoxO W w.heap.size o ∧ BoxO W (w.heap.size + 1) O0 ∧ BoxO W (w.heap.size + 2) ({ baseO o with source := o.source, volume := o.volume, got := o.got, phase := o.phase }) ∧ Below w.heap.size w W) ⟨hb.other (by simp) _, hr.other (by simp) _, hn.s17 o.phase, hlow.setCell (by simp) _⟩ ?_
  clear hb hr hn hlow
  rintro V2xxxx ⟨hb, hr, hn, hlow⟩
  refine HeldBy.take (i := 20) rfl (by kernel_rfl) (by kernel_rfl) (by kernel_rfl) (fun _ _ _ h => h) (by rfl) (fun _ _ => by go_simp; rfl) (by go_simp; rfl) hb ?_
  have n18 := hn.c18
  have f18 := hn.free 18
  refine HeldBy.store (i := 21) rfl (by kernel_rfl) (by rfl) (by go_simp; rfl) (by go_simp; rfl) (hb.other (by simp) _) ?_
  clear n18 f18
  refine HeldBy.gen (fun W => BoxO W w.heap.size o ∧ BoxO W (w.heap.size + 1) O0 ∧ BoxO W (w.heap.size + 2) ({ baseO o with source := o.source, volume := o.volume, got := o.got, phase := o.phase, num := o.num }) ∧ Below w.heap.size w W) ⟨hb.other (by simp) _, hr.other (by simp) _, hn.s18 o.num, hlow.setCell (by simp) _⟩ ?_
  clear hb hr hn hlow
  rintro V2xxxxx ⟨hb, hr, hn, hlow⟩
  refine HeldBy.take (i := 22) rfl (by kernel_rfl) (by kernel_rfl) (by kernel_rfl) (fun _ _ _ h => h) (by rfl) (fun _ _ => by go_simp; rfl) (by go_simp; rfl) hb ?_
  have n19 := hn.c19
  have f19 := hn.free 19
  refine HeldBy.store (i := 23) rfl (by kernel_rfl) (by rfl) (by go_simp; rfl) (by go_simp; rfl) (hb.other (by simp) _) ?_
  clear n19 f19
  refine HeldBy.gen (fun W => BoxO W w.heap.size o ∧ BoxO W (w.heap.size + 1) O0 ∧ BoxO W (w.heap.size + 2) ({ baseO o with source := o.source, volume := o.volume, got := o.got, phase := o.phase, num := o.num, tag := o.tag }) ∧ Below w.heap.size w W) ⟨hb.other (by simp) _, hr.other (by simp) _, hn.s19 o.tag, hlow.setCell (by simp) _⟩ ?_
  clear hb hr hn hlow
  rintro V2xxxxxx ⟨hb, hr, hn, hlow⟩
  refine wpAnyH_done (by kernel_rfl) ?_ _
  go_upto_region 17 with (fail)
  refine wp_gen (fun W => BoxO W w.heap.size o ∧ BoxO W (w.heap.size + 1) O0 ∧ BoxO W (w.heap.size + 2) ({ baseO o with source := o.source, volume := o.volume, got := o.got, phase := o.phase, num := o.num, tag := o.tag }) ∧ Below w.heap.size w W) ⟨hb, hr, hn, hlow⟩ ?_
  clear hb hr hn hlow
  rintro W3 ⟨hb, hr, hn, hlow⟩
  have hn' := hE.out ▸ hn
  clear hb
  go_wp2_with (first | ((with_reducible refine wpList_load_row rfl 31 _ rfl (w.heap.size + 2) ?_ 31 (cellsO (bareO o)) (0, 0) _ ?_ undObj ?_ ?_ ?_); rfl; exact hn'; rfl; exact sizeObj) | ((with_reducible refine wpList_store_rowTo rfl 31 _ _ rfl rfl (w.heap.size + 1) (cellsO (bareO o)) ?_ ?_ 31 (cellsO O0) ?_ ?_ ?_ ?_ ?_); rfl; rfl; exact hr; exact sizeObj; exact sz_cells _ _; exact one_cells _))
  refine bodyPost_ret (v := encO (bareO o)) (results_cell_row rfl _ _ (w.heap.size + 1) 31 (cellsO (bareO o)) (0, 0) _ rfl (hr.setRow _) undObj rfl sizeObj) rfl ?_
  exact ⟨rfl, below_setRow hlow (by omega) _⟩

set_option maxRecDepth 100000 in
set_option maxHeartbeats 4000000 in
theorem bare_0 (o : Obj) (w : World) (hk : o.kind ≠ 1 ∧ o.kind ≠ 2 ∧ o.kind ≠ 3 ∧ o.kind ≠ 4 ∧ o.kind ≠ 5 ∧ o.kind ≠ 6 ∧ o.kind ≠ 7) :
    Calls Tryd.prog 49 #[encO o] w fun e w' => e = .returned (encO (bareO o)) ∧ Below w.heap.size w w' := by
  have hE : Hid (bareO o = baseO o) := by show _ = _; unfold bareO; rw [if_neg hk.1, if_neg hk.2.1, if_neg hk.2.2.1, if_neg hk.2.2.2.1, if_neg hk.2.2.2.2.1, if_neg hk.2.2.2.2.2.1, if_neg hk.2.2.2.2.2.2]; rfl
  have HK := Lib.hid hk
  clear hk
  unfold encO
  go_enter Tryd.func49, Tryd.ntmps49
  go_upto_region 1 with (fail)
  refine wp_gen (fun W => BoxO W w.heap.size o ∧ BoxO W (w.heap.size + 1) O0 ∧ Below w.heap.size w W ∧ W.heap.size = w.heap.size + 2) ?_ ?_
  · exact ⟨(BoxO.new w o).alloc _, heap_alloc2_new w _ _, ((Below.refl _ _).alloc (Nat.le_refl _) _).alloc (by simp) _, by simp⟩
  rintro W1 ⟨hb, hr, hlow, hsz⟩
  have c0 := hb.c0
  have c1 := hb.c1
  have c2 := hb.c2
  have c3 := hb.c3
  have c4 := hb.c4
  have c5 := hb.c5
  have hn := BoxO.new W1 O0
  rw [hsz] at hn
  go_upto_region 2 with (first | ((with_reducible refine wpList_build_to rfl 31 _ rfl (cellsO (baseO o)) ?_ ?_); exact built_base o) | ((with_reducible refine wpList_store_rowTo rfl 31 _ _ rfl rfl (w.heap.size + 2) (cellsO (baseO o)) ?_ ?_ 31 (cellsO O0) ?_ ?_ ?_ ?_ ?_); rfl; rfl; exact hn; exact sizeObj; exact sz_cells _ _; exact one_cells _))
  refine wp_gen (fun W => BoxO W w.heap.size o ∧ BoxO W (w.heap.size + 1) O0 ∧ BoxO W (w.heap.size + 2) (baseO o) ∧ Below w.heap.size w W) ?_ ?_
  · exact ⟨(hb.alloc _).row (by omega) _, (hr.alloc _).row (by omega) _, hn.setRow _, below_setRow (hlow.alloc (by omega) _) (by omega) _⟩
  clear c0 c1 c2 c3 c4 c5 hb hr hlow hsz hn
  rintro W2 ⟨hb, hr, hn, hlow⟩
  have c0 := hb.c0
  have e1 : (o.kind == 1) = false := beq_no HK.out.1
  have e2 : (o.kind == 2) = false := beq_no HK.out.2.1
  have e3 : (o.kind == 3) = false := beq_no HK.out.2.2.1
  have e4 : (o.kind == 4) = false := beq_no HK.out.2.2.2.1
  have e5 : (o.kind == 5) = false := beq_no HK.out.2.2.2.2.1
  have e6 : (o.kind == 6) = false := beq_no HK.out.2.2.2.2.2.1
  have e7 : (o.kind == 7) = false := beq_no HK.out.2.2.2.2.2.2
  go_upto_region 17 with (fail)
  clear c0 e1 e2 e3 e4 e5 e6 e7 hb
  have hn' := hE.out ▸ hn
  go_wp2_with (first | ((with_reducible refine wpList_load_row rfl 31 _ rfl (w.heap.size + 2) ?_ 31 (cellsO (bareO o)) (0, 0) _ ?_ undObj ?_ ?_ ?_); rfl; exact hn'; rfl; exact sizeObj) | ((with_reducible refine wpList_store_rowTo rfl 31 _ _ rfl rfl (w.heap.size + 1) (cellsO (bareO o)) ?_ ?_ 31 (cellsO O0) ?_ ?_ ?_ ?_ ?_); rfl; rfl; exact hr; exact sizeObj; exact sz_cells _ _; exact one_cells _))
  refine bodyPost_ret (v := encO (bareO o)) (results_cell_row rfl _ _ (w.heap.size + 1) 31 (cellsO (bareO o)) (0, 0) _ rfl (hr.setRow _) undObj rfl sizeObj) rfl ?_
  exact ⟨rfl, below_setRow hlow (by omega) _⟩

theorem bare_any (o : Obj) (w : World) : Calls Tryd.prog 49 #[encO o] w fun e w' => e = .returned (encO (bareO o)) ∧ Below w.heap.size w w' := by
  by_cases h1 : o.kind = 1
  · exact bare_1 o w h1
  by_cases h2 : o.kind = 2
  · exact bare_2 o w h2
  by_cases h3 : o.kind = 3
  · exact bare_3 o w h3
  by_cases h4 : o.kind = 4
  · exact bare_4 o w h4
  by_cases h5 : o.kind = 5
  · exact bare_5 o w h5
  by_cases h6 : o.kind = 6
  · exact bare_6 o w h6
  by_cases h7 : o.kind = 7
  · exact bare_7 o w h7
  exact bare_0 o w ⟨h1, h2, h3, h4, h5, h6, h7⟩
end Go.Proofs.YtfpdchabknoklaaDoor.O
namespace Go.Proofs.YtfpdchabknoklaaDoor.O
open Go.RowKit T
open Go.Lib

theorem neq_objs {oi : Oper} {a : Act} {x y : Operand} {p q : Obj} {v : Bool} {W : World} (ho : oi.op = .binOp .neq 31 x y 31) (hx : a.eval x = encO p) (hy : a.eval y = encO q) (hv : decide (p = q) = v) :
    (execOp a.eval oi).run Tryd.prog W = .ok (.value (.bool !v)) W := by
  have hq : (eqGuard .neq 31 x y (encO p) (encO q)).run Tryd.prog W = .ok () W := run_eqGuard_agg W .neq 31 x y (cellsO p) (cellsO q) (by kernel_rfl)
  unfold execOp
  simp only [ho, hx, hy, Sem.run_bind, hq, Result.andThen_ok, neq_obj, hv, Sem.run_pure]
/-- The texts of an object lie in memory. -/
structure Fit (o : Obj) : Prop where
  name : o.name.size ≤ 9223372036854775807
  cls : o.cls.size ≤ 9223372036854775807
  zone : o.zone.size ≤ 9223372036854775807
  node : o.node.size ≤ 9223372036854775807
  claim : o.claim.size ≤ 9223372036854775807
  volume : o.volume.size ≤ 9223372036854775807
  source : o.source.size ≤ 9223372036854775807
theorem claimB_eq (o : Obj) : claimB o = (!emp o.cls && ((o.size != 0) && (modeB o.mode && (ph3 o.phase 1 2 3 && ((!emp o.volume) == decide (o.phase = 3)))))) := by unfold claimB; rw [neB]
theorem volumeB_eq (o : Obj) : volumeB o = ((!emp o.cls && !emp o.zone) && ((o.size != 0) && ((o.got != 0) && (modeB o.mode && (ph4 o.phase 4 3 5 6 && (!emp o.claim || ((o.phase != 3) && (o.phase != 5)))))))) := by
  unfold volumeB
  rw [neB, neB]
  have : (!(decide (o.phase = 3) || decide (o.phase = 5))) = ((o.phase != 3) && (o.phase != 5)) := by rw [Bool.eq_iff_iff]; simp
  rw [this]
theorem empI (s : ByteArray) : emp s = s.toList.isEmpty := by unfold emp; rw [Lib.toList_data, Bool.eq_iff_iff]; simp
theorem inR_eq (n : Int) : inR n = (!decide (n < 0) && !decide (1125899906842624 < n)) := by rw [Bool.eq_iff_iff]; simp [inR]
theorem okT_le {s : ByteArray} (h : okT s = true) : s.size ≤ 40 := by
  unfold okT at h
  rw [Bool.or_eq_true] at h
  rcases h with h | h
  · have := of_decide_eq_true h
    have e : s.data.toList.length = s.size := size_list s
    rw [this] at e; simp at e; omega
  · exact (nameB_le h).2
theorem texts_le {o : Obj} (h : textsB o = true) : o.volume.size ≤ 140737488351232 ∧ o.node.size ≤ 140737488351232 := by
  unfold textsB at h
  simp only [Bool.and_eq_true] at h
  have h1 := okT_le h.2.2.2.2.1
  have h2 := okT_le h.2.2.1
  omega
end Go.Proofs.YtfpdchabknoklaaDoor.O
