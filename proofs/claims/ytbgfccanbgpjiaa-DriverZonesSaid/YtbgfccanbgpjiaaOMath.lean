/- What follows from being right: plain facts, no program is named here. -/
import Derived.Test.YtbgfccanbgpjiaaOPlain
namespace Go.Proofs.Ytbgfccanbgpjiaa.O
open Go.Lib T

theorem E0_list : E0.data.toList = [] := rfl
theorem emp_E0 : emp E0 = true := rfl
theorem emp_iff {s : ByteArray} : emp s = true ↔ s = E0 := by
  unfold emp
  rw [decide_eq_true_iff]
  exact ⟨fun h => ba_ext (by rw [h]; rfl), fun h => by rw [h]; rfl⟩

theorem bareO_hold (o : Obj) (h : Bool) : bareO { o with hold := h } = { bareO o with hold := h } := by
  unfold bareO
  repeat' split
  all_goals first | rfl | contradiction
theorem bareO_holds (o : Obj) : (bareO o).hold = o.hold := by
  unfold bareO
  repeat' split
  all_goals rfl
theorem hold_inj {a b : Obj} {h : Bool} (e : a.hold = b.hold) : ({ a with hold := h } : Obj) = { b with hold := h } ↔ a = b := by
  obtain ⟨a1, a2, a3, a4, a5, a6, a7, a8, a9, a10, a11, a12, a13, a14, a15, a16, a17, a18, a19, a20⟩ := a
  obtain ⟨b1, b2, b3, b4, b5, b6, b7, b8, b9, b10, b11, b12, b13, b14, b15, b16, b17, b18, b19, b20⟩ := b
  dsimp only at e
  subst e
  simp only [Obj.mk.injEq, true_and]
theorem rightB_hold (o : Obj) (h : Bool) : rightB { o with hold := h } = rightB o := by
  unfold rightB
  have e : decide (({ o with hold := h } : Obj) = bareO { o with hold := h }) = decide (o = bareO o) := by
    rw [decide_eq_decide, bareO_hold]
    exact hold_inj (bareO_holds o).symm
  rw [e]
  rfl

theorem right_parts {o : Obj} (h : rightB o = true) : nameB o.name.data.toList = true ∧ o = bareO o ∧ textsB o = true ∧ inR o.size = true ∧ inR o.got = true ∧ kindB o = true := by
  unfold rightB at h
  simp only [Bool.and_eq_true, decide_eq_true_eq] at h
  exact h
theorem kind_cases {o : Obj} (h : kindB o = true) : o.kind = 1 ∨ o.kind = 2 ∨ o.kind = 3 ∨ o.kind = 4 ∨ o.kind = 5 ∨ o.kind = 6 ∨ o.kind = 7 := by
  by_cases h1 : o.kind = 1
  · exact .inl h1
  by_cases h2 : o.kind = 2
  · exact .inr (.inl h2)
  by_cases h3 : o.kind = 3
  · exact .inr (.inr (.inl h3))
  by_cases h4 : o.kind = 4
  · exact .inr (.inr (.inr (.inl h4)))
  by_cases h5 : o.kind = 5
  · exact .inr (.inr (.inr (.inr (.inl h5))))
  by_cases h6 : o.kind = 6
  · exact .inr (.inr (.inr (.inr (.inr (.inl h6)))))
  by_cases h7 : o.kind = 7
  · exact .inr (.inr (.inr (.inr (.inr (.inr h7)))))
  unfold kindB at h
  rw [if_neg h1, if_neg h2, if_neg h3, if_neg h4, if_neg h5, if_neg h6, if_neg h7] at h
  cases h

theorem name_ne {o : Obj} (h : nameB o.name.data.toList = true) : o.name.data.toList ≠ [] := by
  intro e
  rw [e] at h
  cases h
theorem phase3_ne {p a b c : Int} (h : ph3 p a b c = true) (ha : 0 < a) (hb : 0 < b) (hc : 0 < c) : p ≠ 0 := by
  unfold ph3 at h
  simp only [Bool.or_eq_true, decide_eq_true_eq] at h
  omega
theorem phase4_ne {p a b c d : Int} (h : ph4 p a b c d = true) (ha : 0 < a) (hb : 0 < b) (hc : 0 < c) (hd : 0 < d) : p ≠ 0 := by
  unfold ph4 at h
  simp only [Bool.or_eq_true, decide_eq_true_eq] at h
  omega
theorem mode_ne {m : Int} (h : modeB m = true) : m ≠ 0 := by
  unfold modeB at h
  simp only [Bool.or_eq_true, decide_eq_true_eq] at h
  omega

theorem kind3 {o : Obj} (e : o.kind = 3) : kindB o = claimB o := by unfold kindB; simp [e]
theorem kind4 {o : Obj} (e : o.kind = 4) : kindB o = volumeB o := by unfold kindB; simp [e]
theorem kind5 {o : Obj} (e : o.kind = 5) : kindB o = attachB o := by unfold kindB; simp [e]
theorem kind7 {o : Obj} (e : o.kind = 7) : kindB o = (!emp o.source && ph4 o.phase 1 10 11 6) := by unfold kindB; simp [e]

/-- What is right stays right by default. -/
theorem right_default {o : Obj} (h : rightB o = true) : rightB (defO o) = true := by
  obtain ⟨hn, -, -, -, -, hk⟩ := right_parts h
  have hne := name_ne hn
  rcases kind_cases hk with e | e | e | e | e | e | e
  · rw [show defO o = o by unfold defO; simp [e]]; exact h
  · rw [show defO o = o by unfold defO; simp [e]]; exact h
  · rw [kind3 e] at hk
    unfold claimB at hk
    simp only [Bool.and_eq_true] at hk
    have hp := phase3_ne hk.2.2.2.1 (by decide) (by decide) (by decide)
    have hm := mode_ne hk.2.2.1
    rw [show defO o = { o with hold := true } by unfold defO; simp [e, hp, hm], rightB_hold]; exact h
  · rw [kind4 e] at hk
    unfold volumeB at hk
    simp only [Bool.and_eq_true] at hk
    have hp := phase4_ne hk.2.2.2.2.1 (by decide) (by decide) (by decide) (by decide)
    have hm := mode_ne hk.2.2.2.1
    have hg : o.got ≠ 0 := of_decide_eq_true hk.2.2.1
    rw [show defO o = { o with hold := true } by unfold defO; simp [e, hp, hm, hg], rightB_hold]; exact h
  · rw [show defO o = o by unfold defO; rw [if_neg (by omega), if_neg (by omega), if_neg (by omega), if_pos e, if_neg hne]]; exact h
  · rw [show defO o = o by unfold defO; simp [e]]; exact h
  · rw [kind7 e] at hk
    simp only [Bool.and_eq_true] at hk
    have hp := phase4_ne hk.2 (by decide) (by decide) (by decide) (by decide)
    rw [show defO o = { o with hold := true } by unfold defO; simp [e, hp], rightB_hold]; exact h

/-- What a user may make. -/
theorem user_new {o : Obj} (h : userB o = true) : rightB o = true ∧ o.version = 0 ∧ o.born = 0 ∧ o.deleting = false ∧ o.num = 0 ∧ o.tag = 0 ∧ o.kind ≠ 5 ∧ emp o.volume = true ∧ emp o.node = true := by
  unfold userB at h
  simp only [Bool.and_eq_true] at h
  obtain ⟨hr, hu, hk⟩ := h
  obtain ⟨-, hb, -, -, -, hkd⟩ := right_parts hr
  unfold untouchedB at hu
  simp only [Bool.and_eq_true, decide_eq_true_eq, Bool.not_eq_true'] at hu
  obtain ⟨u1, u2, u3, u4, u5⟩ := hu
  have hvol := congrArg Obj.volume hb
  have hnode := congrArg Obj.node hb
  refine ⟨hr, u1, u2, u5, u3, u4, ?_⟩
  rcases kind_cases hkd with e | e | e | e | e | e | e
  · simp [bareO, e] at hvol hnode
    rw [hvol, hnode]; exact ⟨by omega, rfl, rfl⟩
  · simp [bareO, e] at hvol hnode
    rw [hvol, hnode]; exact ⟨by omega, rfl, rfl⟩
  · unfold userK at hk
    simp [e] at hk
    exact ⟨by omega, hk.2.1.2.2, hk.2.1.1⟩
  · simp [bareO, e] at hvol hnode
    rw [hvol, hnode]; exact ⟨by omega, rfl, rfl⟩
  · unfold userK at hk
    simp [e] at hk
  · unfold userK at hk
    simp [e] at hk
    simp [bareO, e] at hvol
    rw [hvol]
    exact ⟨by omega, rfl, hk⟩
  · unfold userK at hk
    simp [e] at hk
    simp [bareO, e] at hnode
    rw [hnode]
    exact ⟨by omega, hk.2.1, rfl⟩

/-- A tag is of a snapshot alone. -/
theorem right_tag {o : Obj} (h : rightB o = true) (t : Int) : rightB { o with tag := t } = (decide (t = 0) || decide (o.kind = 7)) := by
  obtain ⟨hn, hb, ht, hs, hg, hk⟩ := right_parts h
  have e1 : rightB { o with tag := t } = decide (({ o with tag := t } : Obj) = bareO { o with tag := t }) := by
    unfold rightB
    rw [show nameB ({ o with tag := t } : Obj).name.data.toList = true from hn, show textsB { o with tag := t } = true from ht, show inR ({ o with tag := t } : Obj).size = true from hs, show inR ({ o with tag := t } : Obj).got = true from hg, show kindB { o with tag := t } = true from hk]
    simp
  rw [e1]
  obtain ⟨kind, name, version, born, deleting, hold, cls, size, got, mode, keep, wait, zone, node, claim, volume, source, phase, num, tag⟩ := o
  rcases kind_cases hk with e | e | e | e | e | e | e <;> dsimp only at e <;> subst e <;> simp [bareO, Obj.mk.injEq] at hb ⊢ <;> simp [hb]
/-- Wait is of a class alone. -/
theorem right_wait {o : Obj} (h : rightB o = true) : rightB { o with wait := true } = decide (o.kind = 1) := by
  obtain ⟨hn, hb, ht, hs, hg, hk⟩ := right_parts h
  have e1 : rightB { o with wait := true } = decide (({ o with wait := true } : Obj) = bareO { o with wait := true }) := by
    unfold rightB
    rw [show nameB ({ o with wait := true } : Obj).name.data.toList = true from hn, show textsB { o with wait := true } = true from ht, show inR ({ o with wait := true } : Obj).size = true from hs, show inR ({ o with wait := true } : Obj).got = true from hg, show kindB { o with wait := true } = true from hk]
    simp
  rw [e1]
  obtain ⟨kind, name, version, born, deleting, hold, cls, size, got, mode, keep, wait, zone, node, claim, volume, source, phase, num, tag⟩ := o
  rcases kind_cases hk with e | e | e | e | e | e | e <;> dsimp only at e <;> subst e <;> simp [bareO, Obj.mk.injEq] at hb ⊢ <;> simp [hb]

theorem split_last {a b c d : List UInt8} (hb : (47 : UInt8) ∉ b) (hd : (47 : UInt8) ∉ d) (h : a ++ 47 :: b = c ++ 47 :: d) : a = c ∧ b = d := by
  rcases List.append_eq_append_iff.1 h with ⟨x, hx, hy⟩ | ⟨x, hx, hy⟩
  · cases x with
    | nil => simp at hx hy; exact ⟨hx.symm, hy⟩
    | cons y x =>
      simp at hy
      exact absurd (by rw [hy.2]; simp) hb
  · cases x with
    | nil => simp at hx hy; exact ⟨hx, hy.symm⟩
    | cons y x =>
      simp at hy
      exact absurd (by rw [hy.2]; simp) hd
theorem noSl_mem {s : ByteArray} (h : noSl s = true) : (47 : UInt8) ∉ s.data.toList := by
  unfold noSl at h
  simpa using h
/-- The name of an attachment tells its volume and its node. -/
theorem attach_parts {a b : Obj} (ha : rightB a = true) (hb : rightB b = true) (ka : a.kind = 5) (kb : b.kind = 5) (hn : a.name = b.name) : a.volume = b.volume ∧ a.node = b.node := by
  have h1 := (right_parts ha).2.2.2.2.2
  have h2 := (right_parts hb).2.2.2.2.2
  rw [kind5 ka] at h1
  rw [kind5 kb] at h2
  unfold attachB at h1 h2
  simp only [Bool.and_eq_true, decide_eq_true_eq] at h1 h2
  have e : (attachN a.volume a.node).data.toList = (attachN b.volume b.node).data.toList := by rw [← h1.2.2.1, ← h2.2.2.1, hn]
  rw [attachN_list, attachN_list] at e
  obtain ⟨p, q⟩ := split_last (noSl_mem h1.2.1) (noSl_mem h2.2.1) e
  exact ⟨ba_ext p, ba_ext q⟩

/-- Go's order of texts is the order of their lists. -/
theorem less_list (x : List UInt8) : ∀ y : List UInt8, Op.bytesLess x y = decide (x < y) := by
  induction x with
  | nil => intro y; cases y <;> simp [Op.bytesLess]
  | cons a x ih =>
    intro y
    cases y with
    | nil => simp [Op.bytesLess]
    | cons b y =>
      rw [Op.bytesLess, ih y, Bool.eq_iff_iff]
      simp only [List.cons_lt_cons_iff, Bool.or_eq_true, Bool.and_eq_true, decide_eq_true_eq, beq_iff_eq]
/-- Keys stand in one order. -/
def lessB (k1 : Int) (n1 : ByteArray) (k2 : Int) (n2 : ByteArray) : Bool := decide (k1 < k2) || (decide (k1 = k2) && Op.bytesLess n1.data.toList n2.data.toList)
theorem less_iff {k1 k2 : Int} {n1 n2 : ByteArray} : lessB k1 n1 k2 n2 = true ↔ k1 < k2 ∨ (k1 = k2 ∧ n1.data.toList < n2.data.toList) := by
  unfold lessB
  rw [less_list]
  simp
theorem bytes_total (x y : List UInt8) : x < y ∨ x = y ∨ y < x := by
  by_cases h1 : x < y
  · exact .inl h1
  by_cases h2 : y < x
  · exact .inr (.inr h2)
  exact .inr (.inl (List.le_antisymm (List.not_lt.1 h2) (List.not_lt.1 h1)))
theorem less_asymm {k1 k2 : Int} {n1 n2 : ByteArray} (h : lessB k1 n1 k2 n2 = true) : lessB k2 n2 k1 n1 = false := by
  rw [Bool.eq_false_iff]
  intro h'
  rw [less_iff] at h h'
  rcases h with h | ⟨h, g⟩ <;> rcases h' with h' | ⟨h', g'⟩
  · omega
  · omega
  · omega
  · exact List.lt_asymm g g'
theorem less_trans {k1 k2 k3 : Int} {n1 n2 n3 : ByteArray} (h : lessB k1 n1 k2 n2 = true) (h' : lessB k2 n2 k3 n3 = true) : lessB k1 n1 k3 n3 = true := by
  rw [less_iff] at h h' ⊢
  rcases h with h | ⟨h, g⟩ <;> rcases h' with h' | ⟨h', g'⟩
  · omega
  · omega
  · omega
  · exact .inr ⟨by omega, List.lt_trans g g'⟩
theorem less_total (k1 k2 : Int) (n1 n2 : ByteArray) : (lessB k1 n1 k2 n2 || lessB k2 n2 k1 n1) = !(decide (k1 = k2) && decide (n1.data.toList = n2.data.toList)) := by
  rw [Bool.eq_iff_iff]
  simp only [Bool.or_eq_true, less_iff, Bool.not_eq_true', Bool.and_eq_false_iff, decide_eq_false_iff_not]
  constructor
  · rintro ((h | ⟨h, g⟩) | (h | ⟨h, g⟩))
    · exact .inl (by omega)
    · exact .inr (fun e => List.lt_irrefl _ (e ▸ g))
    · exact .inl (by omega)
    · exact .inr (fun e => List.lt_irrefl _ (e ▸ g))
  · intro h
    rcases Int.lt_trichotomy k1 k2 with h1 | h1 | h1
    · exact .inl (.inl h1)
    · rcases h with h | h
      · exact absurd h1 h
      · rcases bytes_total n1.data.toList n2.data.toList with g | g | g
        · exact .inl (.inr ⟨h1, g⟩)
        · exact absurd g h
        · exact .inr (.inr ⟨h1.symm, g⟩)
    · exact .inr (.inl h1)
end Go.Proofs.Ytbgfccanbgpjiaa.O
