/- What is written is right, if all that is there is: in plain Lean. -/
import Derived.Test.YtigoghhjncpgfaaAOne
import Derived.Test.YtigoghhjncpgfaaR3Name
namespace Go.Proofs.Ytigoghhjncpgfaa.O.B
open Go Go.RowKit Go.Lib T

def AllR (l : List Obj) : Prop := ∀ o ∈ l, rightB o = true
theorem okT_name {s : ByteArray} (h : nameB s.data.toList = true) : okT s = true ∧ emp s = false := by
  refine ⟨by unfold okT; rw [h, Bool.or_true], ?_⟩
  unfold emp
  have := nameB_le h
  rw [decide_eq_false_iff_not]
  intro e
  have : s.data.toList.length = s.size := size_list s
  rw [e] at this
  simp at this
  omega
theorem right_det (p : Obj) (n : Int) (hk : p.kind = 5) (h : rightB p = true) : rightB { p with phase := 9, num := n } = true := by
  have hE : okT E0 = true := rfl
  have hI : inR 0 = true := rfl
  obtain ⟨k, nm, ve, bo, de, ho, cl, si, go, mo, ke, wa, zo, no, ca, vo, so, ph, nu, ta⟩ := p
  dsimp only at hk
  subst hk
  simp [rightB, bareO, kindB, attachB, textsB, ph3] at h ⊢
  simp_all
  have h1 := h.1
  rw [h.2.2.2.2.2.2.2.1] at h1
  exact h1
theorem right_new (v s : ByteArray) (n : Int) (h1 : nameB v.data.toList = true) (h2 : okT s = true) (h3 : emp s = false) (h4 : noSl s = true) (h5 : nameB (attachN v s).data.toList = true) : rightB { newA v s n with name := attachN v s } = true := by
  obtain ⟨o1, o2⟩ := okT_name h1
  have hE : okT E0 = true := rfl
  have hI : inR 0 = true := rfl
  simp [newA, O0, rightB, bareO, kindB, attachB, textsB, ph3, *]
theorem want_pod {l : List Obj} {vol s : ByteArray} (h : s ∈ wantL l vol) : ∃ p ∈ l, p.node = s ∧ p.node.toList.isEmpty = false := by
  unfold wantL at h
  split at h
  · split at h
    · have h1 := (risB_spec _).2 s |>.1 h
      unfold nodesL at h1
      obtain ⟨p, hp, rfl⟩ := List.mem_map.1 h1
      obtain ⟨h2, h3⟩ := List.mem_filter.1 hp
      simp only [Bool.and_eq_true, Bool.not_eq_true'] at h3
      exact ⟨p, (there_mem h2).1, rfl, h3.2.1⟩
    · cases h
  · cases h
theorem vol_right (l : List Obj) (ver : Int) (name : ByteArray) (hall : AllR l) (h : (volumeA l ver name).act = 1) (hs : (volumeA l ver name).obj.version = 0 → noSl (volumeA l ver name).obj.node = true) : rightB (volumeA l ver name).obj = true := by
  obtain ⟨v, hg, hcase⟩ := vol_cases h
  rcases hcase with ⟨a, ha, -, e⟩ | ⟨s, hb, -, hn, e⟩
  · rw [e]
    exact right_det a _ (att_mem ha).2.1 (hall a (att_mem ha).1)
  · rw [e] at hs ⊢
    have hsl : noSl s = true := hs rfl
    obtain ⟨p, hp, rfl, hpe⟩ := want_pod (List.mem_of_find?_eq_some hb)
    have hv := hall v (List.mem_of_find?_eq_some hg)
    have hpr := hall p hp
    unfold rightB at hv hpr
    simp only [Bool.and_eq_true] at hv hpr
    have ht := hpr.2.2.1
    unfold textsB at ht
    simp only [Bool.and_eq_true] at ht
    exact right_new v.name p.node (up ver) hv.1 ht.2.2.1 (by
      unfold emp
      rw [decide_eq_false_iff_not]
      intro e2
      rw [Lib.toList_data, e2] at hpe
      cases hpe) hsl hn
theorem vol_node (l : List Obj) (ver : Int) (name : ByteArray) (hz : ∀ o ∈ l, o.name.size ≤ 140737488351232 ∧ o.node.size ≤ 140737488351232) (h : (volumeA l ver name).act = 1) : (volumeA l ver name).obj.node.size ≤ 140737488351232 := by
  obtain ⟨v, hg, hcase⟩ := vol_cases h
  rcases hcase with ⟨a, ha, -, e⟩ | ⟨s, hb, -, hn, e⟩
  · rw [e]
    exact (hz a (att_mem ha).1).2
  · rw [e]
    obtain ⟨p, hp, hs⟩ := want_mem (List.mem_of_find?_eq_some hb)
    show s.size ≤ _
    rw [← hs]
    exact (hz p hp).2
end Go.Proofs.Ytigoghhjncpgfaa.O.B
