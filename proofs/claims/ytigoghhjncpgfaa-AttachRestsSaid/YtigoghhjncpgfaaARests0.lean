/- Where each wanted node is attached, nothing is done: in plain Lean. -/
import Derived.Test.YtigoghhjncpgfaaALive
namespace Go.Proofs.Ytigoghhjncpgfaa.O.B
open Go Go.RowKit Go.Lib T

def nmC : ByteArray := ⟨#[99]⟩
def nmX : ByteArray := ⟨#[120]⟩
def vM : Obj := { vW with mode := 2 }
def podR (n : ByteArray) : Obj := { O0 with kind := 6, name := ⟨#[112]⟩ ++ n, claim := nmC, node := n }
def attR (n : ByteArray) : Obj := { O0 with kind := 5, name := ⟨#[118, 47]⟩ ++ n, volume := nmV, node := n, phase := 8 }
/-- What stands behind the world: a pod and an attachment of each node. -/
def bodyR (ns : List ByteArray) : List Obj := ns.flatMap fun n => [podR n, attR n]
def baseR (ns : List ByteArray) : List Obj := cW :: vM :: pW :: bodyR ns
def allR (ns : List ByteArray) : List Obj := baseR ns ++ [attR nmN]
def moreR (ns : List ByteArray) : List Obj := allR ns ++ [attR nmX]
theorem app_inj {p a b : ByteArray} (h : p ++ a = p ++ b) : a = b := by
  have h1 := congrArg (fun x : ByteArray => x.data.toList) h
  simp only [ByteArray.data_append, Array.toList_append] at h1
  exact ba_ext (List.append_cancel_left h1)
theorem app_nil {p a : ByteArray} (h : p ++ a = p) : a.data.toList = [] := by
  have h1 := congrArg (fun x : ByteArray => x.data.toList) h
  simp only [ByteArray.data_append, Array.toList_append] at h1
  simpa using h1
theorem get_some {l : List Obj} {o : Obj} (h : o ∈ l) : ∃ a, getL l o.kind o.name = some a ∧ a ∈ uniqL l ∧ a ∈ l ∧ a.kind = o.kind ∧ a.name = o.name := by
  cases hg : getL l o.kind o.name with
  | none =>
    unfold getL at hg
    rw [List.find?_eq_none] at hg
    exact absurd (by simp) (hg o h)
  | some a =>
    have h2 := List.find?_some hg
    simp only [Bool.and_eq_true, decide_eq_true_eq] at h2
    have h3 := uniq_get l o.kind o.name
    rw [hg] at h3
    exact ⟨a, rfl, List.mem_of_find?_eq_some h3, List.mem_of_find?_eq_some hg, h2.1, h2.2⟩
theorem mem_body {ns : List ByteArray} {o : Obj} : o ∈ bodyR ns ↔ ∃ n ∈ ns, o = podR n ∨ o = attR n := by
  unfold bodyR
  rw [List.mem_flatMap]
  simp
/-- What is known of such a list: its nodes, and those that are attached. -/
structure Rests (l : List Obj) (N M : List ByteArray) : Prop where
  vol : getL l 4 nmV = some vM
  cla : getL l 3 nmC = some cW
  pods : ∀ o ∈ l, o.kind = 6 → o.node ∈ N ∧ o.claim = nmC ∧ o.deleting = false ∧ o.node.data.toList ≠ []
  pod : ∀ n ∈ N, ∃ p ∈ uniqL l, p.kind = 6 ∧ p.node = n
  atts : ∀ o ∈ l, o.kind = 5 → ∃ n ∈ M, o = attR n
  att : ∀ n ∈ M, attR n ∈ uniqL l
theorem Rests.want {l : List Obj} {N M : List ByteArray} (h : Rests l N M) (s : ByteArray) : s ∈ wantL l nmV ↔ s ∈ N := by
  have hb : boundB l nmV nmC = true := by
    unfold boundB
    rw [h.cla]
    kernel_rfl
  have e : wantL l nmV = risB (nodesL l nmV) := by
    unfold wantL
    rw [h.vol]
    rfl
  rw [e, (risB_spec _).2 s]
  unfold nodesL
  rw [List.mem_map]
  constructor
  · rintro ⟨p, hp, rfl⟩
    obtain ⟨h1, h2⟩ := there_mem (List.mem_filter.1 hp).1
    exact (h.pods p h1 h2).1
  · intro hs
    obtain ⟨p, hp, hk, rfl⟩ := h.pod s hs
    obtain ⟨-, k2, k3, k4⟩ := h.pods p (uniq_mem hp) hk
    refine ⟨p, List.mem_filter.2 ⟨?_, ?_⟩, rfl⟩
    · rw [there_uniq]
      exact List.mem_filter.2 ⟨hp, decide_eq_true hk⟩
    · rw [k2, hb, k3]
      have : p.node.toList.isEmpty = false := by
        rw [Lib.toList_data]
        cases hq : p.node.data.toList with
        | nil => exact absurd hq k4
        | cons a r => rfl
      rw [this]
      rfl
theorem Rests.atl {l : List Obj} {N M : List ByteArray} (h : Rests l N M) (a : Obj) : a ∈ attsL l nmV ↔ ∃ n ∈ M, a = attR n := by
  rw [(atts_spec l nmV).1.mem_iff]
  unfold attL
  rw [List.mem_filter, there_uniq, List.mem_filter]
  constructor
  · rintro ⟨⟨h1, h2⟩, -⟩
    exact h.atts a (uniq_mem h1) (of_decide_eq_true h2)
  · rintro ⟨n, hn, rfl⟩
    exact ⟨⟨h.att n hn, rfl⟩, by simp [attR]⟩
theorem Rests.stays {l : List Obj} {N M : List ByteArray} (h : Rests l N M) (ver : Int) (n : ByteArray) (hn : n ∈ N) : stepA l ver nmV (attR n) = B.nothing := by
  unfold stepA goN
  rw [if_neg (show ¬ (attR n).phase = 9 by show ¬ (8 : Int) = 9; decide), if_neg (by rw [show memB (attR n).node (wantL l nmV) = true from mem_iff.2 ((h.want n).2 hn)]; simp), if_neg (show ¬ (attR n).phase = 7 by show ¬ (8 : Int) = 7; decide)]
theorem Rests.leaves {l : List Obj} {N M : List ByteArray} (h : Rests l N M) (ver : Int) (n : ByteArray) (hn : n ∉ N) : stepA l ver nmV (attR n) = writeA { attR n with phase := 9, num := up ver } := by
  unfold stepA goN
  have hm : memB (attR n).node (wantL l nmV) = false := by
    rw [← Bool.not_eq_true, mem_iff]
    exact fun hx => hn ((h.want n).1 hx)
  rw [if_neg (show ¬ (attR n).phase = 9 by show ¬ (8 : Int) = 9; decide), if_pos hm]
theorem Rests.nothing {l : List Obj} {N : List ByteArray} (h : Rests l N N) (ver : Int) : volumeA l ver nmV = B.nothing := by
  unfold volumeA
  rw [h.vol]
  show (match (attsL l nmV).find? fun a => decide ((stepA l ver nmV a).act ≠ 0) with | some a => stepA l ver nmV a | none => beginN vM (wantL l nmV) (attsL l nmV) (up ver)) = _
  have h1 : ((attsL l nmV).find? fun a => decide ((stepA l ver nmV a).act ≠ 0)) = none := by
    rw [List.find?_eq_none]
    intro a ha
    obtain ⟨n, hn, rfl⟩ := (h.atl a).1 ha
    rw [h.stays _ _ hn]
    decide
  rw [h1]
  show beginN _ _ _ _ = _
  unfold beginN
  have h2 : besideL (wantL l nmV) (risB ((attsL l nmV).map Obj.node)) = none := by
    unfold besideL
    rw [List.find?_eq_none]
    intro s hs
    have h3 : memB s (risB ((attsL l nmV).map Obj.node)) = true := by
      rw [mem_iff, (risB_spec _).2 s, List.mem_map]
      exact ⟨attR s, (h.atl _).2 ⟨s, (h.want s).1 hs, rfl⟩, rfl⟩
    rw [h3]
    decide
  rw [h2]
theorem Rests.goes {l : List Obj} {N M : List ByteArray} (h : Rests l N M) (ver : Int) (x : ByteArray) (hx : x ∈ M) (hn : x ∉ N) (hM : ∀ n ∈ M, n ∈ N ∨ n = x) : volumeA l ver nmV = writeA { attR x with phase := 9, num := up ver } := by
  unfold volumeA
  rw [h.vol]
  show (match (attsL l nmV).find? fun a => decide ((stepA l ver nmV a).act ≠ 0) with | some a => stepA l ver nmV a | none => beginN vM (wantL l nmV) (attsL l nmV) (up ver)) = _
  cases hf : (attsL l nmV).find? fun a => decide ((stepA l ver nmV a).act ≠ 0) with
  | none =>
    rw [List.find?_eq_none] at hf
    refine absurd ?_ (hf (attR x) ((h.atl _).2 ⟨x, hx, rfl⟩))
    rw [h.leaves _ _ hn]
    show decide ((1 : Int) ≠ 0) = true
    decide
  | some a =>
    have h1 := List.find?_some hf
    obtain ⟨n, hnM, rfl⟩ := (h.atl a).1 (List.mem_of_find?_eq_some hf)
    show stepA l ver nmV (attR n) = _
    rcases hM n hnM with hk | rfl
    · rw [h.stays _ _ hk] at h1
      exact absurd h1 (by decide)
    · rw [h.leaves _ _ hn]
theorem rests_of (ns : List ByteArray) (hns : ∀ n ∈ ns, n.data.toList ≠ []) (l : List Obj) (M : List ByteArray) (hl : ∀ o, o ∈ l ↔ o ∈ [cW, vM, pW] ∨ o ∈ bodyR ns ∨ ∃ n ∈ M, o = attR n) (hM : ∀ n ∈ ns, n ∈ M) (h4 : getL l 4 nmV = some vM) (h3 : getL l 3 nmC = some cW) : Rests l (nmN :: ns) M := by
  have hN : nmN.data.toList ≠ [] := by decide
  have hpod : ∀ o ∈ l, o.kind = 6 → o = pW ∨ ∃ n ∈ ns, o = podR n := fun o ho hk => by
    rcases (hl o).1 ho with h1 | h1 | ⟨n, -, rfl⟩
    · simp only [List.mem_cons, List.not_mem_nil, or_false] at h1
      rcases h1 with rfl | rfl | rfl
      · exact absurd hk (by decide)
      · exact absurd hk (by decide)
      · exact .inl rfl
    · obtain ⟨n, hn, rfl | rfl⟩ := mem_body.1 h1
      · exact .inr ⟨n, hn, rfl⟩
      · exact absurd hk (by show ¬ (5 : Int) = 6; decide)
    · exact absurd hk (by show ¬ (5 : Int) = 6; decide)
  have hatt : ∀ o ∈ l, o.kind = 5 → ∃ n ∈ M, o = attR n := fun o ho hk => by
    rcases (hl o).1 ho with h1 | h1 | h1
    · simp only [List.mem_cons, List.not_mem_nil, or_false] at h1
      rcases h1 with rfl | rfl | rfl <;> exact absurd hk (by decide)
    · obtain ⟨n, hn, rfl | rfl⟩ := mem_body.1 h1
      · exact absurd hk (by show ¬ (6 : Int) = 5; decide)
      · exact ⟨n, hM n hn, rfl⟩
    · exact h1
  refine ⟨h4, h3, fun o ho hk => ?_, fun n hn => ?_, hatt, fun n hn => ?_⟩
  · rcases hpod o ho hk with rfl | ⟨n, hn, rfl⟩
    · exact ⟨List.mem_cons_self, rfl, rfl, hN⟩
    · exact ⟨List.mem_cons_of_mem _ hn, rfl, rfl, hns n hn⟩
  · rcases List.mem_cons.1 hn with rfl | hn
    · obtain ⟨a, -, h2, h5, h6, h7⟩ := get_some ((hl pW).2 (.inl (by simp)))
      refine ⟨a, h2, h6, ?_⟩
      rcases hpod a h5 h6 with rfl | ⟨m, hm, rfl⟩
      · rfl
      · exact absurd (app_nil (p := ⟨#[112]⟩) h7) (hns m hm)
    · obtain ⟨a, -, h2, h5, h6, h7⟩ := get_some ((hl (podR n)).2 (.inr (.inl (mem_body.2 ⟨n, hn, .inl rfl⟩))))
      refine ⟨a, h2, h6, ?_⟩
      rcases hpod a h5 h6 with rfl | ⟨m, hm, rfl⟩
      · exact absurd (app_nil (p := ⟨#[112]⟩) h7.symm) (hns n hn)
      · exact app_inj (p := ⟨#[112]⟩) h7
  · obtain ⟨a, -, h2, h5, h6, h7⟩ := get_some ((hl (attR n)).2 (.inr (.inr ⟨n, hn, rfl⟩)))
    obtain ⟨m, hm, rfl⟩ := hatt a h5 h6
    have : m = n := app_inj (p := ⟨#[118, 47]⟩) h7
    subst this
    exact h2
theorem rests_all (ns : List ByteArray) (hns : ∀ n ∈ ns, n.data.toList ≠ []) : Rests (allR ns) (nmN :: ns) (nmN :: ns) := by
  refine rests_of ns hns _ _ (fun o => ?_) (fun n hn => List.mem_cons_of_mem _ hn) rfl rfl
  show o ∈ ([cW, vM, pW] ++ bodyR ns) ++ [attR nmN] ↔ _
  rw [List.mem_append, List.mem_append]
  constructor
  · rintro ((h | h) | h)
    · exact .inl h
    · exact .inr (.inl h)
    · exact .inr (.inr ⟨nmN, List.mem_cons_self, by simpa using h⟩)
  · rintro (h | h | ⟨n, hn, rfl⟩)
    · exact .inl (.inl h)
    · exact .inl (.inr h)
    · rcases List.mem_cons.1 hn with rfl | hn
      · exact .inr (by simp)
      · exact .inl (.inr (mem_body.2 ⟨n, hn, .inr rfl⟩))
theorem rests_more (ns : List ByteArray) (hns : ∀ n ∈ ns, n.data.toList ≠ []) : Rests (moreR ns) (nmN :: ns) (nmX :: nmN :: ns) := by
  refine rests_of ns hns _ _ (fun o => ?_) (fun n hn => List.mem_cons_of_mem _ (List.mem_cons_of_mem _ hn)) rfl rfl
  show o ∈ (([cW, vM, pW] ++ bodyR ns) ++ [attR nmN]) ++ [attR nmX] ↔ _
  rw [List.mem_append, List.mem_append, List.mem_append]
  constructor
  · rintro (((h | h) | h) | h)
    · exact .inl h
    · exact .inr (.inl h)
    · exact .inr (.inr ⟨nmN, by simp, by simpa using h⟩)
    · exact .inr (.inr ⟨nmX, by simp, by simpa using h⟩)
  · rintro (h | h | ⟨n, hn, rfl⟩)
    · exact .inl (.inl (.inl h))
    · exact .inl (.inl (.inr h))
    · rcases List.mem_cons.1 hn with rfl | hn
      · exact .inr (by simp)
      · rcases List.mem_cons.1 hn with rfl | hn
        · exact .inl (.inr (by simp))
        · exact .inl (.inl (.inr (mem_body.2 ⟨n, hn, .inr rfl⟩)))
theorem vol_all (ns : List ByteArray) (hns : ∀ n ∈ ns, n.data.toList ≠ []) (ver : Int) : volumeA (allR ns) ver nmV = nothing := (rests_all ns hns).nothing ver
theorem vol_more (ns : List ByteArray) (hns : ∀ n ∈ ns, n.data.toList ≠ []) (hx : nmX ∉ ns) (ver : Int) : volumeA (moreR ns) ver nmV = writeA { attR nmX with phase := 9, num := up ver } := by
  refine (rests_more ns hns).goes ver nmX List.mem_cons_self ?_ (fun n hn => ?_)
  · intro h
    rcases List.mem_cons.1 h with h | h
    · exact absurd h (by decide)
    · exact hx h
  · rcases List.mem_cons.1 hn with rfl | hn
    · exact .inr rfl
    · exact .inl hn
end Go.Proofs.Ytigoghhjncpgfaa.O.B
