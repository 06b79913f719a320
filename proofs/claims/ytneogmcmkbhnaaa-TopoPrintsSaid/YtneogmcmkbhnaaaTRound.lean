/- What is printed is read as it was, and what is read is printed as it was: in plain Lean. -/
import Derived.Test.YtneogmcmkbhnaaaTPText
namespace Go.Proofs.Ytneogmcmkbhnaaa.T

section
variable {α : Type} (rd : List UInt8 → Option α) (pr : α → Option (List UInt8)) (key : α → List UInt8)
/-- Keys rise. -/
def Rises (l : List α) : Prop := ∀ j (h : j + 1 < l.length), leB (key l[j + 1]) (key (l[j]'(by omega))) = false
theorem rises_snoc {l : List α} {x : α} (h : Rises key l) (hx : ∀ y, l.getLast? = some y → leB (key x) (key y) = false) : Rises key (l ++ [x]) := by
  intro j hj
  rw [List.length_append] at hj
  simp only [List.length_cons, List.length_nil] at hj
  by_cases e : j + 1 < l.length
  · rw [List.getElem_append_left e, List.getElem_append_left (by omega)]
    exact h j e
  · have hjl : j + 1 = l.length := by omega
    rw [List.getElem_append_right (by omega), List.getElem_append_left (by omega)]
    simp only [hjl, Nat.sub_self, List.getElem_cons_zero]
    refine hx _ ?_
    rw [List.getLast?_eq_getElem?, List.getElem?_eq_getElem (by omega)]
    congr 1
    congr 1
    omega
theorem rises_left {l r : List α} (h : Rises key (l ++ r)) : Rises key l := fun j hj => by
  have := h j (by rw [List.length_append]; omega)
  rwa [List.getElem_append_left hj, List.getElem_append_left (by omega)] at this
theorem rises_last {l : List α} {x y : α} (h : Rises key (l ++ [x])) (hy : l.getLast? = some y) : leB (key x) (key y) = false := by
  have hl : 0 < l.length := by
    cases l with
    | nil => cases hy
    | cons a l => simp
  have := h (l.length - 1) (by rw [List.length_append]; simp; omega)
  rw [List.getElem_append_right (by omega), List.getElem_append_left (by omega)] at this
  rw [List.getLast?_eq_getElem?, List.getElem?_eq_getElem (by omega)] at hy
  cases hy
  simpa [show l.length - 1 + 1 - l.length = 0 by omega] using this
theorem readAll_some : ∀ (n : Nat) (parts : List (List UInt8)) (acc : List α), parts.length = n → (readAll rd key parts = some acc ↔ acc.length ≤ 8 ∧ parts.map rd = acc.map some ∧ Rises key acc) := by
  intro n
  induction n with
  | zero =>
    intro parts acc hn
    obtain rfl := List.length_eq_zero_iff.1 hn
    constructor
    · intro h
      cases h
      exact ⟨by simp, rfl, fun j hj => by simp at hj⟩
    · rintro ⟨-, h, -⟩
      have : acc = [] := by simpa using h.symm
      rw [this]
      rfl
  | succ n ih =>
    intro parts acc hn
    obtain ⟨pre, p, rfl⟩ : ∃ pre p, parts = pre ++ [p] := by
      rcases List.eq_nil_or_concat parts with h | ⟨pre, p, h⟩
      · rw [h] at hn; cases hn
      · exact ⟨pre, p, by rw [h, List.concat_eq_append]⟩
    have hpre : pre.length = n := by rw [List.length_append] at hn; simpa using hn
    rw [readAll_snoc]
    constructor
    · intro h
      obtain ⟨a, ha, hs⟩ := Option.bind_eq_some_iff.1 h
      obtain ⟨h1, h2, h3⟩ := (ih pre a hpre).1 ha
      unfold step at hs
      cases hp : rd p with
      | none => rw [hp] at hs; cases hs
      | some x =>
        rw [hp] at hs
        dsimp only at hs
        split at hs
        · cases hs
        · have hn8 : a.length ≠ 8 := by assumption
          have hfin : a ++ [x] = acc ∧ ∀ y, a.getLast? = some y → leB (key x) (key y) = false := by
            cases hl : a.getLast? with
            | none => rw [hl] at hs; cases hs; exact ⟨rfl, fun y hy => by cases hy⟩
            | some y =>
              rw [hl] at hs
              dsimp only at hs
              split at hs
              · cases hs
              · cases hs
                refine ⟨rfl, fun z hz => ?_⟩
                cases hz
                simpa using ‹¬ leB (key x) (key y) = true›
          obtain ⟨rfl, hlast⟩ := hfin
          refine ⟨by rw [List.length_append]; simp; omega, by rw [List.map_append, List.map_append, h2]; simp [hp], rises_snoc key h3 hlast⟩
    · rintro ⟨h1, h2, h3⟩
      obtain ⟨a, x, rfl⟩ : ∃ a x, acc = a ++ [x] := by
        rcases List.eq_nil_or_concat acc with h | ⟨a, x, h⟩
        · rw [h] at h2; simp at h2
        · exact ⟨a, x, by rw [h, List.concat_eq_append]⟩
      rw [List.map_append, List.map_append] at h2
      have hlen : (pre.map rd).length = (a.map some).length := by
        have := congrArg List.length h2
        simp only [List.length_append, List.length_map, List.length_cons, List.length_nil] at this ⊢
        omega
      obtain ⟨e1, e2⟩ := List.append_inj h2 hlen
      have hx : rd p = some x := by simpa using e2
      rw [List.length_append] at h1
      simp only [List.length_cons, List.length_nil] at h1
      rw [(ih pre a hpre).2 ⟨by omega, e1, rises_left key h3⟩]
      show step rd key a p = some (a ++ [x])
      unfold step
      rw [hx]
      dsimp only
      rw [if_neg (by omega)]
      cases hl : a.getLast? with
      | none => rfl
      | some y =>
        dsimp only
        rw [rises_last key h3 hl]
        rfl
theorem readAll_iff {parts : List (List UInt8)} {acc : List α} : readAll rd key parts = some acc ↔ acc.length ≤ 8 ∧ parts.map rd = acc.map some ∧ Rises key acc := readAll_some rd key _ parts acc rfl
theorem prints_iff {l : List α} : Prints pr key l ↔ l.length ≤ 8 ∧ (∀ x ∈ l, (pr x).isSome = true) ∧ Rises key l := by
  constructor
  · intro h
    refine ⟨h.len, fun x hx => ?_, fun j hj => h.all.rise j hj (by omega)⟩
    obtain ⟨j, hj, rfl⟩ := List.getElem_of_mem hx
    exact h.all.has j hj hj
  · rintro ⟨h1, h2, h3⟩
    exact ⟨h1, fun j hj _ => h2 _ (List.getElem_mem hj), fun j hj _ => h3 j hj⟩
end
theorem splitOn_join {m : UInt8} : ∀ {xs : List (List UInt8)}, xs ≠ [] → (∀ x ∈ xs, m ∉ x) → splitOn m (joinB m xs) = xs
  | [], h, _ => absurd rfl h
  | [x], _, h => by simp only [joinB, List.flatMap_nil, List.append_nil]; exact splitOn_none (h x (by simp))
  | x :: y :: r, _, h => by
    have ih := splitOn_join (m := m) (xs := y :: r) (by simp) (fun z hz => h z (List.mem_cons_of_mem _ hz))
    have e : joinB m (x :: y :: r) = x ++ m :: joinB m (y :: r) := by simp [joinB]
    rw [e, splitOn_at (h x (by simp)), ih]
theorem join_splitOn (m : UInt8) : ∀ (n : Nat) (l : List UInt8), l.length ≤ n → joinB m (splitOn m l) = l := by
  intro n
  induction n with
  | zero =>
    intro l h
    obtain rfl : l = [] := List.length_eq_zero_iff.1 (by omega)
    rfl
  | succ n ih =>
    intro l h
    by_cases hm : m ∈ l
    · obtain ⟨a, b, rfl, ha⟩ : ∃ a b, l = a ++ m :: b ∧ m ∉ a := List.eq_append_cons_of_mem hm
      rw [splitOn_at ha]
      have hb := ih b (by rw [List.length_append] at h; simp at h; omega)
      cases hs : splitOn m b with
      | nil => exact absurd hs (splitOn_ne m b)
      | cons y r =>
        rw [hs] at hb
        rw [← hb]
        simp [joinB]
    · rw [splitOn_none hm]
      simp [joinB]
section
variable {α : Type} (rd : List UInt8 → Option α) (pr : α → Option (List UInt8)) (key : α → List UInt8) (m : UInt8)
theorem read_of_print (R1 : ∀ x s, pr x = some s → rd s = some x) (R3 : ∀ x s, pr x = some s → m ∉ s) {l : List α} (h0 : l ≠ []) (h : Prints pr key l) : readAll rd key (splitOn m (joinB m (texts pr l))) = some l := by
  obtain ⟨h1, h2, h3⟩ := (prints_iff pr key).1 h
  have hget : ∀ x ∈ l, ∃ s, pr x = some s := fun x hx => Option.isSome_iff_exists.1 (h2 x hx)
  rw [splitOn_join (by unfold texts; simpa using h0) (by
    intro s hs
    obtain ⟨x, hx, rfl⟩ := List.mem_map.1 hs
    obtain ⟨s, hs⟩ := hget x hx
    rw [hs]
    exact R3 x s hs)]
  refine (readAll_iff rd key).2 ⟨h1, ?_, h3⟩
  unfold texts
  rw [List.map_map]
  refine List.map_congr_left fun x hx => ?_
  obtain ⟨s, hs⟩ := hget x hx
  show rd ((pr x).getD []) = some x
  rw [hs]
  exact R1 x s hs
theorem print_of_read (R2 : ∀ s x, rd s = some x → pr x = some s) {s : List UInt8} {l : List α} (h : readAll rd key (splitOn m s) = some l) : l ≠ [] ∧ Prints pr key l ∧ joinB m (texts pr l) = s := by
  obtain ⟨h1, h2, h3⟩ := (readAll_iff rd key).1 h
  have htx : texts pr l = splitOn m s := by
    have hl : (splitOn m s).length = l.length := by simpa using congrArg List.length h2
    unfold texts
    refine List.ext_getElem (by rw [List.length_map, hl]) fun j hj1 hj2 => ?_
    have h4 : ((splitOn m s).map rd)[j]'(by simpa using hj2) = (l.map some)[j]'(by simpa [hl] using hj2) := by simp only [h2]
    rw [List.getElem_map, List.getElem_map] at h4
    rw [List.getElem_map, R2 _ _ h4]
    rfl
  refine ⟨fun e => ?_, (prints_iff pr key).2 ⟨h1, fun x hx => ?_, h3⟩, ?_⟩
  · rw [e] at h2
    exact splitOn_ne m s (by simpa using h2)
  · have : some x ∈ (splitOn m s).map rd := by rw [h2]; exact List.mem_map.2 ⟨x, hx, rfl⟩
    obtain ⟨p, -, hp⟩ := List.mem_map.1 this
    rw [R2 _ _ hp]
    rfl
  · rw [htx, join_splitOn m s.length s (Nat.le_refl _)]
end
theorem word_no {l : List UInt8} (h : wordB l = true) {m : UInt8} (hm : isW m = false) : m ∉ l := by
  intro hin
  unfold wordB at h
  rw [Bool.and_eq_true] at h
  have := List.all_eq_true.1 h.2 m hin
  rw [hm] at this
  cases this
theorem rdWord_some {p x : List UInt8} : rdWord p = some x ↔ wordB p = true ∧ p = x := by
  unfold rdWord
  split
  · constructor
    · intro h; cases h; exact ⟨by assumption, rfl⟩
    · rintro ⟨-, rfl⟩; rfl
  · constructor
    · intro h; cases h
    · rintro ⟨h, -⟩; exact absurd h (by assumption)
theorem cutEq_at {a b : List UInt8} (h : (61 : UInt8) ∉ a) : cutEq (a ++ [61] ++ b) = some (a, b) := by
  have h1 : eqAt (a ++ [61] ++ b) = some a.length := by
    unfold eqAt
    rw [List.findIdx?_eq_some_iff_getElem]
    refine ⟨by simp, by simp, fun j hj => ?_⟩
    have hja : j < a.length := hj
    have e1 : (a ++ [61] ++ b)[j]'(by simp; omega) = a[j] := by
      rw [List.getElem_append_left (by simp; omega), List.getElem_append_left hja]
    rw [e1]
    have : a[j] ≠ 61 := fun e => h (e ▸ List.getElem_mem hja)
    simpa using this
  unfold cutEq
  rw [h1]
  simp
theorem cutEq_some {l a b : List UInt8} (h : cutEq l = some (a, b)) : l = a ++ [61] ++ b := by
  unfold cutEq at h
  obtain ⟨k, hk, he⟩ := Option.map_eq_some_iff.1 h
  cases he
  unfold eqAt at hk
  obtain ⟨hlt, h61, -⟩ := List.findIdx?_eq_some_iff_getElem.1 hk
  have h61' : l[k] = 61 := by simpa using h61
  calc l = l.take k ++ l.drop k := (List.take_append_drop k l).symm
    _ = l.take k ++ (l[k] :: l.drop (k + 1)) := by rw [List.drop_eq_getElem_cons hlt]
    _ = l.take k ++ [61] ++ l.drop (k + 1) := by rw [h61']; simp
theorem label_R1 (x : LB) (s : List UInt8) (h : prLabel x = some s) : rdLabel s = some x := by
  unfold prLabel at h
  split at h
  · split at h
    · cases h
      unfold rdLabel
      have h1 : wordB x.1 = true := by assumption
      have h2 : wordB x.2 = true := by assumption
      rw [cutEq_at (word_no h1 (by decide))]
      show (if wordB x.1 = true then if wordB x.2 = true then some (x.1, x.2) else none else none) = some x
      rw [if_pos h1, if_pos h2]
    · cases h
  · cases h
theorem label_R2 (s : List UInt8) (x : LB) (h : rdLabel s = some x) : prLabel x = some s := by
  unfold rdLabel at h
  obtain ⟨y, hc, hy⟩ := Option.bind_eq_some_iff.1 h
  split at hy
  · split at hy
    · cases hy
      unfold prLabel
      rw [if_pos ‹wordB x.1 = true›, if_pos ‹wordB x.2 = true›, ← cutEq_some hc]
    · cases hy
  · cases hy
theorem label_R3 (x : LB) (s : List UInt8) (h : prLabel x = some s) : (44 : UInt8) ∉ s := by
  unfold prLabel at h
  split at h
  · split at h
    · cases h
      have h1 := word_no ‹wordB x.1 = true› (m := 44) (by decide)
      have h2 := word_no ‹wordB x.2 = true› (m := 44) (by decide)
      simp [h1, h2]
    · cases h
  · cases h
theorem word_R1 (x s : List UInt8) (h : rdWord x = some s) : rdWord s = some x := by
  obtain ⟨h1, rfl⟩ := rdWord_some.1 h
  exact rdWord_some.2 ⟨h1, rfl⟩
theorem word_R3 {m : UInt8} (hm : isW m = false) (x s : List UInt8) (h : rdWord x = some s) : m ∉ s := by
  obtain ⟨h1, rfl⟩ := rdWord_some.1 h
  exact word_no h1 hm
theorem joined_no {m c : UInt8} (hcm : c ≠ m) : ∀ {xs : List (List UInt8)}, (∀ x ∈ xs, c ∉ x) → c ∉ joinB m xs
  | [], _ => by simp [joinB]
  | x :: r, h => by
    unfold joinB
    rw [List.mem_append, List.mem_flatMap]
    rintro (h1 | ⟨y, hy, h1⟩)
    · exact h x (by simp) h1
    · rcases List.mem_cons.1 h1 with h2 | h2
      · exact hcm h2
      · exact h y (List.mem_cons_of_mem _ hy) h2
theorem term_R1 (t : List UInt8 × List (List UInt8)) (s : List UInt8) (h : prTerm t = some s) : rdTerm s = some t := by
  unfold prTerm at h
  split at h
  · split at h
    · cases h
    · obtain ⟨u, hu, rfl⟩ := Option.map_eq_some_iff.1 h
      have h1 : wordB t.1 = true := by assumption
      have h2 : t.2 ≠ [] := by assumption
      obtain ⟨hp, rfl⟩ := print_some _ _ hu
      unfold rdTerm
      rw [cutEq_at (word_no h1 (by decide))]
      show (if wordB t.1 = true then (readAll rdWord keyWord (splitOn 124 (joinB 124 (texts rdWord t.2)))).map fun vs => (t.1, vs) else none) = some t
      rw [if_pos h1, read_of_print rdWord rdWord keyWord 124 word_R1 (fun x s => word_R3 (by decide) x s) h2 hp]
      rfl
  · cases h
theorem term_R2 (s : List UInt8) (t : List UInt8 × List (List UInt8)) (h : rdTerm s = some t) : prTerm t = some s := by
  unfold rdTerm at h
  obtain ⟨y, hc, hy⟩ := Option.bind_eq_some_iff.1 h
  split at hy
  · obtain ⟨vs, hv, rfl⟩ := Option.map_eq_some_iff.1 hy
    obtain ⟨h0, hp, hj⟩ := print_of_read rdWord rdWord keyWord 124 (fun a b => word_R1 a b) hv
    unfold prTerm
    have hw : wordB y.1 = true := by assumption
    show (if wordB y.1 = true then if vs = [] then none else (printAll rdWord keyWord 124 vs).map fun s => y.1 ++ [61] ++ s else none) = some s
    rw [if_pos hw, if_neg h0, print_done rdWord keyWord hp.len hp.all, hj]
    show some (y.1 ++ [61] ++ y.2) = some s
    rw [← cutEq_some hc]
  · cases hy
theorem term_R3 (t : List UInt8 × List (List UInt8)) (s : List UInt8) (h : prTerm t = some s) : (44 : UInt8) ∉ s := by
  unfold prTerm at h
  split at h
  · split at h
    · cases h
    · obtain ⟨u, hu, rfl⟩ := Option.map_eq_some_iff.1 h
      obtain ⟨hp, rfl⟩ := print_some _ _ hu
      have h1 := word_no ‹wordB t.1 = true› (m := 44) (by decide)
      have h2 : (44 : UInt8) ∉ joinB 124 (texts rdWord t.2) := joined_no (by decide) fun x hx => by
        obtain ⟨y, hy, rfl⟩ := List.mem_map.1 hx
        obtain ⟨-, h3, -⟩ := (prints_iff _ _).1 hp
        obtain ⟨s, hs⟩ := Option.isSome_iff_exists.1 (h3 y hy)
        rw [hs]
        exact word_R3 (by decide) y s hs
      simp [h1, h2]
  · cases h
/-- Terms with the slices they lie in: as they stand alone. -/
theorem rises_fst {acc : List TB} : Rises kyT acc ↔ Rises keyT (acc.map Prod.fst) := by
  constructor
  · intro h j hj
    have := h j (by simpa using hj)
    rw [List.getElem_map, List.getElem_map]
    exact this
  · intro h j hj
    have := h j (by simpa using hj)
    rw [List.getElem_map, List.getElem_map] at this
    exact this
theorem prints_fst {acc : List TB} : Prints prT kyT acc ↔ Prints prTerm keyT (acc.map Prod.fst) := by
  rw [prints_iff, prints_iff, rises_fst, List.length_map]
  constructor
  · rintro ⟨h1, h2, h3⟩
    refine ⟨h1, fun x hx => ?_, h3⟩
    obtain ⟨y, hy, rfl⟩ := List.mem_map.1 hx
    exact h2 y hy
  · rintro ⟨h1, h2, h3⟩
    exact ⟨h1, fun x hx => h2 x.1 (List.mem_map.2 ⟨x, hx, rfl⟩), h3⟩
theorem texts_fst (acc : List TB) : texts prT acc = texts prTerm (acc.map Prod.fst) := by
  unfold texts
  rw [List.map_map]
  rfl
theorem printAll_fst (m : UInt8) (acc : List TB) : printAll prT kyT m acc = printAll prTerm keyT m (acc.map Prod.fst) := by
  unfold printAll
  by_cases h : Prints prT kyT acc
  · rw [if_pos h, if_pos (prints_fst.1 h), texts_fst]
  · rw [if_neg h, if_neg fun e => h (prints_fst.2 e)]
theorem prints_nil {α : Type} (pr : α → Option (List UInt8)) (key : α → List UInt8) : Prints pr key [] := (prints_iff pr key).2 ⟨by simp, by simp, fun j hj => by simp at hj⟩
theorem terms_of_print {ts : List (List UInt8 × List (List UInt8))} {s : List UInt8} (h : printAll prTerm keyT 44 ts = some s) : termsOf s = some ts := by
  obtain ⟨hp, rfl⟩ := print_some _ _ h
  unfold termsOf
  cases ts with
  | nil => rfl
  | cons t r =>
    have hne : joinB 44 (texts prTerm (t :: r)) ≠ [] := by
      obtain ⟨-, h2, -⟩ := (prints_iff _ _).1 hp
      obtain ⟨s, hs⟩ := Option.isSome_iff_exists.1 (h2 t (by simp))
      have hs0 : s ≠ [] := by
        rintro rfl
        have := term_R1 t [] hs
        cases this
      intro e
      have : s ++ (texts prTerm r).flatMap (fun y => 44 :: y) = [] := by
        rw [← e]; unfold texts joinB; simp [hs]
      exact hs0 (List.append_eq_nil_iff.1 this).1
    rw [if_neg hne]
    exact read_of_print rdTerm prTerm keyT 44 term_R1 term_R3 (by simp) hp
theorem print_of_terms {ts : List (List UInt8 × List (List UInt8))} {s : List UInt8} (h : termsOf s = some ts) : printAll prTerm keyT 44 ts = some s := by
  unfold termsOf at h
  split at h
  · cases h
    subst_vars
    rw [print_done prTerm keyT (prints_nil prTerm keyT).len (prints_nil prTerm keyT).all]
    rfl
  · obtain ⟨-, hp, hj⟩ := print_of_read rdTerm prTerm keyT 44 term_R2 h
    rw [print_done _ _ hp.len hp.all, hj]
theorem labels_of_print {ls : List LB} {s : List UInt8} (h : printAll prLabel keyL 44 ls = some s) : labelsOf s = some ls := by
  obtain ⟨hp, rfl⟩ := print_some _ _ h
  unfold labelsOf
  cases ls with
  | nil => rfl
  | cons t r =>
    have hne : joinB 44 (texts prLabel (t :: r)) ≠ [] := by
      obtain ⟨-, h2, -⟩ := (prints_iff _ _).1 hp
      obtain ⟨s, hs⟩ := Option.isSome_iff_exists.1 (h2 t (by simp))
      have hs0 : s ≠ [] := by
        rintro rfl
        have := label_R1 t [] hs
        cases this
      intro e
      have : s ++ (texts prLabel r).flatMap (fun y => 44 :: y) = [] := by
        rw [← e]; unfold texts joinB; simp [hs]
      exact hs0 (List.append_eq_nil_iff.1 this).1
    rw [if_neg hne]
    exact read_of_print rdLabel prLabel keyL 44 label_R1 label_R3 (by simp) hp
end Go.Proofs.Ytneogmcmkbhnaaa.T
