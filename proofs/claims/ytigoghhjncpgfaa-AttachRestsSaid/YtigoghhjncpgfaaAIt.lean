/- All that an iterator gives, as texts in a slice. -/
import Derived.Test.YtigoghhjncpgfaaKUniqT
import Derived.Lib.SlicesCompact
import Derived.Sort.Statements
import Derived.Test.YtigoghhjncpgfaaKThereR
import Derived.Test.YtigoghhjncpgfaaKFind
import Derived.Test.YtigoghhjncpgfaaKnownIn
import Derived.RangeFuncNested
import Derived.OwnWalkIn
import Derived.Test.YtigoghhjncpgfaaKOut
namespace Go.Proofs.Ytigoghhjncpgfaa.O.B
open Go Go.Lib T

theorem asc_ext {α : Type} (f : α → List UInt8) : ∀ {a b : List α}, a.Pairwise (fun x y => f x < f y) → b.Pairwise (fun x y => f x < f y) → (∀ x, x ∈ a ↔ x ∈ b) → a = b
  | [], [], _, _, _ => rfl
  | [], y :: b, _, _, h => absurd ((h y).2 List.mem_cons_self) (by simp)
  | x :: a, [], _, _, h => absurd ((h x).1 List.mem_cons_self) (by simp)
  | x :: a, y :: b, ha, hb, h => by
    obtain ⟨h1, h2⟩ := List.pairwise_cons.1 ha
    obtain ⟨k1, k2⟩ := List.pairwise_cons.1 hb
    have e : x = y := by
      rcases List.mem_cons.1 ((h x).1 List.mem_cons_self) with e | e
      · exact e
      · rcases List.mem_cons.1 ((h y).2 List.mem_cons_self) with e2 | e2
        · exact e2.symm
        · exact absurd (k1 x e) (List.lt_asymm (h1 y e2))
    subst e
    congr 1
    refine asc_ext f h2 k2 fun z => ⟨fun hz => ?_, fun hz => ?_⟩
    · rcases List.mem_cons.1 ((h z).1 (List.mem_cons_of_mem _ hz)) with e | e
      · subst e
        exact absurd (h1 z hz) (List.lt_irrefl _)
      · exact e
    · rcases List.mem_cons.1 ((h z).2 (List.mem_cons_of_mem _ hz)) with e | e
      · subst e
        exact absurd (k1 z hz) (List.lt_irrefl _)
      · exact e

theorem le_cases {x y : List UInt8} (h : x ≤ y) : x < y ∨ x = y := by
  by_cases h1 : x < y
  · exact .inl h1
  · exact .inr (List.le_antisymm h (List.not_lt.1 h1))
/-- One text more among some that rise. -/
def insS (l : List (List UInt8)) (s : List UInt8) : List (List UInt8) := l.takeWhile (fun x => decide (x < s)) ++ s :: (l.dropWhile fun x => decide (x < s)).filter fun x => decide (x ≠ s)
theorem ins_mem (l : List (List UInt8)) (s y : List UInt8) : y ∈ insS l s ↔ y = s ∨ y ∈ l := by
  unfold insS
  rw [List.mem_append, List.mem_cons, List.mem_filter]
  have h := List.takeWhile_append_dropWhile (p := fun x => decide (x < s)) (l := l)
  constructor
  · rintro (h1 | h1 | h1)
    · exact .inr (by rw [← h]; exact List.mem_append_left _ h1)
    · exact .inl h1
    · exact .inr (by rw [← h]; exact List.mem_append_right _ h1.1)
  · rintro (h1 | h1)
    · exact .inr (.inl h1)
    · rw [← h] at h1
      rcases List.mem_append.1 h1 with h2 | h2
      · exact .inl h2
      · by_cases e : y = s
        · exact .inr (.inl e)
        · exact .inr (.inr ⟨h2, by simpa using e⟩)
theorem take_lt {s : List UInt8} {y : List UInt8} {l : List (List UInt8)} (h : y ∈ l.takeWhile fun x => decide (x < s)) : y < s := by
  induction l with
  | nil => cases h
  | cons x r ih =>
    rw [List.takeWhile_cons] at h
    split at h
    · rename_i hx
      rcases List.mem_cons.1 h with e | e
      · subst e
        exact of_decide_eq_true hx
      · exact ih e
    · cases h
theorem drop_ge {s : List UInt8} {y : List UInt8} {l : List (List UInt8)} (hl : l.Pairwise (· < ·)) (h : y ∈ l.dropWhile fun x => decide (x < s)) : ¬ y < s := by
  induction l with
  | nil => cases h
  | cons x r ih =>
    obtain ⟨h1, h2⟩ := List.pairwise_cons.1 hl
    rw [List.dropWhile_cons] at h
    split at h
    · exact ih h2 h
    · rename_i hx
      have hx' : ¬ x < s := by simpa using hx
      rcases List.mem_cons.1 h with e | e
      · subst e
        exact hx'
      · exact fun hy => hx' (List.lt_trans (h1 y e) hy)
theorem ins_asc {l : List (List UInt8)} (hl : l.Pairwise (· < ·)) (s : List UInt8) : (insS l s).Pairwise (· < ·) := by
  unfold insS
  refine List.pairwise_append.2 ⟨hl.sublist (List.takeWhile_sublist _), List.pairwise_cons.2 ⟨fun y hy => ?_, (hl.sublist (List.dropWhile_sublist _)).sublist List.filter_sublist⟩, fun y hy z hz => ?_⟩
  · obtain ⟨h1, h2⟩ := List.mem_filter.1 hy
    rcases le_cases (List.not_lt.1 (drop_ge hl h1)) with e | e
    · exact e
    · exact absurd e.symm (by simpa using h2)
  · have hys := take_lt hy
    rcases List.mem_cons.1 hz with e | e
    · subst e
      exact hys
    · obtain ⟨h1, h2⟩ := List.mem_filter.1 e
      rcases le_cases (List.not_lt.1 (drop_ge hl h1)) with e | e
      · exact List.lt_trans hys e
      · exact absurd e.symm (by simpa using h2)
/-- Texts that rise, each once. -/
def risS (ss : List (List UInt8)) : List (List UInt8) := ss.foldl insS []
theorem ris_spec (ss : List (List UInt8)) : (risS ss).Pairwise (· < ·) ∧ ∀ y, y ∈ risS ss ↔ y ∈ ss := by
  have h : ∀ (ss acc : List (List UInt8)), acc.Pairwise (· < ·) → (ss.foldl insS acc).Pairwise (· < ·) ∧ ∀ y, y ∈ ss.foldl insS acc ↔ y ∈ acc ∨ y ∈ ss := by
    intro ss
    induction ss with
    | nil => intro acc h; exact ⟨h, fun y => by simp⟩
    | cons x r ih =>
      intro acc h
      obtain ⟨h1, h2⟩ := ih (insS acc x) (ins_asc h x)
      refine ⟨h1, fun y => ?_⟩
      rw [List.foldl_cons, h2, ins_mem, List.mem_cons]
      constructor
      · rintro ((e | e) | e)
        · exact .inr (.inl e)
        · exact .inl e
        · exact .inr (.inr e)
      · rintro (e | e | e)
        · exact .inl (.inr e)
        · exact .inl (.inl e)
        · exact .inr e
  obtain ⟨h1, h2⟩ := h ss [] List.Pairwise.nil
  exact ⟨h1, fun y => (h2 y).trans (by simp)⟩
theorem compact_ris (ss : List (List UInt8)) : Lib.compact (ss.mergeSort fun x y => decide (x ≤ y)) = risS ss := by
  obtain ⟨zs, hz⟩ : ∃ zs, ss.mergeSort (fun x y => decide (x ≤ y)) = zs := ⟨_, rfl⟩
  have hp : zs.Perm ss := by rw [← hz]; exact List.mergeSort_perm _ _
  have hs : zs.Pairwise (· ≤ ·) := by
    have := List.pairwise_mergeSort (le := fun x y : List UInt8 => decide (x ≤ y)) (fun a b c h1 h2 => by simp only [decide_eq_true_eq] at *; exact List.le_trans h1 h2) (fun a b => by
      simp only [Bool.or_eq_true, decide_eq_true_eq]
      exact List.le_total a b) ss
    rw [hz] at this
    exact this.imp fun h => of_decide_eq_true h
  rw [hz]
  obtain ⟨r1, r2⟩ := ris_spec ss
  have hget : ∀ j (h : j < zs.length), zs.toArray[j]! = zs[j] := fun j h => by
    rw [getElem!_pos zs.toArray j (by simpa using h)]
    simp
  refine asc_ext id ?_ r1 fun y => ?_
  · unfold Lib.compact Lib.compactUpTo
    rw [List.pairwise_map]
    have hr : ((List.range zs.length).filter (Lib.keeps zs.toArray)).Pairwise (· < ·) := (List.pairwise_lt_range).sublist List.filter_sublist
    refine hr.imp_of_mem fun {i j} hi hj hij => ?_
    obtain ⟨hj1, hj2⟩ := List.mem_filter.1 hj
    have hjl : j < zs.length := List.mem_range.1 hj1
    have hne : zs[j] ≠ zs[j - 1]'(by omega) := by
      intro e
      unfold Lib.keeps at hj2
      rw [hget j hjl, hget (j - 1) (by omega)] at hj2
      simp [e] at hj2
      omega
    show zs.toArray[i]! < zs.toArray[j]!
    rw [hget i (by omega), hget j hjl]
    have h1 : zs[j - 1]'(by omega) ≤ zs[j] := List.pairwise_iff_getElem.1 hs (j - 1) j (by omega) hjl (by omega)
    have h2 : zs[j - 1]'(by omega) < zs[j] := by
      rcases le_cases h1 with e | e
      · exact e
      · exact absurd e.symm hne
    by_cases e : i = j - 1
    · subst e
      exact h2
    · exact List.lt_of_le_of_lt (List.pairwise_iff_getElem.1 hs i (j - 1) (by omega) (by omega) (by omega)) h2
  · rw [r2, ← hp.mem_iff]
    unfold Lib.compact Lib.compactUpTo
    rw [List.mem_map]
    constructor
    · rintro ⟨j, hj, rfl⟩
      have hjl : j < zs.length := List.mem_range.1 (List.mem_filter.1 hj).1
      rw [hget j hjl]
      exact List.getElem_mem hjl
    · intro hy
      have hex : ∃ j, ∃ h : j < zs.length, zs[j] = y := List.getElem_of_mem hy
      have hmin : ∀ n j, j ≤ n → (∃ h : j < zs.length, zs[j] = y) → ∃ i, (∃ h : i < zs.length, zs[i] = y) ∧ ∀ k, k < i → ∀ h : k < zs.length, zs[k] ≠ y := by
        intro n
        induction n with
        | zero =>
          intro j hj h
          obtain rfl : j = 0 := by omega
          exact ⟨0, h, fun k hk => by omega⟩
        | succ n ih =>
          intro j hj h
          by_cases hk : ∃ k, k < j ∧ ∃ h : k < zs.length, zs[k] = y
          · obtain ⟨k, hkj, hk⟩ := hk
            exact ih k (by omega) hk
          · exact ⟨j, h, fun k hkj hkl e => hk ⟨k, hkj, hkl, e⟩⟩
      obtain ⟨j, hj⟩ := hex
      obtain ⟨i, ⟨hi, rfl⟩, hn⟩ := hmin j j (Nat.le_refl _) hj
      refine ⟨i, List.mem_filter.2 ⟨List.mem_range.2 hi, ?_⟩, hget i hi⟩
      unfold Lib.keeps
      by_cases h0 : i = 0
      · simp [h0]
      · have := hn (i - 1) (by omega) (by omega)
        rw [hget i hi, hget (i - 1) (by omega)]
        simp only [decide_eq_true_eq]
        exact .inr (fun e => this e.symm)

/-- An object's name, as a list. -/
def kn (o : Obj) : List UInt8 := o.name.data.toList
theorem kn_name {a b : Obj} (h : kn a = kn b) : a.name = b.name := ba_ext h
/-- A volume's attachments, as they stand. -/
def attL (l : List Obj) (vol : ByteArray) : List Obj := (thereL 5 l).filter fun o => decide (o.volume = vol)
/-- One object more among some that stand by their names. -/
def insO (l : List Obj) (x : Obj) : List Obj := l.takeWhile (fun y => !decide (kn x < kn y)) ++ x :: l.dropWhile fun y => !decide (kn x < kn y)
theorem insO_perm (l : List Obj) (x : Obj) : (insO l x).Perm (x :: l) := by
  unfold insO
  have h := List.takeWhile_append_dropWhile (p := fun y => !decide (kn x < kn y)) (l := l)
  exact List.perm_middle.trans (by rw [h])
theorem insO_asc {l : List Obj} (hl : l.Pairwise fun a b => kn a < kn b) (x : Obj) (hx : ∀ y ∈ l, kn y ≠ kn x) : (insO l x).Pairwise fun a b => kn a < kn b := by
  unfold insO
  induction l with
  | nil => exact List.pairwise_singleton _ _
  | cons y r ih =>
    obtain ⟨h1, h2⟩ := List.pairwise_cons.1 hl
    have h3 := ih h2 (fun z hz => hx z (List.mem_cons_of_mem _ hz))
    by_cases hxy : kn x < kn y
    · rw [List.takeWhile_cons, List.dropWhile_cons]
      simp only [hxy, decide_true, Bool.not_true, Bool.false_eq_true, if_false, List.nil_append]
      refine List.pairwise_cons.2 ⟨fun z hz => ?_, hl⟩
      rcases List.mem_cons.1 hz with e | e
      · subst e
        exact hxy
      · exact List.lt_trans hxy (h1 z e)
    · rw [List.takeWhile_cons, List.dropWhile_cons]
      simp only [hxy, decide_false, Bool.not_false, if_true, List.cons_append]
      refine List.pairwise_cons.2 ⟨fun z hz => ?_, h3⟩
      have hyx : kn y < kn x := by
        rcases le_cases (List.not_lt.1 hxy) with e | e
        · exact e
        · exact absurd e (hx y List.mem_cons_self)
      rcases List.mem_append.1 hz with e | e
      · exact h1 z ((List.takeWhile_sublist _).mem e)
      · rcases List.mem_cons.1 e with e | e
        · subst e
          exact hyx
        · exact h1 z ((List.dropWhile_sublist _).mem e)
/-- A volume's attachments, by their names. -/
def attsL (l : List Obj) (vol : ByteArray) : List Obj := (attL l vol).foldl insO []
theorem att_apart (l : List Obj) (vol : ByteArray) : (attL l vol).Pairwise fun a b => kn a ≠ kn b := by
  unfold attL
  rw [there_uniq]
  have h : ((uniqL l).filter fun o => decide (o.kind = 5)).Pairwise fun a b => kn a ≠ kn b := by
    refine ((apart_uniq l).sublist List.filter_sublist).imp_of_mem fun {a b} ha hb hab e => hab ⟨?_, kn_name e⟩
    have h1 := of_decide_eq_true (List.mem_filter.1 ha).2
    have h2 := of_decide_eq_true (List.mem_filter.1 hb).2
    rw [h1, h2]
  exact h.sublist List.filter_sublist
theorem atts_spec (l : List Obj) (vol : ByteArray) : (attsL l vol).Perm (attL l vol) ∧ (attsL l vol).Pairwise fun a b => kn a < kn b := by
  have h : ∀ (m acc : List Obj), acc.Pairwise (fun a b => kn a < kn b) → m.Pairwise (fun a b => kn a ≠ kn b) → (∀ a ∈ acc, ∀ b ∈ m, kn a ≠ kn b) → (m.foldl insO acc).Perm (acc ++ m) ∧ (m.foldl insO acc).Pairwise fun a b => kn a < kn b := by
    intro m
    induction m with
    | nil => intro acc h1 _ _; exact ⟨by simp, h1⟩
    | cons x r ih =>
      intro acc h1 h2 h3
      obtain ⟨k1, k2⟩ := List.pairwise_cons.1 h2
      obtain ⟨p1, p2⟩ := ih (insO acc x) (insO_asc h1 x (fun y hy => h3 y hy x List.mem_cons_self)) k2 (fun a ha b hb => by
        rcases List.mem_cons.1 ((insO_perm acc x).mem_iff.1 ha) with e | e
        · subst e
          exact k1 b hb
        · exact h3 a e b (List.mem_cons_of_mem _ hb))
      exact ⟨p1.trans (((insO_perm acc x).append_right r).trans List.perm_middle.symm), p2⟩
  obtain ⟨p1, p2⟩ := h (attL l vol) [] List.Pairwise.nil (att_apart l vol) (fun a ha => by cases ha)
  exact ⟨p1, p2⟩
theorem atts_of {l d : List Obj} {vol : ByteArray} (hp : d.Perm (attL l vol)) (hs : d.Pairwise fun a b => ¬ kn b < kn a) : d = attsL l vol := by
  obtain ⟨h1, h2⟩ := atts_spec l vol
  have hn : d.Pairwise fun a b => kn a ≠ kn b := (hp.pairwise_iff (fun {a b} h => fun e => h e.symm)).2 (att_apart l vol)
  refine asc_ext kn ?_ h2 fun x => (hp.mem_iff.trans h1.mem_iff.symm)
  refine (hs.and hn).imp fun {a b} h => ?_
  rcases le_cases (List.not_lt.1 h.1) with e | e
  · exact e
  · exact absurd e h.2
end Go.Proofs.Ytigoghhjncpgfaa.O.B
namespace Go.Proofs.Ytigoghhjncpgfaa.O.B
open Go Go.RowKit Go.Shelf Go.Lib KM
attribute [local go_sem] Oper.semAt_some

/-- What an iterator tells, whenever it is called later on. -/
def SeqAt {α : Type} (w : World) (gf : FuncId) (lb : Array Value) (encs : α → Array Value) (E : TypeId) (S Sp : List α → Prop) (N : Nat) : Prop :=
  ∀ (n : Nat) (W : World) (lo hi N0 : Nat), Below w.heap.size w W → w.heap.size ≤ lo → lo ≤ hi → hi ≤ W.heap.size → w.heap.size ≤ N0 → 3 ≤ n → RangeRow.Seq Fence.wide n Try.prog gf lb encs lo hi N0 E S Sp N W
theorem stays_kept {lo hi z N0 L : Nat} {E : TypeId} {A B : World} (h : RangeRow.Kept lo hi N0 E L A B) (h1 : lo ≤ L) (h2 : L < z) (h3 : hi ≤ z) : RangeRow.Stays lo z N0 E A B :=
  ⟨h.1, fun b hb hx hr => h.2 b hb (by omega) (by omega) hr⟩
theorem own_up {β : Type} {B B' : Nat} {J : β → World → Prop} (hJ : OwnFrom B J) (h : B ≤ B') : OwnFrom B' J := fun s A W row hs hg hr => hJ s A W row hs hg (fun r e => ⟨Nat.le_trans h (hr r e).1, (hr r e).2⟩)
theorem sub_filter {l : List Obj} {p : Obj → Bool} {pre0 pre : List (El l)} (h : pre0.map Subtype.val = (pre.map Subtype.val).filter p) : pre0.length ≤ pre.length := by
  have h1 := congrArg List.length h
  rw [List.length_map] at h1
  have h2 := List.length_filter_le p (pre.map Subtype.val)
  rw [List.length_map] at h2
  omega

theorem attOf_any (o : Option Addr) (n c : Nat) (vol : ByteArray) (w : World) : Calls Try.prog 34 #[.slice o n c, .string vol] w fun e w' => e = .returned (.func (.func 61) #[] #[.pointer (some ⟨w.heap.size, 0, none⟩), .pointer (some ⟨w.heap.size + 1, 0, none⟩)]) ∧
    (w.alloc (.cells #[.slice o n c] 22)).alloc (.cells #[.string vol] 9) = w' := by
  go_enter Try.func34, Try.ntmps34
  go_wp2
  go_ret
  exact ⟨rfl, rfl⟩

set_option maxRecDepth 100000 in
set_option maxHeartbeats 4000000 in
theorem attOf_seq (l : List Obj) (v : Value) (vol : ByteArray) (Ba Bv : Nat) (w : World) (hl0 : ObjsIn w v l) (hba : Boxed w Ba 22 v) (hbv : Boxed w Bv 9 (.string vol)) :
    SeqAt w 61 #[.pointer (some ⟨Ba, 0, none⟩), .pointer (some ⟨Bv, 0, none⟩)] (encE (l := l)) 37 (fun xs => xs.map Subtype.val = attL l vol) (fun pre => pre.map Subtype.val <+: attL l vol) l.length := fun n W0 lo hi N0 hW0 hlo hlh hhi hN0 hn L J Jx W hW hL hLW hJ hJx hY h0 => by
  obtain ⟨o, c, rfl, -, -⟩ := id hl0
  have hbw : Below w.heap.size w W := hW0.trans (hW.mono hW0.size)
  have HLA : Hid (∀ g off, (∃ c', Value.slice o l.length c = .slice (some ⟨g, off, none⟩) l.length c') → 0 < l.length → g < w.heap.size) := fun g off ⟨c', hv⟩ hl => by
    obtain ⟨o1, c1, e1, -, hi⟩ := hl0
    obtain ⟨g1, off1, e2, hg, -⟩ := hi 0 hl
    cases e1
    subst e2
    cases hv
    exact hg
  have HL := Lib.hid (hl0.after hbw)
  have HBA : Hid (Boxed W Ba 22 (.slice o l.length c)) := (hbw.block _ hba.lt).trans hba
  have HBV : Hid (Boxed W Bv 9 (.string vol)) := (hbw.block _ hbv.lt).trans hbv
  have hbvl := hbv.lt
  have HJ := Lib.hid hJ
  have HJX := Lib.hid hJx
  have HY := Lib.hid hY
  have H0 := Lib.hid h0
  have hWs := hbw.size
  have hWW := hW.size
  have c1 := (HBA.out.alloc (.cells #[.func (.yield L) #[] #[]] 52)).cell
  clear hl0 hba hbv hW0 hbw hW hJ hJx hY h0
  have ef2 := enters_of (P := Try.prog) Try.func72 (by kernel_rfl) rfl
  refine callsIn_of_wp_marks Try.func61 rfl trivial ?_ rfl
  simp only [Try.ntmps61, List.size_toArray, List.length_cons, List.length_nil, Nat.reduceAdd, Nat.reduceSub, Array.replicate_succ, Array.replicate_zero, List.push_toArray, List.append_toArray, List.nil_append, List.cons_append]
  gi_wp2_with fail
  refine ⟨trivial, fun h => (by cases h), (callsIn_wide.2 (there_any _ _ _ _ _)).mono ?_⟩
  rintro e w' ⟨rfl, rfl⟩
  gi_wp2_with fail
  obtain ⟨z, hz⟩ : ∃ z, W.heap.size = z := ⟨_, rfl⟩
  refine wpIn_gen (fun V => V.heap.size = z + 3 ∧ Boxed V z 52 (.func (.yield L) #[] #[]) ∧ Boxed V Bv 9 (.string vol) ∧ Reads V (.slice o l.length c) l 5 (z + 1) (z + 1 + 1) ∧ J [] V) ?_ ?_
  · have hlow : Below W.heap.size W (((W.alloc (.cells #[.func (.yield L) #[] #[]] 52)).alloc (.cells #[.slice o l.length c] 22)).alloc (.cells #[.int .u8 5] 33)) := by
      refine Below.alloc (Below.alloc (Below.alloc (Below.refl _ _) ?_ _) ?_ _) ?_ _ <;> simp <;> omega
    subst hz
    refine ⟨by simp, ((Boxed.new W _ _).alloc _).alloc _, ((HBV.out.alloc _).alloc _).alloc _, ⟨HL.out.after hlow, (boxed_at _ _ _ _ (by simp)).alloc _, boxed_at _ _ _ _ (by simp)⟩, own_below HJ.out H0.out hlow⟩
  clear HL HBA HBV c1 H0
  rw [hz]
  rw [hz] at hLW hWs hWW HJ HJX
  rintro W1 ⟨hs, h1, h2, h3, h4⟩
  have HS := Lib.hid hs
  have H1 := Lib.hid h1
  have H2 := Lib.hid h2
  have H3 := Lib.hid h3
  have H4 := Lib.hid h4
  clear hs h1 h2 h3 h4 hz
  have hclear : Clear (.slice o l.length c) l (z + 1) (z + 1 + 1) lo z := by
    refine ⟨by omega, by omega, fun g off hv hl => ?_⟩
    have := HLA.out g off hv hl
    omega
  refine RangeRow.range (F := Fence.wide) (n := n) rfl (by omega) (gf := 72) (lb := #[.pointer (some ⟨z + 1, 0, none⟩), .pointer (some ⟨z + 1 + 1, 0, none⟩)]) rfl trivial ef2 (encs := encE (l := l)) (lo := lo) (hi := z) (N0 := N0) (E := 37) (by rw [HS.out]; omega)
    (there_row l (.slice o l.length c) 5 _ _ lo z N0 (n - 1) 37 W1 H3.out hclear (by rw [HS.out]; omega) (fun g off hv hl => by have := HLA.out g off hv hl; omega) ⟨by decide, by decide⟩) (fun _ => rfl)
    (fun pre V => Boxed V z 52 (.func (.yield L) #[] #[]) ∧ Boxed V Bv 9 (.string vol) ∧ ∃ pre0 : List (El l), pre0.map Subtype.val = (pre.map Subtype.val).filter (fun o => decide (o.volume = vol)) ∧ J pre0 V)
    (fun cd pre V => cd = .ret ∧ ∃ pre0 : List (El l), pre0.map Subtype.val = (pre.map Subtype.val).filter (fun o => decide (o.volume = vol)) ∧ Jx pre0 V)
    ?_ ?_ ⟨H1.out, H2.out, [], rfl, H4.out⟩
    (fun pre x a1 V => Boxed V z 52 (.func (.yield L) #[] #[]) ∧ Boxed V Bv 9 (.string vol) ∧ (∃ pre0 : List (El l), pre0.map Subtype.val = (pre.map Subtype.val).filter (fun o => decide (o.volume = vol)) ∧ J pre0 V) ∧ ∃ ob, W1.heap.size ≤ ob ∧ BoxO V ob x.1 ∧
      a1 = { tmps := #[.func (.yield L) #[] #[], .pointer (some ⟨Ba, 0, none⟩), .pointer (some ⟨Bv, 0, none⟩), .pointer (some ⟨z, 0, none⟩), .pointer (some ⟨ob, 0, none⟩), .slice o l.length c, .func (.func 72) #[] #[.pointer (some ⟨z + 1, 0, none⟩), .pointer (some ⟨z + 1 + 1, 0, none⟩)], encO x.1, undef, undef, undef, undef, undef, undef, undef, undef, undef, undef], defers := [] })
    ?_ ?_ ?_ ?_ ?_
  · intro pre A B row ⟨a, b, pre0, d, e⟩ hg hr
    exact ⟨cells_own hg hr a, cells_own hg hr b, pre0, d, own_up HJ.out (by rw [HS.out]; omega) pre0 A B row e hg hr⟩
  · intro cd pre A B row ⟨a, pre0, b, c⟩ hg hr
    exact ⟨a, pre0, b, own_up HJX.out (by rw [HS.out]; omega) pre0 A B row c hg hr⟩
  · intro x a1 pre A B row ⟨a, b, ⟨pre0, d, e⟩, ob, f, g, h⟩ hg hr
    exact ⟨cells_own hg hr a, cells_own hg hr b, ⟨pre0, d, own_up HJ.out (by rw [HS.out]; omega) pre0 A B row e hg hr⟩, ob, f, cells_own hg hr g, h⟩
  · intro lp pre x V ⟨a, b, pre0, d, e⟩ _ hsz
    obtain ⟨V2, hst, hbx, hlw, -⟩ := boxing V x.1
    have HA := Lib.hid a
    have HB := Lib.hid b
    have HD := Lib.hid d
    have HE := Lib.hid (own_below HJ.out e hlw)
    have HX := Lib.hid hbx
    have HW := Lib.hid hlw
    clear a b d e hbx hlw
    simp only [encE]
    gi_wp2_with (refine KnownIn.skip rfl (by intro c e; cases e) rfl (hst rfl rfl rfl) ?_)
    exact ⟨RangeRow.Stays.of_below HW.out, (HW.out.block _ HA.out.lt).trans HA.out, (HW.out.block _ HB.out.lt).trans HB.out, ⟨pre0, HD.out, HE.out⟩, V.heap.size, hsz, HX.out, rfl⟩
  · rintro lp pre x a1 V ⟨a, b, ⟨pre0, d, e⟩, ob, hob, hbx, rfl⟩ hlen hsz
    have HA := Lib.hid a
    have HB := Lib.hid b
    have HD := Lib.hid d
    have ca := a.cell
    have cb := b.cell
    have c15 := hbx.c15
    have hz2 : z + 3 ≤ V.heap.size := by rw [HS.out] at hsz; exact hsz
    by_cases hv : x.1.volume = vol
    · have hk : (x.1.volume.toList == vol.toList) = true := by rw [hv]; simp
      have HF : Hid ((pre0 ++ [x]).map Subtype.val = ((pre ++ [x]).map Subtype.val).filter (fun o => decide (o.volume = vol))) := by
        show _ = _
        rw [List.map_append, List.map_append, List.filter_append, d]
        simp [hv]
      obtain ⟨fn, tmps, assign, body, hy, hR⟩ := RangeRow.yield_round (lp := lp) (RangeRow.yield_any (m' := n - 1 - 1 - 1) (HY.out pre0 x V e (by have := sub_filter d; omega)))
      change Sem.run Try.prog (Instr.yield L #[encO x.1]) _ = _ at hy
      have HR := Lib.hid hR
      clear a b d e hv hR
      gi_wp2_with (first | (refine KnownIn.valueW rfl rfl (load_obj hbx rfl rfl) ?_))
      refine ⟨fun h => (by cases h), HR.out.mono ?_⟩
      rintro e V3 (⟨rfl, hJ3, hk3⟩ | ⟨rfl, hJx3, hk3⟩)
      · have HST := Lib.hid (stays_kept hk3 (by omega) hLW (by omega) : RangeRow.Stays lo z N0 37 V V3)
        have HJ3 := Lib.hid hJ3
        clear hJ3 hk3 hy
        gi_wp2
        exact ⟨HST.out, HST.out.keep HA.out (by omega) (by intro cs f e; cases e), HST.out.keep HB.out (by omega) (by intro cs f e; cases e), pre0 ++ [x], HF.out, HJ3.out⟩
      · have HJ3 := Lib.hid hJx3
        have HST := Lib.hid (stays_kept hk3 (by omega) hLW (by omega) : RangeRow.Stays lo z N0 37 V V3)
        clear hJx3 hk3 hy
        gi_wp2
        exact ⟨HST.out, rfl, pre0 ++ [x], HF.out, HJ3.out⟩
    · have hk : (x.1.volume.toList == vol.toList) = false := by
        rw [eqB]
        simpa using hv
      have HF : Hid (pre0.map Subtype.val = ((pre ++ [x]).map Subtype.val).filter (fun o => decide (o.volume = vol))) := by
        show _ = _
        rw [List.map_append, List.filter_append, d]
        simp [hv]
      have HE := Lib.hid e
      clear a b d e hv
      gi_wp2
      refine ⟨fun _ h => (by cases h), ?_⟩
      gi_wp2
      exact ⟨RangeRow.Stays.refl _ _ _ _ _, HA.out, HB.out, pre0, HF.out, HE.out⟩
  · rintro D xs V hD hS ⟨a, b, pre0, d, e⟩ hK
    have HF : Hid (pre0.map Subtype.val = attL l vol) := by
      show _ = _
      rw [d, hS]
      rfl
    have HE := Lib.hid e
    have HK := Lib.hid hK
    clear a b d e hK hS
    gi_wp2
    refine ⟨by simp, .inl ⟨_, _, rfl, run_takeDeferred HK.out, ?_⟩⟩
    refine ⟨_, results_none rfl _ _ _, ⟨_, rfl⟩, .inl ⟨pre0, HF.out, ?_⟩⟩
    exact OwnFrom.putObj HJ.out _ HE.out (by rw [HS.out] at hD; omega) HK.out rfl
  · rintro D cd pre V hD hSp ⟨rfl, pre0, d, e⟩ hK
    have HF : Hid (pre0.map Subtype.val <+: attL l vol) := by
      show _ <+: _
      rw [d]
      exact hSp.filter _
    have HE := Lib.hid e
    have HK := Lib.hid hK
    clear d e hK hSp
    gi_wp2
    refine ⟨by simp, .inl ⟨_, _, rfl, run_takeDeferred HK.out, ?_⟩⟩
    refine ⟨_, results_none rfl _ _ _, ⟨_, rfl⟩, .inr ⟨pre0, HF.out, ?_⟩⟩
    exact OwnFrom.putObj HJX.out _ HE.out (by rw [HS.out] at hD; omega) HK.out rfl
end Go.Proofs.Ytigoghhjncpgfaa.O.B
namespace Go.Proofs.Ytigoghhjncpgfaa.O.B
open Go Go.RowKit Go.Shelf Go.Lib KM
attribute [local go_sem] Oper.semAt_some

def encB (s : ByteArray) : Array Value := #[.string s]
/-- Does a pod ask for a node, for one of these claims? -/
def asksB (M : List (ByteArray × Value)) (p : Obj) : Bool := (KM.get p.claim M).isSome && (!p.node.toList.isEmpty && !p.deleting)
def podsL (l : List Obj) (M : List (ByteArray × Value)) : List ByteArray := ((thereL 6 l).filter (asksB M)).map Obj.node

theorem nodesP_any (o : Option Addr) (n c : Nat) (m : Option Nat) (w : World) : Calls Try.prog 28 #[.slice o n c, .map m] w fun e w' => e = .returned (.func (.func 57) #[] #[.pointer (some ⟨w.heap.size, 0, none⟩), .pointer (some ⟨w.heap.size + 1, 0, none⟩)]) ∧
    (w.alloc (.cells #[.slice o n c] 22)).alloc (.cells #[.map m] 68) = w' := by
  go_enter Try.func28, Try.ntmps28
  go_wp2
  go_ret
  exact ⟨rfl, rfl⟩
theorem pods_step {M : List (ByteArray × Value)} {l : List Obj} {pre : List (El l)} {pre0 : List ByteArray} {x : El l} (h : pre0 = ((pre.map Subtype.val).filter (asksB M)).map Obj.node) :
    (if asksB M x.1 then pre0 ++ [x.1.node] else pre0) = (((pre ++ [x]).map Subtype.val).filter (asksB M)).map Obj.node := by
  rw [List.map_append, List.filter_append, List.map_append, h]
  cases hx : asksB M x.1 <;> simp [hx]
theorem pods_len {M : List (ByteArray × Value)} {l : List Obj} {pre : List (El l)} {pre0 : List ByteArray} (h : pre0 = ((pre.map Subtype.val).filter (asksB M)).map Obj.node) : pre0.length ≤ pre.length := by
  rw [h, List.length_map]
  have := List.length_filter_le (asksB M) (pre.map Subtype.val)
  rwa [List.length_map] at this

set_option maxRecDepth 100000 in
set_option maxHeartbeats 4000000 in
theorem nodesP_seq (l : List Obj) (v : Value) (mb : Nat) (M : List (ByteArray × Value)) (Ba Bv : Nat) (w : World) (hl0 : ObjsIn w v l) (hm0 : IsMap encT w mb M) (hu : ∀ k u, KM.get k M = some u → u = .agg #[]) (hba : Boxed w Ba 22 v) (hbv : Boxed w Bv 68 (.map (some mb))) :
    SeqAt w 57 #[.pointer (some ⟨Ba, 0, none⟩), .pointer (some ⟨Bv, 0, none⟩)] encB 9 (fun xs => xs = podsL l M) (fun pre => pre <+: podsL l M) l.length := fun n W0 lo hi N0 hW0 hlo hlh hhi hN0 hn L J Jx W hW hL hLW hJ hJx hY h0 => by
  obtain ⟨o, c, rfl, -, -⟩ := id hl0
  have hbw : Below w.heap.size w W := hW0.trans (hW.mono hW0.size)
  have HLA : Hid (∀ g off, (∃ c', Value.slice o l.length c = .slice (some ⟨g, off, none⟩) l.length c') → 0 < l.length → g < w.heap.size) := fun g off ⟨c', hv⟩ hl => by
    obtain ⟨o1, c1, e1, -, hi⟩ := hl0
    obtain ⟨g1, off1, e2, hg, -⟩ := hi 0 hl
    cases e1
    subst e2
    cases hv
    exact hg
  have HL := Lib.hid (hl0.after hbw)
  have HBA : Hid (Boxed W Ba 22 (.slice o l.length c)) := (hbw.block _ hba.lt).trans hba
  have HBV : Hid (Boxed W Bv 68 (.map (some mb))) := (hbw.block _ hbv.lt).trans hbv
  have HM := Lib.hid (hm0.after hbw)
  have hbvl := hbv.lt
  have hmbl := hm0.lt
  have HJ := Lib.hid hJ
  have HJX := Lib.hid hJx
  have HY := Lib.hid hY
  have H0 := Lib.hid h0
  have hWs := hbw.size
  have hWW := hW.size
  have c1 := (HBA.out.alloc (.cells #[.func (.yield L) #[] #[]] 82)).cell
  clear hl0 hba hbv hm0 hW0 hbw hW hJ hJx hY h0
  have ef2 := enters_of (P := Try.prog) Try.func72 (by kernel_rfl) rfl
  refine callsIn_of_wp_marks Try.func57 rfl trivial ?_ rfl
  simp only [Try.ntmps57, List.size_toArray, List.length_cons, List.length_nil, Nat.reduceAdd, Nat.reduceSub, Array.replicate_succ, Array.replicate_zero, List.push_toArray, List.append_toArray, List.nil_append, List.cons_append]
  gi_wp2_with fail
  refine ⟨trivial, fun h => (by cases h), (callsIn_wide.2 (there_any _ _ _ _ _)).mono ?_⟩
  rintro e w' ⟨rfl, rfl⟩
  gi_wp2_with fail
  obtain ⟨z, hz⟩ : ∃ z, W.heap.size = z := ⟨_, rfl⟩
  refine wpIn_gen (fun V => V.heap.size = z + 3 ∧ Boxed V z 82 (.func (.yield L) #[] #[]) ∧ (Boxed V Bv 68 (.map (some mb)) ∧ IsMap encT V mb M) ∧ Reads V (.slice o l.length c) l 6 (z + 1) (z + 1 + 1) ∧ J [] V) ?_ ?_
  · have hlow : Below W.heap.size W (((W.alloc (.cells #[.func (.yield L) #[] #[]] 82)).alloc (.cells #[.slice o l.length c] 22)).alloc (.cells #[.int .u8 6] 33)) := by
      refine Below.alloc (Below.alloc (Below.alloc (Below.refl _ _) ?_ _) ?_ _) ?_ _ <;> simp <;> omega
    subst hz
    refine ⟨by simp, ((Boxed.new W _ _).alloc _).alloc _, ⟨((HBV.out.alloc _).alloc _).alloc _, HM.out.after hlow⟩, ⟨HL.out.after hlow, (boxed_at _ _ _ _ (by simp)).alloc _, boxed_at _ _ _ _ (by simp)⟩, own_below HJ.out H0.out hlow⟩
  clear HL HBA HBV HM c1 H0
  rw [hz]
  rw [hz] at hLW hWs hWW HJ HJX
  rintro W1 ⟨hs, h1, h2, h3, h4⟩
  have HS := Lib.hid hs
  have H1 := Lib.hid h1
  have H2 := Lib.hid h2
  have H3 := Lib.hid h3
  have H4 := Lib.hid h4
  clear hs h1 h2 h3 h4 hz
  have hclear : Clear (.slice o l.length c) l (z + 1) (z + 1 + 1) lo z := by
    refine ⟨by omega, by omega, fun g off hv hl => ?_⟩
    have := HLA.out g off hv hl
    omega
  refine RangeRow.range (F := Fence.wide) (n := n) rfl (by omega) (gf := 72) (lb := #[.pointer (some ⟨z + 1, 0, none⟩), .pointer (some ⟨z + 1 + 1, 0, none⟩)]) rfl trivial ef2 (encs := encE (l := l)) (lo := lo) (hi := z) (N0 := N0) (E := 9) (by rw [HS.out]; omega)
    (there_row l (.slice o l.length c) 6 _ _ lo z N0 (n - 1) 9 W1 H3.out hclear (by rw [HS.out]; omega) (fun g off hv hl => by have := HLA.out g off hv hl; omega) ⟨by decide, by decide⟩) (fun _ => rfl)
    (fun pre V => Boxed V z 82 (.func (.yield L) #[] #[]) ∧ (Boxed V Bv 68 (.map (some mb)) ∧ IsMap encT V mb M) ∧ ∃ pre0 : List ByteArray, pre0 = ((pre.map Subtype.val).filter (asksB M)).map Obj.node ∧ J pre0 V)
    (fun cd pre V => cd = .ret ∧ ∃ pre0 : List ByteArray, pre0 = ((pre.map Subtype.val).filter (asksB M)).map Obj.node ∧ Jx pre0 V)
    ?_ ?_ ⟨H1.out, H2.out, [], rfl, H4.out⟩
    (fun pre x a1 V => Boxed V z 82 (.func (.yield L) #[] #[]) ∧ (Boxed V Bv 68 (.map (some mb)) ∧ IsMap encT V mb M) ∧ (∃ pre0 : List ByteArray, pre0 = ((pre.map Subtype.val).filter (asksB M)).map Obj.node ∧ J pre0 V) ∧ ∃ ob, W1.heap.size ≤ ob ∧ BoxO V ob x.1 ∧
      a1 = { tmps := #[.func (.yield L) #[] #[], .pointer (some ⟨Ba, 0, none⟩), .pointer (some ⟨Bv, 0, none⟩), .pointer (some ⟨z, 0, none⟩), .pointer (some ⟨ob, 0, none⟩), undef, undef, .slice o l.length c, .func (.func 72) #[] #[.pointer (some ⟨z + 1, 0, none⟩), .pointer (some ⟨z + 1 + 1, 0, none⟩)], encO x.1, undef, undef, undef, undef, undef, undef, undef, undef, undef, undef, undef, undef, undef, undef, undef, undef, undef, undef, undef, undef, undef, undef, undef, undef, undef], defers := [] })
    ?_ ?_ ?_ ?_ ?_
  · intro pre A B row ⟨a, ⟨b, bm⟩, pre0, d, e⟩ hg hr
    exact ⟨cells_own hg hr a, ⟨cells_own hg hr b, bm.of_heap (hg.block mb bm.lt (fun e => by have := (hr mb e.symm).1; rw [HS.out] at this; omega))⟩, pre0, d, own_up HJ.out (by rw [HS.out]; omega) pre0 A B row e hg hr⟩
  · intro cd pre A B row ⟨a, pre0, b, c⟩ hg hr
    exact ⟨a, pre0, b, own_up HJX.out (by rw [HS.out]; omega) pre0 A B row c hg hr⟩
  · intro x a1 pre A B row ⟨a, ⟨b, bm⟩, ⟨pre0, d, e⟩, ob, f, g, h⟩ hg hr
    exact ⟨cells_own hg hr a, ⟨cells_own hg hr b, bm.of_heap (hg.block mb bm.lt (fun e => by have := (hr mb e.symm).1; rw [HS.out] at this; omega))⟩, ⟨pre0, d, own_up HJ.out (by rw [HS.out]; omega) pre0 A B row e hg hr⟩, ob, f, cells_own hg hr g, h⟩
  · intro lp pre x V ⟨a, ⟨b, bm⟩, pre0, d, e⟩ _ hsz
    obtain ⟨V2, hst, hbx, hlw, -⟩ := boxing V x.1
    have HA := Lib.hid a
    have HB := Lib.hid b
    have HBM := Lib.hid (bm.after hlw)
    have HD := Lib.hid d
    have HE := Lib.hid (own_below HJ.out e hlw)
    have HX := Lib.hid hbx
    have HW := Lib.hid hlw
    clear a b bm d e hbx hlw
    simp only [encE]
    gi_wp2_with (refine KnownIn.skip rfl (by intro c e; cases e) rfl (hst rfl rfl rfl) ?_)
    exact ⟨RangeRow.Stays.of_below HW.out, (HW.out.block _ HA.out.lt).trans HA.out, ⟨(HW.out.block _ HB.out.lt).trans HB.out, HBM.out⟩, ⟨pre0, HD.out, HE.out⟩, V.heap.size, hsz, HX.out, rfl⟩
  · rintro lp pre x a1 V ⟨a, ⟨b, bm⟩, ⟨pre0, d, e⟩, ob, hob, hbx, rfl⟩ hlen hsz
    have HA := Lib.hid a
    have HB := Lib.hid b
    have HBM := Lib.hid bm
    have HF := Lib.hid (pods_step (x := x) d)
    have hlen0 : pre0.length < l.length := by have := pods_len d; omega
    have HE := Lib.hid e
    have cb := b.cell
    have c14 := hbx.c14
    have hz2 : z + 3 ≤ V.heap.size := by rw [HS.out] at hsz; exact hsz
    have hal : Below V.heap.size V (V.alloc (Obj.cells #[] 88)) := (Below.refl _ _).alloc (Nat.le_refl _) _
    have HAL := Lib.hid hal
    have HST := Lib.hid (RangeRow.Stays.of_below hal : RangeRow.Stays lo z N0 9 V _)
    have HJE := Lib.hid (own_below HJ.out e hal)
    have a2 := (a.alloc (Obj.cells #[] 88)).cell
    have hbx2 := hbx.after hal
    have d13 := hbx2.c13
    have d4 := hbx2.c4
    cases hget : KM.get x.1.claim M with
    | none =>
      have HGET := Lib.hid hget
      have hq : asksB M x.1 = false := by unfold asksB; rw [hget]; rfl
      rw [hq] at HF
      clear hget hq a b bm d e hal hbx
      gi_wp2_with (refine KnownIn.value rfl rfl (exec_seen_no rfl rfl rfl HBM.out HGET.out) ?_)
      refine ⟨fun _ h => (by cases h), ?_⟩
      gi_wp2
      exact ⟨HST.out, (HAL.out.block _ HA.out.lt).trans HA.out, ⟨(HAL.out.block _ HB.out.lt).trans HB.out, HBM.out.after HAL.out⟩, pre0, HF.out, HJE.out⟩
    | some u =>
      obtain rfl : u = .agg #[] := hu _ _ hget
      have HGET := Lib.hid hget
      by_cases hnd : x.1.node.toList = []
      · have hq : asksB M x.1 = false := by unfold asksB; rw [hget, hnd]; rfl
        have n1 : (x.1.node.toList == []) = true := by rw [hnd]; rfl
        have n2 : x.1.node.toList.isEmpty = true := by rw [hnd]; rfl
        rw [hq] at HF
        clear hget hq a b bm d e hal hbx hnd
        gi_wp2_with (refine KnownIn.value rfl rfl (exec_seen_ok rfl rfl rfl HBM.out HGET.out) ?_)
        refine ⟨fun _ h => (by cases h), ?_⟩
        gi_wp2
        exact ⟨HST.out, (HAL.out.block _ HA.out.lt).trans HA.out, ⟨(HAL.out.block _ HB.out.lt).trans HB.out, HBM.out.after HAL.out⟩, pre0, HF.out, HJE.out⟩
      · have n1 : (x.1.node.toList == []) = false := by cases hx : x.1.node.toList with
          | nil => exact absurd hx hnd
          | cons a r => rfl
        have n2 : x.1.node.toList.isEmpty = false := by cases hx : x.1.node.toList with
          | nil => exact absurd hx hnd
          | cons a r => rfl
        cases hdel : x.1.deleting with
        | true =>
          have hq : asksB M x.1 = false := by unfold asksB; rw [hget, n2, hdel]; rfl
          rw [hq] at HF
          rw [hdel] at d4
          clear hget hq a b bm d e hal hbx hdel
          gi_wp2_with (refine KnownIn.value rfl rfl (exec_seen_ok rfl rfl rfl HBM.out HGET.out) ?_)
          refine ⟨fun _ h => (by cases h), ?_⟩
          gi_wp2
          exact ⟨HST.out, (HAL.out.block _ HA.out.lt).trans HA.out, ⟨(HAL.out.block _ HB.out.lt).trans HB.out, HBM.out.after HAL.out⟩, pre0, HF.out, HJE.out⟩
        | false =>
          have hq : asksB M x.1 = true := by unfold asksB; rw [hget, n2, hdel]; rfl
          rw [hq] at HF
          rw [hdel] at d4
          obtain ⟨fn, tmps, assign, body, hy, hR⟩ := RangeRow.yield_round (lp := lp) (RangeRow.yield_any (m' := n - 1 - 1 - 1) (HY.out pre0 x.1.node _ HJE.out hlen0))
          change Sem.run Try.prog (Instr.yield L #[.string x.1.node]) _ = _ at hy
          have HR := Lib.hid hR
          clear hget hq a b bm d e hal hbx hdel hR
          gi_wp2_with (refine KnownIn.value rfl rfl (exec_seen_ok rfl rfl rfl HBM.out HGET.out) ?_)
          refine ⟨fun h => (by cases h), HR.out.mono ?_⟩
          rintro e V3 (⟨rfl, hJ3, hk3⟩ | ⟨rfl, hJx3, hk3⟩)
          · have HS3 := Lib.hid (HST.out.trans (stays_kept hk3 (by omega) hLW (by omega)) : RangeRow.Stays lo z N0 9 V V3)
            have HJ3 := Lib.hid hJ3
            clear hJ3 hk3 hy
            gi_wp2
            obtain ⟨es5, cl5, hm5, -⟩ := id HBM.out
            exact ⟨HS3.out, HS3.out.keep HA.out (by omega) (by intro cs f e; cases e), ⟨HS3.out.keep HB.out (by omega) (by intro cs f e; cases e), HBM.out.of_heap ((HS3.out.keep hm5 (by omega) (by intro cs f e; cases e)).trans hm5.symm)⟩, pre0 ++ [x.1.node], HF.out, HJ3.out⟩
          · have HJ3 := Lib.hid hJx3
            have HS3 := Lib.hid (HST.out.trans (stays_kept hk3 (by omega) hLW (by omega)) : RangeRow.Stays lo z N0 9 V V3)
            clear hJx3 hk3 hy
            gi_wp2
            exact ⟨HS3.out, rfl, pre0 ++ [x.1.node], HF.out, HJ3.out⟩
  · rintro D xs V hD hS ⟨a, b, pre0, d, e⟩ hK
    have HF : Hid (pre0 = podsL l M) := by
      show _ = _
      rw [d, hS]
      rfl
    have HE := Lib.hid e
    have HK := Lib.hid hK
    clear a b d e hK hS
    gi_wp2
    refine ⟨by simp, .inl ⟨_, _, rfl, run_takeDeferred HK.out, ?_⟩⟩
    refine ⟨_, results_none rfl _ _ _, ⟨_, rfl⟩, .inl ⟨pre0, HF.out, ?_⟩⟩
    exact OwnFrom.putObj HJ.out _ HE.out (by rw [HS.out] at hD; omega) HK.out rfl
  · rintro D cd pre V hD hSp ⟨rfl, pre0, d, e⟩ hK
    have HF : Hid (pre0 <+: podsL l M) := by
      show _ <+: _
      rw [d]
      exact (hSp.filter _).map _
    have HE := Lib.hid e
    have HK := Lib.hid hK
    clear d e hK hSp
    gi_wp2
    refine ⟨by simp, .inl ⟨_, _, rfl, run_takeDeferred HK.out, ?_⟩⟩
    refine ⟨_, results_none rfl _ _ _, ⟨_, rfl⟩, .inr ⟨pre0, HF.out, ?_⟩⟩
    exact OwnFrom.putObj HJX.out _ HE.out (by rw [HS.out] at hD; omega) HK.out rfl
end Go.Proofs.Ytigoghhjncpgfaa.O.B
namespace Go.Proofs.Ytigoghhjncpgfaa.O.B
open Go Go.RowKit Go.Shelf Go.Lib KM
attribute [local go_sem] Oper.semAt_some

theorem nodesA_any (o : Option Addr) (n c : Nat) (w : World) : Calls Try.prog 66 #[.slice o n c] w fun e w' => e = .returned (.func (.func 79) #[] #[.pointer (some ⟨w.heap.size, 0, none⟩)]) ∧
    w.alloc (.cells #[.slice o n c] 22) = w' := by
  go_enter Try.func66, Try.ntmps66
  go_wp2
  go_ret
  exact ⟨rfl, rfl⟩
theorem ObjsIn.low {W : World} {v : Value} {l : List Obj} (h : ObjsIn W v l) : ∀ g off, (∃ c', v = .slice (some ⟨g, off, none⟩) l.length c') → 0 < l.length → g < W.heap.size := fun g off ⟨c', hv⟩ hl => by
  obtain ⟨o1, c1, e1, -, hi⟩ := h
  obtain ⟨g1, off1, e2, hg, -⟩ := hi 0 hl
  subst e2
  rw [hv] at e1
  cases e1
  exact hg
theorem ObjsIn.of_pos {W W' : World} {v : Value} {l : List Obj} (h : ObjsIn W v l) (hb : ∀ g off, (∃ c', v = .slice (some ⟨g, off, none⟩) l.length c') → 0 < l.length → W'.heap[g]? = W.heap[g]?) (hs : W.heap.size ≤ W'.heap.size) : ObjsIn W' v l := by
  obtain ⟨o, c, rfl, hn, hi⟩ := h
  refine ⟨o, c, rfl, hn, fun i hil => ?_⟩
  obtain ⟨g, off, rfl, hg, hr⟩ := hi i hil
  exact ⟨g, off, rfl, Nat.lt_of_lt_of_le hg hs, fun j v hv => (World.cell?_of_block (w := W) (a := ⟨g, _, none⟩) (hb g off ⟨c, rfl⟩ (by omega))).trans (hr j v hv)⟩

set_option maxRecDepth 100000 in
set_option maxHeartbeats 4000000 in
theorem nodesA_seq (l : List Obj) (v : Value) (Ba : Nat) (w : World) (hl0 : ObjsIn w v l) (hba : Boxed w Ba 22 v) :
    SeqAt w 79 #[.pointer (some ⟨Ba, 0, none⟩)] encB 9 (fun xs => xs = l.map Obj.node) (fun pre => pre <+: l.map Obj.node) l.length := fun n W0 lo hi N0 hW0 hlo hlh hhi hN0 hn L J Jx W hW hL hLW hJ hJx hY h0 => by
  have hbw : Below w.heap.size w W := hW0.trans (hW.mono hW0.size)
  have HLA := Lib.hid hl0.low
  obtain ⟨o, c, rfl, hn63, -⟩ := id hl0
  have HL := Lib.hid (hl0.after hbw)
  have HBA : Hid (Boxed W Ba 22 (.slice o l.length c)) := (hbw.block _ hba.lt).trans hba
  have HJ := Lib.hid hJ
  have HJX := Lib.hid hJx
  have HY := Lib.hid hY
  have H0 := Lib.hid h0
  have hWs := hbw.size
  have hWW := hW.size
  have c1 := HBA.out.cell
  clear hl0 hba hW0 hbw hW hJ hJx hY h0
  refine callsIn_of_wp Try.func79 rfl trivial ?_ rfl
  simp only [Try.ntmps79, List.size_toArray, List.length_cons, List.length_nil, Nat.reduceAdd, Nat.reduceSub, Array.replicate_succ, Array.replicate_zero, List.push_toArray, List.append_toArray, List.nil_append, List.cons_append]
  gi_wp2
  gi_loopw [7] (fun iv wr => ∃ i : Nat, iv = .int .i64 (i : Int) ∧ i ≤ l.length ∧ ObjsIn wr (.slice o l.length c) l ∧ J ((l.take i).map Obj.node) wr) (fun iv _ => l.length - (RowKit.intOf iv).toNat)
  case atStart => exact ⟨0, rfl, Nat.zero_le _, HL.out, H0.out⟩
  case round =>
    clear HL HBA c1 H0
    obtain ⟨i, rfl, hi, hob, hj⟩ := hrel
    by_cases hlt : i < l.length
    · have hlt' : (i : Int) < (l.length : Int) := by omega
      obtain ⟨o', c', he, -, hx⟩ := id hob
      cases he
      obtain ⟨g, off, rfl, hgl, hrow⟩ := hx i hlt
      clear hx
      have HOB := Lib.hid hob
      have HTK : Hid ((l.take i).map Obj.node ++ [l[i].node] = (l.take (i + 1)).map Obj.node) := by
        show _ = _
        rw [List.take_succ_eq_append_getElem hlt, List.map_append]
        rfl
      obtain ⟨x, hx⟩ : ∃ x, l[i] = x := ⟨_, rfl⟩
      rw [hx] at hrow HTK
      obtain ⟨V, hst, hbx, hlow, -⟩ := boxing wr x
      have c13 := hbx.c13
      have HOV := Lib.hid (HOB.out.after hlow)
      have HJV := Lib.hid (own_below HJ.out hj hlow)
      have hlen : ((l.take i).map Obj.node).length < l.length := by rw [List.length_map, List.length_take]; omega
      obtain ⟨fn, tmps, assign, body, hy, hR⟩ := HY.out _ x.node V HJV.out hlen
      change Sem.run Try.prog (Instr.yield L #[.string x.node]) _ = _ at hy
      have HR := Lib.hid hR
      have hVW := hlow.size
      clear hx hob hj hbx hlow hlen hR HOB
      gi_wp2_with (first | (refine KnownIn.value rfl rfl (load_mid hrow rfl rfl) ?_) | (refine KnownIn.skip rfl (by intro c e; cases e) rfl (hst rfl rfl rfl) ?_))
      refine ⟨fun h => (by cases h), HR.out.mono ?_⟩
      rintro e V3 (⟨rfl, hJ3, hk3⟩ | ⟨rfl, hJx3, hk3⟩)
      · have HJ3 := Lib.hid hJ3
        have HO3 : Hid (ObjsIn V3 (.slice (some ⟨g, off, none⟩) l.length c) l) := HOV.out.of_pos (fun g' off' hv hl => by
          have h1 := HLA.out g' off' hv hl
          exact hk3.2 g' (HOV.out.low g' off' hv hl) (by omega) (by omega) (.inl (by omega))) hk3.1
        clear hJ3 hk3 hy hst hrow
        gi_wp2
        exact ⟨⟨i + 1, by go_num, by omega, HO3.out, by rw [← HTK.out]; exact HJ3.out⟩, by simp [RowKit.intOf]; omega⟩
      · have HJ3 := Lib.hid hJx3
        clear hJx3 hk3 hy hst hrow
        gi_wp2
        refine bodyPost_ret (results_none rfl _ _ _) rfl ?_
        refine ⟨⟨_, rfl⟩, .inr ⟨_, ?_, HJ3.out⟩⟩
        rw [HTK.out]
        exact (List.take_prefix _ _).map _
    · have hlt' : ¬ (i : Int) < (l.length : Int) := by omega
      have hE : i = l.length := by omega
      rw [hE, List.take_length] at hj
      have HJ3 := Lib.hid hj
      clear hj hob hi hlt hE
      gi_wp2
      go_end0
      exact ⟨⟨_, rfl⟩, .inl HJ3.out⟩
end Go.Proofs.Ytigoghhjncpgfaa.O.B
namespace Go.KnownIn
open Go StillIn
variable {F : Fence} {n : Nat} {P : Program} {ops : Array Oper} {Q : Exit → Act → World → Prop} {a : Act} {w w' : World} {rest : List Oper} {o : Oper}

theorem gives {v : Value} (hg : o.guard = none) (hd : ∀ c, o.op ≠ .defer c) (ha : o.about P w a.eval = none) (hv : (execOp a.eval o).run P w = .ok (.value v) w') (hn : wpListIn F n P ops Q rest (a.put o.dst v) w') : wpListIn F n P ops Q (o :: rest) a w := by
  refine wpListIn_plain hg fun K hK => ?_
  refine ⟨(fun f hf => by rw [ha] at hf; cases hf), ?_⟩
  rw [Oper.semAt_eq _ _ o hd, hv]
  exact hK _ _ hn
theorem appends {v sl sr : Value} (hg : o.guard = none) (s x : Operand) (t : TypeId) (hop : o.op = Op.call { callee := Callee.builtin Builtin.append, args := #[s, x], argTypes := #[t, t] }) (hs : a.eval s = sl) (hx : a.eval x = sr)
    (hrun : (Builtin.append_ #[t, t] o.type #[sl, sr]).run P w = .ok v w') (hn : wpListIn F n P ops Q rest (a.put o.dst v) w') : wpListIn F n P ops Q (o :: rest) a w := by
  refine wpListIn_plain hg fun K hK' => ?_
  unfold Oper.wpIn
  refine ⟨?_, ?_⟩
  · simp [Oper.about, hop, resolve, Target.leads, Sem.run_pure]
  · rw [Oper.semAt_plain F _ _ (by rw [hop]; intro c hc'; cases hc')]
    simp [execOp, hop, resolve, invoke, builtin, hs, hx, hrun, Result.andThen]
    exact hK' _ _ hn
end Go.KnownIn
namespace Go.Proofs.Ytigoghhjncpgfaa.O.B
open Go Go.RowKit Go.Shelf Go.Lib KM
attribute [local go_sem] Oper.semAt_some

theorem out_own {B0 B : Nat} {W W' : World} {row : Option Nat} {v : Value} {l : List Obj} (hg : W.grownBy W' row) (hr : ∀ r, row = some r → B ≤ r ∧ ∃ o : Go.Obj, W.heap[r]? = some o ∧ o.isCells = false) (h : OutIn W B0 v l) : OutIn W' B0 v l :=
  h.of fun _ _ hc _ => (cells_own hg hr hc).trans hc.symm
/-- Its own row is not that block. -/
theorem OutIn.ne {W : World} {B b : Nat} {v u : Value} {l : List Obj} {t : TypeId} (h : OutIn W B v l) (hb : Boxed W b t u) (ht : t ≠ 37) : some b ≠ v.ownBlock := by
  rcases h.2 with ⟨rfl, -⟩ | ⟨g, cap, cur, rfl, -, hh, -⟩
  · simp [Value.ownBlock]
  · intro e
    obtain rfl : b = g := by simpa [Value.ownBlock] using e
    have h2 : W.heap[b]? = some (.cells #[u] t (0, 0)) := hb
    rw [h2] at hh
    simp only [Option.some.injEq, Obj.cells.injEq] at hh
    exact ht hh.2.1
theorem out_cons {W : World} {B : Nat} {v : Value} {l : List Obj} {x : Obj} (h : OutIn W B v (l ++ [x])) : ∃ g cap, v = .slice (some ⟨g, 0, none⟩) (l.length + 1) cap ∧ B ≤ g := by
  rcases h.2 with ⟨-, h0⟩ | ⟨g, cap, cur, rfl, hB, -⟩
  · simp at h0
  · exact ⟨g, cap, by rw [List.length_append]; rfl, hB⟩

set_option maxRecDepth 100000 in
set_option maxHeartbeats 4000000 in
theorem appO_any {α : Type} (f : α → Obj) (gf : FuncId) (lb : Array Value) (S Sp : List α → Prop) (N : Nat) (hN : N < 100000) (w : World) (ef : ∀ args w, (callFunc gf args).run Try.prog w = .ok (.enter gf args) w) (hs : SeqAt w gf lb (fun x => #[encO (f x)]) 37 S Sp N) :
    Calls Try.prog 73 #[.slice none 0 0, .func (.func gf) #[] lb] w fun e w' => ∃ xs v, S xs ∧ xs.length ≤ N ∧ e = .returned v ∧ OutIn w' w.heap.size v (xs.map f) ∧ Below w.heap.size w w' := by
  have HSQ := Lib.hid hs
  have HN := Lib.hid hN
  clear hs hN
  refine callsIn_wide.1 (callsIn_of_wp_marks (n := 5) Try.func73 rfl trivial ?_ rfl)
  simp only [Try.ntmps73, List.size_toArray, List.length_cons, List.length_nil, Nat.reduceAdd, Nat.reduceSub, Array.replicate_succ, Array.replicate_zero, List.push_toArray, List.append_toArray, List.nil_append, List.cons_append]
  gi_wp2
  obtain ⟨z, hz⟩ : ∃ z, w.heap.size = z := ⟨_, rfl⟩
  refine wpIn_gen (fun V => V.heap.size = z + 1 ∧ Boxed V z 22 (.slice none 0 0) ∧ Below w.heap.size w V) ⟨by simp [hz], by rw [← hz]; exact Boxed.new w _ _, (Below.refl _ _).alloc (Nat.le_refl _) _⟩ ?_
  rintro W0 ⟨hsz, h1, hlw⟩
  have HS := Lib.hid hsz
  have HLW := Lib.hid hlw
  have hseq := HSQ.out 4 W0 z (z + 1) z hlw (by omega) (by omega) (by rw [hsz]; exact Nat.le_refl _) (by omega) (by omega)
  clear hsz hlw
  rw [hz]
  rw [hz] at HLW
  refine RangeRow.range (F := Fence.wide) (n := 5) rfl (by omega) (gf := gf) (lb := lb) rfl trivial ef (encs := fun x => #[encO (f x)]) (lo := z) (hi := z + 1) (N0 := z) (E := 37) (by rw [HS.out]; omega)
    hseq (fun _ => rfl)
    (fun pre V => ∃ sv, Boxed V z 22 sv ∧ OutIn V z sv (pre.map f) ∧ Below z w V ∧ pre.length ≤ N)
    (fun _ _ _ => False)
    ?_ ?_ ⟨_, h1, OutIn.empty _ _, HLW.out, Nat.zero_le _⟩
    (fun pre x a1 V => (∃ sv, Boxed V z 22 sv ∧ OutIn V z sv (pre.map f) ∧ Below z w V ∧ pre.length ≤ N) ∧ ∃ ob, W0.heap.size ≤ ob ∧ BoxO V ob (f x) ∧
      a1 = { tmps := #[.slice none 0 0, .func (.func gf) #[] lb, .pointer (some ⟨z, 0, none⟩), undef, .slice none 0 0, .pointer (some ⟨ob, 0, none⟩), .func (.func gf) #[] lb, encO (f x), undef, undef, undef, undef, undef], defers := [] })
    ?_ ?_ ?_ ?_ ?_
  · intro pre A B row ⟨sv, a, b, c, d⟩ hg hr
    exact ⟨sv, cells_own hg hr a, out_own hg hr b, ownFrom_below (β := Unit) (n₀ := z) (B := W0.heap.size) (by omega) (by rw [HS.out]; omega) () A B row c hg hr, d⟩
  · intro _ _ _ _ _ h
    exact h.elim
  · intro x a1 pre A B row ⟨⟨sv, a, b, c, d⟩, ob, e, f', g⟩ hg hr
    exact ⟨⟨sv, cells_own hg hr a, out_own hg hr b, ownFrom_below (β := Unit) (n₀ := z) (B := W0.heap.size) (by omega) (by rw [HS.out]; omega) () A B row c hg hr, d⟩, ob, e, cells_own hg hr f', g⟩
  · intro lp pre x V ⟨sv, a, b, c, d⟩ _ hsz
    obtain ⟨V2, hst, hbx, hlw, -⟩ := boxing V (f x)
    have HA := Lib.hid a
    have HB := Lib.hid (b.after hlw)
    have HC := Lib.hid (c.trans (hlw.mono (by have := c.size; omega)))
    have HD := Lib.hid d
    have HX := Lib.hid hbx
    have HW := Lib.hid hlw
    clear a b c d hbx hlw h1
    gi_wp2_with (refine KnownIn.skip rfl (by intro c e; cases e) rfl (hst rfl rfl rfl) ?_)
    exact ⟨RangeRow.Stays.of_below HW.out, ⟨sv, (HW.out.block _ HA.out.lt).trans HA.out, HB.out, HC.out, HD.out⟩, V.heap.size, hsz, HX.out, rfl⟩
  · rintro lp pre x a1 V ⟨⟨sv, a, b, c, d⟩, ob, hob, hbx, rfl⟩ hlen hsz
    have ca := a.cell
    obtain ⟨v', W', hap, ho', hb', hk'⟩ := add_obj z V sv (pre.map f) (f x) 22 b (by have := a.lt; omega) (by rw [List.length_map]; have := HN.out; omega)
    have hgc := out_cons ho'
    rw [List.length_map] at hgc
    obtain ⟨g, cap, rfl, hzg⟩ := hgc
    have hne : some z ≠ sv.ownBlock := b.ne a (by decide)
    have ha' : Boxed W' z 22 sv := (hk' z a.lt hne).trans a
    have cw := ha'.cell
    have fw := ha'.frozen
    have HNX : Hid (RangeRow.Stays z (z + 1) z 37 V (W'.setCell ⟨z, 0, none⟩ (.slice (some ⟨g, 0, none⟩) (pre.length + 1) cap)) ∧
        Boxed (W'.setCell ⟨z, 0, none⟩ (.slice (some ⟨g, 0, none⟩) (pre.length + 1) cap)) z 22 (.slice (some ⟨g, 0, none⟩) (pre.length + 1) cap) ∧
        OutIn (W'.setCell ⟨z, 0, none⟩ (.slice (some ⟨g, 0, none⟩) (pre.length + 1) cap)) z (.slice (some ⟨g, 0, none⟩) (pre.length + 1) cap) ((pre ++ [x]).map f) ∧
        Below z w (W'.setCell ⟨z, 0, none⟩ (.slice (some ⟨g, 0, none⟩) (pre.length + 1) cap))) := by
      show _ ∧ _
      refine ⟨⟨Nat.le_trans hb'.size (by simp), fun q hq hx hr => ?_⟩, ha'.set _, ?_, (c.trans hb').setCell (by show z ≤ z; omega) _⟩
      · rw [heap_setCell_other _ ⟨z, 0, none⟩ q _ (by show q ≠ z; omega)]
        rcases hr with hr | hr
        · exact hb'.block q hr
        · refine hk' q hq (fun e => ?_)
          rcases b.2 with ⟨rfl, -⟩ | ⟨g2, cap2, cur2, rfl, -, hh, -⟩
          · simp [Value.ownBlock] at e
          · obtain rfl : q = g2 := by simpa [Value.ownBlock] using e
            exact hr _ _ hh
      · rw [List.map_append]
        refine ho'.of (fun g2 cs hc _ => heap_setCell_other _ ⟨z, 0, none⟩ g2 _ (fun e => ?_))
        have e' : g2 = z := e
        subst e'
        have h2 : W'.heap[g2]? = some (.cells #[sv] 22 (0, 0)) := ha'
        rw [h2] at hc
        simp at hc
    have HD : Hid ((pre ++ [x]).length ≤ N) := by show _ ≤ _; rw [List.length_append]; exact hlen
    clear a b c d ho' hb' hk' hne ha' h1 hzg
    gi_wp2_with (first | (refine KnownIn.value rfl rfl (load_obj hbx rfl rfl) ?_) | (refine KnownIn.gives rfl (by intro c e; cases e) rfl (exec_objs (run_objs1 V (f x)) rfl rfl) ?_) | (gi_at_builtin; refine KnownIn.appends rfl _ _ 22 rfl rfl rfl hap ?_))
    exact ⟨HNX.out.1, _, HNX.out.2.1, HNX.out.2.2.1, HNX.out.2.2.2, HD.out⟩
  · rintro D xs V hD hS ⟨sv, a, b, c, d⟩ hK
    have ca := a.cell
    have HB := Lib.hid b
    have HC := Lib.hid c
    have HD := Lib.hid d
    have HK := Lib.hid hK
    have HXS := Lib.hid hS
    clear a b c d hK hS h1
    gi_wp2
    refine ⟨by simp, .inl ⟨_, _, rfl, run_takeDeferred HK.out, ?_⟩⟩
    refine ⟨sv, (results_tmp (t := 4) rfl _ _ _).trans rfl, xs, sv, HXS.out, HD.out, rfl, ?_, ?_⟩ <;> rw [hz]
    · exact HB.out.of (fun g cs hc _ => World.putObj_heap_other (fun e => by
        subst e
        rw [HK.out] at hc
        simp at hc))
    · exact HC.out.trans (belowK_b (w := w) (by omega) _ D _ _ (by rw [HS.out] at hD; omega) HK.out rfl rfl)
  · intro _ _ _ _ _ _ h _
    exact h.elim
end Go.Proofs.Ytigoghhjncpgfaa.O.B
namespace Go.Proofs.Ytigoghhjncpgfaa.O.B
open Go Go.RowKit Go.Shelf Go.Lib KM
attribute [local go_sem] Oper.semAt_some

/-- Texts in a slice of the call's own. -/
def TxtIn (W : World) (B : Nat) (v : Value) (l : List ByteArray) : Prop := W.ownsRow B 9 1 v l.length (l.map fun s => Value.string s)
theorem TxtIn.empty (W : World) (B : Nat) : TxtIn W B (.slice none 0 0) [] := ⟨rfl, .inl ⟨rfl, rfl⟩⟩
theorem TxtIn.of {W W' : World} {B : Nat} {v : Value} {l : List ByteArray} (h : TxtIn W B v l) (hb : ∀ g cs, W.heap[g]? = some (.cells cs 9 (0, 0)) → v.ownBlock = some g → W'.heap[g]? = W.heap[g]?) : TxtIn W' B v l := by
  refine ⟨h.1, ?_⟩
  rcases h.2 with h1 | ⟨g, cap, cur, rfl, h2, h3, h4⟩
  · exact .inl h1
  · exact .inr ⟨g, cap, cur, rfl, h2, (hb g cur h3 rfl).trans h3, h4⟩
theorem TxtIn.after {W W' : World} {B : Nat} {v : Value} {l : List ByteArray} (h : TxtIn W B v l) (hb : Below W.heap.size W W') : TxtIn W' B v l := h.of fun g _ hg _ => hb.block g (Array.getElem?_eq_some_iff.1 hg).1
theorem txt_own {B0 B : Nat} {W W' : World} {row : Option Nat} {v : Value} {l : List ByteArray} (hg : W.grownBy W' row) (hr : ∀ r, row = some r → B ≤ r ∧ ∃ o : Go.Obj, W.heap[r]? = some o ∧ o.isCells = false) (h : TxtIn W B0 v l) : TxtIn W' B0 v l :=
  h.of fun _ _ hc _ => (cells_own hg hr hc).trans hc.symm
theorem TxtIn.ne {W : World} {B b : Nat} {v u : Value} {l : List ByteArray} {t : TypeId} (h : TxtIn W B v l) (hb : Boxed W b t u) (ht : t ≠ 9) : some b ≠ v.ownBlock := by
  rcases h.2 with ⟨rfl, -⟩ | ⟨g, cap, cur, rfl, -, hh, -⟩
  · simp [Value.ownBlock]
  · intro e
    obtain rfl : b = g := by simpa [Value.ownBlock] using e
    have h2 : W.heap[b]? = some (.cells #[u] t (0, 0)) := hb
    rw [h2] at hh
    simp only [Option.some.injEq, Obj.cells.injEq] at hh
    exact ht hh.2.1
theorem txt_cons {W : World} {B : Nat} {v : Value} {l : List ByteArray} {x : ByteArray} (h : TxtIn W B v (l ++ [x])) : ∃ g cap, v = .slice (some ⟨g, 0, none⟩) (l.length + 1) cap ∧ B ≤ g := by
  rcases h.2 with ⟨-, h0⟩ | ⟨g, cap, cur, rfl, hB, -⟩
  · simp at h0
  · exact ⟨g, cap, by rw [List.length_append]; rfl, hB⟩
theorem str_info : ∃ i, Try.prog.info? 9 = some i ∧ i.zero = some (.string ⟨#[]⟩) ∧ i.size = 1 ∧ i.bytes ≤ 1000 := by
  have h : (Try.prog.info? 9).map (fun i => (i.zero, i.size, decide (i.bytes ≤ 1000))) = some (some (.string ⟨#[]⟩), 1, true) := by kernel_rfl
  cases hi : Try.prog.info? 9 with
  | none => rw [hi] at h; cases h
  | some i =>
    rw [hi] at h
    simp only [Option.map_some, Option.some.injEq, Prod.mk.injEq] at h
    exact ⟨i, rfl, h.1, h.2.1, of_decide_eq_true h.2.2⟩
theorem add_txt (R : Nat) (W : World) (sl : Value) (l : List ByteArray) (x : ByteArray) (ty : TypeId) (hr : TxtIn W R sl l) (hB : R ≤ W.heap.size) (hn : l.length < 100000) :
    ∃ v' W', (Builtin.append_ #[26, 26] ty #[sl, .slice (some ⟨W.heap.size, 0, none⟩) 1 1]).run Try.prog (W.alloc (.cells #[.string x] 9 (0, 0))) = .ok v' W' ∧
      TxtIn W' R v' (l ++ [x]) ∧ Below R W W' ∧ ∀ b, b < W.heap.size → some b ≠ sl.ownBlock → W'.heap[b]? = W.heap[b]? := by
  obtain ⟨i, hi, hz, hs, hb⟩ := str_info
  have hba : Below W.heap.size W (W.alloc (.cells #[.string x] 9 (0, 0))) := (Below.refl _ _).alloc (Nat.le_refl _) _
  have hr1 := hr.after hba
  have h1 : ∀ u ∈ [Value.string x], u.oneCell' = true := fun u hu => by
    rw [List.mem_singleton.1 hu]
    rfl
  have hnews : ∀ j u, [Value.string x][j]? = some u → (W.alloc (.cells #[.string x] 9 (0, 0))).cell? ((⟨W.heap.size, 0, none⟩ : Addr).add j) = some u := fun j u hu => by
    have e : (⟨W.heap.size, 0, none⟩ : Addr).add j = ⟨W.heap.size, j, none⟩ := by unfold Addr.add; split <;> simp_all
    rw [e, cell_of_row _ _ _ _ _ _ (heap_alloc_new W _), ← Array.getElem?_toList]
    exact hu
  obtain ⟨v', W', h2, h3, h4, -⟩ := run_append_own (P := Try.prog) (W.alloc (.cells #[.string x] 9 (0, 0))) R 26 ty 9 i (.string ⟨#[]⟩) 1 i.bytes Try.underlying26 hi hz hs rfl rfl (by decide) sl l.length _ hr1 ⟨W.heap.size, 0, none⟩ 1 1 [Value.string x] rfl hnews h1 (by unfold maxLen; omega) (Nat.le_trans (Nat.mul_le_mul (show l.length + 1 ≤ 100000 by omega) hb) (by omega)) (by simp; omega)
  refine ⟨v', W', h2, ?_, ?_, ?_⟩
  · show W'.ownsRow R _ 1 v' _ _
    rw [List.map_append, List.length_append]
    exact h3
  · refine (hba.mono hB).grown h4 (by simp; omega) ?_
    intro r e
    rcases hr.2 with ⟨rfl, -⟩ | ⟨g, cap, cur, rfl, hg, -⟩
    · cases e
    · cases e
      exact hg
  · intro b hb hne
    exact (h4.block b (by simp; omega) hne).trans (hba.block b hb)

set_option maxRecDepth 100000 in
set_option maxHeartbeats 4000000 in
theorem appS_any (gf : FuncId) (lb : Array Value) (S Sp : List ByteArray → Prop) (N : Nat) (hN : N < 100000) (w : World) (ef : ∀ args w, (callFunc gf args).run Try.prog w = .ok (.enter gf args) w) (hs : SeqAt w gf lb encB 9 S Sp N) :
    Calls Try.prog 85 #[.slice none 0 0, .func (.func gf) #[] lb] w fun e w' => ∃ xs v, S xs ∧ xs.length ≤ N ∧ e = .returned v ∧ TxtIn w' w.heap.size v xs ∧ Below w.heap.size w w' := by
  have HSQ := Lib.hid hs
  have HN := Lib.hid hN
  clear hs hN
  refine callsIn_wide.1 (callsIn_of_wp_marks (n := 5) Try.func85 rfl trivial ?_ rfl)
  simp only [Try.ntmps85, List.size_toArray, List.length_cons, List.length_nil, Nat.reduceAdd, Nat.reduceSub, Array.replicate_succ, Array.replicate_zero, List.push_toArray, List.append_toArray, List.nil_append, List.cons_append]
  gi_wp2
  obtain ⟨z, hz⟩ : ∃ z, w.heap.size = z := ⟨_, rfl⟩
  refine wpIn_gen (fun V => V.heap.size = z + 1 ∧ Boxed V z 26 (.slice none 0 0) ∧ Below w.heap.size w V) ⟨by simp [hz], by rw [← hz]; exact Boxed.new w _ _, (Below.refl _ _).alloc (Nat.le_refl _) _⟩ ?_
  rintro W0 ⟨hsz, h1, hlw⟩
  have HS := Lib.hid hsz
  have HLW := Lib.hid hlw
  have hseq := HSQ.out 4 W0 z (z + 1) z hlw (by omega) (by omega) (by rw [hsz]; exact Nat.le_refl _) (by omega) (by omega)
  clear hsz hlw
  rw [hz]
  rw [hz] at HLW
  refine RangeRow.range (F := Fence.wide) (n := 5) rfl (by omega) (gf := gf) (lb := lb) rfl trivial ef (encs := encB) (lo := z) (hi := z + 1) (N0 := z) (E := 9) (by rw [HS.out]; omega)
    hseq (fun _ => rfl)
    (fun pre V => ∃ sv, Boxed V z 26 sv ∧ TxtIn V z sv pre ∧ Below z w V ∧ pre.length ≤ N)
    (fun _ _ _ => False)
    ?_ ?_ ⟨_, h1, TxtIn.empty _ _, HLW.out, Nat.zero_le _⟩
    (fun pre x a1 V => (∃ sv, Boxed V z 26 sv ∧ TxtIn V z sv pre ∧ Below z w V ∧ pre.length ≤ N) ∧
      a1 = { tmps := #[.slice none 0 0, .func (.func gf) #[] lb, .pointer (some ⟨z, 0, none⟩), undef, .slice none 0 0, .string x, .func (.func gf) #[] lb, .string x, undef, undef, undef, undef, undef], defers := [] })
    ?_ ?_ ?_ ?_ ?_
  · intro pre A B row ⟨sv, a, b, c, d⟩ hg hr
    exact ⟨sv, cells_own hg hr a, txt_own hg hr b, ownFrom_below (β := Unit) (n₀ := z) (B := W0.heap.size) (by omega) (by rw [HS.out]; omega) () A B row c hg hr, d⟩
  · intro _ _ _ _ _ h
    exact h.elim
  · intro x a1 pre A B row ⟨⟨sv, a, b, c, d⟩, g⟩ hg hr
    exact ⟨⟨sv, cells_own hg hr a, txt_own hg hr b, ownFrom_below (β := Unit) (n₀ := z) (B := W0.heap.size) (by omega) (by rw [HS.out]; omega) () A B row c hg hr, d⟩, g⟩
  · intro lp pre x V ⟨sv, a, b, c, d⟩ _ hsz
    have HA := Lib.hid a
    have HB := Lib.hid b
    have HC := Lib.hid c
    have HD := Lib.hid d
    clear a b c d h1
    simp only [encB]
    gi_wp2
    exact ⟨RangeRow.Stays.refl _ _ _ _ _, ⟨sv, HA.out, HB.out, HC.out, HD.out⟩, trivial⟩
  · rintro lp pre x a1 V ⟨⟨sv, a, b, c, d⟩, rfl⟩ hlen hsz
    have ca := a.cell
    obtain ⟨v', W', hap, ho', hb', hk'⟩ := add_txt z V sv pre x 26 b (by have := a.lt; omega) (by have := HN.out; omega)
    obtain ⟨g, cap, rfl, hzg⟩ := txt_cons ho'
    have hne : some z ≠ sv.ownBlock := b.ne a (by decide)
    have ha' : Boxed W' z 26 sv := (hk' z a.lt hne).trans a
    have cw := ha'.cell
    have fw := ha'.frozen
    have HNX : Hid (RangeRow.Stays z (z + 1) z 9 V (W'.setCell ⟨z, 0, none⟩ (.slice (some ⟨g, 0, none⟩) (pre.length + 1) cap)) ∧
        Boxed (W'.setCell ⟨z, 0, none⟩ (.slice (some ⟨g, 0, none⟩) (pre.length + 1) cap)) z 26 (.slice (some ⟨g, 0, none⟩) (pre.length + 1) cap) ∧
        TxtIn (W'.setCell ⟨z, 0, none⟩ (.slice (some ⟨g, 0, none⟩) (pre.length + 1) cap)) z (.slice (some ⟨g, 0, none⟩) (pre.length + 1) cap) (pre ++ [x]) ∧
        Below z w (W'.setCell ⟨z, 0, none⟩ (.slice (some ⟨g, 0, none⟩) (pre.length + 1) cap))) := by
      show _ ∧ _
      refine ⟨⟨Nat.le_trans hb'.size (by simp), fun q hq hx hr => ?_⟩, ha'.set _, ?_, (c.trans hb').setCell (by show z ≤ z; omega) _⟩
      · rw [heap_setCell_other _ ⟨z, 0, none⟩ q _ (by show q ≠ z; omega)]
        rcases hr with hr | hr
        · exact hb'.block q hr
        · refine hk' q hq (fun e => ?_)
          rcases b.2 with ⟨rfl, -⟩ | ⟨g2, cap2, cur2, rfl, -, hh, -⟩
          · simp [Value.ownBlock] at e
          · obtain rfl : q = g2 := by simpa [Value.ownBlock] using e
            exact hr _ _ hh
      · refine ho'.of (fun g2 cs hc _ => heap_setCell_other _ ⟨z, 0, none⟩ g2 _ (fun e => ?_))
        have e' : g2 = z := e
        subst e'
        have h2 : W'.heap[g2]? = some (.cells #[sv] 26 (0, 0)) := ha'
        rw [h2] at hc
        simp at hc
    have HD : Hid ((pre ++ [x]).length ≤ N) := by show _ ≤ _; rw [List.length_append]; exact hlen
    clear a b c d ho' hb' hk' hne ha' h1 hzg
    gi_wp2_with (gi_at_builtin; refine KnownIn.appends rfl _ _ 26 rfl rfl rfl hap ?_)
    exact ⟨HNX.out.1, _, HNX.out.2.1, HNX.out.2.2.1, HNX.out.2.2.2, HD.out⟩
  · rintro D xs V hD hS ⟨sv, a, b, c, d⟩ hK
    have ca := a.cell
    have HB := Lib.hid b
    have HC := Lib.hid c
    have HD := Lib.hid d
    have HK := Lib.hid hK
    have HXS := Lib.hid hS
    clear a b c d hK hS h1
    gi_wp2
    refine ⟨by simp, .inl ⟨_, _, rfl, run_takeDeferred HK.out, ?_⟩⟩
    refine ⟨sv, (results_tmp (t := 4) rfl _ _ _).trans rfl, xs, sv, HXS.out, HD.out, rfl, ?_, ?_⟩ <;> rw [hz]
    · exact HB.out.of (fun g cs hc _ => World.putObj_heap_other (fun e => by
        subst e
        rw [HK.out] at hc
        simp at hc))
    · exact HC.out.trans (belowK_b (w := w) (by omega) _ D _ _ (by rw [HS.out] at hD; omega) HK.out rfl rfl)
  · intro _ _ _ _ _ _ h _
    exact h.elim
end Go.Proofs.Ytigoghhjncpgfaa.O.B
