/- A key that waits. -/
import Derived.Test.YtjmiodbpebaajaaWBase
import Derived.Test.YtjmiodbpebaajaaHeldLoad
namespace Go.Proofs.Ytjmiodbpebaajaa.W
open Go Go.RowKit KM
open Go.Lib

def flat (l : List Ky) : List Value := l.flatMap cellsK
theorem flat_add (l : List Ky) (k : Ky) : flat (l ++ [k]) = flat l ++ cellsK k := by
  unfold flat
  simp
/-- A queue: its line, when each is due, and how often each failed. -/
structure QIs (B R : Nat) (W : World) (q bd bf : Nat) (line : List Ky) (due fails : List (Ky × Value)) : Prop where
  at_ : ∃ sl, QAt W q sl bd bf ∧ W.ownsRow R 25 2 sl line.length (flat line)
  due : IsMap encK W bd due
  fails : IsMap encK W bf fails
  low : B ≤ q ∧ B ≤ bd ∧ B ≤ bf
  ne : bd ≠ bf
  rs : B ≤ R ∧ R ≤ W.heap.size
theorem wp_gen {P : Program} {c : Code} {Q : Exit → Act → World → Prop} {a : Act} {W : World} (F : World → Prop) (hF : F W) (h : ∀ W1, F W1 → Code.wp P c Q a W1) : Code.wp P c Q a W := h W hF
theorem then_gen {K : Act → World → Prop} {Q : Exit → Act → World → Prop} {e : Exit} {a : Act} {W : World} (F : World → Prop) (hF : F W) (h : ∀ W1, F W1 → Exit.then K Q e a W1) : Exit.then K Q e a W := h W hF
theorem KAt.new (W : World) (k : Ky) : KAt (W.alloc (.cells #[.int .u8 k.k, .string k.n] 25 (0, 0))) W.heap.size k := heap_alloc_new W _
theorem ownsRow_of {B : Nat} {W W' : World} {e : TypeId} {n : Nat} {v : Value} {m : Nat} {xs : List Value} (h : W.ownsRow B e n v m xs) (he : ∀ (g : Nat) (cs : Array Value), W.heap[g]? = some (Go.Obj.cells cs e (0, 0)) → W'.heap[g]? = W.heap[g]?) : W'.ownsRow B e n v m xs := by
  refine ⟨h.1, ?_⟩
  rcases h.2 with h | ⟨g, cap, cur, h1, h2, h3, h4⟩
  · exact .inl h
  · exact .inr ⟨g, cap, cur, h1, h2, (he g cur h3).trans h3, h4⟩
theorem QIs.turn_due {B R : Nat} {W W' : World} {q bd bf : Nat} {line : List Ky} {due fails due' : List (Ky × Value)} (h : QIs B R W q bd bf line due fails) (ht : Turned W W' bd) (hm : IsMap encK W' bd due') : QIs B R W' q bd bf line due' fails := by
  obtain ⟨sl, ha, hr⟩ := h.at_
  obtain ⟨es, c, hb, -⟩ := h.due
  refine ⟨⟨sl, ha.of_heap (ht.block q fun e => ?_), ownsRow_of hr fun g cs hg => ht.block g fun e => ?_⟩, hm, h.fails.of_heap (ht.block bf fun e => h.ne e.symm), h.low, h.ne, h.rs.1, by rw [ht.size]; exact h.rs.2⟩
  · subst e
    unfold QAt at ha
    rw [hb] at ha
    cases ha
  · subst e
    rw [hb] at hg
    cases hg
theorem QIs.turn_fails {B R : Nat} {W W' : World} {q bd bf : Nat} {line : List Ky} {due fails fails' : List (Ky × Value)} (h : QIs B R W q bd bf line due fails) (ht : Turned W W' bf) (hm : IsMap encK W' bf fails') : QIs B R W' q bd bf line due fails' := by
  obtain ⟨sl, ha, hr⟩ := h.at_
  obtain ⟨es, c, hb, -⟩ := h.fails
  refine ⟨⟨sl, ha.of_heap (ht.block q fun e => ?_), ownsRow_of hr fun g cs hg => ht.block g fun e => ?_⟩, h.due.of_heap (ht.block bd fun e => h.ne e), hm, h.low, h.ne, h.rs.1, by rw [ht.size]; exact h.rs.2⟩
  · subst e
    unfold QAt at ha
    rw [hb] at ha
    cases ha
  · subst e
    rw [hb] at hg
    cases hg
theorem QIs.after {B R : Nat} {W W' : World} {q bd bf : Nat} {line : List Ky} {due fails : List (Ky × Value)} (h : QIs B R W q bd bf line due fails) (hb : Below W.heap.size W W') : QIs B R W' q bd bf line due fails := by
  obtain ⟨sl, ha, hr⟩ := h.at_
  exact ⟨⟨sl, ha.after hb, ownsRow_of hr fun g cs hg => hb.block g (Array.getElem?_eq_some_iff.1 hg).1⟩, h.due.after hb, h.fails.after hb, h.low, h.ne, h.rs.1, Nat.le_trans h.rs.2 hb.size⟩
theorem QIs.drew {B R : Nat} {W : World} {q bd bf : Nat} {line : List Ky} {due fails : List (Ky × Value)} (h : QIs B R W q bd bf line due fails) : QIs B R W.drew q bd bf line due fails := ⟨h.at_, h.due, h.fails, h.low, h.ne, h.rs⟩
theorem QIs.size {B R : Nat} {W : World} {q bd bf : Nat} {line : List Ky} {due fails : List (Ky × Value)} (h : QIs B R W q bd bf line due fails) : B ≤ W.heap.size := by
  obtain ⟨sl, ha, -⟩ := h.at_
  have := ha.lt
  have := h.low.1
  omega

/-- Other blocks than the queue's stay. -/
def Kp (w W : World) (q bd bf : Nat) : Prop := ∀ b, b < w.heap.size → b ≠ q → b ≠ bd → b ≠ bf → (∀ sl, QAt w q sl bd bf → some b ≠ sl.ownBlock) → W.heap[b]? = w.heap[b]?

set_option maxRecDepth 100000 in
set_option maxHeartbeats 4000000 in
/-- One that waits already. -/
theorem wait_old (B R q bd bf : Nat) (line : List Ky) (due fails : List (Ky × Value)) (k : Ky) (d : Int) (v : Value) (w : World) (h : QIs B R w q bd bf line due fails) (hv : KM.get k due = some v) :
    Calls Try.prog 37 #[.pointer (some ⟨q, 0, none⟩), encK k, .int .u64 d] w fun e w' => e = .returned (.int .i64 0) ∧ QIs B R w' q bd bf line (KM.put k (.int .u64 d) due) fails ∧ Below B w w' ∧ Kp w w' q bd bf := by
  have HV := Lib.hid hv
  have H0 := Lib.hid h
  clear h hv
  unfold encK
  go_enter Try.func37, Try.ntmps37
  go_upto_region 1 with (fail)
  refine wp_gen (fun V => KAt V w.heap.size k ∧ QIs B R V q bd bf line due fails ∧ Below w.heap.size w V) ⟨KAt.new w k, H0.out.after ((Below.refl _ _).alloc (Nat.le_refl _) _), (Below.refl _ _).alloc (Nat.le_refl _) _⟩ ?_
  have hBw := H0.out.size
  clear H0
  rintro V ⟨hk, hq, hlow⟩
  obtain ⟨sl, ha, hr⟩ := hq.at_
  have HQ := Lib.hid hq
  have HK := Lib.hid hk
  have HA := Lib.hid ha
  have HD := Lib.hid hq.due
  have HL := Lib.hid hlow
  clear hk hq hlow ha hr
  refine wp_region_held_drew (S := fun V => QAt V q sl bd bf ∧ IsMap encK V bd due ∧ KAt V w.heap.size k ∧ QIs B R V q bd bf line due fails ∧ Below w.heap.size w V) (by kernel_rfl) ⟨HA.out, HD.out, HK.out, HQ.out.drew, HL.out.drew⟩ (fun _ => ?_)
  refine HeldBy.gen (fun V => QAt V q sl bd bf ∧ IsMap encK V bd due ∧ KAt V w.heap.size k ∧ QIs B R V q bd bf line due fails ∧ Below w.heap.size w V) ⟨HA.out, HD.out, HK.out, HQ.out.drew, HL.out.drew⟩ ?_
  clear HA HD HK HQ HL
  rintro U0 HS
  refine HeldBy.take (i := 0) rfl (by kernel_rfl) (by kernel_rfl) (by kernel_rfl) (fun _ _ _ h => h) (by rfl) (fun _ _ => by first | (go_simp; rfl) | (go_simp; done)) (by go_simp; rfl) HS ?_
  refine HeldBy.take (i := 1) rfl (by kernel_rfl) (by kernel_rfl) (by kernel_rfl) (fun _ _ _ h => h) (by rfl) (fun _ _ => by first | (go_simp; rfl) | (go_simp; done)) (by go_simp; rfl) HS ?_
  refine HeldBy.take (i := 2) rfl (by kernel_rfl) (by kernel_rfl) (by kernel_rfl) (fun _ _ _ h => h) (by rfl) (fun _ _ => by first | (go_simp; rfl) | (go_simp; done)) (by go_simp; rfl) HS ?_
  refine HeldBy.take (i := 3) rfl (by kernel_rfl) (by kernel_rfl) (by kernel_rfl) (fun _ _ _ h => h) (by rfl) (fun V hV => by have hc := hV.1.c1; first | (go_simp; rfl) | (go_simp; done)) (by go_simp; rfl) HS ?_
  refine HeldBy.take (i := 4) rfl (by kernel_rfl) (by kernel_rfl) (by kernel_rfl) (fun _ _ _ h => h) (by rfl) (fun V hV => by have h0 := hV.2.2.1.c0; have h1 := hV.2.2.1.c1; first | (go_simp; rfl) | (go_simp; done)) (by go_simp; rfl) HS ?_
  refine HeldBy.take (i := 5) (v := .tuple #[v, .bool true]) rfl (by kernel_rfl) (by kernel_rfl) (by kernel_rfl) (fun _ _ _ h => h) (by rfl) (fun V hV => exec_lookup_ok rfl und_tU rfl rfl hV.2.1 HV.out) (by go_simp; rfl) HS ?_
  refine HeldBy.take (i := 6) rfl (by kernel_rfl) (by kernel_rfl) (by kernel_rfl) (fun _ _ _ h => h) (by rfl) (fun _ _ => by first | (go_simp; rfl) | (go_simp; done)) (by go_simp; rfl) HS ?_
  refine HeldBy.take (i := 7) rfl (by kernel_rfl) (by kernel_rfl) (by kernel_rfl) (fun _ _ _ h => h) (by rfl) (fun _ _ => by first | (go_simp; rfl) | (go_simp; done)) (by go_simp; rfl) HS ?_
  refine HeldBy.take (i := 8) rfl (by kernel_rfl) (by kernel_rfl) (by kernel_rfl) (fun _ _ _ h => h) (by rfl) (fun _ _ => by first | (go_simp; rfl) | (go_simp; done)) (by go_simp; rfl) HS ?_
  refine HeldBy.take (i := 9) rfl (by kernel_rfl) (by kernel_rfl) (by kernel_rfl) (fun _ _ _ h => h) (by rfl) (fun _ _ => by first | (go_simp; rfl) | (go_simp; done)) (by go_simp; rfl) HS ?_
  refine HeldBy.take (i := 10) rfl (by kernel_rfl) (by kernel_rfl) (by kernel_rfl) (fun _ _ _ h => h) (by rfl) (fun _ _ => by first | (go_simp; rfl) | (go_simp; done)) (by go_simp; rfl) HS ?_
  refine wpAnyH_done (by kernel_rfl) ?_ _
  have HA := Lib.hid HS.1
  have HK := Lib.hid HS.2.2.1
  have HQ := Lib.hid HS.2.2.2.1
  have HL := Lib.hid HS.2.2.2.2
  have HD := Lib.hid HS.2.1
  clear HS
  go_upto_region 6 with (fail)
  refine wp_region_held_drew (S := fun V => QAt V q sl bd bf ∧ KAt V w.heap.size k) (by kernel_rfl) ⟨HA.out, HK.out⟩ (fun _ => ?_)
  refine HeldBy.gen (fun V => (QAt V q sl bd bf ∧ KAt V w.heap.size k) ∧ (QIs B R V q bd bf line due fails) ∧ (Below w.heap.size w V)) ⟨⟨HA.out, HK.out⟩, HQ.out.drew, HL.out.drew⟩ ?_
  clear HA HK HQ HL
  rintro U0 ⟨HS, HQ, HL⟩
  refine HeldBy.take (i := 0) rfl (by kernel_rfl) (by kernel_rfl) (by kernel_rfl) (fun _ _ _ h => h) (by rfl) (fun _ _ => by first | (go_simp; rfl) | (go_simp; done)) (by first | (go_simp; rfl) | (go_simp; done)) HS ?_
  refine HeldBy.take (i := 1) rfl (by kernel_rfl) (by kernel_rfl) (by kernel_rfl) (fun _ _ _ h => h) (by rfl) (fun _ _ => by first | (go_simp; rfl) | (go_simp; done)) (by first | (go_simp; rfl) | (go_simp; done)) HS ?_
  refine HeldBy.take (i := 2) rfl (by kernel_rfl) (by kernel_rfl) (by kernel_rfl) (fun _ _ _ h => h) (by rfl) (fun _ _ => by first | (go_simp; rfl) | (go_simp; done)) (by first | (go_simp; rfl) | (go_simp; done)) HS ?_
  refine HeldBy.take (i := 3) rfl (by kernel_rfl) (by kernel_rfl) (by kernel_rfl) (fun _ _ _ h => h) (by rfl) (fun V hV => by have hc := hV.1.c1; first | (go_simp; rfl) | (go_simp; done)) (by first | (go_simp; rfl) | (go_simp; done)) HS ?_
  refine HeldBy.take (i := 4) rfl (by kernel_rfl) (by kernel_rfl) (by kernel_rfl) (fun _ _ _ h => h) (by rfl) (fun V hV => by have h0 := hV.2.c0; have h1 := hV.2.c1; first | (go_simp; rfl) | (go_simp; done)) (by first | (go_simp; rfl) | (go_simp; done)) HS ?_
  refine HeldBy.take (i := 5) rfl (by kernel_rfl) (by kernel_rfl) (by kernel_rfl) (fun _ _ _ h => h) (by rfl) (fun _ _ => by first | (go_simp; rfl) | (go_simp; done)) (by first | (go_simp; rfl) | (go_simp; done)) HS ?_
  obtain ⟨W', hrun, hm, ht⟩ := exec_update HQ.due k (.int .u64 d) und_tU
  have hqd : q ≠ bd := fun e => by
    obtain ⟨es, c, hb, -⟩ := HQ.due
    have ha := HS.1
    subst e
    unfold QAt at ha
    rw [hb] at ha
    cases ha
  have hkd : w.heap.size ≠ bd := fun e => by
    obtain ⟨es, c, hb, -⟩ := HQ.due
    have ha := HS.2
    unfold KAt at ha
    rw [e, hb] at ha
    cases ha
  refine HeldBy.store (i := 6) (w' := W') rfl (by kernel_rfl) (by rfl) (hrun rfl rfl rfl rfl) (by go_simp; rfl) ⟨HS.1.of_heap (ht.block q hqd), HS.2.of_heap (ht.block _ hkd)⟩ ?_
  refine wpAnyH_done (by kernel_rfl) ?_ _
  have HF := Lib.hid (HQ.turn_due ht hm)
  have HG := Lib.hid ((HL.mono hBw).trans (ht.below HQ.low.2.1))
  have HP : Hid (Kp w W' q bd bf) := fun b hb h1 h2 h3 h4 => (ht.block b h2).trans (HL.block b hb)
  clear HQ HL ht hm hrun HS
  go_wp2
  go_ret
  exact ⟨rfl, HF.out, HG.out, HP.out⟩

theorem news_key (W : World) (k : Ky) : ∀ (j : Nat) u, (cellsK k)[j]? = some u → (W.alloc (.cells #[.int .u8 k.k, .string k.n] 25 (0, 0))).cell? ((⟨W.heap.size, 0, none⟩ : Addr).add j) = some u := by
  intro j u hj
  have hb : KAt (W.alloc (.cells #[.int .u8 k.k, .string k.n] 25 (0, 0))) W.heap.size k := KAt.new W k
  have ha : ((⟨W.heap.size, 0, none⟩ : Addr).add j) = ⟨W.heap.size, j, none⟩ := by
    unfold Addr.add
    simp
    exact fun h => h.symm
  rw [ha]
  have hl : j < 2 := by
    have := (List.getElem?_eq_some_iff.1 hj).1
    simpa [cellsK] using this
  rcases (by omega : j = 0 ∨ j = 1) with rfl | rfl
  · simp only [cellsK, List.getElem?_cons_zero, Option.some.injEq] at hj
    subst hj
    exact hb.c0
  · simp only [cellsK, List.getElem?_cons_succ, List.getElem?_cons_zero, Option.some.injEq] at hj
    subst hj
    exact hb.c1
end Go.Proofs.Ytjmiodbpebaajaa.W
