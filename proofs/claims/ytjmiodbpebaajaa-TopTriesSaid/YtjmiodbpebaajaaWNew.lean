/- A key that did not wait. -/
import Derived.Test.YtjmiodbpebaajaaWWait
namespace Go.Proofs.Ytjmiodbpebaajaa.W
open Go Go.RowKit KM
open Go.Lib

theorem key_info : ∃ i, Try.prog.info? 25 = some i ∧ i.zero = some (.agg #[.int .u8 0, .string ⟨#[]⟩]) ∧ i.size = 2 ∧ i.bytes = 24 := by
  have h : (Try.prog.info? 25).map (fun i => (i.zero, i.size, i.bytes)) = some (some (.agg #[.int .u8 0, .string ⟨#[]⟩]), 2, 24) := by kernel_rfl
  cases hi : Try.prog.info? 25 with
  | none => rw [hi] at h; cases h
  | some i =>
    rw [hi] at h
    simp only [Option.map_some, Option.some.injEq, Prod.mk.injEq] at h
    exact ⟨i, rfl, h.1, h.2.1, h.2.2⟩
theorem exec_append {W W' : World} {oi : Oper} {a : Act} {p r : Operand} {t : TypeId} {x y v : Value} (ho : oi.op = .call { callee := .builtin .append, args := #[p, r], argTypes := #[t, t] }) (hp : a.eval p = x) (hr : a.eval r = y)
    (h : (Builtin.append_ #[t, t] oi.type #[x, y]).run Try.prog W = .ok v W') : (execOp a.eval oi).run Try.prog W = .ok (.value v) W' := by
  unfold execOp
  simp [ho, resolve, invoke, builtin, hp, hr, h, Result.andThen]
theorem add_key (R : Nat) (W : World) (sl : Value) (line : List Ky) (k : Ky) (ty : TypeId) (hr : W.ownsRow R 25 2 sl line.length (flat line)) (hB : R ≤ W.heap.size) (hn : line.length < 256) :
    ∃ v' W', (Builtin.append_ #[37, 37] ty #[sl, .slice (some ⟨W.heap.size, 0, none⟩) 1 1]).run Try.prog (W.alloc (.cells #[.int .u8 k.k, .string k.n] 25 (0, 0))) = .ok v' W' ∧
      W'.ownsRow R 25 2 v' (line ++ [k]).length (flat (line ++ [k])) ∧ (W.alloc (.cells #[.int .u8 k.k, .string k.n] 25 (0, 0))).grownBy W' sl.ownBlock ∧ ∃ g c, v' = .slice (some ⟨g, 0, none⟩) (line ++ [k]).length c := by
  obtain ⟨i, hi, hz, hs, hb⟩ := key_info
  have hr1 : (W.alloc (.cells #[.int .u8 k.k, .string k.n] 25 (0, 0))).ownsRow R 25 2 sl line.length (flat line) := ownsRow_of hr fun g cs hg => Below.heap_alloc W _ g (Array.getElem?_eq_some_iff.1 hg).1
  have h1 : ∀ u ∈ cellsK k, u.oneCell' = true := by
    intro u hu
    simp only [cellsK, List.mem_cons, List.not_mem_nil, or_false] at hu
    rcases hu with rfl | rfl <;> rfl
  obtain ⟨v', W', h2, h3, h4, -⟩ := run_append_own (P := Try.prog) (W.alloc (.cells #[.int .u8 k.k, .string k.n] 25 (0, 0))) R 37 ty 25 i (.agg #[.int .u8 0, .string ⟨#[]⟩]) 2 24 Try.underlying37 hi hz hs hb rfl (by decide) sl line.length (flat line) hr1 ⟨W.heap.size, 0, none⟩ 1 1 (cellsK k) rfl (news_key W k) h1 (by unfold maxLen; omega) (by omega) (by simp; omega)
  have h5 : W'.ownsRow R 25 2 v' (line ++ [k]).length (flat (line ++ [k])) := by
    rw [flat_add, List.length_append]
    exact h3
  refine ⟨v', W', h2, h5, h4, ?_⟩
  rcases h5.2 with ⟨-, h⟩ | ⟨g, cap, cur, h, -⟩
  · simp at h
  · exact ⟨g, cap, h⟩
theorem row_lt {B : Nat} {W : World} {e : TypeId} {z : Nat} {sl : Value} {n : Nat} {xs : List Value} (hr : W.ownsRow B e z sl n xs) : ∀ g, sl.ownBlock = some g → g < W.heap.size := by
  intro g' h
  rcases hr.2 with ⟨rfl, -⟩ | ⟨g, cap, cur, rfl, -, hg, -⟩
  · cases h
  · cases h
    exact (Array.getElem?_eq_some_iff.1 hg).1
theorem row_low {B : Nat} {W : World} {e : TypeId} {z : Nat} {sl : Value} {n : Nat} {xs : List Value} (hr : W.ownsRow B e z sl n xs) : ∀ g, sl.ownBlock = some g → B ≤ g := by
  intro g' h
  rcases hr.2 with ⟨rfl, -⟩ | ⟨g, cap, cur, rfl, h2, -⟩
  · cases h
  · cases h
    exact h2
theorem row_far {R : Nat} {W : World} {sl : Value} {n : Nat} {xs : List Value} (hr : W.ownsRow R 25 2 sl n xs) {b : Nat} (hb : ∀ cs, W.heap[b]? ≠ some (Go.Obj.cells cs 25 (0, 0))) : some b ≠ sl.ownBlock := by
  rcases hr.2 with ⟨rfl, -⟩ | ⟨g, cap, cur, rfl, -, hg, -⟩
  · simp [Value.ownBlock]
  · intro e
    simp only [Value.ownBlock, Option.some.injEq] at e
    subst e
    exact hb _ hg

set_option maxRecDepth 100000 in
set_option maxHeartbeats 4000000 in
/-- One that did not wait, and there is room. -/
theorem wait_new (B R q bd bf : Nat) (line : List Ky) (due fails : List (Ky × Value)) (k : Ky) (d : Int) (w : World) (h : QIs B R w q bd bf line due fails) (hv : KM.get k due = none) (hn : line.length < 256) :
    Calls Try.prog 37 #[.pointer (some ⟨q, 0, none⟩), encK k, .int .u64 d] w fun e w' => e = .returned (.int .i64 0) ∧ QIs B R w' q bd bf (line ++ [k]) (KM.put k (.int .u64 d) due) fails ∧ Below B w w' ∧ Kp w w' q bd bf := by
  obtain ⟨sl, ha0, hr0⟩ := h.at_
  have hrb := row_lt hr0
  have HA0 := Lib.hid ha0
  have HR0 := Lib.hid hr0
  have HV := Lib.hid hv
  have H0 := Lib.hid h
  clear h hv ha0 hr0
  unfold encK
  go_enter Try.func37, Try.ntmps37
  go_upto_region 1 with (fail)
  refine wp_gen (fun V => KAt V w.heap.size k ∧ QIs B R V q bd bf line due fails ∧ Below w.heap.size w V ∧ QAt V q sl bd bf ∧ V.ownsRow R 25 2 sl line.length (flat line)) ⟨KAt.new w k, H0.out.after ((Below.refl _ _).alloc (Nat.le_refl _) _), (Below.refl _ _).alloc (Nat.le_refl _) _, HA0.out.after ((Below.refl _ _).alloc (Nat.le_refl _) _), ownsRow_of HR0.out fun g cs hg => Below.heap_alloc w _ g (Array.getElem?_eq_some_iff.1 hg).1⟩ ?_
  have hBw := H0.out.size
  have HA00 := Lib.hid HA0.out
  clear H0 HA0 HR0
  rintro V ⟨hk, hq, hlow, ha, hr⟩
  have HQ := Lib.hid hq
  have HK := Lib.hid hk
  have HA := Lib.hid ha
  have HD := Lib.hid hq.due
  have HR := Lib.hid hr
  have HL := Lib.hid hlow
  clear hk hq hlow ha hr
  refine wp_region_held_drew (S := fun V => QAt V q sl bd bf ∧ IsMap encK V bd due ∧ KAt V w.heap.size k ∧ QIs B R V q bd bf line due fails ∧ V.ownsRow R 25 2 sl line.length (flat line) ∧ Below w.heap.size w V) (by kernel_rfl) ⟨HA.out, HD.out, HK.out, HQ.out.drew, HR.out, HL.out.drew⟩ (fun _ => ?_)
  refine HeldBy.gen (fun V => QAt V q sl bd bf ∧ IsMap encK V bd due ∧ KAt V w.heap.size k ∧ QIs B R V q bd bf line due fails ∧ V.ownsRow R 25 2 sl line.length (flat line) ∧ Below w.heap.size w V) ⟨HA.out, HD.out, HK.out, HQ.out.drew, HR.out, HL.out.drew⟩ ?_
  clear HA HD HK HQ HR HL
  rintro U0 HS
  refine HeldBy.take (i := 0) rfl (by kernel_rfl) (by kernel_rfl) (by kernel_rfl) (fun _ _ _ h => h) (by rfl) (fun _ _ => by first | (go_simp; rfl) | (go_simp; done)) (by go_simp; rfl) HS ?_
  refine HeldBy.take (i := 1) rfl (by kernel_rfl) (by kernel_rfl) (by kernel_rfl) (fun _ _ _ h => h) (by rfl) (fun _ _ => by first | (go_simp; rfl) | (go_simp; done)) (by go_simp; rfl) HS ?_
  refine HeldBy.take (i := 2) rfl (by kernel_rfl) (by kernel_rfl) (by kernel_rfl) (fun _ _ _ h => h) (by rfl) (fun _ _ => by first | (go_simp; rfl) | (go_simp; done)) (by go_simp; rfl) HS ?_
  refine HeldBy.take (i := 3) rfl (by kernel_rfl) (by kernel_rfl) (by kernel_rfl) (fun _ _ _ h => h) (by rfl) (fun V hV => by have hc := hV.1.c1; first | (go_simp; rfl) | (go_simp; done)) (by go_simp; rfl) HS ?_
  refine HeldBy.take (i := 4) rfl (by kernel_rfl) (by kernel_rfl) (by kernel_rfl) (fun _ _ _ h => h) (by rfl) (fun V hV => by have h0 := hV.2.2.1.c0; have h1 := hV.2.2.1.c1; first | (go_simp; rfl) | (go_simp; done)) (by go_simp; rfl) HS ?_
  refine HeldBy.take (i := 5) (v := .tuple #[.int .u64 0, .bool false]) rfl (by kernel_rfl) (by kernel_rfl) (by kernel_rfl) (fun _ _ _ h => h) (by rfl) (fun V hV => exec_lookup_no rfl und_tU zero_u rfl rfl hV.2.1 HV.out) (by go_simp; rfl) HS ?_
  refine HeldBy.take (i := 6) rfl (by kernel_rfl) (by kernel_rfl) (by kernel_rfl) (fun _ _ _ h => h) (by rfl) (fun _ _ => by first | (go_simp; rfl) | (go_simp; done)) (by go_simp; rfl) HS ?_
  refine HeldBy.take (i := 7) rfl (by kernel_rfl) (by kernel_rfl) (by kernel_rfl) (fun _ _ _ h => h) (by rfl) (fun _ _ => by first | (go_simp; rfl) | (go_simp; done)) (by go_simp; rfl) HS ?_
  refine HeldBy.take (i := 8) rfl (by kernel_rfl) (by kernel_rfl) (by kernel_rfl) (fun _ _ _ h => h) (by rfl) (fun _ _ => by first | (go_simp; rfl) | (go_simp; done)) (by go_simp; rfl) HS ?_
  refine HeldBy.take (i := 9) rfl (by kernel_rfl) (by kernel_rfl) (by kernel_rfl) (fun _ _ _ h => h) (by rfl) (fun _ _ => by first | (go_simp; rfl) | (go_simp; done)) (by go_simp; rfl) HS ?_
  refine HeldBy.take (i := 10) rfl (by kernel_rfl) (by kernel_rfl) (by kernel_rfl) (fun _ _ _ h => h) (by rfl) (fun _ _ => by first | (go_simp; rfl) | (go_simp; done)) (by go_simp; rfl) HS ?_
  refine wpAnyH_done (by kernel_rfl) ?_ _
  have HA := Lib.hid HS.1
  have HK := Lib.hid HS.2.2.1
  have HQ := Lib.hid HS.2.2.2.1
  have HR := Lib.hid HS.2.2.2.2.1
  have HL := Lib.hid HS.2.2.2.2.2
  clear HS
  have hshape : (sl = .slice none 0 0 ∧ line.length = 0) ∨ ∃ g cap, sl = .slice (some ⟨g, 0, none⟩) line.length cap := by
    rcases HR.out.2 with ⟨h1, h2⟩ | ⟨g, cap, cur, h1, -⟩
    · exact .inl ⟨h1, h2⟩
    · exact .inr ⟨g, cap, h1⟩
  have hlen : (line.length : Int) < 256 := by omega
  generalize hN : line.length = N at hlen hshape
  rcases hshape with ⟨rfl, rfl⟩ | ⟨g, cap, rfl⟩
  · have c0 := HA.out.c0
    go_upto_region 5 with (fail)
    clear c0
    have HZ : Hid (∃ s, QAt _ q s bd bf) := ⟨_, HA.out⟩
    refine wp_region_held_drew (S := fun V => (∃ s, QAt V q s bd bf) ∧ KAt V w.heap.size k) (by kernel_rfl) ⟨HZ.out, HK.out⟩ (fun _ => ?_)
    refine HeldBy.gen (fun V => ((∃ s, QAt V q s bd bf) ∧ KAt V w.heap.size k) ∧ (QAt V q (.slice none 0 0) bd bf) ∧ (QIs B R V q bd bf line due fails) ∧ (V.ownsRow R 25 2 (.slice none 0 0) line.length (flat line)) ∧ (Below w.heap.size w V)) ⟨⟨HZ.out, HK.out⟩, HA.out, HQ.out.drew, HR.out, HL.out.drew⟩ ?_
    clear HZ HK HA HQ HR HL
    rintro U0 ⟨HS, HA, HQ, HR, HL⟩
    refine HeldBy.take (i := 0) rfl (by kernel_rfl) (by kernel_rfl) (by kernel_rfl) (fun _ _ _ h => h) (by rfl) (fun _ _ => by first | (go_simp; rfl) | (go_simp; done)) (by first | (go_simp; rfl) | (go_simp; done)) HS ?_
    refine HeldBy.take (i := 1) rfl (by kernel_rfl) (by kernel_rfl) (by kernel_rfl) (fun _ _ _ h => h) (by rfl) (fun _ _ => by first | (go_simp; rfl) | (go_simp; done)) (by first | (go_simp; rfl) | (go_simp; done)) HS ?_
    refine HeldBy.take (i := 2) rfl (by kernel_rfl) (by kernel_rfl) (by kernel_rfl) (fun _ _ _ h => h) (by rfl) (fun _ _ => by first | (go_simp; rfl) | (go_simp; done)) (by first | (go_simp; rfl) | (go_simp; done)) HS ?_
    refine HeldBy.take (i := 3) rfl (by kernel_rfl) (by kernel_rfl) (by kernel_rfl) (fun _ _ _ h => h) (by rfl) (fun _ _ => by first | (go_simp; rfl) | (go_simp; done)) (by first | (go_simp; rfl) | (go_simp; done)) HS ?_
    refine HeldBy.take (i := 5) rfl (by kernel_rfl) (by kernel_rfl) (by kernel_rfl) (fun _ _ _ h => h) (by rfl) (fun V hV => by have h0 := hV.2.c0; have h1 := hV.2.c1; first | (go_simp; rfl) | (go_simp; done)) (by first | (go_simp; rfl) | (go_simp; done)) HS ?_
    have hBU := HQ.size
    have c0 := HA.c0
    have hal : Below U0.heap.size U0 (U0.alloc (.cells #[.int .u8 k.k, .string k.n] 25 (0, 0))) := (Below.refl _ _).alloc (Nat.le_refl _) _
    have c0' := (HA.after hal).c0
    obtain ⟨_, W2, hrun, hown, hgrow, g1, cap1, rfl⟩ := add_key R U0 (.slice none 0 0) line k 37 HR HQ.rs.2 hn
    have hqf : some q ≠ Value.ownBlock (.slice none 0 0) := row_far HR fun cs e => by
      have := HA
      unfold QAt at this
      rw [this] at e
      cases e
    have hdf : some bd ≠ Value.ownBlock (.slice none 0 0) := row_far HR fun cs e => by
      obtain ⟨es, c, hb, -⟩ := HQ.due
      rw [hb] at e
      cases e
    have hff : some bf ≠ Value.ownBlock (.slice none 0 0) := row_far HR fun cs e => by
      obtain ⟨es, c, hb, -⟩ := HQ.fails
      rw [hb] at e
      cases e
    have hkf : some w.heap.size ≠ Value.ownBlock (.slice none 0 0) := fun e => by have := hrb _ e.symm; omega
    have hrow : ∀ g', Value.ownBlock (.slice none 0 0) = some g' → B ≤ g' := fun g' h => Nat.le_trans HQ.rs.1 (row_low HR g' h)
    have HA1 := HA.after hal
    have HK1 := HS.2.after hal
    refine HeldBy.load_make (i := 4) (k := 6) (u := .slice none 0 0) (v := .slice (some ⟨U0.heap.size, 0, none⟩) 1 1) (w' := U0.alloc (.cells #[.int .u8 k.k, .string k.n] 25 (0, 0))) (by kernel_rfl) (by kernel_rfl) (by kernel_rfl) rfl rfl rfl rfl (by go_simp) (by go_simp) (by go_simp) (by go_simp) HS ⟨⟨_, HA1⟩, HK1⟩ (by go_simp; rfl) (by first | (go_simp; done) | (go_simp; rfl)) rfl (by kernel_rfl) ?_
    refine HeldBy.value (i := 7) (v := (.slice (some ⟨g1, 0, none⟩) (line ++ [k]).length cap1)) (w' := W2) rfl (by kernel_rfl) (by rfl) (exec_append rfl rfl rfl hrun) (by go_simp; rfl) ⟨⟨_, HA1.of_heap (hgrow.block q HA1.lt hqf)⟩, HK1.of_heap (hgrow.block _ HK1.lt hkf)⟩ ?_
    have HA2 : QAt W2 q (.slice none 0 0) bd bf := HA1.of_heap (hgrow.block q HA1.lt hqf)
    have HK2 : KAt W2 w.heap.size k := HK1.of_heap (hgrow.block _ HK1.lt hkf)
    have HD2 : IsMap encK W2 bd due := (HQ.after hal).due.of_heap (hgrow.block bd (HQ.after hal).due.lt hdf)
    have HF2 : IsMap encK W2 bf fails := (HQ.after hal).fails.of_heap (hgrow.block bf (HQ.after hal).fails.lt hff)
    have hlow2 := HQ.low
    have hrs2 : B ≤ R ∧ R ≤ W2.heap.size := ⟨HQ.rs.1, by have := HQ.rs.2; have := hgrow.size; simp at this; omega⟩
    have hne2 := HQ.ne
    have HL2 : Below B w W2 := ((HL.mono hBw).alloc hBU _).grown hgrow (by simp; omega) hrow
    have HP2 : Kp w W2 q bd bf := fun b hb h1 h2 h3 h4 => (hgrow.block b (by have := HL.size; simp; omega) (h4 _ HA00.out)).trans ((hal.block b (by have := HL.size; omega)).trans (HL.block b hb))
    clear HA HA1 HK1 HQ HR HL hgrow hrun hal c0 c0'
    refine HeldBy.take (i := 8) rfl (by kernel_rfl) (by kernel_rfl) (by kernel_rfl) (fun _ _ _ h => h) (by rfl) (fun _ _ => by first | (go_simp; rfl) | (go_simp; done)) (by first | (go_simp; rfl) | (go_simp; done)) ⟨⟨_, HA2⟩, HK2⟩ ?_
    refine HeldBy.take (i := 9) rfl (by kernel_rfl) (by kernel_rfl) (by kernel_rfl) (fun _ _ _ h => h) (by rfl) (fun _ _ => by first | (go_simp; rfl) | (go_simp; done)) (by first | (go_simp; rfl) | (go_simp; done)) ⟨⟨_, HA2⟩, HK2⟩ ?_
    have fz := HA2.free 0
    have cz := HA2.c0
    have hkq : w.heap.size ≠ q := fun e => by
      have h1 := HK2
      have h2 := HA2
      unfold KAt at h1
      unfold QAt at h2
      rw [e, h2] at h1
      cases h1
    refine HeldBy.store (i := 10) (w' := W2.setCell ⟨q, 0, none⟩ (.slice (some ⟨g1, 0, none⟩) (line ++ [k]).length cap1)) rfl (by kernel_rfl) (by rfl) (by go_simp) (by go_simp; rfl) ⟨⟨_, HA2.s0 (.slice (some ⟨g1, 0, none⟩) (line ++ [k]).length cap1)⟩, HK2.of_heap (heap_setCell_other W2 ⟨q, 0, none⟩ _ (.slice (some ⟨g1, 0, none⟩) (line ++ [k]).length cap1) hkq)⟩ ?_
    refine wpAnyH_done (by kernel_rfl) ?_ _
    have HA3 := HA2.s0 (.slice (some ⟨g1, 0, none⟩) (line ++ [k]).length cap1)
    have HK3 : KAt (W2.setCell ⟨q, 0, none⟩ (.slice (some ⟨g1, 0, none⟩) (line ++ [k]).length cap1)) w.heap.size k := HK2.of_heap (heap_setCell_other W2 ⟨q, 0, none⟩ _ (.slice (some ⟨g1, 0, none⟩) (line ++ [k]).length cap1) hkq)
    have hs : ∀ b, b ≠ q → (W2.setCell ⟨q, 0, none⟩ (.slice (some ⟨g1, 0, none⟩) (line ++ [k]).length cap1)).heap[b]? = W2.heap[b]? := fun b hb => heap_setCell_other W2 ⟨q, 0, none⟩ b (.slice (some ⟨g1, 0, none⟩) (line ++ [k]).length cap1) hb
    have HQ3 : QIs B R (W2.setCell ⟨q, 0, none⟩ (.slice (some ⟨g1, 0, none⟩) (line ++ [k]).length cap1)) q bd bf (line ++ [k]) due fails := by
      refine ⟨⟨(.slice (some ⟨g1, 0, none⟩) (line ++ [k]).length cap1), HA3, ownsRow_of hown fun g' cs hg' => hs g' fun e => ?_⟩, HD2.of_heap (hs bd fun e => ?_), HF2.of_heap (hs bf fun e => ?_), hlow2, hne2, hrs2.1, by simpa using hrs2.2⟩
      · subst e
        have h2 := HA2
        unfold QAt at h2
        rw [h2] at hg'
        cases hg'
      · obtain ⟨es, c, hb, -⟩ := HD2
        subst e
        have h2 := HA2
        unfold QAt at h2
        rw [h2] at hb
        cases hb
      · obtain ⟨es, c, hb, -⟩ := HF2
        subst e
        have h2 := HA2
        unfold QAt at h2
        rw [h2] at hb
        cases hb
    refine then_gen (fun V => QAt V q (.slice (some ⟨g1, 0, none⟩) (line ++ [k]).length cap1) bd bf ∧ KAt V w.heap.size k ∧ QIs B R V q bd bf (line ++ [k]) due fails ∧ Kp w V q bd bf ∧ Below B w V) ⟨HA3, HK3, HQ3, (fun b hb h1 h2 h3 h4 => (hs b h1).trans (HP2 b hb h1 h2 h3 h4)), HL2.setCell (p := ⟨q, 0, none⟩) hlow2.1 (.slice (some ⟨g1, 0, none⟩) (line ++ [k]).length cap1)⟩ ?_
    clear HA2 HK2 HD2 HF2 HL2 HP2 HA3 HK3 HQ3 hs hkq fz cz hown
    rintro V3 ⟨ha, hk, hq, hp, hl⟩
    have HA := Lib.hid ha
    have HK := Lib.hid hk
    have HQ := Lib.hid hq
    have HL := Lib.hid hl
    have HP := Lib.hid hp
    clear ha hk hq hl hp
    go_upto_region 6 with (fail)
    refine wp_region_held_drew (S := fun V => QAt V q (.slice (some ⟨g1, 0, none⟩) (line ++ [k]).length cap1) bd bf ∧ KAt V w.heap.size k) (by kernel_rfl) ⟨HA.out, HK.out⟩ (fun _ => ?_)
    refine HeldBy.gen (fun V => (QAt V q (.slice (some ⟨g1, 0, none⟩) (line ++ [k]).length cap1) bd bf ∧ KAt V w.heap.size k) ∧ (QIs B R V q bd bf (line ++ [k]) due fails) ∧ (Kp w V q bd bf) ∧ (Below B w V)) ⟨⟨HA.out, HK.out⟩, HQ.out.drew, HP.out, HL.out.drew⟩ ?_
    clear HA HK HQ HP HL
    rintro U0 ⟨HS, HQ, HP, HL⟩
    refine HeldBy.take (i := 0) rfl (by kernel_rfl) (by kernel_rfl) (by kernel_rfl) (fun _ _ _ h => h) (by rfl) (fun _ _ => by first | (go_simp; rfl) | (go_simp; done)) (by first | (go_simp; rfl) | (go_simp; done)) HS ?_
    refine HeldBy.take (i := 1) rfl (by kernel_rfl) (by kernel_rfl) (by kernel_rfl) (fun _ _ _ h => h) (by rfl) (fun _ _ => by first | (go_simp; rfl) | (go_simp; done)) (by first | (go_simp; rfl) | (go_simp; done)) HS ?_
    refine HeldBy.take (i := 2) rfl (by kernel_rfl) (by kernel_rfl) (by kernel_rfl) (fun _ _ _ h => h) (by rfl) (fun _ _ => by first | (go_simp; rfl) | (go_simp; done)) (by first | (go_simp; rfl) | (go_simp; done)) HS ?_
    refine HeldBy.take (i := 3) rfl (by kernel_rfl) (by kernel_rfl) (by kernel_rfl) (fun _ _ _ h => h) (by rfl) (fun V hV => by have hc := hV.1.c1; first | (go_simp; rfl) | (go_simp; done)) (by first | (go_simp; rfl) | (go_simp; done)) HS ?_
    refine HeldBy.take (i := 4) rfl (by kernel_rfl) (by kernel_rfl) (by kernel_rfl) (fun _ _ _ h => h) (by rfl) (fun V hV => by have h0 := hV.2.c0; have h1 := hV.2.c1; first | (go_simp; rfl) | (go_simp; done)) (by first | (go_simp; rfl) | (go_simp; done)) HS ?_
    refine HeldBy.take (i := 5) rfl (by kernel_rfl) (by kernel_rfl) (by kernel_rfl) (fun _ _ _ h => h) (by rfl) (fun _ _ => by first | (go_simp; rfl) | (go_simp; done)) (by first | (go_simp; rfl) | (go_simp; done)) HS ?_
    obtain ⟨W', hrun, hm, ht⟩ := exec_update HQ.due k (.int .u64 d) und_tU
    have hqd : q ≠ bd := fun e => by
      obtain ⟨es, c, hb, -⟩ := HQ.due
      have ha := HS.1
      subst e
      unfold QAt at ha
      rw [hb] at ha
      cases ha
    have hkd : w.heap.size ≠ bd := fun e => by
      obtain ⟨es, c, hb, -⟩ := HQ.due
      have ha := HS.2
      unfold KAt at ha
      rw [e, hb] at ha
      cases ha
    refine HeldBy.store (i := 6) (w' := W') rfl (by kernel_rfl) (by rfl) (hrun rfl rfl rfl rfl) (by go_simp; rfl) ⟨HS.1.of_heap (ht.block q hqd), HS.2.of_heap (ht.block _ hkd)⟩ ?_
    refine wpAnyH_done (by kernel_rfl) ?_ _
    have HF := Lib.hid (HQ.turn_due ht hm)
    have HG := Lib.hid (HL.trans (ht.below HQ.low.2.1))
    have HPP : Hid (Kp w W' q bd bf) := fun b hb h1 h2 h3 h4 => (ht.block b h2).trans (HP b hb h1 h2 h3 h4)
    clear HQ HL ht hm hrun HS
    go_wp2
    go_ret
    exact ⟨rfl, HF.out, HG.out, HPP.out⟩
  · have c0 := HA.out.c0
    go_upto_region 5 with (fail)
    clear c0
    have HZ : Hid (∃ s, QAt _ q s bd bf) := ⟨_, HA.out⟩
    refine wp_region_held_drew (S := fun V => (∃ s, QAt V q s bd bf) ∧ KAt V w.heap.size k) (by kernel_rfl) ⟨HZ.out, HK.out⟩ (fun _ => ?_)
    refine HeldBy.gen (fun V => ((∃ s, QAt V q s bd bf) ∧ KAt V w.heap.size k) ∧ (QAt V q (.slice (some ⟨g, 0, none⟩) N cap) bd bf) ∧ (QIs B R V q bd bf line due fails) ∧ (V.ownsRow R 25 2 (.slice (some ⟨g, 0, none⟩) N cap) line.length (flat line)) ∧ (Below w.heap.size w V)) ⟨⟨HZ.out, HK.out⟩, HA.out, HQ.out.drew, HR.out, HL.out.drew⟩ ?_
    clear HZ HK HA HQ HR HL
    rintro U0 ⟨HS, HA, HQ, HR, HL⟩
    refine HeldBy.take (i := 0) rfl (by kernel_rfl) (by kernel_rfl) (by kernel_rfl) (fun _ _ _ h => h) (by rfl) (fun _ _ => by first | (go_simp; rfl) | (go_simp; done)) (by first | (go_simp; rfl) | (go_simp; done)) HS ?_
    refine HeldBy.take (i := 1) rfl (by kernel_rfl) (by kernel_rfl) (by kernel_rfl) (fun _ _ _ h => h) (by rfl) (fun _ _ => by first | (go_simp; rfl) | (go_simp; done)) (by first | (go_simp; rfl) | (go_simp; done)) HS ?_
    refine HeldBy.take (i := 2) rfl (by kernel_rfl) (by kernel_rfl) (by kernel_rfl) (fun _ _ _ h => h) (by rfl) (fun _ _ => by first | (go_simp; rfl) | (go_simp; done)) (by first | (go_simp; rfl) | (go_simp; done)) HS ?_
    refine HeldBy.take (i := 3) rfl (by kernel_rfl) (by kernel_rfl) (by kernel_rfl) (fun _ _ _ h => h) (by rfl) (fun _ _ => by first | (go_simp; rfl) | (go_simp; done)) (by first | (go_simp; rfl) | (go_simp; done)) HS ?_
    refine HeldBy.take (i := 5) rfl (by kernel_rfl) (by kernel_rfl) (by kernel_rfl) (fun _ _ _ h => h) (by rfl) (fun V hV => by have h0 := hV.2.c0; have h1 := hV.2.c1; first | (go_simp; rfl) | (go_simp; done)) (by first | (go_simp; rfl) | (go_simp; done)) HS ?_
    have hBU := HQ.size
    have c0 := HA.c0
    have hal : Below U0.heap.size U0 (U0.alloc (.cells #[.int .u8 k.k, .string k.n] 25 (0, 0))) := (Below.refl _ _).alloc (Nat.le_refl _) _
    have c0' := (HA.after hal).c0
    obtain ⟨_, W2, hrun, hown, hgrow, g1, cap1, rfl⟩ := add_key R U0 (.slice (some ⟨g, 0, none⟩) N cap) line k 37 HR HQ.rs.2 hn
    have hqf : some q ≠ Value.ownBlock (.slice (some ⟨g, 0, none⟩) N cap) := row_far HR fun cs e => by
      have := HA
      unfold QAt at this
      rw [this] at e
      cases e
    have hdf : some bd ≠ Value.ownBlock (.slice (some ⟨g, 0, none⟩) N cap) := row_far HR fun cs e => by
      obtain ⟨es, c, hb, -⟩ := HQ.due
      rw [hb] at e
      cases e
    have hff : some bf ≠ Value.ownBlock (.slice (some ⟨g, 0, none⟩) N cap) := row_far HR fun cs e => by
      obtain ⟨es, c, hb, -⟩ := HQ.fails
      rw [hb] at e
      cases e
    have hkf : some w.heap.size ≠ Value.ownBlock (.slice (some ⟨g, 0, none⟩) N cap) := fun e => by have := hrb _ e.symm; omega
    have hrow : ∀ g', Value.ownBlock (.slice (some ⟨g, 0, none⟩) N cap) = some g' → B ≤ g' := fun g' h => Nat.le_trans HQ.rs.1 (row_low HR g' h)
    have HA1 := HA.after hal
    have HK1 := HS.2.after hal
    refine HeldBy.load_make (i := 4) (k := 6) (u := .slice (some ⟨g, 0, none⟩) N cap) (v := .slice (some ⟨U0.heap.size, 0, none⟩) 1 1) (w' := U0.alloc (.cells #[.int .u8 k.k, .string k.n] 25 (0, 0))) (by kernel_rfl) (by kernel_rfl) (by kernel_rfl) rfl rfl rfl rfl (by go_simp) (by go_simp) (by go_simp) (by go_simp) HS ⟨⟨_, HA1⟩, HK1⟩ (by go_simp; rfl) (by first | (go_simp; done) | (go_simp; rfl)) rfl (by kernel_rfl) ?_
    refine HeldBy.value (i := 7) (v := (.slice (some ⟨g1, 0, none⟩) (line ++ [k]).length cap1)) (w' := W2) rfl (by kernel_rfl) (by rfl) (exec_append rfl rfl rfl hrun) (by go_simp; rfl) ⟨⟨_, HA1.of_heap (hgrow.block q HA1.lt hqf)⟩, HK1.of_heap (hgrow.block _ HK1.lt hkf)⟩ ?_
    have HA2 : QAt W2 q (.slice (some ⟨g, 0, none⟩) N cap) bd bf := HA1.of_heap (hgrow.block q HA1.lt hqf)
    have HK2 : KAt W2 w.heap.size k := HK1.of_heap (hgrow.block _ HK1.lt hkf)
    have HD2 : IsMap encK W2 bd due := (HQ.after hal).due.of_heap (hgrow.block bd (HQ.after hal).due.lt hdf)
    have HF2 : IsMap encK W2 bf fails := (HQ.after hal).fails.of_heap (hgrow.block bf (HQ.after hal).fails.lt hff)
    have hlow2 := HQ.low
    have hrs2 : B ≤ R ∧ R ≤ W2.heap.size := ⟨HQ.rs.1, by have := HQ.rs.2; have := hgrow.size; simp at this; omega⟩
    have hne2 := HQ.ne
    have HL2 : Below B w W2 := ((HL.mono hBw).alloc hBU _).grown hgrow (by simp; omega) hrow
    have HP2 : Kp w W2 q bd bf := fun b hb h1 h2 h3 h4 => (hgrow.block b (by have := HL.size; simp; omega) (h4 _ HA00.out)).trans ((hal.block b (by have := HL.size; omega)).trans (HL.block b hb))
    clear HA HA1 HK1 HQ HR HL hgrow hrun hal c0 c0'
    refine HeldBy.take (i := 8) rfl (by kernel_rfl) (by kernel_rfl) (by kernel_rfl) (fun _ _ _ h => h) (by rfl) (fun _ _ => by first | (go_simp; rfl) | (go_simp; done)) (by first | (go_simp; rfl) | (go_simp; done)) ⟨⟨_, HA2⟩, HK2⟩ ?_
    refine HeldBy.take (i := 9) rfl (by kernel_rfl) (by kernel_rfl) (by kernel_rfl) (fun _ _ _ h => h) (by rfl) (fun _ _ => by first | (go_simp; rfl) | (go_simp; done)) (by first | (go_simp; rfl) | (go_simp; done)) ⟨⟨_, HA2⟩, HK2⟩ ?_
    have fz := HA2.free 0
    have cz := HA2.c0
    have hkq : w.heap.size ≠ q := fun e => by
      have h1 := HK2
      have h2 := HA2
      unfold KAt at h1
      unfold QAt at h2
      rw [e, h2] at h1
      cases h1
    refine HeldBy.store (i := 10) (w' := W2.setCell ⟨q, 0, none⟩ (.slice (some ⟨g1, 0, none⟩) (line ++ [k]).length cap1)) rfl (by kernel_rfl) (by rfl) (by go_simp) (by go_simp; rfl) ⟨⟨_, HA2.s0 (.slice (some ⟨g1, 0, none⟩) (line ++ [k]).length cap1)⟩, HK2.of_heap (heap_setCell_other W2 ⟨q, 0, none⟩ _ (.slice (some ⟨g1, 0, none⟩) (line ++ [k]).length cap1) hkq)⟩ ?_
    refine wpAnyH_done (by kernel_rfl) ?_ _
    have HA3 := HA2.s0 (.slice (some ⟨g1, 0, none⟩) (line ++ [k]).length cap1)
    have HK3 : KAt (W2.setCell ⟨q, 0, none⟩ (.slice (some ⟨g1, 0, none⟩) (line ++ [k]).length cap1)) w.heap.size k := HK2.of_heap (heap_setCell_other W2 ⟨q, 0, none⟩ _ (.slice (some ⟨g1, 0, none⟩) (line ++ [k]).length cap1) hkq)
    have hs : ∀ b, b ≠ q → (W2.setCell ⟨q, 0, none⟩ (.slice (some ⟨g1, 0, none⟩) (line ++ [k]).length cap1)).heap[b]? = W2.heap[b]? := fun b hb => heap_setCell_other W2 ⟨q, 0, none⟩ b (.slice (some ⟨g1, 0, none⟩) (line ++ [k]).length cap1) hb
    have HQ3 : QIs B R (W2.setCell ⟨q, 0, none⟩ (.slice (some ⟨g1, 0, none⟩) (line ++ [k]).length cap1)) q bd bf (line ++ [k]) due fails := by
      refine ⟨⟨(.slice (some ⟨g1, 0, none⟩) (line ++ [k]).length cap1), HA3, ownsRow_of hown fun g' cs hg' => hs g' fun e => ?_⟩, HD2.of_heap (hs bd fun e => ?_), HF2.of_heap (hs bf fun e => ?_), hlow2, hne2, hrs2.1, by simpa using hrs2.2⟩
      · subst e
        have h2 := HA2
        unfold QAt at h2
        rw [h2] at hg'
        cases hg'
      · obtain ⟨es, c, hb, -⟩ := HD2
        subst e
        have h2 := HA2
        unfold QAt at h2
        rw [h2] at hb
        cases hb
      · obtain ⟨es, c, hb, -⟩ := HF2
        subst e
        have h2 := HA2
        unfold QAt at h2
        rw [h2] at hb
        cases hb
    refine then_gen (fun V => QAt V q (.slice (some ⟨g1, 0, none⟩) (line ++ [k]).length cap1) bd bf ∧ KAt V w.heap.size k ∧ QIs B R V q bd bf (line ++ [k]) due fails ∧ Kp w V q bd bf ∧ Below B w V) ⟨HA3, HK3, HQ3, (fun b hb h1 h2 h3 h4 => (hs b h1).trans (HP2 b hb h1 h2 h3 h4)), HL2.setCell (p := ⟨q, 0, none⟩) hlow2.1 (.slice (some ⟨g1, 0, none⟩) (line ++ [k]).length cap1)⟩ ?_
    clear HA2 HK2 HD2 HF2 HL2 HP2 HA3 HK3 HQ3 hs hkq fz cz hown
    rintro V3 ⟨ha, hk, hq, hp, hl⟩
    have HA := Lib.hid ha
    have HK := Lib.hid hk
    have HQ := Lib.hid hq
    have HL := Lib.hid hl
    have HP := Lib.hid hp
    clear ha hk hq hl hp
    go_upto_region 6 with (fail)
    refine wp_region_held_drew (S := fun V => QAt V q (.slice (some ⟨g1, 0, none⟩) (line ++ [k]).length cap1) bd bf ∧ KAt V w.heap.size k) (by kernel_rfl) ⟨HA.out, HK.out⟩ (fun _ => ?_)
    refine HeldBy.gen (fun V => (QAt V q (.slice (some ⟨g1, 0, none⟩) (line ++ [k]).length cap1) bd bf ∧ KAt V w.heap.size k) ∧ (QIs B R V q bd bf (line ++ [k]) due fails) ∧ (Kp w V q bd bf) ∧ (Below B w V)) ⟨⟨HA.out, HK.out⟩, HQ.out.drew, HP.out, HL.out.drew⟩ ?_
    clear HA HK HQ HP HL
    rintro U0 ⟨HS, HQ, HP, HL⟩
    refine HeldBy.take (i := 0) rfl (by kernel_rfl) (by kernel_rfl) (by kernel_rfl) (fun _ _ _ h => h) (by rfl) (fun _ _ => by first | (go_simp; rfl) | (go_simp; done)) (by first | (go_simp; rfl) | (go_simp; done)) HS ?_
    refine HeldBy.take (i := 1) rfl (by kernel_rfl) (by kernel_rfl) (by kernel_rfl) (fun _ _ _ h => h) (by rfl) (fun _ _ => by first | (go_simp; rfl) | (go_simp; done)) (by first | (go_simp; rfl) | (go_simp; done)) HS ?_
    refine HeldBy.take (i := 2) rfl (by kernel_rfl) (by kernel_rfl) (by kernel_rfl) (fun _ _ _ h => h) (by rfl) (fun _ _ => by first | (go_simp; rfl) | (go_simp; done)) (by first | (go_simp; rfl) | (go_simp; done)) HS ?_
    refine HeldBy.take (i := 3) rfl (by kernel_rfl) (by kernel_rfl) (by kernel_rfl) (fun _ _ _ h => h) (by rfl) (fun V hV => by have hc := hV.1.c1; first | (go_simp; rfl) | (go_simp; done)) (by first | (go_simp; rfl) | (go_simp; done)) HS ?_
    refine HeldBy.take (i := 4) rfl (by kernel_rfl) (by kernel_rfl) (by kernel_rfl) (fun _ _ _ h => h) (by rfl) (fun V hV => by have h0 := hV.2.c0; have h1 := hV.2.c1; first | (go_simp; rfl) | (go_simp; done)) (by first | (go_simp; rfl) | (go_simp; done)) HS ?_
    refine HeldBy.take (i := 5) rfl (by kernel_rfl) (by kernel_rfl) (by kernel_rfl) (fun _ _ _ h => h) (by rfl) (fun _ _ => by first | (go_simp; rfl) | (go_simp; done)) (by first | (go_simp; rfl) | (go_simp; done)) HS ?_
    obtain ⟨W', hrun, hm, ht⟩ := exec_update HQ.due k (.int .u64 d) und_tU
    have hqd : q ≠ bd := fun e => by
      obtain ⟨es, c, hb, -⟩ := HQ.due
      have ha := HS.1
      subst e
      unfold QAt at ha
      rw [hb] at ha
      cases ha
    have hkd : w.heap.size ≠ bd := fun e => by
      obtain ⟨es, c, hb, -⟩ := HQ.due
      have ha := HS.2
      unfold KAt at ha
      rw [e, hb] at ha
      cases ha
    refine HeldBy.store (i := 6) (w' := W') rfl (by kernel_rfl) (by rfl) (hrun rfl rfl rfl rfl) (by go_simp; rfl) ⟨HS.1.of_heap (ht.block q hqd), HS.2.of_heap (ht.block _ hkd)⟩ ?_
    refine wpAnyH_done (by kernel_rfl) ?_ _
    have HF := Lib.hid (HQ.turn_due ht hm)
    have HG := Lib.hid (HL.trans (ht.below HQ.low.2.1))
    have HPP : Hid (Kp w W' q bd bf) := fun b hb h1 h2 h3 h4 => (ht.block b h2).trans (HP b hb h1 h2 h3 h4)
    clear HQ HL ht hm hrun HS
    go_wp2
    go_ret
    exact ⟨rfl, HF.out, HG.out, HPP.out⟩
end Go.Proofs.Ytjmiodbpebaajaa.W
