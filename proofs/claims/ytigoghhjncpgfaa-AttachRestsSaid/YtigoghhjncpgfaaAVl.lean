/- What is done next for a volume. -/
import Derived.Test.YtigoghhjncpgfaaAWk
import Derived.Test.YtigoghhjncpgfaaKRefG
import Derived.Test.YtigoghhjncpgfaaKAct
import Derived.Test.YtigoghhjncpgfaaOCore
import Derived.Test.YtigoghhjncpgfaaHeldBy
import Derived.Test.YtigoghhjncpgfaaHeldTwo
import Derived.Test.YtigoghhjncpgfaaOName2
import Derived.Test.YtigoghhjncpgfaaHeldChain
namespace Go.Proofs.Ytigoghhjncpgfaa.O.B
open Go Go.RowKit Go.Shelf Go.Lib KM
attribute [local go_sem] Oper.semAt_some

/-- Where a volume is wanted. -/
def wantL (l : List Obj) (vol : ByteArray) : List ByteArray := match getL l 4 vol with
  | some v => if v.phase = 3 then risB (nodesL l vol) else []
  | none => []
def Rises (L : List ByteArray) : Prop := L.Pairwise fun a b => a.data.toList < b.data.toList
theorem want_rises (l : List Obj) (vol : ByteArray) : Rises (wantL l vol) := by
  unfold wantL
  split
  · split
    · exact (risB_spec _).1
    · exact List.Pairwise.nil
  · exact List.Pairwise.nil
/-- Is a text one of some? -/
def memB (x : ByteArray) (L : List ByteArray) : Bool := L.any fun y => decide (y = x)
theorem mem_iff {x : ByteArray} {L : List ByteArray} : memB x L = true ↔ x ∈ L := by simp [memB]
theorem below_drewN (B : Nat) (w : World) (q : Nat) : Below B w (w.drewN q) := ⟨rfl, rfl, rfl, Nat.le_refl _, fun _ _ => rfl⟩

theorem count_lt {L : List ByteArray} (h : Rises L) (x : ByteArray) : ∃ k, k ≤ L.length ∧ (∀ t (ht : t < L.length), t < k → L[t].data.toList < x.data.toList) ∧ (∀ t (ht : t < L.length), k ≤ t → ¬ L[t].data.toList < x.data.toList) := by
  induction L with
  | nil => exact ⟨0, Nat.le_refl _, fun t ht => absurd ht (by simp), fun t ht => absurd ht (by simp)⟩
  | cons y r ih =>
    obtain ⟨h1, h2⟩ := List.pairwise_cons.1 h
    obtain ⟨k, k1, k2, k3⟩ := ih h2
    by_cases hy : y.data.toList < x.data.toList
    · refine ⟨k + 1, by simpa using k1, fun t ht hk => ?_, fun t ht hk => ?_⟩
      · cases t with
        | zero => exact hy
        | succ t => exact k2 t (by simpa using ht) (by omega)
      · cases t with
        | zero => omega
        | succ t => exact k3 t (by simpa using ht) (by omega)
    · refine ⟨0, Nat.zero_le _, fun t _ hk => by omega, fun t ht _ => ?_⟩
      cases t with
      | zero => exact hy
      | succ t => exact fun hl => hy (List.lt_trans (h1 _ (List.getElem_mem (by simpa using ht))) hl)
theorem less_keys (a b : ByteArray) : Op.bytesLess a.toList b.toList = decide (a.data.toList < b.data.toList) := by rw [less_list, Lib.toList_data, Lib.toList_data]
theorem search_any (v : Value) (L : List ByteArray) (B : Nat) (x : ByteArray) (w : World) (h : TxtIn w B v L) (hr : Rises L) (hn : L.length < 100000) :
    Calls Try.prog 64 #[v, .string x] w fun e w' => ∃ k : Nat, e = .returned (.tuple #[.int .i64 (k : Int), .bool (memB x L)]) ∧ Below w.heap.size w w' := by
  by_cases hl : L = []
  · subst hl
    obtain ⟨p, cap, rfl⟩ := h.nil
    refine (show Calls Try.prog 64 _ _ _ from Any2.slices_BinarySearch_string_empty Try.searchStr p cap x w).mono ?_
    rintro e w' ⟨rfl, rfl⟩
    exact ⟨0, rfl, Below.refl _ _⟩
  · obtain ⟨g, cap, rfl⟩ := h.slice hl
    obtain ⟨hH, hg, hc, -⟩ := RowPut.row_holds h
    have hcell : ∀ j, j < L.length → w.cell? ⟨g, 0 + j, none⟩ = some (.string (L.getD j x)) := fun j hj => by
      have h1 := (hH j (by rw [List.size_toArray, List.length_map]; exact hj)).1
      rw [getElem!_pos _ j (by rw [List.size_toArray, List.length_map]; exact hj)] at h1
      simp only [List.getElem_toArray, List.getElem_map, id_eq] at h1
      rw [h1]
      simp [List.getD, hj]
    have hcon := Any2.slices_BinarySearch_string Try.searchStr g 0 L.length cap (fun j => L.getD j x) x w (by omega) hcell
    refine (show Calls Try.prog 64 _ _ _ from hcon).mono ?_
    rintro e w' ⟨rfl, q, rfl⟩
    obtain ⟨k, k1, k2, k3⟩ := count_lt hr x
    have hbs : Lib.bsGo (fun t => Op.bytesLess (L.getD t x).toList x.toList) L.length 0 L.length = k := by
      refine Lib.bsGo_spec _ k (fun t ht => ?_) (fun t ht => ?_) _ _ _ (by omega) (Nat.zero_le _) k1
      · rw [less_keys]
        have htl : t < L.length := by omega
        simp only [List.getD, List.getElem?_eq_getElem htl, Option.getD_some]
        exact decide_eq_true (k2 t htl ht)
      · rw [less_keys]
        by_cases htl : t < L.length
        · simp only [List.getD, List.getElem?_eq_getElem htl, Option.getD_some]
          exact decide_eq_false (k3 t htl ht)
        · simp [List.getD, List.getElem?_eq_none (by omega : L.length ≤ t), List.lt_irrefl]
    refine ⟨k, ?_, below_drewN _ _ _⟩
    rw [hbs]
    have hmem : decide (k < L.length ∧ L.getD k x = x) = memB x L := by
      rw [Bool.eq_iff_iff, decide_eq_true_iff, mem_iff]
      constructor
      · rintro ⟨h1, h2⟩
        simp only [List.getD, List.getElem?_eq_getElem h1, Option.getD_some] at h2
        rw [← h2]
        exact List.getElem_mem h1
      · intro hx
        obtain ⟨j, hj, rfl⟩ := List.getElem_of_mem hx
        have hjk : ¬ j < k := fun h => List.lt_irrefl _ (k2 j hj h)
        have hkl : k < L.length := by omega
        refine ⟨hkl, ?_⟩
        simp only [List.getD, List.getElem?_eq_getElem hkl, Option.getD_some]
        by_cases e : k = j
        · subst e; rfl
        · exact absurd (List.pairwise_iff_getElem.1 hr k j hkl hj (by omega)) (k3 k hkl (Nat.le_refl _))
    rw [hmem]
set_option maxRecDepth 100000 in
set_option maxHeartbeats 1000000 in
theorem in_any (v : Value) (L : List ByteArray) (B : Nat) (x : ByteArray) (w : World) (h : TxtIn w B v L) (hr : Rises L) (hn : L.length < 100000) :
    Calls Try.prog 37 #[v, .string x] w fun e w' => e = .returned (.bool (memB x L)) ∧ Below w.heap.size w w' := by
  have HC := Lib.hid (search_any v L B x w h hr hn)
  obtain ⟨t, ht⟩ : ∃ t, memB x L = t := ⟨_, rfl⟩
  rw [ht] at HC ⊢
  clear h hr hn ht
  go_enter Try.func37, Try.ntmps37
  go_wp2_with (fail)
  refine HC.out.mono ?_
  rintro e w1 ⟨k, rfl, h5⟩
  have H5 := Lib.hid h5
  clear h5 HC
  go_wp2
  go_ret
  exact ⟨rfl, H5.out⟩

theorem findG_at {α : Type} {p : α → Bool} : ∀ {l : List α} {k : Nat} (h : k < l.length), (∀ j (hj : j < l.length), j < k → p l[j] = false) → p l[k] = true → l.find? p = some l[k]
  | [], _, h, _, _ => absurd h (by simp)
  | x :: l, 0, _, _, h2 => by
    exact List.find?_cons_of_pos (show p x = true from h2)
  | x :: l, k + 1, h, h1, h2 => by
    rw [List.find?_cons_of_neg (by rw [show p x = false from h1 0 (by simp) (by omega)]; decide)]
    exact findG_at (l := l) (by simpa using h) (fun j hj hk => h1 (j + 1) (by simpa using hj) (by omega)) h2
theorem findG_no {α : Type} {p : α → Bool} {l : List α} (h : ∀ j (hj : j < l.length), p l[j] = false) : l.find? p = none := by
  rw [List.find?_eq_none]
  intro x hx
  obtain ⟨j, hj, rfl⟩ := List.getElem_of_mem hx
  rw [h j hj]
  decide
/-- The first of some texts that is not among others. -/
def besideL (L M : List ByteArray) : Option ByteArray := L.find? fun x => !memB x M
theorem TxtIn.cells {W : World} {B : Nat} {v : Value} {l : List ByteArray} (h : TxtIn W B v l) : ∃ o c, v = .slice o l.length c ∧ ∀ i (hi : i < l.length), ∃ g, o = some ⟨g, 0, none⟩ ∧ g < W.heap.size ∧ W.cell? ⟨g, i, none⟩ = some (.string l[i]) := by
  by_cases hl : l = []
  · subst hl
    obtain ⟨p, cap, rfl⟩ := h.nil
    exact ⟨p, cap, rfl, fun i hi => absurd hi (by simp)⟩
  · obtain ⟨g, cap, rfl⟩ := h.slice hl
    obtain ⟨hH, hg, hc, -⟩ := RowPut.row_holds h
    refine ⟨_, _, rfl, fun i hi => ⟨g, rfl, hg, ?_⟩⟩
    have h1 := (hH i (by rw [List.size_toArray, List.length_map]; exact hi)).1
    rw [getElem!_pos _ i (by rw [List.size_toArray, List.length_map]; exact hi), Nat.zero_add] at h1
    simpa using h1
set_option maxRecDepth 100000 in
set_option maxHeartbeats 2000000 in
theorem first_any (v u : Value) (L M : List ByteArray) (B C : Nat) (w : World) (h : TxtIn w B v L) (k : TxtIn w C u M) (hr : Rises M) (hn : L.length < 100000) (hm : M.length < 100000) :
    Calls Try.prog 65 #[v, u] w fun e w' => e = .returned (.tuple #[.string ((besideL L M).getD E0), .bool (besideL L M).isSome]) ∧ Below w.heap.size w w' := by
  have HH := Lib.hid h
  have HK := Lib.hid k
  have HR := Lib.hid hr
  have HM := Lib.hid hm
  obtain ⟨o, c, rfl, -⟩ := h.cells
  obtain ⟨R, hR⟩ : ∃ R, besideL L M = R := ⟨_, rfl⟩
  rw [hR]
  have HRR := Lib.hid hR
  clear hR
  have hn' : L.length ≤ 9223372036854775807 := by omega
  clear h k hr hm hn
  go_enter Try.func65, Try.ntmps65
  go_wp2
  go_loopw [11] (fun iv wr => ∃ i : Nat, iv = .int .i64 (i : Int) ∧ i ≤ L.length ∧ Hid (∀ j (hj : j < L.length), j < i → memB L[j] M = true) ∧ Below w.heap.size w wr) (fun iv _ => L.length - (RowKit.intOf iv).toNat)
  case atStart => exact ⟨0, rfl, Nat.zero_le _, fun j _ h => absurd h (by omega), Below.refl _ _⟩
  case round =>
    obtain ⟨i, rfl, hi, hall, hb⟩ := hrel
    by_cases hlt : i < L.length
    · have hlt' : (i : Int) < (L.length : Int) := by omega
      obtain ⟨o', c', he, hx⟩ := (HH.out.after hb).cells
      cases he
      obtain ⟨g, rfl, hg, hc⟩ := hx i hlt
      obtain ⟨x, hxe⟩ : ∃ x, L[i] = x := ⟨_, rfl⟩
      rw [hxe] at hc
      have HX := Lib.hid hxe
      have HI := Lib.hid (in_any u M C x wr (HK.out.after hb) HR.out HM.out)
      have HB := Lib.hid hb
      have HSZ := Lib.hid hb.size
      clear hx hxe hb
      cases hmem : memB x M with
      | true =>
        rw [hmem] at HI
        have HA : Hid (∀ j (hj : j < L.length), j < i + 1 → memB L[j] M = true) := fun j hj hji => by
          by_cases e : j = i
          · subst e
            rw [HX.out]
            exact hmem
          · exact hall.out j hj (by omega)
        clear hmem hall
        go_wp2_with (fail)
        refine HI.out.mono ?_
        rintro e w2 ⟨rfl, hb2⟩
        have HB2 := Lib.hid (HB.out.trans (hb2.mono HSZ.out))
        clear hb2 HI HB
        go_wp2
        go_roundw
        case rel => exact ⟨i + 1, by go_num, by omega, HA, HB2.out⟩
        case measure => simp [RowKit.intOf]; omega
      | false =>
        rw [hmem] at HI
        have HF : Hid (R = some x) := by
          show _ = _
          rw [← HRR.out]
          unfold besideL
          rw [findG_at hlt (fun j hj hji => by rw [hall.out j hj hji]; rfl) (by rw [HX.out, hmem]; rfl), HX.out]
        clear hmem hall
        go_wp2_with (fail)
        refine HI.out.mono ?_
        rintro e w2 ⟨rfl, hb2⟩
        have HB2 := Lib.hid (HB.out.trans (hb2.mono HSZ.out))
        clear hb2 HI HB
        go_wp2
        go_ret2
        exact ⟨by rw [HF.out]; rfl, HB2.out⟩
    · have hlt' : ¬ (i : Int) < (L.length : Int) := by omega
      have HF : Hid (R = none) := by
        show _ = _
        rw [← HRR.out]
        exact findG_no (fun j hj => by rw [hall.out j hj (by omega)]; rfl)
      have HB := Lib.hid hb
      clear hb hall
      go_wp2
      go_ret2
      exact ⟨by rw [HF.out]; rfl, HB.out⟩
end Go.Proofs.Ytigoghhjncpgfaa.O.B
namespace Go.Proofs.Ytigoghhjncpgfaa.O.B
open Go Go.RowKit Go.Shelf Go.Lib KM
attribute [local go_sem] Oper.semAt_some

theorem txt_low {W : World} {B C : Nat} {v : Value} {l : List ByteArray} (h : TxtIn W C v l) (hB : B ≤ C) : TxtIn W B v l := ⟨h.1, h.2.imp id (fun ⟨g, cap, cur, q1, q2, q3⟩ => ⟨g, cap, cur, q1, Nat.le_trans hB q2, q3⟩)⟩
theorem out_low {W : World} {B C : Nat} {v : Value} {l : List Obj} (h : OutIn W C v l) (hB : B ≤ C) : OutIn W B v l := ⟨h.1, h.2.imp id (fun ⟨g, cap, cur, q1, q2, q3⟩ => ⟨g, cap, cur, q1, Nat.le_trans hB q2, q3⟩)⟩
theorem nodes_len (l : List Obj) (vol : ByteArray) : (nodesL l vol).length ≤ l.length := by
  unfold nodesL
  rw [List.length_map]
  exact Nat.le_trans (List.length_filter_le _ _) (there_len 6 l)
theorem want_len (l : List Obj) (vol : ByteArray) : (wantL l vol).length ≤ l.length := by
  unfold wantL
  split
  · split
    · exact Nat.le_trans (risB_len _) (nodes_len l vol)
    · simp
  · simp

set_option maxRecDepth 100000 in
set_option maxHeartbeats 2000000 in
theorem wanted_any (l : List Obj) (v : Value) (vol : ByteArray) (w : World) (hl : ObjsIn w v l) (hn : l.length < 100000) :
    Calls Try.prog 14 #[v, .string vol] w (HandsS (· = wantL l vol) w) := by
  obtain ⟨o, c, rfl, -, -⟩ := id hl
  have HL := Lib.hid hl
  have HN := Lib.hid hn
  have hg := get_any l (.slice o l.length c) 4 vol w hl
  obtain ⟨T, hT⟩ : ∃ T, wantL l vol = T := ⟨_, rfl⟩
  rw [hT]
  obtain ⟨r, hr⟩ : ∃ r, getL l 4 vol = r := ⟨_, rfl⟩
  rw [hr] at hg
  unfold wantL at hT
  rw [hr] at hT
  have HG := Lib.hid hg
  clear hl hn hg hr
  go_enter Try.func14, Try.ntmps14
  go_wp2_with (fail)
  refine HG.out.mono ?_
  rintro e W1 ⟨rfl, hb1⟩
  obtain ⟨V, hst, hbx, hlw, -⟩ := boxing W1 (r.getD O0)
  have HB := Lib.hid (hb1.trans (hlw.mono hb1.size))
  clear HG hb1 hlw
  cases r with
  | none =>
    obtain rfl : [] = T := hT
    have c17 : V.cell? ⟨W1.heap.size, 17, none⟩ = some (.int .u8 0) := hbx.c17
    clear hbx
    go_wp2_with (refine wpList_skip rfl (hst rfl rfl rfl) ?_)
    go_ret
    exact ⟨[], _, rfl, rfl, TxtIn.empty _ _, HB.out⟩
  | some x =>
    have hT' : (if x.phase = 3 then risB (nodesL l vol) else []) = T := hT
    have c17 : V.cell? ⟨W1.heap.size, 17, none⟩ = some (.int .u8 x.phase) := hbx.c17
    clear hbx hT
    by_cases hp : x.phase = 3
    · rw [if_pos hp] at hT'
      have HT := Lib.hid hT'
      have hk : (x.phase != 3) = false := by simp [hp]
      have HC := Lib.hid (claims_any l (.slice o l.length c) vol V (HL.out.after HB.out))
      clear hT' hp
      go_wp2_with (refine wpList_skip rfl (hst rfl rfl rfl) ?_)
      refine HC.out.mono ?_
      rintro e W2 ⟨m, rfl, hm, hmz, hb2⟩
      have hbw := HB.out.trans (hb2.mono HB.out.size)
      obtain ⟨e1, e2, e3⟩ := chain2 W2 (.cells #[.slice o l.length c] 22 (0, 0)) (.cells #[.map (some m)] 68 (0, 0))
      have hu : ∀ k u, KM.get k (claimsM l vol) = some u → u = .agg #[] := fun k u hk => by
        rw [claims_get] at hk
        split at hk
        · cases hk; rfl
        · cases hk
      have hseq := nodesP_seq l (.slice o l.length c) m (claimsM l vol) W2.heap.size (W2.heap.size + 1) _ ((HL.out.after hbw).after e3) (hm.after e3) hu e1 e2
      rw [pods_nodes] at hseq
      have ef := enters_of (P := Try.prog) Try.func57 (by kernel_rfl) rfl
      have HR := Lib.hid (rising_any 57 _ _ _ _ HN.out _ ef hseq)
      have HW := Lib.hid (hbw.trans (e3.mono hbw.size))
      clear hm hmz hb2 hbw e1 e2 e3 hu hseq ef HC HB hst c17 hk
      go_wp2_with (fail)
      refine (nodesP_any _ _ _ _ _).mono ?_
      rintro e w' ⟨rfl, rfl⟩
      go_wp2_with (fail)
      refine HR.out.mono ?_
      rintro e W3 ⟨L, v', ⟨xs, rfl, -, rfl⟩, rfl, h4, h5⟩
      have H4 := Lib.hid (txt_low h4 HW.out.size)
      have H5 := Lib.hid (HW.out.trans (h5.mono HW.out.size))
      clear h4 h5 HR HW
      go_wp2
      go_ret
      exact ⟨_, v', HT.out, rfl, H4.out, H5.out⟩
    · rw [if_neg hp] at hT'
      subst hT'
      have hk : (x.phase != 3) = true := by simpa using hp
      clear hp
      go_wp2_with (refine wpList_skip rfl (hst rfl rfl rfl) ?_)
      go_ret
      exact ⟨[], _, rfl, rfl, TxtIn.empty _ _, HB.out⟩
end Go.Proofs.Ytigoghhjncpgfaa.O.B
namespace Go.Proofs.Ytigoghhjncpgfaa.O.B
open Go Go.RowKit Go.Shelf Go.Lib KM
attribute [local go_sem] Oper.semAt_some

def askU (verb : Int) (a : Obj) : Ac := askA ⟨verb, a.volume, a.num, 0, E0, a.node, E0⟩
/-- What is next for an attachment. -/
def goN (a : Obj) (wanted : Bool) (next : Int) : Ac :=
  if a.phase = 9 then askU 4 a else if wanted = false then writeA { a with phase := 9, num := next } else if a.phase = 7 then askU 3 a else nothing
theorem built_callU (verb : Int) (a : Obj) : Try.prog.built 40 [(0, .int .u8 verb), (1, .string a.volume), (2, .int .u64 a.num), (5, .string a.node)] = some (cellsC ⟨verb, a.volume, a.num, 0, E0, a.node, E0⟩) := by kernel_rfl
theorem built_act0 : Try.prog.built 42 [] = some (cellsA nothing) := by kernel_rfl

set_option maxRecDepth 100000 in
set_option maxHeartbeats 2000000 in
theorem askU_any (verb : Int) (a : Obj) (w : World) : Calls Try.prog 63 #[.int .u8 verb, encO a] w fun e w' => e = .returned (encA (askU verb a)) ∧ Below w.heap.size w w' := by
  obtain ⟨C, hC⟩ : ∃ C : Cl, (⟨verb, a.volume, a.num, 0, E0, a.node, E0⟩ : Cl) = C := ⟨_, rfl⟩
  have hbu := built_callU verb a
  unfold askU
  rw [hC] at hbu ⊢
  have HBU := Lib.hid hbu
  clear hC hbu
  unfold encO
  go_enter Try.func63, Try.ntmps63
  go_upto_region 1 with (fail)
  refine wp_gen (fun V => BoxO V w.heap.size a ∧ BoxA V (w.heap.size + 1) nothing ∧ Below w.heap.size w V) (chain2 w _ _) ?_
  rintro V ⟨h1, h2, hlw⟩
  have c15 := h1.c15
  have c18 := h1.c18
  have c13 := h1.c13
  have HO := Lib.hid h2
  have HW := Lib.hid hlw
  have HK := Lib.hid (ask_any C V)
  clear h1 h2 hlw
  go_wp2_with (first | ((with_reducible refine wpList_build_to rfl 40 _ rfl (cellsC C) ?_ ?_); exact HBU.out))
  refine HK.out.mono ?_
  rintro e W1 ⟨rfl, hb1⟩
  obtain ⟨V2, hst, ho, -, hb⟩ := acting (HO.out.after hb1) (askA C)
  have HO2 := Lib.hid ho
  have HW2 := Lib.hid (hb _ _ (HW.out.trans (hb1.mono HW.out.size)) (by omega))
  clear HO HW HK HBU hb1 ho hb
  go_wp2_with (refine wpList_skip rfl (hst rfl rfl rfl) ?_)
  refine bodyPost_ret (v := encA (askA C)) (results_cell_row rfl _ _ (w.heap.size + 1) 42 (cellsA (askA C)) (0, 0) _ rfl HO2.out undAct rfl sizeAct) rfl ?_
  exact ⟨rfl, HW2.out⟩

set_option maxRecDepth 100000 in
set_option maxHeartbeats 4000000 in
theorem goOn_any (a : Obj) (wanted : Bool) (next : Int) (w : World) : Calls Try.prog 36 #[encO a, .bool wanted, .int .u64 next] w fun e w' => e = .returned (encA (goN a wanted next)) ∧ Below w.heap.size w w' := by
  obtain ⟨x, hx⟩ : ∃ x, goN a wanted next = x := ⟨_, rfl⟩
  rw [hx]
  unfold goN at hx
  have HXX := Lib.hid hx
  clear hx
  unfold encO
  go_enter Try.func36, Try.ntmps36
  go_upto_region 1 with (fail)
  refine wp_gen (fun V => BoxO V w.heap.size a ∧ BoxA V (w.heap.size + 1) nothing ∧ Below w.heap.size w V) (chain2 w _ _) ?_
  rintro V ⟨hb, ho, hlw⟩
  have c17 := hb.c17
  have HB := Lib.hid hb
  have HO := Lib.hid ho
  have HW := Lib.hid hlw
  clear hb ho hlw
  by_cases h9 : a.phase = 9
  · have q9 : (a.phase == 9) = true := by simpa using h9
    have HVV : Hid (x = askU 4 a) := HXX.out.symm.trans (if_pos h9)
    have hbx := HB.out
    have HCA := Lib.hid (askU_any 4 a V)
    clear h9 HXX
    go_wp2_with (first | ((with_reducible refine wpList_load_obj ?_ rfl ?_ hbx ?_); rfl; rfl))
    refine HCA.out.mono ?_
    rintro e W7 ⟨rfl, hb7⟩
    obtain ⟨V8, hst8, ho8, -, hb8⟩ := acting (HO.out.after hb7) (askU 4 a)
    have HO8 := Lib.hid ho8
    have HX8 := Lib.hid (hb8 _ _ (HW.out.trans (hb7.mono HW.out.size)) (by omega))
    clear ho8 hb8 HCA HO HW hb7 hbx
    go_wp2_with (refine wpList_skip rfl (hst8 rfl rfl rfl) ?_)
    refine bodyPost_ret (v := encA (askU 4 a)) (results_cell_row rfl _ _ (w.heap.size + 1) 42 (cellsA (askU 4 a)) (0, 0) _ rfl HO8.out undAct rfl sizeAct) rfl ?_
    exact ⟨by rw [HVV.out], HX8.out⟩
  · have q9 : (a.phase == 9) = false := by simpa using h9
    have HX2 := Lib.hid (HXX.out.symm.trans (if_neg h9))
    clear h9 HXX
    cases wanted with
    | false =>
      have HVV : Hid (x = writeA { a with phase := 9, num := next }) := HX2.out.trans (if_pos rfl)
      clear HX2
      have g17 := HB.out.free 17
      have g18 := HB.out.free 18
      have b18 := HB.out.c18
      go_upto_region 5 with (fail)
      refine wp_gen (fun V => BoxO V w.heap.size { a with phase := 9, num := next } ∧ BoxA V (w.heap.size + 1) nothing ∧ Below w.heap.size w V) ⟨((HB.out.s17 9).s18 next), ((heap_setCell_other _ ⟨w.heap.size, 18, none⟩ (w.heap.size + 1) _ (by show w.heap.size + 1 ≠ w.heap.size; omega)).trans ((heap_setCell_other _ ⟨w.heap.size, 17, none⟩ (w.heap.size + 1) _ (by show w.heap.size + 1 ≠ w.heap.size; omega)).trans HO.out)), ((HW.out.setCell (Nat.le_refl _) _).setCell (Nat.le_refl _) _)⟩ ?_
      clear HB HO HW g17 g18 b18 c17
      rintro V6 ⟨hbx, ho, hlw⟩
      have HO := Lib.hid ho
      have HW := Lib.hid hlw
      clear ho hlw
      have HCA := Lib.hid (write_any { a with phase := 9, num := next } V6)
      go_wp2_with (first | ((with_reducible refine wpList_load_obj ?_ rfl ?_ hbx ?_); rfl; rfl))
      refine HCA.out.mono ?_
      rintro e W7 ⟨rfl, hb7⟩
      obtain ⟨V8, hst8, ho8, -, hb8⟩ := acting (HO.out.after hb7) (writeA { a with phase := 9, num := next })
      have HO8 := Lib.hid ho8
      have HX8 := Lib.hid (hb8 _ _ (HW.out.trans (hb7.mono HW.out.size)) (by omega))
      clear ho8 hb8 HCA HO HW hb7 hbx
      go_wp2_with (refine wpList_skip rfl (hst8 rfl rfl rfl) ?_)
      refine bodyPost_ret (v := encA (writeA { a with phase := 9, num := next })) (results_cell_row rfl _ _ (w.heap.size + 1) 42 (cellsA (writeA { a with phase := 9, num := next })) (0, 0) _ rfl HO8.out undAct rfl sizeAct) rfl ?_
      exact ⟨by rw [HVV.out], HX8.out⟩
    | true =>
      have HX3 := Lib.hid (HX2.out.trans (if_neg (by simp)))
      clear HX2
      by_cases h7 : a.phase = 7
      · have q7 : (a.phase == 7) = true := by simpa using h7
        have HVV : Hid (x = askU 3 a) := HX3.out.trans (if_pos h7)
        have hbx := HB.out
        have HCA := Lib.hid (askU_any 3 a V)
        clear h7 HX3
        go_wp2_with (first | ((with_reducible refine wpList_load_obj ?_ rfl ?_ hbx ?_); rfl; rfl))
        refine HCA.out.mono ?_
        rintro e W7 ⟨rfl, hb7⟩
        obtain ⟨V8, hst8, ho8, -, hb8⟩ := acting (HO.out.after hb7) (askU 3 a)
        have HO8 := Lib.hid ho8
        have HX8 := Lib.hid (hb8 _ _ (HW.out.trans (hb7.mono HW.out.size)) (by omega))
        clear ho8 hb8 HCA HO HW hb7 hbx
        go_wp2_with (refine wpList_skip rfl (hst8 rfl rfl rfl) ?_)
        refine bodyPost_ret (v := encA (askU 3 a)) (results_cell_row rfl _ _ (w.heap.size + 1) 42 (cellsA (askU 3 a)) (0, 0) _ rfl HO8.out undAct rfl sizeAct) rfl ?_
        exact ⟨by rw [HVV.out], HX8.out⟩
      · have q7 : (a.phase == 7) = false := by simpa using h7
        have HVV : Hid (x = nothing) := HX3.out.trans (if_neg h7)
        clear h7 HX3
        obtain ⟨V8, hst8, ho8, -, hb8⟩ := acting HO.out nothing
        have HO8 := Lib.hid ho8
        have HX8 := Lib.hid (hb8 _ _ HW.out (by omega))
        clear ho8 hb8
        go_wp2_with (first | (refine wpList_skip rfl (hst8 rfl rfl rfl) ?_) | ((with_reducible refine wpList_build_to rfl 42 _ rfl (cellsA nothing) ?_ ?_); exact built_act0))
        refine bodyPost_ret (v := encA nothing) (results_cell_row rfl _ _ (w.heap.size + 1) 42 (cellsA nothing) (0, 0) _ rfl HO8.out undAct rfl sizeAct) rfl ?_
        exact ⟨by rw [HVV.out], HX8.out⟩
end Go.Proofs.Ytigoghhjncpgfaa.O.B
namespace Go.Proofs.Ytigoghhjncpgfaa.O
open Go.RowKit T
open Go.Lib

theorem attachName_any (v n : ByteArray) (w : World) (h1 : v.size ≤ 140737488351232) (h2 : n.size ≤ 140737488351232) :
    Calls Try.prog 68 #[.string v, .string n] w fun e w' => e = .returned (.string (attachN v n)) ∧ w = w' := by
  go_enter Try.func68, Try.ntmps68
  go_wp2
  go_ret
  exact ⟨rfl, rfl⟩
theorem orStr_any (x y : ByteArray) (w : World) :
    Calls Try.prog 84 #[.string x, .string y] w fun e w' => e = .returned (.string (if x.data.toList = [] then y else x)) ∧ w = w' := by
  by_cases h : x.data.toList = []
  · have h1 : x.toList.isEmpty = true := by rw [Lib.toList_data, h]; rfl
    have h' := Lib.hid h
    clear h
    go_enter Try.func84, Try.ntmps84
    go_wp2
    go_ret
    exact ⟨rfl, rfl⟩
  · have h1 : x.toList.isEmpty = false := by rw [Lib.toList_data]; simpa using h
    have h' := Lib.hid h
    clear h
    go_enter Try.func84, Try.ntmps84
    go_wp2
    go_ret
    exact ⟨rfl, rfl⟩

def orS (x y : ByteArray) : ByteArray := if x.data.toList = [] then y else x
theorem orStr' (x y : ByteArray) (w : World) : Calls Try.prog 84 #[.string x, .string y] w fun e w' => e = .returned (.string (orS x y)) ∧ w = w' := orStr_any x y w
set_option maxRecDepth 100000 in
set_option maxHeartbeats 2000000 in
theorem default_5 (o : Obj) (w : World) (hk : o.kind = 5) (hz : o.volume.size ≤ 140737488351232 ∧ o.node.size ≤ 140737488351232) :
    Calls Try.prog 69 #[encO o] w fun e w' => e = .returned (encO (defO o)) ∧ Below w.heap.size w w' := by
  have hE : Hid (defO o = { o with name := orS o.name (attachN o.volume o.node) }) := by show _ = _; unfold defO; rw [if_neg (by omega), if_neg (by omega), if_neg (by omega), if_pos hk]; rfl
  have HZ := Lib.hid hz
  clear hz
  have e3 : (o.kind == 3) = false := by rw [hk]; rfl
  have e4 : (o.kind == 4) = false := by rw [hk]; rfl
  have e7 : (o.kind == 7) = false := by rw [hk]; rfl
  have e5 : (o.kind == 5) = true := by rw [hk]; rfl
  clear hk
  unfold encO
  go_enter Try.func69, Try.ntmps69
  go_upto_region 1 with (fail)
  refine wp_gen (fun W => BoxO W w.heap.size o ∧ BoxO W (w.heap.size + 1) O0 ∧ Below w.heap.size w W) ⟨(BoxO.new w o).alloc _, heap_alloc2_new w _ _, ((Below.refl _ _).alloc (Nat.le_refl _) _).alloc (by simp) _⟩ ?_
  rintro W1 ⟨hb, hr, hlow⟩
  have c0 := hb.c0
  go_wp2_with fail
  refine wp_region_held_drew (S := fun W => ∃ n, BoxO W w.heap.size { o with name := n }) (by kernel_rfl) ⟨o.name, hb.drew⟩ (fun hS => ?_)
  replace hb := hb.drew
  replace hr := hr.drew
  replace hlow := hlow.drew
  clear c0 e3 e4 e5 e7
  refine HeldBy.take (i := 0) rfl (by kernel_rfl) (by kernel_rfl) (by kernel_rfl) (fun _ _ _ h => h) (by rfl) (fun _ _ => by go_simp; rfl) (by go_simp; rfl) hS ?_
  refine HeldBy.take (i := 2) rfl (by kernel_rfl) (by kernel_rfl) (by kernel_rfl) (fun _ _ _ h => h) (by rfl) (fun _ _ => by go_simp; rfl) (by go_simp; rfl) hS ?_
  refine HeldBy.take (i := 3) rfl (by kernel_rfl) (by kernel_rfl) (by kernel_rfl) (fun _ _ _ h => h) (by rfl) (fun _ ⟨_, h⟩ => by have c := BoxO.c15 h; go_simp; rfl) (by go_simp; rfl) hS ?_
  refine HeldBy.take (i := 4) rfl (by kernel_rfl) (by kernel_rfl) (by kernel_rfl) (fun _ _ _ h => h) (by rfl) (fun _ _ => by go_simp; rfl) (by go_simp; rfl) hS ?_
  refine HeldBy.take (i := 5) rfl (by kernel_rfl) (by kernel_rfl) (by kernel_rfl) (fun _ _ _ h => h) (by rfl) (fun _ ⟨_, h⟩ => by have c := BoxO.c13 h; go_simp; rfl) (by go_simp; rfl) hS ?_
  refine HeldBy.two (i := 1) (j := 6) (by kernel_rfl) ?_ ?_
  · have c1 := hb.c1
    refine HeldBy.op_value (i := 1) rfl (by rfl) (by go_simp; first | rfl | exact ⟨rfl, rfl⟩) (by go_simp; rfl) ?_
    clear c1
    refine ⟨hS, ?_⟩
    refine HeldBy.call (i := 6) (v := .string (attachN o.volume o.node)) rfl (by kernel_rfl) (by rfl) (by go_simp; exact ⟨rfl, rfl⟩) (by go_simp; rfl) ?_
    refine (attachName_any o.volume o.node _ HZ.out.1 HZ.out.2).mono ?_
    rintro e V1 ⟨rfl, hV⟩
    refine ⟨rfl, hV ▸ hS, ?_⟩
    clear hS
    replace hb : BoxO V1 _ _ := hV ▸ hb
    replace hr : BoxO V1 _ _ := hV ▸ hr
    replace hlow : Below _ _ V1 := hV ▸ hlow
    clear hV
    have hS : ∃ n, BoxO V1 w.heap.size { o with name := n } := ⟨o.name, hb⟩
    refine HeldBy.call (i := 7) (v := .string (orS o.name (attachN o.volume o.node))) rfl (by kernel_rfl) (by rfl) (by go_simp; exact ⟨rfl, rfl⟩) (by go_simp; rfl) ?_
    refine (orStr' o.name (attachN o.volume o.node) _).mono ?_
    rintro e V2 ⟨rfl, hV⟩
    refine ⟨rfl, hV ▸ hS, ?_⟩
    clear hS
    replace hb : BoxO V2 _ _ := hV ▸ hb
    replace hr : BoxO V2 _ _ := hV ▸ hr
    replace hlow : Below _ _ V2 := hV ▸ hlow
    clear hV
    have hS : ∃ n, BoxO V2 w.heap.size { o with name := n } := ⟨o.name, hb⟩
    refine HeldBy.take (i := 8) rfl (by kernel_rfl) (by kernel_rfl) (by kernel_rfl) (fun _ _ _ h => h) (by rfl) (fun _ _ => by go_simp; rfl) (by go_simp; rfl) hS ?_
    have n1 := hb.c1
    have f1 := hb.free 1
    refine HeldBy.store (i := 9) rfl (by kernel_rfl) (by rfl) (by go_simp; rfl) (by go_simp; rfl) ⟨_, hb.s1 _⟩ ?_
    clear n1 f1
    refine wpAnyH_done (by kernel_rfl) ?_ _
    go_upto_region 16 with (fail)
    refine wp_gen (fun W => BoxO W w.heap.size ({ o with name := orS o.name (attachN o.volume o.node) }) ∧ BoxO W (w.heap.size + 1) O0 ∧ Below w.heap.size w W) ⟨hb.s1 _, hr.other (by simp) _, hlow.setCell (by simp) _⟩ ?_
    clear hb hr hlow hS
    rintro W2 ⟨hb, hr, hlow⟩
    have hb' := hE.out ▸ hb
    go_wp2_with (first | ((with_reducible refine wpList_load_row rfl 37 _ rfl w.heap.size ?_ 37 (cellsO (defO o)) (0, 0) _ ?_ undObj ?_ ?_ ?_); rfl; exact hb'; rfl; exact sizeObj) | ((with_reducible refine wpList_store_rowTo rfl 37 _ _ rfl rfl (w.heap.size + 1) (cellsO (defO o)) ?_ ?_ 37 (cellsO O0) ?_ ?_ ?_ ?_ ?_); rfl; rfl; exact hr; exact sizeObj; exact sz_cells _ _; exact one_cells _))
    refine bodyPost_ret (v := encO (defO o)) (results_cell_row rfl _ _ (w.heap.size + 1) 37 (cellsO (defO o)) (0, 0) _ rfl (hr.setRow _) undObj rfl sizeObj) rfl ?_
    exact ⟨rfl, below_setRow hlow (by omega) _⟩
  · refine HeldBy.op_call (i := 6) (v := .string (attachN o.volume o.node)) rfl (by rfl) (by go_simp; exact ⟨rfl, rfl⟩) (by go_simp; rfl) ?_
    refine (attachName_any o.volume o.node _ HZ.out.1 HZ.out.2).mono ?_
    rintro e V1 ⟨rfl, hV⟩
    refine ⟨rfl, hV ▸ hS, ?_⟩
    clear hS
    replace hb : BoxO V1 _ _ := hV ▸ hb
    replace hr : BoxO V1 _ _ := hV ▸ hr
    replace hlow : Below _ _ V1 := hV ▸ hlow
    clear hV
    have hS : ∃ n, BoxO V1 w.heap.size { o with name := n } := ⟨o.name, hb⟩
    have c1 := hb.c1
    refine HeldBy.value (i := 1) rfl (by kernel_rfl) (by rfl) (by go_simp; first | rfl | exact ⟨rfl, rfl⟩) (by go_simp; rfl) hS ?_
    clear c1
    refine HeldBy.call (i := 7) (v := .string (orS o.name (attachN o.volume o.node))) rfl (by kernel_rfl) (by rfl) (by go_simp; exact ⟨rfl, rfl⟩) (by go_simp; rfl) ?_
    refine (orStr' o.name (attachN o.volume o.node) _).mono ?_
    rintro e V2 ⟨rfl, hV⟩
    refine ⟨rfl, hV ▸ hS, ?_⟩
    clear hS
    replace hb : BoxO V2 _ _ := hV ▸ hb
    replace hr : BoxO V2 _ _ := hV ▸ hr
    replace hlow : Below _ _ V2 := hV ▸ hlow
    clear hV
    have hS : ∃ n, BoxO V2 w.heap.size { o with name := n } := ⟨o.name, hb⟩
    refine HeldBy.take (i := 8) rfl (by kernel_rfl) (by kernel_rfl) (by kernel_rfl) (fun _ _ _ h => h) (by rfl) (fun _ _ => by go_simp; rfl) (by go_simp; rfl) hS ?_
    have n1 := hb.c1
    have f1 := hb.free 1
    refine HeldBy.store (i := 9) rfl (by kernel_rfl) (by rfl) (by go_simp; rfl) (by go_simp; rfl) ⟨_, hb.s1 _⟩ ?_
    clear n1 f1
    refine wpAnyH_done (by kernel_rfl) ?_ _
    go_upto_region 16 with (fail)
    refine wp_gen (fun W => BoxO W w.heap.size ({ o with name := orS o.name (attachN o.volume o.node) }) ∧ BoxO W (w.heap.size + 1) O0 ∧ Below w.heap.size w W) ⟨hb.s1 _, hr.other (by simp) _, hlow.setCell (by simp) _⟩ ?_
    clear hb hr hlow hS
    rintro W2 ⟨hb, hr, hlow⟩
    have hb' := hE.out ▸ hb
    go_wp2_with (first | ((with_reducible refine wpList_load_row rfl 37 _ rfl w.heap.size ?_ 37 (cellsO (defO o)) (0, 0) _ ?_ undObj ?_ ?_ ?_); rfl; exact hb'; rfl; exact sizeObj) | ((with_reducible refine wpList_store_rowTo rfl 37 _ _ rfl rfl (w.heap.size + 1) (cellsO (defO o)) ?_ ?_ 37 (cellsO O0) ?_ ?_ ?_ ?_ ?_); rfl; rfl; exact hr; exact sizeObj; exact sz_cells _ _; exact one_cells _))
    refine bodyPost_ret (v := encO (defO o)) (results_cell_row rfl _ _ (w.heap.size + 1) 37 (cellsO (defO o)) (0, 0) _ rfl (hr.setRow _) undObj rfl sizeObj) rfl ?_
    exact ⟨rfl, below_setRow hlow (by omega) _⟩

end Go.Proofs.Ytigoghhjncpgfaa.O
namespace Go.Proofs.Ytigoghhjncpgfaa.O.B
open Go Go.RowKit Go.Shelf Go.Lib KM
attribute [local go_sem] Oper.semAt_some

def newA (vol node : ByteArray) (next : Int) : Obj := { O0 with kind := 5, volume := vol, node := node, phase := 7, num := next }
/-- What is begun for a volume. -/
def beginN (v : Obj) (L : List ByteArray) (A : List Obj) (next : Int) : Ac :=
  match besideL L (risB (A.map Obj.node)) with
  | none => nothing
  | some node => if v.mode = 1 ∧ A ≠ [] then nothing else if nameB (attachN v.name node).data.toList = false then nothing else writeA (defO (newA v.name node next))
theorem built_newA (vol node : ByteArray) (next : Int) : Try.prog.built 37 [(0, .int .u8 5), (15, .string vol), (13, .string node), (17, .int .u8 7), (18, .int .u64 next)] = some (cellsO (newA vol node next)) := by kernel_rfl

set_option maxRecDepth 100000 in
set_option maxHeartbeats 8000000 in
theorem begin_any (v : Obj) (lv av : Value) (L : List ByteArray) (A : List Obj) (next : Int) (B C : Nat) (w : World) (hL : TxtIn w B lv L) (hA : OutIn w C av A) (hnL : L.length < 100000) (hnA : A.length < 100000)
    (hvs : v.name.size ≤ 140737488351232) (hns : ∀ s ∈ L, s.size ≤ 140737488351232) :
    Calls Try.prog 38 #[encO v, lv, av, .int .u64 next] w fun e w' => e = .returned (encA (beginN v L A next)) ∧ Below w.heap.size w w' := by
  obtain ⟨x, hx⟩ : ∃ x, beginN v L A next = x := ⟨_, rfl⟩
  rw [hx]
  obtain ⟨R, hR⟩ : ∃ R, besideL L (risB (A.map Obj.node)) = R := ⟨_, rfl⟩
  unfold beginN at hx
  rw [hR] at hx
  have HXX := Lib.hid hx
  have HRR := Lib.hid hR
  have HNL := Lib.hid hnL
  have HNA := Lib.hid hnA
  have HVS := Lib.hid hvs
  have HNS := Lib.hid hns
  obtain ⟨o1, c1, rfl, -⟩ := hL.cells
  obtain ⟨o2, c2, rfl, -⟩ := hA.objs (by omega)
  have HL := Lib.hid hL
  have HA := Lib.hid hA
  have hA63 : A.length ≤ 9223372036854775807 := by omega
  clear hx hR hnL hnA hvs hns hL hA
  unfold encO
  go_enter Try.func38, Try.ntmps38
  go_upto_region 1 with (fail)
  refine wp_gen (fun V => BoxO V w.heap.size v ∧ BoxA V (w.heap.size + 1) nothing ∧ Below w.heap.size w V) (chain2 w _ _) ?_
  rintro V ⟨hb, ho, hlw⟩
  have HB := Lib.hid hb
  have HO := Lib.hid ho
  have HW := Lib.hid hlw
  clear hb ho hlw
  have hal : Below V.heap.size V (V.alloc (.cells #[.slice o2 A.length c2] 22)) := (Below.refl _ _).alloc (Nat.le_refl _) _
  have hseq := nodesA_seq A (.slice o2 A.length c2) V.heap.size (V.alloc (.cells #[.slice o2 A.length c2] 22)) (((HA.out.after HW.out).after hal).objs (by omega)) (Boxed.new V _ _)
  have ef := enters_of (P := Try.prog) Try.func79 (by kernel_rfl) rfl
  have HRI := Lib.hid (rising_any 79 _ _ _ _ HNA.out _ ef hseq)
  have HAL := Lib.hid hal
  clear hal hseq ef
  go_wp2_with (fail)
  refine (nodesA_any _ _ _ _).mono ?_
  rintro e w' ⟨rfl, rfl⟩
  go_wp2_with (fail)
  refine HRI.out.mono ?_
  rintro e W2 ⟨M, u, ⟨xs, rfl, -, rfl⟩, rfl, h4, h5⟩
  have hb2 := HAL.out.trans (h5.mono HAL.out.size)
  have HFI := Lib.hid (first_any (.slice o1 L.length c1) u L (risB (A.map Obj.node)) B _ W2 ((HL.out.after HW.out).after hb2) h4 (risB_spec _).1 HNL.out (by have h6 := risB_len (A.map Obj.node); rw [List.length_map] at h6; have := HNA.out; omega))
  rw [HRR.out] at HFI
  have HB2 := Lib.hid (HB.out.after hb2)
  have HO2 := Lib.hid (HO.out.after hb2)
  have HW2 := Lib.hid (HW.out.trans (hb2.mono HW.out.size))
  clear h4 h5 hb2 HRI HAL HB HO HW HL HA
  go_wp2_with (fail)
  refine HFI.out.mono ?_
  rintro e W3 ⟨rfl, hb3⟩
  have hbx := HB2.out.after hb3
  have m9 := hbx.c9
  have m1 := hbx.c1
  have HO3 := Lib.hid (HO2.out.after hb3)
  have HW3 := Lib.hid (HW2.out.trans (hb3.mono HW2.out.size))
  clear hb3 HB2 HO2 HW2 HFI hbx
  cases R with
  | none =>
    have HVV : Hid (x = nothing) := HXX.out.symm
    clear HXX
    by_cases hm : v.mode = 1
    · have q1 : (v.mode == 1) = true := by simpa using hm
      clear hm
      obtain ⟨V8, hst8, ho8, -, hb8⟩ := acting HO3.out nothing
      have HO8 := Lib.hid ho8
      have HX8 := Lib.hid (hb8 _ _ HW3.out (by omega))
      clear ho8 hb8
      go_wp2_with (first | (refine wpList_skip rfl (hst8 rfl rfl rfl) ?_) | ((with_reducible refine wpList_build_to rfl 42 _ rfl (cellsA nothing) ?_ ?_); exact built_act0))
      refine bodyPost_ret (v := encA nothing) (results_cell_row rfl _ _ (w.heap.size + 1) 42 (cellsA nothing) (0, 0) _ rfl HO8.out undAct rfl sizeAct) rfl ?_
      exact ⟨by rw [HVV.out], HX8.out⟩
    · have q1 : (v.mode == 1) = false := by simpa using hm
      clear hm
      obtain ⟨V8, hst8, ho8, -, hb8⟩ := acting HO3.out nothing
      have HO8 := Lib.hid ho8
      have HX8 := Lib.hid (hb8 _ _ HW3.out (by omega))
      clear ho8 hb8
      go_wp2_with (first | (refine wpList_skip rfl (hst8 rfl rfl rfl) ?_) | ((with_reducible refine wpList_build_to rfl 42 _ rfl (cellsA nothing) ?_ ?_); exact built_act0))
      refine bodyPost_ret (v := encA nothing) (results_cell_row rfl _ _ (w.heap.size + 1) 42 (cellsA nothing) (0, 0) _ rfl HO8.out undAct rfl sizeAct) rfl ?_
      exact ⟨by rw [HVV.out], HX8.out⟩
  | some s =>
    have HSS : Hid (s.size ≤ 140737488351232) := HNS.out s (List.mem_of_find?_eq_some HRR.out)
    have HLT : Hid (w.heap.size < W3.heap.size) := by
      have h := HO3.out.lt
      show _ < _
      omega
    have HX1 : Hid ((if v.mode = 1 ∧ A ≠ [] then nothing else if nameB (attachN v.name s).data.toList = false then nothing else writeA (defO (newA v.name s next))) = x) := HXX.out
    clear HXX HNS HRR HNL HNA
    by_cases hm : v.mode = 1
    · have q1 : (v.mode == 1) = true := by simpa using hm
      cases A with
      | nil =>
        have HX2 := Lib.hid (HX1.out.symm.trans (if_neg (fun h => h.2 rfl)))
        clear hm HX1
        have HCN := Lib.hid (fun V => attachName_any v.name s V HVS.out HSS.out)
        cases hnm : nameB (attachN v.name s).data.toList with
        | false =>
          have HVV : Hid (x = nothing) := HX2.out.trans (if_pos hnm)
          have HNM := Lib.hid (name_any (attachN v.name s) W3)
          rw [hnm] at HNM
          clear hnm HX2
          go_wp2_with (fail)
          refine (HCN.out _).mono ?_
          rintro e w' ⟨rfl, rfl⟩
          go_wp2_with (fail)
          refine HNM.out.mono ?_
          rintro e W4 ⟨rfl, hb4⟩
          obtain ⟨V8, hst8, ho8, -, hb8⟩ := acting (HO3.out.after hb4) nothing
          have HO8 := Lib.hid ho8
          have HX8 := Lib.hid (hb8 _ _ (HW3.out.trans (hb4.mono HW3.out.size)) (by omega))
          clear ho8 hb8 hb4 HNM HCN m1 m9
          go_wp2_with (first | (refine wpList_skip rfl (hst8 rfl rfl rfl) ?_) | ((with_reducible refine wpList_build_to rfl 42 _ rfl (cellsA nothing) ?_ ?_); exact built_act0))
          refine bodyPost_ret (v := encA nothing) (results_cell_row rfl _ _ (w.heap.size + 1) 42 (cellsA nothing) (0, 0) _ rfl HO8.out undAct rfl sizeAct) rfl ?_
          exact ⟨by rw [HVV.out], HX8.out⟩
        | true =>
          have HVV : Hid (x = writeA (defO (newA v.name s next))) := HX2.out.trans (if_neg (by rw [hnm]; simp))
          have HNM := Lib.hid (name_any (attachN v.name s) W3)
          rw [hnm] at HNM
          clear hnm HX2
          go_wp2_with (fail)
          refine (HCN.out _).mono ?_
          rintro e w' ⟨rfl, rfl⟩
          go_wp2_with (fail)
          refine HNM.out.mono ?_
          rintro e W4 ⟨rfl, hb4⟩
          have n1 : W4.cell? ⟨w.heap.size, 1, none⟩ = some (.string v.name) := (hb4.cell (p := ⟨w.heap.size, 1, none⟩) HLT.out).trans m1
          have HO4 := Lib.hid (HO3.out.after hb4)
          have HW4 := Lib.hid (HW3.out.trans (hb4.mono HW3.out.size))
          have HDE := Lib.hid (default_5 (newA v.name s next) W4 rfl ⟨HVS.out, HSS.out⟩)
          obtain ⟨D, hD⟩ : ∃ D, defO (newA v.name s next) = D := ⟨_, rfl⟩
          rw [hD] at HDE HVV
          have HBU := Lib.hid (built_newA v.name s next)
          obtain ⟨N, hN⟩ : ∃ N, newA v.name s next = N := ⟨_, rfl⟩
          rw [hN] at HDE HBU
          clear hb4 HNM HCN m1 m9 HO3 HW3 hD hN
          unfold encO at HDE
          go_wp2_with (first | ((with_reducible refine wpList_build_to rfl 37 _ rfl (cellsO N) ?_ ?_); exact HBU.out))
          refine HDE.out.mono ?_
          rintro e W5 ⟨rfl, hb5⟩
          have HCA := Lib.hid (write_any D W5)
          unfold encO at HCA
          go_wp2_with (fail)
          refine HCA.out.mono ?_
          rintro e W7 ⟨rfl, hb7⟩
          obtain ⟨V8, hst8, ho8, -, hb8⟩ := acting ((HO4.out.after hb5).after hb7) (writeA D)
          have HO8 := Lib.hid ho8
          have HX8 := Lib.hid (hb8 _ _ ((HW4.out.trans (hb5.mono HW4.out.size)).trans (hb7.mono (HW4.out.trans (hb5.mono HW4.out.size)).size)) (by omega))
          clear ho8 hb8 HCA HO4 HW4 hb5 hb7 HDE HBU n1
          go_wp2_with (refine wpList_skip rfl (hst8 rfl rfl rfl) ?_)
          refine bodyPost_ret (v := encA (writeA D)) (results_cell_row rfl _ _ (w.heap.size + 1) 42 (cellsA (writeA D)) (0, 0) _ rfl HO8.out undAct rfl sizeAct) rfl ?_
          exact ⟨by rw [HVV.out], HX8.out⟩
      | cons a0 A0 =>
        have HVV : Hid (x = nothing) := HX1.out.symm.trans (if_pos ⟨hm, by simp⟩)
        have hpos : 0 < (a0 :: A0).length := by simp
        clear hm HX1
        obtain ⟨k, hk⟩ : ∃ k, (a0 :: A0).length = k := ⟨_, rfl⟩
        rw [hk] at hpos hA63 ⊢
        obtain ⟨V8, hst8, ho8, -, hb8⟩ := acting HO3.out nothing
        have HO8 := Lib.hid ho8
        have HX8 := Lib.hid (hb8 _ _ HW3.out (by omega))
        clear ho8 hb8
        go_wp2_with (first | (refine wpList_skip rfl (hst8 rfl rfl rfl) ?_) | ((with_reducible refine wpList_build_to rfl 42 _ rfl (cellsA nothing) ?_ ?_); exact built_act0))
        refine bodyPost_ret (v := encA nothing) (results_cell_row rfl _ _ (w.heap.size + 1) 42 (cellsA nothing) (0, 0) _ rfl HO8.out undAct rfl sizeAct) rfl ?_
        exact ⟨by rw [HVV.out], HX8.out⟩
    · have q1 : (v.mode == 1) = false := by simpa using hm
      have HX2 := Lib.hid (HX1.out.symm.trans (if_neg (fun h => hm h.1)))
      clear hm HX1
      have HCN := Lib.hid (fun V => attachName_any v.name s V HVS.out HSS.out)
      cases hnm : nameB (attachN v.name s).data.toList with
      | false =>
        have HVV : Hid (x = nothing) := HX2.out.trans (if_pos hnm)
        have HNM := Lib.hid (name_any (attachN v.name s) W3)
        rw [hnm] at HNM
        clear hnm HX2
        go_wp2_with (fail)
        refine (HCN.out _).mono ?_
        rintro e w' ⟨rfl, rfl⟩
        go_wp2_with (fail)
        refine HNM.out.mono ?_
        rintro e W4 ⟨rfl, hb4⟩
        obtain ⟨V8, hst8, ho8, -, hb8⟩ := acting (HO3.out.after hb4) nothing
        have HO8 := Lib.hid ho8
        have HX8 := Lib.hid (hb8 _ _ (HW3.out.trans (hb4.mono HW3.out.size)) (by omega))
        clear ho8 hb8 hb4 HNM HCN m1 m9
        go_wp2_with (first | (refine wpList_skip rfl (hst8 rfl rfl rfl) ?_) | ((with_reducible refine wpList_build_to rfl 42 _ rfl (cellsA nothing) ?_ ?_); exact built_act0))
        refine bodyPost_ret (v := encA nothing) (results_cell_row rfl _ _ (w.heap.size + 1) 42 (cellsA nothing) (0, 0) _ rfl HO8.out undAct rfl sizeAct) rfl ?_
        exact ⟨by rw [HVV.out], HX8.out⟩
      | true =>
        have HVV : Hid (x = writeA (defO (newA v.name s next))) := HX2.out.trans (if_neg (by rw [hnm]; simp))
        have HNM := Lib.hid (name_any (attachN v.name s) W3)
        rw [hnm] at HNM
        clear hnm HX2
        go_wp2_with (fail)
        refine (HCN.out _).mono ?_
        rintro e w' ⟨rfl, rfl⟩
        go_wp2_with (fail)
        refine HNM.out.mono ?_
        rintro e W4 ⟨rfl, hb4⟩
        have n1 : W4.cell? ⟨w.heap.size, 1, none⟩ = some (.string v.name) := (hb4.cell (p := ⟨w.heap.size, 1, none⟩) HLT.out).trans m1
        have HO4 := Lib.hid (HO3.out.after hb4)
        have HW4 := Lib.hid (HW3.out.trans (hb4.mono HW3.out.size))
        have HDE := Lib.hid (default_5 (newA v.name s next) W4 rfl ⟨HVS.out, HSS.out⟩)
        obtain ⟨D, hD⟩ : ∃ D, defO (newA v.name s next) = D := ⟨_, rfl⟩
        rw [hD] at HDE HVV
        have HBU := Lib.hid (built_newA v.name s next)
        obtain ⟨N, hN⟩ : ∃ N, newA v.name s next = N := ⟨_, rfl⟩
        rw [hN] at HDE HBU
        clear hb4 HNM HCN m1 m9 HO3 HW3 hD hN
        unfold encO at HDE
        go_wp2_with (first | ((with_reducible refine wpList_build_to rfl 37 _ rfl (cellsO N) ?_ ?_); exact HBU.out))
        refine HDE.out.mono ?_
        rintro e W5 ⟨rfl, hb5⟩
        have HCA := Lib.hid (write_any D W5)
        unfold encO at HCA
        go_wp2_with (fail)
        refine HCA.out.mono ?_
        rintro e W7 ⟨rfl, hb7⟩
        obtain ⟨V8, hst8, ho8, -, hb8⟩ := acting ((HO4.out.after hb5).after hb7) (writeA D)
        have HO8 := Lib.hid ho8
        have HX8 := Lib.hid (hb8 _ _ ((HW4.out.trans (hb5.mono HW4.out.size)).trans (hb7.mono (HW4.out.trans (hb5.mono HW4.out.size)).size)) (by omega))
        clear ho8 hb8 HCA HO4 HW4 hb5 hb7 HDE HBU n1
        go_wp2_with (refine wpList_skip rfl (hst8 rfl rfl rfl) ?_)
        refine bodyPost_ret (v := encA (writeA D)) (results_cell_row rfl _ _ (w.heap.size + 1) 42 (cellsA (writeA D)) (0, 0) _ rfl HO8.out undAct rfl sizeAct) rfl ?_
        exact ⟨by rw [HVV.out], HX8.out⟩
end Go.Proofs.Ytigoghhjncpgfaa.O.B
namespace Go.Proofs.Ytigoghhjncpgfaa.O.B
open Go Go.RowKit Go.Shelf Go.Lib KM
attribute [local go_sem] Oper.semAt_some

def up (ver : Int) : Int := IntKind.u64.wrap (ver + 1)
/-- What is next for one of a volume's attachments. -/
def stepA (l : List Obj) (ver : Int) (name : ByteArray) (a : Obj) : Ac := goN a (memB a.node (wantL l name)) (up ver)
/-- What is done next for a volume. -/
def volumeA (l : List Obj) (ver : Int) (name : ByteArray) : Ac :=
  match getL l 4 name with
  | none => nothing
  | some v => match (attsL l name).find? fun a => decide ((stepA l ver name a).act ≠ 0) with
    | some a => stepA l ver name a
    | none => beginN v (wantL l name) (attsL l name) (up ver)
theorem makes_act {oi : Oper} (ho : oi.op = .alloc 42) : HeldBy.Makes Try.prog oi (.cells (cellsA nothing) 42 (0, 0)) := by
  intro a w
  unfold execOp
  simp only [ho]
  kernel_rfl
theorem load_act {W : World} {b : Nat} {c : Ac} (h : BoxA W b c) {oi : Oper} {a : Act} {x : Operand} (ho : oi.op = .load 42 x) (hx : a.eval x = .pointer (some ⟨b, 0, none⟩)) :
    (execOp a.eval oi).run Try.prog W = .ok (.value (encA c)) W := by
  unfold execOp
  simp only [ho, hx, Instr.loadAt, Instr.sureAddr, Sem.run_bind, Sem.run_pure, Result.andThen_ok, run_loadVar_row W b 42 42 (cellsA c) (0, 0) _ h undAct rfl sizeAct]
  rfl
theorem att_mem {l : List Obj} {vol : ByteArray} {a : Obj} (h : a ∈ attsL l vol) : a ∈ l ∧ a.kind = 5 ∧ a.volume = vol := by
  have h1 := (atts_spec l vol).1.mem_iff.1 h
  obtain ⟨h2, h3⟩ := List.mem_filter.1 h1
  obtain ⟨h4, h5⟩ := there_mem h2
  exact ⟨h4, h5, of_decide_eq_true h3⟩
theorem atts_len (l : List Obj) (vol : ByteArray) : (attsL l vol).length ≤ l.length := by
  rw [(atts_spec l vol).1.length_eq]
  exact Nat.le_trans (List.length_filter_le _ _) (there_len 5 l)
theorem want_mem {l : List Obj} {vol s : ByteArray} (h : s ∈ wantL l vol) : ∃ p ∈ l, p.node = s := by
  unfold wantL at h
  split at h
  · split at h
    · have h1 := (risB_spec _).2 s |>.1 h
      unfold nodesL at h1
      obtain ⟨p, hp, rfl⟩ := List.mem_map.1 h1
      exact ⟨p, (there_mem (List.mem_filter.1 hp).1).1, rfl⟩
    · cases h
  · cases h

set_option maxRecDepth 100000 in
set_option maxHeartbeats 8000000 in
theorem volA_any (l : List Obj) (v : Value) (ver : Int) (name : ByteArray) (w : World) (hl : ObjsIn w v l) (hn : l.length < 100000) (hz : ∀ o ∈ l, o.name.size ≤ 140737488351232 ∧ o.node.size ≤ 140737488351232) :
    Calls Try.prog 19 #[v, .int .u64 ver, .string name] w fun e w' => e = .returned (encA (volumeA l ver name)) ∧ Below w.heap.size w w' := by
  obtain ⟨o, c, rfl, -, -⟩ := id hl
  have HL := Lib.hid hl
  have HN := Lib.hid hn
  have HZ := Lib.hid hz
  have hg := get_any l (.slice o l.length c) 4 name
  obtain ⟨x, hx⟩ : ∃ x, volumeA l ver name = x := ⟨_, rfl⟩
  rw [hx]
  obtain ⟨r, hr⟩ : ∃ r, getL l 4 name = r := ⟨_, rfl⟩
  rw [hr] at hg
  unfold volumeA at hx
  rw [hr] at hx
  have HXX := Lib.hid hx
  have HG := Lib.hid hg
  have HRR := Lib.hid hr
  clear hl hn hz hg hx hr
  go_enter Try.func19, Try.ntmps19
  go_upto_region 1 with (fail)
  refine wp_gen (fun V => BoxA V w.heap.size nothing ∧ Below w.heap.size w V) ⟨heap_alloc_new w _, (Below.refl _ _).alloc (Nat.le_refl _) _⟩ ?_
  rintro V0 ⟨ho, hlw⟩
  have HO := Lib.hid ho
  have HW := Lib.hid hlw
  have HGC := Lib.hid (HG.out V0 (HL.out.after hlw))
  clear ho hlw HG
  go_wp2_with (fail)
  refine HGC.out.mono ?_
  rintro e W1 ⟨rfl, hb1⟩
  obtain ⟨V, hst, hbx, hlw, -⟩ := boxing W1 (r.getD O0)
  have HO1 := Lib.hid ((HO.out.after hb1).after hlw)
  have HW1 := Lib.hid ((HW.out.trans (hb1.mono HW.out.size)).trans (hlw.mono (HW.out.trans (hb1.mono HW.out.size)).size))
  clear HGC HO HW hb1 hlw
  cases r with
  | none =>
    have HVV : Hid (x = nothing) := HXX.out.symm
    clear HXX hbx
    obtain ⟨V8, hst8, ho8, -, hb8⟩ := acting HO1.out nothing
    have HO8 := Lib.hid ho8
    have HX8 := Lib.hid (hb8 _ _ HW1.out (Nat.le_refl _))
    clear ho8 hb8
    go_wp2_with (first | (refine wpList_skip rfl (hst rfl rfl rfl) ?_) | (refine wpList_skip rfl (hst8 rfl rfl rfl) ?_) | ((with_reducible refine wpList_build_to rfl 42 _ rfl (cellsA nothing) ?_ ?_); exact built_act0))
    refine bodyPost_ret (v := encA nothing) (results_cell_row rfl _ _ w.heap.size 42 (cellsA nothing) (0, 0) _ rfl HO8.out undAct rfl sizeAct) rfl ?_
    exact ⟨by rw [HVV.out], HX8.out⟩
  | some vo =>
    have HX1 : Hid ((match (attsL l name).find? fun a => decide ((stepA l ver name a).act ≠ 0) with | some a => stepA l ver name a | none => beginN vo (wantL l name) (attsL l name) (up ver)) = x) := HXX.out
    have HVN : Hid (vo.name.size ≤ 140737488351232) := (HZ.out vo (List.mem_of_find?_eq_some HRR.out)).1
    have HBX : Hid (BoxO V W1.heap.size vo) := hbx
    have HC := Lib.hid (wanted_any l (.slice o l.length c) name V (HL.out.after HW1.out) HN.out)
    clear HXX hbx HRR
    obtain ⟨NX, hNX⟩ : ∃ NX, up ver = NX := ⟨_, rfl⟩
    have hNX' : IntKind.u64.wrap (ver + 1) = NX := hNX
    have HNX := Lib.hid hNX
    clear hNX
    go_wp2_with (refine wpList_skip rfl (hst rfl rfl rfl) ?_)
    refine HC.out.mono ?_
    rintro e W2 ⟨L, wv, rfl, rfl, hT2, hb2⟩
    have HB2 := Lib.hid (HBX.out.after hb2)
    have HO2 := Lib.hid (HO1.out.after hb2)
    have HW2 := Lib.hid (HW1.out.trans (hb2.mono HW1.out.size))
    have HT2 := Lib.hid (txt_low hT2 HW1.out.size)
    have HAC := Lib.hid (atts_any l (.slice o l.length c) name W2 (HL.out.after HW2.out) HN.out)
    clear hT2 hb2 HBX HO1 HW1 HC
    go_wp2_with (fail)
    refine HAC.out.mono ?_
    rintro e W3 ⟨A, av, rfl, rfl, hA3, hb3⟩
    have HB3 := Lib.hid (HB2.out.after hb3)
    have HO3 := Lib.hid (HO2.out.after hb3)
    have HW3 := Lib.hid (HW2.out.trans (hb3.mono HW2.out.size))
    have HT3 := Lib.hid (HT2.out.after hb3)
    have HA3 := Lib.hid (out_low hA3 HW2.out.size)
    have HNA := Lib.hid (Nat.lt_of_le_of_lt (atts_len l name) HN.out)
    have HNW := Lib.hid (Nat.lt_of_le_of_lt (want_len l name) HN.out)
    have HWS : Hid (∀ s ∈ wantL l name, s.size ≤ 140737488351232) := fun s hs => by
      obtain ⟨p, hp, rfl⟩ := want_mem hs
      exact (HZ.out p hp).2
    have HRS := Lib.hid (want_rises l name)
    obtain ⟨A, hAe⟩ : ∃ A, attsL l name = A := ⟨_, rfl⟩
    obtain ⟨L, hLe⟩ : ∃ L, wantL l name = L := ⟨_, rfl⟩
    have HST : Hid (∀ a, stepA l ver name a = goN a (memB a.node L) NX) := fun a => by
      unfold stepA
      rw [hLe, HNX.out]
    rw [hAe] at HX1 HA3 HNA
    rw [hLe] at HX1 HT3 HNW HWS HRS
    rw [HNX.out] at HX1
    clear hA3 hb3 HB2 HO2 HW2 HT2 HAC hAe hLe HZ HN HL
    obtain ⟨o2, c2, rfl, hA63, -⟩ := HA3.out.objs (by have := HNA.out; omega)
    go_wp2_with (fail)
    go_loopw [34] (fun iv wr => ∃ i : Nat, iv = .int .i64 (i : Int) ∧ i ≤ A.length ∧ Hid (∀ j (hj : j < A.length), j < i → (stepA l ver name A[j]).act = 0) ∧ Below W3.heap.size W3 wr) (fun iv _ => A.length - (RowKit.intOf iv).toNat)
    case atStart => exact ⟨0, rfl, Nat.zero_le _, fun j _ h => absurd h (by omega), Below.refl _ _⟩
    case round =>
      obtain ⟨i, rfl, hi, hall, hb⟩ := hrel
      by_cases hlt : i < A.length
      · have hlt' : (i : Int) < (A.length : Int) := by omega
        obtain ⟨o', c', he, -, hxr⟩ := (HA3.out.after hb).objs (by have := HNA.out; omega)
        cases he
        obtain ⟨g, off, rfl, hgl, hrow⟩ := hxr i hlt
        obtain ⟨a, hae⟩ : ∃ a, A[i] = a := ⟨_, rfl⟩
        rw [hae] at hrow
        have HAE := Lib.hid hae
        have HIL := Lib.hid hlt
        obtain ⟨V4, hst4, hbx4, hlw4, hs4⟩ := boxing wr a
        have HA := Lib.hid hbx4
        have HO := Lib.hid ((HO3.out.after hb).after hlw4)
        have HT := Lib.hid ((HT3.out.after hb).after hlw4)
        have HB := Lib.hid (hb.trans (hlw4.mono hb.size))
        clear hxr hae hbx4 hlw4 hs4 hb
        go_upto_region 9 with (first | (refine wpList_got (v := encO a) rfl (load_mid hrow rfl rfl) ?_) | (refine wpList_skip rfl (hst4 rfl rfl rfl) ?_))
        clear hrow hst4
        refine wp_region_held_drew (S := fun V => BoxO V wr.heap.size a ∧ BoxA V w.heap.size nothing ∧ TxtIn V w.heap.size wv L ∧ Below W3.heap.size W3 V) (by kernel_rfl) ⟨HA.out, HO.out, HT.out, HB.out.drew⟩ (fun _ => ?_)
        refine HeldBy.gen (fun V => BoxO V wr.heap.size a ∧ BoxA V w.heap.size nothing ∧ TxtIn V w.heap.size wv L ∧ Below W3.heap.size W3 V) ⟨HA.out, HO.out, HT.out, HB.out.drew⟩ ?_
        clear HA HO HT HB
        rintro U0 HS
        refine HeldBy.take (i := 0) (v := encO a) rfl (by kernel_rfl) (by kernel_rfl) (by kernel_rfl) (fun _ _ _ h => h) (by rfl) (fun V hV => load_obj hV.1 rfl rfl) (by go_simp; rfl) HS ?_
        refine HeldBy.take (i := 1) rfl (by kernel_rfl) (by kernel_rfl) (by kernel_rfl) (fun _ _ _ h => h) (by rfl) (fun _ _ => by first | (go_simp; rfl) | (go_simp; done)) (by go_simp; rfl) HS ?_
        refine HeldBy.take (i := 2) rfl (by kernel_rfl) (by kernel_rfl) (by kernel_rfl) (fun _ _ _ h => h) (by rfl) (fun _ _ => by first | (go_simp; rfl) | (go_simp; done)) (by go_simp; rfl) HS ?_
        refine HeldBy.take (i := 3) rfl (by kernel_rfl) (by kernel_rfl) (by kernel_rfl) (fun _ _ _ h => h) (by rfl) (fun V hV => by have hc := hV.1.c13; first | (go_simp; rfl) | (go_simp; done)) (by go_simp; rfl) HS ?_
        refine HeldBy.take (i := 5) rfl (by kernel_rfl) (by kernel_rfl) (by kernel_rfl) (fun _ _ _ h => h) (by rfl) (fun _ _ => by first | (go_simp; rfl) | (go_simp; done)) (by go_simp; rfl) HS ?_
        have HSS : ∀ w', Below U0.heap.size U0 w' → (BoxO w' wr.heap.size a ∧ BoxA w' w.heap.size nothing ∧ TxtIn w' w.heap.size wv L ∧ Below W3.heap.size W3 w') := fun w' hb => ⟨HS.1.after hb, HS.2.1.after hb, HS.2.2.1.after hb, HS.2.2.2.trans (hb.mono HS.2.2.2.size)⟩
        refine HeldBy.Goes.without (w0 := U0) (k := 7) (dk := some 14) (x := .cells (cellsA nothing) 42 (0, 0)) ?_ U0 (Below.refl _ _)
        refine HeldBy.Goes.callS (i := 4) (v := .bool (memB a.node L)) rfl rfl rfl rfl (makes_act rfl) rfl (by kernel_rfl) (by kernel_rfl) rfl (by decide) (by kernel_rfl) (by intro w; first | (go_simp; done) | (go_simp; first | exact ⟨rfl, rfl⟩ | rfl)) (by first | (go_simp; rfl) | (go_simp; done)) HSS (fun _ HS => in_any wv L _ a.node _ HS.2.2.1 HRS.out HNW.out) ?_
        refine HeldBy.Goes.call (i := 6) (v := encA (goN a (memB a.node L) NX)) rfl rfl rfl rfl (makes_act rfl) rfl (by kernel_rfl) (by kernel_rfl) rfl (by decide) (by kernel_rfl) (by intro w; first | (go_simp; done) | (go_simp; first | exact ⟨rfl, rfl⟩ | rfl)) (by first | (go_simp; rfl) | (go_simp; done)) HSS (fun _ => goOn_any a (memB a.node L) NX _) ?_
        refine HeldBy.Goes.nil rfl rfl (by kernel_rfl) rfl (makes_act rfl) HSS rfl (fun p => by unfold HeldBy.ptr; go_simp; rfl) ?_
        intro p U1 hp hbU hnU
        obtain ⟨G, hG⟩ : ∃ G, goN a (memB a.node L) NX = G := ⟨_, rfl⟩
        obtain ⟨V5, hst5, hd5, hoth, hbl⟩ := acting (show BoxA U1 p nothing from hnU) G
        have hbel : Below U0.heap.size U0 V5 := hbl _ _ hbU hp
        have HS5 : BoxO V5 wr.heap.size a ∧ BoxA V5 w.heap.size nothing ∧ TxtIn V5 w.heap.size wv L ∧ Below W3.heap.size W3 V5 := ⟨HS.1.after hbel, HS.2.1.after hbel, HS.2.2.1.after hbel, HS.2.2.2.trans (hbel.mono HS.2.2.2.size)⟩
        refine HeldBy.store (i := 8) (w' := V5) rfl (by kernel_rfl) (by rfl) (hst5 rfl rfl (by rw [← hG]; rfl)) (by first | (go_simp; rfl) | (go_simp; done)) HS5 ?_
        refine wpAnyH_done (by kernel_rfl) ?_ _
        have HGE : Hid (stepA l ver name a = G) := by show _ = _; rw [HST.out, hG]
        have HD := Lib.hid hd5
        have HO5 := Lib.hid HS5.2.1
        have HB5 := Lib.hid HS5.2.2.2
        have k0 : V5.cell? ⟨p, 0, none⟩ = some (.int .u8 G.act) := (cell_of_row V5 p 0 _ _ _ hd5).trans rfl
        clear hst5 hd5 hoth hbl hbel HS5 HSS HS hp hbU hnU
        by_cases h0 : G.act = 0
        · have q0 : (G.act != 0) = false := by simp [h0]
          have HALL : Hid (∀ j (hj : j < A.length), j < i + 1 → (stepA l ver name A[j]).act = 0) := fun j hj hji => by
            by_cases e : j = i
            · subst e
              rw [HAE.out, HGE.out]
              exact h0
            · exact hall.out j hj (by omega)
          clear h0 hall hG HD HO5
          go_wp2
          go_roundw
          case rel => exact ⟨i + 1, by go_num, by omega, HALL, HB5.out⟩
          case measure => simp [RowKit.intOf]; omega
        · have q0 : (G.act != 0) = true := by simpa using h0
          have HVV : Hid (x = G) := by
            show _ = _
            rw [← HX1.out, findG_at (p := fun a => decide ((stepA l ver name a).act ≠ 0)) HIL.out (fun j hj hji => by rw [hall.out j hj hji]; rfl) (by rw [HAE.out, HGE.out]; exact decide_eq_true h0), HAE.out]
            exact HGE.out
          obtain ⟨V8, hst8, ho8, -, hb8⟩ := acting HO5.out G
          have hdx := HD.out
          have HO8 := Lib.hid ho8
          have HX8 := Lib.hid (hb8 _ _ (HW3.out.trans (HB5.out.mono HW3.out.size)) (Nat.le_refl _))
          clear h0 hall hG HD HO5 ho8 hb8
          go_wp2_with (first | (refine wpList_got rfl (load_act hdx rfl rfl) ?_) | (refine wpList_skip rfl (hst8 rfl rfl rfl) ?_))
          refine bodyPost_ret (v := encA G) (results_cell_row rfl _ _ w.heap.size 42 (cellsA G) (0, 0) _ rfl HO8.out undAct rfl sizeAct) rfl ?_
          exact ⟨by rw [HVV.out], HX8.out⟩
      · have hlt' : ¬ (i : Int) < (A.length : Int) := by omega
        have HVV : Hid (x = beginN vo L A NX) := by
          show _ = _
          rw [← HX1.out, findG_no (fun j hj => by rw [hall.out j hj (by omega)]; rfl)]
        obtain ⟨G, hG⟩ : ∃ G, beginN vo L A NX = G := ⟨_, rfl⟩
        have hbx := HB3.out.after hb
        have HO5 := Lib.hid (HO3.out.after hb)
        have HB5 := Lib.hid (HW3.out.trans (hb.mono HW3.out.size))
        have HBE := Lib.hid (begin_any vo wv (.slice o2 A.length c2) L A NX _ _ wr (HT3.out.after hb) (HA3.out.after hb) HNW.out HNA.out HVN.out HWS.out)
        rw [hG] at HVV HBE
        clear hb hall hG
        go_wp2_with (first | ((with_reducible refine wpList_load_obj ?_ rfl ?_ hbx ?_); rfl; rfl))
        refine HBE.out.mono ?_
        rintro e W7 ⟨rfl, hb7⟩
        obtain ⟨V8, hst8, ho8, -, hb8⟩ := acting (HO5.out.after hb7) G
        have HO8 := Lib.hid ho8
        have HX8 := Lib.hid (hb8 _ _ (HB5.out.trans (hb7.mono HB5.out.size)) (Nat.le_refl _))
        clear ho8 hb8 hb7 HO5 HB5 HBE hbx
        go_wp2_with (refine wpList_skip rfl (hst8 rfl rfl rfl) ?_)
        refine bodyPost_ret (v := encA G) (results_cell_row rfl _ _ w.heap.size 42 (cellsA G) (0, 0) _ rfl HO8.out undAct rfl sizeAct) rfl ?_
        exact ⟨by rw [HVV.out], HX8.out⟩
end Go.Proofs.Ytigoghhjncpgfaa.O.B
