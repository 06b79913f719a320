/- Own work. -/
import Derived.Test.YtbgfccanbgpjiaaDJIRWith
import Derived.Test.YtbgfccanbgpjiaaDJIRTop
import Derived.Test.YtbgfccanbgpjiaaDJIRRA
namespace Go.Proofs.Ytbgfccanbgpjiaa.O.I
open Go Go.RowKit Go.Lib KM
attribute [local go_sem] Oper.semAt_some
theorem append_zero {t e : TypeId} {k : Nat} {z : Value} (hr : Rowy t e k z) {W : World} {R n : Nat} {v : Value} {xs : List Value} (hown : W.ownsRow R e k v n xs) (o : Option Addr) (c : Nat) (ty : TypeId) : (Builtin.append_ #[t, t] ty #[v, .slice o 0 c]).run Try.prog W = .ok v W := by
  obtain ⟨ht, hzs, hk, i, hi, hz, hs, hb⟩ := hr
  have h0 : ∀ a : Addr, (loadCells a 0).run Try.prog W = .ok #[] W := fun a => by first | rfl | simp [loadCells]
  rcases hown.2 with ⟨rfl, rfl⟩ | ⟨g, cap, cur, rfl, _, _, hnc, _⟩
  · cases o <;> simp [Builtin.append_, run_underlying ht, sizeOf, typeInfo, hi, Builtin.lenOf, Builtin.firstCells, h0, Result.andThen]
  · cases o <;> simp [Builtin.append_, run_underlying ht, sizeOf, typeInfo, hi, Builtin.lenOf, Builtin.firstCells, hnc, storeCells, h0, Result.andThen]
theorem add_all {t e : TypeId} {k : Nat} {z : Value} (hr : Rowy t e k z) {R0 R n : Nat} {V : World} {v0 : Value} {s : Sl} {xs : List Value} (h0 : V.ownsRow R0 e k v0 0 []) (hR0 : R0 ≤ V.heap.size) (h : V.ownsRow R e k (encSl s) n xs) (h1 : ∀ u ∈ xs, u.oneCell' = true) (hn : n ≤ 1000000) (ty : TypeId) :
    ∃ s' W', (Builtin.append_ #[t, t] ty #[v0, encSl s]).run Try.prog V = .ok (encSl s') W' ∧ W'.ownsRow R0 e k (encSl s') n xs ∧ Below R0 V W' ∧ ∀ b, b < V.heap.size → (b < R0 ∨ ∀ cs f, V.heap[b]? ≠ some (.cells cs e f)) → W'.heap[b]? = V.heap[b]? := by
  rcases h.2 with ⟨hs, hn0⟩ | ⟨g, cap, cur, hs, h2, h3, h4, h5, h6, h7⟩
  · rw [hs]
    have hx : xs = [] := List.length_eq_zero_iff.1 (by rw [h.1, hn0, Nat.zero_mul])
    obtain ⟨s', hs', -⟩ := own_sl h0
    rw [hx, hn0]
    refine ⟨s', V, ?_, ?_, Below.refl _ _, fun _ _ _ => rfl⟩
    · rw [append_zero hr h0]
      exact congrArg (fun q => Result.ok q V) hs'
    · rw [show encSl s' = v0 from hs'.symm]
      exact h0
  · rw [hs]
    have hrow : World.rangeAt V g 0 xs := fun j u hu => by
      rw [Nat.zero_add, cell_of_row V g j _ _ _ h3, ← Array.getElem?_toList]
      rw [← h7, List.getElem?_take] at hu
      split at hu
      · exact hu
      · cases hu
    obtain ⟨v', W', q1, q2, q3, q4⟩ := add_rowsK hr R0 V v0 0 [] h0 g 0 n cap xs h.1 hrow h1 (by omega) hR0 ty
    obtain ⟨s', hs', -⟩ := own_sl q2
    rw [Nat.zero_add, List.nil_append] at q2
    rw [hs'] at q1 q2
    exact ⟨s', W', q1, q2, q3, q4⟩
theorem add_strs {R0 : Nat} {V : World} {v0 : Value} {s : Sl} {l : List ByteArray} (h0 : SW V R0 v0 []) (hR0 : R0 ≤ V.heap.size) (h : StrIn V s l) (hn : l.length ≤ 1000000) :
    ∃ s' W', (Builtin.append_ #[56, 56] 56 #[v0, .slice s.o s.n s.c]).run Try.prog V = .ok (.slice s'.o s'.n s'.c) W' ∧ SW W' R0 (encSl s') l ∧ Below R0 V W' := by
  rcases h.2 with h1 | ⟨g, cur, h1, h2, h3⟩
  · obtain ⟨s', hs', -⟩ := own_sl h0
    refine ⟨s', V, ?_, ?_, Below.refl _ _⟩
    · rw [h.1, h1, show ([] : List ByteArray).length = 0 from rfl, append_zero str_rowy h0]
      exact congrArg (fun q => Result.ok q V) hs'
    · rw [h1, show encSl s' = v0 from hs'.symm]
      exact h0
  · rw [h1, h.1]
    have hrow : World.rangeAt V g 0 (l.map .string) := fun j u hu => by
      rw [Nat.zero_add, cell_of_row V g j _ _ _ h2, ← Array.getElem?_toList]
      rw [← h3, List.getElem?_take] at hu
      split at hu
      · exact hu
      · cases hu
    obtain ⟨v', W', q1, q2, q3, -⟩ := add_rowsK str_rowy R0 V v0 0 [] h0 g 0 l.length s.c (l.map .string) (by simp) hrow (fun u hu => by
      obtain ⟨y, -, rfl⟩ := List.mem_map.1 hu
      rfl) (by omega) hR0 56
    obtain ⟨s', hs', -⟩ := own_sl q2
    rw [Nat.zero_add, List.nil_append] at q2
    rw [hs'] at q1 q2
    exact ⟨s', W', q1, q2, q3⟩
theorem run_str0 (W : World) : (Instr.buildSlice 56 0 #[]).run Try.prog W = .ok (.slice (some ⟨W.heap.size, 0, none⟩) 0 0) (W.alloc (.cells #[] 9 (0, 0))) := by kernel_rfl
theorem run_ds0 (W : World) : (Instr.buildSlice 45 0 #[]).run Try.prog W = .ok (.slice (some ⟨W.heap.size, 0, none⟩) 0 0) (W.alloc (.cells #[] 63 (0, 0))) := by kernel_rfl
theorem add_volK (R : Nat) (W : World) (v : Value) (K : List DVS) (y : DVS) (h : W.ownsRow R 58 5 v K.length (catW K)) (hs : ∀ p ∈ K, StrIn W p.2 p.1.nodes) (hy : StrIn W y.2 y.1.nodes) (hR : R ≤ W.heap.size) (hl : K.length < 1000000) :
    ∃ v' W', (Builtin.append_ #[43, 43] 43 #[v, .slice (some ⟨W.heap.size, 0, none⟩) 1 1]).run Try.prog (W.alloc (.cells (cellsY y) 58 (0, 0))) = .ok v' W' ∧
      W'.ownsRow R 58 5 v' (K ++ [y]).length (catW (K ++ [y])) ∧ (∀ p ∈ K ++ [y], StrIn W' p.2 p.1.nodes) ∧ Below R W W' := by
  have hba : Below W.heap.size W (W.alloc (.cells (cellsY y) 58 (0, 0))) := (Below.refl _ _).alloc (Nat.le_refl _) _
  obtain ⟨v', W', h1, h2, h3, h4⟩ := add_rowsK vol_rowy R _ v K.length (catW K) (own_after h hba) W.heap.size 0 1 1 (cellsY y).toList rfl
    (fun j u hu => by
      rw [Nat.zero_add, cell_of_row _ _ _ _ _ _ (heap_alloc_new W _), ← Array.getElem?_toList]
      exact hu) (one_cellsDV y.1 y.2) (by omega) (by simp only [World.size_alloc]; omega) 43
  have hst : ∀ {s : Sl} {l : List ByteArray}, StrIn W s l → StrIn W' s l := fun {s l} hsl => (hsl.after hba).stay fun g cur hg => (h4 g (Array.getElem?_eq_some_iff.1 hg).1 (.inr fun cs f e => by
    rw [hg] at e
    injection e with e
    injection e with _ e _
    exact absurd e (by decide))).trans hg
  refine ⟨v', W', h1, ?_, fun p hp => ?_, (hba.mono hR).trans h3⟩
  · rw [List.length_append, catW_app, show catW [y] = (cellsY y).toList by unfold catW cellsY cellsDV; simp]
    exact h2
  · rcases List.mem_append.1 hp with h5 | h5
    · exact hst (hs p h5)
    · rw [List.mem_singleton.1 h5]
      exact hst hy
def ToldA (l : List DV) (W : World) (e : Ending) (w' : World) : Prop := ∃ s K, e = .returned (encSl s) ∧ VOwn w' W.heap.size s K ∧ K.map (·.1) = l ∧ Below W.heap.size W w'
section
variable {R : Nat} {W : World} {q : Nat} {S : St} {rd : Rd} {L : List (DV × Sl)} (h : RAt R W q S rd L)
include h
set_option maxRecDepth 100000 in
set_option maxHeartbeats 4000000 in
theorem rvolumes_any (hnd : ∀ x ∈ S.core.vols, x.nodes.length ≤ 1000) : Calls Try.prog 35 #[.pointer (some ⟨q, 0, none⟩)] W (ToldA S.core.vols W) := by
  have HH := Lib.hid h
  have HND := Lib.hid hnd
  have hfew : S.core.vols.length ≤ 64 := h.few.2.1
  clear h hnd
  go_enter Try.func35, Try.ntmps35
  go_wp2
  go_loopw [3, 4] (fun ov iv wr => ∃ (j : Nat) (K : List (DV × Sl)) (v : Value), iv = .int .i64 (j : Int) ∧ v = ov ∧ j ≤ S.core.vols.length ∧ K.map (·.1) = S.core.vols.take j ∧ wr.ownsRow W.heap.size 58 5 v K.length (catW K) ∧ (∀ p ∈ K, StrIn wr p.2 p.1.nodes) ∧ Below W.heap.size W wr) (fun _ iv _ => S.core.vols.length - (RowKit.intOf iv).toNat)
  case atStart => exact ⟨0, [], _, rfl, rfl, Nat.zero_le _, rfl, own_none _ _ _ _, fun p hp => (by cases hp), Below.refl _ _⟩
  case round =>
    obtain ⟨j, K, v, rfl, rfl, hj, hK, hown, hst, hlow⟩ := hrel
    have HK := Lib.hid hK
    have HO := Lib.hid hown
    have HST := Lib.hid hst
    have HW := Lib.hid hlow
    have HA := Lib.hid (HH.out.after hlow)
    clear hK hown hst hlow
    have c1 := HA.out.box.c1
    have hvn : rd.v.n = S.core.vols.length := by rw [(own_view HA.out.vols.1).1]; exact HA.out.len
    rw [hvn] at c1
    have HVN := Lib.hid hvn
    clear hvn
    by_cases hlt : j < S.core.vols.length
    · have hlt' : (j : Int) < (S.core.vols.length : Int) := by omega
      obtain ⟨x, hx⟩ : ∃ x, S.core.vols[j]? = some x := ⟨_, List.getElem?_eq_getElem hlt⟩
      obtain ⟨g, cur, s, hL, h1, -, h3, h4, h5, -, -⟩ := HA.out.vol_at hx
      rw [h1] at c1
      obtain ⟨V1, sy, by1, ly⟩ := boxY wr zeroY rfl (x, s)
      have hV1 : wr.heap.size < V1.heap.size := by1.lt
      have hem : (V1.alloc (.cells #[] 9 (0, 0))).ownsRow V1.heap.size 9 1 (.slice (some ⟨V1.heap.size, 0, none⟩) 0 0) 0 [] := own_empty (Nat.le_refl _)
      have hba : Below V1.heap.size V1 (V1.alloc (.cells #[] 9 (0, 0))) := (Below.refl _ _).alloc (Nat.le_refl _) _
      have hnl := HND.out x (List.mem_of_getElem? hx)
      obtain ⟨s2, V3, hrun, hsw, hb3⟩ := add_strs hem (by simp) ((h5.after ly).after hba) (by omega)
      have hb13 := hba.trans hb3
      have by3 : BoxY V3 wr.heap.size (x, s) := by1.after hb13
      have y2 : (V1.alloc (.cells #[] 9 (0, 0))).cell? ⟨wr.heap.size, 4, none⟩ = some (.slice s.o s.n s.c) := (by1.after hba).c4
      have y4 := by3.c4
      have z4 := by3.free 4
      obtain ⟨V4, hV4⟩ : ∃ V4, V3.setCell ⟨wr.heap.size, 4, none⟩ (.slice s2.o s2.n s2.c) = V4 := ⟨_, rfl⟩
      have by4 : BoxY V4 wr.heap.size (x, s2) := by
        rw [← hV4]
        exact (heap_setCell_same _ wr.heap.size 4 _ _ (.slice s2.o s2.n s2.c) by3).trans rfl
      have hl4 : Below wr.heap.size wr V4 := by
        rw [← hV4]
        have hwv : Below wr.heap.size wr V3 := ly.trans (hb13.mono (by omega))
        exact hwv.setCell (show wr.heap.size ≤ wr.heap.size from Nat.le_refl _) _
      have hs4 : StrIn V4 s2 x.nodes := by
        rw [← hV4]
        exact (SW.strIn hsw).set by3 (by decide) _
      obtain ⟨v', W', hrun2, hown2, hst2, hb2⟩ := add_volK W.heap.size V4 v K (x, s2) (own_after HO.out hl4) (fun p hp => (HST.out p hp).after hl4) hs4 (by have := HW.out.size; have := hl4.size; omega) (by
        have := congrArg List.length HK.out
        simp only [List.length_map, List.length_take] at this
        omega)
      have HSY : Hid (∀ {oi : Oper} {a : Act} {p q : Operand}, oi.op = .store 58 p q → a.eval p = .pointer (some ⟨wr.heap.size, 0, none⟩) → a.eval q = encY (x, s) → (execOp a.eval oi).run Try.prog (wr.alloc (.cells (cellsY zeroY) 58 (0, 0))) = .ok .skip V1) := sy
      have HS0 := Lib.hid (run_str0 V1)
      have HRUN := Lib.hid hrun
      have HL4 := Lib.hid by4
      have HRUN2 := Lib.hid hrun2
      have HSL := Lib.hid (run_y1 V4 (x, s2))
      have HZR := Lib.hid h4
      have HV4 := Lib.hid hV4
      have HN : Hid (∃ (j' : Nat) (K : List (DV × Sl)) (u : Value), (Value.int .i64 ((j : Int) + 1)) = .int .i64 (j' : Int) ∧ u = v' ∧ j' ≤ S.core.vols.length ∧ K.map (·.1) = S.core.vols.take j' ∧ W'.ownsRow W.heap.size 58 5 u K.length (catW K) ∧ (∀ p ∈ K, StrIn W' p.2 p.1.nodes) ∧ Below W.heap.size W W') := by
        refine ⟨j + 1, K ++ [(x, s2)], v', by go_num, rfl, by omega, ?_, hown2, hst2, ?_⟩
        · rw [List.map_append, HK.out, List.take_succ_eq_append_getElem hlt]
          rw [List.getElem?_eq_getElem hlt] at hx
          rw [Option.some.inj hx]
          rfl
        · have := HW.out.size
          exact (HW.out.trans (hl4.mono this)).trans hb2
      clear h1 h3 h4 h5 sy by1 ly hV1 hem hba hnl hrun hsw hb3 hb13 by3 by4 hl4 hs4 hrun2 hown2 hst2 hb2 hx hL hV4 HO HST HK
      go_upto_region 6 with (first | (refine wpList_got rfl (loadY_at HZR.out rfl rfl) ?_) | (refine wpList_skip rfl (HSY.out rfl rfl rfl) ?_))
      go_upto_region 7 with (first | (refine wpList_got rfl (exec_slice0 HS0.out rfl rfl) ?_) | ((with_reducible refine wpList_app rfl rfl HRUN.out ?_ ?_ ?_); rfl; rfl))
      rw [HV4.out]
      go_wp2_with (first | (refine wpList_got rfl (loadY HL4.out rfl rfl) ?_) | (refine wpList_got rfl (exec_slice0 HSL.out rfl rfl) ?_) | ((with_reducible refine wpList_app rfl rfl HRUN2.out ?_ ?_ ?_); rfl; rfl))
      go_roundw
      case rel => exact HN.out
      case measure => simp [RowKit.intOf]; omega
    · have hlt' : ¬ (j : Int) < (S.core.vols.length : Int) := by omega
      have hE : j = S.core.vols.length := by omega
      obtain ⟨sl, hsl, -⟩ := own_sl HO.out
      have HX : Hid (v = encSl sl ∧ VOwn wr W.heap.size sl K ∧ K.map (·.1) = S.core.vols) := by
        have h1 := HO.out
        rw [hsl] at h1
        exact ⟨hsl, ⟨h1, HST.out⟩, by rw [HK.out, hE, List.take_length]⟩
      clear hsl HO HST HK hE
      go_wp2
      go_ret
      exact ⟨sl, K, by rw [← HX.out.1]; rfl, HX.out.2.1, HX.out.2.2, HW.out⟩
set_option maxRecDepth 100000 in
set_option maxHeartbeats 2000000 in
theorem rsnaps_any : Calls Try.prog 37 #[.pointer (some ⟨q, 0, none⟩)] W fun e w' => ∃ s, e = .returned (encSl s) ∧ SOwn w' W.heap.size s S.core.snaps ∧ Below W.heap.size W w' := by
  have c2 := h.box.c2
  have hba : Below W.heap.size W (W.alloc (.cells #[] 63 (0, 0))) := (Below.refl _ _).alloc (Nat.le_refl _) _
  have c2b : (W.alloc (.cells #[] 63 (0, 0))).cell? ⟨q, 2, none⟩ = some (.slice rd.s.o rd.s.n rd.s.c) := (h.box.after hba).c2
  obtain ⟨s', W', hrun, hown, hb, -⟩ := add_all snap_rowy (own_empty (Nat.le_refl W.heap.size)) (by simp) (own_after h.snaps hba) (fun u hu => by
    unfold catS at hu
    obtain ⟨x, -, hx⟩ := List.mem_flatMap.1 hu
    exact one_cellsDS x u hx) (by have := h.few.2.2.1; omega) 45
  have HS0 := Lib.hid (run_ds0 W)
  have HRUN : Hid ((Builtin.append_ #[45, 45] 45 #[.slice (some ⟨W.heap.size, 0, none⟩) 0 0, .slice rd.s.o rd.s.n rd.s.c]).run Try.prog (W.alloc (.cells #[] 63 (0, 0))) = .ok (.slice s'.o s'.n s'.c) W') := hrun
  have HX : Hid (SOwn W' W.heap.size s' S.core.snaps ∧ Below W.heap.size W W') := ⟨hown, hba.trans hb⟩
  clear h hba hrun hown hb
  go_enter Try.func37, Try.ntmps37
  go_wp2_with (first | (refine wpList_got rfl (exec_slice0 HS0.out rfl rfl) ?_) | ((with_reducible refine wpList_app rfl rfl HRUN.out ?_ ?_ ?_); rfl; rfl))
  go_ret
  exact ⟨s', rfl, HX.out.1, HX.out.2⟩
end
end Go.Proofs.Ytbgfccanbgpjiaa.O.I
namespace Go.Proofs.Ytbgfccanbgpjiaa.O.I
open Go Go.RowKit Go.Lib KM
attribute [local go_sem] Oper.semAt_some
def cV : Cl := ⟨1, ⟨#[118]⟩, 1, 4, ⟨#[97]⟩, E0, E0⟩
def rV : Rs := ⟨0, 4, ⟨#[97]⟩, 0⟩
def zA : Zn := ⟨⟨#[97]⟩, 10⟩
def lS0 : St := ⟨⟨[zA], [], []⟩, []⟩
def lS1 : St := ⟨⟨[⟨⟨#[97]⟩, 6⟩], [⟨⟨#[118]⟩, 4, ⟨#[97]⟩, 0, []⟩], []⟩, [(cV, rV)]⟩
theorem live_do : doS lS0 cV = (rV, lS1) := by kernel_rfl
theorem live_again : doS lS1 cV = (rV, lS1) := by kernel_rfl
theorem live_good : Good 1 lS1.core := by
  have h := (good_new [zA]).do (S := lS0) cV
  rwa [live_do] at h
theorem built_zA : Try.prog.built 42 [(0, .string ⟨#[97]⟩), (1, .int .i64 10)] = some (cellsZ zA) := by kernel_rfl
theorem built_cV : Try.prog.built 27 [(0, .int .u8 1), (1, .string ⟨#[118]⟩), (2, .int .u64 1), (3, .int .i64 4), (4, .string ⟨#[97]⟩)] = some (cellsC cV) := by kernel_rfl
theorem run_zA (W : World) : (Instr.buildSlice 36 1 #[(0, encZ zA)]).run Try.prog W = .ok (.slice (some ⟨W.heap.size, 0, none⟩) 1 1) (W.alloc (.cells (cellsZ zA) 42 (0, 0))) := by kernel_rfl
theorem live_new (g k : Nat) (w : World) (hk : w.heap.size = k) (hg : BoxZ w g zA) : Calls Try.prog 19 #[.slice (some ⟨g, 0, none⟩) 1 1] w fun e w' => e = .returned (.pointer (some ⟨k + 4, 0, none⟩)) ∧ PAt (k + 4) k (k + 1) (k + 2) (k + 3) k w' lS0 ∧ Below w.heap.size w w' := by
  subst hk
  refine (yes_new _ [zA] w ⟨_, _, rfl, by decide, fun i hi => ⟨g, 0, rfl, hg.lt, fun j u hu => ?_⟩⟩ (by kernel_rfl)).mono ?_
  · have hi0 : i < 1 := hi
    obtain rfl : i = 0 := by omega
    rw [show 0 + 0 * 2 + j = j by omega, cell_of_row w g j _ _ _ hg, ← Array.getElem?_toList]
    exact hu
  · rintro e w' ⟨rfl, hd, hb⟩
    exact ⟨rfl, pat_new hd, hb⟩
section
variable {d r v s n B : Nat} {w : World}
theorem live_first (h : PAt d r v s n B w lS0) : Calls Try.prog 24 #[.pointer (some ⟨d, 0, none⟩), encC cV] w fun e V => e = .returned (encR rV) ∧ PAt d r v s n B V lS1 ∧ Below B w V ∧ CellsStay w V := by
  have h1 := do_model h cV
  rw [live_do] at h1
  exact h1
theorem live_second (h : PAt d r v s n B w lS1) : Calls Try.prog 24 #[.pointer (some ⟨d, 0, none⟩), encC cV] w fun e V => e = .returned (encR rV) ∧ PAt d r v s n B V lS1 ∧ Below B w V ∧ CellsStay w V := by
  have h1 := do_model h cV
  rw [live_again] at h1
  exact h1
theorem live_room (h : PAt d r v s n B w lS1) : Calls Try.prog 21 #[.pointer (some ⟨d, 0, none⟩), .string ⟨#[97]⟩] w fun e w' => e = .returned (.tuple #[.int .i64 6, .bool true]) ∧ Below w.heap.size w w' := room_model h ⟨#[97]⟩
theorem live_vols (h : PAt d r v s n B w lS1) : Calls Try.prog 22 #[.pointer (some ⟨d, 0, none⟩)] w fun e w' => ∃ o c, e = .returned (.slice o 1 c) ∧ Below w.heap.size w w' := by
  refine (volumes_model h live_good (by decide) (by decide)).mono ?_
  rintro e w' ⟨sl, L, rfl, hv, hL, hb⟩
  have hn : sl.n = 1 := by
    rw [(own_view hv.1).1]
    have := congrArg List.length hL
    rw [List.length_map] at this
    exact this
  exact ⟨sl.o, sl.c, by unfold encSl; rw [hn], hb⟩
end
set_option maxRecDepth 100000 in
set_option maxHeartbeats 4000000 in
theorem live_any (w : World) : Calls Try.prog 15 #[] w fun e w' => e = .returned (.bool true) ∧ Below w.heap.size w w' := by
  obtain ⟨k, hk⟩ : ∃ k, (w.alloc (.cells (cellsZ zA) 42 (0, 0))).heap.size = k := ⟨_, rfl⟩
  have hkw : w.heap.size + 1 = k := by rw [← hk]; simp
  have HN := Lib.hid (live_new w.heap.size k _ hk (heap_alloc_new w _))
  have HB0 : Hid (Below w.heap.size w (w.alloc (.cells (cellsZ zA) 42 (0, 0)))) := (Below.refl _ _).alloc (Nat.le_refl _) _
  have HKW := Lib.hid hkw
  clear hk hkw
  go_enter Try.func15, Try.ntmps15
  go_wp2_with (first | ((with_reducible refine wpList_build_to rfl 42 _ rfl (cellsZ zA) ?_ ?_); exact built_zA) | (refine wpList_got rfl (exec_slice (run_zA w) rfl rfl) ?_))
  refine HN.out.mono ?_
  rintro e W1 ⟨rfl, hd, hb⟩
  obtain ⟨V1, hs1, hb1, hl1⟩ := boxC W1 zeroC rfl cV
  have HD := Lib.hid (hd.after hl1)
  have HW : Hid (Below w.heap.size w V1) := by
    have h1 := HB0.out.trans (hb.mono HB0.out.size)
    exact h1.trans (hl1.mono h1.size)
  have HC := Lib.hid hb1
  have hcb := hb1
  have HZ : Hid (w.heap.size ≤ k) := by have := HKW.out; show _ ≤ _; omega
  clear hd hb hb1 hl1 HN HB0
  go_wp2_with (first | ((with_reducible refine wpList_build_to rfl 27 _ rfl (cellsC cV) ?_ ?_); exact built_cV) | (refine wpList_skip rfl (hs1 rfl rfl rfl) ?_) | (refine wpList_got rfl (loadC hcb rfl rfl) ?_))
  clear hs1 hcb
  refine (live_first HD.out).mono ?_
  rintro e W2 ⟨rfl, hp2, hb2, hc2⟩
  obtain ⟨V2, hs2, hb2', hl2⟩ := boxR W2 zeroR rfl rV
  have hcb : BoxC V2 W1.heap.size cV := (show BoxC W2 W1.heap.size cV from hc2 _ _ _ _ HC.out).after hl2
  replace HD := Lib.hid (hp2.after hl2)
  replace HC := Lib.hid hcb
  have HR := Lib.hid hb2'
  replace HW : Hid (Below w.heap.size w V2) := by
    have h1 := HW.out.trans (hb2.mono HZ.out)
    exact h1.trans (hl2.mono h1.size)
  clear hp2 hb2 hc2 hb2' hl2
  go_wp2_with (first | (refine wpList_skip rfl (hs2 rfl rfl rfl) ?_) | (refine wpList_got rfl (loadC hcb rfl rfl) ?_))
  clear hs2 hcb
  refine (live_second HD.out).mono ?_
  rintro e W3 ⟨rfl, hp3, hb3, hc3⟩
  obtain ⟨V3, hs3, hb3', hl3⟩ := boxR W3 zeroR rfl rV
  replace HC := Lib.hid ((show BoxC W3 W1.heap.size cV from hc3 _ _ _ _ HC.out).after hl3)
  replace HR := Lib.hid ((show BoxR W3 W2.heap.size rV from hc3 _ _ _ _ HR.out).after hl3)
  replace HD := Lib.hid (hp3.after hl3)
  replace HW : Hid (Below w.heap.size w V3) := by
    have h1 := HW.out.trans (hb3.mono HZ.out)
    exact h1.trans (hl3.mono h1.size)
  have HR4 := Lib.hid hb3'
  clear hp3 hb3 hc3 hb3' hl3
  go_wp2_with (refine wpList_skip rfl (hs3 rfl rfl rfl) ?_)
  clear hs3
  refine (live_room HD.out).mono ?_
  rintro e W4 ⟨rfl, hb4⟩
  replace HC := Lib.hid (HC.out.after hb4)
  replace HD := Lib.hid (HD.out.after hb4)
  replace HW := Lib.hid (HW.out.trans (hb4.mono HW.out.size))
  have hra := HR.out.after hb4
  have hrb := HR4.out.after hb4
  have q0 : W4.cell? ⟨W2.heap.size, 0, none⟩ = some (.int .i64 0) := hra.c0
  have q1 : W4.cell? ⟨W2.heap.size, 1, none⟩ = some (.int .i64 4) := hra.c1
  clear hb4 HR HR4
  go_wp2_with (first | (refine wpList_got rfl (loadR hra rfl rfl) ?_) | (refine wpList_got rfl (loadR hrb rfl rfl) ?_) | (refine wpList_got rfl (exec_eqR (v := true) rfl rfl rfl (decide_eq_true rfl)) ?_))
  clear hra hrb q0 q1
  refine (live_vols HD.out).mono ?_
  rintro e W5 ⟨o5, c5, rfl, hb5⟩
  have hcb := HC.out.after hb5
  replace HW := Lib.hid (HW.out.trans (hb5.mono HW.out.size))
  clear hb5 HC HD
  go_wp2_with (refine wpList_got rfl (loadC hcb rfl rfl) ?_)
  clear hcb
  refine (right_is (by kernel_rfl : rightB cV = true) _).mono ?_
  rintro e W6 ⟨rfl, hb6⟩
  have HX := Lib.hid (HW.out.trans (hb6.mono HW.out.size))
  clear hb6 HW
  go_wp2
  go_ret
  exact ⟨rfl, HX.out⟩
end Go.Proofs.Ytbgfccanbgpjiaa.O.I
