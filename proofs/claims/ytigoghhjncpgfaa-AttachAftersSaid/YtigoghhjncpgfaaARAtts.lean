/- The document: a volume's attachments. -/
import Derived.Test.YtigoghhjncpgfaaARIns
import Derived.Test.YtigoghhjncpgfaaKUniq
namespace Go.Proofs.Ytigoghhjncpgfaa.O.B
open Go Go.RowKit Go.Shelf Go.Lib RangeMap KM
attribute [local go_sem] Oper.semAt_some

/-- Is its place found? -/
def pO (L : List Obj) (x : Obj) : Bool := L.any fun y => decide (kn x < kn y)
def outO (L : List Obj) (x : Obj) : List Obj := if pO L x = true then insO L x else L
theorem insO_cons (y : Obj) (r : List Obj) (x : Obj) : insO (y :: r) x = if kn x < kn y then x :: y :: r else y :: insO r x := by
  unfold insO
  rw [List.takeWhile_cons, List.dropWhile_cons]
  by_cases h : kn x < kn y <;> simp [h]
theorem insO_app : ∀ (L : List Obj) (x y : Obj), insO (L ++ [y]) x = if pO L x = true then insO L x ++ [y] else if kn x < kn y then L ++ [x, y] else L ++ [y, x]
  | [], x, y => by
    rw [List.nil_append, insO_cons]
    rfl
  | z :: r, x, y => by
    have hp : pO (z :: r) x = (decide (kn x < kn z) || pO r x) := rfl
    rw [List.cons_append, insO_cons, insO_cons, insO_app r x y, hp]
    by_cases h : kn x < kn z
    · simp [h]
    · cases pO r x <;> by_cases h2 : kn x < kn y <;> simp [h, h2]
theorem insO_low : ∀ (L : List Obj) (x : Obj), pO L x = false → insO L x = L ++ [x]
  | [], _, _ => rfl
  | z :: r, x, h => by
    have hp : pO (z :: r) x = (decide (kn x < kn z) || pO r x) := rfl
    rw [hp, Bool.or_eq_false_iff] at h
    rw [insO_cons, if_neg (of_decide_eq_false h.1), insO_low r x h.2]
    rfl
theorem pO_app (L : List Obj) (x y : Obj) : pO (L ++ [y]) x = (pO L x || decide (kn x < kn y)) := by simp [pO]
theorem outO_past {L : List Obj} {x y : Obj} (h : pO L x = true) : pO (L ++ [y]) x = true ∧ outO (L ++ [y]) x = outO L x ++ [y] := by
  have e := pO_app L x y
  rw [h] at e
  refine ⟨e, ?_⟩
  unfold outO
  rw [h, show pO (L ++ [y]) x = true from e, if_pos rfl, if_pos rfl, insO_app, h, if_pos rfl]
theorem outO_at {L : List Obj} {x y : Obj} (h : pO L x = false) (hx : kn x < kn y) : pO (L ++ [y]) x = true ∧ outO (L ++ [y]) x = (outO L x ++ [x]) ++ [y] := by
  have e := pO_app L x y
  rw [h, decide_eq_true hx] at e
  refine ⟨e, ?_⟩
  unfold outO
  rw [h, show pO (L ++ [y]) x = true from e, if_pos rfl, insO_app, h, if_neg (by decide), if_pos hx]
  simp
theorem outO_low {L : List Obj} {x y : Obj} (h : pO L x = false) (hx : ¬ kn x < kn y) : pO (L ++ [y]) x = false ∧ outO (L ++ [y]) x = outO L x ++ [y] := by
  have e := pO_app L x y
  rw [h, decide_eq_false hx] at e
  refine ⟨e, ?_⟩
  unfold outO
  rw [h, show pO (L ++ [y]) x = false from e]
  rfl
theorem outO_len (L : List Obj) (x : Obj) : (outO L x).length ≤ L.length + 1 := by
  unfold outO
  split
  · rw [(insO_perm L x).length_eq]
    simp
  · omega
/-- Is it one of the volume's attachments? -/
def attP (vol : ByteArray) (p : Obj) : Bool := decide (p.kind = 5) && decide (p.volume = vol)
def accO (vol : ByteArray) (m : List Obj) : List Obj := (m.filter (attP vol)).foldl insO []
theorem accO_app (vol : ByteArray) (m : List Obj) (x : Obj) : accO vol (m ++ [x]) = if attP vol x = true then insO (accO vol m) x else accO vol m := by
  unfold accO
  rw [List.filter_append, List.foldl_append]
  cases h : attP vol x <;> simp [h]
theorem foldO_len (m : List Obj) : ∀ acc : List Obj, (m.foldl insO acc).length = acc.length + m.length := by
  induction m with
  | nil => intro acc; rfl
  | cons x r ih =>
    intro acc
    rw [List.foldl_cons, ih, (insO_perm acc x).length_eq, List.length_cons, List.length_cons]
    omega
theorem accO_len (vol : ByteArray) (m : List Obj) : (accO vol m).length ≤ m.length := by
  unfold accO
  rw [foldO_len]
  have := List.length_filter_le (attP vol) m
  simp
  omega
theorem accO_all (l : List Obj) (vol : ByteArray) : accO vol (uniqL l) = attsL l vol := by
  unfold accO attsL attL
  rw [there_uniq, List.filter_filter]
  congr 1
  refine List.filter_congr fun p _ => ?_
  unfold attP
  rw [Bool.and_comm]
theorem less_names (a b : Obj) : Op.bytesLess a.name.toList b.name.toList = decide (kn a < kn b) := less_keys a.name b.name

set_option maxRecDepth 100000 in
set_option maxHeartbeats 8000000 in
theorem ratts_any (l : List Obj) (v : Value) (vol : ByteArray) (w : World) (hl : ObjsIn w v l) (hn : l.length < 90000) :
    Calls Try.prog 18 #[v, .string vol] w (HandsO (· = attsL l vol) w) := by
  have HU := Lib.hid (uniq_any l v w hl (by omega))
  have hnL : (uniqL l).length < 90000 := Nat.lt_of_le_of_lt (uniq_len l) hn
  obtain ⟨o, cp, rfl, -, -⟩ := id hl
  rw [← accO_all]
  obtain ⟨U, hU⟩ : ∃ U, uniqL l = U := ⟨_, rfl⟩
  rw [hU] at HU hnL ⊢
  have HN := Lib.hid hnL
  clear hl hn hU hnL
  go_enter Try.func18, Try.ntmps18
  go_wp2_with (fail)
  refine HU.out.mono ?_
  rintro e X ⟨lv, rfl, hl1, hb1⟩
  have HW := Lib.hid hb1
  obtain ⟨o1, c1, rfl, hm, -⟩ := id hl1
  have HL := Lib.hid hl1
  clear HU hb1 hl1
  go_wp2
  go_loopw [6, 7] (fun ov iv wr => ∃ (j : Nat) (sv : Value), iv = .int .i64 (j : Int) ∧ sv = ov ∧ j ≤ U.length ∧ OutIn wr w.heap.size sv (accO vol (U.take j)) ∧ Below X.heap.size X wr) (fun _ iv _ => U.length - (RowKit.intOf iv).toNat)
  case atStart => exact ⟨0, _, rfl, rfl, Nat.zero_le _, OutIn.empty _ _, Below.refl _ _⟩
  case round =>
    obtain ⟨j, sv, rfl, rfl, hj, hout, hlow⟩ := hrel
    have HOUT := Lib.hid hout
    have HLOW := Lib.hid hlow
    have HACC : Hid ((accO vol (U.take j)).length < 99990) := by
      have h1 := accO_len vol (U.take j)
      have h2 := HN.out
      rw [List.length_take] at h1
      show _ < _
      omega
    clear hout hlow
    by_cases hlt : j < U.length
    · have hlt' : (j : Int) < (U.length : Int) := by omega
      obtain ⟨o', c', he, -, hi⟩ := HL.out.after HLOW.out
      cases he
      obtain ⟨g, off, rfl, -, hrow⟩ := hi j hlt
      obtain ⟨x, hxe⟩ : ∃ x, U[j] = x := ⟨_, rfl⟩
      rw [hxe] at hrow
      have htk : accO vol (U.take (j + 1)) = if attP vol x = true then insO (accO vol (U.take j)) x else accO vol (U.take j) := by
        rw [List.take_succ_eq_append_getElem hlt, hxe, accO_app]
      have HTK := Lib.hid htk
      obtain ⟨Y, sy, oy, ly, -⟩ := boxing wr x
      have hwy := HLOW.out.trans (ly.mono HLOW.out.size)
      have HY := Lib.hid hwy
      have HOY := Lib.hid (HOUT.out.after ly)
      have HBY := Lib.hid oy
      have HSY := Lib.hid (show wr.heap.size < Y.heap.size from (Array.getElem?_eq_some_iff.1 oy).1)
      have c0 := oy.c0
      have c15 := oy.c15
      have HSTOP : Hid (attP vol x = false → ∃ (j_1 : Nat) (sv_1 : Value), (.int .i64 ((j : Int) + 1) : Value) = .int .i64 (j_1 : Int) ∧ sv_1 = sv ∧ j_1 ≤ U.length ∧ OutIn Y w.heap.size sv_1 (accO vol (U.take j_1)) ∧ Below X.heap.size X Y) := fun hf => ⟨j + 1, sv, by go_num, rfl, by omega, by rw [htk, hf]; exact HOY.out, hwy⟩
      clear hi hxe ly hwy oy htk
      by_cases h0 : x.kind = 5
      · have h0' : (x.kind != 5) = false := by simp [h0]
        by_cases h1 : x.volume = vol
        · have h1' := list_eq h1
          have HF : Hid (attP vol x = true) := by show _ = _; unfold attP; simp [h0, h1]
          have hsv := HOY.out.objs (by have := HACC.out; omega)
          obtain ⟨acc, hacc⟩ : ∃ acc, accO vol (U.take j) = acc := ⟨_, rfl⟩
          rw [hacc] at HACC HTK HOY HOUT hsv
          obtain ⟨o2, c2, rfl, -, -⟩ := id hsv
          have HSV := Lib.hid hsv
          clear h1 hsv hacc HSTOP HOUT
          go_upto_region 8 with (first | (refine wpList_got (v := encO x) rfl (load_mid hrow rfl rfl) ?_) | (refine wpList_skip rfl (sy rfl rfl rfl) ?_))
          clear c0 c15 h0 h0' h1' hrow sy
          have hml : acc.length ≤ 9223372036854775807 := by have := HACC.out; omega
          go_wp2
          obtain ⟨zb, hzb⟩ : ∃ zb, wr.heap.size = zb := ⟨_, rfl⟩
          rw [hzb] at HBY ⊢
          clear hzb
          go_loopw [9, 10, 11] (fun nv pv kv wk => ∃ (k : Nat) (p : Bool) (tv : Value), kv = .int .i64 (k : Int) ∧ pv = .bool p ∧ tv = nv ∧ p = pO (acc.take k) x ∧ k ≤ acc.length ∧ OutIn wk Y.heap.size tv (outO (acc.take k) x) ∧ Below Y.heap.size Y wk) (fun _ _ kv _ => acc.length - (RowKit.intOf kv).toNat)
          case atStart => exact ⟨0, false, _, rfl, rfl, rfl, rfl, Nat.zero_le _, OutIn.empty _ _, Below.refl _ _⟩
          case round =>
            obtain ⟨k, p, tv, rfl, rfl, rfl, hp, hk, hnx, hlk⟩ := hrel
            have HNX := Lib.hid hnx
            have HLK := Lib.hid hlk
            have HP := Lib.hid hp.symm
            have HLEN : Hid ((outO (acc.take k) x).length + 1 < 100000) := by
              have h1 := outO_len (acc.take k) x
              have h2 := HACC.out
              rw [List.length_take] at h1
              show _ < _
              omega
            clear hp hnx hlk
            by_cases hlt2 : k < acc.length
            · have hlt2' : (k : Int) < (acc.length : Int) := by omega
              have hsk := HSV.out.after HLK.out
              obtain ⟨o3, c3, he, -, hi⟩ := id hsk
              cases he
              obtain ⟨g2, off2, rfl, -, hrow2⟩ := hi k hlt2
              obtain ⟨y, hye⟩ : ∃ y, acc[k] = y := ⟨_, rfl⟩
              have hrows : ∀ V : World, ObjsIn V (.slice (some ⟨g2, off2, none⟩) acc.length c2) acc → V.rangeAt g2 (off2 + k * 20) (cellsO y).toList := fun V hV => by
                obtain ⟨o4, c4, e4, -, h4⟩ := hV
                cases e4
                obtain ⟨g5, off5, e5, -, h5⟩ := h4 k hlt2
                cases e5
                rw [← hye]
                exact h5
              have HROWS := Lib.hid hrows
              have htk : acc.take (k + 1) = acc.take k ++ [y] := by rw [List.take_succ_eq_append_getElem hlt2, hye]
              have HTL := Lib.hid htk
              have hkey := less_names x y
              have HO := HNX
              have HSL := Lib.hid hsk
              have HWK := HLK
              have HBX := Lib.hid (HBY.out.after HLK.out)
              clear hi hye hrow2 hrows hsk htk HNX HLK
              obtain ⟨pre, hpre⟩ : ∃ pre, acc.take k = pre := ⟨_, rfl⟩
              rw [hpre] at HTL HLEN HO HP
              clear hpre
              go_upto_region 13 with (fail)
              refine wp_region_held_drew (S := fun V => OutIn V Y.heap.size tv (outO pre x) ∧ ObjsIn V (.slice (some ⟨g2, off2, none⟩) acc.length c2) acc ∧ BoxO V zb x ∧ Below Y.heap.size Y V) (by kernel_rfl) ⟨HO.out, HSL.out, HBX.out, HWK.out.drew⟩ (fun _ => ?_)
              refine HeldBy.gen (fun V => OutIn V Y.heap.size tv (outO pre x) ∧ ObjsIn V (.slice (some ⟨g2, off2, none⟩) acc.length c2) acc ∧ BoxO V zb x ∧ Below Y.heap.size Y V) ⟨HO.out, HSL.out, HBX.out, HWK.out.drew⟩ ?_
              clear HO HSL HBX HWK
              rintro U0 HS
              cases hpl : p with
              | true =>
                subst hpl
                obtain ⟨q1, q2⟩ := outO_past (y := y) HP.out
                have Q1 := Lib.hid q1
                have Q2 := Lib.hid q2
                clear q1 q2 hkey HP
                refine HeldBy.take (i := 0) rfl (by kernel_rfl) (by kernel_rfl) (by kernel_rfl) (fun _ _ _ h => h) (by rfl) (fun _ _ => by first | (go_simp; rfl) | (go_simp; done)) (by go_simp; rfl) HS ?_
                refine HeldBy.take (i := 1) rfl (by kernel_rfl) (by kernel_rfl) (by kernel_rfl) (fun _ _ _ h => h) (by rfl) (fun _ _ => by first | (go_simp; rfl) | (go_simp; done)) (by go_simp; rfl) HS ?_
                refine HeldBy.take (i := 2) rfl (by kernel_rfl) (by kernel_rfl) (by kernel_rfl) (fun _ _ _ h => h) (by rfl) (fun _ _ => by first | (go_simp; rfl) | (go_simp; done)) (by go_simp; rfl) HS ?_
                refine HeldBy.skip (i := 3) rfl (by kernel_rfl) (by kernel_rfl) (by kernel_rfl) (fun _ _ _ h => h) (by rfl) (by go_simp; rfl) HS ?_
                refine HeldBy.skip (i := 4) rfl (by kernel_rfl) (by kernel_rfl) (by kernel_rfl) (fun _ _ _ h => h) (by rfl) (by go_simp; rfl) HS ?_
                refine HeldBy.skip (i := 5) rfl (by kernel_rfl) (by kernel_rfl) (by kernel_rfl) (fun _ _ _ h => h) (by rfl) (by go_simp; rfl) HS ?_
                refine HeldBy.skip (i := 6) rfl (by kernel_rfl) (by kernel_rfl) (by kernel_rfl) (fun _ _ _ h => h) (by rfl) (by go_simp; rfl) HS ?_
                refine HeldBy.skip (i := 7) rfl (by kernel_rfl) (by kernel_rfl) (by kernel_rfl) (fun _ _ _ h => h) (by rfl) (by go_simp; rfl) HS ?_
                refine HeldBy.skip (i := 8) rfl (by kernel_rfl) (by kernel_rfl) (by kernel_rfl) (fun _ _ _ h => h) (by rfl) (by go_simp; rfl) HS ?_
                refine HeldBy.skip (i := 9) rfl (by kernel_rfl) (by kernel_rfl) (by kernel_rfl) (fun _ _ _ h => h) (by rfl) (by go_simp; rfl) HS ?_
                refine HeldBy.skip (i := 10) rfl (by kernel_rfl) (by kernel_rfl) (by kernel_rfl) (fun _ _ _ h => h) (by rfl) (by go_simp; rfl) HS ?_
                refine HeldBy.take (i := 11) rfl (by kernel_rfl) (by kernel_rfl) (by kernel_rfl) (fun _ _ _ h => h) (by rfl) (fun _ _ => by first | (go_simp; rfl) | (go_simp; done)) (by go_simp; rfl) HS ?_
                refine wpAnyH_done (by kernel_rfl) ?_ _
                have hrow3 := HROWS.out U0 HS.2.1
                have hbx3 := HS.2.2.1
                have HO3 := Lib.hid HS.1
                have HW3 := Lib.hid HS.2.2.2
                obtain ⟨v1, W1, hrun1, ho1, hb1, -⟩ := add_obj Y.heap.size U0 tv (outO pre x) y 22 HO3.out HW3.out.size (by have := HLEN.out; omega)
                have HO1 := Lib.hid ho1
                have HW1 := Lib.hid (HW3.out.trans hb1)
                have HRUN1 := Lib.hid hrun1
                clear ho1 hb1 hrun1 HS HROWS hbx3
                go_wp2_with (first | (refine wpList_got (v := encO y) rfl (load_mid hrow3 rfl rfl) ?_) | ((with_reducible refine wpList_objs rfl rfl _ (run_objs1 U0 y) ?_ ?_); rfl) | ((with_reducible refine wpList_add rfl rfl HRUN1.out ?_ ?_ ?_); rfl; rfl))
                go_roundw
                case rel => exact ⟨k + 1, _, _, by go_num, rfl, rfl, by rw [HTL.out]; exact Q1.out.symm, by omega, by rw [HTL.out, Q2.out]; exact HO1.out, HW1.out⟩
                case measure => simp [RowKit.intOf]; omega
              | false =>
                subst hpl
                by_cases hxy : kn x < kn y
                · obtain ⟨q1, q2⟩ := outO_at HP.out hxy
                  have Q1 := Lib.hid q1
                  have Q2 := Lib.hid q2
                  rw [decide_eq_true hxy] at hkey
                  clear q1 q2 HP
                  refine HeldBy.take (i := 0) rfl (by kernel_rfl) (by kernel_rfl) (by kernel_rfl) (fun _ _ _ h => h) (by rfl) (fun _ _ => by first | (go_simp; rfl) | (go_simp; done)) (by go_simp; rfl) HS ?_
                  refine HeldBy.take (i := 1) rfl (by kernel_rfl) (by kernel_rfl) (by kernel_rfl) (fun _ _ _ h => h) (by rfl) (fun _ _ => by first | (go_simp; rfl) | (go_simp; done)) (by go_simp; rfl) HS ?_
                  refine HeldBy.take (i := 2) rfl (by kernel_rfl) (by kernel_rfl) (by kernel_rfl) (fun _ _ _ h => h) (by rfl) (fun _ _ => by first | (go_simp; rfl) | (go_simp; done)) (by go_simp; rfl) HS ?_
                  refine HeldBy.take (i := 3) rfl (by kernel_rfl) (by kernel_rfl) (by kernel_rfl) (fun _ _ _ h => h) (by rfl) (fun _ _ => by first | (go_simp; rfl) | (go_simp; done)) (by go_simp; rfl) HS ?_
                  refine HeldBy.take (i := 4) (v := .string x.name) rfl (by kernel_rfl) (by kernel_rfl) (by kernel_rfl) (fun _ _ _ h => h) (by rfl) (fun V hV => by have h := hV.2.2.1.c1; first | (go_simp; rfl) | (go_simp; done)) (by go_simp; rfl) HS ?_
                  refine HeldBy.take (i := 5) rfl (by kernel_rfl) (by kernel_rfl) (by kernel_rfl) (fun _ _ _ h => h) (by rfl) (fun _ _ => by first | (go_simp; rfl) | (go_simp; done)) (by go_simp; rfl) HS ?_
                  refine HeldBy.take (i := 6) rfl (by kernel_rfl) (by kernel_rfl) (by kernel_rfl) (fun _ _ _ h => h) (by rfl) (fun _ _ => by first | (go_simp; rfl) | (go_simp; done)) (by go_simp; rfl) HS ?_
                  refine HeldBy.take (i := 7) rfl (by kernel_rfl) (by kernel_rfl) (by kernel_rfl) (fun _ _ _ h => h) (by rfl) (fun _ _ => by first | (go_simp; rfl) | (go_simp; done)) (by go_simp; rfl) HS ?_
                  refine HeldBy.take (i := 8) rfl (by kernel_rfl) (by kernel_rfl) (by kernel_rfl) (fun _ _ _ h => h) (by rfl) (fun _ _ => by first | (go_simp; rfl) | (go_simp; done)) (by go_simp; rfl) HS ?_
                  refine HeldBy.take (i := 9) (v := .string y.name) rfl (by kernel_rfl) (by kernel_rfl) (by kernel_rfl) (fun _ _ _ h => h) (by rfl) (fun V hV => by have h := row_cell (HROWS.out V hV.2.1) 1 _ rfl; first | (go_simp; rfl) | (go_simp; done)) (by go_simp; rfl) HS ?_
                  refine HeldBy.take (i := 10) rfl (by kernel_rfl) (by kernel_rfl) (by kernel_rfl) (fun _ _ _ h => h) (by rfl) (fun _ _ => by first | (go_simp; rfl) | (go_simp; done)) (by go_simp; rfl) HS ?_
                  refine HeldBy.take (i := 11) rfl (by kernel_rfl) (by kernel_rfl) (by kernel_rfl) (fun _ _ _ h => h) (by rfl) (fun _ _ => by first | (go_simp; rfl) | (go_simp; done)) (by go_simp; rfl) HS ?_
                  refine wpAnyH_done (by kernel_rfl) ?_ _
                  have hrow3 := HROWS.out U0 HS.2.1
                  have hbx3 := HS.2.2.1
                  have HO3 := Lib.hid HS.1
                  have HW3 := Lib.hid HS.2.2.2
                  obtain ⟨v0, W0, hrun0, ho0, hb0, hk0⟩ := add_obj Y.heap.size U0 tv (outO pre x) x 22 HO3.out HW3.out.size (by have := HLEN.out; omega)
                  have hw0 := HW3.out.trans hb0
                  have hrow4 := HROWS.out W0 (HSV.out.after hw0)
                  obtain ⟨v1, W1, hrun1, ho1, hb1, -⟩ := add_obj Y.heap.size W0 v0 (outO pre x ++ [x]) y 22 ho0 hw0.size (by have := HLEN.out; rw [List.length_append]; show _ + 1 < _; omega)
                  have HO1 := Lib.hid ho1
                  have HW1 := Lib.hid (hw0.trans hb1)
                  have HRUN0 := Lib.hid hrun0
                  have HRUN1 := Lib.hid hrun1
                  clear ho0 hb0 hk0 hw0 hrun0 ho1 hb1 hrun1 HS HROWS hkey
                  go_wp2_with (first | ((with_reducible refine wpList_load_obj ?_ rfl ?_ hbx3 ?_); rfl; rfl) | ((with_reducible refine wpList_objs rfl rfl _ (run_objs1 U0 x) ?_ ?_); rfl) | ((with_reducible refine wpList_add rfl rfl HRUN0.out ?_ ?_ ?_); rfl; rfl) | (refine wpList_got (v := encO y) rfl (load_mid hrow4 rfl rfl) ?_) | ((with_reducible refine wpList_objs rfl rfl _ (run_objs1 W0 y) ?_ ?_); rfl) | ((with_reducible refine wpList_add rfl rfl HRUN1.out ?_ ?_ ?_); rfl; rfl))
                  go_roundw
                  case rel => exact ⟨k + 1, _, _, by go_num, rfl, rfl, by rw [HTL.out]; exact Q1.out.symm, by omega, by rw [HTL.out, Q2.out]; exact HO1.out, HW1.out⟩
                  case measure => simp [RowKit.intOf]; omega
                · obtain ⟨q1, q2⟩ := outO_low HP.out hxy
                  have Q1 := Lib.hid q1
                  have Q2 := Lib.hid q2
                  rw [decide_eq_false hxy] at hkey
                  clear q1 q2 HP
                  refine HeldBy.take (i := 0) rfl (by kernel_rfl) (by kernel_rfl) (by kernel_rfl) (fun _ _ _ h => h) (by rfl) (fun _ _ => by first | (go_simp; rfl) | (go_simp; done)) (by go_simp; rfl) HS ?_
                  refine HeldBy.take (i := 1) rfl (by kernel_rfl) (by kernel_rfl) (by kernel_rfl) (fun _ _ _ h => h) (by rfl) (fun _ _ => by first | (go_simp; rfl) | (go_simp; done)) (by go_simp; rfl) HS ?_
                  refine HeldBy.take (i := 2) rfl (by kernel_rfl) (by kernel_rfl) (by kernel_rfl) (fun _ _ _ h => h) (by rfl) (fun _ _ => by first | (go_simp; rfl) | (go_simp; done)) (by go_simp; rfl) HS ?_
                  refine HeldBy.take (i := 3) rfl (by kernel_rfl) (by kernel_rfl) (by kernel_rfl) (fun _ _ _ h => h) (by rfl) (fun _ _ => by first | (go_simp; rfl) | (go_simp; done)) (by go_simp; rfl) HS ?_
                  refine HeldBy.take (i := 4) (v := .string x.name) rfl (by kernel_rfl) (by kernel_rfl) (by kernel_rfl) (fun _ _ _ h => h) (by rfl) (fun V hV => by have h := hV.2.2.1.c1; first | (go_simp; rfl) | (go_simp; done)) (by go_simp; rfl) HS ?_
                  refine HeldBy.take (i := 5) rfl (by kernel_rfl) (by kernel_rfl) (by kernel_rfl) (fun _ _ _ h => h) (by rfl) (fun _ _ => by first | (go_simp; rfl) | (go_simp; done)) (by go_simp; rfl) HS ?_
                  refine HeldBy.take (i := 6) rfl (by kernel_rfl) (by kernel_rfl) (by kernel_rfl) (fun _ _ _ h => h) (by rfl) (fun _ _ => by first | (go_simp; rfl) | (go_simp; done)) (by go_simp; rfl) HS ?_
                  refine HeldBy.take (i := 7) rfl (by kernel_rfl) (by kernel_rfl) (by kernel_rfl) (fun _ _ _ h => h) (by rfl) (fun _ _ => by first | (go_simp; rfl) | (go_simp; done)) (by go_simp; rfl) HS ?_
                  refine HeldBy.take (i := 8) rfl (by kernel_rfl) (by kernel_rfl) (by kernel_rfl) (fun _ _ _ h => h) (by rfl) (fun _ _ => by first | (go_simp; rfl) | (go_simp; done)) (by go_simp; rfl) HS ?_
                  refine HeldBy.take (i := 9) (v := .string y.name) rfl (by kernel_rfl) (by kernel_rfl) (by kernel_rfl) (fun _ _ _ h => h) (by rfl) (fun V hV => by have h := row_cell (HROWS.out V hV.2.1) 1 _ rfl; first | (go_simp; rfl) | (go_simp; done)) (by go_simp; rfl) HS ?_
                  refine HeldBy.take (i := 10) rfl (by kernel_rfl) (by kernel_rfl) (by kernel_rfl) (fun _ _ _ h => h) (by rfl) (fun _ _ => by first | (go_simp; rfl) | (go_simp; done)) (by go_simp; rfl) HS ?_
                  refine HeldBy.take (i := 11) rfl (by kernel_rfl) (by kernel_rfl) (by kernel_rfl) (fun _ _ _ h => h) (by rfl) (fun _ _ => by first | (go_simp; rfl) | (go_simp; done)) (by go_simp; rfl) HS ?_
                  refine wpAnyH_done (by kernel_rfl) ?_ _
                  have hrow3 := HROWS.out U0 HS.2.1
                  have hbx3 := HS.2.2.1
                  have HO3 := Lib.hid HS.1
                  have HW3 := Lib.hid HS.2.2.2
                  obtain ⟨v1, W1, hrun1, ho1, hb1, -⟩ := add_obj Y.heap.size U0 tv (outO pre x) y 22 HO3.out HW3.out.size (by have := HLEN.out; omega)
                  have HO1 := Lib.hid ho1
                  have HW1 := Lib.hid (HW3.out.trans hb1)
                  have HRUN1 := Lib.hid hrun1
                  clear ho1 hb1 hrun1 HS HROWS hbx3
                  go_wp2_with (first | (refine wpList_got (v := encO y) rfl (load_mid hrow3 rfl rfl) ?_) | ((with_reducible refine wpList_objs rfl rfl _ (run_objs1 U0 y) ?_ ?_); rfl) | ((with_reducible refine wpList_add rfl rfl HRUN1.out ?_ ?_ ?_); rfl; rfl))
                  go_roundw
                  case rel => exact ⟨k + 1, _, _, by go_num, rfl, rfl, by rw [HTL.out]; exact Q1.out.symm, by omega, by rw [HTL.out, Q2.out]; exact HO1.out, HW1.out⟩
                  case measure => simp [RowKit.intOf]; omega
            · have hlt2' : ¬ (k : Int) < (acc.length : Int) := by omega
              have hE : acc.take k = acc := List.take_of_length_le (by omega)
              rw [hE] at HNX HP HLEN
              have hYw : w.heap.size ≤ Y.heap.size := Nat.le_trans HW.out.size HY.out.size
              have HYW := Lib.hid hYw
              cases hpl : p with
              | true =>
                subst hpl
                have hq : outO acc x = insO acc x := by unfold outO; rw [HP.out]; rfl
                rw [hq] at HNX
                have HOX := Lib.hid (out_low HNX.out HYW.out)
                clear hE hq HP hYw
                go_wp2
                go_roundw
                case rel => exact ⟨j + 1, tv, by go_num, rfl, by omega, by rw [HTK.out, HF.out]; exact HOX.out, HY.out.trans (HLK.out.mono HY.out.size)⟩
                case measure => simp [RowKit.intOf]; omega
              | false =>
                subst hpl
                have hq : outO acc x = acc := by unfold outO; rw [HP.out]; rfl
                have hq2 := insO_low acc x HP.out
                rw [hq] at HNX HLEN
                have HQ2 := Lib.hid hq2
                obtain ⟨v1, W1, hrun1, ho1, hb1, -⟩ := add_obj Y.heap.size wr tv acc x 22 HNX.out HLK.out.size (by have := HLEN.out; omega)
                have HOX := Lib.hid (out_low ho1 HYW.out)
                have HWX := Lib.hid (HLK.out.trans hb1)
                have HRUN1 := Lib.hid hrun1
                have hbx := HBY.out.after HLK.out
                clear hE hq hq2 HP hYw ho1 hb1 hrun1
                go_wp2_with (first | ((with_reducible refine wpList_load_obj ?_ rfl ?_ hbx ?_); rfl; rfl) | ((with_reducible refine wpList_objs rfl rfl _ (run_objs1 wr x) ?_ ?_); rfl) | ((with_reducible refine wpList_add rfl rfl HRUN1.out ?_ ?_ ?_); rfl; rfl))
                go_roundw
                case rel => exact ⟨j + 1, v1, by go_num, rfl, by omega, by rw [HTK.out, HF.out, HQ2.out]; exact HOX.out, HY.out.trans (HWX.out.mono HY.out.size)⟩
                case measure => simp [RowKit.intOf]; omega
        · have h1' := list_ne h1
          have HF : Hid (attP vol x = false) := by show _ = _; unfold attP; simp [h1]
          clear h1
          go_wp2_with (first | (refine wpList_got (v := encO x) rfl (load_mid hrow rfl rfl) ?_) | (refine wpList_skip rfl (sy rfl rfl rfl) ?_))
          go_roundw
          case rel => exact HSTOP.out HF.out
          case measure => simp [RowKit.intOf]; omega
      · have h0' : (x.kind != 5) = true := by simpa using h0
        have HF : Hid (attP vol x = false) := by show _ = _; unfold attP; simp [h0]
        go_wp2_with (first | (refine wpList_got (v := encO x) rfl (load_mid hrow rfl rfl) ?_) | (refine wpList_skip rfl (sy rfl rfl rfl) ?_))
        go_roundw
        case rel => exact HSTOP.out HF.out
        case measure => simp [RowKit.intOf]; omega
    · have hlt' : ¬ (j : Int) < (U.length : Int) := by omega
      have hE : U.take j = U := List.take_of_length_le (by omega)
      rw [hE] at HOUT
      have HX := Lib.hid (HW.out.trans (HLOW.out.mono HW.out.size))
      clear hE
      go_wp2
      go_ret
      exact ⟨_, _, rfl, rfl, HOUT.out, HX.out⟩
end Go.Proofs.Ytigoghhjncpgfaa.O.B
