/- What the document says is done next for a claim that grows. -/
import Derived.Test.YtijgieefmnmakaaDoorDClaim
import Derived.Test.YtijgieefmnmakaaDoorKUniq
namespace Go.Proofs.YtijgieefmnmakaaDoor.O.B
open Go Go.RowKit Go.Shelf Go.Lib RangeMap KM
attribute [local go_sem] Oper.semAt_some

set_option maxRecDepth 100000 in
set_option maxHeartbeats 8000000 in
theorem rclaimD_any (l : List Obj) (v : Value) (ver : Int) (n : ByteArray) (w : World) (hl : ObjsIn w v l) (hlen : l.length < 100000) :
    Calls Tryd.prog 15 #[v, .int .u64 ver, .string n] w fun e w' => e = .returned (encA (claimD l ver n)) ∧ Below w.heap.size w w' := by
  obtain ⟨o, cp, rfl, -, -⟩ := id hl
  have HL := Lib.hid hl
  have HUN := Lib.hid (fun V (hV : ObjsIn V (.slice o l.length cp) l) => uniq_any l _ V hV hlen)
  clear hl hlen
  obtain ⟨rc, hrc⟩ : ∃ r, getL l 3 n = r := ⟨_, rfl⟩
  obtain ⟨rv, hrv⟩ : ∃ r, getL l 4 (rc.getD O0).volume = r := ⟨_, rfl⟩
  have HG1 : Hid (∀ (V : World) (u : Value), ObjsIn V u (uniqL l) → Calls Tryd.prog 23 #[u, .int .u8 3, .string n] V fun e w' => e = .returned (.tuple #[encO (rc.getD O0), .bool rc.isSome]) ∧ Below V.heap.size V w') := fun V u hV => by
    have h := rget_any (uniqL l) u 3 n V hV
    rw [uniq_get, hrc] at h
    exact h
  have HG2 : Hid (∀ (V : World) (u : Value), ObjsIn V u (uniqL l) → Calls Tryd.prog 23 #[u, .int .u8 4, .string (rc.getD O0).volume] V fun e w' => e = .returned (.tuple #[encO (rv.getD O0), .bool rv.isSome]) ∧ Below V.heap.size V w') := fun V u hV => by
    have h := rget_any (uniqL l) u 4 (rc.getD O0).volume V hV
    rw [uniq_get, hrv] at h
    exact h
  obtain ⟨x, hx⟩ : ∃ x, claimD l ver n = x := ⟨_, rfl⟩
  rw [hx]
  have h1 : clD l n = rc.getD O0 := by unfold clD; rw [hrc]
  have h2 : voD l n = rv.getD O0 := by unfold voD; rw [h1, hrv]
  have h3 : okD l n = (rc.isSome && (rv.isSome && (((rc.getD O0).phase == 3) && ((rv.getD O0).phase == 3)))) := by unfold okD; rw [h1, h2, hrc, hrv]
  unfold claimD at hx
  rw [h3, h1, h2] at hx
  clear hrc hrv h1 h2 h3
  generalize rc.getD O0 = c at *
  generalize rv.getD O0 = p at *
  generalize rc.isSome = t at *
  generalize rv.isSome = m at *
  have HXX := Lib.hid hx
  clear hx
  go_enter Tryd.func15, Tryd.ntmps15
  go_upto_region 1 with (fail)
  refine wp_gen (fun V => BoxA V w.heap.size nothing ∧ Below w.heap.size w V) ⟨heap_alloc_new _ _, (Below.refl _ _).alloc (Nat.le_refl _) _⟩ ?_
  rintro V ⟨ho, hlw⟩
  have HO := Lib.hid ho
  have HW := Lib.hid hlw
  have HU := Lib.hid (HUN.out V (HL.out.after hlw))
  clear ho hlw HUN HL
  go_wp2_with (fail)
  refine HU.out.mono ?_
  rintro e W1 ⟨u, rfl, hu, hb1⟩
  obtain ⟨o1, c1, rfl, -, -⟩ := id hu
  have HC := Lib.hid (HG1.out W1 _ hu)
  have HUU := Lib.hid hu
  have hlw := HW.out.trans (hb1.mono HW.out.size)
  replace HO := Lib.hid (HO.out.after hb1)
  replace HW := Lib.hid hlw
  clear HU hu hb1 hlw HG1
  go_wp2_with (fail)
  refine HC.out.mono ?_
  rintro e W2 ⟨rfl, hb2⟩
  obtain ⟨V2, s2, k2, l2, -⟩ := boxing W2 c
  have hlw2 := HW.out.trans (hb2.mono HW.out.size)
  have hlw := hlw2.trans (l2.mono hlw2.size)
  have HN1 : Hid (w.heap.size < W2.heap.size) := (HO.out.after hb2).lt
  have hu2 := (HUU.out.after hb2).after l2
  have HC2 := Lib.hid (HG2.out V2 _ hu2)
  have c15 := k2.c15
  replace HO := Lib.hid ((HO.out.after hb2).after l2)
  replace HW := Lib.hid hlw
  have HB := Lib.hid k2
  clear HC hb2 l2 hlw2 hlw hu2 k2 HUU HG2
  go_wp2_with (refine wpList_skip rfl (s2 rfl rfl rfl) ?_)
  refine HC2.out.mono ?_
  rintro e W3 ⟨rfl, hb3⟩
  obtain ⟨V3, s3, k3, l3, -⟩ := boxing W3 p
  have hlw3 := HW.out.trans (hb3.mono HW.out.size)
  have hlw := hlw3.trans (l3.mono hlw3.size)
  have HN2 : Hid (W2.heap.size < W3.heap.size) := (HB.out.after hb3).lt
  replace HO := Lib.hid ((HO.out.after hb3).after l3)
  replace HB := Lib.hid ((HB.out.after hb3).after l3)
  have HP := Lib.hid k3
  replace HW := Lib.hid hlw
  have c17 := HB.out.c17
  have c7 := HB.out.c7
  have c8 := HB.out.c8
  have p17 := k3.c17
  have p7 := k3.c7
  have p8 := k3.c8
  have p18 := k3.c18
  have p1 := k3.c1
  have g7 := k3.free 7
  have g18 := k3.free 18
  have f8 := HB.out.free 8
  clear HC2 hb3 l3 hlw3 hlw k3 s2 c15
  cases t with
  | false =>
    have HVV : Hid (x = nothing) := HXX.out.symm
    clear HXX
    obtain ⟨V8, hst8, ho8, -, hb8⟩ := acting (HO.out) (nothing)
    have HO8 := Lib.hid ho8
    have HX8 := Lib.hid (hb8 _ _ (HW.out) (Nat.le_refl _))
    clear ho8 hb8
    go_wp2_with (first | (refine wpList_skip rfl (hst8 rfl rfl rfl) ?_) | (refine wpList_skip rfl (s3 rfl rfl rfl) ?_))
    refine bodyPost_ret (v := encA (nothing)) (results_cell_row rfl _ _ w.heap.size 36 (cellsA (nothing)) (0, 0) _ rfl HO8.out undAct rfl sizeAct) rfl ?_
    exact ⟨by rw [HVV.out], HX8.out⟩
  | true =>
    cases e1 : (c.phase == 3) with
    | false =>
      have e1' : (c.phase != 3) = true := by simpa using e1
      have HVV : Hid (x = nothing) := by have h := HXX.out; rw [e1] at h; cases m <;> exact h.symm
      clear HXX
      obtain ⟨V8, hst8, ho8, -, hb8⟩ := acting (HO.out) (nothing)
      have HO8 := Lib.hid ho8
      have HX8 := Lib.hid (hb8 _ _ (HW.out) (Nat.le_refl _))
      clear ho8 hb8
      go_wp2_with (first | (refine wpList_skip rfl (hst8 rfl rfl rfl) ?_) | (refine wpList_skip rfl (s3 rfl rfl rfl) ?_))
      refine bodyPost_ret (v := encA (nothing)) (results_cell_row rfl _ _ w.heap.size 36 (cellsA (nothing)) (0, 0) _ rfl HO8.out undAct rfl sizeAct) rfl ?_
      exact ⟨by rw [HVV.out], HX8.out⟩
    | true =>
      have e1' : (c.phase != 3) = false := by simpa using e1
      cases m with
      | false =>
        have HVV : Hid (x = nothing) := HXX.out.symm
        clear HXX
        obtain ⟨V8, hst8, ho8, -, hb8⟩ := acting (HO.out) (nothing)
        have HO8 := Lib.hid ho8
        have HX8 := Lib.hid (hb8 _ _ (HW.out) (Nat.le_refl _))
        clear ho8 hb8
        go_wp2_with (first | (refine wpList_skip rfl (hst8 rfl rfl rfl) ?_) | (refine wpList_skip rfl (s3 rfl rfl rfl) ?_))
        refine bodyPost_ret (v := encA (nothing)) (results_cell_row rfl _ _ w.heap.size 36 (cellsA (nothing)) (0, 0) _ rfl HO8.out undAct rfl sizeAct) rfl ?_
        exact ⟨by rw [HVV.out], HX8.out⟩
      | true =>
        cases e2 : (p.phase == 3) with
        | false =>
          have e2' : (p.phase != 3) = true := by simpa using e2
          have HVV : Hid (x = nothing) := by have h := HXX.out; rw [e1, e2] at h; exact h.symm
          clear HXX
          obtain ⟨V8, hst8, ho8, -, hb8⟩ := acting (HO.out) (nothing)
          have HO8 := Lib.hid ho8
          have HX8 := Lib.hid (hb8 _ _ (HW.out) (Nat.le_refl _))
          clear ho8 hb8
          go_wp2_with (first | (refine wpList_skip rfl (hst8 rfl rfl rfl) ?_) | (refine wpList_skip rfl (s3 rfl rfl rfl) ?_))
          refine bodyPost_ret (v := encA (nothing)) (results_cell_row rfl _ _ w.heap.size 36 (cellsA (nothing)) (0, 0) _ rfl HO8.out undAct rfl sizeAct) rfl ?_
          exact ⟨by rw [HVV.out], HX8.out⟩
        | true =>
          have e2' : (p.phase != 3) = false := by simpa using e2
          have hxx := HXX.out
          rw [e1, e2, if_pos (show (true && (true && (true && true))) = true from rfl)] at hxx
          unfold growN at hxx
          clear HXX
          by_cases hg : p.got < c.size
          · rw [if_pos hg] at hxx
            have hg2 : ¬ c.size ≤ p.got := by omega
            by_cases hs : p.size < c.size
            · have hs2 : ¬ (c.size ≤ p.size ∧ p.num ≠ 0) := fun h => by omega
              rw [if_neg hs2, show max p.size c.size = c.size by omega] at hxx
              have HVV : Hid (x = writeA { p with size := c.size, num := up ver }) := hxx.symm
              clear hxx hs2
              go_upto_region 13 with (refine wpList_skip rfl (s3 rfl rfl rfl) ?_)
              refine wp_gen (fun V => BoxO V W3.heap.size { p with size := c.size, num := up ver } ∧ BoxA V w.heap.size nothing ∧ Below w.heap.size w V) ⟨((HP.out).s7 (c.size)).s18 (up ver), (heap_setCell_other _ ⟨W3.heap.size, 18, none⟩ w.heap.size _ (by have := HN1.out; have := HN2.out; show w.heap.size ≠ W3.heap.size; omega)).trans ((heap_setCell_other _ ⟨W3.heap.size, 7, none⟩ w.heap.size _ (by have := HN1.out; have := HN2.out; show w.heap.size ≠ W3.heap.size; omega)).trans (HO.out)), ((HW.out).setCell (by have := HN1.out; have := HN2.out; show w.heap.size ≤ W3.heap.size; omega) _).setCell (by have := HN1.out; have := HN2.out; show w.heap.size ≤ W3.heap.size; omega) _⟩ ?_
              clear HO HW HB HP s3 c17 c7 c8 p17 p7 p8 p18 p1 g7 g18 f8
              rintro V4 ⟨hbx, ho, hlw⟩
              have HCA := Lib.hid (rwrite_any { p with size := c.size, num := up ver } V4)
              have HO := Lib.hid ho
              have HW := Lib.hid hlw
              clear ho hlw
              go_wp2_with ((with_reducible refine wpList_load_obj ?_ rfl ?_ hbx ?_); rfl; rfl)
              refine HCA.out.mono ?_
              rintro e W6 ⟨rfl, hb6⟩
              obtain ⟨V8, hst8, ho8, -, hb8⟩ := acting (HO.out.after hb6) (writeA { p with size := c.size, num := up ver })
              have HO8 := Lib.hid ho8
              have HX8 := Lib.hid (hb8 _ _ (HW.out.trans (hb6.mono HW.out.size)) (Nat.le_refl _))
              clear ho8 hb8
              go_wp2_with (first | (refine wpList_skip rfl (hst8 rfl rfl rfl) ?_))
              refine bodyPost_ret (v := encA (writeA { p with size := c.size, num := up ver })) (results_cell_row rfl _ _ w.heap.size 36 (cellsA (writeA { p with size := c.size, num := up ver })) (0, 0) _ rfl HO8.out undAct rfl sizeAct) rfl ?_
              exact ⟨by rw [HVV.out], HX8.out⟩
            · have hs3 : c.size ≤ p.size := by omega
              by_cases hn : p.num = 0
              · have hn2 : (p.num == 0) = true := by simpa using hn
                rw [if_neg (fun h => h.2 hn), show max p.size c.size = p.size by omega] at hxx
                have HVV : Hid (x = writeA { p with num := up ver }) := hxx.symm
                clear hxx hn
                go_upto_region 16 with (refine wpList_skip rfl (s3 rfl rfl rfl) ?_)
                refine wp_gen (fun V => BoxO V W3.heap.size { p with num := up ver } ∧ BoxA V w.heap.size nothing ∧ Below w.heap.size w V) ⟨(HP.out).s18 (up ver), (heap_setCell_other _ ⟨W3.heap.size, 18, none⟩ w.heap.size _ (by have := HN1.out; have := HN2.out; show w.heap.size ≠ W3.heap.size; omega)).trans (HO.out), (HW.out).setCell (by have := HN1.out; have := HN2.out; show w.heap.size ≤ W3.heap.size; omega) _⟩ ?_
                clear HO HW HB HP s3 c17 c7 c8 p17 p7 p8 p18 p1 g7 g18 f8
                rintro V4 ⟨hbx, ho, hlw⟩
                have HCA := Lib.hid (rwrite_any { p with num := up ver } V4)
                have HO := Lib.hid ho
                have HW := Lib.hid hlw
                clear ho hlw
                go_wp2_with ((with_reducible refine wpList_load_obj ?_ rfl ?_ hbx ?_); rfl; rfl)
                refine HCA.out.mono ?_
                rintro e W6 ⟨rfl, hb6⟩
                obtain ⟨V8, hst8, ho8, -, hb8⟩ := acting (HO.out.after hb6) (writeA { p with num := up ver })
                have HO8 := Lib.hid ho8
                have HX8 := Lib.hid (hb8 _ _ (HW.out.trans (hb6.mono HW.out.size)) (Nat.le_refl _))
                clear ho8 hb8
                go_wp2_with (first | (refine wpList_skip rfl (hst8 rfl rfl rfl) ?_))
                refine bodyPost_ret (v := encA (writeA { p with num := up ver })) (results_cell_row rfl _ _ w.heap.size 36 (cellsA (writeA { p with num := up ver })) (0, 0) _ rfl HO8.out undAct rfl sizeAct) rfl ?_
                exact ⟨by rw [HVV.out], HX8.out⟩
              · have hn2 : (p.num == 0) = false := by simpa using hn
                rw [if_pos ⟨hs3, hn⟩] at hxx
                obtain ⟨q, hq⟩ : ∃ q : Cl, (⟨5, p.name, p.num, p.size, E0, E0, E0⟩ : Cl) = q := ⟨_, rfl⟩
                rw [hq] at hxx
                have HVV : Hid (x = askA q) := hxx.symm
                have hbu := built_expand p.name p.num p.size
                rw [hq] at hbu
                have HBU := Lib.hid hbu
                have HCA := Lib.hid (rask_any q V3)
                unfold encC at HCA
                clear hxx hq hbu hn
                go_wp2_with (first | (refine wpList_skip rfl (s3 rfl rfl rfl) ?_) | ((with_reducible refine wpList_build_to rfl 34 _ rfl (cellsC q) ?_ ?_); exact HBU.out))
                refine HCA.out.mono ?_
                rintro e W6 ⟨rfl, hb6⟩
                obtain ⟨V8, hst8, ho8, -, hb8⟩ := acting (HO.out.after hb6) (askA q)
                have HO8 := Lib.hid ho8
                have HX8 := Lib.hid (hb8 _ _ (HW.out.trans (hb6.mono HW.out.size)) (Nat.le_refl _))
                clear ho8 hb8
                go_wp2_with (first | (refine wpList_skip rfl (hst8 rfl rfl rfl) ?_))
                refine bodyPost_ret (v := encA (askA q)) (results_cell_row rfl _ _ w.heap.size 36 (cellsA (askA q)) (0, 0) _ rfl HO8.out undAct rfl sizeAct) rfl ?_
                exact ⟨by rw [HVV.out], HX8.out⟩
          · rw [if_neg hg] at hxx
            have hg2 : c.size ≤ p.got := by omega
            by_cases he : c.got = p.got
            · rw [if_pos he] at hxx
              have he2 : (c.got != p.got) = false := by simpa using he
              have HVV : Hid (x = nothing) := hxx.symm
              clear hxx he
              obtain ⟨V8, hst8, ho8, -, hb8⟩ := acting (HO.out) (nothing)
              have HO8 := Lib.hid ho8
              have HX8 := Lib.hid (hb8 _ _ (HW.out) (Nat.le_refl _))
              clear ho8 hb8
              go_wp2_with (first | (refine wpList_skip rfl (hst8 rfl rfl rfl) ?_) | (refine wpList_skip rfl (s3 rfl rfl rfl) ?_))
              refine bodyPost_ret (v := encA (nothing)) (results_cell_row rfl _ _ w.heap.size 36 (cellsA (nothing)) (0, 0) _ rfl HO8.out undAct rfl sizeAct) rfl ?_
              exact ⟨by rw [HVV.out], HX8.out⟩
            · rw [if_neg he] at hxx
              have he2 : (c.got != p.got) = true := by simpa using he
              have HVV : Hid (x = writeA { c with got := p.got }) := hxx.symm
              clear hxx he
              go_upto_region 8 with (refine wpList_skip rfl (s3 rfl rfl rfl) ?_)
              refine wp_gen (fun V => BoxO V W2.heap.size { c with got := p.got } ∧ BoxA V w.heap.size nothing ∧ Below w.heap.size w V) ⟨(HB.out).s8 (p.got), (heap_setCell_other _ ⟨W2.heap.size, 8, none⟩ w.heap.size _ (by have := HN1.out; have := HN2.out; show w.heap.size ≠ W2.heap.size; omega)).trans (HO.out), (HW.out).setCell (by have := HN1.out; have := HN2.out; show w.heap.size ≤ W2.heap.size; omega) _⟩ ?_
              clear HO HW HB HP s3 c17 c7 c8 p17 p7 p8 p18 p1 g7 g18 f8
              rintro V4 ⟨hbx, ho, hlw⟩
              have HCA := Lib.hid (rwrite_any { c with got := p.got } V4)
              have HO := Lib.hid ho
              have HW := Lib.hid hlw
              clear ho hlw
              go_wp2_with ((with_reducible refine wpList_load_obj ?_ rfl ?_ hbx ?_); rfl; rfl)
              refine HCA.out.mono ?_
              rintro e W6 ⟨rfl, hb6⟩
              obtain ⟨V8, hst8, ho8, -, hb8⟩ := acting (HO.out.after hb6) (writeA { c with got := p.got })
              have HO8 := Lib.hid ho8
              have HX8 := Lib.hid (hb8 _ _ (HW.out.trans (hb6.mono HW.out.size)) (Nat.le_refl _))
              clear ho8 hb8
              go_wp2_with (first | (refine wpList_skip rfl (hst8 rfl rfl rfl) ?_))
              refine bodyPost_ret (v := encA (writeA { c with got := p.got })) (results_cell_row rfl _ _ w.heap.size 36 (cellsA (writeA { c with got := p.got })) (0, 0) _ rfl HO8.out undAct rfl sizeAct) rfl ?_
              exact ⟨by rw [HVV.out], HX8.out⟩
end Go.Proofs.YtijgieefmnmakaaDoor.O.B
