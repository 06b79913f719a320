/- What is done next for a snapshot that is not on its way out. -/
import Derived.Test.YtdlbpfallmpkoaaDoorDClaim
import Derived.Test.YtdlbpfallmpkoaaDoorDHandle
namespace Go.Proofs.YtdlbpfallmpkoaaDoor.O.B
open Go Go.RowKit Go.Shelf Go.Lib RangeMap KM
attribute [local go_sem] Oper.semAt_some

def AnyA (W : World) (b : Nat) : Prop := ∃ a, BoxA W b a
theorem AnyA.after {W W' : World} {b : Nat} (h : AnyA W b) (hb : Below W.heap.size W W') : AnyA W' b := h.imp fun _ h => h.after hb
theorem built_drop (h : ByteArray) (n : Int) : Tryd.prog.built 42 [(0, .int .u8 7), (1, .string h), (2, .int .u64 n)] = some (cellsC ⟨7, h, n, 0, E0, E0, E0⟩) := by kernel_rfl
theorem built_cut (h v : ByteArray) (n : Int) : Tryd.prog.built 42 [(0, .int .u8 6), (1, .string h), (2, .int .u64 n), (6, .string v)] = some (cellsC ⟨6, h, n, 0, E0, E0, v⟩) := by kernel_rfl


set_option maxRecDepth 100000 in
set_option maxHeartbeats 8000000 in
theorem snapD_none (l : List Obj) (v : Value) (ver : Int) (n : ByteArray) (w : World) (hl : ObjsIn w v l) (hs : getL l 7 n = none) :
    Calls Tryd.prog 21 #[v, .int .u64 ver, .string n] w fun e w' => e = .returned (encA (nothing)) ∧ Below w.heap.size w w' := by
  obtain ⟨o, cp, rfl, -, -⟩ := id hl
  have HL := Lib.hid hl
  clear hl
  have HGE : Hid (∀ V : World, ObjsIn V (.slice o l.length cp) l → Calls Tryd.prog 43 #[.slice o l.length cp, .int .u8 7, .string n] V fun e w' => e = .returned (.tuple #[encO O0, .bool false]) ∧ Below V.heap.size V w') := fun V hV => by
    have h := get_any l _ 7 n V hV
    rw [hs] at h
    exact h
  clear hs
  go_enter Tryd.func21, Tryd.ntmps21
  go_wp2_with (fail)
  refine wp_scope_once ?_
  go_hide hQ
  have HQ := Lib.hid hQ
  clear hQ
  refine wp_gen (fun V => BoxA V w.heap.size nothing ∧ Below w.heap.size w V) ⟨heap_alloc_new _ _, (Below.refl _ _).alloc (Nat.le_refl _) _⟩ ?_
  rintro V ⟨ho, hlw⟩
  have HO := Lib.hid ho
  have HW := Lib.hid hlw
  have HG := Lib.hid (HGE.out V (HL.out.after hlw))
  clear ho hlw HGE
  go_wp2_with (fail)
  refine HG.out.mono ?_
  rintro e W2 ⟨rfl, hb2⟩
  obtain ⟨V2, hst, hk, hb, -⟩ := boxing W2 O0
  have hw2 := HW.out.trans (hb2.mono HW.out.size)
  have HNE : Hid (w.heap.size < W2.heap.size) := Nat.lt_of_lt_of_le HO.out.lt hb2.size
  replace HO := Lib.hid ((HO.out.after hb2).after hb)
  replace HW := Lib.hid (hw2.trans (hb.mono hw2.size))
  have HB := Lib.hid hk
  clear HG hb2 hb hw2
  clear hk
  obtain ⟨V8, hst8, ho8, -, hb8⟩ := acting (HO.out) (nothing)
  have HO8 := Lib.hid ho8
  have HX8 := Lib.hid (hb8 _ _ (HW.out) (by omega))
  clear ho8 hb8
  go_wp2_with (first | (refine wpList_skip rfl (hst8 rfl rfl rfl) ?_) | (refine wpList_skip rfl (hst rfl rfl rfl) ?_))
  rw [← HQ.out, Exit.once_ret]
  refine bodyPost_ret (v := encA (nothing)) (results_cell_row rfl _ _ w.heap.size 44 (cellsA (nothing)) (0, 0) _ rfl HO8.out undAct rfl sizeAct) rfl ?_
  exact ⟨rfl, HX8.out⟩

set_option maxRecDepth 100000 in
set_option maxHeartbeats 8000000 in
theorem snapD_long (l : List Obj) (v : Value) (ver : Int) (n : ByteArray) (w : World) (hl : ObjsIn w v l) (ht : Tab w) (hall : ∀ s ∈ l, (0 ≤ s.born ∧ s.born ≤ 18446744073709551615) ∧ s.name.size ≤ 140737488351232) (s : Obj) (hs : getL l 7 n = some s) (hh : handleD s = E0) :
    Calls Tryd.prog 21 #[v, .int .u64 ver, .string n] w fun e w' => e = .returned (encA (nothing)) ∧ Below w.heap.size w w' := by
  obtain ⟨o, cp, rfl, -, -⟩ := id hl
  have HL := Lib.hid hl
  clear hl
  have hin := hall s (List.mem_of_find?_eq_some hs)
  have HT := Lib.hid ht
  have HBD := Lib.hid hin
  have HHH := Lib.hid (fun V (hV : Tab V) => handleD_any s V hV hin.1 hin.2)
  clear ht hall hin
  have HGE : Hid (∀ V : World, ObjsIn V (.slice o l.length cp) l → Calls Tryd.prog 43 #[.slice o l.length cp, .int .u8 7, .string n] V fun e w' => e = .returned (.tuple #[encO s, .bool true]) ∧ Below V.heap.size V w') := fun V hV => by
    have h := get_any l _ 7 n V hV
    rw [hs] at h
    exact h
  clear hs
  rw [hh] at HHH
  clear hh
  unfold E0 at HHH
  go_enter Tryd.func21, Tryd.ntmps21
  go_wp2_with (fail)
  refine wp_scope_once ?_
  go_hide hQ
  have HQ := Lib.hid hQ
  clear hQ
  refine wp_gen (fun V => BoxA V w.heap.size nothing ∧ Below w.heap.size w V) ⟨heap_alloc_new _ _, (Below.refl _ _).alloc (Nat.le_refl _) _⟩ ?_
  rintro V ⟨ho, hlw⟩
  have HO := Lib.hid ho
  have HW := Lib.hid hlw
  have HG := Lib.hid (HGE.out V (HL.out.after hlw))
  clear ho hlw HGE
  go_wp2_with (fail)
  refine HG.out.mono ?_
  rintro e W2 ⟨rfl, hb2⟩
  obtain ⟨V2, hst, hk, hb, -⟩ := boxing W2 s
  have hw2 := HW.out.trans (hb2.mono HW.out.size)
  have HNE : Hid (w.heap.size < W2.heap.size) := Nat.lt_of_lt_of_le HO.out.lt hb2.size
  replace HO := Lib.hid ((HO.out.after hb2).after hb)
  replace HW := Lib.hid (hw2.trans (hb.mono hw2.size))
  have HB := Lib.hid hk
  clear HG hb2 hb hw2
  have hbx := hk
  have HC := Lib.hid (HHH.out V2 (HT.out.after HW.out))
  clear hk
  go_wp2_with (first | (refine wpList_skip rfl (hst rfl rfl rfl) ?_) | ((with_reducible refine wpList_load_obj ?_ rfl ?_ hbx ?_); rfl; rfl))
  refine HC.out.mono ?_
  rintro e W3 ⟨rfl, hb3⟩
  have hw3 := HW.out.trans (hb3.mono HW.out.size)
  replace HO := Lib.hid (HO.out.after hb3)
  replace HW := Lib.hid hw3
  replace HB := Lib.hid (HB.out.after hb3)
  clear HC hst hb3 hw3 hbx
  obtain ⟨V8, hst8, ho8, -, hb8⟩ := acting (HO.out) (nothing)
  have HO8 := Lib.hid ho8
  have HX8 := Lib.hid (hb8 _ _ (HW.out) (by omega))
  clear ho8 hb8
  go_wp2_with (first | (refine wpList_skip rfl (hst8 rfl rfl rfl) ?_))
  rw [← HQ.out, Exit.once_ret]
  refine bodyPost_ret (v := encA (nothing)) (results_cell_row rfl _ _ w.heap.size 44 (cellsA (nothing)) (0, 0) _ rfl HO8.out undAct rfl sizeAct) rfl ?_
  exact ⟨rfl, HX8.out⟩

set_option maxRecDepth 100000 in
set_option maxHeartbeats 8000000 in
theorem snapD_go (l : List Obj) (v : Value) (ver : Int) (n : ByteArray) (w : World) (hl : ObjsIn w v l) (ht : Tab w) (hall : ∀ s ∈ l, (0 ≤ s.born ∧ s.born ≤ 18446744073709551615) ∧ s.name.size ≤ 140737488351232) (s : Obj) (hs : getL l 7 n = some s) (hh : handleD s ≠ E0) (hd : s.deleting = false) :
    Calls Tryd.prog 21 #[v, .int .u64 ver, .string n] w fun e w' => e = .returned (encA (goN l s (up ver))) ∧ Below w.heap.size w w' := by
  obtain ⟨o, cp, rfl, -, -⟩ := id hl
  have HL := Lib.hid hl
  clear hl
  have hin := hall s (List.mem_of_find?_eq_some hs)
  have HT := Lib.hid ht
  have HBD := Lib.hid hin
  have HHH := Lib.hid (fun V (hV : Tab V) => handleD_any s V hV hin.1 hin.2)
  clear ht hall hin
  have HGE : Hid (∀ V : World, ObjsIn V (.slice o l.length cp) l → Calls Tryd.prog 43 #[.slice o l.length cp, .int .u8 7, .string n] V fun e w' => e = .returned (.tuple #[encO s, .bool true]) ∧ Below V.heap.size V w') := fun V hV => by
    have h := get_any l _ 7 n V hV
    rw [hs] at h
    exact h
  clear hs
  have hn' : (handleD s).toList ≠ [] := fun e => hh ((emp_iff _).1 e)
  have hn2 : ((handleD s).toList == []) = false := by simpa using hn'
  have hn3 : (handleD s).toList.isEmpty = false := by simpa using hn'
  clear hh
  obtain ⟨x, hx⟩ : ∃ x, goN l s (up ver) = x := ⟨_, rfl⟩
  rw [hx]
  unfold goN dropN at hx
  rw [if_neg (by rw [hd]; decide)] at hx
  obtain ⟨h, hh⟩ : ∃ h, handleD s = h := ⟨_, rfl⟩
  rw [hh] at hx HHH hn' hn2 hn3
  have HXX := Lib.hid hx
  have HBN := Lib.hid (fun V (hV : ObjsIn V (.slice o l.length cp) l) => bound_any l _ s.source V hV)
  generalize clD l s.source = c at *
  generalize voD l s.source = p at *
  generalize okD l s.source = k at *
  clear hx hh
  go_enter Tryd.func21, Tryd.ntmps21
  go_wp2_with (fail)
  refine wp_scope_once ?_
  go_hide hQ
  have HQ := Lib.hid hQ
  clear hQ
  refine wp_gen (fun V => BoxA V w.heap.size nothing ∧ Below w.heap.size w V) ⟨heap_alloc_new _ _, (Below.refl _ _).alloc (Nat.le_refl _) _⟩ ?_
  rintro V ⟨ho, hlw⟩
  have HO := Lib.hid ho
  have HW := Lib.hid hlw
  have HG := Lib.hid (HGE.out V (HL.out.after hlw))
  clear ho hlw HGE
  go_wp2_with (fail)
  refine HG.out.mono ?_
  rintro e W2 ⟨rfl, hb2⟩
  obtain ⟨V2, hst, hk, hb, -⟩ := boxing W2 s
  have hw2 := HW.out.trans (hb2.mono HW.out.size)
  have HNE : Hid (w.heap.size < W2.heap.size) := Nat.lt_of_lt_of_le HO.out.lt hb2.size
  replace HO := Lib.hid ((HO.out.after hb2).after hb)
  replace HW := Lib.hid (hw2.trans (hb.mono hw2.size))
  have HB := Lib.hid hk
  clear HG hb2 hb hw2
  have hbx := hk
  have HC := Lib.hid (HHH.out V2 (HT.out.after HW.out))
  clear hk
  go_wp2_with (first | (refine wpList_skip rfl (hst rfl rfl rfl) ?_) | ((with_reducible refine wpList_load_obj ?_ rfl ?_ hbx ?_); rfl; rfl))
  refine HC.out.mono ?_
  rintro e W3 ⟨rfl, hb3⟩
  have hw3 := HW.out.trans (hb3.mono HW.out.size)
  replace HO := Lib.hid (HO.out.after hb3)
  replace HW := Lib.hid hw3
  replace HB := Lib.hid (HB.out.after hb3)
  clear HC hst hb3 hw3 hbx
  have c4 := HB.out.c4
  rw [hd] at c4
  have c17 := HB.out.c17
  clear hd hn'
  go_wp2_with fail
  go_step3
  by_cases h6 : s.phase = 6
  · have e6 : (s.phase == 6) = true := by simpa using h6
    have hxx := HXX.out
    rw [if_pos h6] at hxx
    obtain ⟨k, hk⟩ : ∃ k : Cl, (⟨7, h, s.num, 0, E0, E0, E0⟩ : Cl) = k := ⟨_, rfl⟩
    rw [hk] at hxx
    have HVV : Hid (x = askA k) := hxx.symm
    have HK := Lib.hid hk
    clear hxx hk h6 HXX HBN
    go_wp2_with fail
    go_step3
    rw [← HQ.out]
    refine Exit.once_jump (by exact rfl) ?_
    clear HQ
    go_upto_region 18 with (fail)
    have HT0 := HT
    have HA := HB
    have HL := HW
    have HT := Lib.hid (HT0.out.after HW.out)
    have HO := Lib.hid (⟨_, HO.out⟩ : AnyA W3 w.heap.size)
    clear c4 c17 HB HW
    refine wp_region_held_drew (S := fun V => BoxO V W2.heap.size s ∧ AnyA V w.heap.size ∧ Below w.heap.size w V ∧ Tab V) (by kernel_rfl) ⟨HA.out, HO.out, HL.out.drew, HT.out.drew⟩ (fun _ => ?_)
    refine HeldBy.gen (fun V => BoxO V W2.heap.size s ∧ AnyA V w.heap.size ∧ Below w.heap.size w V ∧ Tab V) ⟨HA.out, HO.out, HL.out.drew, HT.out.drew⟩ ?_
    clear HA HO HL HT
    rintro U0 HS
    refine HeldBy.take (i := 0) (v := encO s) rfl (by kernel_rfl) (by kernel_rfl) (by kernel_rfl) (fun _ _ _ h => h) (by rfl) (fun V hV => load_obj hV.1 rfl rfl) (by first | (go_simp; rfl) | (go_simp; done)) HS ?_
    refine HeldBy.take (i := 2) rfl (by kernel_rfl) (by kernel_rfl) (by kernel_rfl) (fun _ _ _ h => h) (by rfl) (fun _ _ => by first | (go_simp; rfl) | (go_simp; done)) (by first | (go_simp; rfl) | (go_simp; done)) HS ?_
    refine HeldBy.take (i := 3) rfl (by kernel_rfl) (by kernel_rfl) (by kernel_rfl) (fun _ _ _ h => h) (by rfl) (fun V hV => by have hc := hV.1.c18; first | (go_simp; rfl) | (go_simp; done)) (by first | (go_simp; rfl) | (go_simp; done)) HS ?_
    refine HeldBy.call (i := 1) (v := .string h) rfl (by kernel_rfl) (by rfl) (by first | (go_simp; done) | (go_simp; first | exact ⟨rfl, rfl⟩ | rfl)) (by first | (go_simp; rfl) | (go_simp; done)) ?_
    refine (HHH.out _ HS.2.2.2).mono ?_
    rintro e U1 ⟨rfl, hb⟩
    replace HS : BoxO U1 W2.heap.size s ∧ AnyA U1 w.heap.size ∧ Below w.heap.size w U1 ∧ Tab U1 := ⟨HS.1.after hb, HS.2.1.after hb, HS.2.2.1.trans (hb.mono HS.2.2.1.size), HS.2.2.2.after hb⟩
    refine ⟨rfl, HS, ?_⟩
    clear hb
    refine HeldBy.take (i := 4) (v := encC k) rfl (by kernel_rfl) (by kernel_rfl) (by kernel_rfl) (fun _ _ _ h => h) (by rfl) (fun _ _ => by have hk := HK.out; subst hk; exact exec_build 42 _ rfl _ (by exact built_drop h s.num)) (by first | (go_simp; rfl) | (go_simp; done)) HS ?_
    refine HeldBy.call (i := 5) (v := encA (askA k)) rfl (by kernel_rfl) (by rfl) (by first | (go_simp; done) | (go_simp; first | exact ⟨rfl, rfl⟩ | rfl)) (by first | (go_simp; rfl) | (go_simp; done)) ?_
    refine (ask_any k _).mono ?_
    rintro e U2 ⟨rfl, hb⟩
    replace HS : BoxO U2 W2.heap.size s ∧ AnyA U2 w.heap.size ∧ Below w.heap.size w U2 ∧ Tab U2 := ⟨HS.1.after hb, HS.2.1.after hb, HS.2.2.1.trans (hb.mono HS.2.2.1.size), HS.2.2.2.after hb⟩
    refine ⟨rfl, HS, ?_⟩
    clear hb
    obtain ⟨p0, hp0⟩ := HS.2.1
    obtain ⟨V6, hst6, ho6, hoth6, hb6⟩ := acting hp0 (askA k)
    have HS6 : BoxO V6 W2.heap.size s ∧ AnyA V6 w.heap.size ∧ Below w.heap.size w V6 ∧ Tab V6 := ⟨(hoth6 _ (by have := HNE.out; omega)).trans HS.1, ⟨_, ho6⟩, hb6 _ _ HS.2.2.1 (by omega), HT0.out.after (hb6 _ _ HS.2.2.1 (by omega))⟩
    refine HeldBy.store (i := 6) (w' := V6) rfl (by kernel_rfl) (by rfl) (hst6 rfl rfl rfl) (by first | (go_simp; rfl) | (go_simp; done)) HS6 ?_
    refine wpAnyH_done (by kernel_rfl) ?_ _
    have HO6 := Lib.hid ho6
    have HX := Lib.hid HS6.2.2.1
    clear hst6 ho6 hoth6 hb6 HS HS6 hp0 HT0
    go_wp2
    rw [Exit.noGoto_ret]
    refine bodyPost_ret (v := encA (askA k)) (results_cell_row rfl _ _ w.heap.size 44 (cellsA (askA k)) (0, 0) _ rfl HO6.out undAct rfl sizeAct) rfl ?_
    exact ⟨by rw [HVV.out], HX.out⟩
  · have e6 : (s.phase == 6) = false := by simpa using h6
    have hxx := HXX.out
    rw [if_neg h6] at hxx
    clear HXX h6
    by_cases h1 : s.phase = 1
    · have e1 : (s.phase == 1) = true := by simpa using h1
      rw [if_pos h1] at hxx
      have HXX := Lib.hid hxx
      have c16 := HB.out.c16
      have HC := Lib.hid (HBN.out W3 (HL.out.after HW.out))
      clear hxx h1 HBN
      go_wp2_with (fail)
      refine HC.out.mono ?_
      rintro e W4 ⟨rfl, hb4⟩
      obtain ⟨U1, V5, s1, s2, hc5, hp5, hb5, -⟩ := boxing2 W4 c p
      have hw4 := HW.out.trans (hb4.mono HW.out.size)
      have HNE4 : Hid (W2.heap.size < W4.heap.size) := Nat.lt_of_lt_of_le HB.out.lt hb4.size
      replace HO := Lib.hid ((HO.out.after hb4).after hb5)
      replace HB := Lib.hid ((HB.out.after hb4).after hb5)
      replace HW := Lib.hid (hw4.trans (hb5.mono hw4.size))
      have HP := Lib.hid hp5
      clear HC hb4 hb5 hw4 hc5 hp5 c4 c17 c16
      cases k with
      | false =>
        have HVV : Hid (x = nothing) := HXX.out.symm
        clear HXX
        obtain ⟨V8, hst8, ho8, -, hb8⟩ := acting (HO.out) (nothing)
        have HO8 := Lib.hid ho8
        have HX8 := Lib.hid (hb8 _ _ (HW.out) (by omega))
        clear ho8 hb8
        go_wp2_with (first | (refine wpList_skip rfl (hst8 rfl rfl rfl) ?_) | (refine wpList_skip rfl (s1 rfl rfl rfl) ?_) | (refine wpList_skip rfl (s2 rfl rfl rfl) ?_))
        rw [← HQ.out, Exit.once_ret]
        refine bodyPost_ret (v := encA (nothing)) (results_cell_row rfl _ _ w.heap.size 44 (cellsA (nothing)) (0, 0) _ rfl HO8.out undAct rfl sizeAct) rfl ?_
        exact ⟨by rw [HVV.out], HX8.out⟩
      | true =>
        have HVV : Hid (x = writeA { s with phase := 10, volume := p.name, num := up ver }) := HXX.out.symm
        clear HXX
        go_upto_region 14 with (first | (refine wpList_skip rfl (s1 rfl rfl rfl) ?_) | (refine wpList_skip rfl (s2 rfl rfl rfl) ?_))
        clear s1 s2
        refine wp_normal ?_
        refine wp_region_held_drew (S := fun V => BoxO V (W4.heap.size + 1) p) (by kernel_rfl) HP.out (fun _ => ?_)
        refine HeldBy.gen (fun V => (BoxO V (W4.heap.size + 1) p) ∧ (BoxO V W2.heap.size s) ∧ (BoxA V w.heap.size nothing) ∧ (Below w.heap.size w V)) ⟨HP.out, HB.out, HO.out, HW.out.drew⟩ ?_
        clear HP HB HO HW
        rintro U0 ⟨HS, HB, HO, HW⟩
        refine HeldBy.take (i := 0) rfl (by kernel_rfl) (by kernel_rfl) (by kernel_rfl) (fun _ _ _ h => nomatch h.1) (by rfl) (fun _ _ => by first | (go_simp; rfl) | (go_simp; done)) (by first | (go_simp; rfl) | (go_simp; done)) HS ?_
        refine HeldBy.take (i := 1) rfl (by kernel_rfl) (by kernel_rfl) (by kernel_rfl) (fun _ _ _ h => nomatch h.1) (by rfl) (fun V hV => by have hc := hV.c1; first | (go_simp; rfl) | (go_simp; done)) (by first | (go_simp; rfl) | (go_simp; done)) HS ?_
        refine HeldBy.take (i := 2) rfl (by kernel_rfl) (by kernel_rfl) (by kernel_rfl) (fun _ _ _ h => nomatch h.1) (by rfl) (fun _ _ => by first | (go_simp; rfl) | (go_simp; done)) (by first | (go_simp; rfl) | (go_simp; done)) HS ?_
        have hc17 := HB.c17
        have hf17 := HB.free 17
        obtain ⟨U2, hU2⟩ : ∃ V, U0.setCell ⟨W2.heap.size, 17, none⟩ (.int .u8 10) = V := ⟨_, rfl⟩
        have hB2 : BoxO U2 W2.heap.size { s with phase := 10 } := by rw [← hU2]; exact HB.s17 10
        have hS2 : BoxO U2 (W4.heap.size + 1) p := by rw [← hU2]; exact HS.other (by have := HNE4.out; show W4.heap.size + 1 ≠ W2.heap.size; omega) _
        have hO2 : BoxA U2 w.heap.size nothing := by rw [← hU2]; exact (heap_setCell_other _ ⟨W2.heap.size, 17, none⟩ w.heap.size _ (by have := HNE.out; show w.heap.size ≠ W2.heap.size; omega)).trans HO
        have hW2 : Below w.heap.size w U2 := by rw [← hU2]; exact HW.setCell (by have := HNE.out; show w.heap.size ≤ W2.heap.size; omega) _
        refine HeldBy.store (i := 3) (w' := U2) rfl (by kernel_rfl) (by rfl) (by rw [← hU2]; first | (go_simp; done) | (go_simp; rfl)) (by first | (go_simp; rfl) | (go_simp; done)) hS2 ?_
        clear hU2 hc17 hf17 HS HB HO HW
        refine HeldBy.take (i := 4) rfl (by kernel_rfl) (by kernel_rfl) (by kernel_rfl) (fun _ _ _ h => nomatch h.1) (by rfl) (fun V hV => by first | (go_simp; rfl) | (go_simp; done)) (by first | (go_simp; rfl) | (go_simp; done)) hS2 ?_
        have hc15 := hB2.c15
        have hf15 := hB2.free 15
        obtain ⟨U3, hU3⟩ : ∃ V, U2.setCell ⟨W2.heap.size, 15, none⟩ (.string p.name) = V := ⟨_, rfl⟩
        have hB3 : BoxO U3 W2.heap.size { s with phase := 10, volume := p.name } := by rw [← hU3]; exact hB2.s15 p.name
        have hS3 : BoxO U3 (W4.heap.size + 1) p := by rw [← hU3]; exact hS2.other (by have := HNE4.out; show W4.heap.size + 1 ≠ W2.heap.size; omega) _
        have hO3 : BoxA U3 w.heap.size nothing := by rw [← hU3]; exact (heap_setCell_other _ ⟨W2.heap.size, 15, none⟩ w.heap.size _ (by have := HNE.out; show w.heap.size ≠ W2.heap.size; omega)).trans hO2
        have hW3 : Below w.heap.size w U3 := by rw [← hU3]; exact hW2.setCell (by have := HNE.out; show w.heap.size ≤ W2.heap.size; omega) _
        refine HeldBy.store (i := 5) (w' := U3) rfl (by kernel_rfl) (by rfl) (by rw [← hU3]; first | (go_simp; done) | (go_simp; rfl)) (by first | (go_simp; rfl) | (go_simp; done)) hS3 ?_
        refine wpAnyH_done (by kernel_rfl) ⟨rfl, ?_⟩ _
        have HB := Lib.hid hB3
        have HO := Lib.hid hO3
        have HW := Lib.hid hW3
        have c18 := hB3.c18
        have f18 := hB3.free 18
        clear hU3 hc15 hf15 hB2 hS2 hO2 hW2 hB3 hS3 hO3 hW3
        go_wp2_with fail
        go_step3
        rw [← HQ.out]
        refine Exit.once_jump (by exact rfl) ?_
        clear HQ
        go_upto_region 20 with (fail)
        refine wp_gen (fun V => BoxO V W2.heap.size { s with phase := 10, volume := p.name, num := up ver } ∧ BoxA V w.heap.size nothing ∧ Below w.heap.size w V) ⟨HB.out.s18 (up ver), (heap_setCell_other _ ⟨W2.heap.size, 18, none⟩ w.heap.size _ (by have := HNE.out; show w.heap.size ≠ W2.heap.size; omega)).trans HO.out, HW.out.setCell (by have := HNE.out; show w.heap.size ≤ W2.heap.size; omega) _⟩ ?_
        clear HO HW HB c18 f18
        rintro V4 ⟨hbx, ho, hlw⟩
        have HCA := Lib.hid (write_any { s with phase := 10, volume := p.name, num := up ver } V4)
        have HO := Lib.hid ho
        have HW := Lib.hid hlw
        clear ho hlw
        go_wp2_with ((with_reducible refine wpList_load_obj ?_ rfl ?_ hbx ?_); rfl; rfl)
        refine HCA.out.mono ?_
        rintro e W6 ⟨rfl, hb6⟩
        obtain ⟨V8, hst8, ho8, -, hb8⟩ := acting (HO.out.after hb6) (writeA { s with phase := 10, volume := p.name, num := up ver })
        have HO8 := Lib.hid ho8
        have HX8 := Lib.hid (hb8 _ _ (HW.out.trans (hb6.mono HW.out.size)) (by omega))
        clear ho8 hb8
        go_wp2_with (first | (refine wpList_skip rfl (hst8 rfl rfl rfl) ?_))
        rw [Exit.noGoto_ret]
        refine bodyPost_ret (v := encA (writeA { s with phase := 10, volume := p.name, num := up ver })) (results_cell_row rfl _ _ w.heap.size 44 (cellsA (writeA { s with phase := 10, volume := p.name, num := up ver })) (0, 0) _ rfl HO8.out undAct rfl sizeAct) rfl ?_
        exact ⟨by rw [HVV.out], HX8.out⟩
    · have e1 : (s.phase == 1) = false := by simpa using h1
      rw [if_neg h1] at hxx
      clear h1 HBN
      by_cases h10 : s.phase = 10
      · have e10 : (s.phase == 10) = true := by simpa using h10
        rw [if_pos h10] at hxx
        obtain ⟨k, hk⟩ : ∃ k : Cl, (⟨6, h, s.num, 0, E0, E0, s.volume⟩ : Cl) = k := ⟨_, rfl⟩
        rw [hk] at hxx
        have HVV : Hid (x = askA k) := hxx.symm
        have HK := Lib.hid hk
        clear hxx hk h10
        go_upto_region 16 with (fail)
        have HT0 := HT
        have HA := HB
        have HL := HW
        have HT := Lib.hid (HT0.out.after HW.out)
        have HO := Lib.hid (⟨_, HO.out⟩ : AnyA W3 w.heap.size)
        clear c4 c17 HB HW
        refine wp_normal ?_
        refine wp_region_held_drew (S := fun V => BoxO V W2.heap.size s ∧ AnyA V w.heap.size ∧ Below w.heap.size w V ∧ Tab V) (by kernel_rfl) ⟨HA.out, HO.out, HL.out.drew, HT.out.drew⟩ (fun _ => ?_)
        refine HeldBy.gen (fun V => BoxO V W2.heap.size s ∧ AnyA V w.heap.size ∧ Below w.heap.size w V ∧ Tab V) ⟨HA.out, HO.out, HL.out.drew, HT.out.drew⟩ ?_
        clear HA HO HL HT
        rintro U0 HS
        refine HeldBy.take (i := 0) (v := encO s) rfl (by kernel_rfl) (by kernel_rfl) (by kernel_rfl) (fun _ _ _ h => nomatch h.1) (by rfl) (fun V hV => load_obj hV.1 rfl rfl) (by first | (go_simp; rfl) | (go_simp; done)) HS ?_
        refine HeldBy.take (i := 2) rfl (by kernel_rfl) (by kernel_rfl) (by kernel_rfl) (fun _ _ _ h => nomatch h.1) (by rfl) (fun _ _ => by first | (go_simp; rfl) | (go_simp; done)) (by first | (go_simp; rfl) | (go_simp; done)) HS ?_
        refine HeldBy.take (i := 3) rfl (by kernel_rfl) (by kernel_rfl) (by kernel_rfl) (fun _ _ _ h => nomatch h.1) (by rfl) (fun V hV => by have hc := hV.1.c18; first | (go_simp; rfl) | (go_simp; done)) (by first | (go_simp; rfl) | (go_simp; done)) HS ?_
        refine HeldBy.take (i := 4) rfl (by kernel_rfl) (by kernel_rfl) (by kernel_rfl) (fun _ _ _ h => nomatch h.1) (by rfl) (fun _ _ => by first | (go_simp; rfl) | (go_simp; done)) (by first | (go_simp; rfl) | (go_simp; done)) HS ?_
        refine HeldBy.take (i := 5) rfl (by kernel_rfl) (by kernel_rfl) (by kernel_rfl) (fun _ _ _ h => nomatch h.1) (by rfl) (fun V hV => by have hc := hV.1.c15; first | (go_simp; rfl) | (go_simp; done)) (by first | (go_simp; rfl) | (go_simp; done)) HS ?_
        refine HeldBy.call (i := 1) (v := .string h) rfl (by kernel_rfl) (by rfl) (by first | (go_simp; done) | (go_simp; first | exact ⟨rfl, rfl⟩ | rfl)) (by first | (go_simp; rfl) | (go_simp; done)) ?_
        refine (HHH.out _ HS.2.2.2).mono ?_
        rintro e U1 ⟨rfl, hb⟩
        replace HS : BoxO U1 W2.heap.size s ∧ AnyA U1 w.heap.size ∧ Below w.heap.size w U1 ∧ Tab U1 := ⟨HS.1.after hb, HS.2.1.after hb, HS.2.2.1.trans (hb.mono HS.2.2.1.size), HS.2.2.2.after hb⟩
        refine ⟨rfl, HS, ?_⟩
        clear hb
        refine HeldBy.take (i := 6) (v := encC k) rfl (by kernel_rfl) (by kernel_rfl) (by kernel_rfl) (fun _ _ _ h => nomatch h.1) (by rfl) (fun _ _ => by have hk := HK.out; subst hk; exact exec_build 42 _ rfl _ (by exact built_cut h s.volume s.num)) (by first | (go_simp; rfl) | (go_simp; done)) HS ?_
        refine HeldBy.call (i := 7) (v := encA (askA k)) rfl (by kernel_rfl) (by rfl) (by first | (go_simp; done) | (go_simp; first | exact ⟨rfl, rfl⟩ | rfl)) (by first | (go_simp; rfl) | (go_simp; done)) ?_
        refine (ask_any k _).mono ?_
        rintro e U2 ⟨rfl, hb⟩
        replace HS : BoxO U2 W2.heap.size s ∧ AnyA U2 w.heap.size ∧ Below w.heap.size w U2 ∧ Tab U2 := ⟨HS.1.after hb, HS.2.1.after hb, HS.2.2.1.trans (hb.mono HS.2.2.1.size), HS.2.2.2.after hb⟩
        refine ⟨rfl, HS, ?_⟩
        clear hb
        obtain ⟨p0, hp0⟩ := HS.2.1
        obtain ⟨V6, hst6, ho6, hoth6, hb6⟩ := acting hp0 (askA k)
        have HS6 : BoxO V6 W2.heap.size s ∧ AnyA V6 w.heap.size ∧ Below w.heap.size w V6 ∧ Tab V6 := ⟨(hoth6 _ (by have := HNE.out; omega)).trans HS.1, ⟨_, ho6⟩, hb6 _ _ HS.2.2.1 (by omega), HT0.out.after (hb6 _ _ HS.2.2.1 (by omega))⟩
        refine HeldBy.store (i := 8) (w' := V6) rfl (by kernel_rfl) (by rfl) (hst6 rfl rfl rfl) (by first | (go_simp; rfl) | (go_simp; done)) HS6 ?_
        refine wpAnyH_done (by kernel_rfl) ⟨rfl, ?_⟩ _
        have HO6 := Lib.hid ho6
        have HX := Lib.hid HS6.2.2.1
        clear hst6 ho6 hoth6 hb6 HS HS6 hp0 HT0
        go_wp2
        rw [← HQ.out, Exit.once_ret]
        refine bodyPost_ret (v := encA (askA k)) (results_cell_row rfl _ _ w.heap.size 44 (cellsA (askA k)) (0, 0) _ rfl HO6.out undAct rfl sizeAct) rfl ?_
        exact ⟨by rw [HVV.out], HX.out⟩
      · have e10 : (s.phase == 10) = false := by simpa using h10
        rw [if_neg h10] at hxx
        have HVV : Hid (x = nothing) := hxx.symm
        clear hxx h10
        obtain ⟨V8, hst8, ho8, -, hb8⟩ := acting (HO.out) (nothing)
        have HO8 := Lib.hid ho8
        have HX8 := Lib.hid (hb8 _ _ (HW.out) (by omega))
        clear ho8 hb8
        go_wp2_with (first | (refine wpList_skip rfl (hst8 rfl rfl rfl) ?_))
        rw [← HQ.out, Exit.once_ret]
        refine bodyPost_ret (v := encA (nothing)) (results_cell_row rfl _ _ w.heap.size 44 (cellsA (nothing)) (0, 0) _ rfl HO8.out undAct rfl sizeAct) rfl ?_
        exact ⟨by rw [HVV.out], HX8.out⟩
end Go.Proofs.YtdlbpfallmpkoaaDoor.O.B
