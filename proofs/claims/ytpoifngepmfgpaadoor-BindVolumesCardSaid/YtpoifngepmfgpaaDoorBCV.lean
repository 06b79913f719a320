/- BindVolumes: for every input the law answers true, and its arguments read as they did. The tables that the library reads are tied to the program's text. -/
import Derived.Test.YtpoifngepmfgpaaDoorKRefG
import Derived.Test.YtpoifngepmfgpaaDoorBVol3
import Derived.Test.YtpoifngepmfgpaaDoorBRHandle
import Derived.Test.YtpoifngepmfgpaaDoorKUniq
import Derived.Test.YtpoifngepmfgpaaDoorKUniqT
import Derived.Test.YtpoifngepmfgpaaDoorKAct
import Derived.Test.YtpoifngepmfgpaaDoorBLive
import Derived.Test.YtpoifngepmfgpaaDoorBFirst
import Derived.Test.YtpoifngepmfgpaaDoorKOpen
import Derived.Test.YtpoifngepmfgpaaDoorKWitness
namespace Go.Proofs.YtpoifngepmfgpaaDoor.O.B
open Go Go.RowKit Go.Shelf Go.Lib RangeMap KM
attribute [local go_sem] Oper.semAt_some

set_option maxRecDepth 100000 in
set_option maxHeartbeats 2000000 in
theorem rwrite_any (o : Obj) (w : World) : Calls Tryd.prog 34 #[encO o] w fun e w' => e = .returned (encA (writeA o)) ∧ Below w.heap.size w w' := by
  unfold encO
  go_enter Tryd.func34, Tryd.ntmps34
  go_upto_region 1 with (fail)
  refine wp_gen (fun V => BoxO V w.heap.size o ∧ BoxA V (w.heap.size + 1) nothing ∧ Below w.heap.size w V) (chain2 w _ _) ?_
  rintro V ⟨h1, h2, hlw⟩
  obtain ⟨V2, hst, ho, -, hb⟩ := acting h2 (writeA o)
  have HO := Lib.hid ho
  have HW := Lib.hid (hb _ _ hlw (by omega))
  clear h2 hlw ho hb
  go_wp2_with (first | (refine wpList_skip rfl (hst rfl rfl rfl) ?_) | ((with_reducible refine wpList_load_obj ?_ rfl ?_ h1 ?_); rfl; rfl) | ((with_reducible refine wpList_build_to rfl 36 _ rfl (cellsA (writeA o)) ?_ ?_); exact built_write o))
  refine bodyPost_ret (v := encA (writeA o)) (results_cell_row rfl _ _ (w.heap.size + 1) 36 (cellsA (writeA o)) (0, 0) _ rfl HO.out undAct rfl sizeAct) rfl ?_
  exact ⟨rfl, HW.out⟩
set_option maxRecDepth 100000 in
set_option maxHeartbeats 2000000 in
theorem rremove_any (o : Obj) (w : World) : Calls Tryd.prog 32 #[encO o] w fun e w' => e = .returned (encA (removeA o)) ∧ Below w.heap.size w w' := by
  unfold encO
  go_enter Tryd.func32, Tryd.ntmps32
  go_upto_region 1 with (fail)
  refine wp_gen (fun V => BoxO V w.heap.size o ∧ BoxA V (w.heap.size + 1) nothing ∧ Below w.heap.size w V) (chain2 w _ _) ?_
  rintro V ⟨h1, h2, hlw⟩
  obtain ⟨V2, hst, ho, -, hb⟩ := acting h2 (removeA o)
  have HO := Lib.hid ho
  have HW := Lib.hid (hb _ _ hlw (by omega))
  clear h2 hlw ho hb
  go_wp2_with (first | (refine wpList_skip rfl (hst rfl rfl rfl) ?_) | ((with_reducible refine wpList_load_obj ?_ rfl ?_ h1 ?_); rfl; rfl) | ((with_reducible refine wpList_build_to rfl 36 _ rfl (cellsA (removeA o)) ?_ ?_); exact built_remove o))
  refine bodyPost_ret (v := encA (removeA o)) (results_cell_row rfl _ _ (w.heap.size + 1) 36 (cellsA (removeA o)) (0, 0) _ rfl HO.out undAct rfl sizeAct) rfl ?_
  exact ⟨rfl, HW.out⟩
set_option maxRecDepth 100000 in
set_option maxHeartbeats 2000000 in
theorem rask_any (c : Cl) (w : World) : Calls Tryd.prog 35 #[encC c] w fun e w' => e = .returned (encA (askA c)) ∧ Below w.heap.size w w' := by
  unfold encC
  go_enter Tryd.func35, Tryd.ntmps35
  go_upto_region 1 with (fail)
  refine wp_gen (fun V => BoxC V w.heap.size c ∧ BoxA V (w.heap.size + 1) nothing ∧ Below w.heap.size w V) (chain2 w _ _) ?_
  rintro V ⟨h1, h2, hlw⟩
  obtain ⟨V2, hst, ho, -, hb⟩ := acting h2 (askA c)
  have HO := Lib.hid ho
  have HW := Lib.hid (hb _ _ hlw (by omega))
  clear h2 hlw ho hb
  go_wp2_with (first | (refine wpList_skip rfl (hst rfl rfl rfl) ?_) | (refine wpList_got rfl (load_call h1 rfl rfl) ?_) | ((with_reducible refine wpList_build_to rfl 36 _ rfl (cellsA (askA c)) ?_ ?_); exact built_ask c))
  refine bodyPost_ret (v := encA (askA c)) (results_cell_row rfl _ _ (w.heap.size + 1) 36 (cellsA (askA c)) (0, 0) _ rfl HO.out undAct rfl sizeAct) rfl ?_
  exact ⟨rfl, HW.out⟩
end Go.Proofs.YtpoifngepmfgpaaDoor.O.B
namespace Go.Proofs.YtpoifngepmfgpaaDoor.O.B
open Go Go.RowKit Go.Shelf Go.Lib RangeMap KM
attribute [local go_sem] Oper.semAt_some

def hasC (v c : Obj) : Bool := (c.kind == 3) && decide (refN c = v.claim)
def usesV (n : ByteArray) (a : Obj) : Bool := decide (a.volume = n) && ((a.kind == 5) || ((a.kind == 7) && (a.phase == 10)))
theorem claimed_uniq (l : List Obj) (v : Obj) : claimedN l v = (uniqL l).any (hasC v) := by
  unfold claimedN
  rw [there_uniq, Bool.eq_iff_iff, List.find?_isSome, List.any_eq_true]
  unfold hasC
  simp only [List.mem_filter, decide_eq_true_eq, Bool.and_eq_true, beq_iff_eq]
  exact ⟨fun ⟨x, ⟨h1, h2⟩, h3⟩ => ⟨x, h1, h2, h3⟩, fun ⟨x, h1, h2, h3⟩ => ⟨x, ⟨h1, h2⟩, h3⟩⟩
theorem used_uniq (l : List Obj) (v : Obj) : inUseN l v = (uniqL l).any (usesV v.name) := by
  unfold inUseN atN cutN
  rw [there_uniq, there_uniq, Bool.eq_iff_iff, Bool.or_eq_true, List.find?_isSome, List.find?_isSome, List.any_eq_true]
  unfold usesV
  simp only [List.mem_filter, decide_eq_true_eq, Bool.and_eq_true, Bool.or_eq_true, beq_iff_eq]
  constructor
  · rintro (⟨x, ⟨h1, h2⟩, h3⟩ | ⟨x, ⟨h1, h2⟩, h3, h4⟩)
    · exact ⟨x, h1, h3, .inl h2⟩
    · exact ⟨x, h1, h3, .inr ⟨h2, h4⟩⟩
  · rintro ⟨x, h1, h2, h3 | ⟨h3, h4⟩⟩
    · exact .inl ⟨x, ⟨h1, h3⟩, h2⟩
    · exact .inr ⟨x, ⟨h1, h3⟩, h2, h4⟩
theorem any_no {p : Obj → Bool} {L : List Obj} (h : ∀ i (hi : i < L.length), p L[i] = false) : L.any p = false := by
  rw [List.any_eq_false]
  intro x hx
  obtain ⟨i, hi, rfl⟩ := List.mem_iff_getElem.1 hx
  rw [h i hi]
  decide
theorem any_yes {p : Obj → Bool} {L : List Obj} {i : Nat} (hi : i < L.length) (h : p L[i] = true) : L.any p = true := List.any_eq_true.2 ⟨L[i], List.getElem_mem hi, h⟩
/-- The document's way: by whether there is a claim of it, and whether it is used. -/
def volR (o : Option Obj) (cl us : Obj → Bool) (next : Int) (name : ByteArray) : Ac := match o with
  | none => nothing
  | some v => if v.phase = 4 then (if v.deleting = true ∧ v.keep = false then writeA (erasingN v next) else nothing)
    else if v.phase = 3 then (if cl v = true then nothing else writeA (givenN v next))
    else if v.phase = 6 then (if us v = true then nothing else askA ⟨2, name, v.num, 0, E0, E0, E0⟩) else nothing
theorem volR_is (l : List Obj) (ver : Int) (name : ByteArray) : volR (getL l 4 name) (fun v => (uniqL l).any (hasC v)) (fun _ => (uniqL l).any (usesV name)) (IntKind.u64.wrap (ver + 1)) name = volumeN l ver name := by
  unfold volR volumeN
  cases hg : getL l 4 name with
  | none => rfl
  | some v =>
    have hn : v.name = name := by
      have := List.find?_some hg
      simp only [Bool.and_eq_true, decide_eq_true_eq] at this
      exact this.2
    subst hn
    have hcl := claimed_uniq l v
    have hus := used_uniq l v
    dsimp only
    by_cases p4 : v.phase = 4
    · have n3 : ¬ (v.phase = 3 ∧ claimedN l v = false) := fun e => by rw [p4] at e; exact absurd e.1 (by decide)
      have n6 : ¬ (v.phase = 6 ∧ inUseN l v = false) := fun e => by rw [p4] at e; exact absurd e.1 (by decide)
      rw [if_pos p4]
      by_cases h : v.deleting = true ∧ v.keep = false
      · have y4 : v.phase = 4 ∧ v.deleting = true ∧ v.keep = false := ⟨p4, h⟩
        rw [if_pos h, if_pos y4]
      · have n4 : ¬ (v.phase = 4 ∧ v.deleting = true ∧ v.keep = false) := fun e => h e.2
        rw [if_neg h, if_neg n4, if_neg n3, if_neg n6]
    · have n4 : ¬ (v.phase = 4 ∧ v.deleting = true ∧ v.keep = false) := fun e => p4 e.1
      rw [if_neg p4, if_neg n4]
      by_cases p3 : v.phase = 3
      · have n6 : ¬ (v.phase = 6 ∧ inUseN l v = false) := fun e => by rw [p3] at e; exact absurd e.1 (by decide)
        rw [if_pos p3]
        by_cases hc : claimedN l v = true
        · have n3 : ¬ (v.phase = 3 ∧ claimedN l v = false) := fun e => by rw [hc] at e; cases e.2
          rw [if_pos (hcl.symm.trans hc), if_neg n3, if_neg n6]
        · have hc' : claimedN l v = false := by simpa using hc
          have y3 : v.phase = 3 ∧ claimedN l v = false := ⟨p3, hc'⟩
          have nc : ¬ (uniqL l).any (hasC v) = true := fun e => hc (hcl.trans e)
          rw [if_neg nc, if_pos y3]
      · have n3 : ¬ (v.phase = 3 ∧ claimedN l v = false) := fun e => p3 e.1
        rw [if_neg p3, if_neg n3]
        by_cases p6 : v.phase = 6
        · rw [if_pos p6]
          by_cases hu : inUseN l v = true
          · have n6 : ¬ (v.phase = 6 ∧ inUseN l v = false) := fun e => by rw [hu] at e; cases e.2
            rw [if_pos (hus.symm.trans hu), if_neg n6]
          · have hu' : inUseN l v = false := by simpa using hu
            have y6 : v.phase = 6 ∧ inUseN l v = false := ⟨p6, hu'⟩
            have nu : ¬ (uniqL l).any (usesV v.name) = true := fun e => hu (hus.trans e)
            rw [if_neg nu, if_pos y6]
        · have n6 : ¬ (v.phase = 6 ∧ inUseN l v = false) := fun e => p6 e.1
          rw [if_neg p6, if_neg n6]

theorem exec_eql_kind2 {W : World} {r s : Int} {v : Bool} {oi : Oper} {a : Act} {x y : Operand} {t : TypeId} (ho : oi.op = .binOp .eql 27 x y t) (hx : a.eval x = .int .u8 r) (hy : a.eval y = .int .u8 s) (hv : (r == s) = v) :
    (execOp a.eval oi).run Tryd.prog W = .ok (.value (.bool v)) W := by
  subst hv
  unfold execOp
  simp only [ho, hx, hy]
  go_simp

set_option maxRecDepth 100000 in
set_option maxHeartbeats 8000000 in
theorem rvolume_any (l : List Obj) (v : Value) (ver : Int) (name : ByteArray) (w : World) (hl : ObjsIn w v l) (hn : l.length < 100000) (ht : Tab w) (hall : ∀ s ∈ l, (0 ≤ s.born ∧ s.born ≤ 18446744073709551615) ∧ s.name.size ≤ 140737488351232) :
    Calls Tryd.prog 13 #[v, .int .u64 ver, .string name] w fun e w' => e = .returned (encA (volumeN l ver name)) ∧ Below w.heap.size w w' := by
  have HU := Lib.hid (fun V (hV : ObjsIn V v l) => uniq_any l v V hV hn)
  obtain ⟨o, cp, rfl, -, -⟩ := id hl
  have HL0 := Lib.hid hl
  have HT := Lib.hid ht
  have hvr := volR_is l ver name
  have hug := uniq_get l 4 name
  have hallu : ∀ s ∈ uniqL l, (0 ≤ s.born ∧ s.born ≤ 18446744073709551615) ∧ s.name.size ≤ 140737488351232 := fun s hs => hall s (uniq_mem hs)
  obtain ⟨x, hx⟩ : ∃ x, volumeN l ver name = x := ⟨_, rfl⟩
  rw [hx] at hvr ⊢
  obtain ⟨r, hr⟩ : ∃ r, getL l 4 name = r := ⟨_, rfl⟩
  rw [hr] at hvr hug
  generalize uniqL l = L at *
  have HG := Lib.hid (fun (V : World) (s : Value) (hV : ObjsIn V s L) => rget_any L s 4 name V hV)
  rw [hug] at HG
  have HVR := Lib.hid hvr
  have HALL := Lib.hid hallu
  clear hl hn ht hall hallu hvr hug hx hr
  go_enter Tryd.func13, Tryd.ntmps13
  go_upto_region 1 with (fail)
  refine wp_gen (fun V => BoxA V w.heap.size nothing ∧ Below w.heap.size w V) ⟨heap_alloc_new _ _, (Below.refl _ _).alloc (Nat.le_refl _) _⟩ ?_
  rintro V0 ⟨ho, hl⟩
  have HO0 := Lib.hid ho
  have HW0 := Lib.hid hl
  have HUV := Lib.hid (HU.out V0 (HL0.out.after hl))
  clear ho hl HU HL0
  go_wp2_with (fail)
  refine HUV.out.mono ?_
  rintro e W1 ⟨lv, rfl, hl1, hb1⟩
  have HO1 := Lib.hid (HO0.out.after hb1)
  have HW1 := Lib.hid (HW0.out.trans (hb1.mono HW0.out.size))
  obtain ⟨o1, c1, rfl, hm, -⟩ := id hl1
  have HL := Lib.hid hl1
  have HGV := Lib.hid (HG.out W1 _ hl1)
  clear HUV HO0 HW0 hb1 hl1 HG
  go_wp2_with (fail)
  refine HGV.out.mono ?_
  rintro e W2 ⟨rfl, hb2⟩
  obtain ⟨X, sx, ox, lx, -⟩ := boxing W2 (r.getD O0)
  have hwx := hb2.trans (lx.mono hb2.size)
  have hne : w.heap.size < W2.heap.size := Nat.lt_of_lt_of_le (Array.getElem?_eq_some_iff.1 HO1.out).1 hb2.size
  have HO := Lib.hid (HO1.out.after hwx)
  have HW := Lib.hid (HW1.out.trans (hwx.mono HW1.out.size))
  have HLX := Lib.hid (HL.out.after hwx)
  have HTX := Lib.hid (HT.out.after HW.out)
  have HNE := Lib.hid hne
  clear HGV hb2 lx hwx HO1 HW1 HL HT hne
  cases r with
  | none =>
    have HVV : Hid (x = nothing) := HVR.out.symm
    obtain ⟨V8, hst8, ho, -, hb⟩ := acting HO.out nothing
    have HO8 := Lib.hid ho
    have HX8 := Lib.hid (hb _ _ HW.out (Nat.le_refl _))
    clear ho hb HVR ox
    go_wp2_with (first | (refine wpList_skip rfl (sx rfl rfl rfl) ?_) | (refine wpList_skip rfl (hst8 rfl rfl rfl) ?_))
    refine bodyPost_ret (v := encA nothing) (results_cell_row rfl _ _ w.heap.size 36 (cellsA nothing) (0, 0) _ rfl HO8.out undAct rfl sizeAct) rfl ?_
    exact ⟨by rw [HVV.out], HX8.out⟩
  | some vo =>
    have hk : BoxO X W2.heap.size vo := ox
    have hxx : (if vo.phase = 4 then (if vo.deleting = true ∧ vo.keep = false then writeA (erasingN vo (IntKind.u64.wrap (ver + 1))) else nothing) else if vo.phase = 3 then (if L.any (hasC vo) = true then nothing else writeA (givenN vo (IntKind.u64.wrap (ver + 1)))) else if vo.phase = 6 then (if L.any (usesV name) = true then nothing else askA ⟨2, name, vo.num, 0, E0, E0, E0⟩) else nothing) = x := HVR.out
    have HX2 := Lib.hid hxx
    have v17 := hk.c17
    have HK := Lib.hid hk
    clear hxx HVR ox hk
    go_upto_region 5 with (refine wpList_skip rfl (sx rfl rfl rfl) ?_)
    clear sx
    have write6 : ∀ (u : Obj), Hid (x = writeA u) → Hid (∀ V, Calls Tryd.prog 34 #[encO u] V fun e w' => e = .returned (encA x) ∧ Below V.heap.size V w') := fun u h => by
      have h' := h.out
      subst h'
      exact fun V => rwrite_any u V
    have moved : ∀ (V : World) (a : Addr) (u : Value), a.block = W2.heap.size → BoxA V w.heap.size nothing → BoxA (V.setCell a u) w.heap.size nothing := fun V a u ha hB => (heap_setCell_other V a w.heap.size u (by have := HNE.out; rw [ha]; omega)).trans hB
    have MOVED := Lib.hid moved
    clear moved
    by_cases p4 : vo.phase = 4
    · rw [p4] at v17
      have HX3 : Hid ((if vo.deleting = true ∧ vo.keep = false then writeA (erasingN vo (IntKind.u64.wrap (ver + 1))) else nothing) = x) := by show _ = _; rw [← HX2.out, if_pos p4]
      have v4 := HK.out.c4
      have v10 := HK.out.c10
      clear HX2 p4
      cases hd : vo.deleting with
      | false =>
        have HVV : Hid (x = nothing) := by show _ = _; rw [← HX3.out, if_neg (fun h => by rw [hd] at h; cases h.1)]
        rw [hd] at v4
        clear HX3 hd
        obtain ⟨V8, hst8, ho, -, hb⟩ := acting HO.out nothing
        have HO8 := Lib.hid ho
        have HX8 := Lib.hid (hb _ _ HW.out (Nat.le_refl _))
        clear ho hb write6
        go_wp2_with (first | (refine wpList_skip rfl (hst8 rfl rfl rfl) ?_) | ((with_reducible refine wpList_build_to rfl 36 _ rfl (cellsA nothing) ?_ ?_); exact built_act0'))
        refine bodyPost_ret (v := encA nothing) (results_cell_row rfl _ _ w.heap.size 36 (cellsA nothing) (0, 0) _ rfl HO8.out undAct rfl sizeAct) rfl ?_
        exact ⟨by rw [HVV.out], HX8.out⟩
      | true =>
        rw [hd] at v4
        cases hkp : vo.keep with
        | true =>
          have HVV : Hid (x = nothing) := by show _ = _; rw [← HX3.out, if_neg (fun h => by rw [hkp] at h; cases h.2)]
          rw [hkp] at v10
          clear HX3 hd hkp
          obtain ⟨V8, hst8, ho, -, hb⟩ := acting HO.out nothing
          have HO8 := Lib.hid ho
          have HX8 := Lib.hid (hb _ _ HW.out (Nat.le_refl _))
          clear ho hb write6
          go_wp2_with (first | (refine wpList_skip rfl (hst8 rfl rfl rfl) ?_) | ((with_reducible refine wpList_build_to rfl 36 _ rfl (cellsA nothing) ?_ ?_); exact built_act0'))
          refine bodyPost_ret (v := encA nothing) (results_cell_row rfl _ _ w.heap.size 36 (cellsA nothing) (0, 0) _ rfl HO8.out undAct rfl sizeAct) rfl ?_
          exact ⟨by rw [HVV.out], HX8.out⟩
        | false =>
          have HVV : Hid (x = writeA (erasingN vo (IntKind.u64.wrap (ver + 1)))) := by show _ = _; rw [← HX3.out, if_pos ⟨hd, hkp⟩]
          rw [hkp] at v10
          clear HX3 hd hkp
          go_upto_region 9 with (fail)
          clear v17 v4 v10
          have HWR := write6 _ HVV
          have k17 := HK.out.c17
          have g17 := HK.out.free 17
          have k18 := HK.out.c18
          have g18 := HK.out.free 18
          have hle : w.heap.size ≤ W2.heap.size := Nat.le_of_lt HNE.out
          go_upto_region 10 with (fail)
          refine wp_gen (fun V => BoxO V W2.heap.size (erasingN vo (IntKind.u64.wrap (ver + 1))) ∧ BoxA V w.heap.size nothing ∧ Below w.heap.size w V) ⟨(HK.out.s17 6).s18 _, MOVED.out _ _ _ rfl (MOVED.out _ _ _ rfl HO.out), (HW.out.setCell hle _).setCell hle _⟩ ?_
          clear k17 g17 k18 g18 write6 hle
          rintro V6 ⟨hk6, ho6, hw6⟩
          have HO6 := Lib.hid ho6
          have HW6 := Lib.hid hw6
          clear ho6 hw6
          go_wp2_with ((with_reducible refine wpList_load_obj ?_ rfl ?_ hk6 ?_); rfl; rfl)
          refine (HWR.out _).mono ?_
          rintro e W7 ⟨rfl, hb7⟩
          obtain ⟨V8, hst8, ho, -, hb⟩ := acting (HO6.out.after hb7) x
          have HO8 := Lib.hid ho
          have HX8 := Lib.hid (hb _ _ (HW6.out.trans (hb7.mono HW6.out.size)) (Nat.le_refl _))
          clear ho hb HWR hb7 hk6
          go_wp2_with (refine wpList_skip rfl (hst8 rfl rfl rfl) ?_)
          refine bodyPost_ret (v := encA x) (results_cell_row rfl _ _ w.heap.size 36 (cellsA x) (0, 0) _ rfl HO8.out undAct rfl sizeAct) rfl ?_
          exact ⟨rfl, HX8.out⟩
    · have e4 : (vo.phase == 4) = false := by simpa using p4
      by_cases p3 : vo.phase = 3
      · rw [p3] at v17
        have HX3 : Hid ((if L.any (hasC vo) = true then nothing else writeA (givenN vo (IntKind.u64.wrap (ver + 1)))) = x) := by show _ = _; rw [← HX2.out, if_neg p4, if_pos p3]
        clear HX2 p3 p4 e4
        go_upto_region 12 with (fail)
        clear v17
        go_wp2_with (fail)
        go_loopw [10] (fun i wr => ∃ j : Nat, i = .int .i64 (j : Int) ∧ j ≤ L.length ∧ Hid (∀ p (hp : p < L.length), p < j → hasC vo L[p] = false) ∧ Below X.heap.size X wr) (fun i _ => L.length - (RowKit.intOf i).toNat)
        case atStart => exact ⟨0, rfl, Nat.zero_le _, by show ∀ p _, _ → _; intro p _ h; exact absurd h (by omega), Below.refl _ _⟩
        case round =>
          obtain ⟨j, rfl, hj, HNO, hlow⟩ := hrel
          have HLOW := Lib.hid hlow
          clear hlow
          by_cases hlt : j < L.length
          · have hlt' : (j : Int) < (L.length : Int) := by omega
            obtain ⟨o', c', he, -, hi⟩ := id HLX.out
            cases he
            obtain ⟨g, off, rfl, -, -⟩ := hi j hlt
            obtain ⟨y, hy⟩ : ∃ y, L[j] = y := ⟨_, rfl⟩
            have hrows : ∀ V : World, ObjsIn V (.slice (some ⟨g, off, none⟩) L.length c1) L → V.rangeAt g (off + j * 20) (cellsO y).toList := fun V hV => by
              obtain ⟨o2, c2, e2, -, h2⟩ := hV
              cases e2
              obtain ⟨g3, off3, e3, -, h3⟩ := h2 j hlt
              cases e3
              rw [← hy]
              exact h3
            have HROWS := Lib.hid hrows
            have hin := HALL.out L[j] (List.getElem_mem hlt)
            rw [hy] at hin
            have HRF := Lib.hid (fun V (hV : Tab V) => rref_any y V hV hin.1 hin.2)
            have HNX : Hid (hasC vo y = false → ∀ p (hp : p < L.length), p < j + 1 → hasC vo L[p] = false) := by
              show _ → ∀ p _, _ → _
              intro hf p hp h
              rcases Nat.lt_or_ge p j with h1 | h1
              · exact HNO.out p hp h1
              · obtain rfl : p = j := by omega
                rw [hy]
                exact hf
            have HYES : Hid (hasC vo y = true → L.any (hasC vo) = true) := fun h => any_yes hlt (by rw [hy]; exact h)
            obtain ⟨rf, hrf⟩ : ∃ rf, refN y = rf := ⟨_, rfl⟩
            rw [hrf] at HRF
            have HRFN := Lib.hid hrf
            have HLL := Lib.hid (HLX.out.after HLOW.out)
            have HKK := Lib.hid (HK.out.after HLOW.out)
            have HTT := Lib.hid (HTX.out.after HLOW.out)
            have HWW := HLOW
            clear hi hy hrows hin hrf HLOW HNO
            go_upto_region 15 with (fail)
            cases e1 : (y.kind == 3) with
            | false =>
              have K1 := Lib.hid e1
              have HF : Hid (hasC vo y = false) := by show _ = _; unfold hasC; rw [e1]; rfl
              clear e1
              refine wp_region_held_drew (S := fun V => ObjsIn V (.slice (some ⟨g, off, none⟩) L.length c1) L ∧ BoxO V W2.heap.size vo ∧ Tab V ∧ Below X.heap.size X V) (by kernel_rfl) ⟨HLL.out, HKK.out, HTT.out.drew, HWW.out.drew⟩ (fun _ => ?_)
              refine HeldBy.gen (fun V => ObjsIn V (.slice (some ⟨g, off, none⟩) L.length c1) L ∧ BoxO V W2.heap.size vo ∧ Tab V ∧ Below X.heap.size X V) ⟨HLL.out, HKK.out, HTT.out.drew, HWW.out.drew⟩ ?_
              clear HLL HKK HTT HWW
              rintro U0 HS
              refine HeldBy.take (i := 0) rfl (by kernel_rfl) (by kernel_rfl) (by kernel_rfl) (fun _ _ _ h => h) (by rfl) (fun _ _ => by first | (go_simp; rfl) | (go_simp; done)) (by go_simp; rfl) HS ?_
              refine HeldBy.take (i := 1) rfl (by kernel_rfl) (by kernel_rfl) (by kernel_rfl) (fun _ _ _ h => h) (by rfl) (fun _ _ => by first | (go_simp; rfl) | (go_simp; done)) (by go_simp; rfl) HS ?_
              refine HeldBy.take (i := 2) rfl (by kernel_rfl) (by kernel_rfl) (by kernel_rfl) (fun _ _ _ h => h) (by rfl) (fun _ _ => by first | (go_simp; rfl) | (go_simp; done)) (by go_simp; rfl) HS ?_
              refine HeldBy.take (i := 3) rfl (by kernel_rfl) (by kernel_rfl) (by kernel_rfl) (fun _ _ _ h => h) (by rfl) (fun _ _ => by first | (go_simp; rfl) | (go_simp; done)) (by go_simp; rfl) HS ?_
              refine HeldBy.take (i := 4) (v := .int .u8 y.kind) rfl (by kernel_rfl) (by kernel_rfl) (by kernel_rfl) (fun _ _ _ h => h) (by rfl) (fun V hV => by have h := row_cell (HROWS.out V hV.1) 0 _ rfl; rw [Nat.add_zero] at h; first | (go_simp; rfl) | (go_simp; done)) (by go_simp; rfl) HS ?_
              refine HeldBy.take (i := 5) (v := .bool false) rfl (by kernel_rfl) (by kernel_rfl) (by kernel_rfl) (fun _ _ _ h => h) (by rfl) (fun _ _ => exec_eql_kind2 rfl rfl rfl K1.out) (by go_simp; rfl) HS ?_
              refine HeldBy.take (i := 6) rfl (by kernel_rfl) (by kernel_rfl) (by kernel_rfl) (fun _ _ _ h => h) (by rfl) (fun _ _ => by first | (go_simp; rfl) | (go_simp; done)) (by go_simp; rfl) HS ?_
              refine HeldBy.skip (i := 7) rfl (by kernel_rfl) (by kernel_rfl) (by kernel_rfl) (fun _ _ _ h => h) (by rfl) (by go_simp; rfl) HS ?_
              refine HeldBy.skip (i := 8) rfl (by kernel_rfl) (by kernel_rfl) (by kernel_rfl) (fun _ _ _ h => h) (by rfl) (by go_simp; rfl) HS ?_
              refine HeldBy.skip (i := 9) rfl (by kernel_rfl) (by kernel_rfl) (by kernel_rfl) (fun _ _ _ h => h) (by rfl) (by go_simp; rfl) HS ?_
              refine HeldBy.skip (i := 10) rfl (by kernel_rfl) (by kernel_rfl) (by kernel_rfl) (fun _ _ _ h => h) (by rfl) (by go_simp; rfl) HS ?_
              refine HeldBy.skip (i := 11) rfl (by kernel_rfl) (by kernel_rfl) (by kernel_rfl) (fun _ _ _ h => h) (by rfl) (by go_simp; rfl) HS ?_
              refine HeldBy.skip (i := 12) rfl (by kernel_rfl) (by kernel_rfl) (by kernel_rfl) (fun _ _ _ h => h) (by rfl) (by go_simp; rfl) HS ?_
              refine HeldBy.skip (i := 13) rfl (by kernel_rfl) (by kernel_rfl) (by kernel_rfl) (fun _ _ _ h => h) (by rfl) (by go_simp; rfl) HS ?_
              refine HeldBy.skip (i := 14) rfl (by kernel_rfl) (by kernel_rfl) (by kernel_rfl) (fun _ _ _ h => h) (by rfl) (by go_simp; rfl) HS ?_
              refine HeldBy.take (i := 15) rfl (by kernel_rfl) (by kernel_rfl) (by kernel_rfl) (fun _ _ _ h => h) (by rfl) (fun _ _ => by first | (go_simp; rfl) | (go_simp; done)) (by go_simp; rfl) HS ?_
              refine wpAnyH_done (by kernel_rfl) ?_ _
              have HNN := Lib.hid (HNX.out HF.out)
              have HW5 := Lib.hid HS.2.2.2
              clear HS HROWS HRF HNX HYES HRFN K1 HF
              go_wp2
              go_roundw
              case rel => exact ⟨j + 1, by go_num, by omega, HNN, HW5.out⟩
              case measure => simp [RowKit.intOf]; omega
            | true =>
              have K1 := Lib.hid e1
              by_cases e3 : rf = vo.claim
              · have K3 : Hid (decide (rf = vo.claim) = true) := decide_eq_true e3
                have HAY : Hid (L.any (hasC vo) = true) := HYES.out (by unfold hasC; rw [e1, HRFN.out, decide_eq_true e3]; rfl)
                have HVV : Hid (x = nothing) := by show _ = _; rw [← HX3.out, if_pos HAY.out]
                clear e1 e3 HAY
                refine wp_region_held_drew (S := fun V => ObjsIn V (.slice (some ⟨g, off, none⟩) L.length c1) L ∧ BoxO V W2.heap.size vo ∧ Tab V ∧ Below X.heap.size X V) (by kernel_rfl) ⟨HLL.out, HKK.out, HTT.out.drew, HWW.out.drew⟩ (fun _ => ?_)
                refine HeldBy.gen (fun V => ObjsIn V (.slice (some ⟨g, off, none⟩) L.length c1) L ∧ BoxO V W2.heap.size vo ∧ Tab V ∧ Below X.heap.size X V) ⟨HLL.out, HKK.out, HTT.out.drew, HWW.out.drew⟩ ?_
                clear HLL HKK HTT HWW
                rintro U0 HS
                refine HeldBy.take (i := 0) rfl (by kernel_rfl) (by kernel_rfl) (by kernel_rfl) (fun _ _ _ h => h) (by rfl) (fun _ _ => by first | (go_simp; rfl) | (go_simp; done)) (by go_simp; rfl) HS ?_
                refine HeldBy.take (i := 1) rfl (by kernel_rfl) (by kernel_rfl) (by kernel_rfl) (fun _ _ _ h => h) (by rfl) (fun _ _ => by first | (go_simp; rfl) | (go_simp; done)) (by go_simp; rfl) HS ?_
                refine HeldBy.take (i := 2) rfl (by kernel_rfl) (by kernel_rfl) (by kernel_rfl) (fun _ _ _ h => h) (by rfl) (fun _ _ => by first | (go_simp; rfl) | (go_simp; done)) (by go_simp; rfl) HS ?_
                refine HeldBy.take (i := 3) rfl (by kernel_rfl) (by kernel_rfl) (by kernel_rfl) (fun _ _ _ h => h) (by rfl) (fun _ _ => by first | (go_simp; rfl) | (go_simp; done)) (by go_simp; rfl) HS ?_
                refine HeldBy.take (i := 4) (v := .int .u8 y.kind) rfl (by kernel_rfl) (by kernel_rfl) (by kernel_rfl) (fun _ _ _ h => h) (by rfl) (fun V hV => by have h := row_cell (HROWS.out V hV.1) 0 _ rfl; rw [Nat.add_zero] at h; first | (go_simp; rfl) | (go_simp; done)) (by go_simp; rfl) HS ?_
                refine HeldBy.take (i := 5) (v := .bool true) rfl (by kernel_rfl) (by kernel_rfl) (by kernel_rfl) (fun _ _ _ h => h) (by rfl) (fun _ _ => exec_eql_kind2 rfl rfl rfl K1.out) (by go_simp; rfl) HS ?_
                refine HeldBy.take (i := 6) rfl (by kernel_rfl) (by kernel_rfl) (by kernel_rfl) (fun _ _ _ h => h) (by rfl) (fun _ _ => by first | (go_simp; rfl) | (go_simp; done)) (by go_simp; rfl) HS ?_
                refine HeldBy.take (i := 7) rfl (by kernel_rfl) (by kernel_rfl) (by kernel_rfl) (fun _ _ _ h => h) (by rfl) (fun _ _ => by first | (go_simp; rfl) | (go_simp; done)) (by go_simp; rfl) HS ?_
                refine HeldBy.take (i := 8) rfl (by kernel_rfl) (by kernel_rfl) (by kernel_rfl) (fun _ _ _ h => h) (by rfl) (fun _ _ => by first | (go_simp; rfl) | (go_simp; done)) (by go_simp; rfl) HS ?_
                refine HeldBy.take (i := 9) rfl (by kernel_rfl) (by kernel_rfl) (by kernel_rfl) (fun _ _ _ h => h) (by rfl) (fun _ _ => by first | (go_simp; rfl) | (go_simp; done)) (by go_simp; rfl) HS ?_
                refine HeldBy.take (i := 10) (v := encO y) rfl (by kernel_rfl) (by kernel_rfl) (by kernel_rfl) (fun _ _ _ h => h) (by rfl) (fun V hV => load_mid (HROWS.out V hV.1) rfl rfl) (by go_simp; rfl) HS ?_
                refine HeldBy.take (i := 12) rfl (by kernel_rfl) (by kernel_rfl) (by kernel_rfl) (fun _ _ _ h => h) (by rfl) (fun _ _ => by first | (go_simp; rfl) | (go_simp; done)) (by go_simp; rfl) HS ?_
                refine HeldBy.take (i := 13) (v := .string vo.claim) rfl (by kernel_rfl) (by kernel_rfl) (by kernel_rfl) (fun _ _ _ h => h) (by rfl) (fun V hV => by have h := hV.2.1.c14; first | (go_simp; rfl) | (go_simp; done)) (by go_simp; rfl) HS ?_
                refine HeldBy.call (i := 11) (v := .string rf) rfl (by kernel_rfl) (by rfl) (by go_simp; exact ⟨rfl, rfl⟩) (by go_simp; rfl) ?_
                refine (HRF.out _ HS.2.2.1).mono ?_
                rintro e U1 ⟨rfl, hb⟩
                replace HS : ObjsIn U1 (.slice (some ⟨g, off, none⟩) L.length c1) L ∧ BoxO U1 W2.heap.size vo ∧ Tab U1 ∧ Below X.heap.size X U1 := ⟨HS.1.after hb, HS.2.1.after hb, HS.2.2.1.after hb, HS.2.2.2.trans (hb.mono HS.2.2.2.size)⟩
                refine ⟨rfl, HS, ?_⟩
                clear hb
                refine HeldBy.take (i := 14) (v := .bool true) rfl (by kernel_rfl) (by kernel_rfl) (by kernel_rfl) (fun _ _ _ h => h) (by rfl) (fun _ _ => exec_eql_str rfl rfl rfl K3.out) (by go_simp; rfl) HS ?_
                refine HeldBy.take (i := 15) rfl (by kernel_rfl) (by kernel_rfl) (by kernel_rfl) (fun _ _ _ h => h) (by rfl) (fun _ _ => by first | (go_simp; rfl) | (go_simp; done)) (by go_simp; rfl) HS ?_
                refine wpAnyH_done (by kernel_rfl) ?_ _
                have HWZ := Lib.hid HS.2.2.2
                have HOZ := Lib.hid (HO.out.after HWZ.out)
                have HWY := Lib.hid (HW.out.trans (HWZ.out.mono HW.out.size))
                clear HS HROWS HRF HNX HYES HRFN K1 K3 HX3
                obtain ⟨V8, hst8, ho, -, hb⟩ := acting HOZ.out nothing
                have HO8 := Lib.hid ho
                have HX8 := Lib.hid (hb _ _ HWY.out (Nat.le_refl _))
                clear ho hb write6
                go_wp2_with (first | (refine wpList_skip rfl (hst8 rfl rfl rfl) ?_) | ((with_reducible refine wpList_build_to rfl 36 _ rfl (cellsA nothing) ?_ ?_); exact built_act0'))
                refine bodyPost_ret (v := encA nothing) (results_cell_row rfl _ _ w.heap.size 36 (cellsA nothing) (0, 0) _ rfl HO8.out undAct rfl sizeAct) rfl ?_
                exact ⟨by rw [HVV.out], HX8.out⟩
              · have K3 : Hid (decide (rf = vo.claim) = false) := decide_eq_false e3
                have HF : Hid (hasC vo y = false) := by show _ = _; unfold hasC; rw [HRFN.out, decide_eq_false e3, Bool.and_false]
                clear e1 e3
                refine wp_region_held_drew (S := fun V => ObjsIn V (.slice (some ⟨g, off, none⟩) L.length c1) L ∧ BoxO V W2.heap.size vo ∧ Tab V ∧ Below X.heap.size X V) (by kernel_rfl) ⟨HLL.out, HKK.out, HTT.out.drew, HWW.out.drew⟩ (fun _ => ?_)
                refine HeldBy.gen (fun V => ObjsIn V (.slice (some ⟨g, off, none⟩) L.length c1) L ∧ BoxO V W2.heap.size vo ∧ Tab V ∧ Below X.heap.size X V) ⟨HLL.out, HKK.out, HTT.out.drew, HWW.out.drew⟩ ?_
                clear HLL HKK HTT HWW
                rintro U0 HS
                refine HeldBy.take (i := 0) rfl (by kernel_rfl) (by kernel_rfl) (by kernel_rfl) (fun _ _ _ h => h) (by rfl) (fun _ _ => by first | (go_simp; rfl) | (go_simp; done)) (by go_simp; rfl) HS ?_
                refine HeldBy.take (i := 1) rfl (by kernel_rfl) (by kernel_rfl) (by kernel_rfl) (fun _ _ _ h => h) (by rfl) (fun _ _ => by first | (go_simp; rfl) | (go_simp; done)) (by go_simp; rfl) HS ?_
                refine HeldBy.take (i := 2) rfl (by kernel_rfl) (by kernel_rfl) (by kernel_rfl) (fun _ _ _ h => h) (by rfl) (fun _ _ => by first | (go_simp; rfl) | (go_simp; done)) (by go_simp; rfl) HS ?_
                refine HeldBy.take (i := 3) rfl (by kernel_rfl) (by kernel_rfl) (by kernel_rfl) (fun _ _ _ h => h) (by rfl) (fun _ _ => by first | (go_simp; rfl) | (go_simp; done)) (by go_simp; rfl) HS ?_
                refine HeldBy.take (i := 4) (v := .int .u8 y.kind) rfl (by kernel_rfl) (by kernel_rfl) (by kernel_rfl) (fun _ _ _ h => h) (by rfl) (fun V hV => by have h := row_cell (HROWS.out V hV.1) 0 _ rfl; rw [Nat.add_zero] at h; first | (go_simp; rfl) | (go_simp; done)) (by go_simp; rfl) HS ?_
                refine HeldBy.take (i := 5) (v := .bool true) rfl (by kernel_rfl) (by kernel_rfl) (by kernel_rfl) (fun _ _ _ h => h) (by rfl) (fun _ _ => exec_eql_kind2 rfl rfl rfl K1.out) (by go_simp; rfl) HS ?_
                refine HeldBy.take (i := 6) rfl (by kernel_rfl) (by kernel_rfl) (by kernel_rfl) (fun _ _ _ h => h) (by rfl) (fun _ _ => by first | (go_simp; rfl) | (go_simp; done)) (by go_simp; rfl) HS ?_
                refine HeldBy.take (i := 7) rfl (by kernel_rfl) (by kernel_rfl) (by kernel_rfl) (fun _ _ _ h => h) (by rfl) (fun _ _ => by first | (go_simp; rfl) | (go_simp; done)) (by go_simp; rfl) HS ?_
                refine HeldBy.take (i := 8) rfl (by kernel_rfl) (by kernel_rfl) (by kernel_rfl) (fun _ _ _ h => h) (by rfl) (fun _ _ => by first | (go_simp; rfl) | (go_simp; done)) (by go_simp; rfl) HS ?_
                refine HeldBy.take (i := 9) rfl (by kernel_rfl) (by kernel_rfl) (by kernel_rfl) (fun _ _ _ h => h) (by rfl) (fun _ _ => by first | (go_simp; rfl) | (go_simp; done)) (by go_simp; rfl) HS ?_
                refine HeldBy.take (i := 10) (v := encO y) rfl (by kernel_rfl) (by kernel_rfl) (by kernel_rfl) (fun _ _ _ h => h) (by rfl) (fun V hV => load_mid (HROWS.out V hV.1) rfl rfl) (by go_simp; rfl) HS ?_
                refine HeldBy.take (i := 12) rfl (by kernel_rfl) (by kernel_rfl) (by kernel_rfl) (fun _ _ _ h => h) (by rfl) (fun _ _ => by first | (go_simp; rfl) | (go_simp; done)) (by go_simp; rfl) HS ?_
                refine HeldBy.take (i := 13) (v := .string vo.claim) rfl (by kernel_rfl) (by kernel_rfl) (by kernel_rfl) (fun _ _ _ h => h) (by rfl) (fun V hV => by have h := hV.2.1.c14; first | (go_simp; rfl) | (go_simp; done)) (by go_simp; rfl) HS ?_
                refine HeldBy.call (i := 11) (v := .string rf) rfl (by kernel_rfl) (by rfl) (by go_simp; exact ⟨rfl, rfl⟩) (by go_simp; rfl) ?_
                refine (HRF.out _ HS.2.2.1).mono ?_
                rintro e U1 ⟨rfl, hb⟩
                replace HS : ObjsIn U1 (.slice (some ⟨g, off, none⟩) L.length c1) L ∧ BoxO U1 W2.heap.size vo ∧ Tab U1 ∧ Below X.heap.size X U1 := ⟨HS.1.after hb, HS.2.1.after hb, HS.2.2.1.after hb, HS.2.2.2.trans (hb.mono HS.2.2.2.size)⟩
                refine ⟨rfl, HS, ?_⟩
                clear hb
                refine HeldBy.take (i := 14) (v := .bool false) rfl (by kernel_rfl) (by kernel_rfl) (by kernel_rfl) (fun _ _ _ h => h) (by rfl) (fun _ _ => exec_eql_str rfl rfl rfl K3.out) (by go_simp; rfl) HS ?_
                refine HeldBy.take (i := 15) rfl (by kernel_rfl) (by kernel_rfl) (by kernel_rfl) (fun _ _ _ h => h) (by rfl) (fun _ _ => by first | (go_simp; rfl) | (go_simp; done)) (by go_simp; rfl) HS ?_
                refine wpAnyH_done (by kernel_rfl) ?_ _
                have HNN := Lib.hid (HNX.out HF.out)
                have HW5 := Lib.hid HS.2.2.2
                clear HS HROWS HRF HNX HYES HRFN K1 K3 HF
                go_wp2
                go_roundw
                case rel => exact ⟨j + 1, by go_num, by omega, HNN, HW5.out⟩
                case measure => simp [RowKit.intOf]; omega
          · have hlt' : ¬ (j : Int) < (L.length : Int) := by omega
            have HVW : Hid (x = writeA (givenN vo (IntKind.u64.wrap (ver + 1)))) := by
              show _ = _
              rw [← HX3.out, any_no (fun i hi => HNO.out i hi (by omega)), if_neg (by decide)]
            have HKW := Lib.hid (HK.out.after HLOW.out)
            have HOW := Lib.hid (HO.out.after HLOW.out)
            have HWW := Lib.hid (HW.out.trans (HLOW.out.mono HW.out.size))
            have v10 := HKW.out.c10
            clear HX3 HNO HLOW HO HW HLX HTX HALL
            cases hkp : vo.keep with
            | true =>
              have HVV : Hid (x = writeA { vo with phase := 5 }) := by show _ = _; rw [HVW.out]; unfold givenN; rw [if_pos hkp]
              rw [hkp] at v10
              clear HVW hkp
              go_upto_region 18 with (fail)
              clear v10
              have HWR := write6 _ HVV
              have k17 := HKW.out.c17
              have g17 := HKW.out.free 17
              have k18 := HKW.out.c18
              have g18 := HKW.out.free 18
              have hle : w.heap.size ≤ W2.heap.size := Nat.le_of_lt HNE.out
              go_upto_region 19 with (fail)
              refine wp_gen (fun V => BoxO V W2.heap.size ({ vo with phase := 5 }) ∧ BoxA V w.heap.size nothing ∧ Below w.heap.size w V) ⟨HKW.out.s17 5, MOVED.out _ _ _ rfl HOW.out, HWW.out.setCell hle _⟩ ?_
              clear k17 g17 k18 g18 write6 hle
              rintro V6 ⟨hk6, ho6, hw6⟩
              have HO6 := Lib.hid ho6
              have HW6 := Lib.hid hw6
              clear ho6 hw6
              go_wp2_with ((with_reducible refine wpList_load_obj ?_ rfl ?_ hk6 ?_); rfl; rfl)
              refine (HWR.out _).mono ?_
              rintro e W7 ⟨rfl, hb7⟩
              obtain ⟨V8, hst8, ho, -, hb⟩ := acting (HO6.out.after hb7) x
              have HO8 := Lib.hid ho
              have HX8 := Lib.hid (hb _ _ (HW6.out.trans (hb7.mono HW6.out.size)) (Nat.le_refl _))
              clear ho hb HWR hb7 hk6
              go_wp2_with (refine wpList_skip rfl (hst8 rfl rfl rfl) ?_)
              refine bodyPost_ret (v := encA x) (results_cell_row rfl _ _ w.heap.size 36 (cellsA x) (0, 0) _ rfl HO8.out undAct rfl sizeAct) rfl ?_
              exact ⟨rfl, HX8.out⟩
            | false =>
              have HVV : Hid (x = writeA (erasingN vo (IntKind.u64.wrap (ver + 1)))) := by show _ = _; rw [HVW.out]; unfold givenN; rw [if_neg (by rw [hkp]; decide)]
              rw [hkp] at v10
              clear HVW hkp
              go_upto_region 20 with (fail)
              clear v10
              have HWR := write6 _ HVV
              have k17 := HKW.out.c17
              have g17 := HKW.out.free 17
              have k18 := HKW.out.c18
              have g18 := HKW.out.free 18
              have hle : w.heap.size ≤ W2.heap.size := Nat.le_of_lt HNE.out
              go_upto_region 21 with (fail)
              refine wp_gen (fun V => BoxO V W2.heap.size (erasingN vo (IntKind.u64.wrap (ver + 1))) ∧ BoxA V w.heap.size nothing ∧ Below w.heap.size w V) ⟨(HKW.out.s17 6).s18 _, MOVED.out _ _ _ rfl (MOVED.out _ _ _ rfl HOW.out), (HWW.out.setCell hle _).setCell hle _⟩ ?_
              clear k17 g17 k18 g18 write6 hle
              rintro V6 ⟨hk6, ho6, hw6⟩
              have HO6 := Lib.hid ho6
              have HW6 := Lib.hid hw6
              clear ho6 hw6
              go_wp2_with ((with_reducible refine wpList_load_obj ?_ rfl ?_ hk6 ?_); rfl; rfl)
              refine (HWR.out _).mono ?_
              rintro e W7 ⟨rfl, hb7⟩
              obtain ⟨V8, hst8, ho, -, hb⟩ := acting (HO6.out.after hb7) x
              have HO8 := Lib.hid ho
              have HX8 := Lib.hid (hb _ _ (HW6.out.trans (hb7.mono HW6.out.size)) (Nat.le_refl _))
              clear ho hb HWR hb7 hk6
              go_wp2_with (refine wpList_skip rfl (hst8 rfl rfl rfl) ?_)
              refine bodyPost_ret (v := encA x) (results_cell_row rfl _ _ w.heap.size 36 (cellsA x) (0, 0) _ rfl HO8.out undAct rfl sizeAct) rfl ?_
              exact ⟨rfl, HX8.out⟩
      · have e3 : (vo.phase == 3) = false := by simpa using p3
        by_cases p6 : vo.phase = 6
        · rw [p6] at v17
          have HX3 : Hid ((if L.any (usesV name) = true then nothing else askA ⟨2, name, vo.num, 0, E0, E0, E0⟩) = x) := by show _ = _; rw [← HX2.out, if_neg p4, if_neg p3, if_pos p6]
          clear HX2 p3 p4 p6 e4 e3
          go_upto_region 23 with (fail)
          clear v17
          go_wp2_with (fail)
          go_loop [11] (fun i => ∃ j : Nat, i = .int .i64 (j : Int) ∧ j ≤ L.length ∧ Hid (∀ p (hp : p < L.length), p < j → usesV name L[p] = false)) (fun i => L.length - (RowKit.intOf i).toNat)
          case atStart => exact ⟨0, rfl, Nat.zero_le _, by show ∀ p _, _ → _; intro p _ h; exact absurd h (by omega)⟩
          case round =>
            obtain ⟨j, rfl, hj, HNO⟩ := hrel
            by_cases hlt : j < L.length
            · have hlt' : (j : Int) < (L.length : Int) := by omega
              obtain ⟨o', c', he, -, hi⟩ := id HLX.out
              cases he
              obtain ⟨g, off, rfl, -, hrow⟩ := hi j hlt
              obtain ⟨y, hy⟩ : ∃ y, L[j] = y := ⟨_, rfl⟩
              rw [hy] at hrow
              have r0 := row_cell hrow 0 _ rfl
              have r15 := row_cell hrow 15 _ rfl
              have r17 := row_cell hrow 17 _ rfl
              rw [Nat.add_zero] at r0
              have HNX : Hid (usesV name y = false → ∀ p (hp : p < L.length), p < j + 1 → usesV name L[p] = false) := by
                show _ → ∀ p _, _ → _
                intro hf p hp h
                rcases Nat.lt_or_ge p j with h1 | h1
                · exact HNO.out p hp h1
                · obtain rfl : p = j := by omega
                  rw [hy]
                  exact hf
              have HYES : Hid (usesV name y = true → x = nothing) := fun h => by rw [← HX3.out, if_pos (any_yes hlt (by rw [hy]; exact h))]
              clear hi hy hrow HNO
              cases e1 : (y.volume.toList == name.toList) with
              | false =>
                have HNN := Lib.hid (HNX.out (by unfold usesV; rw [← eqB, e1]; rfl))
                clear HNX HYES HX3 HK HO HW HLX HTX HALL write6 MOVED HNE
                go_wp2
                go_round
                case rel => exact ⟨j + 1, by go_num, by omega, HNN⟩
                case measure => simp [RowKit.intOf]; omega
              | true =>
                cases e2 : (y.kind == 5) with
                | true =>
                  have HVV : Hid (x = nothing) := HYES.out (by unfold usesV; rw [← eqB, e1, e2]; rfl)
                  clear HNX HYES HX3
                  obtain ⟨V8, hst8, ho, -, hb⟩ := acting HO.out nothing
                  have HO8 := Lib.hid ho
                  have HX8 := Lib.hid (hb _ _ HW.out (Nat.le_refl _))
                  clear ho hb write6
                  go_wp2_with (first | (refine wpList_skip rfl (hst8 rfl rfl rfl) ?_) | ((with_reducible refine wpList_build_to rfl 36 _ rfl (cellsA nothing) ?_ ?_); exact built_act0'))
                  refine bodyPost_ret (v := encA nothing) (results_cell_row rfl _ _ w.heap.size 36 (cellsA nothing) (0, 0) _ rfl HO8.out undAct rfl sizeAct) rfl ?_
                  exact ⟨by rw [HVV.out], HX8.out⟩
                | false =>
                  cases e5 : (y.kind == 7) with
                  | false =>
                    have HNN := Lib.hid (HNX.out (by unfold usesV; rw [← eqB, e1, e2, e5]; rfl))
                    clear HNX HYES HX3 HK HO HW HLX HTX HALL write6 MOVED HNE
                    go_wp2
                    go_round
                    case rel => exact ⟨j + 1, by go_num, by omega, HNN⟩
                    case measure => simp [RowKit.intOf]; omega
                  | true =>
                    cases e6 : (y.phase == 10) with
                    | false =>
                      have HNN := Lib.hid (HNX.out (by unfold usesV; rw [← eqB, e1, e2, e5, e6]; rfl))
                      clear HNX HYES HX3 HK HO HW HLX HTX HALL write6 MOVED HNE
                      go_wp2
                      go_round
                      case rel => exact ⟨j + 1, by go_num, by omega, HNN⟩
                      case measure => simp [RowKit.intOf]; omega
                    | true =>
                      have HVV : Hid (x = nothing) := HYES.out (by unfold usesV; rw [← eqB, e1, e2, e5, e6]; rfl)
                      clear HNX HYES HX3
                      obtain ⟨V8, hst8, ho, -, hb⟩ := acting HO.out nothing
                      have HO8 := Lib.hid ho
                      have HX8 := Lib.hid (hb _ _ HW.out (Nat.le_refl _))
                      clear ho hb write6
                      go_wp2_with (first | (refine wpList_skip rfl (hst8 rfl rfl rfl) ?_) | ((with_reducible refine wpList_build_to rfl 36 _ rfl (cellsA nothing) ?_ ?_); exact built_act0'))
                      refine bodyPost_ret (v := encA nothing) (results_cell_row rfl _ _ w.heap.size 36 (cellsA nothing) (0, 0) _ rfl HO8.out undAct rfl sizeAct) rfl ?_
                      exact ⟨by rw [HVV.out], HX8.out⟩
            · have hlt' : ¬ (j : Int) < (L.length : Int) := by omega
              have HVV : Hid (x = askA ⟨2, name, vo.num, 0, E0, E0, E0⟩) := by
                show _ = _
                rw [← HX3.out, any_no (fun i hi => HNO.out i hi (by omega)), if_neg (by decide)]
              have HBG := Lib.hid (built_give name vo.num)
              obtain ⟨k, hkc⟩ : ∃ k : Cl, (⟨2, name, vo.num, 0, E0, E0, E0⟩ : Cl) = k := ⟨_, rfl⟩
              rw [hkc] at HVV HBG
              have HAS := Lib.hid (fun V => rask_any k V)
              have v18 := HK.out.c18
              clear HX3 HNO hkc HK HLX HTX HALL write6
              go_wp2_with ((with_reducible refine wpList_build_to rfl 34 _ rfl (cellsC k) ?_ ?_); exact HBG.out)
              refine (HAS.out _).mono ?_
              rintro e W7 ⟨rfl, hb7⟩
              obtain ⟨V8, hst8, ho, -, hb⟩ := acting (HO.out.after hb7) (askA k)
              have HO8 := Lib.hid ho
              have HX8 := Lib.hid (hb _ _ (HW.out.trans (hb7.mono HW.out.size)) (Nat.le_refl _))
              clear ho hb HAS hb7 v18
              go_wp2_with (refine wpList_skip rfl (hst8 rfl rfl rfl) ?_)
              refine bodyPost_ret (v := encA (askA k)) (results_cell_row rfl _ _ w.heap.size 36 (cellsA (askA k)) (0, 0) _ rfl HO8.out undAct rfl sizeAct) rfl ?_
              exact ⟨by rw [HVV.out], HX8.out⟩
        · have e6 : (vo.phase == 6) = false := by simpa using p6
          have HVV : Hid (x = nothing) := by show _ = _; rw [← HX2.out, if_neg p4, if_neg p3, if_neg p6]
          clear HX2 p3 p4 p6
          obtain ⟨V8, hst8, ho, -, hb⟩ := acting HO.out nothing
          have HO8 := Lib.hid ho
          have HX8 := Lib.hid (hb _ _ HW.out (Nat.le_refl _))
          clear ho hb write6
          go_wp2_with (first | (refine wpList_skip rfl (hst8 rfl rfl rfl) ?_) | ((with_reducible refine wpList_build_to rfl 36 _ rfl (cellsA nothing) ?_ ?_); exact built_act0'))
          refine bodyPost_ret (v := encA nothing) (results_cell_row rfl _ _ w.heap.size 36 (cellsA nothing) (0, 0) _ rfl HO8.out undAct rfl sizeAct) rfl ?_
          exact ⟨by rw [HVV.out], HX8.out⟩
end Go.Proofs.YtpoifngepmfgpaaDoor.O.B
namespace Go.Proofs.YtpoifngepmfgpaaDoor.O.B
open Go Go.RowKit Go.Shelf Go.Lib RangeMap KM

set_option maxRecDepth 100000 in
set_option maxHeartbeats 2000000 in
theorem eql_act (a b : Ac) (w : World) : (binOp .eql 36 (encA a) (encA b)).run Tryd.prog w = .ok (.bool (decide (a = b))) w := by
  obtain ⟨a0, ⟨a1, a2, a3, a4, a5, a6, a7, a8, a9, a10, a11, a12, a13, a14, a15, a16, a17, a18, a19, a20⟩, ⟨c1, c2, c3, c4, c5, c6, c7⟩⟩ := a
  obtain ⟨b0, ⟨b1, b2, b3, b4, b5, b6, b7, b8, b9, b10, b11, b12, b13, b14, b15, b16, b17, b18, b19, b20⟩, ⟨d1, d2, d3, d4, d5, d6, d7⟩⟩ := b
  unfold encA cellsA
  dsimp only
  go_simp
  simp only [eqT, Bool.and_assoc]
  iterate 27 refine and_if ?_
  exact last_if
theorem neq_act (a b : Ac) (w : World) : (binOp .neq 36 (encA a) (encA b)).run Tryd.prog w = .ok (.bool (!decide (a = b))) w := by
  have h := eql_act a b w
  unfold encA at *
  rw [run_eql_struct] at h
  rw [run_neq_struct]
  generalize (Op.equalIn 10000 36 _ _).run Tryd.prog w = r at *
  cases r with
  | ok b w1 =>
    simp only [Result.andThen, Result.ok.injEq, Value.bool.injEq] at h ⊢
    rw [h.1, h.2]; exact ⟨rfl, rfl⟩
  | halt a b => simp [Result.andThen] at h
set_option maxRecDepth 100000 in
set_option maxHeartbeats 2000000 in
theorem eql_call (a b : Cl) (w : World) : (binOp .eql 34 (encC a) (encC b)).run Tryd.prog w = .ok (.bool (decide (a = b))) w := by
  obtain ⟨c1, c2, c3, c4, c5, c6, c7⟩ := a
  obtain ⟨d1, d2, d3, d4, d5, d6, d7⟩ := b
  unfold encC cellsC
  dsimp only
  go_simp
  simp only [eqT]
  iterate 6 refine and_if ?_
  exact last_if
theorem neq_call (a b : Cl) (w : World) : (binOp .neq 34 (encC a) (encC b)).run Tryd.prog w = .ok (.bool (!decide (a = b))) w := by
  have h := eql_call a b w
  unfold encC at *
  rw [run_eql_struct] at h
  rw [run_neq_struct]
  generalize (Op.equalIn 10000 34 _ _).run Tryd.prog w = r at *
  cases r with
  | ok b w1 =>
    simp only [Result.andThen, Result.ok.injEq, Value.bool.injEq] at h ⊢
    rw [h.1, h.2]; exact ⟨rfl, rfl⟩
  | halt a b => simp [Result.andThen] at h
end Go.Proofs.YtpoifngepmfgpaaDoor.O.B
namespace Go.Proofs.YtpoifngepmfgpaaDoor.O.B
open Go Go.RowKit Go.Shelf Go.Lib RangeMap KM
attribute [local go_sem] Oper.semAt_some

theorem exec_acts_same {W : World} {A : Ac} {oi : Oper} {a : Act} {x y : Operand} {t : TypeId} (ho : oi.op = .binOp .eql 36 x y t) (hx : a.eval x = encA A) (hy : a.eval y = encA A) :
    (execOp a.eval oi).run Tryd.prog W = .ok (.value (.bool true)) W := by
  have h := eql_act A A W
  rw [decide_eq_true rfl] at h
  have hg : (eqGuard .eql 36 x y (encA A) (encA A)).run Tryd.prog W = .ok () W := by kernel_rfl
  unfold execOp
  simp only [ho, hx, hy, Sem.run_bind, Result.andThen_ok, hg, h]
  rfl
set_option maxRecDepth 100000 in
set_option maxHeartbeats 4000000 in
theorem volumes_any (l : List Obj) (v : Value) (ver : Int) (n : ByteArray) (w : World) (hl : ObjsIn w v l) (hcp : ∀ o n c, v = .slice o n c → n ≤ c) (ht : Tab w) (hall : ∀ s ∈ l, (0 ≤ s.born ∧ s.born ≤ 18446744073709551615) ∧ s.name.size ≤ 140737488351232) :
    Calls Tryd.prog 4 #[v, .int .u64 ver, .string n] w fun e w' => e = .returned (.bool true) ∧ Below w.heap.size w w' := by
  have HT := Lib.hid ht
  have HF := Lib.hid (few12_any l v w hl hcp)
  obtain ⟨o, cp, rfl, -, -⟩ := id hl
  have hq : (l.take 24).length < 100000 := by rw [List.length_take]; omega
  have hall2 : ∀ s ∈ l.take 24, (0 ≤ s.born ∧ s.born ≤ 18446744073709551615) ∧ s.name.size ≤ 140737488351232 := fun s hs => hall s (List.mem_of_mem_take hs)
  clear ht hl hcp hall
  go_enter Tryd.func4, Tryd.ntmps4
  go_wp2_with (fail)
  refine HF.out.mono ?_
  rintro e W1 ⟨v1, rfl, hl1, rfl⟩
  clear HF
  generalize l.take 24 = q at *
  obtain ⟨o1, c1, rfl, hm, -⟩ := id hl1
  have HL := Lib.hid hl1
  have HV := Lib.hid (live_any W1 HT.out)
  have HC := Lib.hid (fun (V : World) (h1 : ObjsIn V (.slice o1 q.length c1) q) (h2 : Tab V) => volume_any q _ ver n V h1 h2 hall2)
  have HR := Lib.hid (fun (V : World) (h1 : ObjsIn V (.slice o1 q.length c1) q) (h2 : Tab V) => rvolume_any q _ ver n V h1 hq h2 hall2)
  obtain ⟨a, ha⟩ : ∃ a, volumeN q ver n = a := ⟨_, rfl⟩
  rw [ha] at HC HR
  clear hl1 hall2 hq ha
  go_wp2_with (fail)
  refine HV.out.mono ?_
  rintro e W2 ⟨rfl, hb2⟩
  have HC2 := Lib.hid (HC.out W2 (HL.out.after hb2) (HT.out.after hb2))
  have HW2 := Lib.hid hb2
  clear HV HC hb2
  go_wp2_with (fail)
  refine HC2.out.mono ?_
  rintro e W3 ⟨rfl, hb3⟩
  have hlw := HW2.out.trans (hb3.mono HW2.out.size)
  have HR3 := Lib.hid (HR.out W3 (HL.out.after hlw) (HT.out.after hlw))
  have HW3 := Lib.hid hlw
  clear HC2 HR hb3 hlw HW2
  go_wp2_with (fail)
  refine HR3.out.mono ?_
  rintro e W4 ⟨rfl, hb4⟩
  have HX := Lib.hid (HW3.out.trans (hb4.mono HW3.out.size))
  clear HR3 hb4 HW3 HL
  go_wp2_with (refine wpList_got rfl (exec_acts_same (A := a) rfl rfl rfl) ?_)
  go_ret
  exact ⟨rfl, HX.out⟩
end Go.Proofs.YtpoifngepmfgpaaDoor.O.B
namespace Go.Proofs.YtpoifngepmfgpaaDoor.BindVolumes
open Go.ChangeShapes Go.WideShapes Go.ChangeAt Go.RowKit O.B
open Go.ChangeMaps (open_string shut_string)

theorem contract (H : Type) (enc : TypeId × Value → H) (W : World) (base : Nat) (args : Array Value) (ds gs : List (DataW H)) (before : List MemPlace)
    (hval : ∀ (j : Nat) t v, Tryd.f4.params[j]? = some t → args[j]? = some v → Value.okWide Tryd.prog W .any base t v)
    (hW : DataW.Whole enc Tryd.prog Tryd.f4.params.toList Rows.bindVolumesSpec.vars false W args.toList ds gs before)
    (hsz : (DataW.weightsEach Tryd.prog (Tryd.f4.params.toList ++ (OpenSpec.ofChange Rows.bindVolumesSpec).bare.plain.varTypes Tryd.prog) (ds ++ gs)).all (· ≤ reachBytes) = true) (hL : laidMetH Tryd.prog Rows.bindVolumesRow.laid W) :
    Calls Tryd.prog 4 args W fun e W' => ∃ v, e = .returned v ∧ Rows.bindVolumesSpec.post enc Tryd.prog Tryd.f4 false true false false W args v W' := by
  have hW' := hW
  obtain ⟨p, q, hA0, hV, rfl, hfz, hnd⟩ := hW
  have hA : DataW.TrodAll enc Tryd.prog W 0 (fun _ => true) true Tryd.f4.params.toList args.toList ds p := hA0
  rw [Tryd.params4] at hA hval hsz
  obtain ⟨v0, vs0, d0, ds0, p0, q0, hargs, rfl, rfl, h0, r0⟩ := trodAll_cons hA
  obtain ⟨v1, vs1, d1, ds1, p1, q1, rfl, rfl, rfl, h1, r1⟩ := trodAll_cons r0
  obtain ⟨v2, vs2, d2, ds2, p2, q2, rfl, rfl, rfl, h2, r2⟩ := trodAll_cons r1
  obtain ⟨rfl, rfl, rfl⟩ := trodAll_nil r2
  obtain rfl : args = #[v0, v1, v2] := by cases args; simp_all
  obtain ⟨l0, hb0, ft0, ln0, cp0⟩ := open_objs (hval 0 22 v0 rfl rfl) h0
  obtain ⟨x1, rfl, rfl, rfl, w1⟩ := open_int Tryd.underlying23 (hval 1 23 v1 rfl rfl) h1
  obtain ⟨x2, rfl, rfl, rfl, w2⟩ := open_string Tryd.underlying9 (hval 2 9 v2 rfl rfl) h2
  have lz0 := ln0 (List.all_eq_true.2 fun n hn => List.all_eq_true.1 hsz n (DataW.weights_mem_each (j := 0) rfl rfl n hn))
  have z2 : x2.size ≤ 140737488351232 := by have := sized_string hsz (j := 2) (t := 9) rfl rfl; simpa [reachBytes] using this
  refine (volumes_any l0 v0 x1 x2 W hb0 cp0 (tab_of_laid hL) (fits_in ft0 lz0)).mono fun e W' ⟨he, hb⟩ => ?_
  subst he
  exact ⟨_, rfl, LawEnd.post_true laidOut (by kernel_rfl) rfl Tryd.underlying4 rfl hW' rfl hb⟩

theorem laid_met (os : Os) : laidMet Tryd.prog Rows.bindVolumesRow.laid ((laidWorld #[.slice none 0 0, .int .u64 0, .string ⟨#[]⟩] os).forCall (fun _ _ => 0) ⟨#[], #[.slice none 0 0, .int .u64 0, .string ⟨#[]⟩], []⟩).memory :=
  laidMet_of_run' 70 (by kernel_rfl) (by kernel_rfl)
theorem reads (os : Os) {H : Type} (enc : TypeId × Value → H) : ∃ places, DataW.whole enc Tryd.prog ((laidWorld #[.slice none 0 0, .int .u64 0, .string ⟨#[]⟩] os).forCall (fun _ _ => 0) ⟨#[], #[.slice none 0 0, .int .u64 0, .string ⟨#[]⟩], []⟩).memory Tryd.f4.params.toList Rows.bindVolumesSpec.vars false (#[(.slice none 0 0 : Value), .int .u64 0, .string ⟨#[]⟩]).toList 8 = some ([.nil, .lit (.int .u64 0), .lit (.string [])], [], places) :=
  ⟨[], by kernel_rfl⟩

set_option maxRecDepth 100000 in
theorem lifted (os : Os) (started : os.Started) (H : Type) (enc : TypeId × Value → H) (F : Stop.Interp) :
    ReturnsInHanded {} Tryd.checked os 4 .any ((OpenSpec.ofChange Rows.bindVolumesSpec).preRow enc Tryd.prog Tryd.f4 Rows.bindVolumesRow.domain false Rows.bindVolumesRow.laid) (((OpenSpec.ofChange Rows.bindVolumesSpec).at F).post enc Tryd.prog Tryd.f4 false true false false) := by
  obtain ⟨places, hx⟩ := reads os enc
  refine returnsInHanded_of_row (C := Tryd.checked) (s := OpenSpec.ofChange Rows.bindVolumesSpec) own started (by kernel_rfl) Tryd.func4
    (witness_row_at (enc := enc) (C := Tryd.checked) false (laidWorld #[.slice none 0 0, .int .u64 0, .string ⟨#[]⟩] os) #[.slice none 0 0, .int .u64 0, .string ⟨#[]⟩] rfl (by kernel_rfl) (by kernel_rfl) (by kernel_rfl)
      (OpenSpec.preRow_of_cond 8 hx (by kernel_rfl) (fun k hk => by cases hk) (by kernel_rfl) (laid_met os))) ?_
  intro W base args ds gs before hval hW _ _ hsz hL _ _
  exact contract H enc W base args ds gs before hval hW hsz hL

theorem said : Rows.BindVolumesSaid :=
  OpenClaim.holds_of_cond 4 Tryd.f4 rfl rfl rfl rfl rfl rfl rfl ⟨rfl, rfl, rfl, rfl, rfl⟩ rfl rfl rfl rfl rfl (by kernel_rfl) Tryd.func4 (by kernel_rfl)
    (of_decide_eq_true (by kernel_rfl)) (by unfold Func.isWrapper; first | (rw [if_pos (by decide +kernel)]; kernel_rfl) | (rw [if_neg (by decide +kernel)]; exact ⟨rfl, rfl⟩))
    (fun os started H enc _ F => by rw [OpenClaim.pre_eq_preRow]; exact lifted os started H enc F)

theorem plain (f : FuncId) (fn : Func) (hf : Tryd.pinned.checked.prog.funcNamed "wharfinger/wharfingerlaw12.BindVolumes" = some f) (hfn : Tryd.pinned.checked.prog.funcs[f]? = some fn) :
    false = Tryd.pinned.checked.prog.looks [] ∧ ∀ (j : Nat) t, fn.params[j]? = some t → Tryd.pinned.checked.prog.wantsStandIn t = false := by
  obtain rfl : f = 4 := Option.some.inj ((show Tryd.prog.funcNamed "wharfinger/wharfingerlaw12.BindVolumes" = some 4 by kernel_rfl).symm.trans hf) |>.symm
  obtain rfl : fn = Tryd.f4 := (Option.some.inj (Tryd.func4.symm.trans hfn)).symm
  refine ⟨by kernel_rfl, fun j t ht => ?_⟩
  rw [Tryd.params4] at ht
  have hall : ([22, 23, 9] : List TypeId).all (fun t => Tryd.prog.wantsStandIn t == false) = true := by kernel_rfl
  have hm : t ∈ ([22, 23, 9] : List TypeId) := by have := Array.mem_of_getElem? ht; simpa using this
  exact eq_of_beq (List.all_eq_true.1 hall t hm)

theorem card : Rows.BindVolumesCardSaid :=
  Claim7.holds_tied_plain_at .later [] _ _ _ _ said (fun _ h => by cases h) (by kernel_rfl) (fun _ h => by cases h) bindVolumes_row_tie rfl ⟨rfl, rfl⟩ (by kernel_rfl) rfl plain (by kernel_rfl)
end Go.Proofs.YtpoifngepmfgpaaDoor.BindVolumes
