/- BindRests: for every input the law answers true, and its arguments read as they did. The tables that the library reads are tied to the program's text. -/
import Derived.Test.YtpoifngepmfgpaaDoorBLive
import Derived.Test.YtpoifngepmfgpaaDoorBFirst
import Derived.Test.YtpoifngepmfgpaaDoorBVolume
import Derived.Test.YtpoifngepmfgpaaDoorBRHandle
import Derived.Test.YtpoifngepmfgpaaDoorKOut
import Derived.Test.YtpoifngepmfgpaaDoorKActEq
import Derived.Test.YtpoifngepmfgpaaDoorKOpen
import Derived.Test.YtpoifngepmfgpaaDoorKWitness
namespace Go.Proofs.YtpoifngepmfgpaaDoor.O.B
open Go Go.RowKit Go.Shelf Go.Lib RangeMap KM
attribute [local go_sem] Oper.semAt_some

theorem exec_append2 {oi : Oper} {a : Act} {W W' : World} {sl sr v : Value} {p r : Operand} (ho : oi.op = .call { callee := .builtin .append, args := #[p, r], argTypes := #[22, 22] })
    (h : (Builtin.append_ #[22, 22] oi.type #[sl, sr]).run Tryd.prog W = .ok v W') (hp : a.eval p = sl) (hr : a.eval r = sr) : (execOp a.eval oi).run Tryd.prog W = .ok (.value v) W' := by
  unfold execOp
  simp [ho, resolve, invoke, builtin, hp, hr, h, Result.andThen]
theorem exec_act_same {W : World} {A : Ac} {oi : Oper} {a : Act} {x y : Operand} {t : TypeId} (ho : oi.op = .binOp .eql 36 x y t) (hx : a.eval x = encA A) (hy : a.eval y = encA A) :
    (execOp a.eval oi).run Tryd.prog W = .ok (.value (.bool true)) W := by
  have h := eql_act A A W
  rw [decide_eq_true rfl] at h
  have hg : (eqGuard .eql 36 x y (encA A) (encA A)).run Tryd.prog W = .ok () W := by kernel_rfl
  unfold execOp
  simp only [ho, hx, hy, Sem.run_bind, Result.andThen_ok, hg, h]
  rfl
theorem own_row {W : World} {b : Nat} {l : List Obj} (hl : l.length ≤ 100) (hb : W.heap[b]? = some (.cells (catO l) 31 (0, 0))) (R : Nat) (hR : R ≤ b) : OutIn W R (.slice (some ⟨b, 0, none⟩) l.length l.length) l := by
  have hs : (catO l).toList.length = l.length * 20 := by rw [Array.length_toList]; exact catO_size l
  exact ⟨hs, .inr ⟨b, l.length, catO l, rfl, hR, hb, Nat.le_refl _, by unfold maxLen; omega, catO_size l, List.take_of_length_le (by omega)⟩⟩
/-- Whatever world the objects lie in, the shortened ones lie there, too. -/
def Cuts (v v' : Value) (l : List Obj) : Prop := ∀ V : World, ObjsIn V v l → ObjsIn V v' (l.take 24)
set_option maxRecDepth 100000 in
set_option maxHeartbeats 2000000 in
theorem few12_all (l : List Obj) (v : Value) (w : World) (hl : ObjsIn w v l) (hc : ∀ o n c, v = .slice o n c → n ≤ c) :
    Calls Tryd.prog 8 #[v] w fun e w' => ∃ v', e = .returned v' ∧ Cuts v v' l ∧ w' = w := by
  obtain ⟨o, cp, rfl, hm, hi⟩ := id hl
  have hcp := hc _ _ _ rfl
  by_cases h : 24 < l.length
  · obtain ⟨g, off, rfl, -, -⟩ := hi 0 (by omega)
    have HL : Hid (Cuts (.slice (some ⟨g, off, none⟩) l.length cp) (.slice (some ⟨g, off, none⟩) 24 cp) l) := fun V hV => hV.take 24 (by omega)
    have h' : (24 : Int) < (l.length : Int) := by omega
    have h2 : (24 : Int) ≤ (cp : Int) := by omega
    have h3 : 24 ≤ cp := by omega
    clear hl hi hc
    go_enter Tryd.func8, Tryd.ntmps8
    go_wp2
    go_ret
    exact ⟨_, rfl, HL.out, rfl⟩
  · have HL : Hid (Cuts (.slice o l.length cp) (.slice o l.length cp) l) := fun V hV => by
      rw [List.take_of_length_le (by omega)]
      exact hV
    have h' : ¬ (24 : Int) < (l.length : Int) := by omega
    clear hl hi hc
    go_enter Tryd.func8, Tryd.ntmps8
    go_wp2
    go_ret
    exact ⟨_, rfl, HL.out, rfl⟩
theorem built_restV (n r : ByteArray) : Tryd.prog.built 31 [(0, .int .u8 4), (1, .string n), (17, .int .u8 3), (14, .string r)] = some (cellsO { Z0 with kind := 4, name := n, phase := 3, claim := r }) := by kernel_rfl

set_option maxRecDepth 100000 in
set_option maxHeartbeats 8000000 in
theorem rests_any (l : List Obj) (v : Value) (ver : Int) (c : Obj) (w : World) (hl : ObjsIn w v l) (hcp : ∀ o n c, v = .slice o n c → n ≤ c) (ht : Tab w) (hall : ∀ s ∈ l, (0 ≤ s.born ∧ s.born ≤ 18446744073709551615) ∧ s.name.size ≤ 140737488351232)
    (hb : 0 ≤ c.born ∧ c.born ≤ 18446744073709551615) (hn : c.name.size ≤ 140737488351232) (hv : c.volume.size ≤ 140737488351232) :
    Calls Tryd.prog 7 #[v, .int .u64 ver, encO c] w fun e w' => e = .returned (.bool true) ∧ Below w.heap.size w w' := by
  have HT := Lib.hid ht
  have HF := Lib.hid (fun V (hV : ObjsIn V v l) => few12_all l v V hV hcp)
  obtain ⟨o, cp, rfl, -, -⟩ := id hl
  have HL0 := Lib.hid hl
  have hq24 : (l.take 24).length ≤ 24 := by rw [List.length_take]; omega
  have hall2 : ∀ s ∈ [restC c, restV c] ++ l.take 24, (0 ≤ s.born ∧ s.born ≤ 18446744073709551615) ∧ s.name.size ≤ 140737488351232 := fun s hs => by
    rcases List.mem_append.1 hs with h | h
    · rcases List.mem_cons.1 h with h | h
      · subst h
        exact ⟨hb, hn⟩
      · have : s = restV c := by simpa using h
        subst this
        exact ⟨⟨Int.le_refl _, by show (0 : Int) ≤ _; omega⟩, hv⟩
    · exact hall s (List.mem_of_mem_take h)
  have HRF := Lib.hid (fun V (hV : Tab V) => rref_any (restC c) V hV hb hn)
  clear ht hl hcp hall hb hn hv
  unfold encO
  go_enter Tryd.func7, Tryd.ntmps7
  go_upto_region 1 with (fail)
  refine wp_gen (fun V => BoxO V w.heap.size c ∧ Below w.heap.size w V) ⟨BoxO.new w c, (Below.refl _ _).alloc (Nat.le_refl _) _⟩ ?_
  rintro V0 ⟨hc0, hlw0⟩
  have HC0 := Lib.hid hc0
  have HW0 := Lib.hid hlw0
  have HFV := Lib.hid (HF.out V0 (HL0.out.after hlw0))
  clear hc0 hlw0 HF
  go_wp2_with (fail)
  refine HFV.out.mono ?_
  rintro e W1 ⟨v1, rfl, hcut, rfl⟩
  have hl1 := hcut w HL0.out
  clear HFV HL0 hcut
  generalize l.take 24 = q at *
  obtain ⟨o1, c1, rfl, hm, -⟩ := id hl1
  have HL := Lib.hid hl1
  have HQ := Lib.hid hq24
  have HRC : Hid (∀ V, ObjsIn V (.slice o1 q.length c1) q → True) := fun _ _ => trivial
  have HCL := Lib.hid (fun (V : World) (s : Value) (h1 : ObjsIn V s ([restC c, restV c] ++ q)) (h2 : Tab V) => claim_any ([restC c, restV c] ++ q) s ver c.name V h1 h2 hall2)
  have HVL := Lib.hid (fun (V : World) (s : Value) (h1 : ObjsIn V s ([restC c, restV c] ++ q)) (h2 : Tab V) => volume_any ([restC c, restV c] ++ q) s ver c.volume V h1 h2 hall2)
  rw [show claimN ([restC c, restV c] ++ q) ver c.name = nothing from rest_claim q c ver] at HCL
  rw [show volumeN ([restC c, restV c] ++ q) ver c.volume = nothing from rest_volume q c ver] at HVL
  clear hl1 hq24 hall2 HRC
  have k0 := HC0.out.c0
  have k17 := HC0.out.c17
  have k4 := HC0.out.c4
  have f0 := HC0.out.free 0
  have f17 := HC0.out.free 17
  have f4 := HC0.out.free 4
  go_upto_region 3 with (fail)
  refine wp_gen (fun V => BoxO V w.heap.size (restC c) ∧ Below w.heap.size w V ∧ ObjsIn V (.slice o1 q.length c1) q) ⟨((HC0.out.s0 3).s17 3).s4 false, ((HW0.out.setCell (Nat.le_refl _) _).setCell (Nat.le_refl _) _).setCell (Nat.le_refl _) _, HL.out.after (((HW0.out.setCell (Nat.le_refl _) _).setCell (Nat.le_refl _) _).setCell (Nat.le_refl _) _)⟩ ?_
  clear k0 k17 k4 f0 f17 f4 HC0 HW0 HL
  rintro V1 ⟨hc1, hl1, ho1⟩
  have e1 : (restC c).name = c.name := rfl
  have e2 : (restC c).volume = c.volume := rfl
  have hrv : restV c = { Z0 with kind := 4, name := c.volume, phase := 3, claim := refN (restC c) } := rfl
  have HBV := Lib.hid (built_restV c.volume (refN (restC c)))
  rw [← hrv] at HBV
  have HC := Lib.hid hc1
  have HW := Lib.hid hl1
  have HLL := Lib.hid ho1
  have HTT := Lib.hid (HT.out.after hl1)
  clear hc1 hl1 ho1 hrv HT
  have HE1 := Lib.hid e1
  have HE2 := Lib.hid e2
  clear e1 e2
  generalize refN (restC c) = rf at *
  generalize restV c = RV at *
  generalize restC c = C at *
  refine wp_region_held_drew (S := fun V => BoxO V w.heap.size C ∧ Below w.heap.size w V ∧ ObjsIn V (.slice o1 q.length c1) q ∧ Tab V) (by kernel_rfl) ⟨HC.out, HW.out.drew, HLL.out, HTT.out.drew⟩ (fun _ => ?_)
  refine HeldBy.gen (fun V => BoxO V w.heap.size C ∧ Below w.heap.size w V ∧ ObjsIn V (.slice o1 q.length c1) q ∧ Tab V) ⟨HC.out, HW.out.drew, HLL.out, HTT.out.drew⟩ ?_
  clear HC HW HLL HTT
  rintro U0 HS
  refine HeldBy.take (i := 0) rfl (by kernel_rfl) (by kernel_rfl) (by kernel_rfl) (fun _ _ _ h => h) (by rfl) (fun _ _ => by first | (go_simp; rfl) | (go_simp; done)) (by go_simp; rfl) HS ?_
  refine HeldBy.take (i := 1) (v := .string c.volume) rfl (by kernel_rfl) (by kernel_rfl) (by kernel_rfl) (fun _ _ _ h => h) (by rfl) (fun V hV => by have h := hV.1.c15; rw [HE2.out] at h; first | (go_simp; rfl) | (go_simp; done)) (by go_simp; rfl) HS ?_
  refine HeldBy.take (i := 2) (v := encO C) rfl (by kernel_rfl) (by kernel_rfl) (by kernel_rfl) (fun _ _ _ h => h) (by rfl) (fun V hV => load_obj hV.1 rfl rfl) (by go_simp; rfl) HS ?_
  have HSS : ∀ w', Below U0.heap.size U0 w' → (BoxO w' w.heap.size C ∧ Below w.heap.size w w' ∧ ObjsIn w' (.slice o1 q.length c1) q ∧ Tab w') := fun w' hb => ⟨HS.1.after hb, HS.2.1.trans (hb.mono HS.2.1.size), HS.2.2.1.after hb, HS.2.2.2.after hb⟩
  refine HeldBy.Goes.without (w0 := U0) (k := 5) (dk := some 7) (x := .cells (cellsO O0) 31 (0, 0)) ?_ U0 (Below.refl _ _)
  refine HeldBy.Goes.callS (i := 3) (v := .string rf) rfl rfl rfl rfl (makes_o rfl) rfl (by kernel_rfl) (by kernel_rfl) rfl (by decide) (by kernel_rfl) (by intro w; first | (go_simp; done) | (go_simp; first | exact ⟨rfl, rfl⟩ | rfl)) (by first | (go_simp; rfl) | (go_simp; done)) HSS (fun _ HS => HRF.out _ HS.2.2.2) ?_
  refine HeldBy.Goes.take (i := 4) (v := encO RV) rfl (by kernel_rfl) rfl (by kernel_rfl) (by kernel_rfl) (by kernel_rfl) (by kernel_rfl) (fun _ _ _ h => h) rfl (by decide) (by kernel_rfl) (fun _ _ => exec_build 31 _ rfl _ (by exact HBV.out)) (by first | (go_simp; rfl) | (go_simp; done)) HSS ?_
  refine HeldBy.Goes.nil rfl rfl (by kernel_rfl) rfl (makes_o rfl) HSS rfl (fun p => by unfold HeldBy.ptr; go_simp; rfl) ?_
  intro p U1 hp hb hn
  have hlt := HS.1.lt
  have hS := HSS U1 hb
  obtain ⟨V3, st3, hv3, ov3, lv3⟩ := storing (show BoxO U1 p O0 from hn) RV
  have hb3 := lv3 _ _ hb hp
  have hS3 := HSS V3 hb3
  refine HeldBy.store (i := 6) (w' := V3) rfl (by kernel_rfl) (by rfl) (st3 rfl rfl rfl) (by first | (go_simp; rfl) | (go_simp; done)) hS3 ?_
  refine wpAnyH_done (by kernel_rfl) ?_ _
  have HC3 := Lib.hid hS3.1
  have HW3 := Lib.hid hS3.2.1
  have HL3 := Lib.hid hS3.2.2.1
  have HT3 := Lib.hid hS3.2.2.2
  have HV3 := Lib.hid hv3
  clear hlt hS hS3 st3 hv3 ov3 lv3 hb3 HSS HS hp hb hn HRF HBV
  go_upto_region 4 with (fail)
  obtain ⟨W5, hW5⟩ : ∃ W5, V3.alloc (.cells (catO [C, RV]) 31 (0, 0)) = W5 := ⟨_, rfl⟩
  have h35 : Below V3.heap.size V3 W5 := by rw [← hW5]; exact (Below.refl _ _).alloc (Nat.le_refl _) _
  have hrow : W5.heap[V3.heap.size]? = some (.cells (catO [C, RV]) 31 (0, 0)) := by rw [← hW5]; exact heap_alloc_new _ _
  obtain ⟨sv, W6, ha, hout, hb6, -⟩ := add_objs V3.heap.size W5 (.slice (some ⟨V3.heap.size, 0, none⟩) 2 2) [C, RV] q (.slice o1 q.length c1) 22 (own_row (by simp) hrow _ (Nat.le_refl _)) (HL3.out.after h35) h35.size (by have := HQ.out; show 2 + _ < _; omega)
  have h36 := h35.trans hb6
  have hobj6 : ObjsIn W6 sv ([C, RV] ++ q) := hout.objs (by have := HQ.out; simp; omega)
  have HO6 := Lib.hid hobj6
  have HC6 := Lib.hid (HC3.out.after h36)
  have HW6 := Lib.hid (HW3.out.trans (h36.mono HW3.out.size))
  have HT6 := Lib.hid (HT3.out.after h36)
  have hc3 := HC3.out
  have hv3 := HV3.out
  have hbuild := run_objs2 V3 C RV
  rw [hW5] at hbuild
  clear hW5 h35 hrow hout hb6 h36 hobj6 HL3 HT3 HW3
  go_wp2_with (first | (refine wpList_got rfl (load_obj hc3 rfl rfl) ?_) | (refine wpList_got rfl (load_obj hv3 rfl rfl) ?_) | (refine wpList_objs rfl rfl #[(0, encO C), (1, encO RV)] hbuild rfl ?_) | (refine wpList_runs rfl (exec_append2 rfl ha rfl rfl) ?_))
  have HV := Lib.hid (live_any W6 HT6.out)
  clear hc3 hv3 hbuild ha HC3 HV3 HQ
  refine HV.out.mono ?_
  rintro e W7 ⟨rfl, hb7⟩
  have HO7 := Lib.hid (HO6.out.after hb7)
  have HC7 := Lib.hid (HC6.out.after hb7)
  have HW7 := Lib.hid (HW6.out.trans (hb7.mono HW6.out.size))
  have HT7 := Lib.hid (HT6.out.after hb7)
  have n1 := HC7.out.c1
  rw [HE1.out] at n1
  have HCA := Lib.hid (HCL.out W7 sv HO7.out HT7.out)
  clear HV hb7 HO6 HC6 HW6 HT6 HCL
  go_wp2_with (fail)
  refine HCA.out.mono ?_
  rintro e W8 ⟨rfl, hb8⟩
  have HO8 := Lib.hid (HO7.out.after hb8)
  have HC8 := Lib.hid (HC7.out.after hb8)
  have HW8 := Lib.hid (HW7.out.trans (hb8.mono HW7.out.size))
  have HT8 := Lib.hid (HT7.out.after hb8)
  have n15 := HC8.out.c15
  rw [HE2.out] at n15
  have HVA := Lib.hid (HVL.out W8 sv HO8.out HT8.out)
  clear HCA hb8 HO7 HC7 HW7 HT7 HVL n1
  go_wp2_with (first | ((with_reducible refine wpList_build_to rfl 36 _ rfl (cellsA nothing) ?_ ?_); exact built_act0') | (refine wpList_got rfl (exec_act_same (A := nothing) rfl rfl rfl) ?_))
  refine HVA.out.mono ?_
  rintro e W9 ⟨rfl, hb9⟩
  have HX := Lib.hid (HW8.out.trans (hb9.mono HW8.out.size))
  clear HVA hb9 HO8 HC8 HW8 HT8 n15
  go_wp2_with (first | ((with_reducible refine wpList_build_to rfl 36 _ rfl (cellsA nothing) ?_ ?_); exact built_act0') | (refine wpList_got rfl (exec_act_same (A := nothing) rfl rfl rfl) ?_))
  go_ret
  exact ⟨rfl, HX.out⟩
end Go.Proofs.YtpoifngepmfgpaaDoor.O.B
namespace Go.Proofs.YtpoifngepmfgpaaDoor.BindRests
open Go.ChangeShapes Go.WideShapes Go.ChangeAt Go.RowKit O.B
open Go.ChangeMaps (open_string shut_string)

theorem contract (H : Type) (enc : TypeId × Value → H) (W : World) (base : Nat) (args : Array Value) (ds gs : List (DataW H)) (before : List MemPlace)
    (hval : ∀ (j : Nat) t v, Tryd.f7.params[j]? = some t → args[j]? = some v → Value.okWide Tryd.prog W .any base t v)
    (hW : DataW.Whole enc Tryd.prog Tryd.f7.params.toList Rows.bindRestsSpec.vars false W args.toList ds gs before)
    (hsz : (DataW.weightsEach Tryd.prog (Tryd.f7.params.toList ++ (OpenSpec.ofChange Rows.bindRestsSpec).bare.plain.varTypes Tryd.prog) (ds ++ gs)).all (· ≤ reachBytes) = true) (hL : laidMetH Tryd.prog Rows.bindRestsRow.laid W) :
    Calls Tryd.prog 7 args W fun e W' => ∃ v, e = .returned v ∧ Rows.bindRestsSpec.post enc Tryd.prog Tryd.f7 false true false false W args v W' := by
  have hW' := hW
  obtain ⟨p, q, hA0, hV, rfl, hfz, hnd⟩ := hW
  have hA : DataW.TrodAll enc Tryd.prog W 0 (fun _ => true) true Tryd.f7.params.toList args.toList ds p := hA0
  rw [Tryd.params7] at hA hval hsz
  obtain ⟨v0, vs0, d0, ds0, p0, q0, hargs, rfl, rfl, h0, r0⟩ := trodAll_cons hA
  obtain ⟨v1, vs1, d1, ds1, p1, q1, rfl, rfl, rfl, h1, r1⟩ := trodAll_cons r0
  obtain ⟨v2, vs2, d2, ds2, p2, q2, rfl, rfl, rfl, h2, r2⟩ := trodAll_cons r1
  obtain ⟨rfl, rfl, rfl⟩ := trodAll_nil r2
  obtain rfl : args = #[v0, v1, v2] := by cases args; simp_all
  obtain ⟨l0, hb0, ft0, ln0, cp0⟩ := open_objs (hval 0 22 v0 rfl rfl) h0
  obtain ⟨x1, rfl, rfl, rfl, w1⟩ := open_int Tryd.underlying23 (hval 1 23 v1 rfl rfl) h1
  obtain ⟨x2, rfl, ft2, ln2⟩ := open_obj1 (hval 2 31 v2 rfl rfl) h2
  have lz0 := ln0 (List.all_eq_true.2 fun n hn => List.all_eq_true.1 hsz n (DataW.weights_mem_each (j := 0) rfl rfl n hn))
  have lz2 := ln2 (List.all_eq_true.2 fun n hn => List.all_eq_true.1 hsz n (DataW.weights_mem_each (j := 2) rfl rfl n hn))
  refine (rests_any l0 v0 x1 x2 W hb0 cp0 (tab_of_laid hL) (fits_in ft0 lz0) ft2.born lz2.name lz2.volume).mono fun e W' ⟨he, hb⟩ => ?_
  subst he
  exact ⟨_, rfl, LawEnd.post_true laidOut (by kernel_rfl) rfl Tryd.underlying4 rfl hW' rfl hb⟩

theorem laid_met (os : Os) : laidMet Tryd.prog Rows.bindRestsRow.laid ((laidWorld #[.slice none 0 0, .int .u64 0, .agg #[.int .u8 0, .string ⟨#[]⟩, .int .u64 0, .int .u64 0, .bool false, .bool false, .string ⟨#[]⟩, .int .i64 0, .int .i64 0, .int .u8 0, .bool false, .bool false, .string ⟨#[]⟩, .string ⟨#[]⟩, .string ⟨#[]⟩, .string ⟨#[]⟩, .string ⟨#[]⟩, .int .u8 0, .int .u64 0, .int .u64 0]] os).forCall (fun _ _ => 0) ⟨#[], #[.slice none 0 0, .int .u64 0, .agg #[.int .u8 0, .string ⟨#[]⟩, .int .u64 0, .int .u64 0, .bool false, .bool false, .string ⟨#[]⟩, .int .i64 0, .int .i64 0, .int .u8 0, .bool false, .bool false, .string ⟨#[]⟩, .string ⟨#[]⟩, .string ⟨#[]⟩, .string ⟨#[]⟩, .string ⟨#[]⟩, .int .u8 0, .int .u64 0, .int .u64 0]], []⟩).memory :=
  laidMet_of_run' 70 (by kernel_rfl) (by kernel_rfl)
theorem reads (os : Os) {H : Type} (enc : TypeId × Value → H) : ∃ places, DataW.whole enc Tryd.prog ((laidWorld #[.slice none 0 0, .int .u64 0, .agg #[.int .u8 0, .string ⟨#[]⟩, .int .u64 0, .int .u64 0, .bool false, .bool false, .string ⟨#[]⟩, .int .i64 0, .int .i64 0, .int .u8 0, .bool false, .bool false, .string ⟨#[]⟩, .string ⟨#[]⟩, .string ⟨#[]⟩, .string ⟨#[]⟩, .string ⟨#[]⟩, .int .u8 0, .int .u64 0, .int .u64 0]] os).forCall (fun _ _ => 0) ⟨#[], #[.slice none 0 0, .int .u64 0, .agg #[.int .u8 0, .string ⟨#[]⟩, .int .u64 0, .int .u64 0, .bool false, .bool false, .string ⟨#[]⟩, .int .i64 0, .int .i64 0, .int .u8 0, .bool false, .bool false, .string ⟨#[]⟩, .string ⟨#[]⟩, .string ⟨#[]⟩, .string ⟨#[]⟩, .string ⟨#[]⟩, .int .u8 0, .int .u64 0, .int .u64 0]], []⟩).memory Tryd.f7.params.toList Rows.bindRestsSpec.vars false (#[(.slice none 0 0 : Value), .int .u64 0, .agg #[.int .u8 0, .string ⟨#[]⟩, .int .u64 0, .int .u64 0, .bool false, .bool false, .string ⟨#[]⟩, .int .i64 0, .int .i64 0, .int .u8 0, .bool false, .bool false, .string ⟨#[]⟩, .string ⟨#[]⟩, .string ⟨#[]⟩, .string ⟨#[]⟩, .string ⟨#[]⟩, .int .u8 0, .int .u64 0, .int .u64 0]]).toList 8 = some ([.nil, .lit (.int .u64 0), .agg [.lit (.int .u8 0), .lit (.string []), .lit (.int .u64 0), .lit (.int .u64 0), .lit (.bool false), .lit (.bool false), .lit (.string []), .lit (.int .i64 0), .lit (.int .i64 0), .lit (.int .u8 0), .lit (.bool false), .lit (.bool false), .lit (.string []), .lit (.string []), .lit (.string []), .lit (.string []), .lit (.string []), .lit (.int .u8 0), .lit (.int .u64 0), .lit (.int .u64 0)]], [], places) :=
  ⟨[], by kernel_rfl⟩

set_option maxRecDepth 100000 in
theorem lifted (os : Os) (started : os.Started) (H : Type) (enc : TypeId × Value → H) (F : Stop.Interp) :
    ReturnsInHanded {} Tryd.checked os 7 .any ((OpenSpec.ofChange Rows.bindRestsSpec).preRow enc Tryd.prog Tryd.f7 Rows.bindRestsRow.domain false Rows.bindRestsRow.laid) (((OpenSpec.ofChange Rows.bindRestsSpec).at F).post enc Tryd.prog Tryd.f7 false true false false) := by
  obtain ⟨places, hx⟩ := reads os enc
  refine returnsInHanded_of_row (C := Tryd.checked) (s := OpenSpec.ofChange Rows.bindRestsSpec) own started (by kernel_rfl) Tryd.func7
    (witness_row_at (enc := enc) (C := Tryd.checked) false (laidWorld #[.slice none 0 0, .int .u64 0, .agg #[.int .u8 0, .string ⟨#[]⟩, .int .u64 0, .int .u64 0, .bool false, .bool false, .string ⟨#[]⟩, .int .i64 0, .int .i64 0, .int .u8 0, .bool false, .bool false, .string ⟨#[]⟩, .string ⟨#[]⟩, .string ⟨#[]⟩, .string ⟨#[]⟩, .string ⟨#[]⟩, .int .u8 0, .int .u64 0, .int .u64 0]] os) #[.slice none 0 0, .int .u64 0, .agg #[.int .u8 0, .string ⟨#[]⟩, .int .u64 0, .int .u64 0, .bool false, .bool false, .string ⟨#[]⟩, .int .i64 0, .int .i64 0, .int .u8 0, .bool false, .bool false, .string ⟨#[]⟩, .string ⟨#[]⟩, .string ⟨#[]⟩, .string ⟨#[]⟩, .string ⟨#[]⟩, .int .u8 0, .int .u64 0, .int .u64 0]] rfl (by kernel_rfl) (by kernel_rfl) (by kernel_rfl)
      (OpenSpec.preRow_of_cond 8 hx (by kernel_rfl) (fun k hk => by cases hk) (by kernel_rfl) (laid_met os))) ?_
  intro W base args ds gs before hval hW _ _ hsz hL _ _
  exact contract H enc W base args ds gs before hval hW hsz hL

theorem said : Rows.BindRestsSaid :=
  OpenClaim.holds_of_cond 7 Tryd.f7 rfl rfl rfl rfl rfl rfl rfl ⟨rfl, rfl, rfl, rfl, rfl⟩ rfl rfl rfl rfl rfl (by kernel_rfl) Tryd.func7 (by kernel_rfl)
    (of_decide_eq_true (by kernel_rfl)) (by unfold Func.isWrapper; first | (rw [if_pos (by decide +kernel)]; kernel_rfl) | (rw [if_neg (by decide +kernel)]; exact ⟨rfl, rfl⟩))
    (fun os started H enc _ F => by rw [OpenClaim.pre_eq_preRow]; exact lifted os started H enc F)

theorem plain (f : FuncId) (fn : Func) (hf : Tryd.pinned.checked.prog.funcNamed "wharfinger/wharfingerlaw12.BindRests" = some f) (hfn : Tryd.pinned.checked.prog.funcs[f]? = some fn) :
    false = Tryd.pinned.checked.prog.looks [] ∧ ∀ (j : Nat) t, fn.params[j]? = some t → Tryd.pinned.checked.prog.wantsStandIn t = false := by
  obtain rfl : f = 7 := Option.some.inj ((show Tryd.prog.funcNamed "wharfinger/wharfingerlaw12.BindRests" = some 7 by kernel_rfl).symm.trans hf) |>.symm
  obtain rfl : fn = Tryd.f7 := (Option.some.inj (Tryd.func7.symm.trans hfn)).symm
  refine ⟨by kernel_rfl, fun j t ht => ?_⟩
  rw [Tryd.params7] at ht
  have hall : ([22, 23, 31] : List TypeId).all (fun t => Tryd.prog.wantsStandIn t == false) = true := by kernel_rfl
  have hm : t ∈ ([22, 23, 31] : List TypeId) := by have := Array.mem_of_getElem? ht; simpa using this
  exact eq_of_beq (List.all_eq_true.1 hall t hm)

theorem card : Rows.BindRestsCardSaid :=
  Claim7.holds_tied_plain_at .later [] _ _ _ _ said (fun _ h => by cases h) (by kernel_rfl) (fun _ h => by cases h) bindRests_row_tie rfl ⟨rfl, rfl⟩ (by kernel_rfl) rfl plain (by kernel_rfl)
end Go.Proofs.YtpoifngepmfgpaaDoor.BindRests
