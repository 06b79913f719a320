/- BindNames: for every input the law answers true, and its arguments read as they did. The tables that the library reads are tied to the program's text. -/
import Derived.Test.YtpoifngepmfgpaaDoorBLive
import Derived.Test.YtpoifngepmfgpaaDoorBFirst
import Derived.Test.YtpoifngepmfgpaaDoorBRHandle
import Derived.Test.YtpoifngepmfgpaaDoorBRBest
import Derived.Test.YtpoifngepmfgpaaDoorBEqs
import Derived.Test.YtpoifngepmfgpaaDoorKOpen
import Derived.Test.YtpoifngepmfgpaaDoorKWitness
namespace Go.Proofs.YtpoifngepmfgpaaDoor.O.B
open Go Go.RowKit Go.Shelf Go.Lib RangeMap KM
attribute [local go_sem] Oper.semAt_some

set_option maxRecDepth 100000 in
set_option maxHeartbeats 8000000 in
theorem names_any (l : List Obj) (v : Value) (c : Obj) (w : World) (hl : ObjsIn w v l) (hcp : ∀ o n c, v = .slice o n c → n ≤ c) (ht : Tab w) (hb : 0 ≤ c.born ∧ c.born ≤ 18446744073709551615) (hn : c.name.size ≤ 140737488351232) :
    Calls Tryd.prog 5 #[v, encO c] w fun e w' => e = .returned (.bool true) ∧ Below w.heap.size w w' := by
  have HT := Lib.hid ht
  have HF := Lib.hid (fun V (hV : ObjsIn V v l) => few12_any l v V hV hcp)
  obtain ⟨o, cp, rfl, -, -⟩ := id hl
  have HL0 := Lib.hid hl
  have hq24 : (l.take 24).length < 100000 := by rw [List.length_take]; omega
  have HR1 := Lib.hid (fun V (hV : Tab V) => ref_any c V hV hb hn)
  have HR2 := Lib.hid (fun V (hV : Tab V) => rref_any c V hV hb hn)
  have HH1 := Lib.hid (fun V (hV : Tab V) => handle_any c V hV hb hn)
  have HH2 := Lib.hid (fun V (hV : Tab V) => rhandle_any c V hV hb hn)
  generalize refN c = rf at *
  generalize handleN c = hf at *
  clear ht hl hcp hb hn
  unfold encO
  go_enter Tryd.func5, Tryd.ntmps5
  go_upto_region 1 with (fail)
  refine wp_gen (fun V => BoxO V w.heap.size c ∧ Below w.heap.size w V) ⟨BoxO.new w c, (Below.refl _ _).alloc (Nat.le_refl _) _⟩ ?_
  rintro V0 ⟨hc0, hlw0⟩
  have HC0 := Lib.hid hc0
  have HW0 := Lib.hid hlw0
  have HFV := Lib.hid (HF.out V0 (HL0.out.after hlw0))
  clear hc0 hlw0 HF HL0
  go_wp2_with (fail)
  refine HFV.out.mono ?_
  rintro e W1 ⟨v1, rfl, hl1, rfl⟩
  clear HFV
  generalize l.take 24 = q at *
  obtain ⟨o1, c1, rfl, hm, -⟩ := id hl1
  have HL := Lib.hid hl1
  have HB := Lib.hid (best_any q _ c W1 hl1)
  have HB2 := Lib.hid (fun V (hV : ObjsIn V (.slice o1 q.length c1) q) => rbest_any q _ c V hV hq24)
  obtain ⟨r, hr⟩ : ∃ r, bestN q c = r := ⟨_, rfl⟩
  rw [hr] at HB HB2
  obtain ⟨bv, hbv⟩ : ∃ bv, r.getD O0 = bv := ⟨_, rfl⟩
  obtain ⟨ok, hok⟩ : ∃ ok, r.isSome = ok := ⟨_, rfl⟩
  rw [hbv, hok] at HB HB2
  clear hr hl1 hq24 hbv hok
  have hcb := HC0.out
  go_wp2_with (refine wpList_got rfl (load_obj hcb rfl rfl) ?_)
  refine HB.out.mono ?_
  rintro e W2 ⟨rfl, hb2⟩
  obtain ⟨Y, sy, oy, ly, -⟩ := boxing W2 bv
  have hwy := hb2.trans (ly.mono hb2.size)
  have HCY := Lib.hid (HC0.out.after hwy)
  have HAY := Lib.hid oy
  have HWY := Lib.hid (HW0.out.trans (hwy.mono HW0.out.size))
  have HLY := Lib.hid (HL.out.after hwy)
  have hcy := HCY.out
  have HB3 := Lib.hid (HB2.out Y HLY.out)
  clear HB HB2 hb2 oy ly hwy hcb HC0 HW0 HL
  go_wp2_with (first | (refine wpList_skip rfl (sy rfl rfl rfl) ?_) | (refine wpList_got rfl (load_obj hcy rfl rfl) ?_))
  refine HB3.out.mono ?_
  rintro e W3 ⟨rfl, hb3⟩
  obtain ⟨Z, sz, oz, lz, -⟩ := boxing W3 bv
  have hwz := hb3.trans (lz.mono hb3.size)
  have HC := Lib.hid (HCY.out.after hwz)
  have HA := Lib.hid (HAY.out.after hwz)
  have HBB := Lib.hid oz
  have HW := Lib.hid (HWY.out.trans (hwz.mono HWY.out.size))
  have HTT := Lib.hid (HT.out.after HW.out)
  clear HB3 hb3 oz lz hwz hcy HCY HAY HWY HLY sy HT
  go_upto_region 4 with (refine wpList_skip rfl (sz rfl rfl rfl) ?_)
  clear sz
  refine wp_region_held_drew (S := fun V => BoxO V w.heap.size c ∧ BoxO V W2.heap.size bv ∧ BoxO V W3.heap.size bv ∧ Below w.heap.size w V ∧ Tab V) (by kernel_rfl) ⟨HC.out, HA.out, HBB.out, HW.out.drew, HTT.out.drew⟩ (fun _ => ?_)
  refine HeldBy.gen (fun V => BoxO V w.heap.size c ∧ BoxO V W2.heap.size bv ∧ BoxO V W3.heap.size bv ∧ Below w.heap.size w V ∧ Tab V) ⟨HC.out, HA.out, HBB.out, HW.out.drew, HTT.out.drew⟩ ?_
  clear HC HA HBB HW HTT
  rintro U0 HS
  refine HeldBy.call (i := 0) (v := .bool true) rfl (by kernel_rfl) (by rfl) (by go_simp; exact ⟨rfl, rfl⟩) (by go_simp; rfl) ?_
  refine (live_any _ HS.2.2.2.2).mono ?_
  rintro e U1 ⟨rfl, hb⟩
  replace HS : BoxO U1 w.heap.size c ∧ BoxO U1 W2.heap.size bv ∧ BoxO U1 W3.heap.size bv ∧ Below w.heap.size w U1 ∧ Tab U1 := ⟨HS.1.after hb, HS.2.1.after hb, HS.2.2.1.after hb, HS.2.2.2.1.trans (hb.mono HS.2.2.2.1.size), HS.2.2.2.2.after hb⟩
  refine ⟨rfl, HS, ?_⟩
  clear hb
  refine HeldBy.take (i := 1) rfl (by kernel_rfl) (by kernel_rfl) (by kernel_rfl) (fun _ _ _ h => h) (by rfl) (fun _ _ => by first | (go_simp; rfl) | (go_simp; done)) (by go_simp; rfl) HS ?_
  refine HeldBy.take (i := 2) (v := encO bv) rfl (by kernel_rfl) (by kernel_rfl) (by kernel_rfl) (fun _ _ _ h => h) (by rfl) (fun V hV => load_obj hV.2.1 rfl rfl) (by go_simp; rfl) HS ?_
  refine HeldBy.take (i := 3) (v := encO bv) rfl (by kernel_rfl) (by kernel_rfl) (by kernel_rfl) (fun _ _ _ h => h) (by rfl) (fun V hV => load_obj hV.2.2.1 rfl rfl) (by go_simp; rfl) HS ?_
  refine HeldBy.take (i := 4) (v := .bool true) rfl (by kernel_rfl) (by kernel_rfl) (by kernel_rfl) (fun _ _ _ h => h) (by rfl) (fun _ _ => exec_obj_same (A := bv) rfl rfl rfl) (by go_simp; rfl) HS ?_
  refine HeldBy.take (i := 5) rfl (by kernel_rfl) (by kernel_rfl) (by kernel_rfl) (fun _ _ _ h => h) (by rfl) (fun _ _ => by first | (go_simp; rfl) | (go_simp; done)) (by go_simp; rfl) HS ?_
  refine HeldBy.take (i := 6) rfl (by kernel_rfl) (by kernel_rfl) (by kernel_rfl) (fun _ _ _ h => h) (by rfl) (fun _ _ => by first | (go_simp; rfl) | (go_simp; done)) (by go_simp; rfl) HS ?_
  refine HeldBy.take (i := 7) rfl (by kernel_rfl) (by kernel_rfl) (by kernel_rfl) (fun _ _ _ h => h) (by rfl) (fun _ _ => by first | (go_simp; rfl) | (go_simp; done)) (by go_simp; rfl) HS ?_
  refine HeldBy.take (i := 8) rfl (by kernel_rfl) (by kernel_rfl) (by kernel_rfl) (fun _ _ _ h => h) (by rfl) (fun _ _ => by first | (go_simp; rfl) | (go_simp; done)) (by go_simp; rfl) HS ?_
  refine HeldBy.take (i := 9) (v := .bool true) rfl (by kernel_rfl) (by kernel_rfl) (by kernel_rfl) (fun _ _ _ h => h) (by rfl) (fun _ _ => by first | (go_simp; done) | (go_simp; simp)) (by go_simp; rfl) HS ?_
  refine HeldBy.take (i := 10) rfl (by kernel_rfl) (by kernel_rfl) (by kernel_rfl) (fun _ _ _ h => h) (by rfl) (fun _ _ => by first | (go_simp; rfl) | (go_simp; done)) (by go_simp; rfl) HS ?_
  refine HeldBy.take (i := 11) rfl (by kernel_rfl) (by kernel_rfl) (by kernel_rfl) (fun _ _ _ h => h) (by rfl) (fun _ _ => by first | (go_simp; rfl) | (go_simp; done)) (by go_simp; rfl) HS ?_
  refine HeldBy.take (i := 12) (v := encO c) rfl (by kernel_rfl) (by kernel_rfl) (by kernel_rfl) (fun _ _ _ h => h) (by rfl) (fun V hV => load_obj hV.1 rfl rfl) (by go_simp; rfl) HS ?_
  refine HeldBy.take (i := 14) (v := encO c) rfl (by kernel_rfl) (by kernel_rfl) (by kernel_rfl) (fun _ _ _ h => h) (by rfl) (fun V hV => load_obj hV.1 rfl rfl) (by go_simp; rfl) HS ?_
  refine HeldBy.call (i := 13) (v := .string rf) rfl (by kernel_rfl) (by rfl) (by go_simp; exact ⟨rfl, rfl⟩) (by go_simp; rfl) ?_
  refine (HR1.out _ HS.2.2.2.2).mono ?_
  rintro e U2 ⟨rfl, hb⟩
  replace HS : BoxO U2 w.heap.size c ∧ BoxO U2 W2.heap.size bv ∧ BoxO U2 W3.heap.size bv ∧ Below w.heap.size w U2 ∧ Tab U2 := ⟨HS.1.after hb, HS.2.1.after hb, HS.2.2.1.after hb, HS.2.2.2.1.trans (hb.mono HS.2.2.2.1.size), HS.2.2.2.2.after hb⟩
  refine ⟨rfl, HS, ?_⟩
  clear hb
  refine HeldBy.call (i := 15) (v := .string rf) rfl (by kernel_rfl) (by rfl) (by go_simp; exact ⟨rfl, rfl⟩) (by go_simp; rfl) ?_
  refine (HR2.out _ HS.2.2.2.2).mono ?_
  rintro e U3 ⟨rfl, hb⟩
  replace HS : BoxO U3 w.heap.size c ∧ BoxO U3 W2.heap.size bv ∧ BoxO U3 W3.heap.size bv ∧ Below w.heap.size w U3 ∧ Tab U3 := ⟨HS.1.after hb, HS.2.1.after hb, HS.2.2.1.after hb, HS.2.2.2.1.trans (hb.mono HS.2.2.2.1.size), HS.2.2.2.2.after hb⟩
  refine ⟨rfl, HS, ?_⟩
  clear hb
  refine HeldBy.take (i := 16) (v := .bool true) rfl (by kernel_rfl) (by kernel_rfl) (by kernel_rfl) (fun _ _ _ h => h) (by rfl) (fun _ _ => exec_eql_str rfl rfl rfl (decide_eq_true rfl)) (by go_simp; rfl) HS ?_
  refine HeldBy.take (i := 17) rfl (by kernel_rfl) (by kernel_rfl) (by kernel_rfl) (fun _ _ _ h => h) (by rfl) (fun _ _ => by first | (go_simp; rfl) | (go_simp; done)) (by go_simp; rfl) HS ?_
  refine HeldBy.take (i := 18) rfl (by kernel_rfl) (by kernel_rfl) (by kernel_rfl) (fun _ _ _ h => h) (by rfl) (fun _ _ => by first | (go_simp; rfl) | (go_simp; done)) (by go_simp; rfl) HS ?_
  refine HeldBy.take (i := 19) (v := encO c) rfl (by kernel_rfl) (by kernel_rfl) (by kernel_rfl) (fun _ _ _ h => h) (by rfl) (fun V hV => load_obj hV.1 rfl rfl) (by go_simp; rfl) HS ?_
  refine HeldBy.take (i := 21) (v := encO c) rfl (by kernel_rfl) (by kernel_rfl) (by kernel_rfl) (fun _ _ _ h => h) (by rfl) (fun V hV => load_obj hV.1 rfl rfl) (by go_simp; rfl) HS ?_
  refine HeldBy.call (i := 20) (v := .string hf) rfl (by kernel_rfl) (by rfl) (by go_simp; exact ⟨rfl, rfl⟩) (by go_simp; rfl) ?_
  refine (HH1.out _ HS.2.2.2.2).mono ?_
  rintro e U4 ⟨rfl, hb⟩
  replace HS : BoxO U4 w.heap.size c ∧ BoxO U4 W2.heap.size bv ∧ BoxO U4 W3.heap.size bv ∧ Below w.heap.size w U4 ∧ Tab U4 := ⟨HS.1.after hb, HS.2.1.after hb, HS.2.2.1.after hb, HS.2.2.2.1.trans (hb.mono HS.2.2.2.1.size), HS.2.2.2.2.after hb⟩
  refine ⟨rfl, HS, ?_⟩
  clear hb
  refine HeldBy.call (i := 22) (v := .string hf) rfl (by kernel_rfl) (by rfl) (by go_simp; exact ⟨rfl, rfl⟩) (by go_simp; rfl) ?_
  refine (HH2.out _ HS.2.2.2.2).mono ?_
  rintro e U5 ⟨rfl, hb⟩
  replace HS : BoxO U5 w.heap.size c ∧ BoxO U5 W2.heap.size bv ∧ BoxO U5 W3.heap.size bv ∧ Below w.heap.size w U5 ∧ Tab U5 := ⟨HS.1.after hb, HS.2.1.after hb, HS.2.2.1.after hb, HS.2.2.2.1.trans (hb.mono HS.2.2.2.1.size), HS.2.2.2.2.after hb⟩
  refine ⟨rfl, HS, ?_⟩
  clear hb
  refine HeldBy.take (i := 23) (v := .bool true) rfl (by kernel_rfl) (by kernel_rfl) (by kernel_rfl) (fun _ _ _ h => h) (by rfl) (fun _ _ => exec_eql_str rfl rfl rfl (decide_eq_true rfl)) (by go_simp; rfl) HS ?_
  refine HeldBy.take (i := 24) rfl (by kernel_rfl) (by kernel_rfl) (by kernel_rfl) (fun _ _ _ h => h) (by rfl) (fun _ _ => by first | (go_simp; rfl) | (go_simp; done)) (by go_simp; rfl) HS ?_
  refine HeldBy.take (i := 25) rfl (by kernel_rfl) (by kernel_rfl) (by kernel_rfl) (fun _ _ _ h => h) (by rfl) (fun _ _ => by first | (go_simp; rfl) | (go_simp; done)) (by go_simp; rfl) HS ?_
  refine wpAnyH_done (by kernel_rfl) ?_ _
  have HX := Lib.hid HS.2.2.2.1
  clear HS HR1 HR2 HH1 HH2
  go_wp2
  go_ret
  exact ⟨rfl, HX.out⟩
end Go.Proofs.YtpoifngepmfgpaaDoor.O.B
namespace Go.Proofs.YtpoifngepmfgpaaDoor.BindNames
open Go.ChangeShapes Go.WideShapes Go.ChangeAt Go.RowKit O.B
open Go.ChangeMaps (open_string shut_string)

theorem contract (H : Type) (enc : TypeId × Value → H) (W : World) (base : Nat) (args : Array Value) (ds gs : List (DataW H)) (before : List MemPlace)
    (hval : ∀ (j : Nat) t v, Tryd.f5.params[j]? = some t → args[j]? = some v → Value.okWide Tryd.prog W .any base t v)
    (hW : DataW.Whole enc Tryd.prog Tryd.f5.params.toList Rows.bindNamesSpec.vars false W args.toList ds gs before)
    (hsz : (DataW.weightsEach Tryd.prog (Tryd.f5.params.toList ++ (OpenSpec.ofChange Rows.bindNamesSpec).bare.plain.varTypes Tryd.prog) (ds ++ gs)).all (· ≤ reachBytes) = true) (hL : laidMetH Tryd.prog Rows.bindNamesRow.laid W) :
    Calls Tryd.prog 5 args W fun e W' => ∃ v, e = .returned v ∧ Rows.bindNamesSpec.post enc Tryd.prog Tryd.f5 false true false false W args v W' := by
  have hW' := hW
  obtain ⟨p, q, hA0, hV, rfl, hfz, hnd⟩ := hW
  have hA : DataW.TrodAll enc Tryd.prog W 0 (fun _ => true) true Tryd.f5.params.toList args.toList ds p := hA0
  rw [Tryd.params5] at hA hval hsz
  obtain ⟨v0, vs0, d0, ds0, p0, q0, hargs, rfl, rfl, h0, r0⟩ := trodAll_cons hA
  obtain ⟨v1, vs1, d1, ds1, p1, q1, rfl, rfl, rfl, h1, r1⟩ := trodAll_cons r0
  obtain ⟨rfl, rfl, rfl⟩ := trodAll_nil r1
  obtain rfl : args = #[v0, v1] := by cases args; simp_all
  obtain ⟨l0, hb0, ft0, ln0, cp0⟩ := open_objs (hval 0 22 v0 rfl rfl) h0
  obtain ⟨x1, rfl, ft1, ln1⟩ := open_obj1 (hval 1 31 v1 rfl rfl) h1
  have lz0 := ln0 (List.all_eq_true.2 fun n hn => List.all_eq_true.1 hsz n (DataW.weights_mem_each (j := 0) rfl rfl n hn))
  have lz1 := ln1 (List.all_eq_true.2 fun n hn => List.all_eq_true.1 hsz n (DataW.weights_mem_each (j := 1) rfl rfl n hn))
  refine (names_any l0 v0 x1 W hb0 cp0 (tab_of_laid hL) ft1.born lz1.name).mono fun e W' ⟨he, hb⟩ => ?_
  subst he
  exact ⟨_, rfl, LawEnd.post_true laidOut (by kernel_rfl) rfl Tryd.underlying4 rfl hW' rfl hb⟩

theorem laid_met (os : Os) : laidMet Tryd.prog Rows.bindNamesRow.laid ((laidWorld #[.slice none 0 0, .agg #[.int .u8 0, .string ⟨#[]⟩, .int .u64 0, .int .u64 0, .bool false, .bool false, .string ⟨#[]⟩, .int .i64 0, .int .i64 0, .int .u8 0, .bool false, .bool false, .string ⟨#[]⟩, .string ⟨#[]⟩, .string ⟨#[]⟩, .string ⟨#[]⟩, .string ⟨#[]⟩, .int .u8 0, .int .u64 0, .int .u64 0]] os).forCall (fun _ _ => 0) ⟨#[], #[.slice none 0 0, .agg #[.int .u8 0, .string ⟨#[]⟩, .int .u64 0, .int .u64 0, .bool false, .bool false, .string ⟨#[]⟩, .int .i64 0, .int .i64 0, .int .u8 0, .bool false, .bool false, .string ⟨#[]⟩, .string ⟨#[]⟩, .string ⟨#[]⟩, .string ⟨#[]⟩, .string ⟨#[]⟩, .int .u8 0, .int .u64 0, .int .u64 0]], []⟩).memory :=
  laidMet_of_run' 70 (by kernel_rfl) (by kernel_rfl)
theorem reads (os : Os) {H : Type} (enc : TypeId × Value → H) : ∃ places, DataW.whole enc Tryd.prog ((laidWorld #[.slice none 0 0, .agg #[.int .u8 0, .string ⟨#[]⟩, .int .u64 0, .int .u64 0, .bool false, .bool false, .string ⟨#[]⟩, .int .i64 0, .int .i64 0, .int .u8 0, .bool false, .bool false, .string ⟨#[]⟩, .string ⟨#[]⟩, .string ⟨#[]⟩, .string ⟨#[]⟩, .string ⟨#[]⟩, .int .u8 0, .int .u64 0, .int .u64 0]] os).forCall (fun _ _ => 0) ⟨#[], #[.slice none 0 0, .agg #[.int .u8 0, .string ⟨#[]⟩, .int .u64 0, .int .u64 0, .bool false, .bool false, .string ⟨#[]⟩, .int .i64 0, .int .i64 0, .int .u8 0, .bool false, .bool false, .string ⟨#[]⟩, .string ⟨#[]⟩, .string ⟨#[]⟩, .string ⟨#[]⟩, .string ⟨#[]⟩, .int .u8 0, .int .u64 0, .int .u64 0]], []⟩).memory Tryd.f5.params.toList Rows.bindNamesSpec.vars false (#[(.slice none 0 0 : Value), .agg #[.int .u8 0, .string ⟨#[]⟩, .int .u64 0, .int .u64 0, .bool false, .bool false, .string ⟨#[]⟩, .int .i64 0, .int .i64 0, .int .u8 0, .bool false, .bool false, .string ⟨#[]⟩, .string ⟨#[]⟩, .string ⟨#[]⟩, .string ⟨#[]⟩, .string ⟨#[]⟩, .int .u8 0, .int .u64 0, .int .u64 0]]).toList 8 = some ([.nil, .agg [.lit (.int .u8 0), .lit (.string []), .lit (.int .u64 0), .lit (.int .u64 0), .lit (.bool false), .lit (.bool false), .lit (.string []), .lit (.int .i64 0), .lit (.int .i64 0), .lit (.int .u8 0), .lit (.bool false), .lit (.bool false), .lit (.string []), .lit (.string []), .lit (.string []), .lit (.string []), .lit (.string []), .lit (.int .u8 0), .lit (.int .u64 0), .lit (.int .u64 0)]], [], places) :=
  ⟨[], by kernel_rfl⟩

set_option maxRecDepth 100000 in
theorem lifted (os : Os) (started : os.Started) (H : Type) (enc : TypeId × Value → H) (F : Stop.Interp) :
    ReturnsInHanded {} Tryd.checked os 5 .any ((OpenSpec.ofChange Rows.bindNamesSpec).preRow enc Tryd.prog Tryd.f5 Rows.bindNamesRow.domain false Rows.bindNamesRow.laid) (((OpenSpec.ofChange Rows.bindNamesSpec).at F).post enc Tryd.prog Tryd.f5 false true false false) := by
  obtain ⟨places, hx⟩ := reads os enc
  refine returnsInHanded_of_row (C := Tryd.checked) (s := OpenSpec.ofChange Rows.bindNamesSpec) own started (by kernel_rfl) Tryd.func5
    (witness_row_at (enc := enc) (C := Tryd.checked) false (laidWorld #[.slice none 0 0, .agg #[.int .u8 0, .string ⟨#[]⟩, .int .u64 0, .int .u64 0, .bool false, .bool false, .string ⟨#[]⟩, .int .i64 0, .int .i64 0, .int .u8 0, .bool false, .bool false, .string ⟨#[]⟩, .string ⟨#[]⟩, .string ⟨#[]⟩, .string ⟨#[]⟩, .string ⟨#[]⟩, .int .u8 0, .int .u64 0, .int .u64 0]] os) #[.slice none 0 0, .agg #[.int .u8 0, .string ⟨#[]⟩, .int .u64 0, .int .u64 0, .bool false, .bool false, .string ⟨#[]⟩, .int .i64 0, .int .i64 0, .int .u8 0, .bool false, .bool false, .string ⟨#[]⟩, .string ⟨#[]⟩, .string ⟨#[]⟩, .string ⟨#[]⟩, .string ⟨#[]⟩, .int .u8 0, .int .u64 0, .int .u64 0]] rfl (by kernel_rfl) (by kernel_rfl) (by kernel_rfl)
      (OpenSpec.preRow_of_cond 8 hx (by kernel_rfl) (fun k hk => by cases hk) (by kernel_rfl) (laid_met os))) ?_
  intro W base args ds gs before hval hW _ _ hsz hL _ _
  exact contract H enc W base args ds gs before hval hW hsz hL

theorem said : Rows.BindNamesSaid :=
  OpenClaim.holds_of_cond 5 Tryd.f5 rfl rfl rfl rfl rfl rfl rfl ⟨rfl, rfl, rfl, rfl, rfl⟩ rfl rfl rfl rfl rfl (by kernel_rfl) Tryd.func5 (by kernel_rfl)
    (of_decide_eq_true (by kernel_rfl)) (by unfold Func.isWrapper; first | (rw [if_pos (by decide +kernel)]; kernel_rfl) | (rw [if_neg (by decide +kernel)]; exact ⟨rfl, rfl⟩))
    (fun os started H enc _ F => by rw [OpenClaim.pre_eq_preRow]; exact lifted os started H enc F)

theorem plain (f : FuncId) (fn : Func) (hf : Tryd.pinned.checked.prog.funcNamed "wharfinger/wharfingerlaw12.BindNames" = some f) (hfn : Tryd.pinned.checked.prog.funcs[f]? = some fn) :
    false = Tryd.pinned.checked.prog.looks [] ∧ ∀ (j : Nat) t, fn.params[j]? = some t → Tryd.pinned.checked.prog.wantsStandIn t = false := by
  obtain rfl : f = 5 := Option.some.inj ((show Tryd.prog.funcNamed "wharfinger/wharfingerlaw12.BindNames" = some 5 by kernel_rfl).symm.trans hf) |>.symm
  obtain rfl : fn = Tryd.f5 := (Option.some.inj (Tryd.func5.symm.trans hfn)).symm
  refine ⟨by kernel_rfl, fun j t ht => ?_⟩
  rw [Tryd.params5] at ht
  have hall : ([22, 31] : List TypeId).all (fun t => Tryd.prog.wantsStandIn t == false) = true := by kernel_rfl
  have hm : t ∈ ([22, 31] : List TypeId) := by have := Array.mem_of_getElem? ht; simpa using this
  exact eq_of_beq (List.all_eq_true.1 hall t hm)

theorem card : Rows.BindNamesCardSaid :=
  Claim7.holds_tied_plain_at .later [] _ _ _ _ said (fun _ h => by cases h) (by kernel_rfl) (fun _ h => by cases h) bindNames_row_tie rfl ⟨rfl, rfl⟩ (by kernel_rfl) rfl plain (by kernel_rfl)
end Go.Proofs.YtpoifngepmfgpaaDoor.BindNames
