/- Own work. -/
import Derived.Test.YtbgfccanbgpjiaaDJ05
namespace Go.Proofs.Ytbgfccanbgpjiaa.O.I
open Go Go.RowKit Go.Lib KM
attribute [local go_sem] Oper.semAt_some
theorem built_kept (n t : Int) : Try.prog.built 50 [(1, .int .i64 n), (3, .int .u64 t)] = some (cellsR ⟨0, n, E0, t⟩) := by kernel_rfl
set_option maxRecDepth 100000 in
set_option maxHeartbeats 2000000 in
theorem kept_any (x : Ct) (w : World) : Calls Try.prog 87 #[encK x] w fun e w' => e = .returned (encR ⟨0, x.size, E0, x.tag⟩) ∧ Below w.heap.size w w' := by
  rw [show encK x = .agg (cellsK x) from rfl]
  go_enter Try.func87, Try.ntmps87
  go_upto_region 1 with (fail)
  refine wp_gen (fun V => BoxK V w.heap.size x ∧ BoxR V (w.heap.size + 1) zeroR ∧ Below w.heap.size w V) ⟨(heap2 w _ _).1, (heap2 w _ _).2, below2 w _ _⟩ ?_
  rintro V ⟨hx, hr, hlw⟩
  have c0 := hx.c0
  have c1 := hx.c1
  obtain ⟨V3, hs3, hb3, -, hl3⟩ := stoR hr ⟨0, x.size, E0, x.tag⟩
  have HV := Lib.hid hb3
  have HW := Lib.hid (hl3 w.heap.size w hlw (Nat.le_succ _))
  clear hx hr hlw hb3 hl3
  go_wp2_with (first | ((with_reducible refine wpList_build_to rfl 50 _ rfl (cellsR ⟨0, x.size, E0, x.tag⟩) ?_ ?_); exact built_kept _ _) | (refine wpList_skip rfl (hs3 rfl rfl rfl) ?_))
  refine bodyPost_ret (v := encR ⟨0, x.size, E0, x.tag⟩) (results_cell_row rfl _ _ (w.heap.size + 1) 50 (cellsR ⟨0, x.size, E0, x.tag⟩) (0, 0) _ rfl HV.out undR rfl sizeR) rfl ?_
  exact ⟨rfl, HW.out⟩
section
variable (B d r v s n : Nat) (Ro Vo So : List (ByteArray × Value)) (No : List (Tg × Value)) (t src : ByteArray) (w : World)
set_option maxRecDepth 100000 in
set_option maxHeartbeats 4000000 in
theorem cut_there (k : Ct) (hd : DrAt w d r v s n Ro Vo So No) (hS : KM.get t So = some (encK k)) :
    Calls Try.prog 73 #[.pointer (some ⟨d, 0, none⟩), .string t, .string src] w fun e w' => e = .returned (encR ⟨0, k.size, E0, k.tag⟩) ∧ Below w.heap.size w w' := by
  have HD := Lib.hid hd
  have HV := Lib.hid hS
  clear hd hS
  go_enter Try.func73, Try.ntmps73
  go_upto_region 1 with (fail)
  refine wp_gen (fun V => BoxR V w.heap.size zeroR ∧ Below w.heap.size w V) ⟨heap_alloc_new _ _, (Below.refl _ _).alloc (Nat.le_refl _) _⟩ ?_
  rintro V0 ⟨hr, hw⟩
  have hd0 := HD.out.after hw
  have c2 := hd0.box.c2
  obtain ⟨V1, sv, bv, lv⟩ := boxK V0 zeroK rfl k
  have HDV := Lib.hid hd0.snaps
  have HR := Lib.hid (hr.after lv)
  have HW := Lib.hid (hw.trans (lv.mono hw.size))
  have hbv := bv
  clear hr hw bv lv hd0 HD
  go_wp2_with (first | (refine wpList_got rfl (exec_look2 und_S (zero_S _) HDV.out (some (encK k)) HV.out rfl rfl rfl) ?_) | (refine wpList_skip rfl (sv rfl rfl rfl) ?_) | (refine wpList_got rfl (loadK hbv rfl rfl) ?_))
  clear hbv
  refine (kept_any k _).mono ?_
  rintro e W2 ⟨rfl, hb⟩
  obtain ⟨V3, sr, br, -, lr⟩ := stoR (HR.out.after hb) ⟨0, k.size, E0, k.tag⟩
  have HBR := Lib.hid br
  have HX := Lib.hid (lr _ _ (HW.out.trans (hb.mono HW.out.size)) (Nat.le_refl _))
  clear hb br lr
  go_wp2_with (refine wpList_skip rfl (sr rfl rfl rfl) ?_)
  refine bodyPost_ret (v := encR ⟨0, k.size, E0, k.tag⟩) (results_cell_row rfl _ _ w.heap.size 50 (cellsR ⟨0, k.size, E0, k.tag⟩) (0, 0) _ rfl HBR.out undR rfl sizeR) rfl ?_
  exact ⟨rfl, HX.out⟩
set_option maxRecDepth 100000 in
set_option maxHeartbeats 4000000 in
theorem cut_none (hd : DrAt w d r v s n Ro Vo So No) (hS : KM.get t So = none) (hV : KM.get src Vo = none) :
    Calls Try.prog 73 #[.pointer (some ⟨d, 0, none⟩), .string t, .string src] w fun e w' => e = .returned (encR (errR 5)) ∧ Below w.heap.size w w' := by
  have HD := Lib.hid hd
  have HS := Lib.hid hS
  have HV := Lib.hid hV
  clear hd hS hV
  go_enter Try.func73, Try.ntmps73
  go_upto_region 1 with (fail)
  refine wp_gen (fun V => BoxR V w.heap.size zeroR ∧ Below w.heap.size w V) ⟨heap_alloc_new _ _, (Below.refl _ _).alloc (Nat.le_refl _) _⟩ ?_
  rintro V0 ⟨hr, hw⟩
  have hd0 := HD.out.after hw
  have c2 := hd0.box.c2
  obtain ⟨V1, sv, bv, lv⟩ := boxK V0 zeroK rfl zeroK
  have hd1 := hd0.after lv
  have c1 := hd1.box.c1
  obtain ⟨V2, sv2, bv2, lv2⟩ := boxV V1 zeroV rfl zeroV
  have HDS := Lib.hid hd0.snaps
  have HDV := Lib.hid hd1.vols
  have hw1 := hw.trans (lv.mono hw.size)
  have HR := Lib.hid ((hr.after lv).after lv2)
  have HW := Lib.hid (hw1.trans (lv2.mono hw1.size))
  clear hr hw bv lv hd0 HD hd1 bv2 lv2 hw1
  go_wp2_with (first | (refine wpList_got rfl (exec_look2 und_S (zero_S _) HDS.out none HS.out rfl rfl rfl) ?_) | (refine wpList_skip rfl (sv rfl rfl rfl) ?_) | (refine wpList_got rfl (exec_look2 und_V (zero_V _) HDV.out none HV.out rfl rfl rfl) ?_) | (refine wpList_skip rfl (sv2 rfl rfl rfl) ?_))
  refine (failed_any 5 _).mono ?_
  rintro e W2 ⟨rfl, hb⟩
  obtain ⟨V3, sr, br, -, lr⟩ := stoR (HR.out.after hb) (errR 5)
  have HBR := Lib.hid br
  have HX := Lib.hid (lr _ _ (HW.out.trans (hb.mono HW.out.size)) (Nat.le_refl _))
  clear hb br lr
  go_wp2_with (refine wpList_skip rfl (sr rfl rfl rfl) ?_)
  refine bodyPost_ret (v := encR (errR 5)) (results_cell_row rfl _ _ w.heap.size 50 (cellsR (errR 5)) (0, 0) _ rfl HBR.out undR rfl sizeR) rfl ?_
  exact ⟨rfl, HX.out⟩
set_option maxRecDepth 100000 in
set_option maxHeartbeats 4000000 in
theorem cut_full (x : Vl) (hd : DrAt w d r v s n Ro Vo So No) (hS : KM.get t So = none) (hV : KM.get src Vo = some (encV x)) (hl : (64 : Int) ≤ (So.length : Int)) :
    Calls Try.prog 73 #[.pointer (some ⟨d, 0, none⟩), .string t, .string src] w fun e w' => e = .returned (encR (errR 7)) ∧ Below w.heap.size w w' := by
  have HD := Lib.hid hd
  have HS := Lib.hid hS
  have HV := Lib.hid hV
  clear hd hS hV
  go_enter Try.func73, Try.ntmps73
  go_upto_region 1 with (fail)
  refine wp_gen (fun V => BoxR V w.heap.size zeroR ∧ Below w.heap.size w V) ⟨heap_alloc_new _ _, (Below.refl _ _).alloc (Nat.le_refl _) _⟩ ?_
  rintro V0 ⟨hr, hw⟩
  have hd0 := HD.out.after hw
  have c2 := hd0.box.c2
  obtain ⟨V1, sv, bv, lv⟩ := boxK V0 zeroK rfl zeroK
  have hd1 := hd0.after lv
  have c1 := hd1.box.c1
  obtain ⟨V2, sv2, bv2, lv2⟩ := boxV V1 zeroV rfl x
  have hd2 := hd1.after lv2
  have k2 := hd2.box.c2
  have HDS := Lib.hid hd0.snaps
  have HDV := Lib.hid hd1.vols
  have HD2 := Lib.hid hd2.snaps
  have hw1 := hw.trans (lv.mono hw.size)
  have HR := Lib.hid ((hr.after lv).after lv2)
  have HW := Lib.hid (hw1.trans (lv2.mono hw1.size))
  clear hr hw bv lv hd0 HD hd1 bv2 lv2 hw1 hd2
  go_wp2_with (first | (refine wpList_got rfl (exec_look2 und_S (zero_S _) HDS.out none HS.out rfl rfl rfl) ?_) | (refine wpList_skip rfl (sv rfl rfl rfl) ?_) | (refine wpList_got rfl (exec_look2 und_V (zero_V _) HDV.out (some (encV x)) HV.out rfl rfl rfl) ?_) | (refine wpList_skip rfl (sv2 rfl rfl rfl) ?_) | (refine wpList_got rfl (exec_maplen HD2.out und_S rfl rfl) ?_))
  refine (failed_any 7 _).mono ?_
  rintro e W2 ⟨rfl, hb⟩
  obtain ⟨V3, sr, br, -, lr⟩ := stoR (HR.out.after hb) (errR 7)
  have HBR := Lib.hid br
  have HX := Lib.hid (lr _ _ (HW.out.trans (hb.mono HW.out.size)) (Nat.le_refl _))
  clear hb br lr
  go_wp2_with (refine wpList_skip rfl (sr rfl rfl rfl) ?_)
  refine bodyPost_ret (v := encR (errR 7)) (results_cell_row rfl _ _ w.heap.size 50 (cellsR (errR 7)) (0, 0) _ rfl HBR.out undR rfl sizeR) rfl ?_
  exact ⟨rfl, HX.out⟩
set_option maxRecDepth 100000 in
set_option maxHeartbeats 8000000 in
theorem cut_ok (x : Vl) (hd : DrAt w d r v s n Ro Vo So No) (hf : Five d r v s n) (hS : KM.get t So = none) (hV : KM.get src Vo = some (encV x)) (hl : ¬ (64 : Int) ≤ (So.length : Int)) (hB : B ≤ s ∧ B ≤ w.heap.size) :
    Calls Try.prog 73 #[.pointer (some ⟨d, 0, none⟩), .string t, .string src] w fun e w' => e = .returned (encR ⟨0, x.size, E0, x.tag⟩) ∧ DrAt w' d r v s n Ro Vo (KM.put t (encK ⟨x.size, x.tag⟩) So) No ∧ Fr (fun g => g = s) B w w' := by
  have HD0 := Lib.hid hd
  have HF := Lib.hid hf
  have HS := Lib.hid hS
  have HV := Lib.hid hV
  have HBB := Lib.hid hB
  have HLT := Lib.hid hd.lt
  have hl2 : (So.length : Int) < 64 := by omega
  clear hd hf hS hV hB
  go_enter Try.func73, Try.ntmps73
  go_upto_region 1 with (fail)
  refine wp_gen (fun V => BoxR V w.heap.size zeroR ∧ Below w.heap.size w V) ⟨heap_alloc_new _ _, (Below.refl _ _).alloc (Nat.le_refl _) _⟩ ?_
  rintro V0 ⟨hr, hw⟩
  have hd0 := HD0.out.after hw
  have c2 := hd0.box.c2
  obtain ⟨V1, sv, bv, lv⟩ := boxK V0 zeroK rfl zeroK
  have hd1 := hd0.after lv
  have c1 := hd1.box.c1
  obtain ⟨V2, sv2, bv2, lv2⟩ := boxV V1 zeroV rfl x
  have hd2 := hd1.after lv2
  have k2 := hd2.box.c2
  have HDS := Lib.hid hd0.snaps
  have HDV := Lib.hid hd1.vols
  have HD2 := Lib.hid hd2.snaps
  have hw1 := hw.trans (lv.mono hw.size)
  have hw2 := hw1.trans (lv2.mono hw1.size)
  have HB := Lib.hid hd2.box
  have HX := Lib.hid bv2
  have HD := Lib.hid hd2
  have HR := Lib.hid ((hr.after lv).after lv2)
  have HW := Lib.hid hw2
  have HP : Hid (w.heap.size < V1.heap.size) := (hr.after lv).lt
  clear hr hw bv lv hd0 HD0 hd1 bv2 lv2 hw1 hd2 hw2
  go_upto_region 9 with (first | (refine wpList_got rfl (exec_look2 und_S (zero_S _) HDS.out none HS.out rfl rfl rfl) ?_) | (refine wpList_skip rfl (sv rfl rfl rfl) ?_) | (refine wpList_got rfl (exec_look2 und_V (zero_V _) HDV.out (some (encV x)) HV.out rfl rfl rfl) ?_) | (refine wpList_skip rfl (sv2 rfl rfl rfl) ?_) | (refine wpList_got rfl (exec_maplen HD2.out und_S rfl rfl) ?_))
  clear sv sv2 HDS HDV HD2 c1 c2 k2 hl hl2
  refine wp_region_held_drew (S := fun V => BoxD V d ⟨some r, some v, some s, some n⟩ ∧ BoxV V V1.heap.size x) (by kernel_rfl) ⟨HB.out, HX.out⟩ (fun _ => ?_)
  refine HeldBy.gen (fun V => (BoxD V d ⟨some r, some v, some s, some n⟩ ∧ BoxV V V1.heap.size x) ∧ (DrAt V d r v s n Ro Vo So No) ∧ (BoxR V w.heap.size zeroR) ∧ (Below w.heap.size w V)) ⟨⟨HB.out, HX.out⟩, HD.out, HR.out, HW.out.drew⟩ ?_
  clear HB HX HD HR HW
  rintro U0 ⟨HS, HD, HR, HW⟩
  refine HeldBy.tn (i := 0) rfl HS ?_
  refine HeldBy.tn (i := 1) rfl HS ?_
  refine HeldBy.tn (i := 2) rfl HS ?_
  refine HeldBy.tk (i := 3) (v := .map (some s)) rfl (fun V hV => by have hc := hV.1.c2; first | (go_simp; rfl) | (go_simp; done)) HS ?_
  refine HeldBy.tn (i := 4) rfl HS ?_
  refine HeldBy.tn (i := 5) rfl HS ?_
  refine HeldBy.tk (i := 6) (v := encK ⟨x.size, x.tag⟩) rfl (fun V hV => loadV_content hV.2 rfl rfl) HS ?_
  obtain ⟨V7, hs7, hm7, ht7, hst7⟩ := exec_upds und_S HD.snaps HD.stampS t (encK ⟨x.size, x.tag⟩)
  have hlt := HLT.out
  have hp := HP.out
  have hBB := HBB.out
  obtain ⟨f1, f2, f3, f4, f5, f6, f7, f8, f9, f10⟩ := HF.out
  have hS7 : BoxD V7 d ⟨some r, some v, some s, some n⟩ ∧ BoxV V7 V1.heap.size x := ⟨HS.1.turned ht7 f3, Turned.other ht7 (by omega) HS.2⟩
  refine HeldBy.store (i := 7) (w' := V7) rfl (by kernel_rfl) (by rfl) (hs7 rfl rfl rfl rfl) (by first | (go_simp; rfl) | (go_simp; done)) hS7 ?_
  refine wpAnyH_done (by kernel_rfl) ?_ _
  have HD7 := Lib.hid (HD.putSnaps HF.out ht7 hm7 hst7)
  have hr7 : BoxR V7 w.heap.size zeroR := Turned.other ht7 (by omega) HR
  have HR7 := Lib.hid hr7
  have hx7 := hS7.2
  have HFR : Hid (Fr (fun g => g = s) B w V7) := (Fr.of_below HW hBB.2).trans (Fr.turned (D := fun g => g = s) ht7 rfl hBB.1)
  clear hs7 hm7 ht7 hst7 hlt hp hBB f1 f2 f3 f4 f5 f6 f7 f8 f9 f10 hS7 HS hr7 HD HW
  go_wp2_with (refine wpList_got rfl (loadV_content hx7 rfl rfl) ?_)
  clear hx7
  refine (kept_any ⟨x.size, x.tag⟩ _).mono ?_
  rintro e W8 ⟨rfl, hb⟩
  obtain ⟨V9, hs9, hb9, hk9, hl9⟩ := stoR (HR7.out.after hb) ⟨0, x.size, E0, x.tag⟩
  have HBR := Lib.hid hb9
  have HRES : Hid (DrAt V9 d r v s n Ro Vo (KM.put t (encK ⟨x.size, x.tag⟩) So) No ∧ Fr (fun g => g = s) B w V9) := by
    show _ ∧ _
    have hBB := HBB.out
    have hlt := HLT.out
    exact ⟨(HD7.out.after hb).keep hk9 (by omega), (HFR.out.after hb hBB.2).sto hk9 hl9 (Nat.le_refl _) hBB.2⟩
  clear hb hb9 hk9 hl9
  go_wp2_with (refine wpList_skip rfl (hs9 rfl rfl rfl) ?_)
  refine bodyPost_ret (v := encR ⟨0, x.size, E0, x.tag⟩) (results_cell_row rfl _ _ w.heap.size 50 (cellsR ⟨0, x.size, E0, x.tag⟩) (0, 0) _ rfl HBR.out undR rfl sizeR) rfl ?_
  exact ⟨rfl, HRES.out⟩
set_option maxRecDepth 100000 in
set_option maxHeartbeats 4000000 in
theorem source_snap (k : Ct) (hd : DrAt w d r v s n Ro Vo So No) (hne : ¬ src = E0) (hS : KM.get src So = some (encK k)) :
    Calls Try.prog 86 #[.pointer (some ⟨d, 0, none⟩), .string src] w fun e w' => e = .returned (.tuple #[encK k, .bool true]) ∧ Below w.heap.size w w' := by
  have HD := Lib.hid hd
  have HV := Lib.hid hS
  have e1 : ¬ src.toList = [] := fun h => hne ((emp_iff _).1 h)
  have e2 : (src.toList == []) = false := by simp [e1]
  have e3 : src.toList.isEmpty = false := by simp [e1]
  clear hd hS hne
  go_enter Try.func86, Try.ntmps86
  go_upto_region 1 with (fail)
  refine wp_gen (fun V => BoxK V w.heap.size zeroK ∧ Below w.heap.size w V) ⟨heap_alloc_new _ _, (Below.refl _ _).alloc (Nat.le_refl _) _⟩ ?_
  rintro V0 ⟨hr, hw⟩
  have hd0 := HD.out.after hw
  have c2 := hd0.box.c2
  obtain ⟨V1, sv, bv, lv⟩ := boxK V0 zeroK rfl k
  obtain ⟨V2, sv2, bv2, -, lv2⟩ := stoK (hr.after lv) k
  have HDS := Lib.hid hd0.snaps
  have HBK := Lib.hid bv2
  have hw1 := hw.trans (lv.mono hw.size)
  have HX := Lib.hid (lv2 _ _ hw1 (Nat.le_refl _))
  clear hr hw lv hd0 HD bv2 lv2 hw1
  go_wp2_with (first | (refine wpList_got rfl (exec_look2 und_S (zero_S _) HDS.out (some (encK k)) HV.out rfl rfl rfl) ?_) | (refine wpList_skip rfl (sv rfl rfl rfl) ?_) | (refine wpList_got rfl (loadK bv rfl rfl) ?_) | (refine wpList_skip rfl (sv2 rfl rfl rfl) ?_))
  refine bodyPost_ret (v := .tuple #[encK k, .bool true]) (results_ct rfl rfl rfl (loadVarK HBK.out)) rfl ?_
  exact ⟨rfl, HX.out⟩
set_option maxRecDepth 100000 in
set_option maxHeartbeats 4000000 in
theorem source_vol (x : Vl) (b : Bool) (hd : DrAt w d r v s n Ro Vo So No) (hne : ¬ src = E0) (hS : KM.get src So = none) (hV : (KM.get src Vo = some (encV x) ∧ b = true) ∨ (KM.get src Vo = none ∧ x = zeroV ∧ b = false)) :
    Calls Try.prog 86 #[.pointer (some ⟨d, 0, none⟩), .string src] w fun e w' => e = .returned (.tuple #[encK ⟨x.size, x.tag⟩, .bool b]) ∧ Below w.heap.size w w' := by
  have HD := Lib.hid hd
  have HS := Lib.hid hS
  obtain ⟨y, hy, hyx, hyb⟩ : ∃ y, KM.get src Vo = y ∧ y.getD (encV zeroV) = encV x ∧ y.isSome = b := by
    rcases hV with ⟨h1, h2⟩ | ⟨h1, h2, h3⟩
    · exact ⟨_, h1, rfl, by rw [h2]; rfl⟩
    · exact ⟨_, h1, by rw [h2]; rfl, by rw [h3]; rfl⟩
  have HV := Lib.hid hy
  have e1 : ¬ src.toList = [] := fun h => hne ((emp_iff _).1 h)
  have e2 : (src.toList == []) = false := by simp [e1]
  have e3 : src.toList.isEmpty = false := by simp [e1]
  clear hd hS hne hV hy
  go_enter Try.func86, Try.ntmps86
  go_upto_region 1 with (fail)
  refine wp_gen (fun V => BoxK V w.heap.size zeroK ∧ Below w.heap.size w V) ⟨heap_alloc_new _ _, (Below.refl _ _).alloc (Nat.le_refl _) _⟩ ?_
  rintro V0 ⟨hr, hw⟩
  have hd0 := HD.out.after hw
  have c2 := hd0.box.c2
  obtain ⟨V1, sv, bv, lv⟩ := boxK V0 zeroK rfl zeroK
  have hd1 := hd0.after lv
  have c1 := hd1.box.c1
  obtain ⟨V2, sv2, bv2, lv2⟩ := boxV V1 zeroV rfl x
  obtain ⟨V3, sv3, bv3, -, lv3⟩ := stoK ((hr.after lv).after lv2) ⟨x.size, x.tag⟩
  have HDS := Lib.hid hd0.snaps
  have HDV := Lib.hid hd1.vols
  have HLK : Hid (∀ {oi : Oper} {a : Act} {p q : Operand}, oi.op = .lookup tV p q true → a.eval p = .map (some v) → a.eval q = .string src → (execOp a.eval oi).run Try.prog V1 = .ok (.value (.tuple #[encV x, .bool b])) V1) := fun ho hm hk => by
    have h := exec_look2 und_V (zero_V _) HDV.out y HV.out ho hm hk
    rw [hyx, hyb] at h
    exact h
  have HBK := Lib.hid bv3
  have hw1 := hw.trans (lv.mono hw.size)
  have hw2 := hw1.trans (lv2.mono hw1.size)
  have HX := Lib.hid (lv3 _ _ hw2 (Nat.le_refl _))
  clear hr hw lv hd0 HD hd1 bv lv2 bv3 lv3 hw1 hw2 hyx hyb
  go_wp2_with (first | (refine wpList_got rfl (exec_look2 und_S (zero_S _) HDS.out none HS.out rfl rfl rfl) ?_) | (refine wpList_skip rfl (sv rfl rfl rfl) ?_) | (refine wpList_got rfl (HLK.out rfl rfl rfl) ?_) | (refine wpList_skip rfl (sv2 rfl rfl rfl) ?_) | (refine wpList_got rfl (loadV_content bv2 rfl rfl) ?_) | (refine wpList_skip rfl (sv3 rfl rfl rfl) ?_))
  refine bodyPost_ret (v := .tuple #[encK ⟨x.size, x.tag⟩, .bool b]) (results_ct rfl rfl rfl (loadVarK HBK.out)) rfl ?_
  exact ⟨rfl, HX.out⟩
end
end Go.Proofs.Ytbgfccanbgpjiaa.O.I
