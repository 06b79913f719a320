/- Where each wanted node is attached, nothing is done: the walk. -/
import Derived.Test.YtigoghhjncpgfaaARests0
import Derived.Test.YtigoghhjncpgfaaARep
import Derived.Test.YtigoghhjncpgfaaAU8
namespace Go.Proofs.Ytigoghhjncpgfaa.O.B
open Go Go.RowKit Go.Shelf Go.Lib KM
attribute [local go_sem] Oper.semAt_some

theorem own_row {W : World} {R g : Nat} {a b c : Obj} (h : R ≤ g) (hb : RowO W g [a, b, c]) : OutIn W R (.slice (some ⟨g, 0, none⟩) 3 3) [a, b, c] := by
  have hs : (catO [a, b, c]).size = 60 := catO_size _
  have hm : maxLen = 9223372036854775807 := rfl
  have hl : (catO [a, b, c]).toList.length = 60 := hs
  refine ⟨hl, .inr ⟨g, 3, catO [a, b, c], rfl, h, hb, Nat.le_refl _, ?_, hs, ?_⟩⟩
  · omega
  · first | exact List.take_of_length_le (by rw [hl]; omega) | (rw [List.take_of_length_le (by rw [hl]; omega)]) | rfl
theorem run_objs0 (W : World) : (Instr.buildSlice 22 0 #[]).run Try.prog W = .ok (.slice (some ⟨W.heap.size, 0, none⟩) 0 0) (W.alloc (.cells #[] 37 (0, 0))) := by kernel_rfl
theorem own0 {W : World} {R b : Nat} (h : R ≤ b) (hb : W.heap[b]? = some (.cells #[] 37 (0, 0))) : OutIn W R (.slice (some ⟨b, 0, none⟩) 0 0) [] := by
  refine ⟨rfl, .inr ⟨b, 0, #[], rfl, h, hb, ?_, ?_, ?_, ?_⟩⟩ <;> first | rfl | omega | simp
theorem world_many (W : World) (g : Nat) (h : RowO W g worldA) : RowO (W.setCell ⟨g, 29, none⟩ (.int .u8 2)) g [cW, vM, pW] := by
  have h1 := heap_setCell_same W g 29 _ _ (.int .u8 2) h
  have e : (catO worldA).setIfInBounds 29 (.int .u8 2) = catO [cW, vM, pW] := by kernel_rfl
  rw [e] at h1
  exact h1
/-- The node of a number. -/
def nd (b : Int) : ByteArray := ⟨#[110, UInt8.ofNat (48 + (b % 10).toNat)]⟩
theorem body_app (ns : List ByteArray) (n : ByteArray) : bodyR (ns ++ [n]) = bodyR ns ++ [podR n, attR n] := by simp [bodyR]

theorem nd_conv (V : World) (b : Int) : (convert 53 9 (.slice (some ⟨V.heap.size, 0, none⟩) 2 2)).run Try.prog (V.alloc (.cells #[.int .u8 110, .int .u8 (48 + b % 10)] 5 (0, 0))) = .ok (.string (nd b)) (V.alloc (.cells #[.int .u8 110, .int .u8 (48 + b % 10)] 5 (0, 0))) := by
  have hd : (((UInt8.ofNat (48 + (b % 10).toNat)).toNat : Nat) : Int) = 48 + b % 10 := by
    have h1 : 0 ≤ b % 10 := Int.emod_nonneg _ (by decide)
    have h2 : b % 10 < 10 := Int.emod_lt_of_pos _ (by decide)
    have h3 : (UInt8.ofNat (48 + (b % 10).toNat)).toNat = (48 + (b % 10).toNat) % 256 := by simp
    rw [h3, Nat.mod_eq_of_lt (by omega)]
    omega
  have h := run_convert_bytes_back (P := Try.prog) (V.alloc (.cells #[.int .u8 110, .int .u8 (48 + b % 10)] 5 (0, 0))) 53 9 5 ⟨V.heap.size, 0, none⟩ 2 [110, UInt8.ofNat (48 + (b % 10).toNat)] Try.underlying53 Try.underlying5 Try.underlying9 (fun j hj => by
    have hj' : j < 2 := hj
    rcases Nat.lt_or_ge j 1 with h1 | h1
    · obtain rfl : j = 0 := by omega
      exact (cell_of_row _ _ 0 _ _ _ (heap_alloc_new V _)).trans rfl
    · obtain rfl : j = 1 := by omega
      refine (cell_of_row _ _ 1 _ _ _ (heap_alloc_new V _)).trans ?_
      show some (Value.int .u8 (48 + b % 10)) = some (Value.int .u8 ((UInt8.ofNat (48 + (b % 10).toNat)).toNat : Int))
      rw [hd])
  exact h
theorem exec_nd (V : World) (b : Int) {oi : Oper} {c : Act} {x : Operand} (ho : oi.op = .convert 53 9 x) (hx : c.eval x = .slice (some ⟨V.heap.size, 0, none⟩) 2 2) :
    (execOp c.eval oi).run Try.prog (V.alloc (.cells #[.int .u8 110, .int .u8 (48 + b % 10)] 5 (0, 0))) = .ok (.value (.string (nd b))) (V.alloc (.cells #[.int .u8 110, .int .u8 (48 + b % 10)] 5 (0, 0))) := by
  unfold execOp
  simp only [ho, hx, Sem.run_bind, nd_conv V b, Result.andThen_ok, Sem.run_pure]
theorem built_podR (n : ByteArray) : Try.prog.built 37 [(0, .int .u8 6), (1, .string (⟨#[112]⟩ ++ n)), (14, .string ⟨#[99]⟩), (13, .string n)] = some (cellsO (podR n)) := by kernel_rfl
theorem built_attR (n : ByteArray) : Try.prog.built 37 [(0, .int .u8 5), (1, .string (⟨#[118, 47]⟩ ++ n)), (15, .string ⟨#[118]⟩), (13, .string n), (17, .int .u8 8)] = some (cellsO (attR n)) := by kernel_rfl
theorem built_attN : Try.prog.built 37 [(0, .int .u8 5), (1, .string ⟨#[118, 47, 110]⟩), (15, .string ⟨#[118]⟩), (13, .string ⟨#[110]⟩), (17, .int .u8 8)] = some (cellsO (attR nmN)) := by
  have e : (⟨#[118, 47, 110]⟩ : ByteArray) = ⟨#[118, 47]⟩ ++ nmN := by decide
  rw [e]
  exact built_attR nmN
theorem built_attX : Try.prog.built 37 [(0, .int .u8 5), (1, .string ⟨#[118, 47, 120]⟩), (15, .string ⟨#[118]⟩), (13, .string ⟨#[120]⟩), (17, .int .u8 8)] = some (cellsO (attR nmX)) := by
  have e : (⟨#[118, 47, 120]⟩ : ByteArray) = ⟨#[118, 47]⟩ ++ nmX := by decide
  rw [e]
  exact built_attR nmX
theorem body_len (ns : List ByteArray) : (bodyR ns).length = 2 * ns.length := by
  unfold bodyR
  induction ns with
  | nil => rfl
  | cons n r ih =>
    rw [List.flatMap_cons, List.length_append, ih, show (n :: r).length = r.length + 1 from rfl]
    show 2 + _ = _
    omega
theorem base_len (ns : List ByteArray) : (baseR ns).length = 3 + 2 * ns.length := by
  show (bodyR ns).length + 1 + 1 + 1 = _
  rw [body_len]
  omega
theorem all_len (ns : List ByteArray) : (allR ns).length = 4 + 2 * ns.length := by
  unfold allR
  rw [List.length_append, base_len]
  show _ + 1 = _
  omega
theorem more_len (ns : List ByteArray) : (moreR ns).length = 5 + 2 * ns.length := by
  unfold moreR
  rw [List.length_append, all_len]
  show _ + 1 = _
  omega
theorem more_sizes (ns : List ByteArray) (h : ∀ n ∈ ns, n.size ≤ 100) : ∀ o ∈ moreR ns, o.name.size ≤ 140737488351232 ∧ o.node.size ≤ 140737488351232 := by
  intro o ho
  have hp : ∀ n : ByteArray, n.size ≤ 100 → (podR n).name.size ≤ 140737488351232 ∧ (podR n).node.size ≤ 140737488351232 := fun n hn => by
    have e : (podR n).name.size = 1 + n.size := by
      show ((⟨#[112]⟩ : ByteArray) ++ n).size = _
      rw [ByteArray.size_append]
      rfl
    exact ⟨by omega, by show n.size ≤ _; omega⟩
  have ha : ∀ n : ByteArray, n.size ≤ 100 → (attR n).name.size ≤ 140737488351232 ∧ (attR n).node.size ≤ 140737488351232 := fun n hn => by
    have e : (attR n).name.size = 2 + n.size := by
      show ((⟨#[118, 47]⟩ : ByteArray) ++ n).size = _
      rw [ByteArray.size_append]
      rfl
    exact ⟨by omega, by show n.size ≤ _; omega⟩
  have ho' : o ∈ (([cW, vM, pW] ++ bodyR ns) ++ [attR nmN]) ++ [attR nmX] := ho
  rw [List.mem_append, List.mem_append, List.mem_append] at ho'
  rcases ho' with ((h1 | h1) | h1) | h1
  · simp only [List.mem_cons, List.not_mem_nil, or_false] at h1
    rcases h1 with rfl | rfl | rfl <;> exact ⟨by decide, by decide⟩
  · obtain ⟨n, hn, rfl | rfl⟩ := mem_body.1 h1
    · exact hp n (h n hn)
    · exact ha n (h n hn)
  · obtain rfl : o = attR nmN := by simpa using h1
    exact ha nmN (by decide)
  · obtain rfl : o = attR nmX := by simpa using h1
    exact ha nmX (by decide)
theorem nds_ne (l : List Int) : ∀ n ∈ l.map nd, n.data.toList ≠ [] := by
  intro n hn
  obtain ⟨b, -, rfl⟩ := List.mem_map.1 hn
  intro h
  cases h
theorem nds_size (l : List Int) : ∀ n ∈ l.map nd, n.size ≤ 100 := by
  intro n hn
  obtain ⟨b, -, rfl⟩ := List.mem_map.1 hn
  show 2 ≤ 100
  omega
theorem nds_x (l : List Int) : nmX ∉ l.map nd := by
  intro hn
  obtain ⟨b, -, h⟩ := List.mem_map.1 hn
  have h2 : (nd b).size = nmX.size := congrArg ByteArray.size h
  exact absurd h2 (by show ¬ (2 : Nat) = 1; decide)
def xR (ver : Int) : Obj := { attR nmX with phase := 9, num := up ver }

set_option maxRecDepth 100000 in
set_option maxHeartbeats 4000000 in
theorem rests_any (l : List Int) (v : Value) (ver : Int) (w : World) (hl : U8In w v l) :
    Calls Try.prog 9 #[v, .int .u64 ver] w fun e w' => e = .returned (.bool true) ∧ Below w.heap.size w w' := by
  obtain ⟨o, cp, rfl, hm, hc⟩ := id hl
  have HC := Lib.hid hc
  clear hl hc
  have HW0 := Lib.hid (world_any w)
  go_enter Try.func9, Try.ntmps9
  go_wp2_with (fail)
  refine HW0.out.mono ?_
  rintro e W1 ⟨g, rfl, hg, hr, hb⟩
  have HR := Lib.hid hr
  have HG := Lib.hid hg
  have HB := Lib.hid hb
  have c29 : W1.cell? ⟨g, 29, none⟩ = some (.int .u8 1) := (cell_of_row W1 g 29 _ _ _ hr).trans rfl
  have f29 : W1.frozen? ⟨g, 29, none⟩ = false := frozen_of_row W1 g 29 _ _ hr
  clear hr hg hb HW0
  go_upto_region 3 with (fail)
  refine wp_gen (fun V => OutIn V w.heap.size (.slice (some ⟨g, 0, none⟩) 3 3) [cW, vM, pW] ∧ Below w.heap.size w V) ⟨own_row HG.out (world_many W1 g HR.out), HB.out.setCell HG.out _⟩ ?_
  clear HR HG HB c29 f29
  rintro X ⟨hx, hw⟩
  have HX := Lib.hid hx
  have HW := Lib.hid hw
  clear hx hw
  go_wp2
  go_loopw [5, 6] (fun lv iv wr => ∃ (j : Nat) (sv : Value), iv = .int .i64 (j : Int) ∧ sv = lv ∧ j ≤ l.length ∧ j ≤ 8 ∧ OutIn wr w.heap.size sv (baseR ((l.take j).map nd)) ∧ Below w.heap.size w wr) (fun _ iv _ => l.length - (RowKit.intOf iv).toNat)
  case atStart => exact ⟨0, _, rfl, rfl, Nat.zero_le _, Nat.zero_le _, HX.out, HW.out⟩
  case round =>
    obtain ⟨j, sv, rfl, rfl, hj, hj8, hout, hlow⟩ := hrel
    have HOUT := Lib.hid hout
    have HLOW := Lib.hid hlow
    clear hout hlow
    by_cases hlt : j < l.length
    · have hlt' : (j : Int) < (l.length : Int) := by omega
      by_cases h8 : j < 8
      · have h8' : (j : Int) < 8 := by omega
        obtain ⟨g2, off, rfl, hg2, hcell, hb0, hb1⟩ := HC.out j hlt
        obtain ⟨b, hbe⟩ : ∃ b, l[j] = b := ⟨_, rfl⟩
        rw [hbe] at hcell hb0 hb1
        have hcl : wr.cell? ⟨g2, off + j, none⟩ = some (.int .u8 b) := (HLOW.out.cell (p := ⟨g2, off + j, none⟩) hg2).trans hcell
        have HBE := Lib.hid hbe
        clear hcell hg2 hbe
        have htk : (l.take (j + 1)).map nd = (l.take j).map nd ++ [nd b] := by rw [List.take_succ_eq_append_getElem hlt, HBE.out, List.map_append]; rfl
        have HTK := Lib.hid htk
        have HCV : Hid (∀ {oi : Oper} {c : Act} {x : Operand}, oi.op = .convert 53 9 x → c.eval x = .slice (some ⟨wr.heap.size, 0, none⟩) 2 2 → (execOp c.eval oi).run Try.prog (wr.alloc (.cells #[.int .u8 110, .int .u8 (48 + b % 10)] 5 (0, 0))) = .ok (.value (.string (nd b))) (wr.alloc (.cells #[.int .u8 110, .int .u8 (48 + b % 10)] 5 (0, 0)))) := fun h1 h2 => exec_nd wr b h1 h2
        have HLN : Hid (((l.take j).map nd).length ≤ 8) := by
          show _ ≤ _
          rw [List.length_map, List.length_take]
          omega
        have hns : (nd b).size ≤ 140737488351232 := by show 2 ≤ _; omega
        clear htk
        go_upto_region 7 with (refine wpList_got rfl (HCV.out rfl rfl) ?_)
        refine wp_gen (fun V => OutIn V w.heap.size sv (baseR ((l.take j).map nd)) ∧ Below w.heap.size w V) ⟨HOUT.out.after ((Below.refl _ _).alloc (Nat.le_refl _) _), HLOW.out.alloc HLOW.out.size _⟩ ?_
        obtain ⟨n, hnd⟩ : ∃ n, nd b = n := ⟨_, rfl⟩
        rw [hnd] at HTK hns ⊢
        clear HCV HOUT HLOW hcl HBE hnd
        rintro A ⟨ha1, ha2⟩
        obtain ⟨pre, hpre⟩ : ∃ pre, (l.take j).map nd = pre := ⟨_, rfl⟩
        rw [hpre] at HTK HLN ha1
        have HP := Lib.hid (built_podR n)
        have HT := Lib.hid (built_attR n)
        obtain ⟨p, hp⟩ : ∃ p, podR n = p := ⟨_, rfl⟩
        obtain ⟨a, ha⟩ : ∃ a, attR n = a := ⟨_, rfl⟩
        have hbody : baseR (pre ++ [n]) = baseR pre ++ [p, a] := by
          unfold baseR
          rw [body_app, hp, ha]
          rfl
        have HBD := Lib.hid hbody
        rw [hp] at HP
        rw [ha] at HT
        have hba : Below A.heap.size A (A.alloc (.cells (catO [p, a]) 37 (0, 0))) := (Below.refl _ _).alloc (Nat.le_refl _) _
        obtain ⟨v', W', hrun, ho4, hb4, -⟩ := add_objs w.heap.size (A.alloc (.cells (catO [p, a]) 37 (0, 0))) sv (baseR pre) [p, a] (.slice (some ⟨A.heap.size, 0, none⟩) 2 2) 22 (ha1.after hba)
          (RowO.objs (l := [p, a]) (heap_alloc_new A _) 2 (by show 2 ≤ _; omega)) (Nat.le_trans ha2.size hba.size) (by have := HLN.out; rw [base_len]; show _ + 2 < _; omega)
        have HO4 := Lib.hid ho4
        have HW4 := Lib.hid ((ha2.trans (hba.mono ha2.size)).trans hb4)
        have HRUN := Lib.hid hrun
        have hr2 := run_objs2 A p a
        have HR2 := Lib.hid hr2
        clear hrun ho4 hb4 hba ha1 ha2 hr2 hp ha hbody hpre
        go_wp2_with (first | ((with_reducible refine wpList_build_to rfl 37 _ rfl (cellsO p) ?_ ?_); exact HP.out; clear HP) | ((with_reducible refine wpList_build_to rfl 37 _ rfl (cellsO a) ?_ ?_); exact HT.out; clear HT) | ((with_reducible refine wpList_objs rfl rfl _ HR2.out ?_ ?_); rfl) | ((with_reducible refine wpList_add rfl rfl HRUN.out ?_ ?_ ?_); rfl; rfl))
        go_roundw
        case rel => exact ⟨j + 1, v', by go_num, rfl, by omega, by omega, by rw [HTK.out, HBD.out]; exact HO4.out, HW4.out⟩
        case measure => simp [RowKit.intOf]; omega
      · have h8' : ¬ (j : Int) < 8 := by omega
        obtain ⟨ns, hns⟩ : ∃ ns, (l.take j).map nd = ns := ⟨_, rfl⟩
        have HNE := Lib.hid (nds_ne (l.take j))
        have HSZ := Lib.hid (nds_size (l.take j))
        have HNX := Lib.hid (nds_x (l.take j))
        have HLN : Hid (((l.take j).map nd).length ≤ 8) := by
          show _ ≤ _
          rw [List.length_map, List.length_take]
          omega
        rw [hns] at HOUT HNE HSZ HNX HLN
        clear hns
        have HTN := Lib.hid built_attN
        have HTX := Lib.hid built_attX
        have HV1 := Lib.hid (vol_all ns HNE.out ver)
        have hv2 : volumeA (moreR ns) ver nmV = writeA (xR ver) := vol_more ns HNE.out HNX.out ver
        have HV2 := Lib.hid hv2
        have HK : Hid ((cellsA (writeA (xR ver)))[14]? = some (.string ⟨#[120]⟩) ∧ (cellsA (writeA (xR ver)))[18]? = some (.int .u8 9)) := ⟨rfl, rfl⟩
        have HALL : Hid (allR ns = baseR ns ++ [attR nmN]) := rfl
        have HMORE : Hid (moreR ns = allR ns ++ [attR nmX]) := rfl
        have HZM := Lib.hid (more_sizes ns HSZ.out)
        have HZA : Hid (∀ o ∈ allR ns, o.name.size ≤ 140737488351232 ∧ o.node.size ≤ 140737488351232) := fun o ho => HZM.out o (by rw [HMORE.out]; exact List.mem_append_left _ ho)
        have HL1 : Hid ((allR ns).length ≤ 20) := by show _ ≤ _; rw [all_len]; have := HLN.out; omega
        have HL2 : Hid ((moreR ns).length ≤ 21) := by show _ ≤ _; rw [more_len]; have := HLN.out; omega
        have HL0 : Hid ((baseR ns).length ≤ 19) := by show _ ≤ _; rw [base_len]; have := HLN.out; omega
        obtain ⟨tn, htn⟩ : ∃ t, attR nmN = t := ⟨_, rfl⟩
        obtain ⟨tx, htx⟩ : ∃ t, attR nmX = t := ⟨_, rfl⟩
        obtain ⟨xr, hxr⟩ : ∃ t, xR ver = t := ⟨_, rfl⟩
        rw [htn] at HTN HALL
        rw [htx] at HTX HMORE
        rw [hxr] at HV2 HK
        obtain ⟨L1, hL1⟩ : ∃ L, allR ns = L := ⟨_, rfl⟩
        obtain ⟨L2, hL2⟩ : ∃ L, moreR ns = L := ⟨_, rfl⟩
        obtain ⟨B0, hB0⟩ : ∃ L, baseR ns = L := ⟨_, rfl⟩
        rw [hL1] at HV1 HALL HMORE HZA HL1
        rw [hL2] at HV2 HMORE HZM HL2
        rw [hB0] at HALL HOUT HL0
        clear hL1 hL2 hB0 htn htx hxr hv2 HNE HSZ HNX HLN HC
        obtain ⟨v1, Y1, hrun1, ho1, hb1, -⟩ := add_obj w.heap.size wr sv B0 tn 22 HOUT.out HLOW.out.size (by have := HL0.out; omega)
        have HRUN1 := Lib.hid hrun1
        rw [← HALL.out] at ho1
        have hw1 := HLOW.out.trans hb1
        obtain ⟨g3, cap3, rfl, hg3⟩ : ∃ g cap, v1 = .slice (some ⟨g, 0, none⟩) L1.length cap ∧ w.heap.size ≤ g := by
          have h := ho1
          rw [HALL.out] at h
          obtain ⟨g, cap, e1, e2⟩ := out_cons h
          exact ⟨g, cap, by rw [e1, HALL.out, List.length_append]; rfl, e2⟩
        have HR0 := Lib.hid (run_objs0 Y1)
        have hba0 : Below Y1.heap.size Y1 (Y1.alloc (.cells #[] 37 (0, 0))) := (Below.refl _ _).alloc (Nat.le_refl _) _
        obtain ⟨v2, Y2, hrun2, ho2, hb2, -⟩ := add_objs Y1.heap.size (Y1.alloc (.cells #[] 37 (0, 0))) (.slice (some ⟨Y1.heap.size, 0, none⟩) 0 0) [] L1 (.slice (some ⟨g3, 0, none⟩) L1.length cap3) 22 (own0 (Nat.le_refl _) (heap_alloc_new _ _))
          ((ho1.after hba0).objs (by have := HL1.out; omega)) hba0.size (by have := HL1.out; show 0 + _ < _; omega)
        have HRUN2 := Lib.hid hrun2
        have hb02 := hba0.trans hb2
        obtain ⟨v3, Y3, hrun3, ho3, hb3, -⟩ := add_obj Y1.heap.size Y2 v2 L1 tx 22 ho2 hb02.size (by have := HL1.out; omega)
        have HRUN3 := Lib.hid hrun3
        rw [← HMORE.out] at ho3
        have hb03 := hb02.trans hb3
        have HO1 := Lib.hid (ho1.after hb03)
        have HO3 := Lib.hid ho3
        have hw3 := hw1.trans (hb03.mono hw1.size)
        have HW3 := Lib.hid hw3
        have HC3 := Lib.hid (volA_any L2 v3 ver nmV Y3 (ho3.objs (by have := HL2.out; omega)) (by have := HL2.out; omega) HZM.out)
        rw [HV2.out] at HC3
        have HQ1 := Lib.hid (run_objs1 wr tn)
        have HQ3 := Lib.hid (run_objs1 Y2 tx)
        unfold nmV at HC3
        clear hrun1 ho1 hb1 hw1 hba0 hrun2 ho2 hb2 hb02 hrun3 ho3 hb3 hb03 hw3 HOUT HLOW HV2 HALL HMORE
        go_wp2_with (first | ((with_reducible refine wpList_build_to rfl 37 _ rfl (cellsO tn) ?_ ?_); exact HTN.out; clear HTN) | ((with_reducible refine wpList_objs rfl rfl _ HQ1.out ?_ ?_); rfl) | ((with_reducible refine wpList_add rfl rfl HRUN1.out ?_ ?_ ?_); rfl; rfl) | ((with_reducible refine wpList_objs rfl rfl _ HR0.out ?_ ?_); rfl) | ((with_reducible refine wpList_add rfl rfl HRUN2.out ?_ ?_ ?_); rfl; rfl) | ((with_reducible refine wpList_build_to rfl 37 _ rfl (cellsO tx) ?_ ?_); exact HTX.out; clear HTX) | ((with_reducible refine wpList_objs rfl rfl _ HQ3.out ?_ ?_); rfl) | ((with_reducible refine wpList_add rfl rfl HRUN3.out ?_ ?_ ?_); rfl; rfl))
        refine HC3.out.mono ?_
        rintro e W4 ⟨rfl, hb4⟩
        obtain ⟨X4, sx4, ax4, lx4⟩ := actbox W4 (writeA xr)
        have hb44 := hb4.trans (lx4.mono hb4.size)
        have HO4 := Lib.hid (HO1.out.after hb44)
        have HW4 := Lib.hid (HW3.out.trans (hb44.mono HW3.out.size))
        have HA4 := Lib.hid ax4
        have HLV := Lib.hid (live_any X4)
        clear hb4 lx4 hb44 ax4 HC3 HO1 HW3 HO3 HRUN1 HRUN2 HRUN3 HQ1 HQ3 HR0
        go_wp2_with (first | (refine wpList_skip rfl (sx4 rfl rfl rfl) ?_))
        refine HLV.out.mono ?_
        rintro e W5 ⟨rfl, hb5⟩
        have HO5 := Lib.hid (HO4.out.after hb5)
        have HW5 := Lib.hid (HW4.out.trans (hb5.mono HW4.out.size))
        have HA5 := Lib.hid (HA4.out.after hb5)
        have HC5 := Lib.hid (volA_any L1 (.slice (some ⟨g3, 0, none⟩) L1.length cap3) ver nmV W5 (HO5.out.objs (by have := HL1.out; omega)) (by have := HL1.out; omega) HZA.out)
        rw [HV1.out] at HC5
        unfold nmV at HC5
        clear hb5 HLV HO4 HW4 HA4 sx4 HV1
        go_wp2_with (fail)
        refine HC5.out.mono ?_
        rintro e W6 ⟨rfl, hb6⟩
        have ha := HA5.out.after hb6
        have a0 : W6.cell? ⟨W4.heap.size, 0, none⟩ = some (.int .u8 1) := (cell_of_row W6 _ 0 _ _ _ ha).trans rfl
        have a14 : W6.cell? ⟨W4.heap.size, 14, none⟩ = some (.string ⟨#[120]⟩) := (cell_of_row W6 _ 14 _ _ _ ha).trans HK.out.1
        have a18 : W6.cell? ⟨W4.heap.size, 18, none⟩ = some (.int .u8 9) := (cell_of_row W6 _ 18 _ _ _ ha).trans HK.out.2
        have HX6 := Lib.hid (HW5.out.trans (hb6.mono HW5.out.size))
        clear ha hb6 HC5 HO5 HW5 HA5 HK
        go_wp2_with (first | ((with_reducible refine wpList_build_to rfl 42 _ rfl (cellsA nothing) ?_ ?_); exact built_act0) | (refine wpList_got rfl (exec_eql_same (A := nothing) rfl rfl rfl) ?_))
        go_ret
        exact ⟨rfl, HX6.out⟩
    · have hlt' : ¬ (j : Int) < (l.length : Int) := by omega
      obtain ⟨ns, hns⟩ : ∃ ns, (l.take j).map nd = ns := ⟨_, rfl⟩
      have HNE := Lib.hid (nds_ne (l.take j))
      have HSZ := Lib.hid (nds_size (l.take j))
      have HNX := Lib.hid (nds_x (l.take j))
      have HLN : Hid (((l.take j).map nd).length ≤ 8) := by
        show _ ≤ _
        rw [List.length_map, List.length_take]
        omega
      rw [hns] at HOUT HNE HSZ HNX HLN
      clear hns
      have HTN := Lib.hid built_attN
      have HTX := Lib.hid built_attX
      have HV1 := Lib.hid (vol_all ns HNE.out ver)
      have hv2 : volumeA (moreR ns) ver nmV = writeA (xR ver) := vol_more ns HNE.out HNX.out ver
      have HV2 := Lib.hid hv2
      have HK : Hid ((cellsA (writeA (xR ver)))[14]? = some (.string ⟨#[120]⟩) ∧ (cellsA (writeA (xR ver)))[18]? = some (.int .u8 9)) := ⟨rfl, rfl⟩
      have HALL : Hid (allR ns = baseR ns ++ [attR nmN]) := rfl
      have HMORE : Hid (moreR ns = allR ns ++ [attR nmX]) := rfl
      have HZM := Lib.hid (more_sizes ns HSZ.out)
      have HZA : Hid (∀ o ∈ allR ns, o.name.size ≤ 140737488351232 ∧ o.node.size ≤ 140737488351232) := fun o ho => HZM.out o (by rw [HMORE.out]; exact List.mem_append_left _ ho)
      have HL1 : Hid ((allR ns).length ≤ 20) := by show _ ≤ _; rw [all_len]; have := HLN.out; omega
      have HL2 : Hid ((moreR ns).length ≤ 21) := by show _ ≤ _; rw [more_len]; have := HLN.out; omega
      have HL0 : Hid ((baseR ns).length ≤ 19) := by show _ ≤ _; rw [base_len]; have := HLN.out; omega
      obtain ⟨tn, htn⟩ : ∃ t, attR nmN = t := ⟨_, rfl⟩
      obtain ⟨tx, htx⟩ : ∃ t, attR nmX = t := ⟨_, rfl⟩
      obtain ⟨xr, hxr⟩ : ∃ t, xR ver = t := ⟨_, rfl⟩
      rw [htn] at HTN HALL
      rw [htx] at HTX HMORE
      rw [hxr] at HV2 HK
      obtain ⟨L1, hL1⟩ : ∃ L, allR ns = L := ⟨_, rfl⟩
      obtain ⟨L2, hL2⟩ : ∃ L, moreR ns = L := ⟨_, rfl⟩
      obtain ⟨B0, hB0⟩ : ∃ L, baseR ns = L := ⟨_, rfl⟩
      rw [hL1] at HV1 HALL HMORE HZA HL1
      rw [hL2] at HV2 HMORE HZM HL2
      rw [hB0] at HALL HOUT HL0
      clear hL1 hL2 hB0 htn htx hxr hv2 HNE HSZ HNX HLN HC
      obtain ⟨v1, Y1, hrun1, ho1, hb1, -⟩ := add_obj w.heap.size wr sv B0 tn 22 HOUT.out HLOW.out.size (by have := HL0.out; omega)
      have HRUN1 := Lib.hid hrun1
      rw [← HALL.out] at ho1
      have hw1 := HLOW.out.trans hb1
      obtain ⟨g3, cap3, rfl, hg3⟩ : ∃ g cap, v1 = .slice (some ⟨g, 0, none⟩) L1.length cap ∧ w.heap.size ≤ g := by
        have h := ho1
        rw [HALL.out] at h
        obtain ⟨g, cap, e1, e2⟩ := out_cons h
        exact ⟨g, cap, by rw [e1, HALL.out, List.length_append]; rfl, e2⟩
      have HR0 := Lib.hid (run_objs0 Y1)
      have hba0 : Below Y1.heap.size Y1 (Y1.alloc (.cells #[] 37 (0, 0))) := (Below.refl _ _).alloc (Nat.le_refl _) _
      obtain ⟨v2, Y2, hrun2, ho2, hb2, -⟩ := add_objs Y1.heap.size (Y1.alloc (.cells #[] 37 (0, 0))) (.slice (some ⟨Y1.heap.size, 0, none⟩) 0 0) [] L1 (.slice (some ⟨g3, 0, none⟩) L1.length cap3) 22 (own0 (Nat.le_refl _) (heap_alloc_new _ _))
        ((ho1.after hba0).objs (by have := HL1.out; omega)) hba0.size (by have := HL1.out; show 0 + _ < _; omega)
      have HRUN2 := Lib.hid hrun2
      have hb02 := hba0.trans hb2
      obtain ⟨v3, Y3, hrun3, ho3, hb3, -⟩ := add_obj Y1.heap.size Y2 v2 L1 tx 22 ho2 hb02.size (by have := HL1.out; omega)
      have HRUN3 := Lib.hid hrun3
      rw [← HMORE.out] at ho3
      have hb03 := hb02.trans hb3
      have HO1 := Lib.hid (ho1.after hb03)
      have HO3 := Lib.hid ho3
      have hw3 := hw1.trans (hb03.mono hw1.size)
      have HW3 := Lib.hid hw3
      have HC3 := Lib.hid (volA_any L2 v3 ver nmV Y3 (ho3.objs (by have := HL2.out; omega)) (by have := HL2.out; omega) HZM.out)
      rw [HV2.out] at HC3
      have HQ1 := Lib.hid (run_objs1 wr tn)
      have HQ3 := Lib.hid (run_objs1 Y2 tx)
      unfold nmV at HC3
      clear hrun1 ho1 hb1 hw1 hba0 hrun2 ho2 hb2 hb02 hrun3 ho3 hb3 hb03 hw3 HOUT HLOW HV2 HALL HMORE
      go_wp2_with (first | ((with_reducible refine wpList_build_to rfl 37 _ rfl (cellsO tn) ?_ ?_); exact HTN.out; clear HTN) | ((with_reducible refine wpList_objs rfl rfl _ HQ1.out ?_ ?_); rfl) | ((with_reducible refine wpList_add rfl rfl HRUN1.out ?_ ?_ ?_); rfl; rfl) | ((with_reducible refine wpList_objs rfl rfl _ HR0.out ?_ ?_); rfl) | ((with_reducible refine wpList_add rfl rfl HRUN2.out ?_ ?_ ?_); rfl; rfl) | ((with_reducible refine wpList_build_to rfl 37 _ rfl (cellsO tx) ?_ ?_); exact HTX.out; clear HTX) | ((with_reducible refine wpList_objs rfl rfl _ HQ3.out ?_ ?_); rfl) | ((with_reducible refine wpList_add rfl rfl HRUN3.out ?_ ?_ ?_); rfl; rfl))
      refine HC3.out.mono ?_
      rintro e W4 ⟨rfl, hb4⟩
      obtain ⟨X4, sx4, ax4, lx4⟩ := actbox W4 (writeA xr)
      have hb44 := hb4.trans (lx4.mono hb4.size)
      have HO4 := Lib.hid (HO1.out.after hb44)
      have HW4 := Lib.hid (HW3.out.trans (hb44.mono HW3.out.size))
      have HA4 := Lib.hid ax4
      have HLV := Lib.hid (live_any X4)
      clear hb4 lx4 hb44 ax4 HC3 HO1 HW3 HO3 HRUN1 HRUN2 HRUN3 HQ1 HQ3 HR0
      go_wp2_with (first | (refine wpList_skip rfl (sx4 rfl rfl rfl) ?_))
      refine HLV.out.mono ?_
      rintro e W5 ⟨rfl, hb5⟩
      have HO5 := Lib.hid (HO4.out.after hb5)
      have HW5 := Lib.hid (HW4.out.trans (hb5.mono HW4.out.size))
      have HA5 := Lib.hid (HA4.out.after hb5)
      have HC5 := Lib.hid (volA_any L1 (.slice (some ⟨g3, 0, none⟩) L1.length cap3) ver nmV W5 (HO5.out.objs (by have := HL1.out; omega)) (by have := HL1.out; omega) HZA.out)
      rw [HV1.out] at HC5
      unfold nmV at HC5
      clear hb5 HLV HO4 HW4 HA4 sx4 HV1
      go_wp2_with (fail)
      refine HC5.out.mono ?_
      rintro e W6 ⟨rfl, hb6⟩
      have ha := HA5.out.after hb6
      have a0 : W6.cell? ⟨W4.heap.size, 0, none⟩ = some (.int .u8 1) := (cell_of_row W6 _ 0 _ _ _ ha).trans rfl
      have a14 : W6.cell? ⟨W4.heap.size, 14, none⟩ = some (.string ⟨#[120]⟩) := (cell_of_row W6 _ 14 _ _ _ ha).trans HK.out.1
      have a18 : W6.cell? ⟨W4.heap.size, 18, none⟩ = some (.int .u8 9) := (cell_of_row W6 _ 18 _ _ _ ha).trans HK.out.2
      have HX6 := Lib.hid (HW5.out.trans (hb6.mono HW5.out.size))
      clear ha hb6 HC5 HO5 HW5 HA5 HK
      go_wp2_with (first | ((with_reducible refine wpList_build_to rfl 42 _ rfl (cellsA nothing) ?_ ?_); exact built_act0) | (refine wpList_got rfl (exec_eql_same (A := nothing) rfl rfl rfl) ?_))
      go_ret
      exact ⟨rfl, HX6.out⟩
end Go.Proofs.Ytigoghhjncpgfaa.O.B
