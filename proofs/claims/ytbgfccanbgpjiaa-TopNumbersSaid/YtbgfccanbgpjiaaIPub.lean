/- A volume is published at a node: of any driver. -/
import Derived.Test.YtbgfccanbgpjiaaIDo
namespace Go.Proofs.Ytbgfccanbgpjiaa.O.I
open Go Go.RowKit Go.Lib KM
attribute [local go_sem] Oper.semAt_some

theorem und_N : Try.prog.underlying tN = some (.map 9 100) := Try.underlying93
theorem built_r0 : Try.prog.built 50 [] = some (cellsR zeroR) := by kernel_rfl
theorem built_u0 : Try.prog.built 100 [] = some #[] := by kernel_rfl
/-- All stays as it is, but a volume's nodes. -/
def Only (m : Nat) (w w' : World) : Prop := (∀ g, g < w.heap.size → g ≠ m → w'.heap[g]? = w.heap[g]?) ∧ ∀ B, B ≤ m → B ≤ w.heap.size → Below B w w'

set_option maxRecDepth 100000 in
set_option maxHeartbeats 4000000 in
theorem publish_ok (d r v s n m : Nat) (Ro Vo So : List (ByteArray × Value)) (No : List (Tg × Value)) (t node : ByteArray) (x : Vl) (M : List (ByteArray × Value)) (w : World)
    (hd : DrAt w d r v s n Ro Vo So No) (hV : KM.get t Vo = some (encV x)) (hx : x.nodes = some m) (hm : IsMap encS w m M) (hst : Stamp w m) :
    Calls Try.prog 70 #[.pointer (some ⟨d, 0, none⟩), .string t, .string node] w fun e w' => e = .returned (encR zeroR) ∧ IsMap encS w' m (KM.put node (.agg #[]) M) ∧ Stamp w' m ∧ Only m w w' := by
  have HD := Lib.hid hd
  have HV := Lib.hid hV
  have HX := Lib.hid hx
  have HM := Lib.hid hm
  have HS := Lib.hid hst
  have HLT := Lib.hid hm.lt
  clear hd hV hx hm hst
  go_enter Try.func70, Try.ntmps70
  go_upto_region 1 with (fail)
  refine wp_gen (fun V => BoxR V w.heap.size zeroR ∧ Below w.heap.size w V) ⟨heap_alloc_new _ _, (Below.refl _ _).alloc (Nat.le_refl _) _⟩ ?_
  rintro V0 ⟨hr, hw⟩
  have hd0 := HD.out.after hw
  have c1 := hd0.box.c1
  obtain ⟨V1, sv, bv, lv⟩ := boxV V0 zeroV rfl x
  have hlt := HLT.out
  have hsz := hw.size
  have hr0 : w.heap.size < V0.heap.size := hr.lt
  have hm1 : IsMap encS V1 m M := (HM.out.after hw).after lv
  have hs1 : Stamp V1 m := HS.out.of_heap ((lv.block m (by omega)).trans (hw.block m (by omega)))
  obtain ⟨V2, su, hm2, ht2, hs2⟩ := exec_upds und_N hm1 hs1 node (.agg #[])
  have c3 := bv.c3
  rw [HX.out] at c3
  have hr2 : BoxR V2 w.heap.size zeroR := (ht2.block _ (by omega)).trans (hr.after lv)
  obtain ⟨V3, sr, br, or, lr⟩ := stoR hr2 zeroR
  have HRES : Hid (IsMap encS V3 m (KM.put node (.agg #[]) M) ∧ Stamp V3 m ∧ Only m w V3) := by
    show _ ∧ _
    refine ⟨hm2.of_heap (or m (by omega)), hs2.of_heap (or m (by omega)), fun g hg hgm => ?_, fun B hB1 hB2 => ?_⟩
    · rw [or g (by omega), ht2.block g hgm, lv.block g (by omega), hw.block g hg]
    · exact lr _ _ (((hw.mono hB2).trans (lv.mono (by omega))).trans (ht2.below hB1)) hB2
  have HBR := Lib.hid br
  have HDV := Lib.hid hd0.vols
  clear hr hw hm1 hs1 hm2 ht2 hs2 hr2 br or lr lv bv hd0 HD HM HS HX HLT hlt hsz hr0
  go_wp2_with (first | (refine wpList_got rfl (exec_look2 und_V (zero_V _) HDV.out (some (encV x)) HV.out rfl rfl rfl) ?_) | (refine wpList_skip rfl (sv rfl rfl rfl) ?_) | ((with_reducible refine wpList_build_to rfl 100 _ rfl #[] ?_ ?_); exact built_u0) | (refine wpList_skip rfl (su rfl rfl rfl rfl) ?_) | ((with_reducible refine wpList_build_to rfl 50 _ rfl (cellsR zeroR) ?_ ?_); exact built_r0) | (refine wpList_skip rfl (sr rfl rfl rfl) ?_))
  refine bodyPost_ret (v := encR zeroR) (results_cell_row rfl _ _ w.heap.size 50 (cellsR zeroR) (0, 0) _ rfl HBR.out undR rfl sizeR) rfl ?_
  exact ⟨rfl, HRES.out⟩
end Go.Proofs.Ytbgfccanbgpjiaa.O.I
