/- The law CodecReads: its walk; how many bytes come in. -/
import Derived.Test.YtacbfpgknfcimaaCRefRA
import Derived.Test.YtacbfpgknfcimaaCCalls
import Derived.Test.YtacbfpgknfcimaaCEvs
import Derived.Test.YtacbfpgknfcimaaCAppB
namespace Go.Proofs.Ytacbfpgknfcimaa.C
open Go.ChangeShapes Go.WideShapes Go.RowKit T O
open Go.Lib hiding intOf

set_option maxRecDepth 100000 in
theorem bytes_weight {H : Type} {enc : TypeId × Value → H} {w : World} {base : Nat} {spare : Nat → Bool} {held : Bool} {v : Value} {d : DataW H} {p : List MemPlace} {l : Bytes}
    (hB : BytesIn w v l) (h : DataW.Trod enc Try.prog w base spare held 30 v d p) : l = [] ∨ ∃ es ss, d = .slice es ss ∧ l.length ≤ es.length + ss.length := by
  rcases hB with ⟨c, -, rfl⟩ | ⟨g, off, cap, rfl, h1, h2, h3, h4⟩
  · exact .inl rfl
  · obtain ⟨fuel, hf⟩ := h
    rcases open_ints Try.underlying30 Try.underlying5 (by kernel_rfl) hf with ⟨hcs, -⟩ | ⟨a, len', cap', zs, hcs, -, hl, hm, hz, hx, -, -⟩
    · simp [Value.cells] at hcs
    · have e : (Value.slice (some ⟨g, off, none⟩) l.length cap) = .slice (some a) len' cap' := by simpa [Value.cells] using hcs
      cases e
      cases hx
      have hzl : l.length ≤ zs.length := by
        rw [hz]
        split <;> omega
      exact .inr ⟨_, _, rfl, by simp [lits]; omega⟩
theorem ReadAs.res {α : Type} {P : Rd α} {enc : α → Value} {zero : α} {l : Bytes} {W W' : World} {e : Ending} (h : ReadAs α P enc zero l W e W') :
    Below W.heap.size W W' ∧ e = .returned (.tuple #[enc ((allR P l).getD zero), .int .i64 (if (allR P l).isSome = true then 0 else 2)]) := by
  obtain ⟨h1, ⟨x, h2, rfl⟩ | ⟨h2, rfl⟩⟩ := h
  · refine ⟨h1, ?_⟩; rw [h2]; rfl
  · refine ⟨h1, ?_⟩; rw [h2]; rfl
/-- The bytes as they lie, and their copy. -/
structure Two (w : World) (v u : Value) (l : Bytes) (W : World) : Prop where
  a : BytesIn W v l
  b : BytesIn W u l
  low : Below w.heap.size w W
theorem Two.after {w : World} {v u : Value} {l : Bytes} {W W1 : World} (h : Two w v u l W) (hb : Below W.heap.size W W1) : Two w v u l W1 := ⟨h.a.after hb, h.b.after hb, h.low.trans (hb.mono h.low.size)⟩

set_option maxRecDepth 100000 in
set_option maxHeartbeats 8000000 in
theorem codecReads_any (v : Value) (l : Bytes) (hl : l.length ≤ 140737488355328) (w : World) (h : BytesIn w v l) :
    Calls Try.prog 4 #[v] w fun e w' => e = .returned (.bool true) ∧ Below w.heap.size w w' := by
  have hB0 := Lib.hid (fun k hk => h.lt (k := k) hk)
  replace hB0 : Hid (∀ k, v.ownBlock = some k → k < w.heap.size) := hB0.out
  have hy := h.alloc (.cells #[] 5 (0, 0))
  have HY : Hid (([] : Bytes).length + l.length ≤ 140737488355328) := by show _ ≤ _; simpa using hl
  have H0 : Hid (Held (w.alloc (.cells #[] 5 (0, 0))) w.heap.size (.slice (some ⟨w.heap.size, 0, none⟩) 0 0) []) := World.ownsRow_made w #[] 0 (Nat.le_refl _) (by decide) rfl
  have HH := Lib.hid h
  clear h hl
  go_enter Try.func4, Try.ntmps4
  go_upto_region 2 with (at_builtin; refine wpList_append_bytes rfl (.tmp 12) (.tmp 13) rfl w.heap.size (.slice (some ⟨w.heap.size, 0, none⟩) 0 0) [] ?_ H0.out v l ?_ hy HY.out ?_ ?_; rfl; rfl; (focus (simp)); intro u1 X1 hH1 hG1)
  rw [List.nil_append] at hH1
  have hbX : Below w.heap.size w X1 := ((Below.refl _ _).alloc (Nat.le_refl _) _).trans (hG1.below H0.out (by simp))
  refine wp_gen (fun W => Two w v u1 l W) ⟨HH.out.below hbX hB0.out, hH1.bytes, hbX⟩ ?_
  clear hy HY H0 HH hH1 hG1 hbX hB0
  rintro W0 HT
  obtain ⟨x, hx⟩ : ∃ x, (allR rdObj l).getD O0 = x := ⟨_, rfl⟩
  obtain ⟨n, hn⟩ : ∃ n : Int, (if (allR rdObj l).isSome = true then (0 : Int) else 2) = n := ⟨_, rfl⟩
  obtain ⟨y, hy⟩ : ∃ y, (allR rdEv l).getD Ev0 = y := ⟨_, rfl⟩
  obtain ⟨m, hm⟩ : ∃ n : Int, (if (allR rdEv l).isSome = true then (0 : Int) else 2) = n := ⟨_, rfl⟩
  have HX := Lib.hid hx
  have HN := Lib.hid hn
  have HY := Lib.hid hy
  have HM := Lib.hid hm
  clear hx hn hy hm
  go_wp2_with fail
  refine (read_any u1 l _ HT.b).mono ?_
  rintro e V1 hr
  obtain ⟨hb1, rfl⟩ := hr.res
  rw [HX.out, HN.out]
  replace HT := HT.after hb1
  clear hr hb1
  have hn := BoxO.new V1 O0
  have hbb := below_setRow ((Below.refl V1.heap.size V1).alloc (Nat.le_refl _) (.cells (cellsO O0) 27 (0, 0))) (Nat.le_refl _) (cellsO x)
  go_upto_region 3 with ((with_reducible refine wpList_store_rowTo rfl 27 _ _ rfl rfl V1.heap.size (cellsO x) ?_ ?_ 27 (cellsO O0) ?_ ?_ ?_ ?_ ?_); rfl; rfl; exact hn; exact sizeObj; exact sz_cells _ _; exact one_cells _)
  obtain ⟨b1, hb1⟩ : ∃ b, b = V1.heap.size := ⟨_, rfl⟩
  rw [← hb1] at hn ⊢
  refine wp_gen (fun W => BoxO W b1 x ∧ Two w v u1 l W) ⟨hn.setRow x, HT.after (by rw [hb1]; exact hbb)⟩ ?_
  clear HT hn hbb hb1
  rintro V2 ⟨h1, HT⟩
  go_wp2_with fail
  refine (refRead_any v l _ HT.a).mono ?_
  rintro e V3 hr
  obtain ⟨hb1, rfl⟩ := hr.res
  rw [HX.out, HN.out]
  replace HT := HT.after hb1
  replace h1 := h1.after hb1
  clear hr hb1
  have hn := BoxO.new V3 O0
  have hbb := below_setRow ((Below.refl V3.heap.size V3).alloc (Nat.le_refl _) (.cells (cellsO O0) 27 (0, 0))) (Nat.le_refl _) (cellsO x)
  go_upto_region 4 with ((with_reducible refine wpList_store_rowTo rfl 27 _ _ rfl rfl V3.heap.size (cellsO x) ?_ ?_ 27 (cellsO O0) ?_ ?_ ?_ ?_ ?_); rfl; rfl; exact hn; exact sizeObj; exact sz_cells _ _; exact one_cells _)
  obtain ⟨b2, hb2⟩ : ∃ b, b = V3.heap.size := ⟨_, rfl⟩
  rw [← hb2] at hn ⊢
  refine wp_gen (fun W => BoxO W b1 x ∧ BoxO W b2 x ∧ Two w v u1 l W) ⟨h1.after (by rw [hb2]; exact hbb), hn.setRow x, HT.after (by rw [hb2]; exact hbb)⟩ ?_
  clear HT hn hbb hb2 h1
  rintro V4 ⟨h1, h2, HT⟩
  go_wp2_with fail
  refine (readChangeAll_any u1 l _ HT.b).mono ?_
  rintro e V5 hr
  obtain ⟨hb1, rfl⟩ := hr.res
  rw [HY.out, HM.out]
  replace HT := HT.after hb1
  replace h1 := h1.after hb1
  replace h2 := h2.after hb1
  clear hr hb1
  have hn := BoxE.new V5 Ev0
  have hbb := below_setRow ((Below.refl V5.heap.size V5).alloc (Nat.le_refl _) (.cells (cellsE Ev0) 29 (0, 0))) (Nat.le_refl _) (cellsE y)
  go_upto_region 5 with ((with_reducible refine wpList_store_rowTo rfl 29 _ _ rfl rfl V5.heap.size (cellsE y) ?_ ?_ 29 (cellsE Ev0) ?_ ?_ ?_ ?_ ?_); rfl; rfl; exact hn; exact sizeEv; exact rfl; exact one_cellsE _)
  obtain ⟨b3, hb3⟩ : ∃ b, b = V5.heap.size := ⟨_, rfl⟩
  rw [← hb3] at hn ⊢
  refine wp_gen (fun W => BoxO W b1 x ∧ BoxO W b2 x ∧ BoxE W b3 y ∧ Two w v u1 l W) ⟨h1.after (by rw [hb3]; exact hbb), h2.after (by rw [hb3]; exact hbb), hn.setRow y, HT.after (by rw [hb3]; exact hbb)⟩ ?_
  clear HT hn hbb hb3 h1 h2
  rintro V6 ⟨h1, h2, h3, HT⟩
  go_wp2_with fail
  refine (refReadChange_any v l _ HT.a).mono ?_
  rintro e V7 hr
  obtain ⟨hb1, rfl⟩ := hr.res
  rw [HY.out, HM.out]
  replace HT := HT.after hb1
  replace h1 := h1.after hb1
  replace h2 := h2.after hb1
  replace h3 := h3.after hb1
  clear hr hb1
  have hn := BoxE.new V7 Ev0
  have hbb := below_setRow ((Below.refl V7.heap.size V7).alloc (Nat.le_refl _) (.cells (cellsE Ev0) 29 (0, 0))) (Nat.le_refl _) (cellsE y)
  go_upto_region 6 with ((with_reducible refine wpList_store_rowTo rfl 29 _ _ rfl rfl V7.heap.size (cellsE y) ?_ ?_ 29 (cellsE Ev0) ?_ ?_ ?_ ?_ ?_); rfl; rfl; exact hn; exact sizeEv; exact rfl; exact one_cellsE _)
  obtain ⟨b4, hb4⟩ : ∃ b, b = V7.heap.size := ⟨_, rfl⟩
  rw [← hb4] at hn ⊢
  refine wp_gen (fun W => BoxO W b1 x ∧ BoxO W b2 x ∧ BoxE W b3 y ∧ BoxE W b4 y ∧ Two w v u1 l W) ⟨h1.after (by rw [hb4]; exact hbb), h2.after (by rw [hb4]; exact hbb), h3.after (by rw [hb4]; exact hbb), hn.setRow y, HT.after (by rw [hb4]; exact hbb)⟩ ?_
  clear HT hn hbb hb4 h1 h2 h3 HX HN HY HM
  rintro V8 ⟨h1, h2, h3, h4, HT⟩
  go_wp2_with fail
  refine (live_any _).mono ?_
  rintro e V9 ⟨rfl, hb1⟩
  replace HT := HT.after hb1
  replace h1 := h1.after hb1
  replace h2 := h2.after hb1
  replace h3 := h3.after hb1
  replace h4 := h4.after hb1
  have c1 := HT.a.str 9 Try.underlying9
  have c2 := HT.b.str 9 Try.underlying9
  have hlow := HT.low
  clear hb1 HT
  generalize (⟨l.toArray⟩ : ByteArray) = S1 at *
  go_wp2_with (first | ((with_reducible refine wpList_load_obj ?_ rfl ?_ h1 ?_); rfl; rfl) | ((with_reducible refine wpList_load_obj ?_ rfl ?_ h2 ?_); rfl; rfl) | ((with_reducible refine wpList_load_ev ?_ rfl ?_ h3 ?_); rfl; rfl) | ((with_reducible refine wpList_load_ev ?_ rfl ?_ h4 ?_); rfl; rfl) | (refine wpList_known (v := .bool true) rfl (eql_objs rfl (p := x) (q := x) rfl rfl (by simp)) ?_) | (refine wpList_known (v := .bool true) rfl (eql_evs rfl (p := y) (q := y) rfl rfl (by simp)) ?_))
  go_ret
  exact ⟨rfl, hlow⟩
end Go.Proofs.Ytacbfpgknfcimaa.C
