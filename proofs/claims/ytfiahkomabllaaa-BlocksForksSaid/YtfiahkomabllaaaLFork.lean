/- (*blocks.Log).Clean, (*blocks.Log).Fork. -/
import Derived.Test.YtfiahkomabllaaaLNil
import Derived.Laws.Cover3
namespace Go.Proofs.Ytfiahkomabllaaa.L
open Go Go.RowKit
open Go.Lib

/-- What is left when all behind the whole records is taken away. -/
def cleanS (s : Lg) : Lg := ⟨s.most, blks (recs s.b), s.b.take (blks (recs s.b) * 64)⟩
theorem recs_clean (b : Bytes) : recs (b.take (blks (recs b) * 64)) = recs b := by
  have h := (recs_all b).1
  refine (recs_of ⟨h.of_take (by rw [List.take_take, Nat.min_self]), ?_⟩).symm
  rw [List.drop_of_length_le (by rw [List.length_take]; omega)]
  rfl
theorem sync_raw (B q most last wh en k : Nat) (v : Value) (b : Bytes) (w : World) (h1 : LogAt w q most v last wh en) (h2 : Row w B v k b) (_hk : k ≤ 4096) : Calls Try.prog 18 #[.pointer (some ⟨q, 0, none⟩)] w fun e w' => e = .returned (.int .i64 0) ∧ w' = w.setCell ⟨q, 2, none⟩ (.int .i64 (k : Nat)) := by
  obtain ⟨a, c, rfl⟩ := h2.blks.shape
  have c1 := h1.c1
  have f2 := h1.free 2
  have c2 := h1.c2
  clear h1 h2
  go_enter Try.func18, Try.ntmps18
  go_wp2
  go_ret
  exact ⟨rfl, rfl⟩
set_option maxRecDepth 100000 in
set_option maxHeartbeats 400000 in
theorem clean_any (B q : Nat) (og : Option Nat) (s : Lg) (w : World) (h : IsLog B w q og s) : Calls Try.prog 25 #[.pointer (some ⟨q, 0, none⟩)] w (DeedA B q og w (0, cleanS s)) := by
  obtain ⟨v, k, l1, l2, l3, l4, l5⟩ := h.at_
  have hmost := h.most
  have hlow := h.low
  have hlt := h.lt
  have hle := (recs_all s.b).1.le
  rw [l2.1] at hle
  obtain ⟨a, c, rfl⟩ := l2.blks.shape
  obtain ⟨x1, hs1, hx1, ho1⟩ := l2.head (n := blks (recs s.b)) (by omega) .i64
  obtain ⟨a1, c1', rfl⟩ := hx1.blks.shape
  have HX1 := Lib.hid hx1
  have HO1 : Hid ((Value.slice a1 (blks (recs s.b)) c1').ownBlock = og) := ho1.trans l3
  have HQ := Lib.hid l1
  have HR : Hid (recs (s.b.take (blks (recs s.b) * 64)) = recs s.b) := recs_clean s.b
  have hen : blks (recs s.b) ≤ 4096 := by omega
  have HEM : Hid (blks (recs s.b) ≤ s.most) := by show _ ≤ _; omega
  clear h l1 l2 l3 l5 hx1 ho1
  have HCS : Hid (cleanS s = ⟨s.most, blks (recs s.b), s.b.take (blks (recs s.b) * 64)⟩) := rfl
  generalize hwh : (recs s.b).length = wh at *
  generalize hee : blks (recs s.b) = en at *
  have HWH := Lib.hid hwh
  have HEE := Lib.hid hee
  clear hwh hee hle
  have d1 := HQ.out.c1
  have d4 := HQ.out.c4
  have f1 := HQ.out.free 1
  go_enter Try.func25, Try.ntmps25
  go_wp2
  refine wp_region_still_tail 10 (by kernel_rfl) (by kernel_rfl) ?_
  simp only [List.take_succ_cons, List.take_zero, List.drop_succ_cons, List.drop_zero]
  repeat still_step
  refine wpStill_nil ?_
  refine wpList_gen (fun V => V = w.drew) rfl ?_
  rintro V hV
  have HBV : Hid (Below w.heap.size w V) := hV ▸ (Below.refl _ _).drew
  have HQV : Hid (LogAt V q s.most (.slice a k c) s.last wh en) := hV ▸ HQ.out
  have HXV : Hid (Row V B (.slice a1 en c1') en (s.b.take (en * 64))) := hV ▸ HX1.out
  clear hV d1 d4 f1
  have d1 := HQV.out.c1
  have f1 := HQV.out.free 1
  have HSY := Lib.hid (sync_raw B q s.most s.last wh en en (.slice a1 en c1') (s.b.take (en * 64)) _ (HQV.out.s1 (.slice a1 en c1')) (HXV.out.set HQV.out 1 _) hen)
  go_wp2_with (go_at_call 18; refine HSY.out.mono ?_; rintro e _ ⟨rfl, rfl⟩)
  go_ret
  have hl2 := (HQV.out.s1 (.slice a1 en c1')).s2 en
  have hr2 := (HXV.out.set HQV.out 1 (.slice a1 en c1')).set (HQV.out.s1 (.slice a1 en c1')) 2 (.int .i64 (en : Nat))
  refine ⟨rfl, og, ⟨⟨_, en, ?_, ?_, HO1.out, ?_, ?_⟩, hmost, hlow⟩, ((Turn.of_below HBV.out (by omega)).trans (Turn.set _ hlow 1 _)).trans (Turn.set _ hlow 2 _)⟩
  · rw [HCS.out]
    show LogAt _ q s.most _ en (recs (s.b.take (en * 64))).length (blks (recs (s.b.take (en * 64))))
    rw [HR.out, HWH.out, HEE.out]
    exact hl2
  · rw [HCS.out]
    exact hr2
  · rw [HCS.out]
    exact HEM.out
  · rw [HCS.out]
    exact Nat.le_refl _
theorem eql_nil (w : World) (a : Option Addr) (k c : Nat) : (binOp .eql tBs (.slice a k c) (.slice none 0 0)).run Try.prog w = .ok (.bool a.isNone) w := by
  simp only [binOp]
  simp [run_equal_slice_nil (P := Try.prog) w tBs t64 a k c sliceBlk']
set_option maxRecDepth 100000 in
theorem clone_any (v : Value) (k : Nat) (b : Bytes) (w : World) (hv : BlksIn w v k b) (hk : k ≤ 4096) : Calls Try.prog 40 #[v] w fun e w' => ∃ r, e = .returned r ∧ Row w' w.heap.size r k b ∧ Below w.heap.size w w' := by
  have HV := Lib.hid hv
  rcases hv.2 with ⟨c, rfl, rfl⟩ | ⟨g, off, cap, rfl, h1, h2, h3, h4⟩
  · have hb : b = [] := List.eq_nil_of_length_eq_zero (by simpa using hv.1)
    subst hb
    clear hv
    have hnil : ∀ w, (binOp .eql tBs (.slice none 0 c) (.slice none 0 0)).run Try.prog w = .ok (.bool true) w := fun w => eql_nil w none 0 c
    go_enter Try.func40, Try.ntmps40
    go_wp2
    go_ret
    exact ⟨_, rfl, Row.nil _ _, Below.refl _ _⟩
  · clear hv h1 h2 h3 h4
    have hnil : ∀ w, (binOp .eql tBs (.slice (some ⟨g, off, none⟩) k cap) (.slice none 0 0)).run Try.prog w = .ok (.bool false) w := fun w => eql_nil w (some ⟨g, off, none⟩) k cap
    go_enter Try.func40, Try.ntmps40
    have hal : Below w.heap.size w (w.alloc (.cells #[] t64)) := (Below.refl _ _).alloc (Nat.le_refl _) _
    have HR0 : Hid (Row (w.alloc (.cells #[] t64)) w.heap.size (.slice (some ⟨w.heap.size, 0, none⟩) 0 0) 0 []) := ⟨rfl, .inr ⟨w.heap.size, 0, #[], rfl, Nat.le_refl _, heap_alloc_new w _, Nat.le_refl _, Nat.zero_le _, Nat.le_refl _, rfl⟩⟩
    have HV1 := Lib.hid (HV.out.after hal)
    have hk1 : 0 + k ≤ 1000000000000 := by omega
    have hB1 : w.heap.size ≤ (w.alloc (.cells #[] t64)).heap.size := hal.size
    go_wp2_with (at_builtin; refine wpList_append_row rfl _ _ rfl w.heap.size _ 0 [] rfl HR0.out _ k b rfl HV1.out hk1 hB1 ?_)
    intro v' W' hr hG
    have hbb := Turn.grew (q := 0) HR0.out hG hB1
    go_wp2
    go_ret
    refine ⟨_, rfl, ?_, hal.trans hbb.below⟩
    have hr' : Row W' w.heap.size v' k b := by simpa using hr
    exact hr'
set_option maxRecDepth 100000 in
set_option maxHeartbeats 400000 in
theorem fork_any (B q : Nat) (og : Option Nat) (s : Lg) (w : World) (h : IsLog B w q og s) : Calls Try.prog 28 #[.pointer (some ⟨q, 0, none⟩)] w fun e w' => ∃ og', e = .returned (.pointer (some ⟨w.heap.size, 0, none⟩)) ∧ IsLog w.heap.size w' w.heap.size og' s ∧ Below w.heap.size w w' := by
  obtain ⟨v, k, l1, l2, l3, l4, l5⟩ := h.at_
  have hmost := h.most
  have hlt := h.lt
  have HV := Lib.hid l2.blks
  have HQ := Lib.hid l1
  have H4 : Hid (k ≤ s.most ∧ s.last ≤ k) := ⟨l4, l5⟩
  obtain ⟨a, c, rfl⟩ := l2.blks.shape
  generalize hwh : (recs s.b).length = wh at *
  generalize hen : blks (recs s.b) = en at *
  have HWH := Lib.hid hwh
  have HEN := Lib.hid hen
  clear hwh hen
  clear h l1 l2 l3 l5
  have d0 := HQ.out.c0
  have d1 := HQ.out.c1
  have d2 := HQ.out.c2
  have d3 := HQ.out.c3
  have d4 := HQ.out.c4
  go_enter Try.func28, Try.ntmps28
  have hal : Below w.heap.size w (w.alloc (.cells #[.int .i64 (s.most : Int), .slice a k c, .int .i64 (s.last : Int), .int .i64 (wh : Int), .int .i64 (en : Int)] 59)) := (Below.refl _ _).alloc (Nat.le_refl _) _
  have HN : Hid (LogAt (w.alloc (.cells #[.int .i64 (s.most : Int), .slice a k c, .int .i64 (s.last : Int), .int .i64 (wh : Int), .int .i64 (en : Int)] 59)) w.heap.size s.most (.slice a k c) s.last wh en) := heap_alloc_new w _
  have HAL := Lib.hid hal
  have HCL := Lib.hid (clone_any (.slice a k c) k s.b _ (HV.out.after hal) (by omega))
  clear hal
  go_wp2_with (go_at_call 40; refine HCL.out.mono ?_)
  rintro e W1 ⟨r, rfl, hr, hb⟩
  obtain ⟨a1, c1', rfl⟩ := hr.blks.shape
  have HR1 : Hid (Row W1 w.heap.size (.slice a1 k c1') k s.b) := by
    refine ⟨hr.1, ?_⟩
    rcases hr.2 with h | ⟨g, cap, cur, h1, h2, h3⟩
    · exact .inl h
    · exact .inr ⟨g, cap, cur, h1, by have := HAL.out.size; omega, h3⟩
  have HL1 := Lib.hid (HN.out.after hb)
  have HB1 : Hid (Below w.heap.size w W1) := HAL.out.trans (hb.mono HAL.out.size)
  have g1 := HL1.out.c1
  have gf := HL1.out.free 1
  clear hr hb HN HAL HCL d0 d1 d2 d3 d4
  go_wp2
  go_ret
  exact ⟨_, rfl, ⟨⟨_, k, by rw [HWH.out, HEN.out]; exact HL1.out.s1 _, HR1.out.set HL1.out 1 _, rfl, H4.out⟩, hmost, Nat.le_refl _⟩, HB1.out.setCell (p := ⟨w.heap.size, 1, none⟩) (Nat.le_refl _) _⟩
end Go.Proofs.Ytfiahkomabllaaa.L
