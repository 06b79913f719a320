/- WorkqNone: its walk. -/
import Derived.Test.YtdjkdehfkkkalaaWTakeN
import Derived.Test.YtdjkdehfkkkalaaWDeed
namespace Go.Proofs.Ytdjkdehfkkkalaa.W
open Go Go.RowKit KM
open Go.Lib

def BoxD (W : World) (b : Nat) (x : Deed) : Prop := W.heap[b]? = some (.cells #[.int .i64 x.kind, .int .u8 x.k.k, .string x.k.n, .int .u64 x.now] 54 (0, 0))
section
variable {W W' : World} {b : Nat} {x : Deed}
theorem BoxD.lt (h : BoxD W b x) : b < W.heap.size := (Array.getElem?_eq_some_iff.1 h).1
theorem BoxD.after (h : BoxD W b x) (hb : Below W.heap.size W W') : BoxD W' b x := (hb.block b h.lt).trans h
theorem BoxD.c1 (h : BoxD W b x) : W.cell? ⟨b, 1, none⟩ = some (.int .u8 x.k.k) := (cell_of_row W b 1 _ _ _ h).trans rfl
theorem BoxD.c2 (h : BoxD W b x) : W.cell? ⟨b, 2, none⟩ = some (.string x.k.n) := (cell_of_row W b 2 _ _ _ h).trans rfl
theorem BoxD.c3 (h : BoxD W b x) : W.cell? ⟨b, 3, none⟩ = some (.int .u64 x.now) := (cell_of_row W b 3 _ _ _ h).trans rfl
theorem BoxD.new (W : World) (x : Deed) : BoxD (W.alloc (.cells #[.int .i64 x.kind, .int .u8 x.k.k, .string x.k.n, .int .u64 x.now] 54 (0, 0))) W.heap.size x := heap_alloc_new W _
end
set_option maxRecDepth 100000 in
set_option maxHeartbeats 4000000 in
theorem workqNone_any (x : Deed) (w : World) : Calls Try.prog 10 #[encD x] w fun e w' => e = .returned (.bool true) ∧ Below w.heap.size w w' := by
  unfold encD
  go_enter Try.func10, Try.ntmps10
  go_upto_region 1 with (fail)
  refine wp_gen (fun V => BoxD V w.heap.size x ∧ Below w.heap.size w V) ⟨BoxD.new w x, (Below.refl _ _).alloc (Nat.le_refl _) _⟩ ?_
  rintro V ⟨hd, hlow⟩
  have HD := Lib.hid hd
  have HL := Lib.hid hlow
  have d1 := hd.c1
  have d2 := hd.c2
  have d3 := hd.c3
  clear hd hlow
  go_wp2_with fail
  refine (take_nil x.now _).mono ?_
  rintro e W1 ⟨rfl, hb⟩
  replace HD := Lib.hid (HD.out.after hb)
  replace HL := Lib.hid (HL.out.trans (hb.mono HL.out.size))
  clear hb d1 d2 d3
  unfold encK K0
  go_upto_region 3 with (fail)
  refine wp_gen (fun V => KAt V W1.heap.size K0 ∧ BoxD V w.heap.size x ∧ Below w.heap.size w V) ⟨KAt.new W1 K0, HD.out.after ((Below.refl _ _).alloc (Nat.le_refl _) _), HL.out.alloc HL.out.size _⟩ ?_
  clear HD HL
  rintro V2 ⟨hk, hd, hlow⟩
  generalize W1.heap.size = kb at *
  have HK := Lib.hid hk
  have HD := Lib.hid hd
  have HL := Lib.hid hlow
  have d1 := hd.c1
  have d2 := hd.c2
  clear hk hd hlow
  go_wp2_with fail
  refine (due_nil x.k _).mono ?_
  rintro e W3 ⟨rfl, hb⟩
  replace HK := Lib.hid (HK.out.after hb)
  replace HD := Lib.hid (HD.out.after hb)
  replace HL := Lib.hid (HL.out.trans (hb.mono HL.out.size))
  clear hb d1 d2
  go_wp2_with fail
  refine (next_nil _).mono ?_
  rintro e W4 ⟨rfl, hb⟩
  replace HK := Lib.hid (HK.out.after hb)
  replace HD := Lib.hid (HD.out.after hb)
  replace HL := Lib.hid (HL.out.trans (hb.mono HL.out.size))
  clear hb
  go_wp2_with fail
  refine (live_any _).mono ?_
  rintro e W5 ⟨rfl, hb⟩
  replace HK := Lib.hid (HK.out.after hb)
  replace HD := Lib.hid (HD.out.after hb)
  replace HL := Lib.hid (HL.out.trans (hb.mono HL.out.size))
  clear hb
  have d1 := HD.out.c1
  have d2 := HD.out.c2
  go_wp2_with fail
  refine (add_nil x.k _).mono ?_
  rintro e W6 ⟨rfl, hb⟩
  replace HK := Lib.hid (HK.out.after hb)
  replace HD := Lib.hid (HD.out.after hb)
  replace HL := Lib.hid (HL.out.trans (hb.mono HL.out.size))
  clear hb d1 d2
  have d1 := HD.out.c1
  have d2 := HD.out.c2
  have d3 := HD.out.c3
  go_wp2_with fail
  refine (fail_nil x.k x.now _).mono ?_
  rintro e W7 ⟨rfl, hb⟩
  replace HK := Lib.hid (HK.out.after hb)
  replace HD := Lib.hid (HD.out.after hb)
  replace HL := Lib.hid (HL.out.trans (hb.mono HL.out.size))
  clear hb d1 d2 d3
  have d1 := HD.out.c1
  have d2 := HD.out.c2
  go_wp2_with fail
  refine (forget_nil x.k _).mono ?_
  rintro e W8 ⟨rfl, hb⟩
  replace HK := Lib.hid (HK.out.after hb)
  replace HD := Lib.hid (HD.out.after hb)
  replace HL := Lib.hid (HL.out.trans (hb.mono HL.out.size))
  clear hb d1 d2
  have d1 := HD.out.c1
  have d2 := HD.out.c2
  have k0 : W8.cell? ⟨kb, 0, none⟩ = some (.int .u8 0) := HK.out.c0
  have k1 : W8.cell? ⟨kb, 1, none⟩ = some (.string ⟨#[]⟩) := HK.out.c1
  go_wp2_with fail
  refine (fails_nil x.k _).mono ?_
  rintro e W9 ⟨rfl, hb⟩
  replace HK := Lib.hid (HK.out.after hb)
  replace HD := Lib.hid (HD.out.after hb)
  replace HL := Lib.hid (HL.out.trans (hb.mono HL.out.size))
  clear hb d1 d2 k0 k1
  go_wp2_with fail
  refine (list_nil _).mono ?_
  rintro e W10 ⟨rfl, hb⟩
  replace HK := Lib.hid (HK.out.after hb)
  replace HD := Lib.hid (HD.out.after hb)
  replace HL := Lib.hid (HL.out.trans (hb.mono HL.out.size))
  clear hb
  go_wp2_with fail
  refine (len_nil _).mono ?_
  rintro e W11 ⟨rfl, hb⟩
  replace HK := Lib.hid (HK.out.after hb)
  replace HD := Lib.hid (HD.out.after hb)
  replace HL := Lib.hid (HL.out.trans (hb.mono HL.out.size))
  clear hb
  go_wp2_with fail
  refine (fork_nil _).mono ?_
  rintro e W12 ⟨rfl, hb⟩
  replace HK := Lib.hid (HK.out.after hb)
  replace HD := Lib.hid (HD.out.after hb)
  replace HL := Lib.hid (HL.out.trans (hb.mono HL.out.size))
  clear hb
  go_wp2
  go_ret
  exact ⟨rfl, HL.out⟩
end Go.Proofs.Ytdjkdehfkkkalaa.W
