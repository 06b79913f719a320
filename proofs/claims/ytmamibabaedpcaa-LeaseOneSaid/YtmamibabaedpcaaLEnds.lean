/- LeaseEnds: its walk. -/
import Derived.Test.YtmamibabaedpcaaLFenced
import Derived.Test.YtmamibabaedpcaaLOpen2
namespace Go.Proofs.Ytmamibabaedpcaa.L
open Go.RowKit T O
open Go.Lib

def cellsA (x : Ask) : Array Value := #[.string x.who, .int .u64 x.now, .int .u64 x.span]
def BoxA (W : World) (b : Nat) (x : Ask) : Prop := W.heap[b]? = some (.cells (cellsA x) 26 (0, 0))
section
variable {W W' : World} {b : Nat} {x : Ask}
theorem BoxA.lt (h : BoxA W b x) : b < W.heap.size := (Array.getElem?_eq_some_iff.1 h).1
theorem BoxA.after (h : BoxA W b x) (hb : Below W.heap.size W W') : BoxA W' b x := (hb.block b h.lt).trans h
theorem BoxA.alloc (h : BoxA W b x) (o : Go.Obj) : BoxA (W.alloc o) b x := (Below.heap_alloc W o b h.lt).trans h
theorem BoxA.row (h : BoxA W b x) {g : Nat} (hp : b ≠ g) (cs : Array Value) : BoxA (W.setRow g cs) b x := (setRow_other W g b cs hp).trans h
theorem BoxA.at (h : BoxA W b x) (i : Nat) : W.cell? ⟨b, i, none⟩ = (cellsA x)[i]? := cell_of_row W b i _ _ _ h
theorem BoxA.c0 (h : BoxA W b x) : W.cell? ⟨b, 0, none⟩ = some (.string x.who) := (h.at 0).trans rfl
theorem BoxA.c1 (h : BoxA W b x) : W.cell? ⟨b, 1, none⟩ = some (.int .u64 x.now) := (h.at 1).trans rfl
theorem BoxA.c2 (h : BoxA W b x) : W.cell? ⟨b, 2, none⟩ = some (.int .u64 x.span) := (h.at 2).trans rfl
theorem BoxA.new (W : World) (x : Ask) : BoxA (W.alloc (.cells (cellsA x) 26 (0, 0))) W.heap.size x := heap_alloc_new W _
end
theorem name_emp {s : ByteArray} (h : nameB s.data.toList = true) : emp s = false := by
  unfold emp
  rw [decide_eq_false_iff_not]
  intro e
  rw [e] at h
  cases h
theorem ends_cases (who : ByteArray) (now span : Int) : (tryL Lz0 who now span = (⟨who, now + span, 1⟩, 0) ∧ emp who = false ∧ 1 ≤ span ∧ span ≤ 1099511627776 ∧ now ≤ 1152921504606846976) ∨ ∃ n, tryL Lz0 who now span = (Lz0, n) ∧ n ≠ 0 := by
  by_cases h1 : nameB who.data.toList = false
  · exact .inr ⟨2, by unfold tryL; rw [if_pos h1], by decide⟩
  by_cases h2 : rangeB now span = false
  · exact .inr ⟨3, by unfold tryL; rw [if_neg h1, if_pos h2], by decide⟩
  have hn := name_emp (by simpa using h1)
  have hr := range_iff.1 (by simpa using h2)
  refine .inl ⟨?_, hn, hr.1, hr.2.1, hr.2.2⟩
  unfold tryL
  rw [if_neg h1, if_neg h2, if_neg, if_neg]
  · show ((⟨who, now + span, up 0⟩ : Lz), (0 : Int)) = _
    rw [up0]
  · exact fun h => absurd (mine_iff.1 h).1 (by decide +kernel)
  · intro h
    obtain ⟨h3, h4, -⟩ := mine_iff.1 h
    rw [h4] at h3
    exact absurd h3 (by decide +kernel)
theorem mine_own {who : ByteArray} (he : emp who = false) (u t n : Int) : mineB ⟨who, u, t⟩ who n = decide (n < u) := by
  unfold mineB holdB
  rw [he]
  simp
theorem mine_emp (x : Lz) (n : Int) : mineB x E0 n = false := by
  unfold mineB holdB
  rw [emp_E0]
  rfl
theorem eql_zero (w : World) : (binOp .eql 24 (encL Lz0) (encL Lz0)).run Try.prog w = .ok (.bool true) w := by kernel_rfl

set_option maxRecDepth 100000 in
set_option maxHeartbeats 4000000 in
theorem leaseEnds_any (x : Ask) (fit : FitA x) (at_ : Int) (w : World) : Calls Try.prog 9 #[encA x, .int .u64 at_] w fun e w' => e = .returned (.bool true) ∧ Below w.heap.size w w' := by
  have hs0 := fit.span.1
  have hn0 := fit.now.1
  have HC := Lib.hid (ends_cases x.who x.now x.span)
  unfold encA
  go_enter Try.func9, Try.ntmps9
  go_upto_region 1 with (fail)
  refine wp_gen (fun W => BoxA W w.heap.size x ∧ Below w.heap.size w W) ⟨BoxA.new w x, (Below.refl _ _).alloc (Nat.le_refl _) _⟩ ?_
  rintro W ⟨hx, hlow⟩
  have HL := Lib.hid hlow
  have HX := Lib.hid hx
  have c0 := hx.c0
  have c1 := hx.c1
  have c2 := hx.c2
  clear hlow hx
  go_wp2_with fail
  rcases HC.out with ⟨hT, he, h1, h2, h3⟩ | ⟨n, hT, hn⟩
  · clear HC
    refine (try_at hT _ hn0 hs0).mono ?_
    rintro e W1 ⟨rfl, hb⟩
    clear hT c0 c1 c2
    replace HL := Lib.hid (HL.out.trans (hb.mono HL.out.size))
    replace HX := Lib.hid (HX.out.after hb)
    have hn1 := BoxL.new W1 Lz0
    have HE := Lib.hid he
    clear hb he
    go_upto_region 2 with ((with_reducible refine wpList_store_rowTo rfl 24 _ _ rfl rfl W1.heap.size (cellsL ⟨x.who, x.now + x.span, 1⟩) ?_ ?_ 24 (cellsL Lz0) ?_ ?_ ?_ ?_ ?_); rfl; rfl; exact hn1; exact sizeL; rfl; exact one_L _)
    refine wp_gen (fun V => BoxL V W1.heap.size ⟨x.who, x.now + x.span, 1⟩ ∧ BoxA V w.heap.size x ∧ Below w.heap.size w V) ⟨hn1.setRow _, (HX.out.alloc _).row (by have := HX.out.lt; omega) _, below_setRow (HL.out.alloc HL.out.size _) HL.out.size _⟩ ?_
    clear HL HX hn1
    rintro V ⟨hy, hx, hlow⟩
    have HL := Lib.hid hlow
    have HX := Lib.hid hx
    have HY := Lib.hid hy
    clear hlow hx hy
    go_wp2_with fail
    go_upto_region 4 with (fail)
    refine wp_region_held_drew (S := fun V => BoxL V W1.heap.size ⟨x.who, x.now + x.span, 1⟩ ∧ BoxA V w.heap.size x ∧ Below w.heap.size w V) (by kernel_rfl) ⟨HY.out, HX.out, HL.out.drew⟩ (fun _ => ?_)
    refine HeldBy.gen (fun V => BoxL V W1.heap.size ⟨x.who, x.now + x.span, 1⟩ ∧ BoxA V w.heap.size x ∧ Below w.heap.size w V) ⟨HY.out, HX.out, HL.out.drew⟩ ?_
    clear HY HX HL
    rintro U0 HS
    refine HeldBy.call (i := 0) (v := .bool true) rfl (by kernel_rfl) (by rfl) (by go_simp; exact ⟨rfl, rfl⟩) (by go_simp; rfl) ?_
    refine (live_any _).mono ?_
    rintro e U1 ⟨rfl, hb⟩
    replace HS : BoxL U1 W1.heap.size ⟨x.who, x.now + x.span, 1⟩ ∧ BoxA U1 w.heap.size x ∧ Below w.heap.size w U1 := ⟨HS.1.after hb, HS.2.1.after hb, HS.2.2.trans (hb.mono HS.2.2.size)⟩
    refine ⟨rfl, HS, ?_⟩
    clear hb
    refine HeldBy.take (i := 1) rfl (by kernel_rfl) (by kernel_rfl) (by kernel_rfl) (fun _ _ _ h => h) (by rfl) (fun _ _ => by first | (go_simp; rfl) | (go_simp; done)) (by go_simp; rfl) HS ?_
    refine HeldBy.take (i := 2) rfl (by kernel_rfl) (by kernel_rfl) (by kernel_rfl) (fun _ _ _ h => h) (by rfl) (fun _ _ => by first | (go_simp; rfl) | (go_simp; done)) (by go_simp; rfl) HS ?_
    refine HeldBy.take (i := 3) rfl (by kernel_rfl) (by kernel_rfl) (by kernel_rfl) (fun _ _ _ h => h) (by rfl) (fun V hV => by have hc := hV.1.c1; first | (go_simp; rfl) | (go_simp; done)) (by go_simp; rfl) HS ?_
    refine HeldBy.take (i := 4) rfl (by kernel_rfl) (by kernel_rfl) (by kernel_rfl) (fun _ _ _ h => h) (by rfl) (fun _ _ => by first | (go_simp; rfl) | (go_simp; done)) (by go_simp; rfl) HS ?_
    refine HeldBy.take (i := 5) rfl (by kernel_rfl) (by kernel_rfl) (by kernel_rfl) (fun _ _ _ h => h) (by rfl) (fun V hV => by have hc := hV.2.1.c1; first | (go_simp; rfl) | (go_simp; done)) (by go_simp; rfl) HS ?_
    refine HeldBy.take (i := 6) rfl (by kernel_rfl) (by kernel_rfl) (by kernel_rfl) (fun _ _ _ h => h) (by rfl) (fun _ _ => by first | (go_simp; rfl) | (go_simp; done)) (by go_simp; rfl) HS ?_
    refine HeldBy.take (i := 7) rfl (by kernel_rfl) (by kernel_rfl) (by kernel_rfl) (fun _ _ _ h => h) (by rfl) (fun V hV => by have hc := hV.2.1.c2; first | (go_simp; rfl) | (go_simp; done)) (by go_simp; rfl) HS ?_
    refine HeldBy.take (i := 8) (v := .int .u64 (x.now + x.span)) rfl (by kernel_rfl) (by kernel_rfl) (by kernel_rfl) (fun _ _ _ h => h) (by rfl) (fun _ _ => by go_simp; exact IntWalk.u64_in _ (by omega)) (by go_simp; rfl) HS ?_
    refine HeldBy.take (i := 9) (v := .bool true) rfl (by kernel_rfl) (by kernel_rfl) (by kernel_rfl) (fun _ _ _ h => h) (by rfl) (fun _ _ => by go_simp) (by go_simp; rfl) HS ?_
    refine HeldBy.take (i := 10) rfl (by kernel_rfl) (by kernel_rfl) (by kernel_rfl) (fun _ _ _ h => h) (by rfl) (fun _ _ => by first | (go_simp; rfl) | (go_simp; done)) (by go_simp; rfl) HS ?_
    refine HeldBy.take (i := 11) rfl (by kernel_rfl) (by kernel_rfl) (by kernel_rfl) (fun _ _ _ h => h) (by rfl) (fun _ _ => by first | (go_simp; rfl) | (go_simp; done)) (by go_simp; rfl) HS ?_
    refine HeldBy.take (i := 12) rfl (by kernel_rfl) (by kernel_rfl) (by kernel_rfl) (fun _ _ _ h => h) (by rfl) (fun V hV => by have h0 := hV.1.c0; have h1 := hV.1.c1; have h2 := hV.1.c2; first | (go_simp; rfl) | (go_simp; done)) (by go_simp; rfl) HS ?_
    refine HeldBy.take (i := 13) rfl (by kernel_rfl) (by kernel_rfl) (by kernel_rfl) (fun _ _ _ h => h) (by rfl) (fun _ _ => by first | (go_simp; rfl) | (go_simp; done)) (by go_simp; rfl) HS ?_
    refine HeldBy.take (i := 14) rfl (by kernel_rfl) (by kernel_rfl) (by kernel_rfl) (fun _ _ _ h => h) (by rfl) (fun V hV => by have hc := hV.2.1.c0; first | (go_simp; rfl) | (go_simp; done)) (by go_simp; rfl) HS ?_
    refine HeldBy.take (i := 15) rfl (by kernel_rfl) (by kernel_rfl) (by kernel_rfl) (fun _ _ _ h => h) (by rfl) (fun _ _ => by first | (go_simp; rfl) | (go_simp; done)) (by go_simp; rfl) HS ?_
    refine HeldBy.take (i := 17) rfl (by kernel_rfl) (by kernel_rfl) (by kernel_rfl) (fun _ _ _ h => h) (by rfl) (fun _ _ => by first | (go_simp; rfl) | (go_simp; done)) (by go_simp; rfl) HS ?_
    refine HeldBy.take (i := 18) rfl (by kernel_rfl) (by kernel_rfl) (by kernel_rfl) (fun _ _ _ h => h) (by rfl) (fun _ _ => by first | (go_simp; rfl) | (go_simp; done)) (by go_simp; rfl) HS ?_
    refine HeldBy.take (i := 19) rfl (by kernel_rfl) (by kernel_rfl) (by kernel_rfl) (fun _ _ _ h => h) (by rfl) (fun V hV => by have hc := hV.1.c1; first | (go_simp; rfl) | (go_simp; done)) (by go_simp; rfl) HS ?_
    refine HeldBy.take (i := 20) rfl (by kernel_rfl) (by kernel_rfl) (by kernel_rfl) (fun _ _ _ h => h) (by rfl) (fun _ _ => by first | (go_simp; rfl) | (go_simp; done)) (by go_simp; rfl) HS ?_
    refine HeldBy.call (i := 16) (v := .bool (decide (at_ < x.now + x.span))) rfl (by kernel_rfl) (by rfl) (by go_simp; exact ⟨rfl, rfl⟩) (by go_simp; rfl) ?_
    refine (mine_at (mine_own HE.out (x.now + x.span) 1 at_) _).mono ?_
    rintro e U2 ⟨rfl, hb⟩
    replace HS : BoxL U2 W1.heap.size ⟨x.who, x.now + x.span, 1⟩ ∧ BoxA U2 w.heap.size x ∧ Below w.heap.size w U2 := ⟨HS.1.after hb, HS.2.1.after hb, HS.2.2.trans (hb.mono HS.2.2.size)⟩
    refine ⟨rfl, HS, ?_⟩
    clear hb
    refine HeldBy.take (i := 21) (v := .bool true) rfl (by kernel_rfl) (by kernel_rfl) (by kernel_rfl) (fun _ _ _ h => h) (by rfl) (fun _ _ => by go_simp) (by go_simp; rfl) HS ?_
    refine HeldBy.take (i := 22) rfl (by kernel_rfl) (by kernel_rfl) (by kernel_rfl) (fun _ _ _ h => h) (by rfl) (fun _ _ => by first | (go_simp; rfl) | (go_simp; done)) (by go_simp; rfl) HS ?_
    refine HeldBy.take (i := 23) rfl (by kernel_rfl) (by kernel_rfl) (by kernel_rfl) (fun _ _ _ h => h) (by rfl) (fun _ _ => by first | (go_simp; rfl) | (go_simp; done)) (by go_simp; rfl) HS ?_
    refine HeldBy.take (i := 24) rfl (by kernel_rfl) (by kernel_rfl) (by kernel_rfl) (fun _ _ _ h => h) (by rfl) (fun V hV => by have h0 := hV.1.c0; have h1 := hV.1.c1; have h2 := hV.1.c2; first | (go_simp; rfl) | (go_simp; done)) (by go_simp; rfl) HS ?_
    refine HeldBy.take (i := 25) rfl (by kernel_rfl) (by kernel_rfl) (by kernel_rfl) (fun _ _ _ h => h) (by rfl) (fun _ _ => by first | (go_simp; rfl) | (go_simp; done)) (by go_simp; rfl) HS ?_
    refine HeldBy.take (i := 26) rfl (by kernel_rfl) (by kernel_rfl) (by kernel_rfl) (fun _ _ _ h => h) (by rfl) (fun V hV => by have hc := hV.2.1.c0; first | (go_simp; rfl) | (go_simp; done)) (by go_simp; rfl) HS ?_
    refine HeldBy.take (i := 27) rfl (by kernel_rfl) (by kernel_rfl) (by kernel_rfl) (fun _ _ _ h => h) (by rfl) (fun _ _ => by first | (go_simp; rfl) | (go_simp; done)) (by go_simp; rfl) HS ?_
    refine HeldBy.take (i := 28) rfl (by kernel_rfl) (by kernel_rfl) (by kernel_rfl) (fun _ _ _ h => h) (by rfl) (fun V hV => by have hc := hV.1.c1; first | (go_simp; rfl) | (go_simp; done)) (by go_simp; rfl) HS ?_
    refine HeldBy.take (i := 29) (v := .int .u64 (x.now + x.span - 1)) rfl (by kernel_rfl) (by kernel_rfl) (by kernel_rfl) (fun _ _ _ h => h) (by rfl) (fun _ _ => by go_simp; exact IntWalk.u64_in _ (by omega)) (by go_simp; rfl) HS ?_
    refine HeldBy.call (i := 30) (v := .bool true) rfl (by kernel_rfl) (by rfl) (by go_simp; exact ⟨rfl, rfl⟩) (by go_simp; rfl) ?_
    refine (mine_at ((mine_own HE.out (x.now + x.span) 1 (x.now + x.span - 1)).trans (decide_eq_true (by omega))) _).mono ?_
    rintro e U3 ⟨rfl, hb⟩
    replace HS : BoxL U3 W1.heap.size ⟨x.who, x.now + x.span, 1⟩ ∧ BoxA U3 w.heap.size x ∧ Below w.heap.size w U3 := ⟨HS.1.after hb, HS.2.1.after hb, HS.2.2.trans (hb.mono HS.2.2.size)⟩
    refine ⟨rfl, HS, ?_⟩
    clear hb
    refine HeldBy.take (i := 31) rfl (by kernel_rfl) (by kernel_rfl) (by kernel_rfl) (fun _ _ _ h => h) (by rfl) (fun _ _ => by first | (go_simp; rfl) | (go_simp; done)) (by go_simp; rfl) HS ?_
    refine HeldBy.take (i := 32) rfl (by kernel_rfl) (by kernel_rfl) (by kernel_rfl) (fun _ _ _ h => h) (by rfl) (fun _ _ => by first | (go_simp; rfl) | (go_simp; done)) (by go_simp; rfl) HS ?_
    refine HeldBy.take (i := 33) rfl (by kernel_rfl) (by kernel_rfl) (by kernel_rfl) (fun _ _ _ h => h) (by rfl) (fun V hV => by have h0 := hV.1.c0; have h1 := hV.1.c1; have h2 := hV.1.c2; first | (go_simp; rfl) | (go_simp; done)) (by go_simp; rfl) HS ?_
    refine HeldBy.take (i := 34) rfl (by kernel_rfl) (by kernel_rfl) (by kernel_rfl) (fun _ _ _ h => h) (by rfl) (fun _ _ => by first | (go_simp; rfl) | (go_simp; done)) (by go_simp; rfl) HS ?_
    refine HeldBy.take (i := 35) rfl (by kernel_rfl) (by kernel_rfl) (by kernel_rfl) (fun _ _ _ h => h) (by rfl) (fun V hV => by have hc := hV.2.1.c0; first | (go_simp; rfl) | (go_simp; done)) (by go_simp; rfl) HS ?_
    refine HeldBy.take (i := 36) rfl (by kernel_rfl) (by kernel_rfl) (by kernel_rfl) (fun _ _ _ h => h) (by rfl) (fun _ _ => by first | (go_simp; rfl) | (go_simp; done)) (by go_simp; rfl) HS ?_
    refine HeldBy.take (i := 37) rfl (by kernel_rfl) (by kernel_rfl) (by kernel_rfl) (fun _ _ _ h => h) (by rfl) (fun V hV => by have hc := hV.1.c1; first | (go_simp; rfl) | (go_simp; done)) (by go_simp; rfl) HS ?_
    refine HeldBy.call (i := 38) (v := .bool false) rfl (by kernel_rfl) (by rfl) (by go_simp; exact ⟨rfl, rfl⟩) (by go_simp; rfl) ?_
    refine (mine_at ((mine_own HE.out (x.now + x.span) 1 (x.now + x.span)).trans (decide_eq_false (by omega))) _).mono ?_
    rintro e U4 ⟨rfl, hb⟩
    replace HS : BoxL U4 W1.heap.size ⟨x.who, x.now + x.span, 1⟩ ∧ BoxA U4 w.heap.size x ∧ Below w.heap.size w U4 := ⟨HS.1.after hb, HS.2.1.after hb, HS.2.2.trans (hb.mono HS.2.2.size)⟩
    refine ⟨rfl, HS, ?_⟩
    clear hb
    refine HeldBy.take (i := 39) rfl (by kernel_rfl) (by kernel_rfl) (by kernel_rfl) (fun _ _ _ h => h) (by rfl) (fun _ _ => by first | (go_simp; rfl) | (go_simp; done)) (by go_simp; rfl) HS ?_
    refine HeldBy.take (i := 40) rfl (by kernel_rfl) (by kernel_rfl) (by kernel_rfl) (fun _ _ _ h => h) (by rfl) (fun _ _ => by first | (go_simp; rfl) | (go_simp; done)) (by go_simp; rfl) HS ?_
    refine HeldBy.take (i := 41) rfl (by kernel_rfl) (by kernel_rfl) (by kernel_rfl) (fun _ _ _ h => h) (by rfl) (fun _ _ => by first | (go_simp; rfl) | (go_simp; done)) (by go_simp; rfl) HS ?_
    refine HeldBy.take (i := 42) rfl (by kernel_rfl) (by kernel_rfl) (by kernel_rfl) (fun _ _ _ h => h) (by rfl) (fun V hV => by have h0 := hV.1.c0; have h1 := hV.1.c1; have h2 := hV.1.c2; first | (go_simp; rfl) | (go_simp; done)) (by go_simp; rfl) HS ?_
    refine HeldBy.take (i := 43) rfl (by kernel_rfl) (by kernel_rfl) (by kernel_rfl) (fun _ _ _ h => h) (by rfl) (fun _ _ => by first | (go_simp; rfl) | (go_simp; done)) (by go_simp; rfl) HS ?_
    refine HeldBy.call (i := 44) (v := .bool false) rfl (by kernel_rfl) (by rfl) (by go_simp; exact ⟨rfl, rfl⟩) (by go_simp; rfl) ?_
    refine (mine_at (mine_emp ⟨x.who, x.now + x.span, 1⟩ at_) _).mono ?_
    rintro e U5 ⟨rfl, hb⟩
    replace HS : BoxL U5 W1.heap.size ⟨x.who, x.now + x.span, 1⟩ ∧ BoxA U5 w.heap.size x ∧ Below w.heap.size w U5 := ⟨HS.1.after hb, HS.2.1.after hb, HS.2.2.trans (hb.mono HS.2.2.size)⟩
    refine ⟨rfl, HS, ?_⟩
    clear hb
    refine HeldBy.take (i := 45) rfl (by kernel_rfl) (by kernel_rfl) (by kernel_rfl) (fun _ _ _ h => h) (by rfl) (fun _ _ => by first | (go_simp; rfl) | (go_simp; done)) (by go_simp; rfl) HS ?_
    refine HeldBy.take (i := 46) rfl (by kernel_rfl) (by kernel_rfl) (by kernel_rfl) (fun _ _ _ h => h) (by rfl) (fun _ _ => by first | (go_simp; rfl) | (go_simp; done)) (by go_simp; rfl) HS ?_
    refine HeldBy.take (i := 47) rfl (by kernel_rfl) (by kernel_rfl) (by kernel_rfl) (fun _ _ _ h => h) (by rfl) (fun _ _ => by first | (go_simp; rfl) | (go_simp; done)) (by go_simp; rfl) HS ?_
    refine wpAnyH_done (by kernel_rfl) ?_ _
    have HF := Lib.hid HS.2.2
    clear HS
    go_wp2
    go_ret
    exact ⟨rfl, HF.out⟩
  · clear HC
    refine (try_at hT _ hn0 hs0).mono ?_
    rintro e W1 ⟨rfl, hb⟩
    clear hT c0 c1 c2
    replace HL := Lib.hid (HL.out.trans (hb.mono HL.out.size))
    have hn1 := BoxL.new W1 Lz0
    have b1 : (n == 0) = false := by simpa using hn
    have b2 : (n != 0) = true := by simpa using hn
    clear hb hn
    go_upto_region 2 with ((with_reducible refine wpList_store_rowTo rfl 24 _ _ rfl rfl W1.heap.size (cellsL Lz0) ?_ ?_ 24 (cellsL Lz0) ?_ ?_ ?_ ?_ ?_); rfl; rfl; exact hn1; exact sizeL; rfl; exact one_L _)
    refine wp_gen (fun V => BoxL V W1.heap.size Lz0 ∧ Below w.heap.size w V) ⟨hn1.setRow _, below_setRow (HL.out.alloc HL.out.size _) HL.out.size _⟩ ?_
    clear HL HX hn1
    rintro V ⟨hy, hlow⟩
    have HL := Lib.hid hlow
    have HY := Lib.hid hy
    clear hlow hy
    go_wp2_with fail
    refine (live_any _).mono ?_
    rintro e W2 ⟨rfl, hb⟩
    replace HL := Lib.hid (HL.out.trans (hb.mono HL.out.size))
    replace HY := Lib.hid (HY.out.after hb)
    clear hb
    have d0 : W2.cell? ⟨W1.heap.size, 0, none⟩ = some (.string ⟨#[]⟩) := HY.out.c0
    have d1 : W2.cell? ⟨W1.heap.size, 1, none⟩ = some (.int .u64 0) := HY.out.c1
    have d2 : W2.cell? ⟨W1.heap.size, 2, none⟩ = some (.int .u64 0) := HY.out.c2
    go_wp2
    go_ret
    exact ⟨rfl, HL.out⟩
end Go.Proofs.Ytmamibabaedpcaa.L
