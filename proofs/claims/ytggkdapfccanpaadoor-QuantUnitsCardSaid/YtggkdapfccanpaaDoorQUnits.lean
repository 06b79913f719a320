/- quant.binaries and quant.decimals: the contracts of the two functions that yield. -/
import Derived.Test.YtggkdapfccanpaaDoorQDigits
import Derived.RangeFuncNested
import Derived.RangeFuncBound
import Derived.RangeFuncCalls
import Derived.RangeFuncLeaves
import Derived.Shelf.Abstract
import Derived.Shelf.RegionOpen
import Derived.OwnWalkIn
import Derived.TacticsInMore
import Derived.LoopNIn
import Derived.LoopIn
import Derived.Test.YtggkdapfccanpaaDoorStillIn
namespace Go.Proofs.YtggkdapfccanpaaDoor.Q
open Go.RowKit Go.Shelf

def encS (l : List UInt8) : Value := .string ⟨l.toArray⟩
/-- A unit as it is handed to a round: its suffix, its value, and that the value is one. -/
structure U where
  s : List UInt8
  v : Int
  lo : 1 ≤ v
  hi : v ≤ 1099511627776
def encU (x : U) : Array Value := #[encS x.s, .int .i64 x.v]
def bins : List U := [⟨[84, 105], 1099511627776, by decide, by decide⟩, ⟨[71, 105], 1073741824, by decide, by decide⟩, ⟨[77, 105], 1048576, by decide, by decide⟩, ⟨[75, 105], 1024, by decide, by decide⟩]
def decs : List U := [⟨[75], 1000, by decide, by decide⟩, ⟨[77], 1000000, by decide, by decide⟩, ⟨[71], 1000000000, by decide, by decide⟩, ⟨[84], 1000000000000, by decide, by decide⟩]

/-- How a round comes back: true, and it goes on; false, and it has said no more. -/
def Came (T U : World → Prop) (e : Ending) (W : World) : Prop := ∃ b : Bool, e = .returned (.bool b) ∧ (b = true → T W) ∧ (b = false → U W)

theorem abides_drew {J : List U → World → Prop} {B : Nat} (hJ : AbidesFrom B J) {s : List U} {W : World} (h : J s W) : J s W.drew :=
  hJ s W W.drew none h (by refine ⟨rfl, rfl, rfl, Nat.le_refl _, fun b _ _ => rfl⟩) (fun r e => by cases e)

/-- One element is handed over: as a round. -/
theorem yield_step {F : Fence} {n : Nat} {l : Nat} {xs : List U} {J Jx : List U → World → Prop} (hx4 : xs.length = 4)
    (hY : ∀ pre x W1, J pre W1 → pre.length < 4 → YieldAt F (n - 1) Tryd.prog l (encU x) W1 fun e W' =>
      (e = .returned (.bool true) ∧ J (pre ++ [x]) W' ∧ KeepsWalks W1 W') ∨ (e = .returned (.bool false) ∧ Jx (pre ++ [x]) W'))
    (k : Nat) (x : U) (hx : xs[k]? = some x) {W : World} (hJ : J (xs.take k) W) :
    YieldAt F (n - 1) Tryd.prog l (encU x) W (Came (fun W' => J (xs.take (k + 1)) W') (fun W' => ∃ pre, pre <+: xs ∧ Jx pre W')) := by
  have hk : k < xs.length := (List.getElem?_eq_some_iff.1 hx).1
  have e : xs.take (k + 1) = xs.take k ++ [x] := by
    rw [List.take_succ_eq_append_getElem hk]
    rw [(List.getElem?_eq_some_iff.1 hx).2]
  refine (hY (xs.take k) x W hJ (by rw [List.length_take]; omega)).mono ?_
  rintro e' W' (⟨rfl, h, _⟩ | ⟨rfl, h⟩)
  · exact ⟨true, rfl, (fun _ => by rw [e]; exact h), (fun h => by cases h)⟩
  · exact ⟨false, rfl, (fun h => by cases h), (fun _ => ⟨xs.take (k + 1), List.take_prefix (k + 1) xs, by rw [e]; exact h⟩)⟩

set_option maxHeartbeats 1000000 in
set_option maxRecDepth 100000 in
theorem binaries_stops (F : Fence) (n : Nat) (hf : F.fn 24) (hro : F.round = none) (_hn : 1 ≤ n) (w : World) :
    SeqStopsK F n Tryd.prog 24 #[] encU KeepsWalks (fun xs => xs = bins) (fun pre => pre <+: bins) 4 w := fun l J Jx W _ hJ hJx hY h0 => by
  refine callsIn_of_wp Tryd.func24 rfl hf ?_ hro
  simp only [Tryd.ntmps24, List.size_toArray, List.length_cons, List.length_nil, Nat.reduceAdd, Nat.reduceSub, Array.replicate_succ, Array.replicate_zero, List.push_toArray, List.append_toArray, List.nil_append, List.cons_append]
  gi_wp2
  gi_loopw [4] (fun i wr => ∃ k : Nat, k ≤ 4 ∧ i = .int .i64 k ∧ J (bins.take k) wr) (fun i _ => 4 - (intOf i).toNat)
  case atStart => exact ⟨0, by omega, rfl, h0⟩
  case round =>
    obtain ⟨k, hk, rfl, hJk⟩ := hrel
    have hst := fun x hx => yield_step (xs := bins) rfl hY k x hx (abides_drew hJ hJk)
    by_cases h4 : k < 4
    · obtain rfl | rfl | rfl | rfl : k = 0 ∨ k = 1 ∨ k = 2 ∨ k = 3 := by omega
      · obtain ⟨fn, tmps, assign, body, hy, hR⟩ := hst _ rfl
        change Sem.run Tryd.prog (Instr.yield l #[.string ⟨#[84, 105]⟩, .int .i64 1099511627776]) _ = _ at hy
        clear hst hJk hY hJ hJx h0 hk h4
        have es : (⟨#[75, 77, 71, 84]⟩ : ByteArray).extract 3 4 ++ ⟨#[105]⟩ = ⟨#[84, 105]⟩ := by kernel_rfl
        have hsh : ∀ w, (Op.shift .shl .i64 1 .i64 40).run Tryd.prog w = .ok (.int .i64 1099511627776) w := fun _ => by kernel_rfl
        have hw1 : IntKind.i64.wrap 3 = 3 := by decide
        have hw2 : IntKind.i64.wrap 40 = 40 := by decide
        have hw3 : IntKind.i64.wrap 1099511627776 = 1099511627776 := by decide
        gi_wp2
        refine StillIn.wpIn_region_still_tail 9 (by kernel_rfl) (by kernel_rfl) (by kernel_rfl) ?_
        simp only [List.take_succ_cons, List.take_zero, List.drop_succ_cons, List.drop_zero]
        repeat still_step
        refine wpStill_nil ?_
        clear hw1 hw2 hw3 hsh es
        gi_wp2
        refine hR.mono ?_
        rintro e W1 ⟨b, rfl, hT, hU⟩
        cases b with
        | true =>
          have hJ1 := hT rfl
          clear hT hU hy hR
          gi_wp2
          exact ⟨⟨1, by omega, rfl, hJ1⟩, by simp [intOf]⟩
        | false =>
          have hJ1 := Lib.hid (hU rfl)
          clear hT hU hy hR
          gi_wp2
          refine bodyPost_ret (results_none rfl _ _ _) rfl ?_
          exact ⟨⟨_, rfl⟩, .inr hJ1.out⟩
      · obtain ⟨fn, tmps, assign, body, hy, hR⟩ := hst _ rfl
        change Sem.run Tryd.prog (Instr.yield l #[.string ⟨#[71, 105]⟩, .int .i64 1073741824]) _ = _ at hy
        clear hst hJk hY hJ hJx h0 hk h4
        have es : (⟨#[75, 77, 71, 84]⟩ : ByteArray).extract 2 3 ++ ⟨#[105]⟩ = ⟨#[71, 105]⟩ := by kernel_rfl
        have hsh : ∀ w, (Op.shift .shl .i64 1 .i64 30).run Tryd.prog w = .ok (.int .i64 1073741824) w := fun _ => by kernel_rfl
        have hw1 : IntKind.i64.wrap 2 = 2 := by decide
        have hw2 : IntKind.i64.wrap 30 = 30 := by decide
        have hw3 : IntKind.i64.wrap 1073741824 = 1073741824 := by decide
        gi_wp2
        refine StillIn.wpIn_region_still_tail 9 (by kernel_rfl) (by kernel_rfl) (by kernel_rfl) ?_
        simp only [List.take_succ_cons, List.take_zero, List.drop_succ_cons, List.drop_zero]
        repeat still_step
        refine wpStill_nil ?_
        clear hw1 hw2 hw3 hsh es
        gi_wp2
        refine hR.mono ?_
        rintro e W1 ⟨b, rfl, hT, hU⟩
        cases b with
        | true =>
          have hJ1 := hT rfl
          clear hT hU hy hR
          gi_wp2
          exact ⟨⟨2, by omega, rfl, hJ1⟩, by simp [intOf]⟩
        | false =>
          have hJ1 := Lib.hid (hU rfl)
          clear hT hU hy hR
          gi_wp2
          refine bodyPost_ret (results_none rfl _ _ _) rfl ?_
          exact ⟨⟨_, rfl⟩, .inr hJ1.out⟩
      · obtain ⟨fn, tmps, assign, body, hy, hR⟩ := hst _ rfl
        change Sem.run Tryd.prog (Instr.yield l #[.string ⟨#[77, 105]⟩, .int .i64 1048576]) _ = _ at hy
        clear hst hJk hY hJ hJx h0 hk h4
        have es : (⟨#[75, 77, 71, 84]⟩ : ByteArray).extract 1 2 ++ ⟨#[105]⟩ = ⟨#[77, 105]⟩ := by kernel_rfl
        have hsh : ∀ w, (Op.shift .shl .i64 1 .i64 20).run Tryd.prog w = .ok (.int .i64 1048576) w := fun _ => by kernel_rfl
        have hw1 : IntKind.i64.wrap 1 = 1 := by decide
        have hw2 : IntKind.i64.wrap 20 = 20 := by decide
        have hw3 : IntKind.i64.wrap 1048576 = 1048576 := by decide
        gi_wp2
        refine StillIn.wpIn_region_still_tail 9 (by kernel_rfl) (by kernel_rfl) (by kernel_rfl) ?_
        simp only [List.take_succ_cons, List.take_zero, List.drop_succ_cons, List.drop_zero]
        repeat still_step
        refine wpStill_nil ?_
        clear hw1 hw2 hw3 hsh es
        gi_wp2
        refine hR.mono ?_
        rintro e W1 ⟨b, rfl, hT, hU⟩
        cases b with
        | true =>
          have hJ1 := hT rfl
          clear hT hU hy hR
          gi_wp2
          exact ⟨⟨3, by omega, rfl, hJ1⟩, by simp [intOf]⟩
        | false =>
          have hJ1 := Lib.hid (hU rfl)
          clear hT hU hy hR
          gi_wp2
          refine bodyPost_ret (results_none rfl _ _ _) rfl ?_
          exact ⟨⟨_, rfl⟩, .inr hJ1.out⟩
      · obtain ⟨fn, tmps, assign, body, hy, hR⟩ := hst _ rfl
        change Sem.run Tryd.prog (Instr.yield l #[.string ⟨#[75, 105]⟩, .int .i64 1024]) _ = _ at hy
        clear hst hJk hY hJ hJx h0 hk h4
        have es : (⟨#[75, 77, 71, 84]⟩ : ByteArray).extract 0 1 ++ ⟨#[105]⟩ = ⟨#[75, 105]⟩ := by kernel_rfl
        have hsh : ∀ w, (Op.shift .shl .i64 1 .i64 10).run Tryd.prog w = .ok (.int .i64 1024) w := fun _ => by kernel_rfl
        have hw1 : IntKind.i64.wrap 0 = 0 := by decide
        have hw2 : IntKind.i64.wrap 10 = 10 := by decide
        have hw3 : IntKind.i64.wrap 1024 = 1024 := by decide
        gi_wp2
        refine StillIn.wpIn_region_still_tail 9 (by kernel_rfl) (by kernel_rfl) (by kernel_rfl) ?_
        simp only [List.take_succ_cons, List.take_zero, List.drop_succ_cons, List.drop_zero]
        repeat still_step
        refine wpStill_nil ?_
        clear hw1 hw2 hw3 hsh es
        gi_wp2
        refine hR.mono ?_
        rintro e W1 ⟨b, rfl, hT, hU⟩
        cases b with
        | true =>
          have hJ1 := hT rfl
          clear hT hU hy hR
          gi_wp2
          exact ⟨⟨4, by omega, rfl, hJ1⟩, by simp [intOf]⟩
        | false =>
          have hJ1 := Lib.hid (hU rfl)
          clear hT hU hy hR
          gi_wp2
          refine bodyPost_ret (results_none rfl _ _ _) rfl ?_
          exact ⟨⟨_, rfl⟩, .inr hJ1.out⟩
    · obtain rfl : k = 4 := by omega
      clear hst hY hJ hJx h0 h4
      have hJ1 := Lib.hid hJk
      clear hJk
      gi_wp2
      go_end0
      exact ⟨⟨_, rfl⟩, .inl ⟨bins, rfl, hJ1.out⟩⟩

set_option maxHeartbeats 1000000 in
set_option maxRecDepth 100000 in
theorem decimals_stops (F : Fence) (n : Nat) (hf : F.fn 25) (hro : F.round = none) (_hn : 1 ≤ n) (w : World) :
    SeqStopsK F n Tryd.prog 25 #[] encU KeepsWalks (fun xs => xs = decs) (fun pre => pre <+: decs) 4 w := fun l J Jx W _ hJ hJx hY h0 => by
  refine callsIn_of_wp Tryd.func25 rfl hf ?_ hro
  simp only [Tryd.ntmps25, List.size_toArray, List.length_cons, List.length_nil, Nat.reduceAdd, Nat.reduceSub, Array.replicate_succ, Array.replicate_zero, List.push_toArray, List.append_toArray, List.nil_append, List.cons_append]
  gi_wp2
  gi_loopw [2, 4] (fun u i wr => ∃ k : Nat, k ≤ 4 ∧ i = .int .i64 k ∧ u = .int .i64 (1000 ^ k) ∧ J (decs.take k) wr) (fun _ i _ => 4 - (intOf i).toNat)
  case atStart => exact ⟨0, by omega, rfl, rfl, h0⟩
  case round =>
    obtain ⟨k, hk, rfl, rfl, hJk⟩ := hrel
    have hst := fun x hx => yield_step (xs := decs) rfl hY k x hx hJk
    by_cases h4 : k < 4
    · obtain rfl | rfl | rfl | rfl : k = 0 ∨ k = 1 ∨ k = 2 ∨ k = 3 := by omega
      · obtain ⟨fn, tmps, assign, body, hy, hR⟩ := hst _ rfl
        change Sem.run Tryd.prog (Instr.yield l #[.string ⟨#[75]⟩, .int .i64 1000]) _ = _ at hy
        clear hst hJk hY hJ hJx h0 hk h4
        have es : (⟨#[75, 77, 71, 84]⟩ : ByteArray).extract 0 1 = ⟨#[75]⟩ := by kernel_rfl
        have hu : ((1000 : Int) ^ 0) = 1 := by decide
        rw [show ((1000 : Int) ^ 0) = 1 from by decide]
        gi_wp2
        clear hu es
        refine hR.mono ?_
        rintro e W1 ⟨b, rfl, hT, hU⟩
        cases b with
        | true =>
          have hJ1 := hT rfl
          clear hT hU hy hR
          gi_wp2
          exact ⟨⟨1, by omega, rfl, rfl, hJ1⟩, by simp [intOf]⟩
        | false =>
          have hJ1 := Lib.hid (hU rfl)
          clear hT hU hy hR
          gi_wp2
          refine bodyPost_ret (results_none rfl _ _ _) rfl ?_
          exact ⟨⟨_, rfl⟩, .inr hJ1.out⟩
      · obtain ⟨fn, tmps, assign, body, hy, hR⟩ := hst _ rfl
        change Sem.run Tryd.prog (Instr.yield l #[.string ⟨#[77]⟩, .int .i64 1000000]) _ = _ at hy
        clear hst hJk hY hJ hJx h0 hk h4
        have es : (⟨#[75, 77, 71, 84]⟩ : ByteArray).extract 1 2 = ⟨#[77]⟩ := by kernel_rfl
        have hu : ((1000 : Int) ^ 1) = 1000 := by decide
        rw [show ((1000 : Int) ^ 1) = 1000 from by decide]
        gi_wp2
        clear hu es
        refine hR.mono ?_
        rintro e W1 ⟨b, rfl, hT, hU⟩
        cases b with
        | true =>
          have hJ1 := hT rfl
          clear hT hU hy hR
          gi_wp2
          exact ⟨⟨2, by omega, rfl, rfl, hJ1⟩, by simp [intOf]⟩
        | false =>
          have hJ1 := Lib.hid (hU rfl)
          clear hT hU hy hR
          gi_wp2
          refine bodyPost_ret (results_none rfl _ _ _) rfl ?_
          exact ⟨⟨_, rfl⟩, .inr hJ1.out⟩
      · obtain ⟨fn, tmps, assign, body, hy, hR⟩ := hst _ rfl
        change Sem.run Tryd.prog (Instr.yield l #[.string ⟨#[71]⟩, .int .i64 1000000000]) _ = _ at hy
        clear hst hJk hY hJ hJx h0 hk h4
        have es : (⟨#[75, 77, 71, 84]⟩ : ByteArray).extract 2 3 = ⟨#[71]⟩ := by kernel_rfl
        have hu : ((1000 : Int) ^ 2) = 1000000 := by decide
        rw [show ((1000 : Int) ^ 2) = 1000000 from by decide]
        gi_wp2
        clear hu es
        refine hR.mono ?_
        rintro e W1 ⟨b, rfl, hT, hU⟩
        cases b with
        | true =>
          have hJ1 := hT rfl
          clear hT hU hy hR
          gi_wp2
          exact ⟨⟨3, by omega, rfl, rfl, hJ1⟩, by simp [intOf]⟩
        | false =>
          have hJ1 := Lib.hid (hU rfl)
          clear hT hU hy hR
          gi_wp2
          refine bodyPost_ret (results_none rfl _ _ _) rfl ?_
          exact ⟨⟨_, rfl⟩, .inr hJ1.out⟩
      · obtain ⟨fn, tmps, assign, body, hy, hR⟩ := hst _ rfl
        change Sem.run Tryd.prog (Instr.yield l #[.string ⟨#[84]⟩, .int .i64 1000000000000]) _ = _ at hy
        clear hst hJk hY hJ hJx h0 hk h4
        have es : (⟨#[75, 77, 71, 84]⟩ : ByteArray).extract 3 4 = ⟨#[84]⟩ := by kernel_rfl
        have hu : ((1000 : Int) ^ 3) = 1000000000 := by decide
        rw [show ((1000 : Int) ^ 3) = 1000000000 from by decide]
        gi_wp2
        clear hu es
        refine hR.mono ?_
        rintro e W1 ⟨b, rfl, hT, hU⟩
        cases b with
        | true =>
          have hJ1 := hT rfl
          clear hT hU hy hR
          gi_wp2
          exact ⟨⟨4, by omega, rfl, rfl, hJ1⟩, by simp [intOf]⟩
        | false =>
          have hJ1 := Lib.hid (hU rfl)
          clear hT hU hy hR
          gi_wp2
          refine bodyPost_ret (results_none rfl _ _ _) rfl ?_
          exact ⟨⟨_, rfl⟩, .inr hJ1.out⟩
    · obtain rfl : k = 4 := by omega
      clear hst hY hJ hJx h0 h4
      have hJ1 := Lib.hid hJk
      clear hJk
      gi_wp2
      go_end0
      exact ⟨⟨_, rfl⟩, .inl ⟨decs, rfl, hJ1.out⟩⟩
end Go.Proofs.YtggkdapfccanpaaDoor.Q
