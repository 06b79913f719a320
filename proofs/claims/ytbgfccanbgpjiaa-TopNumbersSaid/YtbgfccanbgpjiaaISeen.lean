/- The greatest number that was done of a target. -/
import Derived.Test.YtbgfccanbgpjiaaIDo
namespace Go.Proofs.Ytbgfccanbgpjiaa.O.I
open Go Go.RowKit Go.Lib KM
attribute [local go_sem] Oper.semAt_some

theorem exec_lookD1 {W : World} {oi : Oper} {a : Act} {p r : Operand} {b : Nat} {x : Tg} {d : List (Tg × Value)} (h : IsMap encT W b d) (y : Option Value) (hx : KM.get x d = y) (ho : oi.op = .lookup tD p r false) (hm : a.eval p = .map (some b)) (hk : a.eval r = encT x) :
    (execOp a.eval oi).run Try.prog W = .ok (.value (y.getD (encP zeroP))) W := by
  unfold execOp
  cases y with
  | none => simp [ho, hm, hk, run_lookup1_no tgtT und_D (zero_D W) h x hx, Result.andThen]
  | some v => simp [ho, hm, hk, run_lookup1_ok tgtT und_D h x hx, Result.andThen]
theorem exec_pcall {W : World} {y : Pc} {oi : Oper} {a : Act} {x : Operand} (ho : oi.op = .field 109 x 0) (hx : a.eval x = encP y) : (execOp a.eval oi).run Try.prog W = .ok (.value (encC y.call)) W := by
  unfold execOp
  simp only [ho, hx]
  kernel_rfl
theorem exec_cnum {W : World} {y : Cl} {oi : Oper} {a : Act} {x : Operand} (ho : oi.op = .field 27 x 2) (hx : a.eval x = encC y) : (execOp a.eval oi).run Try.prog W = .ok (.value (.int .u64 y.num)) W := by
  unfold execOp
  simp only [ho, hx]
  kernel_rfl
set_option maxRecDepth 100000 in
set_option maxHeartbeats 4000000 in
theorem seen_any (d r v s n : Nat) (Ro Vo So : List (ByteArray × Value)) (No : List (Tg × Value)) (vb : Int) (t : ByteArray) (y : Pc) (hy : (KM.get ⟨snapV vb, t⟩ No).getD (encP zeroP) = encP y) (w : World) (hd : DrAt w d r v s n Ro Vo So No) :
    Calls Try.prog 27 #[.pointer (some ⟨d, 0, none⟩), .int .u8 vb, .string t] w fun e w' => e = .returned (.int .u64 y.call.num) ∧ Below w.heap.size w w' := by
  have HD := Lib.hid hd
  have HY := Lib.hid hy
  have HW := Lib.hid (Below.refl w.heap.size w)
  clear hd hy
  go_enter Try.func27, Try.ntmps27
  go_upto_region 3 with (fail)
  refine wp_region_held_drew (S := fun V => DrAt V d r v s n Ro Vo So No ∧ Below w.heap.size w V) (by kernel_rfl) ⟨HD.out, HW.out.drew⟩ (fun _ => ?_)
  refine HeldBy.gen (fun V => DrAt V d r v s n Ro Vo So No ∧ Below w.heap.size w V) ⟨HD.out, HW.out.drew⟩ ?_
  clear HD HW
  rintro U0 HS
  refine HeldBy.take (i := 0) rfl (by kernel_rfl) (by kernel_rfl) (by kernel_rfl) (fun _ _ _ h => h) (by rfl) (fun _ _ => by first | (go_simp; rfl) | (go_simp; done)) (by go_simp; rfl) HS ?_
  refine HeldBy.take (i := 1) rfl (by kernel_rfl) (by kernel_rfl) (by kernel_rfl) (fun _ _ _ h => h) (by rfl) (fun _ _ => by first | (go_simp; rfl) | (go_simp; done)) (by go_simp; rfl) HS ?_
  refine HeldBy.take (i := 2) rfl (by kernel_rfl) (by kernel_rfl) (by kernel_rfl) (fun _ _ _ h => h) (by rfl) (fun _ _ => by first | (go_simp; rfl) | (go_simp; done)) (by go_simp; rfl) HS ?_
  refine HeldBy.take (i := 3) (v := .map (some n)) rfl (by kernel_rfl) (by kernel_rfl) (by kernel_rfl) (fun _ _ _ h => h) (by rfl) (fun V hV => by have hc := hV.1.box.c3; first | (go_simp; rfl) | (go_simp; done)) (by go_simp; rfl) HS ?_
  refine HeldBy.take (i := 4) rfl (by kernel_rfl) (by kernel_rfl) (by kernel_rfl) (fun _ _ _ h => h) (by rfl) (fun _ _ => by first | (go_simp; rfl) | (go_simp; done)) (by go_simp; rfl) HS ?_
  refine HeldBy.take (i := 5) rfl (by kernel_rfl) (by kernel_rfl) (by kernel_rfl) (fun _ _ _ h => h) (by rfl) (fun _ _ => by first | (go_simp; rfl) | (go_simp; done)) (by go_simp; rfl) HS ?_
  refine HeldBy.call (i := 6) (v := encT ⟨snapV vb, t⟩) rfl (by kernel_rfl) (by rfl) (by go_simp; exact ⟨rfl, rfl⟩) (by go_simp; rfl) ?_
  refine (targetOf_any vb t _).mono ?_
  rintro e U1 ⟨rfl, hb⟩
  replace HS : DrAt U1 d r v s n Ro Vo So No ∧ Below w.heap.size w U1 := ⟨HS.1.after hb, HS.2.trans (hb.mono HS.2.size)⟩
  refine ⟨rfl, HS, ?_⟩
  clear hb
  refine HeldBy.take (i := 7) (v := encP y) rfl (by kernel_rfl) (by kernel_rfl) (by kernel_rfl) (fun _ _ _ h => h) (by rfl) (fun V hV => HY.out ▸ exec_lookD1 hV.1.done _ rfl rfl rfl rfl) (by go_simp; rfl) HS ?_
  refine HeldBy.take (i := 8) (v := encC y.call) rfl (by kernel_rfl) (by kernel_rfl) (by kernel_rfl) (fun _ _ _ h => h) (by rfl) (fun _ _ => exec_pcall rfl rfl) (by go_simp; rfl) HS ?_
  refine HeldBy.take (i := 9) (v := .int .u64 y.call.num) rfl (by kernel_rfl) (by kernel_rfl) (by kernel_rfl) (fun _ _ _ h => h) (by rfl) (fun _ _ => exec_cnum rfl rfl) (by go_simp; rfl) HS ?_
  refine HeldBy.take (i := 10) rfl (by kernel_rfl) (by kernel_rfl) (by kernel_rfl) (fun _ _ _ h => h) (by rfl) (fun _ _ => by first | (go_simp; rfl) | (go_simp; done)) (by go_simp; rfl) HS ?_
  refine wpAnyH_done (by kernel_rfl) ?_ _
  have HX := Lib.hid HS.2
  clear HS
  go_wp2
  go_ret
  exact ⟨rfl, HX.out⟩
end Go.Proofs.Ytbgfccanbgpjiaa.O.I
