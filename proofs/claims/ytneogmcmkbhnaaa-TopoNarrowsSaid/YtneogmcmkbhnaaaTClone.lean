/- slices.Clone at texts; cloned, common. -/
import Derived.Test.YtneogmcmkbhnaaaTRefTs
import Derived.Test.YtneogmcmkbhnaaaTPrintX
import Derived.Test.YtneogmcmkbhnaaaHeldEnd
namespace Go.Proofs.Ytneogmcmkbhnaaa.T
open Go.RowKit
open Go.Lib hiding intOf

theorem clone_any (v : Value) (l : List (List UInt8)) (w : World) (h : StrsIn w v l) (hl : l.length ≤ 1000) :
    Calls Try.prog 75 #[v] w fun e w' => ∃ v', e = .returned v' ∧ w'.ownsRow w.heap.size 9 1 v' l.length (l.map encS) ∧ Below w.heap.size w w' := by
  rcases h with ⟨o, c, rfl, rfl⟩ | ⟨g, off, cap, rfl, hm, hc, -⟩
  · cases o with
    | none =>
      refine (Try.slices_Clone_string_nil 0 c w).mono ?_
      rintro e w' ⟨rfl, rfl⟩
      exact ⟨_, rfl, World.ownsRow_nil _ _ _ _, Below.refl _ _⟩
    | some a =>
      refine (Try.slices_Clone_string_zero a c w).mono ?_
      rintro e w' ⟨v', rfl, h1, -, hb⟩
      exact ⟨_, rfl, h1, hb⟩
  · have hz : (l.map fun x => (⟨x.toArray⟩ : ByteArray)).length = l.length := List.length_map _
    refine (Try.slices_Clone_string g off l.length cap (l.map fun x => (⟨x.toArray⟩ : ByteArray)) w (by rw [hz]; exact Nat.le_refl _) (by omega) (fun j hj => ?_)).mono ?_
    · rw [hz] at hj
      rw [hc j hj]
      simp [encS, hj]
    · rintro e w' ⟨v', rfl, h1, -, hb⟩
      refine ⟨_, rfl, ?_, hb⟩
      rw [List.take_of_length_le (by rw [hz]; exact Nat.le_refl _), List.map_map] at h1
      exact h1

theorem store_term {W : World} {b : Nat} {k k' : List UInt8} {v' : Value} {vo : Option Addr} {vn vc : Nat} (h : BoxT W b k' v') {oi : Oper} {a : Act} {x y : Operand} (ho : oi.op = .store 60 x y) (hx : a.eval x = .pointer (some ⟨b, 0, none⟩)) (hy : a.eval y = .agg (cellsT k (.slice vo vn vc))) :
    (execOp a.eval oi).run Try.prog W = .ok .skip (W.setRow b (cellsT k (.slice vo vn vc))) := by
  have hq := run_storeVar_row (P := Try.prog) W b 60 60 (cellsT k' v') (cellsT k (.slice vo vn vc)) h sizeTerm rfl (one_cellsT _)
  unfold execOp
  simp only [ho, hx, hy, Instr.storeAt, Instr.sureAddr, Sem.run_bind, Sem.run_pure, Result.andThen_ok, hq]
theorem grownBy_row (W : World) (b : Nat) (cs : Array Value) : W.grownBy (W.setRow b cs) (some b) := grownBy_setRow W b cs
set_option maxRecDepth 100000 in
set_option maxHeartbeats 2000000 in
theorem cloned_any (a : List UInt8) (v : Value) (l : List (List UInt8)) (w : World) (hS : StrsIn w v l) (hl : l.length ≤ 1000) :
    Calls Try.prog 69 #[.agg (cellsT a v)] w fun e w' => ∃ v', e = .returned (.agg (cellsT a v')) ∧ w'.ownsRow w.heap.size 9 1 v' l.length (l.map encS) ∧ Below w.heap.size w w' := by
  have hb1 : Below w.heap.size w (w.alloc (.cells (cellsT a v) 60 (0, 0))) := (Below.refl _ _).alloc (Nat.le_refl _) _
  have hb : Below w.heap.size w ((w.alloc (.cells (cellsT a v) 60 (0, 0))).alloc (.cells (cellsT [] noV) 60 (0, 0))) := hb1.alloc hb1.size _
  have hX : BoxT (w.alloc (.cells (cellsT a v) 60 (0, 0))) w.heap.size a v := heap_alloc_new w _
  replace hX : BoxT ((w.alloc (.cells (cellsT a v) 60 (0, 0))).alloc (.cells (cellsT [] noV) 60 (0, 0))) w.heap.size a v := hX.after ((Below.refl _ _).alloc (Nat.le_refl _) _)
  have hY : BoxT ((w.alloc (.cells (cellsT a v) 60 (0, 0))).alloc (.cells (cellsT [] noV) 60 (0, 0))) (w.heap.size + 1) [] noV := by
    have := heap_alloc_new (w.alloc (.cells (cellsT a v) 60 (0, 0))) (.cells (cellsT [] noV) 60 (0, 0))
    rwa [show (w.alloc (.cells (cellsT a v) 60 (0, 0))).heap.size = w.heap.size + 1 by show (w.heap.push _).size = _; rw [Array.size_push]] at this
  have HF := Lib.hid (And.intro hX (And.intro hY (And.intro (hS.after hb) hb)))
  clear hX hY hb hb1 hS
  go_enter Try.func69, Try.ntmps69
  go_upto_region 1 with (fail)
  refine wp_gen (fun V => BoxT V w.heap.size a v ∧ BoxT V (w.heap.size + 1) [] noV ∧ StrsIn V v l ∧ Below w.heap.size w V) HF.out ?_
  clear HF
  rintro V HS
  refine wp_region_held_drew (S := fun V => BoxT V w.heap.size a v) (by kernel_rfl) HS.1 (fun _ => ?_)
  refine HeldBy.gen (fun V => BoxT V w.heap.size a v ∧ BoxT V (w.heap.size + 1) [] noV ∧ StrsIn V v l ∧ Below w.heap.size w V) ⟨HS.1, HS.2.1, HS.2.2.1.after (Below.refl _ _).drew, HS.2.2.2.drew⟩ ?_
  clear HS
  rintro U HS
  refine HeldBy.take (i := 0) rfl (by kernel_rfl) (by kernel_rfl) (by kernel_rfl) (fun _ _ _ h => h) (by rfl) (fun _ _ => by first | (go_simp; rfl) | (go_simp; done)) (by go_simp; rfl) HS.1 ?_
  refine HeldBy.take (i := 1) rfl (by kernel_rfl) (by kernel_rfl) (by kernel_rfl) (fun _ _ _ h => h) (by rfl) (fun V h => by have c := BoxT.c0 h; go_simp; rfl) (by go_simp; rfl) HS.1 ?_
  refine HeldBy.take (i := 2) rfl (by kernel_rfl) (by kernel_rfl) (by kernel_rfl) (fun _ _ _ h => h) (by rfl) (fun _ _ => by first | (go_simp; rfl) | (go_simp; done)) (by go_simp; rfl) HS.1 ?_
  refine HeldBy.take (i := 3) rfl (by kernel_rfl) (by kernel_rfl) (by kernel_rfl) (fun _ _ _ h => h) (by rfl) (fun V h => by have c := BoxT.c1 h; go_simp; rfl) (by go_simp; rfl) HS.1 ?_
  refine HeldBy.callE (i := 4) rfl (by kernel_rfl) (by rfl) (by go_simp; exact ⟨rfl, rfl⟩) (by intro v; go_simp; rfl) ?_
  refine (clone_any v l U HS.2.2.1 hl).mono ?_
  rintro e U1 ⟨v', rfl, hrow, hb⟩
  have hbase := HS.2.2.2.size
  replace HS := (⟨HS.1.after hb, HS.2.1.after hb, HS.2.2.1.after hb, HS.2.2.2.trans (hb.mono HS.2.2.2.size)⟩ : BoxT U1 w.heap.size a v ∧ BoxT U1 (w.heap.size + 1) [] noV ∧ StrsIn U1 v l ∧ Below w.heap.size w U1)
  refine .inl ⟨_, rfl, HS.1, ?_⟩
  obtain ⟨vo, vn, vc, rfl⟩ : ∃ vo vn vc, v' = .slice vo vn vc := by
    rcases hrow.2 with ⟨rfl, -⟩ | ⟨g, cap, cur, rfl, -⟩
    · exact ⟨_, _, _, rfl⟩
    · exact ⟨_, _, _, rfl⟩
  refine HeldBy.take (i := 5) (v := .agg (cellsT a (.slice vo vn vc))) rfl (by kernel_rfl) (by kernel_rfl) (by kernel_rfl) (fun _ _ _ h => h) (by rfl) (fun _ _ => by go_simp; rfl) (by go_simp; rfl) HS.1 ?_
  have hrow2 := hrow.kept (grownBy_setRow U1 (w.heap.size + 1) (cellsT a (.slice vo vn vc))) (.inr (Lib.ownBlock_ne hrow HS.2.1 (by decide)))
  have hlow := below_setRow HS.2.2.2 (Nat.le_succ _) (cellsT a (.slice vo vn vc))
  have hbox := HS.2.1.setRow a (.slice vo vn vc)
  have hbx : BoxT (U1.setRow (w.heap.size + 1) (cellsT a (.slice vo vn vc))) w.heap.size a v := ((grownBy_setRow U1 (w.heap.size + 1) (cellsT a (.slice vo vn vc))).block _ HS.1.lt (by simp)).trans HS.1
  refine HeldBy.store (i := 6) rfl (by kernel_rfl) (by rfl) (store_term HS.2.1 rfl (by go_simp) (by go_simp)) (by go_simp; rfl) hbx ?_
  refine wpAnyH_done (by kernel_rfl) ?_ _
  go_wp2
  refine bodyPost_ret (v := .agg (cellsT a (.slice vo vn vc))) (results_cell_row rfl _ _ (w.heap.size + 1) 60 (cellsT a (.slice vo vn vc)) (0, 0) _ rfl hbox undTerm rfl sizeTerm) rfl ?_
  exact ⟨_, rfl, ownsRow_base hrow2 hbase, hlow⟩

theorem filter_take {l b : List (List UInt8)} {k : Nat} (hk : k < l.length) : (l.take (k + 1)).filter (fun x => b.contains x) = (l.take k).filter (fun x => b.contains x) ++ (if b.contains l[k] then [l[k]] else []) := by
  rw [List.take_succ_eq_append_getElem hk, List.filter_append]
  rw [List.filter_cons, List.filter_nil]
def commonB (a b : List (List UInt8)) : List (List UInt8) := a.filter fun x => b.contains x
set_option maxRecDepth 100000 in
set_option maxHeartbeats 2000000 in
theorem common_any (va vb : Value) (a b : List (List UInt8)) (w : World) (hA : StrsIn w va a) (hB : StrsIn w vb b) (ha : a.length ≤ 1000) :
    Calls Try.prog 70 #[va, vb] w fun e w' => ∃ v', e = .returned v' ∧ w'.ownsRow w.heap.size 9 1 v' (commonB a b).length ((commonB a b).map encS) ∧ Below w.heap.size w w' := by
  have H1 := Lib.hid hA
  have H2 := Lib.hid hB
  obtain ⟨o, c, rfl⟩ := hA.len
  clear hA hB
  obtain ⟨N, hN⟩ : ∃ N, N = a.length := ⟨_, rfl⟩
  rw [← hN] at H1 ha ⊢
  have HN := Lib.hid hN
  clear hN
  go_enter Try.func70, Try.ntmps70
  go_wp2
  go_loopw [5, 10] (fun out i wr => ∃ k : Nat, i = .int .i64 (k : Int) ∧ k ≤ N ∧ Hid (wr.ownsRow w.heap.size 9 1 out ((a.take k).filter fun x => b.contains x).length (((a.take k).filter fun x => b.contains x).map encS)) ∧ Below w.heap.size w wr) (fun _ i _ => (N - intOf i).toNat)
  case atStart => exact ⟨0, rfl, Nat.zero_le _, World.ownsRow_nil _ _ _ _, Below.refl _ _⟩
  case round =>
    obtain ⟨k, rfl, hk, hrow, hlow⟩ := hrel
    have HLow := Lib.hid hlow
    clear hlow
    by_cases hkl : k < N
    · have hkl' : k < a.length := by rw [← HN.out]; exact hkl
      obtain ⟨g, off, rfl, -⟩ := H1.out.at k hkl'
      have c1 : wr.cell? ⟨g, off + k, none⟩ = some (encS a[k]) := by
        obtain ⟨g', off', h1, h2⟩ := (H1.out.after HLow.out).at k hkl'
        cases h1
        exact h2
      have HF := Lib.hid (filter_take (b := b) hkl')
      have hlf : ((a.take k).filter fun x => b.contains x).length ≤ 1000 := by
        have := List.length_filter_le (fun x => b.contains x) (a.take k)
        rw [List.length_take] at this
        omega
      generalize (a.take k).filter (fun x => b.contains x) = F at hrow HF hlf
      generalize a[k] = x at c1 HF
      have HC := Lib.hid (containsS_any vb b x wr (H2.out.after HLow.out))
      go_wp2_with fail
      refine HC.out.mono ?_
      rintro e W1 ⟨rfl, rfl⟩
      clear HC
      cases hx : b.contains x with
      | false =>
        have hnx : Hid (wr.ownsRow w.heap.size 9 1 u5 ((a.take (k + 1)).filter fun x => b.contains x).length (((a.take (k + 1)).filter fun x => b.contains x).map encS)) := by
          show World.ownsRow _ _ _ _ _ _ _
          rw [HF.out, hx]
          simpa using hrow.out
        clear HF hx c1 hrow
        go_wp2
        go_roundw
        case rel => exact ⟨k + 1, rfl, by omega, hnx, HLow.out⟩
        case measure => simp [intOf]; omega
      | true =>
        have HF2 : Hid ((a.take (k + 1)).filter (fun x => b.contains x) = F ++ [x]) := by show _ = _; rw [HF.out, hx]; rfl
        obtain ⟨i0, hi, hz0, hz1, hz2⟩ := info_parts infoStr
        clear HF hx c1
        have HA := Lib.hid (hrow.out.alloc (.cells #[.string ⟨x.toArray⟩] 9 (0, 0)))
        have HLA := Lib.hid (HLow.out.alloc HLow.out.size (.cells #[.string ⟨x.toArray⟩] 9 (0, 0)))
        have hsz := HLA.out.size
        clear hrow
        unfold encS at HA
        unfold encS
        go_wp2_with (at_builtin; refine wpList_append_own _ rfl (.tmp 17) (.tmp 19) 58 rfl w.heap.size 9 i0 (.string ⟨#[]⟩) 1 16 undStrs hi hz0 hz1 hz2 rfl (by decide) u5 F.length _ rfl HA.out ⟨wr.heap.size, 0, none⟩ 1 1 [.string ⟨x.toArray⟩] rfl rfl (cell_one_new _ _ _) (by simp [Value.oneCell']) (by simp only [maxLen]; omega) (by omega) hsz ?_; intro v' w3 hown' hg3 hnil)
        have hnx : Hid (w3.ownsRow w.heap.size 9 1 v' ((a.take (k + 1)).filter fun x => b.contains x).length (((a.take (k + 1)).filter fun x => b.contains x).map encS)) := by
          show World.ownsRow _ _ _ _ _ _ _
          rw [HF2.out, List.length_append, List.map_append]
          exact hown'
        have hlw : Hid (Below w.heap.size w w3) := HLA.out.grown hg3 hsz (fun k hk => (World.ownsRow.lt HA.out k hk).1)
        clear HA HLA hown' hg3 hnil HF2
        go_wp2
        go_roundw
        case rel => exact ⟨k + 1, rfl, by omega, hnx, hlw.out⟩
        case measure => simp [intOf]; omega
    · obtain rfl : k = N := by omega
      have hF : Hid (wr.ownsRow w.heap.size 9 1 u5 (commonB a b).length ((commonB a b).map encS)) := by
        have := hrow.out
        rw [List.take_of_length_le (by rw [HN.out]; exact Nat.le_refl _)] at this
        exact this
      clear hrow
      go_wp2
      go_ret
      exact ⟨_, rfl, hF.out, HLow.out⟩
end Go.Proofs.Ytneogmcmkbhnaaa.T
