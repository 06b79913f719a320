/- The program's terms and labels as the document's (refTerms, refLabels). -/
import Derived.Test.YtneogmcmkbhnaaaTOpen
import Derived.Test.YtneogmcmkbhnaaaHeldBy
namespace Go.Proofs.Ytneogmcmkbhnaaa.T
open Go.RowKit Go.Lib

theorem TermsIn.shape {W : World} {v : Value} {acc : List TB} (h : TermsIn W v acc) : ∃ o c, v = .slice o acc.length c := by
  rcases h.2 with ⟨c, rfl, rfl⟩ | ⟨g, off, cap, rfl, -⟩
  · exact ⟨none, c, rfl⟩
  · exact ⟨_, _, rfl⟩
theorem TermsIn.len {W : World} {v : Value} {acc : List TB} (h : TermsIn W v acc) : acc.length ≤ 9223372036854775807 := by
  rcases h.2 with ⟨c, rfl, rfl⟩ | ⟨g, off, cap, rfl, h, -⟩
  · simp
  · exact h
theorem TermsIn.at {W : World} {o : Option Addr} {n c : Nat} {acc : List TB} (h : TermsIn W (.slice o n c) acc) (k : Nat) (hk : k < acc.length) :
    ∃ g off, o = some ⟨g, off, none⟩ ∧ g < W.heap.size ∧ W.cell? ⟨g, off + k * 2, none⟩ = some (encS acc[k].1.1) ∧ W.cell? ⟨g, off + k * 2 + 1, none⟩ = some acc[k].2 ∧ StrsIn W acc[k].2 acc[k].1.2 := by
  rcases h.2 with ⟨c, h1, rfl⟩ | ⟨g, off, cap, h1, h2, h3, h4⟩
  · cases hk
  · cases h1
    exact ⟨g, off, rfl, h3, (h4 k hk).1, (h4 k hk).2, h.1 _ (List.getElem_mem hk)⟩
theorem LabsIn.shape {W : World} {v : Value} {l : List LB} (h : LabsIn W v l) : ∃ o c, v = .slice o l.length c := by
  rcases h with ⟨c, rfl, rfl⟩ | ⟨g, off, cap, rfl, -⟩
  · exact ⟨none, c, rfl⟩
  · exact ⟨_, _, rfl⟩
theorem LabsIn.len {W : World} {v : Value} {l : List LB} (h : LabsIn W v l) : l.length ≤ 9223372036854775807 := by
  rcases h with ⟨c, rfl, rfl⟩ | ⟨g, off, cap, rfl, h, -⟩
  · simp
  · exact h
theorem LabsIn.at {W : World} {o : Option Addr} {n c : Nat} {l : List LB} (h : LabsIn W (.slice o n c) l) (k : Nat) (hk : k < l.length) :
    ∃ g off, o = some ⟨g, off, none⟩ ∧ g < W.heap.size ∧ W.cell? ⟨g, off + k * 2, none⟩ = some (encS l[k].1) ∧ W.cell? ⟨g, off + k * 2 + 1, none⟩ = some (encS l[k].2) := by
  rcases h with ⟨c, h1, rfl⟩ | ⟨g, off, cap, h1, h2, h3, h4⟩
  · cases hk
  · cases h1
    exact ⟨g, off, rfl, h3, (h4 k hk).1, (h4 k hk).2⟩
theorem exec_append {t : TypeId} {o : Oper} {a : Act} {W W' : World} {s x : Operand} {v y v' : Value} (ho : o.op = .call { callee := .builtin .append, args := #[s, x], argTypes := #[t, t] }) (hs : a.eval s = v) (hx : a.eval x = y)
    (hr : (Builtin.append_ #[t, t] o.type #[v, y]).run Try.prog W = .ok v' W') : (execOp a.eval o).run Try.prog W = .ok (.value v') W' := by
  unfold execOp
  simp only [ho, resolve, invoke, builtin, Sem.run_bind, Sem.run_pure, Result.andThen_ok, List.map_toArray, List.map_cons, List.map_nil, hs, hx]
  rw [hr]
  rfl
theorem infoRT : (Try.prog.info? 66).map (fun i => (i.zero, i.size, i.bytes)) = some (some (.agg #[.string ⟨#[]⟩, .slice none 0 0]), 2, 40) := by kernel_rfl
theorem undRTs : Try.prog.underlying 30 = some (.slice 66) := by kernel_rfl
theorem infoRL : (Try.prog.info? 74).map (fun i => (i.zero, i.size, i.bytes)) = some (some (.agg #[.string ⟨#[]⟩, .string ⟨#[]⟩]), 2, 32) := by kernel_rfl
theorem undRLs : Try.prog.underlying 34 = some (.slice 74) := by kernel_rfl
/-- What stands between two rounds. -/
structure RT (w : World) (e : TypeId) (out : Value) (k : Nat) (xs : List Value) (W : World) : Prop where
  row : W.ownsRow w.heap.size e 2 out k xs
  low : Below w.heap.size w W
theorem RT.drew {w W : World} {e : TypeId} {out : Value} {k : Nat} {xs : List Value} (h : RT w e out k xs W) : RT w e out k xs W.drew := ⟨h.row.drew, h.low.drew⟩
theorem RT.start (w : World) (e : TypeId) : RT w e (.slice none 0 0) 0 [] w := ⟨World.ownsRow_nil _ _ _ _, Below.refl _ _⟩
theorem RT.alloc {w W : World} {e : TypeId} {out : Value} {k : Nat} {xs : List Value} (h : RT w e out k xs W) (o : Obj) : RT w e out k xs (W.alloc o) := ⟨h.row.alloc o, h.low.alloc h.low.size o⟩
theorem RT.grown {w W W1 : World} {e : TypeId} {out out' : Value} {k : Nat} {xs ys : List Value} (h : RT w e out k xs W) (hrow : W1.ownsRow w.heap.size e 2 out' (k + 1) ys) (hg : W.grownBy W1 out.ownBlock) : RT w e out' (k + 1) ys W1 :=
  ⟨hrow, h.low.grown hg h.low.size fun k hk => (World.ownsRow.lt h.row k hk).1⟩
theorem TermsIn.ofRow2 {W : World} {nb : Nat} {te : TypeId} {v : Value} {l : List TB} (h : W.ownsRow nb te 2 v l.length (encTs l)) (hv : ∀ x ∈ l, StrsIn W x.2 x.1.2) : TermsIn W v l := ⟨hv, TermsIn.rowPart h⟩
theorem encTs_take {acc : List TB} {k : Nat} (hk : k < acc.length) : encTs (acc.take (k + 1)) = encTs (acc.take k) ++ [encS acc[k].1.1, acc[k].2] := by
  rw [List.take_succ_eq_append_getElem hk, encTs_snoc]
theorem encLs_take {acc : List LB} {k : Nat} (hk : k < acc.length) : encLs (acc.take (k + 1)) = encLs (acc.take k) ++ [encS acc[k].1, encS acc[k].2] := by
  rw [List.take_succ_eq_append_getElem hk, encLs_snoc]

set_option maxRecDepth 100000 in
set_option maxHeartbeats 2000000 in
theorem refTerms_any (sel : Value) (acc : List TB) (h30 : acc.length ≤ 30) (w : World) (hT : TermsIn w sel acc) :
    Calls Try.prog 15 #[sel] w fun e w' => ∃ v, e = .returned v ∧ TermsIn w' v acc ∧ Below w.heap.size w w' := by
  have HT := Lib.hid hT
  obtain ⟨o, c, rfl⟩ := hT.shape
  clear hT
  obtain ⟨L, hL⟩ : ∃ L, L = acc.length := ⟨_, rfl⟩
  rw [← hL] at HT h30 ⊢
  have HL := Lib.hid hL
  clear hL
  go_enter Try.func15, Try.ntmps15
  go_wp2
  go_loopw [3, 4] (fun out i wr => ∃ k : Nat, i = .int .i64 (k : Int) ∧ k ≤ L ∧ RT w 66 out k (encTs (acc.take k)) wr) (fun _ i _ => (L - intOf i).toNat)
  case atStart => exact ⟨0, rfl, Nat.zero_le _, RT.start _ _⟩
  case round =>
    obtain ⟨k, rfl, hk, hS⟩ := hrel
    by_cases hkl : k < L
    · have hkl' : k < acc.length := by rw [← HL.out]; exact hkl
      obtain ⟨g, off, rfl, hg, -, -, hv⟩ := HT.out.at k hkl'
      have HC : Hid (∀ V, Below w.heap.size w V → V.cell? ⟨g, off + k * 2, none⟩ = some (encS acc[k].1.1) ∧ V.cell? ⟨g, off + k * 2 + 1, none⟩ = some acc[k].2) := fun V hV => by
        obtain ⟨g', off', h1, -, h2, h3, -⟩ := (HT.out.after hV).at k hkl'
        cases h1
        exact ⟨h2, h3⟩
      have HX := Lib.hid (encTs_take hkl')
      obtain ⟨vo, vn, vc, hvs⟩ := hv.shape
      rw [hvs] at HC HX
      generalize acc[k].1.1 = ka at HC HX
      clear hv hvs
      unfold encS at HC HX
      have HS := Lib.hid hS
      clear hS
      go_upto_region 5 with (fail)
      refine wp_region_held_drew (S := fun V => Below w.heap.size w V) (by kernel_rfl) HS.out.low.drew (fun _ => ?_)
      refine HeldBy.gen (fun V => RT w 66 u3 k (encTs (acc.take k)) V) HS.out.drew ?_
      clear HS
      rintro U HS
      refine HeldBy.take (i := 0) rfl (by kernel_rfl) (by kernel_rfl) (by kernel_rfl) (fun _ _ _ h => h) (by rfl) (fun _ _ => by first | (go_simp; rfl) | (go_simp; done)) (by go_simp; rfl) HS.low ?_
      refine HeldBy.take (i := 1) rfl (by kernel_rfl) (by kernel_rfl) (by kernel_rfl) (fun _ _ _ h => h) (by rfl) (fun _ _ => by first | (go_simp; rfl) | (go_simp; done)) (by go_simp; rfl) HS.low ?_
      refine HeldBy.take (i := 2) rfl (by kernel_rfl) (by kernel_rfl) (by kernel_rfl) (fun _ _ _ h => h) (by rfl) (fun _ _ => by first | (go_simp; rfl) | (go_simp; done)) (by go_simp; rfl) HS.low ?_
      refine HeldBy.take (i := 3) (v := .pointer (some ⟨g, off + k * 2, none⟩)) rfl (by kernel_rfl) (by kernel_rfl) (by kernel_rfl) (fun _ _ _ h => h) (by rfl) (fun _ _ => by go_simp) (by go_simp; rfl) HS.low ?_
      refine HeldBy.take (i := 4) rfl (by kernel_rfl) (by kernel_rfl) (by kernel_rfl) (fun _ _ _ h => h) (by rfl) (fun _ _ => by first | (go_simp; rfl) | (go_simp; done)) (by go_simp; rfl) HS.low ?_
      refine HeldBy.take (i := 5) rfl (by kernel_rfl) (by kernel_rfl) (by kernel_rfl) (fun _ _ _ h => h) (by rfl) (fun V h => by have c := (HC.out V h).1; go_simp; rfl) (by go_simp; rfl) HS.low ?_
      refine HeldBy.take (i := 6) rfl (by kernel_rfl) (by kernel_rfl) (by kernel_rfl) (fun _ _ _ h => h) (by rfl) (fun _ _ => by first | (go_simp; rfl) | (go_simp; done)) (by go_simp; rfl) HS.low ?_
      refine HeldBy.take (i := 7) rfl (by kernel_rfl) (by kernel_rfl) (by kernel_rfl) (fun _ _ _ h => h) (by rfl) (fun _ _ => by first | (go_simp; rfl) | (go_simp; done)) (by go_simp; rfl) HS.low ?_
      refine HeldBy.take (i := 8) (v := .pointer (some ⟨g, off + k * 2, none⟩)) rfl (by kernel_rfl) (by kernel_rfl) (by kernel_rfl) (fun _ _ _ h => h) (by rfl) (fun _ _ => by go_simp) (by go_simp; rfl) HS.low ?_
      refine HeldBy.take (i := 9) rfl (by kernel_rfl) (by kernel_rfl) (by kernel_rfl) (fun _ _ _ h => h) (by rfl) (fun _ _ => by first | (go_simp; rfl) | (go_simp; done)) (by go_simp; rfl) HS.low ?_
      refine HeldBy.take (i := 10) rfl (by kernel_rfl) (by kernel_rfl) (by kernel_rfl) (fun _ _ _ h => h) (by rfl) (fun V h => by have c := (HC.out V h).2; go_simp; rfl) (by go_simp; rfl) HS.low ?_
      refine HeldBy.take (i := 11) rfl (by kernel_rfl) (by kernel_rfl) (by kernel_rfl) (fun _ _ _ h => h) (by rfl) (fun _ _ => by first | (go_simp; rfl) | (go_simp; done)) (by go_simp; rfl) HS.low ?_
      replace HS := HS.alloc (.cells #[.string ⟨ka.toArray⟩, .slice vo vn vc] 66 (0, 0))
      refine HeldBy.value (i := 12) (v := .slice (some ⟨U.heap.size, 0, none⟩) 1 1) (w' := U.alloc (.cells #[.string ⟨ka.toArray⟩, .slice vo vn vc] 66 (0, 0))) rfl (by kernel_rfl) (by rfl) (by go_simp) (by go_simp; rfl) HS.low ?_
      obtain ⟨i0, hi, hz0, hz1, hz2⟩ := info_parts infoRT
      obtain ⟨v', W1, hr, hrow, hgrow, -⟩ := run_append_own (P := Try.prog) (w := U.alloc (.cells #[.string ⟨ka.toArray⟩, .slice vo vn vc] 66 (0, 0))) w.heap.size 30 30 66 i0 _ 2 40 undRTs hi hz0 hz1 hz2 rfl (by decide) u3 k _ HS.row ⟨U.heap.size, 0, none⟩ 1 1 [.string ⟨ka.toArray⟩, .slice vo vn vc] rfl (cell_two_new _ _ _ _) (by simp [Value.oneCell']) (by simp only [maxLen]; omega) (by omega) HS.low.size
      rw [← HX.out] at hrow
      replace HS := HS.grown hrow hgrow
      refine HeldBy.value (i := 13) (v := v') (w' := W1) rfl (by kernel_rfl) (by rfl) (exec_append rfl rfl rfl hr) (by go_simp; rfl) HS.low ?_
      clear hr hrow hgrow HC HX
      refine HeldBy.take (i := 14) rfl (by kernel_rfl) (by kernel_rfl) (by kernel_rfl) (fun _ _ _ h => h) (by rfl) (fun _ _ => by first | (go_simp; rfl) | (go_simp; done)) (by go_simp; rfl) HS.low ?_
      refine wpAnyH_done (by kernel_rfl) ?_ _
      have HS := Lib.hid HS
      go_wp2
      go_roundw
      case rel => exact ⟨k + 1, rfl, by omega, HS.out⟩
      case measure => simp [intOf]; omega
    · obtain rfl : k = L := by omega
      have hrow := hS.row
      rw [List.take_of_length_le (by rw [← HL.out]; exact Nat.le_refl _)] at hrow
      rw [HL.out] at hrow
      have hF : Hid (TermsIn wr u3 acc ∧ Below w.heap.size w wr) := ⟨TermsIn.ofRow2 hrow fun x hx => ((HT.out.after hS.low).1 x hx), hS.low⟩
      clear hrow hS HT
      go_wp2
      go_ret
      exact ⟨_, rfl, hF.out.1, hF.out.2⟩
set_option maxRecDepth 100000 in
set_option maxHeartbeats 2000000 in
theorem refLabels_any (sel : Value) (acc : List LB) (h30 : acc.length ≤ 30) (w : World) (hT : LabsIn w sel acc) :
    Calls Try.prog 18 #[sel] w fun e w' => ∃ v, e = .returned v ∧ LabsIn w' v acc ∧ Below w.heap.size w w' := by
  have HT := Lib.hid hT
  obtain ⟨o, c, rfl⟩ := hT.shape
  clear hT
  obtain ⟨L, hL⟩ : ∃ L, L = acc.length := ⟨_, rfl⟩
  rw [← hL] at HT h30 ⊢
  have HL := Lib.hid hL
  clear hL
  go_enter Try.func18, Try.ntmps18
  go_wp2
  go_loopw [3, 4] (fun out i wr => ∃ k : Nat, i = .int .i64 (k : Int) ∧ k ≤ L ∧ RT w 74 out k (encLs (acc.take k)) wr) (fun _ i _ => (L - intOf i).toNat)
  case atStart => exact ⟨0, rfl, Nat.zero_le _, RT.start _ _⟩
  case round =>
    obtain ⟨k, rfl, hk, hS⟩ := hrel
    by_cases hkl : k < L
    · have hkl' : k < acc.length := by rw [← HL.out]; exact hkl
      obtain ⟨g, off, rfl, hg, -, -⟩ := HT.out.at k hkl'
      have HC : Hid (∀ V, Below w.heap.size w V → V.cell? ⟨g, off + k * 2, none⟩ = some (encS acc[k].1) ∧ V.cell? ⟨g, off + k * 2 + 1, none⟩ = some (encS acc[k].2)) := fun V hV => by
        obtain ⟨g', off', h1, -, h2, h3⟩ := (HT.out.after hV).at k hkl'
        cases h1
        exact ⟨h2, h3⟩
      have HX := Lib.hid (encLs_take hkl')
      generalize acc[k].1 = ka at HC HX
      generalize acc[k].2 = kb at HC HX
      unfold encS at HC HX
      have HS := Lib.hid hS
      clear hS
      go_upto_region 5 with (fail)
      refine wp_region_held_drew (S := fun V => Below w.heap.size w V) (by kernel_rfl) HS.out.low.drew (fun _ => ?_)
      refine HeldBy.gen (fun V => RT w 74 u3 k (encLs (acc.take k)) V) HS.out.drew ?_
      clear HS
      rintro U HS
      refine HeldBy.take (i := 0) rfl (by kernel_rfl) (by kernel_rfl) (by kernel_rfl) (fun _ _ _ h => h) (by rfl) (fun _ _ => by first | (go_simp; rfl) | (go_simp; done)) (by go_simp; rfl) HS.low ?_
      refine HeldBy.take (i := 1) rfl (by kernel_rfl) (by kernel_rfl) (by kernel_rfl) (fun _ _ _ h => h) (by rfl) (fun _ _ => by first | (go_simp; rfl) | (go_simp; done)) (by go_simp; rfl) HS.low ?_
      refine HeldBy.take (i := 2) rfl (by kernel_rfl) (by kernel_rfl) (by kernel_rfl) (fun _ _ _ h => h) (by rfl) (fun _ _ => by first | (go_simp; rfl) | (go_simp; done)) (by go_simp; rfl) HS.low ?_
      refine HeldBy.take (i := 3) (v := .pointer (some ⟨g, off + k * 2, none⟩)) rfl (by kernel_rfl) (by kernel_rfl) (by kernel_rfl) (fun _ _ _ h => h) (by rfl) (fun _ _ => by go_simp) (by go_simp; rfl) HS.low ?_
      refine HeldBy.take (i := 4) rfl (by kernel_rfl) (by kernel_rfl) (by kernel_rfl) (fun _ _ _ h => h) (by rfl) (fun _ _ => by first | (go_simp; rfl) | (go_simp; done)) (by go_simp; rfl) HS.low ?_
      refine HeldBy.take (i := 5) rfl (by kernel_rfl) (by kernel_rfl) (by kernel_rfl) (fun _ _ _ h => h) (by rfl) (fun V h => by have c := (HC.out V h).1; go_simp; rfl) (by go_simp; rfl) HS.low ?_
      refine HeldBy.take (i := 6) rfl (by kernel_rfl) (by kernel_rfl) (by kernel_rfl) (fun _ _ _ h => h) (by rfl) (fun _ _ => by first | (go_simp; rfl) | (go_simp; done)) (by go_simp; rfl) HS.low ?_
      refine HeldBy.take (i := 7) rfl (by kernel_rfl) (by kernel_rfl) (by kernel_rfl) (fun _ _ _ h => h) (by rfl) (fun _ _ => by first | (go_simp; rfl) | (go_simp; done)) (by go_simp; rfl) HS.low ?_
      refine HeldBy.take (i := 8) (v := .pointer (some ⟨g, off + k * 2, none⟩)) rfl (by kernel_rfl) (by kernel_rfl) (by kernel_rfl) (fun _ _ _ h => h) (by rfl) (fun _ _ => by go_simp) (by go_simp; rfl) HS.low ?_
      refine HeldBy.take (i := 9) rfl (by kernel_rfl) (by kernel_rfl) (by kernel_rfl) (fun _ _ _ h => h) (by rfl) (fun _ _ => by first | (go_simp; rfl) | (go_simp; done)) (by go_simp; rfl) HS.low ?_
      refine HeldBy.take (i := 10) rfl (by kernel_rfl) (by kernel_rfl) (by kernel_rfl) (fun _ _ _ h => h) (by rfl) (fun V h => by have c := (HC.out V h).2; go_simp; rfl) (by go_simp; rfl) HS.low ?_
      refine HeldBy.take (i := 11) rfl (by kernel_rfl) (by kernel_rfl) (by kernel_rfl) (fun _ _ _ h => h) (by rfl) (fun _ _ => by first | (go_simp; rfl) | (go_simp; done)) (by go_simp; rfl) HS.low ?_
      replace HS := HS.alloc (.cells #[.string ⟨ka.toArray⟩, .string ⟨kb.toArray⟩] 74 (0, 0))
      refine HeldBy.value (i := 12) (v := .slice (some ⟨U.heap.size, 0, none⟩) 1 1) (w' := U.alloc (.cells #[.string ⟨ka.toArray⟩, .string ⟨kb.toArray⟩] 74 (0, 0))) rfl (by kernel_rfl) (by rfl) (by go_simp) (by go_simp; rfl) HS.low ?_
      obtain ⟨i0, hi, hz0, hz1, hz2⟩ := info_parts infoRL
      obtain ⟨v', W1, hr, hrow, hgrow, -⟩ := run_append_own (P := Try.prog) (w := U.alloc (.cells #[.string ⟨ka.toArray⟩, .string ⟨kb.toArray⟩] 74 (0, 0))) w.heap.size 34 34 74 i0 _ 2 32 undRLs hi hz0 hz1 hz2 rfl (by decide) u3 k _ HS.row ⟨U.heap.size, 0, none⟩ 1 1 [.string ⟨ka.toArray⟩, .string ⟨kb.toArray⟩] rfl (cell_two_new _ _ _ _) (by simp [Value.oneCell']) (by simp only [maxLen]; omega) (by omega) HS.low.size
      rw [← HX.out] at hrow
      replace HS := HS.grown hrow hgrow
      refine HeldBy.value (i := 13) (v := v') (w' := W1) rfl (by kernel_rfl) (by rfl) (exec_append rfl rfl rfl hr) (by go_simp; rfl) HS.low ?_
      clear hr hrow hgrow HC HX
      refine HeldBy.take (i := 14) rfl (by kernel_rfl) (by kernel_rfl) (by kernel_rfl) (fun _ _ _ h => h) (by rfl) (fun _ _ => by first | (go_simp; rfl) | (go_simp; done)) (by go_simp; rfl) HS.low ?_
      refine wpAnyH_done (by kernel_rfl) ?_ _
      have HS := Lib.hid HS
      go_wp2
      go_roundw
      case rel => exact ⟨k + 1, rfl, by omega, HS.out⟩
      case measure => simp [intOf]; omega
    · obtain rfl : k = L := by omega
      have hrow := hS.row
      rw [List.take_of_length_le (by rw [← HL.out]; exact Nat.le_refl _)] at hrow
      rw [HL.out] at hrow
      have hF : Hid (LabsIn wr u3 acc ∧ Below w.heap.size w wr) := ⟨LabsIn.ofRow hrow, hS.low⟩
      clear hrow hS HT
      go_wp2
      go_ret
      exact ⟨_, rfl, hF.out.1, hF.out.2⟩
end Go.Proofs.Ytneogmcmkbhnaaa.T
