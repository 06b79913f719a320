/- A snapshot that goes waits while a claim is being made of it: the law's walk. -/
import Derived.Test.YtdlbpfallmpkoaaDoorDWaits0
import Derived.Test.YtdlbpfallmpkoaaDoorDSnapAll
import Derived.Test.YtdlbpfallmpkoaaDoorKOut
import Derived.Test.YtdlbpfallmpkoaaDoorFlow
namespace Go.Proofs.YtdlbpfallmpkoaaDoor.O.B
open Go Go.RowKit Go.Shelf Go.Lib RangeMap KM
attribute [local go_sem] Oper.semAt_some

theorem run_objs0 (W : World) : (Instr.buildSlice 22 0 #[]).run Tryd.prog W = .ok (.slice (some ⟨W.heap.size, 0, none⟩) 0 0) (W.alloc (.cells #[] 28 (0, 0))) := by kernel_rfl
theorem own0 {W : World} {R b : Nat} (h : R ≤ b) (hb : W.heap[b]? = some (.cells #[] 28 (0, 0))) : OutIn W R (.slice (some ⟨b, 0, none⟩) 0 0) [] := by
  refine ⟨rfl, .inr ⟨b, 0, #[], rfl, h, hb, ?_, ?_, ?_, ?_⟩⟩ <;> first | rfl | omega | simp
theorem apart0 {W : World} {b p : Nat} {cs : Array Value} {t : TypeId} (hb : W.heap[b]? = some (.cells #[] 28 (0, 0))) (hp : W.heap[p]? = some (.cells cs t (0, 0))) (hc : cs.size ≠ 0) : some p ≠ (Value.slice (some ⟨b, 0, none⟩) 0 0).ownBlock := fun e => by
  cases e
  rw [hp] at hb
  have h := Option.some.inj hb
  injection h with h1
  subst h1
  exact hc rfl
theorem zz_list : zzN.toList = [122, 122] := by rw [Lib.toList_data]; rfl
theorem built_zz (n : ByteArray) : Tryd.prog.built 28 [(0, .int .u8 3), (1, .string zzN), (17, .int .u8 2), (16, .string n)] = some (cellsO (zzC n)) := by kernel_rfl
theorem exec_append {oi : Oper} {a : Act} {W W' : World} {sl sr v : Value} {p r : Operand} (ho : oi.op = .call { callee := .builtin .append, args := #[p, r], argTypes := #[22, 22] })
    (h : (Builtin.append_ #[22, 22] oi.type #[sl, sr]).run Tryd.prog W = .ok v W') (hp : a.eval p = sl) (hr : a.eval r = sr) : (execOp a.eval oi).run Tryd.prog W = .ok (.value v) W' := by
  unfold execOp
  simp [ho, resolve, invoke, builtin, hp, hr, h, Result.andThen]
theorem exec_same_act {W : World} {A B : Ac} {oi : Oper} {a : Act} {x y : Operand} {t : TypeId} (ho : oi.op = .binOp .eql 44 x y t) (hx : a.eval x = encA A) (hy : a.eval y = encA B) :
    (execOp a.eval oi).run Tryd.prog W = .ok (.value (.bool (decide (A = B)))) W := by
  have h := eql_act A B W
  have hg : (eqGuard .eql 44 x y (encA A) (encA B)).run Tryd.prog W = .ok () W := by kernel_rfl
  unfold execOp
  simp only [ho, hx, hy, Sem.run_bind, Result.andThen_ok, hg, h]
  rfl
theorem built_act0 : Tryd.prog.built 44 [] = some (cellsA nothing) := by kernel_rfl
theorem load_act {W : World} {b : Nat} {c : Ac} (h : BoxA W b c) {oi : Oper} {a : Act} {x : Operand} (ho : oi.op = .load 44 x) (hx : a.eval x = .pointer (some ⟨b, 0, none⟩)) :
    (execOp a.eval oi).run Tryd.prog W = .ok (.value (encA c)) W := by
  unfold execOp
  simp only [ho, hx, Instr.loadAt, Instr.sureAddr, Sem.run_bind, Sem.run_pure, Result.andThen_ok, run_loadVar_row W b 44 44 (cellsA c) (0, 0) _ h undAct rfl sizeAct]
  rfl
theorem makes_act {oi : Oper} (ho : oi.op = .alloc 44) : HeldBy.Makes Tryd.prog oi (.cells (cellsA nothing) 44 (0, 0)) := by
  intro a w
  unfold execOp
  simp only [ho]
  kernel_rfl
theorem apart_own {W : World} {R : Nat} {v : Value} {l : List Obj} {p : Nat} {cs : Array Value} (h : OutIn W R v l) (hp : W.heap[p]? = some (.cells cs 44 (0, 0))) : some p ≠ v.ownBlock := fun e => by
  rcases h.2 with ⟨rfl, -⟩ | ⟨g, cap, cur, rfl, -, hg, -⟩
  · cases e
  · cases e
    rw [hp] at hg
    have := (Option.some.inj hg)
    cases this
theorem one_in {W : World} {q : Nat} {c : Obj} (h : W.heap[q]? = some (.cells (catO [c]) 28 (0, 0))) : ObjsIn W (.slice (some ⟨q, 0, none⟩) 1 1) [c] := by
  refine ⟨_, 1, rfl, by simp, fun i hi => ⟨q, 0, rfl, (Array.getElem?_eq_some_iff.1 h).1, fun j u hu => ?_⟩⟩
  have hj : j < 20 := (List.getElem?_eq_some_iff.1 hu).1
  rw [cell_of_row W q _ _ _ _ h, Nat.zero_add, catO_at [c] i hi j hj]
  exact hu

def flA : HeldBy.Fl := ⟨9, some 11, .cells (cellsA nothing) 44 (0, 0), HeldBy.ptr⟩
def flC (c : Obj) : HeldBy.Fl := ⟨4, some 47, .cells (catO [c]) 28 (0, 0), fun q => .slice (some ⟨q, 0, none⟩) 1 1⟩
theorem with_act {P : Program} {ops : Array Oper} {Q : Exit → Act → World → Prop} {md : Region.Mode} {S : World → Prop} {fuel : Nat} {L : Array Bool} {a : Act} {w : World} (h : ∀ a0, a0 = a → wpAnyH P md ops Q S fuel L a0 w) : wpAnyH P md ops Q S fuel L a w := h a rfl

set_option maxRecDepth 100000 in
set_option maxHeartbeats 4000000 in
theorem data_waits_any (l : List Obj) (v : Value) (ver : Int) (n : ByteArray) (w : World) (hl : ObjsIn w v l) (hcp : ∀ o n c, v = .slice o n c → n ≤ c) (ht : Tab w) (hall : ∀ s ∈ l, (0 ≤ s.born ∧ s.born ≤ 18446744073709551615) ∧ s.name.size ≤ 140737488351232) :
    Calls Tryd.prog 7 #[v, .int .u64 ver, .string n] w fun e w' => e = .returned (.bool true) ∧ Below w.heap.size w w' := by
  have HT := Lib.hid ht
  have HF := Lib.hid (few_any l v w hl hcp)
  obtain ⟨o, cp, rfl, -, -⟩ := id hl
  have hall2 : ∀ s ∈ l.take 24 ++ [zzC n], (0 ≤ s.born ∧ s.born ≤ 18446744073709551615) ∧ s.name.size ≤ 140737488351232 := fun s hs => by
    rcases List.mem_append.1 hs with h | h
    · exact hall s (List.mem_of_mem_take h)
    · have : s = zzC n := by simpa using h
      subst this
      exact ⟨⟨Int.le_refl _, by show (0 : Int) ≤ _; omega⟩, by show 2 ≤ _; omega⟩
  have hq24 : (l.take 24).length ≤ 24 := by rw [List.length_take]; omega
  clear ht hl hcp hall
  go_enter Tryd.func7, Tryd.ntmps7
  go_wp2_with (fail)
  refine HF.out.mono ?_
  rintro e W1 ⟨v1, rfl, hl1, rfl⟩
  clear HF
  generalize l.take 24 = q at *
  obtain ⟨o1, c1, rfl, hm, -⟩ := id hl1
  have HL := Lib.hid hl1
  have HALL := Lib.hid hall2
  have HQ := Lib.hid hq24
  have hg := rget_any q _ 7 n W1 hl1
  obtain ⟨r, hr⟩ : ∃ r, getL q 7 n = r := ⟨_, rfl⟩
  rw [hr] at hg
  have HG := Lib.hid hg
  have HRR := Lib.hid hr
  clear hl1 hall2 hq24 hg hr
  go_wp2_with (fail)
  refine HG.out.mono ?_
  rintro e W2 ⟨rfl, hb2⟩
  obtain ⟨X, sx, ox, lx, -⟩ := boxing W2 (r.getD O0)
  obtain ⟨Y, sy, oy, ly, -⟩ := boxing X (zzC n)
  have hlx := hb2.trans (lx.mono hb2.size)
  have HW := Lib.hid (hlx.trans (ly.mono hlx.size))
  have HBS := Lib.hid (ox.after ly)
  have HBC := Lib.hid oy
  have HXS := Lib.hid ox.lt
  clear HG hb2 ox lx oy ly hlx
  go_wp2_with (first | (refine wpList_skip rfl (sx rfl rfl rfl) ?_) | (refine wpList_skip rfl (sy rfl rfl rfl) ?_) | ((with_reducible refine wpList_build_to rfl 28 _ rfl (cellsO (zzC n)) ?_ ?_); exact built_zz n))
  have HLY := Lib.hid (HL.out.after HW.out)
  clear sx sy
  go_loop [10] (fun i => ∃ j : Nat, i = .int .i64 (j : Int) ∧ j ≤ q.length ∧ Hid (∀ p (hp : p < q.length), p < j → (decide (q[p].kind = 3) && decide (q[p].name = zzN)) = false)) (fun i => q.length - (RowKit.intOf i).toNat)
  case atStart => exact ⟨0, rfl, Nat.zero_le _, by show ∀ p _, _ → _; intro p _ h; exact absurd h (by omega)⟩
  case round =>
    obtain ⟨j, rfl, hj, HNO⟩ := hrel
    by_cases hlt : j < q.length
    · have hlt' : (j : Int) < (q.length : Int) := by omega
      obtain ⟨o', c', he, -, hi⟩ := HLY.out
      cases he
      obtain ⟨g, off, rfl, -, hrow⟩ := hi j hlt
      obtain ⟨x, hx⟩ : ∃ x, q[j] = x := ⟨_, rfl⟩
      rw [hx] at hrow
      have d0 := row_cell hrow 0 _ rfl
      have d1 := row_cell hrow 1 _ rfl
      rw [Nat.add_zero] at d0
      have HXX := Lib.hid hx
      clear hi hx hrow
      cases e1 : (x.kind == 3) with
      | false =>
        have HN2 : Hid (∀ p (hp : p < q.length), p < j + 1 → (decide (q[p].kind = 3) && decide (q[p].name = zzN)) = false) := by
          show ∀ p _, _ → _
          intro p hp h
          rcases Nat.lt_or_ge p j with h1 | h1
          · exact HNO.out p hp h1
          · obtain rfl : p = j := by omega
            rw [HXX.out]
            have h2 : decide (x.kind = 3) = false := e1
            rw [h2]
            rfl
        clear HNO HXX HBS HBC HRR HALL
        go_wp2
        go_round
        case rel => exact ⟨j + 1, by go_num, by omega, HN2⟩
        case measure => simp [RowKit.intOf]; omega
      | true =>
        cases e2 : (x.name.toList == zzN.toList) with
        | false =>
          have HN2 : Hid (∀ p (hp : p < q.length), p < j + 1 → (decide (q[p].kind = 3) && decide (q[p].name = zzN)) = false) := by
            show ∀ p _, _ → _
            intro p hp h
            rcases Nat.lt_or_ge p j with h1 | h1
            · exact HNO.out p hp h1
            · obtain rfl : p = j := by omega
              rw [HXX.out, ← eqB, e2]
              simp
          clear HNO HXX HBS HBC HRR HALL
          rw [zz_list] at e2
          go_wp2
          go_round
          case rel => exact ⟨j + 1, by go_num, by omega, HN2⟩
          case measure => simp [RowKit.intOf]; omega
        | true =>
          have HV := Lib.hid (live_any Y (HT.out.after HW.out))
          clear HNO HXX HBS HBC HRR HALL
          rw [zz_list] at e2
          go_wp2_with (fail)
          refine HV.out.mono ?_
          rintro e W3 ⟨rfl, hb3⟩
          have HX := Lib.hid (HW.out.trans (hb3.mono HW.out.size))
          clear HV hb3 HW
          go_wp2
          go_ret
          exact ⟨rfl, HX.out⟩
    · have hlt' : ¬ (j : Int) < (q.length : Int) := by omega
      have hz : getL q 3 zzN = none := by
        unfold getL
        exact find_no fun p hp => HNO.out p hp (by omega)
      have HZ := Lib.hid hz
      have HTY := Lib.hid (HT.out.after HW.out)
      clear hz HNO HL HT
      obtain ⟨sv, hsv⟩ : ∃ sv, r.getD O0 = sv := ⟨_, rfl⟩
      rw [hsv] at HBS
      have HSV := Lib.hid hsv
      clear hsv
      go_upto_region 9 with (fail)
      refine wp_region_held_drew (S := fun V => ObjsIn V (.slice o1 q.length c1) q ∧ Tab V ∧ BoxO V W2.heap.size sv ∧ BoxO V X.heap.size (zzC n) ∧ Below W1.heap.size W1 V) (by kernel_rfl) ⟨HLY.out, HTY.out.drew, HBS.out, HBC.out, HW.out.drew⟩ (fun _ => ?_)
      refine HeldBy.gen (fun V => ObjsIn V (.slice o1 q.length c1) q ∧ Tab V ∧ BoxO V W2.heap.size sv ∧ BoxO V X.heap.size (zzC n) ∧ Below W1.heap.size W1 V) ⟨HLY.out, HTY.out.drew, HBS.out, HBC.out, HW.out.drew⟩ ?_
      clear HLY HTY HBS HBC HW
      rintro U0 HS
      have HSS : ∀ V, Below U0.heap.size U0 V → ObjsIn V (.slice o1 q.length c1) q ∧ Tab V ∧ BoxO V W2.heap.size sv ∧ BoxO V X.heap.size (zzC n) ∧ Below W1.heap.size W1 V := fun V hb => ⟨HS.1.after hb, HS.2.1.after hb, HS.2.2.1.after hb, HS.2.2.2.1.after hb, HS.2.2.2.2.trans (hb.mono HS.2.2.2.2.size)⟩
      refine HeldBy.take (i := 1) rfl (by kernel_rfl) (by kernel_rfl) (by kernel_rfl) (fun _ _ _ h => h) (by rfl) (fun _ _ => by first | (go_simp; rfl) | (go_simp; done)) (by go_simp; rfl) HS ?_
      refine HeldBy.take (i := 3) (v := encO (zzC n)) rfl (by kernel_rfl) (by kernel_rfl) (by kernel_rfl) (fun _ _ _ h => h) (by rfl) (fun V hV => load_obj hV.2.2.2.1 rfl rfl) (by go_simp; rfl) HS ?_
      refine HeldBy.take (i := 6) rfl (by kernel_rfl) (by kernel_rfl) (by kernel_rfl) (fun _ _ _ h => h) (by rfl) (fun _ _ => by first | (go_simp; rfl) | (go_simp; done)) (by go_simp; rfl) HS ?_
      refine HeldBy.take (i := 7) rfl (by kernel_rfl) (by kernel_rfl) (by kernel_rfl) (fun _ _ _ h => h) (by rfl) (fun _ _ => by first | (go_simp; rfl) | (go_simp; done)) (by go_simp; rfl) HS ?_
      refine with_act (fun a0 ha0 => ?_)
      have hSN : ∀ V s, ObjsIn V s (q ++ [zzC n]) → Tab V → Calls Tryd.prog 21 #[s, .int .u64 ver, .string n] V fun e w' => e = .returned (encA (snapD (q ++ [zzC n]) ver n)) ∧ Below V.heap.size V w' := fun V s h1 h2 => snapAll_any _ s ver n V h1 h2 HALL.out
      obtain ⟨ans, hans⟩ : ∃ ans, snapD (q ++ [zzC n]) ver n = ans := ⟨_, rfl⟩
      rw [hans] at hSN
      have HSN := Lib.hid hSN
      have HAN := Lib.hid hans
      clear hSN hans
      have hS0 : ∀ (a : Act) (w : World), a = a0 ∧ Below U0.heap.size U0 w → Below U0.heap.size U0 w := fun a w h => h.2
      refine HeldBy.Flow2.bare (R := U0.heap.size) (f := flA) (g := flC (zzC n)) (A := fun a w => a = a0 ∧ Below U0.heap.size U0 w) ?_ a0 U0 ⟨rfl, Below.refl _ _⟩
      refine HeldBy.Flow2.step (i := 0) (A' := fun a w => ∃ b, a = a0.put (some 43) (.slice (some ⟨b, 0, none⟩) 0 0) ∧ w.heap[b]? = some (.cells #[] 28 (0, 0)) ∧ U0.heap.size ≤ b ∧ Below U0.heap.size U0 w)
        rfl rfl rfl rfl rfl rfl rfl rfl rfl (by kernel_rfl) (by kernel_rfl) (by kernel_rfl) (by kernel_rfl) (by decide) (by show (0 : Nat) ≠ 4; decide) (by show (9 : Nat) ≠ 4; decide) rfl rfl (by kernel_rfl) (by kernel_rfl) (by kernel_rfl) (by kernel_rfl)
        (fun a w _ => makes_act rfl a w) ?f0 (fun a w z h => ⟨h.1, h.2.alloc h.2.size z⟩) (fun a w h => HSS w h.2) (fun a w h => HSS w h.choose_spec.2.2.2) (fun a w h => h.2.size) ?s0 ?_
      case f0 =>
        rintro a w ⟨ha, hb⟩
        refine exec_objs (run_objs1 w (zzC n)) rfl ?_
        subst ha
        rw [ha0]
        rfl
      case s0 =>
        rintro a w ⟨ha, hb⟩
        subst ha
        refine .inl ⟨_, _, exec_objs (run_objs0 w) rfl rfl, ⟨w.heap.size, rfl, heap_alloc_new _ _, hb.size, hb.alloc hb.size _⟩, fun p hp hx => ?_, fun p hp hx => ?_⟩ <;> exact (heap_alloc_old _ _ (Array.getElem?_eq_some_iff.1 hx).1).trans hx
      refine HeldBy.Flow2.step (i := 2) (A' := fun a w => ∃ x sl, a = (a0.put (some 43) x).put (some 45) sl ∧ OutIn w U0.heap.size sl q ∧ Below U0.heap.size U0 w)
        rfl rfl rfl rfl rfl rfl rfl rfl rfl (by kernel_rfl) (by kernel_rfl) (by kernel_rfl) (by kernel_rfl) (by decide) (by show (2 : Nat) ≠ 4; decide) (by show (9 : Nat) ≠ 4; decide) rfl rfl (by kernel_rfl) (by kernel_rfl) (by kernel_rfl) (by kernel_rfl)
        (fun a w _ => makes_act rfl a w) ?f2 (fun a w z h => ?a2) (fun a w h => HSS w h.choose_spec.2.2.2) (fun a w h => HSS w h.choose_spec.choose_spec.2.2) (fun a w h => h.choose_spec.2.2.2.size) ?s2 ?_
      case f2 =>
        rintro a w ⟨b, ha, hg, hR, hb⟩
        refine exec_objs (run_objs1 w (zzC n)) rfl ?_
        subst ha
        rw [ha0]
        rfl
      case a2 =>
        obtain ⟨b, ha, hg, hR, hb⟩ := h
        exact ⟨b, ha, (heap_alloc_old _ _ (Array.getElem?_eq_some_iff.1 hg).1).trans hg, hR, hb.alloc hb.size z⟩
      case s2 =>
        rintro a w ⟨b, ha, hg, hR, hb⟩
        obtain ⟨v', w', h1, h2, h3, h4⟩ := add_objs U0.heap.size w (.slice (some ⟨b, 0, none⟩) 0 0) [] q (.slice o1 q.length c1) 22 (own0 hR hg) (HSS w hb).1 hb.size (by have := HQ.out; show 0 + _ < _; omega)
        subst ha
        refine .inl ⟨v', w', exec_append rfl h1 (by rw [ha0]; rfl) (by rw [ha0]; rfl), ⟨_, v', rfl, h2, hb.trans h3⟩, fun p hp hx => ?_, fun p hp hx => ?_⟩
        · exact (h4 p (Array.getElem?_eq_some_iff.1 hx).1 (apart0 hg hx (by decide))).trans hx
        · exact (h4 p (Array.getElem?_eq_some_iff.1 hx).1 (apart0 hg hx (by rw [catO_size]; show 1 * 20 ≠ 0; decide))).trans hx
      refine HeldBy.Flow2.close rfl rfl rfl rfl rfl rfl (by kernel_rfl) (by kernel_rfl) (by show (9 : Nat) ≠ 4; decide) rfl (by kernel_rfl) (fun a w _ => makes_act rfl a w) ?f3 (fun a w z h => ?a3) (fun a w h => HSS w h.choose_spec.choose_spec.2.2) (fun a w h => h.choose_spec.choose_spec.2.2.size) ?_
      case f3 =>
        rintro a w ⟨x, sl, ha, ho, hb⟩
        refine exec_objs (run_objs1 w (zzC n)) rfl ?_
        subst ha
        rw [ha0]
        rfl
      case a3 =>
        obtain ⟨x, sl, ha, ho, hb⟩ := h
        exact ⟨x, sl, ha, ho.after ((Below.refl _ _).alloc (Nat.le_refl _) z), hb.alloc hb.size z⟩
      refine HeldBy.Flow1.step (i := 5) (A' := fun a w => ∃ x y z sl, a = (((a0.put (some 43) x).put (some 45) y).put (some 47) z).put (some 48) sl ∧ OutIn w U0.heap.size sl (q ++ [zzC n]) ∧ Below U0.heap.size U0 w)
        rfl rfl rfl rfl rfl rfl (by kernel_rfl) (by kernel_rfl) (by decide) (by kernel_rfl) (fun a w _ => makes_act rfl a w) (fun a w h => ?a5) (fun a w h => ?S5) (fun a w h => HSS w h.choose_spec.choose_spec.choose_spec.choose_spec.2.2) (fun a w h => ?R5) ?s5 ?_
      case a5 =>
        obtain ⟨a1, p, ⟨x, sl, h1, h2, h3⟩, hp, hx, ha⟩ := h
        have hal : Below w.heap.size w (w.alloc flA.x) := (Below.refl _ _).alloc (Nat.le_refl _) _
        exact ⟨a1, p, ⟨x, sl, h1, h2.after hal, h3.trans (hal.mono h3.size)⟩, hp, (heap_alloc_old _ _ (Array.getElem?_eq_some_iff.1 hx).1).trans hx, ha⟩
      case S5 =>
        obtain ⟨a1, p, ⟨x, sl, h1, h2, h3⟩, hp, hx, ha⟩ := h
        exact HSS w h3
      case R5 =>
        obtain ⟨a1, p, ⟨x, sl, h1, h2, h3⟩, hp, hx, ha⟩ := h
        exact h3.size
      case s5 =>
        rintro a w ⟨a1, p, ⟨x, sl, h1, h2, h3⟩, hp, hx, ha⟩
        obtain ⟨v', w', g1, g2, g3, g4⟩ := add_objs U0.heap.size w sl q [zzC n] (.slice (some ⟨p, 0, none⟩) 1 1) 22 h2 (one_in hx) h3.size (by have := HQ.out; show _ + 1 < _; omega)
        subst ha
        subst h1
        refine .inl ⟨v', w', exec_append rfl g1 (by rw [ha0]; rfl) (by rw [ha0]; rfl), ⟨_, _, _, v', rfl, g2, h3.trans g3⟩, fun p' hp' hx' => ?_⟩
        exact (g4 p' (Array.getElem?_eq_some_iff.1 hx').1 (apart_own h2 hx')).trans hx'
      refine HeldBy.Flow1.step (i := 8) (A' := fun a w => ∃ x y z u, a = ((((a0.put (some 43) x).put (some 45) y).put (some 47) z).put (some 48) u).put (some 51) (encA ans) ∧ Below U0.heap.size U0 w)
        rfl rfl rfl rfl rfl rfl (by kernel_rfl) (by kernel_rfl) (by decide) (by kernel_rfl) (fun a w _ => makes_act rfl a w) (fun a w h => ?a8) (fun a w h => HSS w h.choose_spec.choose_spec.choose_spec.choose_spec.2.2) (fun a w h => HSS w h.choose_spec.choose_spec.choose_spec.choose_spec.2) (fun a w h => h.choose_spec.choose_spec.choose_spec.choose_spec.2.2.size) ?s8 ?_
      case a8 =>
        obtain ⟨x, y, z, sl, h1, h2, h3⟩ := h
        have hal : Below w.heap.size w (w.alloc flA.x) := (Below.refl _ _).alloc (Nat.le_refl _) _
        exact ⟨x, y, z, sl, h1, h2.after hal, h3.trans (hal.mono h3.size)⟩
      case s8 =>
        rintro a w ⟨x, y, z, sl, h1, h2, h3⟩
        subst h1
        have hlen : (q ++ [zzC n]).length ≤ 9223372036854775807 := by have := HQ.out; simp; omega
        refine .inr ⟨21, #[sl, .int .u64 ver, .string n], ?_, (HSN.out w sl (h2.objs hlen) (HSS w h3).2.1).mono ?_⟩
        · rw [ha0]
          first | (go_simp; done) | (go_simp; first | exact ⟨rfl, rfl⟩ | rfl)
        · rintro e w' ⟨rfl, hb⟩
          exact ⟨_, rfl, ⟨x, y, z, sl, rfl, h3.trans (hb.mono h3.size)⟩, fun p' hp' hx' => (hb.block p' (Array.getElem?_eq_some_iff.1 hx').1).trans hx'⟩
      refine HeldBy.Flow1.nil rfl rfl rfl (by kernel_rfl) (fun a w _ => makes_act rfl a w) (fun a w h => ?a9) (fun a w h => HSS w h.choose_spec.choose_spec.choose_spec.choose_spec.2) (fun a w h => h.choose_spec.choose_spec.choose_spec.choose_spec.2.size) rfl ?_
      case a9 =>
        obtain ⟨x, y, z, u, h1, h2⟩ := h
        exact ⟨x, y, z, u, h1, h2.alloc h2.size _⟩
      rintro a w0 p ⟨x, y, z, u, ha, hb⟩ hp hx
      subst ha
      have hxa : BoxA w0 p nothing := hx
      obtain ⟨V, sv0, bv, ov, lv⟩ := acting hxa ans
      have hV := lv _ _ hb hp
      rw [ha0]
      refine HeldBy.store (i := 10) (w' := V) rfl (by kernel_rfl) (by rfl) (sv0 rfl rfl rfl) (by unfold flA HeldBy.ptr; go_simp; rfl) (HSS V hV) ?_
      refine wpAnyH_done (by kernel_rfl) ?_ _
      have HB := Lib.hid (HSS V hV)
      have HBV := Lib.hid bv
      clear hx hxa sv0 ov bv lv hV hb HSN HSS HS ha0
      have HV := Lib.hid (live_any V HB.out.2.1)
      go_wp2_with (fail)
      refine HV.out.mono ?_
      rintro e W4 ⟨rfl, hb4⟩
      have h4 := HB.out.2.2.1.after hb4
      have c4 := h4.c4
      have HBA := Lib.hid (HBV.out.after hb4)
      have HX := Lib.hid (HB.out.2.2.2.2.trans (hb4.mono HB.out.2.2.2.2.size))
      clear HV hb4 h4 HB HBV
      cases r with
      | none =>
        clear HBA HAN HZ HRR HSV HALL
        go_wp2
        go_ret
        exact ⟨rfl, HX.out⟩
      | some s =>
        have es : s = sv := HSV.out
        subst es
        cases hd : s.deleting with
        | false =>
          rw [hd] at c4
          clear HBA HAN HZ HRR HSV HALL
          go_wp2
          go_ret
          exact ⟨rfl, HX.out⟩
        | true =>
          rw [hd] at c4
          have hn : ans = nothing := by rw [← HAN.out]; exact waits_plain q ver n s HRR.out hd HZ.out
          subst hn
          clear HAN HZ HRR HSV HALL
          go_wp2_with (first | (refine wpList_got rfl (load_act HBA.out rfl rfl) ?_) | ((with_reducible refine wpList_build_to rfl 44 _ rfl (cellsA nothing) ?_ ?_); exact built_act0) | (refine wpList_got rfl (exec_same_act (A := nothing) (B := nothing) rfl rfl rfl) ?_))
          go_ret
          exact ⟨rfl, HX.out⟩
end Go.Proofs.YtdlbpfallmpkoaaDoor.O.B
