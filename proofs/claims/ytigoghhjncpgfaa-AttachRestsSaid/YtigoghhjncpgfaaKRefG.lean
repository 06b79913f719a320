/- Of objects in a slice the first one of a kind and a name, as the document finds it. -/
import Derived.Test.YtigoghhjncpgfaaKAct
import Derived.Test.YtigoghhjncpgfaaKList
import Derived.LoopTactic
namespace Go.Proofs.Ytigoghhjncpgfaa.O.B
open Go Go.RowKit Go.Shelf Go.Lib RangeMap KM
attribute [local go_sem] Oper.semAt_some

theorem find_at {p : Obj → Bool} : ∀ {l : List Obj} {k : Nat} (h : k < l.length), (∀ j (hj : j < l.length), j < k → p l[j] = false) → p l[k] = true → l.find? p = some l[k]
  | [], _, h, _, _ => absurd h (by simp)
  | x :: l, 0, _, _, h2 => by
    exact List.find?_cons_of_pos (show p x = true from h2)
  | x :: l, k + 1, h, h1, h2 => by
    rw [List.find?_cons_of_neg (by rw [show p x = false from h1 0 (by simp) (by omega)]; decide)]
    exact find_at (l := l) (by simpa using h) (fun j hj hk => h1 (j + 1) (by simpa using hj) (by omega)) h2
theorem find_no {p : Obj → Bool} {l : List Obj} (h : ∀ j (hj : j < l.length), p l[j] = false) : l.find? p = none := by
  rw [List.find?_eq_none]
  intro x hx
  obtain ⟨j, hj, rfl⟩ := List.mem_iff_getElem.1 hx
  simp [h j hj]
theorem row_cell {W : World} {g k : Nat} {o : Obj} (h : W.rangeAt g k (cellsO o).toList) (j : Nat) (v : Value) (hv : (cellsO o).toList[j]? = some v) : W.cell? ⟨g, k + j, none⟩ = some v := h j v hv

set_option maxRecDepth 100000 in
set_option maxHeartbeats 4000000 in
theorem rget_any (l : List Obj) (v : Value) (k : Int) (n : ByteArray) (w : World) (hl : ObjsIn w v l) :
    Calls Try.prog 31 #[v, .int .u8 k, .string n] w fun e w' => e = .returned (.tuple #[encO ((getL l k n).getD O0), .bool (getL l k n).isSome]) ∧ Below w.heap.size w w' := by
  obtain ⟨o, cp, rfl, hm, -⟩ := id hl
  have HL := Lib.hid hl
  clear hl
  obtain ⟨r, hr⟩ : ∃ r, getL l k n = r := ⟨_, rfl⟩
  rw [hr]
  have HR := Lib.hid hr
  clear hr
  go_enter Try.func31, Try.ntmps31
  go_upto_region 1 with (fail)
  refine wp_gen (fun V => BoxO V w.heap.size O0 ∧ Below w.heap.size w V) ⟨BoxO.new w O0, (Below.refl _ _).alloc (Nat.le_refl _) _⟩ ?_
  rintro V ⟨ho, hlw⟩
  have HO := Lib.hid ho
  have HW := Lib.hid hlw
  have HLV := Lib.hid (HL.out.after hlw)
  clear ho hlw HL
  go_wp2_with (fail)
  go_loop [8] (fun i => ∃ j : Nat, i = .int .i64 (j : Int) ∧ j ≤ l.length ∧ ∀ q (hq : q < l.length), q < j → (decide (l[q].kind = k) && decide (l[q].name = n)) = false) (fun i => l.length - (RowKit.intOf i).toNat)
  case atStart => exact ⟨0, rfl, Nat.zero_le _, fun q _ h => absurd h (by omega)⟩
  case round =>
    obtain ⟨j, rfl, hj, hno⟩ := hrel
    have HNO := Lib.hid hno
    clear hno
    by_cases hlt : j < l.length
    · have hlt' : (j : Int) < (l.length : Int) := by omega
      obtain ⟨o', c', he, -, hi⟩ := HLV.out
      cases he
      obtain ⟨g, off, rfl, -, hrow⟩ := hi j hlt
      obtain ⟨x, hx⟩ : ∃ x, l[j] = x := ⟨_, rfl⟩
      rw [hx] at hrow
      have c0 := row_cell hrow 0 _ rfl
      have c1 := row_cell hrow 1 _ rfl
      rw [Nat.add_zero] at c0
      have HXX := Lib.hid hx
      clear hi hx
      cases e1 : (x.kind == k) with
      | false =>
        have HN2 : Hid (∀ q (hq : q < l.length), q < j + 1 → (decide (l[q].kind = k) && decide (l[q].name = n)) = false) := fun q hq h => by
          rcases Nat.lt_or_ge q j with h1 | h1
          · exact HNO.out q hq h1
          · obtain rfl : q = j := by omega
            rw [HXX.out]
            have h2 : decide (x.kind = k) = false := e1
            rw [h2]
            rfl
        go_wp2
        go_round
        case rel => exact ⟨j + 1, by go_num, by omega, HN2.out⟩
        case measure => simp [RowKit.intOf]; omega
      | true =>
        cases e2 : (x.name.toList == n.toList) with
        | false =>
          have HN2 : Hid (∀ q (hq : q < l.length), q < j + 1 → (decide (l[q].kind = k) && decide (l[q].name = n)) = false) := fun q hq h => by
            rcases Nat.lt_or_ge q j with h1 | h1
            · exact HNO.out q hq h1
            · obtain rfl : q = j := by omega
              rw [HXX.out, ← eqB, e2]
              simp
          go_wp2
          go_round
          case rel => exact ⟨j + 1, by go_num, by omega, HN2.out⟩
          case measure => simp [RowKit.intOf]; omega
        | true =>
          have hf : getL l k n = some x := by
            rw [← HXX.out]
            unfold getL
            refine find_at hlt (fun q hq h => HNO.out q hq h) ?_
            have h2 : decide (l[j].kind = k) = true := by rw [HXX.out]; exact e1
            rw [h2, HXX.out, ← eqB, e2]
            rfl
          have HVV : Hid (r = some x) := HR.out.symm.trans hf
          obtain ⟨V8, hst8, ho8, -, hb8⟩ := storing HO.out x
          have HO8 := Lib.hid ho8
          have HX8 := Lib.hid (hb8 _ _ HW.out (Nat.le_refl _))
          clear hf ho8 hb8
          go_wp2_with (first | (refine wpList_got rfl (load_mid hrow rfl rfl) ?_) | (refine wpList_skip rfl (hst8 rfl rfl rfl) ?_))
          refine bodyPost_ret (v := .tuple #[encO x, .bool true]) (results_ct rfl rfl rfl (loadVar_obj HO8.out)) rfl ?_
          exact ⟨by rw [HVV.out]; rfl, HX8.out⟩
    · have hlt' : ¬ (j : Int) < (l.length : Int) := by omega
      have hf : getL l k n = none := by
        unfold getL
        exact find_no fun q hq => HNO.out q hq (by omega)
      have HVV : Hid (r = none) := HR.out.symm.trans hf
      obtain ⟨V8, hst8, ho8, -, hb8⟩ := storing HO.out O0
      have HO8 := Lib.hid ho8
      have HX8 := Lib.hid (hb8 _ _ HW.out (Nat.le_refl _))
      clear hf ho8 hb8
      go_wp2_with (refine wpList_skip rfl (hst8 rfl rfl rfl) ?_)
      refine bodyPost_ret (v := .tuple #[encO O0, .bool false]) (results_ct rfl rfl rfl (loadVar_obj HO8.out)) rfl ?_
      exact ⟨by rw [HVV.out]; rfl, HX8.out⟩

end Go.Proofs.Ytigoghhjncpgfaa.O.B
