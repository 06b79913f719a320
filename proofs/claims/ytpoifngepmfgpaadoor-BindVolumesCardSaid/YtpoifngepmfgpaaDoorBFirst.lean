/- At most so many objects, and the first one of its key, as the laws of claims and volumes ask. -/
import Derived.Test.YtpoifngepmfgpaaDoorKRefG
import Derived.Test.YtpoifngepmfgpaaDoorHeldBy
import Derived.LoopTactic
import Derived.Test.YtpoifngepmfgpaaDoorOCore
import Derived.Deep.Cut
import Derived.Outline
namespace Go.Proofs.YtpoifngepmfgpaaDoor.O
open Go.RowKit T
open Go.Lib

set_option maxHeartbeats 1000000 in
theorem rkey_any (o : Obj) (w : World) :
    Calls Tryd.prog 49 #[encO o] w fun e w' => e = .returned (encK o.kind o.name) ∧ Below w.heap.size w w' := by
  unfold encO
  go_enter Tryd.func49, Tryd.ntmps49
  go_upto_region 1 with (fail)
  refine wp_gen (fun W => BoxO W w.heap.size o ∧ W.heap[w.heap.size + 1]? = some (.cells #[.int .u8 0, .string ⟨#[]⟩] 60 (0, 0)) ∧ Below w.heap.size w W) ⟨(BoxO.new w o).alloc _, heap_alloc2_new w _ _, ((Below.refl _ _).alloc (Nat.le_refl _) _).alloc (by simp) _⟩ ?_
  rintro W1 ⟨hb, hk, hlow⟩
  have c0 := hb.c0
  have c1 := hb.c1
  have k0 : W1.cell? ⟨w.heap.size + 1, 0, none⟩ = some (.int .u8 0) := (cell_of_row W1 _ 0 _ _ _ hk).trans rfl
  have k1 : W1.cell? ⟨w.heap.size + 1, 1, none⟩ = some (.string ⟨#[]⟩) := (cell_of_row W1 _ 1 _ _ _ hk).trans rfl
  have f0 := frozen_of_row W1 _ 0 _ _ hk
  have f1 := frozen_of_row W1 _ 1 _ _ hk
  clear hk
  go_wp2
  go_outline
  refine bodyPost_ret (v := encK o.kind o.name) (by simp [results, Tryd.results49, go_sem, k0, k1]; rfl) rfl ?_
  exact ⟨rfl, (hlow.setCell (by simp) _).setCell (by simp) _⟩
end Go.Proofs.YtpoifngepmfgpaaDoor.O
namespace Go.Proofs.YtpoifngepmfgpaaDoor.O.B
open Go Go.RowKit Go.Shelf Go.Lib RangeMap KM
attribute [local go_sem] Oper.semAt_some

theorem ObjsIn.take {W : World} {g off n c : Nat} {l : List Obj} (h : ObjsIn W (.slice (some ⟨g, off, none⟩) n c) l) (k : Nat) (hk : k ≤ l.length) : ObjsIn W (.slice (some ⟨g, off, none⟩) k c) (l.take k) := by
  obtain ⟨o, c', he, hm, hi⟩ := h
  cases he
  have hl : (l.take k).length = k := by rw [List.length_take]; omega
  refine ⟨some ⟨g, off, none⟩, c, by rw [hl], by rw [hl]; omega, fun i h => ?_⟩
  rw [hl] at h
  obtain ⟨g', off', e, hlt, hr⟩ := hi i (by omega)
  refine ⟨g', off', e, hlt, ?_⟩
  rw [List.getElem_take]
  exact hr
set_option maxRecDepth 100000 in
set_option maxHeartbeats 2000000 in
theorem few12_any (l : List Obj) (v : Value) (w : World) (hl : ObjsIn w v l) (hc : ∀ o n c, v = .slice o n c → n ≤ c) :
    Calls Tryd.prog 8 #[v] w fun e w' => ∃ v', e = .returned v' ∧ ObjsIn w v' (l.take 24) ∧ w' = w := by
  obtain ⟨o, cp, rfl, hm, hi⟩ := id hl
  have hcp := hc _ _ _ rfl
  by_cases h : 24 < l.length
  · obtain ⟨g, off, rfl, -, -⟩ := hi 0 (by omega)
    have HL := Lib.hid (hl.take 24 (by omega))
    have h' : (24 : Int) < (l.length : Int) := by omega
    have h2 : (24 : Int) ≤ (cp : Int) := by omega
    have h3 : 24 ≤ cp := by omega
    clear hl hi hc
    go_enter Tryd.func8, Tryd.ntmps8
    go_wp2
    go_ret
    exact ⟨_, rfl, HL.out, rfl⟩
  · have HL := Lib.hid hl
    have ht : l.take 24 = l := List.take_of_length_le (by omega)
    have HT := Lib.hid ht
    have h' : ¬ (24 : Int) < (l.length : Int) := by omega
    clear hl hi hc ht
    go_enter Tryd.func8, Tryd.ntmps8
    go_wp2
    go_ret
    exact ⟨_, rfl, by rw [HT.out]; exact HL.out, rfl⟩

theorem exec_eql_key {W : World} {k1 k2 : Int} {n1 n2 : ByteArray} {v : Bool} {oi : Oper} {a : Act} {x y : Operand} {t : TypeId} (ho : oi.op = .binOp .eql 60 x y t) (hx : a.eval x = encK k1 n1) (hy : a.eval y = encK k2 n2) (hv : decide (k1 = k2 ∧ n1 = n2) = v) :
    (execOp a.eval oi).run Tryd.prog W = .ok (.value (.bool v)) W := by
  subst hv
  have h : (binOp .eql 60 (encK k1 n1) (encK k2 n2)).run Tryd.prog W = .ok (.bool (decide (k1 = k2 ∧ n1 = n2))) W := by
    unfold encK
    go_simp
    simp only [eqT]
    by_cases e1 : k1 = k2 <;> by_cases e2 : n1 = n2 <;> simp [e1, e2]
  have hg : (eqGuard .eql 60 x y (encK k1 n1) (encK k2 n2)).run Tryd.prog W = .ok () W := by kernel_rfl
  unfold execOp
  simp only [ho, hx, hy, Sem.run_bind, Result.andThen_ok, hg, h]
  rfl

/-- Whether it is the first one of its key: where it says so, it is. -/
def FirstA (q : List Obj) (i : Nat) (hi : i < q.length) (e : Ending) : Prop := ∃ b, e = .returned (.bool b) ∧ (b = true → ∀ j (hj : j < i), ¬ (q[j].kind = q[i].kind ∧ q[j].name = q[i].name))

set_option maxRecDepth 100000 in
set_option maxHeartbeats 4000000 in
theorem first12_any (q : List Obj) (v : Value) (i : Nat) (hi : i < q.length) (w : World) (hl : ObjsIn w v q) (hn : q.length ≤ 24) :
    Calls Tryd.prog 21 #[v, .int .i64 i] w fun e w' => FirstA q i hi e ∧ Below w.heap.size w w' := by
  obtain ⟨o, cp, rfl, -, hall⟩ := id hl
  obtain ⟨g, off, rfl, -, -⟩ := hall i hi
  have HL := Lib.hid hl
  clear hl hall
  go_enter Tryd.func21, Tryd.ntmps21
  go_wp2_with (fail)
  go_loopw [5] (fun k wr => ∃ j : Nat, k = .int .i64 (j : Int) ∧ j ≤ i ∧ Hid (∀ p (hp : p < i), p < j → ¬ (q[p].kind = q[i].kind ∧ q[p].name = q[i].name)) ∧ Below w.heap.size w wr) (fun k _ => i - (RowKit.intOf k).toNat)
  case atStart => exact ⟨0, rfl, Nat.zero_le _, by show ∀ p _, _ → _; intro p _ h; exact absurd h (by omega), Below.refl _ _⟩
  case round =>
    obtain ⟨j, rfl, hj, HNO, hlow⟩ := hrel
    have HW := Lib.hid hlow
    have HLL := Lib.hid (HL.out.after hlow)
    clear hlow
    by_cases hlt : j < i
    · have hlt' : (j : Int) < (i : Int) := by omega
      have hjq : j < q.length := by omega
      have hjq' : (j : Int) < (q.length : Int) := by omega
      have hiq' : (i : Int) < (q.length : Int) := by omega
      obtain ⟨x, hx⟩ : ∃ x, q[j] = x := ⟨_, rfl⟩
      obtain ⟨y, hy⟩ : ∃ y, q[i] = y := ⟨_, rfl⟩
      have hrow : ∀ k (hk : k < q.length) z, q[k] = z → ∀ V : World, ObjsIn V (.slice (some ⟨g, off, none⟩) q.length cp) q → V.rangeAt g (off + k * 20) (cellsO z).toList := fun k hk z hz V hV => by
        obtain ⟨o2, c2, e2, -, h2⟩ := hV
        cases e2
        obtain ⟨g3, off3, e3, -, h3⟩ := h2 k hk
        cases e3
        rw [← hz]
        exact h3
      have HRX := Lib.hid (hrow j hjq x hx)
      have HRY := Lib.hid (hrow i hi y hy)
      obtain ⟨b, hb⟩ : ∃ b, decide (x.kind = y.kind ∧ x.name = y.name) = b := ⟨_, rfl⟩
      have HB := Lib.hid hb
      have HNX : Hid (b = false → ∀ p (hp : p < i), p < j + 1 → ¬ (q[p].kind = q[i].kind ∧ q[p].name = q[i].name)) := by
        show _ → ∀ p _, _ → _
        intro hbf p hp h
        rcases Nat.lt_or_ge p j with h1 | h1
        · exact HNO.out p hp h1
        · obtain rfl : p = j := by omega
          rw [hx, hy]
          rw [hbf] at hb
          exact of_decide_eq_false hb
      clear hx hy hrow hb HNO
      go_upto_region 4 with (fail)
      refine wp_region_held_drew (S := fun V => ObjsIn V (.slice (some ⟨g, off, none⟩) q.length cp) q ∧ Below w.heap.size w V) (by kernel_rfl) ⟨HLL.out, HW.out.drew⟩ (fun _ => ?_)
      refine HeldBy.gen (fun V => ObjsIn V (.slice (some ⟨g, off, none⟩) q.length cp) q ∧ Below w.heap.size w V) ⟨HLL.out, HW.out.drew⟩ ?_
      clear HLL HW
      rintro U0 HS
      refine HeldBy.take (i := 0) rfl (by kernel_rfl) (by kernel_rfl) (by kernel_rfl) (fun _ _ _ h => h) (by rfl) (fun _ _ => by first | (go_simp; rfl) | (go_simp; done)) (by go_simp; rfl) HS ?_
      refine HeldBy.take (i := 1) rfl (by kernel_rfl) (by kernel_rfl) (by kernel_rfl) (fun _ _ _ h => h) (by rfl) (fun _ _ => by first | (go_simp; rfl) | (go_simp; done)) (by go_simp; rfl) HS ?_
      refine HeldBy.take (i := 2) rfl (by kernel_rfl) (by kernel_rfl) (by kernel_rfl) (fun _ _ _ h => h) (by rfl) (fun _ _ => by first | (go_simp; rfl) | (go_simp; done)) (by go_simp; rfl) HS ?_
      refine HeldBy.take (i := 3) (v := encO x) rfl (by kernel_rfl) (by kernel_rfl) (by kernel_rfl) (fun _ _ _ h => h) (by rfl) (fun V hV => load_mid (HRX.out V hV.1) rfl rfl) (by go_simp; rfl) HS ?_
      refine HeldBy.take (i := 5) rfl (by kernel_rfl) (by kernel_rfl) (by kernel_rfl) (fun _ _ _ h => h) (by rfl) (fun _ _ => by first | (go_simp; rfl) | (go_simp; done)) (by go_simp; rfl) HS ?_
      refine HeldBy.take (i := 6) rfl (by kernel_rfl) (by kernel_rfl) (by kernel_rfl) (fun _ _ _ h => h) (by rfl) (fun _ _ => by first | (go_simp; rfl) | (go_simp; done)) (by go_simp; rfl) HS ?_
      refine HeldBy.take (i := 7) rfl (by kernel_rfl) (by kernel_rfl) (by kernel_rfl) (fun _ _ _ h => h) (by rfl) (fun _ _ => by first | (go_simp; rfl) | (go_simp; done)) (by go_simp; rfl) HS ?_
      refine HeldBy.take (i := 8) (v := encO y) rfl (by kernel_rfl) (by kernel_rfl) (by kernel_rfl) (fun _ _ _ h => h) (by rfl) (fun V hV => load_mid (HRY.out V hV.1) rfl rfl) (by go_simp; rfl) HS ?_
      refine HeldBy.call (i := 4) (v := encK x.kind x.name) rfl (by kernel_rfl) (by rfl) (by go_simp; exact ⟨rfl, rfl⟩) (by go_simp; rfl) ?_
      refine (rkey_any x _).mono ?_
      rintro e U1 ⟨rfl, hb⟩
      replace HS : ObjsIn U1 (.slice (some ⟨g, off, none⟩) q.length cp) q ∧ Below w.heap.size w U1 := ⟨HS.1.after hb, HS.2.trans (hb.mono HS.2.size)⟩
      refine ⟨rfl, HS, ?_⟩
      clear hb
      refine HeldBy.call (i := 9) (v := encK y.kind y.name) rfl (by kernel_rfl) (by rfl) (by go_simp; exact ⟨rfl, rfl⟩) (by go_simp; rfl) ?_
      refine (rkey_any y _).mono ?_
      rintro e U2 ⟨rfl, hb⟩
      replace HS : ObjsIn U2 (.slice (some ⟨g, off, none⟩) q.length cp) q ∧ Below w.heap.size w U2 := ⟨HS.1.after hb, HS.2.trans (hb.mono HS.2.size)⟩
      refine ⟨rfl, HS, ?_⟩
      clear hb
      refine HeldBy.take (i := 10) (v := .bool b) rfl (by kernel_rfl) (by kernel_rfl) (by kernel_rfl) (fun _ _ _ h => h) (by rfl) (fun _ _ => exec_eql_key rfl rfl rfl HB.out) (by go_simp; rfl) HS ?_
      refine wpAnyH_done (by kernel_rfl) ?_ _
      have HX := Lib.hid HS.2
      clear HS HRX HRY HB
      cases b with
      | true =>
        clear HNX
        go_wp2
        go_ret
        exact ⟨⟨_, rfl, fun h => by cases h⟩, HX.out⟩
      | false =>
        have HN2 := Lib.hid (HNX.out rfl)
        clear HNX
        go_wp2
        go_roundw
        case rel => exact ⟨j + 1, by go_num, by omega, HN2, HX.out⟩
        case measure => simp [RowKit.intOf]; omega
    · have hlt' : ¬ (j : Int) < (i : Int) := by omega
      have HN2 : Hid (∀ p (hp : p < i), ¬ (q[p].kind = q[i].kind ∧ q[p].name = q[i].name)) := by
        show ∀ p _, _
        intro p hp
        exact HNO.out p hp (by omega)
      clear HNO
      go_wp2
      go_ret
      exact ⟨⟨_, rfl, fun _ => HN2.out⟩, HW.out⟩
end Go.Proofs.YtpoifngepmfgpaaDoor.O.B
