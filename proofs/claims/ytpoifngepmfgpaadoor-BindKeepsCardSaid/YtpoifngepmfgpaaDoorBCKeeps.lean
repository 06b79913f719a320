/- BindKeeps: for every input the law answers true, and its arguments read as they did. The tables that the library reads are tied to the program's text. -/
import Derived.Test.YtpoifngepmfgpaaDoorBLive
import Derived.Test.YtpoifngepmfgpaaDoorBFirst
import Derived.Test.YtpoifngepmfgpaaDoorBVolume
import Derived.Test.YtpoifngepmfgpaaDoorBRHandle
import Derived.Test.YtpoifngepmfgpaaDoorKRefG
import Derived.Test.YtpoifngepmfgpaaDoorBEqs
import Derived.Test.YtpoifngepmfgpaaDoorKOpen
import Derived.Test.YtpoifngepmfgpaaDoorKWitness
namespace Go.Proofs.YtpoifngepmfgpaaDoor.O.B
open Go Go.RowKit Go.Shelf Go.Lib RangeMap KM
attribute [local go_sem] Oper.semAt_some

theorem actbox3 (W : World) (x : Ac) : ∃ V, (∀ {oi : Oper} {a : Act} {r q : Operand}, oi.op = .store 36 r q → a.eval r = .pointer (some ⟨W.heap.size, 0, none⟩) → a.eval q = encA x → (execOp a.eval oi).run Tryd.prog (W.alloc (.cells (cellsA nothing) 36 (0, 0))) = .ok .skip V) ∧
    BoxA V W.heap.size x ∧ Below W.heap.size W V := by
  obtain ⟨V, h1, h2, -, h4⟩ := acting (show BoxA (W.alloc (.cells (cellsA nothing) 36 (0, 0))) W.heap.size nothing from heap_alloc_new _ _) x
  exact ⟨V, h1, h2, h4 _ _ ((Below.refl _ _).alloc (Nat.le_refl _) _) (Nat.le_refl _)⟩
theorem BoxA.a0 {V : World} {b : Nat} {x : Ac} (h : BoxA V b x) : V.cell? ⟨b, 0, none⟩ = some (.int .u8 x.act) := (cell_of_row V _ 0 _ _ _ h).trans rfl
theorem BoxA.a11 {V : World} {b : Nat} {x : Ac} (h : BoxA V b x) : V.cell? ⟨b, 11, none⟩ = some (.bool x.obj.keep) := (cell_of_row V _ 11 _ _ _ h).trans rfl
theorem BoxA.a15 {V : World} {b : Nat} {x : Ac} (h : BoxA V b x) : V.cell? ⟨b, 15, none⟩ = some (.string x.obj.claim) := (cell_of_row V _ 15 _ _ _ h).trans rfl
theorem BoxA.a18 {V : World} {b : Nat} {x : Ac} (h : BoxA V b x) : V.cell? ⟨b, 18, none⟩ = some (.int .u8 x.obj.phase) := (cell_of_row V _ 18 _ _ _ h).trans rfl
theorem BoxA.a19 {V : World} {b : Nat} {x : Ac} (h : BoxA V b x) : V.cell? ⟨b, 19, none⟩ = some (.int .u64 x.obj.num) := (cell_of_row V _ 19 _ _ _ h).trans rfl

theorem exec_eql_kind {W : World} {r s : Int} {v : Bool} {oi : Oper} {a : Act} {x y : Operand} {t : TypeId} (ho : oi.op = .binOp .eql 27 x y t) (hx : a.eval x = .int .u8 r) (hy : a.eval y = .int .u8 s) (hv : (r == s) = v) :
    (execOp a.eval oi).run Tryd.prog W = .ok (.value (.bool v)) W := by
  subst hv
  unfold execOp
  simp only [ho, hx, hy]
  go_simp
theorem exec_neq_str {W : World} {r s : ByteArray} {v : Bool} {oi : Oper} {a : Act} {x y : Operand} {t : TypeId} (ho : oi.op = .binOp .neq 9 x y t) (hx : a.eval x = .string r) (hy : a.eval y = .string s) (hv : (!decide (r = s)) = v) :
    (execOp a.eval oi).run Tryd.prog W = .ok (.value (.bool v)) W := by
  subst hv
  rw [← eqB]
  unfold execOp
  simp only [ho, hx, hy]
  go_simp

set_option maxRecDepth 100000 in
set_option maxHeartbeats 8000000 in
theorem keeps_any (l : List Obj) (v : Value) (ver : Int) (n : ByteArray) (w : World) (hl : ObjsIn w v l) (hcp : ∀ o n c, v = .slice o n c → n ≤ c) (ht : Tab w) (hall : ∀ s ∈ l, (0 ≤ s.born ∧ s.born ≤ 18446744073709551615) ∧ s.name.size ≤ 140737488351232) :
    Calls Tryd.prog 6 #[v, .int .u64 ver, .string n] w fun e w' => e = .returned (.bool true) ∧ Below w.heap.size w w' := by
  have HT := Lib.hid ht
  have HF := Lib.hid (few12_any l v w hl hcp)
  obtain ⟨o, cp, rfl, -, -⟩ := id hl
  have hq24 : (l.take 24).length ≤ 24 := by rw [List.length_take]; omega
  have hall2 : ∀ s ∈ l.take 24, (0 ≤ s.born ∧ s.born ≤ 18446744073709551615) ∧ s.name.size ≤ 140737488351232 := fun s hs => hall s (List.mem_of_mem_take hs)
  clear ht hl hcp hall
  go_enter Tryd.func6, Tryd.ntmps6
  go_wp2_with (fail)
  refine HF.out.mono ?_
  rintro e W1 ⟨v1, rfl, hl1, rfl⟩
  clear HF
  generalize l.take 24 = q at *
  obtain ⟨o1, c1, rfl, hm, -⟩ := id hl1
  have HL := Lib.hid hl1
  have HQ := Lib.hid hq24
  have HALL := Lib.hid hall2
  have HC := Lib.hid (volume_any q _ ver n W1 hl1 HT.out hall2)
  have hcase := keeps_cases q ver n
  obtain ⟨a, ha⟩ : ∃ a, volumeN q ver n = a := ⟨_, rfl⟩
  rw [ha] at HC hcase
  have HCASE := Lib.hid hcase
  clear hl1 hall2 hq24 ha hcase
  go_wp2_with (fail)
  refine HC.out.mono ?_
  rintro e W2 ⟨rfl, hb2⟩
  obtain ⟨X, sx, ax, lx⟩ := actbox3 W2 a
  have hlw := hb2.trans (lx.mono hb2.size)
  have HW := Lib.hid hlw
  have HA := Lib.hid ax
  have HTX := Lib.hid (HT.out.after hlw)
  have HLX := Lib.hid (HL.out.after hlw)
  have HV := Lib.hid (fun V (hV : Tab V) => live_any V hV)
  have a0 := ax.a0
  have a18 := ax.a18
  clear HC hb2 ax lx hlw HL HT
  rcases HCASE.out with h1 | ⟨h1, h2, h3⟩ | ⟨vo, hg, h1, h2, h3⟩
  · have e1 : (a.act != 1) = true := by simpa using h1
    clear HCASE h1
    go_wp2_with (refine wpList_skip rfl (sx rfl rfl rfl) ?_)
    refine (HV.out _ HTX.out).mono ?_
    rintro e W3 ⟨rfl, hb3⟩
    have a0 := (HA.out.after hb3).a0
    have HX := Lib.hid (HW.out.trans (hb3.mono HW.out.size))
    clear HV hb3 HW HA sx HLX HTX
    go_wp2
    go_ret
    exact ⟨rfl, HX.out⟩
  · have e1 : (a.act != 1) = false := by rw [h1]; rfl
    have e2 : (a.obj.phase != 6) = true := by rw [h2]; rfl
    have e3 : (a.obj.phase == 5) = true := by rw [h2]; rfl
    clear HCASE h1 h2
    go_wp2_with (refine wpList_skip rfl (sx rfl rfl rfl) ?_)
    refine (HV.out _ HTX.out).mono ?_
    rintro e W3 ⟨rfl, hb3⟩
    have a0 := (HA.out.after hb3).a0
    have a18 := (HA.out.after hb3).a18
    have a11 := (HA.out.after hb3).a11
    rw [h3] at a11
    have HX := Lib.hid (HW.out.trans (hb3.mono HW.out.size))
    clear HV hb3 HW HA sx HLX HTX h3
    go_wp2
    go_ret
    exact ⟨rfl, HX.out⟩
  · obtain ⟨u, hu⟩ : ∃ u, erasingN vo (IntKind.u64.wrap (ver + 1)) = u := ⟨_, rfl⟩
    rw [hu] at h1
    subst h1
    have hk : u.keep = false := by rw [← hu]; exact h2
    have hph : u.phase = 6 := by rw [← hu]; rfl
    have hnm : u.num = IntKind.u64.wrap (ver + 1) := by rw [← hu]; rfl
    have hcl : u.claim = vo.claim := by rw [← hu]; rfl
    have e1 : ((writeA u).act != 1) = false := rfl
    have e2 : ((writeA u).obj.phase != 6) = false := by show (u.phase != 6) = false; rw [hph]; rfl
    have HGN := Lib.hid (fun (V : World) (hV : ObjsIn V (.slice o1 q.length c1) q) => rget_any q _ 4 n V hV)
    rw [hg] at HGN
    have HNC : Hid (∀ i (hi : i < q.length), vo.phase = 3 → q[i].kind = 3 → refN q[i] = u.claim → (∀ j (hj : j < i), ¬ (q[j].kind = q[i].kind ∧ q[j].name = q[i].name)) → False) := by
      show ∀ _ _, _
      intro i hi hp hkd hr hf
      rcases h3 with h3 | ⟨-, h3⟩
      · rw [h3] at hp
        exact absurd hp (by decide)
      · exact not_claimed h3 hi hkd (by rw [hr, hcl]) hf
    have HK := Lib.hid hk
    have HNM := Lib.hid hnm
    clear HCASE h2 h3 hg hu hk hph hnm hcl
    go_wp2_with (refine wpList_skip rfl (sx rfl rfl rfl) ?_)
    clear sx a0 a18 e1 e2
    go_loopw [8] (fun i wr => ∃ j : Nat, i = .int .i64 (j : Int) ∧ j ≤ q.length ∧ Below X.heap.size X wr) (fun i _ => q.length - (RowKit.intOf i).toNat)
    case atStart => exact ⟨0, rfl, Nat.zero_le _, Below.refl _ _⟩
    case round =>
      obtain ⟨j, rfl, hj, hlow⟩ := hrel
      have HLOW := Lib.hid hlow
      clear hlow
      by_cases hlt : j < q.length
      · have hlt' : (j : Int) < (q.length : Int) := by omega
        obtain ⟨o', c', he, -, hi⟩ := id HLX.out
        cases he
        obtain ⟨g, off, rfl, -, -⟩ := hi j hlt
        obtain ⟨x, hx⟩ : ∃ x, q[j] = x := ⟨_, rfl⟩
        have hrows : ∀ V : World, ObjsIn V (.slice (some ⟨g, off, none⟩) q.length c1) q → V.rangeAt g (off + j * 20) (cellsO x).toList := fun V hV => by
          obtain ⟨o2, c2, e2, -, h2⟩ := hV
          cases e2
          obtain ⟨g3, off3, e3, -, h3⟩ := h2 j hlt
          cases e3
          rw [← hx]
          exact h3
        have HROWS := Lib.hid hrows
        have hin := HALL.out q[j] (List.getElem_mem hlt)
        rw [hx] at hin
        have HRF := Lib.hid (fun V (hV : Tab V) => rref_any x V hV hin.1 hin.2)
        have HN1 := Lib.hid (HNC.out j hlt)
        rw [hx] at HN1
        have HXX := Lib.hid hx
        have hx : True := trivial
        obtain ⟨rf, hrf⟩ : ∃ rf, refN x = rf := ⟨_, rfl⟩
        rw [hrf] at HRF HN1
        have HLL := Lib.hid (HLX.out.after HLOW.out)
        have HAA := Lib.hid (HA.out.after HLOW.out)
        have HTT := Lib.hid (HTX.out.after HLOW.out)
        have HWW := HLOW
        clear hi hx hrows hin hrf HLOW
        go_upto_region 8 with (fail)
        cases e1 : (x.kind == 3) with
        | false =>
          have K1 := Lib.hid e1
          clear e1
          refine wp_region_held_drew (S := fun V => ObjsIn V (.slice (some ⟨g, off, none⟩) q.length c1) q ∧ BoxA V W2.heap.size (writeA u) ∧ Tab V ∧ Below X.heap.size X V) (by kernel_rfl) ⟨HLL.out, HAA.out, HTT.out.drew, HWW.out.drew⟩ (fun _ => ?_)
          refine HeldBy.gen (fun V => ObjsIn V (.slice (some ⟨g, off, none⟩) q.length c1) q ∧ BoxA V W2.heap.size (writeA u) ∧ Tab V ∧ Below X.heap.size X V) ⟨HLL.out, HAA.out, HTT.out.drew, HWW.out.drew⟩ ?_
          clear HLL HAA HTT HWW
          rintro U0 HS
          refine HeldBy.take (i := 0) rfl (by kernel_rfl) (by kernel_rfl) (by kernel_rfl) (fun _ _ _ h => h) (by rfl) (fun _ _ => by first | (go_simp; rfl) | (go_simp; done)) (by go_simp; rfl) HS ?_
          refine HeldBy.take (i := 1) rfl (by kernel_rfl) (by kernel_rfl) (by kernel_rfl) (fun _ _ _ h => h) (by rfl) (fun _ _ => by first | (go_simp; rfl) | (go_simp; done)) (by go_simp; rfl) HS ?_
          refine HeldBy.take (i := 2) rfl (by kernel_rfl) (by kernel_rfl) (by kernel_rfl) (fun _ _ _ h => h) (by rfl) (fun _ _ => by first | (go_simp; rfl) | (go_simp; done)) (by go_simp; rfl) HS ?_
          refine HeldBy.take (i := 3) rfl (by kernel_rfl) (by kernel_rfl) (by kernel_rfl) (fun _ _ _ h => h) (by rfl) (fun _ _ => by first | (go_simp; rfl) | (go_simp; done)) (by go_simp; rfl) HS ?_
          refine HeldBy.take (i := 4) (v := .int .u8 x.kind) rfl (by kernel_rfl) (by kernel_rfl) (by kernel_rfl) (fun _ _ _ h => h) (by rfl) (fun V hV => by have h := row_cell (HROWS.out V hV.1) 0 _ rfl; rw [Nat.add_zero] at h; first | (go_simp; rfl) | (go_simp; done)) (by go_simp; rfl) HS ?_
          refine HeldBy.take (i := 5) (v := .bool false) rfl (by kernel_rfl) (by kernel_rfl) (by kernel_rfl) (fun _ _ _ h => h) (by rfl) (fun _ _ => exec_eql_kind rfl rfl rfl K1.out) (by go_simp; rfl) HS ?_
          refine HeldBy.take (i := 6) rfl (by kernel_rfl) (by kernel_rfl) (by kernel_rfl) (fun _ _ _ h => h) (by rfl) (fun _ _ => by first | (go_simp; rfl) | (go_simp; done)) (by go_simp; rfl) HS ?_
          refine HeldBy.skip (i := 7) rfl (by kernel_rfl) (by kernel_rfl) (by kernel_rfl) (fun _ _ _ h => h) (by rfl) (by go_simp; rfl) HS ?_
          refine HeldBy.skip (i := 8) rfl (by kernel_rfl) (by kernel_rfl) (by kernel_rfl) (fun _ _ _ h => h) (by rfl) (by go_simp; rfl) HS ?_
          refine HeldBy.skip (i := 9) rfl (by kernel_rfl) (by kernel_rfl) (by kernel_rfl) (fun _ _ _ h => h) (by rfl) (by go_simp; rfl) HS ?_
          refine HeldBy.skip (i := 10) rfl (by kernel_rfl) (by kernel_rfl) (by kernel_rfl) (fun _ _ _ h => h) (by rfl) (by go_simp; rfl) HS ?_
          refine HeldBy.take (i := 11) rfl (by kernel_rfl) (by kernel_rfl) (by kernel_rfl) (fun _ _ _ h => h) (by rfl) (fun _ _ => by first | (go_simp; rfl) | (go_simp; done)) (by go_simp; rfl) HS ?_
          refine HeldBy.take (i := 12) rfl (by kernel_rfl) (by kernel_rfl) (by kernel_rfl) (fun _ _ _ h => h) (by rfl) (fun _ _ => by first | (go_simp; rfl) | (go_simp; done)) (by go_simp; rfl) HS ?_
          refine HeldBy.skip (i := 13) rfl (by kernel_rfl) (by kernel_rfl) (by kernel_rfl) (fun _ _ _ h => h) (by rfl) (by go_simp; rfl) HS ?_
          refine HeldBy.skip (i := 14) rfl (by kernel_rfl) (by kernel_rfl) (by kernel_rfl) (fun _ _ _ h => h) (by rfl) (by go_simp; rfl) HS ?_
          refine HeldBy.skip (i := 15) rfl (by kernel_rfl) (by kernel_rfl) (by kernel_rfl) (fun _ _ _ h => h) (by rfl) (by go_simp; rfl) HS ?_
          refine HeldBy.skip (i := 16) rfl (by kernel_rfl) (by kernel_rfl) (by kernel_rfl) (fun _ _ _ h => h) (by rfl) (by go_simp; rfl) HS ?_
          refine HeldBy.skip (i := 17) rfl (by kernel_rfl) (by kernel_rfl) (by kernel_rfl) (fun _ _ _ h => h) (by rfl) (by go_simp; rfl) HS ?_
          refine HeldBy.skip (i := 18) rfl (by kernel_rfl) (by kernel_rfl) (by kernel_rfl) (fun _ _ _ h => h) (by rfl) (by go_simp; rfl) HS ?_
          refine HeldBy.skip (i := 19) rfl (by kernel_rfl) (by kernel_rfl) (by kernel_rfl) (fun _ _ _ h => h) (by rfl) (by go_simp; rfl) HS ?_
          refine HeldBy.skip (i := 20) rfl (by kernel_rfl) (by kernel_rfl) (by kernel_rfl) (fun _ _ _ h => h) (by rfl) (by go_simp; rfl) HS ?_
          refine HeldBy.skip (i := 21) rfl (by kernel_rfl) (by kernel_rfl) (by kernel_rfl) (fun _ _ _ h => h) (by rfl) (by go_simp; rfl) HS ?_
          refine HeldBy.take (i := 22) rfl (by kernel_rfl) (by kernel_rfl) (by kernel_rfl) (fun _ _ _ h => h) (by rfl) (fun _ _ => by first | (go_simp; rfl) | (go_simp; done)) (by go_simp; rfl) HS ?_
          refine wpAnyH_done (by kernel_rfl) ?_ _
          have HW5 := Lib.hid HS.2.2.2
          clear HS HROWS HRF HN1 HXX K1
          go_wp2
          go_roundw
          case rel => exact ⟨j + 1, by go_num, by omega, HW5.out⟩
          case measure => simp [RowKit.intOf]; omega
        | true =>
          have K1 := Lib.hid e1
          have hk3 : x.kind = 3 := by simpa using e1
          clear e1
          by_cases e2 : u.claim = E0
          · have K2 : Hid ((!decide (u.claim = E0)) = false) := by show _ = _; rw [decide_eq_true e2]; rfl
            clear e2 hk3
            refine wp_region_held_drew (S := fun V => ObjsIn V (.slice (some ⟨g, off, none⟩) q.length c1) q ∧ BoxA V W2.heap.size (writeA u) ∧ Tab V ∧ Below X.heap.size X V) (by kernel_rfl) ⟨HLL.out, HAA.out, HTT.out.drew, HWW.out.drew⟩ (fun _ => ?_)
            refine HeldBy.gen (fun V => ObjsIn V (.slice (some ⟨g, off, none⟩) q.length c1) q ∧ BoxA V W2.heap.size (writeA u) ∧ Tab V ∧ Below X.heap.size X V) ⟨HLL.out, HAA.out, HTT.out.drew, HWW.out.drew⟩ ?_
            clear HLL HAA HTT HWW
            rintro U0 HS
            refine HeldBy.take (i := 0) rfl (by kernel_rfl) (by kernel_rfl) (by kernel_rfl) (fun _ _ _ h => h) (by rfl) (fun _ _ => by first | (go_simp; rfl) | (go_simp; done)) (by go_simp; rfl) HS ?_
            refine HeldBy.take (i := 1) rfl (by kernel_rfl) (by kernel_rfl) (by kernel_rfl) (fun _ _ _ h => h) (by rfl) (fun _ _ => by first | (go_simp; rfl) | (go_simp; done)) (by go_simp; rfl) HS ?_
            refine HeldBy.take (i := 2) rfl (by kernel_rfl) (by kernel_rfl) (by kernel_rfl) (fun _ _ _ h => h) (by rfl) (fun _ _ => by first | (go_simp; rfl) | (go_simp; done)) (by go_simp; rfl) HS ?_
            refine HeldBy.take (i := 3) rfl (by kernel_rfl) (by kernel_rfl) (by kernel_rfl) (fun _ _ _ h => h) (by rfl) (fun _ _ => by first | (go_simp; rfl) | (go_simp; done)) (by go_simp; rfl) HS ?_
            refine HeldBy.take (i := 4) (v := .int .u8 x.kind) rfl (by kernel_rfl) (by kernel_rfl) (by kernel_rfl) (fun _ _ _ h => h) (by rfl) (fun V hV => by have h := row_cell (HROWS.out V hV.1) 0 _ rfl; rw [Nat.add_zero] at h; first | (go_simp; rfl) | (go_simp; done)) (by go_simp; rfl) HS ?_
            refine HeldBy.take (i := 5) (v := .bool true) rfl (by kernel_rfl) (by kernel_rfl) (by kernel_rfl) (fun _ _ _ h => h) (by rfl) (fun _ _ => exec_eql_kind rfl rfl rfl K1.out) (by go_simp; rfl) HS ?_
            refine HeldBy.take (i := 6) rfl (by kernel_rfl) (by kernel_rfl) (by kernel_rfl) (fun _ _ _ h => h) (by rfl) (fun _ _ => by first | (go_simp; rfl) | (go_simp; done)) (by go_simp; rfl) HS ?_
            refine HeldBy.take (i := 7) rfl (by kernel_rfl) (by kernel_rfl) (by kernel_rfl) (fun _ _ _ h => h) (by rfl) (fun _ _ => by first | (go_simp; rfl) | (go_simp; done)) (by go_simp; rfl) HS ?_
            refine HeldBy.take (i := 8) rfl (by kernel_rfl) (by kernel_rfl) (by kernel_rfl) (fun _ _ _ h => h) (by rfl) (fun _ _ => by first | (go_simp; rfl) | (go_simp; done)) (by go_simp; rfl) HS ?_
            refine HeldBy.take (i := 9) (v := .string u.claim) rfl (by kernel_rfl) (by kernel_rfl) (by kernel_rfl) (fun _ _ _ h => h) (by rfl) (fun V hV => by have h := hV.2.1.a15; first | (go_simp; rfl) | (go_simp; done)) (by go_simp; rfl) HS ?_
            refine HeldBy.take (i := 10) (v := .bool false) rfl (by kernel_rfl) (by kernel_rfl) (by kernel_rfl) (fun _ _ _ h => h) (by rfl) (fun _ _ => exec_neq_str rfl rfl rfl K2.out) (by go_simp; rfl) HS ?_
            refine HeldBy.take (i := 11) rfl (by kernel_rfl) (by kernel_rfl) (by kernel_rfl) (fun _ _ _ h => h) (by rfl) (fun _ _ => by first | (go_simp; rfl) | (go_simp; done)) (by go_simp; rfl) HS ?_
            refine HeldBy.take (i := 12) rfl (by kernel_rfl) (by kernel_rfl) (by kernel_rfl) (fun _ _ _ h => h) (by rfl) (fun _ _ => by first | (go_simp; rfl) | (go_simp; done)) (by go_simp; rfl) HS ?_
            refine HeldBy.skip (i := 13) rfl (by kernel_rfl) (by kernel_rfl) (by kernel_rfl) (fun _ _ _ h => h) (by rfl) (by go_simp; rfl) HS ?_
            refine HeldBy.skip (i := 14) rfl (by kernel_rfl) (by kernel_rfl) (by kernel_rfl) (fun _ _ _ h => h) (by rfl) (by go_simp; rfl) HS ?_
            refine HeldBy.skip (i := 15) rfl (by kernel_rfl) (by kernel_rfl) (by kernel_rfl) (fun _ _ _ h => h) (by rfl) (by go_simp; rfl) HS ?_
            refine HeldBy.skip (i := 16) rfl (by kernel_rfl) (by kernel_rfl) (by kernel_rfl) (fun _ _ _ h => h) (by rfl) (by go_simp; rfl) HS ?_
            refine HeldBy.skip (i := 17) rfl (by kernel_rfl) (by kernel_rfl) (by kernel_rfl) (fun _ _ _ h => h) (by rfl) (by go_simp; rfl) HS ?_
            refine HeldBy.skip (i := 18) rfl (by kernel_rfl) (by kernel_rfl) (by kernel_rfl) (fun _ _ _ h => h) (by rfl) (by go_simp; rfl) HS ?_
            refine HeldBy.skip (i := 19) rfl (by kernel_rfl) (by kernel_rfl) (by kernel_rfl) (fun _ _ _ h => h) (by rfl) (by go_simp; rfl) HS ?_
            refine HeldBy.skip (i := 20) rfl (by kernel_rfl) (by kernel_rfl) (by kernel_rfl) (fun _ _ _ h => h) (by rfl) (by go_simp; rfl) HS ?_
            refine HeldBy.skip (i := 21) rfl (by kernel_rfl) (by kernel_rfl) (by kernel_rfl) (fun _ _ _ h => h) (by rfl) (by go_simp; rfl) HS ?_
            refine HeldBy.take (i := 22) rfl (by kernel_rfl) (by kernel_rfl) (by kernel_rfl) (fun _ _ _ h => h) (by rfl) (fun _ _ => by first | (go_simp; rfl) | (go_simp; done)) (by go_simp; rfl) HS ?_
            refine wpAnyH_done (by kernel_rfl) ?_ _
            have HW5 := Lib.hid HS.2.2.2
            clear HS HROWS HRF HN1 HXX K1 K2
            go_wp2
            go_roundw
            case rel => exact ⟨j + 1, by go_num, by omega, HW5.out⟩
            case measure => simp [RowKit.intOf]; omega
          · have K2 : Hid ((!decide (u.claim = E0)) = true) := by show _ = _; rw [decide_eq_false e2]; rfl
            clear e2
            by_cases e3 : rf = u.claim
            · have K3 : Hid (decide (rf = u.claim) = true) := decide_eq_true e3
              have HN2 := Lib.hid (fun h => HN1.out h hk3 e3)
              clear e3 hk3
              refine wp_region_held_drew (S := fun V => ObjsIn V (.slice (some ⟨g, off, none⟩) q.length c1) q ∧ BoxA V W2.heap.size (writeA u) ∧ Tab V ∧ Below X.heap.size X V) (by kernel_rfl) ⟨HLL.out, HAA.out, HTT.out.drew, HWW.out.drew⟩ (fun _ => ?_)
              refine HeldBy.gen (fun V => ObjsIn V (.slice (some ⟨g, off, none⟩) q.length c1) q ∧ BoxA V W2.heap.size (writeA u) ∧ Tab V ∧ Below X.heap.size X V) ⟨HLL.out, HAA.out, HTT.out.drew, HWW.out.drew⟩ ?_
              clear HLL HAA HTT HWW
              rintro U0 HS
              refine HeldBy.take (i := 0) rfl (by kernel_rfl) (by kernel_rfl) (by kernel_rfl) (fun _ _ _ h => h) (by rfl) (fun _ _ => by first | (go_simp; rfl) | (go_simp; done)) (by go_simp; rfl) HS ?_
              refine HeldBy.take (i := 1) rfl (by kernel_rfl) (by kernel_rfl) (by kernel_rfl) (fun _ _ _ h => h) (by rfl) (fun _ _ => by first | (go_simp; rfl) | (go_simp; done)) (by go_simp; rfl) HS ?_
              refine HeldBy.take (i := 2) rfl (by kernel_rfl) (by kernel_rfl) (by kernel_rfl) (fun _ _ _ h => h) (by rfl) (fun _ _ => by first | (go_simp; rfl) | (go_simp; done)) (by go_simp; rfl) HS ?_
              refine HeldBy.take (i := 3) rfl (by kernel_rfl) (by kernel_rfl) (by kernel_rfl) (fun _ _ _ h => h) (by rfl) (fun _ _ => by first | (go_simp; rfl) | (go_simp; done)) (by go_simp; rfl) HS ?_
              refine HeldBy.take (i := 4) (v := .int .u8 x.kind) rfl (by kernel_rfl) (by kernel_rfl) (by kernel_rfl) (fun _ _ _ h => h) (by rfl) (fun V hV => by have h := row_cell (HROWS.out V hV.1) 0 _ rfl; rw [Nat.add_zero] at h; first | (go_simp; rfl) | (go_simp; done)) (by go_simp; rfl) HS ?_
              refine HeldBy.take (i := 5) (v := .bool true) rfl (by kernel_rfl) (by kernel_rfl) (by kernel_rfl) (fun _ _ _ h => h) (by rfl) (fun _ _ => exec_eql_kind rfl rfl rfl K1.out) (by go_simp; rfl) HS ?_
              refine HeldBy.take (i := 6) rfl (by kernel_rfl) (by kernel_rfl) (by kernel_rfl) (fun _ _ _ h => h) (by rfl) (fun _ _ => by first | (go_simp; rfl) | (go_simp; done)) (by go_simp; rfl) HS ?_
              refine HeldBy.take (i := 7) rfl (by kernel_rfl) (by kernel_rfl) (by kernel_rfl) (fun _ _ _ h => h) (by rfl) (fun _ _ => by first | (go_simp; rfl) | (go_simp; done)) (by go_simp; rfl) HS ?_
              refine HeldBy.take (i := 8) rfl (by kernel_rfl) (by kernel_rfl) (by kernel_rfl) (fun _ _ _ h => h) (by rfl) (fun _ _ => by first | (go_simp; rfl) | (go_simp; done)) (by go_simp; rfl) HS ?_
              refine HeldBy.take (i := 9) (v := .string u.claim) rfl (by kernel_rfl) (by kernel_rfl) (by kernel_rfl) (fun _ _ _ h => h) (by rfl) (fun V hV => by have h := hV.2.1.a15; first | (go_simp; rfl) | (go_simp; done)) (by go_simp; rfl) HS ?_
              refine HeldBy.take (i := 10) (v := .bool true) rfl (by kernel_rfl) (by kernel_rfl) (by kernel_rfl) (fun _ _ _ h => h) (by rfl) (fun _ _ => exec_neq_str rfl rfl rfl K2.out) (by go_simp; rfl) HS ?_
              refine HeldBy.take (i := 11) rfl (by kernel_rfl) (by kernel_rfl) (by kernel_rfl) (fun _ _ _ h => h) (by rfl) (fun _ _ => by first | (go_simp; rfl) | (go_simp; done)) (by go_simp; rfl) HS ?_
              refine HeldBy.take (i := 12) rfl (by kernel_rfl) (by kernel_rfl) (by kernel_rfl) (fun _ _ _ h => h) (by rfl) (fun _ _ => by first | (go_simp; rfl) | (go_simp; done)) (by go_simp; rfl) HS ?_
              refine HeldBy.take (i := 13) rfl (by kernel_rfl) (by kernel_rfl) (by kernel_rfl) (fun _ _ _ h => h) (by rfl) (fun _ _ => by first | (go_simp; rfl) | (go_simp; done)) (by go_simp; rfl) HS ?_
              refine HeldBy.take (i := 14) rfl (by kernel_rfl) (by kernel_rfl) (by kernel_rfl) (fun _ _ _ h => h) (by rfl) (fun _ _ => by first | (go_simp; rfl) | (go_simp; done)) (by go_simp; rfl) HS ?_
              refine HeldBy.take (i := 15) rfl (by kernel_rfl) (by kernel_rfl) (by kernel_rfl) (fun _ _ _ h => h) (by rfl) (fun _ _ => by first | (go_simp; rfl) | (go_simp; done)) (by go_simp; rfl) HS ?_
              refine HeldBy.take (i := 16) (v := encO x) rfl (by kernel_rfl) (by kernel_rfl) (by kernel_rfl) (fun _ _ _ h => h) (by rfl) (fun V hV => load_mid (HROWS.out V hV.1) rfl rfl) (by go_simp; rfl) HS ?_
              refine HeldBy.take (i := 18) rfl (by kernel_rfl) (by kernel_rfl) (by kernel_rfl) (fun _ _ _ h => h) (by rfl) (fun _ _ => by first | (go_simp; rfl) | (go_simp; done)) (by go_simp; rfl) HS ?_
              refine HeldBy.take (i := 19) rfl (by kernel_rfl) (by kernel_rfl) (by kernel_rfl) (fun _ _ _ h => h) (by rfl) (fun _ _ => by first | (go_simp; rfl) | (go_simp; done)) (by go_simp; rfl) HS ?_
              refine HeldBy.take (i := 20) (v := .string u.claim) rfl (by kernel_rfl) (by kernel_rfl) (by kernel_rfl) (fun _ _ _ h => h) (by rfl) (fun V hV => by have h := hV.2.1.a15; first | (go_simp; rfl) | (go_simp; done)) (by go_simp; rfl) HS ?_
              refine HeldBy.call (i := 17) (v := .string rf) rfl (by kernel_rfl) (by rfl) (by go_simp; exact ⟨rfl, rfl⟩) (by go_simp; rfl) ?_
              refine (HRF.out _ HS.2.2.1).mono ?_
              rintro e U1 ⟨rfl, hb⟩
              replace HS : ObjsIn U1 (.slice (some ⟨g, off, none⟩) q.length c1) q ∧ BoxA U1 W2.heap.size (writeA u) ∧ Tab U1 ∧ Below X.heap.size X U1 := ⟨HS.1.after hb, HS.2.1.after hb, HS.2.2.1.after hb, HS.2.2.2.trans (hb.mono HS.2.2.2.size)⟩
              refine ⟨rfl, HS, ?_⟩
              clear hb
              refine HeldBy.take (i := 21) (v := .bool true) rfl (by kernel_rfl) (by kernel_rfl) (by kernel_rfl) (fun _ _ _ h => h) (by rfl) (fun _ _ => exec_eql_str rfl rfl rfl K3.out) (by go_simp; rfl) HS ?_
              refine HeldBy.take (i := 22) rfl (by kernel_rfl) (by kernel_rfl) (by kernel_rfl) (fun _ _ _ h => h) (by rfl) (fun _ _ => by first | (go_simp; rfl) | (go_simp; done)) (by go_simp; rfl) HS ?_
              refine wpAnyH_done (by kernel_rfl) ?_ _
              have HLL := Lib.hid HS.1
              have HAA := Lib.hid HS.2.1
              have HTT := Lib.hid HS.2.2.1
              have HWW := Lib.hid HS.2.2.2
              clear HS HROWS HRF HN1 K1 K2 K3
              have HG1 := Lib.hid (HGN.out _ HLL.out)
              go_wp2_with (fail)
              refine HG1.out.mono ?_
              rintro e W4 ⟨rfl, hb4⟩
              obtain ⟨Z, sz, oz, lz, -⟩ := boxing W4 vo
              have hbz := hb4.trans (lz.mono hb4.size)
              have HLZ := Lib.hid (HLL.out.after hbz)
              have HWZ := Lib.hid (HWW.out.trans (hbz.mono HWW.out.size))
              have z17 := oz.c17
              have HFI := Lib.hid (first12_any q _ j hlt Z HLZ.out HQ.out)
              clear HG1 hb4 oz lz hbz HLL HAA HTT HWW
              cases e4 : (vo.phase == 3) with
              | false =>
                clear HFI HN2 HLZ
                go_wp2_with (refine wpList_skip rfl (sz rfl rfl rfl) ?_)
                go_roundw
                case rel => exact ⟨j + 1, by go_num, by omega, HWZ.out⟩
                case measure => simp [RowKit.intOf]; omega
              | true =>
                have hp3 : vo.phase = 3 := by simpa using e4
                have HN3 := Lib.hid (HN2.out hp3)
                clear HN2 hp3
                go_wp2_with (refine wpList_skip rfl (sz rfl rfl rfl) ?_)
                refine HFI.out.mono ?_
                rintro e W5 ⟨⟨b, rfl, hb⟩, hb5⟩
                have hbf : b = false := by
                  cases b with
                  | false => rfl
                  | true =>
                    have h := hb rfl
                    rw [HXX.out] at h
                    exact (HN3.out h).elim
                subst hbf
                have HW5 := Lib.hid (HWZ.out.trans (hb5.mono HWZ.out.size))
                clear hb hb5 HFI HN3 HLZ HWZ sz z17 e4 HXX
                go_wp2
                go_roundw
                case rel => exact ⟨j + 1, by go_num, by omega, HW5.out⟩
                case measure => simp [RowKit.intOf]; omega
            · have K3 : Hid (decide (rf = u.claim) = false) := decide_eq_false e3
              clear e3 hk3
              refine wp_region_held_drew (S := fun V => ObjsIn V (.slice (some ⟨g, off, none⟩) q.length c1) q ∧ BoxA V W2.heap.size (writeA u) ∧ Tab V ∧ Below X.heap.size X V) (by kernel_rfl) ⟨HLL.out, HAA.out, HTT.out.drew, HWW.out.drew⟩ (fun _ => ?_)
              refine HeldBy.gen (fun V => ObjsIn V (.slice (some ⟨g, off, none⟩) q.length c1) q ∧ BoxA V W2.heap.size (writeA u) ∧ Tab V ∧ Below X.heap.size X V) ⟨HLL.out, HAA.out, HTT.out.drew, HWW.out.drew⟩ ?_
              clear HLL HAA HTT HWW
              rintro U0 HS
              refine HeldBy.take (i := 0) rfl (by kernel_rfl) (by kernel_rfl) (by kernel_rfl) (fun _ _ _ h => h) (by rfl) (fun _ _ => by first | (go_simp; rfl) | (go_simp; done)) (by go_simp; rfl) HS ?_
              refine HeldBy.take (i := 1) rfl (by kernel_rfl) (by kernel_rfl) (by kernel_rfl) (fun _ _ _ h => h) (by rfl) (fun _ _ => by first | (go_simp; rfl) | (go_simp; done)) (by go_simp; rfl) HS ?_
              refine HeldBy.take (i := 2) rfl (by kernel_rfl) (by kernel_rfl) (by kernel_rfl) (fun _ _ _ h => h) (by rfl) (fun _ _ => by first | (go_simp; rfl) | (go_simp; done)) (by go_simp; rfl) HS ?_
              refine HeldBy.take (i := 3) rfl (by kernel_rfl) (by kernel_rfl) (by kernel_rfl) (fun _ _ _ h => h) (by rfl) (fun _ _ => by first | (go_simp; rfl) | (go_simp; done)) (by go_simp; rfl) HS ?_
              refine HeldBy.take (i := 4) (v := .int .u8 x.kind) rfl (by kernel_rfl) (by kernel_rfl) (by kernel_rfl) (fun _ _ _ h => h) (by rfl) (fun V hV => by have h := row_cell (HROWS.out V hV.1) 0 _ rfl; rw [Nat.add_zero] at h; first | (go_simp; rfl) | (go_simp; done)) (by go_simp; rfl) HS ?_
              refine HeldBy.take (i := 5) (v := .bool true) rfl (by kernel_rfl) (by kernel_rfl) (by kernel_rfl) (fun _ _ _ h => h) (by rfl) (fun _ _ => exec_eql_kind rfl rfl rfl K1.out) (by go_simp; rfl) HS ?_
              refine HeldBy.take (i := 6) rfl (by kernel_rfl) (by kernel_rfl) (by kernel_rfl) (fun _ _ _ h => h) (by rfl) (fun _ _ => by first | (go_simp; rfl) | (go_simp; done)) (by go_simp; rfl) HS ?_
              refine HeldBy.take (i := 7) rfl (by kernel_rfl) (by kernel_rfl) (by kernel_rfl) (fun _ _ _ h => h) (by rfl) (fun _ _ => by first | (go_simp; rfl) | (go_simp; done)) (by go_simp; rfl) HS ?_
              refine HeldBy.take (i := 8) rfl (by kernel_rfl) (by kernel_rfl) (by kernel_rfl) (fun _ _ _ h => h) (by rfl) (fun _ _ => by first | (go_simp; rfl) | (go_simp; done)) (by go_simp; rfl) HS ?_
              refine HeldBy.take (i := 9) (v := .string u.claim) rfl (by kernel_rfl) (by kernel_rfl) (by kernel_rfl) (fun _ _ _ h => h) (by rfl) (fun V hV => by have h := hV.2.1.a15; first | (go_simp; rfl) | (go_simp; done)) (by go_simp; rfl) HS ?_
              refine HeldBy.take (i := 10) (v := .bool true) rfl (by kernel_rfl) (by kernel_rfl) (by kernel_rfl) (fun _ _ _ h => h) (by rfl) (fun _ _ => exec_neq_str rfl rfl rfl K2.out) (by go_simp; rfl) HS ?_
              refine HeldBy.take (i := 11) rfl (by kernel_rfl) (by kernel_rfl) (by kernel_rfl) (fun _ _ _ h => h) (by rfl) (fun _ _ => by first | (go_simp; rfl) | (go_simp; done)) (by go_simp; rfl) HS ?_
              refine HeldBy.take (i := 12) rfl (by kernel_rfl) (by kernel_rfl) (by kernel_rfl) (fun _ _ _ h => h) (by rfl) (fun _ _ => by first | (go_simp; rfl) | (go_simp; done)) (by go_simp; rfl) HS ?_
              refine HeldBy.take (i := 13) rfl (by kernel_rfl) (by kernel_rfl) (by kernel_rfl) (fun _ _ _ h => h) (by rfl) (fun _ _ => by first | (go_simp; rfl) | (go_simp; done)) (by go_simp; rfl) HS ?_
              refine HeldBy.take (i := 14) rfl (by kernel_rfl) (by kernel_rfl) (by kernel_rfl) (fun _ _ _ h => h) (by rfl) (fun _ _ => by first | (go_simp; rfl) | (go_simp; done)) (by go_simp; rfl) HS ?_
              refine HeldBy.take (i := 15) rfl (by kernel_rfl) (by kernel_rfl) (by kernel_rfl) (fun _ _ _ h => h) (by rfl) (fun _ _ => by first | (go_simp; rfl) | (go_simp; done)) (by go_simp; rfl) HS ?_
              refine HeldBy.take (i := 16) (v := encO x) rfl (by kernel_rfl) (by kernel_rfl) (by kernel_rfl) (fun _ _ _ h => h) (by rfl) (fun V hV => load_mid (HROWS.out V hV.1) rfl rfl) (by go_simp; rfl) HS ?_
              refine HeldBy.take (i := 18) rfl (by kernel_rfl) (by kernel_rfl) (by kernel_rfl) (fun _ _ _ h => h) (by rfl) (fun _ _ => by first | (go_simp; rfl) | (go_simp; done)) (by go_simp; rfl) HS ?_
              refine HeldBy.take (i := 19) rfl (by kernel_rfl) (by kernel_rfl) (by kernel_rfl) (fun _ _ _ h => h) (by rfl) (fun _ _ => by first | (go_simp; rfl) | (go_simp; done)) (by go_simp; rfl) HS ?_
              refine HeldBy.take (i := 20) (v := .string u.claim) rfl (by kernel_rfl) (by kernel_rfl) (by kernel_rfl) (fun _ _ _ h => h) (by rfl) (fun V hV => by have h := hV.2.1.a15; first | (go_simp; rfl) | (go_simp; done)) (by go_simp; rfl) HS ?_
              refine HeldBy.call (i := 17) (v := .string rf) rfl (by kernel_rfl) (by rfl) (by go_simp; exact ⟨rfl, rfl⟩) (by go_simp; rfl) ?_
              refine (HRF.out _ HS.2.2.1).mono ?_
              rintro e U1 ⟨rfl, hb⟩
              replace HS : ObjsIn U1 (.slice (some ⟨g, off, none⟩) q.length c1) q ∧ BoxA U1 W2.heap.size (writeA u) ∧ Tab U1 ∧ Below X.heap.size X U1 := ⟨HS.1.after hb, HS.2.1.after hb, HS.2.2.1.after hb, HS.2.2.2.trans (hb.mono HS.2.2.2.size)⟩
              refine ⟨rfl, HS, ?_⟩
              clear hb
              refine HeldBy.take (i := 21) (v := .bool false) rfl (by kernel_rfl) (by kernel_rfl) (by kernel_rfl) (fun _ _ _ h => h) (by rfl) (fun _ _ => exec_eql_str rfl rfl rfl K3.out) (by go_simp; rfl) HS ?_
              refine HeldBy.take (i := 22) rfl (by kernel_rfl) (by kernel_rfl) (by kernel_rfl) (fun _ _ _ h => h) (by rfl) (fun _ _ => by first | (go_simp; rfl) | (go_simp; done)) (by go_simp; rfl) HS ?_
              refine wpAnyH_done (by kernel_rfl) ?_ _
              have HW5 := Lib.hid HS.2.2.2
              clear HS HROWS HRF HN1 HXX K1 K2 K3
              go_wp2
              go_roundw
              case rel => exact ⟨j + 1, by go_num, by omega, HW5.out⟩
              case measure => simp [RowKit.intOf]; omega
      · have hlt' : ¬ (j : Int) < (q.length : Int) := by omega
        have hv := HV.out _ (HTX.out.after HLOW.out)
        have HVV := Lib.hid hv
        have haa := HA.out.after HLOW.out
        have HWW := Lib.hid (HW.out.trans (HLOW.out.mono HW.out.size))
        have HAA := Lib.hid haa
        clear hv haa HLOW HNC HGN
        go_wp2_with (fail)
        refine HVV.out.mono ?_
        rintro e W4 ⟨rfl, hb4⟩
        have a11 := (HAA.out.after hb4).a11
        have a19 := (HAA.out.after hb4).a19
        have a11' : W4.cell? ⟨W2.heap.size, 11, none⟩ = some (.bool false) := by rw [a11]; show some (Value.bool u.keep) = _; rw [HK.out]
        have a19' : W4.cell? ⟨W2.heap.size, 19, none⟩ = some (.int .u64 (IntKind.u64.wrap (ver + 1))) := by rw [a19]; show some (Value.int .u64 u.num) = _; rw [HNM.out]
        have HX := Lib.hid (HWW.out.trans (hb4.mono HWW.out.size))
        clear a11 a19 HVV hb4 HWW HAA
        go_wp2
        go_ret
        exact ⟨by first | rfl | simp, HX.out⟩
end Go.Proofs.YtpoifngepmfgpaaDoor.O.B
namespace Go.Proofs.YtpoifngepmfgpaaDoor.BindKeeps
open Go.ChangeShapes Go.WideShapes Go.ChangeAt Go.RowKit O.B
open Go.ChangeMaps (open_string shut_string)

theorem contract (H : Type) (enc : TypeId × Value → H) (W : World) (base : Nat) (args : Array Value) (ds gs : List (DataW H)) (before : List MemPlace)
    (hval : ∀ (j : Nat) t v, Tryd.f6.params[j]? = some t → args[j]? = some v → Value.okWide Tryd.prog W .any base t v)
    (hW : DataW.Whole enc Tryd.prog Tryd.f6.params.toList Rows.bindKeepsSpec.vars false W args.toList ds gs before)
    (hsz : (DataW.weightsEach Tryd.prog (Tryd.f6.params.toList ++ (OpenSpec.ofChange Rows.bindKeepsSpec).bare.plain.varTypes Tryd.prog) (ds ++ gs)).all (· ≤ reachBytes) = true) (hL : laidMetH Tryd.prog Rows.bindKeepsRow.laid W) :
    Calls Tryd.prog 6 args W fun e W' => ∃ v, e = .returned v ∧ Rows.bindKeepsSpec.post enc Tryd.prog Tryd.f6 false true false false W args v W' := by
  have hW' := hW
  obtain ⟨p, q, hA0, hV, rfl, hfz, hnd⟩ := hW
  have hA : DataW.TrodAll enc Tryd.prog W 0 (fun _ => true) true Tryd.f6.params.toList args.toList ds p := hA0
  rw [Tryd.params6] at hA hval hsz
  obtain ⟨v0, vs0, d0, ds0, p0, q0, hargs, rfl, rfl, h0, r0⟩ := trodAll_cons hA
  obtain ⟨v1, vs1, d1, ds1, p1, q1, rfl, rfl, rfl, h1, r1⟩ := trodAll_cons r0
  obtain ⟨v2, vs2, d2, ds2, p2, q2, rfl, rfl, rfl, h2, r2⟩ := trodAll_cons r1
  obtain ⟨rfl, rfl, rfl⟩ := trodAll_nil r2
  obtain rfl : args = #[v0, v1, v2] := by cases args; simp_all
  obtain ⟨l0, hb0, ft0, ln0, cp0⟩ := open_objs (hval 0 22 v0 rfl rfl) h0
  obtain ⟨x1, rfl, rfl, rfl, w1⟩ := open_int Tryd.underlying23 (hval 1 23 v1 rfl rfl) h1
  obtain ⟨x2, rfl, rfl, rfl, w2⟩ := open_string Tryd.underlying9 (hval 2 9 v2 rfl rfl) h2
  have lz0 := ln0 (List.all_eq_true.2 fun n hn => List.all_eq_true.1 hsz n (DataW.weights_mem_each (j := 0) rfl rfl n hn))
  have z2 : x2.size ≤ 140737488351232 := by have := sized_string hsz (j := 2) (t := 9) rfl rfl; simpa [reachBytes] using this
  refine (keeps_any l0 v0 x1 x2 W hb0 cp0 (tab_of_laid hL) (fits_in ft0 lz0)).mono fun e W' ⟨he, hb⟩ => ?_
  subst he
  exact ⟨_, rfl, LawEnd.post_true laidOut (by kernel_rfl) rfl Tryd.underlying4 rfl hW' rfl hb⟩

theorem laid_met (os : Os) : laidMet Tryd.prog Rows.bindKeepsRow.laid ((laidWorld #[.slice none 0 0, .int .u64 0, .string ⟨#[]⟩] os).forCall (fun _ _ => 0) ⟨#[], #[.slice none 0 0, .int .u64 0, .string ⟨#[]⟩], []⟩).memory :=
  laidMet_of_run' 70 (by kernel_rfl) (by kernel_rfl)
theorem reads (os : Os) {H : Type} (enc : TypeId × Value → H) : ∃ places, DataW.whole enc Tryd.prog ((laidWorld #[.slice none 0 0, .int .u64 0, .string ⟨#[]⟩] os).forCall (fun _ _ => 0) ⟨#[], #[.slice none 0 0, .int .u64 0, .string ⟨#[]⟩], []⟩).memory Tryd.f6.params.toList Rows.bindKeepsSpec.vars false (#[(.slice none 0 0 : Value), .int .u64 0, .string ⟨#[]⟩]).toList 8 = some ([.nil, .lit (.int .u64 0), .lit (.string [])], [], places) :=
  ⟨[], by kernel_rfl⟩

set_option maxRecDepth 100000 in
theorem lifted (os : Os) (started : os.Started) (H : Type) (enc : TypeId × Value → H) (F : Stop.Interp) :
    ReturnsInHanded {} Tryd.checked os 6 .any ((OpenSpec.ofChange Rows.bindKeepsSpec).preRow enc Tryd.prog Tryd.f6 Rows.bindKeepsRow.domain false Rows.bindKeepsRow.laid) (((OpenSpec.ofChange Rows.bindKeepsSpec).at F).post enc Tryd.prog Tryd.f6 false true false false) := by
  obtain ⟨places, hx⟩ := reads os enc
  refine returnsInHanded_of_row (C := Tryd.checked) (s := OpenSpec.ofChange Rows.bindKeepsSpec) own started (by kernel_rfl) Tryd.func6
    (witness_row_at (enc := enc) (C := Tryd.checked) false (laidWorld #[.slice none 0 0, .int .u64 0, .string ⟨#[]⟩] os) #[.slice none 0 0, .int .u64 0, .string ⟨#[]⟩] rfl (by kernel_rfl) (by kernel_rfl) (by kernel_rfl)
      (OpenSpec.preRow_of_cond 8 hx (by kernel_rfl) (fun k hk => by cases hk) (by kernel_rfl) (laid_met os))) ?_
  intro W base args ds gs before hval hW _ _ hsz hL _ _
  exact contract H enc W base args ds gs before hval hW hsz hL

theorem said : Rows.BindKeepsSaid :=
  OpenClaim.holds_of_cond 6 Tryd.f6 rfl rfl rfl rfl rfl rfl rfl ⟨rfl, rfl, rfl, rfl, rfl⟩ rfl rfl rfl rfl rfl (by kernel_rfl) Tryd.func6 (by kernel_rfl)
    (of_decide_eq_true (by kernel_rfl)) (by unfold Func.isWrapper; first | (rw [if_pos (by decide +kernel)]; kernel_rfl) | (rw [if_neg (by decide +kernel)]; exact ⟨rfl, rfl⟩))
    (fun os started H enc _ F => by rw [OpenClaim.pre_eq_preRow]; exact lifted os started H enc F)

theorem plain (f : FuncId) (fn : Func) (hf : Tryd.pinned.checked.prog.funcNamed "wharfinger/wharfingerlaw12.BindKeeps" = some f) (hfn : Tryd.pinned.checked.prog.funcs[f]? = some fn) :
    false = Tryd.pinned.checked.prog.looks [] ∧ ∀ (j : Nat) t, fn.params[j]? = some t → Tryd.pinned.checked.prog.wantsStandIn t = false := by
  obtain rfl : f = 6 := Option.some.inj ((show Tryd.prog.funcNamed "wharfinger/wharfingerlaw12.BindKeeps" = some 6 by kernel_rfl).symm.trans hf) |>.symm
  obtain rfl : fn = Tryd.f6 := (Option.some.inj (Tryd.func6.symm.trans hfn)).symm
  refine ⟨by kernel_rfl, fun j t ht => ?_⟩
  rw [Tryd.params6] at ht
  have hall : ([22, 23, 9] : List TypeId).all (fun t => Tryd.prog.wantsStandIn t == false) = true := by kernel_rfl
  have hm : t ∈ ([22, 23, 9] : List TypeId) := by have := Array.mem_of_getElem? ht; simpa using this
  exact eq_of_beq (List.all_eq_true.1 hall t hm)

theorem card : Rows.BindKeepsCardSaid :=
  Claim7.holds_tied_plain_at .later [] _ _ _ _ said (fun _ h => by cases h) (by kernel_rfl) (fun _ h => by cases h) bindKeeps_row_tie rfl ⟨rfl, rfl⟩ (by kernel_rfl) rfl plain (by kernel_rfl)
end Go.Proofs.YtpoifngepmfgpaaDoor.BindKeeps
