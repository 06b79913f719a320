/- A volume's size never falls by what is done for a claim. -/
import Derived.Test.YtijgieefmnmakaaDoorDFew
namespace Go.Proofs.YtijgieefmnmakaaDoor.O.B
open Go Go.RowKit Go.Shelf Go.Lib RangeMap KM
attribute [local go_sem] Oper.semAt_some

theorem grow_cases (l : List Obj) (ver : Int) (n : ByteArray) : (claimD l ver n).act ≠ 1 ∨ ((claimD l ver n).act = 1 ∧ (claimD l ver n).obj.kind = 3 ∧ (claimD l ver n).obj.name = n) ∨
    ∃ p s, claimD l ver n = writeA { p with size := max p.size s, num := up ver } ∧ p.kind = 4 ∧ getL l 4 p.name = some p := by
  unfold claimD
  by_cases hok : okD l n = true
  · rw [if_pos hok]
    unfold okD at hok
    simp only [Bool.and_eq_true] at hok
    obtain ⟨h1, h2, -⟩ := hok
    obtain ⟨c, hc⟩ := Option.isSome_iff_exists.1 h1
    obtain ⟨p, hp⟩ := Option.isSome_iff_exists.1 h2
    have ec : clD l n = c := by unfold clD; rw [hc]; rfl
    have ep : voD l n = p := by unfold voD; rw [hp]; rfl
    rw [ec, ep]
    rw [ec] at hp
    have kc := get_some hc
    have kp := get_some hp
    unfold growN
    by_cases h3 : p.got < c.size
    · rw [if_pos h3]
      by_cases h4 : c.size ≤ p.size ∧ p.num ≠ 0
      · rw [if_pos h4]
        exact .inl (by show (3 : Int) ≠ 1; decide)
      · rw [if_neg h4]
        exact .inr (.inr ⟨p, c.size, rfl, kp.1, by rw [kp.2]; exact hp⟩)
    · rw [if_neg h3]
      by_cases h4 : c.got = p.got
      · rw [if_pos h4]
        exact .inl (by show (0 : Int) ≠ 1; decide)
      · rw [if_neg h4]
        exact .inr (.inl ⟨rfl, kc.1, kc.2⟩)
  · rw [if_neg hok]
    exact .inl (by show (0 : Int) ≠ 1; decide)

set_option maxRecDepth 100000 in
set_option maxHeartbeats 4000000 in
theorem grows_any (l : List Obj) (v : Value) (ver : Int) (n : ByteArray) (w : World) (hl : ObjsIn w v l) (hcp : ∀ o n c, v = .slice o n c → n ≤ c) (ht : Tab w) :
    Calls Tryd.prog 6 #[v, .int .u64 ver, .string n] w fun e w' => e = .returned (.bool true) ∧ Below w.heap.size w w' := by
  have HT := Lib.hid ht
  have HF := Lib.hid (few_any l v w hl hcp)
  obtain ⟨o, cp, rfl, -, -⟩ := id hl
  clear ht hl hcp
  go_enter Tryd.func6, Tryd.ntmps6
  go_wp2_with (fail)
  refine HF.out.mono ?_
  rintro e W1 ⟨v1, rfl, hl1, rfl⟩
  clear HF
  generalize l.take 24 = q at *
  obtain ⟨o1, c1, rfl, -, -⟩ := id hl1
  have HL := Lib.hid hl1
  have HC := Lib.hid (claimD_any q _ ver n W1 hl1)
  have HG := Lib.hid (grow_cases q ver n)
  clear hl1
  obtain ⟨a, ha⟩ : ∃ a, claimD q ver n = a := ⟨_, rfl⟩
  rw [ha] at HC HG
  clear ha
  go_wp2_with (fail)
  refine HC.out.mono ?_
  rintro e W2 ⟨rfl, hb2⟩
  obtain ⟨X, sx, ax, lx⟩ := actbox W2 a
  have hlw := hb2.trans (lx.mono hb2.size)
  have HW := Lib.hid hlw
  have HA := Lib.hid ax
  have a0 : X.cell? ⟨W2.heap.size, 0, none⟩ = some (.int .u8 a.act) := (cell_of_row X _ 0 _ _ _ ax).trans rfl
  have a1 : X.cell? ⟨W2.heap.size, 1, none⟩ = some (.int .u8 a.obj.kind) := (cell_of_row X _ 1 _ _ _ ax).trans rfl
  have a2 : X.cell? ⟨W2.heap.size, 2, none⟩ = some (.string a.obj.name) := (cell_of_row X _ 2 _ _ _ ax).trans rfl
  have HV := Lib.hid (live_any X (HT.out.after hlw))
  have HSZ := Lib.hid hb2.size
  clear HC hb2 ax lx hlw
  rcases HG.out with h1 | ⟨h1, h2, h3⟩ | ⟨p, s, h1, h2, h3⟩
  · have e1 : (a.act != 1) = true := by simpa using h1
    have e1' : (a.act == 1) = false := by simpa using h1
    clear HG h1
    go_wp2_with (refine wpList_skip rfl (sx rfl rfl rfl) ?_)
    refine HV.out.mono ?_
    rintro e W3 ⟨rfl, hb3⟩
    have a0 := (cell_of_row W3 _ 0 _ _ _ (HA.out.after hb3)).trans (show (cellsA a)[0]? = some (.int .u8 a.act) from rfl)
    have HX := Lib.hid (HW.out.trans (hb3.mono HW.out.size))
    clear HV hb3 HW HA sx
    go_wp2
    go_ret
    exact ⟨rfl, HX.out⟩
  · have e1 : (a.act != 1) = false := by simpa using h1
    have e1' : (a.act == 1) = true := by simpa using h1
    have e2 : (a.obj.kind != 4) = true := by rw [h2]; rfl
    have e3 : (a.obj.kind == 3) = true := by rw [h2]; rfl
    have e4 : (a.obj.name.toList == n.toList) = true := by rw [h3]; simp
    clear HG h1 h2 h3
    go_wp2_with (refine wpList_skip rfl (sx rfl rfl rfl) ?_)
    refine HV.out.mono ?_
    rintro e W3 ⟨rfl, hb3⟩
    have a0 := (cell_of_row W3 _ 0 _ _ _ (HA.out.after hb3)).trans (show (cellsA a)[0]? = some (.int .u8 a.act) from rfl)
    have a1 := (cell_of_row W3 _ 1 _ _ _ (HA.out.after hb3)).trans (show (cellsA a)[1]? = some (.int .u8 a.obj.kind) from rfl)
    have a2 := (cell_of_row W3 _ 2 _ _ _ (HA.out.after hb3)).trans (show (cellsA a)[2]? = some (.string a.obj.name) from rfl)
    have HX := Lib.hid (HW.out.trans (hb3.mono HW.out.size))
    clear HV hb3 HW HA sx
    go_wp2
    go_ret
    exact ⟨rfl, HX.out⟩
  · obtain ⟨u, hu⟩ : ∃ u, ({ p with size := max p.size s, num := up ver } : Obj) = u := ⟨_, rfl⟩
    rw [hu] at h1
    subst h1
    have e1 : ((writeA u).act != 1) = false := rfl
    have hk4 : (writeA u).obj.kind = 4 := by rw [← hu]; exact h2
    have hnm : (writeA u).obj.name = p.name := by rw [← hu]; rfl
    have e2 : ((writeA u).obj.kind != 4) = false := by rw [hk4]; rfl
    have HGE := Lib.hid (rget_any q _ 4 p.name X (HL.out.after HW.out))
    rw [h3] at HGE
    rw [hnm] at a2
    have HST : Hid (∀ (V : World) (b : Nat), BoxO V b p → BoxO ((V.setCell ⟨b, 7, none⟩ (.int .i64 (writeA u).obj.size)).setCell ⟨b, 18, none⟩ (.int .u64 (IntKind.u64.wrap (ver + 1)))) b u) := fun V b h => by
      rw [← hu]
      exact (h.s7 _).s18 (up ver)
    have HGEQ : Hid (decide (p.size ≤ u.size) = true) := by
      show _ = _
      rw [← hu]
      exact decide_eq_true (by show p.size ≤ max p.size s; omega)
    clear HG h2 h3 hu hk4 hnm HV
    go_wp2_with (refine wpList_skip rfl (sx rfl rfl rfl) ?_)
    refine HGE.out.mono ?_
    rintro e W3 ⟨rfl, hb3⟩
    obtain ⟨Y, sy, by_, ly, -⟩ := boxing W3 p
    obtain ⟨Z, sz, bz, lz, -⟩ := boxing Y p
    have hlw3 := HW.out.trans (hb3.mono HW.out.size)
    have hlwY := hlw3.trans (ly.mono hlw3.size)
    have hlwZ := hlwY.trans (lz.mono hlwY.size)
    have hA := ((HA.out.after hb3).after ly).after lz
    have bp := by_
    have bpZ := by_.after lz
    have a8 : Z.cell? ⟨W2.heap.size, 8, none⟩ = some (.int .i64 (writeA u).obj.size) := (cell_of_row Z _ 8 _ _ _ hA).trans rfl
    have c7 := bz.c7
    have c18 := bz.c18
    have f7 := bz.free 7
    have f18 := bz.free 18
    have HBZ := Lib.hid bz
    have HBP := Lib.hid bpZ
    have HNE : Hid (W2.heap.size < W3.heap.size ∧ W3.heap.size < Y.heap.size ∧ W1.heap.size ≤ W2.heap.size) := ⟨(HA.out.after hb3).lt, by_.lt, HSZ.out⟩
    have HAZ := Lib.hid hA
    replace HW := Lib.hid hlwZ
    clear HGE hb3 hlw3 hlwY hlwZ ly lz hA by_ bz bpZ HA a0 a1 a2
    go_upto_region 8 with (first | (refine wpList_skip rfl (sy rfl rfl rfl) ?_) | (refine wpList_skip rfl (sz rfl rfl rfl) ?_) | ((with_reducible refine wpList_load_obj ?_ rfl ?_ bp ?_); rfl; rfl))
    refine wp_gen (fun V => BoxO V Y.heap.size u ∧ BoxO V W3.heap.size p ∧ BoxA V W2.heap.size (writeA u) ∧ Below W1.heap.size W1 V) ⟨HST.out _ _ HBZ.out, (heap_setCell_other _ ⟨Y.heap.size, 18, none⟩ W3.heap.size _ (by have := HNE.out; show W3.heap.size ≠ Y.heap.size; omega)).trans ((heap_setCell_other _ ⟨Y.heap.size, 7, none⟩ W3.heap.size _ (by have := HNE.out; show W3.heap.size ≠ Y.heap.size; omega)).trans HBP.out), (heap_setCell_other _ ⟨Y.heap.size, 18, none⟩ W2.heap.size _ (by have := HNE.out; show W2.heap.size ≠ Y.heap.size; omega)).trans ((heap_setCell_other _ ⟨Y.heap.size, 7, none⟩ W2.heap.size _ (by have := HNE.out; show W2.heap.size ≠ Y.heap.size; omega)).trans HAZ.out), (HW.out.setCell (by have := HNE.out; show W1.heap.size ≤ Y.heap.size; omega) _).setCell (by have := HNE.out; show W1.heap.size ≤ Y.heap.size; omega) _⟩ ?_
    clear HBZ HBP HAZ HW HST c7 c18 f7 f18 a8 sx sy sz bp
    rintro V ⟨h1, h2, h3, h4⟩
    have HU := Lib.hid h1
    have HPP := Lib.hid h2
    have HAA := Lib.hid h3
    have HW := Lib.hid h4
    have HV := Lib.hid (live_any V (HT.out.after h4))
    clear h1 h2 h3 h4
    go_wp2_with (fail)
    refine HV.out.mono ?_
    rintro e W5 ⟨rfl, hb5⟩
    have hu := HU.out.after hb5
    have hrow := (HAA.out.after hb5).obj
    have u7 := hu.c7
    have p7 := (HPP.out.after hb5).c7
    have hle := HGEQ.out
    have hle2 : p.size ≤ u.size := of_decide_eq_true hle
    have HX := Lib.hid (HW.out.trans (hb5.mono HW.out.size))
    clear HV hb5 HU HPP HAA HW HGEQ hle
    go_wp2_with (first | (refine wpList_got (v := encO u) rfl (load_mid hrow rfl rfl) ?_) | ((with_reducible refine wpList_load_obj ?_ rfl ?_ hu ?_); rfl; rfl) | (refine wpList_got rfl (exec_eqo_same (A := u) rfl rfl rfl) ?_))
    go_ret
    exact ⟨rfl, HX.out⟩
end Go.Proofs.YtijgieefmnmakaaDoor.O.B
