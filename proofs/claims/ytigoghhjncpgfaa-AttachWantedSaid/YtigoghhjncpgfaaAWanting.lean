/- What is made is wanted, and what is taken down is not wanted any more. -/
import Derived.Test.YtigoghhjncpgfaaAOne
namespace Go.Proofs.Ytigoghhjncpgfaa.O.B
open Go Go.RowKit Go.Shelf Go.Lib KM
attribute [local go_sem] Oper.semAt_some

theorem getL_some {l : List Obj} {k : Int} {n : ByteArray} {o : Obj} (h : getL l k n = some o) : o.kind = k ∧ o.name = n := by
  have := List.find?_some h
  simp only [Bool.and_eq_true, decide_eq_true_eq] at this
  exact this
theorem def_new (vol s : ByteArray) (n : Int) : defO (newA vol s n) = { newA vol s n with name := attachN vol s } := by
  unfold defO
  rw [if_neg (show ¬ (newA vol s n).kind = 3 from (show ¬ (5 : Int) = 3 by decide)), if_neg (show ¬ (newA vol s n).kind = 4 from (show ¬ (5 : Int) = 4 by decide)), if_neg (show ¬ (newA vol s n).kind = 7 from (show ¬ (5 : Int) = 7 by decide)), if_pos (show (newA vol s n).kind = 5 from rfl), if_pos (show (newA vol s n).name.data.toList = [] from rfl)]
  rfl
/-- What a write is: of a node at which it is wanted, or not any more. -/
theorem wanting {l : List Obj} {ver : Int} {name : ByteArray} (h : (volumeA l ver name).act = 1) :
    (volumeA l ver name).obj.num = up ver ∧
    ((volumeA l ver name).obj.phase = 9 ∧ memB (volumeA l ver name).obj.node (wantL l name) = false ∨
     (volumeA l ver name).obj.phase = 7 ∧ memB (volumeA l ver name).obj.node (wantL l name) = true ∧ (volumeA l ver name).obj.volume = name) := by
  obtain ⟨v, hv, ⟨a, -, hm, hg⟩ | ⟨s, hb, -, -, hg⟩⟩ := vol_cases h
  · rw [hg]
    exact ⟨rfl, .inl ⟨rfl, hm⟩⟩
  · rw [hg, def_new]
    exact ⟨rfl, .inr ⟨rfl, mem_iff.2 (List.mem_of_find?_eq_some hb), (getL_some hv).2⟩⟩
theorem any_take {α : Type} {q : α → Bool} {l : List α} {i : Nat} (h : i < l.length) : (l.take (i + 1)).any q = ((l.take i).any q || q l[i]) := by
  rw [List.take_succ_eq_append_getElem h, List.any_append]
  simp

set_option maxRecDepth 100000 in
set_option maxHeartbeats 16000000 in
theorem wanting_any (l : List Obj) (v : Value) (ver : Int) (name : ByteArray) (w : World) (hl : ObjsIn w v l) (hc : ∀ o n c, v = .slice o n c → n ≤ c) (hz : ∀ o ∈ l, o.name.size ≤ 140737488351232 ∧ o.node.size ≤ 140737488351232) :
    Calls Try.prog 7 #[v, .int .u64 ver, .string name] w fun e w' => e = .returned (.bool true) ∧ Below w.heap.size w w' := by
  have HF := Lib.hid (few_any l v w hl hc)
  have HZ := Lib.hid (fun o (ho : o ∈ l.take 24) => hz o (List.mem_of_mem_take ho))
  have hq : (l.take 24).length < 100000 := by rw [List.length_take]; omega
  obtain ⟨o, cp, rfl, -, -⟩ := id hl
  clear hl hc hz
  go_enter Try.func7, Try.ntmps7
  go_wp2_with (fail)
  refine HF.out.mono ?_
  rintro e W1 ⟨v1, rfl, hl1, rfl⟩
  clear HF
  generalize l.take 24 = q at *
  obtain ⟨o1, c1, rfl, hq63, -⟩ := id hl1
  have HL := Lib.hid hl1
  have HQ := Lib.hid hq
  have HC := Lib.hid (volA_any q _ ver name W1 hl1 hq HZ.out)
  have HCS := Lib.hid (fun h => wanting (l := q) (ver := ver) (name := name) h)
  clear hl1 hq HZ
  obtain ⟨G, hG⟩ : ∃ G, volumeA q ver name = G := ⟨_, rfl⟩
  rw [hG] at HC HCS
  clear hG
  go_wp2_with (fail)
  refine HC.out.mono ?_
  rintro e W2 ⟨rfl, hb2⟩
  obtain ⟨X, sx, ax, lx⟩ := actbox W2 G
  have hlw := hb2.trans (lx.mono hb2.size)
  have HW := Lib.hid hlw
  have HA := Lib.hid ax
  have a0 : X.cell? ⟨W2.heap.size, 0, none⟩ = some (.int .u8 G.act) := (cell_of_row X _ 0 _ _ _ ax).trans rfl
  have HLV := Lib.hid (live_any X)
  clear HC hb2 lx hlw ax
  by_cases h1 : G.act = 1
  · have e1 : (G.act != 1) = false := by simp [h1]
    have HNF := Lib.hid (HCS.out h1)
    have HWA := Lib.hid (wanted_any q (.slice o1 q.length c1) name X (HL.out.after HW.out) HQ.out)
    have HNW := Lib.hid (Nat.lt_of_le_of_lt (want_len q name) HQ.out)
    obtain ⟨L, hL⟩ : ∃ L, wantL q name = L := ⟨_, rfl⟩
    rw [hL] at HNF HWA HNW
    clear h1 HCS HLV HL HQ hL
    go_wp2_with (refine wpList_skip rfl (sx rfl rfl rfl) ?_)
    refine HWA.out.mono ?_
    rintro e W3 ⟨L, lv, rfl, rfl, ht3, hb3⟩
    have HT := Lib.hid ht3
    have HG3 := Lib.hid (HA.out.after hb3)
    have HW3 := Lib.hid (HW.out.trans (hb3.mono HW.out.size))
    obtain ⟨o2, c2, rfl, -⟩ := ht3.cells
    have hL63 : L.length ≤ 9223372036854775807 := by have := HNW.out; omega
    clear ht3 hb3 HWA HA HW sx a0
    go_wp2_with (fail)
    go_loopw [8, 10] (fun mv iv wr => ∃ i : Nat, iv = .int .i64 (i : Int) ∧ i ≤ L.length ∧ mv = .bool ((L.take i).any fun y => decide (y = G.obj.node)) ∧ Below W3.heap.size W3 wr) (fun _ iv _ => L.length - (RowKit.intOf iv).toNat)
    case atStart => exact ⟨0, rfl, Nat.zero_le _, rfl, Below.refl _ _⟩
    case round =>
      obtain ⟨i, rfl, hi, rfl, hlw⟩ := hrel
      obtain ⟨T, hT⟩ : ∃ T, ((L.take i).any fun y => decide (y = G.obj.node)) = T := ⟨_, rfl⟩
      rw [hT]
      have HTT := Lib.hid hT
      clear hT
      by_cases hlt : i < L.length
      · have hlt' : (i : Int) < (L.length : Int) := by omega
        obtain ⟨o', c', he, hx⟩ := (HT.out.after hlw).cells
        cases he
        obtain ⟨g, rfl, -, hrow⟩ := hx i hlt
        obtain ⟨x, hxe⟩ : ∃ x, L[i] = x := ⟨_, rfl⟩
        rw [hxe] at hrow
        have a14 : wr.cell? ⟨W2.heap.size, 14, none⟩ = some (.string G.obj.node) := (cell_of_row wr _ 14 _ _ _ (HG3.out.after hlw)).trans rfl
        have HALL : Hid (((L.take (i + 1)).any fun y => decide (y = G.obj.node)) = (T || decide (x = G.obj.node))) := by
          show _ = _
          rw [any_take hlt, HTT.out, hxe]
        have HC1 := Lib.hid hrow
        have HC2 := Lib.hid a14
        have HBL := Lib.hid hlw
        have HIL := Lib.hid hlt
        clear hx hxe hrow a14 hlw hlt
        go_wp2_with (fail)
        cases T with
        | true =>
          refine wp_region_held_drew (S := fun V => V.cell? ⟨g, i, none⟩ = some (.string x) ∧ Below W3.heap.size W3 V) (by kernel_rfl) ⟨HC1.out, HBL.out.drew⟩ (fun _ => ?_)
          refine HeldBy.gen (fun V => V.cell? ⟨g, i, none⟩ = some (.string x) ∧ Below W3.heap.size W3 V) ⟨HC1.out, HBL.out.drew⟩ ?_
          clear HC1 HBL
          rintro U0 HS
          refine HeldBy.take (i := 0) rfl (by kernel_rfl) (by kernel_rfl) (by kernel_rfl) (fun _ _ _ h => h) (by rfl) (fun _ _ => by first | (go_simp; rfl) | (go_simp; done)) (by go_simp; rfl) HS ?_
          refine HeldBy.take (i := 1) rfl (by kernel_rfl) (by kernel_rfl) (by kernel_rfl) (fun _ _ _ h => h) (by rfl) (fun _ _ => by first | (go_simp; rfl) | (go_simp; done)) (by go_simp; rfl) HS ?_
          refine HeldBy.skip (i := 2) rfl (by kernel_rfl) (by kernel_rfl) (by kernel_rfl) (fun _ _ _ h => h) (by rfl) (by go_simp; rfl) HS ?_
          refine HeldBy.skip (i := 3) rfl (by kernel_rfl) (by kernel_rfl) (by kernel_rfl) (fun _ _ _ h => h) (by rfl) (by go_simp; rfl) HS ?_
          refine HeldBy.skip (i := 4) rfl (by kernel_rfl) (by kernel_rfl) (by kernel_rfl) (fun _ _ _ h => h) (by rfl) (by go_simp; rfl) HS ?_
          refine HeldBy.skip (i := 5) rfl (by kernel_rfl) (by kernel_rfl) (by kernel_rfl) (fun _ _ _ h => h) (by rfl) (by go_simp; rfl) HS ?_
          refine HeldBy.skip (i := 6) rfl (by kernel_rfl) (by kernel_rfl) (by kernel_rfl) (fun _ _ _ h => h) (by rfl) (by go_simp; rfl) HS ?_
          refine HeldBy.skip (i := 7) rfl (by kernel_rfl) (by kernel_rfl) (by kernel_rfl) (fun _ _ _ h => h) (by rfl) (by go_simp; rfl) HS ?_
          refine HeldBy.skip (i := 8) rfl (by kernel_rfl) (by kernel_rfl) (by kernel_rfl) (fun _ _ _ h => h) (by rfl) (by go_simp; rfl) HS ?_
          refine HeldBy.skip (i := 9) rfl (by kernel_rfl) (by kernel_rfl) (by kernel_rfl) (fun _ _ _ h => h) (by rfl) (by go_simp; rfl) HS ?_
          refine HeldBy.take (i := 10) rfl (by kernel_rfl) (by kernel_rfl) (by kernel_rfl) (fun _ _ _ h => h) (by rfl) (fun _ _ => by first | (go_simp; rfl) | (go_simp; done)) (by go_simp; rfl) HS ?_
          refine HeldBy.take (i := 11) rfl (by kernel_rfl) (by kernel_rfl) (by kernel_rfl) (fun _ _ _ h => h) (by rfl) (fun _ _ => by first | (go_simp; rfl) | (go_simp; done)) (by go_simp; rfl) HS ?_
          refine wpAnyH_done (by kernel_rfl) ?_ _
          have HBU := Lib.hid HS.2
          clear HS
          go_wp2
          go_roundw
          case rel => exact ⟨i + 1, by go_num, by have := HIL.out; omega, by rw [HALL.out]; rfl, HBU.out⟩
          case measure => have := HIL.out; simp [RowKit.intOf]; omega
        | false =>
          refine wp_region_held_drew (S := fun V => V.cell? ⟨g, i, none⟩ = some (.string x) ∧ V.cell? ⟨W2.heap.size, 14, none⟩ = some (.string G.obj.node) ∧ Below W3.heap.size W3 V) (by kernel_rfl) ⟨HC1.out, HC2.out, HBL.out.drew⟩ (fun _ => ?_)
          refine HeldBy.gen (fun V => V.cell? ⟨g, i, none⟩ = some (.string x) ∧ V.cell? ⟨W2.heap.size, 14, none⟩ = some (.string G.obj.node) ∧ Below W3.heap.size W3 V) ⟨HC1.out, HC2.out, HBL.out.drew⟩ ?_
          clear HC1 HC2 HBL
          rintro U0 HS
          refine HeldBy.take (i := 0) rfl (by kernel_rfl) (by kernel_rfl) (by kernel_rfl) (fun _ _ _ h => h) (by rfl) (fun _ _ => by first | (go_simp; rfl) | (go_simp; done)) (by go_simp; rfl) HS ?_
          refine HeldBy.take (i := 1) rfl (by kernel_rfl) (by kernel_rfl) (by kernel_rfl) (fun _ _ _ h => h) (by rfl) (fun _ _ => by first | (go_simp; rfl) | (go_simp; done)) (by go_simp; rfl) HS ?_
          refine HeldBy.take (i := 2) rfl (by kernel_rfl) (by kernel_rfl) (by kernel_rfl) (fun _ _ _ h => h) (by rfl) (fun _ _ => by first | (go_simp; rfl) | (go_simp; done)) (by go_simp; rfl) HS ?_
          refine HeldBy.take (i := 3) rfl (by kernel_rfl) (by kernel_rfl) (by kernel_rfl) (fun _ _ _ h => h) (by rfl) (fun _ _ => by first | (go_simp; rfl) | (go_simp; done)) (by go_simp; rfl) HS ?_
          refine HeldBy.take (i := 4) rfl (by kernel_rfl) (by kernel_rfl) (by kernel_rfl) (fun _ _ _ h => h) (by rfl) (fun _ _ => by first | (go_simp; rfl) | (go_simp; done)) (by go_simp; rfl) HS ?_
          refine HeldBy.take (i := 5) (v := .string x) rfl (by kernel_rfl) (by kernel_rfl) (by kernel_rfl) (fun _ _ _ h => h) (by rfl) (fun V hV => by have hc := hV.1; first | (go_simp; rfl) | (go_simp; done)) (by go_simp; rfl) HS ?_
          refine HeldBy.take (i := 6) rfl (by kernel_rfl) (by kernel_rfl) (by kernel_rfl) (fun _ _ _ h => h) (by rfl) (fun _ _ => by first | (go_simp; rfl) | (go_simp; done)) (by go_simp; rfl) HS ?_
          refine HeldBy.take (i := 7) rfl (by kernel_rfl) (by kernel_rfl) (by kernel_rfl) (fun _ _ _ h => h) (by rfl) (fun _ _ => by first | (go_simp; rfl) | (go_simp; done)) (by go_simp; rfl) HS ?_
          refine HeldBy.take (i := 8) (v := .string G.obj.node) rfl (by kernel_rfl) (by kernel_rfl) (by kernel_rfl) (fun _ _ _ h => h) (by rfl) (fun V hV => by have hc := hV.2.1; first | (go_simp; rfl) | (go_simp; done)) (by go_simp; rfl) HS ?_
          refine HeldBy.take (i := 9) rfl (by kernel_rfl) (by kernel_rfl) (by kernel_rfl) (fun _ _ _ h => h) (by rfl) (fun _ _ => by first | (go_simp; rfl) | (go_simp; done)) (by go_simp; rfl) HS ?_
          refine HeldBy.take (i := 10) rfl (by kernel_rfl) (by kernel_rfl) (by kernel_rfl) (fun _ _ _ h => h) (by rfl) (fun _ _ => by first | (go_simp; rfl) | (go_simp; done)) (by go_simp; rfl) HS ?_
          refine HeldBy.take (i := 11) rfl (by kernel_rfl) (by kernel_rfl) (by kernel_rfl) (fun _ _ _ h => h) (by rfl) (fun _ _ => by first | (go_simp; rfl) | (go_simp; done)) (by go_simp; rfl) HS ?_
          refine wpAnyH_done (by kernel_rfl) ?_ _
          have HBU := Lib.hid HS.2.2
          clear HS
          have HE : Hid ((x.toList == G.obj.node.toList) = (false || decide (x = G.obj.node))) := by
            show _ = _
            rw [← eqB]
            rfl
          go_wp2
          go_roundw
          case rel => exact ⟨i + 1, by go_num, by have := HIL.out; omega, by rw [HALL.out, ← HE.out], HBU.out⟩
          case measure => have := HIL.out; simp [RowKit.intOf]; omega
      · have hlt' : ¬ (i : Int) < (L.length : Int) := by omega
        have HTA : Hid (memB G.obj.node L = T) := by
          show _ = _
          rw [← HTT.out, List.take_of_length_le (by omega)]
          rfl
        have HLI := Lib.hid (live_any wr)
        have hbx := HG3.out.after hlw
        have g18 : wr.cell? ⟨W2.heap.size, 18, none⟩ = some (.int .u8 G.obj.phase) := (cell_of_row wr _ 18 _ _ _ hbx).trans rfl
        have HBX := Lib.hid hbx
        have HWL := Lib.hid (HW3.out.trans (hlw.mono HW3.out.size))
        obtain ⟨hn, hcase⟩ := HNF.out
        have HNN := Lib.hid hn
        clear hlw hlt hi HTT HT HG3 HW3 HNF hbx hn
        rcases hcase with ⟨hp, hm⟩ | ⟨hp, hm, hvv⟩
        · obtain rfl : T = false := HTA.out.symm.trans hm
          have q7 : (G.obj.phase == 7) = false := by rw [hp]; rfl
          have q9 : (G.obj.phase == 9) = true := by rw [hp]; rfl
          clear hp hm
          go_wp2_with (fail)
          refine HLI.out.mono ?_
          rintro e W7 ⟨rfl, hb7⟩
          have g19 : W7.cell? ⟨W2.heap.size, 19, none⟩ = some (.int .u64 G.obj.num) := (cell_of_row W7 _ 19 _ _ _ (HBX.out.after hb7)).trans rfl
          rw [HNN.out] at g19
          unfold up at g19
          have HX := Lib.hid (HWL.out.trans (hb7.mono HWL.out.size))
          clear hb7 HLI HBX HWL g18 q7 q9
          go_wp2
          go_ret
          exact ⟨rfl, HX.out⟩
        · obtain rfl : T = true := HTA.out.symm.trans hm
          have q7 : (G.obj.phase == 7) = true := by rw [hp]; rfl
          clear hp hm
          go_wp2_with (fail)
          refine HLI.out.mono ?_
          rintro e W7 ⟨rfl, hb7⟩
          have g19 : W7.cell? ⟨W2.heap.size, 19, none⟩ = some (.int .u64 G.obj.num) := (cell_of_row W7 _ 19 _ _ _ (HBX.out.after hb7)).trans rfl
          have g16 : W7.cell? ⟨W2.heap.size, 16, none⟩ = some (.string G.obj.volume) := (cell_of_row W7 _ 16 _ _ _ (HBX.out.after hb7)).trans rfl
          rw [HNN.out] at g19
          unfold up at g19
          rw [hvv] at g16
          have HX := Lib.hid (HWL.out.trans (hb7.mono HWL.out.size))
          clear hb7 HLI HBX HWL g18 q7 hvv
          go_wp2
          go_ret
          exact ⟨rfl, HX.out⟩
  · have e1 : (G.act != 1) = true := by simpa using h1
    clear HCS h1 HL HQ
    go_wp2_with (refine wpList_skip rfl (sx rfl rfl rfl) ?_)
    refine HLV.out.mono ?_
    rintro e W3 ⟨rfl, hb3⟩
    have HX := Lib.hid (HW.out.trans (hb3.mono HW.out.size))
    clear HLV hb3 HW HA sx a0
    go_wp2
    go_ret
    exact ⟨rfl, HX.out⟩
end Go.Proofs.Ytigoghhjncpgfaa.O.B
