/- A volume is published where the greatest number says, whatever the order of the calls: the walk. -/
import Derived.Test.YtbgfccanbgpjiaaINum0
import Derived.Test.YtbgfccanbgpjiaaIVolsM
import Derived.Test.YtbgfccanbgpjiaaISeen
import Derived.Test.YtbgfccanbgpjiaaIU8
import Derived.Test.YtbgfccanbgpjiaaINew
namespace Go.Proofs.Ytbgfccanbgpjiaa.O.I
open Go Go.RowKit Go.Lib KM
attribute [local go_sem] Oper.semAt_some

theorem vols_k (B d r v s n m : Nat) (q : Int) (w : World) (h : AtK B d r v s n m q w) :
    Calls Try.prog 22 #[.pointer (some ⟨d, 0, none⟩)] w fun e w' => (∃ g cp cur o k, e = .returned (.slice (some ⟨g, 0, none⟩) 1 cp) ∧ w'.heap[g]? = some (.cells cur 58 (0, 0)) ∧ cur[4]? = some (.slice o (nodesK q).length k)) ∧ Below w.heap.size w w' := by
  obtain ⟨No, h1, h2⟩ := h.here
  refine volumes_oneM d r v s n m _ _ No ⟨#[118]⟩ ⟨3, 0, ⟨#[97]⟩, some m⟩ (by decide) rfl w h1 (nodesK q) ?_ ?_ h.nodes h.stamp
  · intro p hp
    rcases nodes_cases q with e | e <;> rw [e] at hp
    · cases hp
    · obtain rfl : p = _ := List.mem_singleton.1 hp
      show 1 ≤ maxLen
      decide
  · rcases nodes_cases q with e | e <;> rw [e]
    · exact Nat.zero_le _
    · show 1 ≤ 1000000
      decide
theorem seen_k (B d r v s n m : Nat) (q : Int) (w : World) (h : AtK B d r v s n m q w) :
    Calls Try.prog 27 #[.pointer (some ⟨d, 0, none⟩), .int .u8 3, .string ⟨#[118]⟩] w fun e w' => e = .returned (.int .u64 q) ∧ Below w.heap.size w w' := by
  obtain ⟨No, h1, h2⟩ := h.here
  refine (seen_any d r v s n _ _ _ No 3 ⟨#[118]⟩ ⟨lastC q, lastR q⟩ (by rw [show snapV 3 = false from rfl, h2]; rfl) w h1).mono ?_
  rintro e w' ⟨rfl, hb⟩
  exact ⟨by rw [last_num], hb⟩
/-- A call of publishing, of a verb and a number. -/
def cK (v k : Int) : Cl := ⟨v, ⟨#[118]⟩, k, 0, E0, ⟨#[110]⟩, E0⟩
theorem cN_4 (k : Int) (h : k % 2 = 0) : cN k = cK 4 k := by unfold cN cK; rw [if_pos h]
theorem cN_3 (k : Int) (h : ¬ k % 2 = 0) : cN k = cK 3 k := by unfold cN cK; rw [if_neg h]
theorem built_cK (v k : Int) : Try.prog.built 27 [(0, .int .u8 v), (1, .string ⟨#[118]⟩), (2, .int .u64 k), (5, .string ⟨#[110]⟩)] = some (cellsC (cK v k)) := by kernel_rfl
theorem built_call3 : Try.prog.built 27 [(0, .int .u8 1), (1, .string ⟨#[118]⟩), (2, .int .u64 1), (3, .int .i64 3), (4, .string ⟨#[97]⟩)] = some (cellsC c3) := by kernel_rfl
def z9 : Zn := ⟨⟨#[97]⟩, 9⟩
theorem built_z9 : Try.prog.built 42 [(0, .string ⟨#[97]⟩), (1, .int .i64 9)] = some (cellsZ z9) := by kernel_rfl
theorem run_z9 (W : World) : (Instr.buildSlice 36 1 #[(0, encZ z9)]).run Try.prog W = .ok (.slice (some ⟨W.heap.size, 0, none⟩) 1 1) (W.alloc (.cells (cellsZ z9) 42 (0, 0))) := by kernel_rfl
theorem new_at9 (g : Nat) (k : Nat) (w : World) (hk : w.heap.size = k) (hg : BoxZ w g z9) : Calls Try.prog 19 #[.slice (some ⟨g, 0, none⟩) 1 1] w fun e w' => e = .returned (.pointer (some ⟨k + 4, 0, none⟩)) ∧
    DrAt w' (k + 4) k (k + 1) (k + 2) (k + 3) [(⟨#[97]⟩, .int .i64 9)] [] [] [] ∧ Below k w w' := by
  subst hk
  exact new_one g z9 w hg (by kernel_rfl) (by kernel_rfl)
theorem stamp_nil {W : World} {m : Nat} (h : IsMap encS W m []) : Stamp W m := by
  obtain ⟨es, clock, hb, hh⟩ := h
  obtain ⟨l⟩ := es
  cases l with
  | cons e r => unfold Holds at hh; simp at hh
  | nil => exact ⟨#[], clock, hb, MapKept.stamped_empty clock⟩
/-- What its rounds keep. -/
def InvK (B k m : Nat) (w : World) (l : List Int) (mv iv : Value) (W : World) : Prop := ∃ (j : Nat) (q : Int), iv = .int .i64 (j : Int) ∧ mv = .int .u64 q ∧ j ≤ l.length ∧ j ≤ 60 ∧ 1 ≤ q ∧ q ≤ 9 ∧ AtK B (k + 4) k (k + 1) (k + 2) (k + 3) m q W ∧ Below B w W
set_option maxRecDepth 100000 in
set_option maxHeartbeats 4000000 in
theorem numbers_any (l : List Int) (v : Value) (w : World) (hl : U8In w v l) :
    Calls Try.prog 13 #[v] w fun e w' => e = .returned (.bool true) ∧ Below w.heap.size w w' := by
  obtain ⟨o, cp, rfl, hm, hc⟩ := id hl
  have HC := Lib.hid hc
  clear hl hc
  obtain ⟨k, hk⟩ : ∃ k, (w.alloc (.cells (cellsZ z9) 42 (0, 0))).heap.size = k := ⟨_, rfl⟩
  have hkw : w.heap.size + 1 = k := by rw [← hk]; simp
  have HN := Lib.hid (new_at9 w.heap.size k _ hk (heap_alloc_new w _))
  have HB0 : Hid (Below w.heap.size w (w.alloc (.cells (cellsZ z9) 42 (0, 0)))) := (Below.refl _ _).alloc (Nat.le_refl _) _
  have HKW := Lib.hid hkw
  clear hk hkw
  go_enter Try.func13, Try.ntmps13
  go_wp2_with (first | ((with_reducible refine wpList_build_to rfl 42 _ rfl (cellsZ z9) ?_ ?_); exact built_z9) | (refine wpList_got rfl (exec_slice (run_z9 w) rfl rfl) ?_))
  refine HN.out.mono ?_
  rintro e W1 ⟨rfl, hd, hb⟩
  have hkk := HKW.out
  have hdl := hd.lt
  have HF := Lib.hid (do_first w.heap.size (k + 4) k (k + 1) (k + 2) (k + 3) [(⟨#[97]⟩, .int .i64 9)] [] [] [] c3 9 6 W1 hd (five_of k) rfl rfl (by kernel_rfl) rfl (by decide) (by decide) (by decide) (by kernel_rfl) rfl (by decide) (by kernel_rfl) (by omega))
  have HW : Hid (Below w.heap.size w W1) := HB0.out.trans (hb.mono (by omega))
  have HL1 : Hid (k + 4 < W1.heap.size) := hdl.1
  clear hd hb hkk hdl HN HB0
  go_wp2_with (first | ((with_reducible refine wpList_build_to rfl 27 _ rfl (cellsC c3) ?_ ?_); exact built_call3))
  refine HF.out.mono ?_
  rintro e W2 ⟨m, rfl, hd2, hm2, hle, hb2, -⟩
  obtain ⟨V2, hs2, hbr, hl2⟩ := boxR W2 zeroR rfl (resOf c3)
  have hkk := HKW.out
  have hl1 := HL1.out
  have r0 : V2.cell? ⟨W2.heap.size, 0, none⟩ = some (.int .i64 0) := hbr.c0
  have r1 : V2.cell? ⟨W2.heap.size, 1, none⟩ = some (.int .i64 3) := hbr.c1
  have HIN : Hid (InvK w.heap.size k m w l (.int .u64 1) (.int .i64 0) V2) := by
    have hw2 := HW.out.trans hb2
    exact ⟨0, 1, rfl, rfl, Nat.zero_le _, Nat.zero_le _, by decide, by decide, ⟨five_of k, by omega, by omega, ⟨_, hd2.after hl2, rfl⟩, hm2.after hl2, (stamp_nil hm2).of_heap (hl2.block m hm2.lt)⟩, hw2.trans (hl2.mono hw2.size)⟩
  clear hd2 hm2 hle hb2 hbr hl2 hkk hl1 HF HW HL1
  go_wp2_with (refine wpList_skip rfl (hs2 rfl rfl rfl) ?_)
  clear hs2 r0 r1
  go_loopw [5, 6] (fun mv iv wr => InvK w.heap.size k m w l mv iv wr) (fun _ iv _ => l.length - (RowKit.intOf iv).toNat)
  case atStart => exact HIN.out
  case round =>
    clear HIN
    obtain ⟨j, q, rfl, rfl, hj, hj60, hq1, hq9, hat, hlow⟩ := hrel
    have HAT := Lib.hid hat
    have HLOW := Lib.hid hlow
    clear hat hlow
    by_cases hlt : j < l.length
    · have hlt' : (j : Int) < (l.length : Int) := by omega
      by_cases h60 : j < 60
      · have h60' : (j : Int) < 60 := by omega
        obtain ⟨g2, off, rfl, hg2, hcell, hb0, hb1⟩ := HC.out j hlt
        obtain ⟨b, hbe⟩ : ∃ b, l[j] = b := ⟨_, rfl⟩
        rw [hbe] at hcell hb0 hb1
        have hcl : wr.cell? ⟨g2, off + j, none⟩ = some (.int .u8 b) := (HLOW.out.cell (p := ⟨g2, off + j, none⟩) hg2).trans hcell
        clear hcell hg2 hbe
        obtain ⟨c, hc⟩ : ∃ c, b % 8 = c := ⟨_, rfl⟩
        have hc0 : 0 ≤ c := by rw [← hc]; exact Int.emod_nonneg _ (by decide)
        have hc8 : c ≤ 7 := by have := Int.emod_lt_of_pos b (show (0 : Int) < 8 by decide); omega
        have HDO := Lib.hid (do_num w.heap.size (k + 4) k (k + 1) (k + 2) (k + 3) m q (c + 2) wr HAT.out ⟨by omega, by omega⟩ HLOW.out.size)
        clear HAT
        by_cases hpar : c % 2 = 0
        · have hpar2 : (c + 2) % 2 = 0 := by omega
          rw [cN_4 _ hpar2] at HDO
          go_wp2_with (first | ((with_reducible refine wpList_build_to rfl 27 _ rfl (cellsC (cK 4 (c + 2))) ?_ ?_); exact built_cK _ _))
          refine HDO.out.mono ?_
          rintro e W3 ⟨rfl, hat3, hb3⟩
          clear hcl hc hpar hpar2 HDO hb0 hb1
          have HW3 := Lib.hid (HLOW.out.trans hb3)
          have hsz := HW3.out.size
          clear hb3 HLOW
          by_cases hkq : c + 2 < q
          · rw [if_pos hkq]
            rw [if_neg (show ¬ q < c + 2 by omega)] at hat3
            obtain ⟨V3, hs3, hbr, hl3⟩ := boxR W3 zeroR rfl (errR 9)
            have r0 : V3.cell? ⟨W3.heap.size, 0, none⟩ = some (.int .i64 9) := hbr.c0
            have HX : Hid (AtK w.heap.size (k + 4) k (k + 1) (k + 2) (k + 3) m q V3 ∧ Below w.heap.size w V3) := ⟨hat3.after hl3, HW3.out.trans (hl3.mono hsz)⟩
            have hqk : ¬ q < c + 2 := by omega
            clear hat3 hl3 hbr HW3 hsz
            go_wp2_with (refine wpList_skip rfl (hs3 rfl rfl rfl) ?_)
            go_roundw
            case rel => exact ⟨j + 1, q, by go_num, rfl, by omega, by omega, hq1, hq9, HX.out.1, HX.out.2⟩
            case measure => simp [RowKit.intOf]; omega
          · rw [if_neg hkq]
            obtain ⟨V3, hs3, hbr, hl3⟩ := boxR W3 zeroR rfl zeroR
            have r0 : V3.cell? ⟨W3.heap.size, 0, none⟩ = some (.int .i64 0) := hbr.c0
            have HX : Hid (AtK w.heap.size (k + 4) k (k + 1) (k + 2) (k + 3) m (if q < c + 2 then c + 2 else q) V3 ∧ Below w.heap.size w V3) := ⟨hat3.after hl3, HW3.out.trans (hl3.mono hsz)⟩
            clear hat3 hl3 hbr HW3 hsz
            by_cases hqk : q < c + 2
            · rw [if_pos hqk] at HX
              go_wp2_with (refine wpList_skip rfl (hs3 rfl rfl rfl) ?_)
              go_roundw
              case rel => exact ⟨j + 1, c + 2, by go_num, rfl, by omega, by omega, by omega, by omega, HX.out.1, HX.out.2⟩
              case measure => simp [RowKit.intOf]; omega
            · rw [if_neg hqk] at HX
              go_wp2_with (refine wpList_skip rfl (hs3 rfl rfl rfl) ?_)
              go_roundw
              case rel => exact ⟨j + 1, q, by go_num, rfl, by omega, by omega, hq1, hq9, HX.out.1, HX.out.2⟩
              case measure => simp [RowKit.intOf]; omega
        · have hpar2 : ¬ (c + 2) % 2 = 0 := by omega
          rw [cN_3 _ hpar2] at HDO
          go_wp2_with (first | ((with_reducible refine wpList_build_to rfl 27 _ rfl (cellsC (cK 3 (c + 2))) ?_ ?_); exact built_cK _ _))
          refine HDO.out.mono ?_
          rintro e W3 ⟨rfl, hat3, hb3⟩
          clear hcl hc hpar hpar2 HDO hb0 hb1
          have HW3 := Lib.hid (HLOW.out.trans hb3)
          have hsz := HW3.out.size
          clear hb3 HLOW
          by_cases hkq : c + 2 < q
          · rw [if_pos hkq]
            rw [if_neg (show ¬ q < c + 2 by omega)] at hat3
            obtain ⟨V3, hs3, hbr, hl3⟩ := boxR W3 zeroR rfl (errR 9)
            have r0 : V3.cell? ⟨W3.heap.size, 0, none⟩ = some (.int .i64 9) := hbr.c0
            have HX : Hid (AtK w.heap.size (k + 4) k (k + 1) (k + 2) (k + 3) m q V3 ∧ Below w.heap.size w V3) := ⟨hat3.after hl3, HW3.out.trans (hl3.mono hsz)⟩
            have hqk : ¬ q < c + 2 := by omega
            clear hat3 hl3 hbr HW3 hsz
            go_wp2_with (refine wpList_skip rfl (hs3 rfl rfl rfl) ?_)
            go_roundw
            case rel => exact ⟨j + 1, q, by go_num, rfl, by omega, by omega, hq1, hq9, HX.out.1, HX.out.2⟩
            case measure => simp [RowKit.intOf]; omega
          · rw [if_neg hkq]
            obtain ⟨V3, hs3, hbr, hl3⟩ := boxR W3 zeroR rfl zeroR
            have r0 : V3.cell? ⟨W3.heap.size, 0, none⟩ = some (.int .i64 0) := hbr.c0
            have HX : Hid (AtK w.heap.size (k + 4) k (k + 1) (k + 2) (k + 3) m (if q < c + 2 then c + 2 else q) V3 ∧ Below w.heap.size w V3) := ⟨hat3.after hl3, HW3.out.trans (hl3.mono hsz)⟩
            clear hat3 hl3 hbr HW3 hsz
            by_cases hqk : q < c + 2
            · rw [if_pos hqk] at HX
              go_wp2_with (refine wpList_skip rfl (hs3 rfl rfl rfl) ?_)
              go_roundw
              case rel => exact ⟨j + 1, c + 2, by go_num, rfl, by omega, by omega, by omega, by omega, HX.out.1, HX.out.2⟩
              case measure => simp [RowKit.intOf]; omega
            · rw [if_neg hqk] at HX
              go_wp2_with (refine wpList_skip rfl (hs3 rfl rfl rfl) ?_)
              go_roundw
              case rel => exact ⟨j + 1, q, by go_num, rfl, by omega, by omega, hq1, hq9, HX.out.1, HX.out.2⟩
              case measure => simp [RowKit.intOf]; omega
      · have h60' : ¬ (j : Int) < 60 := by omega
        have HVO := Lib.hid (vols_k w.heap.size (k + 4) k (k + 1) (k + 2) (k + 3) m q wr HAT.out)
        go_wp2_with (fail)
        refine HVO.out.mono ?_
        rintro e W4 ⟨⟨g, cp4, cur, ro, rk, rfl, hrow, hcu⟩, hb4⟩
        have q4 : W4.cell? ⟨g, 4, none⟩ = some (.slice ro (nodesK q).length rk) := (cell_of_row _ _ 4 _ _ _ hrow).trans hcu
        have HSE := Lib.hid (seen_k w.heap.size (k + 4) k (k + 1) (k + 2) (k + 3) m q W4 (HAT.out.after hb4))
        have HW4 := Lib.hid (HLOW.out.trans (hb4.mono HLOW.out.size))
        clear hrow hcu hb4 HVO HAT HLOW HC
        have hlen : (nodesK q).length = if q % 2 = 1 ∧ 1 < q then 1 else 0 := by unfold nodesK; split <;> rfl
        rw [hlen] at q4
        clear hlen
        by_cases hpar : q % 2 = 1
        · by_cases h1q : 1 < q
          · rw [if_pos ⟨hpar, h1q⟩] at q4
            go_wp2_with (fail)
            refine HSE.out.mono ?_
            rintro e W5 ⟨rfl, hb5⟩
            have HX := Lib.hid (HW4.out.trans (hb5.mono HW4.out.size))
            clear hb5 q4
            go_wp2
            go_ret
            exact ⟨rfl, HX.out⟩
          · rw [if_neg (fun h => h1q h.2)] at q4
            go_wp2_with (fail)
            refine HSE.out.mono ?_
            rintro e W5 ⟨rfl, hb5⟩
            have HX := Lib.hid (HW4.out.trans (hb5.mono HW4.out.size))
            clear hb5 q4
            go_wp2
            go_ret
            refine ⟨?_, HX.out⟩
            show Ending.returned (.bool (!decide (1 < q))) = _
            rw [decide_eq_false (show ¬ 1 < q by omega)]
            rfl
        · rw [if_neg (fun h => hpar h.1)] at q4
          go_wp2_with (fail)
          refine HSE.out.mono ?_
          rintro e W5 ⟨rfl, hb5⟩
          have HX := Lib.hid (HW4.out.trans (hb5.mono HW4.out.size))
          clear hb5 q4
          go_wp2
          go_ret
          exact ⟨rfl, HX.out⟩
    · have hlt' : ¬ (j : Int) < (l.length : Int) := by omega
      have HVO := Lib.hid (vols_k w.heap.size (k + 4) k (k + 1) (k + 2) (k + 3) m q wr HAT.out)
      go_wp2_with (fail)
      refine HVO.out.mono ?_
      rintro e W4 ⟨⟨g, cp4, cur, ro, rk, rfl, hrow, hcu⟩, hb4⟩
      have q4 : W4.cell? ⟨g, 4, none⟩ = some (.slice ro (nodesK q).length rk) := (cell_of_row _ _ 4 _ _ _ hrow).trans hcu
      have HSE := Lib.hid (seen_k w.heap.size (k + 4) k (k + 1) (k + 2) (k + 3) m q W4 (HAT.out.after hb4))
      have HW4 := Lib.hid (HLOW.out.trans (hb4.mono HLOW.out.size))
      clear hrow hcu hb4 HVO HAT HLOW HC
      have hlen : (nodesK q).length = if q % 2 = 1 ∧ 1 < q then 1 else 0 := by unfold nodesK; split <;> rfl
      rw [hlen] at q4
      clear hlen
      by_cases hpar : q % 2 = 1
      · by_cases h1q : 1 < q
        · rw [if_pos ⟨hpar, h1q⟩] at q4
          go_wp2_with (fail)
          refine HSE.out.mono ?_
          rintro e W5 ⟨rfl, hb5⟩
          have HX := Lib.hid (HW4.out.trans (hb5.mono HW4.out.size))
          clear hb5 q4
          go_wp2
          go_ret
          exact ⟨rfl, HX.out⟩
        · rw [if_neg (fun h => h1q h.2)] at q4
          go_wp2_with (fail)
          refine HSE.out.mono ?_
          rintro e W5 ⟨rfl, hb5⟩
          have HX := Lib.hid (HW4.out.trans (hb5.mono HW4.out.size))
          clear hb5 q4
          go_wp2
          go_ret
          refine ⟨?_, HX.out⟩
          show Ending.returned (.bool (!decide (1 < q))) = _
          rw [decide_eq_false (show ¬ 1 < q by omega)]
          rfl
      · rw [if_neg (fun h => hpar h.1)] at q4
        go_wp2_with (fail)
        refine HSE.out.mono ?_
        rintro e W5 ⟨rfl, hb5⟩
        have HX := Lib.hid (HW4.out.trans (hb5.mono HW4.out.size))
        clear hb5 q4
        go_wp2
        go_ret
        exact ⟨rfl, HX.out⟩
end Go.Proofs.Ytbgfccanbgpjiaa.O.I
