/- The law TopZones: its walk. -/
import Derived.Test.YtneogmcmkbhnaaaTZonesM
import Derived.Laws.IdiomStrings
import Derived.Test.YtneogmcmkbhnaaaHeldEnd
namespace Go.Proofs.Ytneogmcmkbhnaaa.T
open Go.RowKit
open Go.Lib hiding intOf

def hasC (h : Nat → Bool) : Array Value := #[.bool (h 0), .bool (h 1), .bool (h 2), .bool (h 3), .bool (h 4), .bool (h 5), .bool (h 6), .bool (h 7)]
def HasAt (W : World) (b : Nat) (h : Nat → Bool) : Prop := W.heap[b]? = some (.cells (hasC h) 56 (0, 0))
theorem HasAt.cell {W : World} {b : Nat} {h : Nat → Bool} (hb : HasAt W b h) (k : Nat) (hk : k < 8) : W.cell? ⟨b, k, none⟩ = some (.bool (h k)) := by
  refine (cell_of_row W b k _ _ _ hb).trans ?_
  match k, hk with
  | 0, _ | 1, _ | 2, _ | 3, _ | 4, _ | 5, _ | 6, _ | 7, _ => rfl
theorem HasAt.set {W : World} {b : Nat} {h : Nat → Bool} (hb : HasAt W b h) (k : Nat) (hk : k < 8) : HasAt (W.setCell ⟨b, k, none⟩ (.bool true)) b (fun i => if i = k then true else h i) := by
  unfold HasAt at *
  have : (W.setCell ⟨b, k, none⟩ (.bool true)).heap[b]? = some (.cells ((hasC h).setIfInBounds k (.bool true)) 56 (0, 0)) := by
    simp [World.setCell, Array.getElem?_modify, hb]
  rw [this]
  match k, hk with
  | 0, _ | 1, _ | 2, _ | 3, _ | 4, _ | 5, _ | 6, _ | 7, _ => rfl
theorem HasAt.after {W W' : World} {b : Nat} {h : Nat → Bool} (hb : HasAt W b h) (hl : Below W.heap.size W W') : HasAt W' b h := (hl.block b (Array.getElem?_eq_some_iff.1 hb).1).trans hb
theorem letter_byte : ∀ i, i < 8 → (letter i) = [UInt8.ofNat (97 + i)] ∧ (UInt8.ofNat (97 + i)).toNat = 97 + i := by decide
theorem letter_conv (V : World) (i : Nat) (hi : i < 8) : (convert 55 9 (.slice (some ⟨V.heap.size, 0, none⟩) 1 1)).run Try.prog (V.alloc (.cells #[.int .u8 (97 + (i : Int))] 5 (0, 0))) = .ok (encS (letter i)) (V.alloc (.cells #[.int .u8 (97 + (i : Int))] 5 (0, 0))) := by
  have h := run_convert_bytes_back (P := Try.prog) (V.alloc (.cells #[.int .u8 (97 + (i : Int))] 5 (0, 0))) 55 9 5 ⟨V.heap.size, 0, none⟩ 1 (letter i) Try.underlying55 Try.underlying5 Try.underlying9 (fun j hj => by
    obtain rfl : j = 0 := by
      have : (letter i).length = 1 := rfl
      omega
    refine (cell_of_row _ _ 0 _ _ _ (heap_alloc_new V _)).trans ?_
    show some (Value.int .u8 (97 + (i : Int))) = some (Value.int .u8 ((UInt8.ofNat (97 + i)).toNat : Int))
    rw [(letter_byte i hi).2]
    simp)
  exact h
theorem exec_conv (V : World) (i : Nat) (hi : i < 8) {oi : Oper} {c : Act} {x : Operand} (ho : oi.op = .convert 55 9 x) (hx : c.eval x = .slice (some ⟨V.heap.size, 0, none⟩) 1 1) :
    (execOp c.eval oi).run Try.prog (V.alloc (.cells #[.int .u8 (97 + (i : Int))] 5 (0, 0))) = .ok (.value (encS (letter i))) (V.alloc (.cells #[.int .u8 (97 + (i : Int))] 5 (0, 0))) := by
  unfold execOp
  simp only [ho, hx, Sem.run_bind, letter_conv V i hi, Result.andThen_ok, Sem.run_pure]
theorem exec_neqS {W : World} {oi : Oper} {c : Act} {x y : Operand} {t : TypeId} (a b : List UInt8) {v : Bool} (hv : (!decide (a = b)) = v) (ho : oi.op = .binOp .neq t x y t) (hx : c.eval x = encS a) (hy : c.eval y = encS b) : (execOp c.eval oi).run Try.prog W = .ok (.value (.bool v)) W := by
  have h5 : (eqGuard .neq t x y (encS a) (encS b)).run Try.prog W = .ok () W := rfl
  have h4 : binOp .neq t (encS a) (encS b) = pure (.bool v) := by rw [neq_dec, hv]
  unfold execOp
  simp only [ho, hx, hy, Sem.run_bind, h5, Result.andThen_ok, h4, Sem.run_pure]
theorem exec_eqlS {W : World} {oi : Oper} {c : Act} {x y : Operand} {t : TypeId} (a b : List UInt8) {v : Bool} (hv : decide (a = b) = v) (ho : oi.op = .binOp .eql t x y t) (hx : c.eval x = encS a) (hy : c.eval y = encS b) : (execOp c.eval oi).run Try.prog W = .ok (.value (.bool v)) W := by
  have h5 : (eqGuard .eql t x y (encS a) (encS b)).run Try.prog W = .ok () W := rfl
  have h4 : binOp .eql t (encS a) (encS b) = pure (.bool v) := by rw [eql_any, ← hv]; congr 2; rw [Bool.eq_iff_iff]; simp
  unfold execOp
  simp only [ho, hx, hy, Sem.run_bind, h5, Result.andThen_ok, h4, Sem.run_pure]
theorem CapOk.ofRow {W : World} {nb : Nat} {te : TypeId} {v : Value} {n : Nat} {xs : List Value} (h : W.ownsRow nb te 2 v n xs) : CapOk v := by
  rcases h.2 with ⟨rfl, -⟩ | ⟨g, cap, cur, rfl, -, -, hn, -⟩
  · exact ⟨_, _, _, rfl, Nat.le_refl _⟩
  · exact ⟨_, _, _, rfl, hn⟩
theorem zv_len (h : Nat → Bool) (k : Nat) (hk : k ≤ 8) : (joinB 124 (zv h k)).length ≤ 16 := by
  have h1 := joined_len (m := 124) (B := 1) (xs := zv h k) fun x hx => by
    obtain ⟨i, -, rfl⟩ := List.mem_map.1 hx
    exact Nat.le_refl _
  have h2 := (zv_prints h k hk).len
  omega
/-- Numbers of one byte that lie in a slice. -/
def U8In (W : World) (v : Value) (l : List Int) : Prop := ∃ o c, v = .slice o l.length c ∧ l.length ≤ 9223372036854775807 ∧ ∀ i (h : i < l.length), ∃ g off, o = some ⟨g, off, none⟩ ∧ g < W.heap.size ∧ W.cell? ⟨g, off + i, none⟩ = some (.int .u8 l[i]) ∧ 0 ≤ l[i] ∧ l[i] ≤ 255

set_option maxRecDepth 100000 in
set_option maxHeartbeats 4000000 in
theorem topZones_any (v : Value) (l : List Int) (one : Int) (h1 : 0 ≤ one ∧ one ≤ 255) (w : World) (hV : U8In w v l) :
    Calls Try.prog 10 #[v, .int .u8 one] w fun e w' => e = .returned (.bool true) ∧ Below w.heap.size w w' := by
  obtain ⟨o, c, rfl, hm, hc⟩ := hV
  have HC := Lib.hid hc
  clear hc
  obtain ⟨N, hN⟩ : ∃ n, n = l.length := ⟨_, rfl⟩
  rw [← hN] at hm ⊢
  have HN := Lib.hid hN
  clear hN
  have hz : HasAt (w.alloc (.cells #[.bool false, .bool false, .bool false, .bool false, .bool false, .bool false, .bool false, .bool false] 56 (0, 0))) w.heap.size (fun _ => false) := heap_alloc_new w _
  have HZ : Hid (∃ h, HasAt (w.alloc (.cells #[.bool false, .bool false, .bool false, .bool false, .bool false, .bool false, .bool false, .bool false] 56 (0, 0))) w.heap.size h) := ⟨_, hz⟩
  clear hz
  go_enter Try.func10, Try.ntmps10
  go_wp2
  go_loopw [6] (fun iv wr => ∃ (i : Nat) (h : Nat → Bool), iv = .int .i64 (i : Int) ∧ i ≤ N ∧ HasAt wr w.heap.size h ∧ Below w.heap.size w wr) (fun iv _ => (N - intOf iv).toNat)
  case atStart =>
    obtain ⟨h, hh⟩ := HZ.out
    exact ⟨0, h, rfl, Nat.zero_le _, hh, (Below.refl _ _).alloc (Nat.le_refl _) _⟩
  case round =>
    clear HZ
    obtain ⟨i, h, rfl, hi, hh, hlow⟩ := hrel
    have HH := Lib.hid hh
    have HL := Lib.hid hlow
    clear hh hlow
    by_cases hiN : i < N
    · obtain ⟨g, off, rfl, hg, hcell, hz0, hz1⟩ := HC.out i (by rw [← HN.out]; exact hiN)
      have c1 := (cell_after (j := off + i) hg HL.out).trans hcell
      generalize l[i]'(by rw [← HN.out]; exact hiN) = z at c1 hz0 hz1
      clear hcell
      have hr8 : (z % 8).toNat < 8 := by omega
      have hcl := HH.out.cell (z % 8).toNat hr8
      have hfz : wr.frozen? ⟨w.heap.size, (z % 8).toNat, none⟩ = false := Lib.frozen_of_heap HH.out _
      have HS := Lib.hid (HH.out.set (z % 8).toNat hr8)
      have HLS := Lib.hid (HL.out.setCell (p := ⟨w.heap.size, (z % 8).toNat, none⟩) (Nat.le_refl _) (.bool true))
      generalize h (z % 8).toNat = hv at hcl
      go_wp2
      go_roundw
      case rel => exact ⟨i + 1, _, rfl, by omega, HS.out, HLS.out⟩
      case measure => simp [intOf]; omega
    · obtain ⟨j, hj, hj8⟩ : ∃ j : Nat, one % 8 = (j : Int) ∧ j < 8 := ⟨(one % 8).toNat, by omega, by omega⟩
      go_upto_region 6 with (fail)
      refine wp_region_held_drew (S := fun V => Below wr.heap.size wr V) (by kernel_rfl) (Below.refl _ _).drew (fun _ => ?_)
      refine HeldBy.gen (fun V => Below wr.heap.size wr V) (Below.refl _ _).drew ?_
      rintro U HS
      refine HeldBy.take (i := 0) rfl (by kernel_rfl) (by kernel_rfl) (by kernel_rfl) (fun _ _ _ h => h) (by rfl) (fun _ _ => by first | (go_simp; rfl) | (go_simp; done)) (by go_simp; rfl) HS ?_
      refine HeldBy.take (i := 1) (v := .int .u8 (j : Int)) rfl (by kernel_rfl) (by kernel_rfl) (by kernel_rfl) (fun _ _ _ h => h) (by rfl) (fun _ _ => by go_simp; rw [Int.tmod_eq_emod_of_nonneg h1.1]; exact hj) (by go_simp; rfl) HS ?_
      refine HeldBy.take (i := 2) (v := .int .u8 (97 + (j : Int))) rfl (by kernel_rfl) (by kernel_rfl) (by kernel_rfl) (fun _ _ _ h => h) (by rfl) (fun _ _ => by go_simp; exact IntWalk.u8_in _ (by omega)) (by go_simp; rfl) HS ?_
      refine HeldBy.take (i := 5) rfl (by kernel_rfl) (by kernel_rfl) (by kernel_rfl) (fun _ _ _ h => h) (by rfl) (fun _ _ => by first | (go_simp; rfl) | (go_simp; done)) (by go_simp; rfl) HS ?_
      refine HeldBy.value (i := 3) (v := .slice (some ⟨U.heap.size, 0, none⟩) 1 1) (w' := U.alloc (.cells #[.int .u8 (97 + (j : Int))] 5 (0, 0))) rfl (by kernel_rfl) (by rfl) (by go_simp) (by go_simp; rfl) (HS.alloc (by have := HS.size; omega) _) ?_
      have hs2 := HS.alloc (by have := HS.size; omega) (.cells #[.int .u8 (97 + (j : Int))] 5 (0, 0))
      refine HeldBy.value (i := 4) (v := encS (letter j)) (w' := U.alloc (.cells #[.int .u8 (97 + (j : Int))] 5 (0, 0))) rfl (by kernel_rfl) (by rfl) (exec_conv U j hj8 rfl rfl) (by go_simp; rfl) hs2 ?_
      refine HeldBy.take (i := 6) rfl (by kernel_rfl) (by kernel_rfl) (by kernel_rfl) (fun _ _ _ h => h) (by rfl) (fun _ _ => by first | (go_simp; rfl) | (go_simp; done)) (by go_simp; rfl) hs2 ?_
      refine wpAnyH_done (by kernel_rfl) ?_ _
      refine then_gen (fun V => HasAt V w.heap.size h ∧ Below w.heap.size w V) ⟨HH.out.after hs2, HL.out.trans (hs2.mono HL.out.size)⟩ ?_
      clear hs2 HS
      rintro V0 hV0
      have HV0 := Lib.hid hV0
      clear hV0
      go_wp2
      go_loopw [7, 9] (fun tx kv wr => ∃ k : Nat, kv = .int .i64 (k : Int) ∧ k ≤ 8 ∧ tx = encS (joinB 124 (zv h k)) ∧ HasAt wr w.heap.size h ∧ Below w.heap.size w wr) (fun _ kv _ => (8 - intOf kv).toNat)
      case atStart => exact ⟨0, rfl, Nat.zero_le _, rfl, HV0.out.1, HV0.out.2⟩
      case round =>
        clear HV0
        obtain ⟨k, rfl, hk, rfl, hh2, hl2⟩ := hrel
        have HH2 := Lib.hid hh2
        have HL2 := Lib.hid hl2
        clear hh2 hl2
        have hTl := zv_len h k hk
        by_cases hk8 : k < 8
        · have hck := HH2.out.cell k hk8
          cases hhk : h k with
          | false =>
            rw [hhk] at hck
            have HX := Lib.hid (txt_no hhk)
            clear hhk
            generalize joinB 124 (zv h k) = T at HX hTl
            go_wp2
            go_roundw
            case rel => exact ⟨k + 1, rfl, by omega, by rw [HX.out], HH2.out, HL2.out⟩
            case measure => simp [intOf]; omega
          | true =>
            rw [hhk] at hck
            have hwk : IntKind.u8.wrap (k : Int) = (k : Int) := IntWalk.u8_in _ (by omega)
            have hwk2 : IntKind.u8.wrap (97 + (k : Int)) = 97 + (k : Int) := IntWalk.u8_in _ (by omega)
            by_cases h0 : zv h k = []
            · have hT0 : joinB 124 (zv h k) = [] := zv_ne.2 h0
              obtain ⟨T2, hT2⟩ : ∃ T2, joinB 124 (zv h (k + 1)) = T2 := ⟨_, rfl⟩
              obtain ⟨T0, hT⟩ : ∃ T0, joinB 124 (zv h k) = T0 := ⟨_, rfl⟩
              have HX : Hid (T0 ++ letter k = T2) := by show _ = _; rw [← hT2, txt_first hhk h0, ← hT, hT0]; rfl
              have HT2 := Lib.hid hT2
              have HT0 : Hid (T0 = []) := hT.symm.trans hT0
              rw [hT]
              clear hhk h0 hT0 hT2 hTl hT
              have HA := Lib.hid (HH2.out.after ((Below.refl _ _).alloc (Nat.le_refl _) (.cells #[.int .u8 (97 + (k : Int))] 5 (0, 0))))
              have HB := Lib.hid (HL2.out.alloc HL2.out.size (.cells #[.int .u8 (97 + (k : Int))] 5 (0, 0)))
              go_wp2_with (first | (refine wpList_known (v := .bool false) rfl (exec_neqS T0 [] (by rw [HT0.out]; decide) rfl rfl rfl) ?_) | (refine wpList_known (v := encS (letter k)) rfl (exec_conv _ k hk8 rfl rfl) ?_) | (refine wpList_known (v := encS T2) rfl (exec_add T0 (letter k) HX.out rfl rfl rfl (by rw [HT0.out]; show 0 + 1 ≤ 1000000; omega)) ?_))
              go_roundw
              case rel => exact ⟨k + 1, rfl, by omega, by rw [HT2.out], HA.out, HB.out⟩
              case measure => simp [intOf]; omega
            · obtain ⟨T2, hT2⟩ : ∃ T2, joinB 124 (zv h (k + 1)) = T2 := ⟨_, rfl⟩
              obtain ⟨T0, hT⟩ : ∃ T0, joinB 124 (zv h k) = T0 := ⟨_, rfl⟩
              obtain ⟨T1, hT1⟩ : ∃ T1, T0 ++ [124] = T1 := ⟨_, rfl⟩
              have HX1 := Lib.hid hT1
              have HX : Hid (T1 ++ letter k = T2) := by show _ = _; rw [← hT2, txt_next hhk h0, ← hT1, ← hT]
              have HT2 := Lib.hid hT2
              have HT0 : Hid (¬ T0 = []) := by show ¬ _; rw [← hT]; exact fun e => h0 (zv_ne.1 e)
              have HL0 : Hid (T0.length ≤ 16) := by show _ ≤ _; rw [← hT]; exact hTl
              have HL1 : Hid (T1.length ≤ 17) := by
                show _ ≤ _
                have h4 := HL0.out
                rw [← hT1, List.length_append]; simp; omega
              rw [hT]
              clear hhk h0 hT2 hTl hT hT1
              have HA := Lib.hid (HH2.out.after ((Below.refl _ _).alloc (Nat.le_refl _) (.cells #[.int .u8 (97 + (k : Int))] 5 (0, 0))))
              have HB := Lib.hid (HL2.out.alloc HL2.out.size (.cells #[.int .u8 (97 + (k : Int))] 5 (0, 0)))
              go_wp2_with (first | (refine wpList_known (v := .bool true) rfl (exec_neqS T0 [] (by rw [decide_eq_false HT0.out]; rfl) rfl rfl rfl) ?_) | (refine wpList_known (v := encS (letter k)) rfl (exec_conv _ k hk8 rfl rfl) ?_) | (refine wpList_known (v := encS T1) rfl (exec_add T0 [124] HX1.out rfl rfl rfl (by have h4 := HL0.out; show T0.length + 1 ≤ 1000000; omega)) ?_) | (refine wpList_known (v := encS T2) rfl (exec_add T1 (letter k) HX.out rfl rfl rfl (by have h4 := HL1.out; show T1.length + 1 ≤ 1000000; omega)) ?_))
              go_roundw
              case rel => exact ⟨k + 1, rfl, by omega, by rw [HT2.out], HA.out, HB.out⟩
              case measure => simp [intOf]; omega
        · obtain rfl : k = 8 := by omega
          clear hk8
          obtain ⟨T0, hT⟩ : ∃ T0, joinB 124 (zv h 8) = T0 := ⟨_, rfl⟩
          have HLT : Hid (T0.length ≤ 16) := by show _ ≤ _; rw [← hT]; exact hTl
          obtain ⟨L1, hL1⟩ : ∃ L, [122, 111, 110, 101, 61] ++ T0 = L := ⟨_, rfl⟩
          obtain ⟨L2, hL2⟩ : ∃ L, [122, 111, 110, 101, 61] ++ letter j = L := ⟨_, rfl⟩
          have HE1 := Lib.hid hL1
          have HE2 := Lib.hid hL2
          have hl1 : L1.length ≤ 9223372036854775807 := by
            have := HLT.out
            rw [← hL1, List.length_append]
            simp only [List.length_cons, List.length_nil]
            omega
          have hl2 : L2.length ≤ 9223372036854775807 := by rw [← hL2]; show (6 : Nat) ≤ 9223372036854775807; omega
          have HP2 : Hid (∀ W, Calls Try.prog 19 #[encS L2] W (TermsAre W (some [(zoneK, [letter j])]))) := fun W => by
            have h5 := parse_any L2 hl2 W
            rw [show termsOf L2 = some [(zoneK, [letter j])] by rw [← hL2]; exact pick_terms j hj8] at h5
            exact h5
          by_cases h0 : zv h 8 = []
          · have HT0 : Hid (T0 = []) := hT.symm.trans (zv_ne.2 h0)
            have HP1 : Hid (∀ W, Calls Try.prog 19 #[encS L1] W (TermsAre W none)) := fun W => by
              have h5 := parse_any L1 hl1 W
              rw [show termsOf L1 = none by rw [← hL1, HT0.out]; exact zone_none] at h5
              exact h5
            rw [hT]
            clear h0 hT hL1 hL2 hl1 hl2 hTl hj
            go_wp2_with (refine wpList_known (v := encS L1) rfl (exec_add [122, 111, 110, 101, 61] T0 HE1.out rfl rfl rfl (by have h4 := HLT.out; show 5 + T0.length ≤ 1000000; omega)) ?_)
            refine (HP1.out _).mono ?_
            rintro e W1 ⟨hb, rfl⟩
            have HB := Lib.hid (HL2.out.trans (hb.mono HL2.out.size))
            clear hb HP1
            go_wp2_with (refine wpList_known (v := encS L2) rfl (exec_add [122, 111, 110, 101, 61] (letter j) HE2.out rfl rfl rfl (by show 5 + 1 ≤ 1000000; omega)) ?_)
            refine (HP2.out _).mono ?_
            rintro e W2 ⟨hb, v2, acc, rfl, hacc, hrow, hvals⟩
            replace HB := Lib.hid (HB.out.trans (hb.mono HB.out.size))
            have hn : acc.length = 1 := by have := congrArg List.length hacc; simpa using this
            rw [hn] at hrow
            obtain ⟨o2, c2, rfl⟩ : ∃ o c, v2 = .slice o 1 c := by
              rcases hrow.2 with ⟨-, h9⟩ | ⟨g, cap, cur, rfl, -⟩
              · exact absurd h9 (by decide)
              · exact ⟨_, _, rfl⟩
            clear hb hacc hrow hvals hn HP2
            go_wp2_with (refine wpList_known (v := .bool true) rfl (exec_eqlS T0 [] (by rw [HT0.out]; decide) rfl rfl rfl) ?_)
            go_ret
            exact ⟨rfl, HB.out⟩
          · have HT0 : Hid (¬ T0 = []) := by show ¬ _; rw [← hT]; exact fun e => h0 (zv_ne.1 e)
            have HP1 : Hid (∀ W, Calls Try.prog 19 #[encS L1] W (TermsAre W (some [(zoneK, zv h 8)]))) := fun W => by
              have h5 := parse_any L1 hl1 W
              rw [show termsOf L1 = some [(zoneK, zv h 8)] by rw [← hL1, ← hT]; exact zone_terms h0] at h5
              exact h5
            have HP3 : Hid (∀ W, Calls Try.prog 21 #[encS L2] W (LabelsAre W (some [(zoneK, letter j)]))) := fun W => by
              have h5 := labels_any L2 hl2 W
              rw [show labelsOf L2 = some [(zoneK, letter j)] by rw [← hL2]; exact pick_labels j hj8] at h5
              exact h5
            obtain ⟨b, hbj⟩ : ∃ b, h j = b := ⟨_, rfl⟩
            have hM0 := zone_match (h := h) hj8
            have hN0 := zone_narrow (h := h) hj8 h0
            rw [hbj] at hM0 hN0
            have HM := Lib.hid hM0
            have HNr := Lib.hid hN0
            have HC : Hid (∀ W, HasAt W w.heap.size h → W.cell? ⟨w.heap.size, (one % 8).toNat, none⟩ = some (.bool b)) := fun W hW => by
              have h5 := hW.cell j hj8
              rw [hbj] at h5
              rw [hj]
              exact h5
            rw [hT]
            clear h0 hT hL1 hL2 hl1 hl2 hTl hj hM0 hN0 hbj
            go_wp2_with (refine wpList_known (v := encS L1) rfl (exec_add [122, 111, 110, 101, 61] T0 HE1.out rfl rfl rfl (by have h4 := HLT.out; show 5 + T0.length ≤ 1000000; omega)) ?_)
            refine (HP1.out _).mono ?_
            rintro e W1 ⟨hb, v1, A1, rfl, hA1, hrow, hvals⟩
            have HB := Lib.hid (HL2.out.trans (hb.mono HL2.out.size))
            have HH := Lib.hid (HH2.out.after hb)
            have HT1 := Lib.hid (TermsIn.ofRow hrow hvals)
            have HC1 := Lib.hid (CapOk.ofRow hrow)
            have HA1 := Lib.hid hA1
            clear hb HP1 hA1 hrow hvals
            go_wp2_with (refine wpList_known (v := encS L2) rfl (exec_add [122, 111, 110, 101, 61] (letter j) HE2.out rfl rfl rfl (by show 5 + 1 ≤ 1000000; omega)) ?_)
            refine (HP2.out _).mono ?_
            rintro e W2 ⟨hb, v2, A2, rfl, hA2, hrow, hvals⟩
            replace HB := Lib.hid (HB.out.trans (hb.mono HB.out.size))
            replace HH := Lib.hid (HH.out.after hb)
            replace HT1 := Lib.hid (HT1.out.after hb)
            have HT2 := Lib.hid (TermsIn.ofRow hrow hvals)
            have HC2 := Lib.hid (CapOk.ofRow hrow)
            have HA2 := Lib.hid hA2
            clear hb HP2 hA2 hrow hvals
            go_wp2_with (first | (refine wpList_known (v := .bool false) rfl (exec_eqlS T0 [] (decide_eq_false HT0.out) rfl rfl rfl) ?_) | (refine wpList_known (v := encS L2) rfl (exec_add [122, 111, 110, 101, 61] (letter j) HE2.out rfl rfl rfl (by show 5 + 1 ≤ 1000000; omega)) ?_))
            refine (HP3.out _).mono ?_
            rintro e W3 ⟨hb, v3, rfl, hrow⟩
            replace HB := Lib.hid (HB.out.trans (hb.mono HB.out.size))
            replace HH := Lib.hid (HH.out.after hb)
            replace HT1 := Lib.hid (HT1.out.after hb)
            replace HT2 := Lib.hid (HT2.out.after hb)
            have HL3 := Lib.hid (LabsIn.ofRow hrow)
            clear hb HP3 hrow
            cases b with
            | true =>
              have hN : Calls Try.prog 25 #[v1, v2] W3 (NPost W3 (0, [(zoneK, [letter j])])) := by
                have h5 := narrow_any v1 v2 A1 A2 W3 HT1.out HT2.out HC1.out HC2.out
                rw [HA1.out, HA2.out, HNr.out] at h5
                exact h5
              have HN := Lib.hid hN
              clear hN HNr HC1 HC2
              go_wp2_with fail
              refine HN.out.mono ?_
              rintro e W4 ⟨v4, O, rfl, hro, hO⟩
              have hb := hro.low
              replace HB := Lib.hid (HB.out.trans (hb.mono HB.out.size))
              have hck := HC.out W4 (HH.out.after hb)
              replace HT1 := Lib.hid (HT1.out.after hb)
              replace HT2 := Lib.hid (HT2.out.after hb)
              replace HL3 := Lib.hid (HL3.out.after hb)
              have HT4 := Lib.hid hro.terms
              have HO := Lib.hid hO
              clear hb hro hO HN HC HH
              go_wp2_with fail
              have hM := match_any v1 A1 v3 _ W4 HT1.out HL3.out
              rw [HA1.out, HM.out] at hM
              refine hM.mono ?_
              rintro e W5 ⟨rfl, hb⟩
              replace HB := Lib.hid (HB.out.trans (hb.mono HB.out.size))
              replace HT2 := Lib.hid (HT2.out.after hb)
              replace HT4 := Lib.hid (HT4.out.after hb)
              clear hb hM HT1 HL3 HM hck
              go_wp2_with fail
              have hS := sameTerms_any v4 v2 O A2 W5 HT4.out HT2.out
              rw [HO.out, HA2.out, decide_eq_true rfl] at hS
              refine hS.mono ?_
              rintro e W6 ⟨rfl, hb⟩
              replace HB := Lib.hid (HB.out.trans (hb.mono HB.out.size))
              clear hb hS HT4 HT2
              go_wp2
              go_ret
              exact ⟨rfl, HB.out⟩
            | false =>
              have hN : Calls Try.prog 25 #[v1, v2] W3 (NPost W3 (5, [])) := by
                have h5 := narrow_any v1 v2 A1 A2 W3 HT1.out HT2.out HC1.out HC2.out
                rw [HA1.out, HA2.out, HNr.out] at h5
                exact h5
              have HN := Lib.hid hN
              clear hN HNr HC1 HC2
              go_wp2_with fail
              refine HN.out.mono ?_
              rintro e W4 ⟨v4, O, rfl, hro, hO⟩
              have hb := hro.low
              replace HB := Lib.hid (HB.out.trans (hb.mono HB.out.size))
              have hck := HC.out W4 (HH.out.after hb)
              replace HT1 := Lib.hid (HT1.out.after hb)
              replace HT2 := Lib.hid (HT2.out.after hb)
              replace HL3 := Lib.hid (HL3.out.after hb)
              have HT4 := Lib.hid hro.terms
              have HO := Lib.hid hO
              clear hb hro hO HN HC HH
              go_wp2_with fail
              have hM := match_any v1 A1 v3 _ W4 HT1.out HL3.out
              rw [HA1.out, HM.out] at hM
              refine hM.mono ?_
              rintro e W5 ⟨rfl, hb⟩
              replace HB := Lib.hid (HB.out.trans (hb.mono HB.out.size))
              replace HT2 := Lib.hid (HT2.out.after hb)
              replace HT4 := Lib.hid (HT4.out.after hb)
              clear hb hM HT1 HL3 HM hck
              go_wp2
              go_ret
              exact ⟨rfl, HB.out⟩
end Go.Proofs.Ytneogmcmkbhnaaa.T
