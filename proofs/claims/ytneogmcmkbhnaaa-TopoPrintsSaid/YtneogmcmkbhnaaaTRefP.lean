/- The document's PrintLabels and Print. Laid by mkrefp.py. -/
import Derived.Test.YtneogmcmkbhnaaaTRefRT
import Derived.Test.YtneogmcmkbhnaaaTBack
namespace Go.Proofs.Ytneogmcmkbhnaaa.T
open Go.RowKit
open Go.Lib hiding intOf

theorem lib_join (m : UInt8) : ∀ xs : List (List UInt8), Lib.join xs [m] = joinB m xs
  | [] => rfl
  | x :: r => by
    rw [Lib.join_cons]
    show x ++ (r.map ([m] ++ ·)).flatten = x ++ r.flatMap fun y => m :: y
    rw [List.flatMap_def]
    rfl
theorem join_any (v : Value) (l : List (List UInt8)) (m : UInt8) (w : World) (h : StrsIn w v l) (h0 : l ≠ []) (hN : l.length ≤ 1000) (hlen : (joinB m l).length ≤ 1000000) :
    Calls Try.prog 34 #[v, encS [m]] w fun e w' => e = .returned (encS (joinB m l)) ∧ Below w.heap.size w w' := by
  rcases h with ⟨o, c, -, h1⟩ | ⟨g, off, cap, rfl, hm, hc, hcap⟩
  · exact absurd h1 h0
  · have hl : (l.map fun x => (⟨x.toArray⟩ : ByteArray)).length = l.length := List.length_map _
    have hd : (l.map fun x => (⟨x.toArray⟩ : ByteArray)).map (·.data.toList) = l := by
      rw [List.map_map]
      exact List.map_id' _
    have hpos : 0 < l.length := List.length_pos_iff.2 h0
    have hlt : g < w.heap.size := by
      have := hc 0 hpos
      rcases Nat.lt_or_ge g w.heap.size with hh | hh
      · exact hh
      · unfold World.cell? at this
        rw [Array.getElem?_eq_none hh] at this
        cases this
    have hj := lib_join m l
    have h := Try.strings_Join g off cap (l.map fun x => (⟨x.toArray⟩ : ByteArray)) ⟨[m].toArray⟩ w (fun j x hx => by
      obtain ⟨hj1, hj2⟩ := List.getElem?_eq_some_iff.1 hx
      rw [hc j (by simpa using hj1), ← hj2, List.getElem_map]
      rfl) hlt (by rw [hl]; omega) (by rw [hl]; exact hcap) (by rw [hd]; show (Lib.join l [m]).length ≤ _; rw [hj]; omega)
    rw [hl, hd] at h
    refine h.mono ?_
    rintro e w' ⟨rfl, hb⟩
    refine ⟨?_, hb⟩
    show Ending.returned (Value.string ⟨(Lib.join l [m]).toArray⟩) = _
    rw [hj]
    rfl
theorem some_at {α : Type} {pr : α → Option (List UInt8)} {key : α → List UInt8} {l : List α} (h : Prints pr key l) (k : Nat) (hk : k < l.length) : ∃ s, pr l[k] = some s := Option.isSome_iff_exists.1 (h.all.has k hk hk)

set_option maxRecDepth 100000 in
set_option maxHeartbeats 4000000 in
theorem printLabelsR_any (v : Value) (l : List LB) (w : World) (hT : LabsIn w v l) (hz : FitL l) :
    Calls Try.prog 17 #[v] w (TextPost w (printAll prLabel keyL 44 l)) := by
  have HT := Lib.hid hT
  have hn := hT.len
  have HRi := Lib.hid (rightLabels_any v l w hT hz)
  obtain ⟨o, c, rfl⟩ := hT.shape
  clear hT hz
  obtain ⟨R, hR⟩ : ∃ R, printAll prLabel keyL 44 l = R := ⟨_, rfl⟩
  rw [hR] at HRi ⊢
  have HR := Lib.hid hR
  clear hR
  obtain ⟨N, hN⟩ : ∃ N, N = l.length := ⟨_, rfl⟩
  rw [← hN] at HT hn HRi ⊢
  have HN := Lib.hid hN
  clear hN
  cases R with
  | none =>
    go_enter Try.func17, Try.ntmps17
    go_wp2_with fail
    refine HRi.out.mono ?_
    rintro e W1 ⟨rfl, hb⟩
    have HB := Lib.hid hb
    clear hb HRi
    go_wp2
    go_ret2
    exact ⟨HB.out, rfl⟩
  | some t =>
    have HPs := Lib.hid (print_some prLabel keyL HR.out).1
    have HTx := Lib.hid (print_some prLabel keyL HR.out).2
    have h8 : N ≤ 8 := by rw [HN.out]; exact HPs.out.len
    go_enter Try.func17, Try.ntmps17
    go_wp2_with fail
    refine HRi.out.mono ?_
    rintro e W1 ⟨rfl, hb⟩
    have HB := Lib.hid hb
    clear hb HRi
    go_wp2
    go_loopw [4, 5] (fun out i wr => ∃ k : Nat, i = .int .i64 (k : Int) ∧ k ≤ N ∧ out = encS (joinB 44 (texts prLabel (l.take k))) ∧ (joinB 44 (texts prLabel (l.take k))).length ≤ k * 400 ∧ Below w.heap.size w wr) (fun _ i _ => (N - intOf i).toNat)
    case atStart => exact ⟨0, rfl, Nat.zero_le _, rfl, Nat.zero_le _, HB.out⟩
    case round =>
      clear HB
      obtain ⟨k, rfl, hk, rfl, hlen, hlow⟩ := hrel
      have HLow := Lib.hid hlow
      clear hlow
      by_cases hkl : k < N
      · have hkl' : k < l.length := by rw [← HN.out]; exact hkl
        obtain ⟨s, hs⟩ := some_at HPs.out k hkl'
        have hsz := prLabel_size _ s hs
        obtain ⟨g, off, rfl, -, -, -⟩ := HT.out.at k hkl'
        have HC : Hid (∀ V, Below w.heap.size w V → V.cell? ⟨g, off + k * 2, none⟩ = some (encS l[k].1) ∧ V.cell? ⟨g, off + k * 2 + 1, none⟩ = some (encS l[k].2)) := fun V hV => by
          obtain ⟨g', off', h1, -, h2, h3⟩ := (HT.out.after hV).at k hkl'
          cases h1
          exact ⟨h2, h3⟩
        have HJ0 : Hid (k = 0 → joinB 44 (texts prLabel (l.take (k + 1))) = joinB 44 (texts prLabel (l.take k)) ++ s) := fun h0 => by subst h0; exact join_first prLabel hkl' hs
        have HJ1 : Hid (0 < k → joinB 44 (texts prLabel (l.take (k + 1))) = joinB 44 (texts prLabel (l.take k)) ++ [44] ++ s) := fun h0 => join_next prLabel hkl' h0 hs
        obtain ⟨x, hx⟩ : ∃ x, l[k] = x := ⟨_, rfl⟩
        rw [hx] at HC hs
        clear hx
        generalize joinB 44 (texts prLabel (l.take k)) = T at HJ0 HJ1 hlen ⊢
        obtain ⟨ka, va⟩ := x
        dsimp only at HC
        have hs2 : ka ++ [61] ++ va = s := by
          unfold prLabel at hs
          split at hs
          · split at hs
            · cases hs; rfl
            · cases hs
          · cases hs
        have hkal : ka.length + 1 + va.length = s.length := by rw [← hs2]; simp; omega
        have hl1 : ka.length + [(61 : UInt8)].length ≤ 1000000 := by simp; omega
        obtain ⟨p, hp⟩ : ∃ p, ka ++ [61] = p := ⟨_, rfl⟩
        rw [hp] at hs2
        have hpl : p.length + va.length = s.length := by rw [← hs2, List.length_append]
        have HL1 := Lib.hid hl1
        have HP1 := Lib.hid hp
        have HS2 := Lib.hid hs2
        clear hl1 hp
        by_cases hk0 : k = 0
        · obtain ⟨T2, hT2⟩ : ∃ T2, T ++ s = T2 := ⟨_, rfl⟩
          have HFin : Hid (joinB 44 (texts prLabel (l.take (k + 1))) = T2) := by show _ = _; rw [HJ0.out hk0]; exact hT2
          have hlT : Hid (T2.length ≤ (k + 1) * 400) := by show _ ≤ _; rw [← hT2, List.length_append]; omega
          have HT2 := Lib.hid hT2
          clear hT2 HJ0 HJ1
          go_upto_region 9 with (fail)
          clear hk0
          refine wp_region_held_drew (S := fun V => Below w.heap.size w V) (by kernel_rfl) HLow.out.drew (fun _ => ?_)
          refine HeldBy.gen (fun V => Below w.heap.size w V) HLow.out.drew ?_
          clear HLow
          rintro U HS
          refine HeldBy.take (i := 0) rfl (by kernel_rfl) (by kernel_rfl) (by kernel_rfl) (fun _ _ _ h => h) (by rfl) (fun _ _ => by first | (go_simp; rfl) | (go_simp; done)) (by go_simp; rfl) HS ?_
          refine HeldBy.take (i := 1) rfl (by kernel_rfl) (by kernel_rfl) (by kernel_rfl) (fun _ _ _ h => h) (by rfl) (fun _ _ => by first | (go_simp; rfl) | (go_simp; done)) (by go_simp; rfl) HS ?_
          refine HeldBy.take (i := 2) rfl (by kernel_rfl) (by kernel_rfl) (by kernel_rfl) (fun _ _ _ h => h) (by rfl) (fun _ _ => by first | (go_simp; rfl) | (go_simp; done)) (by go_simp; rfl) HS ?_
          refine HeldBy.take (i := 3) (v := .pointer (some ⟨g, off + k * 2, none⟩)) rfl (by kernel_rfl) (by kernel_rfl) (by kernel_rfl) (fun _ _ _ h => h) (by rfl) (fun _ _ => by go_simp) (by go_simp; rfl) HS ?_
          refine HeldBy.take (i := 4) rfl (by kernel_rfl) (by kernel_rfl) (by kernel_rfl) (fun _ _ _ h => h) (by rfl) (fun _ _ => by first | (go_simp; rfl) | (go_simp; done)) (by go_simp; rfl) HS ?_
          refine HeldBy.take (i := 5) rfl (by kernel_rfl) (by kernel_rfl) (by kernel_rfl) (fun _ _ _ h => h) (by rfl) (fun V h => by have c := (HC.out V h).1; go_simp; rfl) (by go_simp; rfl) HS ?_
          refine HeldBy.take (i := 6) (v := encS p) rfl (by kernel_rfl) (by kernel_rfl) (by kernel_rfl) (fun _ _ _ h => h) (by rfl) (fun _ _ => exec_add ka [61] HP1.out rfl rfl rfl HL1.out) (by go_simp; rfl) HS ?_
          refine HeldBy.take (i := 7) rfl (by kernel_rfl) (by kernel_rfl) (by kernel_rfl) (fun _ _ _ h => h) (by rfl) (fun _ _ => by first | (go_simp; rfl) | (go_simp; done)) (by go_simp; rfl) HS ?_
          refine HeldBy.take (i := 8) rfl (by kernel_rfl) (by kernel_rfl) (by kernel_rfl) (fun _ _ _ h => h) (by rfl) (fun _ _ => by first | (go_simp; rfl) | (go_simp; done)) (by go_simp; rfl) HS ?_
          refine HeldBy.take (i := 9) (v := .pointer (some ⟨g, off + k * 2, none⟩)) rfl (by kernel_rfl) (by kernel_rfl) (by kernel_rfl) (fun _ _ _ h => h) (by rfl) (fun _ _ => by go_simp) (by go_simp; rfl) HS ?_
          refine HeldBy.take (i := 10) rfl (by kernel_rfl) (by kernel_rfl) (by kernel_rfl) (fun _ _ _ h => h) (by rfl) (fun _ _ => by first | (go_simp; rfl) | (go_simp; done)) (by go_simp; rfl) HS ?_
          refine HeldBy.take (i := 11) rfl (by kernel_rfl) (by kernel_rfl) (by kernel_rfl) (fun _ _ _ h => h) (by rfl) (fun V h => by have c := (HC.out V h).2; go_simp; rfl) (by go_simp; rfl) HS ?_
          refine HeldBy.take (i := 12) (v := encS s) rfl (by kernel_rfl) (by kernel_rfl) (by kernel_rfl) (fun _ _ _ h => h) (by rfl) (fun _ _ => exec_add p va HS2.out rfl rfl rfl (by omega)) (by go_simp; rfl) HS ?_
          refine HeldBy.take (i := 13) (v := encS T2) rfl (by kernel_rfl) (by kernel_rfl) (by kernel_rfl) (fun _ _ _ h => h) (by rfl) (fun _ _ => exec_add T s HT2.out rfl rfl rfl (by omega)) (by go_simp; rfl) HS ?_
          refine HeldBy.take (i := 14) rfl (by kernel_rfl) (by kernel_rfl) (by kernel_rfl) (fun _ _ _ h => h) (by rfl) (fun _ _ => by first | (go_simp; rfl) | (go_simp; done)) (by go_simp; rfl) HS ?_
          refine wpAnyH_done (by kernel_rfl) ?_ _
          have HL := Lib.hid HS
          clear HS HC HP1 HL1 HS2 HT2
          go_wp2
          go_roundw
          case rel => exact ⟨k + 1, rfl, by omega, by rw [HFin.out], by rw [HFin.out]; exact hlT.out, HL.out⟩
          case measure => simp [intOf]; omega
        · obtain ⟨T1, hT1⟩ : ∃ T1, T ++ [44] = T1 := ⟨_, rfl⟩
          obtain ⟨T2, hT2⟩ : ∃ T2, T1 ++ s = T2 := ⟨_, rfl⟩
          have HFin : Hid (joinB 44 (texts prLabel (l.take (k + 1))) = T2) := by show _ = _; rw [HJ1.out (by omega), hT1]; exact hT2
          have hlT1 : T1.length = T.length + 1 := by rw [← hT1, List.length_append]; rfl
          have hlT : Hid (T2.length ≤ (k + 1) * 400) := by show _ ≤ _; rw [← hT2, List.length_append]; omega
          have HT2 := Lib.hid hT2
          have HT1 := Lib.hid hT1
          have HLT : Hid (T.length + [(44 : UInt8)].length ≤ 1000000) := by show _ ≤ _; simp; omega
          clear hT1 hT2 HJ0 HJ1
          go_upto_region 9 with (refine wpList_known (v := encS T1) rfl (exec_add T [44] HT1.out rfl rfl rfl HLT.out) ?_)
          clear HT1 HLT
          refine wp_region_held_drew (S := fun V => Below w.heap.size w V) (by kernel_rfl) HLow.out.drew (fun _ => ?_)
          refine HeldBy.gen (fun V => Below w.heap.size w V) HLow.out.drew ?_
          clear HLow
          rintro U HS
          refine HeldBy.take (i := 0) rfl (by kernel_rfl) (by kernel_rfl) (by kernel_rfl) (fun _ _ _ h => h) (by rfl) (fun _ _ => by first | (go_simp; rfl) | (go_simp; done)) (by go_simp; rfl) HS ?_
          refine HeldBy.take (i := 1) rfl (by kernel_rfl) (by kernel_rfl) (by kernel_rfl) (fun _ _ _ h => h) (by rfl) (fun _ _ => by first | (go_simp; rfl) | (go_simp; done)) (by go_simp; rfl) HS ?_
          refine HeldBy.take (i := 2) rfl (by kernel_rfl) (by kernel_rfl) (by kernel_rfl) (fun _ _ _ h => h) (by rfl) (fun _ _ => by first | (go_simp; rfl) | (go_simp; done)) (by go_simp; rfl) HS ?_
          refine HeldBy.take (i := 3) (v := .pointer (some ⟨g, off + k * 2, none⟩)) rfl (by kernel_rfl) (by kernel_rfl) (by kernel_rfl) (fun _ _ _ h => h) (by rfl) (fun _ _ => by go_simp) (by go_simp; rfl) HS ?_
          refine HeldBy.take (i := 4) rfl (by kernel_rfl) (by kernel_rfl) (by kernel_rfl) (fun _ _ _ h => h) (by rfl) (fun _ _ => by first | (go_simp; rfl) | (go_simp; done)) (by go_simp; rfl) HS ?_
          refine HeldBy.take (i := 5) rfl (by kernel_rfl) (by kernel_rfl) (by kernel_rfl) (fun _ _ _ h => h) (by rfl) (fun V h => by have c := (HC.out V h).1; go_simp; rfl) (by go_simp; rfl) HS ?_
          refine HeldBy.take (i := 6) (v := encS p) rfl (by kernel_rfl) (by kernel_rfl) (by kernel_rfl) (fun _ _ _ h => h) (by rfl) (fun _ _ => exec_add ka [61] HP1.out rfl rfl rfl HL1.out) (by go_simp; rfl) HS ?_
          refine HeldBy.take (i := 7) rfl (by kernel_rfl) (by kernel_rfl) (by kernel_rfl) (fun _ _ _ h => h) (by rfl) (fun _ _ => by first | (go_simp; rfl) | (go_simp; done)) (by go_simp; rfl) HS ?_
          refine HeldBy.take (i := 8) rfl (by kernel_rfl) (by kernel_rfl) (by kernel_rfl) (fun _ _ _ h => h) (by rfl) (fun _ _ => by first | (go_simp; rfl) | (go_simp; done)) (by go_simp; rfl) HS ?_
          refine HeldBy.take (i := 9) (v := .pointer (some ⟨g, off + k * 2, none⟩)) rfl (by kernel_rfl) (by kernel_rfl) (by kernel_rfl) (fun _ _ _ h => h) (by rfl) (fun _ _ => by go_simp) (by go_simp; rfl) HS ?_
          refine HeldBy.take (i := 10) rfl (by kernel_rfl) (by kernel_rfl) (by kernel_rfl) (fun _ _ _ h => h) (by rfl) (fun _ _ => by first | (go_simp; rfl) | (go_simp; done)) (by go_simp; rfl) HS ?_
          refine HeldBy.take (i := 11) rfl (by kernel_rfl) (by kernel_rfl) (by kernel_rfl) (fun _ _ _ h => h) (by rfl) (fun V h => by have c := (HC.out V h).2; go_simp; rfl) (by go_simp; rfl) HS ?_
          refine HeldBy.take (i := 12) (v := encS s) rfl (by kernel_rfl) (by kernel_rfl) (by kernel_rfl) (fun _ _ _ h => h) (by rfl) (fun _ _ => exec_add p va HS2.out rfl rfl rfl (by omega)) (by go_simp; rfl) HS ?_
          refine HeldBy.take (i := 13) (v := encS T2) rfl (by kernel_rfl) (by kernel_rfl) (by kernel_rfl) (fun _ _ _ h => h) (by rfl) (fun _ _ => exec_add T1 s HT2.out rfl rfl rfl (by omega)) (by go_simp; rfl) HS ?_
          refine HeldBy.take (i := 14) rfl (by kernel_rfl) (by kernel_rfl) (by kernel_rfl) (fun _ _ _ h => h) (by rfl) (fun _ _ => by first | (go_simp; rfl) | (go_simp; done)) (by go_simp; rfl) HS ?_
          refine wpAnyH_done (by kernel_rfl) ?_ _
          have HL := Lib.hid HS
          clear HS HC HP1 HL1 HS2 HT2
          go_wp2
          go_roundw
          case rel => exact ⟨k + 1, rfl, by omega, by rw [HFin.out], by rw [HFin.out]; exact hlT.out, HL.out⟩
          case measure => simp [intOf]; omega
      · obtain rfl : k = N := by omega
        have htx : joinB 44 (texts prLabel (l.take k)) = t := by
          rw [List.take_of_length_le (by rw [HN.out]; exact Nat.le_refl _)]
          exact HTx.out.symm
        rw [htx]
        clear htx hlen HPs HTx
        go_wp2
        go_ret2
        exact ⟨HLow.out, rfl⟩

set_option maxRecDepth 100000 in
set_option maxHeartbeats 4000000 in
theorem printR_any (v : Value) (l : List TB) (w : World) (hT : TermsIn w v l) (hz : FitT l) :
    Calls Try.prog 14 #[v] w (TextPost w (printAll prT kyT 44 l)) := by
  have HT := Lib.hid hT
  have hn := hT.len
  have HRi := Lib.hid (rightTerms_any v l w hT hz)
  obtain ⟨o, c, rfl⟩ := hT.shape
  clear hT hz
  obtain ⟨R, hR⟩ : ∃ R, printAll prT kyT 44 l = R := ⟨_, rfl⟩
  rw [hR] at HRi ⊢
  have HR := Lib.hid hR
  clear hR
  obtain ⟨N, hN⟩ : ∃ N, N = l.length := ⟨_, rfl⟩
  rw [← hN] at HT hn HRi ⊢
  have HN := Lib.hid hN
  clear hN
  cases R with
  | none =>
    go_enter Try.func14, Try.ntmps14
    go_wp2_with fail
    refine HRi.out.mono ?_
    rintro e W1 ⟨rfl, hb⟩
    have HB := Lib.hid hb
    clear hb HRi
    go_wp2
    go_ret2
    exact ⟨HB.out, rfl⟩
  | some t =>
    have HPs := Lib.hid (print_some prT kyT HR.out).1
    have HTx := Lib.hid (print_some prT kyT HR.out).2
    have h8 : N ≤ 8 := by rw [HN.out]; exact HPs.out.len
    go_enter Try.func14, Try.ntmps14
    go_wp2_with fail
    refine HRi.out.mono ?_
    rintro e W1 ⟨rfl, hb⟩
    have HB := Lib.hid hb
    clear hb HRi
    go_wp2
    go_loopw [4, 5] (fun out i wr => ∃ k : Nat, i = .int .i64 (k : Int) ∧ k ≤ N ∧ out = encS (joinB 44 (texts prT (l.take k))) ∧ (joinB 44 (texts prT (l.take k))).length ≤ k * 400 ∧ Below w.heap.size w wr) (fun _ i _ => (N - intOf i).toNat)
    case atStart => exact ⟨0, rfl, Nat.zero_le _, rfl, Nat.zero_le _, HB.out⟩
    case round =>
      clear HB
      obtain ⟨k, rfl, hk, rfl, hlen, hlow⟩ := hrel
      have HLow := Lib.hid hlow
      clear hlow
      by_cases hkl : k < N
      · have hkl' : k < l.length := by rw [← HN.out]; exact hkl
        obtain ⟨s, hs⟩ := some_at HPs.out k hkl'
        have hsz := prT_size _ s hs
        obtain ⟨g, off, rfl, -, -, -, -⟩ := HT.out.at k hkl'
        have HC : Hid (∀ V, Below w.heap.size w V → V.cell? ⟨g, off + k * 2, none⟩ = some (encS l[k].1.1) ∧ V.cell? ⟨g, off + k * 2 + 1, none⟩ = some l[k].2 ∧ StrsIn V l[k].2 l[k].1.2) := fun V hV => by
          obtain ⟨g', off', h1, -, h2, h3, h4⟩ := (HT.out.after hV).at k hkl'
          cases h1
          exact ⟨h2, h3, h4⟩
        have HJ0 : Hid (k = 0 → joinB 44 (texts prT (l.take (k + 1))) = joinB 44 (texts prT (l.take k)) ++ s) := fun h0 => by subst h0; exact join_first prT hkl' hs
        have HJ1 : Hid (0 < k → joinB 44 (texts prT (l.take (k + 1))) = joinB 44 (texts prT (l.take k)) ++ [44] ++ s) := fun h0 => join_next prT hkl' h0 hs
        obtain ⟨x, hx⟩ : ∃ x, l[k] = x := ⟨_, rfl⟩
        rw [hx] at HC hs
        clear hx
        generalize joinB 44 (texts prT (l.take k)) = T at HJ0 HJ1 hlen ⊢
        obtain ⟨⟨ka, lv⟩, val⟩ := x
        dsimp only at HC
        have hju0 : ∃ va, printAll rdWord keyWord 124 lv = some va ∧ ka ++ [61] ++ va = s ∧ lv ≠ [] := by
          unfold prT prTerm at hs
          dsimp only at hs
          split at hs
          · split at hs
            · cases hs
            · obtain ⟨va, hva, h2⟩ := Option.map_eq_some_iff.1 hs
              exact ⟨va, hva, h2, by assumption⟩
          · cases hs
        obtain ⟨va, hva, hs2, hlv0⟩ := hju0
        have hPv := (print_some _ _ hva).1
        have hjv : joinB 124 lv = va := by
          rw [(print_some _ _ hva).2]
          congr 1
          unfold texts
          refine (List.map_id _).symm.trans (List.map_congr_left fun y hy => ?_)
          obtain ⟨-, h3, -⟩ := (prints_iff _ _).1 hPv
          obtain ⟨u, hu⟩ := Option.isSome_iff_exists.1 (h3 y hy)
          rw [hu]
          exact (rdWord_some.1 hu).2
        have hlv8 := hPv.len
        have hkal : ka.length + 1 + va.length = s.length := by rw [← hs2]; simp; omega
        have hju : (joinB 124 lv).length ≤ 1000000 := by rw [hjv]; omega
        have HJu := Lib.hid hjv
        clear hva hPv hjv
        have hl1 : ka.length + [(61 : UInt8)].length ≤ 1000000 := by simp; omega
        obtain ⟨p, hp⟩ : ∃ p, ka ++ [61] = p := ⟨_, rfl⟩
        rw [hp] at hs2
        have hpl : p.length + va.length = s.length := by rw [← hs2, List.length_append]
        have HL1 := Lib.hid hl1
        have HP1 := Lib.hid hp
        have HS2 := Lib.hid hs2
        clear hl1 hp
        by_cases hk0 : k = 0
        · obtain ⟨T2, hT2⟩ : ∃ T2, T ++ s = T2 := ⟨_, rfl⟩
          have HFin : Hid (joinB 44 (texts prT (l.take (k + 1))) = T2) := by show _ = _; rw [HJ0.out hk0]; exact hT2
          have hlT : Hid (T2.length ≤ (k + 1) * 400) := by show _ ≤ _; rw [← hT2, List.length_append]; omega
          have HT2 := Lib.hid hT2
          clear hT2 HJ0 HJ1
          go_upto_region 9 with (fail)
          clear hk0
          refine wp_region_held_drew (S := fun V => Below w.heap.size w V) (by kernel_rfl) HLow.out.drew (fun _ => ?_)
          refine HeldBy.gen (fun V => Below w.heap.size w V) HLow.out.drew ?_
          clear HLow
          rintro U HS
          refine HeldBy.take (i := 0) rfl (by kernel_rfl) (by kernel_rfl) (by kernel_rfl) (fun _ _ _ h => h) (by rfl) (fun _ _ => by first | (go_simp; rfl) | (go_simp; done)) (by go_simp; rfl) HS ?_
          refine HeldBy.take (i := 1) rfl (by kernel_rfl) (by kernel_rfl) (by kernel_rfl) (fun _ _ _ h => h) (by rfl) (fun _ _ => by first | (go_simp; rfl) | (go_simp; done)) (by go_simp; rfl) HS ?_
          refine HeldBy.take (i := 2) rfl (by kernel_rfl) (by kernel_rfl) (by kernel_rfl) (fun _ _ _ h => h) (by rfl) (fun _ _ => by first | (go_simp; rfl) | (go_simp; done)) (by go_simp; rfl) HS ?_
          refine HeldBy.take (i := 3) (v := .pointer (some ⟨g, off + k * 2, none⟩)) rfl (by kernel_rfl) (by kernel_rfl) (by kernel_rfl) (fun _ _ _ h => h) (by rfl) (fun _ _ => by go_simp) (by go_simp; rfl) HS ?_
          refine HeldBy.take (i := 4) rfl (by kernel_rfl) (by kernel_rfl) (by kernel_rfl) (fun _ _ _ h => h) (by rfl) (fun _ _ => by first | (go_simp; rfl) | (go_simp; done)) (by go_simp; rfl) HS ?_
          refine HeldBy.take (i := 5) rfl (by kernel_rfl) (by kernel_rfl) (by kernel_rfl) (fun _ _ _ h => h) (by rfl) (fun V h => by have c := (HC.out V h).1; go_simp; rfl) (by go_simp; rfl) HS ?_
          refine HeldBy.take (i := 6) (v := encS p) rfl (by kernel_rfl) (by kernel_rfl) (by kernel_rfl) (fun _ _ _ h => h) (by rfl) (fun _ _ => exec_add ka [61] HP1.out rfl rfl rfl HL1.out) (by go_simp; rfl) HS ?_
          refine HeldBy.take (i := 7) rfl (by kernel_rfl) (by kernel_rfl) (by kernel_rfl) (fun _ _ _ h => h) (by rfl) (fun _ _ => by first | (go_simp; rfl) | (go_simp; done)) (by go_simp; rfl) HS ?_
          refine HeldBy.take (i := 8) rfl (by kernel_rfl) (by kernel_rfl) (by kernel_rfl) (fun _ _ _ h => h) (by rfl) (fun _ _ => by first | (go_simp; rfl) | (go_simp; done)) (by go_simp; rfl) HS ?_
          refine HeldBy.take (i := 9) (v := .pointer (some ⟨g, off + k * 2, none⟩)) rfl (by kernel_rfl) (by kernel_rfl) (by kernel_rfl) (fun _ _ _ h => h) (by rfl) (fun _ _ => by go_simp) (by go_simp; rfl) HS ?_
          refine HeldBy.take (i := 10) rfl (by kernel_rfl) (by kernel_rfl) (by kernel_rfl) (fun _ _ _ h => h) (by rfl) (fun _ _ => by first | (go_simp; rfl) | (go_simp; done)) (by go_simp; rfl) HS ?_
          refine HeldBy.take (i := 11) rfl (by kernel_rfl) (by kernel_rfl) (by kernel_rfl) (fun _ _ _ h => h) (by rfl) (fun V h => by have c := (HC.out V h).2.1; go_simp; rfl) (by go_simp; rfl) HS ?_
          refine HeldBy.callE (i := 12) rfl (by kernel_rfl) (by rfl) (by go_simp; exact ⟨rfl, rfl⟩) (by intro v; go_simp; rfl) ?_
          refine (join_any val lv 124 _ (HC.out _ HS).2.2 hlv0 (by omega) hju).mono ?_
          rintro e U1 ⟨rfl, hb⟩
          replace HS := HS.trans (hb.mono HS.size)
          refine .inl ⟨_, rfl, HS, ?_⟩
          clear hb
          rw [HJu.out]
          refine HeldBy.take (i := 13) (v := encS s) rfl (by kernel_rfl) (by kernel_rfl) (by kernel_rfl) (fun _ _ _ h => h) (by rfl) (fun _ _ => exec_add p va HS2.out rfl rfl rfl (by omega)) (by go_simp; rfl) HS ?_
          refine HeldBy.take (i := 14) (v := encS T2) rfl (by kernel_rfl) (by kernel_rfl) (by kernel_rfl) (fun _ _ _ h => h) (by rfl) (fun _ _ => exec_add T s HT2.out rfl rfl rfl (by omega)) (by go_simp; rfl) HS ?_
          refine HeldBy.take (i := 15) rfl (by kernel_rfl) (by kernel_rfl) (by kernel_rfl) (fun _ _ _ h => h) (by rfl) (fun _ _ => by first | (go_simp; rfl) | (go_simp; done)) (by go_simp; rfl) HS ?_
          refine wpAnyH_done (by kernel_rfl) ?_ _
          have HL := Lib.hid HS
          clear HS HC HP1 HL1 HS2 HT2
          go_wp2
          go_roundw
          case rel => exact ⟨k + 1, rfl, by omega, by rw [HFin.out], by rw [HFin.out]; exact hlT.out, HL.out⟩
          case measure => simp [intOf]; omega
        · obtain ⟨T1, hT1⟩ : ∃ T1, T ++ [44] = T1 := ⟨_, rfl⟩
          obtain ⟨T2, hT2⟩ : ∃ T2, T1 ++ s = T2 := ⟨_, rfl⟩
          have HFin : Hid (joinB 44 (texts prT (l.take (k + 1))) = T2) := by show _ = _; rw [HJ1.out (by omega), hT1]; exact hT2
          have hlT1 : T1.length = T.length + 1 := by rw [← hT1, List.length_append]; rfl
          have hlT : Hid (T2.length ≤ (k + 1) * 400) := by show _ ≤ _; rw [← hT2, List.length_append]; omega
          have HT2 := Lib.hid hT2
          have HT1 := Lib.hid hT1
          have HLT : Hid (T.length + [(44 : UInt8)].length ≤ 1000000) := by show _ ≤ _; simp; omega
          clear hT1 hT2 HJ0 HJ1
          go_upto_region 9 with (refine wpList_known (v := encS T1) rfl (exec_add T [44] HT1.out rfl rfl rfl HLT.out) ?_)
          clear HT1 HLT
          refine wp_region_held_drew (S := fun V => Below w.heap.size w V) (by kernel_rfl) HLow.out.drew (fun _ => ?_)
          refine HeldBy.gen (fun V => Below w.heap.size w V) HLow.out.drew ?_
          clear HLow
          rintro U HS
          refine HeldBy.take (i := 0) rfl (by kernel_rfl) (by kernel_rfl) (by kernel_rfl) (fun _ _ _ h => h) (by rfl) (fun _ _ => by first | (go_simp; rfl) | (go_simp; done)) (by go_simp; rfl) HS ?_
          refine HeldBy.take (i := 1) rfl (by kernel_rfl) (by kernel_rfl) (by kernel_rfl) (fun _ _ _ h => h) (by rfl) (fun _ _ => by first | (go_simp; rfl) | (go_simp; done)) (by go_simp; rfl) HS ?_
          refine HeldBy.take (i := 2) rfl (by kernel_rfl) (by kernel_rfl) (by kernel_rfl) (fun _ _ _ h => h) (by rfl) (fun _ _ => by first | (go_simp; rfl) | (go_simp; done)) (by go_simp; rfl) HS ?_
          refine HeldBy.take (i := 3) (v := .pointer (some ⟨g, off + k * 2, none⟩)) rfl (by kernel_rfl) (by kernel_rfl) (by kernel_rfl) (fun _ _ _ h => h) (by rfl) (fun _ _ => by go_simp) (by go_simp; rfl) HS ?_
          refine HeldBy.take (i := 4) rfl (by kernel_rfl) (by kernel_rfl) (by kernel_rfl) (fun _ _ _ h => h) (by rfl) (fun _ _ => by first | (go_simp; rfl) | (go_simp; done)) (by go_simp; rfl) HS ?_
          refine HeldBy.take (i := 5) rfl (by kernel_rfl) (by kernel_rfl) (by kernel_rfl) (fun _ _ _ h => h) (by rfl) (fun V h => by have c := (HC.out V h).1; go_simp; rfl) (by go_simp; rfl) HS ?_
          refine HeldBy.take (i := 6) (v := encS p) rfl (by kernel_rfl) (by kernel_rfl) (by kernel_rfl) (fun _ _ _ h => h) (by rfl) (fun _ _ => exec_add ka [61] HP1.out rfl rfl rfl HL1.out) (by go_simp; rfl) HS ?_
          refine HeldBy.take (i := 7) rfl (by kernel_rfl) (by kernel_rfl) (by kernel_rfl) (fun _ _ _ h => h) (by rfl) (fun _ _ => by first | (go_simp; rfl) | (go_simp; done)) (by go_simp; rfl) HS ?_
          refine HeldBy.take (i := 8) rfl (by kernel_rfl) (by kernel_rfl) (by kernel_rfl) (fun _ _ _ h => h) (by rfl) (fun _ _ => by first | (go_simp; rfl) | (go_simp; done)) (by go_simp; rfl) HS ?_
          refine HeldBy.take (i := 9) (v := .pointer (some ⟨g, off + k * 2, none⟩)) rfl (by kernel_rfl) (by kernel_rfl) (by kernel_rfl) (fun _ _ _ h => h) (by rfl) (fun _ _ => by go_simp) (by go_simp; rfl) HS ?_
          refine HeldBy.take (i := 10) rfl (by kernel_rfl) (by kernel_rfl) (by kernel_rfl) (fun _ _ _ h => h) (by rfl) (fun _ _ => by first | (go_simp; rfl) | (go_simp; done)) (by go_simp; rfl) HS ?_
          refine HeldBy.take (i := 11) rfl (by kernel_rfl) (by kernel_rfl) (by kernel_rfl) (fun _ _ _ h => h) (by rfl) (fun V h => by have c := (HC.out V h).2.1; go_simp; rfl) (by go_simp; rfl) HS ?_
          refine HeldBy.callE (i := 12) rfl (by kernel_rfl) (by rfl) (by go_simp; exact ⟨rfl, rfl⟩) (by intro v; go_simp; rfl) ?_
          refine (join_any val lv 124 _ (HC.out _ HS).2.2 hlv0 (by omega) hju).mono ?_
          rintro e U1 ⟨rfl, hb⟩
          replace HS := HS.trans (hb.mono HS.size)
          refine .inl ⟨_, rfl, HS, ?_⟩
          clear hb
          rw [HJu.out]
          refine HeldBy.take (i := 13) (v := encS s) rfl (by kernel_rfl) (by kernel_rfl) (by kernel_rfl) (fun _ _ _ h => h) (by rfl) (fun _ _ => exec_add p va HS2.out rfl rfl rfl (by omega)) (by go_simp; rfl) HS ?_
          refine HeldBy.take (i := 14) (v := encS T2) rfl (by kernel_rfl) (by kernel_rfl) (by kernel_rfl) (fun _ _ _ h => h) (by rfl) (fun _ _ => exec_add T1 s HT2.out rfl rfl rfl (by omega)) (by go_simp; rfl) HS ?_
          refine HeldBy.take (i := 15) rfl (by kernel_rfl) (by kernel_rfl) (by kernel_rfl) (fun _ _ _ h => h) (by rfl) (fun _ _ => by first | (go_simp; rfl) | (go_simp; done)) (by go_simp; rfl) HS ?_
          refine wpAnyH_done (by kernel_rfl) ?_ _
          have HL := Lib.hid HS
          clear HS HC HP1 HL1 HS2 HT2
          go_wp2
          go_roundw
          case rel => exact ⟨k + 1, rfl, by omega, by rw [HFin.out], by rw [HFin.out]; exact hlT.out, HL.out⟩
          case measure => simp [intOf]; omega
      · obtain rfl : k = N := by omega
        have htx : joinB 44 (texts prT (l.take k)) = t := by
          rw [List.take_of_length_le (by rw [HN.out]; exact Nat.le_refl _)]
          exact HTx.out.symm
        rw [htx]
        clear htx hlen HPs HTx
        go_wp2
        go_ret2
        exact ⟨HLow.out, rfl⟩
end Go.Proofs.Ytneogmcmkbhnaaa.T
