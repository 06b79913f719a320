/- topo.printList at texts. Laid by mkprint.py. -/
import Derived.Test.YtneogmcmkbhnaaaTPrint
import Derived.Test.YtneogmcmkbhnaaaHeldEnd
namespace Go.Proofs.Ytneogmcmkbhnaaa.T
open Go.RowKit
open Go.Lib hiding intOf

theorem rdWord_size (x s : List UInt8) (h : rdWord x = some s) : s.length ≤ 399 := by
  unfold rdWord at h
  split at h
  · cases h
    have hw : wordB x = true := by assumption
    unfold wordB at hw
    simp only [Bool.and_eq_true, decide_eq_true_eq] at hw
    omega
  · cases h

set_option maxRecDepth 100000 in
set_option maxHeartbeats 4000000 in
theorem printS_any (v : Value) (l : List (List UInt8)) (m : UInt8) (hm : m.toNat < 128) (w : World) (hT : StrsIn w v l) :
    Calls Try.prog 55 #[v, .int .i32 (m.toNat : Int), .int .i64 8, .func (.func 56) #[] #[], .func (.func 57) #[] #[]] w (PrintPost w (printAll rdWord keyWord m l)) := by
  have HT := Lib.hid hT
  have hn := hT.slen
  obtain ⟨o, c, rfl⟩ := hT.len
  clear hT
  obtain ⟨R, hR⟩ : ∃ R, printAll rdWord keyWord m l = R := ⟨_, rfl⟩
  rw [hR]
  have HR := Lib.hid hR
  clear hR
  obtain ⟨N, hN⟩ : ∃ N, N = l.length := ⟨_, rfl⟩
  rw [← hN] at HT hn ⊢
  have HN := Lib.hid hN
  clear hN
  by_cases h8 : N ≤ 8
  · have HP0 := Lib.hid (PS.start w)
    go_enter Try.func55, Try.ntmps55
    go_wp2
    go_loopw [23] (fun i wr => ∃ k : Nat, i = .int .i64 (k : Int) ∧ k ≤ N ∧ Printed rdWord keyWord l k ∧ (joinB m (texts rdWord (l.take k))).length ≤ k * 400 ∧ PS w (joinB m (texts rdWord (l.take k))) wr) (fun i _ => (N - intOf i).toNat)
    case atStart => exact ⟨0, rfl, Nat.zero_le _, Printed.zero _ _ _, Nat.zero_le _, HP0.out⟩
    case round =>
      clear HP0
      obtain ⟨k, rfl, hk, hpr, hlen, hps⟩ := hrel
      have HPr := Lib.hid hpr
      have HLen := Lib.hid hlen
      have HPS := Lib.hid hps
      clear hpr hlen hps
      by_cases hkl : k < N
      · have hkl' : k < l.length := by rw [← HN.out]; exact hkl
        obtain ⟨g, off, rfl, -⟩ := HT.out.at k hkl'
        have HC : Hid (∀ V, Below w.heap.size w V → ∀ j (hj : j < l.length), V.cell? ⟨g, off + j, none⟩ = some (encS l[j])) := fun V hV j hj => by
          obtain ⟨g', off', h1, h2⟩ := (HT.out.after hV).at j hj
          cases h1
          exact h2
        have HNo : Hid (rdWord l[k] = none → R = none) := fun h => by rw [← HR.out]; exact print_no _ _ hkl' h
        have HFa : Hid (∀ h0 : 0 < k, leB (keyWord l[k]) (keyWord (l[k - 1]'(by omega))) = true → R = none) := fun h0 h => by
          rw [← HR.out]
          obtain ⟨j, rfl⟩ : ∃ j, k = j + 1 := ⟨k - 1, by omega⟩
          exact print_fall _ _ hkl' h
        have HNx : Hid (∀ s, rdWord l[k] = some s → (∀ h0 : 0 < k, leB (keyWord l[k]) (keyWord (l[k - 1]'(by omega))) = false) → Printed rdWord keyWord l (k + 1)) := fun s hs h2 => HPr.out.next _ _ hkl' (by rw [hs]; rfl) h2
        have HJ0 : Hid (∀ s, rdWord l[k] = some s → k = 0 → joinB m (texts rdWord (l.take (k + 1))) = joinB m (texts rdWord (l.take k)) ++ s) := fun s hs h0 => by subst h0; exact join_first rdWord hkl' hs
        have HJ1 : Hid (∀ s, rdWord l[k] = some s → 0 < k → joinB m (texts rdWord (l.take (k + 1))) = joinB m (texts rdWord (l.take k)) ++ [m] ++ s) := fun s hs h0 => join_next rdWord hkl' h0 hs
        have HSz := Lib.hid (rdWord_size l[k])
        generalize joinB m (texts rdWord (l.take k)) = T at HJ0 HJ1 HLen HPS
        have HCk := Lib.hid fun V hV => HC.out V hV k hkl'
        have HCp : Hid (∀ (V : World), Below w.heap.size w V → ∀ h0 : 0 < k, V.cell? ⟨g, off + (k - 1), none⟩ = some (encS (l[k - 1]'(by omega)))) := fun V hV h0 => HC.out V hV (k - 1) (by omega)
        have HY : Hid (∀ h0 : 0 < k, k - 1 < l.length) := fun h0 => by omega
        clear HC HPr
        obtain ⟨x, hx⟩ : ∃ x, l[k] = x := ⟨_, rfl⟩
        rw [hx] at HNo HNx HJ0 HJ1 HSz HCk
        have hFa2 : Hid (∀ h0 : 0 < k, leB (keyWord x) (keyWord (l[k - 1]'(HY.out h0))) = true → R = none) := fun h0 h => HFa.out h0 (by rw [hx]; exact h)
        have hNx2 : Hid (∀ s, rdWord x = some s → (∀ h0 : 0 < k, leB (keyWord x) (keyWord (l[k - 1]'(HY.out h0))) = false) → Printed rdWord keyWord l (k + 1)) := fun s hs h2 => HNx.out s hs fun h0 => h2 h0
        clear HFa HNx hx
        obtain ⟨p, hp⟩ : ∃ p, rdWord x = p := ⟨_, rfl⟩
        have HP := Lib.hid hp
        clear hp
        have c1 := HCk.out _ HPS.out.low
        obtain ⟨prV, hprV⟩ : ∃ prV, prV = Value.tuple #[encS x, .bool (wordB x)] := ⟨_, rfl⟩
        have hprN : rdWord x = none → ∃ t, prV = .tuple #[encS t, .bool false] := fun h => by
          unfold rdWord at h
          split at h
          · cases h
          · have hw : wordB x = false := by simpa using ‹¬ wordB x = true›
            exact ⟨x, by rw [hprV, hw]⟩
        have hprS : ∀ s, rdWord x = some s → prV = .tuple #[encS s, .bool true] := fun s h => by
          unfold rdWord at h
          split at h
          · cases h; rw [hprV, ‹wordB x = true›]
          · cases h
        have HV := Lib.hid (fun V => value_any x V)
        rw [← hprV] at HV
        clear hprV
        go_wp2_with fail
        refine (HV.out _).mono ?_
        rintro e W1 ⟨rfl, hb⟩
        clear c1 HV
        have HPS1 := Lib.hid (HPS.out.after hb)
        clear hb HPS
        cases p with
        | none =>
          obtain rfl : R = none := HNo.out HP.out
          obtain ⟨t, hV⟩ : ∃ t, prV = .tuple #[encS t, .bool false] := hprN HP.out
          rw [hV]
          clear hV hprN hprS
          go_upto_region 8 with (fail)
          refine wp_region_held_drew (S := fun V => PS w T V) (by kernel_rfl) HPS1.out.drew (fun _ => ?_)
          refine HeldBy.gen (fun V => PS w T V) HPS1.out.drew ?_
          clear HPS1
          rintro U HS
          refine HeldBy.take (i := 0) rfl (by kernel_rfl) (by kernel_rfl) (by kernel_rfl) (fun _ _ _ h => h) (by rfl) (fun _ _ => by first | (go_simp; rfl) | (go_simp; done)) (by go_simp; rfl) HS ?_
          refine HeldBy.take (i := 1) rfl (by kernel_rfl) (by kernel_rfl) (by kernel_rfl) (fun _ _ _ h => h) (by rfl) (fun _ _ => by first | (go_simp; rfl) | (go_simp; done)) (by go_simp; rfl) HS ?_
          refine HeldBy.take (i := 2) rfl (by kernel_rfl) (by kernel_rfl) (by kernel_rfl) (fun _ _ _ h => h) (by rfl) (fun _ _ => by first | (go_simp; rfl) | (go_simp; done)) (by go_simp; rfl) HS ?_
          refine HeldBy.skip (i := 3) rfl (by kernel_rfl) (by kernel_rfl) (by kernel_rfl) (fun _ _ _ h => h) (by rfl) (by go_simp; rfl) HS ?_
          refine HeldBy.skip (i := 4) rfl (by kernel_rfl) (by kernel_rfl) (by kernel_rfl) (fun _ _ _ h => h) (by rfl) (by go_simp; rfl) HS ?_
          refine HeldBy.skip (i := 5) rfl (by kernel_rfl) (by kernel_rfl) (by kernel_rfl) (fun _ _ _ h => h) (by rfl) (by go_simp; rfl) HS ?_
          refine HeldBy.skip (i := 6) rfl (by kernel_rfl) (by kernel_rfl) (by kernel_rfl) (fun _ _ _ h => h) (by rfl) (by go_simp; rfl) HS ?_
          refine HeldBy.skip (i := 7) rfl (by kernel_rfl) (by kernel_rfl) (by kernel_rfl) (fun _ _ _ h => h) (by rfl) (by go_simp; rfl) HS ?_
          refine HeldBy.skip (i := 8) rfl (by kernel_rfl) (by kernel_rfl) (by kernel_rfl) (fun _ _ _ h => h) (by rfl) (by go_simp; rfl) HS ?_
          refine HeldBy.skip (i := 9) rfl (by kernel_rfl) (by kernel_rfl) (by kernel_rfl) (fun _ _ _ h => h) (by rfl) (by go_simp; rfl) HS ?_
          refine HeldBy.skip (i := 10) rfl (by kernel_rfl) (by kernel_rfl) (by kernel_rfl) (fun _ _ _ h => h) (by rfl) (by go_simp; rfl) HS ?_
          refine HeldBy.skip (i := 11) rfl (by kernel_rfl) (by kernel_rfl) (by kernel_rfl) (fun _ _ _ h => h) (by rfl) (by go_simp; rfl) HS ?_
          refine HeldBy.skip (i := 12) rfl (by kernel_rfl) (by kernel_rfl) (by kernel_rfl) (fun _ _ _ h => h) (by rfl) (by go_simp; rfl) HS ?_
          refine HeldBy.skip (i := 13) rfl (by kernel_rfl) (by kernel_rfl) (by kernel_rfl) (fun _ _ _ h => h) (by rfl) (by go_simp; rfl) HS ?_
          refine HeldBy.skip (i := 14) rfl (by kernel_rfl) (by kernel_rfl) (by kernel_rfl) (fun _ _ _ h => h) (by rfl) (by go_simp; rfl) HS ?_
          refine HeldBy.skip (i := 15) rfl (by kernel_rfl) (by kernel_rfl) (by kernel_rfl) (fun _ _ _ h => h) (by rfl) (by go_simp; rfl) HS ?_
          refine HeldBy.skip (i := 16) rfl (by kernel_rfl) (by kernel_rfl) (by kernel_rfl) (fun _ _ _ h => h) (by rfl) (by go_simp; rfl) HS ?_
          refine HeldBy.skip (i := 17) rfl (by kernel_rfl) (by kernel_rfl) (by kernel_rfl) (fun _ _ _ h => h) (by rfl) (by go_simp; rfl) HS ?_
          refine HeldBy.take (i := 18) rfl (by kernel_rfl) (by kernel_rfl) (by kernel_rfl) (fun _ _ _ h => h) (by rfl) (fun _ _ => by first | (go_simp; rfl) | (go_simp; done)) (by go_simp; rfl) HS ?_
          refine wpAnyH_done (by kernel_rfl) ?_ _
          have HL := Lib.hid HS.low
          clear HS
          go_wp2
          go_ret2
          exact ⟨HL.out, rfl⟩
        | some s =>
          have hV : prV = .tuple #[encS s, .bool true] := hprS s HP.out
          rw [hV]
          clear hV hprN hprS
          have hsz := HSz.out s HP.out
          have hlT := HLen.out
          go_upto_region 8 with (fail)
          refine wp_region_held_drew (S := fun V => PS w T V) (by kernel_rfl) HPS1.out.drew (fun _ => ?_)
          refine HeldBy.gen (fun V => PS w T V) HPS1.out.drew ?_
          clear HPS1
          rintro U HS
          refine HeldBy.take (i := 0) rfl (by kernel_rfl) (by kernel_rfl) (by kernel_rfl) (fun _ _ _ h => h) (by rfl) (fun _ _ => by first | (go_simp; rfl) | (go_simp; done)) (by go_simp; rfl) HS ?_
          refine HeldBy.take (i := 1) rfl (by kernel_rfl) (by kernel_rfl) (by kernel_rfl) (fun _ _ _ h => h) (by rfl) (fun _ _ => by first | (go_simp; rfl) | (go_simp; done)) (by go_simp; rfl) HS ?_
          refine HeldBy.take (i := 2) rfl (by kernel_rfl) (by kernel_rfl) (by kernel_rfl) (fun _ _ _ h => h) (by rfl) (fun _ _ => by first | (go_simp; rfl) | (go_simp; done)) (by go_simp; rfl) HS ?_
          by_cases hk0 : k = 0
          · subst hk0
            refine HeldBy.take (i := 3) rfl (by kernel_rfl) (by kernel_rfl) (by kernel_rfl) (fun _ _ _ h => h) (by rfl) (fun _ _ => by first | (go_simp; rfl) | (go_simp; done)) (by go_simp; rfl) HS ?_
            refine HeldBy.take (i := 4) (v := .bool false) rfl (by kernel_rfl) (by kernel_rfl) (by kernel_rfl) (fun _ _ _ h => h) (by rfl) (fun _ _ => by go_simp) (by go_simp; rfl) HS ?_
            refine HeldBy.take (i := 5) rfl (by kernel_rfl) (by kernel_rfl) (by kernel_rfl) (fun _ _ _ h => h) (by rfl) (fun _ _ => by first | (go_simp; rfl) | (go_simp; done)) (by go_simp; rfl) HS ?_
            refine HeldBy.skip (i := 6) rfl (by kernel_rfl) (by kernel_rfl) (by kernel_rfl) (fun _ _ _ h => h) (by rfl) (by go_simp; rfl) HS ?_
            refine HeldBy.skip (i := 7) rfl (by kernel_rfl) (by kernel_rfl) (by kernel_rfl) (fun _ _ _ h => h) (by rfl) (by go_simp; rfl) HS ?_
            refine HeldBy.skip (i := 8) rfl (by kernel_rfl) (by kernel_rfl) (by kernel_rfl) (fun _ _ _ h => h) (by rfl) (by go_simp; rfl) HS ?_
            refine HeldBy.skip (i := 9) rfl (by kernel_rfl) (by kernel_rfl) (by kernel_rfl) (fun _ _ _ h => h) (by rfl) (by go_simp; rfl) HS ?_
            refine HeldBy.skip (i := 10) rfl (by kernel_rfl) (by kernel_rfl) (by kernel_rfl) (fun _ _ _ h => h) (by rfl) (by go_simp; rfl) HS ?_
            refine HeldBy.skip (i := 11) rfl (by kernel_rfl) (by kernel_rfl) (by kernel_rfl) (fun _ _ _ h => h) (by rfl) (by go_simp; rfl) HS ?_
            refine HeldBy.skip (i := 12) rfl (by kernel_rfl) (by kernel_rfl) (by kernel_rfl) (fun _ _ _ h => h) (by rfl) (by go_simp; rfl) HS ?_
            refine HeldBy.skip (i := 13) rfl (by kernel_rfl) (by kernel_rfl) (by kernel_rfl) (fun _ _ _ h => h) (by rfl) (by go_simp; rfl) HS ?_
            refine HeldBy.skip (i := 14) rfl (by kernel_rfl) (by kernel_rfl) (by kernel_rfl) (fun _ _ _ h => h) (by rfl) (by go_simp; rfl) HS ?_
            refine HeldBy.skip (i := 15) rfl (by kernel_rfl) (by kernel_rfl) (by kernel_rfl) (fun _ _ _ h => h) (by rfl) (by go_simp; rfl) HS ?_
            refine HeldBy.skip (i := 16) rfl (by kernel_rfl) (by kernel_rfl) (by kernel_rfl) (fun _ _ _ h => h) (by rfl) (by go_simp; rfl) HS ?_
            refine HeldBy.take (i := 17) rfl (by kernel_rfl) (by kernel_rfl) (by kernel_rfl) (fun _ _ _ h => h) (by rfl) (fun _ _ => by first | (go_simp; rfl) | (go_simp; done)) (by go_simp; rfl) HS ?_
            refine HeldBy.take (i := 18) rfl (by kernel_rfl) (by kernel_rfl) (by kernel_rfl) (fun _ _ _ h => h) (by rfl) (fun _ _ => by first | (go_simp; rfl) | (go_simp; done)) (by go_simp; rfl) HS ?_
            refine wpAnyH_done (by kernel_rfl) ?_ _
            have HPS := Lib.hid HS
            clear HS
            go_wp2_with fail
            refine (writeString_any w.heap.size w.heap.size T s _ HPS.out.bld (by omega) HPS.out.low.size).mono ?_
            rintro e W2 ⟨⟨y, rfl⟩, hbl, hb⟩
            have hfin : Hid (PS w (joinB m (texts rdWord (l.take (0 + 1)))) W2) := by
              show PS w _ W2
              rw [HJ0.out s HP.out (by first | rfl | trivial)]
              exact ⟨hbl, HPS.out.low.trans hb⟩
            have hle : Hid ((joinB m (texts rdWord (l.take (0 + 1)))).length ≤ (0 + 1) * 400) := by
              show _ ≤ _
              rw [HJ0.out s HP.out (by first | rfl | trivial), List.length_append]
              omega
            have hnx := Lib.hid (hNx2.out s HP.out (fun h0 => by omega))
            clear hbl hb HPS hNx2 hFa2
            go_wp2
            go_roundw
            case rel => exact ⟨0 + 1, rfl, by omega, hnx.out, hle.out, hfin.out⟩
            case measure => simp [intOf]; omega
          · have hkpos : 0 < k := by omega
            have hkm : k - 1 < l.length := HY.out hkpos
            refine HeldBy.take (i := 3) rfl (by kernel_rfl) (by kernel_rfl) (by kernel_rfl) (fun _ _ _ h => h) (by rfl) (fun _ _ => by first | (go_simp; rfl) | (go_simp; done)) (by go_simp; rfl) HS ?_
            refine HeldBy.take (i := 4) (v := .bool true) rfl (by kernel_rfl) (by kernel_rfl) (by kernel_rfl) (fun _ _ _ h => h) (by rfl) (fun _ _ => by first | (go_simp; done) | (go_simp; omega)) (by go_simp; rfl) HS ?_
            refine HeldBy.take (i := 5) rfl (by kernel_rfl) (by kernel_rfl) (by kernel_rfl) (fun _ _ _ h => h) (by rfl) (fun _ _ => by first | (go_simp; rfl) | (go_simp; done)) (by go_simp; rfl) HS ?_
            refine HeldBy.take (i := 6) rfl (by kernel_rfl) (by kernel_rfl) (by kernel_rfl) (fun _ _ _ h => h) (by rfl) (fun _ _ => by first | (go_simp; rfl) | (go_simp; done)) (by go_simp; rfl) HS ?_
            refine HeldBy.take (i := 7) rfl (by kernel_rfl) (by kernel_rfl) (by kernel_rfl) (fun _ _ _ h => h) (by rfl) (fun _ _ => by first | (go_simp; rfl) | (go_simp; done)) (by go_simp; rfl) HS ?_
            refine HeldBy.take (i := 9) rfl (by kernel_rfl) (by kernel_rfl) (by kernel_rfl) (fun _ _ _ h => h) (by rfl) (fun _ _ => by first | (go_simp; rfl) | (go_simp; done)) (by go_simp; rfl) HS ?_
            refine HeldBy.take (i := 10) rfl (by kernel_rfl) (by kernel_rfl) (by kernel_rfl) (fun _ _ _ h => h) (by rfl) (fun _ _ => by first | (go_simp; rfl) | (go_simp; done)) (by go_simp; rfl) HS ?_
            refine HeldBy.take (i := 11) rfl (by kernel_rfl) (by kernel_rfl) (by kernel_rfl) (fun _ _ _ h => h) (by rfl) (fun _ _ => by first | (go_simp; rfl) | (go_simp; done)) (by go_simp; rfl) HS ?_
            refine HeldBy.take (i := 12) (v := .int .i64 ((k - 1 : Nat) : Int)) rfl (by kernel_rfl) (by kernel_rfl) (by kernel_rfl) (fun _ _ _ h => h) (by rfl) (fun _ _ => by go_simp; rw [IntWalk.i64_in _ (by omega)]; omega) (by go_simp; rfl) HS ?_
            refine HeldBy.take (i := 13) (v := .pointer (some ⟨g, off + (k - 1), none⟩)) rfl (by kernel_rfl) (by kernel_rfl) (by kernel_rfl) (fun _ _ _ h => h) (by rfl) (fun _ _ => by first | (go_simp; done) | (go_simp; omega)) (by go_simp; rfl) HS ?_
            refine HeldBy.take (i := 14) rfl (by kernel_rfl) (by kernel_rfl) (by kernel_rfl) (fun _ _ _ h => h) (by rfl) (fun V h => by have c := HCp.out V h.low hkpos; go_simp; rfl) (by go_simp; rfl) HS ?_
            refine HeldBy.callE (i := 8) rfl (by kernel_rfl) (by rfl) (by go_simp; exact ⟨rfl, rfl⟩) (by intro v; go_simp; rfl) ?_
            refine (itself_any x _).mono ?_
            rintro e U1 ⟨rfl, rfl⟩
            refine .inl ⟨_, rfl, HS, ?_⟩
            refine HeldBy.callE (i := 15) rfl (by kernel_rfl) (by rfl) (by go_simp; exact ⟨rfl, rfl⟩) (by intro v; go_simp; rfl) ?_
            refine (itself_any (l[k - 1]'hkm) _).mono ?_
            rintro e U2 ⟨rfl, rfl⟩
            refine .inl ⟨_, rfl, HS, ?_⟩
            cases hle : leB (keyWord x) (keyWord (l[k - 1]'hkm)) with
            | true =>
              obtain rfl : R = none := hFa2.out hkpos hle
              refine HeldBy.take (i := 16) (v := .bool true) rfl (by kernel_rfl) (by kernel_rfl) (by kernel_rfl) (fun _ _ _ h => h) (by rfl) (fun _ _ => by go_simp; rw [leq_any, show leB x (l[k - 1]'hkm) = _ from hle]; go_simp) (by go_simp; rfl) HS ?_
              refine HeldBy.take (i := 17) rfl (by kernel_rfl) (by kernel_rfl) (by kernel_rfl) (fun _ _ _ h => h) (by rfl) (fun _ _ => by first | (go_simp; rfl) | (go_simp; done)) (by go_simp; rfl) HS ?_
              refine HeldBy.take (i := 18) rfl (by kernel_rfl) (by kernel_rfl) (by kernel_rfl) (fun _ _ _ h => h) (by rfl) (fun _ _ => by first | (go_simp; rfl) | (go_simp; done)) (by go_simp; rfl) HS ?_
              refine wpAnyH_done (by kernel_rfl) ?_ _
              have HL := Lib.hid HS.low
              clear HS
              go_wp2
              go_ret2
              exact ⟨HL.out, rfl⟩
            | false =>
              refine HeldBy.take (i := 16) (v := .bool false) rfl (by kernel_rfl) (by kernel_rfl) (by kernel_rfl) (fun _ _ _ h => h) (by rfl) (fun _ _ => by go_simp; rw [leq_any, show leB x (l[k - 1]'hkm) = _ from hle]; go_simp) (by go_simp; rfl) HS ?_
              refine HeldBy.take (i := 17) rfl (by kernel_rfl) (by kernel_rfl) (by kernel_rfl) (fun _ _ _ h => h) (by rfl) (fun _ _ => by first | (go_simp; rfl) | (go_simp; done)) (by go_simp; rfl) HS ?_
              refine HeldBy.take (i := 18) rfl (by kernel_rfl) (by kernel_rfl) (by kernel_rfl) (fun _ _ _ h => h) (by rfl) (fun _ _ => by first | (go_simp; rfl) | (go_simp; done)) (by go_simp; rfl) HS ?_
              refine wpAnyH_done (by kernel_rfl) ?_ _
              have HPS := Lib.hid HS
              clear HS
              go_wp2_with fail
              refine (writeRune_any w.heap.size w.heap.size T m hm _ HPS.out.bld (by omega) HPS.out.low.size).mono ?_
              rintro e W2 ⟨⟨y, rfl⟩, hbl, hb⟩
              have HPS3 : Hid (PS w (T ++ [m]) W2) := ⟨hbl, HPS.out.low.trans hb⟩
              clear hbl hb HPS
              go_wp2_with fail
              refine (writeString_any w.heap.size w.heap.size (T ++ [m]) s _ HPS3.out.bld (by rw [List.length_append]; simp; omega) HPS3.out.low.size).mono ?_
              rintro e W3 ⟨⟨y2, rfl⟩, hbl, hb⟩
              have hfin : Hid (PS w (joinB m (texts rdWord (l.take (k + 1)))) W3) := by
                show PS w _ W3
                rw [HJ1.out s HP.out hkpos]
                exact ⟨hbl, HPS3.out.low.trans hb⟩
              have hle2 : Hid ((joinB m (texts rdWord (l.take (k + 1)))).length ≤ (k + 1) * 400) := by
                show _ ≤ _
                rw [HJ1.out s HP.out hkpos, List.length_append, List.length_append]
                simp
                omega
              have hnx := Lib.hid (hNx2.out s HP.out (fun h0 => hle))
              clear hbl hb HPS3 hNx2 hFa2 hle
              go_wp2
              go_roundw
              case rel => exact ⟨k + 1, rfl, by omega, hnx.out, hle2.out, hfin.out⟩
              case measure => simp [intOf]; omega
      · obtain rfl : k = N := by omega
        have hpr := HPr.out
        have hps := HPS.out
        rw [List.take_of_length_le (by rw [HN.out]; exact Nat.le_refl _)] at hps
        have hX : R = some (joinB m (texts rdWord l)) := by
          rw [← HR.out]
          exact print_done rdWord keyWord (by rw [← HN.out]; exact h8) (by rw [← HN.out]; exact hpr)
        obtain ⟨T, hT⟩ : ∃ T, joinB m (texts rdWord l) = T := ⟨_, rfl⟩
        rw [hT] at hX hps
        have HPS1 := Lib.hid hps
        clear hps hpr HPS HPr HLen hT HR
        subst hX
        go_wp2_with fail
        refine (builds_string w.heap.size w.heap.size T _ HPS1.out.bld HPS1.out.low.size).mono ?_
        rintro e W2 ⟨rfl, hb⟩
        have HL := Lib.hid (HPS1.out.low.trans hb)
        clear hb
        go_wp2
        go_ret2
        exact ⟨HL.out, rfl⟩
  · have HX : Hid (R = none) := by show _ = _; rw [← HR.out]; exact print_long _ _ (by rw [← HN.out]; exact h8)
    rw [HX.out]
    go_enter Try.func55, Try.ntmps55
    go_wp2
    go_ret2
    exact ⟨Below.refl _ _, rfl⟩
end Go.Proofs.Ytneogmcmkbhnaaa.T
