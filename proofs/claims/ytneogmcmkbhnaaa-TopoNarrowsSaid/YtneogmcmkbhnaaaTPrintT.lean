/- topo.printList at terms. Laid by mkprint.py. -/
import Derived.Test.YtneogmcmkbhnaaaTPrintX
import Derived.Test.YtneogmcmkbhnaaaHeldEnd
namespace Go.Proofs.Ytneogmcmkbhnaaa.T
open Go.RowKit
open Go.Lib hiding intOf

noncomputable def prT (y : TB) : Option (List UInt8) := prTerm y.1
def kyT (y : TB) : List UInt8 := keyT y.1
theorem prT_size (x : TB) (s : List UInt8) (h : prT x = some s) : s.length ≤ 399 := by
  unfold prT prTerm at h
  split at h
  · split at h
    · cases h
    · obtain ⟨u, hu, rfl⟩ := Option.map_eq_some_iff.1 h
      have h1 := wordB_len ‹wordB x.1.1 = true›
      have h2 := printAll_len hu
      simp
      omega
  · cases h

set_option maxRecDepth 100000 in
set_option maxHeartbeats 4000000 in
theorem printT_any (v : Value) (l : List TB) (m : UInt8) (hm : m.toNat < 128) (w : World) (hT : TermsIn w v l) :
    Calls Try.prog 54 #[v, .int .i32 (m.toNat : Int), .int .i64 8, .func (.func 31) #[] #[], .func (.func 32) #[] #[]] w (PrintPost w (printAll prT kyT m l)) := by
  have HT := Lib.hid hT
  have hn := hT.len
  obtain ⟨o, c, rfl⟩ := hT.shape
  clear hT
  obtain ⟨R, hR⟩ : ∃ R, printAll prT kyT m l = R := ⟨_, rfl⟩
  rw [hR]
  have HR := Lib.hid hR
  clear hR
  obtain ⟨N, hN⟩ : ∃ N, N = l.length := ⟨_, rfl⟩
  rw [← hN] at HT hn ⊢
  have HN := Lib.hid hN
  clear hN
  by_cases h8 : N ≤ 8
  · have HP0 := Lib.hid (PS.start w)
    go_enter Try.func54, Try.ntmps54
    go_wp2
    go_loopw [23] (fun i wr => ∃ k : Nat, i = .int .i64 (k : Int) ∧ k ≤ N ∧ Printed prT kyT l k ∧ (joinB m (texts prT (l.take k))).length ≤ k * 400 ∧ PS w (joinB m (texts prT (l.take k))) wr) (fun i _ => (N - intOf i).toNat)
    case atStart => exact ⟨0, rfl, Nat.zero_le _, Printed.zero _ _ _, Nat.zero_le _, HP0.out⟩
    case round =>
      clear HP0
      obtain ⟨k, rfl, hk, hpr, hlen, hps⟩ := hrel
      have HPr := Lib.hid hpr
      have HLen := Lib.hid hlen
      have HPS := Lib.hid hps
      clear hpr hlen hps
      by_cases hkl : k < N
      · have hkl' : k < l.length := by rw [← HN.out]; exact hkl
        obtain ⟨g, off, rfl, -, -, -, -⟩ := HT.out.at k hkl'
        have HC : Hid (∀ V, Below w.heap.size w V → ∀ j (hj : j < l.length), V.cell? ⟨g, off + j * 2, none⟩ = some (encS l[j].1.1) ∧ V.cell? ⟨g, off + j * 2 + 1, none⟩ = some l[j].2 ∧ StrsIn V l[j].2 l[j].1.2) := fun V hV j hj => by
          obtain ⟨g', off', h1, -, h2, h3, h4⟩ := (HT.out.after hV).at j hj
          cases h1
          exact ⟨h2, h3, h4⟩
        have HNo : Hid (prT l[k] = none → R = none) := fun h => by rw [← HR.out]; exact print_no _ _ hkl' h
        have HFa : Hid (∀ h0 : 0 < k, leB (kyT l[k]) (kyT (l[k - 1]'(by omega))) = true → R = none) := fun h0 h => by
          rw [← HR.out]
          obtain ⟨j, rfl⟩ : ∃ j, k = j + 1 := ⟨k - 1, by omega⟩
          exact print_fall _ _ hkl' h
        have HNx : Hid (∀ s, prT l[k] = some s → (∀ h0 : 0 < k, leB (kyT l[k]) (kyT (l[k - 1]'(by omega))) = false) → Printed prT kyT l (k + 1)) := fun s hs h2 => HPr.out.next _ _ hkl' (by rw [hs]; rfl) h2
        have HJ0 : Hid (∀ s, prT l[k] = some s → k = 0 → joinB m (texts prT (l.take (k + 1))) = joinB m (texts prT (l.take k)) ++ s) := fun s hs h0 => by subst h0; exact join_first prT hkl' hs
        have HJ1 : Hid (∀ s, prT l[k] = some s → 0 < k → joinB m (texts prT (l.take (k + 1))) = joinB m (texts prT (l.take k)) ++ [m] ++ s) := fun s hs h0 => join_next prT hkl' h0 hs
        have HSz := Lib.hid (prT_size l[k])
        generalize joinB m (texts prT (l.take k)) = T at HJ0 HJ1 HLen HPS
        have HCk := Lib.hid fun V hV => HC.out V hV k hkl'
        have HCp : Hid (∀ (V : World), Below w.heap.size w V → ∀ h0 : 0 < k, V.cell? ⟨g, off + (k - 1) * 2, none⟩ = some (encS (l[k - 1]'(by omega)).1.1) ∧ V.cell? ⟨g, off + (k - 1) * 2 + 1, none⟩ = some (l[k - 1]'(by omega)).2 ∧ StrsIn V (l[k - 1]'(by omega)).2 (l[k - 1]'(by omega)).1.2) := fun V hV h0 => HC.out V hV (k - 1) (by omega)
        have HY : Hid (∀ h0 : 0 < k, k - 1 < l.length) := fun h0 => by omega
        clear HC HPr
        obtain ⟨x, hx⟩ : ∃ x, l[k] = x := ⟨_, rfl⟩
        rw [hx] at HNo HNx HJ0 HJ1 HSz HCk
        have hFa2 : Hid (∀ h0 : 0 < k, leB (kyT x) (kyT (l[k - 1]'(HY.out h0))) = true → R = none) := fun h0 h => HFa.out h0 (by rw [hx]; exact h)
        have hNx2 : Hid (∀ s, prT x = some s → (∀ h0 : 0 < k, leB (kyT x) (kyT (l[k - 1]'(HY.out h0))) = false) → Printed prT kyT l (k + 1)) := fun s hs h2 => HNx.out s hs fun h0 => h2 h0
        clear HFa HNx hx
        obtain ⟨p, hp⟩ : ∃ p, prT x = p := ⟨_, rfl⟩
        have HP := Lib.hid hp
        clear hp
        have c1 := (HCk.out _ HPS.out.low).1
        have c2 := (HCk.out _ HPS.out.low).2.1
        have hone : (cellsT x.1.1 x.2).all (·.oneCell') = true := by
          obtain ⟨o, n, c, e⟩ := (HCk.out _ HPS.out.low).2.2.shape
          rw [e]
          exact one_cellsT _
        have hn0 : BoxT (wr.alloc (.cells (cellsT [] noV) 60 (0, 0))) wr.heap.size [] noV := heap_alloc_new wr _
        go_upto_region 7 with (first | (refine wpList_known (v := .agg (cellsT x.1.1 x.2)) rfl (exec_load_term_at c1 c2 rfl rfl) ?_) | ((with_reducible refine wpList_store_rowTo rfl 60 _ _ rfl rfl wr.heap.size (cellsT x.1.1 x.2) ?_ ?_ 60 (cellsT [] noV) ?_ ?_ ?_ ?_ ?_); rfl; rfl; exact hn0; exact sizeTerm; exact rfl; exact hone))
        have hbb : Below wr.heap.size wr ((wr.alloc (.cells (cellsT [] noV) 60 (0, 0))).setRow wr.heap.size (cellsT x.1.1 x.2)) := below_setRow ((Below.refl _ _).alloc (Nat.le_refl _) _) (Nat.le_refl _) _
        refine wp_gen (fun V => BoxT V wr.heap.size x.1.1 x.2 ∧ PS w T V) ⟨hn0.setRow _ _, HPS.out.after hbb⟩ ?_
        clear hn0 hbb c1 c2 HPS hone
        rintro V0 ⟨hX, hps⟩
        have HPS := Lib.hid hps
        have HX := Lib.hid hX
        clear hps
        have hpl := printTerm_any x.1.1 x.2 x.1.2 V0 (HCk.out V0 HPS.out.low).2.2
        rw [show prTerm (x.1.1, x.1.2) = prT x from rfl] at hpl
        have HPL := Lib.hid hpl
        clear hpl
        go_wp2_with (first | (refine wpList_known (v := .agg (cellsT x.1.1 x.2)) rfl (exec_load_term hX rfl rfl) ?_) | fail)
        refine HPL.out.mono ?_
        rintro e W1 ⟨hb, he⟩
        clear HPL hX
        replace HX := Lib.hid (HX.out.after hb)
        obtain ⟨prV, hprN, hprS, rfl⟩ : ∃ prV, (prT x = none → ∃ t, prV = .tuple #[encS t, .bool false]) ∧ (∀ s, prT x = some s → prV = .tuple #[encS s, .bool true]) ∧ e = .returned prV := by
          cases hp : prT x with
          | none => rw [hp] at he; exact ⟨_, fun _ => ⟨_, rfl⟩, fun s h => (by cases h), he⟩
          | some s => rw [hp] at he; exact ⟨_, fun h => (by cases h), fun s h => (by cases h; rfl), he⟩
        have HPS1 := Lib.hid (HPS.out.after hb)
        clear hb HPS
        cases p with
        | none =>
          obtain rfl : R = none := HNo.out HP.out
          obtain ⟨t, hV⟩ : ∃ t, prV = .tuple #[encS t, .bool false] := hprN HP.out
          rw [hV]
          clear hV hprN hprS
          go_upto_region 8 with (fail)
          refine wp_region_held_drew (S := fun V => PS w T V) (by kernel_rfl) HPS1.out.drew (fun _ => ?_)
          refine HeldBy.gen (fun V => PS w T V) HPS1.out.drew ?_
          clear HPS1
          rintro U HS
          refine HeldBy.take (i := 0) rfl (by kernel_rfl) (by kernel_rfl) (by kernel_rfl) (fun _ _ _ h => h) (by rfl) (fun _ _ => by first | (go_simp; rfl) | (go_simp; done)) (by go_simp; rfl) HS ?_
          refine HeldBy.take (i := 1) rfl (by kernel_rfl) (by kernel_rfl) (by kernel_rfl) (fun _ _ _ h => h) (by rfl) (fun _ _ => by first | (go_simp; rfl) | (go_simp; done)) (by go_simp; rfl) HS ?_
          refine HeldBy.take (i := 2) rfl (by kernel_rfl) (by kernel_rfl) (by kernel_rfl) (fun _ _ _ h => h) (by rfl) (fun _ _ => by first | (go_simp; rfl) | (go_simp; done)) (by go_simp; rfl) HS ?_
          refine HeldBy.skip (i := 3) rfl (by kernel_rfl) (by kernel_rfl) (by kernel_rfl) (fun _ _ _ h => h) (by rfl) (by go_simp; rfl) HS ?_
          refine HeldBy.skip (i := 4) rfl (by kernel_rfl) (by kernel_rfl) (by kernel_rfl) (fun _ _ _ h => h) (by rfl) (by go_simp; rfl) HS ?_
          refine HeldBy.skip (i := 5) rfl (by kernel_rfl) (by kernel_rfl) (by kernel_rfl) (fun _ _ _ h => h) (by rfl) (by go_simp; rfl) HS ?_
          refine HeldBy.skip (i := 6) rfl (by kernel_rfl) (by kernel_rfl) (by kernel_rfl) (fun _ _ _ h => h) (by rfl) (by go_simp; rfl) HS ?_
          refine HeldBy.skip (i := 7) rfl (by kernel_rfl) (by kernel_rfl) (by kernel_rfl) (fun _ _ _ h => h) (by rfl) (by go_simp; rfl) HS ?_
          refine HeldBy.skip (i := 8) rfl (by kernel_rfl) (by kernel_rfl) (by kernel_rfl) (fun _ _ _ h => h) (by rfl) (by go_simp; rfl) HS ?_
          refine HeldBy.skip (i := 9) rfl (by kernel_rfl) (by kernel_rfl) (by kernel_rfl) (fun _ _ _ h => h) (by rfl) (by go_simp; rfl) HS ?_
          refine HeldBy.skip (i := 10) rfl (by kernel_rfl) (by kernel_rfl) (by kernel_rfl) (fun _ _ _ h => h) (by rfl) (by go_simp; rfl) HS ?_
          refine HeldBy.skip (i := 11) rfl (by kernel_rfl) (by kernel_rfl) (by kernel_rfl) (fun _ _ _ h => h) (by rfl) (by go_simp; rfl) HS ?_
          refine HeldBy.skip (i := 12) rfl (by kernel_rfl) (by kernel_rfl) (by kernel_rfl) (fun _ _ _ h => h) (by rfl) (by go_simp; rfl) HS ?_
          refine HeldBy.skip (i := 13) rfl (by kernel_rfl) (by kernel_rfl) (by kernel_rfl) (fun _ _ _ h => h) (by rfl) (by go_simp; rfl) HS ?_
          refine HeldBy.skip (i := 14) rfl (by kernel_rfl) (by kernel_rfl) (by kernel_rfl) (fun _ _ _ h => h) (by rfl) (by go_simp; rfl) HS ?_
          refine HeldBy.skip (i := 15) rfl (by kernel_rfl) (by kernel_rfl) (by kernel_rfl) (fun _ _ _ h => h) (by rfl) (by go_simp; rfl) HS ?_
          refine HeldBy.skip (i := 16) rfl (by kernel_rfl) (by kernel_rfl) (by kernel_rfl) (fun _ _ _ h => h) (by rfl) (by go_simp; rfl) HS ?_
          refine HeldBy.skip (i := 17) rfl (by kernel_rfl) (by kernel_rfl) (by kernel_rfl) (fun _ _ _ h => h) (by rfl) (by go_simp; rfl) HS ?_
          refine HeldBy.take (i := 18) rfl (by kernel_rfl) (by kernel_rfl) (by kernel_rfl) (fun _ _ _ h => h) (by rfl) (fun _ _ => by first | (go_simp; rfl) | (go_simp; done)) (by go_simp; rfl) HS ?_
          refine wpAnyH_done (by kernel_rfl) ?_ _
          have HL := Lib.hid HS.low
          clear HS
          go_wp2
          go_ret2
          exact ⟨HL.out, rfl⟩
        | some s =>
          have hV : prV = .tuple #[encS s, .bool true] := hprS s HP.out
          rw [hV]
          clear hV hprN hprS
          have hsz := HSz.out s HP.out
          have hlT := HLen.out
          go_upto_region 8 with (fail)
          refine wp_region_held_drew (S := fun V => PS w T V ∧ BoxT V wr.heap.size x.1.1 x.2) (by kernel_rfl) ⟨HPS1.out.drew, HX.out⟩ (fun _ => ?_)
          refine HeldBy.gen (fun V => PS w T V ∧ BoxT V wr.heap.size x.1.1 x.2) ⟨HPS1.out.drew, HX.out⟩ ?_
          clear HPS1
          rintro U HS
          refine HeldBy.take (i := 0) rfl (by kernel_rfl) (by kernel_rfl) (by kernel_rfl) (fun _ _ _ h => h) (by rfl) (fun _ _ => by first | (go_simp; rfl) | (go_simp; done)) (by go_simp; rfl) HS ?_
          refine HeldBy.take (i := 1) rfl (by kernel_rfl) (by kernel_rfl) (by kernel_rfl) (fun _ _ _ h => h) (by rfl) (fun _ _ => by first | (go_simp; rfl) | (go_simp; done)) (by go_simp; rfl) HS ?_
          refine HeldBy.take (i := 2) rfl (by kernel_rfl) (by kernel_rfl) (by kernel_rfl) (fun _ _ _ h => h) (by rfl) (fun _ _ => by first | (go_simp; rfl) | (go_simp; done)) (by go_simp; rfl) HS ?_
          by_cases hk0 : k = 0
          · subst hk0
            refine HeldBy.take (i := 3) rfl (by kernel_rfl) (by kernel_rfl) (by kernel_rfl) (fun _ _ _ h => h) (by rfl) (fun _ _ => by first | (go_simp; rfl) | (go_simp; done)) (by go_simp; rfl) HS ?_
            refine HeldBy.take (i := 4) (v := .bool false) rfl (by kernel_rfl) (by kernel_rfl) (by kernel_rfl) (fun _ _ _ h => h) (by rfl) (fun _ _ => by go_simp) (by go_simp; rfl) HS ?_
            refine HeldBy.take (i := 5) rfl (by kernel_rfl) (by kernel_rfl) (by kernel_rfl) (fun _ _ _ h => h) (by rfl) (fun _ _ => by first | (go_simp; rfl) | (go_simp; done)) (by go_simp; rfl) HS ?_
            refine HeldBy.skip (i := 6) rfl (by kernel_rfl) (by kernel_rfl) (by kernel_rfl) (fun _ _ _ h => h) (by rfl) (by go_simp; rfl) HS ?_
            refine HeldBy.skip (i := 7) rfl (by kernel_rfl) (by kernel_rfl) (by kernel_rfl) (fun _ _ _ h => h) (by rfl) (by go_simp; rfl) HS ?_
            refine HeldBy.skip (i := 8) rfl (by kernel_rfl) (by kernel_rfl) (by kernel_rfl) (fun _ _ _ h => h) (by rfl) (by go_simp; rfl) HS ?_
            refine HeldBy.skip (i := 9) rfl (by kernel_rfl) (by kernel_rfl) (by kernel_rfl) (fun _ _ _ h => h) (by rfl) (by go_simp; rfl) HS ?_
            refine HeldBy.skip (i := 10) rfl (by kernel_rfl) (by kernel_rfl) (by kernel_rfl) (fun _ _ _ h => h) (by rfl) (by go_simp; rfl) HS ?_
            refine HeldBy.skip (i := 11) rfl (by kernel_rfl) (by kernel_rfl) (by kernel_rfl) (fun _ _ _ h => h) (by rfl) (by go_simp; rfl) HS ?_
            refine HeldBy.skip (i := 12) rfl (by kernel_rfl) (by kernel_rfl) (by kernel_rfl) (fun _ _ _ h => h) (by rfl) (by go_simp; rfl) HS ?_
            refine HeldBy.skip (i := 13) rfl (by kernel_rfl) (by kernel_rfl) (by kernel_rfl) (fun _ _ _ h => h) (by rfl) (by go_simp; rfl) HS ?_
            refine HeldBy.skip (i := 14) rfl (by kernel_rfl) (by kernel_rfl) (by kernel_rfl) (fun _ _ _ h => h) (by rfl) (by go_simp; rfl) HS ?_
            refine HeldBy.skip (i := 15) rfl (by kernel_rfl) (by kernel_rfl) (by kernel_rfl) (fun _ _ _ h => h) (by rfl) (by go_simp; rfl) HS ?_
            refine HeldBy.skip (i := 16) rfl (by kernel_rfl) (by kernel_rfl) (by kernel_rfl) (fun _ _ _ h => h) (by rfl) (by go_simp; rfl) HS ?_
            refine HeldBy.take (i := 17) rfl (by kernel_rfl) (by kernel_rfl) (by kernel_rfl) (fun _ _ _ h => h) (by rfl) (fun _ _ => by first | (go_simp; rfl) | (go_simp; done)) (by go_simp; rfl) HS ?_
            refine HeldBy.take (i := 18) rfl (by kernel_rfl) (by kernel_rfl) (by kernel_rfl) (fun _ _ _ h => h) (by rfl) (fun _ _ => by first | (go_simp; rfl) | (go_simp; done)) (by go_simp; rfl) HS ?_
            refine wpAnyH_done (by kernel_rfl) ?_ _
            have HPS := Lib.hid HS.1
            clear HS
            go_wp2_with fail
            refine (writeString_any w.heap.size w.heap.size T s _ HPS.out.bld (by omega) HPS.out.low.size).mono ?_
            rintro e W2 ⟨⟨y, rfl⟩, hbl, hb⟩
            have hfin : Hid (PS w (joinB m (texts prT (l.take (0 + 1)))) W2) := by
              show PS w _ W2
              rw [HJ0.out s HP.out (by first | rfl | trivial)]
              exact ⟨hbl, HPS.out.low.trans hb⟩
            have hle : Hid ((joinB m (texts prT (l.take (0 + 1)))).length ≤ (0 + 1) * 400) := by
              show _ ≤ _
              rw [HJ0.out s HP.out (by first | rfl | trivial), List.length_append]
              omega
            have hnx := Lib.hid (hNx2.out s HP.out (fun h0 => by omega))
            clear hbl hb HPS hNx2 hFa2
            go_wp2
            go_roundw
            case rel => exact ⟨0 + 1, rfl, by omega, hnx.out, hle.out, hfin.out⟩
            case measure => simp [intOf]; omega
          · have hkpos : 0 < k := by omega
            have hkm : k - 1 < l.length := HY.out hkpos
            refine HeldBy.take (i := 3) rfl (by kernel_rfl) (by kernel_rfl) (by kernel_rfl) (fun _ _ _ h => h) (by rfl) (fun _ _ => by first | (go_simp; rfl) | (go_simp; done)) (by go_simp; rfl) HS ?_
            refine HeldBy.take (i := 4) (v := .bool true) rfl (by kernel_rfl) (by kernel_rfl) (by kernel_rfl) (fun _ _ _ h => h) (by rfl) (fun _ _ => by first | (go_simp; done) | (go_simp; omega)) (by go_simp; rfl) HS ?_
            refine HeldBy.take (i := 5) rfl (by kernel_rfl) (by kernel_rfl) (by kernel_rfl) (fun _ _ _ h => h) (by rfl) (fun _ _ => by first | (go_simp; rfl) | (go_simp; done)) (by go_simp; rfl) HS ?_
            refine HeldBy.take (i := 6) rfl (by kernel_rfl) (by kernel_rfl) (by kernel_rfl) (fun _ _ _ h => h) (by rfl) (fun _ _ => by first | (go_simp; rfl) | (go_simp; done)) (by go_simp; rfl) HS ?_
            refine HeldBy.take (i := 7) rfl (by kernel_rfl) (by kernel_rfl) (by kernel_rfl) (fun _ _ _ h => h) (by rfl) (fun V h => exec_load_term h.2 rfl rfl) (by go_simp; rfl) HS ?_
            refine HeldBy.take (i := 9) rfl (by kernel_rfl) (by kernel_rfl) (by kernel_rfl) (fun _ _ _ h => h) (by rfl) (fun _ _ => by first | (go_simp; rfl) | (go_simp; done)) (by go_simp; rfl) HS ?_
            refine HeldBy.take (i := 10) rfl (by kernel_rfl) (by kernel_rfl) (by kernel_rfl) (fun _ _ _ h => h) (by rfl) (fun _ _ => by first | (go_simp; rfl) | (go_simp; done)) (by go_simp; rfl) HS ?_
            refine HeldBy.take (i := 11) rfl (by kernel_rfl) (by kernel_rfl) (by kernel_rfl) (fun _ _ _ h => h) (by rfl) (fun _ _ => by first | (go_simp; rfl) | (go_simp; done)) (by go_simp; rfl) HS ?_
            refine HeldBy.take (i := 12) (v := .int .i64 ((k - 1 : Nat) : Int)) rfl (by kernel_rfl) (by kernel_rfl) (by kernel_rfl) (fun _ _ _ h => h) (by rfl) (fun _ _ => by go_simp; rw [IntWalk.i64_in _ (by omega)]; omega) (by go_simp; rfl) HS ?_
            refine HeldBy.take (i := 13) (v := .pointer (some ⟨g, off + (k - 1) * 2, none⟩)) rfl (by kernel_rfl) (by kernel_rfl) (by kernel_rfl) (fun _ _ _ h => h) (by rfl) (fun _ _ => by first | (go_simp; done) | (go_simp; omega)) (by go_simp; rfl) HS ?_
            refine HeldBy.take (i := 14) rfl (by kernel_rfl) (by kernel_rfl) (by kernel_rfl) (fun _ _ _ h => h) (by rfl) (fun V h => exec_load_term_at (HCp.out V h.1.low hkpos).1 (HCp.out V h.1.low hkpos).2.1 rfl rfl) (by go_simp; rfl) HS ?_
            refine HeldBy.callE (i := 8) rfl (by kernel_rfl) (by rfl) (by go_simp; exact ⟨rfl, rfl⟩) (by intro v; go_simp; rfl) ?_
            refine (termKey_any x.1.1 x.2 _).mono ?_
            rintro e U1 ⟨rfl, hb⟩
            replace HS := (⟨HS.1.after hb, HS.2.after hb⟩ : PS w T _ ∧ BoxT _ wr.heap.size x.1.1 x.2)
            clear hb
            refine .inl ⟨_, rfl, HS, ?_⟩
            refine HeldBy.callE (i := 15) rfl (by kernel_rfl) (by rfl) (by go_simp; exact ⟨rfl, rfl⟩) (by intro v; go_simp; rfl) ?_
            refine (termKey_any (l[k - 1]'hkm).1.1 (l[k - 1]'hkm).2 _).mono ?_
            rintro e U2 ⟨rfl, hb⟩
            replace HS := (⟨HS.1.after hb, HS.2.after hb⟩ : PS w T _ ∧ BoxT _ wr.heap.size x.1.1 x.2)
            clear hb
            refine .inl ⟨_, rfl, HS, ?_⟩
            cases hle : leB (kyT x) (kyT (l[k - 1]'hkm)) with
            | true =>
              obtain rfl : R = none := hFa2.out hkpos hle
              refine HeldBy.take (i := 16) (v := .bool true) rfl (by kernel_rfl) (by kernel_rfl) (by kernel_rfl) (fun _ _ _ h => h) (by rfl) (fun _ _ => by go_simp; rw [leq_any, show leB x.1.1 (l[k - 1]'hkm).1.1 = _ from hle]; go_simp) (by go_simp; rfl) HS ?_
              refine HeldBy.take (i := 17) rfl (by kernel_rfl) (by kernel_rfl) (by kernel_rfl) (fun _ _ _ h => h) (by rfl) (fun _ _ => by first | (go_simp; rfl) | (go_simp; done)) (by go_simp; rfl) HS ?_
              refine HeldBy.take (i := 18) rfl (by kernel_rfl) (by kernel_rfl) (by kernel_rfl) (fun _ _ _ h => h) (by rfl) (fun _ _ => by first | (go_simp; rfl) | (go_simp; done)) (by go_simp; rfl) HS ?_
              refine wpAnyH_done (by kernel_rfl) ?_ _
              have HL := Lib.hid HS.1.low
              clear HS
              go_wp2
              go_ret2
              exact ⟨HL.out, rfl⟩
            | false =>
              refine HeldBy.take (i := 16) (v := .bool false) rfl (by kernel_rfl) (by kernel_rfl) (by kernel_rfl) (fun _ _ _ h => h) (by rfl) (fun _ _ => by go_simp; rw [leq_any, show leB x.1.1 (l[k - 1]'hkm).1.1 = _ from hle]; go_simp) (by go_simp; rfl) HS ?_
              refine HeldBy.take (i := 17) rfl (by kernel_rfl) (by kernel_rfl) (by kernel_rfl) (fun _ _ _ h => h) (by rfl) (fun _ _ => by first | (go_simp; rfl) | (go_simp; done)) (by go_simp; rfl) HS ?_
              refine HeldBy.take (i := 18) rfl (by kernel_rfl) (by kernel_rfl) (by kernel_rfl) (fun _ _ _ h => h) (by rfl) (fun _ _ => by first | (go_simp; rfl) | (go_simp; done)) (by go_simp; rfl) HS ?_
              refine wpAnyH_done (by kernel_rfl) ?_ _
              have HPS := Lib.hid HS.1
              clear HS
              go_wp2_with fail
              refine (writeRune_any w.heap.size w.heap.size T m hm _ HPS.out.bld (by omega) HPS.out.low.size).mono ?_
              rintro e W2 ⟨⟨y, rfl⟩, hbl, hb⟩
              have HPS3 : Hid (PS w (T ++ [m]) W2) := ⟨hbl, HPS.out.low.trans hb⟩
              clear hbl hb HPS
              go_wp2_with fail
              refine (writeString_any w.heap.size w.heap.size (T ++ [m]) s _ HPS3.out.bld (by rw [List.length_append]; simp; omega) HPS3.out.low.size).mono ?_
              rintro e W3 ⟨⟨y2, rfl⟩, hbl, hb⟩
              have hfin : Hid (PS w (joinB m (texts prT (l.take (k + 1)))) W3) := by
                show PS w _ W3
                rw [HJ1.out s HP.out hkpos]
                exact ⟨hbl, HPS3.out.low.trans hb⟩
              have hle2 : Hid ((joinB m (texts prT (l.take (k + 1)))).length ≤ (k + 1) * 400) := by
                show _ ≤ _
                rw [HJ1.out s HP.out hkpos, List.length_append, List.length_append]
                simp
                omega
              have hnx := Lib.hid (hNx2.out s HP.out (fun h0 => hle))
              clear hbl hb HPS3 hNx2 hFa2 hle
              go_wp2
              go_roundw
              case rel => exact ⟨k + 1, rfl, by omega, hnx.out, hle2.out, hfin.out⟩
              case measure => simp [intOf]; omega
      · obtain rfl : k = N := by omega
        have hpr := HPr.out
        have hps := HPS.out
        rw [List.take_of_length_le (by rw [HN.out]; exact Nat.le_refl _)] at hps
        have hX : R = some (joinB m (texts prT l)) := by
          rw [← HR.out]
          exact print_done prT kyT (by rw [← HN.out]; exact h8) (by rw [← HN.out]; exact hpr)
        obtain ⟨T, hT⟩ : ∃ T, joinB m (texts prT l) = T := ⟨_, rfl⟩
        rw [hT] at hX hps
        have HPS1 := Lib.hid hps
        clear hps hpr HPS HPr HLen hT HR
        subst hX
        go_wp2_with fail
        refine (builds_string w.heap.size w.heap.size T _ HPS1.out.bld HPS1.out.low.size).mono ?_
        rintro e W2 ⟨rfl, hb⟩
        have HL := Lib.hid (HPS1.out.low.trans hb)
        clear hb
        go_wp2
        go_ret2
        exact ⟨HL.out, rfl⟩
  · have HX : Hid (R = none) := by show _ = _; rw [← HR.out]; exact print_long _ _ (by rw [← HN.out]; exact h8)
    rw [HX.out]
    go_enter Try.func54, Try.ntmps54
    go_wp2
    go_ret2
    exact ⟨Below.refl _ _, rfl⟩
end Go.Proofs.Ytneogmcmkbhnaaa.T
