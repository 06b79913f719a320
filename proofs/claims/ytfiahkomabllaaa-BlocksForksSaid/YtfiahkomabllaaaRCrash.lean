/- The document's Crash. -/
import Derived.Test.YtfiahkomabllaaaRApp
namespace Go.Proofs.Ytfiahkomabllaaa.L
open Go Go.RowKit
open Go.Lib

theorem rcrash_no (B q : Nat) (s : Lg) (keep torn : Int) (w : World) (h : IsRLog B w q s) (hb : keep < 0 ∨ torn < 0 ∨ 64 < torn) :
    Calls Try.prog 43 #[.pointer (some ⟨q, 0, none⟩), .int .i64 keep, .int .i64 torn] w (DeedR B q w (crashS s keep torn)) := by
  have HA : Hid (crashS s keep torn = (3, s)) := if_pos hb
  have HL := Lib.hid h
  have hlt := h.lt
  have hlow := h.low
  clear h
  by_cases h1 : keep < 0
  · go_enter Try.func43, Try.ntmps43
    go_wp2
    go_ret
    rw [HA.out]
    exact ⟨rfl, HL.out, RTurn.of_below (Below.refl _ _) (by omega)⟩
  · by_cases h2 : torn < 0
    · go_enter Try.func43, Try.ntmps43
      go_wp2
      go_ret
      rw [HA.out]
      exact ⟨rfl, HL.out, RTurn.of_below (Below.refl _ _) (by omega)⟩
    · have h3 : 64 < torn := by omega
      clear hb
      go_enter Try.func43, Try.ntmps43
      go_wp2
      go_ret
      rw [HA.out]
      exact ⟨rfl, HL.out, RTurn.of_below (Below.refl _ _) (by omega)⟩
/-- What is stored at the end: the bytes, and that all of them last. -/
theorem IsRLog.store2 {B : Nat} {w W : World} {q most lb k : Nat} {u : Value} {a : Option Addr} {kk c : Nat} {b : Bytes} (hq : RLAt W q most u lb) (hv : Held W w.heap.size (.slice a kk c) b) (hb : Below w.heap.size w W) (hlt : q < w.heap.size) (hlow : B ≤ q) (hk : b.length = k * 64) (h1 : k ≤ most) (hm : most ≤ 4096) :
    IsRLog B ((W.setCell ⟨q, 0, none⟩ (.slice a kk c)).setCell ⟨q, 1, none⟩ (.int .i64 (kk : Int))) q ⟨most, k, b⟩ ∧ RTurn B w ((W.setCell ⟨q, 0, none⟩ (.slice a kk c)).setCell ⟨q, 1, none⟩ (.int .i64 (kk : Int))) q := by
  have hkk : kk = k * 64 := by
    rw [← hk]
    rcases hv.2 with ⟨e, h0⟩ | ⟨g, cap, cur, e, -⟩
    · cases e; exact h0.symm
    · cases e; rfl
  subst hkk
  have hq6 := hq.s0 (.slice a (k * 64) c)
  have hh6 := hv.rset hq 0 (.slice a (k * 64) c)
  have hh7 := hh6.rset hq6 1 (.int .i64 ((k * 64 : Nat) : Int))
  exact ⟨⟨⟨_, k, hq6.s1 (k * 64), hh7.rebase (fun g hg => by have := hh7.low hg; omega), hk, h1, Nat.le_refl _⟩, hm, hlow⟩, ((RTurn.of_below hb (by omega)).trans (RTurn.set hlow 0 _)).trans (RTurn.set hlow 1 _)⟩
theorem torn_eq (b : Bytes) (st tn : Nat) (h : tn ≤ 64) : (b.drop (st * 64)).take tn ++ zs (64 - tn) = tornB (blk b st) tn := by
  unfold tornB blk
  rw [List.take_take, Nat.min_eq_left h]
set_option maxRecDepth 100000 in
set_option maxHeartbeats 2000000 in
theorem rcrash_ok (B q : Nat) (s : Lg) (keep torn : Int) (w : World) (h : IsRLog B w q s) (hk0 : 0 ≤ keep) (ht0 : 0 ≤ torn) (ht64 : torn ≤ 64) :
    Calls Try.prog 43 #[.pointer (some ⟨q, 0, none⟩), .int .i64 keep, .int .i64 torn] w (DeedR B q w (crashS s keep torn)) := by
  have HA : Hid (crashS s keep torn = (0, ⟨s.most, (leftB s keep torn).length / 64, leftB s keep torn⟩)) := if_neg (by omega)
  obtain ⟨tn, rfl⟩ := Int.eq_ofNat_of_zero_le ht0
  obtain ⟨kn, rfl⟩ := Int.eq_ofNat_of_zero_le hk0
  obtain ⟨v, k, l1, l2, l3, l4, l5⟩ := h.at_
  have hmost := h.most
  have hlow := h.low
  have hlt := h.lt
  obtain ⟨a, kk, c, rfl⟩ := l2.bytes.shape
  have hkk : kk = k * 64 := by
    rw [← l3]
    rcases l2.2 with ⟨e, h0⟩ | ⟨g, cap, cur, e, -⟩
    · cases e; exact h0.symm
    · cases e; rfl
  obtain ⟨lo, hlo⟩ : ∃ z, k - s.last = z := ⟨_, rfl⟩
  obtain ⟨mv, hmv⟩ : ∃ z, min kn lo = z := ⟨_, rfl⟩
  obtain ⟨lb, hlb⟩ : ∃ z, s.last * 64 = z := ⟨_, rfl⟩
  rw [hlb] at l1
  have hst : stayN s (kn : Int) = s.last + mv := by
    unfold stayN
    rw [show s.b.length / 64 = k by omega, hlo, Int.toNat_natCast, hmv]
  obtain ⟨st, hs2⟩ : ∃ z, s.last + mv = z := ⟨_, rfl⟩
  rw [hs2] at hst
  have hek : lb + mv * 64 = st * 64 := by omega
  have hstk : st ≤ k := by omega
  have HLB : Hid (leftB s (kn : Int) (tn : Int) = s.b.take (st * 64) ++ if st < k ∧ 0 < tn then tornB (blk s.b st) tn else []) := by
    show leftB s (kn : Int) (tn : Int) = _
    unfold leftB
    rw [hst, show s.b.length / 64 = k by omega, Int.toNat_natCast]
    simp only [Int.natCast_pos]
  have HQ := Lib.hid l1
  have HV := Lib.hid l2.bytes
  have HQ0 := Lib.hid l1
  have HB : Hid (Below w.heap.size w w) := Below.refl _ _
  have HK : Hid (s.b.length = k * 64 ∧ k ≤ s.most ∧ st ≤ k) := ⟨l3, l4, hstk⟩
  obtain ⟨v1, hs1, hv1, -⟩ := l2.bytes.head (n := st * 64) (by omega) .i64
  obtain ⟨a1, k1, c1, rfl⟩ := hv1.shape
  have hs1' : ∀ w, (Instr.slice 30 (.slice a kk c) none (some (.int .i64 ((lb : Int) + (mv : Int) * 64))) none).run Try.prog w = .ok (.slice a1 k1 c1) w := fun w => by
    have := hs1 w
    rwa [show ((st * 64 : Nat) : Int) = (lb : Int) + (mv : Int) * 64 from by omega] at this
  have HV1 := Lib.hid hv1
  have HLE : Hid (([] : Bytes).length + (s.b.take (st * 64)).length ≤ 140737488355328) := by show _ ≤ _; rw [List.length_take]; simp; omega
  have hq1 : Int.tdiv ((kk : Int) - (lb : Int)) 64 = (lo : Int) := by rw [Int.tdiv_eq_ediv_of_nonneg (by omega)]; omega
  have hq2 : ((kk : Int) - (lb : Int)) / 64 = (lo : Int) := by omega
  have HE : Hid (kk = k * 64 ∧ min kn lo = mv ∧ lb + mv * 64 = st * 64) := ⟨hkk, hmv, hek⟩
  have hkb : kk ≤ 262144 := by omega
  have hlk : lb ≤ kk := by omega
  have hlo4 : lo ≤ 4096 := by omega
  have hmlo : mv ≤ lo := by omega
  clear h l1 l2 l3 l5 hs1 hv1 hst hkk hlo hmv hlb hs2 hek hstk
  go_enter Try.func43, Try.ntmps43
  go_wp2
  refine wp_region_held_drew (S := fun V => RLAt V q s.most (.slice a kk c) lb ∧ Below w.heap.size w V) (by kernel_rfl) ⟨HQ.out, HB.out.drew⟩ (fun _ => ?_)
  refine HeldBy.gen (fun V => RLAt V q s.most (.slice a kk c) lb ∧ Below w.heap.size w V) ⟨HQ.out, HB.out.drew⟩ ?_
  clear HQ HB
  rintro U0 HS
  refine HeldBy.take (i := 0) rfl (by kernel_rfl) (by kernel_rfl) (by kernel_rfl) (fun _ _ _ h => h) (by rfl) (fun _ _ => by first | (go_simp; rfl) | (go_simp; done)) (by go_simp; rfl) HS ?_
  refine HeldBy.take (i := 1) rfl (by kernel_rfl) (by kernel_rfl) (by kernel_rfl) (fun _ _ _ h => h) (by rfl) (fun _ _ => by first | (go_simp; rfl) | (go_simp; done)) (by go_simp; rfl) HS ?_
  refine HeldBy.take (i := 2) rfl (by kernel_rfl) (by kernel_rfl) (by kernel_rfl) (fun _ _ _ h => h) (by rfl) (fun _ _ => by first | (go_simp; rfl) | (go_simp; done)) (by go_simp; rfl) HS ?_
  refine HeldBy.take (i := 3) rfl (by kernel_rfl) (by kernel_rfl) (by kernel_rfl) (fun _ _ _ h => h) (by rfl) (fun V hV => by have hc := hV.1.c0; first | (go_simp; rfl) | (go_simp; done)) (by go_simp; rfl) HS ?_
  refine HeldBy.take (i := 4) rfl (by kernel_rfl) (by kernel_rfl) (by kernel_rfl) (fun _ _ _ h => h) (by rfl) (fun _ _ => by first | (go_simp; rfl) | (go_simp; done)) (by go_simp; rfl) HS ?_
  refine HeldBy.take (i := 5) rfl (by kernel_rfl) (by kernel_rfl) (by kernel_rfl) (fun _ _ _ h => h) (by rfl) (fun _ _ => by first | (go_simp; rfl) | (go_simp; done)) (by go_simp; rfl) HS ?_
  refine HeldBy.take (i := 6) rfl (by kernel_rfl) (by kernel_rfl) (by kernel_rfl) (fun _ _ _ h => h) (by rfl) (fun _ _ => by first | (go_simp; rfl) | (go_simp; done)) (by go_simp; rfl) HS ?_
  refine HeldBy.take (i := 7) rfl (by kernel_rfl) (by kernel_rfl) (by kernel_rfl) (fun _ _ _ h => h) (by rfl) (fun _ _ => by first | (go_simp; rfl) | (go_simp; done)) (by go_simp; rfl) HS ?_
  refine HeldBy.take (i := 8) rfl (by kernel_rfl) (by kernel_rfl) (by kernel_rfl) (fun _ _ _ h => h) (by rfl) (fun V hV => by have hc := hV.1.c1; first | (go_simp; rfl) | (go_simp; done)) (by go_simp; rfl) HS ?_
  refine HeldBy.take (i := 9) (v := .int .i64 ((kk : Int) - (lb : Int))) rfl (by kernel_rfl) (by kernel_rfl) (by kernel_rfl) (fun _ _ _ h => h) (by rfl) (fun _ _ => by go_simp; exact wrap_id (by omega) (by omega)) (by go_simp; rfl) HS ?_
  refine HeldBy.take (i := 10) (v := .int .i64 (lo : Int)) rfl (by kernel_rfl) (by kernel_rfl) (by kernel_rfl) (fun _ _ _ h => h) (by rfl) (fun _ _ => by go_simp; first | done | exact wrap_id (by omega) (by omega) | (rw [hq1]; exact wrap_id (by omega) (by omega)) | (rw [hq2]; exact wrap_id (by omega) (by omega))) (by go_simp; rfl) HS ?_
  refine HeldBy.take (i := 11) rfl (by kernel_rfl) (by kernel_rfl) (by kernel_rfl) (fun _ _ _ h => h) (by rfl) (fun _ _ => by first | (go_simp; rfl) | (go_simp; done)) (by go_simp; rfl) HS ?_
  refine wpAnyH_done (by kernel_rfl) ?_ _
  have HQ2 : Hid (RLAt U0 q s.most (.slice a kk c) lb) := HS.1
  have HB2 : Hid (Below w.heap.size w U0) := HS.2
  have HV2 := Lib.hid (HV1.out.after HS.2)
  have c0 := HS.1.c0
  have d1 := HS.1.c1
  clear HS hq1 hq2
  by_cases hkl : lo < kn
  · obtain rfl : mv = lo := by have := HE.out; omega
    have hkl' : (mv : Int) < (kn : Int) := by omega
    go_wp2_with (at_builtin; refine wpList_append_bytes rfl _ _ rfl w.heap.size _ [] rfl (Held.nil _ _) _ _ rfl HV2.out HLE.out HB2.out.size ?_)
    intro v2 W2 hh2 hg2
    have hbU : Below U0.heap.size U0 W2 := hg2.below (Held.nil U0 U0.heap.size) (Nat.le_refl _)
    obtain ⟨a2, k2, c2, rfl⟩ := hh2.bytes.shape
    have HH2 : Hid (Held W2 w.heap.size (.slice a2 k2 c2) (s.b.take (st * 64))) := hh2
    have HB3 : Hid (Below w.heap.size w W2) := HB2.out.trans (hbU.mono HB2.out.size)
    have HQ3 := Lib.hid (HQ0.out.after HB3.out)
    have HV3 := Lib.hid (HV.out.after HB3.out)
    have HQ4 := Lib.hid (HQ3.out.s0 (.slice a2 k2 c2))
    clear hh2 hg2 hbU HV2 HB2 HQ2 c0 d1
    have c0 := HQ3.out.c0
    have f0 := HQ3.out.free 0
    have f1 := HQ4.out.free 1
    have e1 := HQ4.out.c1
    by_cases hend : st < k
    · have hend' : (lb : Int) + (mv : Int) * 64 < (kk : Int) := by have := HE.out; omega
      by_cases ht1 : 0 < tn
      · have ht1' : (0 : Int) < (tn : Int) := by omega
        have HP : Hid ((s.b.take (st * 64) ++ (s.b.drop (st * 64)).take tn).length = st * 64 + tn) := by
          have h1 := HK.out.1
          show _ = _
          rw [List.length_append, List.length_take, List.length_take, List.length_drop]
          omega
        obtain ⟨p4, c4, hs4, hv4⟩ := HV3.out.mid (n := st * 64) (m := st * 64 + tn) (by omega) (by have := HK.out; omega) .i64 .i64
        rw [Nat.add_sub_cancel_left] at hv4
        have hs4' : ∀ w, (Instr.slice 30 (.slice a kk c) (some (.int .i64 ((lb : Int) + (mv : Int) * 64))) (some (.int .i64 ((lb : Int) + (mv : Int) * 64 + (tn : Int)))) none).run Try.prog w = .ok (.slice p4 tn c4) w := fun w => by
          have h1 := hs4 w
          have h2 := HE.out.2.2
          rw [Nat.add_sub_cancel_left] at h1
          rwa [show ((st * 64 : Nat) : Int) = (lb : Int) + (mv : Int) * 64 from by omega, show ((st * 64 + tn : Nat) : Int) = (lb : Int) + (mv : Int) * 64 + (tn : Int) from by omega] at h1
        have HV4 := Lib.hid hv4
        have HLE4 : Hid ((s.b.take (st * 64)).length + ((s.b.drop (st * 64)).take tn).length ≤ 140737488355328) := by
          have h1 := HP.out
          rw [List.length_append] at h1
          show _ ≤ _
          have h2 := HK.out
          omega
        clear hs4 hv4
        go_wp2_with (at_builtin; refine wpList_append_bytes rfl _ _ rfl w.heap.size _ _ rfl HH2.out _ _ rfl HV4.out HLE4.out HB3.out.size ?_)
        intro v5 W5 hh5 hg5
        obtain ⟨P, hP⟩ : ∃ P, s.b.take (st * 64) ++ (s.b.drop (st * 64)).take tn = P := ⟨_, rfl⟩
        have hh5' : Held W5 w.heap.size v5 P := by rw [← hP]; exact hh5
        rw [hP] at HP
        have HPP := Lib.hid hP
        have HI : Hid (∃ j, Held W5 w.heap.size v5 (P ++ zs j) ∧ st * 64 + tn + j ≤ st * 64 + 64 ∧ Below w.heap.size w W5) := ⟨0, by simpa [zs] using hh5', by omega, HB3.out.trans (hg5.below HH2.out HB3.out.size)⟩
        clear hh5 hh5' hg5 hP HH2 HB3 HV4 HLE4 HV3 HQ3 HQ4 c0 f0 f1 e1
        go_wp2
        go_loopw [9] (fun v wr => ∃ j, Held wr w.heap.size v (P ++ zs j) ∧ st * 64 + tn + j ≤ st * 64 + 64 ∧ Below w.heap.size w wr) (fun v _ => st * 64 + 64 - (match v with | .slice _ k _ => k | _ => 0))
        case atStart => exact HI.out
        case round =>
          clear HI
          obtain ⟨j, hh, hj, hb⟩ := hrel
          obtain ⟨a3, k3, c3, rfl⟩ := hh.bytes.shape
          have hk3 : k3 = st * 64 + tn + j := by
            have h1 : (P ++ zs j).length = st * 64 + tn + j := by rw [List.length_append, HP.out, zs_length]
            rcases hh.2 with ⟨h, h0⟩ | ⟨g, cap, cur, h, -⟩
            · cases h; omega
            · cases h; exact h1
          have HH := Lib.hid hh
          have HBB := Lib.hid hb
          have HKK := Lib.hid hk3
          clear hh hb hk3
          by_cases hp : k3 % 64 = 0
          · have hp' : (k3 : Int) % 64 = 0 := by omega
            have hp2 : Int.tmod (k3 : Int) 64 = 0 := by rw [Int.tmod_eq_emod_of_nonneg (by omega)]; exact hp'
            have HQ5 := Lib.hid (HQ0.out.after HBB.out)
            have HQ6 := Lib.hid (HQ5.out.s0 (.slice a3 k3 c3))
            have f0 := HQ5.out.free 0
            have c0 := HQ5.out.c0
            have f1 := HQ6.out.free 1
            have e1 := HQ6.out.c1
            go_wp2
            go_ret
            have h2 := HKK.out
            have h3 := HK.out
            have hj2 : j = 64 - tn := by omega
            have hfin := IsRLog.store2 (B := B) (k := st + 1) HQ5.out HH.out HBB.out hlt hlow (by rw [List.length_append, HP.out, zs_length]; omega) (by omega) hmost
            have hleft : leftB s (kn : Int) (tn : Int) = P ++ zs j := by
              rw [HLB.out, if_pos ⟨hend, ht1⟩, ← HPP.out, hj2, List.append_assoc, torn_eq _ _ _ (by omega)]
            have hlen : (P ++ zs j).length / 64 = st + 1 := by rw [List.length_append, HP.out, zs_length]; omega
            rw [HA.out, hleft, hlen]
            exact ⟨rfl, hfin⟩
          · have hp' : ¬ (k3 : Int) % 64 = 0 := by omega
            have hp2 : ¬ Int.tmod (k3 : Int) 64 = 0 := by rw [Int.tmod_eq_emod_of_nonneg (by omega)]; exact hp'
            go_wp2_with (refine wpList_lit rfl 1 _ rfl #[.int .u8 0] (zs 1) ?_ rfl rfl (by omega) ?_; (focus exact lit1 _ _))
            intro W7 v7 hh7 hb7
            have HX7 := Lib.hid hh7.bytes
            have HH7 := Lib.hid (HH.out.after hb7)
            have HB7 : Hid (Below w.heap.size w W7) := HBB.out.trans (hb7.mono HBB.out.size)
            have HLE7 : Hid ((P ++ zs j).length + (zs 1).length ≤ 140737488355328) := by
              show _ ≤ _
              rw [List.length_append, HP.out, zs_length, zs_length]
              have := HK.out
              omega
            clear hh7 hb7
            go_wp2_with (at_builtin; refine wpList_append_bytes rfl _ _ rfl w.heap.size _ _ rfl HH7.out _ _ rfl HX7.out HLE7.out HB7.out.size ?_)
            intro v8 W8 hh8 hg8
            have hh9 : Held W8 w.heap.size v8 (P ++ zs (j + 1)) := by
              have e : P ++ (zs j ++ zs 1) = P ++ zs (j + 1) := by unfold zs; rw [List.replicate_append_replicate]
              rw [← e]
              simpa only [List.append_assoc] using hh8
            obtain ⟨a8, k8, c8, rfl⟩ := hh9.bytes.shape
            have HK8 : Hid (k8 = k3 + 1) := by
              have h1 : (P ++ zs (j + 1)).length = st * 64 + tn + (j + 1) := by rw [List.length_append, HP.out, zs_length]
              have h2 := HKK.out
              show k8 = k3 + 1
              rcases hh9.2 with ⟨h, h0⟩ | ⟨g, cap, cur, h, -⟩
              · cases h; omega
              · cases h; omega
            have HN : Hid (Held W8 w.heap.size (.slice a8 k8 c8) (P ++ zs (j + 1)) ∧ st * 64 + tn + (j + 1) ≤ st * 64 + 64 ∧ Below w.heap.size w W8) := ⟨hh9, by have := HKK.out; omega, HB7.out.trans (hg8.below HH7.out HB7.out.size)⟩
            clear hh8 hh9 hg8 HX7 HH7 HB7 HLE7
            go_wp2
            exact ⟨⟨j + 1, HN.out⟩, by have h1 := HK8.out; have h2 := HN.out.2.1; have h3 := HKK.out; show st * 64 + 64 - k8 < st * 64 + 64 - k3; omega⟩
      · have ht1' : ¬ (0 : Int) < (tn : Int) := by omega
        go_wp2
        go_ret
        have h3 := HK.out
        have hl : (s.b.take (st * 64)).length = st * 64 := by rw [List.length_take]; omega
        have hfin := IsRLog.store2 (B := B) (k := st) HQ3.out HH2.out HB3.out hlt hlow hl (by omega) hmost
        have hleft : leftB s (kn : Int) (tn : Int) = s.b.take (st * 64) := by rw [HLB.out, if_neg (by omega), List.append_nil]
        rw [HA.out, hleft, hl, show st * 64 / 64 = st by omega]
        exact ⟨rfl, hfin⟩
    · have hend' : ¬ (lb : Int) + (mv : Int) * 64 < (kk : Int) := by have := HE.out; omega
      have hfin := Lib.hid (IsRLog.store2 (B := B) (k := st) HQ3.out HH2.out HB3.out hlt hlow (by rw [List.length_take]; have := HK.out; omega) (by have := HK.out; omega) hmost)
      have hleft : Hid (leftB s (kn : Int) (tn : Int) = s.b.take (st * 64) ∧ (s.b.take (st * 64)).length / 64 = st) := ⟨by rw [HLB.out, if_neg (by omega), List.append_nil], by rw [List.length_take]; have := HK.out; omega⟩
      by_cases ht1 : 0 < tn
      · have ht1' : (0 : Int) < (tn : Int) := by omega
        go_wp2
        go_ret
        rw [HA.out, hleft.out.1, hleft.out.2]
        exact ⟨rfl, hfin.out⟩
      · have ht1' : ¬ (0 : Int) < (tn : Int) := by omega
        go_wp2
        go_ret
        rw [HA.out, hleft.out.1, hleft.out.2]
        exact ⟨rfl, hfin.out⟩
  · obtain rfl : mv = kn := by have := HE.out; omega
    have hkl' : ¬ (lo : Int) < (mv : Int) := by omega
    go_wp2_with (at_builtin; refine wpList_append_bytes rfl _ _ rfl w.heap.size _ [] rfl (Held.nil _ _) _ _ rfl HV2.out HLE.out HB2.out.size ?_)
    intro v2 W2 hh2 hg2
    have hbU : Below U0.heap.size U0 W2 := hg2.below (Held.nil U0 U0.heap.size) (Nat.le_refl _)
    obtain ⟨a2, k2, c2, rfl⟩ := hh2.bytes.shape
    have HH2 : Hid (Held W2 w.heap.size (.slice a2 k2 c2) (s.b.take (st * 64))) := hh2
    have HB3 : Hid (Below w.heap.size w W2) := HB2.out.trans (hbU.mono HB2.out.size)
    have HQ3 := Lib.hid (HQ0.out.after HB3.out)
    have HV3 := Lib.hid (HV.out.after HB3.out)
    have HQ4 := Lib.hid (HQ3.out.s0 (.slice a2 k2 c2))
    clear hh2 hg2 hbU HV2 HB2 HQ2 c0 d1
    have c0 := HQ3.out.c0
    have f0 := HQ3.out.free 0
    have f1 := HQ4.out.free 1
    have e1 := HQ4.out.c1
    by_cases hend : st < k
    · have hend' : (lb : Int) + (mv : Int) * 64 < (kk : Int) := by have := HE.out; omega
      by_cases ht1 : 0 < tn
      · have ht1' : (0 : Int) < (tn : Int) := by omega
        have HP : Hid ((s.b.take (st * 64) ++ (s.b.drop (st * 64)).take tn).length = st * 64 + tn) := by
          have h1 := HK.out.1
          show _ = _
          rw [List.length_append, List.length_take, List.length_take, List.length_drop]
          omega
        obtain ⟨p4, c4, hs4, hv4⟩ := HV3.out.mid (n := st * 64) (m := st * 64 + tn) (by omega) (by have := HK.out; omega) .i64 .i64
        rw [Nat.add_sub_cancel_left] at hv4
        have hs4' : ∀ w, (Instr.slice 30 (.slice a kk c) (some (.int .i64 ((lb : Int) + (mv : Int) * 64))) (some (.int .i64 ((lb : Int) + (mv : Int) * 64 + (tn : Int)))) none).run Try.prog w = .ok (.slice p4 tn c4) w := fun w => by
          have h1 := hs4 w
          have h2 := HE.out.2.2
          rw [Nat.add_sub_cancel_left] at h1
          rwa [show ((st * 64 : Nat) : Int) = (lb : Int) + (mv : Int) * 64 from by omega, show ((st * 64 + tn : Nat) : Int) = (lb : Int) + (mv : Int) * 64 + (tn : Int) from by omega] at h1
        have HV4 := Lib.hid hv4
        have HLE4 : Hid ((s.b.take (st * 64)).length + ((s.b.drop (st * 64)).take tn).length ≤ 140737488355328) := by
          have h1 := HP.out
          rw [List.length_append] at h1
          show _ ≤ _
          have h2 := HK.out
          omega
        clear hs4 hv4
        go_wp2_with (at_builtin; refine wpList_append_bytes rfl _ _ rfl w.heap.size _ _ rfl HH2.out _ _ rfl HV4.out HLE4.out HB3.out.size ?_)
        intro v5 W5 hh5 hg5
        obtain ⟨P, hP⟩ : ∃ P, s.b.take (st * 64) ++ (s.b.drop (st * 64)).take tn = P := ⟨_, rfl⟩
        have hh5' : Held W5 w.heap.size v5 P := by rw [← hP]; exact hh5
        rw [hP] at HP
        have HPP := Lib.hid hP
        have HI : Hid (∃ j, Held W5 w.heap.size v5 (P ++ zs j) ∧ st * 64 + tn + j ≤ st * 64 + 64 ∧ Below w.heap.size w W5) := ⟨0, by simpa [zs] using hh5', by omega, HB3.out.trans (hg5.below HH2.out HB3.out.size)⟩
        clear hh5 hh5' hg5 hP HH2 HB3 HV4 HLE4 HV3 HQ3 HQ4 c0 f0 f1 e1
        go_wp2
        go_loopw [9] (fun v wr => ∃ j, Held wr w.heap.size v (P ++ zs j) ∧ st * 64 + tn + j ≤ st * 64 + 64 ∧ Below w.heap.size w wr) (fun v _ => st * 64 + 64 - (match v with | .slice _ k _ => k | _ => 0))
        case atStart => exact HI.out
        case round =>
          clear HI
          obtain ⟨j, hh, hj, hb⟩ := hrel
          obtain ⟨a3, k3, c3, rfl⟩ := hh.bytes.shape
          have hk3 : k3 = st * 64 + tn + j := by
            have h1 : (P ++ zs j).length = st * 64 + tn + j := by rw [List.length_append, HP.out, zs_length]
            rcases hh.2 with ⟨h, h0⟩ | ⟨g, cap, cur, h, -⟩
            · cases h; omega
            · cases h; exact h1
          have HH := Lib.hid hh
          have HBB := Lib.hid hb
          have HKK := Lib.hid hk3
          clear hh hb hk3
          by_cases hp : k3 % 64 = 0
          · have hp' : (k3 : Int) % 64 = 0 := by omega
            have hp2 : Int.tmod (k3 : Int) 64 = 0 := by rw [Int.tmod_eq_emod_of_nonneg (by omega)]; exact hp'
            have HQ5 := Lib.hid (HQ0.out.after HBB.out)
            have HQ6 := Lib.hid (HQ5.out.s0 (.slice a3 k3 c3))
            have f0 := HQ5.out.free 0
            have c0 := HQ5.out.c0
            have f1 := HQ6.out.free 1
            have e1 := HQ6.out.c1
            go_wp2
            go_ret
            have h2 := HKK.out
            have h3 := HK.out
            have hj2 : j = 64 - tn := by omega
            have hfin := IsRLog.store2 (B := B) (k := st + 1) HQ5.out HH.out HBB.out hlt hlow (by rw [List.length_append, HP.out, zs_length]; omega) (by omega) hmost
            have hleft : leftB s (mv : Int) (tn : Int) = P ++ zs j := by
              rw [HLB.out, if_pos ⟨hend, ht1⟩, ← HPP.out, hj2, List.append_assoc, torn_eq _ _ _ (by omega)]
            have hlen : (P ++ zs j).length / 64 = st + 1 := by rw [List.length_append, HP.out, zs_length]; omega
            rw [HA.out, hleft, hlen]
            exact ⟨rfl, hfin⟩
          · have hp' : ¬ (k3 : Int) % 64 = 0 := by omega
            have hp2 : ¬ Int.tmod (k3 : Int) 64 = 0 := by rw [Int.tmod_eq_emod_of_nonneg (by omega)]; exact hp'
            go_wp2_with (refine wpList_lit rfl 1 _ rfl #[.int .u8 0] (zs 1) ?_ rfl rfl (by omega) ?_; (focus exact lit1 _ _))
            intro W7 v7 hh7 hb7
            have HX7 := Lib.hid hh7.bytes
            have HH7 := Lib.hid (HH.out.after hb7)
            have HB7 : Hid (Below w.heap.size w W7) := HBB.out.trans (hb7.mono HBB.out.size)
            have HLE7 : Hid ((P ++ zs j).length + (zs 1).length ≤ 140737488355328) := by
              show _ ≤ _
              rw [List.length_append, HP.out, zs_length, zs_length]
              have := HK.out
              omega
            clear hh7 hb7
            go_wp2_with (at_builtin; refine wpList_append_bytes rfl _ _ rfl w.heap.size _ _ rfl HH7.out _ _ rfl HX7.out HLE7.out HB7.out.size ?_)
            intro v8 W8 hh8 hg8
            have hh9 : Held W8 w.heap.size v8 (P ++ zs (j + 1)) := by
              have e : P ++ (zs j ++ zs 1) = P ++ zs (j + 1) := by unfold zs; rw [List.replicate_append_replicate]
              rw [← e]
              simpa only [List.append_assoc] using hh8
            obtain ⟨a8, k8, c8, rfl⟩ := hh9.bytes.shape
            have HK8 : Hid (k8 = k3 + 1) := by
              have h1 : (P ++ zs (j + 1)).length = st * 64 + tn + (j + 1) := by rw [List.length_append, HP.out, zs_length]
              have h2 := HKK.out
              show k8 = k3 + 1
              rcases hh9.2 with ⟨h, h0⟩ | ⟨g, cap, cur, h, -⟩
              · cases h; omega
              · cases h; omega
            have HN : Hid (Held W8 w.heap.size (.slice a8 k8 c8) (P ++ zs (j + 1)) ∧ st * 64 + tn + (j + 1) ≤ st * 64 + 64 ∧ Below w.heap.size w W8) := ⟨hh9, by have := HKK.out; omega, HB7.out.trans (hg8.below HH7.out HB7.out.size)⟩
            clear hh8 hh9 hg8 HX7 HH7 HB7 HLE7
            go_wp2
            exact ⟨⟨j + 1, HN.out⟩, by have h1 := HK8.out; have h2 := HN.out.2.1; have h3 := HKK.out; show st * 64 + 64 - k8 < st * 64 + 64 - k3; omega⟩
      · have ht1' : ¬ (0 : Int) < (tn : Int) := by omega
        go_wp2
        go_ret
        have h3 := HK.out
        have hl : (s.b.take (st * 64)).length = st * 64 := by rw [List.length_take]; omega
        have hfin := IsRLog.store2 (B := B) (k := st) HQ3.out HH2.out HB3.out hlt hlow hl (by omega) hmost
        have hleft : leftB s (mv : Int) (tn : Int) = s.b.take (st * 64) := by rw [HLB.out, if_neg (by omega), List.append_nil]
        rw [HA.out, hleft, hl, show st * 64 / 64 = st by omega]
        exact ⟨rfl, hfin⟩
    · have hend' : ¬ (lb : Int) + (mv : Int) * 64 < (kk : Int) := by have := HE.out; omega
      have hfin := Lib.hid (IsRLog.store2 (B := B) (k := st) HQ3.out HH2.out HB3.out hlt hlow (by rw [List.length_take]; have := HK.out; omega) (by have := HK.out; omega) hmost)
      have hleft : Hid (leftB s (mv : Int) (tn : Int) = s.b.take (st * 64) ∧ (s.b.take (st * 64)).length / 64 = st) := ⟨by rw [HLB.out, if_neg (by omega), List.append_nil], by rw [List.length_take]; have := HK.out; omega⟩
      by_cases ht1 : 0 < tn
      · have ht1' : (0 : Int) < (tn : Int) := by omega
        go_wp2
        go_ret
        rw [HA.out, hleft.out.1, hleft.out.2]
        exact ⟨rfl, hfin.out⟩
      · have ht1' : ¬ (0 : Int) < (tn : Int) := by omega
        go_wp2
        go_ret
        rw [HA.out, hleft.out.1, hleft.out.2]
        exact ⟨rfl, hfin.out⟩
end Go.Proofs.Ytfiahkomabllaaa.L
