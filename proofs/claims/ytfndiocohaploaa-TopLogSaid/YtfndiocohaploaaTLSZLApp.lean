/- Own work. -/
import Derived.Test.YtfndiocohaploaaTLJSZLWhole
import Derived.Test.YtfndiocohaploaaTLJSZLWrit0
namespace Go.Proofs.Ytfndiocohaploaa.L
open Go Go.RowKit
open Go.Lib
theorem Turn.grew {B k : Nat} {w w' : World} {q : Nat} {v v' : Value} {l : Bytes} (h : Row w B v k l) (hG : Grew w v w' v') (hB : B ≤ w.heap.size) : Turn B w w' q v.ownBlock v'.ownBlock where
  below := ⟨hG.by_.os, hG.by_.tape, hG.by_.output, hG.by_.size, fun j hj => hG.by_.block j (by omega) (fun e => by have := h.low e.symm; omega)⟩
  keep := fun g hg _ hne => hG.by_.block g hg hne
  at_ := fun g hg => by
    rcases hG.at_ with e | ⟨m, e, hm⟩
    · exact .inl (e ▸ hg)
    · rw [e] at hg
      cases hg
      exact .inr hm
theorem Turn.kept {B : Nat} {w w' : World} {q : Nat} (og : Option Nat) (h : Below B w w') (hk : ∀ g, g < w.heap.size → g ≠ q → w'.heap[g]? = w.heap[g]?) : Turn B w w' q og og := ⟨h, fun g hg hq _ => hk g hg hq, fun _ hg => .inl hg⟩
def appS (s : Lg) (r : Bytes) : Int × Lg :=
  if need r.length = 0 then (3, s) else if s.most < s.b.length / 64 + need r.length then (7, s) else (0, { s with b := s.b ++ laid r ((recs s.b).length + 1) })
def DeedA (B q : Nat) (og : Option Nat) (w : World) (a : Int × Lg) (e : Ending) (w' : World) : Prop := e = .returned (.int .i64 a.1) ∧ ∃ og', IsLog B w' q og' a.2 ∧ Turn B w w' q og og'
structure KeepDrew (B : Nat) (w V : World) (q : Nat) (og : Option Nat) : Prop where
  below : Below B w V
  keep : ∀ g, g < w.heap.size → g ≠ q → some g ≠ og → V.heap[g]? = w.heap[g]?
theorem KeepDrew.drew {B : Nat} {w V : World} {q : Nat} {og : Option Nat} (h : KeepDrew B w V q og) : KeepDrew B w V.drew q og := ⟨h.below.drew, h.keep⟩
theorem KeepDrew.after {B : Nat} {w V W : World} {q : Nat} {og : Option Nat} (h : KeepDrew B w V q og) (hb : Below V.heap.size V W) (hB : B ≤ w.heap.size) : KeepDrew B w W q og :=
  ⟨h.below.trans (hb.mono (by have := h.below.size; omega)), fun g hg hq hne => (hb.block g (by have := h.below.size; omega)).trans (h.keep g hg hq hne)⟩
theorem KeepDrew.set {B : Nat} {w V : World} {q : Nat} {og : Option Nat} (h : KeepDrew B w V q og) (hB : B ≤ q) (i : Nat) (x : Value) : KeepDrew B w (V.setCell ⟨q, i, none⟩ x) q og :=
  ⟨h.below.setCell (p := ⟨q, i, none⟩) hB x, fun g hg hq hne => (heap_setCell_other _ ⟨q, i, none⟩ g _ hq).trans (h.keep g hg hq hne)⟩
theorem KeepDrew.turn {B : Nat} {w V W : World} {q : Nat} {og og' : Option Nat} (h : KeepDrew B w V q og) (k : Turn B V W q og og') : KeepDrew B w W q og :=
  ⟨h.below.trans k.below, fun g hg hq hne => (k.keep g (by have := h.below.size; omega) hq hne).trans (h.keep g hg hq hne)⟩
theorem exec_append_row {W W' : World} {oi : Oper} {a : Act} {s x : Operand} {v y v' : Value} (ho : oi.op = .call { callee := .builtin .append, args := #[s, x], argTypes := #[68, 68] }) (hs : a.eval s = v) (hx : a.eval x = y)
    (hr : (Builtin.append_ #[68, 68] oi.type #[v, y]).run Try.prog W = .ok v' W') : (execOp a.eval oi).run Try.prog W = .ok (.value v') W' := by
  unfold execOp
  simp only [ho, resolve, invoke, builtin, Sem.run_bind, Sem.run_pure, Result.andThen_ok, List.map_toArray, List.map_cons, List.map_nil, hs, hx]
  rw [hr]
  rfl
theorem wpList_gen {P : Program} {ops : Array Oper} {Q : Exit → Act → World → Prop} {l : List Oper} {a : Act} {W : World} (G : World → Prop) (hG : G W) (h : ∀ W1, G W1 → wpList P ops Q l a W1) : wpList P ops Q l a W := h W hG
theorem begin_more {b : Bytes} {L : List Bytes} {n : Nat} (h : Begin L b n) (m : Bytes) : Begin L (b ++ m) n := h.of_take (by rw [List.take_append_of_le_length h.le])
set_option maxRecDepth 100000 in
set_option maxHeartbeats 400000 in
theorem append_any (B q : Nat) (og : Option Nat) (s : Lg) (rv : Value) (r : Bytes) (w : World) (h : IsLog B w q og s) (hr : BytesIn w rv r) :
    Calls Try.prog 16 #[.pointer (some ⟨q, 0, none⟩), rv] w (DeedA B q og w (appS s r)) := by
  have hrn : r.length ≤ 9223372036854775807 := hr.small
  obtain ⟨ra, rk, rc, rfl⟩ := hr.shape
  obtain rfl : rk = r.length := by rcases hr with ⟨c, h, rfl⟩ | ⟨g, off, cap, h, -⟩ <;> cases h <;> rfl
  have HND : Hid (∀ W, Calls Try.prog 31 #[.int .i64 (r.length : Int)] W fun e w' => e = .returned (.int .i64 (need r.length : Nat)) ∧ w' = W) := fun W => by
    have := need_any (r.length : Int) W (by omega)
    rwa [Int.toNat_natCast] at this
  have HR := Lib.hid hr
  have HL := Lib.hid h
  have HFR := Lib.hid (free_any B q og s w h)
  have hlt := h.lt
  have hlow := h.low
  have hmost := h.most
  have hn17 := need_le r.length
  clear hr h
  by_cases h0 : need r.length = 0
  · have HA : Hid (appS s r = (3, s)) := if_pos h0
    rw [h0] at HND
    go_enter Try.func16, Try.ntmps16
    go_wp2_with (go_at_call 31; refine (HND.out _).mono ?_; rintro e w' ⟨rfl, rfl⟩)
    go_ret
    rw [HA.out]
    exact ⟨rfl, og, HL.out, Turn.of_below (Below.refl _ _) (by omega)⟩
  have h0' : ¬ ((need r.length : Nat) : Int) = 0 := by omega
  by_cases h1 : s.most < s.b.length / 64 + need r.length
  · have HA : Hid (appS s r = (7, s)) := by show appS s r = _; unfold appS; rw [if_neg h0, if_pos h1]
    have h1' : (s.most : Int) - ((s.b.length / 64 : Nat) : Int) < (need r.length : Nat) := by omega
    generalize need r.length = m at *
    generalize s.b.length / 64 = k at *
    go_enter Try.func16, Try.ntmps16
    go_wp2_with (first | (go_at_call 31; refine (HND.out _).mono ?_; rintro e w' ⟨rfl, rfl⟩) | (go_at_call 32; refine HFR.out.mono ?_; rintro e w' ⟨rfl, hb⟩))
    go_ret
    rw [HA.out]
    exact ⟨rfl, og, HL.out.after hb, Turn.of_below hb (by omega)⟩
  have h1' : ¬ (s.most : Int) - ((s.b.length / 64 : Nat) : Int) < (need r.length : Nat) := by omega
  have HA : Hid (appS s r = (0, { s with b := s.b ++ laid r ((recs s.b).length + 1) })) := by show appS s r = _; unfold appS; rw [if_neg h0, if_neg h1]
  have HWR : Hid (∀ (n : Nat) W, n ≤ 1000000 → BytesIn W (.slice ra r.length rc) r → Calls Try.prog 33 #[.slice ra r.length rc, .int .i64 (n : Int)] W fun e w' => ∃ x, e = .returned x ∧ BlksIn w' x (need r.length) (laid r n) ∧ Below W.heap.size W w') := fun n W h2 h3 => written_any _ r n W h3 h0 (by omega)
  have HAL : Hid (Begin (recs s.b) s.b 1) := (recs_all s.b).1
  obtain ⟨v, k, l1, l2, l3, l4, l5⟩ := HL.out.at_
  have hkk : s.b.length / 64 = k := by rw [l2.1]; omega
  have hpos := HAL.out.pos
  have hle := HAL.out.le
  have hwb : (recs s.b).length ≤ 5000 := by rw [l2.1] at hle; omega
  rw [hkk] at h1' HFR
  generalize need r.length = m at *
  generalize hwh : (recs s.b).length = wh at *
  generalize hen : blks (recs s.b) = en at *
  obtain ⟨a, c, rfl⟩ := l2.blks.shape
  have H1 := Lib.hid l1
  have H2 := Lib.hid l2
  have H3 := Lib.hid l3
  have H4 : Hid (k ≤ s.most ∧ s.last ≤ k) := ⟨l4, l5⟩
  have HWH := Lib.hid hwh
  have HEN := Lib.hid hen
  have hkm : k + m ≤ 4096 := by omega
  clear l1 l2 l3 hwh hen
  go_enter Try.func16, Try.ntmps16
  go_wp2_with (first | (go_at_call 31; refine (HND.out _).mono ?_; rintro e w' ⟨rfl, rfl⟩) | (go_at_call 32; refine HFR.out.mono ?_; rintro e w1 ⟨rfl, hb⟩))
  refine wp_gen (fun V => Below w'.heap.size w' V) hb ?_
  clear hb
  rintro V hb
  have hBw : B ≤ w'.heap.size := by omega
  have HK : Hid (KeepDrew B w' V q og) := ⟨hb.mono hBw, fun g hg _ _ => hb.block g hg⟩
  have HB := Lib.hid hb
  clear hb
  go_wp2
  refine wp_region_held_drew (S := fun V => KeepDrew B w' V q og) (by kernel_rfl) HK.out.drew (fun _ => ?_)
  refine HeldBy.gen (fun V => (KeepDrew B w' V q og) ∧ (Below w'.heap.size w' V)) ⟨HK.out.drew, HB.out.drew⟩ ?_
  clear HK HB
  rintro U0 ⟨HS, HB⟩
  refine HeldBy.take (i := 0) rfl (by kernel_rfl) (by kernel_rfl) (by kernel_rfl) (fun _ _ _ h => h) (by rfl) (fun _ _ => by first | (go_simp; rfl) | (go_simp; done)) (by first | (go_simp; rfl) | (go_simp; done)) HS ?_
  refine HeldBy.take (i := 1) rfl (by kernel_rfl) (by kernel_rfl) (by kernel_rfl) (fun _ _ _ h => h) (by rfl) (fun _ _ => by first | (go_simp; rfl) | (go_simp; done)) (by first | (go_simp; rfl) | (go_simp; done)) HS ?_
  refine HeldBy.take (i := 2) rfl (by kernel_rfl) (by kernel_rfl) (by kernel_rfl) (fun _ _ _ h => h) (by rfl) (fun _ _ => by first | (go_simp; rfl) | (go_simp; done)) (by first | (go_simp; rfl) | (go_simp; done)) HS ?_
  refine HeldBy.take (i := 3) rfl (by kernel_rfl) (by kernel_rfl) (by kernel_rfl) (fun _ _ _ h => h) (by rfl) (fun _ _ => by first | (go_simp; rfl) | (go_simp; done)) (by first | (go_simp; rfl) | (go_simp; done)) HS ?_
  refine HeldBy.take (i := 5) rfl (by kernel_rfl) (by kernel_rfl) (by kernel_rfl) (fun _ _ _ h => h) (by rfl) (fun _ _ => by first | (go_simp; rfl) | (go_simp; done)) (by first | (go_simp; rfl) | (go_simp; done)) HS ?_
  refine HeldBy.take (i := 6) rfl (by kernel_rfl) (by kernel_rfl) (by kernel_rfl) (fun _ _ _ h => h) (by rfl) (fun _ _ => by first | (go_simp; rfl) | (go_simp; done)) (by first | (go_simp; rfl) | (go_simp; done)) HS ?_
  refine HeldBy.take (i := 7) rfl (by kernel_rfl) (by kernel_rfl) (by kernel_rfl) (fun _ _ _ h => h) (by rfl) (fun _ _ => by first | (go_simp; rfl) | (go_simp; done)) (by first | (go_simp; rfl) | (go_simp; done)) HS ?_
  refine HeldBy.take (i := 8) rfl (by kernel_rfl) (by kernel_rfl) (by kernel_rfl) (fun _ _ _ h => h) (by rfl) (fun _ _ => by first | (go_simp; rfl) | (go_simp; done)) (by first | (go_simp; rfl) | (go_simp; done)) HS ?_
  have hl0 := H1.out.after HB
  have hr0 := H2.out.after HB
  have hc1 := hl0.c1
  have hc3 := hl0.c3
  have hWR : Calls Try.prog 33 #[.slice ra r.length rc, .int .i64 ((wh : Int) + 1)] U0 fun e W2 => ∃ x, e = .returned x ∧ (BlksIn W2 x m (laid r (wh + 1)) ∧ Below U0.heap.size U0 W2) := by
    have := HWR.out (wh + 1) U0 (by omega) (HR.out.after HB)
    exact this
  refine HeldBy.late_load (i := 4) (j := 9) (c := 10) (k := 11) (u := .slice a k c) (x := .int .i64 (wh : Int)) (z := .int .i64 ((wh : Int) + 1)) (R := fun x W2 => BlksIn W2 x m (laid r (wh + 1)) ∧ Below U0.heap.size U0 W2)
    (by kernel_rfl) (by kernel_rfl) (by kernel_rfl) (by kernel_rfl) (by kernel_rfl) (by kernel_rfl) (by kernel_rfl) (by kernel_rfl) (by kernel_rfl) (by kernel_rfl) (by kernel_rfl) rfl rfl rfl rfl rfl rfl rfl rfl (fun _ _ _ h => h)
    (by first | (go_simp; rfl) | (go_simp; done)) (by first | (go_simp; rfl) | (go_simp; done)) (fun v W2 hW2 => by have hc := (hl0.after hW2.2).c1; first | (go_simp; rfl) | (go_simp; done))
    (by first | (go_simp; rfl) | (go_simp; done)) (by first | (go_simp; rfl) | (go_simp; done)) (fun _ _ => by go_simp; exact wrap_id (by omega) (by omega)) (fun _ _ => by go_simp; exact wrap_id (by omega) (by omega))
    (by first | (go_simp; done) | (go_simp; first | exact ⟨rfl, rfl⟩ | rfl)) (by first | (go_simp; done) | (go_simp; first | exact ⟨rfl, rfl⟩ | rfl)) (by first | (go_simp; done) | (go_simp; first | exact ⟨rfl, rfl⟩ | rfl))
    hWR HS (fun v W2 hW2 => HS.after hW2.2 hBw) (fun v => by go_simp; rfl) (fun v => by first | (go_simp; rfl) | (go_simp; done)) (fun v => by first | (go_simp; rfl) | (go_simp; done)) rfl rfl rfl ?_
  rintro x W2 ⟨hx, hb2⟩
  have hl2 := hl0.after hb2
  have hr2 := hr0.after hb2
  have hs2 := hb2.size
  have hs1 := HB.size
  have hB2 : B ≤ W2.heap.size := by omega
  obtain ⟨v', W3, hap, hr3, hG⟩ := run_append_row W2 68 B _ k s.b hr2 x m (laid r (wh + 1)) hx (by omega) hB2
  obtain ⟨a3, c3, rfl⟩ := hr3.blks.shape
  have hne2 : some q ≠ (Value.slice a k c).ownBlock := fun e => hr2.ne_log hl2 e.symm rfl
  have hl3 : LogAt W3 q s.most (.slice a k c) s.last wh en := hl2.of_heap (hG.by_.block q hl2.lt hne2)
  have hT2 : Turn B W2 W3 q og (Value.slice a3 (k + m) c3).ownBlock := by rw [← H3.out]; exact Turn.grew hr2 hG hB2
  have hT3 : Turn B w' (W3.setCell ⟨q, 1, none⟩ (.slice a3 (k + m) c3)) q og (Value.slice a3 (k + m) c3).ownBlock := ((Turn.of_below (HB.trans (hb2.mono hs1)) hBw).trans hT2).trans (Turn.set _ hlow 1 _)
  have hS3 : KeepDrew B w' W3 q og := (HS.after hb2 hBw).turn hT2
  refine HeldBy.value (i := 12) (v := .slice a3 (k + m) c3) rfl (by kernel_rfl) (by rfl) (exec_append_row rfl rfl rfl hap) (by first | (go_simp; rfl) | (go_simp; done)) hS3 ?_
  refine HeldBy.take (i := 13) rfl (by kernel_rfl) (by kernel_rfl) (by kernel_rfl) (fun _ _ _ h => h) (by rfl) (fun _ _ => by first | (go_simp; rfl) | (go_simp; done)) (by first | (go_simp; rfl) | (go_simp; done)) hS3 ?_
  refine HeldBy.take (i := 14) rfl (by kernel_rfl) (by kernel_rfl) (by kernel_rfl) (fun _ _ _ h => h) (by rfl) (fun _ _ => by first | (go_simp; rfl) | (go_simp; done)) (by first | (go_simp; rfl) | (go_simp; done)) hS3 ?_
  refine HeldBy.store (i := 15) (w' := W3.setCell ⟨q, 1, none⟩ (.slice a3 (k + m) c3)) rfl (by kernel_rfl) (by rfl) (by have hc := hl3.c1; have hf := hl3.free 1; first | (go_simp; done) | (go_simp; rfl)) (by first | (go_simp; rfl) | (go_simp; done)) (hS3.set hlow 1 _) ?_
  refine wpAnyH_done (by kernel_rfl) ?_ _
  have hl4 := hl3.s1 (.slice a3 (k + m) c3)
  have hr4 := hr3.set hl3 1 (.slice a3 (k + m) c3)
  refine then_gen (fun V => LogAt V q s.most (.slice a3 (k + m) c3) s.last wh en ∧ Row V B (.slice a3 (k + m) c3) (k + m) (s.b ++ laid r (wh + 1)) ∧ Turn B w' V q og (Value.slice a3 (k + m) c3).ownBlock) ⟨hl4, hr4, hT3⟩ ?_
  rintro W4 ⟨g1, g2, g3⟩
  have G1 := Lib.hid g1
  have G2 := Lib.hid g2
  have G3 := Lib.hid g3
  have HCO := Lib.hid (countOn_any B q s.most s.last (k + m) (.slice a3 (k + m) c3) (s.b ++ laid r (wh + 1)) (recs s.b) W4 (by rw [HWH.out, HEN.out]; exact g1) g2.blks (fun g hg => g2.ne_log g1 hg) (begin_more HAL.out _) (by omega) hlow)
  clear hl0 hr0 hc1 hc3 hWR HS HB hx hb2 hl2 hr2 hs2 hs1 hB2 hap hr3 hG hne2 hl3 hT2 hT3 hS3 hl4 hr4 g1 g2 g3
  go_wp2_with (go_at_call 34; refine HCO.out.mono ?_; rintro e w5 ⟨⟨_, rfl⟩, hl5, hb5, hk5⟩)
  go_ret
  rw [HA.out]
  have hr5 : Row w5 B (.slice a3 (k + m) c3) (k + m) (s.b ++ laid r (wh + 1)) := G2.out.of_heap fun g hg => hk5 g (G2.out.lt hg) (G2.out.ne_log G1.out hg)
  refine ⟨rfl, (Value.slice a3 (k + m) c3).ownBlock, ⟨⟨_, k + m, hl5, hr5, rfl, ?_, ?_⟩, hmost, hlow⟩, G3.out.trans (Turn.kept _ hb5 hk5)⟩
  · show k + m ≤ s.most
    omega
  · show s.last ≤ k + m
    have := H4.out.2
    omega
end Go.Proofs.Ytfndiocohaploaa.L
