/- The document's reader: a byte, a number. -/
import Derived.Test.YtacbfpgknfcimaaCCalls
import Derived.Test.YtacbfpgknfcimaaORefRight
namespace Go.Proofs.Ytacbfpgknfcimaa.C
open Go.RowKit T O
open Go.Lib hiding intOf

section
variable {W W1 : World} {r : Nat} {bad : Bool} {l : Bytes}
theorem RLeft.lt (h : RLeft W r bad l) : r < W.heap.size := by
  obtain ⟨v, hb, -⟩ := h
  exact (Array.getElem?_eq_some_iff.1 hb).1
theorem RLeft.after (h : RLeft W r bad l) (hb : Below W.heap.size W W1) : RLeft W1 r bad l := by
  obtain ⟨v, h1, h2, h3⟩ := h
  exact ⟨v, (hb.block r (Array.getElem?_eq_some_iff.1 h1).1).trans h1, h2.after hb, h3⟩
theorem RLeft.above (h : RLeft W r bad l) {B : Nat} (hb : Below B W W1) (hB : r < B) : RLeft W1 r bad l := by
  obtain ⟨v, h1, h2, h3⟩ := h
  exact ⟨v, (hb.block r hB).trans h1, h2.below hb (fun k hk => by have := h3 k hk; omega), h3⟩
theorem RLeft.small (h : RLeft W r bad l) : l.length ≤ maxLen := by
  obtain ⟨v, h1, h2, h3⟩ := h
  exact h2.small
theorem RLeft.setBad (h : RLeft W r bad l) : RLeft (W.setCell ⟨r, 1, none⟩ (.bool true)) r true l ∧ W.grownBy (W.setCell ⟨r, 1, none⟩ (.bool true)) (some r) := by
  obtain ⟨v, h1, h2, h3⟩ := h
  have hg : W.grownBy (W.setCell ⟨r, 1, none⟩ (.bool true)) (some r) := ⟨rfl, rfl, rfl, by simp [World.setCell], fun k _ hk => Below.heap_setCell _ _ _ _ (fun e => hk (by rw [e]))⟩
  exact ⟨⟨v, (heap_setCell_same W r 1 _ _ _ h1).trans rfl, h2.kept hg (.inr h3.ne), h3⟩, hg⟩
theorem RLeft.c1 (h : RLeft W r bad l) : W.cell? ⟨r, 1, none⟩ = some (.bool bad) := by
  obtain ⟨v, h1, -⟩ := h
  exact (cell_of_row W r 1 _ _ _ h1).trans rfl
theorem RLeft.f1 (h : RLeft W r bad l) (i : Nat) : W.frozen? ⟨r, i, none⟩ = false := by
  obtain ⟨v, h1, -⟩ := h
  exact frozen_of_row W r i _ _ h1
end
theorem BytesIn.first {W : World} {v : Value} {b : UInt8} {l : Bytes} (h : BytesIn W v (b :: l)) : ∃ p, (∀ w, (Instr.indexAt 30 v (.int .i64 0)).run Try.prog w = .ok (.pointer (some p)) w) ∧ W.cell? p = some (.int .u8 (b.toNat : Int)) := by
  rcases h with ⟨c, -, hx⟩ | ⟨g, off, cap, rfl, h1, h2, h3, h4⟩
  · cases hx
  · refine ⟨⟨g, off, none⟩, fun w => ?_, h4 0 (by simp)⟩
    have hm : (0 : Int) < ((b :: l).length : Int) := by rw [List.length_cons]; omega
    generalize (b :: l).length = L at hm
    go_simp
    intro hL
    omega
/-- The first byte, or 0. -/
def headB (l : Bytes) : UInt8 := l.head?.getD 0
/-- What one answers. -/
def ROne (r : Nat) (bad : Bool) (l : Bytes) (W : World) (e : Ending) (W' : World) : Prop := W.grownBy W' (some r) ∧ e = .returned (.int .u8 ((headB l).toNat : Int)) ∧ RLeft W' r (bad || l.isEmpty) l.tail

set_option maxRecDepth 100000 in
set_option maxHeartbeats 1000000 in
theorem refOne_any (r : Nat) (bad : Bool) (l : Bytes) (W : World) (h : RLeft W r bad l) :
    Calls Try.prog 37 #[.pointer (some ⟨r, 0, none⟩)] W (ROne r bad l W) := by
  have hset := h.setBad
  have hf := h.f1 1
  have hc1 := h.c1
  obtain ⟨v, hbox, hB, hne⟩ := h
  have hcell : W.cell? ⟨r, 0, none⟩ = some v := (cell_of_row W r 0 _ _ _ hbox).trans rfl
  have hfz : W.frozen? ⟨r, 0, none⟩ = false := frozen_of_row W r 0 _ _ hbox
  cases l with
  | nil =>
    have HF : Hid (ROne r bad [] W (.returned (.int .u8 0)) (W.setCell ⟨r, 1, none⟩ (.bool true))) := ⟨hset.2, rfl, by simpa using hset.1⟩
    have hl := hB.len
    simp only [List.length_nil] at hl
    clear hset hB hbox hne
    go_enter Try.func37, Try.ntmps37
    go_wp2
    go_ret
    exact HF.out
  | cons b l2 =>
    have hl := hB.len
    have hn0 : (((b :: l2).length : Int) == 0) = false := by rw [List.length_cons]; simp; omega
    obtain ⟨v2, hs2, hB2, ho2⟩ := hB.tail (n := 1) (by simp) .i64
    obtain ⟨a2, k2, c2, rfl⟩ := hB2.shape
    rw [show ((1 : Nat) : Int) = 1 from rfl] at hs2
    obtain ⟨p, hp, hc⟩ := hB.first
    have hg := grownBy_setCell' W r (.slice a2 k2 c2)
    have HF : Hid (ROne r bad (b :: l2) W (.returned (.int .u8 (b.toNat : Int))) (W.setCell ⟨r, 0, none⟩ (.slice a2 k2 c2))) := ⟨hg, rfl, by
      simp only [List.isEmpty_cons, Bool.or_false, List.tail_cons]
      exact ⟨_, (heap_set0 hbox _).trans rfl, hB2.kept hg (.inr (hne.of ho2).ne), hne.of ho2⟩⟩
    have hm : (1 : Int) ≤ ((b :: l2).length : Int) := by simp; omega
    clear hset hbox hne hg hB2 ho2 hB
    generalize (b :: l2).length = L at *
    go_enter Try.func37, Try.ntmps37
    go_wp2
    go_ret
    exact HF.out

/-- How far the document's reader is in a number. -/
def RSt (l : Bytes) (bad : Bool) (k : Nat) (acc : Int) (bad' : Bool) (l' : Bytes) : Prop :=
  (∃ a : Nat, acc = a ∧ rdNum l = rdN k a l' ∧ bad' = bad ∧ a < 2 ^ (7 * k) ∧ k ≤ 9) ∨ (rdNum l = none ∧ bad' = true)
def RFin (l : Bytes) (bad : Bool) (n : Int) (bad' : Bool) (l' : Bytes) : Prop :=
  (∃ x, rdNum l = some x ∧ n = x.1 ∧ l' = x.2 ∧ bad' = bad) ∨ (rdNum l = none ∧ bad' = true)
/-- What the document's number answers. -/
def RNum (r : Nat) (bad : Bool) (l : Bytes) (W : World) (e : Ending) (W' : World) : Prop :=
  W.grownBy W' (some r) ∧ ∃ n bad' l', e = .returned (.int .u64 n) ∧ RLeft W' r bad' l' ∧ l'.length ≤ l.length ∧ RFin l bad n bad' l'
/-- What stands at the head of a round. -/
def RAt (r : Nat) (bad : Bool) (l : Bytes) (W : World) (n i : Value) (wr : World) : Prop :=
  ∃ (k : Nat) (acc : Int) (bad' : Bool) (l' : Bytes), i = .int .i64 (k : Int) ∧ n = .int .u64 acc ∧ k ≤ 10 ∧ RSt l bad k acc bad' l' ∧ RLeft wr r bad' l' ∧ W.grownBy wr (some r) ∧ l'.length ≤ l.length

abbrev orR (acc : Int) (c k : Nat) : Int := bits .or .u64 acc (IntKind.u64.wrap ((c : Int) % 128 * 2 ^ (7 * k)))
theorem orR_eq {a c k : Nat} (ha : a < 2 ^ (7 * k)) (hk : k ≤ 9) (h9 : k = 9 → c % 128 ≤ 1) :
    orR (a : Int) c k = ((a + c % 128 * 2 ^ (7 * k) : Nat) : Int) ∧ (k < 9 → a + c % 128 * 2 ^ (7 * k) < 2 ^ (7 * (k + 1))) := by
  have h := or_shift ha hk (Nat.mod_lt c (by decide)) h9 (sh := ((7 * k : Nat) : Int)) rfl
  have e1 : IntKind.u64.wrap ((c % 128 : Nat) : Int) = (c : Int) % 128 := by rw [IntKind.wrap_u64]; omega
  rw [e1, Int.toNat_natCast] at h
  exact ⟨h.1, h.2.2⟩
theorem orR_9 (acc : Int) {c : Nat} (h : c ≤ 1) : orR acc c 9 = bits .or .u64 acc ((c : Int) % 128 * 9223372036854775808) := by
  have e : IntKind.u64.wrap ((c : Int) % 128 * 2 ^ (7 * 9)) = (c : Int) % 128 * 9223372036854775808 := by
    rw [show (2 : Int) ^ (7 * 9) = 9223372036854775808 from rfl, IntKind.wrap_u64]; omega
  rw [orR, e]
theorem orR_0 (acc : Int) (c : Nat) : orR acc c 0 = bits .or .u64 acc ((c : Int) % 128) := by
  have e : IntKind.u64.wrap ((c : Int) % 128 * 2 ^ (7 * 0)) = (c : Int) % 128 := by
    rw [show (2 : Int) ^ (7 * 0) = 1 from rfl, IntKind.wrap_u64]; omega
  rw [orR, e]
theorem rstep_bad {l : Bytes} {bad : Bool} {k : Nat} {acc : Int} {bad' : Bool} {l' : Bytes} (h : RSt l bad k acc bad' l') (ht : badAt k (headB l') = true) (n2 : Int) (l2 : Bytes) : RFin l bad n2 true l2 ∧ RSt l bad (k + 1) n2 true l2 := by
  have hn : rdNum l = none := by
    rcases h with ⟨a, -, h2, -⟩ | ⟨h1, -⟩
    · cases l' with
      | nil => exact h2
      | cons b l2 =>
        rw [h2, rdN]
        have : badAt k b = true := ht
        rw [if_pos this]
    · exact h1
  exact ⟨.inr ⟨hn, rfl⟩, .inr ⟨hn, rfl⟩⟩
theorem rstep_ok {l : Bytes} {bad : Bool} {k : Nat} {acc : Int} {bad' : Bool} {l' : Bytes} (h : RSt l bad k acc bad' l') (ht : badAt k (headB l') = false) :
    ((headB l').toNat < 128 → RFin l bad (orR acc (headB l').toNat k) (bad' || l'.isEmpty) l'.tail) ∧ (¬ (headB l').toNat < 128 → RSt l bad (k + 1) (orR acc (headB l').toNat k) (bad' || l'.isEmpty) l'.tail) := by
  rcases h with ⟨a, rfl, h2, h3, h4, h5⟩ | ⟨h1, h2⟩
  · cases l' with
    | nil => exact ⟨fun _ => .inr ⟨h2, by simp⟩, fun hx => absurd (by decide) hx⟩
    | cons b l2 =>
      have hb : badAt k b = false := ht
      have hh : headB (b :: l2) = b := rfl
      rw [hh]
      have hlt := b.toNat_lt
      have h9 : k = 9 → b.toNat % 128 ≤ 1 := fun h9 => by
        unfold badAt at hb
        simp [h9] at hb
        omega
      have ho := orR_eq (c := b.toNat) h4 h5 h9
      simp only [List.isEmpty_cons, Bool.or_false, List.tail_cons]
      rw [rdN, if_neg (by rw [hb]; simp)] at h2
      refine ⟨fun hs => .inl ⟨(a + b.toNat * 2 ^ (7 * k), l2), ?_, ?_, rfl, h3⟩, fun hs => .inl ⟨a + b.toNat % 128 * 2 ^ (7 * k), ho.1, ?_, h3, ?_, ?_⟩⟩
      · rw [h2, if_pos hs]
      · rw [ho.1, Nat.mod_eq_of_lt hs]
      · rw [h2, if_neg hs]
      · refine ho.2 ?_
        by_cases hk9 : k = 9
        · unfold badAt at hb
          simp [hk9] at hb
          omega
        · omega
      · by_cases hk9 : k = 9
        · unfold badAt at hb
          simp [hk9] at hb
          omega
        · omega
  · have hb : (bad' || l'.isEmpty) = true := by rw [h2]; rfl
    rw [hb]
    exact ⟨fun _ => .inr ⟨h1, rfl⟩, fun _ => .inr ⟨h1, rfl⟩⟩

set_option maxRecDepth 100000 in
set_option maxHeartbeats 4000000 in
theorem refNumberR_any (r : Nat) (bad : Bool) (l : Bytes) (W : World) (h : RLeft W r bad l) :
    Calls Try.prog 36 #[.pointer (some ⟨r, 0, none⟩)] W (RNum r bad l W) := by
  have H := Lib.hid h
  clear h
  go_enter Try.func36, Try.ntmps36
  go_wp2
  go_loopw [3, 4] (fun n i wr => RAt r bad l W n i wr) (fun _ i _ => (10 - intOf i).toNat)
  case atStart => exact ⟨0, 0, bad, l, rfl, rfl, by omega, .inl ⟨0, rfl, rfl, rfl, by simp, by omega⟩, H.out, World.grownBy.refl _ _, Nat.le_refl _⟩
  case round =>
    obtain ⟨k, acc, bad', l', rfl, rfl, hk, hst, hL, hg, hlen⟩ := hrel
    have HST := Lib.hid hst
    have HL := Lib.hid hL
    have HG := Lib.hid hg
    have HLen := Lib.hid hlen
    clear hst hL hg hlen
    by_cases h10 : k < 10
    · go_wp2_with fail
      refine (refOne_any r bad' l' _ HL.out).mono ?_
      rintro e W1 ⟨hg1, rfl, hL1⟩
      have HL1 := Lib.hid hL1
      have HG1 := Lib.hid (HG.out.trans hg1)
      have HS := Lib.hid hL1.setBad
      have HT : Hid (l'.tail.length ≤ l.length) := by show _ ≤ _; rw [List.length_tail]; have := HLen.out; omega
      have f1 := hL1.f1 1
      have c1 := hL1.c1
      clear hL1 hg1
      generalize hcc : (headB l').toNat = c at *
      have HC := Lib.hid hcc
      have hcl : (c : Int) < 256 := by have := (headB l').toNat_lt; omega
      clear hcc
      by_cases h9 : k = 9
      · subst h9
        by_cases h1 : 1 < (c : Int)
        · have h1b : decide (1 < (c : Int)) = true := by simpa using h1
          have HB : Hid (badAt 9 (headB l') = true) := bad_yes (.inr ⟨rfl, by rw [HC.out]; exact h1⟩)
          by_cases h128 : (c : Int) < 128
          · have HR := Lib.hid (fun n2 => rstep_bad HST.out HB.out n2 l'.tail)
            have HF : Hid (∀ n2 : Int, RNum r bad l W (.returned (.int .u64 n2)) (W1.setCell ⟨r, 1, none⟩ (.bool true))) := fun n2 => ⟨HG1.out.trans HS.out.2, _, true, l'.tail, rfl, HS.out.1, HT.out, (HR.out n2).1⟩
            clear HR HB
            go_wp2_with fail
            go_ret
            exact HF.out _
          · have HR := Lib.hid (fun n2 => rstep_bad HST.out HB.out n2 l'.tail)
            have HF : Hid (∀ (n2 i : Int), i = ((9 + 1 : Nat) : Int) → RAt r bad l W (.int .u64 n2) (.int .i64 i) (W1.setCell ⟨r, 1, none⟩ (.bool true))) := fun n2 i hi => ⟨9 + 1, _, true, l'.tail, by rw [hi], rfl, by omega, (HR.out n2).2, HS.out.1, HG1.out.trans HS.out.2, HT.out⟩
            clear HR HB
            go_wp2_with fail
            go_roundw
            case rel => exact HF.out _ _ (by simp)
            case measure => simp [intOf] <;> omega
        · have h1b : decide (1 < (c : Int)) = false := by simpa using h1
          by_cases h0 : (c : Int) = 0
          · have h0b : ((c : Int) == 0) = true := by simpa using h0
            have HB : Hid (badAt 9 (headB l') = true) := bad_yes (.inl ⟨by omega, by rw [HC.out]; exact h0⟩)
            have h128 : (c : Int) < 128 := by omega
            have HR := Lib.hid (fun n2 => rstep_bad HST.out HB.out n2 l'.tail)
            have HF : Hid (∀ n2 : Int, RNum r bad l W (.returned (.int .u64 n2)) (W1.setCell ⟨r, 1, none⟩ (.bool true))) := fun n2 => ⟨HG1.out.trans HS.out.2, _, true, l'.tail, rfl, HS.out.1, HT.out, (HR.out n2).1⟩
            clear HR HB
            go_wp2_with fail
            go_ret
            exact HF.out _
          · have h0b : ((c : Int) == 0) = false := by simpa using h0
            have HB : Hid (badAt 9 (headB l') = false) := bad_no (.inr (by rw [HC.out]; exact h0)) (.inr (by rw [HC.out]; exact h1))
            have h128 : (c : Int) < 128 := by omega
            have HR := Lib.hid (rstep_ok HST.out HB.out)
            rw [HC.out, orR_9 acc (by omega)] at HR
            have HF : Hid (RNum r bad l W (.returned (.int .u64 (bits .or .u64 acc ((c : Int) % 128 * 9223372036854775808)))) W1) := ⟨HG1.out, _, _, l'.tail, rfl, HL1.out, HT.out, HR.out.1 (by omega)⟩
            clear HR HB
            go_wp2_with fail
            go_ret
            exact HF.out
      · have e9 : ((k : Int) == 9) = false := by simp; omega
        by_cases hp : (0 : Int) < k
        · by_cases h0 : (c : Int) = 0
          · have h0b : ((c : Int) == 0) = true := by simpa using h0
            have HB : Hid (badAt k (headB l') = true) := bad_yes (.inl ⟨by omega, by rw [HC.out]; exact h0⟩)
            have h128 : (c : Int) < 128 := by omega
            have HR := Lib.hid (fun n2 => rstep_bad HST.out HB.out n2 l'.tail)
            have HF : Hid (∀ n2 : Int, RNum r bad l W (.returned (.int .u64 n2)) (W1.setCell ⟨r, 1, none⟩ (.bool true))) := fun n2 => ⟨HG1.out.trans HS.out.2, _, true, l'.tail, rfl, HS.out.1, HT.out, (HR.out n2).1⟩
            clear HR HB
            go_wp2_with fail
            go_ret
            exact HF.out _
          · have h0b : ((c : Int) == 0) = false := by simpa using h0
            have HB : Hid (badAt k (headB l') = false) := bad_no (.inr (by rw [HC.out]; exact h0)) (.inl h9)
            by_cases h128 : (c : Int) < 128
            · have HR := Lib.hid (rstep_ok HST.out HB.out)
              rw [HC.out] at HR
              have HF : Hid (RNum r bad l W (.returned (.int .u64 (orR acc c k))) W1) := ⟨HG1.out, _, _, l'.tail, rfl, HL1.out, HT.out, HR.out.1 (by omega)⟩
              clear HR HB
              go_wp2_with fail
              go_ret
              exact HF.out
            · have HR := Lib.hid (rstep_ok HST.out HB.out)
              rw [HC.out] at HR
              have HF : Hid (RAt r bad l W (.int .u64 (orR acc c k)) (.int .i64 ((k : Int) + 1)) W1) := ⟨k + 1, _, _, l'.tail, rfl, rfl, by omega, HR.out.2 (by omega), HL1.out, HG1.out, HT.out⟩
              clear HR HB
              go_wp2_with fail
              go_roundw
              case rel => exact HF.out
              case measure => simp [intOf] <;> omega
        · have hk0 : k = 0 := by omega
          subst hk0
          have HB : Hid (badAt 0 (headB l') = false) := bad_no (.inl (by omega)) (.inl (by omega))
          by_cases h128 : (c : Int) < 128
          · have HR := Lib.hid (rstep_ok HST.out HB.out)
            rw [HC.out, orR_0] at HR
            have HF : Hid (RNum r bad l W (.returned (.int .u64 (bits .or .u64 acc ((c : Int) % 128)))) W1) := ⟨HG1.out, _, _, l'.tail, rfl, HL1.out, HT.out, HR.out.1 (by omega)⟩
            clear HR HB
            go_wp2_with fail
            go_ret
            exact HF.out
          · have HR := Lib.hid (rstep_ok HST.out HB.out)
            rw [HC.out, orR_0] at HR
            have HF : Hid (RAt r bad l W (.int .u64 (bits .or .u64 acc ((c : Int) % 128))) (.int .i64 1) W1) := ⟨0 + 1, _, _, l'.tail, rfl, rfl, by omega, HR.out.2 (by omega), HL1.out, HG1.out, HT.out⟩
            clear HR HB
            go_wp2_with fail
            go_roundw
            case rel => exact HF.out
            case measure => simp [intOf] <;> omega
    · obtain ⟨a, -, -, -, -, h9⟩ | ⟨h1, h2⟩ := HST.out
      · omega
      have HS := Lib.hid HL.out.setBad
      have HF : Hid (RNum r bad l W (.returned (.int .u64 0)) (wr.setCell ⟨r, 1, none⟩ (.bool true))) := ⟨HG.out.trans HS.out.2, 0, true, l', rfl, HS.out.1, HLen.out, .inr ⟨h1, rfl⟩⟩
      have f1 := HL.out.f1 1
      have c1 := HL.out.c1
      clear HST h1 h2 HS HL HG HLen
      go_wp2
      go_ret
      exact HF.out
end Go.Proofs.Ytacbfpgknfcimaa.C
