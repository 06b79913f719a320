/- The document's log: New, Sync, Free, Bytes, Records, Append. -/
import Derived.Test.YtfiahkomabllaaaRWhole
namespace Go.Proofs.Ytfiahkomabllaaa.L
open Go Go.RowKit
open Go.Lib

/-- The document's log s lies at q, its bytes at B or beyond. -/
structure IsRLog (B : Nat) (W : World) (q : Nat) (s : Lg) : Prop where
  at_ : ∃ v k, RLAt W q s.most v (s.last * 64) ∧ Held W B v s.b ∧ s.b.length = k * 64 ∧ k ≤ s.most ∧ s.last ≤ k
  most : s.most ≤ 4096
  low : B ≤ q
/-- What a deed on it leaves: all but its box stays. -/
structure RTurn (B : Nat) (w w' : World) (q : Nat) : Prop where
  below : Below B w w'
  keep : ∀ g, g < w.heap.size → g ≠ q → w'.heap[g]? = w.heap[g]?
theorem RTurn.of_below {B : Nat} {w w' : World} {q : Nat} (h : Below w.heap.size w w') (hB : B ≤ w.heap.size) : RTurn B w w' q := ⟨h.mono hB, fun g hg _ => h.block g hg⟩
theorem RTurn.trans {B : Nat} {w w1 w2 : World} {q : Nat} (h : RTurn B w w1 q) (k : RTurn B w1 w2 q) : RTurn B w w2 q :=
  ⟨h.below.trans k.below, fun g hg hq => (k.keep g (by have := h.below.size; omega) hq).trans (h.keep g hg hq)⟩
theorem RTurn.set {B : Nat} {w : World} {q : Nat} (hB : B ≤ q) (i : Nat) (x : Value) : RTurn B w (w.setCell ⟨q, i, none⟩ x) q :=
  ⟨(Below.refl _ _).setCell (p := ⟨q, i, none⟩) hB x, fun g _ hq => heap_setCell_other _ ⟨q, i, none⟩ g _ hq⟩
theorem Held.ne_rlog {W : World} {B q most last : Nat} {u v : Value} {l : Bytes} (h : Held W B u l) (hq : RLAt W q most v last) {g : Nat} (hg : u.ownBlock = some g) : g ≠ q := by
  rintro rfl
  rcases h.2 with ⟨rfl, -⟩ | ⟨g2, cap, cur, rfl, -, h2, -⟩
  · cases hg
  · obtain rfl : g2 = g := by simpa [Value.ownBlock] using hg
    have h3 : W.heap[g2]? = _ := hq
    rw [h2] at h3
    simp only [Option.some.injEq, Obj.cells.injEq] at h3
    exact absurd h3.2.1 (by decide)
theorem Held.rset {W : World} {B most last q : Nat} {u v : Value} {l : Bytes} (h : Held W B u l) (hq : RLAt W q most v last) (i : Nat) (x : Value) : Held (W.setCell ⟨q, i, none⟩ x) B u l :=
  h.of_heap fun g hg => heap_setCell_other _ ⟨q, i, none⟩ g _ (h.ne_rlog hq hg)
theorem IsRLog.lt {B : Nat} {W : World} {q : Nat} {s : Lg} (h : IsRLog B W q s) : q < W.heap.size := by
  obtain ⟨v, k, h1, -⟩ := h.at_
  exact h1.lt
theorem IsRLog.after {B : Nat} {W W' : World} {q : Nat} {s : Lg} (h : IsRLog B W q s) (hb : Below W.heap.size W W') : IsRLog B W' q s := by
  obtain ⟨v, k, h1, h2, h3⟩ := h.at_
  exact ⟨⟨v, k, h1.after hb, h2.after hb, h3⟩, h.most, h.low⟩
def DeedR (B q : Nat) (w : World) (a : Int × Lg) (e : Ending) (w' : World) : Prop := e = .returned (.int .i64 a.1) ∧ IsRLog B w' q a.2 ∧ RTurn B w w' q
def NewR (n : Nat) (w : World) (e : Ending) (w' : World) : Prop := e = .returned (.pointer (some ⟨w.heap.size, 0, none⟩)) ∧ IsRLog w.heap.size w' w.heap.size ⟨n, 0, []⟩ ∧ Below w.heap.size w w'
def BytesR (l : Bytes) (w : World) (e : Ending) (w' : World) : Prop := ∃ r, e = .returned r ∧ Held w' w.heap.size r l ∧ Below w.heap.size w w'
def RecsR (L : List Bytes) (w : World) (e : Ending) (w' : World) : Prop := ∃ v, e = .returned v ∧ RecsIn w' w.heap.size v L ∧ Below w.heap.size w w'
theorem rnew_any (n : Nat) (w : World) (h1 : 1 ≤ n) (h2 : n ≤ 4096) : Calls Try.prog 31 #[.int .i64 (n : Int)] w (NewR n w) := by
  have h3 : ¬ (n : Int) < 1 := by omega
  have h4 : ¬ (4096 : Int) < (n : Int) := by omega
  go_enter Try.func31, Try.ntmps31
  go_wp2
  go_ret
  refine ⟨rfl, ⟨⟨.slice none 0 0, 0, heap_alloc_new w _, Held.nil _ _, rfl, Nat.zero_le _, Nat.le_refl _⟩, h2, Nat.le_refl _⟩, (Below.refl _ _).alloc (Nat.le_refl _) _⟩
theorem rsync_any (B q : Nat) (s : Lg) (w : World) (h : IsRLog B w q s) : Calls Try.prog 42 #[.pointer (some ⟨q, 0, none⟩)] w (DeedR B q w (0, ⟨s.most, s.b.length / 64, s.b⟩)) := by
  obtain ⟨v, k, h1, h2, h3, h4, h5⟩ := h.at_
  have hm := h.most
  have hlow := h.low
  obtain ⟨a, kk, c, rfl⟩ := h2.bytes.shape
  have hkk : kk = k * 64 := by
    rw [← h3]
    rcases h2.2 with ⟨e, h0⟩ | ⟨g, cap, cur, e, -⟩
    · cases e; exact h0.symm
    · cases e; rfl
  subst hkk
  have hk : s.b.length / 64 = k := by omega
  have H1 := Lib.hid h1
  have H2 := Lib.hid h2
  have H3 : Hid (s.b.length = k * 64 ∧ k ≤ s.most) := ⟨h3, h4⟩
  have c0 := h1.c0
  have c1 := h1.c1
  have f1 := h1.free 1
  rw [hk]
  clear h h1 h2 h3 h4 h5
  go_enter Try.func42, Try.ntmps42
  go_wp2
  go_ret
  exact ⟨rfl, ⟨⟨_, k, H1.out.s1 (k * 64), H2.out.rset H1.out 1 _, H3.out.1, H3.out.2, Nat.le_refl _⟩, hm, hlow⟩, RTurn.set hlow 1 _⟩
theorem rfree_any (B q : Nat) (s : Lg) (w : World) (h : IsRLog B w q s) : Calls Try.prog 33 #[.pointer (some ⟨q, 0, none⟩)] w fun e w' => e = .returned (.int .i64 ((s.most : Int) - ((s.b.length / 64 : Nat) : Int))) ∧ Below w.heap.size w w' := by
  obtain ⟨v, k, h1, h2, h3, h4, h5⟩ := h.at_
  have hm := h.most
  obtain ⟨a, kk, c, rfl⟩ := h2.bytes.shape
  have hkk : kk = k * 64 := by
    rw [← h3]
    rcases h2.2 with ⟨e, h0⟩ | ⟨g, cap, cur, e, -⟩
    · cases e; exact h0.symm
    · cases e; rfl
  subst hkk
  have hk : s.b.length / 64 = k := by omega
  have HQ := Lib.hid h1
  have HB : Hid (Below w.heap.size w w) := Below.refl _ _
  rw [hk]
  clear h h1 h2 h3 h5 hk
  go_enter Try.func33, Try.ntmps33
  go_wp2
  refine wp_region_held_drew (S := fun V => RLAt V q s.most (.slice a (k * 64) c) (s.last * 64) ∧ Below w.heap.size w V) (by kernel_rfl) ⟨HQ.out, HB.out.drew⟩ (fun _ => ?_)
  refine HeldBy.gen (fun V => RLAt V q s.most (.slice a (k * 64) c) (s.last * 64) ∧ Below w.heap.size w V) ⟨HQ.out, HB.out.drew⟩ ?_
  clear HQ HB
  rintro U0 HS
  refine HeldBy.take (i := 0) rfl (by kernel_rfl) (by kernel_rfl) (by kernel_rfl) (fun _ _ _ h => h) (by rfl) (fun _ _ => by first | (go_simp; rfl) | (go_simp; done)) (by go_simp; rfl) HS ?_
  refine HeldBy.take (i := 1) rfl (by kernel_rfl) (by kernel_rfl) (by kernel_rfl) (fun _ _ _ h => h) (by rfl) (fun _ _ => by first | (go_simp; rfl) | (go_simp; done)) (by go_simp; rfl) HS ?_
  refine HeldBy.take (i := 2) rfl (by kernel_rfl) (by kernel_rfl) (by kernel_rfl) (fun _ _ _ h => h) (by rfl) (fun _ _ => by first | (go_simp; rfl) | (go_simp; done)) (by go_simp; rfl) HS ?_
  refine HeldBy.take (i := 3) rfl (by kernel_rfl) (by kernel_rfl) (by kernel_rfl) (fun _ _ _ h => h) (by rfl) (fun V hV => by have hc := hV.1.c2; first | (go_simp; rfl) | (go_simp; done)) (by go_simp; rfl) HS ?_
  refine HeldBy.take (i := 4) rfl (by kernel_rfl) (by kernel_rfl) (by kernel_rfl) (fun _ _ _ h => h) (by rfl) (fun _ _ => by first | (go_simp; rfl) | (go_simp; done)) (by go_simp; rfl) HS ?_
  refine HeldBy.take (i := 5) rfl (by kernel_rfl) (by kernel_rfl) (by kernel_rfl) (fun _ _ _ h => h) (by rfl) (fun _ _ => by first | (go_simp; rfl) | (go_simp; done)) (by go_simp; rfl) HS ?_
  refine HeldBy.take (i := 6) rfl (by kernel_rfl) (by kernel_rfl) (by kernel_rfl) (fun _ _ _ h => h) (by rfl) (fun _ _ => by first | (go_simp; rfl) | (go_simp; done)) (by go_simp; rfl) HS ?_
  refine HeldBy.take (i := 7) rfl (by kernel_rfl) (by kernel_rfl) (by kernel_rfl) (fun _ _ _ h => h) (by rfl) (fun V hV => by have hc := hV.1.c0; first | (go_simp; rfl) | (go_simp; done)) (by go_simp; rfl) HS ?_
  refine HeldBy.take (i := 8) rfl (by kernel_rfl) (by kernel_rfl) (by kernel_rfl) (fun _ _ _ h => h) (by rfl) (fun _ _ => by first | (go_simp; rfl) | (go_simp; done)) (by go_simp; rfl) HS ?_
  refine HeldBy.take (i := 9) (v := .int .i64 (k : Int)) rfl (by kernel_rfl) (by kernel_rfl) (by kernel_rfl) (fun _ _ _ h => h) (by rfl) (fun _ _ => by go_simp; first | done | exact wrap_id (by omega) (by omega)) (by go_simp; rfl) HS ?_
  refine HeldBy.take (i := 10) (v := .int .i64 ((s.most : Int) - (k : Int))) rfl (by kernel_rfl) (by kernel_rfl) (by kernel_rfl) (fun _ _ _ h => h) (by rfl) (fun _ _ => by go_simp; exact wrap_id (by omega) (by omega)) (by go_simp; rfl) HS ?_
  refine HeldBy.take (i := 11) rfl (by kernel_rfl) (by kernel_rfl) (by kernel_rfl) (fun _ _ _ h => h) (by rfl) (fun _ _ => by first | (go_simp; rfl) | (go_simp; done)) (by go_simp; rfl) HS ?_
  refine wpAnyH_done (by kernel_rfl) ?_ _
  have HBN := Lib.hid HS.2
  clear HS
  go_wp2
  go_ret
  exact ⟨rfl, HBN.out⟩
theorem rbytes_any (B q : Nat) (s : Lg) (w : World) (h : IsRLog B w q s) : Calls Try.prog 32 #[.pointer (some ⟨q, 0, none⟩)] w (BytesR s.b w) := by
  obtain ⟨v, k, h1, h2, h3, h4, h5⟩ := h.at_
  have hm := h.most
  have H1 := Lib.hid h1
  have H2 := Lib.hid h2.bytes
  have HLE : Hid (([] : Bytes).length + s.b.length ≤ 140737488355328) := by show _ ≤ _; simp; omega
  have c0 := h1.c0
  clear h1 h2 h h3 h4 h5
  go_enter Try.func32, Try.ntmps32
  go_wp2_with (refine wpList_lit rfl 0 _ rfl #[] [] ?_ rfl rfl (by omega) ?_; (focus exact lit0 _))
  intro W3 v3 hh3 hb3
  have HH3 := Lib.hid hh3
  have HV6 := Lib.hid (H2.out.after hb3)
  have HB3 := Lib.hid hb3
  have c0 := (H1.out.after hb3).c0
  clear hh3 hb3
  go_wp2_with (at_builtin; refine wpList_append_bytes rfl _ _ rfl w.heap.size _ _ rfl HH3.out _ _ rfl HV6.out HLE.out HB3.out.size ?_)
  intro v5 W5 hh5 hg5
  have HH5 : Hid (Held W5 w.heap.size v5 s.b) := hh5
  have HB5 : Hid (Below w.heap.size w W5) := HB3.out.trans (hg5.below HH3.out HB3.out.size)
  clear hh5 hg5
  go_wp2
  go_ret
  exact ⟨_, rfl, HH5.out, HB5.out⟩
theorem rrecords_any (B q : Nat) (s : Lg) (w : World) (h : IsRLog B w q s) : Calls Try.prog 34 #[.pointer (some ⟨q, 0, none⟩)] w (RecsR (recs s.b) w) := by
  obtain ⟨v, k, h1, h2, h3, h4, h5⟩ := h.at_
  have hm := h.most
  have HWH := Lib.hid (rwhole_any q s.most (s.last * 64) k v s.b w h1 h2.bytes h3 (by omega))
  clear h1 h2 h h3 h4 h5
  go_enter Try.func34, Try.ntmps34
  go_wp2_with (go_at_call 45; refine HWH.out.mono ?_)
  rintro e W2 ⟨rv, rfl, hr, hb⟩
  have HR := Lib.hid hr
  have HB := Lib.hid hb
  clear hr hb HWH
  go_wp2
  go_ret
  exact ⟨_, rfl, HR.out, HB.out⟩
theorem rcount_any (B q : Nat) (s : Lg) (w : World) (h : IsRLog B w q s) : Calls Try.prog 50 #[.pointer (some ⟨q, 0, none⟩)] w fun e w' => e = .returned (.int .i64 ((recs s.b).length : Nat)) ∧ Below w.heap.size w w' := by
  have HRC := Lib.hid (rrecords_any B q s w h)
  obtain ⟨L, hL⟩ : ∃ L, recs s.b = L := ⟨_, rfl⟩
  rw [hL] at HRC ⊢
  clear h hL
  go_enter Try.func50, Try.ntmps50
  go_wp2_with (go_at_call 34; refine HRC.out.mono ?_)
  rintro e W2 ⟨rv, rfl, hr, hb⟩
  obtain ⟨a, c, rfl⟩ := hr.shape
  have HB := Lib.hid hb
  clear hr hb HRC
  go_wp2
  go_ret
  exact ⟨rfl, HB.out⟩
end Go.Proofs.Ytfiahkomabllaaa.L
