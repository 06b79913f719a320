/- WorkqFull: its walk. -/
import Derived.Test.YtjmiodbpebaajaaWFull
import Derived.Laws.IdiomStrings
namespace Go.Proofs.Ytjmiodbpebaajaa.W
open Go Go.RowKit KM
open Go.Lib

theorem wpList_known {ops : Array Oper} {rest : List Oper} {oi : Oper} {a : Act} {W : World} {Q : Exit → Act → World → Prop} {v : Value} (hw : Region.wanted oi (yielded ops a.tmps) = true)
    (hv : (execOp a.eval oi).run Try.prog W = .ok (.value v) W) (hn : wpList Try.prog ops Q rest (a.put oi.dst v) W) : wpList Try.prog ops Q (oi :: rest) a W := by
  unfold wpList
  rw [if_pos hw]
  refine .inl ?_
  unfold Oper.wp
  rw [hv]
  exact hn

def kF (j : Nat) : Ky := ⟨6, ⟨#[UInt8.ofNat j, 120]⟩⟩
def keysF (n : Nat) : List Ky := (List.range n).map kF
def dueF : Nat → List (Ky × Value)
  | 0 => []
  | n + 1 => KM.put (kF n) (.int .u64 0) (dueF n)
theorem kF_inj {i j : Nat} (hi : i < 256) (hj : j < 256) (h : kF i = kF j) : i = j := by
  have h1 : (UInt8.ofNat i).toNat = (UInt8.ofNat j).toNat := by
    have h2 := congrArg (fun x : Ky => x.n.data[0]?) h
    simp only [kF] at h2
    have h3 : UInt8.ofNat i = UInt8.ofNat j := by simpa using h2
    rw [h3]
  rw [UInt8.toNat_ofNat', UInt8.toNat_ofNat'] at h1
  omega
theorem get_due_in {j : Nat} (hj : j < 256) : ∀ n, n ≤ 256 → j < n → KM.get (kF j) (dueF n) = some (.int .u64 0)
  | 0, _, h => by omega
  | n + 1, hn, h => by
    show KM.get (kF j) (KM.put (kF n) (.int .u64 0) (dueF n)) = _
    rw [get_put]
    by_cases e : kF j = kF n
    · rw [if_pos e]
    · rw [if_neg e]
      refine get_due_in hj n (by omega) ?_
      apply Classical.byContradiction
      intro h2
      have : j = n := by omega
      exact e (by rw [this])
theorem get_due_out {k : Ky} (hk : ∀ j, j < 256 → k ≠ kF j) : ∀ n, n ≤ 256 → KM.get k (dueF n) = none
  | 0, _ => rfl
  | n + 1, hn => by
    show KM.get k (KM.put (kF n) (.int .u64 0) (dueF n)) = _
    rw [get_put, if_neg (hk n (by omega))]
    exact get_due_out hk n (by omega)
theorem get_due_new {n : Nat} (hn : n < 256) : KM.get (kF n) (dueF n) = none := by
  have h : ∀ m, m ≤ n → KM.get (kF n) (dueF m) = none := by
    intro m
    induction m with
    | zero => intro _; rfl
    | succ m ih =>
      intro hm
      show KM.get (kF n) (KM.put (kF m) (.int .u64 0) (dueF m)) = _
      rw [get_put, if_neg (fun e => by have := kF_inj hn (by omega) e; omega)]
      exact ih (by omega)
  exact h n (Nat.le_refl _)
theorem keysF_len (n : Nat) : (keysF n).length = n := by simp [keysF]
theorem line_new {n : Nat} (hn : n < 256) : lineN (kF n) (dueF n) (keysF n) = keysF (n + 1) := by
  unfold lineN
  rw [get_due_new hn]
  simp [keysF, List.range_succ]
theorem line_old {k : Ky} {v : Value} {due : List (Ky × Value)} (h : KM.get k due = some v) (l : List Ky) : lineN k due l = l := by unfold lineN; rw [h]
/-- The key's bytes as a text. -/
theorem conv_key (V : World) (n : Nat) (hn : n < 256) : (convert 56 9 (.slice (some ⟨V.heap.size, 0, none⟩) 2 2)).run Try.prog (V.alloc (.cells #[.int .u8 (n : Int), .int .u8 120] 5 (0, 0))) = .ok (.string ⟨#[UInt8.ofNat n, 120]⟩) (V.alloc (.cells #[.int .u8 (n : Int), .int .u8 120] 5 (0, 0))) := by
  exact run_convert_bytes_back (P := Try.prog) (V.alloc (.cells #[.int .u8 (n : Int), .int .u8 120] 5 (0, 0))) 56 9 5 ⟨V.heap.size, 0, none⟩ 2 [UInt8.ofNat n, 120] Try.underlying56 Try.underlying5 Try.underlying9 (fun j hj => by
    have hj2 : j = 0 ∨ j = 1 := by simp at hj; omega
    rcases hj2 with rfl | rfl
    · refine (cell_of_row _ _ 0 _ _ _ (heap_alloc_new V _)).trans ?_
      show some (Value.int .u8 (n : Int)) = some (Value.int .u8 ((UInt8.ofNat n).toNat : Int))
      rw [UInt8.toNat_ofNat', Nat.mod_eq_of_lt (by omega)]
    · exact (cell_of_row _ _ 1 _ _ _ (heap_alloc_new V _)).trans rfl)
theorem exec_convK (V : World) (n : Nat) (hn : n < 256) {oi : Oper} {c : Act} {x : Operand} (ho : oi.op = .convert 56 9 x) (hx : c.eval x = .slice (some ⟨V.heap.size, 0, none⟩) 2 2) :
    (execOp c.eval oi).run Try.prog (V.alloc (.cells #[.int .u8 (n : Int), .int .u8 120] 5 (0, 0))) = .ok (.value (.string ⟨#[UInt8.ofNat n, 120]⟩)) (V.alloc (.cells #[.int .u8 (n : Int), .int .u8 120] 5 (0, 0))) := by
  unfold execOp
  simp only [ho, hx, Sem.run_bind, conv_key V n hn, Result.andThen_ok, Sem.run_pure]

/-- What holds between two keys. -/
structure Fills (w : World) (B R q bd bf : Nat) (k : Ky) (n : Nat) (W : World) : Prop where
  q : QIs B R W q bd bf (keysF n) (dueF n) []
  low : Below w.heap.size w W
  box : KAt W w.heap.size k

set_option maxRecDepth 100000 in
set_option maxHeartbeats 4000000 in
theorem full_yes (j : Nat) (hj : j < 256) (w : World) : Calls Try.prog 9 #[encK (kF j)] w fun e w' => e = .returned (.bool true) ∧ Below w.heap.size w w' := by
  unfold encK
  go_enter Try.func9, Try.ntmps9
  go_upto_region 1 with (fail)
  refine wp_gen (fun V => KAt V w.heap.size (kF j) ∧ Below w.heap.size w V ∧ V.heap.size = w.heap.size + 1) ⟨KAt.new w (kF j), (Below.refl _ _).alloc (Nat.le_refl _) _, by simp⟩ ?_
  rintro V ⟨hk, hlow, hs⟩
  have HK := Lib.hid hk
  have HL := Lib.hid hlow
  have HS := Lib.hid hs
  clear hk hlow hs
  go_wp2_with fail
  refine (new_any _).mono ?_
  rintro e W1 ⟨rfl, hq, hd, hf, hb, hs⟩
  have HF : Hid (Fills w (w.heap.size + 1) (V.heap.size + 3) (V.heap.size + 1 + 1) V.heap.size (V.heap.size + 1) (kF j) 0 W1) := by
    show Fills _ _ _ _ _ _ _ _ _
    have h1 := HS.out
    exact ⟨⟨⟨_, hq, World.ownsRow_nil _ _ _ _⟩, hd, hf, ⟨by omega, by omega, by omega⟩, by omega, by omega, by omega⟩, HL.out.trans (hb.mono HL.out.size), HK.out.after hb⟩
  have HB := Lib.hid (show V.heap.size = w.heap.size + 1 from HS.out)
  clear hq hd hf hb hs HK HL HS
  generalize V.heap.size = z at HF HB
  go_wp2
  go_loopw [4] (fun iv wr => ∃ n : Nat, iv = .int .i64 (n : Int) ∧ n ≤ 256 ∧ Fills w (w.heap.size + 1) (z + 3) (z + 1 + 1) z (z + 1) (kF j) n wr) (fun iv _ => (256 - intOf iv).toNat)
  case atStart => exact ⟨0, rfl, Nat.zero_le _, HF.out⟩
  case round =>
    clear HF
    obtain ⟨n, rfl, hn, hfl⟩ := hrel
    have HF := Lib.hid hfl
    clear hfl
    by_cases h : n < 256
    · have hw8 : IntKind.u8.wrap (n : Int) = n := by rw [IntKind.wrap_u8]; omega
      have hlt : (n : Int) < 256 := by omega
      go_wp2_with (refine wpList_known (v := .string ⟨#[UInt8.ofNat n, 120]⟩) rfl (exec_convK _ n h rfl rfl) ?_)
      refine (add_any (w.heap.size + 1) (z + 3) (z + 1 + 1) z (z + 1) _ _ _ (kF n) _ (HF.out.q.after ((Below.refl _ _).alloc (Nat.le_refl _) _)) (fun _ => by rw [keysF_len]; exact h)).mono ?_
      rintro e W2 ⟨rfl, hq, hb, -⟩
      rw [line_new h] at hq
      have hsz := HF.out.low.size
      have hwz := HF.out.box.lt
      have hb2 : Below (w.heap.size + 1) wr W2 := ((Below.refl wr.heap.size wr).alloc (Nat.le_refl _) _ |>.mono (by omega)).trans hb
      have HF2 : Hid (Fills w (w.heap.size + 1) (z + 3) (z + 1 + 1) z (z + 1) (kF j) (n + 1) W2) := ⟨hq, HF.out.low.trans (hb2.mono (by omega)), HF.out.box.of_heap (hb2.block _ (by omega))⟩
      clear hq hb hb2 HF hsz hwz
      go_wp2
      go_roundw
      case rel => exact ⟨n + 1, rfl, by omega, HF2.out⟩
      case measure => simp [intOf]; omega
    · obtain rfl : n = 256 := by omega
      clear h hn
      have hn : ((256 : Nat) : Int) = 256 := rfl
      obtain ⟨hq, hlow, hk⟩ := HF.out
      have HQ := Lib.hid hq
      have HL := Lib.hid hlow
      have HK := Lib.hid hk
      clear hq hlow hk HF hn
      go_upto_region 7 with (fail)
      have k0 : wr.cell? ⟨w.heap.size, 0, none⟩ = some (.int .u8 6) := HK.out.c0
      have k1 : wr.cell? ⟨w.heap.size, 1, none⟩ = some (.string ⟨#[UInt8.ofNat j, 120]⟩) := HK.out.c1
      go_upto_region 8 with (fail)
      clear k0 k1
      refine wp_region_held_drew (S := fun V => KAt V w.heap.size (kF j)) (by kernel_rfl) HK.out (fun _ => ?_)
      refine HeldBy.gen (fun V => (KAt V w.heap.size (kF j)) ∧ (QIs (w.heap.size + 1) (z + 3) V (z + 1 + 1) z (z + 1) (keysF 256) (dueF 256) []) ∧ (Below w.heap.size w V)) ⟨HK.out, HQ.out.drew, HL.out.drew⟩ ?_
      clear HK HQ HL
      rintro U0 ⟨HS, HQ, HL⟩
      refine HeldBy.take (i := 0) rfl (by kernel_rfl) (by kernel_rfl) (by kernel_rfl) (fun _ _ _ h => h) (by rfl) (fun _ _ => by first | (go_simp; rfl) | (go_simp; done)) (by first | (go_simp; rfl) | (go_simp; done)) HS ?_
      refine HeldBy.take (i := 1) rfl (by kernel_rfl) (by kernel_rfl) (by kernel_rfl) (fun _ _ _ h => h) (by rfl) (fun V hV => by have h0 := hV.c0; have h1 := hV.c1; first | (go_simp; rfl) | (go_simp; done)) (by first | (go_simp; rfl) | (go_simp; done)) HS ?_
      refine HeldBy.take (i := 3) rfl (by kernel_rfl) (by kernel_rfl) (by kernel_rfl) (fun _ _ _ h => h) (by rfl) (fun _ _ => by first | (go_simp; rfl) | (go_simp; done)) (by first | (go_simp; rfl) | (go_simp; done)) HS ?_
      refine HeldBy.take (i := 4) rfl (by kernel_rfl) (by kernel_rfl) (by kernel_rfl) (fun _ _ _ h => h) (by rfl) (fun V hV => by have h0 := hV.c0; have h1 := hV.c1; first | (go_simp; rfl) | (go_simp; done)) (by first | (go_simp; rfl) | (go_simp; done)) HS ?_
      refine HeldBy.call (i := 2) (v := .int .i64 0) rfl (by kernel_rfl) (by rfl) (by go_simp; exact ⟨rfl, rfl⟩) (by go_simp; rfl) ?_
      refine (add_any (w.heap.size + 1) (z + 3) (z + 1 + 1) z (z + 1) _ _ _ (kF j) _ HQ (fun h => by rw [get_due_in hj 256 (by omega) hj] at h; cases h)).mono ?_
      rintro e U1 ⟨rfl, hq, hb, -⟩
      rw [line_old (get_due_in hj 256 (by omega) hj)] at hq
      have hK1 : KAt U1 w.heap.size (kF j) := HS.of_heap (hb.block _ (by omega))
      refine ⟨rfl, hK1, ?_⟩
      refine HeldBy.call (i := 5) (v := .int .i64 0) rfl (by kernel_rfl) (by rfl) (by go_simp; exact ⟨rfl, rfl⟩) (by go_simp; rfl) ?_
      refine (fail_any (w.heap.size + 1) (z + 3) (z + 1 + 1) z (z + 1) _ _ _ (kF j) 5 0 1 _ hq (.inl ⟨rfl, rfl⟩) (by omega) (by omega) (by omega) (fun h => by rw [get_put, if_pos rfl] at h; cases h)).mono ?_
      rintro e U2 ⟨rfl, hq2, hb2, -⟩
      rw [line_old (show KM.get (kF j) (KM.put (kF j) (.int .u64 0) (dueF 256)) = some (.int .u64 0) by rw [get_put, if_pos rfl])] at hq2
      have hK2 : KAt U2 w.heap.size (kF j) := hK1.of_heap (hb2.block _ (by omega))
      refine ⟨rfl, hK2, ?_⟩
      replace HS := hK2
      refine HeldBy.take (i := 6) rfl (by kernel_rfl) (by kernel_rfl) (by kernel_rfl) (fun _ _ _ h => h) (by rfl) (fun _ _ => by first | (go_simp; rfl) | (go_simp; done)) (by go_simp; rfl) HS ?_
      refine HeldBy.take (i := 7) rfl (by kernel_rfl) (by kernel_rfl) (by kernel_rfl) (fun _ _ _ h => h) (by rfl) (fun _ _ => by first | (go_simp; rfl) | (go_simp; done)) (by go_simp; rfl) HS ?_
      refine wpAnyH_done (by kernel_rfl) ?_ _
      have HQ2 := Lib.hid hq2
      have HL2 := Lib.hid (HL.trans (((hb.trans hb2)).mono (by omega)))
      clear HQ HL hq hb hq2 hb2 hK1 hK2 HS
      go_wp2_with fail
      refine (live_any _).mono ?_
      rintro e V1 ⟨rfl, hb⟩
      replace HL2 := Lib.hid (HL2.out.trans (hb.mono HL2.out.size))
      have hlen := qlen_any _ _ _ _ _ _ _ _ _ (HQ2.out.after hb)
      rw [keysF_len] at hlen
      have HN := Lib.hid hlen
      clear hb hlen HQ2
      go_wp2_with fail
      refine HN.out.mono ?_
      rintro e V2 ⟨rfl, rfl⟩
      clear HN
      go_wp2
      go_ret
      exact ⟨rfl, HL2.out⟩
set_option maxRecDepth 100000 in
set_option maxHeartbeats 4000000 in
theorem full_kind (k : Ky) (hk : ∀ j, j < 256 → k ≠ kF j) (hc : (k.k == 6) = false) (w : World) : Calls Try.prog 9 #[encK k] w fun e w' => e = .returned (.bool true) ∧ Below w.heap.size w w' := by
  have HG := Lib.hid (get_due_out hk 256 (Nat.le_refl _))
  clear hk
  unfold encK
  go_enter Try.func9, Try.ntmps9
  go_upto_region 1 with (fail)
  refine wp_gen (fun V => KAt V w.heap.size k ∧ Below w.heap.size w V ∧ V.heap.size = w.heap.size + 1) ⟨KAt.new w k, (Below.refl _ _).alloc (Nat.le_refl _) _, by simp⟩ ?_
  rintro V ⟨hk, hlow, hs⟩
  have HK := Lib.hid hk
  have HL := Lib.hid hlow
  have HS := Lib.hid hs
  clear hk hlow hs
  go_wp2_with fail
  refine (new_any _).mono ?_
  rintro e W1 ⟨rfl, hq, hd, hf, hb, hs⟩
  have HF : Hid (Fills w (w.heap.size + 1) (V.heap.size + 3) (V.heap.size + 1 + 1) V.heap.size (V.heap.size + 1) k 0 W1) := by
    show Fills _ _ _ _ _ _ _ _ _
    have h1 := HS.out
    exact ⟨⟨⟨_, hq, World.ownsRow_nil _ _ _ _⟩, hd, hf, ⟨by omega, by omega, by omega⟩, by omega, by omega, by omega⟩, HL.out.trans (hb.mono HL.out.size), HK.out.after hb⟩
  have HB := Lib.hid (show V.heap.size = w.heap.size + 1 from HS.out)
  clear hq hd hf hb hs HK HL HS
  generalize V.heap.size = z at HF HB
  go_wp2
  go_loopw [4] (fun iv wr => ∃ n : Nat, iv = .int .i64 (n : Int) ∧ n ≤ 256 ∧ Fills w (w.heap.size + 1) (z + 3) (z + 1 + 1) z (z + 1) k n wr) (fun iv _ => (256 - intOf iv).toNat)
  case atStart => exact ⟨0, rfl, Nat.zero_le _, HF.out⟩
  case round =>
    clear HF
    obtain ⟨n, rfl, hn, hfl⟩ := hrel
    have HF := Lib.hid hfl
    clear hfl
    by_cases h : n < 256
    · have hw8 : IntKind.u8.wrap (n : Int) = n := by rw [IntKind.wrap_u8]; omega
      have hlt : (n : Int) < 256 := by omega
      go_wp2_with (refine wpList_known (v := .string ⟨#[UInt8.ofNat n, 120]⟩) rfl (exec_convK _ n h rfl rfl) ?_)
      refine (add_any (w.heap.size + 1) (z + 3) (z + 1 + 1) z (z + 1) _ _ _ (kF n) _ (HF.out.q.after ((Below.refl _ _).alloc (Nat.le_refl _) _)) (fun _ => by rw [keysF_len]; exact h)).mono ?_
      rintro e W2 ⟨rfl, hq, hb, -⟩
      rw [line_new h] at hq
      have hsz := HF.out.low.size
      have hwz := HF.out.box.lt
      have hb2 : Below (w.heap.size + 1) wr W2 := ((Below.refl wr.heap.size wr).alloc (Nat.le_refl _) _ |>.mono (by omega)).trans hb
      have HF2 : Hid (Fills w (w.heap.size + 1) (z + 3) (z + 1 + 1) z (z + 1) k (n + 1) W2) := ⟨hq, HF.out.low.trans (hb2.mono (by omega)), HF.out.box.of_heap (hb2.block _ (by omega))⟩
      clear hq hb hb2 HF hsz hwz
      go_wp2
      go_roundw
      case rel => exact ⟨n + 1, rfl, by omega, HF2.out⟩
      case measure => simp [intOf]; omega
    · obtain rfl : n = 256 := by omega
      clear h hn
      have hn : ((256 : Nat) : Int) = 256 := rfl
      obtain ⟨hq, hlow, hk⟩ := HF.out
      have HQ := Lib.hid hq
      have HL := Lib.hid hlow
      have HK := Lib.hid hk
      clear hq hlow hk HF hn
      go_upto_region 7 with (fail)
      have k0 : wr.cell? ⟨w.heap.size, 0, none⟩ = some (.int .u8 k.k) := HK.out.c0
      go_upto_region 8 with (fail)
      clear k0
      refine wp_region_held_drew (S := fun V => KAt V w.heap.size k) (by kernel_rfl) HK.out (fun _ => ?_)
      refine HeldBy.gen (fun V => (KAt V w.heap.size k) ∧ (QIs (w.heap.size + 1) (z + 3) V (z + 1 + 1) z (z + 1) (keysF 256) (dueF 256) []) ∧ (Below w.heap.size w V)) ⟨HK.out, HQ.out.drew, HL.out.drew⟩ ?_
      clear HK HQ HL
      rintro U0 ⟨HS, HQ, HL⟩
      refine HeldBy.take (i := 0) rfl (by kernel_rfl) (by kernel_rfl) (by kernel_rfl) (fun _ _ _ h => h) (by rfl) (fun _ _ => by first | (go_simp; rfl) | (go_simp; done)) (by first | (go_simp; rfl) | (go_simp; done)) HS ?_
      refine HeldBy.take (i := 1) rfl (by kernel_rfl) (by kernel_rfl) (by kernel_rfl) (fun _ _ _ h => h) (by rfl) (fun V hV => by have h0 := hV.c0; have h1 := hV.c1; first | (go_simp; rfl) | (go_simp; done)) (by first | (go_simp; rfl) | (go_simp; done)) HS ?_
      refine HeldBy.take (i := 3) rfl (by kernel_rfl) (by kernel_rfl) (by kernel_rfl) (fun _ _ _ h => h) (by rfl) (fun _ _ => by first | (go_simp; rfl) | (go_simp; done)) (by first | (go_simp; rfl) | (go_simp; done)) HS ?_
      refine HeldBy.take (i := 4) rfl (by kernel_rfl) (by kernel_rfl) (by kernel_rfl) (fun _ _ _ h => h) (by rfl) (fun V hV => by have h0 := hV.c0; have h1 := hV.c1; first | (go_simp; rfl) | (go_simp; done)) (by first | (go_simp; rfl) | (go_simp; done)) HS ?_
      refine HeldBy.call (i := 2) (v := .int .i64 7) rfl (by kernel_rfl) (by rfl) (by go_simp; exact ⟨rfl, rfl⟩) (by go_simp; rfl) ?_
      refine (add_full (w.heap.size + 1) (z + 3) (z + 1 + 1) z (z + 1) _ _ _ k _ HQ HG.out (by rw [keysF_len]; omega)).mono ?_
      rintro e U1 ⟨rfl, hq, hb⟩
      have hK1 : KAt U1 w.heap.size k := HS.after hb
      refine ⟨rfl, hK1, ?_⟩
      refine HeldBy.call (i := 5) (v := .int .i64 7) rfl (by kernel_rfl) (by rfl) (by go_simp; exact ⟨rfl, rfl⟩) (by go_simp; rfl) ?_
      refine (fail_full (w.heap.size + 1) (z + 3) (z + 1 + 1) z (z + 1) _ _ _ k 5 0 1 _ hq (.inl ⟨rfl, rfl⟩) (by omega) (by omega) (by omega) HG.out (by rw [keysF_len]; omega)).mono ?_
      rintro e U2 ⟨rfl, hq2, hb2⟩
      have hK2 : KAt U2 w.heap.size k := hK1.after hb2
      refine ⟨rfl, hK2, ?_⟩
      replace HS := hK2
      refine HeldBy.take (i := 6) rfl (by kernel_rfl) (by kernel_rfl) (by kernel_rfl) (fun _ _ _ h => h) (by rfl) (fun _ _ => by first | (go_simp; rfl) | (go_simp; done)) (by go_simp; rfl) HS ?_
      refine HeldBy.take (i := 7) rfl (by kernel_rfl) (by kernel_rfl) (by kernel_rfl) (fun _ _ _ h => h) (by rfl) (fun _ _ => by first | (go_simp; rfl) | (go_simp; done)) (by go_simp; rfl) HS ?_
      refine wpAnyH_done (by kernel_rfl) ?_ _
      have HQ2 := Lib.hid hq2
      have HL2 := Lib.hid ((HL.trans (hb.mono HL.size)).trans (hb2.mono (by have := HL.size; have := hb.size; omega)))
      have HK2 := Lib.hid hK2
      clear HQ HL hq hb hq2 hb2 hK1 hK2 HS HG
      go_wp2_with fail
      refine (live_any _).mono ?_
      rintro e V1 ⟨rfl, hb⟩
      replace HL2 := Lib.hid (HL2.out.trans (hb.mono HL2.out.size))
      replace HQ2 := Lib.hid (HQ2.out.after hb)
      replace HK2 := Lib.hid (HK2.out.after hb)
      have hlen := qlen_any _ _ _ _ _ _ _ _ _ HQ2.out
      rw [keysF_len] at hlen
      have HN := Lib.hid hlen
      have k0 : V1.cell? ⟨w.heap.size, 0, none⟩ = some (.int .u8 k.k) := HK2.out.c0
      have k1 : V1.cell? ⟨w.heap.size, 1, none⟩ = some (.string k.n) := HK2.out.c1
      clear hb hlen
      go_wp2_with fail
      refine HN.out.mono ?_
      rintro e V2 ⟨rfl, rfl⟩
      clear HN
      go_wp2_with fail
      refine (fails_any _ _ _ _ _ _ _ _ k 0 _ HQ2.out (.inl ⟨rfl, rfl⟩)).mono ?_
      rintro e V3 ⟨rfl, hb⟩
      replace HL2 := Lib.hid (HL2.out.trans (hb.mono HL2.out.size))
      clear hb HQ2 HK2 k0 k1
      go_wp2
      go_ret
      exact ⟨rfl, HL2.out⟩
set_option maxRecDepth 100000 in
set_option maxHeartbeats 4000000 in
theorem full_len (s : ByteArray) (hk : ∀ j, j < 256 → (⟨6, s⟩ : Ky) ≠ kF j) (hc : ((s.size : Int) == 2) = false) (w : World) : Calls Try.prog 9 #[encK ⟨6, s⟩] w fun e w' => e = .returned (.bool true) ∧ Below w.heap.size w w' := by
  have HG := Lib.hid (get_due_out hk 256 (Nat.le_refl _))
  clear hk
  unfold encK
  go_enter Try.func9, Try.ntmps9
  go_upto_region 1 with (fail)
  refine wp_gen (fun V => KAt V w.heap.size ⟨6, s⟩ ∧ Below w.heap.size w V ∧ V.heap.size = w.heap.size + 1) ⟨KAt.new w ⟨6, s⟩, (Below.refl _ _).alloc (Nat.le_refl _) _, by simp⟩ ?_
  rintro V ⟨hk, hlow, hs⟩
  have HK := Lib.hid hk
  have HL := Lib.hid hlow
  have HS := Lib.hid hs
  clear hk hlow hs
  go_wp2_with fail
  refine (new_any _).mono ?_
  rintro e W1 ⟨rfl, hq, hd, hf, hb, hs⟩
  have HF : Hid (Fills w (w.heap.size + 1) (V.heap.size + 3) (V.heap.size + 1 + 1) V.heap.size (V.heap.size + 1) ⟨6, s⟩ 0 W1) := by
    show Fills _ _ _ _ _ _ _ _ _
    have h1 := HS.out
    exact ⟨⟨⟨_, hq, World.ownsRow_nil _ _ _ _⟩, hd, hf, ⟨by omega, by omega, by omega⟩, by omega, by omega, by omega⟩, HL.out.trans (hb.mono HL.out.size), HK.out.after hb⟩
  have HB := Lib.hid (show V.heap.size = w.heap.size + 1 from HS.out)
  clear hq hd hf hb hs HK HL HS
  generalize V.heap.size = z at HF HB
  go_wp2
  go_loopw [4] (fun iv wr => ∃ n : Nat, iv = .int .i64 (n : Int) ∧ n ≤ 256 ∧ Fills w (w.heap.size + 1) (z + 3) (z + 1 + 1) z (z + 1) ⟨6, s⟩ n wr) (fun iv _ => (256 - intOf iv).toNat)
  case atStart => exact ⟨0, rfl, Nat.zero_le _, HF.out⟩
  case round =>
    clear HF
    obtain ⟨n, rfl, hn, hfl⟩ := hrel
    have HF := Lib.hid hfl
    clear hfl
    by_cases h : n < 256
    · have hw8 : IntKind.u8.wrap (n : Int) = n := by rw [IntKind.wrap_u8]; omega
      have hlt : (n : Int) < 256 := by omega
      go_wp2_with (refine wpList_known (v := .string ⟨#[UInt8.ofNat n, 120]⟩) rfl (exec_convK _ n h rfl rfl) ?_)
      refine (add_any (w.heap.size + 1) (z + 3) (z + 1 + 1) z (z + 1) _ _ _ (kF n) _ (HF.out.q.after ((Below.refl _ _).alloc (Nat.le_refl _) _)) (fun _ => by rw [keysF_len]; exact h)).mono ?_
      rintro e W2 ⟨rfl, hq, hb, -⟩
      rw [line_new h] at hq
      have hsz := HF.out.low.size
      have hwz := HF.out.box.lt
      have hb2 : Below (w.heap.size + 1) wr W2 := ((Below.refl wr.heap.size wr).alloc (Nat.le_refl _) _ |>.mono (by omega)).trans hb
      have HF2 : Hid (Fills w (w.heap.size + 1) (z + 3) (z + 1 + 1) z (z + 1) ⟨6, s⟩ (n + 1) W2) := ⟨hq, HF.out.low.trans (hb2.mono (by omega)), HF.out.box.of_heap (hb2.block _ (by omega))⟩
      clear hq hb hb2 HF hsz hwz
      go_wp2
      go_roundw
      case rel => exact ⟨n + 1, rfl, by omega, HF2.out⟩
      case measure => simp [intOf]; omega
    · obtain rfl : n = 256 := by omega
      clear h hn
      have hn : ((256 : Nat) : Int) = 256 := rfl
      obtain ⟨hq, hlow, hk⟩ := HF.out
      have HQ := Lib.hid hq
      have HL := Lib.hid hlow
      have HK := Lib.hid hk
      clear hq hlow hk HF hn
      go_upto_region 7 with (fail)
      have k0 : wr.cell? ⟨w.heap.size, 0, none⟩ = some (.int .u8 6) := HK.out.c0
      have k1 : wr.cell? ⟨w.heap.size, 1, none⟩ = some (.string s) := HK.out.c1
      go_upto_region 8 with (fail)
      clear k0 k1
      refine wp_region_held_drew (S := fun V => KAt V w.heap.size ⟨6, s⟩) (by kernel_rfl) HK.out (fun _ => ?_)
      refine HeldBy.gen (fun V => (KAt V w.heap.size ⟨6, s⟩) ∧ (QIs (w.heap.size + 1) (z + 3) V (z + 1 + 1) z (z + 1) (keysF 256) (dueF 256) []) ∧ (Below w.heap.size w V)) ⟨HK.out, HQ.out.drew, HL.out.drew⟩ ?_
      clear HK HQ HL
      rintro U0 ⟨HS, HQ, HL⟩
      refine HeldBy.take (i := 0) rfl (by kernel_rfl) (by kernel_rfl) (by kernel_rfl) (fun _ _ _ h => h) (by rfl) (fun _ _ => by first | (go_simp; rfl) | (go_simp; done)) (by first | (go_simp; rfl) | (go_simp; done)) HS ?_
      refine HeldBy.take (i := 1) rfl (by kernel_rfl) (by kernel_rfl) (by kernel_rfl) (fun _ _ _ h => h) (by rfl) (fun V hV => by have h0 := hV.c0; have h1 := hV.c1; first | (go_simp; rfl) | (go_simp; done)) (by first | (go_simp; rfl) | (go_simp; done)) HS ?_
      refine HeldBy.take (i := 3) rfl (by kernel_rfl) (by kernel_rfl) (by kernel_rfl) (fun _ _ _ h => h) (by rfl) (fun _ _ => by first | (go_simp; rfl) | (go_simp; done)) (by first | (go_simp; rfl) | (go_simp; done)) HS ?_
      refine HeldBy.take (i := 4) rfl (by kernel_rfl) (by kernel_rfl) (by kernel_rfl) (fun _ _ _ h => h) (by rfl) (fun V hV => by have h0 := hV.c0; have h1 := hV.c1; first | (go_simp; rfl) | (go_simp; done)) (by first | (go_simp; rfl) | (go_simp; done)) HS ?_
      refine HeldBy.call (i := 2) (v := .int .i64 7) rfl (by kernel_rfl) (by rfl) (by go_simp; exact ⟨rfl, rfl⟩) (by go_simp; rfl) ?_
      refine (add_full (w.heap.size + 1) (z + 3) (z + 1 + 1) z (z + 1) _ _ _ ⟨6, s⟩ _ HQ HG.out (by rw [keysF_len]; omega)).mono ?_
      rintro e U1 ⟨rfl, hq, hb⟩
      have hK1 : KAt U1 w.heap.size ⟨6, s⟩ := HS.after hb
      refine ⟨rfl, hK1, ?_⟩
      refine HeldBy.call (i := 5) (v := .int .i64 7) rfl (by kernel_rfl) (by rfl) (by go_simp; exact ⟨rfl, rfl⟩) (by go_simp; rfl) ?_
      refine (fail_full (w.heap.size + 1) (z + 3) (z + 1 + 1) z (z + 1) _ _ _ ⟨6, s⟩ 5 0 1 _ hq (.inl ⟨rfl, rfl⟩) (by omega) (by omega) (by omega) HG.out (by rw [keysF_len]; omega)).mono ?_
      rintro e U2 ⟨rfl, hq2, hb2⟩
      have hK2 : KAt U2 w.heap.size ⟨6, s⟩ := hK1.after hb2
      refine ⟨rfl, hK2, ?_⟩
      replace HS := hK2
      refine HeldBy.take (i := 6) rfl (by kernel_rfl) (by kernel_rfl) (by kernel_rfl) (fun _ _ _ h => h) (by rfl) (fun _ _ => by first | (go_simp; rfl) | (go_simp; done)) (by go_simp; rfl) HS ?_
      refine HeldBy.take (i := 7) rfl (by kernel_rfl) (by kernel_rfl) (by kernel_rfl) (fun _ _ _ h => h) (by rfl) (fun _ _ => by first | (go_simp; rfl) | (go_simp; done)) (by go_simp; rfl) HS ?_
      refine wpAnyH_done (by kernel_rfl) ?_ _
      have HQ2 := Lib.hid hq2
      have HL2 := Lib.hid ((HL.trans (hb.mono HL.size)).trans (hb2.mono (by have := HL.size; have := hb.size; omega)))
      have HK2 := Lib.hid hK2
      clear HQ HL hq hb hq2 hb2 hK1 hK2 HS HG
      go_wp2_with fail
      refine (live_any _).mono ?_
      rintro e V1 ⟨rfl, hb⟩
      replace HL2 := Lib.hid (HL2.out.trans (hb.mono HL2.out.size))
      replace HQ2 := Lib.hid (HQ2.out.after hb)
      replace HK2 := Lib.hid (HK2.out.after hb)
      have hlen := qlen_any _ _ _ _ _ _ _ _ _ HQ2.out
      rw [keysF_len] at hlen
      have HN := Lib.hid hlen
      have k0 : V1.cell? ⟨w.heap.size, 0, none⟩ = some (.int .u8 6) := HK2.out.c0
      have k1 : V1.cell? ⟨w.heap.size, 1, none⟩ = some (.string s) := HK2.out.c1
      clear hb hlen
      go_wp2_with fail
      refine HN.out.mono ?_
      rintro e V2 ⟨rfl, rfl⟩
      clear HN
      go_wp2_with fail
      refine (fails_any _ _ _ _ _ _ _ _ ⟨6, s⟩ 0 _ HQ2.out (.inl ⟨rfl, rfl⟩)).mono ?_
      rintro e V3 ⟨rfl, hb⟩
      replace HL2 := Lib.hid (HL2.out.trans (hb.mono HL2.out.size))
      clear hb HQ2 HK2 k0 k1
      go_wp2
      go_ret
      exact ⟨rfl, HL2.out⟩
set_option maxRecDepth 100000 in
set_option maxHeartbeats 4000000 in
theorem full_byte (a b : UInt8) (hk : ∀ j, j < 256 → (⟨6, ⟨#[a, b]⟩⟩ : Ky) ≠ kF j) (hc : ((b.toNat : Int) == 120) = false) (w : World) : Calls Try.prog 9 #[encK ⟨6, ⟨#[a, b]⟩⟩] w fun e w' => e = .returned (.bool true) ∧ Below w.heap.size w w' := by
  have hc2 : (((((⟨#[a, b]⟩ : ByteArray)[1]'(by show 1 < 2; decide)).toNat : Nat) : Int) == 120) = false := hc
  clear hc
  have HG := Lib.hid (get_due_out hk 256 (Nat.le_refl _))
  clear hk
  unfold encK
  go_enter Try.func9, Try.ntmps9
  go_upto_region 1 with (fail)
  refine wp_gen (fun V => KAt V w.heap.size ⟨6, ⟨#[a, b]⟩⟩ ∧ Below w.heap.size w V ∧ V.heap.size = w.heap.size + 1) ⟨KAt.new w ⟨6, ⟨#[a, b]⟩⟩, (Below.refl _ _).alloc (Nat.le_refl _) _, by simp⟩ ?_
  rintro V ⟨hk, hlow, hs⟩
  have HK := Lib.hid hk
  have HL := Lib.hid hlow
  have HS := Lib.hid hs
  clear hk hlow hs
  go_wp2_with fail
  refine (new_any _).mono ?_
  rintro e W1 ⟨rfl, hq, hd, hf, hb, hs⟩
  have HF : Hid (Fills w (w.heap.size + 1) (V.heap.size + 3) (V.heap.size + 1 + 1) V.heap.size (V.heap.size + 1) ⟨6, ⟨#[a, b]⟩⟩ 0 W1) := by
    show Fills _ _ _ _ _ _ _ _ _
    have h1 := HS.out
    exact ⟨⟨⟨_, hq, World.ownsRow_nil _ _ _ _⟩, hd, hf, ⟨by omega, by omega, by omega⟩, by omega, by omega, by omega⟩, HL.out.trans (hb.mono HL.out.size), HK.out.after hb⟩
  have HB := Lib.hid (show V.heap.size = w.heap.size + 1 from HS.out)
  clear hq hd hf hb hs HK HL HS
  generalize V.heap.size = z at HF HB
  go_wp2
  go_loopw [4] (fun iv wr => ∃ n : Nat, iv = .int .i64 (n : Int) ∧ n ≤ 256 ∧ Fills w (w.heap.size + 1) (z + 3) (z + 1 + 1) z (z + 1) ⟨6, ⟨#[a, b]⟩⟩ n wr) (fun iv _ => (256 - intOf iv).toNat)
  case atStart => exact ⟨0, rfl, Nat.zero_le _, HF.out⟩
  case round =>
    clear HF
    obtain ⟨n, rfl, hn, hfl⟩ := hrel
    have HF := Lib.hid hfl
    clear hfl
    by_cases h : n < 256
    · have hw8 : IntKind.u8.wrap (n : Int) = n := by rw [IntKind.wrap_u8]; omega
      have hlt : (n : Int) < 256 := by omega
      go_wp2_with (refine wpList_known (v := .string ⟨#[UInt8.ofNat n, 120]⟩) rfl (exec_convK _ n h rfl rfl) ?_)
      refine (add_any (w.heap.size + 1) (z + 3) (z + 1 + 1) z (z + 1) _ _ _ (kF n) _ (HF.out.q.after ((Below.refl _ _).alloc (Nat.le_refl _) _)) (fun _ => by rw [keysF_len]; exact h)).mono ?_
      rintro e W2 ⟨rfl, hq, hb, -⟩
      rw [line_new h] at hq
      have hsz := HF.out.low.size
      have hwz := HF.out.box.lt
      have hb2 : Below (w.heap.size + 1) wr W2 := ((Below.refl wr.heap.size wr).alloc (Nat.le_refl _) _ |>.mono (by omega)).trans hb
      have HF2 : Hid (Fills w (w.heap.size + 1) (z + 3) (z + 1 + 1) z (z + 1) ⟨6, ⟨#[a, b]⟩⟩ (n + 1) W2) := ⟨hq, HF.out.low.trans (hb2.mono (by omega)), HF.out.box.of_heap (hb2.block _ (by omega))⟩
      clear hq hb hb2 HF hsz hwz
      go_wp2
      go_roundw
      case rel => exact ⟨n + 1, rfl, by omega, HF2.out⟩
      case measure => simp [intOf]; omega
    · obtain rfl : n = 256 := by omega
      clear h hn
      have hn : ((256 : Nat) : Int) = 256 := rfl
      obtain ⟨hq, hlow, hk⟩ := HF.out
      have HQ := Lib.hid hq
      have HL := Lib.hid hlow
      have HK := Lib.hid hk
      clear hq hlow hk HF hn
      go_upto_region 7 with (fail)
      have k0 : wr.cell? ⟨w.heap.size, 0, none⟩ = some (.int .u8 6) := HK.out.c0
      have k1 : wr.cell? ⟨w.heap.size, 1, none⟩ = some (.string ⟨#[a, b]⟩) := HK.out.c1
      go_upto_region 8 with (fail)
      clear k0 k1
      refine wp_region_held_drew (S := fun V => KAt V w.heap.size ⟨6, ⟨#[a, b]⟩⟩) (by kernel_rfl) HK.out (fun _ => ?_)
      refine HeldBy.gen (fun V => (KAt V w.heap.size ⟨6, ⟨#[a, b]⟩⟩) ∧ (QIs (w.heap.size + 1) (z + 3) V (z + 1 + 1) z (z + 1) (keysF 256) (dueF 256) []) ∧ (Below w.heap.size w V)) ⟨HK.out, HQ.out.drew, HL.out.drew⟩ ?_
      clear HK HQ HL
      rintro U0 ⟨HS, HQ, HL⟩
      refine HeldBy.take (i := 0) rfl (by kernel_rfl) (by kernel_rfl) (by kernel_rfl) (fun _ _ _ h => h) (by rfl) (fun _ _ => by first | (go_simp; rfl) | (go_simp; done)) (by first | (go_simp; rfl) | (go_simp; done)) HS ?_
      refine HeldBy.take (i := 1) rfl (by kernel_rfl) (by kernel_rfl) (by kernel_rfl) (fun _ _ _ h => h) (by rfl) (fun V hV => by have h0 := hV.c0; have h1 := hV.c1; first | (go_simp; rfl) | (go_simp; done)) (by first | (go_simp; rfl) | (go_simp; done)) HS ?_
      refine HeldBy.take (i := 3) rfl (by kernel_rfl) (by kernel_rfl) (by kernel_rfl) (fun _ _ _ h => h) (by rfl) (fun _ _ => by first | (go_simp; rfl) | (go_simp; done)) (by first | (go_simp; rfl) | (go_simp; done)) HS ?_
      refine HeldBy.take (i := 4) rfl (by kernel_rfl) (by kernel_rfl) (by kernel_rfl) (fun _ _ _ h => h) (by rfl) (fun V hV => by have h0 := hV.c0; have h1 := hV.c1; first | (go_simp; rfl) | (go_simp; done)) (by first | (go_simp; rfl) | (go_simp; done)) HS ?_
      refine HeldBy.call (i := 2) (v := .int .i64 7) rfl (by kernel_rfl) (by rfl) (by go_simp; exact ⟨rfl, rfl⟩) (by go_simp; rfl) ?_
      refine (add_full (w.heap.size + 1) (z + 3) (z + 1 + 1) z (z + 1) _ _ _ ⟨6, ⟨#[a, b]⟩⟩ _ HQ HG.out (by rw [keysF_len]; omega)).mono ?_
      rintro e U1 ⟨rfl, hq, hb⟩
      have hK1 : KAt U1 w.heap.size ⟨6, ⟨#[a, b]⟩⟩ := HS.after hb
      refine ⟨rfl, hK1, ?_⟩
      refine HeldBy.call (i := 5) (v := .int .i64 7) rfl (by kernel_rfl) (by rfl) (by go_simp; exact ⟨rfl, rfl⟩) (by go_simp; rfl) ?_
      refine (fail_full (w.heap.size + 1) (z + 3) (z + 1 + 1) z (z + 1) _ _ _ ⟨6, ⟨#[a, b]⟩⟩ 5 0 1 _ hq (.inl ⟨rfl, rfl⟩) (by omega) (by omega) (by omega) HG.out (by rw [keysF_len]; omega)).mono ?_
      rintro e U2 ⟨rfl, hq2, hb2⟩
      have hK2 : KAt U2 w.heap.size ⟨6, ⟨#[a, b]⟩⟩ := hK1.after hb2
      refine ⟨rfl, hK2, ?_⟩
      replace HS := hK2
      refine HeldBy.take (i := 6) rfl (by kernel_rfl) (by kernel_rfl) (by kernel_rfl) (fun _ _ _ h => h) (by rfl) (fun _ _ => by first | (go_simp; rfl) | (go_simp; done)) (by go_simp; rfl) HS ?_
      refine HeldBy.take (i := 7) rfl (by kernel_rfl) (by kernel_rfl) (by kernel_rfl) (fun _ _ _ h => h) (by rfl) (fun _ _ => by first | (go_simp; rfl) | (go_simp; done)) (by go_simp; rfl) HS ?_
      refine wpAnyH_done (by kernel_rfl) ?_ _
      have HQ2 := Lib.hid hq2
      have HL2 := Lib.hid ((HL.trans (hb.mono HL.size)).trans (hb2.mono (by have := HL.size; have := hb.size; omega)))
      have HK2 := Lib.hid hK2
      clear HQ HL hq hb hq2 hb2 hK1 hK2 HS HG
      go_wp2_with fail
      refine (live_any _).mono ?_
      rintro e V1 ⟨rfl, hb⟩
      replace HL2 := Lib.hid (HL2.out.trans (hb.mono HL2.out.size))
      replace HQ2 := Lib.hid (HQ2.out.after hb)
      replace HK2 := Lib.hid (HK2.out.after hb)
      have hlen := qlen_any _ _ _ _ _ _ _ _ _ HQ2.out
      rw [keysF_len] at hlen
      have HN := Lib.hid hlen
      have k0 : V1.cell? ⟨w.heap.size, 0, none⟩ = some (.int .u8 6) := HK2.out.c0
      have k1 : V1.cell? ⟨w.heap.size, 1, none⟩ = some (.string ⟨#[a, b]⟩) := HK2.out.c1
      clear hb hlen
      go_wp2_with fail
      refine HN.out.mono ?_
      rintro e V2 ⟨rfl, rfl⟩
      clear HN
      go_wp2_with fail
      refine (fails_any _ _ _ _ _ _ _ _ ⟨6, ⟨#[a, b]⟩⟩ 0 _ HQ2.out (.inl ⟨rfl, rfl⟩)).mono ?_
      rintro e V3 ⟨rfl, hb⟩
      replace HL2 := Lib.hid (HL2.out.trans (hb.mono HL2.out.size))
      clear hb HQ2 HK2 k0 k1
      go_wp2
      go_ret
      exact ⟨rfl, HL2.out⟩

theorem workqFull_any (k : Ky) (w : World) : Calls Try.prog 9 #[encK k] w fun e w' => e = .returned (.bool true) ∧ Below w.heap.size w w' := by
  by_cases h : ∃ j, j < 256 ∧ k = kF j
  · obtain ⟨j, hj, rfl⟩ := h
    exact full_yes j hj w
  · have hk : ∀ j, j < 256 → k ≠ kF j := fun j hj e => h ⟨j, hj, e⟩
    clear h
    by_cases h6 : k.k = 6
    · obtain ⟨kk, n⟩ := k
      simp only at h6
      subst h6
      by_cases h2 : n.size = 2
      · obtain ⟨⟨l⟩⟩ := n
        have hl : l.length = 2 := h2
        match l, hl with
        | [a, b], _ =>
          refine full_byte a b hk ?_ w
          rw [beq_eq_false_iff_ne]
          intro e
          refine hk a.toNat (by have := a.toNat_lt; omega) ?_
          have hb : b = 120 := by
            apply UInt8.toNat_inj.1
            show b.toNat = 120
            omega
          unfold kF
          rw [hb]
          congr 3
          simp
      · exact full_len n hk (by rw [beq_eq_false_iff_ne]; omega) w
    · exact full_kind k hk (by rw [beq_eq_false_iff_ne]; exact h6) w
end Go.Proofs.Ytjmiodbpebaajaa.W
