/- The document's Change. -/
import Derived.Test.YtacbfpgknfcimaaCRefO
namespace Go.Proofs.Ytacbfpgknfcimaa.C
open Go.RowKit T O
open Go.Lib hiding intOf

/-- The change's box stands, and the object's bytes; bytes of the change's beginning. -/
structure ChAt (w : World) (x : Ev) (vo : Value) (W : World) : Prop where
  box : BoxE W w.heap.size x
  o : BytesIn W vo (objB x.object)
  low : Below w.heap.size w W
theorem ChAt.after {w : World} {x : Ev} {vo : Value} {W W1 : World} (h : ChAt w x vo W) (hb : Below W.heap.size W W1) : ChAt w x vo W1 := ⟨h.box.after hb, h.o.after hb, h.low.trans (hb.mono h.low.size)⟩

set_option maxRecDepth 100000 in
set_option maxHeartbeats 8000000 in
theorem refChange_any (x : Ev) (hv : U64 x.version) (hf : Fits x.object) (w : World) : Calls Try.prog 15 #[encE x] w (Wrote w (rightB x.object) (evB x)) := by
  cases hr : rightB x.object with
  | false =>
    have HR := Lib.hid hr
    clear hr
    unfold encE
    go_enter Try.func15, Try.ntmps15
    go_upto_region 1 with (fail)
    refine wp_gen (fun W => BoxE W w.heap.size x ∧ Below w.heap.size w W) ⟨BoxE.new w x, (Below.refl _ _).alloc (Nat.le_refl _) _⟩ ?_
    rintro W1 ⟨hb, hlow⟩
    go_wp2_with ((with_reducible refine wpList_load_evo ?_ rfl ?_ hb ?_); rfl; rfl)
    refine (refObject_any x.object hf _).mono ?_
    rintro e W2 ⟨hb1, v, rfl, -⟩
    rw [HR.out]
    replace hlow := hlow.trans (hb1.mono hlow.size)
    clear hb1 hb
    go_wp2
    go_ret2
    exact ⟨hlow, _, rfl, Held.nil _ _⟩
  | true =>
    have HR := Lib.hid hr
    have HV := Lib.hid hv
    have HL := Lib.hid (objB_len (wf_fits hf hr).1 hr)
    clear hr hv
    unfold encE
    go_enter Try.func15, Try.ntmps15
    go_upto_region 1 with (fail)
    refine wp_gen (fun W => BoxE W w.heap.size x ∧ Below w.heap.size w W) ⟨BoxE.new w x, (Below.refl _ _).alloc (Nat.le_refl _) _⟩ ?_
    rintro W1 ⟨hb, hlow⟩
    go_wp2_with ((with_reducible refine wpList_load_evo ?_ rfl ?_ hb ?_); rfl; rfl)
    refine (refObject_any x.object hf _).mono ?_
    rintro e W2 ⟨hb1, vo, rfl, hH⟩
    rw [HR.out] at hH ⊢
    replace hH : Held W2 W1.heap.size vo (objB x.object) := hH
    have HC : ChAt w x vo W2 := ⟨hb.after hb1, hH.bytes, hlow.trans (hb1.mono hlow.size)⟩
    clear hb1 hb hlow hH
    go_upto_region 4 with (fail)
    refine wp_region_held_drew (S := fun W => BoxE W w.heap.size x) (by kernel_rfl) HC.box.drew (fun _ => ?_)
    refine HeldBy.gen (fun W => ChAt w x vo W) (HC.after ⟨rfl, rfl, rfl, Nat.le_refl _, fun _ _ => rfl⟩) ?_
    clear HC
    rintro U HC
    refine HeldBy.take (i := 0) rfl (by kernel_rfl) (by kernel_rfl) (by kernel_rfl) (fun _ _ _ h => h) (by rfl) (fun _ _ => by go_simp; rfl) (by go_simp; rfl) HC.box ?_
    refine HeldBy.take (i := 1) rfl (by kernel_rfl) (by kernel_rfl) (by kernel_rfl) (fun _ _ _ h => h) (by rfl) (fun _ h => by have c := BoxE.c0 h; go_simp; rfl) (by go_simp; rfl) HC.box ?_
    refine HeldBy.take (i := 3) rfl (by kernel_rfl) (by kernel_rfl) (by kernel_rfl) (fun _ _ _ h => h) (by rfl) (fun _ _ => by go_simp; rfl) (by go_simp; rfl) HC.box ?_
    refine HeldBy.take (i := 4) rfl (by kernel_rfl) (by kernel_rfl) (by kernel_rfl) (fun _ _ _ h => h) (by rfl) (fun _ h => by have c := BoxE.c1 h; go_simp; rfl) (by go_simp; rfl) HC.box ?_
    refine HeldBy.callE (i := 2) rfl (by kernel_rfl) (by rfl) (by go_simp; exact ⟨rfl, rfl⟩) (by intro v; go_simp; rfl) ?_
    refine (refNumber_any x.version HV.out _).mono ?_
    rintro e V1 ⟨t1, rfl, hH1, hb1⟩
    have hzU := hb1.size
    have hzw := HC.low.size
    refine .inl ⟨_, rfl, (HC.after hb1).box, ?_⟩
    refine HeldBy.call (i := 5) (v := .int .u8 (bitN x.gone 1)) rfl (by kernel_rfl) (by rfl) (by go_simp; exact ⟨rfl, rfl⟩) (by go_simp; rfl) ?_
    refine (bit_any x.gone 1 _).mono ?_
    rintro e V2 ⟨rfl, hV⟩
    subst hV
    refine ⟨rfl, (HC.after hb1).box, ?_⟩
    have hg01 : 0 ≤ bitN x.gone 1 ∧ bitN x.gone 1 ≤ 255 := by cases x.gone <;> decide
    have hgB : byteB (bitN x.gone 1) = goneB x.gone := by cases x.gone <;> decide
    have hT := bytes_new V1 (bitN x.gone 1) hg01
    rw [hgB] at hT
    refine HeldBy.value (i := 6) rfl (by kernel_rfl) (by rfl) (by go_simp; first | exact ⟨rfl, rfl⟩ | rfl) (by go_simp; rfl) (HC.after (hb1.alloc hzU (.cells #[.int .u8 (bitN x.gone 1)] 5 (0, 0)))).box ?_
    obtain ⟨v2, X2, hr1, hH2, hG2⟩ := run_append_bytes _ 30 U.heap.size _ _ (hH1.alloc (.cells #[.int .u8 (bitN x.gone 1)] 5 (0, 0))) _ _ hT (by have := intB_ten HV.out; simp [goneB]; omega) (by simp; omega)
    have hbX : Below U.heap.size U X2 := (hb1.alloc hzU _).trans (hG2.below (hH1.alloc _) (by simp; omega))
    refine HeldBy.value (i := 7) (v := v2) (w' := X2) rfl (by kernel_rfl) (by rfl) (exec_append rfl rfl rfl hr1) (by go_simp; rfl) (HC.after hbX).box ?_
    replace HC := HC.after hbX
    refine HeldBy.take (i := 8) rfl (by kernel_rfl) (by kernel_rfl) (by kernel_rfl) (fun _ _ _ h => h) (by rfl) (fun _ _ => by go_simp; rfl) (by go_simp; rfl) HC.box ?_
    refine wpAnyH_done (by kernel_rfl) ?_ _
    have hUX := hbX.size
    clear hr1 hT hb1 hH1 hG2 hbX
    have hvo := HC.o
    have HX : Hid ((intB x.version ++ goneB x.gone).length + (objB x.object).length ≤ 140737488355328) := by
      show _ ≤ _
      have h1 := intB_ten HV.out
      have h2 := HL.out.2
      rw [List.length_append]
      simp [goneB]
      omega
    go_wp2_with (at_builtin; refine wpList_append_bytes rfl (.tmp 24) (.tmp 25) rfl U.heap.size v2 _ ?_ hH2 vo _ ?_ hvo HX.out hUX ?_; rfl; rfl; intro v3 W4 hH3 hG3)
    have HF : Hid (Held W4 w.heap.size v3 (evB x) ∧ Below w.heap.size w W4) := by
      refine ⟨?_, HC.low.trans ((hG3.below hH2 hUX).mono hzw)⟩
      have := hH3.rebase (C := w.heap.size) (fun k hk => Nat.le_trans hzw (World.ownsRow.lt hH3 k hk).1)
      unfold evB
      rwa [List.append_assoc] at this
    clear hH2 hH3 hG3 hvo HX HC hUX
    go_wp2
    go_ret2
    exact ⟨HF.out.2, _, rfl, HF.out.1⟩
end Go.Proofs.Ytacbfpgknfcimaa.C
