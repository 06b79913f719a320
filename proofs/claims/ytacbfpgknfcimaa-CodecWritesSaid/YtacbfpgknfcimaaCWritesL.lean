/- The law CodecWrites: its walk. -/
import Derived.Test.YtacbfpgknfcimaaCRefC
namespace Go.Proofs.Ytacbfpgknfcimaa.C
open Go.RowKit T O
open Go.Lib hiding intOf

set_option maxRecDepth 100000 in
set_option maxHeartbeats 8000000 in
theorem codecWrites_any (x : Ev) (hv : U64 x.version) (hf : Fits x.object) (w : World) :
    Calls Try.prog 3 #[encE x] w fun e w' => e = .returned (.bool true) ∧ Below w.heap.size w w' := by
  obtain ⟨n, hn⟩ : ∃ n : Int, (if rightB x.object = true then (0 : Int) else 2) = n := ⟨_, rfl⟩
  obtain ⟨la, hla⟩ : ∃ l : Bytes, (if rightB x.object = true then objB x.object else []) = l := ⟨_, rfl⟩
  obtain ⟨lb, hlb⟩ : ∃ l : Bytes, (if rightB x.object = true then evB x else []) = l := ⟨_, rfl⟩
  have HN := Lib.hid hn
  have HA := Lib.hid hla
  have HB := Lib.hid hlb
  clear hn hla hlb
  unfold encE
  go_enter Try.func3, Try.ntmps3
  go_upto_region 1 with (fail)
  refine wp_gen (fun W => BoxE W w.heap.size x ∧ Below w.heap.size w W) ⟨BoxE.new w x, (Below.refl _ _).alloc (Nat.le_refl _) _⟩ ?_
  rintro W1 ⟨hb, hlow⟩
  go_wp2_with ((with_reducible refine wpList_load_evo ?_ rfl ?_ hb ?_); rfl; rfl)
  refine (object_any x.object hf _).mono ?_
  rintro e W2 ⟨hb1, va, rfl, hva⟩
  have hva := hva.bytes
  rw [HA.out] at hva
  rw [HN.out]
  replace hb := hb.after hb1
  replace hlow := hlow.trans (hb1.mono hlow.size)
  clear hb1
  go_wp2_with ((with_reducible refine wpList_load_evo ?_ rfl ?_ hb ?_); rfl; rfl)
  refine (refObject_any x.object hf _).mono ?_
  rintro e W3 ⟨hb1, vb, rfl, hvb⟩
  have hvb := hvb.bytes
  rw [HA.out] at hvb
  rw [HN.out]
  replace hb := hb.after hb1
  replace hva := hva.after hb1
  replace hlow := hlow.trans (hb1.mono hlow.size)
  clear hb1
  go_wp2_with ((with_reducible refine wpList_load_ev ?_ rfl ?_ hb ?_); rfl; rfl)
  refine (change_any x hv hf _).mono ?_
  rintro e W4 ⟨hb1, vc, rfl, hvc⟩
  have hvc := hvc.bytes
  rw [HB.out] at hvc
  rw [HN.out]
  replace hb := hb.after hb1
  replace hva := hva.after hb1
  replace hvb := hvb.after hb1
  replace hlow := hlow.trans (hb1.mono hlow.size)
  clear hb1
  go_wp2_with ((with_reducible refine wpList_load_ev ?_ rfl ?_ hb ?_); rfl; rfl)
  refine (refChange_any x hv hf _).mono ?_
  rintro e W5 ⟨hb1, vd, rfl, hvd⟩
  have hvd := hvd.bytes
  rw [HB.out] at hvd
  rw [HN.out]
  replace hva := hva.after hb1
  replace hvb := hvb.after hb1
  replace hvc := hvc.after hb1
  replace hlow := hlow.trans (hb1.mono hlow.size)
  clear hb1 hb
  go_wp2_with fail
  refine (live_any _).mono ?_
  rintro e W6 ⟨rfl, hb1⟩
  have c1 := (hva.after hb1).str 9 Try.underlying9
  have c2 := (hvb.after hb1).str 9 Try.underlying9
  have c3 := (hvc.after hb1).str 9 Try.underlying9
  have c4 := (hvd.after hb1).str 9 Try.underlying9
  replace hlow := hlow.trans (hb1.mono hlow.size)
  clear hb1 hva hvb hvc hvd
  generalize (⟨la.toArray⟩ : ByteArray) = S1 at *
  generalize (⟨lb.toArray⟩ : ByteArray) = S2 at *
  go_wp2
  go_ret
  exact ⟨rfl, hlow⟩
end Go.Proofs.Ytacbfpgknfcimaa.C
