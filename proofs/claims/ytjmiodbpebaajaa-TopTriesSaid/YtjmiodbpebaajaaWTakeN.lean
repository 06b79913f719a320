/- A queue that is nil: Take. -/
import Derived.Test.YtjmiodbpebaajaaWNil
import Derived.Laws.CopyOwn
namespace Go.Proofs.Ytjmiodbpebaajaa.W
open Go Go.RowKit KM
open Go.Lib

theorem results_ct {P : Program} {fn : Func} {p q : Tmp} {ty : TypeId} {tmps : Array Value} {w : World} {g : Nat} {x y : Value} (h : fn.results = #[.cell p ty, .tmp q]) (hp : tmps.getD p undef = .pointer (some ⟨g, 0, none⟩)) (hq : tmps.getD q undef = y)
    (h1 : (loadVar ty ⟨g, 0, none⟩).run P w = .ok x w) : (results fn tmps).run P w = .ok (.tuple #[x, y]) w := by
  have hp' : tmps[p]?.getD undef = .pointer (some ⟨g, 0, none⟩) := by simpa using hp
  have hq' : tmps[q]?.getD undef = y := by simpa using hq
  simp [results, h, hp', hq', asAddr, h1]
theorem load_kz {W : World} {b : Nat} {k : Ky} (h : KAt W b k) : (loadVar 25 ⟨b, 0, none⟩).run Try.prog W = .ok (encK k) W := run_loadVar_row W b 25 25 (#[.int .u8 k.k, .string k.n]) (0, 0) _ h Try.underlying25 rfl sizeK
theorem KAt.free {W : World} {b : Nat} {k : Ky} (h : KAt W b k) (i : Nat) : W.frozen? ⟨b, i, none⟩ = false := frozen_of_row W b i _ _ h
def K0 : Ky := ⟨0, ⟨#[]⟩⟩
theorem KAt.setRow {W : World} {b : Nat} {k : Ky} (h : KAt W b k) (y : Ky) : KAt (W.setRow b #[.int .u8 y.k, .string y.n]) b y := setRow_heap W b _ _ _ _ h

set_option maxRecDepth 100000 in
set_option maxHeartbeats 2000000 in
theorem take_nil (now : Int) (w : World) : Calls Try.prog 19 #[.pointer none, .int .u64 now] w fun e w' => e = .returned (.tuple #[encK K0, .bool false]) ∧ Below w.heap.size w w' := by
  go_enter Try.func19, Try.ntmps19
  go_upto_region 1 with (fail)
  refine wp_gen (fun V => KAt V w.heap.size K0 ∧ Below w.heap.size w V) ⟨KAt.new w K0, (Below.refl _ _).alloc (Nat.le_refl _) _⟩ ?_
  rintro V ⟨hk, hlow⟩
  have HK := Lib.hid hk
  have HL := Lib.hid hlow
  clear hk hlow
  go_wp2_with fail
  refine (first_nil _).mono ?_
  rintro e V1 ⟨rfl, hb⟩
  replace HK := Lib.hid (HK.out.after hb)
  replace HL := Lib.hid (HL.out.trans (hb.mono HL.out.size))
  clear hb
  go_upto_region 2 with (fail)
  refine wp_region_held_drew (S := fun V => KAt V w.heap.size K0 ∧ Below w.heap.size w V) (by kernel_rfl) ⟨HK.out, HL.out.drew⟩ (fun _ => ?_)
  refine HeldBy.gen (fun V => KAt V w.heap.size K0 ∧ Below w.heap.size w V) ⟨HK.out, HL.out.drew⟩ ?_
  clear HK HL
  rintro U0 HS
  refine HeldBy.take (i := 0) rfl (by kernel_rfl) (by kernel_rfl) (by kernel_rfl) (fun _ _ _ h => h) (by rfl) (fun _ _ => by first | (go_simp; rfl) | (go_simp; done)) (by go_simp; rfl) HS ?_
  refine HeldBy.take (i := 1) rfl (by kernel_rfl) (by kernel_rfl) (by kernel_rfl) (fun _ _ _ h => h) (by rfl) (fun _ _ => by first | (go_simp; rfl) | (go_simp; done)) (by go_simp; rfl) HS ?_
  refine HeldBy.take (i := 2) rfl (by kernel_rfl) (by kernel_rfl) (by kernel_rfl) (fun _ _ _ h => h) (by rfl) (fun _ _ => by first | (go_simp; rfl) | (go_simp; done)) (by go_simp; rfl) HS ?_
  refine HeldBy.skip (i := 3) rfl (by kernel_rfl) (by kernel_rfl) (by kernel_rfl) (fun _ _ _ h => h) (by rfl) (by go_simp; rfl) HS ?_
  refine HeldBy.skip (i := 4) rfl (by kernel_rfl) (by kernel_rfl) (by kernel_rfl) (fun _ _ _ h => h) (by rfl) (by go_simp; rfl) HS ?_
  refine HeldBy.skip (i := 5) rfl (by kernel_rfl) (by kernel_rfl) (by kernel_rfl) (fun _ _ _ h => h) (by rfl) (by go_simp; rfl) HS ?_
  refine HeldBy.skip (i := 6) rfl (by kernel_rfl) (by kernel_rfl) (by kernel_rfl) (fun _ _ _ h => h) (by rfl) (by go_simp; rfl) HS ?_
  refine HeldBy.skip (i := 7) rfl (by kernel_rfl) (by kernel_rfl) (by kernel_rfl) (fun _ _ _ h => h) (by rfl) (by go_simp; rfl) HS ?_
  refine HeldBy.skip (i := 8) rfl (by kernel_rfl) (by kernel_rfl) (by kernel_rfl) (fun _ _ _ h => h) (by rfl) (by go_simp; rfl) HS ?_
  refine HeldBy.skip (i := 9) rfl (by kernel_rfl) (by kernel_rfl) (by kernel_rfl) (fun _ _ _ h => h) (by rfl) (by go_simp; rfl) HS ?_
  refine HeldBy.skip (i := 10) rfl (by kernel_rfl) (by kernel_rfl) (by kernel_rfl) (fun _ _ _ h => h) (by rfl) (by go_simp; rfl) HS ?_
  refine HeldBy.skip (i := 11) rfl (by kernel_rfl) (by kernel_rfl) (by kernel_rfl) (fun _ _ _ h => h) (by rfl) (by go_simp; rfl) HS ?_
  refine HeldBy.skip (i := 12) rfl (by kernel_rfl) (by kernel_rfl) (by kernel_rfl) (fun _ _ _ h => h) (by rfl) (by go_simp; rfl) HS ?_
  refine HeldBy.skip (i := 13) rfl (by kernel_rfl) (by kernel_rfl) (by kernel_rfl) (fun _ _ _ h => h) (by rfl) (by go_simp; rfl) HS ?_
  refine HeldBy.skip (i := 14) rfl (by kernel_rfl) (by kernel_rfl) (by kernel_rfl) (fun _ _ _ h => h) (by rfl) (by go_simp; rfl) HS ?_
  refine HeldBy.skip (i := 15) rfl (by kernel_rfl) (by kernel_rfl) (by kernel_rfl) (fun _ _ _ h => h) (by rfl) (by go_simp; rfl) HS ?_
  refine HeldBy.skip (i := 16) rfl (by kernel_rfl) (by kernel_rfl) (by kernel_rfl) (fun _ _ _ h => h) (by rfl) (by go_simp; rfl) HS ?_
  refine HeldBy.take (i := 17) rfl (by kernel_rfl) (by kernel_rfl) (by kernel_rfl) (fun _ _ _ h => h) (by rfl) (fun _ _ => by first | (go_simp; rfl) | (go_simp; done)) (by go_simp; rfl) HS ?_
  refine wpAnyH_done (by kernel_rfl) ?_ _
  have HK := Lib.hid HS.1
  have HL := Lib.hid HS.2
  have fz0 := HS.1.free 0
  have fz1 := HS.1.free 1
  have k0 : U0.cell? ⟨w.heap.size, 0, none⟩ = some (.int .u8 0) := HS.1.c0
  have k1 : U0.cell? ⟨w.heap.size, 1, none⟩ = some (.string ⟨#[]⟩) := HS.1.c1
  have h1 := heap_setCell_same U0 w.heap.size 0 _ _ (.int .u8 0) HS.1
  have h2 := heap_setCell_same _ w.heap.size 1 _ _ (.string ⟨#[]⟩) h1
  have HV := Lib.hid (load_kz (k := K0) (h2.trans rfl))
  have HF := Lib.hid ((HS.2.setCell (p := ⟨w.heap.size, 0, none⟩) (Nat.le_refl _) (.int .u8 0)).setCell (p := ⟨w.heap.size, 1, none⟩) (Nat.le_refl _) (.string ⟨#[]⟩))
  clear HS HK HL h1 h2
  go_wp2
  refine bodyPost_ret (v := .tuple #[encK K0, .bool false]) (results_ct rfl rfl rfl HV.out) rfl ⟨rfl, HF.out⟩
end Go.Proofs.Ytjmiodbpebaajaa.W
