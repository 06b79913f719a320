/- The law ObjectRights: its walk. Laid by mklaw.py. -/
import Derived.Test.YtlnkhngfecdflaaOLive
import Derived.Test.YtlnkhngfecdflaaORefUser
namespace Go.Proofs.Ytlnkhngfecdflaa.O
open Go.RowKit T
open Go.Lib hiding intOf

set_option maxRecDepth 100000 in
set_option maxHeartbeats 4000000 in
theorem objectRights_any (o : Obj) (w : World) (hf : Fit o) :
    Calls Try.prog 3 #[encO o] w fun e w' => e = .returned (.bool true) ∧ Below w.heap.size w w' := by
  have HF := Lib.hid hf
  unfold encO
  go_enter Try.func3, Try.ntmps3
  go_upto_region 1 with (fail)
  refine wp_gen (fun W => BoxO W w.heap.size o ∧ Below w.heap.size w W) ⟨BoxO.new w o, (Below.refl _ _).alloc (Nat.le_refl _) _⟩ ?_
  rintro W1 ⟨hS, hlow⟩
  refine wp_region_held_drew (S := fun W => BoxO W w.heap.size o) (by kernel_rfl) hS.drew (fun _ => ?_)
  refine HeldBy.gen (fun W => BoxO W w.heap.size o ∧ Below w.heap.size w W) ⟨hS.drew, hlow.drew⟩ ?_
  clear hS hlow
  rintro V0 ⟨hS, hlow⟩
  refine HeldBy.call (i := 0) (v := .bool true) rfl (by kernel_rfl) (by rfl) (by go_simp; exact ⟨rfl, rfl⟩) (by go_simp; rfl) ?_
  refine (live_any _).mono ?_
  rintro e V1 ⟨rfl, hb1⟩
  refine ⟨rfl, (hS).after hb1, ?_⟩
  replace hS : BoxO V1 w.heap.size o := (hS).after hb1
  replace hlow := hlow.trans (hb1.mono hlow.size)
  clear hb1
  refine HeldBy.take (i := 1) rfl (by kernel_rfl) (by kernel_rfl) (by kernel_rfl) (fun _ _ _ h => h) (by rfl) (fun _ _ => by go_simp; rfl) (by go_simp; rfl) hS ?_
  refine HeldBy.take (i := 2) rfl (by kernel_rfl) (by kernel_rfl) (by kernel_rfl) (fun _ _ _ h => h) (by rfl) (fun _ h => load_obj h rfl (by go_simp)) (by go_simp; rfl) hS ?_
  refine HeldBy.take (i := 4) rfl (by kernel_rfl) (by kernel_rfl) (by kernel_rfl) (fun _ _ _ h => h) (by rfl) (fun _ h => load_obj h rfl (by go_simp)) (by go_simp; rfl) hS ?_
  refine HeldBy.call (i := 3) (v := .bool (rightB o)) rfl (by kernel_rfl) (by rfl) (by go_simp; exact ⟨rfl, rfl⟩) (by go_simp; rfl) ?_
  refine (right_any o _).mono ?_
  rintro e V2 ⟨rfl, hb1⟩
  refine ⟨rfl, (hS).after hb1, ?_⟩
  replace hS : BoxO V2 w.heap.size o := (hS).after hb1
  replace hlow := hlow.trans (hb1.mono hlow.size)
  clear hb1
  refine HeldBy.call (i := 5) (v := .bool (rightB o)) rfl (by kernel_rfl) (by rfl) (by go_simp; exact ⟨rfl, rfl⟩) (by go_simp; rfl) ?_
  refine (refRight_any o _ HF.out).mono ?_
  rintro e V3 ⟨rfl, hb1⟩
  refine ⟨rfl, (hS).after hb1, ?_⟩
  replace hS : BoxO V3 w.heap.size o := (hS).after hb1
  replace hlow := hlow.trans (hb1.mono hlow.size)
  clear hb1
  refine HeldBy.take (i := 6) (v := .bool true) rfl (by kernel_rfl) (by kernel_rfl) (by kernel_rfl) (fun _ _ _ h => h) (by rfl) (fun _ _ => by first | (go_simp; done) | (go_simp; simp)) (by go_simp; rfl) hS ?_
  refine HeldBy.take (i := 7) rfl (by kernel_rfl) (by kernel_rfl) (by kernel_rfl) (fun _ _ _ h => h) (by rfl) (fun _ _ => by go_simp; rfl) (by go_simp; rfl) hS ?_
  refine HeldBy.take (i := 8) rfl (by kernel_rfl) (by kernel_rfl) (by kernel_rfl) (fun _ _ _ h => h) (by rfl) (fun _ _ => by go_simp; rfl) (by go_simp; rfl) hS ?_
  refine HeldBy.take (i := 9) rfl (by kernel_rfl) (by kernel_rfl) (by kernel_rfl) (fun _ _ _ h => h) (by rfl) (fun _ h => load_obj h rfl (by go_simp)) (by go_simp; rfl) hS ?_
  refine HeldBy.take (i := 11) rfl (by kernel_rfl) (by kernel_rfl) (by kernel_rfl) (fun _ _ _ h => h) (by rfl) (fun _ h => load_obj h rfl (by go_simp)) (by go_simp; rfl) hS ?_
  refine HeldBy.call (i := 10) (v := .bool (userB o)) rfl (by kernel_rfl) (by rfl) (by go_simp; exact ⟨rfl, rfl⟩) (by go_simp; rfl) ?_
  refine (user_any o _).mono ?_
  rintro e V4 ⟨rfl, hb1⟩
  refine ⟨rfl, (hS).after hb1, ?_⟩
  replace hS : BoxO V4 w.heap.size o := (hS).after hb1
  replace hlow := hlow.trans (hb1.mono hlow.size)
  clear hb1
  refine HeldBy.call (i := 12) (v := .bool (userB o)) rfl (by kernel_rfl) (by rfl) (by go_simp; exact ⟨rfl, rfl⟩) (by go_simp; rfl) ?_
  refine (refUser_any o _ HF.out).mono ?_
  rintro e V5 ⟨rfl, hb1⟩
  refine ⟨rfl, (hS).after hb1, ?_⟩
  replace hS : BoxO V5 w.heap.size o := (hS).after hb1
  replace hlow := hlow.trans (hb1.mono hlow.size)
  clear hb1
  refine HeldBy.take (i := 13) (v := .bool true) rfl (by kernel_rfl) (by kernel_rfl) (by kernel_rfl) (fun _ _ _ h => h) (by rfl) (fun _ _ => by first | (go_simp; done) | (go_simp; simp)) (by go_simp; rfl) hS ?_
  refine HeldBy.take (i := 14) rfl (by kernel_rfl) (by kernel_rfl) (by kernel_rfl) (fun _ _ _ h => h) (by rfl) (fun _ _ => by go_simp; rfl) (by go_simp; rfl) hS ?_
  refine HeldBy.take (i := 15) rfl (by kernel_rfl) (by kernel_rfl) (by kernel_rfl) (fun _ _ _ h => h) (by rfl) (fun _ _ => by go_simp; rfl) (by go_simp; rfl) hS ?_
  refine wpAnyH_done (by kernel_rfl) ?_ _
  go_wp2
  go_ret
  exact ⟨rfl, hlow⟩
end Go.Proofs.Ytlnkhngfecdflaa.O
