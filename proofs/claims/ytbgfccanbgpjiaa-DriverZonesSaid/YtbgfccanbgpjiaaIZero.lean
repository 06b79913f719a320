/- Volumes and Snaps, where there are none. -/
import Derived.Test.YtbgfccanbgpjiaaIVols
import Derived.Test.YtbgfccanbgpjiaaISeq0
import Derived.Test.YtbgfccanbgpjiaaISnSeq0
namespace Go.Proofs.Ytbgfccanbgpjiaa.O.I
open Go Go.RowKit Go.Lib Go.Shelf RangeMap KM
attribute [local go_sem] Oper.semAt_some

theorem Sn.inOrder_any (mb : Option Nat) (w : World) : Calls Try.prog 47 #[.map mb] w fun e w' => e = .returned (.func (.func 66) #[] #[.pointer (some ⟨w.heap.size, 0, none⟩)]) ∧ w' = w.alloc (.cells #[.map mb] tS) := by
  go_enter Try.func47, Try.ntmps47
  go_wp2
  go_ret
  exact ⟨rfl, rfl⟩
set_option maxRecDepth 100000 in
set_option maxHeartbeats 1000000 in
theorem volumes_zero (d r v s n : Nat) (Ro So : List (ByteArray × Value)) (No : List (Tg × Value)) (w : World) (hd : DrAt w d r v s n Ro [] So No) :
    Calls Try.prog 22 #[.pointer (some ⟨d, 0, none⟩)] w fun e w' => e = .returned (.slice none 0 0) ∧ Below w.heap.size w w' := by
  have HD := Lib.hid hd
  have HLT := Lib.hid hd.lt
  have g1 := (hd.after ((Below.refl _ _).alloc (Nat.le_refl _) (.cells #[.slice none 0 0] 43))).box.c1
  have ef2 := enters_of (P := Try.prog) Try.func61 (by kernel_rfl) rfl
  clear hd
  refine callsIn_wide.1 (callsIn_of_wp_marks (n := 7) Try.func22 rfl trivial (wpIn_wide.2 ?_) rfl)
  simp only [Try.ntmps22, List.size_toArray, List.length_cons, List.length_nil, Nat.reduceAdd, Nat.reduceSub, Array.replicate_succ, Array.replicate_zero, List.push_toArray, List.append_toArray, List.nil_append, List.cons_append]
  go_wp2_with fail
  refine (inOrder_any _ _).mono ?_
  rintro e w' ⟨rfl, rfl⟩
  go_wp2_with fail
  refine wp_gen (fun V => V.heap.size = w.heap.size + 2 ∧ Boxed V w.heap.size 43 (.slice none 0 0) ∧ Boxed V (w.heap.size + 1) tV (.map (some v)) ∧ IsMap encS V v [] ∧ Below w.heap.size w V) ?_ ?_
  · have hb2 := below2 w (.cells #[.slice none 0 0] 43) (.cells #[.map (some v)] tV)
    exact ⟨by simp, (heap2 w _ _).1, (heap2 w _ _).2, HD.out.vols.after hb2, hb2⟩
  clear g1 HD
  rintro W0 ⟨hs0, hl0, hbx, hvm, hlw⟩
  have HS := Lib.hid hs0
  refine wpIn_wide.1 (RangeMap.range (F := Fence.wide) (n := 7) rfl (by omega) (gf := 61) (lb := #[.pointer (some ⟨w.heap.size + 1, 0, none⟩)]) rfl trivial ef2 (encs := encM []) (lo := w.heap.size) (hi := w.heap.size + 1) (by omega)
    (vols_seq0 6 rfl (w.heap.size + 1) v w.heap.size (w.heap.size + 1) W0 hbx hvm) (fun _ => rfl)
    (fun pre W => Boxed W w.heap.size 43 (.slice none 0 0) ∧ Below w.heap.size w W)
    (fun _ _ _ => False) ?_ ?_ ⟨hl0, hlw⟩
    (fun _ _ _ _ => False)
    ?_ ?_ ?_ ?_ ?_)
  · intro pre A B row ⟨a, c⟩ hg hr
    exact ⟨cells_own hg hr a, ownFrom_below (β := Unit) (n₀ := w.heap.size) (B := W0.heap.size) (Nat.le_refl _) (by omega) () A B row c hg hr⟩
  · intro _ _ _ _ _ h
    exact h.elim
  · intro _ _ _ _ _ _ h
    exact h.elim
  · intro _ _ _ _ _ h
    exact absurd h (Nat.not_lt_zero _)
  · intro _ _ _ _ _ h
    exact h.elim
  · rintro D xs W hD hS ⟨a, c⟩ hK
    have hl : Boxed W w.heap.size 43 (.slice none 0 0) := a
    have l0 := hl.cell
    have HK := Lib.hid hK
    have HC := Lib.hid c
    have HDD : Hid (w.heap.size < D) := by show _ < _; have := HS.out; omega
    clear c hl hK a
    go_wp2
    refine leave_mark rfl HK.out ⟨.slice none 0 0, (results_tmp (t := 2) rfl _ _ _).trans rfl, rfl, ?_⟩
    have hdd := HDD.out
    exact HC.out.trans (belowK_b (w := w) (by omega) _ D _ _ (by omega) HK.out rfl rfl)
  · intro _ _ _ _ _ _ h _
    exact h.elim
set_option maxRecDepth 100000 in
set_option maxHeartbeats 1000000 in
theorem snaps_zero (d r v s n : Nat) (Ro Vo : List (ByteArray × Value)) (No : List (Tg × Value)) (w : World) (hd : DrAt w d r v s n Ro Vo [] No) :
    Calls Try.prog 23 #[.pointer (some ⟨d, 0, none⟩)] w fun e w' => e = .returned (.slice none 0 0) ∧ Below w.heap.size w w' := by
  have HD := Lib.hid hd
  have HLT := Lib.hid hd.lt
  have g1 := (hd.after ((Below.refl _ _).alloc (Nat.le_refl _) (.cells #[.slice none 0 0] 45))).box.c2
  have ef2 := enters_of (P := Try.prog) Try.func66 (by kernel_rfl) rfl
  clear hd
  refine callsIn_wide.1 (callsIn_of_wp_marks (n := 7) Try.func23 rfl trivial (wpIn_wide.2 ?_) rfl)
  simp only [Try.ntmps23, List.size_toArray, List.length_cons, List.length_nil, Nat.reduceAdd, Nat.reduceSub, Array.replicate_succ, Array.replicate_zero, List.push_toArray, List.append_toArray, List.nil_append, List.cons_append]
  go_wp2_with fail
  refine (Sn.inOrder_any _ _).mono ?_
  rintro e w' ⟨rfl, rfl⟩
  go_wp2_with fail
  refine wp_gen (fun V => V.heap.size = w.heap.size + 2 ∧ Boxed V w.heap.size 45 (.slice none 0 0) ∧ Boxed V (w.heap.size + 1) tS (.map (some s)) ∧ IsMap encS V s [] ∧ Below w.heap.size w V) ?_ ?_
  · have hb2 := below2 w (.cells #[.slice none 0 0] 45) (.cells #[.map (some s)] tS)
    exact ⟨by simp, (heap2 w _ _).1, (heap2 w _ _).2, HD.out.snaps.after hb2, hb2⟩
  clear g1 HD
  rintro W0 ⟨hs0, hl0, hbx, hvm, hlw⟩
  have HS := Lib.hid hs0
  refine wpIn_wide.1 (RangeMap.range (F := Fence.wide) (n := 7) rfl (by omega) (gf := 66) (lb := #[.pointer (some ⟨w.heap.size + 1, 0, none⟩)]) rfl trivial ef2 (encs := Sn.encM []) (lo := w.heap.size) (hi := w.heap.size + 1) (by omega)
    (Sn.snaps_seq0 6 rfl (w.heap.size + 1) s w.heap.size (w.heap.size + 1) W0 hbx hvm) (fun _ => rfl)
    (fun pre W => Boxed W w.heap.size 45 (.slice none 0 0) ∧ Below w.heap.size w W)
    (fun _ _ _ => False) ?_ ?_ ⟨hl0, hlw⟩
    (fun _ _ _ _ => False)
    ?_ ?_ ?_ ?_ ?_)
  · intro pre A B row ⟨a, c⟩ hg hr
    exact ⟨cells_own hg hr a, ownFrom_below (β := Unit) (n₀ := w.heap.size) (B := W0.heap.size) (Nat.le_refl _) (by omega) () A B row c hg hr⟩
  · intro _ _ _ _ _ h
    exact h.elim
  · intro _ _ _ _ _ _ h
    exact h.elim
  · intro _ _ _ _ _ h
    exact absurd h (Nat.not_lt_zero _)
  · intro _ _ _ _ _ h
    exact h.elim
  · rintro D xs W hD hS ⟨a, c⟩ hK
    have hl : Boxed W w.heap.size 45 (.slice none 0 0) := a
    have l0 := hl.cell
    have HK := Lib.hid hK
    have HC := Lib.hid c
    have HDD : Hid (w.heap.size < D) := by show _ < _; have := HS.out; omega
    clear c hl hK a
    go_wp2
    refine leave_mark rfl HK.out ⟨.slice none 0 0, (results_tmp (t := 2) rfl _ _ _).trans rfl, rfl, ?_⟩
    have hdd := HDD.out
    exact HC.out.trans (belowK_b (w := w) (by omega) _ D _ _ (by omega) HK.out rfl rfl)
  · intro _ _ _ _ _ _ h _
    exact h.elim
end Go.Proofs.Ytbgfccanbgpjiaa.O.I
