/- codec.appendChange, codec.Object, codec.Change. The calls of codec by cases; live. -/
import Derived.Test.YtacbfpgknfcimaaCApp
import Derived.Test.YtacbfpgknfcimaaCEvs
import Derived.Test.YtacbfpgknfcimaaCAlls
namespace Go.Proofs.Ytacbfpgknfcimaa.C
open Go.RowKit T O
open Go.Lib hiding intOf

theorem evB_eq (e : Ev) : evB e = (([e.version].flatMap intB ++ goneB e.gone) ++ objB e.object) := by
  unfold evB
  simp only [List.flatMap_cons, List.flatMap_nil, List.append_nil, List.append_assoc]

set_option maxRecDepth 100000 in
set_option maxHeartbeats 4000000 in
theorem appendChange_any (e : Ev) (hs : Say e.object) (hv : U64 e.version) (v : Value) (l : Bytes) (B : Nat) (w : World) (hH : Held w B v l) (hB : B ≤ w.heap.size) (hlen : l.length ≤ 90000) :
    Calls Try.prog 30 #[v, encE e] w fun x W' => ∃ v', x = .returned v' ∧ Held W' B v' (l ++ evB e) ∧ Grew w v W' v' := by
  have HS := Lib.hid hs
  have HV := Lib.hid hv
  have HL := Lib.hid hlen
  have hvb : some w.heap.size ≠ v.ownBlock := fun x => by
    have := World.ownsRow.lt hH _ x.symm
    omega
  clear hs hlen hv
  cases hg : e.gone with
  | true =>
    have HG := Lib.hid hg
    clear hg
    unfold encE
    go_enter Try.func30, Try.ntmps30
    go_upto_region 1 with (fail)
    refine wp_gen (fun W => Stage w w.heap.size (objE e) B v l W v [] 90000) ⟨BoxE.new w e, by rw [List.append_nil]; exact hH.alloc _, grew_alloc _ _ _, hvb, by rw [List.append_nil]; exact HL.out⟩ ?_
    rintro W0 HT
    clear hH hvb HL
    have hBW : B ≤ W0.heap.size := Nat.le_trans hB HT.grew.by_.size
    have c0 := BoxE.c0 HT.box
    go_wp2_with fail
    have HM : Hid (∀ x ∈ ([e.version] : List Int), 0 ≤ x ∧ x < 18446744073709551616) := by
      show ∀ x ∈ ([e.version] : List Int), 0 ≤ x ∧ x < 18446744073709551616
      simp only [List.mem_cons, List.not_mem_nil, or_false, forall_eq]
      exact HV.out
    have Hm := Lib.hid (Nat.le_trans (flat_len _ HM.out) (by simp) : (List.flatMap intB [e.version]).length ≤ 300)
    refine (appendNumbers_any [e.version] ?_ W0.heap.size v _ B _ (HT.held.alloc _) (by simp; omega) (by simp) HT.new_ne ?_ ?_).mono ?_
    · exact HM.out
    · intro i hi
      simp only [List.length_cons, List.length_nil] at hi
      have hi' : i = 0 := by omega
      rcases hi' with rfl
      all_goals exact (World.cell?_alloc_mark _ _ _ _ _).trans rfl
    · have := HT.len
      simp only [List.length_cons, List.length_nil]
      omega
    rintro x W1 ⟨v1, rfl, hH2, hG2⟩
    replace HT := HT.step hH2 hG2.alloc Hm.out
    clear hH2 hG2 hBW HM Hm c0
    go_upto_region 2 with (fail)
    have hBW : B ≤ W1.heap.size := Nat.le_trans hB HT.grew.by_.size
    have c1 : W1.cell? ⟨w.heap.size, 1, none⟩ = some (.bool true) := by rw [BoxE.c1 HT.box, HG.out]
    have HX : Hid (_ + 1 ≤ 1000000000000) := Nat.le_trans (Nat.add_le_add_right HT.len 1) (by decide)
    go_upto_region 5 with (at_builtin; refine wpList_append_one rfl (.tmp 12) (.tmp 13) rfl B v1 _ ?_ (HT.held.alloc _) W1.heap.size 1 (1 : UInt8) ?_ ?_ ?_ ?_ ?_; rfl; rfl; (focus exact (cell_one_new _ _ _ 0 _ rfl).trans rfl); exact HX.out; (focus (simp; omega)); intro v2 W2 hH2 hG2)
    replace HT := HT.step hH2 hG2.alloc (by simp)
    clear hH2 hG2 c1 HX hBW
    have hBW : B ≤ W2.heap.size := Nat.le_trans hB HT.grew.by_.size
    have hbe : BoxE W2 w.heap.size e := HT.box
    go_wp2_with ((with_reducible refine wpList_load_evo ?_ rfl ?_ hbe ?_); rfl; rfl)
    clear hbe
    refine (appendObject_any e.object HS.out v2 _ B W2 HT.held hBW (Nat.le_trans HT.len (by decide))).mono ?_
    rintro x W3 ⟨v3, rfl, hH2, hG2⟩
    have HF : Hid (Held W3 B v3 (l ++ evB e) ∧ Grew w v W3 v3) := by
      refine ⟨?_, HT.grew.trans hG2⟩
      rw [evB_eq, HG.out, ← List.append_assoc]
      exact hH2
    clear hH2 hG2 HT hBW
    go_wp2
    go_ret
    exact ⟨_, rfl, HF.out.1, HF.out.2⟩
  | false =>
    have HG := Lib.hid hg
    clear hg
    unfold encE
    go_enter Try.func30, Try.ntmps30
    go_upto_region 1 with (fail)
    refine wp_gen (fun W => Stage w w.heap.size (objE e) B v l W v [] 90000) ⟨BoxE.new w e, by rw [List.append_nil]; exact hH.alloc _, grew_alloc _ _ _, hvb, by rw [List.append_nil]; exact HL.out⟩ ?_
    rintro W0 HT
    clear hH hvb HL
    have hBW : B ≤ W0.heap.size := Nat.le_trans hB HT.grew.by_.size
    have c0 := BoxE.c0 HT.box
    go_wp2_with fail
    have HM : Hid (∀ x ∈ ([e.version] : List Int), 0 ≤ x ∧ x < 18446744073709551616) := by
      show ∀ x ∈ ([e.version] : List Int), 0 ≤ x ∧ x < 18446744073709551616
      simp only [List.mem_cons, List.not_mem_nil, or_false, forall_eq]
      exact HV.out
    have Hm := Lib.hid (Nat.le_trans (flat_len _ HM.out) (by simp) : (List.flatMap intB [e.version]).length ≤ 300)
    refine (appendNumbers_any [e.version] ?_ W0.heap.size v _ B _ (HT.held.alloc _) (by simp; omega) (by simp) HT.new_ne ?_ ?_).mono ?_
    · exact HM.out
    · intro i hi
      simp only [List.length_cons, List.length_nil] at hi
      have hi' : i = 0 := by omega
      rcases hi' with rfl
      all_goals exact (World.cell?_alloc_mark _ _ _ _ _).trans rfl
    · have := HT.len
      simp only [List.length_cons, List.length_nil]
      omega
    rintro x W1 ⟨v1, rfl, hH2, hG2⟩
    replace HT := HT.step hH2 hG2.alloc Hm.out
    clear hH2 hG2 hBW HM Hm c0
    go_upto_region 2 with (fail)
    have hBW : B ≤ W1.heap.size := Nat.le_trans hB HT.grew.by_.size
    have c1 : W1.cell? ⟨w.heap.size, 1, none⟩ = some (.bool false) := by rw [BoxE.c1 HT.box, HG.out]
    have HX : Hid (_ + 1 ≤ 1000000000000) := Nat.le_trans (Nat.add_le_add_right HT.len 1) (by decide)
    go_upto_region 5 with (at_builtin; refine wpList_append_one rfl (.tmp 15) (.tmp 16) rfl B v1 _ ?_ (HT.held.alloc _) W1.heap.size 1 (0 : UInt8) ?_ ?_ ?_ ?_ ?_; rfl; rfl; (focus exact (cell_one_new _ _ _ 0 _ rfl).trans rfl); exact HX.out; (focus (simp; omega)); intro v2 W2 hH2 hG2)
    replace HT := HT.step hH2 hG2.alloc (by simp)
    clear hH2 hG2 c1 HX hBW
    have hBW : B ≤ W2.heap.size := Nat.le_trans hB HT.grew.by_.size
    have hbe : BoxE W2 w.heap.size e := HT.box
    go_wp2_with ((with_reducible refine wpList_load_evo ?_ rfl ?_ hbe ?_); rfl; rfl)
    clear hbe
    refine (appendObject_any e.object HS.out v2 _ B W2 HT.held hBW (Nat.le_trans HT.len (by decide))).mono ?_
    rintro x W3 ⟨v3, rfl, hH2, hG2⟩
    have HF : Hid (Held W3 B v3 (l ++ evB e) ∧ Grew w v W3 v3) := by
      refine ⟨?_, HT.grew.trans hG2⟩
      rw [evB_eq, HG.out, ← List.append_assoc]
      exact hH2
    clear hH2 hG2 HT hBW
    go_wp2
    go_ret
    exact ⟨_, rfl, HF.out.1, HF.out.2⟩

/-- What the writers answer: bytes of their own, or the error. -/
def Wrote (w : World) (ok : Bool) (b : Bytes) (x : Ending) (W' : World) : Prop :=
  Below w.heap.size w W' ∧ ∃ v, x = .returned (.tuple #[v, .int .i64 (if ok then 0 else 2)]) ∧ Held W' w.heap.size v (if ok then b else [])

set_option maxRecDepth 100000 in
set_option maxHeartbeats 2000000 in
theorem object_any (o : O.Obj) (hf : Fits o) (w : World) : Calls Try.prog 12 #[encO o] w (Wrote w (rightB o) (objB o)) := by
  cases hr : rightB o with
  | false =>
    have HR := Lib.hid hr
    clear hr
    unfold encO
    go_enter Try.func12, Try.ntmps12
    go_upto_region 1 with (fail)
    refine wp_gen (fun W => BoxO W w.heap.size o ∧ Below w.heap.size w W) ⟨BoxO.new w o, (Below.refl _ _).alloc (Nat.le_refl _) _⟩ ?_
    rintro W1 ⟨hb, hlow⟩
    go_wp2_with ((with_reducible refine wpList_load_obj ?_ rfl ?_ hb ?_); rfl; rfl)
    refine (right_any o _).mono ?_
    rintro e W2 ⟨rfl, hb1⟩
    rw [HR.out]
    replace hlow := hlow.trans (hb1.mono hlow.size)
    clear hb1 hb
    go_wp2
    go_ret2
    exact ⟨hlow, _, rfl, Held.nil _ _⟩
  | true =>
    have HR := Lib.hid hr
    have HS := Lib.hid (say_of_right (wf_of_right hr hf.version hf.born hf.num hf.tag) hr)
    clear hr
    unfold encO
    go_enter Try.func12, Try.ntmps12
    go_upto_region 1 with (fail)
    refine wp_gen (fun W => BoxO W w.heap.size o ∧ Below w.heap.size w W) ⟨BoxO.new w o, (Below.refl _ _).alloc (Nat.le_refl _) _⟩ ?_
    rintro W1 ⟨hb, hlow⟩
    go_wp2_with ((with_reducible refine wpList_load_obj ?_ rfl ?_ hb ?_); rfl; rfl)
    refine (right_any o _).mono ?_
    rintro e W2 ⟨rfl, hb1⟩
    rw [HR.out]
    replace hb := hb.after hb1
    replace hlow := hlow.trans (hb1.mono hlow.size)
    clear hb1
    go_wp2_with ((with_reducible refine wpList_load_obj ?_ rfl ?_ hb ?_); rfl; rfl)
    refine (appendObject_any o HS.out (.slice none 0 0) [] w.heap.size W2 (Held.nil _ _) hlow.size (by simp)).mono ?_
    rintro e W3 ⟨v3, rfl, hH, hG⟩
    rw [List.nil_append] at hH
    replace hlow := hlow.trans (hG.below (Held.nil _ _) hlow.size)
    have HH := Lib.hid hH
    clear hH hG hb
    go_wp2
    go_ret2
    exact ⟨hlow, _, rfl, HH.out⟩

set_option maxRecDepth 100000 in
set_option maxHeartbeats 2000000 in
theorem change_any (e : Ev) (hv : U64 e.version) (hf : Fits e.object) (w : World) : Calls Try.prog 14 #[encE e] w (Wrote w (rightB e.object) (evB e)) := by
  cases hr : rightB e.object with
  | false =>
    have HR := Lib.hid hr
    clear hr hv
    unfold encE
    go_enter Try.func14, Try.ntmps14
    go_upto_region 1 with (fail)
    refine wp_gen (fun W => BoxE W w.heap.size e ∧ Below w.heap.size w W) ⟨BoxE.new w e, (Below.refl _ _).alloc (Nat.le_refl _) _⟩ ?_
    rintro W1 ⟨hb, hlow⟩
    go_wp2_with ((with_reducible refine wpList_load_evo ?_ rfl ?_ hb ?_); rfl; rfl)
    refine (right_any e.object _).mono ?_
    rintro x W2 ⟨rfl, hb1⟩
    rw [HR.out]
    replace hlow := hlow.trans (hb1.mono hlow.size)
    clear hb1 hb
    go_wp2
    go_ret2
    exact ⟨hlow, _, rfl, Held.nil _ _⟩
  | true =>
    have HR := Lib.hid hr
    have HS := Lib.hid (say_of_right (wf_of_right hr hf.version hf.born hf.num hf.tag) hr)
    have HV := Lib.hid hv
    clear hr hv
    unfold encE
    go_enter Try.func14, Try.ntmps14
    go_upto_region 1 with (fail)
    refine wp_gen (fun W => BoxE W w.heap.size e ∧ Below w.heap.size w W) ⟨BoxE.new w e, (Below.refl _ _).alloc (Nat.le_refl _) _⟩ ?_
    rintro W1 ⟨hb, hlow⟩
    go_wp2_with ((with_reducible refine wpList_load_evo ?_ rfl ?_ hb ?_); rfl; rfl)
    refine (right_any e.object _).mono ?_
    rintro x W2 ⟨rfl, hb1⟩
    rw [HR.out]
    replace hb := hb.after hb1
    replace hlow := hlow.trans (hb1.mono hlow.size)
    clear hb1
    go_wp2_with ((with_reducible refine wpList_load_ev ?_ rfl ?_ hb ?_); rfl; rfl)
    refine (appendChange_any e HS.out HV.out (.slice none 0 0) [] w.heap.size W2 (Held.nil _ _) hlow.size (by simp)).mono ?_
    rintro x W3 ⟨v3, rfl, hH, hG⟩
    rw [List.nil_append] at hH
    replace hlow := hlow.trans (hG.below (Held.nil _ _) hlow.size)
    have HH := Lib.hid hH
    clear hH hG hb
    go_wp2
    go_ret2
    exact ⟨hlow, _, rfl, HH.out⟩
end Go.Proofs.Ytacbfpgknfcimaa.C
namespace Go.Proofs.Ytacbfpgknfcimaa.C
open Go.RowKit T O
open Go.Lib hiding intOf

/-- Bytes that a call made. -/
def Made (w : World) (b : Bytes) (x : Ending) (W' : World) : Prop := Below w.heap.size w W' ∧ ∃ v, x = .returned (.tuple #[v, .int .i64 0]) ∧ Held W' w.heap.size v b
def Refused (w : World) (x : Ending) (W' : World) : Prop := Below w.heap.size w W' ∧ x = .returned (.tuple #[.slice none 0 0, .int .i64 2])
theorem held_nil {W : World} {B : Nat} {v : Value} (h : Held W B v []) : v.ownBlock = none → v = .slice none 0 0 := fun hn => by
  rcases h.2 with ⟨hv, -⟩ | ⟨g, cap, cur, rfl, -⟩
  · exact hv
  · cases hn
theorem object_ok {o : O.Obj} (hf : Fits o) (hr : rightB o = true) (w : World) : Calls Try.prog 12 #[encO o] w (Made w (objB o)) :=
  (object_any o hf w).mono fun e w' ⟨h1, v, h2, h3⟩ => ⟨h1, v, by rw [h2, hr]; rfl, by rw [hr] at h3; exact h3⟩
theorem change_ok {e : Ev} (hv : U64 e.version) (hf : Fits e.object) (hr : rightB e.object = true) (w : World) : Calls Try.prog 14 #[encE e] w (Made w (evB e)) :=
  (change_any e hv hf w).mono fun x w' ⟨h1, v, h2, h3⟩ => ⟨h1, v, by rw [h2, hr]; rfl, by rw [hr] at h3; exact h3⟩
/-- Where it is refused: the bytes are none. -/
def RefusedV (w : World) (x : Ending) (W' : World) : Prop := Below w.heap.size w W' ∧ ∃ v, x = .returned (.tuple #[v, .int .i64 2]) ∧ Held W' w.heap.size v []
theorem object_bad {o : O.Obj} (hf : Fits o) (hr : rightB o = false) (w : World) : Calls Try.prog 12 #[encO o] w (RefusedV w) :=
  (object_any o hf w).mono fun e w' ⟨h1, v, h2, h3⟩ => ⟨h1, v, by rw [h2, hr]; rfl, by rw [hr] at h3; exact h3⟩
theorem change_bad {e : Ev} (hv : U64 e.version) (hf : Fits e.object) (hr : rightB e.object = false) (w : World) : Calls Try.prog 14 #[encE e] w (RefusedV w) :=
  (change_any e hv hf w).mono fun x w' ⟨h1, v, h2, h3⟩ => ⟨h1, v, by rw [h2, hr]; rfl, by rw [hr] at h3; exact h3⟩
theorem read_ok {v : Value} {l : Bytes} {x : O.Obj} {w : World} (h : BytesIn w v l) (hx : allR rdObj l = some x) : Calls Try.prog 17 #[v] w fun e w' => e = .returned (.tuple #[encO x, .int .i64 0]) ∧ Below w.heap.size w w' :=
  (read_any v l w h).mono fun e w' ⟨h1, h2⟩ => by
    rcases h2 with ⟨y, h3, h4⟩ | ⟨h3, -⟩
    · rw [hx] at h3
      obtain rfl := Option.some.inj h3
      exact ⟨h4, h1⟩
    · rw [hx] at h3; cases h3
theorem read_bad {v : Value} {l : Bytes} {w : World} (h : BytesIn w v l) (hx : allR rdObj l = none) : Calls Try.prog 17 #[v] w fun e w' => e = .returned (.tuple #[encO O0, .int .i64 2]) ∧ Below w.heap.size w w' :=
  (read_any v l w h).mono fun e w' ⟨h1, h2⟩ => by
    rcases h2 with ⟨y, h3, h4⟩ | ⟨-, h4⟩
    · rw [hx] at h3; cases h3
    · exact ⟨h4, h1⟩
theorem readChange_ok {v : Value} {l : Bytes} {x : Ev} {w : World} (h : BytesIn w v l) (hx : allR rdEv l = some x) : Calls Try.prog 19 #[v] w fun e w' => e = .returned (.tuple #[encE x, .int .i64 0]) ∧ Below w.heap.size w w' :=
  (readChangeAll_any v l w h).mono fun e w' ⟨h1, h2⟩ => by
    rcases h2 with ⟨y, h3, h4⟩ | ⟨h3, -⟩
    · rw [hx] at h3
      obtain rfl := Option.some.inj h3
      exact ⟨h4, h1⟩
    · rw [hx] at h3; cases h3
theorem readChange_bad {v : Value} {l : Bytes} {w : World} (h : BytesIn w v l) (hx : allR rdEv l = none) : Calls Try.prog 19 #[v] w fun e w' => e = .returned (.tuple #[encE Ev0, .int .i64 2]) ∧ Below w.heap.size w w' :=
  (readChangeAll_any v l w h).mono fun e w' ⟨h1, h2⟩ => by
    rcases h2 with ⟨y, h3, h4⟩ | ⟨-, h4⟩
    · rw [hx] at h3; cases h3
    · exact ⟨h4, h1⟩
theorem wf_fits {o : O.Obj} (hf : Fits o) (hr : rightB o = true) : WfO o ∧ rightB o = true := ⟨wf_of_right hr hf.version hf.born hf.num hf.tag, hr⟩

def oA : O.Obj := ⟨1, ⟨#[97]⟩, 0, 0, false, false, E0, 0, 0, 0, false, false, E0, E0, E0, E0, E0, 0, 0, 0⟩
theorem right_A : rightB oA = true := by decide +kernel
theorem fits_A : Fits oA := by
  refine ⟨?_, ?_, ?_, ?_, ?_, ?_, ?_, ?_, ?_, ?_, ?_⟩ <;> first | decide +kernel | (unfold U64; decide +kernel)
theorem len_A : (objB oA).length = 18 := by decide +kernel
theorem all_A : allR rdObj (objB oA) = some oA := lawObj.all_back (wf_fits fits_A right_A)
theorem built_A : Try.prog.built 27 [(0, .int .u8 1), (1, .string ⟨#[97]⟩)] = some (cellsO oA) := by kernel_rfl

set_option maxRecDepth 100000 in
set_option maxHeartbeats 2000000 in
theorem live_any (w : World) :
    Calls Try.prog 16 #[] w fun e w' => e = .returned (.bool true) ∧ Below w.heap.size w w' := by
  go_enter Try.func16, Try.ntmps16
  go_wp2_with ((with_reducible refine wpList_build_to rfl 27 _ rfl (cellsO oA) ?_ ?_); exact built_A)
  refine (object_ok fits_A right_A _).mono ?_
  rintro e W1 ⟨hlow, v, rfl, hH⟩
  have hB := hH.bytes
  clear hH
  go_wp2_with fail
  refine (read_ok hB all_A).mono ?_
  rintro e W2 ⟨rfl, hb1⟩
  have hl := hB.len
  rw [len_A] at hl
  replace hlow := hlow.trans (hb1.mono hlow.size)
  clear hb1 hB
  have hn := BoxO.new W2 O0
  have hz := hlow.size
  replace hlow := hlow.alloc hlow.size (.cells (cellsO O0) 27 (0, 0))
  go_upto_region 3 with ((with_reducible refine wpList_store_rowTo rfl 27 _ _ rfl rfl W2.heap.size (cellsO oA) ?_ ?_ 27 (cellsO O0) ?_ ?_ ?_ ?_ ?_); rfl; rfl; exact hn; exact sizeObj; exact sz_cells _ _; exact one_cells _)
  refine wp_gen (fun W => BoxO W W2.heap.size oA ∧ Below w.heap.size w W) ⟨hn.setRow _, below_setRow hlow hz _⟩ ?_
  clear hz
  rintro W3 ⟨hb, hlow⟩
  have c0 : W3.cell? ⟨W2.heap.size, 0, none⟩ = some (.int .u8 1) := hb.c0
  have c1 : W3.cell? ⟨W2.heap.size, 1, none⟩ = some (.string ⟨#[97]⟩) := hb.c1
  clear hb hn
  go_wp2
  go_ret
  exact ⟨rfl, hlow⟩

set_option maxRecDepth 100000 in
set_option maxHeartbeats 2000000 in
theorem codecSmall_any (x : Ev) (hv : U64 x.version) (hf : Fits x.object) (w : World) :
    Calls Try.prog 8 #[encE x] w fun e w' => e = .returned (.bool true) ∧ Below w.heap.size w w' := by
  cases hr : rightB x.object with
  | false =>
    have HR := Lib.hid hr
    clear hr
    unfold encE
    go_enter Try.func8, Try.ntmps8
    go_upto_region 1 with (fail)
    refine wp_gen (fun W => BoxE W w.heap.size x ∧ Below w.heap.size w W) ⟨BoxE.new w x, (Below.refl _ _).alloc (Nat.le_refl _) _⟩ ?_
    rintro W1 ⟨hb, hlow⟩
    go_wp2_with ((with_reducible refine wpList_load_ev ?_ rfl ?_ hb ?_); rfl; rfl)
    refine (change_bad hv hf HR.out _).mono ?_
    rintro e W2 ⟨hb1, v, rfl, hH⟩
    replace hlow := hlow.trans (hb1.mono hlow.size)
    clear hb1 hb hH
    go_wp2_with fail
    refine (live_any _).mono ?_
    rintro e W3 ⟨rfl, hb1⟩
    replace hlow := hlow.trans (hb1.mono hlow.size)
    clear hb1
    go_wp2
    go_ret
    exact ⟨rfl, hlow⟩
  | true =>
    have HR := Lib.hid hr
    clear hr
    have hlen := evB_len (e := x) ⟨hv, trivial, (wf_fits hf HR.out).1, HR.out⟩
    unfold encE
    go_enter Try.func8, Try.ntmps8
    go_upto_region 1 with (fail)
    refine wp_gen (fun W => BoxE W w.heap.size x ∧ Below w.heap.size w W) ⟨BoxE.new w x, (Below.refl _ _).alloc (Nat.le_refl _) _⟩ ?_
    rintro W1 ⟨hb, hlow⟩
    go_wp2_with ((with_reducible refine wpList_load_ev ?_ rfl ?_ hb ?_); rfl; rfl)
    refine (change_ok hv hf HR.out _).mono ?_
    rintro e W2 ⟨hb1, v, rfl, hH⟩
    have hl := hH.bytes.len
    replace hlow := hlow.trans (hb1.mono hlow.size)
    clear hb1 hb hH
    generalize (evB x).length = n at *
    have h1 : (20 : Int) ≤ n := by omega
    have h2 : (n : Int) ≤ 1024 := by omega
    clear hlen
    go_wp2_with fail
    refine (live_any _).mono ?_
    rintro e W3 ⟨rfl, hb1⟩
    replace hlow := hlow.trans (hb1.mono hlow.size)
    clear hb1
    go_wp2
    go_ret
    exact ⟨rfl, hlow⟩
end Go.Proofs.Ytacbfpgknfcimaa.C
