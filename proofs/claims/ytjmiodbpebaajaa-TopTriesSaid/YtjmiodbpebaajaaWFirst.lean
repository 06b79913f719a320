/- Where in the line the one stands that is taken first. -/
import Derived.Test.YtjmiodbpebaajaaWFull
namespace Go.Proofs.Ytjmiodbpebaajaa.W
open Go Go.RowKit KM
open Go.Lib

/-- The place of the least of the first ones, the first of them. -/
def firstAt (ds : List Int) : Nat → Nat
  | 0 => 0
  | i + 1 => if ds.getD i 0 < ds.getD (firstAt ds i) 0 then i else firstAt ds i
def firstN (ds : List Int) : Nat := firstAt ds ds.length
theorem firstAt_lt (ds : List Int) : ∀ i, firstAt ds i = 0 ∨ firstAt ds i < i
  | 0 => .inl rfl
  | i + 1 => by
    unfold firstAt
    split
    · exact .inr (by omega)
    · rcases firstAt_lt ds i with h | h
      · exact .inl h
      · exact .inr (by omega)
theorem firstAt_len {ds : List Int} (h0 : 0 < ds.length) {i : Nat} (hi : i ≤ ds.length) : firstAt ds i < ds.length := by
  rcases firstAt_lt ds i with h | h <;> omega
theorem firstAt_least (ds : List Int) : ∀ i j, j < i → ds.getD (firstAt ds i) 0 ≤ ds.getD j 0
  | i + 1, j, h => by
    have ih := fun h => firstAt_least ds i j h
    unfold firstAt
    split
    · by_cases e : j = i
      · subst e; exact Int.le_refl _
      · have := ih (by omega); omega
    · by_cases e : j = i
      · subst e; omega
      · exact ih (by omega)
theorem firstAt_stop {ds : List Int} (h0 : ∀ j, 0 ≤ ds.getD j 0) {i : Nat} (hz : ds.getD i 0 = 0) (hn : ∀ j, j < i → ds.getD j 0 ≠ 0) : ∀ m, firstAt ds (i + 1 + m) = i
  | 0 => by
    show firstAt ds (i + 1) = i
    unfold firstAt
    split
    · rfl
    · rename_i h
      rcases firstAt_lt ds i with e | e
      · rw [e] at h ⊢
        by_cases ei : i = 0
        · exact ei.symm
        · have h1 := hn 0 (by omega)
          have h2 := h0 0
          omega
      · have h1 := hn _ e
        have h2 := h0 (firstAt ds i)
        omega
  | m + 1 => by
    have ih := firstAt_stop h0 hz hn m
    show firstAt ds ((i + 1 + m) + 1) = i
    unfold firstAt
    rw [ih, hz]
    have := h0 (i + 1 + m)
    rw [if_neg (by omega)]
theorem firstN_stop {ds : List Int} (h0 : ∀ j, 0 ≤ ds.getD j 0) {i : Nat} (hi : i < ds.length) (hz : ds.getD i 0 = 0) (hn : ∀ j, j < i → ds.getD j 0 ≠ 0) : firstN ds = i := by
  unfold firstN
  obtain ⟨m, hm⟩ : ∃ m, ds.length = i + 1 + m := ⟨ds.length - (i + 1), by omega⟩
  rw [hm]
  exact firstAt_stop h0 hz hn m

/-- When each of the line is due. -/
structure Dues (line : List Ky) (due : List (Ky × Value)) (ds : List Int) : Prop where
  len : ds.length = line.length
  at_ : ∀ i (h : i < line.length), KM.get line[i] due = some (.int .u64 (ds.getD i 0))
  fit : ∀ j, 0 ≤ ds.getD j 0 ∧ ds.getD j 0 ≤ 18446744073709551615
/-- The line's cells. -/
structure RowAt (W : World) (g : Nat) (line : List Ky) : Prop where
  lt : g < W.heap.size
  at_ : ∀ i (h : i < line.length), W.cell? ⟨g, i * 2, none⟩ = some (.int .u8 line[i].k) ∧ W.cell? ⟨g, i * 2 + 1, none⟩ = some (.string line[i].n)
theorem RowAt.after {W W' : World} {g : Nat} {line : List Ky} (h : RowAt W g line) (hb : Below W.heap.size W W') : RowAt W' g line :=
  ⟨Nat.lt_of_lt_of_le h.lt hb.size, fun i hi => ⟨(hb.cell h.lt).trans (h.at_ i hi).1, (hb.cell h.lt).trans (h.at_ i hi).2⟩⟩
theorem flat_get : ∀ (line : List Ky) (i : Nat) (h : i < line.length), (flat line)[i * 2]? = some (.int .u8 line[i].k) ∧ (flat line)[i * 2 + 1]? = some (.string line[i].n)
  | x :: l, 0, _ => ⟨rfl, rfl⟩
  | x :: l, i + 1, h => by
    have ih := flat_get l i (by simpa using h)
    have e : flat (x :: l) = cellsK x ++ flat l := rfl
    rw [e]
    have e1 : (i + 1) * 2 = 2 + i * 2 := by omega
    have e2 : (i + 1) * 2 + 1 = 2 + (i * 2 + 1) := by omega
    rw [e2, e1, List.getElem?_append_right (by simp [cellsK]), List.getElem?_append_right (by simp [cellsK])]
    simpa [cellsK] using ih
theorem row_at {R : Nat} {W : World} {sl : Value} {line : List Ky} (hr : W.ownsRow R 25 2 sl line.length (flat line)) (hn : 0 < line.length) : ∃ g cap, sl = .slice (some ⟨g, 0, none⟩) line.length cap ∧ RowAt W g line := by
  rcases hr.2 with ⟨-, h⟩ | ⟨g, cap, cur, rfl, -, hg, -, -, -, hc⟩
  · omega
  · refine ⟨g, cap, rfl, (Array.getElem?_eq_some_iff.1 hg).1, fun i hi => ?_⟩
    obtain ⟨h1, h2⟩ := flat_get line i hi
    rw [← hc, List.getElem?_take] at h1 h2
    rw [if_pos (by omega), Array.getElem?_toList] at h1
    rw [if_pos (by omega), Array.getElem?_toList] at h2
    exact ⟨(cell_of_row W g _ _ _ _ hg).trans h1, (cell_of_row W g _ _ _ _ hg).trans h2⟩

/-- What holds between two rounds. -/
structure Looks (B R qb bd bf g cap : Nat) (w : World) (line : List Ky) (due fails : List (Ky × Value)) (W : World) : Prop where
  q : QIs B R W qb bd bf line due fails
  at_ : QAt W qb (.slice (some ⟨g, 0, none⟩) line.length cap) bd bf
  row : RowAt W g line
  low : Below w.heap.size w W
theorem Looks.after {B R q bd bf g cap : Nat} {w : World} {line : List Ky} {due fails : List (Ky × Value)} {W W' : World} (h : Looks B R q bd bf g cap w line due fails W) (hb : Below W.heap.size W W') : Looks B R q bd bf g cap w line due fails W' :=
  ⟨h.q.after hb, h.at_.after hb, h.row.after hb, h.low.trans (hb.mono h.low.size)⟩
theorem Looks.drew {B R q bd bf g cap : Nat} {w : World} {line : List Ky} {due fails : List (Ky × Value)} {W : World} (h : Looks B R q bd bf g cap w line due fails W) : Looks B R q bd bf g cap w line due fails W.drew :=
  ⟨h.q.drew, h.at_, ⟨h.row.lt, h.row.at_⟩, h.low.drew⟩
theorem below_drew (W : World) : Below W.heap.size W W.drew := (Below.refl _ W).drew

set_option maxRecDepth 100000 in
set_option maxHeartbeats 4000000 in
theorem first_any (B R q bd bf : Nat) (line : List Ky) (due fails : List (Ky × Value)) (ds : List Int) (w : World) (h : QIs B R w q bd bf line due fails) (hd : Dues line due ds) (hn : 0 < line.length) (hm : line.length ≤ 256) :
    Calls Try.prog 42 #[.pointer (some ⟨q, 0, none⟩)] w fun e w' => e = .returned (.tuple #[.int .i64 (firstN ds : Nat), .bool true]) ∧ Below w.heap.size w w' := by
  obtain ⟨sl, ha, hr⟩ := h.at_
  obtain ⟨g, cap, rfl, hrow⟩ := row_at hr hn
  have HF : Hid (Looks B R q bd bf g cap w line due fails w) := ⟨h, ha, hrow, Below.refl _ _⟩
  have HD := Lib.hid hd
  have hlen := qlen_any B R q bd bf line due fails w h
  have HN := Lib.hid hlen
  have hne : ((line.length : Int) == 0) = false := by rw [beq_eq_false_iff_ne]; omega
  clear h ha hr hrow hd hlen
  go_enter Try.func42, Try.ntmps42
  go_wp2_with fail
  go_step3
  go_wp2_with fail
  refine HN.out.mono ?_
  rintro e W1 ⟨rfl, rfl⟩
  clear HN
  have c0 := HF.out.at_.c0
  go_wp2_with fail
  go_step3
  go_wp2_with fail
  clear c0
  go_loopw [4, 16] (fun fv iv wr => ∃ i : Nat, iv = .int .i64 (i : Int) ∧ i ≤ line.length ∧ fv = .int .i64 (firstAt ds i : Nat) ∧ (∀ j, j < i → ds.getD j 0 ≠ 0) ∧ Looks B R q bd bf g cap w line due fails wr) (fun _ iv _ => (line.length - intOf iv).toNat)
  case atStart => exact ⟨0, rfl, Nat.zero_le _, rfl, fun j h => by omega, HF.out⟩
  case round =>
    clear HF
    obtain ⟨i, rfl, hi, rfl, hz, hlk⟩ := hrel
    have HF := Lib.hid hlk
    have HZ := Lib.hid hz
    clear hlk hz
    by_cases hlt : i < line.length
    · have hk0 := (HF.out.row.at_ i hlt).1
      have hk1 := (HF.out.row.at_ i hlt).2
      have hlt' : (i : Int) < (line.length : Int) := by omega
      go_upto_region 7 with (fail)
      refine wp_gen (fun V => KAt V wr.heap.size line[i] ∧ Looks B R q bd bf g cap w line due fails V) ⟨KAt.new wr line[i], HF.out.after ((Below.refl _ _).alloc (Nat.le_refl _) _)⟩ ?_
      clear HF hk0 hk1
      rintro V ⟨hk, hl⟩
      generalize wr.heap.size = kb at *
      have HK := Lib.hid hk
      have HQ := Lib.hid hl
      clear hk hl
      have hfl := firstAt_len (ds := ds) (by rw [HD.out.len]; exact hn) (i := i) (by rw [HD.out.len]; omega)
      rw [HD.out.len] at hfl
      have HN := Lib.hid (show firstAt ds (i + 1) = if ds.getD i 0 < ds.getD (firstAt ds i) 0 then i else firstAt ds i from rfl)
      have HI := Lib.hid (HD.out.at_ i hlt)
      have HJ := Lib.hid (HD.out.at_ (firstAt ds i) hfl)
      have hdf := HD.out.fit i
      have hdg := HD.out.fit (firstAt ds i)
      have HX : Hid (ds.getD i 0 = 0 → firstN ds = i) := fun e => firstN_stop (fun j => (HD.out.fit j).1) (by rw [HD.out.len]; exact hlt) e HZ.out
      have HZ2 : Hid (ds.getD i 0 ≠ 0 → ∀ j, j < i + 1 → ds.getD j 0 ≠ 0) := fun e j hj => by
        by_cases h : j = i
        · subst h; exact e
        · exact HZ.out j (by omega)
      clear HZ
      generalize ds.getD i 0 = d at *
      generalize firstAt ds i = f at *
      generalize ds.getD f 0 = df at *
      have hfl' : (f : Int) < (line.length : Int) := by omega
      refine wp_region_held_drew (S := fun V => KAt V kb line[i] ∧ Looks B R q bd bf g cap w line due fails V) (by kernel_rfl) ⟨HK.out, HQ.out.drew⟩ (fun _ => ?_)
      refine HeldBy.gen (fun V => KAt V kb line[i] ∧ Looks B R q bd bf g cap w line due fails V) ⟨HK.out, HQ.out.drew⟩ ?_
      clear HK HQ
      rintro U0 HS
      refine HeldBy.take (i := 0) rfl (by kernel_rfl) (by kernel_rfl) (by kernel_rfl) (fun _ _ _ h => h) (by rfl) (fun _ _ => by first | (go_simp; rfl) | (go_simp; done)) (by go_simp; rfl) HS ?_
      refine HeldBy.take (i := 1) rfl (by kernel_rfl) (by kernel_rfl) (by kernel_rfl) (fun _ _ _ h => h) (by rfl) (fun _ _ => by first | (go_simp; rfl) | (go_simp; done)) (by go_simp; rfl) HS ?_
      refine HeldBy.take (i := 2) rfl (by kernel_rfl) (by kernel_rfl) (by kernel_rfl) (fun _ _ _ h => h) (by rfl) (fun _ _ => by first | (go_simp; rfl) | (go_simp; done)) (by go_simp; rfl) HS ?_
      refine HeldBy.take (i := 3) rfl (by kernel_rfl) (by kernel_rfl) (by kernel_rfl) (fun _ _ _ h => h) (by rfl) (fun V hV => by have hc := hV.2.at_.c1; first | (go_simp; rfl) | (go_simp; done)) (by go_simp; rfl) HS ?_
      refine HeldBy.take (i := 4) rfl (by kernel_rfl) (by kernel_rfl) (by kernel_rfl) (fun _ _ _ h => h) (by rfl) (fun V hV => by have h0 := hV.1.c0; have h1 := hV.1.c1; first | (go_simp; rfl) | (go_simp; done)) (by go_simp; rfl) HS ?_
      refine HeldBy.take (i := 5) (v := .int .u64 d) rfl (by kernel_rfl) (by kernel_rfl) (by kernel_rfl) (fun _ _ _ h => h) (by rfl) (fun V hV => exec_lookup1_ok rfl und_tU rfl rfl hV.2.q.due HI.out) (by go_simp; rfl) HS ?_
      refine HeldBy.take (i := 6) rfl (by kernel_rfl) (by kernel_rfl) (by kernel_rfl) (fun _ _ _ h => h) (by rfl) (fun _ _ => by first | (go_simp; rfl) | (go_simp; done)) (by go_simp; rfl) HS ?_
      refine wpAnyH_done (by kernel_rfl) ?_ _
      by_cases hd0 : d = 0
      · subst hd0
        have HF := Lib.hid HS.2
        have HE := Lib.hid (HX.out rfl)
        clear HS HI HJ HN HX HZ2
        go_wp2
        rw [Exit.noGoto_ret]
        go_ret2
        rw [HE.out]
        exact ⟨rfl, HF.out.low⟩
      · have hd1 : (d == 0) = false := by rw [beq_eq_false_iff_ne]; exact hd0
        have HK := Lib.hid HS.1
        have HQ := Lib.hid HS.2
        have HZ3 := Lib.hid (HZ2.out hd0)
        clear HS HX HZ2
        go_upto_region 10 with (fail)
        by_cases hlf : d < df
        · rw [if_pos hlf] at HN
          refine wp_region_held_drew (S := fun V => KAt V kb line[i] ∧ Looks B R q bd bf g cap w line due fails V) (by kernel_rfl) ⟨HK.out, HQ.out.drew⟩ (fun _ => ?_)
          refine HeldBy.gen (fun V => KAt V kb line[i] ∧ Looks B R q bd bf g cap w line due fails V) ⟨HK.out, HQ.out.drew⟩ ?_
          clear HK HQ
          rintro U0 HS
          refine HeldBy.take (i := 0) rfl (by kernel_rfl) (by kernel_rfl) (by kernel_rfl) (fun _ _ _ h => h) (by rfl) (fun _ _ => by first | (go_simp; rfl) | (go_simp; done)) (by go_simp; rfl) HS ?_
          refine HeldBy.take (i := 1) rfl (by kernel_rfl) (by kernel_rfl) (by kernel_rfl) (fun _ _ _ h => h) (by rfl) (fun _ _ => by first | (go_simp; rfl) | (go_simp; done)) (by go_simp; rfl) HS ?_
          refine HeldBy.take (i := 2) rfl (by kernel_rfl) (by kernel_rfl) (by kernel_rfl) (fun _ _ _ h => h) (by rfl) (fun _ _ => by first | (go_simp; rfl) | (go_simp; done)) (by go_simp; rfl) HS ?_
          refine HeldBy.take (i := 3) rfl (by kernel_rfl) (by kernel_rfl) (by kernel_rfl) (fun _ _ _ h => h) (by rfl) (fun _ _ => by first | (go_simp; rfl) | (go_simp; done)) (by go_simp; rfl) HS ?_
          refine HeldBy.take (i := 4) rfl (by kernel_rfl) (by kernel_rfl) (by kernel_rfl) (fun _ _ _ h => h) (by rfl) (fun V hV => by have hc := hV.2.at_.c1; first | (go_simp; rfl) | (go_simp; done)) (by go_simp; rfl) HS ?_
          refine HeldBy.take (i := 5) rfl (by kernel_rfl) (by kernel_rfl) (by kernel_rfl) (fun _ _ _ h => h) (by rfl) (fun _ _ => by first | (go_simp; rfl) | (go_simp; done)) (by go_simp; rfl) HS ?_
          refine HeldBy.take (i := 6) rfl (by kernel_rfl) (by kernel_rfl) (by kernel_rfl) (fun _ _ _ h => h) (by rfl) (fun _ _ => by first | (go_simp; rfl) | (go_simp; done)) (by go_simp; rfl) HS ?_
          refine HeldBy.take (i := 7) rfl (by kernel_rfl) (by kernel_rfl) (by kernel_rfl) (fun _ _ _ h => h) (by rfl) (fun _ _ => by first | (go_simp; rfl) | (go_simp; done)) (by go_simp; rfl) HS ?_
          refine HeldBy.take (i := 8) rfl (by kernel_rfl) (by kernel_rfl) (by kernel_rfl) (fun _ _ _ h => h) (by rfl) (fun V hV => by have hc := hV.2.at_.c0; first | (go_simp; rfl) | (go_simp; done)) (by go_simp; rfl) HS ?_
          refine HeldBy.take (i := 9) rfl (by kernel_rfl) (by kernel_rfl) (by kernel_rfl) (fun _ _ _ h => h) (by rfl) (fun _ _ => by first | (go_simp; rfl) | (go_simp; done)) (by go_simp; rfl) HS ?_
          refine HeldBy.take (i := 10) rfl (by kernel_rfl) (by kernel_rfl) (by kernel_rfl) (fun _ _ _ h => h) (by rfl) (fun _ _ => by first | (go_simp; rfl) | (go_simp; done)) (by go_simp; rfl) HS ?_
          refine HeldBy.take (i := 11) (v := .agg #[.int .u8 line[f].k, .string line[f].n]) rfl (by kernel_rfl) (by kernel_rfl) (by kernel_rfl) (fun _ _ _ h => h) (by rfl) (fun V hV => by have h0 := (hV.2.row.at_ f hfl).1; have h1 := (hV.2.row.at_ f hfl).2; first | (go_simp; rfl) | (go_simp; done)) (by go_simp; rfl) HS ?_
          refine HeldBy.take (i := 12) (v := .int .u64 df) rfl (by kernel_rfl) (by kernel_rfl) (by kernel_rfl) (fun _ _ _ h => h) (by rfl) (fun V hV => exec_lookup1_ok rfl und_tU rfl rfl hV.2.q.due HJ.out) (by go_simp; rfl) HS ?_
          refine HeldBy.take (i := 13) rfl (by kernel_rfl) (by kernel_rfl) (by kernel_rfl) (fun _ _ _ h => h) (by rfl) (fun _ _ => by first | (go_simp; rfl) | (go_simp; done)) (by go_simp; rfl) HS ?_
          refine HeldBy.take (i := 14) rfl (by kernel_rfl) (by kernel_rfl) (by kernel_rfl) (fun _ _ _ h => h) (by rfl) (fun _ _ => by first | (go_simp; rfl) | (go_simp; done)) (by go_simp; rfl) HS ?_
          refine wpAnyH_done (by kernel_rfl) ?_ _
          have HF := Lib.hid HS.2
          clear HS HI HJ
          go_wp2
          go_roundw
          case rel => exact ⟨i + 1, rfl, by omega, by rw [HN.out], HZ3.out, HF.out⟩
          case measure => simp [intOf]; omega
        · rw [if_neg hlf] at HN
          refine wp_region_held_drew (S := fun V => KAt V kb line[i] ∧ Looks B R q bd bf g cap w line due fails V) (by kernel_rfl) ⟨HK.out, HQ.out.drew⟩ (fun _ => ?_)
          refine HeldBy.gen (fun V => KAt V kb line[i] ∧ Looks B R q bd bf g cap w line due fails V) ⟨HK.out, HQ.out.drew⟩ ?_
          clear HK HQ
          rintro U0 HS
          refine HeldBy.take (i := 0) rfl (by kernel_rfl) (by kernel_rfl) (by kernel_rfl) (fun _ _ _ h => h) (by rfl) (fun _ _ => by first | (go_simp; rfl) | (go_simp; done)) (by go_simp; rfl) HS ?_
          refine HeldBy.take (i := 1) rfl (by kernel_rfl) (by kernel_rfl) (by kernel_rfl) (fun _ _ _ h => h) (by rfl) (fun _ _ => by first | (go_simp; rfl) | (go_simp; done)) (by go_simp; rfl) HS ?_
          refine HeldBy.take (i := 2) rfl (by kernel_rfl) (by kernel_rfl) (by kernel_rfl) (fun _ _ _ h => h) (by rfl) (fun _ _ => by first | (go_simp; rfl) | (go_simp; done)) (by go_simp; rfl) HS ?_
          refine HeldBy.take (i := 3) rfl (by kernel_rfl) (by kernel_rfl) (by kernel_rfl) (fun _ _ _ h => h) (by rfl) (fun _ _ => by first | (go_simp; rfl) | (go_simp; done)) (by go_simp; rfl) HS ?_
          refine HeldBy.take (i := 4) rfl (by kernel_rfl) (by kernel_rfl) (by kernel_rfl) (fun _ _ _ h => h) (by rfl) (fun V hV => by have hc := hV.2.at_.c1; first | (go_simp; rfl) | (go_simp; done)) (by go_simp; rfl) HS ?_
          refine HeldBy.take (i := 5) rfl (by kernel_rfl) (by kernel_rfl) (by kernel_rfl) (fun _ _ _ h => h) (by rfl) (fun _ _ => by first | (go_simp; rfl) | (go_simp; done)) (by go_simp; rfl) HS ?_
          refine HeldBy.take (i := 6) rfl (by kernel_rfl) (by kernel_rfl) (by kernel_rfl) (fun _ _ _ h => h) (by rfl) (fun _ _ => by first | (go_simp; rfl) | (go_simp; done)) (by go_simp; rfl) HS ?_
          refine HeldBy.take (i := 7) rfl (by kernel_rfl) (by kernel_rfl) (by kernel_rfl) (fun _ _ _ h => h) (by rfl) (fun _ _ => by first | (go_simp; rfl) | (go_simp; done)) (by go_simp; rfl) HS ?_
          refine HeldBy.take (i := 8) rfl (by kernel_rfl) (by kernel_rfl) (by kernel_rfl) (fun _ _ _ h => h) (by rfl) (fun V hV => by have hc := hV.2.at_.c0; first | (go_simp; rfl) | (go_simp; done)) (by go_simp; rfl) HS ?_
          refine HeldBy.take (i := 9) rfl (by kernel_rfl) (by kernel_rfl) (by kernel_rfl) (fun _ _ _ h => h) (by rfl) (fun _ _ => by first | (go_simp; rfl) | (go_simp; done)) (by go_simp; rfl) HS ?_
          refine HeldBy.take (i := 10) rfl (by kernel_rfl) (by kernel_rfl) (by kernel_rfl) (fun _ _ _ h => h) (by rfl) (fun _ _ => by first | (go_simp; rfl) | (go_simp; done)) (by go_simp; rfl) HS ?_
          refine HeldBy.take (i := 11) (v := .agg #[.int .u8 line[f].k, .string line[f].n]) rfl (by kernel_rfl) (by kernel_rfl) (by kernel_rfl) (fun _ _ _ h => h) (by rfl) (fun V hV => by have h0 := (hV.2.row.at_ f hfl).1; have h1 := (hV.2.row.at_ f hfl).2; first | (go_simp; rfl) | (go_simp; done)) (by go_simp; rfl) HS ?_
          refine HeldBy.take (i := 12) (v := .int .u64 df) rfl (by kernel_rfl) (by kernel_rfl) (by kernel_rfl) (fun _ _ _ h => h) (by rfl) (fun V hV => exec_lookup1_ok rfl und_tU rfl rfl hV.2.q.due HJ.out) (by go_simp; rfl) HS ?_
          refine HeldBy.take (i := 13) rfl (by kernel_rfl) (by kernel_rfl) (by kernel_rfl) (fun _ _ _ h => h) (by rfl) (fun _ _ => by first | (go_simp; rfl) | (go_simp; done)) (by go_simp; rfl) HS ?_
          refine HeldBy.take (i := 14) rfl (by kernel_rfl) (by kernel_rfl) (by kernel_rfl) (fun _ _ _ h => h) (by rfl) (fun _ _ => by first | (go_simp; rfl) | (go_simp; done)) (by go_simp; rfl) HS ?_
          refine wpAnyH_done (by kernel_rfl) ?_ _
          have HF := Lib.hid HS.2
          clear HS HI HJ
          go_wp2
          go_roundw
          case rel => exact ⟨i + 1, rfl, by omega, by rw [HN.out], HZ3.out, HF.out⟩
          case measure => simp [intOf]; omega
    · have hlt' : ¬ (i : Int) < (line.length : Int) := by omega
      have HE : Hid (firstAt ds i = firstN ds) := by
        show _ = _
        unfold firstN
        rw [HD.out.len, show i = line.length by omega]
      clear HZ
      go_wp2
      rw [HE.out]
      go_ret2
      exact ⟨rfl, HF.out.low⟩

set_option maxRecDepth 100000 in
set_option maxHeartbeats 4000000 in
theorem next_any (B R q bd bf : Nat) (line : List Ky) (due fails : List (Ky × Value)) (ds : List Int) (w : World) (h : QIs B R w q bd bf line due fails) (hd : Dues line due ds) (hn : 0 < line.length) (hm : line.length ≤ 256) :
    Calls Try.prog 23 #[.pointer (some ⟨q, 0, none⟩)] w fun e w' => e = .returned (.tuple #[.int .u64 (ds.getD (firstN ds) 0), .bool true]) ∧ Below w.heap.size w w' := by
  obtain ⟨sl, ha, hr⟩ := h.at_
  obtain ⟨g, cap, rfl, hrow⟩ := row_at hr hn
  have hfl : firstN ds < line.length := by
    have := firstAt_len (ds := ds) (by rw [hd.len]; exact hn) (Nat.le_refl _)
    rw [hd.len] at this
    unfold firstN
    rw [hd.len]
    exact this
  have HJ := Lib.hid (hd.at_ (firstN ds) hfl)
  have hfst := first_any B R q bd bf line due fails ds w h hd hn hm
  have HN := Lib.hid hfst
  have HF : Hid (Looks B R q bd bf g cap w line due fails w) := ⟨h, ha, hrow, Below.refl _ _⟩
  clear h hd ha hr hrow hfst
  generalize firstN ds = f at *
  generalize ds.getD f 0 = df at *
  have hfl' : (f : Int) < (line.length : Int) := by omega
  go_enter Try.func23, Try.ntmps23
  go_wp2_with fail
  refine HN.out.mono ?_
  rintro e W1 ⟨rfl, hb⟩
  replace HF := Lib.hid (HF.out.after hb)
  have HQ := Lib.hid HF.out
  clear HN hb HF
  go_upto_region 4 with (fail)
  refine wp_region_held_drew (S := fun V => Looks B R q bd bf g cap w line due fails V) (by kernel_rfl) HQ.out.drew (fun _ => ?_)
  refine HeldBy.gen (fun V => Looks B R q bd bf g cap w line due fails V) HQ.out.drew ?_
  clear HQ
  rintro U0 HS
  refine HeldBy.take (i := 0) rfl (by kernel_rfl) (by kernel_rfl) (by kernel_rfl) (fun _ _ _ h => h) (by rfl) (fun _ _ => by first | (go_simp; rfl) | (go_simp; done)) (by go_simp; rfl) HS ?_
  refine HeldBy.take (i := 1) rfl (by kernel_rfl) (by kernel_rfl) (by kernel_rfl) (fun _ _ _ h => h) (by rfl) (fun _ _ => by first | (go_simp; rfl) | (go_simp; done)) (by go_simp; rfl) HS ?_
  refine HeldBy.take (i := 2) rfl (by kernel_rfl) (by kernel_rfl) (by kernel_rfl) (fun _ _ _ h => h) (by rfl) (fun _ _ => by first | (go_simp; rfl) | (go_simp; done)) (by go_simp; rfl) HS ?_
  refine HeldBy.take (i := 3) rfl (by kernel_rfl) (by kernel_rfl) (by kernel_rfl) (fun _ _ _ h => h) (by rfl) (fun V hV => by have hc := hV.at_.c1; first | (go_simp; rfl) | (go_simp; done)) (by go_simp; rfl) HS ?_
  refine HeldBy.take (i := 4) rfl (by kernel_rfl) (by kernel_rfl) (by kernel_rfl) (fun _ _ _ h => h) (by rfl) (fun _ _ => by first | (go_simp; rfl) | (go_simp; done)) (by go_simp; rfl) HS ?_
  refine HeldBy.take (i := 5) rfl (by kernel_rfl) (by kernel_rfl) (by kernel_rfl) (fun _ _ _ h => h) (by rfl) (fun _ _ => by first | (go_simp; rfl) | (go_simp; done)) (by go_simp; rfl) HS ?_
  refine HeldBy.take (i := 6) rfl (by kernel_rfl) (by kernel_rfl) (by kernel_rfl) (fun _ _ _ h => h) (by rfl) (fun _ _ => by first | (go_simp; rfl) | (go_simp; done)) (by go_simp; rfl) HS ?_
  refine HeldBy.take (i := 7) rfl (by kernel_rfl) (by kernel_rfl) (by kernel_rfl) (fun _ _ _ h => h) (by rfl) (fun V hV => by have hc := hV.at_.c0; first | (go_simp; rfl) | (go_simp; done)) (by go_simp; rfl) HS ?_
  refine HeldBy.take (i := 8) rfl (by kernel_rfl) (by kernel_rfl) (by kernel_rfl) (fun _ _ _ h => h) (by rfl) (fun _ _ => by first | (go_simp; rfl) | (go_simp; done)) (by go_simp; rfl) HS ?_
  refine HeldBy.take (i := 9) rfl (by kernel_rfl) (by kernel_rfl) (by kernel_rfl) (fun _ _ _ h => h) (by rfl) (fun _ _ => by first | (go_simp; rfl) | (go_simp; done)) (by go_simp; rfl) HS ?_
  refine HeldBy.take (i := 10) (v := .agg #[.int .u8 line[f].k, .string line[f].n]) rfl (by kernel_rfl) (by kernel_rfl) (by kernel_rfl) (fun _ _ _ h => h) (by rfl) (fun V hV => by have h0 := (hV.row.at_ f hfl).1; have h1 := (hV.row.at_ f hfl).2; first | (go_simp; rfl) | (go_simp; done)) (by go_simp; rfl) HS ?_
  refine HeldBy.take (i := 11) (v := .int .u64 df) rfl (by kernel_rfl) (by kernel_rfl) (by kernel_rfl) (fun _ _ _ h => h) (by rfl) (fun V hV => exec_lookup1_ok rfl und_tU rfl rfl hV.q.due HJ.out) (by go_simp; rfl) HS ?_
  refine HeldBy.take (i := 12) rfl (by kernel_rfl) (by kernel_rfl) (by kernel_rfl) (fun _ _ _ h => h) (by rfl) (fun _ _ => by first | (go_simp; rfl) | (go_simp; done)) (by go_simp; rfl) HS ?_
  refine HeldBy.take (i := 13) rfl (by kernel_rfl) (by kernel_rfl) (by kernel_rfl) (fun _ _ _ h => h) (by rfl) (fun _ _ => by first | (go_simp; rfl) | (go_simp; done)) (by go_simp; rfl) HS ?_
  refine wpAnyH_done (by kernel_rfl) ?_ _
  have HF := Lib.hid HS
  clear HS HJ
  go_wp2
  go_ret2
  exact ⟨rfl, HF.out.low⟩
end Go.Proofs.Ytjmiodbpebaajaa.W
