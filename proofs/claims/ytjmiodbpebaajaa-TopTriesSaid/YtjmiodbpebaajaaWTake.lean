/- Take, at a queue that is there. -/
import Derived.Test.YtjmiodbpebaajaaWDel
import Derived.Test.YtjmiodbpebaajaaWTakeN
namespace Go.Proofs.Ytjmiodbpebaajaa.W
open Go Go.RowKit KM
open Go.Lib RowSet

theorem del_at (g cap : Nat) (cur : Array Value) (line : List Ky) (i : Nat) (w : World) (h : BlkAt w g cap cur line) (hi : i < line.length) (hm : line.length ≤ 256) :
    Calls Try.prog 43 #[.slice (some ⟨g, 0, none⟩) line.length cap, .int .i64 i, .int .i64 (i + 1 : Int)] w fun e w' =>
      e = .returned (.slice (some ⟨g, 0, none⟩) (line.eraseIdx i).length cap) ∧ BlkAt w' g cap (gone cur line i) (line.eraseIdx i) ∧ KeptDrew w g w' := by
  obtain ⟨m, hn⟩ : ∃ m, line.length = i + 1 + m := ⟨line.length - (i + 1), by omega⟩
  have h1 := del_any g cap cur line i m w h hn hm
  rw [← hn] at h1
  refine h1.mono ?_
  rintro e w' ⟨rfl, h2, h3, h4⟩
  exact ⟨by rw [erase_len hi, hn, show i + 1 + m - 1 = i + m by omega], h2, ⟨h3, h4⟩⟩
theorem first_none (B R q bd bf : Nat) (due fails : List (Ky × Value)) (w : World) (h : QIs B R w q bd bf [] due fails) :
    Calls Try.prog 42 #[.pointer (some ⟨q, 0, none⟩)] w fun e w' => e = .returned (.tuple #[.int .i64 0, .bool false]) ∧ Below w.heap.size w w' := by
  have HN := Lib.hid (qlen_any B R q bd bf [] due fails w h)
  clear h
  go_enter Try.func42, Try.ntmps42
  go_wp2_with fail
  go_step3
  go_wp2_with fail
  refine HN.out.mono ?_
  rintro e V ⟨rfl, rfl⟩
  clear HN
  go_wp2
  rw [Exit.noGoto_ret]
  go_ret2
  exact ⟨rfl, Below.refl _ _⟩
theorem next_none (B R q bd bf : Nat) (due fails : List (Ky × Value)) (w : World) (h : QIs B R w q bd bf [] due fails) :
    Calls Try.prog 23 #[.pointer (some ⟨q, 0, none⟩)] w fun e w' => e = .returned (.tuple #[.int .u64 0, .bool false]) ∧ Below w.heap.size w w' := by
  have HN := Lib.hid (first_none B R q bd bf due fails w h)
  clear h
  go_enter Try.func23, Try.ntmps23
  go_wp2_with fail
  refine HN.out.mono ?_
  rintro e V ⟨rfl, hb⟩
  have HB := Lib.hid hb
  clear hb HN
  go_wp2
  go_ret2
  exact ⟨rfl, HB.out⟩

set_option maxRecDepth 100000 in
set_option maxHeartbeats 2000000 in
theorem take_none (B R q bd bf : Nat) (due fails : List (Ky × Value)) (now : Int) (w : World) (h : QIs B R w q bd bf [] due fails) : Calls Try.prog 19 #[.pointer (some ⟨q, 0, none⟩), .int .u64 now] w fun e w' => e = .returned (.tuple #[encK K0, .bool false]) ∧ Below w.heap.size w w' := by
  have H0 := Lib.hid h
  clear h
  go_enter Try.func19, Try.ntmps19
  go_upto_region 1 with (fail)
  refine wp_gen (fun V => KAt V w.heap.size K0 ∧ QIs B R V q bd bf [] due fails ∧ Below w.heap.size w V) ⟨KAt.new w K0, H0.out.after ((Below.refl _ _).alloc (Nat.le_refl _) _), (Below.refl _ _).alloc (Nat.le_refl _) _⟩ ?_
  clear H0
  rintro V ⟨hk, hq, hlow⟩
  have HK := Lib.hid hk
  have HL := Lib.hid hlow
  have HN := Lib.hid (first_none B R q bd bf due fails V hq)
  clear hk hlow hq
  go_wp2_with fail
  refine HN.out.mono ?_
  rintro e V1 ⟨rfl, hb⟩
  replace HK := Lib.hid (HK.out.after hb)
  replace HL := Lib.hid (HL.out.trans (hb.mono HL.out.size))
  clear hb HN
  go_upto_region 2 with (fail)
  refine wp_region_held_drew (S := fun V => KAt V w.heap.size K0 ∧ Below w.heap.size w V) (by kernel_rfl) ⟨HK.out, HL.out.drew⟩ (fun _ => ?_)
  refine HeldBy.gen (fun V => KAt V w.heap.size K0 ∧ Below w.heap.size w V) ⟨HK.out, HL.out.drew⟩ ?_
  clear HK HL
  rintro U0 HS
  refine HeldBy.take (i := 0) rfl (by kernel_rfl) (by kernel_rfl) (by kernel_rfl) (fun _ _ _ h => h) (by rfl) (fun _ _ => by first | (go_simp; rfl) | (go_simp; done)) (by go_simp; rfl) HS ?_
  refine HeldBy.take (i := 1) rfl (by kernel_rfl) (by kernel_rfl) (by kernel_rfl) (fun _ _ _ h => h) (by rfl) (fun _ _ => by first | (go_simp; rfl) | (go_simp; done)) (by go_simp; rfl) HS ?_
  refine HeldBy.take (i := 2) rfl (by kernel_rfl) (by kernel_rfl) (by kernel_rfl) (fun _ _ _ h => h) (by rfl) (fun _ _ => by first | (go_simp; rfl) | (go_simp; done)) (by go_simp; rfl) HS ?_
  refine HeldBy.skip (i := 3) rfl (by kernel_rfl) (by kernel_rfl) (by kernel_rfl) (fun _ _ _ h => h) (by rfl) (by go_simp; rfl) HS ?_
  refine HeldBy.skip (i := 4) rfl (by kernel_rfl) (by kernel_rfl) (by kernel_rfl) (fun _ _ _ h => h) (by rfl) (by go_simp; rfl) HS ?_
  refine HeldBy.skip (i := 5) rfl (by kernel_rfl) (by kernel_rfl) (by kernel_rfl) (fun _ _ _ h => h) (by rfl) (by go_simp; rfl) HS ?_
  refine HeldBy.skip (i := 6) rfl (by kernel_rfl) (by kernel_rfl) (by kernel_rfl) (fun _ _ _ h => h) (by rfl) (by go_simp; rfl) HS ?_
  refine HeldBy.skip (i := 7) rfl (by kernel_rfl) (by kernel_rfl) (by kernel_rfl) (fun _ _ _ h => h) (by rfl) (by go_simp; rfl) HS ?_
  refine HeldBy.skip (i := 8) rfl (by kernel_rfl) (by kernel_rfl) (by kernel_rfl) (fun _ _ _ h => h) (by rfl) (by go_simp; rfl) HS ?_
  refine HeldBy.skip (i := 9) rfl (by kernel_rfl) (by kernel_rfl) (by kernel_rfl) (fun _ _ _ h => h) (by rfl) (by go_simp; rfl) HS ?_
  refine HeldBy.skip (i := 10) rfl (by kernel_rfl) (by kernel_rfl) (by kernel_rfl) (fun _ _ _ h => h) (by rfl) (by go_simp; rfl) HS ?_
  refine HeldBy.skip (i := 11) rfl (by kernel_rfl) (by kernel_rfl) (by kernel_rfl) (fun _ _ _ h => h) (by rfl) (by go_simp; rfl) HS ?_
  refine HeldBy.skip (i := 12) rfl (by kernel_rfl) (by kernel_rfl) (by kernel_rfl) (fun _ _ _ h => h) (by rfl) (by go_simp; rfl) HS ?_
  refine HeldBy.skip (i := 13) rfl (by kernel_rfl) (by kernel_rfl) (by kernel_rfl) (fun _ _ _ h => h) (by rfl) (by go_simp; rfl) HS ?_
  refine HeldBy.skip (i := 14) rfl (by kernel_rfl) (by kernel_rfl) (by kernel_rfl) (fun _ _ _ h => h) (by rfl) (by go_simp; rfl) HS ?_
  refine HeldBy.skip (i := 15) rfl (by kernel_rfl) (by kernel_rfl) (by kernel_rfl) (fun _ _ _ h => h) (by rfl) (by go_simp; rfl) HS ?_
  refine HeldBy.skip (i := 16) rfl (by kernel_rfl) (by kernel_rfl) (by kernel_rfl) (fun _ _ _ h => h) (by rfl) (by go_simp; rfl) HS ?_
  refine HeldBy.take (i := 17) rfl (by kernel_rfl) (by kernel_rfl) (by kernel_rfl) (fun _ _ _ h => h) (by rfl) (fun _ _ => by first | (go_simp; rfl) | (go_simp; done)) (by go_simp; rfl) HS ?_
  refine wpAnyH_done (by kernel_rfl) ?_ _
  have HK := Lib.hid HS.1
  have HL := Lib.hid HS.2
  have fz0 := HS.1.free 0
  have fz1 := HS.1.free 1
  have k0 : U0.cell? ⟨w.heap.size, 0, none⟩ = some (.int .u8 0) := HS.1.c0
  have k1 : U0.cell? ⟨w.heap.size, 1, none⟩ = some (.string ⟨#[]⟩) := HS.1.c1
  have h1 := heap_setCell_same U0 w.heap.size 0 _ _ (.int .u8 0) HS.1
  have h2 := heap_setCell_same _ w.heap.size 1 _ _ (.string ⟨#[]⟩) h1
  have HV := Lib.hid (load_kz (k := K0) (h2.trans rfl))
  have HF := Lib.hid ((HS.2.setCell (p := ⟨w.heap.size, 0, none⟩) (Nat.le_refl _) (.int .u8 0)).setCell (p := ⟨w.heap.size, 1, none⟩) (Nat.le_refl _) (.string ⟨#[]⟩))
  clear HS HK HL h1 h2
  go_wp2
  refine bodyPost_ret (v := .tuple #[encK K0, .bool false]) (results_ct rfl rfl rfl HV.out) rfl ⟨rfl, HF.out⟩

theorem firstN_lt {line : List Ky} {due : List (Ky × Value)} {ds : List Int} (hd : Dues line due ds) (hn : 0 < line.length) : firstN ds < line.length := by
  have := firstAt_len (ds := ds) (by rw [hd.len]; exact hn) (Nat.le_refl _)
  rw [hd.len] at this
  unfold firstN
  rw [hd.len]
  exact this

set_option maxRecDepth 100000 in
set_option maxHeartbeats 4000000 in
theorem take_late (B R q bd bf : Nat) (line : List Ky) (due fails : List (Ky × Value)) (ds : List Int) (now : Int) (w : World) (h : QIs B R w q bd bf line due fails) (hd : Dues line due ds) (hn : 0 < line.length) (hm : line.length ≤ 256) (hnow : now < ds.getD (firstN ds) 0) :
    Calls Try.prog 19 #[.pointer (some ⟨q, 0, none⟩), .int .u64 now] w fun e w' => e = .returned (.tuple #[encK K0, .bool false]) ∧ Below w.heap.size w w' := by
  obtain ⟨sl, ha, hr⟩ := h.at_
  obtain ⟨g, cap, rfl, hrow⟩ := row_at hr hn
  have hfl := firstN_lt hd hn
  have HJ := Lib.hid (hd.at_ (firstN ds) hfl)
  have HFST : Hid (∀ V, QIs B R V q bd bf line due fails → Calls Try.prog 42 #[.pointer (some ⟨q, 0, none⟩)] V fun e w' => e = .returned (.tuple #[.int .i64 (firstN ds : Nat), .bool true]) ∧ Below V.heap.size V w') := fun V hV => first_any B R q bd bf line due fails ds V hV hd hn hm
  have HF : Hid (Looks B R q bd bf g cap w line due fails w) := ⟨h, ha, hrow, Below.refl _ _⟩
  clear h hd ha hr hrow
  generalize firstN ds = f at *
  generalize ds.getD f 0 = df at *
  have hfl' : (f : Int) < (line.length : Int) := by omega
  go_enter Try.func19, Try.ntmps19
  go_upto_region 1 with (fail)
  refine wp_gen (fun V => KAt V w.heap.size K0 ∧ Looks B R q bd bf g cap w line due fails V) ⟨KAt.new w K0, HF.out.after ((Below.refl _ _).alloc (Nat.le_refl _) _)⟩ ?_
  clear HF
  rintro V ⟨hk, hq⟩
  have HK := Lib.hid hk
  have HQ := Lib.hid hq
  clear hk hq
  go_wp2_with fail
  refine (HFST.out _ HQ.out.q).mono ?_
  rintro e V1 ⟨rfl, hb⟩
  replace HK := Lib.hid (HK.out.after hb)
  replace HQ := Lib.hid (HQ.out.after hb)
  clear hb HFST
  go_upto_region 2 with (fail)
  refine wp_region_held_drew (S := fun V => KAt V w.heap.size K0 ∧ Looks B R q bd bf g cap w line due fails V) (by kernel_rfl) ⟨HK.out, HQ.out.drew⟩ (fun _ => ?_)
  refine HeldBy.gen (fun V => KAt V w.heap.size K0 ∧ Looks B R q bd bf g cap w line due fails V) ⟨HK.out, HQ.out.drew⟩ ?_
  clear HK HQ
  rintro U0 HS
  refine HeldBy.take (i := 0) rfl (by kernel_rfl) (by kernel_rfl) (by kernel_rfl) (fun _ _ _ h => h) (by rfl) (fun _ _ => by first | (go_simp; rfl) | (go_simp; done)) (by go_simp; rfl) HS ?_
  refine HeldBy.take (i := 1) rfl (by kernel_rfl) (by kernel_rfl) (by kernel_rfl) (fun _ _ _ h => h) (by rfl) (fun _ _ => by first | (go_simp; rfl) | (go_simp; done)) (by go_simp; rfl) HS ?_
  refine HeldBy.take (i := 2) rfl (by kernel_rfl) (by kernel_rfl) (by kernel_rfl) (fun _ _ _ h => h) (by rfl) (fun _ _ => by first | (go_simp; rfl) | (go_simp; done)) (by go_simp; rfl) HS ?_
  refine HeldBy.take (i := 3) rfl (by kernel_rfl) (by kernel_rfl) (by kernel_rfl) (fun _ _ _ h => h) (by rfl) (fun _ _ => by first | (go_simp; rfl) | (go_simp; done)) (by go_simp; rfl) HS ?_
  refine HeldBy.take (i := 4) rfl (by kernel_rfl) (by kernel_rfl) (by kernel_rfl) (fun _ _ _ h => h) (by rfl) (fun _ _ => by first | (go_simp; rfl) | (go_simp; done)) (by go_simp; rfl) HS ?_
  refine HeldBy.take (i := 5) rfl (by kernel_rfl) (by kernel_rfl) (by kernel_rfl) (fun _ _ _ h => h) (by rfl) (fun _ _ => by first | (go_simp; rfl) | (go_simp; done)) (by go_simp; rfl) HS ?_
  refine HeldBy.take (i := 6) rfl (by kernel_rfl) (by kernel_rfl) (by kernel_rfl) (fun _ _ _ h => h) (by rfl) (fun V hV => by have hc := hV.2.at_.c1; first | (go_simp; rfl) | (go_simp; done)) (by go_simp; rfl) HS ?_
  refine HeldBy.take (i := 7) rfl (by kernel_rfl) (by kernel_rfl) (by kernel_rfl) (fun _ _ _ h => h) (by rfl) (fun _ _ => by first | (go_simp; rfl) | (go_simp; done)) (by go_simp; rfl) HS ?_
  refine HeldBy.take (i := 8) rfl (by kernel_rfl) (by kernel_rfl) (by kernel_rfl) (fun _ _ _ h => h) (by rfl) (fun _ _ => by first | (go_simp; rfl) | (go_simp; done)) (by go_simp; rfl) HS ?_
  refine HeldBy.take (i := 9) rfl (by kernel_rfl) (by kernel_rfl) (by kernel_rfl) (fun _ _ _ h => h) (by rfl) (fun _ _ => by first | (go_simp; rfl) | (go_simp; done)) (by go_simp; rfl) HS ?_
  refine HeldBy.take (i := 10) rfl (by kernel_rfl) (by kernel_rfl) (by kernel_rfl) (fun _ _ _ h => h) (by rfl) (fun V hV => by have hc := hV.2.at_.c0; first | (go_simp; rfl) | (go_simp; done)) (by go_simp; rfl) HS ?_
  refine HeldBy.take (i := 11) rfl (by kernel_rfl) (by kernel_rfl) (by kernel_rfl) (fun _ _ _ h => h) (by rfl) (fun _ _ => by first | (go_simp; rfl) | (go_simp; done)) (by go_simp; rfl) HS ?_
  refine HeldBy.take (i := 12) rfl (by kernel_rfl) (by kernel_rfl) (by kernel_rfl) (fun _ _ _ h => h) (by rfl) (fun _ _ => by first | (go_simp; rfl) | (go_simp; done)) (by go_simp; rfl) HS ?_
  refine HeldBy.take (i := 13) (v := .agg #[.int .u8 line[f].k, .string line[f].n]) rfl (by kernel_rfl) (by kernel_rfl) (by kernel_rfl) (fun _ _ _ h => h) (by rfl) (fun V hV => by have h0 := (hV.2.row.at_ f hfl).1; have h1 := (hV.2.row.at_ f hfl).2; first | (go_simp; rfl) | (go_simp; done)) (by go_simp; rfl) HS ?_
  refine HeldBy.take (i := 14) (v := .int .u64 df) rfl (by kernel_rfl) (by kernel_rfl) (by kernel_rfl) (fun _ _ _ h => h) (by rfl) (fun V hV => exec_lookup1_ok rfl und_tU rfl rfl hV.2.q.due HJ.out) (by go_simp; rfl) HS ?_
  refine HeldBy.take (i := 15) rfl (by kernel_rfl) (by kernel_rfl) (by kernel_rfl) (fun _ _ _ h => h) (by rfl) (fun _ _ => by first | (go_simp; rfl) | (go_simp; done)) (by go_simp; rfl) HS ?_
  refine HeldBy.take (i := 16) rfl (by kernel_rfl) (by kernel_rfl) (by kernel_rfl) (fun _ _ _ h => h) (by rfl) (fun _ _ => by first | (go_simp; rfl) | (go_simp; done)) (by go_simp; rfl) HS ?_
  refine HeldBy.take (i := 17) rfl (by kernel_rfl) (by kernel_rfl) (by kernel_rfl) (fun _ _ _ h => h) (by rfl) (fun _ _ => by first | (go_simp; rfl) | (go_simp; done)) (by go_simp; rfl) HS ?_
  refine wpAnyH_done (by kernel_rfl) ?_ _
  have fz0 := HS.1.free 0
  have fz1 := HS.1.free 1
  have k0 : U0.cell? ⟨w.heap.size, 0, none⟩ = some (.int .u8 0) := HS.1.c0
  have k1 : U0.cell? ⟨w.heap.size, 1, none⟩ = some (.string ⟨#[]⟩) := HS.1.c1
  have h1 := heap_setCell_same U0 w.heap.size 0 _ _ (.int .u8 0) HS.1
  have h2 := heap_setCell_same _ w.heap.size 1 _ _ (.string ⟨#[]⟩) h1
  have HV := Lib.hid (load_kz (k := K0) (h2.trans rfl))
  have HF := Lib.hid ((HS.2.low.setCell (p := ⟨w.heap.size, 0, none⟩) (Nat.le_refl _) (.int .u8 0)).setCell (p := ⟨w.heap.size, 1, none⟩) (Nat.le_refl _) (.string ⟨#[]⟩))
  clear HS h1 h2 HJ
  go_wp2
  refine bodyPost_ret (v := .tuple #[encK K0, .bool false]) (results_ct rfl rfl rfl HV.out) rfl ⟨rfl, HF.out⟩
end Go.Proofs.Ytjmiodbpebaajaa.W
