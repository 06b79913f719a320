/- What must be whatever is asked. -/
import Derived.Test.YtjmiodbpebaajaaWFail
namespace Go.Proofs.Ytjmiodbpebaajaa.W
open Go Go.RowKit KM
open Go.Lib

theorem heap3 (w : World) (x y z : Go.Obj) : (((w.alloc x).alloc y).alloc z).heap[w.heap.size + 1 + 1]? = some z ∧ (((w.alloc x).alloc y).alloc z).heap[w.heap.size + 1]? = some y ∧ (((w.alloc x).alloc y).alloc z).heap[w.heap.size]? = some x := by
  have k : ∀ (W : World) (o : Go.Obj) (b : Nat) (v : Go.Obj), W.heap[b]? = some v → (W.alloc o).heap[b]? = some v := fun W o b v h => (Below.heap_alloc W o b (Array.getElem?_eq_some_iff.1 h).1).trans h
  have n : ∀ (W : World) (o : Go.Obj) (b : Nat), W.heap.size = b → (W.alloc o).heap[b]? = some o := fun W o b h => by subst h; exact heap_alloc_new W o
  exact ⟨n _ _ _ (by simp), k _ _ _ _ (n _ _ _ (by simp)), k _ _ _ _ (k _ _ _ _ (n _ _ _ rfl))⟩
theorem new_any (w : World) : Calls Try.prog 29 #[] w fun e w' => e = .returned (.pointer (some ⟨w.heap.size + 1 + 1, 0, none⟩)) ∧ QAt w' (w.heap.size + 1 + 1) (.slice none 0 0) w.heap.size (w.heap.size + 1) ∧ IsMap encK w' w.heap.size [] ∧ IsMap encK w' (w.heap.size + 1) [] ∧ Below w.heap.size w w' ∧ w'.heap.size = w.heap.size + 3 := by
  have H := Lib.hid (heap3 w (.map #[] 0) (.map #[] 0) (.cells #[.slice none 0 0, .map (some w.heap.size), .map (some (w.heap.size + 1))] 65 (0, 0)))
  have m1 : ∀ w, (Instr.makeMap 62 none).run Try.prog w = .ok (.map (some w.heap.size)) (w.alloc (.map #[] 0)) := fun _ => rfl
  have m2 : ∀ w, (Instr.makeMap 63 none).run Try.prog w = .ok (.map (some w.heap.size)) (w.alloc (.map #[] 0)) := fun _ => rfl
  go_enter Try.func29, Try.ntmps29
  go_wp2
  go_ret
  exact ⟨rfl, H.out.1, ⟨#[], 0, H.out.2.2, rfl⟩, ⟨#[], 0, H.out.2.1, rfl⟩, (((Below.refl _ _).alloc (Nat.le_refl _) _).alloc (by simp) _).alloc (by simp; omega) _, by simp⟩
theorem delay_at {f v : Int} (h : delayN f = v) (w : World) (h0 : -9223372036854775808 ≤ f) (h1 : f ≤ 9223372036854775807) : Calls Try.prog 15 #[.int .i64 f] w fun e w' => e = .returned (.int .u64 v) ∧ w = w' := by
  subst h
  exact delay_any f w h0 h1
theorem own_len {R : Nat} {W : World} {sl : Value} {n : Nat} {xs : List Value} (hr : W.ownsRow R 25 2 sl n xs) : sl = .slice none 0 0 ∧ n = 0 ∨ ∃ a c, sl = .slice (some a) n c := by
  rcases hr.2 with ⟨h1, h2⟩ | ⟨g, cap, cur, h1, -⟩
  · exact .inl ⟨h1, h2⟩
  · exact .inr ⟨_, _, h1⟩
theorem qlen_any (B R q bd bf : Nat) (line : List Ky) (due fails : List (Ky × Value)) (w : World) (h : QIs B R w q bd bf line due fails) :
    Calls Try.prog 21 #[.pointer (some ⟨q, 0, none⟩)] w fun e w' => e = .returned (.int .i64 (line.length : Int)) ∧ w = w' := by
  obtain ⟨sl, ha, hr⟩ := h.at_
  exact len_any q sl line.length bd bf w ha (own_len hr)

set_option maxRecDepth 100000 in
set_option maxHeartbeats 4000000 in
theorem due_at (B R q bd bf : Nat) (line : List Ky) (due fails : List (Ky × Value)) (k : Ky) (v : Int) (w : World) (h : QIs B R w q bd bf line due fails) (hv : KM.get k due = some (.int .u64 v)) :
    Calls Try.prog 20 #[.pointer (some ⟨q, 0, none⟩), encK k] w fun e w' => e = .returned (.tuple #[.int .u64 v, .bool true]) ∧ Below w.heap.size w w' := by
  have HV := Lib.hid hv
  have H0 := Lib.hid h
  clear h hv
  unfold encK
  go_enter Try.func20, Try.ntmps20
  go_upto_region 1 with (fail)
  refine wp_gen (fun V => KAt V w.heap.size k ∧ QIs B R V q bd bf line due fails ∧ Below w.heap.size w V) ⟨KAt.new w k, H0.out.after ((Below.refl _ _).alloc (Nat.le_refl _) _), (Below.refl _ _).alloc (Nat.le_refl _) _⟩ ?_
  clear H0
  rintro V ⟨hk, hq, hlow⟩
  obtain ⟨sl, ha, -⟩ := hq.at_
  have HK := Lib.hid hk
  have HA := Lib.hid ha
  have HD := Lib.hid hq.due
  have HL := Lib.hid hlow
  clear hk hq hlow ha
  go_upto_region 3 with (fail)
  refine wp_region_held_drew (S := fun V => QAt V q sl bd bf ∧ IsMap encK V bd due ∧ KAt V w.heap.size k ∧ Below w.heap.size w V) (by kernel_rfl) ⟨HA.out, HD.out, HK.out, HL.out.drew⟩ (fun _ => ?_)
  refine HeldBy.gen (fun V => QAt V q sl bd bf ∧ IsMap encK V bd due ∧ KAt V w.heap.size k ∧ Below w.heap.size w V) ⟨HA.out, HD.out, HK.out, HL.out.drew⟩ ?_
  clear HA HD HK HL
  rintro U0 HS
  refine HeldBy.take (i := 0) rfl (by kernel_rfl) (by kernel_rfl) (by kernel_rfl) (fun _ _ _ h => h) (by rfl) (fun _ _ => by first | (go_simp; rfl) | (go_simp; done)) (by go_simp; rfl) HS ?_
  refine HeldBy.take (i := 1) rfl (by kernel_rfl) (by kernel_rfl) (by kernel_rfl) (fun _ _ _ h => h) (by rfl) (fun _ _ => by first | (go_simp; rfl) | (go_simp; done)) (by go_simp; rfl) HS ?_
  refine HeldBy.take (i := 2) rfl (by kernel_rfl) (by kernel_rfl) (by kernel_rfl) (fun _ _ _ h => h) (by rfl) (fun _ _ => by first | (go_simp; rfl) | (go_simp; done)) (by go_simp; rfl) HS ?_
  refine HeldBy.take (i := 3) rfl (by kernel_rfl) (by kernel_rfl) (by kernel_rfl) (fun _ _ _ h => h) (by rfl) (fun V hV => by have hc := hV.1.c1; first | (go_simp; rfl) | (go_simp; done)) (by go_simp; rfl) HS ?_
  refine HeldBy.take (i := 4) rfl (by kernel_rfl) (by kernel_rfl) (by kernel_rfl) (fun _ _ _ h => h) (by rfl) (fun V hV => by have h0 := hV.2.2.1.c0; have h1 := hV.2.2.1.c1; first | (go_simp; rfl) | (go_simp; done)) (by go_simp; rfl) HS ?_
  refine HeldBy.take (i := 5) (v := .tuple #[.int .u64 v, .bool true]) rfl (by kernel_rfl) (by kernel_rfl) (by kernel_rfl) (fun _ _ _ h => h) (by rfl) (fun V hV => exec_lookup_ok rfl und_tU rfl rfl hV.2.1 HV.out) (by go_simp; rfl) HS ?_
  refine HeldBy.take (i := 6) rfl (by kernel_rfl) (by kernel_rfl) (by kernel_rfl) (fun _ _ _ h => h) (by rfl) (fun _ _ => by first | (go_simp; rfl) | (go_simp; done)) (by go_simp; rfl) HS ?_
  refine HeldBy.take (i := 7) rfl (by kernel_rfl) (by kernel_rfl) (by kernel_rfl) (fun _ _ _ h => h) (by rfl) (fun _ _ => by first | (go_simp; rfl) | (go_simp; done)) (by go_simp; rfl) HS ?_
  refine HeldBy.take (i := 8) rfl (by kernel_rfl) (by kernel_rfl) (by kernel_rfl) (fun _ _ _ h => h) (by rfl) (fun _ _ => by first | (go_simp; rfl) | (go_simp; done)) (by go_simp; rfl) HS ?_
  refine HeldBy.take (i := 9) rfl (by kernel_rfl) (by kernel_rfl) (by kernel_rfl) (fun _ _ _ h => h) (by rfl) (fun _ _ => by first | (go_simp; rfl) | (go_simp; done)) (by go_simp; rfl) HS ?_
  refine HeldBy.take (i := 10) rfl (by kernel_rfl) (by kernel_rfl) (by kernel_rfl) (fun _ _ _ h => h) (by rfl) (fun _ _ => by first | (go_simp; rfl) | (go_simp; done)) (by go_simp; rfl) HS ?_
  refine wpAnyH_done (by kernel_rfl) ?_ _
  have HF := Lib.hid HS.2.2.2
  clear HS
  go_wp2
  go_ret2
  exact ⟨rfl, HF.out⟩

def KA : Ky := ⟨3, ⟨#[97]⟩⟩
theorem sizeK : (Try.prog.info? 25).map (·.size) = some 2 := by kernel_rfl
theorem g1 : KM.get KA ([] : List (Ky × Value)) = none := rfl
theorem ga (v : Value) (m : List (Ky × Value)) : KM.get KA (KM.put KA v m) = some v := by rw [get_put, if_pos rfl]
theorem la : lineN KA [] [] = [KA] := rfl
theorem lb (v : Value) (m : List (Ky × Value)) (l : List Ky) : lineN KA (KM.put KA v m) l = l := by unfold lineN; rw [ga]
theorem d1 : delayN 1 = 1 := by decide
theorem d2 : delayN 2 = 2 := by decide
theorem d3 : delayN 3 = 4 := by decide
theorem live_fail (B R q bd bf kb : Nat) (line : List Ky) (due fails : List (Ky × Value)) (n F d : Int) (w : World) (h : QIs B R w q bd bf line due fails) (hk : KAt w kb KA) (hkb : kb < R ∧ kb ≠ q ∧ kb ≠ bd ∧ kb ≠ bf) (hf : KM.get KA fails = none ∧ n = 0 ∨ KM.get KA fails = some (.int .i64 n))
    (hn : 0 ≤ n ∧ n ≤ 39) (hF : F = n + 1) (hd : 10 + min (delayN F) (18446744073709551615 - 10) = d) (hl : line.length < 256) :
    Calls Try.prog 25 #[.pointer (some ⟨q, 0, none⟩), encK KA, .int .u64 10] w fun e w' => e = .returned (.int .i64 0) ∧ QIs B R w' q bd bf (lineN KA due line) (KM.put KA (.int .u64 d) due) (KM.put KA (.int .i64 F) fails) ∧ Below B w w' ∧ KAt w' kb KA := by
  subst hd
  refine (fail_any B R q bd bf line due fails KA 10 n F w h hf (by omega) (by omega) (by omega) (fun _ => hl)).mono ?_
  rintro e w' ⟨h1, h2, h3, h4⟩
  refine ⟨h1, h2, h3, hk.of_heap (h4 kb hk.lt hkb.2.1 hkb.2.2.1 hkb.2.2.2 fun sl hs e => ?_)⟩
  obtain ⟨sl', ha, hr⟩ := h.at_
  rw [hs.same ha] at e
  have := row_low hr kb e.symm
  omega

set_option maxRecDepth 100000 in
set_option maxHeartbeats 4000000 in
theorem live_any (w : World) : Calls Try.prog 13 #[] w fun e w' => e = .returned (.bool true) ∧ Below w.heap.size w w' := by
  go_enter Try.func13, Try.ntmps13
  go_wp2_with fail
  refine (new_any _).mono ?_
  rintro e W1 ⟨rfl, hq, hd, hf, hb, hs⟩
  have hn1 : KAt (W1.alloc (.cells #[.int .u8 0, .string ⟨#[]⟩] 25 (0, 0))) W1.heap.size ⟨0, ⟨#[]⟩⟩ := KAt.new W1 ⟨0, ⟨#[]⟩⟩
  have HB := Lib.hid hb
  have HQ := Lib.hid hq
  have HD := Lib.hid hd
  have HF := Lib.hid hf
  have HS := Lib.hid hs
  clear hq hd hf hb hs
  go_upto_region 3 with ((with_reducible refine wpList_store_rowTo rfl 25 _ _ rfl rfl W1.heap.size (#[.int .u8 3, .string ⟨#[97]⟩]) ?_ ?_ 25 (#[.int .u8 0, .string ⟨#[]⟩]) ?_ ?_ ?_ ?_ ?_); rfl; rfl; exact hn1; exact sizeK; rfl; rfl)
  refine wp_gen (fun V => KAt V W1.heap.size KA ∧ QIs w.heap.size V.heap.size V (w.heap.size + 1 + 1) w.heap.size (w.heap.size + 1) [] [] [] ∧ Below w.heap.size w V ∧ V.heap.size = W1.heap.size + 1) ?_ ?_
  · have hsz := HS.out
    have hb := HB.out
    have hset : ∀ b, b < W1.heap.size → (W1.alloc (.cells #[.int .u8 3, .string ⟨#[97]⟩] 25 (0, 0))).heap[b]? = W1.heap[b]? := fun b hb => Below.heap_alloc W1 _ b hb
    have hss : (W1.alloc (.cells #[.int .u8 3, .string ⟨#[97]⟩] 25 (0, 0))).heap.size = W1.heap.size + 1 := by simp
    refine ⟨KAt.new W1 KA, ⟨⟨_, HQ.out.of_heap (hset _ HQ.out.lt), World.ownsRow_nil _ _ _ _⟩, HD.out.of_heap (hset _ HD.out.lt), HF.out.of_heap (hset _ HF.out.lt), ⟨by omega, by omega, by omega⟩, by omega, ?_, Nat.le_refl _⟩, hb.alloc hb.size _, hss⟩
    rw [hss]
    omega
  have hsz := HS.out
  clear HB HQ HD HF HS hn1
  rintro V ⟨hk, hq, hb, hs⟩
  generalize V.heap.size = R at hq hs
  have HKB := Lib.hid (show W1.heap.size < R ∧ W1.heap.size ≠ w.heap.size + 1 + 1 ∧ W1.heap.size ≠ w.heap.size ∧ W1.heap.size ≠ w.heap.size + 1 from ⟨by omega, by omega, by omega, by omega⟩)
  clear hsz hs
  have HB := Lib.hid hb
  have HQ := Lib.hid hq
  have HK := Lib.hid hk
  have k0 : V.cell? ⟨W1.heap.size, 0, none⟩ = some (.int .u8 3) := hk.c0
  have k1 : V.cell? ⟨W1.heap.size, 1, none⟩ = some (.string ⟨#[97]⟩) := hk.c1
  clear hk hq hb
  go_wp2_with fail
  refine (live_fail w.heap.size R _ _ _ W1.heap.size [] [] [] 0 1 11 _ HQ.out HK.out HKB.out (.inl ⟨rfl, rfl⟩) (by omega) rfl (by rw [d1]; rfl) (by decide)).mono ?_
  rintro e V1 ⟨rfl, hq, hb, hk⟩
  rw [la] at hq
  replace HB := Lib.hid (HB.out.trans hb)
  replace HQ := Lib.hid hq
  replace HK := Lib.hid hk
  clear k0 k1
  have k0 : V1.cell? ⟨W1.heap.size, 0, none⟩ = some (.int .u8 3) := hk.c0
  have k1 : V1.cell? ⟨W1.heap.size, 1, none⟩ = some (.string ⟨#[97]⟩) := hk.c1
  clear hk hq hb
  go_wp2_with fail
  refine (live_fail w.heap.size R _ _ _ W1.heap.size _ _ _ 1 2 12 _ HQ.out HK.out HKB.out (.inr (ga _ _)) (by omega) rfl (by rw [d2]; rfl) (by decide)).mono ?_
  rintro e V2 ⟨rfl, hq, hb, hk⟩
  rw [lb] at hq
  replace HB := Lib.hid (HB.out.trans hb)
  replace HQ := Lib.hid hq
  replace HK := Lib.hid hk
  clear k0 k1
  have k0 : V2.cell? ⟨W1.heap.size, 0, none⟩ = some (.int .u8 3) := hk.c0
  have k1 : V2.cell? ⟨W1.heap.size, 1, none⟩ = some (.string ⟨#[97]⟩) := hk.c1
  clear hk hq hb
  go_wp2_with fail
  refine (live_fail w.heap.size R _ _ _ W1.heap.size _ _ _ 2 3 14 _ HQ.out HK.out HKB.out (.inr (ga _ _)) (by omega) rfl (by rw [d3]; rfl) (by decide)).mono ?_
  rintro e V3 ⟨rfl, hq, hb, hk⟩
  rw [lb] at hq
  replace HB := Lib.hid (HB.out.trans hb)
  replace HQ := Lib.hid hq
  replace HK := Lib.hid hk
  clear k0 k1
  have k0 : V3.cell? ⟨W1.heap.size, 0, none⟩ = some (.int .u8 3) := hk.c0
  have k1 : V3.cell? ⟨W1.heap.size, 1, none⟩ = some (.string ⟨#[97]⟩) := hk.c1
  clear hk hq hb
  go_wp2_with fail
  refine (due_at w.heap.size R _ _ _ _ _ _ KA 14 _ HQ.out (ga _ _)).mono ?_
  rintro e V4 ⟨rfl, hb⟩
  replace HB := Lib.hid (HB.out.trans (hb.mono HB.out.size))
  replace HQ := Lib.hid (HQ.out.after hb)
  clear hb k0 k1 HK
  go_wp2_with fail
  refine (qlen_any w.heap.size R _ _ _ _ _ _ _ HQ.out).mono ?_
  rintro e V5 ⟨rfl, rfl⟩
  go_wp2_with fail
  refine (delay_at d1 _ (by omega) (by omega)).mono ?_
  rintro e V6 ⟨rfl, rfl⟩
  go_wp2
  go_ret
  exact ⟨rfl, HB.out⟩
end Go.Proofs.Ytjmiodbpebaajaa.W
