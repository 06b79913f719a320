/- What the document says is done behind a call: the whole. -/
import Derived.Test.YtijgieefmnmakaaDoorDRAfterC
import Derived.Test.YtijgieefmnmakaaDoorDRAfterS
namespace Go.Proofs.YtijgieefmnmakaaDoor.O.B
open Go Go.RowKit Go.Shelf Go.Lib RangeMap KM
attribute [local go_sem] Oper.semAt_some

set_option maxRecDepth 100000 in
set_option maxHeartbeats 8000000 in
theorem rafter_none (l : List Obj) (v : Value) (ver k : Int) (n : ByteArray) (c : Cl) (r : Rs) (w : World) (hl : ObjsIn w v l) (hlen : l.length < 100000) (h3 : k ≠ 3) (h7 : k ≠ 7) :
    Calls Tryd.prog 22 #[v, .int .u64 ver, encK k n, encC c, encR r] w fun e w' => e = .returned (encA (afterD l ver k n c r)) ∧ Below w.heap.size w w' := by
  obtain ⟨o, cp, rfl, -, -⟩ := id hl
  have HL := Lib.hid hl
  have HUN := Lib.hid (fun V (hV : ObjsIn V (.slice o l.length cp) l) => uniq_any l _ V hV hlen)
  have hul : (uniqL l).length < 100000 := Nat.lt_of_le_of_lt (uniq_len l) hlen
  obtain ⟨x, hx⟩ : ∃ x, afterD l ver k n c r = x := ⟨_, rfl⟩
  rw [hx]
  rw [after_none l ver k n c r h3 h7] at hx
  have e3 : (k == 3) = false := by simpa using h3
  have e7 : (k == 7) = false := by simpa using h7
  have HXX := Lib.hid hx
  clear hx hl hlen hul h3 h7
  have HKE : Hid (encK k n = .agg #[.int .u8 k, .string n]) := rfl
  unfold encR
  rw [show encC c = .agg (cellsC c) from rfl, HKE.out]
  unfold cellsC
  go_enter Tryd.func22, Tryd.ntmps22
  go_upto_region 1 with (fail)
  refine wp_gen (fun V => BoxK V w.heap.size k n ∧ BoxC V (w.heap.size + 1) c ∧ BoxR V (w.heap.size + 1 + 1) r ∧ BoxA V (w.heap.size + 1 + 1 + 1) nothing ∧ Below w.heap.size w V) (chain4 w _ _ _ _) ?_
  rintro V ⟨hk, hc, hr, ho, hlw⟩
  have HU := Lib.hid (HUN.out V (HL.out.after hlw))
  have HQ := Lib.hid hk
  have HC := Lib.hid hc
  have HR := Lib.hid hr
  have HO := Lib.hid ho
  have HW := Lib.hid hlw
  clear hk hc hr ho hlw HUN HL HKE
  go_wp2_with (fail)
  refine HU.out.mono ?_
  rintro e W1 ⟨u, rfl, hu, hb1⟩
  obtain ⟨o1, c1, rfl, -, -⟩ := id hu
  have HUU := Lib.hid hu
  have hlw := HW.out.trans (hb1.mono HW.out.size)
  replace HQ := Lib.hid (HQ.out.after hb1)
  replace HC := Lib.hid (HC.out.after hb1)
  replace HR := Lib.hid (HR.out.after hb1)
  replace HO := Lib.hid (HO.out.after hb1)
  replace HW := Lib.hid hlw
  clear HU hu hb1 hlw
  obtain ⟨V2, hs2, ha2, -, hb2⟩ := acting (show BoxA (W1.alloc (.cells (cellsA nothing) 36 (0, 0))) W1.heap.size nothing from heap_alloc_new _ _) nothing
  have hbel : Below W1.heap.size W1 V2 := hb2 _ _ ((Below.refl _ _).alloc (Nat.le_refl _) _) (Nat.le_refl _)
  have HA2 := Lib.hid ha2
  have HB2 := Lib.hid hbel
  obtain ⟨k0, k1⟩ := (HQ.out.after hbel).cells
  clear ha2 hb2
  have a0 : V2.cell? ⟨W1.heap.size, 0, none⟩ = some (.int .u8 0) := HA2.out.kind
  have hlw2 := HW.out.trans (hbel.mono HW.out.size)
  have HN4 : Hid (w.heap.size + 1 + 1 + 1 < W1.heap.size) := HO.out.lt
  replace HO := Lib.hid (HO.out.after hbel)
  replace HW := Lib.hid hlw2
  have HVV : Hid (x = nothing) := HXX.out.symm
  obtain ⟨V8, hst8, ho8, -, hb8⟩ := acting HO.out nothing
  have HO8 := Lib.hid ho8
  have HX8 := Lib.hid (hb8 _ _ HW.out (by omega))
  clear ho8 hb8 hlw2 HXX hbel
  go_wp2_with (first | (refine wpList_skip rfl (hs2 rfl rfl rfl) ?_) | (refine wpList_skip rfl (hst8 rfl rfl rfl) ?_))
  refine bodyPost_ret (v := encA nothing) (results_cell_row rfl _ _ (w.heap.size + 1 + 1 + 1) 36 (cellsA nothing) (0, 0) _ rfl HO8.out undAct rfl sizeAct) rfl ?_
  exact ⟨by rw [HVV.out], HX8.out⟩

theorem rafterD_any (l : List Obj) (v : Value) (ver k : Int) (n : ByteArray) (c : Cl) (r : Rs) (w : World) (hl : ObjsIn w v l) (hlen : l.length < 100000) (ht : Tab w) (hall : ∀ s ∈ l, (0 ≤ s.born ∧ s.born ≤ 18446744073709551615) ∧ s.name.size ≤ 140737488351232) :
    Calls Tryd.prog 22 #[v, .int .u64 ver, encK k n, encC c, encR r] w fun e w' => e = .returned (encA (afterD l ver k n c r)) ∧ Below w.heap.size w w' := by
  by_cases h3 : k = 3
  · subst h3
    exact rafter_claim l v ver n c r w hl hlen
  · by_cases h7 : k = 7
    · subst h7
      exact rafter_snap l v ver n c r w hl hlen ht hall
    · exact rafter_none l v ver k n c r w hl hlen h3 h7
end Go.Proofs.YtijgieefmnmakaaDoor.O.B
