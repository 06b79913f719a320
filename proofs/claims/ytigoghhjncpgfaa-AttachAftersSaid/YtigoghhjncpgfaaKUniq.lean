/- Of one key the first object counts, as the document finds it. -/
import Derived.Test.YtigoghhjncpgfaaKRefG
import Derived.Test.YtigoghhjncpgfaaKUniqP
import Derived.Test.YtigoghhjncpgfaaKOut
import Derived.Test.YtigoghhjncpgfaaHeldChain
namespace Go.Proofs.Ytigoghhjncpgfaa.O.B
open Go Go.RowKit Go.Shelf Go.Lib RangeMap KM
attribute [local go_sem] Oper.semAt_some

set_option maxRecDepth 100000 in
set_option maxHeartbeats 4000000 in
theorem uniq_any (l : List Obj) (v : Value) (w : World) (hl : ObjsIn w v l) (hn : l.length < 100000) :
    Calls Try.prog 30 #[v] w fun e w' => ∃ v', e = .returned v' ∧ ObjsIn w' v' (uniqL l) ∧ Below w.heap.size w w' := by
  obtain ⟨o, cp, rfl, hm, -⟩ := id hl
  have HL := Lib.hid hl
  clear hl
  go_enter Try.func30, Try.ntmps30
  go_wp2_with (fail)
  go_loopw [3, 4] (fun ov i wr => ∃ (j : Nat) (sv : Value), i = .int .i64 (j : Int) ∧ sv = ov ∧ j ≤ l.length ∧ OutIn wr w.heap.size sv (uniqL (l.take j)) ∧ Below w.heap.size w wr) (fun _ i _ => l.length - (RowKit.intOf i).toNat)
  case atStart => exact ⟨0, _, rfl, rfl, Nat.zero_le _, OutIn.empty _ _, Below.refl _ _⟩
  case round =>
    obtain ⟨j, sv, rfl, rfl, hj, hout, hlow⟩ := hrel
    have HOUT := Lib.hid hout
    have HLOW := Lib.hid hlow
    clear hout hlow
    by_cases hlt : j < l.length
    · have hlt' : (j : Int) < (l.length : Int) := by omega
      have hobj := HL.out.after HLOW.out
      obtain ⟨o', c', he, -, hi⟩ := id hobj
      cases he
      obtain ⟨g, off, rfl, -, hrow⟩ := hi j hlt
      obtain ⟨x, hx⟩ : ∃ x, l[j] = x := ⟨_, rfl⟩
      have hrows : ∀ V : World, ObjsIn V (.slice (some ⟨g, off, none⟩) l.length cp) l → V.rangeAt g (off + j * 20) (cellsO x).toList := fun V hV => by
        obtain ⟨o2, c2, e2, -, h2⟩ := hV
        cases e2
        obtain ⟨g3, off3, e3, -, h3⟩ := h2 j hlt
        cases e3
        rw [← hx]
        exact h3
      have HROWS := Lib.hid hrows
      have htk := uniq_take hlt
      rw [hx] at htk
      have HTK := Lib.hid htk
      have HLEN : Hid ((uniqL (l.take j)).length < 100000) := by
        have h1 := uniq_len (l.take j)
        rw [List.length_take] at h1
        show _ < _
        omega
      have HO := HOUT
      have HLL := Lib.hid hobj
      have HW := HLOW
      clear hi hx hrow hrows htk hobj HOUT HLOW
      obtain ⟨acc, hacc⟩ : ∃ acc, uniqL (l.take j) = acc := ⟨_, rfl⟩
      rw [hacc] at HTK HLEN HO
      clear hacc
      obtain ⟨r, hr⟩ : ∃ r, getL acc x.kind x.name = r := ⟨_, rfl⟩
      have HRR := Lib.hid hr
      clear hr
      go_upto_region 5 with (fail)
      refine wp_region_held_drew (S := fun V => OutIn V w.heap.size sv acc ∧ ObjsIn V (.slice (some ⟨g, off, none⟩) l.length cp) l ∧ Below w.heap.size w V) (by kernel_rfl) ⟨HO.out, HLL.out, HW.out.drew⟩ (fun _ => ?_)
      refine HeldBy.gen (fun V => OutIn V w.heap.size sv acc ∧ ObjsIn V (.slice (some ⟨g, off, none⟩) l.length cp) l ∧ Below w.heap.size w V) ⟨HO.out, HLL.out, HW.out.drew⟩ ?_
      clear HO HLL HW
      rintro U0 HS
      refine HeldBy.take (i := 0) rfl (by kernel_rfl) (by kernel_rfl) (by kernel_rfl) (fun _ _ _ h => h) (by rfl) (fun _ _ => by first | (go_simp; rfl) | (go_simp; done)) (by go_simp; rfl) HS ?_
      refine HeldBy.take (i := 1) rfl (by kernel_rfl) (by kernel_rfl) (by kernel_rfl) (fun _ _ _ h => h) (by rfl) (fun _ _ => by first | (go_simp; rfl) | (go_simp; done)) (by go_simp; rfl) HS ?_
      refine HeldBy.take (i := 2) rfl (by kernel_rfl) (by kernel_rfl) (by kernel_rfl) (fun _ _ _ h => h) (by rfl) (fun _ _ => by first | (go_simp; rfl) | (go_simp; done)) (by go_simp; rfl) HS ?_
      refine HeldBy.take (i := 3) rfl (by kernel_rfl) (by kernel_rfl) (by kernel_rfl) (fun _ _ _ h => h) (by rfl) (fun _ _ => by first | (go_simp; rfl) | (go_simp; done)) (by go_simp; rfl) HS ?_
      refine HeldBy.take (i := 4) rfl (by kernel_rfl) (by kernel_rfl) (by kernel_rfl) (fun _ _ _ h => h) (by rfl) (fun _ _ => by first | (go_simp; rfl) | (go_simp; done)) (by go_simp; rfl) HS ?_
      refine HeldBy.take (i := 5) (v := .int .u8 x.kind) rfl (by kernel_rfl) (by kernel_rfl) (by kernel_rfl) (fun _ _ _ h => h) (by rfl) (fun V hV => by have h := row_cell (HROWS.out V hV.2.1) 0 _ rfl; rw [Nat.add_zero] at h; first | (go_simp; rfl) | (go_simp; done)) (by go_simp; rfl) HS ?_
      refine HeldBy.take (i := 6) rfl (by kernel_rfl) (by kernel_rfl) (by kernel_rfl) (fun _ _ _ h => h) (by rfl) (fun _ _ => by first | (go_simp; rfl) | (go_simp; done)) (by go_simp; rfl) HS ?_
      refine HeldBy.take (i := 7) rfl (by kernel_rfl) (by kernel_rfl) (by kernel_rfl) (fun _ _ _ h => h) (by rfl) (fun _ _ => by first | (go_simp; rfl) | (go_simp; done)) (by go_simp; rfl) HS ?_
      refine HeldBy.take (i := 8) rfl (by kernel_rfl) (by kernel_rfl) (by kernel_rfl) (fun _ _ _ h => h) (by rfl) (fun _ _ => by first | (go_simp; rfl) | (go_simp; done)) (by go_simp; rfl) HS ?_
      refine HeldBy.take (i := 9) rfl (by kernel_rfl) (by kernel_rfl) (by kernel_rfl) (fun _ _ _ h => h) (by rfl) (fun _ _ => by first | (go_simp; rfl) | (go_simp; done)) (by go_simp; rfl) HS ?_
      refine HeldBy.take (i := 10) (v := .string x.name) rfl (by kernel_rfl) (by kernel_rfl) (by kernel_rfl) (fun _ _ _ h => h) (by rfl) (fun V hV => by have h := row_cell (HROWS.out V hV.2.1) 1 _ rfl; first | (go_simp; rfl) | (go_simp; done)) (by go_simp; rfl) HS ?_
      have HSS : ∀ w', Below U0.heap.size U0 w' → (OutIn w' w.heap.size sv acc ∧ ObjsIn w' (.slice (some ⟨g, off, none⟩) l.length cp) l ∧ Below w.heap.size w w') := fun w' hb => ⟨HS.1.after hb, HS.2.1.after hb, HS.2.2.trans (hb.mono HS.2.2.size)⟩
      refine HeldBy.Goes.without (w0 := U0) (k := 15) (dk := some 5) (x := .cells (cellsO O0) 37 (0, 0)) ?_ U0 (Below.refl _ _)
      refine HeldBy.Goes.callS (i := 11) (v := .tuple #[encO (r.getD O0), .bool r.isSome]) rfl rfl rfl rfl (makes_o rfl) rfl (by kernel_rfl) (by kernel_rfl) rfl (by decide) (by kernel_rfl) (by intro w; first | (go_simp; done) | (go_simp; first | exact ⟨rfl, rfl⟩ | rfl)) (by first | (go_simp; rfl) | (go_simp; done)) HSS (fun _ HS => (by rw [← HRR.out]; exact rget_any acc _ x.kind x.name _ (HS.1.objs (by have := HLEN.out; omega)))) ?_
      refine HeldBy.Goes.take (i := 12) rfl (by kernel_rfl) rfl (by kernel_rfl) (by kernel_rfl) (by kernel_rfl) (by kernel_rfl) (fun _ _ _ h => h) rfl (by decide) (by kernel_rfl) (fun _ _ => by first | (go_simp; rfl) | (go_simp; done)) (by first | (go_simp; rfl) | (go_simp; done)) HSS ?_
      refine HeldBy.Goes.take (i := 13) rfl (by kernel_rfl) rfl (by kernel_rfl) (by kernel_rfl) (by kernel_rfl) (by kernel_rfl) (fun _ _ _ h => h) rfl (by decide) (by kernel_rfl) (fun _ _ => by first | (go_simp; rfl) | (go_simp; done)) (by first | (go_simp; rfl) | (go_simp; done)) HSS ?_
      refine HeldBy.Goes.take (i := 14) rfl (by kernel_rfl) rfl (by kernel_rfl) (by kernel_rfl) (by kernel_rfl) (by kernel_rfl) (fun _ _ _ h => h) rfl (by decide) (by kernel_rfl) (fun _ _ => by first | (go_simp; rfl) | (go_simp; done)) (by first | (go_simp; rfl) | (go_simp; done)) HSS ?_
      refine HeldBy.Goes.nil rfl rfl (by kernel_rfl) rfl (makes_o rfl) HSS rfl (fun p => by unfold HeldBy.ptr; go_simp; rfl) ?_
      intro p U1 hp hb hn
      have hS := HSS U1 hb
      obtain ⟨V3, hst, ho3, hoth, hbl⟩ := storing (show BoxO U1 p O0 from hn) (r.getD O0)
      have hg : ∀ b, sv.ownBlock = some b → b < U0.heap.size := fun b e => by
        rcases HS.1.2 with ⟨h1, -⟩ | ⟨g1, cap, cur, h1, h2, h3, -⟩
        · rw [h1] at e; cases e
        · rw [h1] at e; cases e; exact (Array.getElem?_eq_some_iff.1 h3).1
      have hO3 : OutIn V3 w.heap.size sv acc := hS.1.of fun b cs hb1 hb2 => hoth b (by have := hg b hb2; omega)
      have hw3 : Below w.heap.size w V3 := hbl _ _ hS.2.2 (by have := HS.2.2.size; omega)
      have hL3 : ObjsIn V3 (.slice (some ⟨g, off, none⟩) l.length cp) l := HL.out.after hw3
      have HS3 : OutIn V3 w.heap.size sv acc ∧ ObjsIn V3 (.slice (some ⟨g, off, none⟩) l.length cp) l ∧ Below w.heap.size w V3 := ⟨hO3, hL3, hw3⟩
      refine HeldBy.store (i := 16) (w' := V3) rfl (by kernel_rfl) (by rfl) (hst rfl rfl rfl) (by first | (go_simp; rfl) | (go_simp; done)) HS3 ?_
      refine HeldBy.take (i := 17) rfl (by kernel_rfl) (by kernel_rfl) (by kernel_rfl) (fun _ _ _ h => h) (by rfl) (fun _ _ => by first | (go_simp; rfl) | (go_simp; done)) (by first | (go_simp; rfl) | (go_simp; done)) HS3 ?_
      refine wpAnyH_done (by kernel_rfl) ?_ _
      have HO3 := Lib.hid hO3
      have HW3 := Lib.hid hw3
      have hrow3 := HROWS.out V3 hL3
      clear hS hst ho3 hoth hbl hg hO3 hw3 hL3 HS3 HSS HS hp hb hn HROWS
      cases hr2 : r.isSome with
      | true =>
        have HT2 : Hid (uniqL (l.take (j + 1)) = acc) := by
          show _ = _
          rw [HTK.out]
          unfold stepU
          rw [HRR.out, if_pos hr2]
        clear hr2
        go_wp2
        go_roundw
        case rel => exact ⟨j + 1, sv, by go_num, rfl, by omega, by rw [HT2.out]; exact HO3.out, HW3.out⟩
        case measure => simp [RowKit.intOf]; omega
      | false =>
        have HT2 : Hid (uniqL (l.take (j + 1)) = acc ++ [x]) := by
          show _ = _
          rw [HTK.out]
          unfold stepU
          rw [HRR.out, if_neg (by rw [hr2]; decide)]
        obtain ⟨v', W', hrun, ho4, hb4, -⟩ := add_obj w.heap.size V3 sv acc x 22 HO3.out HW3.out.size HLEN.out
        have HO4 := Lib.hid ho4
        have HW4 := Lib.hid (HW3.out.trans hb4)
        have HRUN := Lib.hid hrun
        clear hr2 ho4 hb4 hrun
        go_wp2_with (first | (refine wpList_got (v := encO x) rfl (load_mid hrow3 rfl rfl) ?_) | ((with_reducible refine wpList_objs rfl rfl _ (run_objs1 V3 x) ?_ ?_); rfl) | ((with_reducible refine wpList_add rfl rfl HRUN.out ?_ ?_ ?_); rfl; rfl))
        go_roundw
        case rel => exact ⟨j + 1, v', by go_num, rfl, by omega, by rw [HT2.out]; exact HO4.out, HW4.out⟩
        case measure => simp [RowKit.intOf]; omega
    · have hlt' : ¬ (j : Int) < (l.length : Int) := by omega
      have hE : l.take j = l := List.take_of_length_le (by omega)
      rw [hE] at HOUT
      have HX := Lib.hid (HOUT.out.objs (by have := uniq_len l; omega))
      clear hE HOUT
      go_wp2
      go_ret
      exact ⟨_, rfl, HX.out, HLOW.out⟩
end Go.Proofs.Ytigoghhjncpgfaa.O.B
