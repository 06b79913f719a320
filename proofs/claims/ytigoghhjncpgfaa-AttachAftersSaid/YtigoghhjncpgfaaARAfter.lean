/- The document: what is done behind a call for a volume. -/
import Derived.Test.YtigoghhjncpgfaaAAfter
import Derived.Test.YtigoghhjncpgfaaARVol
import Derived.Test.YtigoghhjncpgfaaALive
namespace Go.Proofs.Ytigoghhjncpgfaa.O.B
open Go Go.RowKit Go.Shelf Go.Lib RangeMap KM
attribute [local go_sem] Oper.semAt_some

theorem go_plain (a : Obj) (b : Bool) (n : Int) : Plain (goN a b n) := by
  unfold goN
  split
  · exact plain_ask _
  · split
    · exact plain_write _
    · split
      · exact plain_ask _
      · exact plain_none
theorem vol_plain (l : List Obj) (ver : Int) (name : ByteArray) : Plain (volumeA l ver name) := by
  unfold volumeA
  split
  · exact plain_none
  · split
    · exact go_plain _ _ _
    · unfold beginN
      split
      · exact plain_none
      · split
        · exact plain_none
        · split
          · exact plain_none
          · exact plain_write _
theorem acell {W : World} {b : Nat} {a : Ac} (h : BoxA W b a) : W.rangeAt b 21 (cellsC a.call).toList := h.callAt

set_option maxRecDepth 100000 in
set_option maxHeartbeats 16000000 in
theorem rafter_any (l : List Obj) (v : Value) (ver : Int) (c : Cl) (r : Rs) (w : World) (hl : ObjsIn w v l) (hn : l.length < 90000) (hz : ∀ o ∈ l, o.name.size ≤ 140737488351232 ∧ o.node.size ≤ 140737488351232) :
    Calls Try.prog 22 #[v, .int .u64 ver, encC c, encR r] w fun e w' => e = .returned (encA (afterA l ver c r)) ∧ Below w.heap.size w w' := by
  obtain ⟨o, cp, rfl, -, -⟩ := id hl
  have HL := Lib.hid hl
  have HN := Lib.hid (fun V (hV : ObjsIn V (.slice o l.length cp) l) => rvol_any l _ ver c.target V hV hn hz)
  have HK := Lib.hid (fun V (hV : ObjsIn V (.slice o l.length cp) l) => ratts_any l _ c.target V hV hn)
  have HNA := Lib.hid (Nat.lt_of_le_of_lt (atts_len l c.target) hn)
  have HPL := Lib.hid (vol_plain l ver c.target)
  clear hl hn hz
  obtain ⟨x, hx⟩ : ∃ x, afterA l ver c r = x := ⟨_, rfl⟩
  rw [hx]
  unfold afterA askedN at hx
  obtain ⟨G, hG⟩ : ∃ G, volumeA l ver c.target = G := ⟨_, rfl⟩
  obtain ⟨A, hA⟩ : ∃ A, attsL l c.target = A := ⟨_, rfl⟩
  rw [hG] at hx HN HPL
  rw [hA] at hx HK HNA
  obtain ⟨NX, hNX⟩ : ∃ NX, up ver = NX := ⟨_, rfl⟩
  have hNX' : IntKind.u64.wrap (ver + 1) = NX := hNX
  rw [hNX] at hx
  have HXX := Lib.hid hx
  clear hx hG hA hNX
  unfold encR
  rw [show encC c = .agg (cellsC c) from rfl]
  unfold cellsC
  go_enter Try.func22, Try.ntmps22
  go_upto_region 1 with (fail)
  refine wp_gen (fun V => BoxC V w.heap.size c ∧ BoxR V (w.heap.size + 1) r ∧ BoxA V (w.heap.size + 1 + 1) nothing ∧ Below w.heap.size w V) (chain3 w _ _ _) ?_
  rintro V ⟨hc, hr, ho, hlw⟩
  have HC := Lib.hid hc
  have HR := Lib.hid hr
  have HO := Lib.hid ho
  have HW := Lib.hid hlw
  have c1 := hc.cells.2
  have HNV := Lib.hid (HN.out V (HL.out.after hlw))
  clear hc hr ho hlw HN
  go_wp2_with (fail)
  refine HNV.out.mono ?_
  rintro e W1 ⟨rfl, hb1⟩
  obtain ⟨X1, sx, ax, lx⟩ := actbox W1 G
  have hx1 := hb1.trans (lx.mono hb1.size)
  have HC1 := Lib.hid (HC.out.after hx1)
  have HR1 := Lib.hid (HR.out.after hx1)
  have HO1 := Lib.hid (HO.out.after hx1)
  have HW1 := Lib.hid (HW.out.trans (hx1.mono HW.out.size))
  have HA1 := Lib.hid ax
  have a0 := ax.kind
  have k1 := HC1.out.cells.2
  have hbc := HC1.out
  have hcall := acell ax
  clear HNV hb1 lx hx1 ax HC HR HO HW c1
  by_cases h3 : G.act = 3
  · have q3 : (G.act != 3) = false := by simp [h3]
    by_cases hcc : G.call = c
    · have HGC : Hid (G = askA c) := by
        show _ = _
        rw [HPL.out h3, hcc]
      have HX1 : Hid (behindA ((A.find? (forC c)).getD O0) c r NX = x) := by
        show _ = _
        rw [← HXX.out, if_pos HGC.out]
      clear HXX HPL h3
      have HKV := Lib.hid (HK.out X1 (HL.out.after HW1.out))
      go_wp2_with (first | (refine wpList_skip rfl (sx rfl rfl rfl) ?_) | (refine wpList_got (v := encC G.call) rfl (load_callAt hcall rfl rfl) ?_) | (refine wpList_got (v := encC c) rfl (load_call hbc rfl rfl) ?_) | (refine wpList_got rfl (exec_neq_at hcc rfl rfl rfl) ?_))
      refine HKV.out.mono ?_
      rintro e W5 ⟨A', av, rfl, rfl, hA5, hb5⟩
      have HC5 := Lib.hid (HC1.out.after hb5)
      have HR5 := Lib.hid (HR1.out.after hb5)
      have HO5 := Lib.hid (HO1.out.after hb5)
      have HW5 := Lib.hid (HW1.out.trans (hb5.mono HW1.out.size))
      have HA5 := Lib.hid (hA5.objs (by have := HNA.out; omega))
      clear HKV hA5 hb5 HC1 HR1 HO1 HW1 HA1 a0 k1 hbc hcall sx HGC hcc q3 HK HL
      have hm63 : A'.length ≤ 9223372036854775807 := by have := HNA.out; omega
      obtain ⟨o2, c2, rfl, -, -⟩ := id HA5.out
      go_upto_region 6 with (fail)
      obtain ⟨b, hb⟩ : ∃ b, W5.heap.size = b := ⟨_, rfl⟩
      refine wp_gen (fun V => BoxO V W5.heap.size O0 ∧ Below W5.heap.size W5 V) ⟨BoxO.new W5 O0, (Below.refl _ _).alloc (Nat.le_refl _) _⟩ ?_
      have HBE := Lib.hid hb
      rw [hb]
      clear hb
      rintro X ⟨hx1, hx2⟩
      have HBX := Lib.hid hx1
      have HXB := Lib.hid hx2
      clear hx1 hx2
      go_wp2
      go_loopw [12, 13] (fun fv iv wr => ∃ (j : Nat) (f : Bool), iv = .int .i64 (j : Int) ∧ fv = .bool f ∧ f = (A'.take j).any (forC c) ∧ j ≤ A'.length ∧ BoxO wr b (((A'.take j).find? (forC c)).getD O0) ∧ Below b W5 wr) (fun _ iv _ => A'.length - (RowKit.intOf iv).toNat)
      case atStart => exact ⟨0, false, rfl, rfl, rfl, Nat.zero_le _, HBX.out, HXB.out⟩
      case round =>
        obtain ⟨j, f, rfl, rfl, hf, hj, hbj, hlj⟩ := hrel
        have hl5 : Below W5.heap.size W5 wr := by rw [HBE.out]; exact hlj
        by_cases hlt : j < A'.length
        · have hlt' : (j : Int) < (A'.length : Int) := by omega
          have hsk := HA5.out.after hl5
          obtain ⟨o4, c4, he, -, hi4⟩ := id hsk
          cases he
          obtain ⟨g2, off2, rfl, -, -⟩ := hi4 j hlt
          obtain ⟨y, hye⟩ : ∃ y, A'[j] = y := ⟨_, rfl⟩
          have hrows : ∀ V : World, ObjsIn V (.slice (some ⟨g2, off2, none⟩) A'.length c2) A' → V.rangeAt g2 (off2 + j * 20) (cellsO y).toList := fun V hV => by
            obtain ⟨o5, c5, e5, -, h5⟩ := hV
            cases e5
            obtain ⟨g6, off6, e6, -, h6⟩ := h5 j hlt
            cases e6
            rw [← hye]
            exact h6
          have HROWS := Lib.hid hrows
          have htk : A'.take (j + 1) = A'.take j ++ [y] := by rw [List.take_succ_eq_append_getElem hlt, hye]
          have HTA : Hid ((A'.take (j + 1)).any (forC c) = (f || forC c y)) := by
            show _ = _
            rw [htk, hf]
            simp
          have HTF : Hid ((((A'.take (j + 1)).find? (forC c)).getD O0) = if f = true then ((A'.take j).find? (forC c)).getD O0 else if forC c y = true then y else O0) := by
            show _ = _
            rw [htk, List.find?_append]
            cases f with
            | true =>
              have h1 : ((A'.take j).find? (forC c)).isSome = true := by rw [List.find?_isSome]; simpa using hf.symm
              obtain ⟨z, hz⟩ := Option.isSome_iff_exists.1 h1
              rw [hz, if_pos rfl]
              rfl
            | false =>
              have h1 : (A'.take j).find? (forC c) = none := by
                rw [List.find?_eq_none]
                intro z hz hfz
                have := List.any_eq_true.2 ⟨z, hz, hfz⟩
                rw [← hf] at this
                cases this
              rw [h1, if_neg (by decide)]
              cases hy : forC c y <;> simp [hy]
          have HNF : Hid (f = false → ((A'.take j).find? (forC c)).getD O0 = O0) := fun h => by
            have h1 : (A'.take j).find? (forC c) = none := by
              rw [List.find?_eq_none]
              intro z hz hfz
              have := List.any_eq_true.2 ⟨z, hz, hfz⟩
              rw [← hf, h] at this
              cases this
            rw [h1]
            rfl
          have HSK := Lib.hid hsk
          have HCK := Lib.hid (HC5.out.after hl5)
          have HBK := Lib.hid hbj
          have HLK := Lib.hid hlj
          clear hi4 hye hrows hsk hbj hlj hl5 htk hf
          obtain ⟨bx, hbx⟩ : ∃ bx, ((A'.take j).find? (forC c)).getD O0 = bx := ⟨_, rfl⟩
          rw [hbx] at HBK HTF HNF
          clear hbx
          go_upto_region 10 with (fail)
          refine wp_region_held_drew (S := fun V => ObjsIn V (.slice (some ⟨g2, off2, none⟩) A'.length c2) A' ∧ BoxC V w.heap.size c ∧ BoxO V b bx ∧ Below b W5 V) (by kernel_rfl) ⟨HSK.out, HCK.out, HBK.out, HLK.out.drew⟩ (fun _ => ?_)
          refine HeldBy.gen (fun V => ObjsIn V (.slice (some ⟨g2, off2, none⟩) A'.length c2) A' ∧ BoxC V w.heap.size c ∧ BoxO V b bx ∧ Below b W5 V) ⟨HSK.out, HCK.out, HBK.out, HLK.out.drew⟩ ?_
          clear HSK HCK HBK HLK
          rintro U0 HS
          cases f with
          | true =>
            refine HeldBy.take (i := 0) rfl (by kernel_rfl) (by kernel_rfl) (by kernel_rfl) (fun _ _ _ h => h) (by rfl) (fun _ _ => by first | (go_simp; rfl) | (go_simp; done)) (by go_simp; rfl) HS ?_
            refine HeldBy.take (i := 1) rfl (by kernel_rfl) (by kernel_rfl) (by kernel_rfl) (fun _ _ _ h => h) (by rfl) (fun _ _ => by first | (go_simp; rfl) | (go_simp; done)) (by go_simp; rfl) HS ?_
            refine HeldBy.take (i := 2) rfl (by kernel_rfl) (by kernel_rfl) (by kernel_rfl) (fun _ _ _ h => h) (by rfl) (fun _ _ => by first | (go_simp; rfl) | (go_simp; done)) (by go_simp; rfl) HS ?_
            refine HeldBy.skip (i := 3) rfl (by kernel_rfl) (by kernel_rfl) (by kernel_rfl) (fun _ _ _ h => h) (by rfl) (by go_simp; rfl) HS ?_
            refine HeldBy.skip (i := 4) rfl (by kernel_rfl) (by kernel_rfl) (by kernel_rfl) (fun _ _ _ h => h) (by rfl) (by go_simp; rfl) HS ?_
            refine HeldBy.skip (i := 5) rfl (by kernel_rfl) (by kernel_rfl) (by kernel_rfl) (fun _ _ _ h => h) (by rfl) (by go_simp; rfl) HS ?_
            refine HeldBy.skip (i := 6) rfl (by kernel_rfl) (by kernel_rfl) (by kernel_rfl) (fun _ _ _ h => h) (by rfl) (by go_simp; rfl) HS ?_
            refine HeldBy.skip (i := 7) rfl (by kernel_rfl) (by kernel_rfl) (by kernel_rfl) (fun _ _ _ h => h) (by rfl) (by go_simp; rfl) HS ?_
            refine HeldBy.skip (i := 8) rfl (by kernel_rfl) (by kernel_rfl) (by kernel_rfl) (fun _ _ _ h => h) (by rfl) (by go_simp; rfl) HS ?_
            refine HeldBy.skip (i := 9) rfl (by kernel_rfl) (by kernel_rfl) (by kernel_rfl) (fun _ _ _ h => h) (by rfl) (by go_simp; rfl) HS ?_
            refine HeldBy.skip (i := 10) rfl (by kernel_rfl) (by kernel_rfl) (by kernel_rfl) (fun _ _ _ h => h) (by rfl) (by go_simp; rfl) HS ?_
            refine HeldBy.take (i := 11) rfl (by kernel_rfl) (by kernel_rfl) (by kernel_rfl) (fun _ _ _ h => h) (by rfl) (fun _ _ => by first | (go_simp; rfl) | (go_simp; done)) (by go_simp; rfl) HS ?_
            refine HeldBy.take (i := 12) rfl (by kernel_rfl) (by kernel_rfl) (by kernel_rfl) (fun _ _ _ h => h) (by rfl) (fun _ _ => by first | (go_simp; rfl) | (go_simp; done)) (by go_simp; rfl) HS ?_
            refine HeldBy.skip (i := 13) rfl (by kernel_rfl) (by kernel_rfl) (by kernel_rfl) (fun _ _ _ h => h) (by rfl) (by go_simp; rfl) HS ?_
            refine HeldBy.skip (i := 14) rfl (by kernel_rfl) (by kernel_rfl) (by kernel_rfl) (fun _ _ _ h => h) (by rfl) (by go_simp; rfl) HS ?_
            refine HeldBy.skip (i := 15) rfl (by kernel_rfl) (by kernel_rfl) (by kernel_rfl) (fun _ _ _ h => h) (by rfl) (by go_simp; rfl) HS ?_
            refine HeldBy.skip (i := 16) rfl (by kernel_rfl) (by kernel_rfl) (by kernel_rfl) (fun _ _ _ h => h) (by rfl) (by go_simp; rfl) HS ?_
            refine HeldBy.skip (i := 17) rfl (by kernel_rfl) (by kernel_rfl) (by kernel_rfl) (fun _ _ _ h => h) (by rfl) (by go_simp; rfl) HS ?_
            refine HeldBy.skip (i := 18) rfl (by kernel_rfl) (by kernel_rfl) (by kernel_rfl) (fun _ _ _ h => h) (by rfl) (by go_simp; rfl) HS ?_
            refine HeldBy.skip (i := 19) rfl (by kernel_rfl) (by kernel_rfl) (by kernel_rfl) (fun _ _ _ h => h) (by rfl) (by go_simp; rfl) HS ?_
            refine HeldBy.skip (i := 20) rfl (by kernel_rfl) (by kernel_rfl) (by kernel_rfl) (fun _ _ _ h => h) (by rfl) (by go_simp; rfl) HS ?_
            refine HeldBy.take (i := 21) rfl (by kernel_rfl) (by kernel_rfl) (by kernel_rfl) (fun _ _ _ h => h) (by rfl) (fun _ _ => by first | (go_simp; rfl) | (go_simp; done)) (by go_simp; rfl) HS ?_
            refine wpAnyH_done (by kernel_rfl) ?_ _
            have HB9 := Lib.hid HS.2.2.1
            have HL9 := Lib.hid HS.2.2.2
            clear HS HROWS
            go_wp2
            go_roundw
            case rel => exact ⟨j + 1, true, by go_num, rfl, by rw [HTA.out]; rfl, by omega, by rw [HTF.out]; exact HB9.out, HL9.out⟩
            case measure => simp [RowKit.intOf]; omega
          | false =>
            by_cases hn : y.node = c.node
            · have hnl := str_eq hn
              have hnt : y.node.toList = c.node.toList := by rw [hn]
              by_cases hu : y.num = c.num
              · have hu' : (y.num == c.num) = true := by simpa using hu
                have HFY : Hid (forC c y = true) := by show _ = _; unfold forC; simp [hn, hu]
                clear hn hu
                refine HeldBy.take (i := 0) rfl (by kernel_rfl) (by kernel_rfl) (by kernel_rfl) (fun _ _ _ h => h) (by rfl) (fun _ _ => by first | (go_simp; rfl) | (go_simp; done)) (by go_simp; rfl) HS ?_
                refine HeldBy.take (i := 1) rfl (by kernel_rfl) (by kernel_rfl) (by kernel_rfl) (fun _ _ _ h => h) (by rfl) (fun _ _ => by first | (go_simp; rfl) | (go_simp; done)) (by go_simp; rfl) HS ?_
                refine HeldBy.take (i := 2) rfl (by kernel_rfl) (by kernel_rfl) (by kernel_rfl) (fun _ _ _ h => h) (by rfl) (fun _ _ => by first | (go_simp; rfl) | (go_simp; done)) (by go_simp; rfl) HS ?_
                refine HeldBy.take (i := 3) rfl (by kernel_rfl) (by kernel_rfl) (by kernel_rfl) (fun _ _ _ h => h) (by rfl) (fun _ _ => by first | (go_simp; rfl) | (go_simp; done)) (by go_simp; rfl) HS ?_
                refine HeldBy.take (i := 4) rfl (by kernel_rfl) (by kernel_rfl) (by kernel_rfl) (fun _ _ _ h => h) (by rfl) (fun _ _ => by first | (go_simp; rfl) | (go_simp; done)) (by go_simp; rfl) HS ?_
                refine HeldBy.take (i := 5) rfl (by kernel_rfl) (by kernel_rfl) (by kernel_rfl) (fun _ _ _ h => h) (by rfl) (fun _ _ => by first | (go_simp; rfl) | (go_simp; done)) (by go_simp; rfl) HS ?_
                refine HeldBy.take (i := 6) rfl (by kernel_rfl) (by kernel_rfl) (by kernel_rfl) (fun _ _ _ h => h) (by rfl) (fun _ _ => by first | (go_simp; rfl) | (go_simp; done)) (by go_simp; rfl) HS ?_
                refine HeldBy.take (i := 7) (v := .string y.node) rfl (by kernel_rfl) (by kernel_rfl) (by kernel_rfl) (fun _ _ _ h => h) (by rfl) (fun V hV => by have h := row_cell (HROWS.out V hV.1) 13 _ rfl; first | (go_simp; rfl) | (go_simp; done)) (by go_simp; rfl) HS ?_
                refine HeldBy.take (i := 8) rfl (by kernel_rfl) (by kernel_rfl) (by kernel_rfl) (fun _ _ _ h => h) (by rfl) (fun _ _ => by first | (go_simp; rfl) | (go_simp; done)) (by go_simp; rfl) HS ?_
                refine HeldBy.take (i := 9) (v := .string c.node) rfl (by kernel_rfl) (by kernel_rfl) (by kernel_rfl) (fun _ _ _ h => h) (by rfl) (fun V hV => by have h := hV.2.1.rest.2; first | (go_simp; rfl) | (go_simp; done)) (by go_simp; rfl) HS ?_
                refine HeldBy.take (i := 10) rfl (by kernel_rfl) (by kernel_rfl) (by kernel_rfl) (fun _ _ _ h => h) (by rfl) (fun _ _ => by first | (go_simp; rfl) | (go_simp; done)) (by go_simp; rfl) HS ?_
                refine HeldBy.take (i := 11) rfl (by kernel_rfl) (by kernel_rfl) (by kernel_rfl) (fun _ _ _ h => h) (by rfl) (fun _ _ => by first | (go_simp; rfl) | (go_simp; done)) (by go_simp; rfl) HS ?_
                refine HeldBy.take (i := 12) rfl (by kernel_rfl) (by kernel_rfl) (by kernel_rfl) (fun _ _ _ h => h) (by rfl) (fun _ _ => by first | (go_simp; rfl) | (go_simp; done)) (by go_simp; rfl) HS ?_
                refine HeldBy.take (i := 13) rfl (by kernel_rfl) (by kernel_rfl) (by kernel_rfl) (fun _ _ _ h => h) (by rfl) (fun _ _ => by first | (go_simp; rfl) | (go_simp; done)) (by go_simp; rfl) HS ?_
                refine HeldBy.take (i := 14) rfl (by kernel_rfl) (by kernel_rfl) (by kernel_rfl) (fun _ _ _ h => h) (by rfl) (fun _ _ => by first | (go_simp; rfl) | (go_simp; done)) (by go_simp; rfl) HS ?_
                refine HeldBy.take (i := 15) rfl (by kernel_rfl) (by kernel_rfl) (by kernel_rfl) (fun _ _ _ h => h) (by rfl) (fun _ _ => by first | (go_simp; rfl) | (go_simp; done)) (by go_simp; rfl) HS ?_
                refine HeldBy.take (i := 16) rfl (by kernel_rfl) (by kernel_rfl) (by kernel_rfl) (fun _ _ _ h => h) (by rfl) (fun _ _ => by first | (go_simp; rfl) | (go_simp; done)) (by go_simp; rfl) HS ?_
                refine HeldBy.take (i := 17) (v := .int .u64 y.num) rfl (by kernel_rfl) (by kernel_rfl) (by kernel_rfl) (fun _ _ _ h => h) (by rfl) (fun V hV => by have h := row_cell (HROWS.out V hV.1) 18 _ rfl; first | (go_simp; rfl) | (go_simp; done)) (by go_simp; rfl) HS ?_
                refine HeldBy.take (i := 18) rfl (by kernel_rfl) (by kernel_rfl) (by kernel_rfl) (fun _ _ _ h => h) (by rfl) (fun _ _ => by first | (go_simp; rfl) | (go_simp; done)) (by go_simp; rfl) HS ?_
                refine HeldBy.take (i := 19) (v := .int .u64 c.num) rfl (by kernel_rfl) (by kernel_rfl) (by kernel_rfl) (fun _ _ _ h => h) (by rfl) (fun V hV => by have h := hV.2.1.rest.1; first | (go_simp; rfl) | (go_simp; done)) (by go_simp; rfl) HS ?_
                refine HeldBy.take (i := 20) rfl (by kernel_rfl) (by kernel_rfl) (by kernel_rfl) (fun _ _ _ h => h) (by rfl) (fun _ _ => by first | (go_simp; rfl) | (go_simp; done)) (by go_simp; rfl) HS ?_
                refine HeldBy.take (i := 21) rfl (by kernel_rfl) (by kernel_rfl) (by kernel_rfl) (fun _ _ _ h => h) (by rfl) (fun _ _ => by first | (go_simp; rfl) | (go_simp; done)) (by go_simp; rfl) HS ?_
                refine wpAnyH_done (by kernel_rfl) ?_ _
                have hrow3 := HROWS.out U0 HS.1
                obtain ⟨V8, hst8, ho8, ov8, hb8⟩ := storing HS.2.2.1 y
                have HB9 := Lib.hid ho8
                have HL9 := Lib.hid (hb8 _ _ HS.2.2.2 (Nat.le_refl _))
                clear HS HROWS ho8 ov8 hb8
                go_wp2_with (first | (refine wpList_got (v := encO y) rfl (load_mid hrow3 rfl rfl) ?_) | (refine wpList_skip rfl (hst8 rfl rfl rfl) ?_))
                go_roundw
                case rel => exact ⟨j + 1, true, by go_num, rfl, by rw [HTA.out, HFY.out]; rfl, by omega, by rw [HTF.out, HFY.out]; exact HB9.out, HL9.out⟩
                case measure => simp [RowKit.intOf]; omega
              · have hu' : (y.num == c.num) = false := by simpa using hu
                have HFY : Hid (forC c y = false) := by show _ = _; unfold forC; simp [hu]
                clear hn hu
                refine HeldBy.take (i := 0) rfl (by kernel_rfl) (by kernel_rfl) (by kernel_rfl) (fun _ _ _ h => h) (by rfl) (fun _ _ => by first | (go_simp; rfl) | (go_simp; done)) (by go_simp; rfl) HS ?_
                refine HeldBy.take (i := 1) rfl (by kernel_rfl) (by kernel_rfl) (by kernel_rfl) (fun _ _ _ h => h) (by rfl) (fun _ _ => by first | (go_simp; rfl) | (go_simp; done)) (by go_simp; rfl) HS ?_
                refine HeldBy.take (i := 2) rfl (by kernel_rfl) (by kernel_rfl) (by kernel_rfl) (fun _ _ _ h => h) (by rfl) (fun _ _ => by first | (go_simp; rfl) | (go_simp; done)) (by go_simp; rfl) HS ?_
                refine HeldBy.take (i := 3) rfl (by kernel_rfl) (by kernel_rfl) (by kernel_rfl) (fun _ _ _ h => h) (by rfl) (fun _ _ => by first | (go_simp; rfl) | (go_simp; done)) (by go_simp; rfl) HS ?_
                refine HeldBy.take (i := 4) rfl (by kernel_rfl) (by kernel_rfl) (by kernel_rfl) (fun _ _ _ h => h) (by rfl) (fun _ _ => by first | (go_simp; rfl) | (go_simp; done)) (by go_simp; rfl) HS ?_
                refine HeldBy.take (i := 5) rfl (by kernel_rfl) (by kernel_rfl) (by kernel_rfl) (fun _ _ _ h => h) (by rfl) (fun _ _ => by first | (go_simp; rfl) | (go_simp; done)) (by go_simp; rfl) HS ?_
                refine HeldBy.take (i := 6) rfl (by kernel_rfl) (by kernel_rfl) (by kernel_rfl) (fun _ _ _ h => h) (by rfl) (fun _ _ => by first | (go_simp; rfl) | (go_simp; done)) (by go_simp; rfl) HS ?_
                refine HeldBy.take (i := 7) (v := .string y.node) rfl (by kernel_rfl) (by kernel_rfl) (by kernel_rfl) (fun _ _ _ h => h) (by rfl) (fun V hV => by have h := row_cell (HROWS.out V hV.1) 13 _ rfl; first | (go_simp; rfl) | (go_simp; done)) (by go_simp; rfl) HS ?_
                refine HeldBy.take (i := 8) rfl (by kernel_rfl) (by kernel_rfl) (by kernel_rfl) (fun _ _ _ h => h) (by rfl) (fun _ _ => by first | (go_simp; rfl) | (go_simp; done)) (by go_simp; rfl) HS ?_
                refine HeldBy.take (i := 9) (v := .string c.node) rfl (by kernel_rfl) (by kernel_rfl) (by kernel_rfl) (fun _ _ _ h => h) (by rfl) (fun V hV => by have h := hV.2.1.rest.2; first | (go_simp; rfl) | (go_simp; done)) (by go_simp; rfl) HS ?_
                refine HeldBy.take (i := 10) rfl (by kernel_rfl) (by kernel_rfl) (by kernel_rfl) (fun _ _ _ h => h) (by rfl) (fun _ _ => by first | (go_simp; rfl) | (go_simp; done)) (by go_simp; rfl) HS ?_
                refine HeldBy.take (i := 11) rfl (by kernel_rfl) (by kernel_rfl) (by kernel_rfl) (fun _ _ _ h => h) (by rfl) (fun _ _ => by first | (go_simp; rfl) | (go_simp; done)) (by go_simp; rfl) HS ?_
                refine HeldBy.take (i := 12) rfl (by kernel_rfl) (by kernel_rfl) (by kernel_rfl) (fun _ _ _ h => h) (by rfl) (fun _ _ => by first | (go_simp; rfl) | (go_simp; done)) (by go_simp; rfl) HS ?_
                refine HeldBy.take (i := 13) rfl (by kernel_rfl) (by kernel_rfl) (by kernel_rfl) (fun _ _ _ h => h) (by rfl) (fun _ _ => by first | (go_simp; rfl) | (go_simp; done)) (by go_simp; rfl) HS ?_
                refine HeldBy.take (i := 14) rfl (by kernel_rfl) (by kernel_rfl) (by kernel_rfl) (fun _ _ _ h => h) (by rfl) (fun _ _ => by first | (go_simp; rfl) | (go_simp; done)) (by go_simp; rfl) HS ?_
                refine HeldBy.take (i := 15) rfl (by kernel_rfl) (by kernel_rfl) (by kernel_rfl) (fun _ _ _ h => h) (by rfl) (fun _ _ => by first | (go_simp; rfl) | (go_simp; done)) (by go_simp; rfl) HS ?_
                refine HeldBy.take (i := 16) rfl (by kernel_rfl) (by kernel_rfl) (by kernel_rfl) (fun _ _ _ h => h) (by rfl) (fun _ _ => by first | (go_simp; rfl) | (go_simp; done)) (by go_simp; rfl) HS ?_
                refine HeldBy.take (i := 17) (v := .int .u64 y.num) rfl (by kernel_rfl) (by kernel_rfl) (by kernel_rfl) (fun _ _ _ h => h) (by rfl) (fun V hV => by have h := row_cell (HROWS.out V hV.1) 18 _ rfl; first | (go_simp; rfl) | (go_simp; done)) (by go_simp; rfl) HS ?_
                refine HeldBy.take (i := 18) rfl (by kernel_rfl) (by kernel_rfl) (by kernel_rfl) (fun _ _ _ h => h) (by rfl) (fun _ _ => by first | (go_simp; rfl) | (go_simp; done)) (by go_simp; rfl) HS ?_
                refine HeldBy.take (i := 19) (v := .int .u64 c.num) rfl (by kernel_rfl) (by kernel_rfl) (by kernel_rfl) (fun _ _ _ h => h) (by rfl) (fun V hV => by have h := hV.2.1.rest.1; first | (go_simp; rfl) | (go_simp; done)) (by go_simp; rfl) HS ?_
                refine HeldBy.take (i := 20) rfl (by kernel_rfl) (by kernel_rfl) (by kernel_rfl) (fun _ _ _ h => h) (by rfl) (fun _ _ => by first | (go_simp; rfl) | (go_simp; done)) (by go_simp; rfl) HS ?_
                refine HeldBy.take (i := 21) rfl (by kernel_rfl) (by kernel_rfl) (by kernel_rfl) (fun _ _ _ h => h) (by rfl) (fun _ _ => by first | (go_simp; rfl) | (go_simp; done)) (by go_simp; rfl) HS ?_
                refine wpAnyH_done (by kernel_rfl) ?_ _
                have HB9 := Lib.hid HS.2.2.1
                have HL9 := Lib.hid HS.2.2.2
                clear HS HROWS
                go_wp2
                go_roundw
                case rel => exact ⟨j + 1, false, by go_num, rfl, by rw [HTA.out, HFY.out]; rfl, by omega, by rw [HTF.out, HFY.out]; have h := HB9.out; rw [HNF.out rfl] at h; exact h, HL9.out⟩
                case measure => simp [RowKit.intOf]; omega
            · have hnl := str_ne hn
              have hnt : ¬ y.node.toList = c.node.toList := by simpa using hnl
              have HFY : Hid (forC c y = false) := by show _ = _; unfold forC; simp [hn]
              clear hn
              refine HeldBy.take (i := 0) rfl (by kernel_rfl) (by kernel_rfl) (by kernel_rfl) (fun _ _ _ h => h) (by rfl) (fun _ _ => by first | (go_simp; rfl) | (go_simp; done)) (by go_simp; rfl) HS ?_
              refine HeldBy.take (i := 1) rfl (by kernel_rfl) (by kernel_rfl) (by kernel_rfl) (fun _ _ _ h => h) (by rfl) (fun _ _ => by first | (go_simp; rfl) | (go_simp; done)) (by go_simp; rfl) HS ?_
              refine HeldBy.take (i := 2) rfl (by kernel_rfl) (by kernel_rfl) (by kernel_rfl) (fun _ _ _ h => h) (by rfl) (fun _ _ => by first | (go_simp; rfl) | (go_simp; done)) (by go_simp; rfl) HS ?_
              refine HeldBy.take (i := 3) rfl (by kernel_rfl) (by kernel_rfl) (by kernel_rfl) (fun _ _ _ h => h) (by rfl) (fun _ _ => by first | (go_simp; rfl) | (go_simp; done)) (by go_simp; rfl) HS ?_
              refine HeldBy.take (i := 4) rfl (by kernel_rfl) (by kernel_rfl) (by kernel_rfl) (fun _ _ _ h => h) (by rfl) (fun _ _ => by first | (go_simp; rfl) | (go_simp; done)) (by go_simp; rfl) HS ?_
              refine HeldBy.take (i := 5) rfl (by kernel_rfl) (by kernel_rfl) (by kernel_rfl) (fun _ _ _ h => h) (by rfl) (fun _ _ => by first | (go_simp; rfl) | (go_simp; done)) (by go_simp; rfl) HS ?_
              refine HeldBy.take (i := 6) rfl (by kernel_rfl) (by kernel_rfl) (by kernel_rfl) (fun _ _ _ h => h) (by rfl) (fun _ _ => by first | (go_simp; rfl) | (go_simp; done)) (by go_simp; rfl) HS ?_
              refine HeldBy.take (i := 7) (v := .string y.node) rfl (by kernel_rfl) (by kernel_rfl) (by kernel_rfl) (fun _ _ _ h => h) (by rfl) (fun V hV => by have h := row_cell (HROWS.out V hV.1) 13 _ rfl; first | (go_simp; rfl) | (go_simp; done)) (by go_simp; rfl) HS ?_
              refine HeldBy.take (i := 8) rfl (by kernel_rfl) (by kernel_rfl) (by kernel_rfl) (fun _ _ _ h => h) (by rfl) (fun _ _ => by first | (go_simp; rfl) | (go_simp; done)) (by go_simp; rfl) HS ?_
              refine HeldBy.take (i := 9) (v := .string c.node) rfl (by kernel_rfl) (by kernel_rfl) (by kernel_rfl) (fun _ _ _ h => h) (by rfl) (fun V hV => by have h := hV.2.1.rest.2; first | (go_simp; rfl) | (go_simp; done)) (by go_simp; rfl) HS ?_
              refine HeldBy.take (i := 10) rfl (by kernel_rfl) (by kernel_rfl) (by kernel_rfl) (fun _ _ _ h => h) (by rfl) (fun _ _ => by first | (go_simp; rfl) | (go_simp; done)) (by go_simp; rfl) HS ?_
              refine HeldBy.take (i := 11) rfl (by kernel_rfl) (by kernel_rfl) (by kernel_rfl) (fun _ _ _ h => h) (by rfl) (fun _ _ => by first | (go_simp; rfl) | (go_simp; done)) (by go_simp; rfl) HS ?_
              refine HeldBy.take (i := 12) rfl (by kernel_rfl) (by kernel_rfl) (by kernel_rfl) (fun _ _ _ h => h) (by rfl) (fun _ _ => by first | (go_simp; rfl) | (go_simp; done)) (by go_simp; rfl) HS ?_
              refine HeldBy.skip (i := 13) rfl (by kernel_rfl) (by kernel_rfl) (by kernel_rfl) (fun _ _ _ h => h) (by rfl) (by go_simp; rfl) HS ?_
              refine HeldBy.skip (i := 14) rfl (by kernel_rfl) (by kernel_rfl) (by kernel_rfl) (fun _ _ _ h => h) (by rfl) (by go_simp; rfl) HS ?_
              refine HeldBy.skip (i := 15) rfl (by kernel_rfl) (by kernel_rfl) (by kernel_rfl) (fun _ _ _ h => h) (by rfl) (by go_simp; rfl) HS ?_
              refine HeldBy.skip (i := 16) rfl (by kernel_rfl) (by kernel_rfl) (by kernel_rfl) (fun _ _ _ h => h) (by rfl) (by go_simp; rfl) HS ?_
              refine HeldBy.skip (i := 17) rfl (by kernel_rfl) (by kernel_rfl) (by kernel_rfl) (fun _ _ _ h => h) (by rfl) (by go_simp; rfl) HS ?_
              refine HeldBy.skip (i := 18) rfl (by kernel_rfl) (by kernel_rfl) (by kernel_rfl) (fun _ _ _ h => h) (by rfl) (by go_simp; rfl) HS ?_
              refine HeldBy.skip (i := 19) rfl (by kernel_rfl) (by kernel_rfl) (by kernel_rfl) (fun _ _ _ h => h) (by rfl) (by go_simp; rfl) HS ?_
              refine HeldBy.skip (i := 20) rfl (by kernel_rfl) (by kernel_rfl) (by kernel_rfl) (fun _ _ _ h => h) (by rfl) (by go_simp; rfl) HS ?_
              refine HeldBy.take (i := 21) rfl (by kernel_rfl) (by kernel_rfl) (by kernel_rfl) (fun _ _ _ h => h) (by rfl) (fun _ _ => by first | (go_simp; rfl) | (go_simp; done)) (by go_simp; rfl) HS ?_
              refine wpAnyH_done (by kernel_rfl) ?_ _
              have HB9 := Lib.hid HS.2.2.1
              have HL9 := Lib.hid HS.2.2.2
              clear HS HROWS
              go_wp2
              go_roundw
              case rel => exact ⟨j + 1, false, by go_num, rfl, by rw [HTA.out, HFY.out]; rfl, by omega, by rw [HTF.out, HFY.out]; have h := HB9.out; rw [HNF.out rfl] at h; exact h, HL9.out⟩
              case measure => simp [RowKit.intOf]; omega
        · have hlt' : ¬ (j : Int) < (A'.length : Int) := by omega
          rw [List.take_of_length_le (by omega)] at hbj
          obtain ⟨p, hp⟩ : ∃ p, (A'.find? (forC c)).getD O0 = p := ⟨_, rfl⟩
          rw [hp] at hbj HX1
          have HB := Lib.hid hbj
          have HO := Lib.hid (HO5.out.after hl5)
          have HW := Lib.hid (HW5.out.trans (hl5.mono HW5.out.size))
          have HNE := Lib.hid (show w.heap.size + 1 + 1 < b by rw [← HBE.out]; exact HO5.out.lt)
          obtain ⟨r0, r1, r3⟩ := (HR5.out.after hl5).cells
          have c0 := (HC5.out.after hl5).verb
          clear hp hbj hl5 hlj hf HBX HXB HA5 HNA HC5 HR5 HO5 HW5
          unfold behindA at HX1
          by_cases h9 : r.err = 9
          · have e9 : (r.err == 9) = true := by simpa using h9
            have HVV : Hid (x = writeA { p with num := NX }) := HX1.out.symm.trans (if_pos h9)
            clear h9 HX1
            have g18 := HB.out.free 18
            have b18 := HB.out.c18
            go_upto_region 14 with (fail)
            refine wp_gen (fun V => BoxO V b { p with num := NX } ∧ BoxA V (w.heap.size + 1 + 1) nothing ∧ Below w.heap.size w V) ⟨(HB.out).s18 NX, (heap_setCell_other _ ⟨b, 18, none⟩ (w.heap.size + 1 + 1) _ (by have := HNE.out; show w.heap.size + 1 + 1 ≠ b; omega)).trans (HO.out), (HW.out).setCell (by have := HNE.out; show w.heap.size ≤ b; omega) _⟩ ?_
            clear HB HO HW r0 r1 r3 c0 g18 b18
            rintro V6 ⟨hbx, ho, hlw⟩
            have HCA := Lib.hid (rwrite_any { p with num := NX } V6)
            have HO := Lib.hid ho
            have HW := Lib.hid hlw
            clear ho hlw
            go_wp2_with ((with_reducible refine wpList_load_obj ?_ rfl ?_ hbx ?_); rfl; rfl)
            refine HCA.out.mono ?_
            rintro e W7 ⟨rfl, hb7⟩
            obtain ⟨V8, hst8, ho8, -, hb8⟩ := acting (HO.out.after hb7) (writeA { p with num := NX })
            have HO8 := Lib.hid ho8
            have HX8 := Lib.hid (hb8 _ _ (HW.out.trans (hb7.mono HW.out.size)) (by omega))
            clear ho8 hb8 HCA HO HW hb7 hbx
            go_wp2_with (first | (refine wpList_skip rfl (hst8 rfl rfl rfl) ?_))
            refine bodyPost_ret (v := encA (writeA { p with num := NX })) (results_cell_row rfl _ _ (w.heap.size + 1 + 1) 42 (cellsA (writeA { p with num := NX })) (0, 0) _ rfl HO8.out undAct rfl sizeAct) rfl ?_
            exact ⟨by rw [HVV.out], HX8.out⟩
          · have e9 : (r.err == 9) = false := by simpa using h9
            have HX2 := Lib.hid (HX1.out.symm.trans (if_neg h9))
            clear h9 HX1
            by_cases v4 : c.verb = 4
            · have y4 : (c.verb == 4) = true := by simpa using v4
              have y3 : (c.verb == 3) = false := by rw [v4]; rfl
              have n3 : ¬ c.verb = 3 := by omega
              by_cases h0 : r.err = 0
              · have e0 : (r.err == 0) = true := by simpa using h0
                have HVV : Hid (x = removeA p) := HX2.out.trans ((if_neg (fun h => n3 h.2)).trans (if_pos ⟨h0, v4⟩))
                clear h0 v4 n3 HX2
                have hbx := HB.out
                have HCA := Lib.hid (rremove_any p wr)
                go_wp2_with ((with_reducible refine wpList_load_obj ?_ rfl ?_ hbx ?_); rfl; rfl)
                refine HCA.out.mono ?_
                rintro e W7 ⟨rfl, hb7⟩
                obtain ⟨V8, hst8, ho8, -, hb8⟩ := acting (HO.out.after hb7) (removeA p)
                have HO8 := Lib.hid ho8
                have HX8 := Lib.hid (hb8 _ _ (HW.out.trans (hb7.mono HW.out.size)) (by omega))
                clear ho8 hb8 HCA HO HW hb7 hbx HB
                go_wp2_with (first | (refine wpList_skip rfl (hst8 rfl rfl rfl) ?_))
                refine bodyPost_ret (v := encA (removeA p)) (results_cell_row rfl _ _ (w.heap.size + 1 + 1) 42 (cellsA (removeA p)) (0, 0) _ rfl HO8.out undAct rfl sizeAct) rfl ?_
                exact ⟨by rw [HVV.out], HX8.out⟩
              · have e0 : (r.err == 0) = false := by simpa using h0
                have HVV : Hid (x = nothing) := HX2.out.trans ((if_neg (fun h => n3 h.2)).trans ((if_neg (fun h => h0 h.1)).trans (if_neg (fun h => n3 h.2))))
                clear h0 v4 n3 HX2 HB
                obtain ⟨V8, hst8, ho8, -, hb8⟩ := acting (HO.out) (nothing)
                have HO8 := Lib.hid ho8
                have HX8 := Lib.hid (hb8 _ _ (HW.out) (by omega))
                clear ho8 hb8 
                go_wp2_with (first | (refine wpList_skip rfl (hst8 rfl rfl rfl) ?_) | ((with_reducible refine wpList_build_to rfl 42 _ rfl (cellsA nothing) ?_ ?_); exact built_act0))
                refine bodyPost_ret (v := encA (nothing)) (results_cell_row rfl _ _ (w.heap.size + 1 + 1) 42 (cellsA (nothing)) (0, 0) _ rfl HO8.out undAct rfl sizeAct) rfl ?_
                exact ⟨by rw [HVV.out], HX8.out⟩
            · have y4 : (c.verb == 4) = false := by simpa using v4
              by_cases v3 : c.verb = 3
              · have y3 : (c.verb == 3) = true := by simpa using v3
                by_cases h0 : r.err = 0
                · have e0 : (r.err == 0) = true := by simpa using h0
                  have HVV : Hid (x = writeA { p with phase := 8, num := 0 }) := HX2.out.trans (if_pos ⟨h0, v3⟩)
                  clear h0 v3 v4 HX2
                  have g17 := HB.out.free 17
                  have b17 := HB.out.c17
                  have g18 := HB.out.free 18
                  have b18 := HB.out.c18
                  go_upto_region 19 with (fail)
                  refine wp_gen (fun V => BoxO V b { p with phase := 8, num := 0 } ∧ BoxA V (w.heap.size + 1 + 1) nothing ∧ Below w.heap.size w V) ⟨((HB.out).s17 8).s18 0, (heap_setCell_other _ ⟨b, 18, none⟩ (w.heap.size + 1 + 1) _ (by have := HNE.out; show w.heap.size + 1 + 1 ≠ b; omega)).trans ((heap_setCell_other _ ⟨b, 17, none⟩ (w.heap.size + 1 + 1) _ (by have := HNE.out; show w.heap.size + 1 + 1 ≠ b; omega)).trans (HO.out)), ((HW.out).setCell (by have := HNE.out; show w.heap.size ≤ b; omega) _).setCell (by have := HNE.out; show w.heap.size ≤ b; omega) _⟩ ?_
                  clear HB HO HW r0 r1 r3 c0 g17 b17 g18 b18
                  rintro V6 ⟨hbx, ho, hlw⟩
                  have HCA := Lib.hid (rwrite_any { p with phase := 8, num := 0 } V6)
                  have HO := Lib.hid ho
                  have HW := Lib.hid hlw
                  clear ho hlw
                  go_wp2_with ((with_reducible refine wpList_load_obj ?_ rfl ?_ hbx ?_); rfl; rfl)
                  refine HCA.out.mono ?_
                  rintro e W7 ⟨rfl, hb7⟩
                  obtain ⟨V8, hst8, ho8, -, hb8⟩ := acting (HO.out.after hb7) (writeA { p with phase := 8, num := 0 })
                  have HO8 := Lib.hid ho8
                  have HX8 := Lib.hid (hb8 _ _ (HW.out.trans (hb7.mono HW.out.size)) (by omega))
                  clear ho8 hb8 HCA HO HW hb7 hbx
                  go_wp2_with (first | (refine wpList_skip rfl (hst8 rfl rfl rfl) ?_))
                  refine bodyPost_ret (v := encA (writeA { p with phase := 8, num := 0 })) (results_cell_row rfl _ _ (w.heap.size + 1 + 1) 42 (cellsA (writeA { p with phase := 8, num := 0 })) (0, 0) _ rfl HO8.out undAct rfl sizeAct) rfl ?_
                  exact ⟨by rw [HVV.out], HX8.out⟩
                · have e0 : (r.err == 0) = false := by simpa using h0
                  have HX3 := Lib.hid (HX2.out.trans ((if_neg (fun h => h0 h.1)).trans (if_neg (fun h => h0 h.1))))
                  clear HX2
                  by_cases h5 : r.err = 5
                  · have e5 : (r.err == 5) = true := by simpa using h5
                    have HVV : Hid (x = writeA { p with phase := 9, num := NX }) := HX3.out.trans (if_pos ⟨h5, v3⟩)
                    clear h5 v3 v4 h0 HX3
                    have g17 := HB.out.free 17
                    have b17 := HB.out.c17
                    have g18 := HB.out.free 18
                    have b18 := HB.out.c18
                    go_upto_region 22 with (fail)
                    refine wp_gen (fun V => BoxO V b { p with phase := 9, num := NX } ∧ BoxA V (w.heap.size + 1 + 1) nothing ∧ Below w.heap.size w V) ⟨((HB.out).s17 9).s18 NX, (heap_setCell_other _ ⟨b, 18, none⟩ (w.heap.size + 1 + 1) _ (by have := HNE.out; show w.heap.size + 1 + 1 ≠ b; omega)).trans ((heap_setCell_other _ ⟨b, 17, none⟩ (w.heap.size + 1 + 1) _ (by have := HNE.out; show w.heap.size + 1 + 1 ≠ b; omega)).trans (HO.out)), ((HW.out).setCell (by have := HNE.out; show w.heap.size ≤ b; omega) _).setCell (by have := HNE.out; show w.heap.size ≤ b; omega) _⟩ ?_
                    clear HB HO HW r0 r1 r3 c0 g17 b17 g18 b18
                    rintro V6 ⟨hbx, ho, hlw⟩
                    have HCA := Lib.hid (rwrite_any { p with phase := 9, num := NX } V6)
                    have HO := Lib.hid ho
                    have HW := Lib.hid hlw
                    clear ho hlw
                    go_wp2_with ((with_reducible refine wpList_load_obj ?_ rfl ?_ hbx ?_); rfl; rfl)
                    refine HCA.out.mono ?_
                    rintro e W7 ⟨rfl, hb7⟩
                    obtain ⟨V8, hst8, ho8, -, hb8⟩ := acting (HO.out.after hb7) (writeA { p with phase := 9, num := NX })
                    have HO8 := Lib.hid ho8
                    have HX8 := Lib.hid (hb8 _ _ (HW.out.trans (hb7.mono HW.out.size)) (by omega))
                    clear ho8 hb8 HCA HO HW hb7 hbx
                    go_wp2_with (first | (refine wpList_skip rfl (hst8 rfl rfl rfl) ?_))
                    refine bodyPost_ret (v := encA (writeA { p with phase := 9, num := NX })) (results_cell_row rfl _ _ (w.heap.size + 1 + 1) 42 (cellsA (writeA { p with phase := 9, num := NX })) (0, 0) _ rfl HO8.out undAct rfl sizeAct) rfl ?_
                    exact ⟨by rw [HVV.out], HX8.out⟩
                  · have e5 : (r.err == 5) = false := by simpa using h5
                    have HVV : Hid (x = nothing) := HX3.out.trans (if_neg (fun h => h5 h.1))
                    clear h5 v3 v4 h0 HX3 HB
                    obtain ⟨V8, hst8, ho8, -, hb8⟩ := acting (HO.out) (nothing)
                    have HO8 := Lib.hid ho8
                    have HX8 := Lib.hid (hb8 _ _ (HW.out) (by omega))
                    clear ho8 hb8 
                    go_wp2_with (first | (refine wpList_skip rfl (hst8 rfl rfl rfl) ?_) | ((with_reducible refine wpList_build_to rfl 42 _ rfl (cellsA nothing) ?_ ?_); exact built_act0))
                    refine bodyPost_ret (v := encA (nothing)) (results_cell_row rfl _ _ (w.heap.size + 1 + 1) 42 (cellsA (nothing)) (0, 0) _ rfl HO8.out undAct rfl sizeAct) rfl ?_
                    exact ⟨by rw [HVV.out], HX8.out⟩
              · have y3 : (c.verb == 3) = false := by simpa using v3
                have HVV : Hid (x = nothing) := HX2.out.trans ((if_neg (fun h => v3 h.2)).trans ((if_neg (fun h => v4 h.2)).trans (if_neg (fun h => v3 h.2))))
                clear v3 v4 HX2 HB
                obtain ⟨V8, hst8, ho8, -, hb8⟩ := acting (HO.out) (nothing)
                have HO8 := Lib.hid ho8
                have HX8 := Lib.hid (hb8 _ _ (HW.out) (by omega))
                clear ho8 hb8 
                go_wp2_with (first | (refine wpList_skip rfl (hst8 rfl rfl rfl) ?_) | ((with_reducible refine wpList_build_to rfl 42 _ rfl (cellsA nothing) ?_ ?_); exact built_act0))
                refine bodyPost_ret (v := encA (nothing)) (results_cell_row rfl _ _ (w.heap.size + 1 + 1) 42 (cellsA (nothing)) (0, 0) _ rfl HO8.out undAct rfl sizeAct) rfl ?_
                exact ⟨by rw [HVV.out], HX8.out⟩
    · have HVV : Hid (x = nothing) := by
        show _ = _
        rw [← HXX.out, if_neg (fun h => hcc (by rw [h]; rfl))]
      clear HXX HPL h3 HK HL HNA
      have HOQ := HO1
      have HWQ := HW1
      obtain ⟨V8, hst8, ho8, -, hb8⟩ := acting (HOQ.out) (nothing)
      have HO8 := Lib.hid ho8
      have HX8 := Lib.hid (hb8 _ _ (HWQ.out) (by omega))
      clear ho8 hb8 
      go_wp2_with (first | (refine wpList_skip rfl (hst8 rfl rfl rfl) ?_) | ((with_reducible refine wpList_build_to rfl 42 _ rfl (cellsA nothing) ?_ ?_); exact built_act0) | (refine wpList_skip rfl (sx rfl rfl rfl) ?_) | (refine wpList_got (v := encC G.call) rfl (load_callAt hcall rfl rfl) ?_) | (refine wpList_got (v := encC c) rfl (load_call hbc rfl rfl) ?_) | (refine wpList_got rfl (exec_neq_diff hcc rfl rfl rfl) ?_))
      refine bodyPost_ret (v := encA (nothing)) (results_cell_row rfl _ _ (w.heap.size + 1 + 1) 42 (cellsA (nothing)) (0, 0) _ rfl HO8.out undAct rfl sizeAct) rfl ?_
      exact ⟨by rw [HVV.out], HX8.out⟩
  · have q3 : (G.act != 3) = true := by simpa using h3
    have HVV : Hid (x = nothing) := by
      show _ = _
      rw [← HXX.out, if_neg (fun h => h3 (by rw [h]; rfl))]
    clear HXX HPL h3 HK HL HNA
    obtain ⟨V8, hst8, ho8, -, hb8⟩ := acting (HO1.out) (nothing)
    have HO8 := Lib.hid ho8
    have HX8 := Lib.hid (hb8 _ _ (HW1.out) (by omega))
    clear ho8 hb8 
    go_wp2_with (first | (refine wpList_skip rfl (hst8 rfl rfl rfl) ?_) | ((with_reducible refine wpList_build_to rfl 42 _ rfl (cellsA nothing) ?_ ?_); exact built_act0) | (refine wpList_skip rfl (sx rfl rfl rfl) ?_))
    refine bodyPost_ret (v := encA (nothing)) (results_cell_row rfl _ _ (w.heap.size + 1 + 1) 42 (cellsA (nothing)) (0, 0) _ rfl HO8.out undAct rfl sizeAct) rfl ?_
    exact ⟨by rw [HVV.out], HX8.out⟩
end Go.Proofs.Ytigoghhjncpgfaa.O.B
