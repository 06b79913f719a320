/- lease.Try: what it does in a step. -/
import Derived.Test.YtmamibabaedpcaaLBase
import Derived.Defers
import Derived.Recover
import Derived.Great.BuildSlice
import Derived.Laws.CopyOwn
namespace Go.Proofs.Ytmamibabaedpcaa.L
open Go.RowKit T O
open Go.Lib

/-- Blocks of one cell. -/
def StrAt (W : World) (b : Nat) (s : ByteArray) : Prop := W.heap[b]? = some (.cells #[.string s] 9 (0, 0))
def IntAt (W : World) (b : Nat) (n : Int) : Prop := W.heap[b]? = some (.cells #[.int .u64 n] 22 (0, 0))
theorem StrAt.cell {W : World} {b : Nat} {s : ByteArray} (h : StrAt W b s) : W.cell? ⟨b, 0, none⟩ = some (.string s) := (cell_of_row W b 0 _ _ _ h).trans rfl
theorem IntAt.cell {W : World} {b : Nat} {n : Int} (h : IntAt W b n) : W.cell? ⟨b, 0, none⟩ = some (.int .u64 n) := (cell_of_row W b 0 _ _ _ h).trans rfl
/-- What a step knows: four boxes. -/
structure Asked (W : World) (pw ps pn pl : Nat) (x : Lz) (who : ByteArray) (now span : Int) : Prop where
  w : StrAt W pw who
  s : IntAt W ps span
  n : IntAt W pn now
  l : BoxL W pl x
section
variable {W W' : World} {pw ps pn pl : Nat} {x : Lz} {who : ByteArray} {now span : Int}
theorem Asked.after (h : Asked W pw ps pn pl x who now span) (hb : Below W.heap.size W W') : Asked W' pw ps pn pl x who now span :=
  ⟨(hb.block pw (Array.getElem?_eq_some_iff.1 h.w).1).trans h.w, (hb.block ps (Array.getElem?_eq_some_iff.1 h.s).1).trans h.s, (hb.block pn (Array.getElem?_eq_some_iff.1 h.n).1).trans h.n, h.l.after hb⟩
end

theorem sizeL : (Try.prog.info? 24).map (·.size) = some 3 := by kernel_rfl
theorem one_L (x : Lz) : (cellsL x).all (·.oneCell') = true := by simp [cellsL, Value.oneCell']
theorem BoxL.setRow {W : World} {b : Nat} {x : Lz} (h : BoxL W b x) (y : Lz) : BoxL (W.setRow b (cellsL y)) b y := setRow_heap W b _ _ _ _ h
theorem BoxL.row {W : World} {b g : Nat} {x : Lz} (h : BoxL W b x) (hp : b ≠ g) (cs : Array Value) : BoxL (W.setRow g cs) b x := (setRow_other W g b cs hp).trans h
theorem results_cell {P : Program} {fn : Func} {p : Tmp} {ty : TypeId} {tmps : Array Value} {w : World} {g : Nat} {x : Value} (h : fn.results = #[.cell p ty]) (hp : tmps.getD p undef = .pointer (some ⟨g, 0, none⟩))
    (h1 : (loadVar ty ⟨g, 0, none⟩).run P w = .ok x w) : (results fn tmps).run P w = .ok x w := by
  have hp' : tmps[p]?.getD undef = .pointer (some ⟨g, 0, none⟩) := by simpa using hp
  simp [results, h, hp', asAddr, h1]
theorem load_lz {W : World} {b : Nat} {x : Lz} (h : BoxL W b x) : (loadVar 24 ⟨b, 0, none⟩).run Try.prog W = .ok (encL x) W := run_loadVar_row W b 24 24 (cellsL x) (0, 0) _ h Try.underlying24 rfl sizeL

theorem grown_set {w V : World} {pl : Nat} (h : w.grownBy V (some pl)) (o : Nat) (v : Value) : w.grownBy (V.setCell ⟨pl, o, none⟩ v) (some pl) :=
  ⟨h.os, h.tape, h.output, by simpa using h.size, fun k hk hne => (Below.heap_setCell _ _ _ k (fun e => hne (by rw [e]))).trans (h.block k hk hne)⟩
theorem grown_row {w V : World} {row : Option Nat} (h : w.grownBy V row) {g : Nat} (hg : w.heap.size ≤ g) (cs : Array Value) : w.grownBy (V.setRow g cs) row :=
  ⟨h.os, h.tape, h.output, by simpa [World.setRow] using h.size, fun k hk hne => (setRow_other V g k cs (by omega)).trans (h.block k hk hne)⟩

/-- What is asked in a step. -/
def TrySteps (pl : Nat) (r : Lz × Int) (w : World) (e : Ending) (w' : World) : Prop :=
  w.grownBy w' (some pl) ∧ ((r.2 = 0 ∧ e = .returned (encL r.1)) ∨ (r.2 ≠ 0 ∧ e = gaveUpL r.2))
theorem grown_below {w w' : World} (h : Below w.heap.size w w') (row : Option Nat) : w.grownBy w' row := ⟨h.os, h.tape, h.output, h.size, fun k hk _ => h.block k hk⟩

set_option maxRecDepth 100000 in
set_option maxHeartbeats 2000000 in
theorem tryDo_any (x : Lz) (who : ByteArray) (now span : Int) (pw ps pn pl : Nat) (w : World) (hb : Asked w pw ps pn pl x who now span) (hn : 0 ≤ now) (hs : 0 ≤ span) :
    Calls Try.prog 26 #[.pointer (some ⟨pw, 0, none⟩), .pointer (some ⟨ps, 0, none⟩), .pointer (some ⟨pn, 0, none⟩), .pointer (some ⟨pl, 0, none⟩)] w (TrySteps pl (tryL x who now span) w) := by
  have hpl := hb.l.lt
  have HB := Lib.hid hb
  clear hb
  go_enter Try.func26, Try.ntmps26
  go_upto_region 1 with (fail)
  refine wp_gen (fun W => Asked W pw ps pn pl x who now span ∧ BoxL W w.heap.size Lz0 ∧ Below w.heap.size w W) ⟨HB.out.after ((Below.refl _ _).alloc (Nat.le_refl _) _), BoxL.new w Lz0, (Below.refl _ _).alloc (Nat.le_refl _) _⟩ ?_
  rintro W ⟨hb, hr, hlow⟩
  have cw := hb.w.cell
  have HA := Lib.hid hb
  have HL := Lib.hid hlow
  have HR := Lib.hid hr
  clear hb HB hlow hr
  cases h1 : nameB who.data.toList with
  | false =>
    have HT : Hid (tryL x who now span = (Lz0, 2)) := by show _ = _; unfold tryL; rw [if_pos h1]
    have H1 := Lib.hid h1
    clear h1
    go_wp2_with fail
    refine (name_any _ _).mono ?_
    rintro e w1 ⟨rfl, hl⟩
    rw [H1.out]
    have HL1 := Lib.hid (HL.out.trans (hl.mono HL.out.size))
    clear hl
    go_wp2_with fail
    refine (must_no _ _).mono ?_
    rintro e w2 ⟨rfl, rfl⟩
    have HF : Hid (TrySteps pl (tryL x who now span) w (gaveUpL 2) w1) := ⟨grown_below HL1.out _, .inr (by rw [HT.out]; exact ⟨by decide, rfl⟩)⟩
    clear HT HL HA HR HL1
    go_wp2_with fail
    exact ⟨rfl, HF.out⟩
  | true =>
    have H1 := Lib.hid h1
    clear h1
    go_wp2_with fail
    refine (name_any _ _).mono ?_
    rintro e w1 ⟨rfl, hl⟩
    rw [H1.out]
    replace HL := Lib.hid (HL.out.trans (hl.mono HL.out.size))
    replace HA := Lib.hid (HA.out.after hl)
    replace HR := Lib.hid (HR.out.after hl)
    clear hl cw
    have cs := HA.out.s.cell
    have cn := HA.out.n.cell
    go_wp2_with fail
    refine (must_yes _ _).mono ?_
    rintro e w2 ⟨rfl, rfl⟩
    by_cases hrg : span < 1 ∨ (1 ≤ span ∧ 1099511627776 < span) ∨ (1 ≤ span ∧ span ≤ 1099511627776 ∧ 1152921504606846976 < now)
    · have HT : Hid (tryL x who now span = (Lz0, 3)) := by
        show _ = _
        unfold tryL
        rw [if_neg (by rw [H1.out]; decide), if_pos]
        rw [Bool.eq_false_iff]
        intro h
        have := range_iff.1 h
        omega
      have HF : Hid (TrySteps pl (tryL x who now span) w (gaveUpL 3) w1) := ⟨grown_below HL.out _, .inr (by rw [HT.out]; exact ⟨by decide, rfl⟩)⟩
      clear HT HL HA HR H1
      rcases hrg with h | ⟨h, h'⟩ | ⟨h, h', h''⟩
      all_goals
        try have d3 : decide (now ≤ 1152921504606846976) = false := decide_eq_false (by omega)
        go_wp2_with fail
        refine (must_no _ _).mono ?_
        rintro e w2 ⟨rfl, rfl⟩
        go_wp2_with fail
        exact ⟨rfl, HF.out⟩
    · have h1 : 1 ≤ span := by omega
      have h2 : span ≤ 1099511627776 := by omega
      have h3 : now ≤ 1152921504606846976 := by omega
      have HRG : Hid (rangeB now span = true) := range_iff.2 ⟨h1, h2, h3⟩
      clear hrg
      go_wp2_with fail
      refine (must_yes _ _).mono ?_
      rintro e w2 ⟨rfl, rfl⟩
      have c0 := HA.out.l.c0
      have c1 := HA.out.l.c1
      have c2 := HA.out.l.c2
      have cw := HA.out.w.cell
      go_wp2_with fail
      refine (mine_any x _ _ _).mono ?_
      rintro e w2 ⟨rfl, hl⟩
      replace HL := Lib.hid (HL.out.trans (hl.mono HL.out.size))
      replace HA := Lib.hid (HA.out.after hl)
      replace HR := Lib.hid (HR.out.after hl)
      clear hl c0 c1 c2 cw cs cn
      have c0 := HA.out.l.c0
      have c1 := HA.out.l.c1
      have c2 := HA.out.l.c2
      have cw := HA.out.w.cell
      have cs := HA.out.s.cell
      have cn := HA.out.n.cell
      cases hm : mineB x who now with
      | true =>
        have HT : Hid (tryL x who now span = (⟨x.h, max x.u (now + span), x.t⟩, 0)) := by
          show _ = _
          unfold tryL
          rw [if_neg (by rw [H1.out]; decide), if_neg (by rw [HRG.out]; decide), if_pos hm]
        clear hm
        have f1 := HA.out.l.free 1
        obtain ⟨M, hM⟩ : ∃ M, (if x.u < now + span then now + span else x.u) = M := ⟨_, rfl⟩
        have hmax : max x.u (now + span) = M := by rw [← hM]; split <;> omega
        rw [hmax] at HT
        have HM := Lib.hid hM
        clear hM hmax
        go_upto_region 5 with (fail)
        rw [HM.out]
        refine wp_gen (fun W => BoxL W pl ⟨x.h, M, x.t⟩ ∧ BoxL W w.heap.size Lz0 ∧ w.grownBy W (some pl)) ⟨HA.out.l.s1 M, HR.out.other (p := ⟨pl, 1, none⟩) (by simp; omega) _, grown_set (grown_below HL.out _) 1 _⟩ ?_
        clear HA HL HR f1 c0 c1 c2 cw cs cn HM
        rintro V ⟨hb, hr, hg⟩
        have HF : Hid (TrySteps pl (tryL x who now span) w (.returned (encL ⟨x.h, M, x.t⟩)) (V.setRow w.heap.size (cellsL ⟨x.h, M, x.t⟩))) := by
          refine ⟨grown_row hg (Nat.le_refl _) _, .inl ?_⟩
          rw [HT.out]
          exact ⟨rfl, rfl⟩
        have c0 := hb.c0
        have c1 := hb.c1
        have c2 := hb.c2
        have HV := Lib.hid (load_lz (hr.setRow ⟨x.h, M, x.t⟩))
        clear hb hg HT
        go_wp2_with ((with_reducible refine wpList_store_rowTo rfl 24 _ _ rfl rfl w.heap.size (cellsL ⟨x.h, M, x.t⟩) ?_ ?_ 24 (cellsL Lz0) ?_ ?_ ?_ ?_ ?_); rfl; rfl; exact hr; exact sizeL; rfl; exact one_L _)
        refine bodyPost_ret (v := encL ⟨x.h, M, x.t⟩) (results_cell rfl rfl HV.out) rfl HF.out
      | false =>
        have HM0 := Lib.hid hm
        clear hm
        go_wp2_with fail
        refine (mine_any x _ _ _).mono ?_
        rintro e w3 ⟨rfl, hl⟩
        replace HL := Lib.hid (HL.out.trans (hl.mono HL.out.size))
        replace HA := Lib.hid (HA.out.after hl)
        replace HR := Lib.hid (HR.out.after hl)
        clear hl c0 c1 c2 cw cs cn
        cases hm : mineB x x.h now with
        | true =>
          have HT : Hid (tryL x who now span = (Lz0, 8)) := by
            show _ = _
            unfold tryL
            rw [if_neg (by rw [H1.out]; decide), if_neg (by rw [HRG.out]; decide), if_neg (by rw [HM0.out]; decide), if_pos hm]
          have HF : Hid (TrySteps pl (tryL x who now span) w (gaveUpL 8) w3) := ⟨grown_below HL.out _, .inr (by rw [HT.out]; exact ⟨by decide, rfl⟩)⟩
          clear hm HT HL HA HR H1 HM0 HRG
          go_wp2_with fail
          refine (must_no _ _).mono ?_
          rintro e w4 ⟨rfl, rfl⟩
          go_wp2_with fail
          exact ⟨rfl, HF.out⟩
        | false =>
          have HT : Hid (tryL x who now span = (⟨who, now + span, up x.t⟩, 0)) := by
            show _ = _
            unfold tryL
            rw [if_neg (by rw [H1.out]; decide), if_neg (by rw [HRG.out]; decide), if_neg (by rw [HM0.out]; decide), if_neg (by rw [hm]; decide)]
          have HF : Hid (TrySteps pl (tryL x who now span) w (.returned (encL ⟨who, now + span, up x.t⟩)) (w3.setRow w.heap.size (cellsL ⟨who, now + span, up x.t⟩))) := by
            refine ⟨grown_row (grown_below HL.out _) (Nat.le_refl _) _, .inl ?_⟩
            rw [HT.out]
            exact ⟨rfl, rfl⟩
          have c2 := HA.out.l.c2
          have cw := HA.out.w.cell
          have cs := HA.out.s.cell
          have cn := HA.out.n.cell
          have hr := HR.out
          have HV := Lib.hid (load_lz (hr.setRow ⟨who, now + span, up x.t⟩))
          clear hm HT HL HA HR H1 HM0 HRG
          go_wp2_with fail
          refine (must_yes _ _).mono ?_
          rintro e w4 ⟨rfl, rfl⟩
          go_wp2_with ((with_reducible refine wpList_store_rowTo rfl 24 _ _ rfl rfl w.heap.size (cellsL ⟨who, now + span, up x.t⟩) ?_ ?_ 24 (cellsL Lz0) ?_ ?_ ?_ ?_ ?_); rfl; rfl; exact hr; exact sizeL; rfl; exact one_L _)
          refine bodyPost_ret (v := encL ⟨who, now + span, up x.t⟩) (results_cell rfl rfl HV.out) rfl HF.out
end Go.Proofs.Ytmamibabaedpcaa.L
