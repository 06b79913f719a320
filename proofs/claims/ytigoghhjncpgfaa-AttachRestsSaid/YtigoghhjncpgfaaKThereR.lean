/- The iterator over the objects of a kind, where a round may write rows of its own. -/
import Derived.Test.YtigoghhjncpgfaaKThere
import Derived.Test.YtigoghhjncpgfaaRangeRow
namespace Go.Proofs.Ytigoghhjncpgfaa.O.B
open Go Go.RowKit Go.Shelf Go.Lib KM
attribute [local go_sem] Oper.semAt_some

theorem Reads.keptR {W W' : World} {v : Value} {l : List Obj} {k : Int} {Ba Bk lo hi L N N0 : Nat} {E : TypeId} (h : Reads W v l k Ba Bk) (hc : Clear v l Ba Bk lo hi) (ha : Ahead v l Ba Bk N) (hL : N ≤ L) (hO : ∀ g off, (∃ c, v = .slice (some ⟨g, off, none⟩) l.length c) → 0 < l.length → g < N0) (hE : E ≠ 22 ∧ E ≠ 33) (hk : RangeRow.Kept lo hi N0 E L W W') : Reads W' v l k Ba Bk :=
  h.of (hk.2 _ h.ahead.b1 (by have := ha.b1; omega) hc.b1 (.inr (RangeRow.noRow_of h.box1 (fun cs f e => by cases e; exact hE.1 rfl)))) (hk.2 _ h.ahead.b2 (by have := ha.b2; omega) hc.b2 (.inr (RangeRow.noRow_of h.box2 (fun cs f e => by cases e; exact hE.2 rfl))))
    (fun g off hv hl => hk.2 _ (h.ahead.g g off hv hl) (by have := ha.g g off hv hl; omega) (hc.g g off hv hl) (.inl (hO g off hv hl))) hk.1

set_option maxRecDepth 100000 in
set_option maxHeartbeats 4000000 in
theorem there_row (l : List Obj) (v : Value) (k : Int) (Ba Bk lo hi N0 n : Nat) (E : TypeId) (w : World) (hr : Reads w v l k Ba Bk) (hc : Clear v l Ba Bk lo hi) (hhi : hi ≤ w.heap.size) (hO : ∀ g off, (∃ c, v = .slice (some ⟨g, off, none⟩) l.length c) → 0 < l.length → g < N0) (hE : E ≠ 22 ∧ E ≠ 33) :
    RangeRow.Seq Fence.wide n Try.prog 72 #[.pointer (some ⟨Ba, 0, none⟩), .pointer (some ⟨Bk, 0, none⟩)] (encE (l := l)) lo hi N0 E (fun xs => xs.map Subtype.val = thereL k l) (fun pre => pre.map Subtype.val <+: thereL k l) l.length w := fun L J Jx W hW hL hLW hJ hJx hY h0 => by
  obtain ⟨o, c, rfl, hn, -⟩ := hr.objs
  have HR := Lib.hid (hr.after hW)
  have HA := Lib.hid hr.ahead
  have HC := Lib.hid hc
  have HO := Lib.hid hO
  have HE := Lib.hid hE
  have H0 := Lib.hid h0
  have HJ := Lib.hid hJ
  have HJX := Lib.hid hJx
  have HY := Lib.hid hY
  have hNW := hW.size
  clear hr hc hO hE hW hJ hJx hY h0
  refine callsIn_of_wp Try.func72 rfl trivial ?_ rfl
  simp only [Try.ntmps72, List.size_toArray, List.length_cons, List.length_nil, Nat.reduceAdd, Nat.reduceSub, Array.replicate_succ, Array.replicate_zero, List.push_toArray, List.append_toArray, List.nil_append, List.cons_append]
  have m1 : ∀ w, (Instr.makeMap 68 none).run Try.prog w = .ok (.map (some w.heap.size)) (w.alloc (.map #[] 0)) := fun _ => rfl
  have b1 := (HR.out.box1.alloc (.map #[] 0)).cell
  have HG : Hid (Goes (.slice o l.length c) l k Ba Bk W.heap.size 0 W.heap.size J (W.alloc (.map #[] 0))) := by
    refine ⟨HR.out.after ((Below.refl _ _).alloc (Nat.le_refl _) _), isMap_new W, ⟨[], rfl, HJ.out.alloc _ H0.out⟩, Nat.le_refl _⟩
  clear HR H0
  gi_wp2
  gi_loopw [12] (fun iv wr => ∃ i : Nat, iv = .int .i64 (i : Int) ∧ i ≤ l.length ∧ Goes (.slice o l.length c) l k Ba Bk W.heap.size i W.heap.size J wr) (fun iv _ => l.length - (RowKit.intOf iv).toNat)
  case atStart => exact ⟨0, rfl, Nat.zero_le _, HG.out⟩
  case round =>
    clear HG b1
    obtain ⟨i, rfl, hi, hg⟩ := hrel
    have HG := Lib.hid hg
    by_cases hlt : i < l.length
    · have hlt' : (i : Int) < (l.length : Int) := by omega
      obtain ⟨o', c', he, -, hx⟩ := hg.rd.objs
      cases he
      obtain ⟨g, off, rfl, hgl, hrow⟩ := hx i hlt
      clear hx
      have hx0 : l[i] ∈ l := List.getElem_mem hlt
      obtain ⟨x, hx⟩ : ∃ x, l[i] = x := ⟨_, rfl⟩
      rw [hx] at hrow hx0
      have HXI := Lib.hid hx
      clear hx hg
      obtain ⟨V, hV⟩ : ∃ V, (wr.alloc (.cells (cellsO O0) 37 (0, 0))).setRow wr.heap.size (cellsO x) = V := ⟨_, rfl⟩
      have hst : ∀ {oi : Oper} {a : Act} {p q : Operand}, oi.op = .store 37 p q → a.eval p = .pointer (some ⟨wr.heap.size, 0, none⟩) → a.eval q = encO x → (execOp a.eval oi).run Try.prog (wr.alloc (.cells (cellsO O0) 37 (0, 0))) = .ok .skip V := fun h1 h2 h3 => by
        rw [← hV]
        exact exec_store_obj (BoxO.new wr O0) h1 h2 h3
      have hbV : BoxO V wr.heap.size x := by rw [← hV]; exact (BoxO.new wr O0).setRow x
      have hlow : Below wr.heap.size wr V := by
        rw [← hV]
        exact below_setRow ((Below.refl _ _).alloc (Nat.le_refl _) _) (Nat.le_refl _) _
      have hsz : wr.heap.size + 1 = V.heap.size := by rw [← hV]; simp [World.setRow]
      have hG := HG.out
      obtain ⟨pre, hp1, hp2⟩ := hG.inv
      have hrdV := hG.rd.after hlow
      have hseenV := hG.seen.after hlow
      have hJV := own_below HJ.out hp2 hlow
      have hfar := hG.far
      have hml := hG.seen.lt
      have HB := Lib.hid hbV
      have HRD := Lib.hid hrdV
      have HSN := Lib.hid hseenV
      have HJV := Lib.hid hJV
      have HLO := Lib.hid hlow
      have HP := Lib.hid hp1
      have k0 := hbV.c0
      have k1 := hbV.c1
      have kk := hrdV.box2.cell
      have htk := there_take (k := k) hlt
      rw [HXI.out] at htk
      have HTK := Lib.hid htk
      clear hV hbV hlow hG hp1 hp2 hrdV hseenV hJV htk
      by_cases hk : x.kind = k
      · have hk' : (x.kind != k) = false := by simpa using hk
        cases hfd : ((thereL k (l.take i)).find? fun y => decide (y.name = x.name)).isNone with
        | false =>
          have HS : Hid (stepT k (thereL k (l.take i)) x = thereL k (l.take i)) := by show stepT _ _ _ = _; unfold stepT; rw [if_neg (fun h => by rw [hfd] at h; cases h.2)]
          have hget : KM.get x.name (namesOf (thereL k (l.take i))) = some (.agg #[]) := by rw [names_get, hfd]; rfl
          have HGET := Lib.hid hget
          clear hfd hget
          gi_wp2_with (first | (refine KnownIn.value rfl rfl (load_mid hrow rfl rfl) ?_) | (refine KnownIn.skip rfl (by intro c e; cases e) rfl (hst rfl rfl rfl) ?_) | (refine KnownIn.value rfl rfl (exec_seen_ok rfl rfl rfl HSN.out HGET.out) ?_))
          have hal : Below V.heap.size V (V.alloc (Obj.cells #[] 88)) := (Below.refl _ _).alloc (Nat.le_refl _) _
          exact ⟨⟨i + 1, by go_num, by omega, HRD.out.after hal, by rw [HTK.out, HS.out]; exact HSN.out.after hal, ⟨pre, by rw [HTK.out, HS.out]; exact HP.out, own_below HJ.out HJV.out hal⟩, hfar⟩, by simp [RowKit.intOf]; omega⟩
        | true =>
          have HS : Hid (stepT k (thereL k (l.take i)) x = thereL k (l.take i) ++ [x]) := by show stepT _ _ _ = _; unfold stepT; rw [if_pos ⟨hk, hfd⟩]
          have HGET : Hid (KM.get x.name (namesOf (thereL k (l.take i))) = none) := by show _ = _; rw [names_get, if_pos hfd]
          have HPUT := Lib.hid (names_put x (thereL k (l.take i)) hfd)
          have hal : Below V.heap.size V (V.alloc (Obj.cells #[] 88)) := (Below.refl _ _).alloc (Nat.le_refl _) _
          have hsn := HSN.out.after hal
          obtain ⟨W5, hrun, hm5, ht5⟩ := exec_seen_put hsn x.name
          have hrd5 := (HRD.out.after hal).of (W' := W5) (ht5.block _ (by have := HA.out.b1; omega)) (ht5.block _ (by have := HA.out.b2; omega)) (fun g' off' hv hl => ht5.block _ (by have := HA.out.g g' off' hv hl; omega)) (by rw [ht5.size]; exact Nat.le_refl _)
          have hbx5 : BoxO W5 wr.heap.size x := (ht5.block _ (by omega)).trans (HB.out.after hal)
          have hJ5 := own_turned HJ.out (own_below HJ.out HJV.out hal) ht5 (Nat.le_refl _) (by obtain ⟨es, cl, h, -⟩ := hsn; exact ⟨es, cl, h⟩)
          have hlen : pre.length < l.length := by
            have h1 := there_len k (l.take i)
            rw [← HP.out, List.length_map, List.length_take] at h1
            omega
          obtain ⟨fn, tmps, assign, body, hy, hR⟩ := HY.out pre ⟨x, hx0⟩ W5 hJ5 hlen
          change Sem.run Try.prog (Instr.yield L #[encO x]) _ = _ at hy
          have HR5 := Lib.hid hR
          have k1a := (HB.out.after hal).c1
          have HRD5 := Lib.hid hrd5
          have HM5 := Lib.hid hm5
          have HLT5 := Lib.hid hm5.lt
          clear hfd hsn hm5 ht5 hrd5 hJ5 hR hal
          gi_wp2_with (first | (refine KnownIn.value rfl rfl (load_mid hrow rfl rfl) ?_) | (refine KnownIn.value rfl rfl (load_obj hbx5 rfl rfl) ?_) | (refine KnownIn.skip rfl (by intro c e; cases e) rfl (hst rfl rfl rfl) ?_) | (refine KnownIn.value rfl rfl (exec_seen_no rfl rfl rfl HSN.out HGET.out) ?_) | (refine KnownIn.skip rfl (by intro c e; cases e) rfl (hrun rfl rfl rfl rfl) ?_))
          refine ⟨fun h => (by cases h), HR5.out.mono ?_⟩
          rintro e W6 (⟨rfl, hJ6, hk6⟩ | ⟨rfl, hJx6, -⟩)
          · have hpm : (pre ++ [(⟨x, hx0⟩ : El l)]).map Subtype.val = thereL k (l.take i) ++ [x] := by rw [List.map_append, HP.out]; rfl
            have HN : Hid (Goes (.slice (some ⟨g, off, none⟩) l.length c) l k Ba Bk W.heap.size (i + 1) W.heap.size J W6) := by
              refine ⟨HRD5.out.keptR HC.out HA.out hL HO.out HE.out hk6, ?_, ⟨pre ++ [⟨x, hx0⟩], by rw [HTK.out, HS.out]; exact hpm, hJ6⟩, hfar⟩
              rw [HTK.out, HS.out, ← HPUT.out]
              obtain ⟨es5, cl5, hm5, -⟩ := id HM5.out
              exact HM5.out.of_heap (hk6.2 _ HLT5.out (by omega) (by omega) (.inr (RangeRow.noRow_of hm5 (fun cs f e => by cases e))))
            clear hy hrun hst hJ6 hk6
            gi_wp2
            exact ⟨⟨i + 1, by go_num, by omega, HN.out⟩, by simp [RowKit.intOf]; omega⟩
          · have hpm : Hid ((pre ++ [(⟨x, hx0⟩ : El l)]).map Subtype.val <+: thereL k l) := by
              show _ <+: _
              rw [List.map_append, HP.out]
              have h2 := there_prefix (k := k) (l := l) (i + 1)
              rw [HTK.out, HS.out] at h2
              exact h2
            have HX6 := Lib.hid hJx6
            clear hy hrun hst hJx6
            gi_wp2
            refine bodyPost_ret (results_none rfl _ _ _) rfl ?_
            exact ⟨⟨_, rfl⟩, .inr ⟨_, hpm.out, HX6.out⟩⟩
      · have hk' : (x.kind != k) = true := by simpa using hk
        have HS : Hid (stepT k (thereL k (l.take i)) x = thereL k (l.take i)) := by show stepT _ _ _ = _; unfold stepT; rw [if_neg (fun h => hk h.1)]
        gi_wp2_with (first | (refine KnownIn.value rfl rfl (load_mid hrow rfl rfl) ?_) | (refine KnownIn.skip rfl (by intro c e; cases e) rfl (hst rfl rfl rfl) ?_))
        exact ⟨⟨i + 1, by go_num, by omega, HRD.out, by rw [HTK.out, HS.out]; exact HSN.out, ⟨pre, by rw [HTK.out, HS.out]; exact HP.out, HJV.out⟩, hfar⟩, by simp [RowKit.intOf]; omega⟩
    · have hlt' : ¬ (i : Int) < (l.length : Int) := by omega
      have hE : i = l.length := by omega
      obtain ⟨pre, hp1, hp2⟩ := hg.inv
      rw [hE, List.take_length] at hp1
      have HP := Lib.hid hp1
      have HJ2 := Lib.hid hp2
      clear hg hp1 hp2 hi hlt hE
      gi_wp2
      go_end0
      exact ⟨⟨_, rfl⟩, .inl ⟨pre, HP.out, HJ2.out⟩⟩
end Go.Proofs.Ytigoghhjncpgfaa.O.B
