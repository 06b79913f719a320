/- The iterator over the objects of a kind. -/
import Derived.Test.YtigoghhjncpgfaaBObjs
namespace Go.Proofs.Ytigoghhjncpgfaa.O.B
open Go Go.RowKit Go.Shelf Go.Lib RangeMap KM
attribute [local go_sem] Oper.semAt_some

/-- One of a list. -/
abbrev El (l : List Obj) := { o : Obj // o ∈ l }
def encE {l : List Obj} (x : El l) : Array Value := #[encO x.1]
/-- What the iterator leans on. -/
structure Reads (W : World) (v : Value) (l : List Obj) (k : Int) (Ba Bk : Nat) : Prop where
  objs : ObjsIn W v l
  box1 : Boxed W Ba 22 v
  box2 : Boxed W Bk 33 (.int .u8 k)
/-- None of it lies between lo and hi. -/
structure Clear (v : Value) (l : List Obj) (Ba Bk lo hi : Nat) : Prop where
  b1 : ¬ (lo ≤ Ba ∧ Ba < hi)
  b2 : ¬ (lo ≤ Bk ∧ Bk < hi)
  g : ∀ g off, (∃ c, v = .slice (some ⟨g, off, none⟩) l.length c) → 0 < l.length → ¬ (lo ≤ g ∧ g < hi)
/-- What lies ahead of the loop. -/
structure Ahead (v : Value) (l : List Obj) (Ba Bk N : Nat) : Prop where
  b1 : Ba < N
  b2 : Bk < N
  g : ∀ g off, (∃ c, v = .slice (some ⟨g, off, none⟩) l.length c) → 0 < l.length → g < N
theorem Reads.ahead {W : World} {v : Value} {l : List Obj} {k : Int} {Ba Bk : Nat} (h : Reads W v l k Ba Bk) : Ahead v l Ba Bk W.heap.size := by
  refine ⟨h.box1.lt, h.box2.lt, fun g off hv hl => ?_⟩
  obtain ⟨o, c, rfl, -, hi⟩ := h.objs
  obtain ⟨c', hv⟩ := hv
  obtain ⟨g', off', ho, hg, -⟩ := hi 0 hl
  subst ho
  cases hv
  exact hg
theorem Reads.of {W W' : World} {v : Value} {l : List Obj} {k : Int} {Ba Bk : Nat} (h : Reads W v l k Ba Bk) (h1 : W'.heap[Ba]? = W.heap[Ba]?) (h2 : W'.heap[Bk]? = W.heap[Bk]?) (h3 : ∀ g off, (∃ c, v = .slice (some ⟨g, off, none⟩) l.length c) → 0 < l.length → W'.heap[g]? = W.heap[g]?) (hs : W.heap.size ≤ W'.heap.size) : Reads W' v l k Ba Bk := by
  refine ⟨?_, h1.trans h.box1, h2.trans h.box2⟩
  obtain ⟨o, c, rfl, hn, hi⟩ := h.objs
  refine ⟨o, c, rfl, hn, fun i hil => ?_⟩
  obtain ⟨g, off, rfl, hg, hr⟩ := hi i hil
  exact ⟨g, off, rfl, Nat.lt_of_lt_of_le hg hs, fun j v hv => (World.cell?_of_block (w := W) (a := ⟨g, _, none⟩) (h3 g off ⟨c, rfl⟩ (by omega))).trans (hr j v hv)⟩
theorem Reads.after {W W' : World} {v : Value} {l : List Obj} {k : Int} {Ba Bk : Nat} (h : Reads W v l k Ba Bk) (hb : Below W.heap.size W W') : Reads W' v l k Ba Bk :=
  h.of (hb.block _ h.ahead.b1) (hb.block _ h.ahead.b2) (fun g off hv hl => hb.block _ (h.ahead.g g off hv hl)) hb.size
theorem Reads.kept {W W' : World} {v : Value} {l : List Obj} {k : Int} {Ba Bk lo hi L N : Nat} (h : Reads W v l k Ba Bk) (hc : Clear v l Ba Bk lo hi) (ha : Ahead v l Ba Bk N) (hL : N ≤ L) (hk : Kept lo hi L W W') : Reads W' v l k Ba Bk :=
  h.of (hk.2 _ h.ahead.b1 (by have := ha.b1; omega) hc.b1) (hk.2 _ h.ahead.b2 (by have := ha.b2; omega) hc.b2) (fun g off hv hl => hk.2 _ (h.ahead.g g off hv hl) (by have := ha.g g off hv hl; omega) (hc.g g off hv hl)) hk.1

/-- Where the iterator stands: the first i have been looked at. -/
structure Goes (v : Value) (l : List Obj) (k : Int) (Ba Bk m i N : Nat) (J : List (El l) → World → Prop) (W : World) : Prop where
  rd : Reads W v l k Ba Bk
  seen : IsMap encT W m (namesOf (thereL k (l.take i)))
  inv : ∃ pre : List (El l), pre.map Subtype.val = thereL k (l.take i) ∧ J pre W
  far : N ≤ m

set_option maxRecDepth 100000 in
set_option maxHeartbeats 4000000 in
theorem there_seq (l : List Obj) (v : Value) (k : Int) (Ba Bk lo hi n : Nat) (w : World) (hr : Reads w v l k Ba Bk) (hc : Clear v l Ba Bk lo hi) (hhi : hi ≤ w.heap.size) :
    Seq Fence.wide n Try.prog 72 #[.pointer (some ⟨Ba, 0, none⟩), .pointer (some ⟨Bk, 0, none⟩)] (encE (l := l)) lo hi (fun xs => xs.map Subtype.val = thereL k l) (fun pre => pre.map Subtype.val <+: thereL k l) l.length w := fun L J Jx W hW hL hLW hJ hJx hY h0 => by
  obtain ⟨o, c, rfl, hn, -⟩ := hr.objs
  have HR := Lib.hid (hr.after hW)
  have HA := Lib.hid hr.ahead
  have HC := Lib.hid hc
  have H0 := Lib.hid h0
  have HJ := Lib.hid hJ
  have HJX := Lib.hid hJx
  have HY := Lib.hid hY
  have hNW := hW.size
  clear hr hc hW hJ hJx hY h0
  refine callsIn_of_wp Try.func72 rfl trivial ?_ rfl
  simp only [Try.ntmps72, List.size_toArray, List.length_cons, List.length_nil, Nat.reduceAdd, Nat.reduceSub, Array.replicate_succ, Array.replicate_zero, List.push_toArray, List.append_toArray, List.nil_append, List.cons_append]
  have m1 : ∀ w, (Instr.makeMap 68 none).run Try.prog w = .ok (.map (some w.heap.size)) (w.alloc (.map #[] 0)) := fun _ => rfl
  have b1 := (HR.out.box1.alloc (.map #[] 0)).cell
  have HG : Hid (Goes (.slice o l.length c) l k Ba Bk W.heap.size 0 W.heap.size J (W.alloc (.map #[] 0))) := by
    refine ⟨HR.out.after ((Below.refl _ _).alloc (Nat.le_refl _) _), isMap_new W, ⟨[], rfl, HJ.out.alloc _ H0.out⟩, Nat.le_refl _⟩
  clear HR H0
  gi_wp2
  gi_loopw [12] (fun iv wr => ∃ i : Nat, iv = .int .i64 (i : Int) ∧ i ≤ l.length ∧ Goes (.slice o l.length c) l k Ba Bk W.heap.size i W.heap.size J wr) (fun iv _ => l.length - (RowKit.intOf iv).toNat)
  case atStart => exact ⟨0, rfl, Nat.zero_le _, HG.out⟩
  case round =>
    clear HG b1
    obtain ⟨i, rfl, hi, hg⟩ := hrel
    have HG := Lib.hid hg
    by_cases hlt : i < l.length
    · have hlt' : (i : Int) < (l.length : Int) := by omega
      obtain ⟨o', c', he, -, hx⟩ := hg.rd.objs
      cases he
      obtain ⟨g, off, rfl, hgl, hrow⟩ := hx i hlt
      clear hx
      have hx0 : l[i] ∈ l := List.getElem_mem hlt
      obtain ⟨x, hx⟩ : ∃ x, l[i] = x := ⟨_, rfl⟩
      rw [hx] at hrow hx0
      have HXI := Lib.hid hx
      clear hx hg
      obtain ⟨V, hV⟩ : ∃ V, (wr.alloc (.cells (cellsO O0) 37 (0, 0))).setRow wr.heap.size (cellsO x) = V := ⟨_, rfl⟩
      have hst : ∀ {oi : Oper} {a : Act} {p q : Operand}, oi.op = .store 37 p q → a.eval p = .pointer (some ⟨wr.heap.size, 0, none⟩) → a.eval q = encO x → (execOp a.eval oi).run Try.prog (wr.alloc (.cells (cellsO O0) 37 (0, 0))) = .ok .skip V := fun h1 h2 h3 => by
        rw [← hV]
        exact exec_store_obj (BoxO.new wr O0) h1 h2 h3
      have hbV : BoxO V wr.heap.size x := by rw [← hV]; exact (BoxO.new wr O0).setRow x
      have hlow : Below wr.heap.size wr V := by
        rw [← hV]
        exact below_setRow ((Below.refl _ _).alloc (Nat.le_refl _) _) (Nat.le_refl _) _
      have hsz : wr.heap.size + 1 = V.heap.size := by rw [← hV]; simp [World.setRow]
      have hG := HG.out
      obtain ⟨pre, hp1, hp2⟩ := hG.inv
      have hrdV := hG.rd.after hlow
      have hseenV := hG.seen.after hlow
      have hJV := own_below HJ.out hp2 hlow
      have hfar := hG.far
      have hml := hG.seen.lt
      have HB := Lib.hid hbV
      have HRD := Lib.hid hrdV
      have HSN := Lib.hid hseenV
      have HJV := Lib.hid hJV
      have HLO := Lib.hid hlow
      have HP := Lib.hid hp1
      have k0 := hbV.c0
      have k1 := hbV.c1
      have kk := hrdV.box2.cell
      have htk := there_take (k := k) hlt
      rw [HXI.out] at htk
      have HTK := Lib.hid htk
      clear hV hbV hlow hG hp1 hp2 hrdV hseenV hJV htk
      by_cases hk : x.kind = k
      · have hk' : (x.kind != k) = false := by simpa using hk
        cases hfd : ((thereL k (l.take i)).find? fun y => decide (y.name = x.name)).isNone with
        | false =>
          have HS : Hid (stepT k (thereL k (l.take i)) x = thereL k (l.take i)) := by show stepT _ _ _ = _; unfold stepT; rw [if_neg (fun h => by rw [hfd] at h; cases h.2)]
          have hget : KM.get x.name (namesOf (thereL k (l.take i))) = some (.agg #[]) := by rw [names_get, hfd]; rfl
          have HGET := Lib.hid hget
          clear hfd hget
          gi_wp2_with (first | (refine KnownIn.value rfl rfl (load_mid hrow rfl rfl) ?_) | (refine KnownIn.skip rfl (by intro c e; cases e) rfl (hst rfl rfl rfl) ?_) | (refine KnownIn.value rfl rfl (exec_seen_ok rfl rfl rfl HSN.out HGET.out) ?_))
          have hal : Below V.heap.size V (V.alloc (Obj.cells #[] 88)) := (Below.refl _ _).alloc (Nat.le_refl _) _
          exact ⟨⟨i + 1, by go_num, by omega, HRD.out.after hal, by rw [HTK.out, HS.out]; exact HSN.out.after hal, ⟨pre, by rw [HTK.out, HS.out]; exact HP.out, own_below HJ.out HJV.out hal⟩, hfar⟩, by simp [RowKit.intOf]; omega⟩
        | true =>
          have HS : Hid (stepT k (thereL k (l.take i)) x = thereL k (l.take i) ++ [x]) := by show stepT _ _ _ = _; unfold stepT; rw [if_pos ⟨hk, hfd⟩]
          have HGET : Hid (KM.get x.name (namesOf (thereL k (l.take i))) = none) := by show _ = _; rw [names_get, if_pos hfd]
          have HPUT := Lib.hid (names_put x (thereL k (l.take i)) hfd)
          have hal : Below V.heap.size V (V.alloc (Obj.cells #[] 88)) := (Below.refl _ _).alloc (Nat.le_refl _) _
          have hsn := HSN.out.after hal
          obtain ⟨W5, hrun, hm5, ht5⟩ := exec_seen_put hsn x.name
          have hrd5 := (HRD.out.after hal).of (W' := W5) (ht5.block _ (by have := HA.out.b1; omega)) (ht5.block _ (by have := HA.out.b2; omega)) (fun g' off' hv hl => ht5.block _ (by have := HA.out.g g' off' hv hl; omega)) (by rw [ht5.size]; exact Nat.le_refl _)
          have hbx5 : BoxO W5 wr.heap.size x := (ht5.block _ (by omega)).trans (HB.out.after hal)
          have hJ5 := own_turned HJ.out (own_below HJ.out HJV.out hal) ht5 (Nat.le_refl _) (by obtain ⟨es, cl, h, -⟩ := hsn; exact ⟨es, cl, h⟩)
          have hlen : pre.length < l.length := by
            have h1 := there_len k (l.take i)
            rw [← HP.out, List.length_map, List.length_take] at h1
            omega
          obtain ⟨fn, tmps, assign, body, hy, hR⟩ := HY.out pre ⟨x, hx0⟩ W5 hJ5 hlen
          change Sem.run Try.prog (Instr.yield L #[encO x]) _ = _ at hy
          have HR5 := Lib.hid hR
          have k1a := (HB.out.after hal).c1
          have HRD5 := Lib.hid hrd5
          have HM5 := Lib.hid hm5
          have HLT5 := Lib.hid hm5.lt
          clear hfd hsn hm5 ht5 hrd5 hJ5 hR hal
          gi_wp2_with (first | (refine KnownIn.value rfl rfl (load_mid hrow rfl rfl) ?_) | (refine KnownIn.value rfl rfl (load_obj hbx5 rfl rfl) ?_) | (refine KnownIn.skip rfl (by intro c e; cases e) rfl (hst rfl rfl rfl) ?_) | (refine KnownIn.value rfl rfl (exec_seen_no rfl rfl rfl HSN.out HGET.out) ?_) | (refine KnownIn.skip rfl (by intro c e; cases e) rfl (hrun rfl rfl rfl rfl) ?_))
          refine ⟨fun h => (by cases h), HR5.out.mono ?_⟩
          rintro e W6 (⟨rfl, hJ6, hk6⟩ | ⟨rfl, hJx6⟩)
          · have hpm : (pre ++ [(⟨x, hx0⟩ : El l)]).map Subtype.val = thereL k (l.take i) ++ [x] := by rw [List.map_append, HP.out]; rfl
            have HN : Hid (Goes (.slice (some ⟨g, off, none⟩) l.length c) l k Ba Bk W.heap.size (i + 1) W.heap.size J W6) := by
              refine ⟨HRD5.out.kept HC.out HA.out hL hk6, ?_, ⟨pre ++ [⟨x, hx0⟩], by rw [HTK.out, HS.out]; exact hpm, hJ6⟩, hfar⟩
              rw [HTK.out, HS.out, ← HPUT.out]
              exact HM5.out.of_heap (hk6.2 _ HLT5.out (by omega) (by omega))
            clear hy hrun hst hJ6 hk6
            gi_wp2
            exact ⟨⟨i + 1, by go_num, by omega, HN.out⟩, by simp [RowKit.intOf]; omega⟩
          · have hpm : Hid ((pre ++ [(⟨x, hx0⟩ : El l)]).map Subtype.val <+: thereL k l) := by
              show _ <+: _
              rw [List.map_append, HP.out]
              have h2 := there_prefix (k := k) (l := l) (i + 1)
              rw [HTK.out, HS.out] at h2
              exact h2
            have HX6 := Lib.hid hJx6
            clear hy hrun hst hJx6
            gi_wp2
            refine bodyPost_ret (results_none rfl _ _ _) rfl ?_
            exact ⟨⟨_, rfl⟩, .inr ⟨_, hpm.out, HX6.out⟩⟩
      · have hk' : (x.kind != k) = true := by simpa using hk
        have HS : Hid (stepT k (thereL k (l.take i)) x = thereL k (l.take i)) := by show stepT _ _ _ = _; unfold stepT; rw [if_neg (fun h => hk h.1)]
        gi_wp2_with (first | (refine KnownIn.value rfl rfl (load_mid hrow rfl rfl) ?_) | (refine KnownIn.skip rfl (by intro c e; cases e) rfl (hst rfl rfl rfl) ?_))
        exact ⟨⟨i + 1, by go_num, by omega, HRD.out, by rw [HTK.out, HS.out]; exact HSN.out, ⟨pre, by rw [HTK.out, HS.out]; exact HP.out, HJV.out⟩, hfar⟩, by simp [RowKit.intOf]; omega⟩
    · have hlt' : ¬ (i : Int) < (l.length : Int) := by omega
      have hE : i = l.length := by omega
      obtain ⟨pre, hp1, hp2⟩ := hg.inv
      rw [hE, List.take_length] at hp1
      have HP := Lib.hid hp1
      have HJ2 := Lib.hid hp2
      clear hg hp1 hp2 hi hlt hE
      gi_wp2
      go_end0
      exact ⟨⟨_, rfl⟩, .inl ⟨pre, HP.out, HJ2.out⟩⟩
end Go.Proofs.Ytigoghhjncpgfaa.O.B
