/- Own work. -/
import Derived.Test.YtfndiocohaploaaTLJSZCCalls
import Derived.Test.YtfndiocohaploaaTLJSZORightB
import Derived.Test.YtfndiocohaploaaTLJSPut
import Derived.OpenShut
import Derived.SizedLaws
import Derived.Deep.Fields
import Derived.Deep.Slices
import Derived.Deep.Strs
namespace Go.Proofs.Ytfndiocohaploaa.S
open Go Go.RowKit Go.Lib KM
theorem eql_nilE (w : World) (a : Option Addr) (k c : Nat) : (binOp .eql tEs (.slice a k c) (.slice none 0 0)).run Try.prog w = .ok (.bool a.isNone) w := by
  simp only [binOp]
  simp [run_equal_slice_nil (P := Try.prog) w tEs tEv a k c Try.underlying41]
theorem app_evs (W : World) (B g : Nat) (l : List C.Ev) (c : Nat) (ty : TypeId) (hB : B ≤ W.heap.size) (hl : ∀ j u, (flatE l)[j]? = some u → W.cell? ⟨g, j, none⟩ = some u) (hn : l.length ≤ 5000) (e0 : Nat) (h0 : W.heap[e0]? = some (.cells #[] tEv (0, 0))) (he0 : B ≤ e0) :
    ∃ v' W', (Builtin.append_ #[tEs, tEs] ty #[.slice (some ⟨e0, 0, none⟩) 0 0, .slice (some ⟨g, 0, none⟩) l.length c]).run Try.prog W = .ok v' W' ∧ EvsAt W' B v' l ∧ Below B W W' := by
  obtain ⟨i, z, hi, hz, hzs, hs, hb⟩ := ev_info
  have hH : W.ownsRow B tEv 22 (.slice (some ⟨e0, 0, none⟩) 0 0) 0 [] := ⟨rfl, .inr ⟨e0, 0, #[], rfl, he0, h0, Nat.le_refl _, Nat.zero_le _, rfl, rfl⟩⟩
  have hm : ∀ j u, (flatE l)[j]? = some u → W.cell? ((⟨g, 0, none⟩ : Addr).add j) = some u := fun j u hu => by
    have e1 : (⟨g, 0, none⟩ : Addr).add j = ⟨g, j, none⟩ := by unfold Addr.add; split <;> simp_all
    rw [e1]
    exact hl j u hu
  have hbb : (0 + l.length) * i.bytes ≤ 140737488355328 := Nat.le_trans (Nat.mul_le_mul (by omega : 0 + l.length ≤ 5000) hb) (by decide)
  obtain ⟨v', W', hr, hown, hgrow, -⟩ := run_append_own (P := Try.prog) W B tEs ty tEv i z 22 i.bytes Try.underlying41 hi hz hs rfl hzs (by decide) (.slice (some ⟨e0, 0, none⟩) 0 0) 0 [] hH ⟨g, 0, none⟩ l.length c (flatE l) (flat_length l) hm (one_flat l) (by unfold maxLen; omega) hbb hB
  refine ⟨v', W', hr, by unfold EvsAt; simpa using hown, ⟨hgrow.os, hgrow.tape, hgrow.output, hgrow.size, fun k hk => hgrow.block k (by omega) fun e => ?_⟩⟩
  have : k = e0 := by simpa [Value.ownBlock] using e
  omega
theorem wpList_appE {ops : Array Oper} {rest : List Oper} {o : Oper} {a : Act} {W W' : World} {Q : Exit → Act → World → Prop} (hgd : o.guard = none) (s x : Operand) (t : TypeId)
    (ho : o.op = .call { callee := .builtin .append, args := #[s, x], argTypes := #[t, t] }) {v y v' : Value} (hs : a.eval s = v) (hy : a.eval x = y)
    (hr : (Builtin.append_ #[t, t] o.type #[v, y]).run Try.prog W = .ok v' W') (h : wpList Try.prog ops Q rest (a.put o.dst v') W') : wpList Try.prog ops Q (o :: rest) a W := by
  refine wpList_plain hgd fun _ hK => ?_
  unfold Oper.wp execOp
  simp only [ho, resolve, invoke, builtin, Sem.run_bind, Sem.run_pure, Result.andThen_ok, List.map_toArray, List.map_cons, List.map_nil, hs, hy]
  rw [hr]
  exact hK _ _ h
theorem EvsAt.cells {W : World} {B : Nat} {g n c : Nat} {l : List C.Ev} (h : EvsAt W B (.slice (some ⟨g, 0, none⟩) n c) l) : ∀ j u, (flatE l)[j]? = some u → W.cell? ⟨g, j, none⟩ = some u := fun j u hu => by
  have := World.ownsRow.cells (g := g) h rfl j u hu
  have e1 : (⟨g, 0, none⟩ : Addr).add j = ⟨g, j, none⟩ := by unfold Addr.add; split <;> simp_all
  first | exact this | (rw [← e1]; exact this)
def EvsD (l : List C.Ev) (w : World) (e : Ending) (w' : World) : Prop := ∃ v, e = .returned v ∧ EvsAt w' w.heap.size v l ∧ Below w.heap.size w w'
set_option maxRecDepth 100000 in
theorem cloneE_any (v : Value) (B : Nat) (l : List C.Ev) (w : World) (h : EvsAt w B v l) (hn : l.length ≤ 5000) : Calls Try.prog 25 #[v] w (EvsD l w) := by
  rcases h.2 with ⟨rfl, h0⟩ | ⟨g, cap, cur, rfl, hg⟩
  · obtain rfl : l = [] := List.eq_nil_of_length_eq_zero h0
    clear h
    have hnil : ∀ w, (binOp .eql tEs (.slice none 0 0) (.slice none 0 0)).run Try.prog w = .ok (.bool true) w := fun w => eql_nilE w none 0 0
    go_enter Try.func25, Try.ntmps25
    go_wp2
    go_ret
    exact ⟨_, rfl, EvsAt.nil _ _, Below.refl _ _⟩
  · have hal : Below w.heap.size w (w.alloc (.cells #[] tEv)) := (Below.refl _ _).alloc (Nat.le_refl _) _
    have hcl := (h.after hal).cells
    have hnew : (w.alloc (.cells #[] tEv)).heap[w.heap.size]? = some (.cells #[] tEv (0, 0)) := heap_alloc_new w _
    obtain ⟨v', W', hr, he, hb⟩ := app_evs (w.alloc (.cells #[] tEv)) w.heap.size g l cap tEs hal.size hcl hn w.heap.size hnew (Nat.le_refl _)
    have HE := Lib.hid he
    have HB : Hid (Below w.heap.size w W') := hal.trans hb
    have hnil : ∀ w, (binOp .eql tEs (.slice (some ⟨g, 0, none⟩) l.length cap) (.slice none 0 0)).run Try.prog w = .ok (.bool false) w := fun w => eql_nilE w (some ⟨g, 0, none⟩) l.length cap
    have HR : Hid ((Builtin.append_ #[tEs, tEs] tEs #[.slice (some ⟨w.heap.size, 0, none⟩) 0 0, .slice (some ⟨g, 0, none⟩) l.length cap]).run Try.prog (w.alloc (.cells #[] tEv)) = .ok v' W') := hr
    clear h hg hcl hnew hr he hb hal
    go_enter Try.func25, Try.ntmps25
    go_wp2_with (at_builtin; refine wpList_appE rfl _ _ tEs rfl rfl rfl HR.out ?_)
    go_ret
    exact ⟨_, rfl, HE.out, HB.out⟩
theorem slice0 {W : World} {B : Nat} {v : Value} {l : List C.Ev} (h : EvsAt W B v l) (w : World) : (Instr.slice tEs v (some (.int .u64 0)) none none).run Try.prog w = .ok v w := by
  have hs : Try.prog.underlying tEs = some (.slice (Try.prog.elem tEs)) := by kernel_rfl
  have he : (sizeOf (Try.prog.elem tEs)).run Try.prog w = .ok 22 w := by kernel_rfl
  show (Instr.slice tEs v (some (.int .u64 ((0 : Nat) : Int))) none none).run Try.prog w = .ok v w
  rcases h.2 with ⟨rfl, h0⟩ | ⟨g, cap, cur, rfl, h1, h2, h3, h4, -⟩
  · rw [run_slice_l w tEs none 0 0 hs .u64 (0 : Nat) (by omega) (by omega), he]
    simp [Result.andThen, sliced]
  · rw [run_slice_l w tEs (some ⟨g, 0, none⟩) l.length cap hs .u64 (0 : Nat) (by omega) (by unfold maxLen at h4; omega), he]
    by_cases hc : cap = 0
    · obtain rfl : l = [] := List.eq_nil_of_length_eq_zero (by omega)
      simp [Result.andThen, sliced, hc]
    · simp [Result.andThen, sliced, L.add_lit']
set_option maxRecDepth 100000 in
theorem since0_any {B : Nat} {q bm : Nat} {sl : Value} {ql : Nat} {og : Option Nat} {s : St} {w : World} (h : StAt B w q bm sl ql og s) : Calls Try.prog 10 #[.pointer (some ⟨q, 0, none⟩), .int .u64 0] w (EvsD s.evs w) := by
  have HV := Lib.hid (version_any h)
  have HCL := Lib.hid (cloneE_any sl B s.evs w h.evs (Nat.le_trans h.few (by decide)))
  have hsl := slice0 h.evs
  have c1 := h.box.c1
  obtain ⟨n, hn⟩ : ∃ n, s.evs.length = n := ⟨_, rfl⟩
  obtain ⟨a, c, hv⟩ := h.evs.shape
  rw [hn] at HV hv
  subst hv
  have HN := Lib.hid hn
  clear h hn
  go_enter Try.func10, Try.ntmps10
  by_cases h0 : n = 0
  · subst h0
    go_wp2_with (go_at_call 11; refine HV.out.mono ?_; rintro e _ ⟨rfl, rfl⟩)
    go_ret
    exact ⟨_, rfl, by rw [List.eq_nil_of_length_eq_zero HN.out]; exact EvsAt.nil _ _, Below.refl _ _⟩
  · have h1 : ¬ (n : Int) ≤ 0 := by omega
    go_wp2_with (first | (go_at_call 11; refine HV.out.mono ?_; rintro e _ ⟨rfl, rfl⟩) | (go_at_call 25; refine HCL.out.mono ?_))
    rintro e W2 hw
    obtain ⟨v2, rfl, he2, hb2⟩ := hw
    have HE := Lib.hid he2
    have HB := Lib.hid hb2
    clear he2 hb2
    go_wp2
    go_ret
    exact ⟨_, rfl, HE.out, HB.out⟩
end Go.Proofs.Ytfndiocohaploaa.S
namespace Go.Proofs.Ytfndiocohaploaa.S
open Go Go.RowKit
structure Logged (s : St) : Prop where
  recs : L.recs s.log.b = s.evs.map C.evB
  all : L.blks (L.recs s.log.b) * 64 = s.log.b.length
  wf : ∀ e ∈ s.evs, C.WfE e
theorem logged_new (n : Nat) : Logged ⟨[], [], ⟨n, 0, []⟩⟩ := ⟨rfl, rfl, fun e he => absurd he (by simp)⟩
theorem Logged.wrote {s : St} (h : Logged s) {e : C.Ev} (hv : C.U64 e.version) (hf : C.Fits e.object) : Logged (wrote s e).2 := by
  by_cases h0 : (recC s.log e).1 = 0
  · rw [(wrote_ok h0).1]
    unfold recC at h0 ⊢
    split at h0
    · cases h0
    · next hr =>
      have hr' : O.rightB e.object = true := by simpa using hr
      rw [if_neg hr]
      unfold L.appS at h0 ⊢
      split at h0
      · cases h0
      · next h1 =>
        split at h0
        · cases h0
        · next h2 =>
          rw [if_neg h1, if_neg h2]
          have hrec := L.all_blks_app (b := s.log.b) (r := C.evB e) h.all h1
          have hlen := L.laid_length h1 ((L.recs s.log.b).length + 1)
          refine ⟨?_, ?_, ?_⟩
          · show L.recs (s.log.b ++ L.laid (C.evB e) ((L.recs s.log.b).length + 1)) = (s.evs ++ [e]).map C.evB
            rw [hrec, h.recs, List.map_append]
            rfl
          · show L.blks (L.recs (s.log.b ++ L.laid (C.evB e) ((L.recs s.log.b).length + 1))) * 64 = (s.log.b ++ L.laid (C.evB e) ((L.recs s.log.b).length + 1)).length
            rw [hrec, L.blks_append, List.length_append, hlen, ← h.all]
            simp only [L.blks]
            omega
          · intro x hx
            rcases List.mem_append.1 hx with hx | hx
            · exact h.wf x hx
            · obtain rfl := List.mem_singleton.1 hx
              exact ⟨hv, trivial, C.wf_of_right hr' hf.version hf.born hf.num hf.tag, hr'⟩
  · rw [(wrote_no h0).1]
    exact h
theorem Logged.put {s : St} (h : Logged s) (g : Good s) (hn : s.evs.length ≤ 4096) {o : O.Obj} (hf : C.Fits o) : Logged (putS s o).2.2 := by
  unfold putS
  split
  · have := h.wrote (e := putE s o) (next_u64 hn) (put_fits g hn hf)
    split
    · exact this
    · exact h
  · exact h
theorem Logged.del {s : St} (h : Logged s) (g : Good s) (hn : s.evs.length ≤ 4096) (k : Ky) : Logged (delS s k).2 := by
  unfold delS
  cases hs : s.get k with
  | none => exact h
  | some o =>
    have hf := (g.of hs).2
    show Logged (if o.hold = false then (_ : Int × St) else _).2
    split
    · exact h.wrote (next_u64 hn) hf
    · split
      · exact h
      · exact h.wrote (next_u64 hn) ⟨hf.name, hf.cls, hf.zone, hf.node, hf.claim, hf.volume, hf.source, next_u64 hn, hf.born, hf.num, hf.tag⟩
theorem Logged.read {s : St} (h : Logged s) {i : Nat} (hi : i < s.evs.length) : ∃ hr : i < (L.recs s.log.b).length, C.allR C.rdEv (L.recs s.log.b)[i] = some s.evs[i] := by
  have hl : (L.recs s.log.b).length = s.evs.length := by rw [h.recs, List.length_map]
  refine ⟨by omega, ?_⟩
  have e : (L.recs s.log.b)[i]'(by omega) = C.evB s.evs[i] := by
    have : (L.recs s.log.b)[i]'(by omega) = (s.evs.map C.evB)[i]'(by rw [List.length_map]; exact hi) := by congr 1; exact h.recs
    rw [this, List.getElem_map]
  rw [e]
  exact C.lawEv.all_back (h.wf _ (List.getElem_mem hi))
end Go.Proofs.Ytfndiocohaploaa.S
namespace Go.Proofs.Ytfndiocohaploaa.S
open Go Go.RowKit Go.Lib KM
def NamesAt (W : World) (a : Option Addr) (n : Nat) : Prop := n ≤ maxLen ∧ ∀ i, i < n → ∃ g off s, a = some ⟨g, off, none⟩ ∧ g < W.heap.size ∧ W.cell? ⟨g, off + i, none⟩ = some (.string s) ∧ s.size ≤ maxLen
def clsO (s : ByteArray) : O.Obj := { O.O0 with kind := 1, name := s }
theorem zero_u64 : C.U64 0 := ⟨by decide, by decide⟩
theorem cls_fits {s : ByteArray} (h : s.size ≤ maxLen) : C.Fits (clsO s) :=
  ⟨h, Nat.zero_le _, Nat.zero_le _, Nat.zero_le _, Nat.zero_le _, Nat.zero_le _, Nat.zero_le _, zero_u64, zero_u64, zero_u64, zero_u64⟩
theorem flat_at (l : List C.Ev) : ∀ (i : Nat) (h : i < l.length) (j : Nat), j < 22 → (flatE l)[i * 22 + j]? = (C.cellsE l[i]).toList[j]? := by
  induction l with
  | nil => intro i h; exact absurd h (by simp)
  | cons e l ih =>
    intro i h j hj
    have e1 : flatE (e :: l) = (C.cellsE e).toList ++ flatE l := rfl
    have hl : (C.cellsE e).toList.length = 22 := rfl
    rw [e1]
    cases i with
    | zero =>
      rw [List.getElem?_append_left (by omega)]
      simp
    | succ i =>
      rw [List.getElem?_append_right (by omega), hl, show (i + 1) * 22 + j - 22 = i * 22 + j by omega]
      exact ih i (by simpa using h) j hj
def EvIn (W : World) (g k : Nat) (e : C.Ev) : Prop := W.rangeAt g k (C.cellsE e).toList ∧ g < W.heap.size
theorem EvIn.after {W W' : World} {g k : Nat} {e : C.Ev} (h : EvIn W g k e) (hb : Below W.heap.size W W') : EvIn W' g k e :=
  ⟨fun j u hu => (hb.cell (p := ⟨g, k + j, none⟩) h.2).trans (h.1 j u hu), Nat.lt_of_lt_of_le h.2 hb.size⟩
theorem EvsAt.at {W : World} {B : Nat} {v : Value} {l : List C.Ev} (h : EvsAt W B v l) {i : Nat} (hi : i < l.length) : ∃ g c, v = .slice (some ⟨g, 0, none⟩) l.length c ∧ EvIn W g (i * 22) l[i] := by
  rcases h.2 with ⟨rfl, h0⟩ | ⟨g, cap, cur, rfl, -⟩
  · omega
  · refine ⟨g, cap, rfl, fun j u hu => ?_, h.lt rfl⟩
    have hj : j < 22 := (List.getElem?_eq_some_iff.1 hu).1
    refine h.cells (i * 22 + j) u ?_
    rw [flat_at l i hi j hj]
    exact hu
theorem load_evAt {W : World} {g k : Nat} {e : C.Ev} (h : EvIn W g k e) {oi : Oper} {a : Act} {x : Operand} (ho : oi.op = .load 45 x) (hx : a.eval x = .pointer (some ⟨g, k, none⟩)) :
    (execOp a.eval oi).run Try.prog W = .ok (.value (C.encE e)) W := by
  have h1 := run_loadVar_mid W g k 45 (C.cellsE e).toList _ h.1 C.undEv rfl C.sizeEv
  unfold execOp
  simp only [ho, hx, Instr.loadAt, Instr.sureAddr, Sem.run_bind, Sem.run_pure, Result.andThen_ok, h1]
  rfl
def RdD (e : C.Ev) (w : World) (x : Ending) (w' : World) : Prop := x = .returned (.tuple #[C.encE e, .int .i64 0]) ∧ Below w.heap.size w w'
theorem read_any (v : Value) (l : L.Bytes) (e : C.Ev) (w : World) (h : L.BytesIn w v l) (he : C.allR C.rdEv l = some e) : Calls Try.prog 12 #[v] w (RdD e w) := by
  have hc : C.BytesIn w v l := h
  refine (C.readChangeAll_any v l w hc).mono fun x w' hx => ?_
  obtain ⟨h1, ⟨y, h3, h4⟩ | ⟨h3, -⟩⟩ := hx
  · rw [he] at h3
    obtain rfl := Option.some.inj h3
    exact ⟨h4, h1⟩
  · rw [he] at h3; cases h3
def LogI (w W : World) (q bm ql : Nat) : Prop := ∃ sl og s, StAt w.heap.size W q bm sl ql og s ∧ Logged s ∧ Below w.heap.size w W
set_option maxRecDepth 100000 in
set_option maxHeartbeats 2000000 in
theorem toplog_any (a : Option Addr) (n c : Nat) (w : World) (hN : NamesAt w a n) : Calls Try.prog 3 #[.slice a n c] w fun e w' => e = .returned (.bool true) ∧ Below w.heap.size w w' := by
  have hnm : n ≤ 9223372036854775807 := hN.1
  have HN := Lib.hid hN
  have HNW : Hid (Calls Try.prog 5 #[.int .i64 400] w (NewS ⟨[], [], ⟨400, 0, []⟩⟩ w)) := new_s 400 w (by omega) (by omega)
  clear hN
  go_enter Try.func3, Try.ntmps3
  go_wp2_with (go_at_call 5; refine HNW.out.mono ?_)
  rintro e W1 hw
  obtain ⟨q, bm, sl, ql, og, rfl, hs, hb⟩ := hw
  have HI : Hid (LogI w W1 q bm ql) := ⟨sl, og, _, hs, logged_new 400, hb⟩
  clear hs hb HNW
  go_wp2
  go_loopw [4] (fun iv wr => ∃ i : Nat, i ≤ n ∧ i ≤ 20 ∧ iv = .int .i64 (i : Int) ∧ LogI w wr q bm ql) (fun iv _ => 20 - (RowKit.intOf iv).toNat)
  case atStart => exact ⟨0, by omega, by omega, rfl, HI.out⟩
  case round =>
    clear HI
    obtain ⟨i, him, hi20, rfl, sl2, og2, s2, hs, hg, hb⟩ := hrel
    have HS := Lib.hid hs
    have HG := Lib.hid hg
    have HB := Lib.hid hb
    clear hs hg hb
    by_cases hp : i < n ∧ i < 20
    · obtain ⟨hp1, hp2⟩ := hp
      have hp1' : (i : Int) < (n : Int) := by omega
      have hp2' : (i : Int) < 20 := by omega
      obtain ⟨g, off, nm, rfl, hgl, hcl, hsz⟩ := HN.out.2 i hp1
      have hcell : wr.cell? ⟨g, off + i, none⟩ = some (.string nm) := (HB.out.cell (p := ⟨g, off + i, none⟩) hgl).trans hcl
      have HPU := Lib.hid (putA_any HS.out HB.out.size (clsO nm) (cls_fits hsz))
      have HLG := Lib.hid (HG.out.put HS.out.good HS.out.few (cls_fits hsz))
      obtain ⟨r, hr⟩ : ∃ r, putS s2 (clsO nm) = r := ⟨_, rfl⟩
      rw [hr] at HPU HLG
      clear hcl hr
      have htm : Int.tmod (i : Int) 3 = ((i % 3 : Nat) : Int) := by rw [Int.tmod_eq_emod_of_nonneg (by omega)]; omega
      go_wp2_with (first | ((with_reducible refine O.wpList_build_to rfl 30 #[(0, .const (.int .u8 1)), (1, .tmp 25)] rfl (O.cellsO (clsO nm)) ?_ ?_); (focus kernel_rfl)) | (go_at_call 6; refine HPU.out.mono ?_))
      rintro e W5 hw
      obtain ⟨rfl, sl5, og5, hs5, ht5⟩ := hw
      have HS5 := Lib.hid hs5
      have HB5 : Hid (Below w.heap.size w W5) := HB.out.trans ht5.below
      clear hs5 ht5 HPU hcell
      by_cases h3 : i % 3 = 2
      · have h3' : ((i % 3 : Nat) : Int) = 2 := by omega
        have htd : Int.tdiv (i : Int) 2 = ((i / 2 : Nat) : Int) := by rw [Int.tdiv_eq_ediv_of_nonneg (by omega)]; omega
        obtain ⟨g2, off2, nm2, e2, hgl2, hcl2, hsz2⟩ := HN.out.2 (i / 2) (by omega)
        cases e2
        have hcell2 : W5.cell? ⟨g, off + i / 2, none⟩ = some (.string nm2) := (HB5.out.cell (p := ⟨g, off + i / 2, none⟩) hgl2).trans hcl2
        have HDE : Hid (Calls Try.prog 7 #[.pointer (some ⟨q, 0, none⟩), .agg #[.int .u8 1, .string nm2]] W5 (WrD w.heap.size q bm sl5 ql og5 (delS r.2.2 (1, nm2)) W5)) := del_any HS5.out HB5.out.size (1, nm2)
        have HLD := Lib.hid (HLG.out.del HS5.out.good HS5.out.few (1, nm2))
        obtain ⟨r2, hr2⟩ : ∃ x, delS r.2.2 (1, nm2) = x := ⟨_, rfl⟩
        rw [hr2] at HDE HLD
        have hj1 : ((i / 2 : Nat) : Int) < (n : Int) := by omega
        clear hcl2 hr2
        go_wp2_with (go_at_call 7; refine HDE.out.mono ?_)
        rintro e W6 hw
        obtain ⟨rfl, sl6, og6, hs6, ht6⟩ := hw
        have HN6 : Hid (LogI w W6 q bm ql) := ⟨sl6, og6, r2.2, hs6, HLD.out, HB5.out.trans ht6.below⟩
        clear hs6 ht6 HDE HLD hcell2
        go_wp2
        exact ⟨⟨i + 1, by omega, by omega, by go_num, HN6.out⟩, by simp [RowKit.intOf]; omega⟩
      · have h3' : ¬ ((i % 3 : Nat) : Int) = 2 := by omega
        have h3b : (((i % 3 : Nat) : Int) == 2) = false := by simpa using h3'
        have HN5 : Hid (LogI w W5 q bm ql) := ⟨sl5, og5, r.2.2, HS5.out, HLG.out, HB5.out⟩
        go_wp2
        exact ⟨⟨i + 1, by omega, by omega, by go_num, HN5.out⟩, by simp [RowKit.intOf]; omega⟩
    · have hx : ¬ (i : Int) < (n : Int) ∨ ((i : Int) < (n : Int) ∧ ¬ (i : Int) < 20) := by omega
      clear hp
      have HLG2 : Hid (Calls Try.prog 8 #[.pointer (some ⟨q, 0, none⟩)] wr (ForkD s2.log wr)) := log_any HS.out
      obtain ⟨A, hA⟩ : ∃ A, L.recs s2.log.b = A := ⟨_, rfl⟩
      obtain ⟨m, hm⟩ : ∃ m, s2.evs.length = m := ⟨_, rfl⟩
      have hAm : A.length = m := by rw [← hA, HG.out.recs, List.length_map, hm]
      have hrd : ∀ k (hk : k < m), ∃ (h1 : k < A.length) (h2 : k < s2.evs.length), C.allR C.rdEv A[k] = some s2.evs[k] := fun k hk => by
        obtain ⟨h1, h2⟩ := HG.out.read (i := k) (by omega)
        subst hA
        exact ⟨h1, by omega, h2⟩
      have HRD := Lib.hid hrd
      have HAM := Lib.hid hAm
      have HM := Lib.hid hm
      have HA := Lib.hid hA
      have hm4 : m ≤ 4096 := by rw [← hm]; exact HS.out.few
      clear hA hm hAm hrd
      rcases hx with hx | ⟨hx, hx2⟩ <;>
      (
        go_wp2_with (go_at_call 8; refine HLG2.out.mono ?_)
        rintro e W6 hw
        obtain ⟨og6, rfl, hl6, hb6⟩ := hw
        have HS6 := Lib.hid (HS.out.after hb6)
        have HB6 : Hid (Below w.heap.size w W6) := HB.out.trans (hb6.mono HB.out.size)
        have hrc := L.recsD_any _ _ og6 s2.log W6 hl6
        rw [HA.out] at hrc
        have HRC := Lib.hid hrc
        clear hl6 hb6 hrc HLG2
        go_wp2_with (go_at_call 9; refine HRC.out.mono ?_)
        rintro e W7 hw
        obtain ⟨v7, rfl, hr7, hb7⟩ := hw
        obtain ⟨a7, c7, rfl⟩ := hr7.shape
        rw [HAM.out] at hr7 ⊢
        have HS7 := Lib.hid (HS6.out.after hb7)
        have HB7 : Hid (Below w.heap.size w W7) := HB6.out.trans (hb7.mono HB6.out.size)
        have HR7 : Hid (L.RowsAt W7 a7 c7 A) := hr7.rows.1
        have HSI := Lib.hid (since0_any HS7.out)
        clear hr7 hb7 HRC HS6 HB6
        go_wp2_with (go_at_call 10; refine HSI.out.mono ?_)
        rintro e W8 hw
        obtain ⟨v8, rfl, he8, hb8⟩ := hw
        obtain ⟨a8, c8, rfl⟩ := he8.shape
        rw [HM.out] at he8 ⊢
        have HE8 : Hid (EvsAt W8 W7.heap.size (.slice a8 m c8) s2.evs) := he8
        have HR8 := Lib.hid (HR7.out.after hb8)
        have HB8 : Hid (Below w.heap.size w W8) := HB7.out.trans (hb8.mono HB7.out.size)
        have hve := version_any (HS7.out.after hb8)
        rw [HM.out] at hve
        have HVE := Lib.hid hve
        clear he8 hb8 hve HSI HS7 HB7 HR7
        have hu : IntKind.u64.wrap (m : Int) = (m : Int) := by simp only [IntKind.wrap, IntKind.bits, IntKind.signed]; go_num
        go_wp2_with (go_at_call 11; refine HVE.out.mono ?_; rintro e W8 ⟨rfl, rfl⟩)
        go_loopw [7, 8, 9] (fun iv xe xf w' => ∃ k : Nat, k ≤ m ∧ iv = .int .i64 (k : Int) ∧ Below W8.heap.size W8 w') (fun iv _ _ _ => m - (RowKit.intOf iv).toNat)
        case atStart => exact ⟨0, by omega, rfl, Below.refl _ _⟩
        case round =>
          obtain ⟨k, hk, rfl, hb9⟩ := hrel
          have HB9 := Lib.hid hb9
          clear hb9
          by_cases hp : k < m
          · have hp' : (k : Int) < (m : Int) := by omega
            obtain ⟨hk1, hk2, hrd⟩ := HRD.out k hp
            obtain ⟨g2, o2, x, e2, hel⟩ := (HR8.out.after HB9.out).at hk1
            obtain ⟨g3, c3, e3, hin⟩ := HE8.out.at hk2
            rw [HM.out] at e3
            cases e2
            cases e3
            obtain ⟨px, kx, cx, rfl⟩ := hel.2.2.shape
            have hcell := hel.2.1
            obtain ⟨ev, hev⟩ : ∃ e, s2.evs[k] = e := ⟨_, rfl⟩
            rw [hev] at hrd hin
            have HIN := Lib.hid (hin.after HB9.out)
            have HRE := Lib.hid (read_any _ _ ev wr hel.2.2 hrd)
            clear hin hrd hel hev
            go_wp2_with (go_at_call 12; refine HRE.out.mono ?_)
            rintro e W10 hw
            obtain ⟨rfl, hb10⟩ := hw
            have HIN2 := Lib.hid (HIN.out.after hb10)
            have HB10 : Hid (Below W8.heap.size W8 W10) := HB9.out.trans (hb10.mono HB9.out.size)
            clear hb10 hcell HRE HIN HB9
            go_upto_region 15 with ((with_reducible refine wpList_store_rowTo rfl 45 _ _ rfl rfl W10.heap.size (C.cellsE ev) ?_ ?_ 45 (C.cellsE C.Ev0) ?_ ?_ ?_ ?_ ?_); rfl; rfl; exact C.BoxE.new W10 C.Ev0; exact C.sizeEv; exact rfl; exact C.one_cellsE _)
            have hal : Below W10.heap.size W10 (W10.alloc (C.objE C.Ev0)) := (Below.refl _ _).alloc (Nat.le_refl _) _
            have hrow : Below W10.heap.size W10 ((W10.alloc (C.objE C.Ev0)).setRow W10.heap.size (C.cellsE ev)) := below_setRow hal (Nat.le_refl _) _
            obtain ⟨p, hpe⟩ : ∃ p, W10.heap.size = p := ⟨_, rfl⟩
            refine O.wp_gen (fun V => C.BoxE V p ev ∧ EvIn V g3 (k * 22) ev ∧ Below W8.heap.size W8 V) ⟨by rw [← hpe]; exact (C.BoxE.new W10 C.Ev0).setRow ev, HIN2.out.after hrow, HB10.out.trans (hrow.mono HB10.out.size)⟩ ?_
            rw [hpe]
            clear hal hrow hpe HIN2 HB10
            rintro W11 ⟨hbe, hin, hb11⟩
            have HE := Lib.hid hbe
            have HR := Lib.hid hin
            have HB := Lib.hid hb11
            clear hbe hin hb11
            refine wp_region_held_drew (S := fun V => C.BoxE V p ev ∧ EvIn V g3 (k * 22) ev ∧ Below W8.heap.size W8 V) (by kernel_rfl) ⟨HE.out, HR.out, HB.out.drew⟩ (fun _ => ?_)
            refine HeldBy.gen (fun V => C.BoxE V p ev ∧ EvIn V g3 (k * 22) ev ∧ Below W8.heap.size W8 V) ⟨HE.out, HR.out, HB.out.drew⟩ ?_
            clear HE HR HB
            rintro U0 HS
            refine HeldBy.take (i := 0) rfl (by kernel_rfl) (by kernel_rfl) (by kernel_rfl) (fun _ _ _ h => h) (by rfl) (fun _ _ => by first | (go_simp; rfl) | (go_simp; done)) (by go_simp; rfl) HS ?_
            refine HeldBy.take (i := 1) rfl (by kernel_rfl) (by kernel_rfl) (by kernel_rfl) (fun _ _ _ h => h) (by rfl) (fun _ _ => by first | (go_simp; rfl) | (go_simp; done)) (by go_simp; rfl) HS ?_
            refine HeldBy.take (i := 2) rfl (by kernel_rfl) (by kernel_rfl) (by kernel_rfl) (fun _ _ _ h => h) (by rfl) (fun _ _ => by first | (go_simp; rfl) | (go_simp; done)) (by go_simp; rfl) HS ?_
            refine HeldBy.take (i := 3) (v := C.encE ev) rfl (by kernel_rfl) (by kernel_rfl) (by kernel_rfl) (fun _ _ _ h => h) (by rfl) (fun V hV => C.load_ev hV.1 rfl rfl) (by go_simp; rfl) HS ?_
            refine HeldBy.take (i := 4) rfl (by kernel_rfl) (by kernel_rfl) (by kernel_rfl) (fun _ _ _ h => h) (by rfl) (fun _ _ => by first | (go_simp; rfl) | (go_simp; done)) (by go_simp; rfl) HS ?_
            refine HeldBy.take (i := 5) rfl (by kernel_rfl) (by kernel_rfl) (by kernel_rfl) (fun _ _ _ h => h) (by rfl) (fun _ _ => by first | (go_simp; rfl) | (go_simp; done)) (by go_simp; rfl) HS ?_
            refine HeldBy.take (i := 6) (v := .pointer (some ⟨g3, k * 22, none⟩)) rfl (by kernel_rfl) (by kernel_rfl) (by kernel_rfl) (fun _ _ _ h => h) (by rfl) (fun _ _ => by first | (go_simp; done) | (go_simp; intro h; omega) | (go_simp; rfl)) (by go_simp; rfl) HS ?_
            refine HeldBy.take (i := 7) (v := C.encE ev) rfl (by kernel_rfl) (by kernel_rfl) (by kernel_rfl) (fun _ _ _ h => h) (by rfl) (fun V hV => load_evAt hV.2.1 rfl rfl) (by go_simp; rfl) HS ?_
            refine HeldBy.take (i := 8) (v := .bool false) rfl (by kernel_rfl) (by kernel_rfl) (by kernel_rfl) (fun _ _ _ h => h) (by rfl) (fun _ _ => C.neq_evs rfl rfl rfl (by simp)) (by go_simp; rfl) HS ?_
            refine HeldBy.take (i := 9) rfl (by kernel_rfl) (by kernel_rfl) (by kernel_rfl) (fun _ _ _ h => h) (by rfl) (fun _ _ => by first | (go_simp; rfl) | (go_simp; done)) (by go_simp; rfl) HS ?_
            refine wpAnyH_done (by kernel_rfl) ?_ _
            have HF := Lib.hid HS.2.2
            clear HS
            go_wp2
            exact ⟨⟨k + 1, by omega, by go_num, HF.out⟩, by simp [RowKit.intOf]; omega⟩
          · have hp' : ¬ (k : Int) < (m : Int) := by omega
            go_wp2
            go_ret
            exact ⟨rfl, HB8.out.trans (HB9.out.mono HB8.out.size)⟩)
end Go.Proofs.Ytfndiocohaploaa.S
namespace Go.Proofs.Ytfndiocohaploaa.S
open Go.ChangeShapes Go.WideShapes Go.RowKit Go.Deep
theorem addr_none {W : World} {b off i : Nat} {sp : Option Nat} {v : Value} (h : W.cell? ((⟨b, off, sp⟩ : Addr).add i) = some v) (h0 : i = 0) : sp = none := by
  subst h0
  have h1 : W.cell? ⟨b, off, sp⟩ = some v := h
  unfold World.cell? at h1
  cases sp with
  | none => rfl
  | some s =>
    exfalso
    revert h1
    cases W.heap[b]? with
    | none => intro h1; cases h1
    | some o => cases o <;> intro h1 <;> cases h1
theorem cell_lt {W : World} {b off : Nat} {v : Value} (h : W.cell? ⟨b, off, none⟩ = some v) : b < W.heap.size := by
  unfold World.cell? at h
  rcases Nat.lt_or_ge b W.heap.size with hh | hh
  · exact hh
  · rw [Array.getElem?_eq_none hh] at h; cases h
section
variable {H : Type} {enc : TypeId × Value → H} {w : World} {base : Nat} {spare : Nat → Bool} {held : Bool}
set_option maxRecDepth 100000 in
theorem open_names {r : Reach} {b0 : Nat} {v : Value} {d : DataW H} {p : List MemPlace} (hv : Value.okWide Try.prog w r b0 22 v) (h : DataW.Trod enc Try.prog w base spare held 22 v d p) : ∃ a n c, v = .slice a n c ∧ NamesAt w a n := by
  obtain ⟨a0, len, cap, rfl⟩ := okWide_slice Try.underlying22 hv
  obtain ⟨fuel, hf⟩ := h
  rcases open_slice1 Try.underlying22 (by kernel_rfl) hf with ⟨hcs, -⟩ | ⟨a, len', cap', m, n, V, D, Pl, hcs, -, hl, hm, hmm, -, hx⟩
  · have e : (Value.slice a0 len cap) = .slice none 0 0 := by simpa [Value.cells] using hcs
    cases e
    exact ⟨none, 0, 0, rfl, Nat.zero_le _, fun i hi => by omega⟩
  · have e : (Value.slice a0 len cap) = .slice (some a) len' cap' := by simpa [Value.cells] using hcs
    cases e
    refine ⟨some a, len, cap, rfl, Nat.le_trans hl hm, fun i hi => ?_⟩
    have hlm : len ≤ m := by rw [hmm]; split <;> omega
    obtain ⟨b, off, sp⟩ := a
    obtain rfl : sp = none := addr_none (hx 0 (by omega)).1 rfl
    obtain ⟨h1, h2⟩ := hx i (by omega)
    rw [L.add_lit'] at h1
    obtain ⟨x, hc, -, hs⟩ := DataW.trod_string Try.underlying9 h2
    have e := List.head_eq_of_cons_eq hc
    rw [e] at h1
    exact ⟨b, off, x, rfl, cell_lt h1, h1, hs⟩
end
end Go.Proofs.Ytfndiocohaploaa.S
