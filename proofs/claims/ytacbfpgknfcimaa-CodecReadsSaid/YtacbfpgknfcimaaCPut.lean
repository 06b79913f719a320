/- Bytes that a slice holds and owns, and what an append leaves of them. codec.appendNumbers: what its operations reckon. codec.appendTexts: texts behind bytes. -/
import Derived.Test.YtacbfpgknfcimaaCBase
import Derived.Test.YtacbfpgknfcimaaOVars
import Derived.Laws.AppendOwn
import Derived.OwnWalk
import Derived.KernelRfl
import Derived.Outline
import Derived.WalkArith
import Derived.Maps.AppendAt
import Derived.Lib.AppendStr
namespace Go.Proofs.Ytacbfpgknfcimaa.C
open Go.RowKit T O

/-- A byte's cell. -/
def bv (b : UInt8) : Value := .int .u8 b.toNat
/-- v holds the bytes l, in a row of its own among the blocks from B on. -/
def Held (W : World) (B : Nat) (v : Value) (l : Bytes) : Prop := W.ownsRow B 5 1 v l.length (l.map bv)
theorem Held.nil (W : World) (B : Nat) : Held W B (.slice none 0 0) [] := World.ownsRow_nil W B _ _
/-- What grew from v to v': nothing else has turned; v' lies where v lay, or is new. -/
structure Grew (W : World) (v : Value) (W' : World) (v' : Value) : Prop where
  by_ : W.grownBy W' v.ownBlock
  at_ : v'.ownBlock = v.ownBlock ∨ ∃ k, v'.ownBlock = some k ∧ W.heap.size ≤ k
theorem Grew.refl (W : World) (v : Value) : Grew W v W v := ⟨⟨rfl, rfl, rfl, Nat.le_refl _, fun _ _ _ => rfl⟩, .inl rfl⟩
theorem Grew.trans {W W1 W2 : World} {v v1 v2 : Value} (h : Grew W v W1 v1) (k : Grew W1 v1 W2 v2) : Grew W v W2 v2 where
  by_ := by
    refine ⟨k.by_.os.trans h.by_.os, k.by_.tape.trans h.by_.tape, k.by_.output.trans h.by_.output, Nat.le_trans h.by_.size k.by_.size, fun j hj hne => ?_⟩
    have hs := h.by_.size
    refine (k.by_.block j (by omega) ?_).trans (h.by_.block j hj hne)
    rcases h.at_ with e | ⟨m, e, hm⟩
    · rw [e]; exact hne
    · rw [e]; intro hx; cases hx; omega
  at_ := by
    have hs := h.by_.size
    rcases k.at_ with e | ⟨m, e, hm⟩
    · rw [e]; exact h.at_
    · exact .inr ⟨m, e, by omega⟩
/-- What lies below B stays. -/
theorem Grew.below {W W' : World} {v v' : Value} {B : Nat} {l : Bytes} (h : Grew W v W' v') (hH : Held W B v l) (hB : B ≤ W.heap.size) : Below B W W' :=
  ⟨h.by_.os, h.by_.tape, h.by_.output, h.by_.size, fun k hk => h.by_.block k (by omega) (fun e => by have := World.ownsRow.lt hH k e.symm; omega)⟩
theorem Held.alloc {W : World} {B : Nat} {v : Value} {l : Bytes} (h : Held W B v l) (x : Go.Obj) : Held (W.alloc x) B v l := World.ownsRow.alloc h x
/-- Whatever turned elsewhere, the bytes stay. -/
theorem Held.kept {W W' : World} {B : Nat} {v u : Value} {l : Bytes} (h : Held W B v l) {u' : Value} (hg : Grew W u W' u') (hne : v.ownBlock = none ∨ v.ownBlock ≠ u.ownBlock) : Held W' B v l := World.ownsRow.kept h hg.by_ hne
theorem Held.rebase {W : World} {B : Nat} {v : Value} {l : Bytes} (h : Held W B v l) {C : Nat} (hC : ∀ k, v.ownBlock = some k → C ≤ k) : Held W C v l := by
  refine ⟨h.1, ?_⟩
  rcases h.2 with hn | ⟨g, cap, cur, hv, -, rest⟩
  · exact .inl hn
  · exact .inr ⟨g, cap, cur, hv, hC g (by rw [hv]; rfl), rest⟩

theorem infoByte : (Try.prog.info? 5).map (fun i => (i.zero, i.size, i.bytes)) = some (some (.int .u8 0), 1, 1) := by kernel_rfl

/-- An append of bytes that lie elsewhere. -/
theorem run_append_held (W : World) (ty : TypeId) (B : Nat) (v : Value) (l : Bytes) (hH : Held W B v l) (ad : Addr) (c : Nat) (m : Bytes) (hm : ∀ j u, (m.map bv)[j]? = some u → W.cell? (ad.add j) = some u)
    (hlen : l.length + m.length ≤ 1000000000000) (hB : B ≤ W.heap.size) :
    ∃ v' W', (Builtin.append_ #[30, 30] ty #[v, .slice (some ad) m.length c]).run Try.prog W = .ok v' W' ∧ Held W' B v' (l ++ m) ∧ Grew W v W' v' := by
  obtain ⟨i, hi, hz, hs, hb⟩ := info_parts infoByte
  have hl : (m.map bv).length = m.length * 1 := by simp
  have h1 : ∀ u ∈ m.map bv, u.oneCell' = true := by
    intro u hu
    obtain ⟨b, -, rfl⟩ := List.mem_map.1 hu
    rfl
  have h63 : l.length + m.length ≤ maxLen := by unfold maxLen; omega
  obtain ⟨v', W', hr, hown, hgrow, hnil⟩ := run_append_own (P := Try.prog) W B 30 ty 5 i (.int .u8 0) 1 1 Try.underlying30 hi hz hs hb rfl (by decide) v l.length (l.map bv) hH ad m.length c (m.map bv) hl hm h1 h63 (by omega) hB
  refine ⟨v', W', hr, by unfold Held; rw [List.length_append, List.map_append]; exact hown, hgrow, ?_⟩
  rcases hH.2 with ⟨rfl, hn⟩ | ⟨g, cap, cur, rfl, hbg, hg, hnc, hcm, hcs, htake⟩
  · by_cases h0 : m.length = 0
    · rw [hnil.2 ⟨rfl, h0⟩]
      exact .inl rfl
    · have hr2 := run_append_nil (P := Try.prog) W 30 ty 5 i (.int .u8 0) Try.underlying30 hi hz ad m.length c (m.map bv) (by rw [hs]; exact hl) hm (by omega) (by omega) (by rw [hb]; omega)
      rw [hr2] at hr
      cases hr
      exact .inr ⟨_, rfl, Nat.le_refl _⟩
  · by_cases hroom : l.length + m.length ≤ cap
    · have hr2 := run_append_room (P := Try.prog) W 30 ty 5 i Try.underlying30 hi g l.length cap cur hg ad m.length c (m.map bv) (by rw [hs]; exact hl) hm h1 hroom (by rw [hs, hl, hcs]; omega)
      rw [hr2] at hr
      cases hr
      exact .inl rfl
    · have hr2 := run_append_grow (P := Try.prog) W 30 ty 5 i (.int .u8 0) Try.underlying30 hi hz ⟨g, 0, none⟩ l.length cap (l.map bv) (by rw [hs]; exact hH.1) (World.ownsRow.cells (g := g) hH rfl) ad m.length c (m.map bv) (by rw [hs]; exact hl) hm (by omega) (by omega) (growslice_fits (by omega) (by rw [hb]; omega))
      rw [hr2] at hr
      cases hr
      exact .inr ⟨_, rfl, Nat.le_refl _⟩
end Go.Proofs.Ytacbfpgknfcimaa.C
namespace Go.Proofs.Ytacbfpgknfcimaa.C
open Go.RowKit T O
open Go.Lib hiding intOf

theorem or_byte : ∀ x : Nat, x < 256 → bits .or .u8 (x : Int) 128 = ((x % 128 + 128 : Nat) : Int) := by decide +kernel
theorem more_byte (m : Int) (h : 0 ≤ m) : bits .or .u8 (m % 256) 128 = ((UInt8.ofNat (m.toNat % 128 + 128)).toNat : Int) := by
  rw [show m % 256 = ((m.toNat % 256 : Nat) : Int) by omega, or_byte _ (by omega), toNat_ofNat (by omega)]
  omega
theorem last_byte (m : Int) (h : 0 ≤ m) (h2 : m < 128) : m % 256 = ((UInt8.ofNat m.toNat).toNat : Int) := by
  rw [toNat_ofNat (by omega)]
  omega
/-- The append of one byte that lies in a block of its own. -/
theorem wpList_append_one {ops : Array Oper} {rest : List Oper} {o : Oper} {a : Act} {W : World} {Q : Exit → Act → World → Prop} (hgd : o.guard = none) (s x : Operand)
    (ho : o.op = .call { callee := .builtin .append, args := #[s, x], argTypes := #[30, 30] })
    (B : Nat) (v : Value) (l : Bytes) (hs : a.eval s = v) (hH : Held W B v l) (g c : Nat) (b : UInt8) (hx : a.eval x = .slice (some ⟨g, 0, none⟩) 1 c) (hc : W.cell? ⟨g, 0, none⟩ = some (bv b))
    (hlen : l.length + 1 ≤ 1000000000000) (hB : B ≤ W.heap.size) (h : ∀ v' W', Held W' B v' (l ++ [b]) → Grew W v W' v' → wpList Try.prog ops Q rest (a.put o.dst v') W') : wpList Try.prog ops Q (o :: rest) a W := by
  obtain ⟨v', W', hr, hH', hG⟩ := run_append_held W o.type B v l hH ⟨g, 0, none⟩ c [b] (fun j u hj => by
    match j, hj with
    | 0, hj => obtain rfl : bv b = u := by simpa using hj
               exact hc) hlen hB
  refine wpList_plain hgd fun _ hK => ?_
  unfold Oper.wp execOp
  simp only [ho, resolve, invoke, builtin, Sem.run_bind, Sem.run_pure, Result.andThen_ok, List.map_toArray, List.map_cons, List.map_nil, hs, hx]
  rw [show (1 : Nat) = [b].length from rfl, hr]
  exact hK _ _ (h v' W' hH' hG)

theorem flat_snoc {ns : List Int} {k : Nat} (h : k < ns.length) : (ns.take (k + 1)).flatMap intB = (ns.take k).flatMap intB ++ intB ns[k] := by
  rw [List.take_add_one, List.getElem?_eq_getElem h, List.flatMap_append]
  simp
theorem intB_more {m : Int} (h1 : 128 ≤ m) : intB m = UInt8.ofNat (m.toNat % 128 + 128) :: intB (m / 128) := by
  unfold intB
  rw [numB_big (by omega), show (m / 128).toNat = m.toNat / 128 by omega]
theorem intB_last {m : Int} (h1 : m < 128) : intB m = [UInt8.ofNat m.toNat] := by
  unfold intB
  rw [numB_small (by omega)]

theorem flat_len : ∀ (ns : List Int), (∀ n ∈ ns, 0 ≤ n ∧ n < 18446744073709551616) → (ns.flatMap intB).length ≤ 10 * ns.length
  | [], _ => by simp
  | n :: ns, h => by
    have h1 := flat_len ns (fun m hm => h m (List.mem_cons_of_mem _ hm))
    have h2 := intB_ten (h n (List.mem_cons_self))
    rw [List.flatMap_cons, List.length_append, List.length_cons]
    omega
/-- What stands where a number is half written. -/
structure Half (W : World) (B : Nat) (v0 : Value) (W1 : World) (v1 : Value) (pre : Bytes) (n m : Int) : Prop where
  lo : 0 ≤ m
  hi : m < 18446744073709551616
  held : ∃ done, Held W1 B v1 (pre ++ done) ∧ done ++ intB m = intB n
  grew : Grew W v0 W1 v1
theorem Half.more {W : World} {B : Nat} {v0 : Value} {W1 W2 : World} {v1 v2 : Value} {pre done : Bytes} {n m : Int} (h : Half W B v0 W1 v1 pre n m) (hm : 128 ≤ m) (hd : done ++ intB m = intB n)
    (hH : Held W2 B v2 ((pre ++ done) ++ [UInt8.ofNat (m.toNat % 128 + 128)])) (hG : Grew W1 v1 W2 v2) : Half W B v0 W2 v2 pre n (m / 128) :=
  ⟨by have := h.lo; omega, by have := h.hi; omega, ⟨done ++ [UInt8.ofNat (m.toNat % 128 + 128)], by rw [← List.append_assoc]; exact hH, by rw [← hd, intB_more hm, List.append_assoc]; rfl⟩, h.grew.trans hG⟩
theorem Half.last {W : World} {B : Nat} {v0 : Value} {W1 W2 : World} {v1 v2 : Value} {pre done : Bytes} {n m : Int} (h : Half W B v0 W1 v1 pre n m) (hm : m < 128) (hd : done ++ intB m = intB n)
    (hH : Held W2 B v2 ((pre ++ done) ++ [UInt8.ofNat m.toNat])) (hG : Grew W1 v1 W2 v2) : Held W2 B v2 (pre ++ intB n) ∧ Grew W v0 W2 v2 :=
  ⟨by rw [← hd, intB_last hm, ← List.append_assoc]; exact hH, h.grew.trans hG⟩
theorem Grew.alloc {W W1 : World} {v v1 : Value} {x : Go.Obj} (h : Grew (W.alloc x) v W1 v1) : Grew W v W1 v1 := by
  have hb : W.grownBy (W.alloc x) v.ownBlock := World.grownBy_alloc W x _
  exact Grew.trans (W1 := W.alloc x) (v1 := v) ⟨hb, .inl rfl⟩ h
theorem Half.start {W : World} {B : Nat} {v0 : Value} {W1 : World} {v1 : Value} {pre : Bytes} {n : Int} (h : 0 ≤ n ∧ n < 18446744073709551616) (hH : Held W1 B v1 pre) (hG : Grew W v0 W1 v1) : Half W B v0 W1 v1 pre n n :=
  ⟨h.1, h.2, ⟨[], by simpa using hH, rfl⟩, hG⟩

set_option maxRecDepth 100000 in
set_option maxHeartbeats 1000000 in
theorem appendNumbers_any (ns : List Int) (hns : ∀ n ∈ ns, 0 ≤ n ∧ n < 18446744073709551616) (g : Nat) (v : Value) (l : Bytes) (B : Nat) (W : World) (hH : Held W B v l) (hB : B ≤ W.heap.size) (hg : g < W.heap.size) (hgv : some g ≠ v.ownBlock)
    (hc : ∀ i (h : i < ns.length), W.cell? ⟨g, i, none⟩ = some (.int .u64 ns[i])) (hlen : l.length + 10 * ns.length ≤ 1000000000) :
    Calls Try.prog 56 #[v, .slice (some ⟨g, 0, none⟩) ns.length ns.length] W fun e W' => ∃ v', e = .returned v' ∧ Held W' B v' (l ++ ns.flatMap intB) ∧ Grew W v W' v' := by
  have HC := Lib.hid hc
  have HN := Lib.hid hns
  have HL := Lib.hid hlen
  have HH := Lib.hid hH
  have HV := Lib.hid hgv
  have hnl : ns.length ≤ 1000000000 := by omega
  clear hc hns hlen hH hgv
  go_enter Try.func56, Try.ntmps56
  go_wp2
  go_loopw [0, 9] (fun v1 i wr => ∃ k : Nat, k ≤ ns.length ∧ i = .int .i64 k ∧ Hid (Held wr B v1 (l ++ (ns.take k).flatMap intB)) ∧ Grew W v wr v1) (fun _ i _ => ns.length - (intOf i).toNat)
  case atStart => exact ⟨0, Nat.zero_le _, rfl, by show Held _ _ _ _; simpa using HH.out, Grew.refl _ _⟩
  case round =>
    obtain ⟨k, hk, rfl, hH1, hG1⟩ := hrel
    by_cases hp : k < ns.length
    · have hcell := (World.cell?_of_block (a := ⟨g, k, none⟩) (hG1.by_.block g hg HV.out)).trans (HC.out k hp)
      go_wp2
      have hn := HN.out ns[k] (List.getElem_mem hp)
      have HS := Half.start (W := W) (v0 := v) hn hH1.out hG1
      clear hcell hH1 hG1
      go_loopw [0, 6] (fun v2 n w2 => ∃ m : Int, n = .int .u64 m ∧ Half W B v w2 v2 (l ++ (ns.take k).flatMap intB) ns[k] m) (fun _ n _ => (intOf n).toNat)
      case atStart => exact ⟨_, rfl, HS⟩
      case round =>
        obtain ⟨m, rfl, HM⟩ := hrel
        obtain ⟨done, hHd, hd⟩ := HM.held
        have hpl := flat_len (ns.take k) (fun n hn => HN.out n (List.mem_of_mem_take hn))
        have hdl : done.length ≤ 10 := by
          have h1 := intB_ten hn
          rw [← hd, List.length_append] at h1
          omega
        have hB2 : B ≤ wr.heap.size := Nat.le_trans hB HM.grew.by_.size
        have HX : Hid (((l ++ (ns.take k).flatMap intB) ++ done).length + 1 ≤ 1000000000000) := by
          show _ ≤ _
          have := HL.out
          rw [List.length_append, List.length_append]
          rw [List.length_take] at hpl
          omega
        have HD := Lib.hid hd
        have HHd := Lib.hid hHd
        have HHM := Lib.hid HM
        clear hpl hdl hd hHd HM
        by_cases hm : 128 ≤ m
        · go_wp2_with (at_builtin; refine wpList_append_one rfl (.tmp 17) (.tmp 21) rfl B u0 ((l ++ (ns.take k).flatMap intB) ++ done) ?_ (HHd.out.alloc _) wr.heap.size 1 (UInt8.ofNat (m.toNat % 128 + 128)) ?_ ?_ ?_ ?_ ?_; rfl; rfl; (focus exact (cell_one_new _ _ _ 0 _ rfl).trans (by rw [more_byte m HHM.out.lo]; rfl)); exact HX.out; (focus (simp; omega)); intro v3 w3 hH3 hG3)
          have HM3 := HHM.out.more hm HD.out hH3 hG3.alloc
          clear hH3 hG3
          go_wp2
          go_roundw
          case rel => exact ⟨m / 128, by go_num, HM3⟩
          case measure => simp [intOf]; omega
        · have hm' : m < 128 := by omega
          have HM' := Lib.hid hm'
          go_wp2_with (at_builtin; refine wpList_append_one rfl (.tmp 23) (.tmp 26) rfl B u0 ((l ++ (ns.take k).flatMap intB) ++ done) ?_ (HHd.out.alloc _) wr.heap.size 1 (UInt8.ofNat m.toNat) ?_ ?_ ?_ ?_ ?_; rfl; rfl; (focus exact (cell_one_new _ _ _ 0 _ rfl).trans (by rw [last_byte m HHM.out.lo HM'.out]; rfl)); exact HX.out; (focus (simp; omega)); intro v3 w3 hH3 hG3)
          have HM3 := HHM.out.last HM'.out HD.out hH3 hG3.alloc
          clear hH3 hG3
          go_wp2
          go_roundw
          case rel => exact ⟨k + 1, by omega, by go_num, by show Held _ _ _ _; rw [flat_snoc hp, ← List.append_assoc]; exact HM3.1, HM3.2⟩
          case measure => simp [intOf]; omega
    · have hk' : k = ns.length := by omega
      have HE : Held wr B u0 (l ++ ns.flatMap intB) := by
        have := hH1.out
        rw [hk', List.take_length] at this
        exact this
      have HE' := Lib.hid HE
      clear hH1 HE
      go_wp2
      go_ret
      exact ⟨_, rfl, HE'.out, hG1⟩
end Go.Proofs.Ytacbfpgknfcimaa.C
namespace Go.Proofs.Ytacbfpgknfcimaa.C
open Go.RowKit T O
open Go.Lib hiding intOf

/-- An append of a text's bytes. -/
theorem run_append_str (W : World) (ty : TypeId) (B : Nat) (v : Value) (l : Bytes) (hH : Held W B v l) (s : ByteArray) (hlen : l.length + s.size ≤ 1000000000000) (hB : B ≤ W.heap.size) :
    ∃ v' W', (Builtin.append_ #[30, 9] ty #[v, .string s]).run Try.prog W = .ok v' W' ∧ Held W' B v' (l ++ s.data.toList) ∧ Grew W v W' v' := by
  obtain ⟨i, hi, hz, hs, hb⟩ := info_parts infoByte
  have hsl : s.data.toList.length = s.size := size_list s
  have h63 : l.length + s.size ≤ maxLen := by unfold maxLen; omega
  obtain ⟨v', W', hr, hown, hgrow, hnil⟩ := run_append_own_string (P := Try.prog) W B 30 9 ty 5 i Try.underlying30 Try.underlying9 hi hz hs hb v l.length (l.map bv) hH s h63 (by omega) hB
  refine ⟨v', W', hr, by unfold Held; rw [List.length_append, List.map_append, hsl]; exact hown, hgrow, ?_⟩
  rcases hH.2 with ⟨rfl, hn⟩ | ⟨g, cap, cur, rfl, hbg, hg, hnc, hcm, hcs, htake⟩
  · by_cases h0 : s.size = 0
    · rw [hnil.2 ⟨rfl, h0⟩]
      exact .inl rfl
    · have hr2 := run_append_nil_string (P := Try.prog) W 30 9 ty 5 i (.int .u8 0) Try.underlying30 Try.underlying9 hi hz s (by omega) (by omega) (by rw [hb]; omega)
      rw [hr2] at hr
      cases hr
      exact .inr ⟨_, rfl, Nat.le_refl _⟩
  · by_cases hroom : l.length + s.size ≤ cap
    · have hr2 := run_append_room_string (P := Try.prog) W 30 9 ty 5 i Try.underlying30 Try.underlying9 hi hs g l.length cap cur hg s hroom (by omega)
      rw [hr2] at hr
      cases hr
      exact .inl rfl
    · have hr2 := run_append_grow_string (P := Try.prog) W 30 9 ty 5 i (.int .u8 0) Try.underlying30 Try.underlying9 hi hz ⟨g, 0, none⟩ l.length cap (l.map bv) (by rw [hs]; exact hH.1) (World.ownsRow.cells (g := g) hH rfl) s (by omega) (by omega) (by rw [hb]; exact growslice_fits (by omega) (by omega))
      rw [hr2] at hr
      cases hr
      exact .inr ⟨_, rfl, Nat.le_refl _⟩
theorem wpList_append_str {ops : Array Oper} {rest : List Oper} {o : Oper} {a : Act} {W : World} {Q : Exit → Act → World → Prop} (hgd : o.guard = none) (s x : Operand)
    (ho : o.op = .call { callee := .builtin .append, args := #[s, x], argTypes := #[30, 9] })
    (B : Nat) (v : Value) (l : Bytes) (hs : a.eval s = v) (hH : Held W B v l) (b : ByteArray) (hx : a.eval x = .string b)
    (hlen : l.length + b.size ≤ 1000000000000) (hB : B ≤ W.heap.size) (h : ∀ v' W', Held W' B v' (l ++ b.data.toList) → Grew W v W' v' → wpList Try.prog ops Q rest (a.put o.dst v') W') : wpList Try.prog ops Q (o :: rest) a W := by
  obtain ⟨v', W', hr, hH', hG⟩ := run_append_str W o.type B v l hH b hlen hB
  refine wpList_plain hgd fun _ hK => ?_
  unfold Oper.wp execOp
  simp only [ho, resolve, invoke, builtin, Sem.run_bind, Sem.run_pure, Result.andThen_ok, List.map_toArray, List.map_cons, List.map_nil, hs, hx]
  rw [hr]
  exact hK _ _ (h v' W' hH' hG)

theorem flatT_snoc {ss : List ByteArray} {k : Nat} (h : k < ss.length) : (ss.take (k + 1)).flatMap txtB = (ss.take k).flatMap txtB ++ txtB ss[k] := by
  rw [List.take_add_one, List.getElem?_eq_getElem h, List.flatMap_append]
  simp
theorem flatT_len : ∀ (ss : List ByteArray), (∀ s ∈ ss, s.size ≤ 40) → (ss.flatMap txtB).length ≤ 41 * ss.length
  | [], _ => by simp
  | s :: ss, h => by
    have h1 := flatT_len ss (fun m hm => h m (List.mem_cons_of_mem _ hm))
    have h2 := txtB_len (h s (List.mem_cons_self))
    rw [List.flatMap_cons, List.length_append, List.length_cons]
    omega
theorem intB_size (s : ByteArray) : intB (s.size : Int) = numB s.size := rfl

set_option maxRecDepth 100000 in
set_option maxHeartbeats 1000000 in
theorem appendTexts_any (ss : List ByteArray) (hss : ∀ s ∈ ss, s.size ≤ 40) (g : Nat) (v : Value) (l : Bytes) (B : Nat) (W : World) (hH : Held W B v l) (hB : B ≤ W.heap.size) (hg : g < W.heap.size) (hgv : some g ≠ v.ownBlock)
    (hc : ∀ i (h : i < ss.length), W.cell? ⟨g, i, none⟩ = some (.string ss[i])) (hlen : l.length + 50 * ss.length ≤ 1000000000) :
    Calls Try.prog 55 #[v, .slice (some ⟨g, 0, none⟩) ss.length ss.length] W fun e W' => ∃ v', e = .returned v' ∧ Held W' B v' (l ++ ss.flatMap txtB) ∧ Grew W v W' v' := by
  have HC := Lib.hid hc
  have HN := Lib.hid hss
  have HL := Lib.hid hlen
  have HH := Lib.hid hH
  have HV := Lib.hid hgv
  have hnl : ss.length ≤ 1000000000 := by omega
  clear hc hss hlen hH hgv
  go_enter Try.func55, Try.ntmps55
  go_wp2
  go_loopw [0, 9] (fun v1 i wr => ∃ k : Nat, k ≤ ss.length ∧ i = .int .i64 k ∧ Hid (Held wr B v1 (l ++ (ss.take k).flatMap txtB)) ∧ Grew W v wr v1) (fun _ i _ => ss.length - (intOf i).toNat)
  case atStart => exact ⟨0, Nat.zero_le _, rfl, by show Held _ _ _ _; simpa using HH.out, Grew.refl _ _⟩
  case round =>
    obtain ⟨k, hk, rfl, hH1, hG1⟩ := hrel
    by_cases hp : k < ss.length
    · have hcell := (World.cell?_of_block (a := ⟨g, k, none⟩) (hG1.by_.block g hg HV.out)).trans (HC.out k hp)
      have hn := HN.out ss[k] (List.getElem_mem hp)
      have hfl := flatT_len (ss.take k) (fun n hn => HN.out n (List.mem_of_mem_take hn))
      have HX : Hid ((l ++ (ss.take k).flatMap txtB).length + 50 ≤ 1000000000) := by
        show _ ≤ _
        have := HL.out
        rw [List.length_append]
        rw [List.length_take] at hfl
        omega
      clear hfl
      go_wp2_with fail
      refine (appendNumbers_any [(ss[k].size : Int)] (fun n hn => ?_) wr.heap.size u0 _ B _ (hH1.out.alloc _) (by have := hG1.by_.size; simp; omega) (by simp) ?_ ?_ (by have := HX.out; simp only [List.length_singleton]; omega)).mono ?_
      · obtain rfl : n = (ss[k].size : Int) := by simpa using hn
        exact ⟨by omega, by omega⟩
      · intro e
        have := World.ownsRow.lt hH1.out _ e.symm
        omega
      · intro i hi
        obtain rfl : i = 0 := by simpa using hi
        exact cell_one_new _ _ _ 0 _ rfl
      rintro e w1 ⟨v1, rfl, hH2, hG2⟩
      have hG3 := hG1.trans hG2.alloc
      have HH2 := Lib.hid hH2
      have HX2 : Hid ((l ++ (ss.take k).flatMap txtB ++ [(ss[k].size : Int)].flatMap intB).length + ss[k].size ≤ 1000000000000) := by
        show _ ≤ _
        have h1 := HX.out
        have h2 := intB_ten (n := (ss[k].size : Int)) (by omega)
        rw [List.length_append, List.flatMap_cons, List.flatMap_nil, List.append_nil]
        omega
      have hB2 : B ≤ w1.heap.size := Nat.le_trans hB hG3.by_.size
      clear hH2 hG2 hH1 hG1 hcell
      go_wp2_with (at_builtin; refine wpList_append_str rfl (.tmp 19) (.tmp 20) rfl B v1 _ ?_ HH2.out ss[k] ?_ HX2.out hB2 ?_; rfl; rfl; intro v3 w3 hH3 hG4)
      have HG := Lib.hid (hG3.trans hG4)
      have HH3 : Hid (Held w3 B v3 (l ++ (ss.take (k + 1)).flatMap txtB)) := by
        show Held _ _ _ _
        rw [flatT_snoc hp]
        have := hH3
        rw [List.flatMap_cons, List.flatMap_nil, List.append_nil, intB_size, List.append_assoc, List.append_assoc] at this
        exact this
      clear hH3 hG4 hG3
      go_wp2
      go_roundw
      case rel => exact ⟨k + 1, by omega, by go_num, HH3, HG.out⟩
      case measure => simp [intOf]; omega
    · have hk' : k = ss.length := by omega
      have HE : Held wr B u0 (l ++ ss.flatMap txtB) := by
        have := hH1.out
        rw [hk', List.take_length] at this
        exact this
      have HE' := Lib.hid HE
      clear hH1 HE
      go_wp2
      go_ret
      exact ⟨_, rfl, HE'.out, hG1⟩
end Go.Proofs.Ytacbfpgknfcimaa.C
