/- topo.cut: the iterator over what stands between the marks of a text. -/
import Derived.Test.YtneogmcmkbhnaaaTPair
import Derived.RangeFuncNested
import Derived.RangeFuncFrom
import Derived.RangeFuncBound
import Derived.RangeFuncCalls
import Derived.RangeFuncLeaves
import Derived.RangeFuncBox
import Derived.Shelf.Abstract
import Derived.Shelf.RegionOpen
import Derived.OwnWalkIn
import Derived.TacticsInMore
import Derived.LoopNIn
import Derived.LoopIn
import Derived.Lib.OthersKept
namespace Go.Proofs.Ytneogmcmkbhnaaa.T
open Go.RowKit Go.Shelf Go.Lib

def encS (l : List UInt8) : Value := .string ⟨l.toArray⟩
def enc1 (l : List UInt8) : Array Value := #[encS l]
theorem encS_extract (s : ByteArray) (a b : Nat) : encS ((s.data.toList.drop a).take (b - a)) = .string (s.extract a b) := by
  unfold encS; rw [← extract_data]
theorem encS_rest (s : ByteArray) (a : Nat) : encS (s.data.toList.drop a) = .string (s.extract a s.size) := by
  unfold encS; rw [← extract_to_end]
theorem encS_self (s : ByteArray) : encS s.data.toList = .string s := by unfold encS; simp

/-- A round keeps the walks, and two given blocks. -/
def KpB (b1 b2 : Nat) (W W' : World) : Prop := KeepsWalks W W' ∧ W'.heap[b1]? = W.heap[b1]? ∧ W'.heap[b2]? = W.heap[b2]?
theorem kpB_t {b1 b2 : Nat} {A B C : World} (h : KpB b1 b2 A B) (k : KpB b1 b2 B C) : KpB b1 b2 A C := ⟨h.1.trans k.1, k.2.1.trans h.2.1, k.2.2.trans h.2.2⟩
theorem kpB_b {b1 b2 : Nat} {w : World} (h1 : b1 < w.heap.size) (h2 : b2 < w.heap.size) (W : World) (l : Nat) (o o' : Obj) (hl : w.heap.size ≤ l) (h : W.heap[l]? = some o) (_ : o.isCells = false) (hw : o.isWalk = false) : KpB b1 b2 W (W.putObj l o') := by
  have hlt : l < W.heap.size := (Array.getElem?_eq_some_iff.1 h).1
  exact ⟨KeepsWalks.putObj _ h hw, (grownBy_putObj' W l o').block b1 (by omega) (fun e => by cases e; omega), (grownBy_putObj' W l o').block b2 (by omega) (fun e => by cases e; omega)⟩

theorem grownBy_iterAt (W : World) (k : Nat) (s : ByteArray) (p : Nat) : W.grownBy (W.iterAt k s p) (some k) :=
  ⟨rfl, rfl, rfl, by rw [iterAt_size]; exact Nat.le_refl _, fun j _ hj => iterAt_other W k j s p (fun e => hj (by rw [e]))⟩
theorem abides_iterAt {J : List (List UInt8) → World → Prop} {B : Nat} (hJ : AbidesFrom B J) {x : List (List UInt8)} {W : World} (h : J x W) {k : Nat} {s : ByteArray} {p : Nat} (hB : B ≤ k) (hk : W.heap[k]? = some (.stringIter s p)) (p' : Nat) : J x (W.iterAt k s p') :=
  hJ x W _ (some k) h (grownBy_iterAt W k s p') (fun r e => by cases e; exact ⟨hB, _, hk, rfl⟩)

/-- How a round comes back: true, and it goes on; false, and it has said no more. -/
def Came (T U : World → Prop) (e : Ending) (W : World) : Prop := ∃ b : Bool, e = .returned (.bool b) ∧ (b = true → T W) ∧ (b = false → U W)

theorem cut_any (s : ByteArray) (m : Int) (w : World) :
    Calls Try.prog 74 #[.string s, .int .i32 m] w fun e w' => e = .returned (.func (.func 79) #[] #[.pointer (some ⟨w.heap.size, 0, none⟩), .pointer (some ⟨w.heap.size + 1, 0, none⟩)]) ∧
      (w.alloc (.cells #[.string s] 9)).alloc (.cells #[.int .i32 m] 21) = w' := by
  go_enter Try.func74, Try.ntmps74
  go_wp2
  go_ret
  exact ⟨rfl, rfl⟩

/-- Where the iterator stands: from where the next part begins, and how far the walk is. -/
structure CutAt (s : ByteArray) (m : UInt8) (it b1 b2 : Nat) (J : List (List UInt8) → World → Prop) (pre : List (List UInt8)) (from_ pos : Nat) (W : World) : Prop where
  le1 : from_ ≤ pos
  le2 : pos ≤ s.size
  none_ : m ∉ (s.data.toList.drop from_).take (pos - from_)
  parts : splitOn m s.data.toList = pre ++ splitOn m (s.data.toList.drop from_)
  iter : W.heap[it]? = some (.stringIter s pos)
  box1 : Boxed W b1 9 (.string s)
  box2 : Boxed W b2 21 (.int .i32 m.toNat)
  inv : J pre W

theorem drop_parts {l : List UInt8} {a p : Nat} {m : UInt8} (h1 : a ≤ p) (h2 : p < l.length) (hm : l[p] = m) : l.drop a = (l.drop a).take (p - a) ++ m :: l.drop (p + 1) := by
  have e := (List.take_append_drop (p - a) (l.drop a)).symm
  rw [List.drop_drop, show a + (p - a) = p by omega, List.drop_eq_getElem_cons h2, hm] at e
  exact e

set_option maxRecDepth 100000 in
set_option maxHeartbeats 1000000 in
theorem cut_stops (F : Fence) (n : Nat) (hf : F.fn 79) (hro : F.round = none) (_hn : 1 ≤ n) (s : ByteArray) (hs : s.size ≤ 9223372036854775807) (m : UInt8) (hm : m.toNat < 128) (b1 b2 : Nat) (w : World)
    (hb1 : Boxed w b1 9 (.string s)) (hb2 : Boxed w b2 21 (.int .i32 m.toNat)) :
    SeqStopsK F n Try.prog 79 #[.pointer (some ⟨b1, 0, none⟩), .pointer (some ⟨b2, 0, none⟩)] enc1 (KpB b1 b2) (fun xs => xs = splitOn m s.data.toList) (fun pre => pre <+: splitOn m s.data.toList) (splitOn m s.data.toList).length w := fun l J Jx W hW hJ _ hY h0 => by
  have hlt1 := hb1.lt
  have hlt2 := hb2.lt
  have hB1 : Boxed W b1 9 (.string s) := (hW.block b1 hlt1).trans hb1
  have hB2 : Boxed W b2 21 (.int .i32 m.toNat) := (hW.block b2 hlt2).trans hb2
  have hsz := hW.size
  have c1 := hB1.cell
  refine callsIn_of_wp Try.func79 rfl hf ?_ hro
  simp only [Try.ntmps79, List.size_toArray, List.length_cons, List.length_nil, Nat.reduceAdd, Nat.reduceSub, Array.replicate_succ, Array.replicate_zero, List.push_toArray, List.append_toArray, List.nil_append, List.cons_append]
  gi_wp2
  gi_loopw [4] (fun f wr => ∃ (pre : List (List UInt8)) (fr pos : Nat), f = .int .i64 fr ∧ CutAt s m W.heap.size b1 b2 J pre fr pos wr) (fun _ wr => s.size - wr.iterPos W.heap.size)
  case atStart =>
    refine ⟨[], 0, 0, rfl, Nat.le_refl _, Nat.zero_le _, by simp, by simp, World.iter_heap W s 0, hB1.alloc _, hB2.alloc _, ?_⟩
    exact hJ [] W _ none h0 (World.grownBy_alloc W _ none) (fun r e => by cases e)
  case round =>
    obtain ⟨pre, fr, pos, rfl, hc⟩ := hrel
    have hit := hc.iter
    have d1 := hc.box1.cell
    have d2 := hc.box2.cell
    have hne1 : b1 ≠ W.heap.size := by omega
    have hne2 : b2 ≠ W.heap.size := by omega
    by_cases hp : pos < s.size
    · by_cases hmk : s[pos] = m
      · -- the mark stands here: the part ahead of it is handed over
        have hlow : s[pos].toNat < 128 := by rw [hmk]; exact hm
        have hnx : ∀ ty, (Instr.next (.pointer (some ⟨W.heap.size, 0, none⟩)) true ty).run Try.prog wr = .ok (.tuple #[.bool true, .int .i64 pos, .int .i32 m.toNat]) (wr.iterAt W.heap.size s (pos + 1)) := fun ty => by
          have := run_next_ascii_at (P := Try.prog) wr W.heap.size s pos ty hit hp hlow
          rw [hmk] at this; exact this
        have e1 := (iterAt_other wr W.heap.size b1 s (pos + 1) hne1).trans hc.box1
        have e2 := (iterAt_other wr W.heap.size b2 s (pos + 1) hne2).trans hc.box2
        have d1' : (wr.iterAt W.heap.size s (pos + 1)).cell? ⟨b1, 0, none⟩ = some (.string s) := Boxed.cell e1
        have d2' : (wr.iterAt W.heap.size s (pos + 1)).cell? ⟨b2, 0, none⟩ = some (.int .i32 m.toNat) := Boxed.cell e2
        have hI := iterAt_heap wr W.heap.size s pos (pos + 1) hit
        have hJ' := abides_iterAt hJ hc.inv (Nat.le_refl _) hit (pos + 1)
        obtain ⟨fn, tmps, assign, body, hy, hR⟩ := hY pre ((s.data.toList.drop fr).take (pos - fr)) (wr.iterAt W.heap.size s (pos + 1)) hJ' (by rw [hc.parts, List.length_append]; have := List.length_pos_iff.2 (splitOn_ne m (s.data.toList.drop fr)); omega)
        rw [show enc1 ((s.data.toList.drop fr).take (pos - fr)) = #[.string (s.extract fr pos)] by unfold enc1; rw [encS_extract]] at hy
        have hparts : Hid (splitOn m s.data.toList = (pre ++ [(s.data.toList.drop fr).take (pos - fr)]) ++ splitOn m (s.data.toList.drop (pos + 1))) := by
          show _ = _
          have hsp : splitOn m (s.data.toList.drop fr) = (s.data.toList.drop fr).take (pos - fr) :: splitOn m (s.data.toList.drop (pos + 1)) :=
            (congrArg (splitOn m) (drop_parts hc.le1 (by rw [size_list]; exact hp) ((get_list s pos hp).trans hmk))).trans (splitOn_at hc.none_)
          rw [hc.parts, hsp, List.append_assoc]; rfl
        have hle := hc.le1
        have hR' := Lib.hid hR
        have E1 := Lib.hid e1
        have E2 := Lib.hid e2
        have HI := Lib.hid hI
        have HIT := Lib.hid hit
        clear hR hit hc e1 e2 hI hJ' hmk hlow
        have hneq : ((m.toNat : Int) != (m.toNat : Int)) = false := by simp
        gi_wp2
        refine hR'.out.mono ?_
        rintro e W3 (⟨rfl, hJ3, hk3⟩ | ⟨rfl, hJx3⟩)
        · have hnew : CutAt s m W.heap.size b1 b2 J (pre ++ [(s.data.toList.drop fr).take (pos - fr)]) (pos + 1) (pos + 1) W3 :=
            ⟨Nat.le_refl _, hp, by simp, hparts.out, hk3.1.same _ _ HI.out rfl, hk3.2.1.trans E1.out, hk3.2.2.trans E2.out, hJ3⟩
          have hpos3 : W3.iterPos W.heap.size = pos + 1 := by simp [World.iterPos, hnew.iter]
          have hposr : Hid (s.size - W3.iterPos W.heap.size < s.size - wr.iterPos W.heap.size) := by show _ < _; rw [hpos3, show wr.iterPos W.heap.size = pos by simp [World.iterPos, HIT.out]]; omega
          clear hJ3 hk3 hpos3 d1 d2 d1' d2' hnx hy
          have hN := Lib.hid hnew
          clear hnew
          gi_wp2
          exact ⟨⟨_, pos + 1, pos + 1, by go_num, hN.out⟩, hposr.out⟩
        · have hJ3' := Lib.hid hJx3
          clear hJx3
          gi_wp2
          refine bodyPost_ret (results_none rfl _ _ _) rfl ?_
          exact ⟨⟨_, rfl⟩, .inr ⟨_, ⟨_, hparts.out.symm⟩, hJ3'.out⟩⟩
      · -- some other rune: on
        have hw := decode_width_pos s pos hp
        have hstep : pos + (Utf8.decode s pos).2 ≤ s.size ∧ (((Utf8.decode s pos).1 : Int) != (m.toNat : Int)) = true ∧ m ∉ (s.data.toList.drop fr).take (pos + (Utf8.decode s pos).2 - fr) := by
          have hin : ∀ q, pos + q ≤ s.size → (∀ j, pos ≤ j → j < pos + q → ∀ hj : j < s.size, s[j] ≠ m) → m ∉ (s.data.toList.drop fr).take (pos + q - fr) := fun q hq hall hmem => by
            obtain ⟨j, hj, hjm⟩ := List.mem_take_iff_getElem.1 hmem
            rw [List.length_drop, size_list] at hj
            rw [List.getElem_drop] at hjm
            have hfl := hc.le1
            by_cases hjp : fr + j < pos
            · refine hc.none_ (List.mem_take_iff_getElem.2 ⟨j, by rw [List.length_drop, size_list]; omega, ?_⟩)
              rw [List.getElem_drop]; exact hjm
            · exact hall (fr + j) (by omega) (by omega) (by omega) (((get_list s (fr + j) (by omega)).symm).trans hjm)
          by_cases ha : s[pos].toNat < 128
          · rw [decode_ascii s pos hp ha]
            have hone : ∀ j, pos ≤ j → j < pos + 1 → ∀ hj : j < s.size, s[j] ≠ m := by
              intro j h1 h2 hj
              have e : j = pos := by omega
              subst e
              exact hmk
            refine ⟨by omega, ?_, hin 1 (by omega) hone⟩
            simp only [bne_iff_ne, ne_eq]
            intro e
            exact hmk (UInt8.toNat_inj.1 (by omega))
          · obtain ⟨h1, h2⟩ := high_step s pos hp (by omega)
            have h3 := (decode_high s pos hp (by omega)).1
            refine ⟨h1, ?_, hin _ h1 (fun j a b hj e => by have := h2 j a b hj; rw [e] at this; omega)⟩
            simp only [bne_iff_ne, ne_eq]
            omega
        obtain ⟨g1, hneq, g2⟩ := hstep
        have hnx : ∀ ty, (Instr.next (.pointer (some ⟨W.heap.size, 0, none⟩)) true ty).run Try.prog wr = _ := fun ty => run_next_any_at wr W.heap.size s pos ty hit hp
        have d2' : (wr.iterAt W.heap.size s (pos + (Utf8.decode s pos).2)).cell? ⟨b2, 0, none⟩ = some (.int .i32 m.toNat) := Boxed.cell ((iterAt_other wr W.heap.size b2 s _ hne2).trans hc.box2)
        have hnew : CutAt s m W.heap.size b1 b2 J pre fr (pos + (Utf8.decode s pos).2) (wr.iterAt W.heap.size s (pos + (Utf8.decode s pos).2)) :=
          ⟨by have := hc.le1; omega, g1, g2, hc.parts, iterAt_heap wr W.heap.size s pos _ hit, (iterAt_other wr W.heap.size b1 s _ hne1).trans hc.box1, (iterAt_other wr W.heap.size b2 s _ hne2).trans hc.box2,
            abides_iterAt hJ hc.inv (Nat.le_refl _) hit _⟩
        have hposr : Hid (s.size - (wr.iterAt W.heap.size s (pos + (Utf8.decode s pos).2)).iterPos W.heap.size < s.size - wr.iterPos W.heap.size) := by
          show _ < _
          simp only [World.iterPos, hnew.iter, hit]; omega
        have hN := Lib.hid hnew
        clear hnew hit hc g1 g2
        gi_wp2
        exact ⟨⟨pre, fr, _, rfl, hN.out⟩, hposr.out⟩
    · have hnx : ∀ ty, (Instr.next (.pointer (some ⟨W.heap.size, 0, none⟩)) true ty).run Try.prog wr = _ := fun ty => run_next_end_at wr W.heap.size s pos ty hit hp
      obtain ⟨fn, tmps, assign, body, hy, hR⟩ := hY pre (s.data.toList.drop fr) wr hc.inv (by rw [hc.parts, List.length_append]; have := List.length_pos_iff.2 (splitOn_ne m (s.data.toList.drop fr)); omega)
      rw [show enc1 (s.data.toList.drop fr) = #[.string (s.extract fr s.size)] by unfold enc1; rw [encS_rest]] at hy
      have hfin : Hid (splitOn m s.data.toList = pre ++ [s.data.toList.drop fr]) := by
        show _ = _
        have h1 := hc.none_
        rw [List.take_of_length_le (by rw [List.length_drop, size_list]; have := hc.le2; omega)] at h1
        rw [hc.parts, splitOn_none h1]
      have hle := hc.le1
      have hle2 := hc.le2
      have hR' := Lib.hid hR
      clear hR hit hc
      gi_wp2
      refine hR'.out.mono ?_
      rintro e W3 (⟨rfl, hJ3, hk3⟩ | ⟨rfl, hJx3⟩)
      · have hJ3' := Lib.hid hJ3
        clear hJ3 hk3
        gi_wp2
        go_end0
        exact ⟨⟨_, rfl⟩, .inl ⟨_, rfl, by rw [hfin.out]; exact hJ3'.out⟩⟩
      · have hJ3' := Lib.hid hJx3
        clear hJx3
        gi_wp2
        go_end0
        exact ⟨⟨_, rfl⟩, .inr ⟨_, by rw [hfin.out]; exact List.prefix_refl _, hJ3'.out⟩⟩
end Go.Proofs.Ytneogmcmkbhnaaa.T
