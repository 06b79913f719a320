/- The iterator over snapshots in the order of their names: any number of them. -/
import Derived.Test.YtbgfccanbgpjiaaIOwn
namespace Go.Proofs.Ytbgfccanbgpjiaa.O.I.Sn
open Go Go.RowKit Go.Lib Go.Shelf RangeMap KM
attribute [local go_sem] Oper.semAt_some

abbrev El (m : List (ByteArray × Ct)) := { p : ByteArray × Ct // p ∈ m }
def encM (m : List (ByteArray × Ct)) (x : El m) : Array Value := #[.string x.1.1, encK x.1.2]
/-- As the map holds them. -/
def held (m : List (ByteArray × Ct)) : List (ByteArray × Value) := m.map fun p => (p.1, encK p.2)
theorem get_held : ∀ {m : List (ByteArray × Ct)}, (m.map (·.1)).Nodup → ∀ p ∈ m, KM.get p.1 (held m) = some (encK p.2)
  | q :: r, h, p, hp => by
    obtain ⟨h1, h2⟩ := List.nodup_cons.1 (show (q.1 :: r.map (·.1)).Nodup from h)
    unfold held
    rw [List.map_cons]
    unfold KM.get
    rcases List.mem_cons.1 hp with rfl | h3
    · rw [if_pos rfl]
    · rw [if_neg (fun e => h1 (List.mem_map.2 ⟨p, h3, e⟩))]
      exact get_held h2 p h3
def keyOf (p : ByteArray × Ct) : List UInt8 := p.1.data.toList
/-- The names in their order. -/
def Ordered (m : List (ByteArray × Ct)) (L : List (List UInt8)) : Prop := ∃ ss : List (List UInt8), ss.Perm (m.map keyOf) ∧ L = ss.mergeSort fun x y => decide (x ≤ y)
theorem Ordered.length {m : List (ByteArray × Ct)} {L : List (List UInt8)} (h : Ordered m L) : L.length = m.length := by
  obtain ⟨ss, hp, rfl⟩ := h
  rw [List.length_mergeSort, hp.length_eq, List.length_map]
theorem Ordered.mem {m : List (ByteArray × Ct)} {L : List (List UInt8)} (h : Ordered m L) {k : List UInt8} (hk : k ∈ L) : ∃ p ∈ m, keyOf p = k := by
  obtain ⟨ss, hp, rfl⟩ := h
  exact List.mem_map.1 ((hp.mem_iff).1 (List.mem_mergeSort.1 hk))
/-- Names in their order, from the first on. -/
def Part (m : List (ByteArray × Ct)) (xs : List (El m)) : Prop := ∃ L, Ordered m L ∧ xs.map (fun x => keyOf x.1) <+: L
def Whole (m : List (ByteArray × Ct)) (xs : List (El m)) : Prop := Ordered m (xs.map fun x => keyOf x.1)
structure AtN (b mb g : Nat) (cur : Array Value) (m : List (ByteArray × Ct)) (L : List (List UInt8)) (J : List (El m) → World → Prop) (i : Nat) (W : World) : Prop where
  box : Boxed W b tS (.map (some mb))
  map : IsMap encS W mb (held m)
  row : W.heap[g]? = some (.cells cur 9 (0, 0))
  inv : ∃ pre : List (El m), pre.map (fun x => keyOf x.1) = L.take i ∧ J pre W
set_option maxRecDepth 100000 in
theorem sorted_any (m : List (ByteArray × Ct)) (hlen : m.length ≤ 1000000) (hne : m ≠ []) (mb : Nat) (W : World) (hown : W.ownsMap Try.prog 9 (fun _ => some ((DataW.nil : DataW Unit), [])) mb (held m).length (datum (held m))) :
    CallsIn Fence.wide 5 Try.prog 45 #[.func (.func 84) #[] #[.pointer (some ⟨W.heap.size, 0, none⟩)]] (W.alloc (.cells #[.map (some mb)] tS)) fun e W2 => ∃ L g cap cur, Ordered m L ∧ e = .returned (.slice (some ⟨g, 0, none⟩) L.length cap) ∧ W2.heap[g]? = some (.cells cur 9 (0, 0)) ∧ (∀ i (h : i < L.length), cur[i]? = some (.string ⟨L[i].toArray⟩)) ∧ W.heap.size ≤ g ∧ Below W.heap.size W W2 := by
  have hsz : Maps.size (datum (held m)) = m.length := by rw [datum_size]; unfold held; rw [List.length_map]
  refine (Try.slices_Sorted_keys_45_67 mb _ _ _ W hown (by rw [hsz]; exact Nat.le_trans hlen (by decide)) (by rw [hsz]; omega)).mono ?_
  rintro e W2 ⟨v, ss, rfl, hS, hrow, -, hb⟩
  have hkeys : ss.Perm (m.map keyOf) := hS.trans ((datum_keys (held m)).trans (List.Perm.of_eq (by unfold held; rw [List.map_map]; rfl)))
  rcases hrow.2 with ⟨-, h0⟩ | ⟨g, cap, cur, rfl, hg, hh, -, -, -, ht⟩
  · have : m.length = 0 := by rw [← List.length_map (f := keyOf), ← hkeys.length_eq]; exact h0
    exact absurd (List.length_eq_zero_iff.1 this) hne
  refine ⟨ss.mergeSort (fun x y => decide (x ≤ y)), g, cap, cur, ⟨ss, hkeys, rfl⟩, by rw [List.length_mergeSort], hh, fun i h => ?_, Nat.le_trans (by simp) hg, ((Below.refl _ _).alloc (Nat.le_refl _) _).trans (hb.mono (by simp))⟩
  have hi : i < ss.length := by rw [List.length_mergeSort] at h; exact h
  have h1 := congrArg (fun l => l[i]?) ht
  simp only [List.getElem?_map, List.getElem?_take] at h1
  rw [if_pos (by omega)] at h1
  rw [← Array.getElem?_toList, h1, List.getElem?_eq_getElem h]
  rfl
set_option maxRecDepth 100000 in
set_option maxHeartbeats 2000000 in
theorem snaps_seqN (n : Nat) (hn : n = 6) (m : List (ByteArray × Ct)) (hk : ∀ p ∈ m, p.1.size ≤ maxLen) (hlen : m.length ≤ 1000000) (hne : m ≠ []) (hon : (m.map (·.1)).Nodup) (b mb lo hi : Nat) (w : World) (hlh : hi ≤ w.heap.size ∧ ¬ (lo ≤ b ∧ b < hi) ∧ ¬ (lo ≤ mb ∧ mb < hi)) (hbox : Boxed w b tS (.map (some mb))) (hm : IsMap encS w mb (held m)) (hst : Stamp w mb) :
    Seq Fence.wide n Try.prog 66 #[.pointer (some ⟨b, 0, none⟩)] (encM m) lo hi (Whole m) (Part m) m.length w := fun L0 J Jx W hW hL hLW hJ hJx hY h0 => by
  have hmW : IsMap encS W mb (held m) := hm.after hW
  have hown := owns_any (m := held m) (fun p hp => by obtain ⟨q, hq, rfl⟩ := List.mem_map.1 hp; exact hk q hq) (by unfold held; rw [List.length_map]; exact Nat.le_trans hlen (by decide)) hmW (hst.of_heap (hW.block mb hm.lt))
  have hboxW : Boxed W b tS (.map (some mb)) := (hW.block b hbox.lt).trans hbox
  have HBX := Lib.hid hboxW
  have HM := Lib.hid hmW
  have HLH := Lib.hid hlh
  have HLT : Hid (b < w.heap.size ∧ mb < w.heap.size) := ⟨hbox.lt, hm.lt⟩
  have H0 := Lib.hid h0
  have HJ := Lib.hid hJ
  have HY := Lib.hid hY
  have HOW := Lib.hid hown
  have HON := Lib.hid hon
  have hNW := hW.size
  have b1 := hboxW.cell
  have HMK : Hid (∀ w, CallsIn Fence.wide (n - 1) Try.prog 67 #[.map (some mb)] w fun e w' => e = .returned (.func (.func 84) #[] #[.pointer (some ⟨w.heap.size, 0, none⟩)]) ∧ w' = w.alloc (.cells #[.map (some mb)] tS)) := by
    subst hn
    exact fun w => Try.maps_Keys_67 _ _
  have HSO : Hid (CallsIn Fence.wide (n - 1) Try.prog 45 #[.func (.func 84) #[] #[.pointer (some ⟨W.heap.size, 0, none⟩)]] (W.alloc (.cells #[.map (some mb)] tS)) fun e W2 => ∃ L g cap cur, Ordered m L ∧ e = .returned (.slice (some ⟨g, 0, none⟩) L.length cap) ∧ W2.heap[g]? = some (.cells cur 9 (0, 0)) ∧ (∀ i (h : i < L.length), cur[i]? = some (.string ⟨L[i].toArray⟩)) ∧ W.heap.size ≤ g ∧ Below W.heap.size W W2) := by

    subst hn
    exact sorted_any m hlen hne mb W HOW.out
  clear hn hlh
  clear hbox hm hst hW hJ hJx hY h0 hmW hboxW hown hon
  refine callsIn_of_wp Try.func66 rfl trivial ?_ rfl
  simp only [Try.ntmps66, List.size_toArray, List.length_cons, List.length_nil, Nat.reduceAdd, Nat.reduceSub, Array.replicate_succ, Array.replicate_zero, List.push_toArray, List.append_toArray, List.nil_append, List.cons_append]
  gi_wp2_with fail
  refine ⟨trivial, fun h => (by cases h), (HMK.out _).mono ?_⟩
  rintro e w' ⟨rfl, rfl⟩
  gi_wp2_with fail
  refine ⟨trivial, fun h => (by cases h), HSO.out.mono ?_⟩
  rintro e W2 ⟨L, g, cap, cur, hord, rfl, hh, hcur, hgW, hW2⟩
  have HG : Hid (AtN b mb g cur m L J 0 W2) := ⟨(hW2.block b (by have := HLT.out; omega)).trans HBX.out, HM.out.after hW2, hh, [], rfl, own_below HJ.out H0.out hW2⟩
  have HC := Lib.hid hcur
  have HGW := Lib.hid hgW
  have HO := Lib.hid hord
  have hLL : L.length ≤ 1000000 := by have := hord.length; omega
  clear hh hcur hW2 hgW HMK HSO HBX HM H0 HOW b1 hord
  gi_wp2
  gi_loopw [9] (fun iv wr => ∃ i : Nat, iv = .int .i64 (i : Int) ∧ i ≤ L.length ∧ AtN b mb g cur m L J i wr) (fun iv _ => L.length - (RowKit.intOf iv).toNat)
  case atStart => exact ⟨0, rfl, Nat.zero_le _, HG.out⟩
  case round =>
    clear HG
    obtain ⟨i, rfl, hi, hat⟩ := hrel
    by_cases hlt : i < L.length
    · have hlt' : (i : Int) < (L.length : Int) := by omega
      obtain ⟨pre, hp1, hp2⟩ := hat.inv
      obtain ⟨p, hpm, hpk⟩ := HO.out.mem (List.getElem_mem hlt)
      have hpb : p.1 = ⟨L[i].toArray⟩ := by rw [← hpk]; rfl
      have hplen : pre.length < m.length := by
        have h1 := congrArg List.length hp1
        rw [List.length_map, List.length_take] at h1
        have := HO.out.length
        omega
      obtain ⟨fn, tmps, assign, body, hy, hR⟩ := HY.out pre ⟨p, hpm⟩ wr hp2 hplen
      change Sem.run Try.prog (Instr.yield L0 #[.string p.1, encK p.2]) _ = _ at hy
      have HR := Lib.hid hR
      have HAT := Lib.hid hat
      have hmap := hat.map
      have hget := get_held HON.out p hpm
      have hlk : ∀ {oi : Oper} {a : Act} {q r : Operand}, oi.op = .lookup tS q r false → a.eval q = .map (some mb) → a.eval r = .string p.1 → (execOp a.eval oi).run Try.prog wr = .ok (.value (encK p.2)) wr :=
        fun ho h1 h2 => exec_look1 und_S (zero_S _) hmap (some (encK p.2)) hget ho h1 h2
      have d1 := hat.box.cell
      have e1 : wr.cell? ⟨g, i, none⟩ = some (.string p.1) := by rw [hpb]; exact (cell_of_row wr g i _ _ _ hat.row).trans (HC.out i hlt)
      have HPRE : Hid ((pre ++ [(⟨p, hpm⟩ : El m)]).map (fun x => keyOf x.1) = L.take (i + 1)) := by
        show _ = _
        rw [List.map_append, hp1, List.take_add_one, List.getElem?_eq_getElem hlt, ← hpk]
        rfl
      clear hR hat hp1 hp2 hget hpk hpb hplen
      gi_wp2_with (refine KnownIn.value rfl rfl (hlk rfl rfl rfl) ?_)
      refine ⟨fun h => (by cases h), HR.out.mono ?_⟩
      rintro e W6 (⟨rfl, hJ6, hk6⟩ | ⟨rfl, hJx6⟩)
      · have hat := HAT.out
        have hbl := HLT.out
        have hml := hat.map.lt
        have hgl := (Array.getElem?_eq_some_iff.1 hat.row).1
        have hgw := HGW.out
        obtain ⟨hh1, hh2, hh3⟩ := HLH.out
        have hbw := hat.box.lt
        have HN : Hid (AtN b mb g cur m L J (i + 1) W6) := ⟨(hk6.2 b hbw (by omega) hh2).trans hat.box, hat.map.of_heap (hk6.2 mb hml (by omega) hh3), (hk6.2 g hgl (by omega) (by omega)).trans hat.row, _, HPRE.out, hJ6⟩
        clear hJ6 hk6 hy hmap hlk d1 e1 hat hbl hml hgl hgw hbw hh1 hh2 hh3 HAT
        gi_wp2
        exact ⟨⟨i + 1, by go_num, by omega, HN.out⟩, by simp [RowKit.intOf]; omega⟩
      · have HX6 := Lib.hid hJx6
        clear hJx6 hy hmap hlk d1 e1 HAT
        gi_wp2
        refine bodyPost_ret (results_none rfl _ _ _) rfl ?_
        exact ⟨⟨_, rfl⟩, .inr ⟨_, ⟨L, HO.out, by rw [HPRE.out]; exact List.take_prefix _ _⟩, HX6.out⟩⟩
    · have hlt' : ¬ (i : Int) < (L.length : Int) := by omega
      have hE : i = L.length := by omega
      obtain ⟨pre, hp1, hp2⟩ := hat.inv
      rw [hE, List.take_length] at hp1
      have HP := Lib.hid hp1
      have HJ2 := Lib.hid hp2
      clear hat hp1 hp2 hi hlt hE
      gi_wp2
      go_end0
      exact ⟨⟨_, rfl⟩, .inl ⟨pre, by unfold Whole; rw [HP.out]; exact HO.out, HJ2.out⟩⟩
end Go.Proofs.Ytbgfccanbgpjiaa.O.I.Sn
