/- Own work. -/
import Derived.Test.YtbgfccanbgpjiaaDJIRBase
import Derived.Test.YtbgfccanbgpjiaaDJ04
import Derived.Test.YtbgfccanbgpjiaaDJRangeMap
namespace Go.Proofs.Ytbgfccanbgpjiaa.O.I.Sn
open Go Go.RowKit Go.Lib Go.Shelf RangeMap KM
attribute [local go_sem] Oper.semAt_some
abbrev El (m : List (ByteArray × Ct)) := { p : ByteArray × Ct // p ∈ m }
def encM (m : List (ByteArray × Ct)) (x : El m) : Array Value := #[.string x.1.1, encK x.1.2]
def held (m : List (ByteArray × Ct)) : List (ByteArray × Value) := m.map fun p => (p.1, encK p.2)
theorem get_held : ∀ {m : List (ByteArray × Ct)}, (m.map (·.1)).Nodup → ∀ p ∈ m, KM.get p.1 (held m) = some (encK p.2)
  | q :: r, h, p, hp => by
    obtain ⟨h1, h2⟩ := List.nodup_cons.1 (show (q.1 :: r.map (·.1)).Nodup from h)
    unfold held
    rw [List.map_cons]
    unfold KM.get
    rcases List.mem_cons.1 hp with rfl | h3
    · rw [if_pos rfl]
    · rw [if_neg (fun e => h1 (List.mem_map.2 ⟨p, h3, e⟩))]
      exact get_held h2 p h3
def keyOf (p : ByteArray × Ct) : List UInt8 := p.1.data.toList
def Ordered (m : List (ByteArray × Ct)) (L : List (List UInt8)) : Prop := ∃ ss : List (List UInt8), ss.Perm (m.map keyOf) ∧ L = ss.mergeSort fun x y => decide (x ≤ y)
theorem Ordered.length {m : List (ByteArray × Ct)} {L : List (List UInt8)} (h : Ordered m L) : L.length = m.length := by
  obtain ⟨ss, hp, rfl⟩ := h
  rw [List.length_mergeSort, hp.length_eq, List.length_map]
theorem Ordered.mem {m : List (ByteArray × Ct)} {L : List (List UInt8)} (h : Ordered m L) {k : List UInt8} (hk : k ∈ L) : ∃ p ∈ m, keyOf p = k := by
  obtain ⟨ss, hp, rfl⟩ := h
  exact List.mem_map.1 ((hp.mem_iff).1 (List.mem_mergeSort.1 hk))
def Part (m : List (ByteArray × Ct)) (xs : List (El m)) : Prop := ∃ L, Ordered m L ∧ xs.map (fun x => keyOf x.1) <+: L
def Whole (m : List (ByteArray × Ct)) (xs : List (El m)) : Prop := Ordered m (xs.map fun x => keyOf x.1)
structure AtN (b mb g : Nat) (cur : Array Value) (m : List (ByteArray × Ct)) (L : List (List UInt8)) (J : List (El m) → World → Prop) (i : Nat) (W : World) : Prop where
  box : Boxed W b tS (.map (some mb))
  map : IsMap encS W mb (held m)
  row : W.heap[g]? = some (.cells cur 9 (0, 0))
  inv : ∃ pre : List (El m), pre.map (fun x => keyOf x.1) = L.take i ∧ J pre W
set_option maxRecDepth 100000 in
theorem sorted_any (m : List (ByteArray × Ct)) (hlen : m.length ≤ 1000000) (hne : m ≠ []) (mb : Nat) (W : World) (hown : W.ownsMap Try.prog 9 (fun _ => some ((DataW.nil : DataW Unit), [])) mb (held m).length (datum (held m))) :
    CallsIn Fence.wide 5 Try.prog 45 #[.func (.func 84) #[] #[.pointer (some ⟨W.heap.size, 0, none⟩)]] (W.alloc (.cells #[.map (some mb)] tS)) fun e W2 => ∃ L g cap cur, Ordered m L ∧ e = .returned (.slice (some ⟨g, 0, none⟩) L.length cap) ∧ W2.heap[g]? = some (.cells cur 9 (0, 0)) ∧ (∀ i (h : i < L.length), cur[i]? = some (.string ⟨L[i].toArray⟩)) ∧ W.heap.size ≤ g ∧ Below W.heap.size W W2 := by
  have hsz : Maps.size (datum (held m)) = m.length := by rw [datum_size]; unfold held; rw [List.length_map]
  refine (Try.slices_Sorted_keys_45_67 mb _ _ _ W hown (by rw [hsz]; exact Nat.le_trans hlen (by decide)) (by rw [hsz]; omega)).mono ?_
  rintro e W2 ⟨v, ss, rfl, hS, hrow, -, hb⟩
  have hkeys : ss.Perm (m.map keyOf) := hS.trans ((datum_keys (held m)).trans (List.Perm.of_eq (by unfold held; rw [List.map_map]; rfl)))
  rcases hrow.2 with ⟨-, h0⟩ | ⟨g, cap, cur, rfl, hg, hh, -, -, -, ht⟩
  · have : m.length = 0 := by rw [← List.length_map (f := keyOf), ← hkeys.length_eq]; exact h0
    exact absurd (List.length_eq_zero_iff.1 this) hne
  refine ⟨ss.mergeSort (fun x y => decide (x ≤ y)), g, cap, cur, ⟨ss, hkeys, rfl⟩, by rw [List.length_mergeSort], hh, fun i h => ?_, Nat.le_trans (by simp) hg, ((Below.refl _ _).alloc (Nat.le_refl _) _).trans (hb.mono (by simp))⟩
  have hi : i < ss.length := by rw [List.length_mergeSort] at h; exact h
  have h1 := congrArg (fun l => l[i]?) ht
  simp only [List.getElem?_map, List.getElem?_take] at h1
  rw [if_pos (by omega)] at h1
  rw [← Array.getElem?_toList, h1, List.getElem?_eq_getElem h]
  rfl
set_option maxRecDepth 100000 in
set_option maxHeartbeats 2000000 in
theorem snaps_seqN (n : Nat) (hn : n = 6) (m : List (ByteArray × Ct)) (hk : ∀ p ∈ m, p.1.size ≤ maxLen) (hlen : m.length ≤ 1000000) (hne : m ≠ []) (hon : (m.map (·.1)).Nodup) (b mb lo hi : Nat) (w : World) (hlh : hi ≤ w.heap.size ∧ ¬ (lo ≤ b ∧ b < hi) ∧ ¬ (lo ≤ mb ∧ mb < hi)) (hbox : Boxed w b tS (.map (some mb))) (hm : IsMap encS w mb (held m)) (hst : Stamp w mb) :
    Seq Fence.wide n Try.prog 66 #[.pointer (some ⟨b, 0, none⟩)] (encM m) lo hi (Whole m) (Part m) m.length w := fun L0 J Jx W hW hL hLW hJ hJx hY h0 => by
  have hmW : IsMap encS W mb (held m) := hm.after hW
  have hown := owns_any (m := held m) (fun p hp => by obtain ⟨q, hq, rfl⟩ := List.mem_map.1 hp; exact hk q hq) (by unfold held; rw [List.length_map]; exact Nat.le_trans hlen (by decide)) hmW (hst.of_heap (hW.block mb hm.lt))
  have hboxW : Boxed W b tS (.map (some mb)) := (hW.block b hbox.lt).trans hbox
  have HBX := Lib.hid hboxW
  have HM := Lib.hid hmW
  have HLH := Lib.hid hlh
  have HLT : Hid (b < w.heap.size ∧ mb < w.heap.size) := ⟨hbox.lt, hm.lt⟩
  have H0 := Lib.hid h0
  have HJ := Lib.hid hJ
  have HY := Lib.hid hY
  have HOW := Lib.hid hown
  have HON := Lib.hid hon
  have hNW := hW.size
  have b1 := hboxW.cell
  have HMK : Hid (∀ w, CallsIn Fence.wide (n - 1) Try.prog 67 #[.map (some mb)] w fun e w' => e = .returned (.func (.func 84) #[] #[.pointer (some ⟨w.heap.size, 0, none⟩)]) ∧ w' = w.alloc (.cells #[.map (some mb)] tS)) := by
    subst hn
    exact fun w => Try.maps_Keys_67 _ _
  have HSO : Hid (CallsIn Fence.wide (n - 1) Try.prog 45 #[.func (.func 84) #[] #[.pointer (some ⟨W.heap.size, 0, none⟩)]] (W.alloc (.cells #[.map (some mb)] tS)) fun e W2 => ∃ L g cap cur, Ordered m L ∧ e = .returned (.slice (some ⟨g, 0, none⟩) L.length cap) ∧ W2.heap[g]? = some (.cells cur 9 (0, 0)) ∧ (∀ i (h : i < L.length), cur[i]? = some (.string ⟨L[i].toArray⟩)) ∧ W.heap.size ≤ g ∧ Below W.heap.size W W2) := by
    subst hn
    exact sorted_any m hlen hne mb W HOW.out
  clear hn hlh
  clear hbox hm hst hW hJ hJx hY h0 hmW hboxW hown hon
  refine callsIn_of_wp Try.func66 rfl trivial ?_ rfl
  simp only [Try.ntmps66, List.size_toArray, List.length_cons, List.length_nil, Nat.reduceAdd, Nat.reduceSub, Array.replicate_succ, Array.replicate_zero, List.push_toArray, List.append_toArray, List.nil_append, List.cons_append]
  gi_wp2_with fail
  refine ⟨trivial, fun h => (by cases h), (HMK.out _).mono ?_⟩
  rintro e w' ⟨rfl, rfl⟩
  gi_wp2_with fail
  refine ⟨trivial, fun h => (by cases h), HSO.out.mono ?_⟩
  rintro e W2 ⟨L, g, cap, cur, hord, rfl, hh, hcur, hgW, hW2⟩
  have HG : Hid (AtN b mb g cur m L J 0 W2) := ⟨(hW2.block b (by have := HLT.out; omega)).trans HBX.out, HM.out.after hW2, hh, [], rfl, own_below HJ.out H0.out hW2⟩
  have HC := Lib.hid hcur
  have HGW := Lib.hid hgW
  have HO := Lib.hid hord
  have hLL : L.length ≤ 1000000 := by have := hord.length; omega
  clear hh hcur hW2 hgW HMK HSO HBX HM H0 HOW b1 hord
  gi_wp2
  gi_loopw [9] (fun iv wr => ∃ i : Nat, iv = .int .i64 (i : Int) ∧ i ≤ L.length ∧ AtN b mb g cur m L J i wr) (fun iv _ => L.length - (RowKit.intOf iv).toNat)
  case atStart => exact ⟨0, rfl, Nat.zero_le _, HG.out⟩
  case round =>
    clear HG
    obtain ⟨i, rfl, hi, hat⟩ := hrel
    by_cases hlt : i < L.length
    · have hlt' : (i : Int) < (L.length : Int) := by omega
      obtain ⟨pre, hp1, hp2⟩ := hat.inv
      obtain ⟨p, hpm, hpk⟩ := HO.out.mem (List.getElem_mem hlt)
      have hpb : p.1 = ⟨L[i].toArray⟩ := by rw [← hpk]; rfl
      have hplen : pre.length < m.length := by
        have h1 := congrArg List.length hp1
        rw [List.length_map, List.length_take] at h1
        have := HO.out.length
        omega
      obtain ⟨fn, tmps, assign, body, hy, hR⟩ := HY.out pre ⟨p, hpm⟩ wr hp2 hplen
      change Sem.run Try.prog (Instr.yield L0 #[.string p.1, encK p.2]) _ = _ at hy
      have HR := Lib.hid hR
      have HAT := Lib.hid hat
      have hmap := hat.map
      have hget := get_held HON.out p hpm
      have hlk : ∀ {oi : Oper} {a : Act} {q r : Operand}, oi.op = .lookup tS q r false → a.eval q = .map (some mb) → a.eval r = .string p.1 → (execOp a.eval oi).run Try.prog wr = .ok (.value (encK p.2)) wr :=
        fun ho h1 h2 => exec_look1 und_S (zero_S _) hmap (some (encK p.2)) hget ho h1 h2
      have d1 := hat.box.cell
      have e1 : wr.cell? ⟨g, i, none⟩ = some (.string p.1) := by rw [hpb]; exact (cell_of_row wr g i _ _ _ hat.row).trans (HC.out i hlt)
      have HPRE : Hid ((pre ++ [(⟨p, hpm⟩ : El m)]).map (fun x => keyOf x.1) = L.take (i + 1)) := by
        show _ = _
        rw [List.map_append, hp1, List.take_add_one, List.getElem?_eq_getElem hlt, ← hpk]
        rfl
      clear hR hat hp1 hp2 hget hpk hpb hplen
      gi_wp2_with (refine KnownIn.value rfl rfl (hlk rfl rfl rfl) ?_)
      refine ⟨fun h => (by cases h), HR.out.mono ?_⟩
      rintro e W6 (⟨rfl, hJ6, hk6⟩ | ⟨rfl, hJx6⟩)
      · have hat := HAT.out
        have hbl := HLT.out
        have hml := hat.map.lt
        have hgl := (Array.getElem?_eq_some_iff.1 hat.row).1
        have hgw := HGW.out
        obtain ⟨hh1, hh2, hh3⟩ := HLH.out
        have hbw := hat.box.lt
        have HN : Hid (AtN b mb g cur m L J (i + 1) W6) := ⟨(hk6.2 b hbw (by omega) hh2).trans hat.box, hat.map.of_heap (hk6.2 mb hml (by omega) hh3), (hk6.2 g hgl (by omega) (by omega)).trans hat.row, _, HPRE.out, hJ6⟩
        clear hJ6 hk6 hy hmap hlk d1 e1 hat hbl hml hgl hgw hbw hh1 hh2 hh3 HAT
        gi_wp2
        exact ⟨⟨i + 1, by go_num, by omega, HN.out⟩, by simp [RowKit.intOf]; omega⟩
      · have HX6 := Lib.hid hJx6
        clear hJx6 hy hmap hlk d1 e1 HAT
        gi_wp2
        refine bodyPost_ret (results_none rfl _ _ _) rfl ?_
        exact ⟨⟨_, rfl⟩, .inr ⟨_, ⟨L, HO.out, by rw [HPRE.out]; exact List.take_prefix _ _⟩, HX6.out⟩⟩
    · have hlt' : ¬ (i : Int) < (L.length : Int) := by omega
      have hE : i = L.length := by omega
      obtain ⟨pre, hp1, hp2⟩ := hat.inv
      rw [hE, List.take_length] at hp1
      have HP := Lib.hid hp1
      have HJ2 := Lib.hid hp2
      clear hat hp1 hp2 hi hlt hE
      gi_wp2
      go_end0
      exact ⟨⟨_, rfl⟩, .inl ⟨pre, by unfold Whole; rw [HP.out]; exact HO.out, HJ2.out⟩⟩
end Go.Proofs.Ytbgfccanbgpjiaa.O.I.Sn
namespace Go.Proofs.Ytbgfccanbgpjiaa.O.I.Sn
open Go Go.RowKit Go.Lib Go.Shelf RangeMap KM
attribute [local go_sem] Oper.semAt_some
theorem sorted_none (mb : Nat) (W : World) (hm : IsMap encS W mb []) : CallsIn Fence.wide 5 Try.prog 45 #[.func (.func 84) #[] #[.pointer (some ⟨W.heap.size, 0, none⟩)]] (W.alloc (.cells #[.map (some mb)] tS)) fun e W2 => e = .returned (.slice none 0 0) ∧ Below W.heap.size W W2 := by
  have hown : W.ownsMap Try.prog 9 (fun _ => some ((DataW.nil : DataW Unit), [])) mb 0 (.map []) := by
    obtain ⟨es, clock, hb, hh⟩ := hm
    obtain ⟨l⟩ := es
    cases l with
    | cons e r => unfold Holds at hh; simp at hh
    | nil => exact ⟨#[], clock, hb, ⟨by simp, MapKept.stamped_empty clock, by simp⟩, Nat.le_refl _, rfl⟩
  refine (Try.slices_Sorted_keys_45_67 mb 0 _ _ W hown (by show 0 ≤ maxLen; omega) (by show 0 * 16 ≤ 140737488355328; omega)).mono ?_
  rintro e W2 ⟨v, ss, rfl, hS, -, hnil, hb⟩
  have hss : ss = [] := List.perm_nil.1 hS
  exact ⟨by rw [hnil.2 hss], ((Below.refl _ _).alloc (Nat.le_refl _) _).trans (hb.mono (by simp))⟩
set_option maxRecDepth 100000 in
set_option maxHeartbeats 2000000 in
theorem snaps_seq0 (n : Nat) (hn : n = 6) (b mb lo hi : Nat) (w : World) (hbox : Boxed w b tS (.map (some mb))) (hm : IsMap encS w mb []) :
    Seq Fence.wide n Try.prog 66 #[.pointer (some ⟨b, 0, none⟩)] (encM []) lo hi (Whole []) (Part []) 0 w := fun L0 J Jx W hW hL hLW hJ hJx hY h0 => by
  have hmW : IsMap encS W mb [] := hm.after hW
  have hboxW : Boxed W b tS (.map (some mb)) := (hW.block b hbox.lt).trans hbox
  have H0 := Lib.hid h0
  have HJ := Lib.hid hJ
  have b1 := hboxW.cell
  have HMK : Hid (∀ w, CallsIn Fence.wide (n - 1) Try.prog 67 #[.map (some mb)] w fun e w' => e = .returned (.func (.func 84) #[] #[.pointer (some ⟨w.heap.size, 0, none⟩)]) ∧ w' = w.alloc (.cells #[.map (some mb)] tS)) := by
    subst hn
    exact fun w => Try.maps_Keys_67 _ _
  have HSO : Hid (CallsIn Fence.wide (n - 1) Try.prog 45 #[.func (.func 84) #[] #[.pointer (some ⟨W.heap.size, 0, none⟩)]] (W.alloc (.cells #[.map (some mb)] tS)) fun e W2 => e = .returned (.slice none 0 0) ∧ Below W.heap.size W W2) := by
    subst hn
    exact sorted_none mb W hmW
  clear hn hbox hm hW hL hLW hJ hJx hY h0 hmW hboxW
  refine callsIn_of_wp Try.func66 rfl trivial ?_ rfl
  simp only [Try.ntmps66, List.size_toArray, List.length_cons, List.length_nil, Nat.reduceAdd, Nat.reduceSub, Array.replicate_succ, Array.replicate_zero, List.push_toArray, List.append_toArray, List.nil_append, List.cons_append]
  gi_wp2_with fail
  refine ⟨trivial, fun h => (by cases h), (HMK.out _).mono ?_⟩
  rintro e w' ⟨rfl, rfl⟩
  gi_wp2_with fail
  refine ⟨trivial, fun h => (by cases h), HSO.out.mono ?_⟩
  rintro e W2 ⟨rfl, hW2⟩
  have HG : Hid (J [] W2) := own_below HJ.out H0.out hW2
  clear hW2 HMK HSO H0 b1
  gi_wp2
  gi_loopw [9] (fun iv wr => iv = .int .i64 0 ∧ J [] wr) (fun _ _ => 0)
  case atStart => exact ⟨rfl, HG.out⟩
  case round =>
    clear HG
    obtain ⟨rfl, hat⟩ := hrel
    have HJ2 := Lib.hid hat
    clear hat
    gi_wp2
    go_end0
    exact ⟨⟨_, rfl⟩, .inl ⟨[], ⟨[], List.Perm.refl _, by simp⟩, HJ2.out⟩⟩
end Go.Proofs.Ytbgfccanbgpjiaa.O.I.Sn
namespace Go.Proofs.Ytbgfccanbgpjiaa.O.I
open Go Go.RowKit Go.Lib KM
attribute [local go_sem] Oper.semAt_some
theorem refname_is {s : ByteArray} {b : Bool} (h : nm s = b) (hs : s.size ≤ 9223372036854775807) (w : World) : Calls Try.prog 43 #[.string s] w fun e w' => e = .returned (.bool b) ∧ w = w' := h ▸ O.refName_any s w hs
theorem run_zs0 (W : World) : (Instr.buildSlice 36 0 #[]).run Try.prog W = .ok (.slice (some ⟨W.heap.size, 0, none⟩) 0 0) (W.alloc (.cells #[] 42 (0, 0))) := by kernel_rfl
theorem exec_slice0 {T : TypeId} {n : Nat} {W W' : World} {v : Value} {vs : Array (Nat × Value)} (hr : (Instr.buildSlice T n vs).run Try.prog W = .ok v W') {oi : Oper} {a : Act} {parts : Array (Nat × Operand)} (ho : oi.op = .buildSlice T n parts)
    (hp : (parts.toList.map fun (i, x) => (i, a.eval x)) = vs.toList) : (execOp a.eval oi).run Try.prog W = .ok (.value v) W' := by
  have hp' : (parts.map fun (i, x) => (i, a.eval x)) = vs := by
    apply Array.toList_inj.1
    rw [Array.toList_map]
    exact hp
  subst hp'
  unfold execOp
  simp only [ho, Sem.run_bind, hr, Result.andThen_ok]
  rfl
theorem wpList_app {ops : Array Oper} {rest : List Oper} {o : Oper} {a : Act} {Q : Exit → Act → World → Prop} {W W' : World} {v sl sr : Value} {t : TypeId} {s x : Operand}
    (hg : o.guard = none) (hop : o.op = Op.call { callee := Callee.builtin Builtin.append, args := #[s, x], argTypes := #[t, t] }) (hrun : (Builtin.append_ #[t, t] o.type #[sl, sr]).run Try.prog W = .ok v W') (hs : a.eval s = sl) (hx : a.eval x = sr)
    (hn : wpList Try.prog ops Q rest (a.put o.dst v) W') : wpList Try.prog ops Q (o :: rest) a W := by
  refine wpList_plain hg fun _ hK => ?_
  unfold Oper.wp execOp
  simp only [hop, resolve, invoke, builtin, Sem.run_bind, Sem.run_pure, Result.andThen_ok, List.map_toArray, List.map_cons, List.map_nil, hs, hx, hrun]
  exact hK _ _ hn
theorem twin_none {l : List Zn} {j : Nat} (h : j < l.length) (hn : ∀ k y, k < j → l[k]? = some y → y.name ≠ l[j].name) : KM.get l[j].name (roomsZ (l.take j)) = none := by
  cases hx : KM.get l[j].name (roomsZ (l.take j)) with
  | none => rfl
  | some v =>
    obtain ⟨z, hz, he, -⟩ := rooms_some hx
    obtain ⟨i, hi, hie⟩ := List.getElem_of_mem hz
    have hil : i < j := by rw [List.length_take] at hi; omega
    have hzi : l[i]'(by omega) = z := by rw [← hie, List.getElem_take]
    exact absurd he (hn i z hil (by rw [List.getElem?_eq_getElem (by omega), hzi]))
theorem twin_some {l : List Zn} {j k : Nat} (h : j < l.length) (hk : k < j) (he : (l[k]'(by omega)).name = l[j].name) : ∃ v, KM.get l[j].name (roomsZ (l.take j)) = some v := by
  cases hx : KM.get l[j].name (roomsZ (l.take j)) with
  | some v => exact ⟨v, rfl⟩
  | none =>
    refine absurd he (rooms_none hx (l[k]'(by omega)) ?_)
    have h1 : (l.take j)[k]'(by rw [List.length_take]; omega) = l[k]'(by omega) := List.getElem_take
    rw [← h1]
    exact List.getElem_mem _
theorem inR_iff (n : Int) : inR n = true ↔ 0 ≤ n ∧ n ≤ 1125899906842624 := by
  unfold inR
  simp
theorem inR_no {n : Int} (h : n < 0 ∨ 1125899906842624 < n) : inR n = false := by
  rw [← Bool.not_eq_true, inR_iff]
  omega
def RNewA (l : List Zn) (w : World) (e : Ending) (w' : World) : Prop := ∃ q, e = .returned (.pointer (if zonesB l then some ⟨q, 0, none⟩ else none)) ∧
  (zonesB l = true → w.heap.size ≤ q ∧ ∃ s : Sl, BoxQ w' q ⟨s, nilS, nilS, nilS⟩ ∧ w'.ownsRow w.heap.size 42 2 (encSl s) l.length (catZ l)) ∧ Below w.heap.size w w'
theorem rnone {l : List Zn} {w w' : World} (h : zonesB l = false) (hb : Below w.heap.size w w') : RNewA l w (.returned (.pointer none)) w' := by
  refine ⟨0, by rw [h]; rfl, fun e => ?_, hb⟩
  rw [h] at e
  cases e
set_option maxRecDepth 100000 in
set_option maxHeartbeats 4000000 in
theorem ref_new (v : Value) (l : List Zn) (w : World) (hz : ZonesIn w v l) (hf : ∀ z ∈ l, FitZ z) : Calls Try.prog 20 #[v] w fun e w' => RNewA l w e w' := by
  have HZ := Lib.hid hz
  have HF := Lib.hid hf
  obtain ⟨o, cp, rfl, hmx, hzs⟩ := hz
  have HZS := Lib.hid hzs
  clear hzs hf
  go_enter Try.func20, Try.ntmps20
  by_cases h1 : (l.length : Int) < 1
  · have HX : Hid (zonesB l = false) := by
      show _ = _
      rw [← Bool.not_eq_true, zonesB_iff]
      omega
    clear HZS HZ HF
    go_wp2
    go_ret
    exact rnone HX.out (Below.refl _ _)
  by_cases h16 : (16 : Int) < (l.length : Int)
  · have HX : Hid (zonesB l = false) := by
      show _ = _
      rw [← Bool.not_eq_true, zonesB_iff]
      omega
    clear HZS HZ HF
    go_wp2
    go_ret
    exact rnone HX.out (Below.refl _ _)
  have HN16 : Hid (1 ≤ l.length ∧ l.length ≤ 16) := by
    show _ ∧ _
    omega
  go_wp2
  go_loopw [3] (fun iv wr => ∃ j : Nat, iv = .int .i64 (j : Int) ∧ j ≤ l.length ∧ GoodZ (l.take j) ∧ Below w.heap.size w wr) (fun iv _ => l.length - (RowKit.intOf iv).toNat)
  case atStart => exact ⟨0, rfl, Nat.zero_le _, ⟨fun z hz => (by cases hz), List.nodup_nil⟩, Below.refl _ _⟩
  case round =>
    obtain ⟨j, rfl, hj, hgood, hlow⟩ := hrel
    have HGOOD := Lib.hid hgood
    have HW := Lib.hid hlow
    clear hgood hlow
    by_cases hlt : j < l.length
    · have hlt' : (j : Int) < (l.length : Int) := by omega
      obtain ⟨g, off, rfl, hgw, hrow⟩ := HZS.out j hlt
      have HFLS := Lib.hid (good_not hlt)
      have HGN := Lib.hid (good_next hlt HGOOD.out)
      have HTN := Lib.hid (twin_none hlt)
      have HTS := Lib.hid (fun k hk => twin_some (k := k) hlt hk)
      have HFZ := Lib.hid (HF.out l[j] (List.getElem_mem hlt))
      obtain ⟨z, hzz⟩ : ∃ z, l[j] = z := ⟨_, rfl⟩
      rw [hzz] at hrow HFLS HGN HTN HTS HFZ
      have z0 : wr.cell? ⟨g, off + j * 2, none⟩ = some (.string z.name) := (HW.out.cell (p := ⟨g, off + j * 2, none⟩) hgw).trans (hrow 0 _ rfl)
      have z1 : wr.cell? ⟨g, off + j * 2 + 1, none⟩ = some (.int .i64 z.room) := (HW.out.cell (p := ⟨g, off + j * 2 + 1, none⟩) hgw).trans (hrow 1 _ rfl)
      have HGW := Lib.hid hgw
      have HZ0 : Hid (w.cell? ⟨g, off + j * 2, none⟩ = some (.string z.name)) := hrow 0 _ rfl
      clear hrow hgw hzz HGOOD
      obtain ⟨bn, hbn⟩ : ∃ b, nm z.name = b := ⟨_, rfl⟩
      have HBN := Lib.hid hbn
      clear hbn
      go_wp2_with (fail)
      refine (refname_is HBN.out HFZ.out.1 _).mono ?_
      rintro e W2 ⟨rfl, rfl⟩
      cases bn with
      | false =>
        have HX := Lib.hid (HFLS.out (.inr (.inl HBN.out)))
        go_wp2
        go_ret
        exact rnone HX.out HW.out
      | true =>
        by_cases hn0 : z.room < 0
        · have HX := Lib.hid (HFLS.out (.inr (.inr (inR_no (.inl hn0)))))
          go_wp2
          go_ret
          exact rnone HX.out HW.out
        by_cases hn1 : 1125899906842624 < z.room
        · have HX := Lib.hid (HFLS.out (.inr (.inr (inR_no (.inr hn1)))))
          go_wp2
          go_ret
          exact rnone HX.out HW.out
        have HBR : Hid (inR z.room = true) := (inR_iff _).2 ⟨by omega, by omega⟩
        go_wp2
        clear z0 z1
        go_loopw [4] (fun iv W => ∃ k : Nat, iv = .int .i64 (k : Int) ∧ k ≤ j ∧ (∀ i y, i < k → l[i]? = some y → y.name ≠ z.name) ∧ Below w.heap.size w W) (fun iv _ => j - (RowKit.intOf iv).toNat)
        case atStart => exact ⟨0, rfl, Nat.zero_le _, fun i _ hi => absurd hi (by omega), HW.out⟩
        case round =>
          obtain ⟨k, rfl, hk, hno, hlow⟩ := hrel
          have HNO := Lib.hid hno
          clear HW
          have HW := Lib.hid hlow
          clear hno hlow
          by_cases hkj : k < j
          · have hkj' : (k : Int) < (j : Int) := by omega
            have hkl' : (k : Int) < (l.length : Int) := by omega
            obtain ⟨g2, off2, he2, -, hrow⟩ := HZS.out k (by omega)
            cases he2
            obtain ⟨y, hyy⟩ : ∃ y, l[k]'(by omega) = y := ⟨_, rfl⟩
            rw [hyy] at hrow
            have HY0 : Hid (w.cell? ⟨g, off + k * 2, none⟩ = some (.string y.name)) := hrow 0 _ rfl
            have HYY := Lib.hid hyy
            clear hrow hyy
            go_upto_region 11 with (fail)
            refine wp_region_held_drew (S := fun V => Below w.heap.size w V) (by kernel_rfl) HW.out.drew (fun _ => ?_)
            refine HeldBy.gen (fun V => Below w.heap.size w V) HW.out.drew ?_
            clear HW
            rintro U0 HS
            refine HeldBy.tn (i := 0) rfl HS ?_
            refine HeldBy.tn (i := 1) rfl HS ?_
            refine HeldBy.tn (i := 2) rfl HS ?_
            refine HeldBy.tn (i := 3) rfl HS ?_
            refine HeldBy.tk (i := 4) (v := .string y.name) rfl (fun V hV => by have hc : V.cell? ⟨g, off + k * 2, none⟩ = some (.string y.name) := (hV.cell (p := ⟨g, off + k * 2, none⟩) HGW.out).trans HY0.out; first | (go_simp; rfl) | (go_simp; done)) HS ?_
            refine HeldBy.tn (i := 5) rfl HS ?_
            refine HeldBy.tn (i := 6) rfl HS ?_
            refine HeldBy.tn (i := 7) rfl HS ?_
            refine HeldBy.tn (i := 8) rfl HS ?_
            refine HeldBy.tk (i := 9) (v := .string z.name) rfl (fun V hV => by have hc : V.cell? ⟨g, off + j * 2, none⟩ = some (.string z.name) := (hV.cell (p := ⟨g, off + j * 2, none⟩) HGW.out).trans HZ0.out; first | (go_simp; rfl) | (go_simp; done)) HS ?_
            refine HeldBy.tk (i := 10) (v := .bool (decide (y.name = z.name))) rfl (fun _ _ => exec_eqS rfl rfl rfl rfl) HS ?_
            refine wpAnyH_done (by kernel_rfl) ?_ _
            have HW := Lib.hid HS
            clear HS
            by_cases hsm : y.name = z.name
            · rw [decide_eq_true hsm]
              have HX := Lib.hid (HFLS.out (.inl (HTS.out k hkj (by rw [HYY.out]; exact hsm))))
              go_wp2
              go_ret
              exact rnone HX.out HW.out
            · rw [decide_eq_false hsm]
              have HN2 : Hid (∀ i y, i < k + 1 → l[i]? = some y → y.name ≠ z.name) := fun i y' hi hy' => by
                rcases Nat.lt_or_ge i k with h | h
                · exact HNO.out i y' h hy'
                · obtain rfl : i = k := by omega
                  rw [List.getElem?_eq_getElem (by omega), HYY.out] at hy'
                  cases hy'
                  exact hsm
              go_wp2
              go_roundw
              case rel => exact ⟨k + 1, by go_num, by omega, HN2.out, HW.out⟩
              case measure => simp [RowKit.intOf]; omega
          · have hkj' : ¬ (k : Int) < (j : Int) := by omega
            obtain rfl : k = j := by omega
            have HN2 : Hid (GoodZ (l.take (k + 1))) := HGN.out (HTN.out HNO.out) HBN.out HBR.out
            go_wp2
            go_roundw
            case rel => exact ⟨k + 1, by go_num, by omega, HN2.out, HW.out⟩
            case measure => simp [RowKit.intOf]; omega
    · have hlt' : ¬ (j : Int) < (l.length : Int) := by omega
      have hE : j = l.length := by omega
      rw [hE, List.take_length] at HGOOD
      have HB : Hid (zonesB l = true) := (zonesB_iff l).2 ⟨HN16.out.1, HN16.out.2, HGOOD.out⟩
      obtain ⟨g, off, c, hv, hg, hr⟩ := HZ.out.row HN16.out.1
      cases hv
      have hbz : Below wr.heap.size wr (wr.alloc (.cells #[] 42 (0, 0))) := (Below.refl _ _).alloc (Nat.le_refl _) _
      have hwz := HW.out.trans (hbz.mono HW.out.size)
      have hr1 : World.rangeAt (wr.alloc (.cells #[] 42 (0, 0))) g off (catZ l) := fun i u hu => (hwz.cell (p := ⟨g, off + i, none⟩) hg).trans (hr i u hu)
      obtain ⟨v', W', hrun, hown, hb, -⟩ := add_rows zone_rowy w.heap.size _ _ 0 [] (own_empty (W := wr) HW.out.size) g off l.length cp (catZ l) (catZ_length l) hr1 (catZ_one l) (by have := HN16.out.2; omega) hwz.size 36
      obtain ⟨s, rfl, hsn⟩ := own_sl hown
      have HW : Hid (Below w.heap.size w W') := hwz.trans hb
      have HOWN := Lib.hid hown
      have HRUN := Lib.hid hrun
      have HQ := Lib.hid (built_q s)
      have hz0 := run_zs0 wr
      have HX : Hid (RNewA l w (.returned (.pointer (some ⟨W'.heap.size, 0, none⟩))) (W'.alloc (.cells (cellsQ ⟨s, nilS, nilS, nilS⟩) 87 (0, 0)))) := by
        have hb2 : Below W'.heap.size W' (W'.alloc (.cells (cellsQ ⟨s, nilS, nilS, nilS⟩) 87 (0, 0))) := (Below.refl _ _).alloc (Nat.le_refl _) _
        refine ⟨W'.heap.size, by rw [HB.out]; rfl, fun _ => ⟨HW.out.size, s, heap_alloc_new W' _, ?_⟩, HW.out.trans (hb2.mono HW.out.size)⟩
        have h := own_after hown hb2
        rw [Nat.zero_add, List.nil_append] at h
        exact h
      clear hown hrun hb hr hr1 hg hbz hwz HB HGOOD HZ HF HZS
      go_wp2_with (first | (refine wpList_got rfl (exec_slice0 hz0 rfl rfl) ?_) | ((with_reducible refine wpList_app rfl rfl HRUN.out ?_ ?_ ?_); rfl; rfl) | ((with_reducible refine wpList_build_to rfl 87 _ rfl (cellsQ ⟨s, nilS, nilS, nilS⟩) ?_ ?_); exact HQ.out))
      go_ret
      exact HX.out
end Go.Proofs.Ytbgfccanbgpjiaa.O.I
namespace Go.Proofs.Ytbgfccanbgpjiaa.O.I
open Go Go.RowKit Go.Lib KM
attribute [local go_sem] Oper.semAt_some
def FitT (s : ByteArray) : Prop := s.size ≤ 9223372036854775807
def eqC (a b : Cl) : Bool := decide (a = b)
theorem exec_eqN {W : World} {p q : Cl} {v : Bool} {oi : Oper} {a : Act} {x y : Operand} {t : TypeId} (ho : oi.op = .binOp .eql 27 x y t) (hx : a.eval x = encC p) (hy : a.eval y = encC q) (hv : eqC p q = v) :
    (execOp a.eval oi).run Try.prog W = .ok (.value (.bool v)) W := exec_eqC ho hx hy hv
end Go.Proofs.Ytbgfccanbgpjiaa.O.I
