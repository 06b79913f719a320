/- The document's Object: an object's bytes, or the error. Laid by mkrefobj.py. -/
import Derived.Test.YtacbfpgknfcimaaCRef
import Derived.Test.YtacbfpgknfcimaaHeldTwo
namespace Go.HeldBy
open Go
section
variable {P : Program} {ops : Array Oper} {Q : Exit → Act → World → Prop}
theorem op_callE {i : Nat} {oi : Oper} {f : FuncId} {args : Array Value} {K : Act → World → Prop} {a : Act} {mk : Value → Act} {w : World} (hi : ops[i]? = some oi) (hw : Region.wanted oi (yielded ops a.tmps) = true)
    (hv : (execOp a.eval oi).run P w = .ok (.enter f args) w) (he : ∀ v, a.put oi.dst v = mk v) (h : Calls P f args w fun e w' => ∃ v, e = .returned v ∧ K (mk v) w') : wpOp P ops Q i K a w := by
  unfold wpOp
  simp only [hi, hw, if_true]
  refine .inl ?_
  unfold Oper.wp
  rw [hv]
  refine h.mono fun e w' hh => ?_
  obtain ⟨v, rfl, h2⟩ := hh
  show K (a.put oi.dst v) w'
  rw [he v]
  exact h2
end
end Go.HeldBy
namespace Go.Proofs.Ytacbfpgknfcimaa.C
open Go.RowKit T O
open Go.Lib hiding intOf

theorem fit_of' {o : O.Obj} (h : Fits o) : O.Fit o := ⟨h.name, h.cls, h.zone, h.node, h.claim, h.volume, h.source⟩
theorem exec_append {o : Oper} {a : Act} {W W' : World} {s x : Operand} {v y v' : Value} (ho : o.op = .call { callee := .builtin .append, args := #[s, x], argTypes := #[30, 30] }) (hs : a.eval s = v) (hx : a.eval x = y)
    (hr : (Builtin.append_ #[30, 30] o.type #[v, y]).run Try.prog W = .ok v' W') : (execOp a.eval o).run Try.prog W = .ok (.value v') W' := by
  unfold execOp
  simp only [ho, resolve, invoke, builtin, Sem.run_bind, Sem.run_pure, Result.andThen_ok, List.map_toArray, List.map_cons, List.map_nil, hs, hx]
  rw [hr]
  rfl
theorem bytes_new (V : World) (k : Int) (h : 0 ≤ k ∧ k ≤ 255) : BytesIn (V.alloc (.cells #[.int .u8 k] 5 (0, 0))) (.slice (some ⟨V.heap.size, 0, none⟩) 1 1) (byteB k) := by
  refine .inr ⟨V.heap.size, 0, 1, rfl, Nat.le_refl _, by decide, by simp, fun i hi => ?_⟩
  obtain rfl : i = 0 := by have : i < 1 := hi; omega
  rw [World.cell?_alloc_mark]
  show some (Value.int .u8 k) = some (bv (UInt8.ofNat k.toNat))
  rw [byte_back h]
theorem held_new (V : World) (B : Nat) (hB : B ≤ V.heap.size) (k : Int) (h : 0 ≤ k ∧ k ≤ 255) : Held (V.alloc (.cells #[.int .u8 k] 5 (0, 0))) B (.slice (some ⟨V.heap.size, 0, none⟩) 1 1) (byteB k) := by
  refine ⟨rfl, .inr ⟨V.heap.size, 1, #[.int .u8 k], rfl, hB, heap_alloc_new V _, Nat.le_refl _, by decide, rfl, ?_⟩⟩
  show [Value.int .u8 k] = [bv (UInt8.ofNat k.toNat)]
  rw [byte_back h]
theorem Stage.drew {w : World} {g : Nat} {o : Go.Obj} {B : Nat} {v : Value} {l : Bytes} {W : World} {v' : Value} {cur : Bytes} {N : Nat} (h : Stage w g o B v l W v' cur N) : Stage w g o B v l W.drew v' cur N := h.below ⟨rfl, rfl, rfl, Nat.le_refl _, fun _ _ => rfl⟩
theorem Stage.alloc {w : World} {g : Nat} {o : Go.Obj} {B : Nat} {v : Value} {l : Bytes} {W : World} {v' : Value} {cur : Bytes} {N : Nat} (h : Stage w g o B v l W v' cur N) (x : Go.Obj) : Stage w g o B v l (W.alloc x) v' cur N := h.below ((Below.refl _ _).alloc (Nat.le_refl _) _)
theorem Stage.bytesNew {w : World} {g : Nat} {o : Go.Obj} {B : Nat} {v : Value} {l : Bytes} {W : World} {v' : Value} {cur : Bytes} {N : Nat} (_h : Stage w g o B v l W v' cur N) (k : Int) (hk : 0 ≤ k ∧ k ≤ 255) : BytesIn (W.alloc (.cells #[.int .u8 k] 5 (0, 0))) (.slice (some ⟨W.heap.size, 0, none⟩) 1 1) (byteB k) := bytes_new W k hk
theorem objB_ref (o : O.Obj) : objB o = ((((((((((((((((byteB o.kind ++ txtB o.name) ++ intB o.version) ++ intB o.born) ++ flagsB (o.deleting, o.hold, o.keep, o.wait)) ++ txtB o.cls) ++ intB o.size) ++ intB o.got) ++ byteB o.mode) ++ txtB o.zone) ++ txtB o.node) ++ txtB o.claim) ++ txtB o.volume) ++ txtB o.source) ++ byteB o.phase) ++ intB o.num) ++ intB o.tag) := by
  unfold objB
  simp only [List.append_assoc]
theorem wrap_pos {n : Int} (h : 0 ≤ n ∧ n < 9223372036854775808) : IntKind.u64.wrap n = n := by rw [IntKind.wrap_u64]; omega
/-- The object's box stands, and bytes of its beginning. -/
abbrev ObjAt (w : World) (o : O.Obj) (W : World) (v' : Value) (cur : Bytes) (N : Nat) : Prop := Stage w w.heap.size (.cells (cellsO o) 27 (0, 0)) w.heap.size (.slice none 0 0) [] W v' cur N

set_option maxRecDepth 100000 in
set_option maxHeartbeats 16000000 in
theorem refObject_any (o : O.Obj) (hf : Fits o) (w : World) : Calls Try.prog 13 #[encO o] w (Wrote w (rightB o) (objB o)) := by
  cases hr : rightB o with
  | false =>
    have HR := Lib.hid hr
    have hF := Lib.hid (fit_of' hf)
    clear hr
    unfold encO
    go_enter Try.func13, Try.ntmps13
    go_upto_region 1 with (fail)
    refine wp_gen (fun W => BoxO W w.heap.size o ∧ Below w.heap.size w W) ⟨BoxO.new w o, (Below.refl _ _).alloc (Nat.le_refl _) _⟩ ?_
    rintro W1 ⟨hb, hlow⟩
    go_wp2_with ((with_reducible refine wpList_load_obj ?_ rfl ?_ hb ?_); rfl; rfl)
    refine (refRight_any o _ hF.out).mono ?_
    rintro e W2 ⟨rfl, hb1⟩
    rw [HR.out]
    replace hlow := hlow.trans (hb1.mono hlow.size)
    clear hb1 hb
    go_wp2
    go_ret2
    exact ⟨hlow, _, rfl, Held.nil _ _⟩
  | true =>
  have HR := Lib.hid hr
  have hF := Lib.hid (fit_of' hf)
  have HS := Lib.hid (say_of_right (wf_of_right hr hf.version hf.born hf.num hf.tag) hr)
  have HB := Lib.hid (bits_flag o.deleting o.hold o.keep o.wait)
  have HZ1 := Lib.hid (wrap_pos HS.out.size)
  have HZ2 := Lib.hid (wrap_pos HS.out.got)
  clear hr
  unfold encO
  go_enter Try.func13, Try.ntmps13
  go_upto_region 1 with (fail)
  refine wp_gen (fun W => BoxO W w.heap.size o ∧ Below w.heap.size w W) ⟨BoxO.new w o, (Below.refl _ _).alloc (Nat.le_refl _) _⟩ ?_
  rintro W1 ⟨hb, hlow⟩
  go_wp2_with ((with_reducible refine wpList_load_obj ?_ rfl ?_ hb ?_); rfl; rfl)
  refine (refRight_any o _ hF.out).mono ?_
  rintro e W2 ⟨rfl, hb1⟩
  rw [HR.out]
  have HT : ObjAt w o W2 (.slice none 0 0) [] 100000 := ⟨hb.after hb1, Held.nil _ _, grew_of_below (hlow.trans (hb1.mono hlow.size)) _, by simp [Value.ownBlock], by simp⟩
  clear hb1 hb hlow
  go_upto_region 3 with (fail)
  refine wp_region_held_drew (S := fun W => BoxO W w.heap.size o) (by kernel_rfl) HT.obj.drew (fun _ => ?_)
  refine HeldBy.gen (fun W => ObjAt w o W (.slice none 0 0) [] 100000) HT.drew ?_
  clear HT
  rintro U3 HT
  refine HeldBy.take (i := 0) rfl (by kernel_rfl) (by kernel_rfl) (by kernel_rfl) (fun _ _ _ h => h) (by rfl) (fun _ _ => by go_simp; rfl) (by go_simp; rfl) HT.obj ?_
  refine HeldBy.take (i := 1) rfl (by kernel_rfl) (by kernel_rfl) (by kernel_rfl) (fun _ _ _ h => h) (by rfl) (fun _ h => by have c := BoxO.c0 h; go_simp; rfl) (by go_simp; rfl) HT.obj ?_
  refine HeldBy.take (i := 3) rfl (by kernel_rfl) (by kernel_rfl) (by kernel_rfl) (fun _ _ _ h => h) (by rfl) (fun _ _ => by go_simp; rfl) (by go_simp; rfl) HT.obj ?_
  refine HeldBy.take (i := 4) rfl (by kernel_rfl) (by kernel_rfl) (by kernel_rfl) (fun _ _ _ h => h) (by rfl) (fun _ h => by have c := BoxO.c1 h; go_simp; rfl) (by go_simp; rfl) HT.obj ?_
  have HM : Hid (∀ (V : World) (t : Value) (g2 : Nat), BoxO V w.heap.size o → Below w.heap.size w V → Held V w.heap.size (.slice (some ⟨g2, 0, none⟩) 1 1) (byteB o.kind) → g2 ≠ w.heap.size → BytesIn V t (txtB o.name) → Grew w (.slice none 0 0) V (.slice (some ⟨g2, 0, none⟩) 1 1) → True) := fun _ _ _ _ _ _ _ _ _ => trivial
  clear HM
  have hg0 := HT.grew.by_.size
  have hbx := HT.lt
  refine HeldBy.two (i := 2) (j := 5) (by kernel_rfl) ?_ ?_
  · refine HeldBy.op_value (i := 2) rfl (by rfl) (by go_simp; exact ⟨rfl, rfl⟩) (by go_simp; rfl) ?_
    refine ⟨(HT.alloc _).obj, ?_⟩
    have hK := held_new U3 w.heap.size hg0 o.kind HS.out.kind
    replace HT : ObjAt w o _ (.slice (some ⟨U3.heap.size, 0, none⟩) 1 1) (byteB o.kind) 100010 := ⟨(HT.alloc _).box, hK, ⟨(HT.alloc _).grew.by_, .inr ⟨_, rfl, hg0⟩⟩, by simp [Value.ownBlock]; omega, by simp [byteB]⟩
    clear hK
    refine HeldBy.callE (i := 5) rfl (by kernel_rfl) (by rfl) (by go_simp; exact ⟨rfl, rfl⟩) (by intro v; go_simp; rfl) ?_
    refine (refText_any o.name HS.out.name _).mono ?_
    rintro e V1 ⟨t1, rfl, hH1, hb1⟩
    refine .inl ⟨_, rfl, (HT.below hb1).obj, ?_⟩
    replace HT := HT.below hb1
    have hT1 := hH1.bytes
    clear hb1 hH1
    obtain ⟨v1, X1, hr1, hH2, hG2⟩ := run_append_bytes _ 30 w.heap.size _ _ HT.held t1 _ hT1 (by have := HT.len; have := txtB_len HS.out.name; omega) HT.grew.by_.size
    refine HeldBy.value (i := 6) (v := v1) (w' := X1) rfl (by kernel_rfl) (by rfl) (exec_append rfl rfl rfl hr1) (by go_simp; rfl) (HT.step hH2 hG2 (by have := txtB_len HS.out.name; omega)).obj ?_
    replace HT := HT.step hH2 hG2 (by have := txtB_len HS.out.name; omega)
    clear hr1 hH2 hG2 hT1
    refine HeldBy.take (i := 7) rfl (by kernel_rfl) (by kernel_rfl) (by kernel_rfl) (fun _ _ _ h => h) (by rfl) (fun _ _ => by go_simp; rfl) (by go_simp; rfl) HT.obj ?_
    refine wpAnyH_done (by kernel_rfl) ?_ _
    go_upto_region 4 with (fail)
    refine wp_region_held_drew (S := fun W => BoxO W w.heap.size o) (by kernel_rfl) HT.obj.drew (fun _ => ?_)
    refine HeldBy.gen (fun W => ObjAt w o W v1 ((byteB o.kind) ++ (txtB o.name)) 100310) HT.drew ?_
    clear HT
    rintro U4 HT
    refine HeldBy.take (i := 0) rfl (by kernel_rfl) (by kernel_rfl) (by kernel_rfl) (fun _ _ _ h => h) (by rfl) (fun _ _ => by go_simp; rfl) (by go_simp; rfl) HT.obj ?_
    refine HeldBy.take (i := 1) rfl (by kernel_rfl) (by kernel_rfl) (by kernel_rfl) (fun _ _ _ h => h) (by rfl) (fun _ _ => by go_simp; rfl) (by go_simp; rfl) HT.obj ?_
    refine HeldBy.take (i := 2) rfl (by kernel_rfl) (by kernel_rfl) (by kernel_rfl) (fun _ _ _ h => h) (by rfl) (fun _ h => by have c := BoxO.c2 h; go_simp; rfl) (by go_simp; rfl) HT.obj ?_
    refine HeldBy.take (i := 5) rfl (by kernel_rfl) (by kernel_rfl) (by kernel_rfl) (fun _ _ _ h => h) (by rfl) (fun _ _ => by go_simp; rfl) (by go_simp; rfl) HT.obj ?_
    refine HeldBy.take (i := 6) rfl (by kernel_rfl) (by kernel_rfl) (by kernel_rfl) (fun _ _ _ h => h) (by rfl) (fun _ h => by have c := BoxO.c3 h; go_simp; rfl) (by go_simp; rfl) HT.obj ?_
    refine HeldBy.callE (i := 3) rfl (by kernel_rfl) (by rfl) (by go_simp; exact ⟨rfl, rfl⟩) (by intro v; go_simp; rfl) ?_
    refine (refNumber_any o.version HS.out.version _).mono ?_
    rintro e V11 ⟨t11, rfl, hH1, hb1⟩
    refine .inl ⟨_, rfl, (HT.below hb1).obj, ?_⟩
    replace HT := HT.below hb1
    have hT11 := hH1.bytes
    clear hb1 hH1
    obtain ⟨v12, X12, hr1, hH2, hG2⟩ := run_append_bytes _ 30 w.heap.size _ _ HT.held _ _ hT11 (by have := HT.len; have hm : (intB o.version).length ≤ 41 := Nat.le_trans (intB_ten HS.out.version) (by decide); omega) HT.grew.by_.size
    refine HeldBy.value (i := 4) (v := v12) (w' := X12) rfl (by kernel_rfl) (by rfl) (exec_append rfl rfl rfl hr1) (by go_simp; rfl) (HT.step hH2 hG2 (Nat.le_trans (Nat.le_trans (intB_ten HS.out.version) (by decide) : (intB o.version).length ≤ 41) (by decide))).obj ?_
    replace HT := HT.step hH2 hG2 (Nat.le_trans (Nat.le_trans (intB_ten HS.out.version) (by decide) : (intB o.version).length ≤ 41) (by decide))
    clear hr1 hH2 hG2 hT11
    refine HeldBy.callE (i := 7) rfl (by kernel_rfl) (by rfl) (by go_simp; exact ⟨rfl, rfl⟩) (by intro v; go_simp; rfl) ?_
    refine (refNumber_any o.born HS.out.born _).mono ?_
    rintro e V13 ⟨t13, rfl, hH1, hb1⟩
    refine .inl ⟨_, rfl, (HT.below hb1).obj, ?_⟩
    replace HT := HT.below hb1
    have hT13 := hH1.bytes
    clear hb1 hH1
    obtain ⟨v14, X14, hr1, hH2, hG2⟩ := run_append_bytes _ 30 w.heap.size _ _ HT.held _ _ hT13 (by have := HT.len; have hm : (intB o.born).length ≤ 41 := Nat.le_trans (intB_ten HS.out.born) (by decide); omega) HT.grew.by_.size
    refine HeldBy.value (i := 8) (v := v14) (w' := X14) rfl (by kernel_rfl) (by rfl) (exec_append rfl rfl rfl hr1) (by go_simp; rfl) (HT.step hH2 hG2 (Nat.le_trans (Nat.le_trans (intB_ten HS.out.born) (by decide) : (intB o.born).length ≤ 41) (by decide))).obj ?_
    replace HT := HT.step hH2 hG2 (Nat.le_trans (Nat.le_trans (intB_ten HS.out.born) (by decide) : (intB o.born).length ≤ 41) (by decide))
    clear hr1 hH2 hG2 hT13
    refine HeldBy.take (i := 9) rfl (by kernel_rfl) (by kernel_rfl) (by kernel_rfl) (fun _ _ _ h => h) (by rfl) (fun _ _ => by go_simp; rfl) (by go_simp; rfl) HT.obj ?_
    refine wpAnyH_done (by kernel_rfl) ?_ _
    go_upto_region 5 with (fail)
    refine wp_region_held_drew (S := fun W => BoxO W w.heap.size o) (by kernel_rfl) HT.obj.drew (fun _ => ?_)
    refine HeldBy.gen (fun W => ObjAt w o W v14 ((((byteB o.kind) ++ (txtB o.name)) ++ (intB o.version)) ++ (intB o.born)) 100910) HT.drew ?_
    clear HT
    rintro U5 HT
    refine HeldBy.take (i := 0) rfl (by kernel_rfl) (by kernel_rfl) (by kernel_rfl) (fun _ _ _ h => h) (by rfl) (fun _ _ => by go_simp; rfl) (by go_simp; rfl) HT.obj ?_
    refine HeldBy.take (i := 1) rfl (by kernel_rfl) (by kernel_rfl) (by kernel_rfl) (fun _ _ _ h => h) (by rfl) (fun _ _ => by go_simp; rfl) (by go_simp; rfl) HT.obj ?_
    refine HeldBy.take (i := 2) rfl (by kernel_rfl) (by kernel_rfl) (by kernel_rfl) (fun _ _ _ h => h) (by rfl) (fun _ h => by have c := BoxO.c4 h; go_simp; rfl) (by go_simp; rfl) HT.obj ?_
    refine HeldBy.take (i := 4) rfl (by kernel_rfl) (by kernel_rfl) (by kernel_rfl) (fun _ _ _ h => h) (by rfl) (fun _ _ => by go_simp; rfl) (by go_simp; rfl) HT.obj ?_
    refine HeldBy.take (i := 5) rfl (by kernel_rfl) (by kernel_rfl) (by kernel_rfl) (fun _ _ _ h => h) (by rfl) (fun _ h => by have c := BoxO.c5 h; go_simp; rfl) (by go_simp; rfl) HT.obj ?_
    refine HeldBy.take (i := 8) rfl (by kernel_rfl) (by kernel_rfl) (by kernel_rfl) (fun _ _ _ h => h) (by rfl) (fun _ _ => by go_simp; rfl) (by go_simp; rfl) HT.obj ?_
    refine HeldBy.take (i := 9) rfl (by kernel_rfl) (by kernel_rfl) (by kernel_rfl) (fun _ _ _ h => h) (by rfl) (fun _ h => by have c := BoxO.c10 h; go_simp; rfl) (by go_simp; rfl) HT.obj ?_
    refine HeldBy.take (i := 12) rfl (by kernel_rfl) (by kernel_rfl) (by kernel_rfl) (fun _ _ _ h => h) (by rfl) (fun _ _ => by go_simp; rfl) (by go_simp; rfl) HT.obj ?_
    refine HeldBy.take (i := 13) rfl (by kernel_rfl) (by kernel_rfl) (by kernel_rfl) (fun _ _ _ h => h) (by rfl) (fun _ h => by have c := BoxO.c11 h; go_simp; rfl) (by go_simp; rfl) HT.obj ?_
    refine HeldBy.call (i := 3) (v := .int .u8 (bitN o.deleting 1)) rfl (by kernel_rfl) (by rfl) (by go_simp; exact ⟨rfl, rfl⟩) (by go_simp; rfl) ?_
    refine (bit_any o.deleting 1 _).mono ?_
    rintro e V15 ⟨rfl, hV⟩
    replace HT : ObjAt w o V15 v14 ((((byteB o.kind) ++ (txtB o.name)) ++ (intB o.version)) ++ (intB o.born)) 100910 := hV ▸ HT
    refine ⟨rfl, HT.obj, ?_⟩
    clear hV
    refine HeldBy.call (i := 6) (v := .int .u8 (bitN o.hold 2)) rfl (by kernel_rfl) (by rfl) (by go_simp; exact ⟨rfl, rfl⟩) (by go_simp; rfl) ?_
    refine (bit_any o.hold 2 _).mono ?_
    rintro e V16 ⟨rfl, hV⟩
    replace HT : ObjAt w o V16 v14 ((((byteB o.kind) ++ (txtB o.name)) ++ (intB o.version)) ++ (intB o.born)) 100910 := hV ▸ HT
    refine ⟨rfl, HT.obj, ?_⟩
    clear hV
    refine HeldBy.take (i := 7) rfl (by kernel_rfl) (by kernel_rfl) (by kernel_rfl) (fun _ _ _ h => h) (by rfl) (fun _ _ => by go_simp; rfl) (by go_simp; rfl) HT.obj ?_
    refine HeldBy.call (i := 10) (v := .int .u8 (bitN o.keep 4)) rfl (by kernel_rfl) (by rfl) (by go_simp; exact ⟨rfl, rfl⟩) (by go_simp; rfl) ?_
    refine (bit_any o.keep 4 _).mono ?_
    rintro e V17 ⟨rfl, hV⟩
    replace HT : ObjAt w o V17 v14 ((((byteB o.kind) ++ (txtB o.name)) ++ (intB o.version)) ++ (intB o.born)) 100910 := hV ▸ HT
    refine ⟨rfl, HT.obj, ?_⟩
    clear hV
    refine HeldBy.take (i := 11) rfl (by kernel_rfl) (by kernel_rfl) (by kernel_rfl) (fun _ _ _ h => h) (by rfl) (fun _ _ => by go_simp; rfl) (by go_simp; rfl) HT.obj ?_
    refine HeldBy.call (i := 14) (v := .int .u8 (bitN o.wait 8)) rfl (by kernel_rfl) (by rfl) (by go_simp; exact ⟨rfl, rfl⟩) (by go_simp; rfl) ?_
    refine (bit_any o.wait 8 _).mono ?_
    rintro e V18 ⟨rfl, hV⟩
    replace HT : ObjAt w o V18 v14 ((((byteB o.kind) ++ (txtB o.name)) ++ (intB o.version)) ++ (intB o.born)) 100910 := hV ▸ HT
    refine ⟨rfl, HT.obj, ?_⟩
    clear hV
    refine HeldBy.take (i := 15) (v := .int .u8 (flagN o.deleting o.hold o.keep o.wait : Nat)) rfl (by kernel_rfl) (by kernel_rfl) (by kernel_rfl) (fun _ _ _ h => h) (by rfl) (fun _ _ => by go_simp; exact HB.out) (by go_simp; rfl) HT.obj ?_
    refine HeldBy.value (i := 16) rfl (by kernel_rfl) (by rfl) (by go_simp; exact ⟨rfl, rfl⟩) (by go_simp; rfl) (HT.alloc _).obj ?_
    have hTb := HT.bytesNew ((flagN o.deleting o.hold o.keep o.wait : Nat)) (flagN_le _ _ _ _)
    replace HT := HT.alloc (.cells #[.int .u8 ((flagN o.deleting o.hold o.keep o.wait : Nat))] 5 (0, 0))
    obtain ⟨v19, X19, hr1, hH2, hG2⟩ := run_append_bytes _ 30 w.heap.size _ _ HT.held _ _ hTb (by have := HT.len; have hm : (byteB (flagN o.deleting o.hold o.keep o.wait : Nat)).length ≤ 41 := (by simp [byteB]); omega) HT.grew.by_.size
    refine HeldBy.value (i := 17) (v := v19) (w' := X19) rfl (by kernel_rfl) (by rfl) (exec_append rfl rfl rfl hr1) (by go_simp; rfl) (HT.step hH2 hG2 (Nat.le_trans ((by simp [byteB]) : (byteB (flagN o.deleting o.hold o.keep o.wait : Nat)).length ≤ 41) (by decide))).obj ?_
    replace HT := HT.step hH2 hG2 (Nat.le_trans ((by simp [byteB]) : (byteB (flagN o.deleting o.hold o.keep o.wait : Nat)).length ≤ 41) (by decide))
    clear hr1 hH2 hG2 hTb
    refine HeldBy.take (i := 18) rfl (by kernel_rfl) (by kernel_rfl) (by kernel_rfl) (fun _ _ _ h => h) (by rfl) (fun _ _ => by go_simp; rfl) (by go_simp; rfl) HT.obj ?_
    refine wpAnyH_done (by kernel_rfl) ?_ _
    go_upto_region 6 with (fail)
    refine wp_region_held_drew (S := fun W => BoxO W w.heap.size o) (by kernel_rfl) HT.obj.drew (fun _ => ?_)
    refine HeldBy.gen (fun W => ObjAt w o W v19 (((((byteB o.kind) ++ (txtB o.name)) ++ (intB o.version)) ++ (intB o.born)) ++ (byteB (flagN o.deleting o.hold o.keep o.wait : Nat))) 101210) HT.drew ?_
    clear HT
    rintro U6 HT
    refine HeldBy.take (i := 0) rfl (by kernel_rfl) (by kernel_rfl) (by kernel_rfl) (fun _ _ _ h => h) (by rfl) (fun _ _ => by go_simp; rfl) (by go_simp; rfl) HT.obj ?_
    refine HeldBy.take (i := 1) rfl (by kernel_rfl) (by kernel_rfl) (by kernel_rfl) (fun _ _ _ h => h) (by rfl) (fun _ _ => by go_simp; rfl) (by go_simp; rfl) HT.obj ?_
    refine HeldBy.take (i := 2) rfl (by kernel_rfl) (by kernel_rfl) (by kernel_rfl) (fun _ _ _ h => h) (by rfl) (fun _ h => by have c := BoxO.c6 h; go_simp; rfl) (by go_simp; rfl) HT.obj ?_
    refine HeldBy.take (i := 5) rfl (by kernel_rfl) (by kernel_rfl) (by kernel_rfl) (fun _ _ _ h => h) (by rfl) (fun _ _ => by go_simp; rfl) (by go_simp; rfl) HT.obj ?_
    refine HeldBy.take (i := 6) rfl (by kernel_rfl) (by kernel_rfl) (by kernel_rfl) (fun _ _ _ h => h) (by rfl) (fun _ h => by have c := BoxO.c7 h; go_simp; rfl) (by go_simp; rfl) HT.obj ?_
    refine HeldBy.take (i := 7) (v := .int .u64 o.size) rfl (by kernel_rfl) (by kernel_rfl) (by kernel_rfl) (fun _ _ _ h => h) (by rfl) (fun _ _ => by go_simp; rw [HZ1.out]) (by go_simp; rfl) HT.obj ?_
    refine HeldBy.take (i := 10) rfl (by kernel_rfl) (by kernel_rfl) (by kernel_rfl) (fun _ _ _ h => h) (by rfl) (fun _ _ => by go_simp; rfl) (by go_simp; rfl) HT.obj ?_
    refine HeldBy.take (i := 11) rfl (by kernel_rfl) (by kernel_rfl) (by kernel_rfl) (fun _ _ _ h => h) (by rfl) (fun _ h => by have c := BoxO.c8 h; go_simp; rfl) (by go_simp; rfl) HT.obj ?_
    refine HeldBy.take (i := 12) (v := .int .u64 o.got) rfl (by kernel_rfl) (by kernel_rfl) (by kernel_rfl) (fun _ _ _ h => h) (by rfl) (fun _ _ => by go_simp; rw [HZ2.out]) (by go_simp; rfl) HT.obj ?_
    refine HeldBy.callE (i := 3) rfl (by kernel_rfl) (by rfl) (by go_simp; exact ⟨rfl, rfl⟩) (by intro v; go_simp; rfl) ?_
    refine (refText_any o.cls HS.out.cls _).mono ?_
    rintro e V20 ⟨t20, rfl, hH1, hb1⟩
    refine .inl ⟨_, rfl, (HT.below hb1).obj, ?_⟩
    replace HT := HT.below hb1
    have hT20 := hH1.bytes
    clear hb1 hH1
    obtain ⟨v21, X21, hr1, hH2, hG2⟩ := run_append_bytes _ 30 w.heap.size _ _ HT.held _ _ hT20 (by have := HT.len; have hm : (txtB o.cls).length ≤ 41 := txtB_len HS.out.cls; omega) HT.grew.by_.size
    refine HeldBy.value (i := 4) (v := v21) (w' := X21) rfl (by kernel_rfl) (by rfl) (exec_append rfl rfl rfl hr1) (by go_simp; rfl) (HT.step hH2 hG2 (Nat.le_trans (txtB_len HS.out.cls : (txtB o.cls).length ≤ 41) (by decide))).obj ?_
    replace HT := HT.step hH2 hG2 (Nat.le_trans (txtB_len HS.out.cls : (txtB o.cls).length ≤ 41) (by decide))
    clear hr1 hH2 hG2 hT20
    refine HeldBy.callE (i := 8) rfl (by kernel_rfl) (by rfl) (by go_simp; exact ⟨rfl, rfl⟩) (by intro v; go_simp; rfl) ?_
    refine (refNumber_any o.size ⟨HS.out.size.1, by have := HS.out.size.2; omega⟩ _).mono ?_
    rintro e V22 ⟨t22, rfl, hH1, hb1⟩
    refine .inl ⟨_, rfl, (HT.below hb1).obj, ?_⟩
    replace HT := HT.below hb1
    have hT22 := hH1.bytes
    clear hb1 hH1
    obtain ⟨v23, X23, hr1, hH2, hG2⟩ := run_append_bytes _ 30 w.heap.size _ _ HT.held _ _ hT22 (by have := HT.len; have hm : (intB o.size).length ≤ 41 := Nat.le_trans (intB_ten ⟨HS.out.size.1, by have := HS.out.size.2; omega⟩) (by decide); omega) HT.grew.by_.size
    refine HeldBy.value (i := 9) (v := v23) (w' := X23) rfl (by kernel_rfl) (by rfl) (exec_append rfl rfl rfl hr1) (by go_simp; rfl) (HT.step hH2 hG2 (Nat.le_trans (Nat.le_trans (intB_ten ⟨HS.out.size.1, by have := HS.out.size.2; omega⟩) (by decide) : (intB o.size).length ≤ 41) (by decide))).obj ?_
    replace HT := HT.step hH2 hG2 (Nat.le_trans (Nat.le_trans (intB_ten ⟨HS.out.size.1, by have := HS.out.size.2; omega⟩) (by decide) : (intB o.size).length ≤ 41) (by decide))
    clear hr1 hH2 hG2 hT22
    refine HeldBy.callE (i := 13) rfl (by kernel_rfl) (by rfl) (by go_simp; exact ⟨rfl, rfl⟩) (by intro v; go_simp; rfl) ?_
    refine (refNumber_any o.got ⟨HS.out.got.1, by have := HS.out.got.2; omega⟩ _).mono ?_
    rintro e V24 ⟨t24, rfl, hH1, hb1⟩
    refine .inl ⟨_, rfl, (HT.below hb1).obj, ?_⟩
    replace HT := HT.below hb1
    have hT24 := hH1.bytes
    clear hb1 hH1
    obtain ⟨v25, X25, hr1, hH2, hG2⟩ := run_append_bytes _ 30 w.heap.size _ _ HT.held _ _ hT24 (by have := HT.len; have hm : (intB o.got).length ≤ 41 := Nat.le_trans (intB_ten ⟨HS.out.got.1, by have := HS.out.got.2; omega⟩) (by decide); omega) HT.grew.by_.size
    refine HeldBy.value (i := 14) (v := v25) (w' := X25) rfl (by kernel_rfl) (by rfl) (exec_append rfl rfl rfl hr1) (by go_simp; rfl) (HT.step hH2 hG2 (Nat.le_trans (Nat.le_trans (intB_ten ⟨HS.out.got.1, by have := HS.out.got.2; omega⟩) (by decide) : (intB o.got).length ≤ 41) (by decide))).obj ?_
    replace HT := HT.step hH2 hG2 (Nat.le_trans (Nat.le_trans (intB_ten ⟨HS.out.got.1, by have := HS.out.got.2; omega⟩) (by decide) : (intB o.got).length ≤ 41) (by decide))
    clear hr1 hH2 hG2 hT24
    refine HeldBy.take (i := 15) rfl (by kernel_rfl) (by kernel_rfl) (by kernel_rfl) (fun _ _ _ h => h) (by rfl) (fun _ _ => by go_simp; rfl) (by go_simp; rfl) HT.obj ?_
    refine wpAnyH_done (by kernel_rfl) ?_ _
    go_upto_region 7 with (fail)
    refine wp_region_held_drew (S := fun W => BoxO W w.heap.size o) (by kernel_rfl) HT.obj.drew (fun _ => ?_)
    refine HeldBy.gen (fun W => ObjAt w o W v25 ((((((((byteB o.kind) ++ (txtB o.name)) ++ (intB o.version)) ++ (intB o.born)) ++ (byteB (flagN o.deleting o.hold o.keep o.wait : Nat))) ++ (txtB o.cls)) ++ (intB o.size)) ++ (intB o.got)) 102110) HT.drew ?_
    clear HT
    rintro U7 HT
    refine HeldBy.take (i := 0) rfl (by kernel_rfl) (by kernel_rfl) (by kernel_rfl) (fun _ _ _ h => h) (by rfl) (fun _ _ => by go_simp; rfl) (by go_simp; rfl) HT.obj ?_
    refine HeldBy.take (i := 1) rfl (by kernel_rfl) (by kernel_rfl) (by kernel_rfl) (fun _ _ _ h => h) (by rfl) (fun _ _ => by go_simp; rfl) (by go_simp; rfl) HT.obj ?_
    refine HeldBy.take (i := 2) rfl (by kernel_rfl) (by kernel_rfl) (by kernel_rfl) (fun _ _ _ h => h) (by rfl) (fun _ h => by have c := BoxO.c9 h; go_simp; rfl) (by go_simp; rfl) HT.obj ?_
    refine HeldBy.take (i := 5) rfl (by kernel_rfl) (by kernel_rfl) (by kernel_rfl) (fun _ _ _ h => h) (by rfl) (fun _ _ => by go_simp; rfl) (by go_simp; rfl) HT.obj ?_
    refine HeldBy.take (i := 6) rfl (by kernel_rfl) (by kernel_rfl) (by kernel_rfl) (fun _ _ _ h => h) (by rfl) (fun _ h => by have c := BoxO.c12 h; go_simp; rfl) (by go_simp; rfl) HT.obj ?_
    refine HeldBy.value (i := 3) rfl (by kernel_rfl) (by rfl) (by go_simp; exact ⟨rfl, rfl⟩) (by go_simp; rfl) (HT.alloc _).obj ?_
    have hTb := HT.bytesNew (o.mode) HS.out.mode
    replace HT := HT.alloc (.cells #[.int .u8 (o.mode)] 5 (0, 0))
    obtain ⟨v26, X26, hr1, hH2, hG2⟩ := run_append_bytes _ 30 w.heap.size _ _ HT.held _ _ hTb (by have := HT.len; have hm : (byteB o.mode).length ≤ 41 := (by simp [byteB]); omega) HT.grew.by_.size
    refine HeldBy.value (i := 4) (v := v26) (w' := X26) rfl (by kernel_rfl) (by rfl) (exec_append rfl rfl rfl hr1) (by go_simp; rfl) (HT.step hH2 hG2 (Nat.le_trans ((by simp [byteB]) : (byteB o.mode).length ≤ 41) (by decide))).obj ?_
    replace HT := HT.step hH2 hG2 (Nat.le_trans ((by simp [byteB]) : (byteB o.mode).length ≤ 41) (by decide))
    clear hr1 hH2 hG2 hTb
    refine HeldBy.callE (i := 7) rfl (by kernel_rfl) (by rfl) (by go_simp; exact ⟨rfl, rfl⟩) (by intro v; go_simp; rfl) ?_
    refine (refText_any o.zone HS.out.zone _).mono ?_
    rintro e V27 ⟨t27, rfl, hH1, hb1⟩
    refine .inl ⟨_, rfl, (HT.below hb1).obj, ?_⟩
    replace HT := HT.below hb1
    have hT27 := hH1.bytes
    clear hb1 hH1
    obtain ⟨v28, X28, hr1, hH2, hG2⟩ := run_append_bytes _ 30 w.heap.size _ _ HT.held _ _ hT27 (by have := HT.len; have hm : (txtB o.zone).length ≤ 41 := txtB_len HS.out.zone; omega) HT.grew.by_.size
    refine HeldBy.value (i := 8) (v := v28) (w' := X28) rfl (by kernel_rfl) (by rfl) (exec_append rfl rfl rfl hr1) (by go_simp; rfl) (HT.step hH2 hG2 (Nat.le_trans (txtB_len HS.out.zone : (txtB o.zone).length ≤ 41) (by decide))).obj ?_
    replace HT := HT.step hH2 hG2 (Nat.le_trans (txtB_len HS.out.zone : (txtB o.zone).length ≤ 41) (by decide))
    clear hr1 hH2 hG2 hT27
    refine HeldBy.take (i := 9) rfl (by kernel_rfl) (by kernel_rfl) (by kernel_rfl) (fun _ _ _ h => h) (by rfl) (fun _ _ => by go_simp; rfl) (by go_simp; rfl) HT.obj ?_
    refine wpAnyH_done (by kernel_rfl) ?_ _
    go_upto_region 8 with (fail)
    refine wp_region_held_drew (S := fun W => BoxO W w.heap.size o) (by kernel_rfl) HT.obj.drew (fun _ => ?_)
    refine HeldBy.gen (fun W => ObjAt w o W v28 ((((((((((byteB o.kind) ++ (txtB o.name)) ++ (intB o.version)) ++ (intB o.born)) ++ (byteB (flagN o.deleting o.hold o.keep o.wait : Nat))) ++ (txtB o.cls)) ++ (intB o.size)) ++ (intB o.got)) ++ (byteB o.mode)) ++ (txtB o.zone)) 102710) HT.drew ?_
    clear HT
    rintro U8 HT
    refine HeldBy.take (i := 0) rfl (by kernel_rfl) (by kernel_rfl) (by kernel_rfl) (fun _ _ _ h => h) (by rfl) (fun _ _ => by go_simp; rfl) (by go_simp; rfl) HT.obj ?_
    refine HeldBy.take (i := 1) rfl (by kernel_rfl) (by kernel_rfl) (by kernel_rfl) (fun _ _ _ h => h) (by rfl) (fun _ _ => by go_simp; rfl) (by go_simp; rfl) HT.obj ?_
    refine HeldBy.take (i := 2) rfl (by kernel_rfl) (by kernel_rfl) (by kernel_rfl) (fun _ _ _ h => h) (by rfl) (fun _ h => by have c := BoxO.c13 h; go_simp; rfl) (by go_simp; rfl) HT.obj ?_
    refine HeldBy.take (i := 5) rfl (by kernel_rfl) (by kernel_rfl) (by kernel_rfl) (fun _ _ _ h => h) (by rfl) (fun _ _ => by go_simp; rfl) (by go_simp; rfl) HT.obj ?_
    refine HeldBy.take (i := 6) rfl (by kernel_rfl) (by kernel_rfl) (by kernel_rfl) (fun _ _ _ h => h) (by rfl) (fun _ h => by have c := BoxO.c14 h; go_simp; rfl) (by go_simp; rfl) HT.obj ?_
    refine HeldBy.take (i := 9) rfl (by kernel_rfl) (by kernel_rfl) (by kernel_rfl) (fun _ _ _ h => h) (by rfl) (fun _ _ => by go_simp; rfl) (by go_simp; rfl) HT.obj ?_
    refine HeldBy.take (i := 10) rfl (by kernel_rfl) (by kernel_rfl) (by kernel_rfl) (fun _ _ _ h => h) (by rfl) (fun _ h => by have c := BoxO.c15 h; go_simp; rfl) (by go_simp; rfl) HT.obj ?_
    refine HeldBy.take (i := 13) rfl (by kernel_rfl) (by kernel_rfl) (by kernel_rfl) (fun _ _ _ h => h) (by rfl) (fun _ _ => by go_simp; rfl) (by go_simp; rfl) HT.obj ?_
    refine HeldBy.take (i := 14) rfl (by kernel_rfl) (by kernel_rfl) (by kernel_rfl) (fun _ _ _ h => h) (by rfl) (fun _ h => by have c := BoxO.c16 h; go_simp; rfl) (by go_simp; rfl) HT.obj ?_
    refine HeldBy.callE (i := 3) rfl (by kernel_rfl) (by rfl) (by go_simp; exact ⟨rfl, rfl⟩) (by intro v; go_simp; rfl) ?_
    refine (refText_any o.node HS.out.node _).mono ?_
    rintro e V29 ⟨t29, rfl, hH1, hb1⟩
    refine .inl ⟨_, rfl, (HT.below hb1).obj, ?_⟩
    replace HT := HT.below hb1
    have hT29 := hH1.bytes
    clear hb1 hH1
    obtain ⟨v30, X30, hr1, hH2, hG2⟩ := run_append_bytes _ 30 w.heap.size _ _ HT.held _ _ hT29 (by have := HT.len; have hm : (txtB o.node).length ≤ 41 := txtB_len HS.out.node; omega) HT.grew.by_.size
    refine HeldBy.value (i := 4) (v := v30) (w' := X30) rfl (by kernel_rfl) (by rfl) (exec_append rfl rfl rfl hr1) (by go_simp; rfl) (HT.step hH2 hG2 (Nat.le_trans (txtB_len HS.out.node : (txtB o.node).length ≤ 41) (by decide))).obj ?_
    replace HT := HT.step hH2 hG2 (Nat.le_trans (txtB_len HS.out.node : (txtB o.node).length ≤ 41) (by decide))
    clear hr1 hH2 hG2 hT29
    refine HeldBy.callE (i := 7) rfl (by kernel_rfl) (by rfl) (by go_simp; exact ⟨rfl, rfl⟩) (by intro v; go_simp; rfl) ?_
    refine (refText_any o.claim HS.out.claim _).mono ?_
    rintro e V31 ⟨t31, rfl, hH1, hb1⟩
    refine .inl ⟨_, rfl, (HT.below hb1).obj, ?_⟩
    replace HT := HT.below hb1
    have hT31 := hH1.bytes
    clear hb1 hH1
    obtain ⟨v32, X32, hr1, hH2, hG2⟩ := run_append_bytes _ 30 w.heap.size _ _ HT.held _ _ hT31 (by have := HT.len; have hm : (txtB o.claim).length ≤ 41 := txtB_len HS.out.claim; omega) HT.grew.by_.size
    refine HeldBy.value (i := 8) (v := v32) (w' := X32) rfl (by kernel_rfl) (by rfl) (exec_append rfl rfl rfl hr1) (by go_simp; rfl) (HT.step hH2 hG2 (Nat.le_trans (txtB_len HS.out.claim : (txtB o.claim).length ≤ 41) (by decide))).obj ?_
    replace HT := HT.step hH2 hG2 (Nat.le_trans (txtB_len HS.out.claim : (txtB o.claim).length ≤ 41) (by decide))
    clear hr1 hH2 hG2 hT31
    refine HeldBy.callE (i := 11) rfl (by kernel_rfl) (by rfl) (by go_simp; exact ⟨rfl, rfl⟩) (by intro v; go_simp; rfl) ?_
    refine (refText_any o.volume HS.out.volume _).mono ?_
    rintro e V33 ⟨t33, rfl, hH1, hb1⟩
    refine .inl ⟨_, rfl, (HT.below hb1).obj, ?_⟩
    replace HT := HT.below hb1
    have hT33 := hH1.bytes
    clear hb1 hH1
    obtain ⟨v34, X34, hr1, hH2, hG2⟩ := run_append_bytes _ 30 w.heap.size _ _ HT.held _ _ hT33 (by have := HT.len; have hm : (txtB o.volume).length ≤ 41 := txtB_len HS.out.volume; omega) HT.grew.by_.size
    refine HeldBy.value (i := 12) (v := v34) (w' := X34) rfl (by kernel_rfl) (by rfl) (exec_append rfl rfl rfl hr1) (by go_simp; rfl) (HT.step hH2 hG2 (Nat.le_trans (txtB_len HS.out.volume : (txtB o.volume).length ≤ 41) (by decide))).obj ?_
    replace HT := HT.step hH2 hG2 (Nat.le_trans (txtB_len HS.out.volume : (txtB o.volume).length ≤ 41) (by decide))
    clear hr1 hH2 hG2 hT33
    refine HeldBy.callE (i := 15) rfl (by kernel_rfl) (by rfl) (by go_simp; exact ⟨rfl, rfl⟩) (by intro v; go_simp; rfl) ?_
    refine (refText_any o.source HS.out.source _).mono ?_
    rintro e V35 ⟨t35, rfl, hH1, hb1⟩
    refine .inl ⟨_, rfl, (HT.below hb1).obj, ?_⟩
    replace HT := HT.below hb1
    have hT35 := hH1.bytes
    clear hb1 hH1
    obtain ⟨v36, X36, hr1, hH2, hG2⟩ := run_append_bytes _ 30 w.heap.size _ _ HT.held _ _ hT35 (by have := HT.len; have hm : (txtB o.source).length ≤ 41 := txtB_len HS.out.source; omega) HT.grew.by_.size
    refine HeldBy.value (i := 16) (v := v36) (w' := X36) rfl (by kernel_rfl) (by rfl) (exec_append rfl rfl rfl hr1) (by go_simp; rfl) (HT.step hH2 hG2 (Nat.le_trans (txtB_len HS.out.source : (txtB o.source).length ≤ 41) (by decide))).obj ?_
    replace HT := HT.step hH2 hG2 (Nat.le_trans (txtB_len HS.out.source : (txtB o.source).length ≤ 41) (by decide))
    clear hr1 hH2 hG2 hT35
    refine HeldBy.take (i := 17) rfl (by kernel_rfl) (by kernel_rfl) (by kernel_rfl) (fun _ _ _ h => h) (by rfl) (fun _ _ => by go_simp; rfl) (by go_simp; rfl) HT.obj ?_
    refine wpAnyH_done (by kernel_rfl) ?_ _
    go_upto_region 9 with (fail)
    refine wp_region_held_drew (S := fun W => BoxO W w.heap.size o) (by kernel_rfl) HT.obj.drew (fun _ => ?_)
    refine HeldBy.gen (fun W => ObjAt w o W v36 ((((((((((((((byteB o.kind) ++ (txtB o.name)) ++ (intB o.version)) ++ (intB o.born)) ++ (byteB (flagN o.deleting o.hold o.keep o.wait : Nat))) ++ (txtB o.cls)) ++ (intB o.size)) ++ (intB o.got)) ++ (byteB o.mode)) ++ (txtB o.zone)) ++ (txtB o.node)) ++ (txtB o.claim)) ++ (txtB o.volume)) ++ (txtB o.source)) 103910) HT.drew ?_
    clear HT
    rintro U9 HT
    refine HeldBy.take (i := 0) rfl (by kernel_rfl) (by kernel_rfl) (by kernel_rfl) (fun _ _ _ h => h) (by rfl) (fun _ _ => by go_simp; rfl) (by go_simp; rfl) HT.obj ?_
    refine HeldBy.take (i := 1) rfl (by kernel_rfl) (by kernel_rfl) (by kernel_rfl) (fun _ _ _ h => h) (by rfl) (fun _ _ => by go_simp; rfl) (by go_simp; rfl) HT.obj ?_
    refine HeldBy.take (i := 2) rfl (by kernel_rfl) (by kernel_rfl) (by kernel_rfl) (fun _ _ _ h => h) (by rfl) (fun _ h => by have c := BoxO.c17 h; go_simp; rfl) (by go_simp; rfl) HT.obj ?_
    refine HeldBy.take (i := 5) rfl (by kernel_rfl) (by kernel_rfl) (by kernel_rfl) (fun _ _ _ h => h) (by rfl) (fun _ _ => by go_simp; rfl) (by go_simp; rfl) HT.obj ?_
    refine HeldBy.take (i := 6) rfl (by kernel_rfl) (by kernel_rfl) (by kernel_rfl) (fun _ _ _ h => h) (by rfl) (fun _ h => by have c := BoxO.c18 h; go_simp; rfl) (by go_simp; rfl) HT.obj ?_
    refine HeldBy.value (i := 3) rfl (by kernel_rfl) (by rfl) (by go_simp; exact ⟨rfl, rfl⟩) (by go_simp; rfl) (HT.alloc _).obj ?_
    have hTb := HT.bytesNew (o.phase) HS.out.phase
    replace HT := HT.alloc (.cells #[.int .u8 (o.phase)] 5 (0, 0))
    obtain ⟨v37, X37, hr1, hH2, hG2⟩ := run_append_bytes _ 30 w.heap.size _ _ HT.held _ _ hTb (by have := HT.len; have hm : (byteB o.phase).length ≤ 41 := (by simp [byteB]); omega) HT.grew.by_.size
    refine HeldBy.value (i := 4) (v := v37) (w' := X37) rfl (by kernel_rfl) (by rfl) (exec_append rfl rfl rfl hr1) (by go_simp; rfl) (HT.step hH2 hG2 (Nat.le_trans ((by simp [byteB]) : (byteB o.phase).length ≤ 41) (by decide))).obj ?_
    replace HT := HT.step hH2 hG2 (Nat.le_trans ((by simp [byteB]) : (byteB o.phase).length ≤ 41) (by decide))
    clear hr1 hH2 hG2 hTb
    refine HeldBy.callE (i := 7) rfl (by kernel_rfl) (by rfl) (by go_simp; exact ⟨rfl, rfl⟩) (by intro v; go_simp; rfl) ?_
    refine (refNumber_any o.num HS.out.num _).mono ?_
    rintro e V38 ⟨t38, rfl, hH1, hb1⟩
    refine .inl ⟨_, rfl, (HT.below hb1).obj, ?_⟩
    replace HT := HT.below hb1
    have hT38 := hH1.bytes
    clear hb1 hH1
    obtain ⟨v39, X39, hr1, hH2, hG2⟩ := run_append_bytes _ 30 w.heap.size _ _ HT.held _ _ hT38 (by have := HT.len; have hm : (intB o.num).length ≤ 41 := Nat.le_trans (intB_ten HS.out.num) (by decide); omega) HT.grew.by_.size
    refine HeldBy.value (i := 8) (v := v39) (w' := X39) rfl (by kernel_rfl) (by rfl) (exec_append rfl rfl rfl hr1) (by go_simp; rfl) (HT.step hH2 hG2 (Nat.le_trans (Nat.le_trans (intB_ten HS.out.num) (by decide) : (intB o.num).length ≤ 41) (by decide))).obj ?_
    replace HT := HT.step hH2 hG2 (Nat.le_trans (Nat.le_trans (intB_ten HS.out.num) (by decide) : (intB o.num).length ≤ 41) (by decide))
    clear hr1 hH2 hG2 hT38
    refine HeldBy.take (i := 9) rfl (by kernel_rfl) (by kernel_rfl) (by kernel_rfl) (fun _ _ _ h => h) (by rfl) (fun _ _ => by go_simp; rfl) (by go_simp; rfl) HT.obj ?_
    refine wpAnyH_done (by kernel_rfl) ?_ _
    have c19 := HT.obj.c19
    go_wp2_with fail
    refine (refNumber_any o.tag HS.out.tag _).mono ?_
    rintro e W3 ⟨t3, rfl, hH1, hb1⟩
    clear c19
    replace HT := HT.below hb1
    have hT3 := hH1.bytes
    have HX : Hid (_ + (intB o.tag).length ≤ 140737488355328) := (by have h1 := HT.len; have h2 := intB_ten HS.out.tag; exact Nat.le_trans (Nat.add_le_add h1 h2) (by decide))
    have hBz := HT.grew.by_.size
    clear hb1 hH1
    go_wp2_with (at_builtin; refine wpList_append_bytes rfl (.tmp 92) (.tmp 95) rfl w.heap.size v39 _ ?_ HT.held t3 _ ?_ hT3 HX.out hBz ?_; rfl; rfl; intro v9 W4 hH2 hG2)
    replace HT := HT.step hH2 hG2 (Nat.le_trans (intB_ten HS.out.tag) (by decide))
    have HF : Hid (Held W4 w.heap.size v9 (objB o) ∧ Below w.heap.size w W4) := ⟨by rw [objB_ref]; exact HT.held, HT.grew.below (Held.nil _ _) (Nat.le_refl _)⟩
    clear HT hH2 hG2 hT3 HX hBz
    go_wp2
    go_ret2
    exact ⟨HF.out.2, _, rfl, HF.out.1⟩
  · refine HeldBy.op_callE (i := 5) rfl (by rfl) (by go_simp; exact ⟨rfl, rfl⟩) (by intro v; go_simp; rfl) ?_
    refine (refText_any o.name HS.out.name _).mono ?_
    rintro e V1 ⟨t1, rfl, hH1, hb1⟩
    refine ⟨_, rfl, (HT.below hb1).obj, ?_⟩
    replace HT := HT.below hb1
    have hT1 := hH1.bytes.alloc (.cells #[.int .u8 o.kind] 5 (0, 0))
    have hz1 := hb1.size
    clear hb1 hH1
    refine HeldBy.value (i := 2) rfl (by kernel_rfl) (by rfl) (by go_simp; exact ⟨rfl, rfl⟩) (by go_simp; rfl) (HT.alloc _).obj ?_
    have hK := held_new V1 w.heap.size (Nat.le_trans hg0 hz1) o.kind HS.out.kind
    replace HT : ObjAt w o _ (.slice (some ⟨V1.heap.size, 0, none⟩) 1 1) (byteB o.kind) 100010 := ⟨(HT.alloc _).box, hK, ⟨(HT.alloc _).grew.by_, .inr ⟨_, rfl, Nat.le_trans hg0 hz1⟩⟩, by simp [Value.ownBlock]; omega, by simp [byteB]⟩
    clear hK
    obtain ⟨v1, X1, hr1, hH2, hG2⟩ := run_append_bytes _ 30 w.heap.size _ _ HT.held t1 _ hT1 (by have := HT.len; have := txtB_len HS.out.name; omega) HT.grew.by_.size
    refine HeldBy.value (i := 6) (v := v1) (w' := X1) rfl (by kernel_rfl) (by rfl) (exec_append rfl rfl rfl hr1) (by go_simp; rfl) (HT.step hH2 hG2 (by have := txtB_len HS.out.name; omega)).obj ?_
    replace HT := HT.step hH2 hG2 (by have := txtB_len HS.out.name; omega)
    clear hr1 hH2 hG2 hT1
    refine HeldBy.take (i := 7) rfl (by kernel_rfl) (by kernel_rfl) (by kernel_rfl) (fun _ _ _ h => h) (by rfl) (fun _ _ => by go_simp; rfl) (by go_simp; rfl) HT.obj ?_
    refine wpAnyH_done (by kernel_rfl) ?_ _
    go_upto_region 4 with (fail)
    refine wp_region_held_drew (S := fun W => BoxO W w.heap.size o) (by kernel_rfl) HT.obj.drew (fun _ => ?_)
    refine HeldBy.gen (fun W => ObjAt w o W v1 ((byteB o.kind) ++ (txtB o.name)) 100310) HT.drew ?_
    clear HT
    rintro U4 HT
    refine HeldBy.take (i := 0) rfl (by kernel_rfl) (by kernel_rfl) (by kernel_rfl) (fun _ _ _ h => h) (by rfl) (fun _ _ => by go_simp; rfl) (by go_simp; rfl) HT.obj ?_
    refine HeldBy.take (i := 1) rfl (by kernel_rfl) (by kernel_rfl) (by kernel_rfl) (fun _ _ _ h => h) (by rfl) (fun _ _ => by go_simp; rfl) (by go_simp; rfl) HT.obj ?_
    refine HeldBy.take (i := 2) rfl (by kernel_rfl) (by kernel_rfl) (by kernel_rfl) (fun _ _ _ h => h) (by rfl) (fun _ h => by have c := BoxO.c2 h; go_simp; rfl) (by go_simp; rfl) HT.obj ?_
    refine HeldBy.take (i := 5) rfl (by kernel_rfl) (by kernel_rfl) (by kernel_rfl) (fun _ _ _ h => h) (by rfl) (fun _ _ => by go_simp; rfl) (by go_simp; rfl) HT.obj ?_
    refine HeldBy.take (i := 6) rfl (by kernel_rfl) (by kernel_rfl) (by kernel_rfl) (fun _ _ _ h => h) (by rfl) (fun _ h => by have c := BoxO.c3 h; go_simp; rfl) (by go_simp; rfl) HT.obj ?_
    refine HeldBy.callE (i := 3) rfl (by kernel_rfl) (by rfl) (by go_simp; exact ⟨rfl, rfl⟩) (by intro v; go_simp; rfl) ?_
    refine (refNumber_any o.version HS.out.version _).mono ?_
    rintro e V11 ⟨t11, rfl, hH1, hb1⟩
    refine .inl ⟨_, rfl, (HT.below hb1).obj, ?_⟩
    replace HT := HT.below hb1
    have hT11 := hH1.bytes
    clear hb1 hH1
    obtain ⟨v12, X12, hr1, hH2, hG2⟩ := run_append_bytes _ 30 w.heap.size _ _ HT.held _ _ hT11 (by have := HT.len; have hm : (intB o.version).length ≤ 41 := Nat.le_trans (intB_ten HS.out.version) (by decide); omega) HT.grew.by_.size
    refine HeldBy.value (i := 4) (v := v12) (w' := X12) rfl (by kernel_rfl) (by rfl) (exec_append rfl rfl rfl hr1) (by go_simp; rfl) (HT.step hH2 hG2 (Nat.le_trans (Nat.le_trans (intB_ten HS.out.version) (by decide) : (intB o.version).length ≤ 41) (by decide))).obj ?_
    replace HT := HT.step hH2 hG2 (Nat.le_trans (Nat.le_trans (intB_ten HS.out.version) (by decide) : (intB o.version).length ≤ 41) (by decide))
    clear hr1 hH2 hG2 hT11
    refine HeldBy.callE (i := 7) rfl (by kernel_rfl) (by rfl) (by go_simp; exact ⟨rfl, rfl⟩) (by intro v; go_simp; rfl) ?_
    refine (refNumber_any o.born HS.out.born _).mono ?_
    rintro e V13 ⟨t13, rfl, hH1, hb1⟩
    refine .inl ⟨_, rfl, (HT.below hb1).obj, ?_⟩
    replace HT := HT.below hb1
    have hT13 := hH1.bytes
    clear hb1 hH1
    obtain ⟨v14, X14, hr1, hH2, hG2⟩ := run_append_bytes _ 30 w.heap.size _ _ HT.held _ _ hT13 (by have := HT.len; have hm : (intB o.born).length ≤ 41 := Nat.le_trans (intB_ten HS.out.born) (by decide); omega) HT.grew.by_.size
    refine HeldBy.value (i := 8) (v := v14) (w' := X14) rfl (by kernel_rfl) (by rfl) (exec_append rfl rfl rfl hr1) (by go_simp; rfl) (HT.step hH2 hG2 (Nat.le_trans (Nat.le_trans (intB_ten HS.out.born) (by decide) : (intB o.born).length ≤ 41) (by decide))).obj ?_
    replace HT := HT.step hH2 hG2 (Nat.le_trans (Nat.le_trans (intB_ten HS.out.born) (by decide) : (intB o.born).length ≤ 41) (by decide))
    clear hr1 hH2 hG2 hT13
    refine HeldBy.take (i := 9) rfl (by kernel_rfl) (by kernel_rfl) (by kernel_rfl) (fun _ _ _ h => h) (by rfl) (fun _ _ => by go_simp; rfl) (by go_simp; rfl) HT.obj ?_
    refine wpAnyH_done (by kernel_rfl) ?_ _
    go_upto_region 5 with (fail)
    refine wp_region_held_drew (S := fun W => BoxO W w.heap.size o) (by kernel_rfl) HT.obj.drew (fun _ => ?_)
    refine HeldBy.gen (fun W => ObjAt w o W v14 ((((byteB o.kind) ++ (txtB o.name)) ++ (intB o.version)) ++ (intB o.born)) 100910) HT.drew ?_
    clear HT
    rintro U5 HT
    refine HeldBy.take (i := 0) rfl (by kernel_rfl) (by kernel_rfl) (by kernel_rfl) (fun _ _ _ h => h) (by rfl) (fun _ _ => by go_simp; rfl) (by go_simp; rfl) HT.obj ?_
    refine HeldBy.take (i := 1) rfl (by kernel_rfl) (by kernel_rfl) (by kernel_rfl) (fun _ _ _ h => h) (by rfl) (fun _ _ => by go_simp; rfl) (by go_simp; rfl) HT.obj ?_
    refine HeldBy.take (i := 2) rfl (by kernel_rfl) (by kernel_rfl) (by kernel_rfl) (fun _ _ _ h => h) (by rfl) (fun _ h => by have c := BoxO.c4 h; go_simp; rfl) (by go_simp; rfl) HT.obj ?_
    refine HeldBy.take (i := 4) rfl (by kernel_rfl) (by kernel_rfl) (by kernel_rfl) (fun _ _ _ h => h) (by rfl) (fun _ _ => by go_simp; rfl) (by go_simp; rfl) HT.obj ?_
    refine HeldBy.take (i := 5) rfl (by kernel_rfl) (by kernel_rfl) (by kernel_rfl) (fun _ _ _ h => h) (by rfl) (fun _ h => by have c := BoxO.c5 h; go_simp; rfl) (by go_simp; rfl) HT.obj ?_
    refine HeldBy.take (i := 8) rfl (by kernel_rfl) (by kernel_rfl) (by kernel_rfl) (fun _ _ _ h => h) (by rfl) (fun _ _ => by go_simp; rfl) (by go_simp; rfl) HT.obj ?_
    refine HeldBy.take (i := 9) rfl (by kernel_rfl) (by kernel_rfl) (by kernel_rfl) (fun _ _ _ h => h) (by rfl) (fun _ h => by have c := BoxO.c10 h; go_simp; rfl) (by go_simp; rfl) HT.obj ?_
    refine HeldBy.take (i := 12) rfl (by kernel_rfl) (by kernel_rfl) (by kernel_rfl) (fun _ _ _ h => h) (by rfl) (fun _ _ => by go_simp; rfl) (by go_simp; rfl) HT.obj ?_
    refine HeldBy.take (i := 13) rfl (by kernel_rfl) (by kernel_rfl) (by kernel_rfl) (fun _ _ _ h => h) (by rfl) (fun _ h => by have c := BoxO.c11 h; go_simp; rfl) (by go_simp; rfl) HT.obj ?_
    refine HeldBy.call (i := 3) (v := .int .u8 (bitN o.deleting 1)) rfl (by kernel_rfl) (by rfl) (by go_simp; exact ⟨rfl, rfl⟩) (by go_simp; rfl) ?_
    refine (bit_any o.deleting 1 _).mono ?_
    rintro e V15 ⟨rfl, hV⟩
    replace HT : ObjAt w o V15 v14 ((((byteB o.kind) ++ (txtB o.name)) ++ (intB o.version)) ++ (intB o.born)) 100910 := hV ▸ HT
    refine ⟨rfl, HT.obj, ?_⟩
    clear hV
    refine HeldBy.call (i := 6) (v := .int .u8 (bitN o.hold 2)) rfl (by kernel_rfl) (by rfl) (by go_simp; exact ⟨rfl, rfl⟩) (by go_simp; rfl) ?_
    refine (bit_any o.hold 2 _).mono ?_
    rintro e V16 ⟨rfl, hV⟩
    replace HT : ObjAt w o V16 v14 ((((byteB o.kind) ++ (txtB o.name)) ++ (intB o.version)) ++ (intB o.born)) 100910 := hV ▸ HT
    refine ⟨rfl, HT.obj, ?_⟩
    clear hV
    refine HeldBy.take (i := 7) rfl (by kernel_rfl) (by kernel_rfl) (by kernel_rfl) (fun _ _ _ h => h) (by rfl) (fun _ _ => by go_simp; rfl) (by go_simp; rfl) HT.obj ?_
    refine HeldBy.call (i := 10) (v := .int .u8 (bitN o.keep 4)) rfl (by kernel_rfl) (by rfl) (by go_simp; exact ⟨rfl, rfl⟩) (by go_simp; rfl) ?_
    refine (bit_any o.keep 4 _).mono ?_
    rintro e V17 ⟨rfl, hV⟩
    replace HT : ObjAt w o V17 v14 ((((byteB o.kind) ++ (txtB o.name)) ++ (intB o.version)) ++ (intB o.born)) 100910 := hV ▸ HT
    refine ⟨rfl, HT.obj, ?_⟩
    clear hV
    refine HeldBy.take (i := 11) rfl (by kernel_rfl) (by kernel_rfl) (by kernel_rfl) (fun _ _ _ h => h) (by rfl) (fun _ _ => by go_simp; rfl) (by go_simp; rfl) HT.obj ?_
    refine HeldBy.call (i := 14) (v := .int .u8 (bitN o.wait 8)) rfl (by kernel_rfl) (by rfl) (by go_simp; exact ⟨rfl, rfl⟩) (by go_simp; rfl) ?_
    refine (bit_any o.wait 8 _).mono ?_
    rintro e V18 ⟨rfl, hV⟩
    replace HT : ObjAt w o V18 v14 ((((byteB o.kind) ++ (txtB o.name)) ++ (intB o.version)) ++ (intB o.born)) 100910 := hV ▸ HT
    refine ⟨rfl, HT.obj, ?_⟩
    clear hV
    refine HeldBy.take (i := 15) (v := .int .u8 (flagN o.deleting o.hold o.keep o.wait : Nat)) rfl (by kernel_rfl) (by kernel_rfl) (by kernel_rfl) (fun _ _ _ h => h) (by rfl) (fun _ _ => by go_simp; exact HB.out) (by go_simp; rfl) HT.obj ?_
    refine HeldBy.value (i := 16) rfl (by kernel_rfl) (by rfl) (by go_simp; exact ⟨rfl, rfl⟩) (by go_simp; rfl) (HT.alloc _).obj ?_
    have hTb := HT.bytesNew ((flagN o.deleting o.hold o.keep o.wait : Nat)) (flagN_le _ _ _ _)
    replace HT := HT.alloc (.cells #[.int .u8 ((flagN o.deleting o.hold o.keep o.wait : Nat))] 5 (0, 0))
    obtain ⟨v19, X19, hr1, hH2, hG2⟩ := run_append_bytes _ 30 w.heap.size _ _ HT.held _ _ hTb (by have := HT.len; have hm : (byteB (flagN o.deleting o.hold o.keep o.wait : Nat)).length ≤ 41 := (by simp [byteB]); omega) HT.grew.by_.size
    refine HeldBy.value (i := 17) (v := v19) (w' := X19) rfl (by kernel_rfl) (by rfl) (exec_append rfl rfl rfl hr1) (by go_simp; rfl) (HT.step hH2 hG2 (Nat.le_trans ((by simp [byteB]) : (byteB (flagN o.deleting o.hold o.keep o.wait : Nat)).length ≤ 41) (by decide))).obj ?_
    replace HT := HT.step hH2 hG2 (Nat.le_trans ((by simp [byteB]) : (byteB (flagN o.deleting o.hold o.keep o.wait : Nat)).length ≤ 41) (by decide))
    clear hr1 hH2 hG2 hTb
    refine HeldBy.take (i := 18) rfl (by kernel_rfl) (by kernel_rfl) (by kernel_rfl) (fun _ _ _ h => h) (by rfl) (fun _ _ => by go_simp; rfl) (by go_simp; rfl) HT.obj ?_
    refine wpAnyH_done (by kernel_rfl) ?_ _
    go_upto_region 6 with (fail)
    refine wp_region_held_drew (S := fun W => BoxO W w.heap.size o) (by kernel_rfl) HT.obj.drew (fun _ => ?_)
    refine HeldBy.gen (fun W => ObjAt w o W v19 (((((byteB o.kind) ++ (txtB o.name)) ++ (intB o.version)) ++ (intB o.born)) ++ (byteB (flagN o.deleting o.hold o.keep o.wait : Nat))) 101210) HT.drew ?_
    clear HT
    rintro U6 HT
    refine HeldBy.take (i := 0) rfl (by kernel_rfl) (by kernel_rfl) (by kernel_rfl) (fun _ _ _ h => h) (by rfl) (fun _ _ => by go_simp; rfl) (by go_simp; rfl) HT.obj ?_
    refine HeldBy.take (i := 1) rfl (by kernel_rfl) (by kernel_rfl) (by kernel_rfl) (fun _ _ _ h => h) (by rfl) (fun _ _ => by go_simp; rfl) (by go_simp; rfl) HT.obj ?_
    refine HeldBy.take (i := 2) rfl (by kernel_rfl) (by kernel_rfl) (by kernel_rfl) (fun _ _ _ h => h) (by rfl) (fun _ h => by have c := BoxO.c6 h; go_simp; rfl) (by go_simp; rfl) HT.obj ?_
    refine HeldBy.take (i := 5) rfl (by kernel_rfl) (by kernel_rfl) (by kernel_rfl) (fun _ _ _ h => h) (by rfl) (fun _ _ => by go_simp; rfl) (by go_simp; rfl) HT.obj ?_
    refine HeldBy.take (i := 6) rfl (by kernel_rfl) (by kernel_rfl) (by kernel_rfl) (fun _ _ _ h => h) (by rfl) (fun _ h => by have c := BoxO.c7 h; go_simp; rfl) (by go_simp; rfl) HT.obj ?_
    refine HeldBy.take (i := 7) (v := .int .u64 o.size) rfl (by kernel_rfl) (by kernel_rfl) (by kernel_rfl) (fun _ _ _ h => h) (by rfl) (fun _ _ => by go_simp; rw [HZ1.out]) (by go_simp; rfl) HT.obj ?_
    refine HeldBy.take (i := 10) rfl (by kernel_rfl) (by kernel_rfl) (by kernel_rfl) (fun _ _ _ h => h) (by rfl) (fun _ _ => by go_simp; rfl) (by go_simp; rfl) HT.obj ?_
    refine HeldBy.take (i := 11) rfl (by kernel_rfl) (by kernel_rfl) (by kernel_rfl) (fun _ _ _ h => h) (by rfl) (fun _ h => by have c := BoxO.c8 h; go_simp; rfl) (by go_simp; rfl) HT.obj ?_
    refine HeldBy.take (i := 12) (v := .int .u64 o.got) rfl (by kernel_rfl) (by kernel_rfl) (by kernel_rfl) (fun _ _ _ h => h) (by rfl) (fun _ _ => by go_simp; rw [HZ2.out]) (by go_simp; rfl) HT.obj ?_
    refine HeldBy.callE (i := 3) rfl (by kernel_rfl) (by rfl) (by go_simp; exact ⟨rfl, rfl⟩) (by intro v; go_simp; rfl) ?_
    refine (refText_any o.cls HS.out.cls _).mono ?_
    rintro e V20 ⟨t20, rfl, hH1, hb1⟩
    refine .inl ⟨_, rfl, (HT.below hb1).obj, ?_⟩
    replace HT := HT.below hb1
    have hT20 := hH1.bytes
    clear hb1 hH1
    obtain ⟨v21, X21, hr1, hH2, hG2⟩ := run_append_bytes _ 30 w.heap.size _ _ HT.held _ _ hT20 (by have := HT.len; have hm : (txtB o.cls).length ≤ 41 := txtB_len HS.out.cls; omega) HT.grew.by_.size
    refine HeldBy.value (i := 4) (v := v21) (w' := X21) rfl (by kernel_rfl) (by rfl) (exec_append rfl rfl rfl hr1) (by go_simp; rfl) (HT.step hH2 hG2 (Nat.le_trans (txtB_len HS.out.cls : (txtB o.cls).length ≤ 41) (by decide))).obj ?_
    replace HT := HT.step hH2 hG2 (Nat.le_trans (txtB_len HS.out.cls : (txtB o.cls).length ≤ 41) (by decide))
    clear hr1 hH2 hG2 hT20
    refine HeldBy.callE (i := 8) rfl (by kernel_rfl) (by rfl) (by go_simp; exact ⟨rfl, rfl⟩) (by intro v; go_simp; rfl) ?_
    refine (refNumber_any o.size ⟨HS.out.size.1, by have := HS.out.size.2; omega⟩ _).mono ?_
    rintro e V22 ⟨t22, rfl, hH1, hb1⟩
    refine .inl ⟨_, rfl, (HT.below hb1).obj, ?_⟩
    replace HT := HT.below hb1
    have hT22 := hH1.bytes
    clear hb1 hH1
    obtain ⟨v23, X23, hr1, hH2, hG2⟩ := run_append_bytes _ 30 w.heap.size _ _ HT.held _ _ hT22 (by have := HT.len; have hm : (intB o.size).length ≤ 41 := Nat.le_trans (intB_ten ⟨HS.out.size.1, by have := HS.out.size.2; omega⟩) (by decide); omega) HT.grew.by_.size
    refine HeldBy.value (i := 9) (v := v23) (w' := X23) rfl (by kernel_rfl) (by rfl) (exec_append rfl rfl rfl hr1) (by go_simp; rfl) (HT.step hH2 hG2 (Nat.le_trans (Nat.le_trans (intB_ten ⟨HS.out.size.1, by have := HS.out.size.2; omega⟩) (by decide) : (intB o.size).length ≤ 41) (by decide))).obj ?_
    replace HT := HT.step hH2 hG2 (Nat.le_trans (Nat.le_trans (intB_ten ⟨HS.out.size.1, by have := HS.out.size.2; omega⟩) (by decide) : (intB o.size).length ≤ 41) (by decide))
    clear hr1 hH2 hG2 hT22
    refine HeldBy.callE (i := 13) rfl (by kernel_rfl) (by rfl) (by go_simp; exact ⟨rfl, rfl⟩) (by intro v; go_simp; rfl) ?_
    refine (refNumber_any o.got ⟨HS.out.got.1, by have := HS.out.got.2; omega⟩ _).mono ?_
    rintro e V24 ⟨t24, rfl, hH1, hb1⟩
    refine .inl ⟨_, rfl, (HT.below hb1).obj, ?_⟩
    replace HT := HT.below hb1
    have hT24 := hH1.bytes
    clear hb1 hH1
    obtain ⟨v25, X25, hr1, hH2, hG2⟩ := run_append_bytes _ 30 w.heap.size _ _ HT.held _ _ hT24 (by have := HT.len; have hm : (intB o.got).length ≤ 41 := Nat.le_trans (intB_ten ⟨HS.out.got.1, by have := HS.out.got.2; omega⟩) (by decide); omega) HT.grew.by_.size
    refine HeldBy.value (i := 14) (v := v25) (w' := X25) rfl (by kernel_rfl) (by rfl) (exec_append rfl rfl rfl hr1) (by go_simp; rfl) (HT.step hH2 hG2 (Nat.le_trans (Nat.le_trans (intB_ten ⟨HS.out.got.1, by have := HS.out.got.2; omega⟩) (by decide) : (intB o.got).length ≤ 41) (by decide))).obj ?_
    replace HT := HT.step hH2 hG2 (Nat.le_trans (Nat.le_trans (intB_ten ⟨HS.out.got.1, by have := HS.out.got.2; omega⟩) (by decide) : (intB o.got).length ≤ 41) (by decide))
    clear hr1 hH2 hG2 hT24
    refine HeldBy.take (i := 15) rfl (by kernel_rfl) (by kernel_rfl) (by kernel_rfl) (fun _ _ _ h => h) (by rfl) (fun _ _ => by go_simp; rfl) (by go_simp; rfl) HT.obj ?_
    refine wpAnyH_done (by kernel_rfl) ?_ _
    go_upto_region 7 with (fail)
    refine wp_region_held_drew (S := fun W => BoxO W w.heap.size o) (by kernel_rfl) HT.obj.drew (fun _ => ?_)
    refine HeldBy.gen (fun W => ObjAt w o W v25 ((((((((byteB o.kind) ++ (txtB o.name)) ++ (intB o.version)) ++ (intB o.born)) ++ (byteB (flagN o.deleting o.hold o.keep o.wait : Nat))) ++ (txtB o.cls)) ++ (intB o.size)) ++ (intB o.got)) 102110) HT.drew ?_
    clear HT
    rintro U7 HT
    refine HeldBy.take (i := 0) rfl (by kernel_rfl) (by kernel_rfl) (by kernel_rfl) (fun _ _ _ h => h) (by rfl) (fun _ _ => by go_simp; rfl) (by go_simp; rfl) HT.obj ?_
    refine HeldBy.take (i := 1) rfl (by kernel_rfl) (by kernel_rfl) (by kernel_rfl) (fun _ _ _ h => h) (by rfl) (fun _ _ => by go_simp; rfl) (by go_simp; rfl) HT.obj ?_
    refine HeldBy.take (i := 2) rfl (by kernel_rfl) (by kernel_rfl) (by kernel_rfl) (fun _ _ _ h => h) (by rfl) (fun _ h => by have c := BoxO.c9 h; go_simp; rfl) (by go_simp; rfl) HT.obj ?_
    refine HeldBy.take (i := 5) rfl (by kernel_rfl) (by kernel_rfl) (by kernel_rfl) (fun _ _ _ h => h) (by rfl) (fun _ _ => by go_simp; rfl) (by go_simp; rfl) HT.obj ?_
    refine HeldBy.take (i := 6) rfl (by kernel_rfl) (by kernel_rfl) (by kernel_rfl) (fun _ _ _ h => h) (by rfl) (fun _ h => by have c := BoxO.c12 h; go_simp; rfl) (by go_simp; rfl) HT.obj ?_
    refine HeldBy.value (i := 3) rfl (by kernel_rfl) (by rfl) (by go_simp; exact ⟨rfl, rfl⟩) (by go_simp; rfl) (HT.alloc _).obj ?_
    have hTb := HT.bytesNew (o.mode) HS.out.mode
    replace HT := HT.alloc (.cells #[.int .u8 (o.mode)] 5 (0, 0))
    obtain ⟨v26, X26, hr1, hH2, hG2⟩ := run_append_bytes _ 30 w.heap.size _ _ HT.held _ _ hTb (by have := HT.len; have hm : (byteB o.mode).length ≤ 41 := (by simp [byteB]); omega) HT.grew.by_.size
    refine HeldBy.value (i := 4) (v := v26) (w' := X26) rfl (by kernel_rfl) (by rfl) (exec_append rfl rfl rfl hr1) (by go_simp; rfl) (HT.step hH2 hG2 (Nat.le_trans ((by simp [byteB]) : (byteB o.mode).length ≤ 41) (by decide))).obj ?_
    replace HT := HT.step hH2 hG2 (Nat.le_trans ((by simp [byteB]) : (byteB o.mode).length ≤ 41) (by decide))
    clear hr1 hH2 hG2 hTb
    refine HeldBy.callE (i := 7) rfl (by kernel_rfl) (by rfl) (by go_simp; exact ⟨rfl, rfl⟩) (by intro v; go_simp; rfl) ?_
    refine (refText_any o.zone HS.out.zone _).mono ?_
    rintro e V27 ⟨t27, rfl, hH1, hb1⟩
    refine .inl ⟨_, rfl, (HT.below hb1).obj, ?_⟩
    replace HT := HT.below hb1
    have hT27 := hH1.bytes
    clear hb1 hH1
    obtain ⟨v28, X28, hr1, hH2, hG2⟩ := run_append_bytes _ 30 w.heap.size _ _ HT.held _ _ hT27 (by have := HT.len; have hm : (txtB o.zone).length ≤ 41 := txtB_len HS.out.zone; omega) HT.grew.by_.size
    refine HeldBy.value (i := 8) (v := v28) (w' := X28) rfl (by kernel_rfl) (by rfl) (exec_append rfl rfl rfl hr1) (by go_simp; rfl) (HT.step hH2 hG2 (Nat.le_trans (txtB_len HS.out.zone : (txtB o.zone).length ≤ 41) (by decide))).obj ?_
    replace HT := HT.step hH2 hG2 (Nat.le_trans (txtB_len HS.out.zone : (txtB o.zone).length ≤ 41) (by decide))
    clear hr1 hH2 hG2 hT27
    refine HeldBy.take (i := 9) rfl (by kernel_rfl) (by kernel_rfl) (by kernel_rfl) (fun _ _ _ h => h) (by rfl) (fun _ _ => by go_simp; rfl) (by go_simp; rfl) HT.obj ?_
    refine wpAnyH_done (by kernel_rfl) ?_ _
    go_upto_region 8 with (fail)
    refine wp_region_held_drew (S := fun W => BoxO W w.heap.size o) (by kernel_rfl) HT.obj.drew (fun _ => ?_)
    refine HeldBy.gen (fun W => ObjAt w o W v28 ((((((((((byteB o.kind) ++ (txtB o.name)) ++ (intB o.version)) ++ (intB o.born)) ++ (byteB (flagN o.deleting o.hold o.keep o.wait : Nat))) ++ (txtB o.cls)) ++ (intB o.size)) ++ (intB o.got)) ++ (byteB o.mode)) ++ (txtB o.zone)) 102710) HT.drew ?_
    clear HT
    rintro U8 HT
    refine HeldBy.take (i := 0) rfl (by kernel_rfl) (by kernel_rfl) (by kernel_rfl) (fun _ _ _ h => h) (by rfl) (fun _ _ => by go_simp; rfl) (by go_simp; rfl) HT.obj ?_
    refine HeldBy.take (i := 1) rfl (by kernel_rfl) (by kernel_rfl) (by kernel_rfl) (fun _ _ _ h => h) (by rfl) (fun _ _ => by go_simp; rfl) (by go_simp; rfl) HT.obj ?_
    refine HeldBy.take (i := 2) rfl (by kernel_rfl) (by kernel_rfl) (by kernel_rfl) (fun _ _ _ h => h) (by rfl) (fun _ h => by have c := BoxO.c13 h; go_simp; rfl) (by go_simp; rfl) HT.obj ?_
    refine HeldBy.take (i := 5) rfl (by kernel_rfl) (by kernel_rfl) (by kernel_rfl) (fun _ _ _ h => h) (by rfl) (fun _ _ => by go_simp; rfl) (by go_simp; rfl) HT.obj ?_
    refine HeldBy.take (i := 6) rfl (by kernel_rfl) (by kernel_rfl) (by kernel_rfl) (fun _ _ _ h => h) (by rfl) (fun _ h => by have c := BoxO.c14 h; go_simp; rfl) (by go_simp; rfl) HT.obj ?_
    refine HeldBy.take (i := 9) rfl (by kernel_rfl) (by kernel_rfl) (by kernel_rfl) (fun _ _ _ h => h) (by rfl) (fun _ _ => by go_simp; rfl) (by go_simp; rfl) HT.obj ?_
    refine HeldBy.take (i := 10) rfl (by kernel_rfl) (by kernel_rfl) (by kernel_rfl) (fun _ _ _ h => h) (by rfl) (fun _ h => by have c := BoxO.c15 h; go_simp; rfl) (by go_simp; rfl) HT.obj ?_
    refine HeldBy.take (i := 13) rfl (by kernel_rfl) (by kernel_rfl) (by kernel_rfl) (fun _ _ _ h => h) (by rfl) (fun _ _ => by go_simp; rfl) (by go_simp; rfl) HT.obj ?_
    refine HeldBy.take (i := 14) rfl (by kernel_rfl) (by kernel_rfl) (by kernel_rfl) (fun _ _ _ h => h) (by rfl) (fun _ h => by have c := BoxO.c16 h; go_simp; rfl) (by go_simp; rfl) HT.obj ?_
    refine HeldBy.callE (i := 3) rfl (by kernel_rfl) (by rfl) (by go_simp; exact ⟨rfl, rfl⟩) (by intro v; go_simp; rfl) ?_
    refine (refText_any o.node HS.out.node _).mono ?_
    rintro e V29 ⟨t29, rfl, hH1, hb1⟩
    refine .inl ⟨_, rfl, (HT.below hb1).obj, ?_⟩
    replace HT := HT.below hb1
    have hT29 := hH1.bytes
    clear hb1 hH1
    obtain ⟨v30, X30, hr1, hH2, hG2⟩ := run_append_bytes _ 30 w.heap.size _ _ HT.held _ _ hT29 (by have := HT.len; have hm : (txtB o.node).length ≤ 41 := txtB_len HS.out.node; omega) HT.grew.by_.size
    refine HeldBy.value (i := 4) (v := v30) (w' := X30) rfl (by kernel_rfl) (by rfl) (exec_append rfl rfl rfl hr1) (by go_simp; rfl) (HT.step hH2 hG2 (Nat.le_trans (txtB_len HS.out.node : (txtB o.node).length ≤ 41) (by decide))).obj ?_
    replace HT := HT.step hH2 hG2 (Nat.le_trans (txtB_len HS.out.node : (txtB o.node).length ≤ 41) (by decide))
    clear hr1 hH2 hG2 hT29
    refine HeldBy.callE (i := 7) rfl (by kernel_rfl) (by rfl) (by go_simp; exact ⟨rfl, rfl⟩) (by intro v; go_simp; rfl) ?_
    refine (refText_any o.claim HS.out.claim _).mono ?_
    rintro e V31 ⟨t31, rfl, hH1, hb1⟩
    refine .inl ⟨_, rfl, (HT.below hb1).obj, ?_⟩
    replace HT := HT.below hb1
    have hT31 := hH1.bytes
    clear hb1 hH1
    obtain ⟨v32, X32, hr1, hH2, hG2⟩ := run_append_bytes _ 30 w.heap.size _ _ HT.held _ _ hT31 (by have := HT.len; have hm : (txtB o.claim).length ≤ 41 := txtB_len HS.out.claim; omega) HT.grew.by_.size
    refine HeldBy.value (i := 8) (v := v32) (w' := X32) rfl (by kernel_rfl) (by rfl) (exec_append rfl rfl rfl hr1) (by go_simp; rfl) (HT.step hH2 hG2 (Nat.le_trans (txtB_len HS.out.claim : (txtB o.claim).length ≤ 41) (by decide))).obj ?_
    replace HT := HT.step hH2 hG2 (Nat.le_trans (txtB_len HS.out.claim : (txtB o.claim).length ≤ 41) (by decide))
    clear hr1 hH2 hG2 hT31
    refine HeldBy.callE (i := 11) rfl (by kernel_rfl) (by rfl) (by go_simp; exact ⟨rfl, rfl⟩) (by intro v; go_simp; rfl) ?_
    refine (refText_any o.volume HS.out.volume _).mono ?_
    rintro e V33 ⟨t33, rfl, hH1, hb1⟩
    refine .inl ⟨_, rfl, (HT.below hb1).obj, ?_⟩
    replace HT := HT.below hb1
    have hT33 := hH1.bytes
    clear hb1 hH1
    obtain ⟨v34, X34, hr1, hH2, hG2⟩ := run_append_bytes _ 30 w.heap.size _ _ HT.held _ _ hT33 (by have := HT.len; have hm : (txtB o.volume).length ≤ 41 := txtB_len HS.out.volume; omega) HT.grew.by_.size
    refine HeldBy.value (i := 12) (v := v34) (w' := X34) rfl (by kernel_rfl) (by rfl) (exec_append rfl rfl rfl hr1) (by go_simp; rfl) (HT.step hH2 hG2 (Nat.le_trans (txtB_len HS.out.volume : (txtB o.volume).length ≤ 41) (by decide))).obj ?_
    replace HT := HT.step hH2 hG2 (Nat.le_trans (txtB_len HS.out.volume : (txtB o.volume).length ≤ 41) (by decide))
    clear hr1 hH2 hG2 hT33
    refine HeldBy.callE (i := 15) rfl (by kernel_rfl) (by rfl) (by go_simp; exact ⟨rfl, rfl⟩) (by intro v; go_simp; rfl) ?_
    refine (refText_any o.source HS.out.source _).mono ?_
    rintro e V35 ⟨t35, rfl, hH1, hb1⟩
    refine .inl ⟨_, rfl, (HT.below hb1).obj, ?_⟩
    replace HT := HT.below hb1
    have hT35 := hH1.bytes
    clear hb1 hH1
    obtain ⟨v36, X36, hr1, hH2, hG2⟩ := run_append_bytes _ 30 w.heap.size _ _ HT.held _ _ hT35 (by have := HT.len; have hm : (txtB o.source).length ≤ 41 := txtB_len HS.out.source; omega) HT.grew.by_.size
    refine HeldBy.value (i := 16) (v := v36) (w' := X36) rfl (by kernel_rfl) (by rfl) (exec_append rfl rfl rfl hr1) (by go_simp; rfl) (HT.step hH2 hG2 (Nat.le_trans (txtB_len HS.out.source : (txtB o.source).length ≤ 41) (by decide))).obj ?_
    replace HT := HT.step hH2 hG2 (Nat.le_trans (txtB_len HS.out.source : (txtB o.source).length ≤ 41) (by decide))
    clear hr1 hH2 hG2 hT35
    refine HeldBy.take (i := 17) rfl (by kernel_rfl) (by kernel_rfl) (by kernel_rfl) (fun _ _ _ h => h) (by rfl) (fun _ _ => by go_simp; rfl) (by go_simp; rfl) HT.obj ?_
    refine wpAnyH_done (by kernel_rfl) ?_ _
    go_upto_region 9 with (fail)
    refine wp_region_held_drew (S := fun W => BoxO W w.heap.size o) (by kernel_rfl) HT.obj.drew (fun _ => ?_)
    refine HeldBy.gen (fun W => ObjAt w o W v36 ((((((((((((((byteB o.kind) ++ (txtB o.name)) ++ (intB o.version)) ++ (intB o.born)) ++ (byteB (flagN o.deleting o.hold o.keep o.wait : Nat))) ++ (txtB o.cls)) ++ (intB o.size)) ++ (intB o.got)) ++ (byteB o.mode)) ++ (txtB o.zone)) ++ (txtB o.node)) ++ (txtB o.claim)) ++ (txtB o.volume)) ++ (txtB o.source)) 103910) HT.drew ?_
    clear HT
    rintro U9 HT
    refine HeldBy.take (i := 0) rfl (by kernel_rfl) (by kernel_rfl) (by kernel_rfl) (fun _ _ _ h => h) (by rfl) (fun _ _ => by go_simp; rfl) (by go_simp; rfl) HT.obj ?_
    refine HeldBy.take (i := 1) rfl (by kernel_rfl) (by kernel_rfl) (by kernel_rfl) (fun _ _ _ h => h) (by rfl) (fun _ _ => by go_simp; rfl) (by go_simp; rfl) HT.obj ?_
    refine HeldBy.take (i := 2) rfl (by kernel_rfl) (by kernel_rfl) (by kernel_rfl) (fun _ _ _ h => h) (by rfl) (fun _ h => by have c := BoxO.c17 h; go_simp; rfl) (by go_simp; rfl) HT.obj ?_
    refine HeldBy.take (i := 5) rfl (by kernel_rfl) (by kernel_rfl) (by kernel_rfl) (fun _ _ _ h => h) (by rfl) (fun _ _ => by go_simp; rfl) (by go_simp; rfl) HT.obj ?_
    refine HeldBy.take (i := 6) rfl (by kernel_rfl) (by kernel_rfl) (by kernel_rfl) (fun _ _ _ h => h) (by rfl) (fun _ h => by have c := BoxO.c18 h; go_simp; rfl) (by go_simp; rfl) HT.obj ?_
    refine HeldBy.value (i := 3) rfl (by kernel_rfl) (by rfl) (by go_simp; exact ⟨rfl, rfl⟩) (by go_simp; rfl) (HT.alloc _).obj ?_
    have hTb := HT.bytesNew (o.phase) HS.out.phase
    replace HT := HT.alloc (.cells #[.int .u8 (o.phase)] 5 (0, 0))
    obtain ⟨v37, X37, hr1, hH2, hG2⟩ := run_append_bytes _ 30 w.heap.size _ _ HT.held _ _ hTb (by have := HT.len; have hm : (byteB o.phase).length ≤ 41 := (by simp [byteB]); omega) HT.grew.by_.size
    refine HeldBy.value (i := 4) (v := v37) (w' := X37) rfl (by kernel_rfl) (by rfl) (exec_append rfl rfl rfl hr1) (by go_simp; rfl) (HT.step hH2 hG2 (Nat.le_trans ((by simp [byteB]) : (byteB o.phase).length ≤ 41) (by decide))).obj ?_
    replace HT := HT.step hH2 hG2 (Nat.le_trans ((by simp [byteB]) : (byteB o.phase).length ≤ 41) (by decide))
    clear hr1 hH2 hG2 hTb
    refine HeldBy.callE (i := 7) rfl (by kernel_rfl) (by rfl) (by go_simp; exact ⟨rfl, rfl⟩) (by intro v; go_simp; rfl) ?_
    refine (refNumber_any o.num HS.out.num _).mono ?_
    rintro e V38 ⟨t38, rfl, hH1, hb1⟩
    refine .inl ⟨_, rfl, (HT.below hb1).obj, ?_⟩
    replace HT := HT.below hb1
    have hT38 := hH1.bytes
    clear hb1 hH1
    obtain ⟨v39, X39, hr1, hH2, hG2⟩ := run_append_bytes _ 30 w.heap.size _ _ HT.held _ _ hT38 (by have := HT.len; have hm : (intB o.num).length ≤ 41 := Nat.le_trans (intB_ten HS.out.num) (by decide); omega) HT.grew.by_.size
    refine HeldBy.value (i := 8) (v := v39) (w' := X39) rfl (by kernel_rfl) (by rfl) (exec_append rfl rfl rfl hr1) (by go_simp; rfl) (HT.step hH2 hG2 (Nat.le_trans (Nat.le_trans (intB_ten HS.out.num) (by decide) : (intB o.num).length ≤ 41) (by decide))).obj ?_
    replace HT := HT.step hH2 hG2 (Nat.le_trans (Nat.le_trans (intB_ten HS.out.num) (by decide) : (intB o.num).length ≤ 41) (by decide))
    clear hr1 hH2 hG2 hT38
    refine HeldBy.take (i := 9) rfl (by kernel_rfl) (by kernel_rfl) (by kernel_rfl) (fun _ _ _ h => h) (by rfl) (fun _ _ => by go_simp; rfl) (by go_simp; rfl) HT.obj ?_
    refine wpAnyH_done (by kernel_rfl) ?_ _
    have c19 := HT.obj.c19
    go_wp2_with fail
    refine (refNumber_any o.tag HS.out.tag _).mono ?_
    rintro e W3 ⟨t3, rfl, hH1, hb1⟩
    clear c19
    replace HT := HT.below hb1
    have hT3 := hH1.bytes
    have HX : Hid (_ + (intB o.tag).length ≤ 140737488355328) := (by have h1 := HT.len; have h2 := intB_ten HS.out.tag; exact Nat.le_trans (Nat.add_le_add h1 h2) (by decide))
    have hBz := HT.grew.by_.size
    clear hb1 hH1
    go_wp2_with (at_builtin; refine wpList_append_bytes rfl (.tmp 92) (.tmp 95) rfl w.heap.size v39 _ ?_ HT.held t3 _ ?_ hT3 HX.out hBz ?_; rfl; rfl; intro v9 W4 hH2 hG2)
    replace HT := HT.step hH2 hG2 (Nat.le_trans (intB_ten HS.out.tag) (by decide))
    have HF : Hid (Held W4 w.heap.size v9 (objB o) ∧ Below w.heap.size w W4) := ⟨by rw [objB_ref]; exact HT.held, HT.grew.below (Held.nil _ _) (Nat.le_refl _)⟩
    clear HT hH2 hG2 hT3 HX hBz
    go_wp2
    go_ret2
    exact ⟨HF.out.2, _, rfl, HF.out.1⟩
end Go.Proofs.Ytacbfpgknfcimaa.C
