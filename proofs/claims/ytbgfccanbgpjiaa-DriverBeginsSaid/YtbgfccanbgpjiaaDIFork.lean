/- Own work. -/
import Derived.Maps.Range
import Derived.Test.YtbgfccanbgpjiaaDIClone
import Derived.Test.YtbgfccanbgpjiaaDJIModDo
namespace Go.Proofs.Ytbgfccanbgpjiaa.O.I
open Go Go.RowKit Go.Lib KM
open Go.ChangeMaps (setBlock)
attribute [local go_sem] Oper.semAt_some
def SameW (A B : World) : Prop := A = B
theorem get_once {κ V : Type} [DecidableEq κ] : ∀ {m : List (κ × V)}, KM.Once m → ∀ p ∈ m, KM.get p.1 m = some p.2
  | q :: r, h, p, hp => by
    obtain ⟨h1, h2⟩ := List.nodup_cons.1 (show (q.1 :: r.map (·.1)).Nodup from h)
    unfold KM.get
    rcases List.mem_cons.1 hp with e | e
    · rw [e, if_pos rfl]
    · rw [if_neg (fun e2 : p.1 = q.1 => h1 (by rw [← e2]; exact List.mem_map.2 ⟨p, e, rfl⟩)), get_once (m := r) h2 p e]
theorem wpList_next_at {P : Program} {ops : Array Oper} {Q : Exit → Act → World → Prop} {rest : List Oper} {o : Oper} {a : Act} {w : World} (hg : o.guard = none) (it : Operand) (hop : o.op = Op.next it false) {r bm since c0 clock : Nat} {seen : Array Nat} {es : Array MapEntry}
    (hit : a.eval it = .pointer (some ⟨r, 0, none⟩)) (hr : w.heap[r]? = some (.mapIter (some bm) since seen c0)) (hb : w.heap[bm]? = some (.map es clock)) (hold : ∀ x ∈ es.toList, x.born < since) (hsc : since ≤ c0) (hne : r ≠ bm) (hnd : (es.toList.map (·.born)).Nodup)
    (hDone : (leftOf es seen).size = 0 → wpList P ops Q rest (a.put o.dst (.tuple #[.bool false])) w)
    (hMore : ∀ e w1, e ∈ (leftOf es seen).toList → Turned w w1 r → w1.heap[r]? = some (.mapIter (some bm) since (seen.push e.born) clock) → (Instr.entry (.pointer (some ⟨r, 0, none⟩))).run P w1 = .ok (.tuple #[e.key, e.val]) w1 → wpList P ops Q rest (a.put o.dst (.tuple #[.bool true, e.key, e.val])) w1) :
    wpList P ops Q (o :: rest) a w := by
  refine wpList_plain hg fun K' hK' => ?_
  unfold Oper.wp
  rcases run_next_at (P := P) w o.type r bm since c0 seen es clock hr hb hold hsc with ⟨h0, hrun⟩ | ⟨e, he, w1, hal, hrun⟩
  · simp [execOp, hop, hit, hrun, Result.andThen]
    exact hK' _ _ (hDone h0)
  · simp [execOp, hop, hit, hrun, Result.andThen]
    have hr1 : w1.heap[r]? = some (.mapIter (some bm) since seen c0) := by rcases hal with rfl | rfl <;> exact hr
    have hb1 : w1.heap[bm]? = some (.map es clock) := by rcases hal with rfl | rfl <;> exact hb
    have hset := MapKept.heap_set (o' := .mapIter (some bm) since (seen.push e.born) clock) hr1
    have hb' : (setBlock w1 r (.mapIter (some bm) since (seen.push e.born) clock)).heap[bm]? = some (.map es clock) := (hset.2 bm (fun e1 => hne e1.symm)).trans hb1
    refine hK' _ _ (hMore e _ he ?_ hset.1 (run_entry_at _ r bm since seen es clock e hset.1 hb' (mem_left he).1 hnd))
    rcases hal with rfl | rfl
    · exact ⟨rfl, rfl, rfl, by simp [setBlock], fun g hg => hset.2 g hg⟩
    · exact ⟨rfl, rfl, rfl, by simp [setBlock], fun g hg => hset.2 g hg⟩
structure ForkR (l : List DV) (ms : ByteArray → Nat) (es : Array MapEntry) (clock v k : Nat) (W0 W1 wr : World) (seen : Array Nat) (c0 : Nat) (Vo : List (ByteArray × Value)) (mt : ByteArray → Nat) (dn : ByteArray → Bool) : Prop where
  it : wr.heap[k + 5]? = some (.mapIter (some v) clock seen c0)
  old : clock ≤ c0
  fm : IsMap encS wr (k + 1) Vo
  st : Stamp wr (k + 1)
  len : Vo.length = l.length
  once : KM.Once Vo
  get : ∀ q, KM.get q Vo = (volOf l q).map fun x => encV ⟨x.size, x.tag, x.zone, some (if dn q then mt q else ms q)⟩
  node : ∀ q x, volOf l q = some x → dn q = true → ∃ M : List ByteArray, IsMap encS wr (mt q) (M.map fun y => (y, .agg #[])) ∧ M.Perm x.nodes ∧ Stamp wr (mt q)
  far : ∀ q x, volOf l q = some x → dn q = true → k + 6 ≤ mt q
  inj : ∀ q1 q2 x1 x2, volOf l q1 = some x1 → volOf l q2 = some x2 → dn q1 = true → dn q2 = true → mt q1 = mt q2 → q1 = q2
  seen_is : ∀ e ∈ es.toList, ∀ q, e.key = encS q → dn q = seen.contains e.born
  keep : ∀ g, g < k + 5 → g ≠ k + 1 → wr.heap[g]? = W1.heap[g]?
  low : Below k W0 wr
theorem exec_box_d {o : Oper} {a : Act} {W : World} {x : Operand} {y : Dr} (ho : o.op = .box 84 x) (hx : a.eval x = encD y) : (execOp a.eval o).run Try.prog W = .ok (.value (.pointer (some ⟨W.heap.size, 0, none⟩))) (W.alloc (.cells (cellsD y) 84 (0, 0))) := by
  unfold execOp
  simp only [ho, hx]
  kernel_rfl
section
variable {d r v s n B : Nat} {W : World} {S : St}
set_option maxRecDepth 100000 in
set_option maxHeartbeats 16000000 in
theorem fork_model (h : PAt d r v s n B W S) : Calls Try.prog 25 #[.pointer (some ⟨d, 0, none⟩)] W fun e V => e = .returned (.pointer (some ⟨W.heap.size + 4, 0, none⟩)) ∧ PAt (W.heap.size + 4) W.heap.size (W.heap.size + 1) (W.heap.size + 2) (W.heap.size + 3) W.heap.size V S ∧ Below W.heap.size W V := by
  obtain ⟨No, ms, ⟨Vo, So, hd, hv, hs⟩, hN⟩ := h.rel
  obtain ⟨erR, ckR, heR, hhR⟩ := id hd.rooms
  obtain ⟨es, clock, hes, hh⟩ := id hd.vols
  obtain ⟨erS, ckS, heS, hhS⟩ := id hd.snaps
  obtain ⟨erD, ckD, heD, hhD⟩ := id hd.done
  have hstV : MapKept.Stamped es clock := by
    obtain ⟨es', c', h1, h2⟩ := hd.stamp
    rw [hes] at h1
    cases h1
    exact h2
  have hstS : MapKept.Stamped erS ckS := by
    obtain ⟨es', c', h1, h2⟩ := hd.stampS
    rw [heS] at h1
    cases h1
    exact h2
  obtain ⟨lt1, lt2, lt3, lt4, lt5⟩ := hd.lt
  obtain ⟨k, hk⟩ : ∃ k, W.heap.size = k := ⟨_, rfl⟩
  rw [hk] at lt1 lt2 lt3 lt4 lt5 ⊢
  -- what the entries are
  have HENT : Hid (∀ e ∈ es.toList, ∃ q x, e.key = encS q ∧ volOf S.core.vols q = some x ∧ e.val = encV ⟨x.size, x.tag, x.zone, some (ms q)⟩) := fun e he => by
    have h1 : (e.key, e.val) ∈ es.toList.map (fun e => (e.key, e.val)) := List.mem_map.2 ⟨e, he, rfl⟩
    rw [show es.toList.map (fun e => (e.key, e.val)) = Vo.map (fun p => (encS p.1, p.2)) from hh] at h1
    obtain ⟨p, hp, hpe⟩ := List.mem_map.1 h1
    have h2 := get_once hv.once p hp
    rw [hv.get] at h2
    obtain ⟨x, hx, hxe⟩ := Option.map_eq_some_iff.1 h2
    injection hpe with h3 h4
    exact ⟨p.1, x, h3.symm, hx, by rw [← h4, ← hxe]⟩
  have HALL : Hid (∀ q x, volOf S.core.vols q = some x → ∃ e ∈ es.toList, e.key = encS q) := fun q x hx => by
    have h1 : KM.get q Vo = some (encV ⟨x.size, x.tag, x.zone, some (ms q)⟩) := by rw [hv.get, hx]; rfl
    have h2 : (encS q, encV ⟨x.size, x.tag, x.zone, some (ms q)⟩) ∈ Vo.map (fun p => (encS p.1, p.2)) := List.mem_map.2 ⟨_, KM.get_mem h1, rfl⟩
    rw [← show es.toList.map (fun e => (e.key, e.val)) = Vo.map (fun p => (encS p.1, p.2)) from hh] at h2
    obtain ⟨e, he, hee⟩ := List.mem_map.1 h2
    injection hee with h3 _
    exact ⟨e, he, h3⟩
  have HVR := Lib.hid hv
  have HSR := Lib.hid hs
  have HNR := Lib.hid hN
  have HST := Lib.hid hstV
  have HSS2 := Lib.hid hstS
  have HP := Lib.hid h
  have HDR := Lib.hid hd
  have HVH : Hid (IsMap encS W v Vo) := hd.vols
  have HHV : Hid (Holds encS es.toList Vo) := hh
  have HHR : Hid (Holds encS erR.toList (roomsZ S.core.zones)) := hhR
  have HHS : Hid (Holds encS erS.toList So) := hhS
  have HHD : Hid (Holds encT erD.toList No) := hhD
  have HK : Hid (W.heap.size = k) := hk
  have HLT : Hid (d < k ∧ r < k ∧ v < k ∧ s < k ∧ n < k) := ⟨lt1, lt2, lt3, lt4, lt5⟩
  have HMR : Hid (W.heap[r]? = some (.map erR ckR)) := heR
  have HMV : Hid (W.heap[v]? = some (.map es clock)) := hes
  have HMS : Hid (W.heap[s]? = some (.map erS ckS)) := heS
  have HMD : Hid (W.heap[n]? = some (.map erD ckD)) := heD
  have HB : Hid (BoxD W d ⟨some r, some v, some s, some n⟩) := hd.box
  have HBX := HB
  have HE : Hid (W.heap = W.heap) := rfl
  have HL : Hid (Below k W W) := Below.refl _ _
  clear h hv hs hN hd hh hhR hhS hhD hes heR heS heD hstV hstS hk lt1 lt2 lt3 lt4 lt5
  go_enter Try.func25, Try.ntmps25
  go_upto_region 3 with (fail)
  refine wp_region_held_drew (S := fun V => BoxD V d ⟨some r, some v, some s, some n⟩) (by kernel_rfl) HB.out (fun _ => ?_)
  refine HeldBy.gen (fun V => (BoxD V d ⟨some r, some v, some s, some n⟩) ∧ (V.heap = W.heap) ∧ (Below k W V)) ⟨HB.out, HE.out, HL.out.drew⟩ ?_
  clear HB HE HL
  rintro U0 ⟨HS, HE, HL⟩
  refine HeldBy.tn (i := 0) rfl HS ?_
  refine HeldBy.tn (i := 1) rfl HS ?_
  refine HeldBy.tn (i := 2) rfl HS ?_
  refine HeldBy.tk (i := 3) rfl (fun V hV => by have hc := hV.c0; first | (go_simp; rfl) | (go_simp; done)) HS ?_
  refine HeldBy.tn (i := 5) rfl HS ?_
  refine HeldBy.tn (i := 6) rfl HS ?_
  refine HeldBy.tn (i := 7) rfl HS ?_
  refine HeldBy.tk (i := 8) rfl (fun V hV => by have hc := hV.c1; first | (go_simp; rfl) | (go_simp; done)) HS ?_
  refine HeldBy.tn (i := 10) rfl HS ?_
  refine HeldBy.tn (i := 11) rfl HS ?_
  refine HeldBy.tn (i := 12) rfl HS ?_
  refine HeldBy.tk (i := 13) rfl (fun V hV => by have hc := hV.c2; first | (go_simp; rfl) | (go_simp; done)) HS ?_
  refine HeldBy.tn (i := 15) rfl HS ?_
  refine HeldBy.tn (i := 16) rfl HS ?_
  refine HeldBy.tn (i := 17) rfl HS ?_
  refine HeldBy.tk (i := 18) rfl (fun V hV => by have hc := hV.c3; first | (go_simp; rfl) | (go_simp; done)) HS ?_
  have hsz0 : U0.heap.size = k := by rw [HE]; exact HK.out
  refine HeldBy.call (i := 4) (v := .map (some k)) rfl (by kernel_rfl) (by rfl) (by first | (go_simp; done) | (go_simp; first | exact ⟨rfl, rfl⟩ | rfl)) (by first | (go_simp; rfl) | (go_simp; done)) ?_
  refine (cloneR_any r erR ckR U0 (by rw [HE]; exact HMR.out)).mono ?_
  rintro e U1 ⟨he, hU1⟩
  rw [hsz0] at he
  have hs1 : U1.heap.size = k + 1 := by rw [hU1]; simp [hsz0]
  have hb1 : Below k W U1 := by rw [hU1]; exact HL.alloc (by omega) _
  have m1 : U1.heap[k]? = some (.map erR ckR) := by rw [hU1, ← hsz0]; exact heap_alloc_new _ _
  have HLo := HLT.out
  have hlow : ∀ {g : Nat} {o : Go.Obj} {U : World}, Below k W U → g < k → W.heap[g]? = some o → U.heap[g]? = some o := fun hb hg ho => (hb.block _ hg).trans ho
  have HS1 : BoxD U1 d ⟨some r, some v, some s, some n⟩ := (hb1.block d HLo.1).trans HBX.out
  clear hU1 HS
  refine ⟨he, HS1, ?_⟩
  clear he
  refine HeldBy.call (i := 9) (v := .map (some (k + 1))) rfl (by kernel_rfl) (by rfl) (by first | (go_simp; done) | (go_simp; first | exact ⟨rfl, rfl⟩ | rfl)) (by first | (go_simp; rfl) | (go_simp; done)) ?_
  refine (cloneV_any v es clock U1 (hlow hb1 HLo.2.2.1 HMV.out)).mono ?_
  rintro e U2 ⟨he, hU2⟩
  rw [hs1] at he
  have hs2 : U2.heap.size = k + 2 := by rw [hU2]; simp [hs1]
  have hb12 : Below (k + 1) U1 U2 := by rw [hU2]; exact (Below.refl _ _).alloc (by omega) _
  have m2 : U2.heap[k + 1]? = some (.map es clock) := by rw [hU2, ← hs1]; exact heap_alloc_new _ _
  have hb2 := hb1.trans (hb12.mono (Nat.le_succ k))
  have m12 := (hb12.block k (by omega)).trans m1
  have HS2 : BoxD U2 d ⟨some r, some v, some s, some n⟩ := (hb2.block d HLo.1).trans HBX.out
  clear hU2 HS1 hb12
  refine ⟨he, HS2, ?_⟩
  clear he
  refine HeldBy.call (i := 14) (v := .map (some (k + 2))) rfl (by kernel_rfl) (by rfl) (by first | (go_simp; done) | (go_simp; first | exact ⟨rfl, rfl⟩ | rfl)) (by first | (go_simp; rfl) | (go_simp; done)) ?_
  refine (cloneS_any s erS ckS U2 (hlow hb2 HLo.2.2.2.1 HMS.out)).mono ?_
  rintro e U3 ⟨he, hU3⟩
  rw [hs2] at he
  have hs3 : U3.heap.size = k + 3 := by rw [hU3]; simp [hs2]
  have hb23 : Below (k + 2) U2 U3 := by rw [hU3]; exact (Below.refl _ _).alloc (by omega) _
  have m3 : U3.heap[k + 2]? = some (.map erS ckS) := by rw [hU3, ← hs2]; exact heap_alloc_new _ _
  have hb3 := hb2.trans (hb23.mono (by omega))
  have m13 := (hb23.block k (by omega)).trans m12
  have m23 := (hb23.block (k + 1) (by omega)).trans m2
  have HS3 : BoxD U3 d ⟨some r, some v, some s, some n⟩ := (hb3.block d HLo.1).trans HBX.out
  clear hU3 HS2 hb23
  refine ⟨he, HS3, ?_⟩
  clear he
  refine HeldBy.call (i := 19) (v := .map (some (k + 3))) rfl (by kernel_rfl) (by rfl) (by first | (go_simp; done) | (go_simp; first | exact ⟨rfl, rfl⟩ | rfl)) (by first | (go_simp; rfl) | (go_simp; done)) ?_
  refine (cloneD_any n erD ckD U3 (hlow hb3 HLo.2.2.2.2 HMD.out)).mono ?_
  rintro e U4 ⟨he, hU4⟩
  rw [hs3] at he
  have hs4 : U4.heap.size = k + 4 := by rw [hU4]; simp [hs3]
  have hb34 : Below (k + 3) U3 U4 := by rw [hU4]; exact (Below.refl _ _).alloc (by omega) _
  have m4 : U4.heap[k + 3]? = some (.map erD ckD) := by rw [hU4, ← hs3]; exact heap_alloc_new _ _
  have hb4 := hb3.trans (hb34.mono (by omega))
  have m14 := (hb34.block k (by omega)).trans m13
  have m24 := (hb34.block (k + 1) (by omega)).trans m23
  have m34 := (hb34.block (k + 2) (by omega)).trans m3
  have HS4 : BoxD U4 d ⟨some r, some v, some s, some n⟩ := (hb4.block d HLo.1).trans HBX.out
  clear hU4 HS3 hb34
  refine ⟨he, HS4, ?_⟩
  clear he m1 m12 m13 m2 m23 m3
  refine HeldBy.tk (i := 20) (v := encD ⟨some k, some (k + 1), some (k + 2), some (k + 3)⟩) rfl (fun _ _ => by first | (go_simp; rfl) | (go_simp; done)) HS4 ?_
  obtain ⟨V1, hV1⟩ : ∃ V1, U4.alloc (.cells (cellsD ⟨some k, some (k + 1), some (k + 2), some (k + 3)⟩) 84 (0, 0)) = V1 := ⟨_, rfl⟩
  have hb45 : Below (k + 4) U4 V1 := by rw [← hV1]; exact (Below.refl _ _).alloc (by omega) _
  have fbx : BoxD V1 (k + 4) ⟨some k, some (k + 1), some (k + 2), some (k + 3)⟩ := by
    have := heap_alloc_new U4 (.cells (cellsD ⟨some k, some (k + 1), some (k + 2), some (k + 3)⟩) 84 (0, 0))
    rw [hs4, hV1] at this
    exact this
  have hs5 : V1.heap.size = k + 5 := by rw [← hV1]; simp [hs4]
  have hb5 := hb4.trans (hb45.mono (by omega))
  have HS5 : BoxD V1 d ⟨some r, some v, some s, some n⟩ := (hb5.block d HLo.1).trans HBX.out
  refine HeldBy.value (i := 21) (v := .pointer (some ⟨k + 4, 0, none⟩)) (w' := V1) rfl (by kernel_rfl) (by rfl) ((exec_box_d (y := ⟨some k, some (k + 1), some (k + 2), some (k + 3)⟩) rfl rfl).trans (by rw [hs4, hV1])) (by first | (go_simp; rfl) | (go_simp; done)) HS5 ?_
  refine HeldBy.tn (i := 22) rfl HS5 ?_
  refine wpAnyH_done (by kernel_rfl) ?_ _
  have hmv : V1.heap[v]? = some (.map es clock) := hlow hb5 HLo.2.2.1 HMV.out
  have hmk : V1.heap[k + 1]? = some (.map es clock) := (hb45.block (k + 1) (by omega)).trans m24
  have H1 : Hid (V1.heap[k]? = some (.map erR ckR)) := (hb45.block k (by omega)).trans m14
  have H3 : Hid (V1.heap[k + 2]? = some (.map erS ckS)) := (hb45.block (k + 2) (by omega)).trans m34
  have H4 : Hid (V1.heap[k + 3]? = some (.map erD ckD)) := (hb45.block (k + 3) (by omega)).trans m4
  have H5 := Lib.hid fbx
  have HBL := Lib.hid hb5
  have hrg := run_range_map V1 80 _ _ v es clock und_V hmv
  rw [hs5] at hrg
  obtain ⟨W2, hW2⟩ : ∃ W2, V1.alloc (.mapIter (some v) clock #[] clock) = W2 := ⟨_, rfl⟩
  rw [hW2] at hrg
  have hb56 : Below (k + 5) V1 W2 := by rw [← hW2]; exact (Below.refl _ _).alloc (by omega) _
  have hit0 : W2.heap[k + 5]? = some (.mapIter (some v) clock #[] clock) := by rw [← hW2, ← hs5]; exact heap_alloc_new _ _
  have HS6 : Hid (W2.heap.size = k + 6) := by show _ = _; rw [← hW2]; simp [hs5]
  have HMV2 : Hid (W2.heap[v]? = some (.map es clock)) := (hb56.block v (by omega)).trans hmv
  have HR0 : Hid (ForkR S.core.vols ms es clock v k W V1 W2 #[] clock Vo ms (fun _ => false)) := by
    have hk1 : W2.heap[k + 1]? = some (.map es clock) := (hb56.block (k + 1) (by omega)).trans hmk
    refine ⟨hit0, Nat.le_refl _, ⟨es, clock, hk1, HHV.out⟩, ⟨es, clock, hk1, HST.out⟩, HVR.out.len, HVR.out.once, HVR.out.get, fun _ _ _ h => (by cases h), fun _ _ _ h => (by cases h), fun _ _ _ _ _ _ h => (by cases h), fun e _ q _ => by simp, fun g hg _ => hb56.block g hg, hb5.trans (hb56.mono (by omega))⟩
  have hbx := HS5
  have g1 : V1.cell? ⟨d, 1, none⟩ = some (.map (some v)) := hbx.c1
  clear hV1 hb45 hs5 hb5 HS5 hmv hmk m14 m24 m34 m4 fbx hb4 hb3 hb2 hb1 HS4 hs4 hs3 hs2 hs1 hsz0 hb56 hit0 hbx HE HL hW2 HLo
  go_upto_region 4 with (fail)
  go_wp2
  try go_frame
  clear hrg g1
  go_loopw [4] (fun _ wr => ∃ seen c0 Vt mt dn, ForkR S.core.vols ms es clock v k W V1 wr seen c0 Vt mt dn) (fun _ wr => wr.rangeLeft v (k + 5))
  case atStart => exact ⟨_, _, _, _, _, HR0.out⟩
  case round =>
    obtain ⟨seen, c0, Vt, mt, dn, hR⟩ := hrel
    have HRR := Lib.hid hR
    have HLo := HLT.out
    have hmv : wr.heap[v]? = some (.map es clock) := (hR.low.block v HLo.2.2.1).trans HMV.out
    have hstm := (MapKept.stamped_iff es clock).1 HST.out
    go_wp2_with (refine wpList_next_at rfl _ rfl rfl HRR.out.it hmv hstm.1 HRR.out.old (by omega) hstm.2.1 ?_ ?_)
    · -- nothing is left
      intro h0'
      have h0 : (leftOf es seen).size = 0 := by first | exact h0' | (rw [h0']; rfl)
      have HX : Hid (PAt (k + 4) k (k + 1) (k + 2) (k + 3) k wr S ∧ Below k W wr) := by
        have hall := all_seen es seen h0
        have hdn : ∀ q x, volOf S.core.vols q = some x → dn q = true := fun q x hx => by
          obtain ⟨e, he, hke⟩ := HALL.out q x hx
          rw [hR.seen_is e he q hke]
          exact hall e he
        have kk : ∀ {g : Nat} {o : Go.Obj}, g < k + 5 → g ≠ k + 1 → V1.heap[g]? = some o → wr.heap[g]? = some o := fun hg hne ho => (hR.keep _ hg hne).trans ho
        refine ⟨⟨?_, ⟨by omega, by omega, by omega, by omega⟩, HP.out.inv, HP.out.once, No, mt, ⟨Vt, So, ⟨kk (by omega) (by omega) H5.out, ⟨erR, ckR, kk (by omega) (by omega) H1.out, HHR.out⟩, hR.fm, ⟨erS, ckS, kk (by omega) (by omega) H3.out, HHS.out⟩, ⟨erD, ckD, kk (by omega) (by omega) H4.out, HHD.out⟩, hR.st, ⟨erS, ckS, kk (by omega) (by omega) H3.out, HSS2.out⟩⟩, ⟨fun q => ?_, hR.len, hR.once, fun q x hx => hR.node q x hx (hdn q x hx), fun q x hx => ?_, fun q1 q2 x1 x2 h1 h2 h3 => hR.inj q1 q2 x1 x2 h1 h2 (hdn _ _ h1) (hdn _ _ h2) h3⟩, HSR.out⟩, HNR.out⟩, hR.low⟩
        · unfold Five
          omega
        · rw [hR.get]
          cases hx : volOf S.core.vols q with
          | none => rfl
          | some x => rw [hdn q x hx]; rfl
        · have := hR.far q x hx (hdn q x hx)
          omega
      clear HRR hR hmv hstm h0 h0'
      go_wp2
      go_ret
      exact ⟨rfl, HX.out.1, HX.out.2⟩
    · -- an entry comes
      intro e w1 he' ht1 hit1 hen
      have he : e ∈ (leftOf es seen).toList := by first | exact he' | exact Array.mem_toList_iff.2 he'
      obtain ⟨hem, hes0⟩ := mem_left he
      obtain ⟨q, x, hke, hx, hve⟩ := HENT.out e hem
      have hls := left_shrinks es seen e he
      rw [hke, hve] at hen ⊢
      obtain ⟨M, hM, hMp, hMs⟩ := HVR.out.node q x hx
      obtain ⟨eN, cN, heN, hhN⟩ := hM
      have hmsk : ms q < k := by
        have := (Array.getElem?_eq_some_iff.1 heN).1
        rw [HK.out] at this
        exact this
      have hwr1 : Below (k + 5) wr w1 := ht1.below (Nat.le_refl _)
      have hsz1 : k + 6 ≤ w1.heap.size := by
        rw [ht1.size]
        have := (Array.getElem?_eq_some_iff.1 hR.it).1
        omega
      have hlow1 : Below k W w1 := hR.low.trans (hwr1.mono (by omega))
      obtain ⟨V2, sv, bv, lv⟩ := boxV w1 zeroV rfl ⟨x.size, x.tag, x.zone, some (ms q)⟩
      have hbvl := bv.lt
      have heN2 : V2.heap[ms q]? = some (.map eN cN) := ((hlow1.trans (lv.mono (by omega))).block _ hmsk).trans heN
      have HCL := Lib.hid (cloneN_any (ms q) eN cN V2 heN2)
      obtain ⟨V3, hV3⟩ : ∃ V3, V2.alloc (.map eN cN) = V3 := ⟨_, rfl⟩
      have lv3 : Below V2.heap.size V2 V3 := by rw [← hV3]; exact (Below.refl _ _).alloc (Nat.le_refl _) _
      have hV3n : V3.heap[V2.heap.size]? = some (.map eN cN) := by rw [← hV3]; exact heap_alloc_new _ _
      have hs3 : V3.heap.size = V2.heap.size + 1 := by rw [← hV3]; simp
      have bv3 : BoxV V3 w1.heap.size ⟨x.size, x.tag, x.zone, some (ms q)⟩ := bv.after lv3
      obtain ⟨V4, hV4⟩ : ∃ V4, V3.setCell ⟨w1.heap.size, 3, none⟩ (.map (some V2.heap.size)) = V4 := ⟨_, rfl⟩
      have bv4 : BoxV V4 w1.heap.size ⟨x.size, x.tag, x.zone, some V2.heap.size⟩ := by
        rw [← hV4]
        exact (heap_setCell_same _ w1.heap.size 3 _ _ (.map (some V2.heap.size)) bv3).trans rfl
      have lv4 : Below w1.heap.size w1 V4 := by
        rw [← hV4]
        exact (lv.trans (lv3.mono (by omega))).setCell (show w1.heap.size ≤ w1.heap.size from Nat.le_refl _) _
      have hk4 : ∀ g, g ≠ w1.heap.size → V4.heap[g]? = V3.heap[g]? := fun g hg => by
        rw [← hV4]
        exact heap_setCell_other _ ⟨w1.heap.size, 3, none⟩ g _ hg
      have hs4 : V4.heap.size = V3.heap.size := by rw [← hV4]; simp
      have hfm4 : IsMap encS V4 (k + 1) Vt := (hR.fm.of_heap (ht1.block (k + 1) (by omega))).of_heap (lv4.block (k + 1) (by omega))
      have hst4 : Stamp V4 (k + 1) := (hR.st.of_heap (ht1.block (k + 1) (by omega))).of_heap (lv4.block (k + 1) (by omega))
      have hfb4 : BoxD V4 (k + 4) ⟨some k, some (k + 1), some (k + 2), some (k + 3)⟩ := (lv4.block (k + 4) (by omega)).trans ((ht1.block (k + 4) (by omega)).trans ((hR.keep (k + 4) (by omega) (by omega)).trans H5.out))
      obtain ⟨V5, hup, hfm5, ht5, hst5⟩ := exec_upds und_V (hfm4.of_heap (show V4.drew.heap[k + 1]? = _ from rfl)) (hst4.of_heap (show V4.drew.heap[k + 1]? = _ from rfl)) q (encV ⟨x.size, x.tag, x.zone, some V2.heap.size⟩)
      have h5k : ∀ g, g ≠ k + 1 → V5.heap[g]? = V4.heap[g]? := fun g hg => ht5.block g hg
      have hfin : ForkR S.core.vols ms es clock v k W V1 V5 (seen.push e.born) clock (KM.put q (encV ⟨x.size, x.tag, x.zone, some V2.heap.size⟩) Vt) (fun y => if y = q then V2.heap.size else mt y) (fun y => dn y || decide (y = q)) := by
        have hold : ∀ g, g < w1.heap.size → g ≠ k + 1 → g ≠ k + 5 → V5.heap[g]? = wr.heap[g]? := fun g hg h1 h2 => (h5k g h1).trans ((lv4.block g hg).trans (ht1.block g h2))
        have hmtl : ∀ y z, volOf S.core.vols y = some z → dn y = true → mt y < w1.heap.size := fun y z hy hdy => by
          obtain ⟨M2, h1, -, -⟩ := hR.node y z hy hdy
          have := h1.lt
          rw [ht1.size]
          exact this
        have hgq : KM.get q Vt = some (encV ⟨x.size, x.tag, x.zone, some (if dn q then mt q else ms q)⟩) := by rw [hR.get, hx]; rfl
        refine ⟨(h5k _ (by omega)).trans ((lv4.block _ (by omega)).trans hit1), Nat.le_refl _, hfm5, hst5, ?_, hR.once.put, fun y => ?_, fun y z hy hdy => ?_, fun y z hy hdy => ?_, fun y1 y2 z1 z2 h1 h2 d1 d2 hm => ?_, fun e2 he2 y hy => ?_, fun g hg hne => ?_, ?_⟩
        · rw [length_put, hgq]
          exact hR.len
        · rw [KM.get_put]
          by_cases hyq : y = q
          · subst hyq
            rw [if_pos rfl, hx]
            simp
          · rw [if_neg hyq, hR.get]
            simp [hyq]
        · by_cases hyq : y = q
          · subst hyq
            rw [hx] at hy
            cases hy
            have hh5 : V5.heap[V2.heap.size]? = some (.map eN cN) := (h5k _ (by omega)).trans ((hk4 _ (by omega)).trans hV3n)
            refine ⟨M, ?_, hMp, ?_⟩
            · rw [if_pos rfl]
              exact ⟨eN, cN, hh5, hhN⟩
            · rw [if_pos rfl]
              obtain ⟨e3, c3, h6, h7⟩ := hMs
              rw [heN] at h6
              cases h6
              exact ⟨eN, cN, hh5, h7⟩
          · have hdy' : dn y = true := by simpa [hyq] using hdy
            obtain ⟨M2, k1, k2, k3⟩ := hR.node y z hy hdy'
            have hf := hR.far y z hy hdy'
            have hl := hmtl y z hy hdy'
            have heq := hold (mt y) hl (by omega) (by omega)
            rw [if_neg hyq]
            exact ⟨M2, k1.of_heap heq, k2, k3.of_heap heq⟩
        · by_cases hyq : y = q
          · rw [if_pos hyq]
            omega
          · rw [if_neg hyq]
            exact hR.far y z hy (by simpa [hyq] using hdy)
        · by_cases y1q : y1 = q
          · by_cases y2q : y2 = q
            · rw [y1q, y2q]
            · rw [if_pos y1q, if_neg y2q] at hm
              have := hmtl y2 z2 h2 (by simpa [y2q] using d2)
              omega
          · by_cases y2q : y2 = q
            · rw [if_neg y1q, if_pos y2q] at hm
              have := hmtl y1 z1 h1 (by simpa [y1q] using d1)
              omega
            · rw [if_neg y1q, if_neg y2q] at hm
              exact hR.inj y1 y2 z1 z2 h1 h2 (by simpa [y1q] using d1) (by simpa [y2q] using d2) hm
        · rw [contains_push, hR.seen_is e2 he2 y hy]
          congr 1
          by_cases hyq : y = q
          · have e3 : e2 = e := entry_eq_of_key hstm.2.2 he2 hem (by rw [hy, hke, hyq])
            rw [e3]
            simp [hyq]
          · have hne : e2.born ≠ e.born := fun hbo => hyq (by
              have e3 := born_inj hstm.2.1 he2 hem hbo
              rw [e3, hke] at hy
              unfold encS at hy
              exact (Value.string.inj hy).symm)
            simp [hyq, hne]
        · exact (hold g (by omega) hne (by omega)).trans (hR.keep g hg hne)
        · exact (hlow1.trans (lv4.mono (show k ≤ w1.heap.size by omega))).drew.trans (ht5.below (show k ≤ k + 1 by omega))
      have HFIN := Lib.hid hfin
      have HLS : Hid (V5.rangeLeft v (k + 5) < wr.rangeLeft v (k + 5)) := by
        have hmv5 : V5.heap[v]? = some (.map es clock) := (hfin.low.block v HLo.2.2.1).trans HMV.out
        show V5.rangeLeft v (k + 5) < wr.rangeLeft v (k + 5)
        simp only [World.rangeLeft, hmv5, hmv, hfin.it, hR.it]
        exact hls
      have HUP : Hid (∀ {oi : Oper} {a : Act} {p r t : Operand}, oi.op = .mapUpdate tV p r t → a.eval p = .map (some (k + 1)) → a.eval r = .string q → a.eval t = encV ⟨x.size, x.tag, x.zone, some V2.heap.size⟩ → (execOp a.eval oi).run Try.prog V4.drew = .ok .skip V5) := hup
      have HV3 := Lib.hid hV3
      have HV4 := Lib.hid hV4
      have n3 : V2.cell? ⟨w1.heap.size, 3, none⟩ = some (.map (some (ms q))) := bv.c3
      have n4 : V3.cell? ⟨w1.heap.size, 3, none⟩ = some (.map (some (ms q))) := bv3.c3
      have z4 := bv3.free 3
      have HF : Hid (BoxD V4 (k + 4) ⟨some k, some (k + 1), some (k + 2), some (k + 3)⟩) := hfb4
      have HX : Hid (BoxV V4 w1.heap.size ⟨x.size, x.tag, x.zone, some V2.heap.size⟩) := bv4
      have HE4 : Hid (SameW V4.drew V4.drew) := rfl
      have HS5 : Hid (BoxD V5 (k + 4) ⟨some k, some (k + 1), some (k + 2), some (k + 3)⟩ ∧ BoxV V5 w1.heap.size ⟨x.size, x.tag, x.zone, some V2.heap.size⟩) := ⟨(h5k _ (by omega)).trans hfb4, (h5k _ (by omega)).trans bv4⟩
      clear hfin hup hfm5 ht5 hst5 h5k hfm4 hst4 hfb4 bv4 lv4 hk4 hs4 hV3n lv3 hs3 bv3 hV3 hV4 heN2 lv hbvl hlow1 hwr1 hsz1 hit1 ht1 hmsk heN hhN hMp hMs hls hem hes0 hke hve hx he he' hmv hstm hR HRR bv
      go_upto_region 7 with (refine wpList_skip rfl (sv rfl rfl rfl) ?_)
      clear sv hen
      go_wp2_with (fail)
      refine HCL.out.mono ?_
      rintro e2 V3' ⟨rfl, rfl⟩
      rw [HV3.out]
      go_upto_region 8 with (fail)
      rw [HV4.out]
      clear n3 n4 z4 HCL
      refine wp_region_held_drew (S := fun V => BoxD V (k + 4) ⟨some k, some (k + 1), some (k + 2), some (k + 3)⟩ ∧ BoxV V w1.heap.size ⟨x.size, x.tag, x.zone, some V2.heap.size⟩) (by kernel_rfl) ⟨HF.out, HX.out⟩ (fun _ => ?_)
      refine HeldBy.gen (fun V => (BoxD V (k + 4) ⟨some k, some (k + 1), some (k + 2), some (k + 3)⟩ ∧ BoxV V w1.heap.size ⟨x.size, x.tag, x.zone, some V2.heap.size⟩) ∧ (SameW V V4.drew)) ⟨⟨HF.out, HX.out⟩, HE4.out⟩ ?_
      clear HF HX HE4
      rintro U0 ⟨HS, HE4⟩
      refine HeldBy.tn (i := 0) rfl HS ?_
      refine HeldBy.tn (i := 1) rfl HS ?_
      refine HeldBy.tn (i := 2) rfl HS ?_
      refine HeldBy.tk (i := 3) rfl (fun V hV => by have hc := hV.1.c1; first | (go_simp; rfl) | (go_simp; done)) HS ?_
      refine HeldBy.tn (i := 4) rfl HS ?_
      refine HeldBy.tk (i := 5) (v := encV ⟨x.size, x.tag, x.zone, some V2.heap.size⟩) rfl (fun V hV => loadV hV.2 rfl rfl) HS ?_
      rw [show U0 = V4.drew from HE4]
      refine HeldBy.store (i := 6) (w' := V5) rfl (by kernel_rfl) (by rfl) (HUP.out rfl rfl rfl rfl) (by first | (go_simp; rfl) | (go_simp; done)) HS5.out ?_
      refine wpAnyH_done (by kernel_rfl) ?_ _
      go_wp2
      go_roundw
      case rel => exact ⟨_, _, _, _, _, HFIN.out⟩
      case measure => exact HLS.out
end
end Go.Proofs.Ytbgfccanbgpjiaa.O.I
