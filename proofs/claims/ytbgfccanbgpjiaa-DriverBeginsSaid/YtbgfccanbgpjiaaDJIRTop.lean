/- Own work. -/
import Derived.Test.YtbgfccanbgpjiaaDJIRTop0
import Derived.Test.YtbgfccanbgpjiaaDIRTopB
import Derived.Test.YtbgfccanbgpjiaaDIRTopC
import Derived.Test.YtbgfccanbgpjiaaDIRDo
import Derived.Test.YtbgfccanbgpjiaaDJIDeed
import Derived.Test.YtbgfccanbgpjiaaDJ04
import Derived.Test.YtbgfccanbgpjiaaDJISnSeqN
import Derived.Test.YtbgfccanbgpjiaaDIRSet
import Derived.OwnWalk
namespace Go.Proofs.Ytbgfccanbgpjiaa.O.I
open Go Go.RowKit Go.Lib KM
attribute [local go_sem] Oper.semAt_some
section
variable {R : Nat} {w : World} {q : Nat} {S : St} {rd : Rd} {L : List (DV × Sl)} (h : RAt R w q S rd L) (hR : R ≤ w.heap.size) (c : Cl) (hfc : FitC c) (hok : DocOK S)
include h hR hfc hok
theorem rDo_any : Calls Try.prog 57 #[.pointer (some ⟨q, 0, none⟩), encC c] w (RDQ R w q (doS S c)) := by
  cases hri : rightB c with
  | false =>
    rw [show doS S c = (errR 2, S) by unfold doS; rw [if_pos hri]]
    exact rDo_bad h hR c hfc hri
  | true =>
    have h0 : ¬ rightB c = false := by rw [hri]; decide
    have hsz := right_size hri
    have hvb : 1 ≤ c.verb ∧ c.verb ≤ 7 := by
      have h1 := hri
      unfold rightB at h1
      simp only [Bool.and_eq_true] at h1
      have h2 := h1.2
      unfold hasB at h2
      by_cases v1 : c.verb = 1
      · omega
      by_cases v2 : c.verb = 2
      · omega
      by_cases v3 : c.verb = 3
      · omega
      by_cases v4 : c.verb = 4
      · omega
      by_cases v5 : c.verb = 5
      · omega
      by_cases v6 : c.verb = 6
      · omega
      by_cases v7 : c.verb = 7
      · omega
      simp [v1, v2, v3, v4, v5, v6, v7] at h2
    have hdo : ∀ V, RAt R V q S rd L → R ≤ V.heap.size → Calls Try.prog 77 #[.pointer (some ⟨q, 0, none⟩), encC c] V (RQ R V q (perfC S.core c) S.seen) := fun V hA hV => rdo_any hA hV c hsz hvb hok
    rcases first_or (fun p : Cl × Rs => decide (p.1.target = c.target) && (snapV p.1.verb == snapV c.verb)) S.seen with ⟨i, x, hx, hp, hn⟩ | hno
    · have hl : lastOf S.seen (snapV c.verb) c.target = some x := found_find hx hp hn
      by_cases h1 : c.num < x.1.num
      · rw [show doS S c = (errR 9, S) by unfold doS; rw [if_neg h0, hl]; exact if_pos h1]
        exact rDo_stale h hR c hfc i x hx hp hn hri h1
      · by_cases h2 : c.num = x.1.num
        · by_cases h3 : c = x.1
          · rw [show doS S c = (x.2, S) by unfold doS; rw [if_neg h0, hl]; dsimp only; rw [if_neg h1, if_pos h2]; exact if_pos h3]
            exact rDo_same h hR c hfc i x hx hp hn hri h3
          · rw [show doS S c = (errR 6, S) by unfold doS; rw [if_neg h0, hl]; dsimp only; rw [if_neg h1, if_pos h2]; exact if_neg h3]
            exact rDo_conflict h hR c hfc i x hx hp hn hri h2 h3
        · rw [show doS S c = ((perfC S.core c).1, ⟨(perfC S.core c).2, S.seen.eraseIdx i ++ [(c, (perfC S.core c).1)]⟩) by unfold doS; rw [if_neg h0, hl]; dsimp only; rw [if_neg h1, if_neg h2]; unfold runS; rw [delSeen_erase hx hp hn]]
          exact rDo_newer h hR c hfc _ i x hx hp hn hri (by omega) hdo
    · have hl : lastOf S.seen (snapV c.verb) c.target = none := not_of_false hno
      by_cases hf : 256 ≤ S.seen.length
      · rw [show doS S c = (errR 7, S) by unfold doS; rw [if_neg h0, hl]; exact if_pos hf]
        exact rDo_full h hR c hfc hno hri hf
      · rw [show doS S c = ((perfC S.core c).1, ⟨(perfC S.core c).2, S.seen ++ [(c, (perfC S.core c).1)]⟩) by unfold doS; rw [if_neg h0, hl]; dsimp only; rw [if_neg hf]; unfold runS; rw [delSeen_none hno]]
        exact rDo_first h hR c hfc _ hno hri (by omega) hdo
end
end Go.Proofs.Ytbgfccanbgpjiaa.O.I
namespace Go.Proofs.Ytbgfccanbgpjiaa.O.I
open Go Go.RowKit Go.Lib KM
attribute [local go_sem] Oper.semAt_some
theorem own_cells {W V : World} {R k n : Nat} {e : TypeId} {v : Value} {xs : List Value} (h : W.ownsRow R e k v n xs) (hb : CellsStay W V) : V.ownsRow R e k v n xs := by
  refine ⟨h.1, ?_⟩
  rcases h.2 with h1 | ⟨g, cap, cur, h1, h2, h3, h4⟩
  · exact .inl h1
  · exact .inr ⟨g, cap, cur, h1, h2, hb _ _ _ _ h3, h4⟩
section
variable {R d r v s n B q : Nat} {W V : World} {S : St} {rd : Rd} {L : List (DV × Sl)}
theorem VOwn.cells {sl : Sl} {K : List (DV × Sl)} (h : VOwn W R sl K) (hb : CellsStay W V) : VOwn V R sl K := ⟨own_cells h.1 hb, fun p hp => (h.2 p hp).stay fun g _ hg => hb g _ _ _ hg⟩
theorem RAt.cells (h : RAt R W q S rd L) (hb : CellsStay W V) : RAt R V q S rd L :=
  ⟨h.low, hb _ _ _ _ h.box, own_cells h.zones hb, VOwn.cells h.vols hb, h.told, own_cells h.snaps hb, own_cells h.seen hb, h.few⟩
theorem soft_map {κ : Type} {enc : κ → Value} {g : Nat} {m : List (κ × Value)} (h : IsMap enc W g m) : ¬ Soft W g := by
  rintro ⟨cs, t, f, h1, -⟩
  exact no_map h h1
theorem soft_box {g : Nat} {x : Dr} (h : BoxD W g x) : ¬ Soft W g := by
  rintro ⟨cs, t, f, h1, h2⟩
  rw [show W.heap[g]? = _ from h] at h1
  injection h1 with h1
  injection h1 with _ h1 _
  rw [← h1] at h2
  exact absurd h2 (by decide)
theorem PAt.doc (h : PAt d r v s n B W S) (hd : DocStay R W V) : PAt d r v s n B V S := by
  obtain ⟨No, ms, ⟨Vo, So, ha, hv, hs⟩, hN⟩ := h.rel
  obtain ⟨l1, l2, l3, l4, l5⟩ := ha.lt
  have k1 := hd.2 d l1 (soft_box ha.box)
  have k2 := hd.2 r l2 (soft_map ha.rooms)
  have k3 := hd.2 v l3 (soft_map ha.vols)
  have k4 := hd.2 s l4 (soft_map ha.snaps)
  have k5 := hd.2 n l5 (soft_map ha.done)
  refine ⟨h.five, h.low, h.inv, h.once, No, ms, ⟨Vo, So, ⟨k1.trans ha.box, ha.rooms.of_heap k2, ha.vols.of_heap k3, ha.snaps.of_heap k4, ha.done.of_heap k5, ha.stamp.of_heap k3, ha.stampS.of_heap k4⟩, hv.move (fun k x hx => ?_), hs⟩, hN⟩
  obtain ⟨M, h1, -, -⟩ := hv.node k x hx
  exact hd.2 _ h1.lt (soft_map h1)
theorem PAt.drew (h : PAt d r v s n B W S) : PAt d r v s n B W.drew S := by
  obtain ⟨No, ms, ⟨Vo, So, hd, hv, hs⟩, hN⟩ := h.rel
  exact ⟨h.five, h.low, h.inv, h.once, No, ms, ⟨Vo, So, hd, hv.move (fun _ _ _ => rfl), hs⟩, hN⟩
theorem PAt.cellset {b : Nat} {x : Cl} (h : PAt d r v s n B W S) (hb : BoxC W b x) (hk : ∀ g, g ≠ b → V.heap[g]? = W.heap[g]?) : PAt d r v s n B V S := by
  obtain ⟨No, ms, ⟨Vo, So, ha, hv, hs⟩, hN⟩ := h.rel
  have k1 := hk d (fun e => by
    subst e
    have h1 := (show W.heap[d]? = _ from hb).symm.trans ha.box
    injection h1 with h1
    injection h1 with _ h1 _
    exact absurd h1 (by decide))
  have k2 := hk r (fun e => by subst e; exact no_map ha.rooms hb)
  have k3 := hk v (fun e => by subst e; exact no_map ha.vols hb)
  have k4 := hk s (fun e => by subst e; exact no_map ha.snaps hb)
  have k5 := hk n (fun e => by subst e; exact no_map ha.done hb)
  refine ⟨h.five, h.low, h.inv, h.once, No, ms, ⟨Vo, So, ⟨k1.trans ha.box, ha.rooms.of_heap k2, ha.vols.of_heap k3, ha.snaps.of_heap k4, ha.done.of_heap k5, ha.stamp.of_heap k3, ha.stampS.of_heap k4⟩, hv.move (fun k x hx => ?_), hs⟩, hN⟩
  obtain ⟨M, h1, -, -⟩ := hv.node k x hx
  exact hk _ (fun e => by rw [e] at h1; exact no_map h1 hb)
end
theorem yes_new (v : Value) (l : List Zn) (w : World) (hz : ZonesIn w v l) (h : zonesB l = true) : Calls Try.prog 19 #[v] w fun e w' => e = .returned (.pointer (some ⟨w.heap.size + 4, 0, none⟩)) ∧ DrAt w' (w.heap.size + 4) w.heap.size (w.heap.size + 1) (w.heap.size + 2) (w.heap.size + 3) (roomsZ l) [] [] [] ∧ Below w.heap.size w w' := by
  refine (new_any v l w hz).mono ?_
  rintro e w' ⟨rfl, hd, hb⟩
  have hd' := hd h
  rw [h]
  exact ⟨rfl, hd', hb⟩
theorem yes_rnew (v : Value) (l : List Zn) (w : World) (hz : ZonesIn w v l) (hf : ∀ z ∈ l, FitZ z) (h : zonesB l = true) : Calls Try.prog 20 #[v] w fun e w' => ∃ q, e = .returned (.pointer (some ⟨q, 0, none⟩)) ∧ (w.heap.size ≤ q ∧ ∃ s : Sl, BoxQ w' q ⟨s, nilS, nilS, nilS⟩ ∧ w'.ownsRow w.heap.size 42 2 (encSl s) l.length (catZ l)) ∧ Below w.heap.size w w' := by
  refine (ref_new v l w hz hf).mono ?_
  rintro e w' ⟨q, rfl, hq, hb⟩
  have hq' := hq h
  rw [h]
  exact ⟨q, rfl, hq', hb⟩
theorem pat_new {k : Nat} {w : World} {l : List Zn} (hd : DrAt w (k + 4) k (k + 1) (k + 2) (k + 3) (roomsZ l) [] [] []) : PAt (k + 4) k (k + 1) (k + 2) (k + 3) k w ⟨⟨l, [], []⟩, []⟩ :=
  ⟨five_of k, ⟨Nat.le_refl _, by omega, by omega, by omega⟩, ⟨List.nodup_nil, List.nodup_nil, fun _ _ h => (by cases h), fun _ _ h => (by cases h), fun _ _ h => by cases h⟩, List.nodup_nil, [], fun _ => 0,
    ⟨[], [], hd, ⟨fun _ => rfl, rfl, List.nodup_nil, fun _ _ h => (by cases h), fun _ _ h => (by cases h), fun _ _ _ _ h => by cases h⟩, ⟨fun _ => rfl, rfl, List.nodup_nil⟩⟩, ⟨fun _ => rfl, rfl, List.nodup_nil⟩⟩
theorem rat_new {R q : Nat} {w : World} {l : List Zn} {s : Sl} (hq : R ≤ q) (hb : BoxQ w q ⟨s, nilS, nilS, nilS⟩) (ho : w.ownsRow R 42 2 (encSl s) l.length (catZ l)) (hl : l.length ≤ 16) : RAt R w q ⟨⟨l, [], []⟩, []⟩ ⟨s, nilS, nilS, nilS⟩ [] :=
  ⟨hq, hb, ho, ⟨own_none _ _ _ _, fun _ h => by cases h⟩, rfl, own_none _ _ _ _, own_none _ _ _ _, hl, Nat.zero_le _, Nat.zero_le _, Nat.zero_le _⟩
theorem good_new (l : List Zn) : Good 0 ⟨l, [], []⟩ := ⟨List.Pairwise.nil, List.Pairwise.nil, fun _ h => (by cases h), fun _ h => (by cases h), fun _ h => by cases h⟩
theorem vol_in {l : List DV} (h : OnceV l) {x : DV} (hx : x ∈ l) : volOf l x.name = some x := by
  induction l with
  | nil => cases hx
  | cons z r ih =>
    obtain ⟨h1, h2⟩ := List.nodup_cons.1 (show (z.name :: r.map (·.name)).Nodup from h)
    rw [volOf_cons]
    rcases List.mem_cons.1 hx with e | e
    · rw [e, if_pos rfl]
    · rw [if_neg (fun e2 : z.name = x.name => h1 (e2 ▸ List.mem_map.2 ⟨x, e, rfl⟩))]
      exact ih h2 e
theorem doc_ok {S : St} {j : Nat} (hi : InvC S.core) (hg : Good j S.core) (hj : j ≤ 1000) : DocOK S :=
  ⟨fun x hx => hi.zone x.name x (vol_in hi.vols hx), fun x hx => hi.size x.name x (vol_in hi.vols hx), fun x hx => Nat.le_trans (hg.nodes x hx).2.1 hj⟩
set_option maxRecDepth 100000 in
set_option maxHeartbeats 2000000 in
theorem eql_res (a b : Rs) (w : World) : (binOp .eql 50 (encR a) (encR b)).run Try.prog w = .ok (.bool (decide (a = b))) w := by
  obtain ⟨c1, c2, c3, c4⟩ := a
  obtain ⟨d1, d2, d3, d4⟩ := b
  unfold encR cellsR
  dsimp only
  go_simp
  simp only [eqT]
  iterate 3 refine and_if ?_
  exact last_if
theorem exec_eqR {W : World} {p q : Rs} {v : Bool} {oi : Oper} {a : Act} {x y : Operand} {t : TypeId} (ho : oi.op = .binOp .eql 50 x y t) (hx : a.eval x = encR p) (hy : a.eval y = encR q) (hv : decide (p = q) = v) :
    (execOp a.eval oi).run Try.prog W = .ok (.value (.bool v)) W := by
  have hq : (eqGuard .eql 50 x y (encR p) (encR q)).run Try.prog W = .ok () W := run_eqGuard_agg W .eql 50 x y (cellsR p) (cellsR q) (by kernel_rfl)
  have h := eql_res p q W
  rw [hv] at h
  unfold execOp
  simp only [ho, hx, hy, Sem.run_bind, hq, Result.andThen_ok, h]
  rfl
structure Both (d r v s n B R q : Nat) (W : World) (S : St) : Prop where
  p : PAt d r v s n B W S
  q : ∃ rd L, RAt R W q S rd L
section
variable {d r v s n B R q : Nat} {W V : World} {S : St}
theorem Both.after (h : Both d r v s n B R q W S) (hb : Below W.heap.size W V) : Both d r v s n B R q V S := by
  obtain ⟨h1, rd, L, h2⟩ := h
  exact ⟨h1.after hb, rd, L, h2.after hb⟩
theorem Both.lt (h : Both d r v s n B R q W S) : B ≤ W.heap.size ∧ R ≤ W.heap.size := by
  obtain ⟨h1, rd, L, h2⟩ := h
  have h3 := h1.lt
  have h4 := h1.low
  have h5 := h2.low
  have h6 := h2.box.lt
  omega
end
def cellsX (x : Dd) : Array Value := #[.int .u8 x.c.verb, .string x.c.target, .int .u64 x.c.num, .int .i64 x.c.size, .string x.c.zone, .string x.c.node, .string x.c.source, .int .u64 x.tag]
def encX (x : Dd) : Value := .agg (cellsX x)
def BoxX (W : World) (b : Nat) (x : Dd) : Prop := W.heap[b]? = some (.cells (cellsX x) 65 (0, 0))
section
variable {W V : World} {b : Nat} {x : Dd}
theorem BoxX.lt (h : BoxX W b x) : b < W.heap.size := (Array.getElem?_eq_some_iff.1 h).1
theorem BoxX.cell (h : BoxX W b x) (i : Nat) (u : Value) (hu : (cellsX x)[i]? = some u) : W.cell? ⟨b, i, none⟩ = some u := (cell_of_row W b i _ _ _ h).trans hu
theorem BoxX.cells (h : BoxX W b x) (hb : CellsStay W V) : BoxX V b x := hb _ _ _ _ h
theorem BoxX.doc {R : Nat} (h : BoxX W b x) (hd : DocStay R W V) : BoxX V b x := (hd.2 b h.lt (by
  rintro ⟨cs, t, f, h1, h2⟩
  rw [show W.heap[b]? = _ from h] at h1
  injection h1 with h1
  injection h1 with _ h1 _
  rw [← h1] at h2
  exact absurd h2 (by decide))).trans h
theorem BoxX.call (h : BoxX W b x) {oi : Oper} {a : Act} {p : Operand} (ho : oi.op = .load 27 p) (hx : a.eval p = .pointer (some ⟨b, 0, none⟩)) : (execOp a.eval oi).run Try.prog W = .ok (.value (encC x.c)) W := by
  have h1 := run_loadAt_mid (P := Try.prog) W b 0 27 (cellsC x.c).toList _ (fun j u hu => by
    have hj : j < 7 := (List.getElem?_eq_some_iff.1 hu).1
    rw [Nat.zero_add, cell_of_row W b j _ _ _ h, ← Array.getElem?_toList]
    have e : (cellsX x).toList = (cellsC x.c).toList ++ [.int .u64 x.tag] := rfl
    rw [e, List.getElem?_append_left (by exact hj)]
    exact hu) undC rfl sizeC
  unfold execOp
  simp only [ho, hx, Sem.run_bind, h1, Result.andThen_ok, Sem.run_pure]
  rfl
end
end Go.Proofs.Ytbgfccanbgpjiaa.O.I
namespace Go.Proofs.Ytbgfccanbgpjiaa.O.I
open Go Go.RowKit Go.Lib KM
attribute [local go_sem] Oper.semAt_some
section
variable {d r v s n B R q : Nat} {w : World} {S : St}
set_option maxRecDepth 100000 in
set_option maxHeartbeats 8000000 in
theorem ldo_call (h : Both d r v s n B R q w S) (hok : DocOK S) (Z : Nat) (hZ : Z ≤ B ∧ Z ≤ R) (c : Cl) (hf : FitC c) :
    Calls Try.prog 32 #[.pointer (some ⟨d, 0, none⟩), .pointer (some ⟨q, 0, none⟩), encX ⟨c, 0⟩] w fun e w' => e = .returned (.bool true) ∧ Both d r v s n B R q w' (doS S c).2 ∧ Below Z w w' := by
  obtain ⟨hp, rd, L, hq⟩ := id h
  have HLT : Hid (Z ≤ w.heap.size ∧ R ≤ w.heap.size) := by have := h.lt; exact ⟨by omega, this.2⟩
  have HZ := Lib.hid hZ
  have HOK := Lib.hid hok
  have HF := Lib.hid hf
  have HP := Lib.hid hp
  have HQ := Lib.hid hq
  obtain ⟨res, hres⟩ : ∃ res, (doS S c).1 = res := ⟨_, rfl⟩
  have HRES := Lib.hid hres
  clear h hp hq hok hf hZ hres
  rw [show encX ⟨c, 0⟩ = .agg (cellsX ⟨c, 0⟩) from rfl]
  go_enter Try.func32, Try.ntmps32
  go_upto_region 1 with (fail)
  refine wp_gen (fun V => BoxX V w.heap.size ⟨c, 0⟩ ∧ Below w.heap.size w V) ⟨heap_alloc_new w _, (Below.refl _ _).alloc (Nat.le_refl _) _⟩ ?_
  rintro V1 ⟨hx1, hw1⟩
  have y7 : V1.cell? ⟨w.heap.size, 7, none⟩ = some (.int .u64 0) := hx1.cell 7 _ rfl
  have HX := Lib.hid hx1
  replace HP := Lib.hid (HP.out.after hw1)
  replace HQ := Lib.hid (HQ.out.after hw1)
  have HW := Lib.hid hw1
  clear hx1 hw1
  go_upto_region 3 with (fail)
  clear y7
  refine wp_region_held_drew (S := fun V => BoxX V w.heap.size ⟨c, 0⟩) (by kernel_rfl) HX.out (fun _ => ?_)
  refine HeldBy.gen (fun V => (BoxX V w.heap.size ⟨c, 0⟩) ∧ (PAt d r v s n B V S) ∧ (RAt R V q S rd L) ∧ (Below w.heap.size w V)) ⟨HX.out, HP.out.drew, HQ.out.drew, HW.out.drew⟩ ?_
  clear HX HP HQ HW
  rintro U0 ⟨HS, HP, HQ, HW⟩
  refine HeldBy.tn (i := 0) rfl HS ?_
  refine HeldBy.tn (i := 1) rfl HS ?_
  refine HeldBy.tk (i := 2) (v := encC c) rfl (fun V hV => hV.call rfl rfl) HS ?_
  refine HeldBy.tn (i := 4) rfl HS ?_
  refine HeldBy.tn (i := 5) rfl HS ?_
  refine HeldBy.tk (i := 6) (v := encC c) rfl (fun V hV => hV.call rfl rfl) HS ?_
  refine HeldBy.call (i := 3) (v := encR res) rfl (by kernel_rfl) (by rfl) (by first | (go_simp; done) | (go_simp; first | exact ⟨rfl, rfl⟩ | rfl)) (by first | (go_simp; rfl) | (go_simp; done)) ?_
  refine (do_model HP c).mono ?_
  rintro e U1 ⟨he, hp1, hb1, hc1⟩
  have hx1 := HS.cells hc1
  have hq1 := HQ.cells hc1
  have hz1 : Below Z w U1 := (HW.mono HLT.out.1).trans (hb1.mono HZ.out.1)
  have hsz : w.heap.size ≤ U1.heap.size := by have := HW.size; have := hb1.size; omega
  refine ⟨by rw [he, HRES.out], hx1, ?_⟩
  clear he HS HQ HP hb1 hc1
  refine HeldBy.call (i := 7) (v := encR res) rfl (by kernel_rfl) (by rfl) (by first | (go_simp; done) | (go_simp; first | exact ⟨rfl, rfl⟩ | rfl)) (by first | (go_simp; rfl) | (go_simp; done)) ?_
  refine (rDo_any hq1 (Nat.le_trans HLT.out.2 hsz) c HF.out HOK.out).mono ?_
  rintro e U2 ⟨he, ⟨rd2, L2, hq2⟩, hd2⟩
  have hx2 := hx1.doc hd2
  refine ⟨by rw [he, HRES.out], hx2, ?_⟩
  have HX2 : Hid (Both d r v s n B R q U2 (doS S c).2 ∧ Below Z w U2) := ⟨⟨hp1.doc hd2, rd2, L2, hq2⟩, hz1.trans (hd2.1.mono HZ.out.2)⟩
  clear he hp1 hq1 hq2 hd2 hz1 hx1 hsz
  refine HeldBy.tk (i := 8) (v := .bool true) rfl (fun _ _ => exec_eqR rfl rfl rfl (decide_eq_true rfl)) hx2 ?_
  refine HeldBy.tn (i := 9) rfl hx2 ?_
  refine wpAnyH_done (by kernel_rfl) ?_ _
  clear hx2
  go_wp2
  go_ret
  exact ⟨rfl, HX2.out.1, HX2.out.2⟩
set_option maxRecDepth 100000 in
set_option maxHeartbeats 8000000 in
theorem ldo_put (h : Both d r v s n B R q w S) (hok : DocOK S) (Z : Nat) (hZ : Z ≤ B ∧ Z ≤ R) (c : Cl) (t : Int) (ht : ¬ t = 0) :
    Calls Try.prog 32 #[.pointer (some ⟨d, 0, none⟩), .pointer (some ⟨q, 0, none⟩), encX ⟨c, t⟩] w fun e w' => e = .returned (.bool true) ∧ Both d r v s n B R q w' ⟨(putS S.core c.target c.node t).2, S.seen⟩ ∧ Below Z w w' := by
  obtain ⟨hp, rd, L, hq⟩ := id h
  have HLT : Hid (Z ≤ w.heap.size ∧ R ≤ w.heap.size) := by have := h.lt; exact ⟨by omega, this.2⟩
  have HZ := Lib.hid hZ
  have HND : Hid (∀ k x, volOf S.core.vols k = some x → x.nodes.length ≤ 1000000) := fun k x hx => Nat.le_trans (hok.nodes x (List.mem_of_find?_eq_some hx)) (by decide)
  have HP := Lib.hid hp
  have HQ := Lib.hid hq
  obtain ⟨res, hres⟩ : ∃ res, (putS S.core c.target c.node t).1 = res := ⟨_, rfl⟩
  have HRES := Lib.hid hres
  have ht2 : (t != 0) = true := by simp [ht]
  clear h hp hq hok hZ hres
  rw [show encX ⟨c, t⟩ = .agg (cellsX ⟨c, t⟩) from rfl]
  go_enter Try.func32, Try.ntmps32
  go_upto_region 1 with (fail)
  refine wp_gen (fun V => BoxX V w.heap.size ⟨c, t⟩ ∧ Below w.heap.size w V) ⟨heap_alloc_new w _, (Below.refl _ _).alloc (Nat.le_refl _) _⟩ ?_
  rintro V1 ⟨hx1, hw1⟩
  have y7 : V1.cell? ⟨w.heap.size, 7, none⟩ = some (.int .u64 t) := hx1.cell 7 _ rfl
  have HX := Lib.hid hx1
  replace HP := Lib.hid (HP.out.after hw1)
  replace HQ := Lib.hid (HQ.out.after hw1)
  have HW := Lib.hid hw1
  clear hx1 hw1
  go_upto_region 2 with (fail)
  clear y7 ht ht2
  refine wp_region_held_drew (S := fun V => BoxX V w.heap.size ⟨c, t⟩) (by kernel_rfl) HX.out (fun _ => ?_)
  refine HeldBy.gen (fun V => (BoxX V w.heap.size ⟨c, t⟩) ∧ (PAt d r v s n B V S) ∧ (RAt R V q S rd L) ∧ (Below w.heap.size w V)) ⟨HX.out, HP.out.drew, HQ.out.drew, HW.out.drew⟩ ?_
  clear HX HP HQ HW
  rintro U0 ⟨HS, HP, HQ, HW⟩
  refine HeldBy.tn (i := 0) rfl HS ?_
  refine HeldBy.tn (i := 1) rfl HS ?_
  refine HeldBy.tn (i := 2) rfl HS ?_
  refine HeldBy.tk (i := 3) (v := .string c.target) rfl (fun V hV => by have hc := hV.cell 1 (.string c.target) rfl; first | (go_simp; rfl) | (go_simp; done)) HS ?_
  refine HeldBy.tn (i := 4) rfl HS ?_
  refine HeldBy.tn (i := 5) rfl HS ?_
  refine HeldBy.tk (i := 6) (v := .string c.node) rfl (fun V hV => by have hc := hV.cell 5 (.string c.node) rfl; first | (go_simp; rfl) | (go_simp; done)) HS ?_
  refine HeldBy.tn (i := 7) rfl HS ?_
  refine HeldBy.tk (i := 8) (v := .int .u64 t) rfl (fun V hV => by have hc := hV.cell 7 (.int .u64 t) rfl; first | (go_simp; rfl) | (go_simp; done)) HS ?_
  refine HeldBy.tn (i := 10) rfl HS ?_
  refine HeldBy.tn (i := 11) rfl HS ?_
  refine HeldBy.tn (i := 12) rfl HS ?_
  refine HeldBy.tk (i := 13) (v := .string c.target) rfl (fun V hV => by have hc := hV.cell 1 (.string c.target) rfl; first | (go_simp; rfl) | (go_simp; done)) HS ?_
  refine HeldBy.tn (i := 14) rfl HS ?_
  refine HeldBy.tn (i := 15) rfl HS ?_
  refine HeldBy.tk (i := 16) (v := .string c.node) rfl (fun V hV => by have hc := hV.cell 5 (.string c.node) rfl; first | (go_simp; rfl) | (go_simp; done)) HS ?_
  refine HeldBy.tn (i := 17) rfl HS ?_
  refine HeldBy.tk (i := 18) (v := .int .u64 t) rfl (fun V hV => by have hc := hV.cell 7 (.int .u64 t) rfl; first | (go_simp; rfl) | (go_simp; done)) HS ?_
  refine HeldBy.call (i := 9) (v := .int .i64 res) rfl (by kernel_rfl) (by rfl) (by first | (go_simp; done) | (go_simp; first | exact ⟨rfl, rfl⟩ | rfl)) (by first | (go_simp; rfl) | (go_simp; done)) ?_
  refine (put_model HP c.target c.node t).mono ?_
  rintro e U1 ⟨he, hp1, hb1, hc1⟩
  have hx1 := HS.cells hc1
  have hq1 := HQ.cells hc1
  have hz1 : Below Z w U1 := (HW.mono HLT.out.1).trans (hb1.mono HZ.out.1)
  refine ⟨by rw [he, HRES.out], hx1, ?_⟩
  clear he HS HQ HP hb1 hc1
  refine HeldBy.call (i := 19) (v := .int .i64 res) rfl (by kernel_rfl) (by rfl) (by first | (go_simp; done) | (go_simp; first | exact ⟨rfl, rfl⟩ | rfl)) (by first | (go_simp; rfl) | (go_simp; done)) ?_
  refine (rput_any hq1 c.target c.node t HND.out).mono ?_
  rintro e U2 ⟨he, ⟨L2, hq2⟩, hd2⟩
  have hx2 := hx1.doc hd2
  refine ⟨by rw [he, HRES.out], hx2, ?_⟩
  have HX2 : Hid (Both d r v s n B R q U2 ⟨(putS S.core c.target c.node t).2, S.seen⟩ ∧ Below Z w U2) := ⟨⟨hp1.doc hd2, rd, L2, hq2⟩, hz1.trans (hd2.1.mono HZ.out.2)⟩
  clear he hp1 hq1 hq2 hd2 hz1 hx1
  refine HeldBy.tk (i := 20) (v := .bool true) rfl (fun _ _ => by first | (go_simp; rfl) | (go_simp; done) | (go_simp; simp)) hx2 ?_
  refine HeldBy.tn (i := 21) rfl hx2 ?_
  refine wpAnyH_done (by kernel_rfl) ?_ _
  clear hx2
  go_wp2
  go_ret
  exact ⟨rfl, HX2.out.1, HX2.out.2⟩
theorem ldo_any (h : Both d r v s n B R q w S) (hok : DocOK S) (Z : Nat) (hZ : Z ≤ B ∧ Z ≤ R) (x : Dd) (hf : FitC x.c) :
    Calls Try.prog 32 #[.pointer (some ⟨d, 0, none⟩), .pointer (some ⟨q, 0, none⟩), encX x] w fun e w' => e = .returned (.bool true) ∧ Both d r v s n B R q w' (deedS S x) ∧ Below Z w w' := by
  obtain ⟨c, t⟩ := x
  unfold deedS
  by_cases ht : t = 0
  · subst ht
    rw [if_pos rfl]
    exact ldo_call h hok Z hZ c hf
  · rw [if_neg (show ¬ (Dd.mk c t).tag = 0 from ht)]
    exact ldo_put h hok Z hZ c t ht
end
end Go.Proofs.Ytbgfccanbgpjiaa.O.I
namespace Go.Proofs.Ytbgfccanbgpjiaa.O.I
open Go Go.RowKit Go.Lib KM
attribute [local go_sem] Oper.semAt_some
def zonesN (a b c : Int) : List Zn := [⟨⟨#[97]⟩, a⟩, ⟨⟨#[98]⟩, b⟩, ⟨⟨#[99]⟩, c⟩]
def encN (a b c : Int) : Value := .agg #[.int .u8 a, .int .u8 b, .int .u8 c]
def BoxN (W : World) (g : Nat) (a b c : Int) : Prop := W.heap[g]? = some (.cells #[.int .u8 a, .int .u8 b, .int .u8 c] 22 (0, 0))
theorem BoxN.cells {W V : World} {g : Nat} {a b c : Int} (h : BoxN W g a b c) (hb : CellsStay W V) : BoxN V g a b c := hb _ _ _ _ h
theorem BoxN.lt {W : World} {g : Nat} {a b c : Int} (h : BoxN W g a b c) : g < W.heap.size := (Array.getElem?_eq_some_iff.1 h).1
theorem BoxN.after {W V : World} {g : Nat} {a b c : Int} (h : BoxN W g a b c) (hb : Below W.heap.size W V) : BoxN V g a b c := (hb.block g h.lt).trans h
theorem loadN {W : World} {g : Nat} {a b c : Int} (h : BoxN W g a b c) {oi : Oper} {t : Act} {p : Operand} (ho : oi.op = .load 22 p) (hx : t.eval p = .pointer (some ⟨g, 0, none⟩)) : (execOp t.eval oi).run Try.prog W = .ok (.value (encN a b c)) W := by
  unfold execOp
  simp only [ho, hx, Instr.loadAt, Instr.sureAddr, Sem.run_bind, Sem.run_pure, Result.andThen_ok, run_loadVar_row W g 22 22 _ (0, 0) _ h Try.underlying22 rfl (by kernel_rfl)]
  rfl
def U8 (a : Int) : Prop := 0 ≤ a ∧ a ≤ 255
theorem built_zn (s : ByteArray) (a : Int) : Try.prog.built 42 [(0, .string s), (1, .int .i64 a)] = some (cellsZ ⟨s, a⟩) := by kernel_rfl
theorem run_zn3 (W : World) (x y z : Zn) : (Instr.buildSlice 36 3 #[(0, encZ x), (1, encZ y), (2, encZ z)]).run Try.prog W = .ok (.slice (some ⟨W.heap.size, 0, none⟩) 3 3) (W.alloc (.cells #[.string x.name, .int .i64 x.room, .string y.name, .int .i64 y.room, .string z.name, .int .i64 z.room] 42 (0, 0))) := by kernel_rfl
set_option maxRecDepth 100000 in
set_option maxHeartbeats 2000000 in
theorem lzones_any (a b c : Int) (ha : U8 a) (hb : U8 b) (hc : U8 c) (w : World) : Calls Try.prog 28 #[encN a b c] w fun e w' => e = .returned (.slice (some ⟨w.heap.size + 1, 0, none⟩) 3 3) ∧ ZonesIn w' (.slice (some ⟨w.heap.size + 1, 0, none⟩) 3 3) (zonesN a b c) ∧ Below w.heap.size w w' := by
  obtain ⟨a0, a1⟩ := ha
  obtain ⟨b0, b1⟩ := hb
  obtain ⟨c0, c1⟩ := hc
  have HR := Lib.hid (run_zn3 (w.alloc (.cells #[.int .u8 a, .int .u8 b, .int .u8 c] 22 (0, 0))) ⟨⟨#[97]⟩, a⟩ ⟨⟨#[98]⟩, b⟩ ⟨⟨#[99]⟩, c⟩)
  have wa : IntKind.i64.wrap a = a := wrap_in _ (by omega)
  have wb : IntKind.i64.wrap b = b := wrap_in _ (by omega)
  have wc : IntKind.i64.wrap c = c := wrap_in _ (by omega)
  unfold encN
  go_enter Try.func28, Try.ntmps28
  go_wp2_with (first | ((with_reducible refine wpList_build_to rfl 42 _ rfl (cellsZ ⟨⟨#[97]⟩, a⟩) ?_ ?_); exact built_zn _ _) | ((with_reducible refine wpList_build_to rfl 42 _ rfl (cellsZ ⟨⟨#[98]⟩, b⟩) ?_ ?_); exact built_zn _ _) | ((with_reducible refine wpList_build_to rfl 42 _ rfl (cellsZ ⟨⟨#[99]⟩, c⟩) ?_ ?_); exact built_zn _ _) | (refine wpList_got rfl (exec_slice0 HR.out rfl rfl) ?_))
  go_ret
  have hsz : (w.alloc (.cells #[.int .u8 a, .int .u8 b, .int .u8 c] 22 (0, 0))).heap.size = w.heap.size + 1 := by simp
  refine ⟨rfl, ?_, ((Below.refl _ _).alloc (Nat.le_refl _) _).alloc (by rw [hsz]; omega) _⟩
  refine ⟨_, _, rfl, by show (3 : Nat) ≤ 9223372036854775807; decide, fun i hi => ⟨w.heap.size + 1, 0, rfl, by simp, fun j u hu => ?_⟩⟩
  have hj : j < 2 := (List.getElem?_eq_some_iff.1 hu).1
  have hrow := heap_alloc_new (w.alloc (.cells #[.int .u8 a, .int .u8 b, .int .u8 c] 22 (0, 0))) (.cells #[.string ⟨#[97]⟩, .int .i64 a, .string ⟨#[98]⟩, .int .i64 b, .string ⟨#[99]⟩, .int .i64 c] 42 (0, 0))
  rw [hsz] at hrow
  rw [cell_of_row _ _ _ _ _ _ hrow]
  match i, hi, j, hj, hu with
  | 0, _, 0, _, hu => exact hu
  | 0, _, 1, _, hu => exact hu
  | 1, _, 0, _, hu => exact hu
  | 1, _, 1, _, hu => exact hu
  | 2, _, 0, _, hu => exact hu
  | 2, _, 1, _, hu => exact hu
  | i + 3, hi, _, _, _ => exact absurd hi (by show ¬ i + 3 < 3; omega)
  | 0, _, j + 2, hj, _ => exact absurd hj (by omega)
  | 1, _, j + 2, hj, _ => exact absurd hj (by omega)
  | 2, _, j + 2, hj, _ => exact absurd hj (by omega)
theorem zonesN_ok {a b c : Int} (ha : U8 a) (hb : U8 b) (hc : U8 c) : zonesB (zonesN a b c) = true := by
  rw [zonesB_iff]
  refine ⟨by show (1 : Nat) ≤ 3; decide, by show (3 : Nat) ≤ 16; decide, fun z hz => ?_, ?_⟩
  · unfold zonesN at hz
    simp only [List.mem_cons, List.not_mem_nil, or_false] at hz
    obtain ⟨a0, a1⟩ := ha
    obtain ⟨b0, b1⟩ := hb
    obtain ⟨c0, c1⟩ := hc
    rcases hz with rfl | rfl | rfl
    · exact ⟨by kernel_rfl, (inR_iff _).2 ⟨a0, by show a ≤ _; omega⟩⟩
    · exact ⟨by kernel_rfl, (inR_iff _).2 ⟨b0, by show b ≤ _; omega⟩⟩
    · exact ⟨by kernel_rfl, (inR_iff _).2 ⟨c0, by show c ≤ _; omega⟩⟩
  · show ([⟨#[97]⟩, ⟨#[98]⟩, ⟨#[99]⟩] : List ByteArray).Nodup
    decide
theorem zonesN_fit {a b c : Int} (ha : U8 a) (hb : U8 b) (hc : U8 c) : ∀ z ∈ zonesN a b c, FitZ z := fun z hz => by
  unfold zonesN at hz
  simp only [List.mem_cons, List.not_mem_nil, or_false] at hz
  obtain ⟨a0, a1⟩ := ha
  obtain ⟨b0, b1⟩ := hb
  obtain ⟨c0, c1⟩ := hc
  rcases hz with rfl | rfl | rfl
  · exact ⟨by show 1 ≤ _; omega, by show _ ≤ a; omega, by show a ≤ _; omega⟩
  · exact ⟨by show 1 ≤ _; omega, by show _ ≤ b; omega, by show b ≤ _; omega⟩
  · exact ⟨by show 1 ≤ _; omega, by show _ ≤ c; omega, by show c ≤ _; omega⟩
def newS (a b c : Int) : St := ⟨⟨zonesN a b c, [], []⟩, []⟩
theorem new_n (a b c : Int) (ha : U8 a) (hb : U8 b) (hc : U8 c) (u : Value) (k : Nat) (w : World) (hk : w.heap.size = k) (hz : ZonesIn w u (zonesN a b c)) : Calls Try.prog 19 #[u] w fun e w' => e = .returned (.pointer (some ⟨k + 4, 0, none⟩)) ∧ PAt (k + 4) k (k + 1) (k + 2) (k + 3) k w' (newS a b c) ∧ Below w.heap.size w w' := by
  subst hk
  refine (yes_new u _ w hz (zonesN_ok ha hb hc)).mono ?_
  rintro e w' ⟨rfl, hd, hb2⟩
  exact ⟨rfl, pat_new hd, hb2⟩
theorem rnew_n (a b c : Int) (ha : U8 a) (hb : U8 b) (hc : U8 c) (u : Value) (w : World) (hz : ZonesIn w u (zonesN a b c)) : Calls Try.prog 20 #[u] w fun e w' => ∃ q, e = .returned (.pointer (some ⟨q, 0, none⟩)) ∧ (∃ rd L, RAt w.heap.size w' q (newS a b c) rd L) ∧ Below w.heap.size w w' := by
  refine (yes_rnew u _ w hz (zonesN_fit ha hb hc) (zonesN_ok ha hb hc)).mono ?_
  rintro e w' ⟨q, rfl, ⟨hq, sl, hbx, how⟩, hb2⟩
  exact ⟨q, rfl, ⟨_, _, rat_new hq hbx how (by show 3 ≤ 16; decide)⟩, hb2⟩
def DeedsIn (W : World) (v : Value) (l : List Dd) : Prop := ∃ o c, v = .slice o l.length c ∧ l.length ≤ 9223372036854775807 ∧ ∀ i (h : i < l.length), ∃ g off, o = some ⟨g, off, none⟩ ∧ g < W.heap.size ∧ World.rangeAt W g (off + i * 8) (cellsX l[i]).toList
theorem DeedsIn.after {W W' : World} {v : Value} {l : List Dd} (h : DeedsIn W v l) (hb : Below W.heap.size W W') : DeedsIn W' v l := by
  obtain ⟨o, c, h1, h2, h3⟩ := h
  refine ⟨o, c, h1, h2, fun i hi => ?_⟩
  obtain ⟨g, off, h4, h5, h6⟩ := h3 i hi
  exact ⟨g, off, h4, Nat.lt_of_lt_of_le h5 hb.size, fun j u hu => (hb.cell (p := ⟨g, off + i * 8 + j, none⟩) h5).trans (h6 j u hu)⟩
theorem undXX : Try.prog.underlying 65 = some (.struct (Try.prog.fieldsOf 65)) := by kernel_rfl
theorem loadX_at {W : World} {g k : Nat} {x : Dd} (h : World.rangeAt W g k (cellsX x).toList) {oi : Oper} {a : Act} {p : Operand} (ho : oi.op = .load 65 p) (hx : a.eval p = .pointer (some ⟨g, k, none⟩)) : (execOp a.eval oi).run Try.prog W = .ok (.value (encX x)) W := by
  have h1 := run_loadAt_mid (P := Try.prog) W g k 65 (cellsX x).toList _ h undXX rfl (by kernel_rfl)
  unfold execOp
  simp only [ho, hx, Sem.run_bind, h1, Result.andThen_ok, Sem.run_pure]
  rfl
structure Played (a b c : Int) (j : Nat) (S : St) : Prop where
  good : Good j S.core
  room : RoomOK (zonesN a b c) S.core
  snap : SnapSeen S
theorem zonesN_room {a b c : Int} (ha : U8 a) (hb : U8 b) (hc : U8 c) : RoomOK (zonesN a b c) (newS a b c).core := by
  have hz : ∀ k z, zoneOf (zonesN a b c) k = some z → 0 ≤ z.room ∧ z.room ≤ 255 := fun k z hz => by
    have hm : z ∈ zonesN a b c := List.mem_of_find?_eq_some hz
    unfold zonesN at hm
    simp only [List.mem_cons, List.not_mem_nil, or_false] at hm
    rcases hm with rfl | rfl | rfl
    · exact ha
    · exact hb
    · exact hc
  exact ⟨fun k z h => by have := hz k z h; omega, fun k z h => ⟨z, h, (hz k z h).1, by show z.room + 0 = z.room; omega⟩, fun k h => h⟩
theorem played_new {a b c : Int} (ha : U8 a) (hb : U8 b) (hc : U8 c) : Played a b c 0 (newS a b c) := ⟨good_new _, zonesN_room ha hb hc, fun k x h => by cases h⟩
theorem Played.deed {a b c : Int} {j : Nat} {S : St} (h : Played a b c j S) (hi : InvC S.core) (ho : OnceL S.seen) (x : Dd) : Played a b c (j + 1) (deedS S x) := ⟨h.good.deed x, h.room.deed hi x, h.snap.deed hi ho x⟩
def PlayA (a b c : Int) (w : World) (e : Ending) (w' : World) : Prop := ∃ d r v s n B R q S, e = .returned (.tuple #[.pointer (some ⟨d, 0, none⟩), .pointer (some ⟨q, 0, none⟩), .bool true]) ∧ Both d r v s n B R q w' S ∧ w.heap.size ≤ B ∧ w.heap.size ≤ R ∧ Played a b c 60 S ∧ Below w.heap.size w w'
theorem Played.weak {a b c : Int} {j k : Nat} {S : St} (h : Played a b c j S) (hjk : j ≤ k) : Played a b c k S := ⟨h.good.weak hjk, h.room, h.snap⟩
set_option maxRecDepth 100000 in
set_option maxHeartbeats 16000000 in
theorem play_any (a b c : Int) (ha : U8 a) (hb : U8 b) (hc : U8 c) (u : Value) (l : List Dd) (w : World) (hl : DeedsIn w u l) (hf : ∀ x ∈ l, FitC x.c) :
    Calls Try.prog 14 #[encN a b c, u] w (PlayA a b c w) := by
  obtain ⟨o, cp, rfl, hm, -⟩ := id hl
  have HL := Lib.hid hl
  have HF := Lib.hid hf
  have HA := Lib.hid ha
  have HBB := Lib.hid hb
  have HCC := Lib.hid hc
  clear hl hf ha hb hc
  rw [show encN a b c = .agg #[.int .u8 a, .int .u8 b, .int .u8 c] from rfl]
  go_enter Try.func14, Try.ntmps14
  go_upto_region 1 with (fail)
  refine wp_gen (fun V => BoxN V w.heap.size a b c ∧ Below w.heap.size w V) ⟨heap_alloc_new w _, (Below.refl _ _).alloc (Nat.le_refl _) _⟩ ?_
  rintro V1 ⟨hn1, hw1⟩
  have HN := Lib.hid hn1
  have HW := Lib.hid hw1
  clear hn1 hw1
  refine wp_region_held_drew (S := fun V => BoxN V w.heap.size a b c) (by kernel_rfl) HN.out (fun _ => ?_)
  refine HeldBy.gen (fun V => (BoxN V w.heap.size a b c) ∧ (Below w.heap.size w V)) ⟨HN.out, HW.out.drew⟩ ?_
  clear HN HW
  rintro U0 ⟨HS, HW⟩
  refine HeldBy.tk (i := 0) (v := encN a b c) rfl (fun V hV => loadN hV rfl rfl) HS ?_
  refine HeldBy.tk (i := 3) (v := encN a b c) rfl (fun V hV => loadN hV rfl rfl) HS ?_
  refine HeldBy.call (i := 1) (v := .slice (some ⟨U0.heap.size + 1, 0, none⟩) 3 3) rfl (by kernel_rfl) (by rfl) (by first | (go_simp; done) | (go_simp; first | exact ⟨rfl, rfl⟩ | rfl)) (by first | (go_simp; rfl) | (go_simp; done)) ?_
  refine (lzones_any a b c HA.out HBB.out HCC.out U0).mono ?_
  rintro e U1 ⟨he, hz1, hb1⟩
  have hn1 := HS.after hb1
  have hw1 := HW.trans (hb1.mono HW.size)
  refine ⟨he, hn1, ?_⟩
  clear he hb1 HS HW
  obtain ⟨k, hk⟩ : ∃ k, U1.heap.size = k := ⟨_, rfl⟩
  refine HeldBy.call (i := 2) (v := .pointer (some ⟨k + 4, 0, none⟩)) rfl (by kernel_rfl) (by rfl) (by first | (go_simp; done) | (go_simp; first | exact ⟨rfl, rfl⟩ | rfl)) (by first | (go_simp; rfl) | (go_simp; done)) ?_
  refine (new_n a b c HA.out HBB.out HCC.out _ k U1 hk hz1).mono ?_
  rintro e U2 ⟨he, hp2, hb2⟩
  have hn2 := hn1.after hb2
  have hw2 := hw1.trans (hb2.mono hw1.size)
  have hwk : w.heap.size ≤ k := hk ▸ hw1.size
  refine ⟨he, hn2, ?_⟩
  clear he hb2 hn1 hw1 hz1 hk
  refine HeldBy.call (i := 4) (v := .slice (some ⟨U2.heap.size + 1, 0, none⟩) 3 3) rfl (by kernel_rfl) (by rfl) (by first | (go_simp; done) | (go_simp; first | exact ⟨rfl, rfl⟩ | rfl)) (by first | (go_simp; rfl) | (go_simp; done)) ?_
  refine (lzones_any a b c HA.out HBB.out HCC.out U2).mono ?_
  rintro e U3 ⟨he, hz3, hb3⟩
  have hn3 := hn2.after hb3
  have hw3 := hw2.trans (hb3.mono hw2.size)
  have hp3 := hp2.after hb3
  refine ⟨he, hn3, ?_⟩
  clear he hb3 hn2 hw2 hp2
  refine HeldBy.callE (i := 5) (a' := fun _ => _) rfl (by kernel_rfl) (by rfl) (by first | (go_simp; done) | (go_simp; first | exact ⟨rfl, rfl⟩ | rfl)) (fun _ => by first | (go_simp; rfl) | (go_simp; done)) ?_
  refine (rnew_n a b c HA.out HBB.out HCC.out _ U3 hz3).mono ?_
  rintro e U4 ⟨q, he, hq4, hb4⟩
  have hn4 := hn3.after hb4
  have hw4 := hw3.trans (hb4.mono hw3.size)
  have hp4 := hp3.after hb4
  have hw3s := hw3.size
  refine ⟨_, he, hn4, ?_⟩
  have HBO : Hid (Both (k + 4) k (k + 1) (k + 2) (k + 3) k U3.heap.size q U4 (newS a b c) ∧ w.heap.size ≤ k ∧ w.heap.size ≤ U3.heap.size ∧ Below w.heap.size w U4) := ⟨⟨hp4, hq4⟩, hwk, hw3s, hw4⟩
  obtain ⟨R, hR⟩ : ∃ R, U3.heap.size = R := ⟨_, rfl⟩
  rw [hR] at HBO
  clear he hb4 hn3 hw3 hp3 hz3 hw4 hp4 hq4 hw3s hwk hR
  refine HeldBy.tn (i := 6) rfl hn4 ?_
  refine HeldBy.tn (i := 7) rfl hn4 ?_
  refine wpAnyH_done (by kernel_rfl) ?_ _
  clear hn4
  go_wp2
  go_loopw [9] (fun iv wr => ∃ (j : Nat) (S : St), iv = .int .i64 (j : Int) ∧ j ≤ l.length ∧ j ≤ 60 ∧ Both (k + 4) k (k + 1) (k + 2) (k + 3) k R q wr S ∧ Played a b c j S ∧ Below w.heap.size w wr) (fun iv _ => l.length - (RowKit.intOf iv).toNat)
  case atStart => exact ⟨0, _, rfl, Nat.zero_le _, Nat.zero_le _, HBO.out.1, played_new HA.out HBB.out HCC.out, HBO.out.2.2.2⟩
  case round =>
    obtain ⟨j, S, rfl, hj, hj60, hbo, hpl, hlow⟩ := hrel
    have HB := Lib.hid hbo
    have HPL := Lib.hid hpl
    have HLW := Lib.hid hlow
    clear hbo hpl hlow
    by_cases hlt : j < l.length
    · have hlt' : (j : Int) < (l.length : Int) := by omega
      by_cases h60 : j < 60
      · have h60' : (j : Int) < 60 := by omega
        obtain ⟨o2, c2, e2, -, hi⟩ := HL.out.after HLW.out
        cases e2
        obtain ⟨g, off, rfl, -, hrow⟩ := hi j hlt
        obtain ⟨x, hx⟩ : ∃ x, l[j] = x := ⟨_, rfl⟩
        rw [hx] at hrow
        have hfx : FitC x.c := hx ▸ HF.out _ (List.getElem_mem hlt)
        obtain ⟨rd0, L0, hr0⟩ := HB.out.q
        have HD := Lib.hid (ldo_any HB.out (doc_ok HB.out.p.inv HPL.out.good (by omega)) w.heap.size ⟨HBO.out.2.1, HBO.out.2.2.1⟩ x hfx)
        have HP2 := Lib.hid (HPL.out.deed HB.out.p.inv HB.out.p.once x)
        have HRW := Lib.hid hrow
        clear hrow hi hx hfx hr0
        go_wp2_with (refine wpList_got rfl (loadX_at HRW.out rfl rfl) ?_)
        refine HD.out.mono ?_
        rintro e W2 ⟨rfl, hb2, hl2⟩
        have HN : Hid (Both (k + 4) k (k + 1) (k + 2) (k + 3) k R q W2 (deedS S x) ∧ Below w.heap.size w W2) := ⟨hb2, HLW.out.trans hl2⟩
        clear hb2 hl2 HD HRW
        go_wp2
        go_roundw
        case rel => exact ⟨j + 1, _, by go_num, by omega, by omega, HN.out.1, HP2.out, HN.out.2⟩
        case measure => simp [RowKit.intOf]; omega
      · have h60' : ¬ (j : Int) < 60 := by omega
        go_wp2
        refine bodyPost_ret (results_tmp3 rfl _ _ _) rfl ?_
        exact ⟨_, _, _, _, _, _, _, _, S, rfl, HB.out, HBO.out.2.1, HBO.out.2.2.1, HPL.out.weak hj60, HLW.out⟩
    · have hlt' : ¬ (j : Int) < (l.length : Int) := by omega
      go_wp2
      refine bodyPost_ret (results_tmp3 rfl _ _ _) rfl ?_
      exact ⟨_, _, _, _, _, _, _, _, S, rfl, HB.out, HBO.out.2.1, HBO.out.2.2.1, HPL.out.weak hj60, HLW.out⟩
end Go.Proofs.Ytbgfccanbgpjiaa.O.I
