/- quant.Unit: what a suffix stands for; nothing that lay has turned. -/
import Derived.Test.YtggkdapfccanpaaDoorQUnits
import Derived.RangeFuncFrom
import Derived.RangeFuncBox
namespace Go.Proofs.YtggkdapfccanpaaDoor.Q
open Go.RowKit Go.Shelf
attribute [local go_sem] Oper.semAt_some

theorem unitV_bins : ∀ x ∈ bins, unitV x.s = x.v ∧ x.v ≠ 0 := by decide
theorem unitV_decs : ∀ x ∈ decs, unitV x.s = x.v ∧ x.v ≠ 0 := by decide
theorem unitV_none {l : List UInt8} (h0 : l ≠ []) (hb : ∀ y ∈ bins, y.s ≠ l) (hd : ∀ y ∈ decs, y.s ≠ l) : unitV l = 0 := by
  simp only [bins, decs, List.mem_cons, List.not_mem_nil, or_false, forall_eq_or_imp, forall_eq, ne_eq] at hb hd
  unfold unitV
  rw [if_neg h0, if_neg (fun e => hd.1 e.symm), if_neg (fun e => hd.2.1 e.symm), if_neg (fun e => hd.2.2.1 e.symm), if_neg (fun e => hd.2.2.2 e.symm),
    if_neg (fun e => hb.2.2.2 e.symm), if_neg (fun e => hb.2.2.1 e.symm), if_neg (fun e => hb.2.1 e.symm), if_neg (fun e => hb.1 e.symm)]
theorem unit_of {l : List UInt8} {x : U} (h : x.s = l) (hx : unitV x.s = x.v ∧ x.v ≠ 0) : unitV l = x.v ∧ unitB l = true := by
  subst h; refine ⟨hx.1, ?_⟩; unfold unitB; rw [hx.1]; simpa using hx.2

def Boxes (w : World) (s : ByteArray) (v : Int) (ok : Bool) (W : World) : Prop :=
  (Boxed W w.heap.size 9 (.string s) ∧ Boxed W (w.heap.size + 1) 2 (.int .i64 v) ∧ Boxed W (w.heap.size + 1 + 1) 4 (.bool ok)) ∧ Below w.heap.size w W
theorem boxes_own {β : Type} {w : World} {s : ByteArray} {v : Int} {ok : Bool} {B : Nat} (hB : w.heap.size ≤ B) : OwnFrom (β := β) B (fun _ W => Boxes w s v ok W) :=
  OwnFrom.and (OwnFrom.and (Own.from (boxed_own _ _ (fun _ => _)) _) (OwnFrom.and (Own.from (boxed_own _ _ (fun _ => _)) _) (Own.from (boxed_own _ _ (fun _ => _)) _))) (ownFrom_below (Nat.le_refl _) hB)
theorem held_own {β : Type} {D B : Nat} {o : Obj} (h : D < B) : OwnFrom (β := β) B (fun _ W => W.heap[D]? = some o) := fun _ W W' row hs hg hr =>
  (hg.block D (Array.getElem?_eq_some_iff.1 hs).1 (fun e => by have := (hr D e.symm).1; omega)).trans hs

theorem hit (w : World) (s : ByteArray) (v : Int) (W : World) (hb : Boxed W w.heap.size 9 (.string s) ∧ Boxed W (w.heap.size + 1) 2 (.int .i64 0) ∧ Boxed W (w.heap.size + 1 + 1) 4 (.bool false)) (hB : Below w.heap.size w W) :
    Boxes w s v true ((W.setCell ⟨w.heap.size + 1, 0, none⟩ (.int .i64 v)).setCell ⟨w.heap.size + 1 + 1, 0, none⟩ (.bool true)) :=
  ⟨⟨(hb.1.other (by omega) _).other (by omega) _, (hb.2.1.set _).other (by omega) _, (hb.2.2.other (by omega) _).set _⟩,
    (hB.setCell (p := ⟨w.heap.size + 1, 0, none⟩) (by simp) _).setCell (p := ⟨w.heap.size + 1 + 1, 0, none⟩) (by simp; omega) _⟩
/-- Two marks behind one another are taken up: the two results lie as they lay. -/
theorem ends {w W : World} {D D2 : Nat} {v : Value} {ok : Bool} (hD : w.heap.size ≤ D) (hne : D < D2) (b1 : Boxed W (w.heap.size + 1) 2 v) (b2 : Boxed W (w.heap.size + 1 + 1) 4 (.bool ok)) (hB : Below w.heap.size w W)
    (hK : W.heap[D]? = some (.deferred (some []))) (hK2 : W.heap[D2]? = some (.deferred (some []))) :
    (W.putObj D2 (.deferred none)).heap[D]? = some (.deferred (some [])) ∧
    ((W.putObj D2 (.deferred none)).putObj D (.deferred none)).cell? ⟨w.heap.size + 1, 0, none⟩ = some v ∧ ((W.putObj D2 (.deferred none)).putObj D (.deferred none)).cell? ⟨w.heap.size + 1 + 1, 0, none⟩ = some (.bool ok) ∧
    Below w.heap.size w ((W.putObj D2 (.deferred none)).putObj D (.deferred none)) := by
  have hKb : (W.putObj D2 (.deferred none)).heap[D]? = some (.deferred (some [])) :=
    ((grownBy_putObj' W D2 (.deferred none)).block D (Array.getElem?_eq_some_iff.1 hK).1 (fun e => by cases e; omega)).trans hK
  refine ⟨hKb, ?_, ?_, ?_⟩
  · exact cell_kept (cell_kept b1.cell (grownBy_putObj' _ D2 _) (fun r e => by cases e; exact ⟨_, hK2, rfl⟩)) (grownBy_putObj' _ D _) (fun r e => by cases e; exact ⟨_, hKb, rfl⟩)
  · exact cell_kept (cell_kept b2.cell (grownBy_putObj' _ D2 _) (fun r e => by cases e; exact ⟨_, hK2, rfl⟩)) (grownBy_putObj' _ D _) (fun r e => by cases e; exact ⟨_, hKb, rfl⟩)
  · exact (hB.trans (belowK_b (w := w) (Nat.le_refl _) W D2 _ _ (by omega) hK2 rfl rfl)).trans (belowK_b (w := w) (Nat.le_refl _) _ D _ _ (by omega) hKb rfl rfl)
theorem miss {l : List UInt8} {pre : List U} {x : U} (hp : ∀ y ∈ pre, y.s ≠ l) (hx : (x.s == l) = false) : ∀ y ∈ pre ++ [x], y.s ≠ l := by
  intro y hy
  rcases List.mem_append.1 hy with h | h
  · exact hp y h
  · simp at h; subst h; simpa using hx

set_option maxRecDepth 100000 in
set_option maxHeartbeats 2000000 in
theorem unit_in (F : Fence) (n : Nat) (hf : F.fn 13) (hb : F.fn 24) (hd : F.fn 25) (hro : F.round = none) (hn : 3 ≤ n) (s : ByteArray) (w : World) (h0 : s.data.toList ≠ []) :
    CallsIn F n Tryd.prog 13 #[.string s] w fun e W' => e = .returned (.tuple #[.int .i64 (unitV s.data.toList), .bool (unitB s.data.toList)]) ∧ Below w.heap.size w W' := by
  have h1 : 1 ≤ n := by omega
  refine callsIn_of_wp_marks Tryd.func13 rfl hf ?_ hro
  simp only [Tryd.ntmps13, List.size_toArray, List.length_cons, List.length_nil, Nat.reduceAdd, Nat.reduceSub, Array.replicate_succ, Array.replicate_zero, List.push_toArray, List.append_toArray, List.nil_append, List.cons_append]
  have he : s.toList.isEmpty = false := by rw [Lib.toList_data]; simpa using h0
  gi_wp2
  have hz : ((((w.alloc (.cells #[.string s] 9)).alloc (.cells #[.int .i64 0] 2)).alloc (.cells #[.bool false] 4)).heap.size) = w.heap.size + 3 := by simp
  have hI0 : Boxes w s 0 false (((w.alloc (.cells #[.string s] 9)).alloc (.cells #[.int .i64 0] 2)).alloc (.cells #[.bool false] 4)) :=
    ⟨⟨((Boxed.new w _ _).alloc _).alloc _, (by have := (Boxed.new (w.alloc (.cells #[.string s] 9)) 2 (.int .i64 0)).alloc (.cells #[.bool false] 4); rwa [World.size_alloc] at this),
      (by have := Boxed.new ((w.alloc (.cells #[.string s] 9)).alloc (.cells #[.int .i64 0] 2)) 4 (.bool false); rwa [World.size_alloc, World.size_alloc] at this)⟩,
      (((Below.refl _ w).alloc (Nat.le_refl _) _).alloc (by simp) _).alloc (by simp; omega) _⟩
  generalize ((w.alloc (.cells #[.string s] 9)).alloc (.cells #[.int .i64 0] 2)).alloc (.cells #[.bool false] 4) = W0 at hI0 hz ⊢
  refine wpIn_rangeFunc_ownF hro h1 (gf := 24) (lb := #[]) rfl hb (enters_of Tryd.func24 (by kernel_rfl) rfl)
    (binaries_stops F (n - 1) hb hro (by omega) W0) walksK_t walksK_b (Below.refl _ _) (fun _ => rfl)
    (fun pre W => (∀ y ∈ pre, y.s ≠ s.data.toList) ∧ Boxes w s 0 false W)
    (fun c pre W => (c = .ret ∧ ∃ x ∈ pre, x.s = s.data.toList ∧ Boxes w s x.v true W))
    (OwnFrom.and (ownFrom_pure _ _) (boxes_own (by omega)))
    (fun c => by
      rintro pre A B row ⟨hc, x, hx, hxs, hB⟩ hg hr
      exact ⟨hc, x, hx, hxs, boxes_own (β := Unit) (by omega) () A B row hB hg hr⟩)
    ⟨by simp, hI0⟩
    (fun x => { tmps := #[.string s, .pointer (some ⟨w.heap.size, 0, none⟩), .pointer (some ⟨w.heap.size + 1, 0, none⟩), .pointer (some ⟨w.heap.size + 1 + 1, 0, none⟩), encS x.s, .int .i64 x.v, undef, undef, .string s, .bool false, encS x.s, .int .i64 x.v, undef, undef, undef, undef, undef, undef, undef, undef, undef, undef], defers := [] }) ?assign ?body ?done ?stop
  case assign =>
    intro l x W K hK
    simp only [encU]
    gi_wp2
    exact hK
  case body =>
    rintro l pre x W ⟨hp, ⟨b0, b1, b2⟩, hB⟩ _
    have c0 := b0.cell
    have c1 := b1.cell
    have c2 := b2.cell
    have f1 := b1.frozen
    have f2 := b2.frozen
    have c2' : ∀ v, (W.setCell ⟨w.heap.size + 1, 0, none⟩ v).cell? ⟨w.heap.size + 1 + 1, 0, none⟩ = some (.bool false) := fun v => (b2.other (by omega) v).cell
    unfold encS
    gi_wp2
    · have hx : (x.s == s.toList) = true := by assumption
      rw [Lib.toList_data] at hx
      exact ⟨(KeepsOthers.setCell _ _ _).trans (KeepsOthers.setCell _ _ _), rfl, x, by simp, eq_of_beq hx, hit w s x.v W ⟨b0, b1, b2⟩ hB⟩
    · have hx : (x.s == s.toList) = false := by assumption
      rw [Lib.toList_data] at hx
      exact ⟨KeepsOthers.refl _, KeepsWalks.refl _, miss hp hx, ⟨b0, b1, b2⟩, hB⟩
  case done =>
    rintro D ys W hD rfl ⟨hne, hI⟩ hK
    have hDW : D < W.heap.size := (Array.getElem?_eq_some_iff.1 hK).1
    have hwW : w.heap.size ≤ W.heap.size := hI.2.size
    have hne' := Lib.hid hne
    clear hne
    gi_wp2
    refine wpIn_rangeFunc_ownF hro h1 (gf := 25) (lb := #[]) rfl hd (enters_of Tryd.func25 (by kernel_rfl) rfl)
      (decimals_stops F (n - 1) hd hro (by omega) W) walksK_t walksK_b (Below.refl _ _) (fun _ => rfl)
      (fun pre W1 => (∀ y ∈ pre, y.s ≠ s.data.toList) ∧ Boxes w s 0 false W1 ∧ W1.heap[D]? = some (.deferred (some [])))
      (fun c pre W1 => (c = .ret ∧ ∃ x ∈ pre, x.s = s.data.toList ∧ Boxes w s x.v true W1) ∧ W1.heap[D]? = some (.deferred (some [])))
      (OwnFrom.and (ownFrom_pure _ _) (OwnFrom.and (boxes_own hwW) (held_own hDW)))
      (fun c => OwnFrom.and (by
        rintro pre A B row ⟨hc, x, hx, hxs, hB⟩ hg hr
        exact ⟨hc, x, hx, hxs, boxes_own (β := Unit) hwW () A B row hB hg hr⟩) (held_own hDW))
      ⟨by simp, hI, hK⟩
      (fun x => { tmps := #[.string s, .pointer (some ⟨w.heap.size, 0, none⟩), .pointer (some ⟨w.heap.size + 1, 0, none⟩), .pointer (some ⟨w.heap.size + 1 + 1, 0, none⟩), undef, undef, encS x.s, .int .i64 x.v, .string s, .bool false, undef, undef, undef, undef, undef, undef, encS x.s, .int .i64 x.v, undef, undef, undef, undef], defers := [] }) ?assign2 ?body2 ?done2 ?stop2
    case assign2 =>
      intro l x W1 K hK1
      simp only [encU]
      gi_wp2
      exact hK1
    case body2 =>
      rintro l pre x W1 ⟨hp, ⟨⟨b0, b1, b2⟩, hB⟩, hK1⟩ _
      have c0 := b0.cell
      have c1 := b1.cell
      have c2 := b2.cell
      have f1 := b1.frozen
      have f2 := b2.frozen
      have c2' : ∀ v, (W1.setCell ⟨w.heap.size + 1, 0, none⟩ v).cell? ⟨w.heap.size + 1 + 1, 0, none⟩ = some (.bool false) := fun v => (b2.other (by omega) v).cell
      unfold encS
      gi_wp2
      · have hx : (x.s == s.toList) = true := by assumption
        rw [Lib.toList_data] at hx
        have hks := (KeepsOthers.setCell W1 ⟨w.heap.size + 1, 0, none⟩ (.int .i64 x.v)).trans (KeepsOthers.setCell _ ⟨w.heap.size + 1 + 1, 0, none⟩ (.bool true))
        exact ⟨hks, ⟨rfl, x, by simp, eq_of_beq hx, hit w s x.v W1 ⟨b0, b1, b2⟩ hB⟩, hks.same D _ hK1 rfl⟩
      · have hx : (x.s == s.toList) = false := by assumption
        rw [Lib.toList_data] at hx
        exact ⟨KeepsOthers.refl _, KeepsWalks.refl _, miss hp hx, ⟨⟨b0, b1, b2⟩, hB⟩, hK1⟩
    case done2 =>
      rintro D2 ys W1 hD2 rfl ⟨hne2, ⟨⟨b0, b1, b2⟩, hB⟩, hK1⟩ hK2
      have c1 := b1.cell
      have c2 := b2.cell
      have f1 := b1.frozen
      have f2 := b2.frozen
      have hun := Lib.hid (unitV_none h0 hne'.out hne2)
      clear hne2
      have c2' : ∀ v, (W1.setCell ⟨w.heap.size + 1, 0, none⟩ v).cell? ⟨w.heap.size + 1 + 1, 0, none⟩ = some (.bool false) := fun v => (b2.other (by omega) v).cell
      have hks := (KeepsOthers.setCell W1 ⟨w.heap.size + 1, 0, none⟩ (.int .i64 0)).trans (KeepsOthers.setCell _ ⟨w.heap.size + 1 + 1, 0, none⟩ (.bool false))
      have hK2' := hks.same D2 _ hK2 rfl
      have hK1' := hks.same D _ hK1 rfl
      have d1 : Boxed ((W1.setCell ⟨w.heap.size + 1, 0, none⟩ (.int .i64 0)).setCell ⟨w.heap.size + 1 + 1, 0, none⟩ (.bool false)) (w.heap.size + 1) 2 (.int .i64 0) := (b1.set _).other (by omega) _
      have d2 : Boxed ((W1.setCell ⟨w.heap.size + 1, 0, none⟩ (.int .i64 0)).setCell ⟨w.heap.size + 1 + 1, 0, none⟩ (.bool false)) (w.heap.size + 1 + 1) 4 (.bool false) := (b2.other (by omega) _).set _
      have hB' : Below w.heap.size w ((W1.setCell ⟨w.heap.size + 1, 0, none⟩ (.int .i64 0)).setCell ⟨w.heap.size + 1 + 1, 0, none⟩ (.bool false)) := (hB.setCell (p := ⟨w.heap.size + 1, 0, none⟩) (by simp) _).setCell (p := ⟨w.heap.size + 1 + 1, 0, none⟩) (by simp; omega) _
      have hend := ends (w := w) (D := D) (D2 := D2) (by omega) (by omega) d1 d2 hB' hK1' hK2'
      clear hks d1 d2 hB' hK1'
      gi_wp2
      obtain ⟨hKb, c1, c2, hBe⟩ := hend
      refine ⟨by simp, .inl ⟨_, _, rfl, run_takeDeferred hK2', ?_⟩⟩
      refine ⟨by simp, .inl ⟨_, _, rfl, run_takeDeferred hKb, ?_⟩⟩
      refine ⟨.tuple #[.int .i64 0, .bool false], ?_, by rw [hun.out, (by unfold unitB; rw [hun.out]; rfl : unitB s.data.toList = false)], hBe⟩
      simp [results, Tryd.f13, go_sem, c1, c2]
    case stop2 =>
      rintro D2 c pre W1 hD2 hpre ⟨⟨rfl, x, hx, hxs, ⟨b0, b1, b2⟩, hB⟩, hK1⟩ hK2
      gi_wp2
      obtain ⟨hKb, c1, c2, hBe⟩ := ends (w := w) (D := D) (D2 := D2) (by omega) (by omega) b1 b2 hB hK1 hK2
      refine ⟨by simp, .inl ⟨_, _, rfl, run_takeDeferred hK2, ?_⟩⟩
      refine ⟨by simp, .inl ⟨_, _, rfl, run_takeDeferred hKb, ?_⟩⟩
      obtain ⟨hu, hub⟩ := unit_of hxs (unitV_decs x (hpre.subset hx))
      refine ⟨.tuple #[.int .i64 x.v, .bool true], ?_, by rw [hu, hub], hBe⟩
      simp [results, Tryd.f13, go_sem, c1, c2]
  case stop =>
    rintro D c pre W hD hpre ⟨rfl, x, hx, hxs, ⟨b0, b1, b2⟩, hB⟩ hK
    gi_wp2
    refine ⟨by simp, .inl ⟨_, _, rfl, run_takeDeferred hK, ?_⟩⟩
    have c1 := cell_kept b1.cell (grownBy_putObj' _ D (.deferred none)) (fun r e => by cases e; exact ⟨_, hK, rfl⟩)
    have c2 := cell_kept b2.cell (grownBy_putObj' _ D (.deferred none)) (fun r e => by cases e; exact ⟨_, hK, rfl⟩)
    obtain ⟨hu, hub⟩ := unit_of hxs (unitV_bins x (hpre.subset hx))
    refine ⟨.tuple #[.int .i64 x.v, .bool true], ?_, by rw [hu, hub], hB.trans (belowK_b (w := w) (Nat.le_refl _) W D _ _ (by omega) hK rfl rfl)⟩
    simp [results, Tryd.f13, go_sem, c1, c2]

theorem unit_empty (w : World) :
    Calls Tryd.prog 13 #[.string ⟨#[]⟩] w fun e W' => e = .returned (.tuple #[.int .i64 1, .bool true]) ∧ Below w.heap.size w W' := by
  go_enter Tryd.func13, Tryd.ntmps13
  go_wp2
  refine bodyPost_ret (v := .tuple #[.int .i64 1, .bool true]) (by simp [results, Tryd.f13, go_sem]) rfl ⟨rfl, ?_⟩
  exact ((((Below.refl _ w).alloc (Nat.le_refl _) _).alloc (by simp) _).alloc (by simp; omega) _)

theorem unit_any (s : ByteArray) (w : World) :
    Calls Tryd.prog 13 #[.string s] w fun e W' => e = .returned (.tuple #[.int .i64 (unitV s.data.toList), .bool (unitB s.data.toList)]) ∧ Below w.heap.size w W' := by
  by_cases h0 : s.data.toList = []
  · obtain ⟨⟨l⟩⟩ := s
    obtain rfl : l = [] := h0
    exact unit_empty w
  · exact callsIn_wide.1 (unit_in Fence.wide 3 trivial trivial trivial rfl (by omega) s w h0)
end Go.Proofs.YtggkdapfccanpaaDoor.Q
