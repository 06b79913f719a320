/- quant.greatest: the greatest unit that a size is printed in; nothing that lay has turned. -/
import Derived.Test.YtggkdapfccanpaaDoorQUnit
namespace Go.Proofs.YtggkdapfccanpaaDoor.Q
open Go.RowKit Go.Shelf
attribute [local go_sem] Oper.semAt_some

/-- The unit of the suffix in which a size is printed. -/
def gU (n : Int) : Int :=
  if n = 0 then 1 else if n % 1099511627776 = 0 then 1099511627776 else if n % 1073741824 = 0 then 1073741824
  else if n % 1048576 = 0 then 1048576 else if n % 1024 = 0 then 1024 else 1

theorem greatest_hit {n : Int} (h0 : n ≠ 0) {pre : List U} {x : U} (hp : pre ++ [x] <+: bins) (hn : ∀ y ∈ pre, n % y.v ≠ 0) (hx : n % x.v = 0) : suffixOf n = x.s ∧ gU n = x.v := by
  obtain ⟨t, ht⟩ := hp
  unfold suffixOf gU
  rw [if_neg h0, if_neg h0]
  rcases pre with _ | ⟨a, _ | ⟨b, _ | ⟨c, _ | ⟨d, r⟩⟩⟩⟩
  · simp only [bins, List.nil_append, List.cons_append, List.cons.injEq] at ht
    obtain ⟨rfl, -⟩ := ht
    rw [if_pos hx, if_pos hx]; exact ⟨rfl, rfl⟩
  · simp only [bins, List.nil_append, List.cons_append, List.cons.injEq] at ht
    obtain ⟨rfl, rfl, -⟩ := ht
    have h1 := hn _ (List.mem_cons_self ..)
    rw [if_neg h1, if_neg h1, if_pos hx, if_pos hx]; exact ⟨rfl, rfl⟩
  · simp only [bins, List.nil_append, List.cons_append, List.cons.injEq] at ht
    obtain ⟨rfl, rfl, rfl, -⟩ := ht
    have h1 := hn _ (List.mem_cons_self ..)
    have h2 := hn _ (List.mem_cons_of_mem _ (List.mem_cons_self ..))
    rw [if_neg h1, if_neg h1, if_neg h2, if_neg h2, if_pos hx, if_pos hx]; exact ⟨rfl, rfl⟩
  · simp only [bins, List.nil_append, List.cons_append, List.cons.injEq] at ht
    obtain ⟨rfl, rfl, rfl, rfl, -⟩ := ht
    have h1 := hn _ (List.mem_cons_self ..)
    have h2 := hn _ (List.mem_cons_of_mem _ (List.mem_cons_self ..))
    have h3 := hn _ (List.mem_cons_of_mem _ (List.mem_cons_of_mem _ (List.mem_cons_self ..)))
    rw [if_neg h1, if_neg h1, if_neg h2, if_neg h2, if_neg h3, if_neg h3, if_pos hx, if_pos hx]; exact ⟨rfl, rfl⟩
  · exact absurd (congrArg List.length ht) (by simp [bins])
theorem greatest_none {n : Int} (h0 : n ≠ 0) (hn : ∀ y ∈ bins, n % y.v ≠ 0) : suffixOf n = [] ∧ gU n = 1 := by
  unfold suffixOf gU
  have h1 := hn ⟨[84, 105], 1099511627776, by decide, by decide⟩ (by simp [bins])
  have h2 := hn ⟨[71, 105], 1073741824, by decide, by decide⟩ (by simp [bins])
  have h3 := hn ⟨[77, 105], 1048576, by decide, by decide⟩ (by simp [bins])
  have h4 := hn ⟨[75, 105], 1024, by decide, by decide⟩ (by simp [bins])
  rw [if_neg h0, if_neg h0, if_neg h1, if_neg h1, if_neg h2, if_neg h2, if_neg h3, if_neg h3, if_neg h4, if_neg h4]
  exact ⟨rfl, rfl⟩

def Bx (w : World) (n : Int) (l : List UInt8) (v : Int) (W : World) : Prop :=
  (Boxed W w.heap.size 2 (.int .i64 n) ∧ Boxed W (w.heap.size + 1) 9 (encS l) ∧ Boxed W (w.heap.size + 1 + 1) 2 (.int .i64 v)) ∧ Below w.heap.size w W
theorem bx_own {β : Type} {w : World} {n : Int} {l : List UInt8} {v : Int} {B : Nat} (hB : w.heap.size ≤ B) : OwnFrom (β := β) B (fun _ W => Bx w n l v W) :=
  OwnFrom.and (OwnFrom.and (Own.from (boxed_own _ _ (fun _ => _)) _) (OwnFrom.and (Own.from (boxed_own _ _ (fun _ => _)) _) (Own.from (boxed_own _ _ (fun _ => _)) _))) (ownFrom_below (Nat.le_refl _) hB)
theorem bx_put {w : World} {n : Int} {l l' : List UInt8} {v v' : Int} {W : World} (h : Bx w n l v W) : Bx w n l' v' ((W.setCell ⟨w.heap.size + 1, 0, none⟩ (encS l')).setCell ⟨w.heap.size + 1 + 1, 0, none⟩ (.int .i64 v')) :=
  ⟨⟨(h.1.1.other (by omega) _).other (by omega) _, (h.1.2.1.set _).other (by omega) _, (h.1.2.2.other (by omega) _).set _⟩,
    (h.2.setCell (p := ⟨w.heap.size + 1, 0, none⟩) (by simp) _).setCell (p := ⟨w.heap.size + 1 + 1, 0, none⟩) (by simp; omega) _⟩

set_option maxRecDepth 100000 in
set_option maxHeartbeats 2000000 in
theorem greatest_in (F : Fence) (d : Nat) (hf : F.fn 26) (hb : F.fn 24) (hro : F.round = none) (hd : 3 ≤ d) (n : Int) (w : World) (h0 : n ≠ 0) (hlo : 0 ≤ n) (hhi : n ≤ 1125899906842624) :
    CallsIn F d Tryd.prog 26 #[.int .i64 n] w fun e W' => e = .returned (.tuple #[encS (suffixOf n), .int .i64 (gU n)]) ∧ Below w.heap.size w W' := by
  have h1 : 1 ≤ d := by omega
  refine callsIn_of_wp_marks Tryd.func26 rfl hf ?_ hro
  simp only [Tryd.ntmps26, List.size_toArray, List.length_cons, List.length_nil, Nat.reduceAdd, Nat.reduceSub, Array.replicate_succ, Array.replicate_zero, List.push_toArray, List.append_toArray, List.nil_append, List.cons_append]
  have he : (n == 0) = false := by simpa using h0
  gi_wp2
  have hz : ((((w.alloc (.cells #[.int .i64 n] 2)).alloc (.cells #[.string ⟨#[]⟩] 9)).alloc (.cells #[.int .i64 0] 2)).heap.size) = w.heap.size + 3 := by simp
  have hI0 : Bx w n [] 0 (((w.alloc (.cells #[.int .i64 n] 2)).alloc (.cells #[.string ⟨#[]⟩] 9)).alloc (.cells #[.int .i64 0] 2)) :=
    ⟨⟨((Boxed.new w _ _).alloc _).alloc _, (by have := (Boxed.new (w.alloc (.cells #[.int .i64 n] 2)) 9 (.string ⟨#[]⟩)).alloc (.cells #[.int .i64 0] 2); rwa [World.size_alloc] at this),
      (by have := Boxed.new ((w.alloc (.cells #[.int .i64 n] 2)).alloc (.cells #[.string ⟨#[]⟩] 9)) 2 (.int .i64 0); rwa [World.size_alloc, World.size_alloc] at this)⟩,
      (((Below.refl _ w).alloc (Nat.le_refl _) _).alloc (by simp) _).alloc (by simp; omega) _⟩
  generalize ((w.alloc (.cells #[.int .i64 n] 2)).alloc (.cells #[.string ⟨#[]⟩] 9)).alloc (.cells #[.int .i64 0] 2) = W0 at hI0 hz ⊢
  refine wpIn_rangeFunc_ownF hro h1 (gf := 24) (lb := #[]) rfl hb (enters_of Tryd.func24 (by kernel_rfl) rfl)
    (binaries_stops F (d - 1) hb hro (by omega) W0) walksK_t walksK_b (Below.refl _ _) (fun _ => rfl)
    (fun pre W => (∀ y ∈ pre, n % y.v ≠ 0) ∧ Bx w n [] 0 W)
    (fun c pre W => (c = .ret ∧ ∃ pre0 x, pre = pre0 ++ [x] ∧ (∀ y ∈ pre0, n % y.v ≠ 0) ∧ n % x.v = 0 ∧ Bx w n x.s x.v W))
    (OwnFrom.and (ownFrom_pure _ _) (bx_own (by omega)))
    (fun c => by
      rintro pre A B row ⟨hc, pre0, x, hx, hy, hxs, hB⟩ hg hr
      exact ⟨hc, pre0, x, hx, hy, hxs, bx_own (β := Unit) (by omega) () A B row hB hg hr⟩)
    ⟨by simp, hI0⟩
    (fun x => { tmps := #[.int .i64 n, .pointer (some ⟨w.heap.size, 0, none⟩), .pointer (some ⟨w.heap.size + 1, 0, none⟩), .pointer (some ⟨w.heap.size + 1 + 1, 0, none⟩), encS x.s, .int .i64 x.v, .int .i64 n, .bool false, encS x.s, .int .i64 x.v, undef, undef, undef, undef, undef, undef], defers := [] }) ?assign ?body ?done ?stop
  case assign =>
    intro l x W K hK
    simp only [encU]
    gi_wp2
    exact hK
  case body =>
    rintro l pre x W ⟨hp, hbx⟩ _
    have c0 := hbx.1.1.cell
    have c1 := hbx.1.2.1.cell
    have c2 := hbx.1.2.2.cell
    have f1 := hbx.1.2.1.frozen
    have f2 := hbx.1.2.2.frozen
    have c2' : ∀ v, (W.setCell ⟨w.heap.size + 1, 0, none⟩ v).cell? ⟨w.heap.size + 1 + 1, 0, none⟩ = some (.int .i64 0) := fun v => (hbx.1.2.2.other (by omega) v).cell
    have hx1 := x.lo
    have hx2 := x.hi
    unfold encS at c1 ⊢
    gi_wp2
    · have hx : (n % x.v == 0) = true := by assumption
      exact ⟨(KeepsOthers.setCell _ _ _).trans (KeepsOthers.setCell _ _ _), rfl, pre, x, rfl, hp, eq_of_beq hx, bx_put hbx⟩
    · have hx : (n % x.v == 0) = false := by assumption
      refine ⟨KeepsOthers.refl _, KeepsWalks.refl _, fun y hy => ?_, hbx⟩
      rcases List.mem_append.1 hy with h | h
      · exact hp y h
      · simp at h; subst h; simpa using hx
  case done =>
    rintro D ys W hD rfl ⟨hne, hbx⟩ hK
    obtain ⟨hsf, hgu⟩ := greatest_none h0 hne
    have hsf' := Lib.hid hsf
    have hgu' := Lib.hid hgu
    clear hsf hgu hne
    have c1 := hbx.1.2.1.cell
    have c2 := hbx.1.2.2.cell
    have f1 := hbx.1.2.1.frozen
    have f2 := hbx.1.2.2.frozen
    have c2' : ∀ v, (W.setCell ⟨w.heap.size + 1, 0, none⟩ v).cell? ⟨w.heap.size + 1 + 1, 0, none⟩ = some (.int .i64 0) := fun v => (hbx.1.2.2.other (by omega) v).cell
    gi_wp2
    have hK' := ((KeepsOthers.setCell W ⟨w.heap.size + 1, 0, none⟩ (encS [])).trans (KeepsOthers.setCell _ ⟨w.heap.size + 1 + 1, 0, none⟩ (.int .i64 1))).same D _ hK rfl
    have hb2 := bx_put (l' := []) (v' := 1) hbx
    have d1 : (((W.setCell ⟨w.heap.size + 1, 0, none⟩ (.string ⟨#[]⟩)).setCell ⟨w.heap.size + 1 + 1, 0, none⟩ (.int .i64 1)).putObj D (.deferred none)).cell? ⟨w.heap.size + 1, 0, none⟩ = some (.string ⟨#[]⟩) :=
      cell_kept hb2.1.2.1.cell (grownBy_putObj' _ D (.deferred none)) (fun r e => by cases e; exact ⟨_, hK', rfl⟩)
    have d2 : (((W.setCell ⟨w.heap.size + 1, 0, none⟩ (.string ⟨#[]⟩)).setCell ⟨w.heap.size + 1 + 1, 0, none⟩ (.int .i64 1)).putObj D (.deferred none)).cell? ⟨w.heap.size + 1 + 1, 0, none⟩ = some (.int .i64 1) :=
      cell_kept hb2.1.2.2.cell (grownBy_putObj' _ D (.deferred none)) (fun r e => by cases e; exact ⟨_, hK', rfl⟩)
    refine ⟨by simp, .inl ⟨_, _, rfl, run_takeDeferred hK', ?_⟩⟩
    refine ⟨.tuple #[.string ⟨#[]⟩, .int .i64 1], ?_, by rw [hsf'.out, hgu'.out]; rfl, hb2.2.trans (belowK_b (w := w) (Nat.le_refl _) _ D _ _ (by omega) hK' rfl rfl)⟩
    simp [results, Tryd.f26, go_sem, d1, d2]
  case stop =>
    rintro D c pre W hD hpre ⟨rfl, pre0, x, rfl, hy, hx, hbx⟩ hK
    obtain ⟨hsf, hgu⟩ := greatest_hit h0 hpre hy hx
    have hsf' := Lib.hid hsf
    have hgu' := Lib.hid hgu
    clear hsf hgu hy hx
    gi_wp2
    refine ⟨by simp, .inl ⟨_, _, rfl, run_takeDeferred hK, ?_⟩⟩
    have d1 := cell_kept hbx.1.2.1.cell (grownBy_putObj' _ D (.deferred none)) (fun r e => by cases e; exact ⟨_, hK, rfl⟩)
    have d2 := cell_kept hbx.1.2.2.cell (grownBy_putObj' _ D (.deferred none)) (fun r e => by cases e; exact ⟨_, hK, rfl⟩)
    refine ⟨.tuple #[encS x.s, .int .i64 x.v], ?_, by rw [hsf'.out, hgu'.out], hbx.2.trans (belowK_b (w := w) (Nat.le_refl _) W D _ _ (by omega) hK rfl rfl)⟩
    simp [results, Tryd.f26, go_sem, d1, d2]

theorem greatest_zero (w : World) :
    Calls Tryd.prog 26 #[.int .i64 0] w fun e W' => e = .returned (.tuple #[encS [], .int .i64 1]) ∧ Below w.heap.size w W' := by
  go_enter Tryd.func26, Tryd.ntmps26
  go_wp2
  refine bodyPost_ret (v := .tuple #[encS [], .int .i64 1]) (by simp [results, Tryd.f26, go_sem, encS]) rfl ⟨rfl, ?_⟩
  exact ((((Below.refl _ w).alloc (Nat.le_refl _) _).alloc (by simp) _).alloc (by simp; omega) _)

theorem greatest_any (n : Int) (w : World) (hlo : 0 ≤ n) (hhi : n ≤ 1125899906842624) :
    Calls Tryd.prog 26 #[.int .i64 n] w fun e W' => e = .returned (.tuple #[encS (suffixOf n), .int .i64 (gU n)]) ∧ Below w.heap.size w W' := by
  by_cases h0 : n = 0
  · subst h0; exact greatest_zero w
  · exact callsIn_wide.1 (greatest_in Fence.wide 3 trivial trivial rfl (by omega) n w h0 hlo hhi)
end Go.Proofs.YtggkdapfccanpaaDoor.Q
