/- An append of bytes, wherever they lie. -/
import Derived.Test.YtacbfpgknfcimaaCRead
import Derived.Test.YtacbfpgknfcimaaCPut
namespace Go.Proofs.Ytacbfpgknfcimaa.C
open Go.RowKit T O
open Go.Lib hiding intOf

/-- An append of bytes that lie elsewhere. -/
theorem run_append_heldB (W : World) (ty : TypeId) (B : Nat) (v : Value) (l : Bytes) (hH : Held W B v l) (ad : Addr) (c : Nat) (m : Bytes) (hm : ∀ j u, (m.map bv)[j]? = some u → W.cell? (ad.add j) = some u)
    (hlen : l.length + m.length ≤ 140737488355328) (hB : B ≤ W.heap.size) :
    ∃ v' W', (Builtin.append_ #[30, 30] ty #[v, .slice (some ad) m.length c]).run Try.prog W = .ok v' W' ∧ Held W' B v' (l ++ m) ∧ Grew W v W' v' := by
  obtain ⟨i, hi, hz, hs, hb⟩ := info_parts infoByte
  have hl : (m.map bv).length = m.length * 1 := by simp
  have h1 : ∀ u ∈ m.map bv, u.oneCell' = true := by
    intro u hu
    obtain ⟨b, -, rfl⟩ := List.mem_map.1 hu
    rfl
  have h63 : l.length + m.length ≤ maxLen := by unfold maxLen; omega
  obtain ⟨v', W', hr, hown, hgrow, hnil⟩ := run_append_own (P := Try.prog) W B 30 ty 5 i (.int .u8 0) 1 1 Try.underlying30 hi hz hs hb rfl (by decide) v l.length (l.map bv) hH ad m.length c (m.map bv) hl hm h1 h63 (by omega) hB
  refine ⟨v', W', hr, by unfold Held; rw [List.length_append, List.map_append]; exact hown, hgrow, ?_⟩
  rcases hH.2 with ⟨rfl, hn⟩ | ⟨g, cap, cur, rfl, hbg, hg, hnc, hcm, hcs, htake⟩
  · by_cases h0 : m.length = 0
    · rw [hnil.2 ⟨rfl, h0⟩]
      exact .inl rfl
    · have hr2 := run_append_nil (P := Try.prog) W 30 ty 5 i (.int .u8 0) Try.underlying30 hi hz ad m.length c (m.map bv) (by rw [hs]; exact hl) hm (by omega) (by omega) (by rw [hb]; omega)
      rw [hr2] at hr
      cases hr
      exact .inr ⟨_, rfl, Nat.le_refl _⟩
  · by_cases hroom : l.length + m.length ≤ cap
    · have hr2 := run_append_room (P := Try.prog) W 30 ty 5 i Try.underlying30 hi g l.length cap cur hg ad m.length c (m.map bv) (by rw [hs]; exact hl) hm h1 hroom (by rw [hs, hl, hcs]; omega)
      rw [hr2] at hr
      cases hr
      exact .inl rfl
    · have hr2 := run_append_grow (P := Try.prog) W 30 ty 5 i (.int .u8 0) Try.underlying30 hi hz ⟨g, 0, none⟩ l.length cap (l.map bv) (by rw [hs]; exact hH.1) (World.ownsRow.cells (g := g) hH rfl) ad m.length c (m.map bv) (by rw [hs]; exact hl) hm (by omega) (by omega) (growslice_fits (by omega) (by rw [hb]; omega))
      rw [hr2] at hr
      cases hr
      exact .inr ⟨_, rfl, Nat.le_refl _⟩
theorem run_append_none (W : World) (ty : TypeId) (B : Nat) (v : Value) (l : Bytes) (hH : Held W B v l) (c : Nat) : (Builtin.append_ #[30, 30] ty #[v, .slice none 0 c]).run Try.prog W = .ok v W := by
  obtain ⟨i, hi, hz, hs, hb⟩ := info_parts infoByte
  rcases hH.2 with ⟨rfl, hn⟩ | ⟨g, cap, cur, rfl, hbg, hg, hnc, hcm, hcs, htake⟩
  · simp [Builtin.append_, run_underlying (P := Try.prog) Try.underlying30, sizeOf, typeInfo, hi, Builtin.lenOf, Builtin.firstCells]
  · simp [Builtin.append_, run_underlying (P := Try.prog) Try.underlying30, sizeOf, typeInfo, hi, hs, Builtin.lenOf, Builtin.firstCells, hnc]
    rfl
theorem run_append_bytes (W : World) (ty : TypeId) (B : Nat) (v : Value) (l : Bytes) (hH : Held W B v l) (x : Value) (m : Bytes) (hx : BytesIn W x m) (hlen : l.length + m.length ≤ 140737488355328) (hB : B ≤ W.heap.size) :
    ∃ v' W', (Builtin.append_ #[30, 30] ty #[v, x]).run Try.prog W = .ok v' W' ∧ Held W' B v' (l ++ m) ∧ Grew W v W' v' := by
  rcases hx with ⟨c, rfl, rfl⟩ | ⟨g, off, cap, rfl, h1, h2, h3, h4⟩
  · exact ⟨v, W, run_append_none W ty B v l hH c, by rw [List.append_nil]; exact hH, Grew.refl _ _⟩
  · refine run_append_heldB W ty B v l hH ⟨g, off, none⟩ cap m (fun j u hj => ?_) hlen hB
    obtain ⟨hj1, hj2⟩ := List.getElem?_eq_some_iff.1 hj
    rw [add_lit', h4 j (by simpa using hj1), ← hj2]
    simp
theorem wpList_append_bytes {ops : Array Oper} {rest : List Oper} {o : Oper} {a : Act} {W : World} {Q : Exit → Act → World → Prop} (hgd : o.guard = none) (s x : Operand)
    (ho : o.op = .call { callee := .builtin .append, args := #[s, x], argTypes := #[30, 30] })
    (B : Nat) (v : Value) (l : Bytes) (hs : a.eval s = v) (hH : Held W B v l) (y : Value) (m : Bytes) (hy : a.eval x = y) (hx : BytesIn W y m)
    (hlen : l.length + m.length ≤ 140737488355328) (hB : B ≤ W.heap.size) (h : ∀ v' W', Held W' B v' (l ++ m) → Grew W v W' v' → wpList Try.prog ops Q rest (a.put o.dst v') W') : wpList Try.prog ops Q (o :: rest) a W := by
  obtain ⟨v', W', hr, hH', hG⟩ := run_append_bytes W o.type B v l hH y m hx hlen hB
  refine wpList_plain hgd fun _ hK => ?_
  unfold Oper.wp execOp
  simp only [ho, resolve, invoke, builtin, Sem.run_bind, Sem.run_pure, Result.andThen_ok, List.map_toArray, List.map_cons, List.map_nil, hs, hy]
  rw [hr]
  exact hK _ _ (h v' W' hH' hG)
end Go.Proofs.Ytacbfpgknfcimaa.C
