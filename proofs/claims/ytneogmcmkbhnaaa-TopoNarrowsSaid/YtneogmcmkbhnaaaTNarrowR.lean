/- The document's Narrow. Laid by mknarrowr.py. -/
import Derived.Test.YtneogmcmkbhnaaaTNarrowM
import Derived.Test.YtneogmcmkbhnaaaTRefRT
namespace Go.Proofs.Ytneogmcmkbhnaaa.T
open Go.RowKit
open Go.Lib hiding intOf

/-- As the document goes: on, though a key's common values are none. -/
def bothR : List PT → List PT → List PT × Bool
  | [], b => (b, false)
  | x :: a, [] => (x :: a, false)
  | x :: a, y :: b =>
    if ltB x.1 y.1 = true then (x :: (bothR a (y :: b)).1, (bothR a (y :: b)).2)
    else if ltB y.1 x.1 = true then (y :: (bothR (x :: a) b).1, (bothR (x :: a) b).2)
    else ((x.1, commonB x.2 y.2) :: (bothR a b).1, (decide (commonB x.2 y.2 = []) || (bothR a b).2))
termination_by a b => a.length + b.length
theorem bothR_left (b : List PT) : bothR [] b = (b, false) := by rw [bothR]
theorem bothR_nil (a : List PT) : bothR a [] = (a, false) := by cases a <;> rw [bothR]
def addR (O : List PT) (e : Bool) (p : List PT × Bool) : List PT × Bool := (O ++ p.1, e || p.2)
theorem addR_lt {x y : PT} {a b O : List PT} {e : Bool} (h : ltB x.1 y.1 = true) : addR O e (bothR (x :: a) (y :: b)) = addR (O ++ [x]) e (bothR a (y :: b)) := by
  rw [bothR, if_pos h]
  simp [addR]
theorem addR_gt {x y : PT} {a b O : List PT} {e : Bool} (h : ltB x.1 y.1 = false) (h2 : ltB y.1 x.1 = true) : addR O e (bothR (x :: a) (y :: b)) = addR (O ++ [y]) e (bothR (x :: a) b) := by
  rw [bothR, if_neg (by simp [h]), if_pos h2]
  simp [addR]
theorem addR_eq {x y : PT} {a b O : List PT} {e : Bool} (h : ltB x.1 y.1 = false) (h2 : ltB y.1 x.1 = false) :
    addR O e (bothR (x :: a) (y :: b)) = addR (O ++ [(x.1, commonB x.2 y.2)]) (e || decide (commonB x.2 y.2 = [])) (bothR a b) := by
  rw [bothR, if_neg (by simp [h]), if_neg (by simp [h2])]
  simp [addR, Bool.or_assoc]
theorem addR_left {y : PT} {b O : List PT} {e : Bool} : addR O e (bothR [] (y :: b)) = addR (O ++ [y]) e (bothR [] b) := by
  rw [bothR_left, bothR_left]
  simp [addR]
theorem addR_right {x : PT} {a O : List PT} {e : Bool} : addR O e (bothR (x :: a) []) = addR (O ++ [x]) e (bothR a []) := by
  rw [bothR_nil, bothR_nil]
  simp [addR]
theorem bothB_R : ∀ (n : Nat) (A B : List PT), A.length + B.length ≤ n → bothB A B = if (bothR A B).2 = true then none else some (bothR A B).1 := by
  intro n
  induction n with
  | zero =>
    intro A B h
    obtain rfl : A = [] := List.length_eq_zero_iff.1 (by omega)
    obtain rfl : B = [] := List.length_eq_zero_iff.1 (by omega)
    rw [bothB_left, bothR_left]
    rfl
  | succ n ih =>
    intro A B h
    cases A with
    | nil => rw [bothB_left, bothR_left]; rfl
    | cons x A =>
      cases B with
      | nil => rw [bothB_nil, bothR_nil]; rfl
      | cons y B =>
        simp only [List.length_cons] at h
        rw [bothB, bothR]
        by_cases h1 : ltB x.1 y.1 = true
        · rw [if_pos h1, if_pos h1, ih A (y :: B) (by simp only [List.length_cons]; omega)]
          cases (bothR A (y :: B)).2 <;> rfl
        · rw [if_neg h1, if_neg h1]
          by_cases h2 : ltB y.1 x.1 = true
          · rw [if_pos h2, if_pos h2, ih (x :: A) B (by simp only [List.length_cons]; omega)]
            cases (bothR (x :: A) B).2 <;> rfl
          · rw [if_neg h2, if_neg h2]
            by_cases h3 : commonB x.2 y.2 = []
            · rw [if_pos h3]
              simp [h3]
            · rw [if_neg h3, ih A B (by omega)]
              cases (bothR A B).2 <;> simp [h3]
theorem rows_apartR {W : World} {nb nb' n n' : Nat} {v v' : Value} {xs xs' : List Value} (h : W.ownsRow nb 9 1 v n xs) (h' : W.ownsRow nb' 66 2 v' n' xs') : v.ownBlock = none ∨ v.ownBlock ≠ v'.ownBlock := by
  rcases h.2 with ⟨rfl, -⟩ | ⟨g, cap, cur, rfl, -, hg, -⟩
  · exact .inl rfl
  · refine .inr fun e => ?_
    rcases h'.2 with ⟨rfl, -⟩ | ⟨g', cap', cur', rfl, -, hg', -⟩
    · cases e
    · have e2 : g = g' := by simpa [Value.ownBlock] using e
      subst e2
      rw [hg] at hg'
      simp only [Option.some.injEq, Obj.cells.injEq] at hg'
      exact absurd hg'.2.1 (by decide)
/-- What stands in the slice that the document makes. -/
structure RD (w : World) (out : Value) (O : List TB) (W : World) : Prop where
  row : W.ownsRow w.heap.size 66 2 out O.length (encTs O)
  vals : ∀ x ∈ O, W.ownsRow w.heap.size 9 1 x.2 x.1.2.length (x.1.2.map encS)
  low : Below w.heap.size w W
theorem RD.start {w W : World} (h : Below w.heap.size w W) : RD w (.slice none 0 0) [] W := ⟨World.ownsRow_nil _ _ _ _, fun x hx => by (cases hx), h⟩
theorem RD.after {w W W1 : World} {out : Value} {O : List TB} (h : RD w out O W) (hb : Below W.heap.size W W1) : RD w out O W1 := ⟨ownsRow_below h.row hb, fun x hx => ownsRow_below (h.vals x hx) hb, h.low.trans (hb.mono h.low.size)⟩
theorem RD.drew {w W : World} {out : Value} {O : List TB} (h : RD w out O W) : RD w out O W.drew := h.after (Below.refl _ _).drew
theorem RD.alloc {w W : World} {out : Value} {O : List TB} (h : RD w out O W) (o : Obj) : RD w out O (W.alloc o) := h.after ((Below.refl _ _).alloc (Nat.le_refl _) o)
theorem RD.snoc {w W W1 : World} {out out' : Value} {O : List TB} (x : TB) (h : RD w out O W) (hx : W.ownsRow w.heap.size 9 1 x.2 x.1.2.length (x.1.2.map encS))
    (hrow : W1.ownsRow w.heap.size 66 2 out' (O.length + 1) (encTs O ++ [encS x.1.1, x.2])) (hg : W.grownBy W1 out.ownBlock) : RD w out' (O ++ [x]) W1 := by
  refine ⟨by rw [List.length_append, encTs_snoc]; exact hrow, fun y hy => ?_, h.low.grown hg h.low.size fun k hk => (World.ownsRow.lt h.row k hk).1⟩
  have one : ∀ y : TB, W.ownsRow w.heap.size 9 1 y.2 y.1.2.length (y.1.2.map encS) → W1.ownsRow w.heap.size 9 1 y.2 y.1.2.length (y.1.2.map encS) := fun y hy => hy.kept hg (rows_apartR hy h.row)
  rcases List.mem_append.1 hy with hy | hy
  · exact one y (h.vals y hy)
  · obtain rfl : y = x := by simpa using hy
    exact one _ hx
theorem RD.terms {w W : World} {out : Value} {O : List TB} (h : RD w out O W) : TermsIn W out O := TermsIn.ofRow h.row h.vals
/-- append([]string{}, values...): a row of its own. -/
theorem append_vals (V : World) (ty : TypeId) (v : Value) (l : List (List UInt8)) (h : StrsIn V v l) (h0 : l ≠ []) (hl : l.length ≤ 1000) :
    ∃ v' W', (Builtin.append_ #[58, 58] ty #[.slice (some ⟨V.heap.size, 0, none⟩) 0 0, v]).run Try.prog (V.alloc (.cells #[] 9 (0, 0))) = .ok v' W' ∧ W'.ownsRow V.heap.size 9 1 v' l.length (l.map encS) ∧ Below V.heap.size V W' := by
  have hb : Below V.heap.size V (V.alloc (.cells #[] 9 (0, 0))) := (Below.refl _ _).alloc (Nat.le_refl _) _
  rcases h.after hb with ⟨o, c, -, h1⟩ | ⟨g, off, cap, rfl, hm, hc, -⟩
  · exact absurd h1 h0
  · obtain ⟨i0, hi, hz0, hz1, hz2⟩ := info_parts infoStr
    have hown : (V.alloc (.cells #[] 9 (0, 0))).ownsRow V.heap.size 9 1 (.slice (some ⟨V.heap.size, 0, none⟩) 0 0) 0 [] := World.ownsRow_made V #[] 0 (Nat.le_refl _) (by decide) rfl
    obtain ⟨v', W1, hr, hrow, hgrow, -⟩ := run_append_own (P := Try.prog) (w := V.alloc (.cells #[] 9 (0, 0))) V.heap.size 58 ty 9 i0 (.string ⟨#[]⟩) 1 16 undStrs hi hz0 hz1 hz2 rfl (by decide) _ 0 [] hown ⟨g, off, none⟩ l.length cap (l.map encS) (by simp) (fun j u hj => by
      obtain ⟨hj1, hj2⟩ := List.getElem?_eq_some_iff.1 hj
      have := hc j (by simpa using hj1)
      have e : (⟨g, off, none⟩ : Addr).add j = ⟨g, off + j, none⟩ := by
        unfold Addr.add
        by_cases hz : j = 0
        · rw [if_pos hz, hz]
          rfl
        · rw [if_neg hz]
      rw [e, this, ← hj2, List.getElem_map]) (fun u hu => by
      obtain ⟨x, -, rfl⟩ := List.mem_map.1 hu
      rfl) (by simp only [maxLen]; omega) (by omega) hb.size
    rw [Nat.zero_add, List.nil_append] at hrow
    exact ⟨v', W1, hr, hrow, hb.grown hgrow hb.size fun k hk => (World.ownsRow.lt hown k hk).1⟩
theorem fst_drop {A : List TB} {i : Nat} (hi : i < A.length) : (A.drop i).map Prod.fst = A[i].1 :: (A.drop (i + 1)).map Prod.fst := by
  rw [List.drop_eq_getElem_cons hi]
  rfl
theorem fst_drop_nil {A : List TB} {i : Nat} (hi : A.length ≤ i) : (A.drop i).map Prod.fst = [] := by
  rw [List.drop_eq_nil_of_le hi]
  rfl
def RPost (w : World) (r : Int × List PT) (e : Ending) (W' : World) : Prop := ∃ v O, e = .returned (.tuple #[v, .int .i64 r.1]) ∧ TermsIn W' v O ∧ O.map Prod.fst = r.2 ∧ Below w.heap.size w W'
theorem RPost.fail {w W' : World} {n : Int} (h : Below w.heap.size w W') : RPost w (n, []) (.returned (.tuple #[.slice none 0 0, .int .i64 n])) W' := ⟨_, [], rfl, ⟨fun x hx => by (cases hx), .inl ⟨0, rfl, rfl⟩⟩, rfl, h⟩

set_option maxRecDepth 100000 in
set_option maxHeartbeats 16000000 in
theorem narrowR_any (va vb : Value) (A B : List TB) (w : World) (hA : TermsIn w va A) (hB : TermsIn w vb B) (fa : FitT A) (fb : FitT B) :
    Calls Try.prog 26 #[va, vb] w (RPost w (narrowB (A.map Prod.fst) (B.map Prod.fst))) := by
  have HA := Lib.hid hA
  have HB := Lib.hid hB
  have HSa := Lib.hid (fun W h => rightTerms_any va A W h fa)
  have HSb := Lib.hid (fun W h => rightTerms_any vb B W h fb)
  rw [printAll_fst] at HSa HSb
  clear hA hB fa fb
  obtain ⟨R, hR⟩ : ∃ R, narrowB (A.map Prod.fst) (B.map Prod.fst) = R := ⟨_, rfl⟩
  rw [hR]
  have HR := Lib.hid hR
  clear hR
  cases h1 : (printAll prTerm keyT 44 (A.map Prod.fst)).isSome with
  | false =>
    obtain rfl : R = (2, []) := by rw [← HR.out]; unfold narrowB; rw [if_neg (by simp [h1])]
    rw [h1] at HSa
    clear h1 HSb
    go_enter Try.func26, Try.ntmps26
    go_wp2_with fail
    refine (HSa.out _ HA.out).mono ?_
    rintro e W1 ⟨rfl, hb⟩
    have HL := Lib.hid hb
    clear hb
    go_wp2
    go_ret2
    exact RPost.fail HL.out
  | true =>
    rw [h1] at HSa
    cases h2 : (printAll prTerm keyT 44 (B.map Prod.fst)).isSome with
    | false =>
      obtain rfl : R = (2, []) := by rw [← HR.out]; unfold narrowB; rw [if_pos h1, if_neg (by simp [h2])]
      rw [h2] at HSb
      clear h1 h2
      go_enter Try.func26, Try.ntmps26
      go_wp2_with fail
      refine (HSa.out _ HA.out).mono ?_
      rintro e W1 ⟨rfl, hb⟩
      have HL := Lib.hid hb
      clear hb
      go_wp2_with fail
      refine (HSb.out _ (HB.out.after HL.out)).mono ?_
      rintro e W2 ⟨rfl, hb⟩
      replace HL := Lib.hid (HL.out.trans (hb.mono HL.out.size))
      clear hb
      go_wp2
      go_ret2
      exact RPost.fail HL.out
    | true =>
      rw [h2] at HSb
      have hpA : Prints prTerm keyT (A.map Prod.fst) := some_prints h1
      have hpB : Prints prTerm keyT (B.map Prod.fst) := some_prints h2
      have hn : R = if (bothR (A.map Prod.fst) (B.map Prod.fst)).2 = true then (5, []) else if 8 < (bothR (A.map Prod.fst) (B.map Prod.fst)).1.length then (2, []) else (0, (bothR (A.map Prod.fst) (B.map Prod.fst)).1) := by
        rw [← HR.out]
        unfold narrowB
        rw [if_pos h1, if_pos h2, bothB_R _ _ _ (Nat.le_refl _)]
        cases (bothR (A.map Prod.fst) (B.map Prod.fst)).2 <;> rfl
      have hval : ∀ (S : List TB), Prints prTerm keyT (S.map Prod.fst) → ∀ x ∈ S, x.1.2.length ≤ 8 ∧ x.1.2 ≠ [] := fun S h x hx => by
        obtain ⟨-, h2, -⟩ := (prints_iff _ _).1 h
        have hs := h2 x.1 (List.mem_map.2 ⟨x, hx, rfl⟩)
        refine ⟨(term_vals hs).len, fun e => ?_⟩
        unfold prTerm at hs
        rw [e] at hs
        simp at hs
      have HVa := Lib.hid (hval A hpA)
      have HVb := Lib.hid (hval B hpB)
      have hla : A.length ≤ 8 := by have := hpA.len; rwa [List.length_map] at this
      have hlb : B.length ≤ 8 := by have := hpB.len; rwa [List.length_map] at this
      obtain ⟨o, c, rfl⟩ := HA.out.shape
      obtain ⟨p, d, rfl⟩ := HB.out.shape
      obtain ⟨Q, hQ⟩ : ∃ Q, bothR (A.map Prod.fst) (B.map Prod.fst) = Q := ⟨_, rfl⟩
      rw [hQ] at hn
      have HN := Lib.hid hn
      have HQ := Lib.hid hQ
      clear h1 h2 hpA hpB hn hval HR hQ
      obtain ⟨NA, hNA⟩ : ∃ n, n = A.length := ⟨_, rfl⟩
      obtain ⟨NB, hNB⟩ : ∃ n, n = B.length := ⟨_, rfl⟩
      rw [← hNA] at HA HSa hla
      rw [← hNB] at HB HSb hlb
      rw [← hNA, ← hNB]
      have HNA := Lib.hid hNA
      have HNB := Lib.hid hNB
      clear hNA hNB
      go_enter Try.func26, Try.ntmps26
      go_wp2_with fail
      refine (HSa.out _ HA.out).mono ?_
      rintro e W1 ⟨rfl, hb⟩
      have HL := Lib.hid hb
      clear hb
      go_wp2_with fail
      refine (HSb.out _ (HB.out.after HL.out)).mono ?_
      rintro e W2 ⟨rfl, hb⟩
      replace HL := Lib.hid (HL.out.trans (hb.mono HL.out.size))
      clear hb HSa HSb
      go_wp2
      go_loopw [6, 7, 8, 9] (fun out iv kv ev wr => ∃ (i k : Nat) (e : Bool) (O : List TB), iv = .int .i64 (i : Int) ∧ kv = .int .i64 (k : Int) ∧ ev = .bool e ∧ i ≤ NA ∧ k ≤ NB ∧ O.length ≤ i + k ∧ RD w out O wr ∧ addR (O.map Prod.fst) e (bothR ((A.drop i).map Prod.fst) ((B.drop k).map Prod.fst)) = Q) (fun _ iv kv _ _ => (NA - intOf iv).toNat + (NB - intOf kv).toNat)
      case atStart => exact ⟨0, 0, false, [], rfl, rfl, rfl, Nat.zero_le _, Nat.zero_le _, Nat.le_refl _, RD.start HL.out, by rw [List.drop_zero, List.drop_zero, HQ.out]; simp [addR]⟩
      case round =>
        clear HL HQ
        obtain ⟨i, k, e, O, rfl, rfl, rfl, hi, hk, hO, hrd, hal⟩ := hrel
        have HRd := Lib.hid hrd
        have HAl := Lib.hid hal
        clear hrd hal
        by_cases hiN : i < NA
        · have hia : i < A.length := by rw [← HNA.out]; exact hiN
          obtain ⟨g, off, rfl, -, -, -, -⟩ := HA.out.at i hia
          have HCa : Hid (∀ V, Below w.heap.size w V → V.cell? ⟨g, off + i * 2, none⟩ = some (encS A[i].1.1) ∧ V.cell? ⟨g, off + i * 2 + 1, none⟩ = some A[i].2 ∧ StrsIn V A[i].2 A[i].1.2) := fun V hV => by
            obtain ⟨g', off', h1, -, h2, h3, h4⟩ := (HA.out.after hV).at i hia
            cases h1
            exact ⟨h2, h3, h4⟩
          have hvx := HVa.out A[i] (List.getElem_mem hia)
          have HDa := Lib.hid (fst_drop hia)
          rw [fst_drop hia] at HAl
          generalize A[i] = x at HCa hvx HAl HDa
          obtain ⟨⟨ka, la⟩, xv⟩ := x
          dsimp only at HCa hvx HAl HDa
          by_cases hkN : k < NB
          · have hkb : k < B.length := by rw [← HNB.out]; exact hkN
            obtain ⟨pg, pf, rfl, -, -, -, -⟩ := HB.out.at k hkb
            have HCb : Hid (∀ V, Below w.heap.size w V → V.cell? ⟨pg, pf + k * 2, none⟩ = some (encS B[k].1.1) ∧ V.cell? ⟨pg, pf + k * 2 + 1, none⟩ = some B[k].2 ∧ StrsIn V B[k].2 B[k].1.2) := fun V hV => by
              obtain ⟨g', off', h1, -, h2, h3, h4⟩ := (HB.out.after hV).at k hkb
              cases h1
              exact ⟨h2, h3, h4⟩
            have hvy := HVb.out B[k] (List.getElem_mem hkb)
            have HDb := Lib.hid (fst_drop hkb)
            rw [fst_drop hkb] at HAl
            generalize B[k] = y at HCb hvy HAl HDb
            obtain ⟨⟨kb, lb⟩, yv⟩ := y
            dsimp only at HCb hvy HAl HDb
            cases hlt : ltB ka kb with
            | true =>
              go_upto_region 17 with (fail)
              refine wp_region_held_drew (S := fun V => RD w u6 O V) (by kernel_rfl) HRd.out.drew (fun _ => ?_)
              refine HeldBy.gen (fun V => RD w u6 O V) HRd.out.drew ?_
              clear HRd
              rintro U0 HS
              refine HeldBy.take (i := 0) rfl (by kernel_rfl) (by kernel_rfl) (by kernel_rfl) (fun _ _ _ h => h) (by rfl) (fun _ _ => by first | (go_simp; rfl) | (go_simp; done)) (by go_simp; rfl) HS ?_
              refine HeldBy.take (i := 1) rfl (by kernel_rfl) (by kernel_rfl) (by kernel_rfl) (fun _ _ _ h => h) (by rfl) (fun _ _ => by first | (go_simp; rfl) | (go_simp; done)) (by go_simp; rfl) HS ?_
              refine HeldBy.take (i := 2) rfl (by kernel_rfl) (by kernel_rfl) (by kernel_rfl) (fun _ _ _ h => h) (by rfl) (fun _ _ => by first | (go_simp; rfl) | (go_simp; done)) (by go_simp; rfl) HS ?_
              refine HeldBy.take (i := 3) (v := .bool false) rfl (by kernel_rfl) (by kernel_rfl) (by kernel_rfl) (fun _ _ _ h => h) (by rfl) (fun _ _ => by first | (go_simp; done) | (go_simp; omega)) (by go_simp; rfl) HS ?_
              refine HeldBy.take (i := 4) rfl (by kernel_rfl) (by kernel_rfl) (by kernel_rfl) (fun _ _ _ h => h) (by rfl) (fun _ _ => by first | (go_simp; rfl) | (go_simp; done)) (by go_simp; rfl) HS ?_
              refine HeldBy.take (i := 5) rfl (by kernel_rfl) (by kernel_rfl) (by kernel_rfl) (fun _ _ _ h => h) (by rfl) (fun _ _ => by first | (go_simp; rfl) | (go_simp; done)) (by go_simp; rfl) HS ?_
              refine HeldBy.take (i := 6) rfl (by kernel_rfl) (by kernel_rfl) (by kernel_rfl) (fun _ _ _ h => h) (by rfl) (fun _ _ => by first | (go_simp; rfl) | (go_simp; done)) (by go_simp; rfl) HS ?_
              refine HeldBy.take (i := 7) rfl (by kernel_rfl) (by kernel_rfl) (by kernel_rfl) (fun _ _ _ h => h) (by rfl) (fun _ _ => by first | (go_simp; rfl) | (go_simp; done)) (by go_simp; rfl) HS ?_
              refine HeldBy.take (i := 8) (v := .bool true) rfl (by kernel_rfl) (by kernel_rfl) (by kernel_rfl) (fun _ _ _ h => h) (by rfl) (fun _ _ => by first | (go_simp; done) | (go_simp; omega)) (by go_simp; rfl) HS ?_
              refine HeldBy.take (i := 9) rfl (by kernel_rfl) (by kernel_rfl) (by kernel_rfl) (fun _ _ _ h => h) (by rfl) (fun _ _ => by first | (go_simp; rfl) | (go_simp; done)) (by go_simp; rfl) HS ?_
              refine HeldBy.take (i := 10) rfl (by kernel_rfl) (by kernel_rfl) (by kernel_rfl) (fun _ _ _ h => h) (by rfl) (fun _ _ => by first | (go_simp; rfl) | (go_simp; done)) (by go_simp; rfl) HS ?_
              refine HeldBy.take (i := 11) rfl (by kernel_rfl) (by kernel_rfl) (by kernel_rfl) (fun _ _ _ h => h) (by rfl) (fun _ _ => by first | (go_simp; rfl) | (go_simp; done)) (by go_simp; rfl) HS ?_
              refine HeldBy.take (i := 12) (v := .pointer (some ⟨g, off + i * 2, none⟩)) rfl (by kernel_rfl) (by kernel_rfl) (by kernel_rfl) (fun _ _ _ h => h) (by rfl) (fun _ _ => by go_simp) (by go_simp; rfl) HS ?_
              refine HeldBy.take (i := 13) rfl (by kernel_rfl) (by kernel_rfl) (by kernel_rfl) (fun _ _ _ h => h) (by rfl) (fun _ _ => by first | (go_simp; rfl) | (go_simp; done)) (by go_simp; rfl) HS ?_
              refine HeldBy.take (i := 14) rfl (by kernel_rfl) (by kernel_rfl) (by kernel_rfl) (fun _ _ _ h => h) (by rfl) (fun V h => by have c := (HCa.out V h.low).1; go_simp; rfl) (by go_simp; rfl) HS ?_
              refine HeldBy.take (i := 15) rfl (by kernel_rfl) (by kernel_rfl) (by kernel_rfl) (fun _ _ _ h => h) (by rfl) (fun _ _ => by first | (go_simp; rfl) | (go_simp; done)) (by go_simp; rfl) HS ?_
              refine HeldBy.take (i := 16) rfl (by kernel_rfl) (by kernel_rfl) (by kernel_rfl) (fun _ _ _ h => h) (by rfl) (fun _ _ => by first | (go_simp; rfl) | (go_simp; done)) (by go_simp; rfl) HS ?_
              refine HeldBy.take (i := 17) (v := .pointer (some ⟨pg, pf + k * 2, none⟩)) rfl (by kernel_rfl) (by kernel_rfl) (by kernel_rfl) (fun _ _ _ h => h) (by rfl) (fun _ _ => by go_simp) (by go_simp; rfl) HS ?_
              refine HeldBy.take (i := 18) rfl (by kernel_rfl) (by kernel_rfl) (by kernel_rfl) (fun _ _ _ h => h) (by rfl) (fun _ _ => by first | (go_simp; rfl) | (go_simp; done)) (by go_simp; rfl) HS ?_
              refine HeldBy.take (i := 19) rfl (by kernel_rfl) (by kernel_rfl) (by kernel_rfl) (fun _ _ _ h => h) (by rfl) (fun V h => by have c := (HCb.out V h.low).1; go_simp; rfl) (by go_simp; rfl) HS ?_
              refine HeldBy.take (i := 20) (v := .bool true) rfl (by kernel_rfl) (by kernel_rfl) (by kernel_rfl) (fun _ _ _ h => h) (by rfl) (fun _ _ => exec_lss ka kb hlt rfl rfl rfl) (by go_simp; rfl) HS ?_
              refine HeldBy.take (i := 21) rfl (by kernel_rfl) (by kernel_rfl) (by kernel_rfl) (fun _ _ _ h => h) (by rfl) (fun _ _ => by first | (go_simp; rfl) | (go_simp; done)) (by go_simp; rfl) HS ?_
              refine HeldBy.take (i := 22) rfl (by kernel_rfl) (by kernel_rfl) (by kernel_rfl) (fun _ _ _ h => h) (by rfl) (fun _ _ => by first | (go_simp; rfl) | (go_simp; done)) (by go_simp; rfl) HS ?_
              refine HeldBy.take (i := 23) rfl (by kernel_rfl) (by kernel_rfl) (by kernel_rfl) (fun _ _ _ h => h) (by rfl) (fun _ _ => by first | (go_simp; rfl) | (go_simp; done)) (by go_simp; rfl) HS ?_
              refine wpAnyH_done (by kernel_rfl) ?_ _
              refine then_gen (fun V => RD w u6 O V) HS ?_
              clear HS
              rintro U1 hrd
              have HRd := Lib.hid hrd
              clear hrd
              go_upto_region 18 with (fail)
              refine wp_region_held_drew (S := fun V => Below w.heap.size w V) (by kernel_rfl) HRd.out.low.drew (fun _ => ?_)
              refine HeldBy.gen (fun V => RD w u6 O V) HRd.out.drew ?_
              clear HRd
              rintro U HS
              refine HeldBy.take (i := 0) rfl (by kernel_rfl) (by kernel_rfl) (by kernel_rfl) (fun _ _ _ h => h) (by rfl) (fun _ _ => by first | (go_simp; rfl) | (go_simp; done)) (by go_simp; rfl) HS.low ?_
              refine HeldBy.take (i := 1) rfl (by kernel_rfl) (by kernel_rfl) (by kernel_rfl) (fun _ _ _ h => h) (by rfl) (fun _ _ => by first | (go_simp; rfl) | (go_simp; done)) (by go_simp; rfl) HS.low ?_
              refine HeldBy.take (i := 2) rfl (by kernel_rfl) (by kernel_rfl) (by kernel_rfl) (fun _ _ _ h => h) (by rfl) (fun _ _ => by first | (go_simp; rfl) | (go_simp; done)) (by go_simp; rfl) HS.low ?_
              refine HeldBy.take (i := 3) (v := .pointer (some ⟨g, off + i * 2, none⟩)) rfl (by kernel_rfl) (by kernel_rfl) (by kernel_rfl) (fun _ _ _ h => h) (by rfl) (fun _ _ => by go_simp) (by go_simp; rfl) HS.low ?_
              refine HeldBy.take (i := 4) rfl (by kernel_rfl) (by kernel_rfl) (by kernel_rfl) (fun _ _ _ h => h) (by rfl) (fun _ _ => by first | (go_simp; rfl) | (go_simp; done)) (by go_simp; rfl) HS.low ?_
              refine HeldBy.take (i := 5) rfl (by kernel_rfl) (by kernel_rfl) (by kernel_rfl) (fun _ _ _ h => h) (by rfl) (fun V h => by have c := (HCa.out V h).1; go_simp; rfl) (by go_simp; rfl) HS.low ?_
              refine HeldBy.take (i := 7) rfl (by kernel_rfl) (by kernel_rfl) (by kernel_rfl) (fun _ _ _ h => h) (by rfl) (fun _ _ => by first | (go_simp; rfl) | (go_simp; done)) (by go_simp; rfl) HS.low ?_
              refine HeldBy.take (i := 8) rfl (by kernel_rfl) (by kernel_rfl) (by kernel_rfl) (fun _ _ _ h => h) (by rfl) (fun _ _ => by first | (go_simp; rfl) | (go_simp; done)) (by go_simp; rfl) HS.low ?_
              refine HeldBy.take (i := 9) (v := .pointer (some ⟨g, off + i * 2, none⟩)) rfl (by kernel_rfl) (by kernel_rfl) (by kernel_rfl) (fun _ _ _ h => h) (by rfl) (fun _ _ => by go_simp) (by go_simp; rfl) HS.low ?_
              refine HeldBy.take (i := 10) rfl (by kernel_rfl) (by kernel_rfl) (by kernel_rfl) (fun _ _ _ h => h) (by rfl) (fun _ _ => by first | (go_simp; rfl) | (go_simp; done)) (by go_simp; rfl) HS.low ?_
              refine HeldBy.take (i := 11) rfl (by kernel_rfl) (by kernel_rfl) (by kernel_rfl) (fun _ _ _ h => h) (by rfl) (fun V h => by have c := (HCa.out V h).2.1; go_simp; rfl) (by go_simp; rfl) HS.low ?_
              refine HeldBy.value (i := 6) (v := .slice (some ⟨U.heap.size, 0, none⟩) 0 0) (w' := U.alloc (.cells #[] 9 (0, 0))) rfl (by kernel_rfl) (by rfl) (by go_simp) (by go_simp; rfl) (HS.alloc _).low ?_
              obtain ⟨v', W1, hr1, hrow1, hb1⟩ := append_vals U 58 xv la (HCa.out U HS.low).2.2 hvx.2 (by have := hvx.1; omega)
              have hU := HS.low.size
              replace HS := HS.after hb1
              refine HeldBy.value (i := 12) (v := v') (w' := W1) rfl (by kernel_rfl) (by rfl) (exec_append rfl rfl rfl hr1) (by go_simp; rfl) HS.low ?_
              obtain ⟨vo, vn, vc, rfl⟩ : ∃ vo vn vc, v' = .slice vo vn vc := by
                rcases hrow1.2 with ⟨rfl, -⟩ | ⟨g, cap, cur, rfl, -⟩
                · exact ⟨_, _, _, rfl⟩
                · exact ⟨_, _, _, rfl⟩
              refine HeldBy.take (i := 13) (v := .agg #[.string ⟨ka.toArray⟩, .slice vo vn vc]) rfl (by kernel_rfl) (by kernel_rfl) (by kernel_rfl) (fun _ _ _ h => h) (by rfl) (fun _ _ => by first | (unfold encS; go_simp; done) | (unfold encS; go_simp; rfl)) (by go_simp; rfl) HS.low ?_
              have hro2 := HS.alloc (.cells #[.string ⟨ka.toArray⟩, .slice vo vn vc] 66 (0, 0))
              have hrow2 := (ownsRow_base hrow1 hU).alloc (.cells #[.string ⟨ka.toArray⟩, .slice vo vn vc] 66 (0, 0))
              refine HeldBy.value (i := 14) (v := .slice (some ⟨W1.heap.size, 0, none⟩) 1 1) (w' := W1.alloc (.cells #[.string ⟨ka.toArray⟩, .slice vo vn vc] 66 (0, 0))) rfl (by kernel_rfl) (by rfl) (by go_simp) (by go_simp; rfl) hro2.low ?_
              obtain ⟨i0, hi, hz0, hz1, hz2⟩ := info_parts infoRT
              obtain ⟨v3, W3, hr3, hrow3, hg3, -⟩ := run_append_own (P := Try.prog) (w := W1.alloc (.cells #[.string ⟨ka.toArray⟩, .slice vo vn vc] 66 (0, 0))) w.heap.size 30 30 66 i0 _ 2 40 undRTs hi hz0 hz1 hz2 rfl (by decide) u6 O.length _ hro2.row ⟨W1.heap.size, 0, none⟩ 1 1 [.string ⟨ka.toArray⟩, .slice vo vn vc] rfl (cell_two_new _ _ _ _) (by simp [Value.oneCell']) (by simp only [maxLen]; omega) (by omega) hro2.low.size
              have hro3 : RD w v3 (O ++ [((ka, la), Value.slice vo vn vc)]) W3 := RD.snoc ((ka, la), Value.slice vo vn vc) hro2 hrow2 hrow3 hg3
              refine HeldBy.value (i := 15) (v := v3) (w' := W3) rfl (by kernel_rfl) (by rfl) (exec_append rfl rfl rfl hr3) (by go_simp; rfl) hro3.low ?_
              refine HeldBy.take (i := 16) rfl (by kernel_rfl) (by kernel_rfl) (by kernel_rfl) (fun _ _ _ h => h) (by rfl) (fun _ _ => by first | (go_simp; rfl) | (go_simp; done)) (by go_simp; rfl) hro3.low ?_
              refine wpAnyH_done (by kernel_rfl) ?_ _
              have HRd := Lib.hid hro3
              have hal2 : Hid (addR ((O ++ [((ka, la), Value.slice vo vn vc)]).map Prod.fst) e (bothR ((A.drop (i + 1)).map Prod.fst) ((B.drop k).map Prod.fst)) = Q) := by
                show _ = _
                rw [← HAl.out, List.map_append]
                rw [HDb.out]
                exact (addR_lt (x := (ka, la)) (y := (kb, lb)) hlt).symm
              clear hr1 hrow1 hb1 hU HS hro2 hrow2 hr3 hrow3 hg3 hro3 HCa HAl
              go_wp2
              go_roundw
              case rel => exact ⟨i + 1, k, e, _, rfl, rfl, rfl, by omega, by omega, by rw [List.length_append]; simp; omega, HRd.out, hal2.out⟩
              case measure => simp [intOf]; omega
            | false =>
              go_upto_region 17 with (fail)
              refine wp_region_held_drew (S := fun V => RD w u6 O V) (by kernel_rfl) HRd.out.drew (fun _ => ?_)
              refine HeldBy.gen (fun V => RD w u6 O V) HRd.out.drew ?_
              clear HRd
              rintro U0 HS
              refine HeldBy.take (i := 0) rfl (by kernel_rfl) (by kernel_rfl) (by kernel_rfl) (fun _ _ _ h => h) (by rfl) (fun _ _ => by first | (go_simp; rfl) | (go_simp; done)) (by go_simp; rfl) HS ?_
              refine HeldBy.take (i := 1) rfl (by kernel_rfl) (by kernel_rfl) (by kernel_rfl) (fun _ _ _ h => h) (by rfl) (fun _ _ => by first | (go_simp; rfl) | (go_simp; done)) (by go_simp; rfl) HS ?_
              refine HeldBy.take (i := 2) rfl (by kernel_rfl) (by kernel_rfl) (by kernel_rfl) (fun _ _ _ h => h) (by rfl) (fun _ _ => by first | (go_simp; rfl) | (go_simp; done)) (by go_simp; rfl) HS ?_
              refine HeldBy.take (i := 3) (v := .bool false) rfl (by kernel_rfl) (by kernel_rfl) (by kernel_rfl) (fun _ _ _ h => h) (by rfl) (fun _ _ => by first | (go_simp; done) | (go_simp; omega)) (by go_simp; rfl) HS ?_
              refine HeldBy.take (i := 4) rfl (by kernel_rfl) (by kernel_rfl) (by kernel_rfl) (fun _ _ _ h => h) (by rfl) (fun _ _ => by first | (go_simp; rfl) | (go_simp; done)) (by go_simp; rfl) HS ?_
              refine HeldBy.take (i := 5) rfl (by kernel_rfl) (by kernel_rfl) (by kernel_rfl) (fun _ _ _ h => h) (by rfl) (fun _ _ => by first | (go_simp; rfl) | (go_simp; done)) (by go_simp; rfl) HS ?_
              refine HeldBy.take (i := 6) rfl (by kernel_rfl) (by kernel_rfl) (by kernel_rfl) (fun _ _ _ h => h) (by rfl) (fun _ _ => by first | (go_simp; rfl) | (go_simp; done)) (by go_simp; rfl) HS ?_
              refine HeldBy.take (i := 7) rfl (by kernel_rfl) (by kernel_rfl) (by kernel_rfl) (fun _ _ _ h => h) (by rfl) (fun _ _ => by first | (go_simp; rfl) | (go_simp; done)) (by go_simp; rfl) HS ?_
              refine HeldBy.take (i := 8) (v := .bool true) rfl (by kernel_rfl) (by kernel_rfl) (by kernel_rfl) (fun _ _ _ h => h) (by rfl) (fun _ _ => by first | (go_simp; done) | (go_simp; omega)) (by go_simp; rfl) HS ?_
              refine HeldBy.take (i := 9) rfl (by kernel_rfl) (by kernel_rfl) (by kernel_rfl) (fun _ _ _ h => h) (by rfl) (fun _ _ => by first | (go_simp; rfl) | (go_simp; done)) (by go_simp; rfl) HS ?_
              refine HeldBy.take (i := 10) rfl (by kernel_rfl) (by kernel_rfl) (by kernel_rfl) (fun _ _ _ h => h) (by rfl) (fun _ _ => by first | (go_simp; rfl) | (go_simp; done)) (by go_simp; rfl) HS ?_
              refine HeldBy.take (i := 11) rfl (by kernel_rfl) (by kernel_rfl) (by kernel_rfl) (fun _ _ _ h => h) (by rfl) (fun _ _ => by first | (go_simp; rfl) | (go_simp; done)) (by go_simp; rfl) HS ?_
              refine HeldBy.take (i := 12) (v := .pointer (some ⟨g, off + i * 2, none⟩)) rfl (by kernel_rfl) (by kernel_rfl) (by kernel_rfl) (fun _ _ _ h => h) (by rfl) (fun _ _ => by go_simp) (by go_simp; rfl) HS ?_
              refine HeldBy.take (i := 13) rfl (by kernel_rfl) (by kernel_rfl) (by kernel_rfl) (fun _ _ _ h => h) (by rfl) (fun _ _ => by first | (go_simp; rfl) | (go_simp; done)) (by go_simp; rfl) HS ?_
              refine HeldBy.take (i := 14) rfl (by kernel_rfl) (by kernel_rfl) (by kernel_rfl) (fun _ _ _ h => h) (by rfl) (fun V h => by have c := (HCa.out V h.low).1; go_simp; rfl) (by go_simp; rfl) HS ?_
              refine HeldBy.take (i := 15) rfl (by kernel_rfl) (by kernel_rfl) (by kernel_rfl) (fun _ _ _ h => h) (by rfl) (fun _ _ => by first | (go_simp; rfl) | (go_simp; done)) (by go_simp; rfl) HS ?_
              refine HeldBy.take (i := 16) rfl (by kernel_rfl) (by kernel_rfl) (by kernel_rfl) (fun _ _ _ h => h) (by rfl) (fun _ _ => by first | (go_simp; rfl) | (go_simp; done)) (by go_simp; rfl) HS ?_
              refine HeldBy.take (i := 17) (v := .pointer (some ⟨pg, pf + k * 2, none⟩)) rfl (by kernel_rfl) (by kernel_rfl) (by kernel_rfl) (fun _ _ _ h => h) (by rfl) (fun _ _ => by go_simp) (by go_simp; rfl) HS ?_
              refine HeldBy.take (i := 18) rfl (by kernel_rfl) (by kernel_rfl) (by kernel_rfl) (fun _ _ _ h => h) (by rfl) (fun _ _ => by first | (go_simp; rfl) | (go_simp; done)) (by go_simp; rfl) HS ?_
              refine HeldBy.take (i := 19) rfl (by kernel_rfl) (by kernel_rfl) (by kernel_rfl) (fun _ _ _ h => h) (by rfl) (fun V h => by have c := (HCb.out V h.low).1; go_simp; rfl) (by go_simp; rfl) HS ?_
              refine HeldBy.take (i := 20) (v := .bool false) rfl (by kernel_rfl) (by kernel_rfl) (by kernel_rfl) (fun _ _ _ h => h) (by rfl) (fun _ _ => exec_lss ka kb hlt rfl rfl rfl) (by go_simp; rfl) HS ?_
              refine HeldBy.take (i := 21) rfl (by kernel_rfl) (by kernel_rfl) (by kernel_rfl) (fun _ _ _ h => h) (by rfl) (fun _ _ => by first | (go_simp; rfl) | (go_simp; done)) (by go_simp; rfl) HS ?_
              refine HeldBy.take (i := 22) rfl (by kernel_rfl) (by kernel_rfl) (by kernel_rfl) (fun _ _ _ h => h) (by rfl) (fun _ _ => by first | (go_simp; rfl) | (go_simp; done)) (by go_simp; rfl) HS ?_
              refine HeldBy.take (i := 23) rfl (by kernel_rfl) (by kernel_rfl) (by kernel_rfl) (fun _ _ _ h => h) (by rfl) (fun _ _ => by first | (go_simp; rfl) | (go_simp; done)) (by go_simp; rfl) HS ?_
              refine wpAnyH_done (by kernel_rfl) ?_ _
              refine then_gen (fun V => RD w u6 O V) HS ?_
              clear HS
              rintro U1 hrd
              have HRd := Lib.hid hrd
              clear hrd
              go_upto_region 20 with (fail)
              refine wp_region_held_drew (S := fun V => RD w u6 O V) (by kernel_rfl) HRd.out.drew (fun _ => ?_)
              refine HeldBy.gen (fun V => RD w u6 O V) HRd.out.drew ?_
              clear HRd
              rintro U2 HS
              cases hgt : ltB kb ka with
              | true =>
                refine HeldBy.take (i := 0) rfl (by kernel_rfl) (by kernel_rfl) (by kernel_rfl) (fun _ _ _ h => h) (by rfl) (fun _ _ => by first | (go_simp; rfl) | (go_simp; done)) (by go_simp; rfl) HS ?_
                refine HeldBy.take (i := 1) rfl (by kernel_rfl) (by kernel_rfl) (by kernel_rfl) (fun _ _ _ h => h) (by rfl) (fun _ _ => by first | (go_simp; rfl) | (go_simp; done)) (by go_simp; rfl) HS ?_
                refine HeldBy.take (i := 2) rfl (by kernel_rfl) (by kernel_rfl) (by kernel_rfl) (fun _ _ _ h => h) (by rfl) (fun _ _ => by first | (go_simp; rfl) | (go_simp; done)) (by go_simp; rfl) HS ?_
                refine HeldBy.take (i := 3) (v := .bool false) rfl (by kernel_rfl) (by kernel_rfl) (by kernel_rfl) (fun _ _ _ h => h) (by rfl) (fun _ _ => by first | (go_simp; done) | (go_simp; omega)) (by go_simp; rfl) HS ?_
                refine HeldBy.take (i := 4) rfl (by kernel_rfl) (by kernel_rfl) (by kernel_rfl) (fun _ _ _ h => h) (by rfl) (fun _ _ => by first | (go_simp; rfl) | (go_simp; done)) (by go_simp; rfl) HS ?_
                refine HeldBy.take (i := 5) rfl (by kernel_rfl) (by kernel_rfl) (by kernel_rfl) (fun _ _ _ h => h) (by rfl) (fun _ _ => by first | (go_simp; rfl) | (go_simp; done)) (by go_simp; rfl) HS ?_
                refine HeldBy.take (i := 6) rfl (by kernel_rfl) (by kernel_rfl) (by kernel_rfl) (fun _ _ _ h => h) (by rfl) (fun _ _ => by first | (go_simp; rfl) | (go_simp; done)) (by go_simp; rfl) HS ?_
                refine HeldBy.take (i := 7) (v := .pointer (some ⟨pg, pf + k * 2, none⟩)) rfl (by kernel_rfl) (by kernel_rfl) (by kernel_rfl) (fun _ _ _ h => h) (by rfl) (fun _ _ => by go_simp) (by go_simp; rfl) HS ?_
                refine HeldBy.take (i := 8) rfl (by kernel_rfl) (by kernel_rfl) (by kernel_rfl) (fun _ _ _ h => h) (by rfl) (fun _ _ => by first | (go_simp; rfl) | (go_simp; done)) (by go_simp; rfl) HS ?_
                refine HeldBy.take (i := 9) rfl (by kernel_rfl) (by kernel_rfl) (by kernel_rfl) (fun _ _ _ h => h) (by rfl) (fun V h => by have c := (HCb.out V h.low).1; go_simp; rfl) (by go_simp; rfl) HS ?_
                refine HeldBy.take (i := 10) rfl (by kernel_rfl) (by kernel_rfl) (by kernel_rfl) (fun _ _ _ h => h) (by rfl) (fun _ _ => by first | (go_simp; rfl) | (go_simp; done)) (by go_simp; rfl) HS ?_
                refine HeldBy.take (i := 11) rfl (by kernel_rfl) (by kernel_rfl) (by kernel_rfl) (fun _ _ _ h => h) (by rfl) (fun _ _ => by first | (go_simp; rfl) | (go_simp; done)) (by go_simp; rfl) HS ?_
                refine HeldBy.take (i := 12) (v := .pointer (some ⟨g, off + i * 2, none⟩)) rfl (by kernel_rfl) (by kernel_rfl) (by kernel_rfl) (fun _ _ _ h => h) (by rfl) (fun _ _ => by go_simp) (by go_simp; rfl) HS ?_
                refine HeldBy.take (i := 13) rfl (by kernel_rfl) (by kernel_rfl) (by kernel_rfl) (fun _ _ _ h => h) (by rfl) (fun _ _ => by first | (go_simp; rfl) | (go_simp; done)) (by go_simp; rfl) HS ?_
                refine HeldBy.take (i := 14) rfl (by kernel_rfl) (by kernel_rfl) (by kernel_rfl) (fun _ _ _ h => h) (by rfl) (fun V h => by have c := (HCa.out V h.low).1; go_simp; rfl) (by go_simp; rfl) HS ?_
                refine HeldBy.take (i := 15) (v := .bool true) rfl (by kernel_rfl) (by kernel_rfl) (by kernel_rfl) (fun _ _ _ h => h) (by rfl) (fun _ _ => exec_lss kb ka hgt rfl rfl rfl) (by go_simp; rfl) HS ?_
                refine HeldBy.take (i := 16) rfl (by kernel_rfl) (by kernel_rfl) (by kernel_rfl) (fun _ _ _ h => h) (by rfl) (fun _ _ => by first | (go_simp; rfl) | (go_simp; done)) (by go_simp; rfl) HS ?_
                refine HeldBy.take (i := 17) rfl (by kernel_rfl) (by kernel_rfl) (by kernel_rfl) (fun _ _ _ h => h) (by rfl) (fun _ _ => by first | (go_simp; rfl) | (go_simp; done)) (by go_simp; rfl) HS ?_
                refine wpAnyH_done (by kernel_rfl) ?_ _
                refine then_gen (fun V => RD w u6 O V) HS ?_
                clear HS
                rintro U3 hrd
                have HRd := Lib.hid hrd
                clear hrd
                go_upto_region 21 with (fail)
                refine wp_region_held_drew (S := fun V => Below w.heap.size w V) (by kernel_rfl) HRd.out.low.drew (fun _ => ?_)
                refine HeldBy.gen (fun V => RD w u6 O V) HRd.out.drew ?_
                clear HRd
                rintro U HS
                refine HeldBy.take (i := 0) rfl (by kernel_rfl) (by kernel_rfl) (by kernel_rfl) (fun _ _ _ h => h) (by rfl) (fun _ _ => by first | (go_simp; rfl) | (go_simp; done)) (by go_simp; rfl) HS.low ?_
                refine HeldBy.take (i := 1) rfl (by kernel_rfl) (by kernel_rfl) (by kernel_rfl) (fun _ _ _ h => h) (by rfl) (fun _ _ => by first | (go_simp; rfl) | (go_simp; done)) (by go_simp; rfl) HS.low ?_
                refine HeldBy.take (i := 2) rfl (by kernel_rfl) (by kernel_rfl) (by kernel_rfl) (fun _ _ _ h => h) (by rfl) (fun _ _ => by first | (go_simp; rfl) | (go_simp; done)) (by go_simp; rfl) HS.low ?_
                refine HeldBy.take (i := 3) (v := .pointer (some ⟨pg, pf + k * 2, none⟩)) rfl (by kernel_rfl) (by kernel_rfl) (by kernel_rfl) (fun _ _ _ h => h) (by rfl) (fun _ _ => by go_simp) (by go_simp; rfl) HS.low ?_
                refine HeldBy.take (i := 4) rfl (by kernel_rfl) (by kernel_rfl) (by kernel_rfl) (fun _ _ _ h => h) (by rfl) (fun _ _ => by first | (go_simp; rfl) | (go_simp; done)) (by go_simp; rfl) HS.low ?_
                refine HeldBy.take (i := 5) rfl (by kernel_rfl) (by kernel_rfl) (by kernel_rfl) (fun _ _ _ h => h) (by rfl) (fun V h => by have c := (HCb.out V h).1; go_simp; rfl) (by go_simp; rfl) HS.low ?_
                refine HeldBy.take (i := 7) rfl (by kernel_rfl) (by kernel_rfl) (by kernel_rfl) (fun _ _ _ h => h) (by rfl) (fun _ _ => by first | (go_simp; rfl) | (go_simp; done)) (by go_simp; rfl) HS.low ?_
                refine HeldBy.take (i := 8) rfl (by kernel_rfl) (by kernel_rfl) (by kernel_rfl) (fun _ _ _ h => h) (by rfl) (fun _ _ => by first | (go_simp; rfl) | (go_simp; done)) (by go_simp; rfl) HS.low ?_
                refine HeldBy.take (i := 9) (v := .pointer (some ⟨pg, pf + k * 2, none⟩)) rfl (by kernel_rfl) (by kernel_rfl) (by kernel_rfl) (fun _ _ _ h => h) (by rfl) (fun _ _ => by go_simp) (by go_simp; rfl) HS.low ?_
                refine HeldBy.take (i := 10) rfl (by kernel_rfl) (by kernel_rfl) (by kernel_rfl) (fun _ _ _ h => h) (by rfl) (fun _ _ => by first | (go_simp; rfl) | (go_simp; done)) (by go_simp; rfl) HS.low ?_
                refine HeldBy.take (i := 11) rfl (by kernel_rfl) (by kernel_rfl) (by kernel_rfl) (fun _ _ _ h => h) (by rfl) (fun V h => by have c := (HCb.out V h).2.1; go_simp; rfl) (by go_simp; rfl) HS.low ?_
                refine HeldBy.value (i := 6) (v := .slice (some ⟨U.heap.size, 0, none⟩) 0 0) (w' := U.alloc (.cells #[] 9 (0, 0))) rfl (by kernel_rfl) (by rfl) (by go_simp) (by go_simp; rfl) (HS.alloc _).low ?_
                obtain ⟨v', W1, hr1, hrow1, hb1⟩ := append_vals U 58 yv lb (HCb.out U HS.low).2.2 hvy.2 (by have := hvy.1; omega)
                have hU := HS.low.size
                replace HS := HS.after hb1
                refine HeldBy.value (i := 12) (v := v') (w' := W1) rfl (by kernel_rfl) (by rfl) (exec_append rfl rfl rfl hr1) (by go_simp; rfl) HS.low ?_
                obtain ⟨vo, vn, vc, rfl⟩ : ∃ vo vn vc, v' = .slice vo vn vc := by
                  rcases hrow1.2 with ⟨rfl, -⟩ | ⟨g, cap, cur, rfl, -⟩
                  · exact ⟨_, _, _, rfl⟩
                  · exact ⟨_, _, _, rfl⟩
                refine HeldBy.take (i := 13) (v := .agg #[.string ⟨kb.toArray⟩, .slice vo vn vc]) rfl (by kernel_rfl) (by kernel_rfl) (by kernel_rfl) (fun _ _ _ h => h) (by rfl) (fun _ _ => by first | (unfold encS; go_simp; done) | (unfold encS; go_simp; rfl)) (by go_simp; rfl) HS.low ?_
                have hro2 := HS.alloc (.cells #[.string ⟨kb.toArray⟩, .slice vo vn vc] 66 (0, 0))
                have hrow2 := (ownsRow_base hrow1 hU).alloc (.cells #[.string ⟨kb.toArray⟩, .slice vo vn vc] 66 (0, 0))
                refine HeldBy.value (i := 14) (v := .slice (some ⟨W1.heap.size, 0, none⟩) 1 1) (w' := W1.alloc (.cells #[.string ⟨kb.toArray⟩, .slice vo vn vc] 66 (0, 0))) rfl (by kernel_rfl) (by rfl) (by go_simp) (by go_simp; rfl) hro2.low ?_
                obtain ⟨i0, hi, hz0, hz1, hz2⟩ := info_parts infoRT
                obtain ⟨v3, W3, hr3, hrow3, hg3, -⟩ := run_append_own (P := Try.prog) (w := W1.alloc (.cells #[.string ⟨kb.toArray⟩, .slice vo vn vc] 66 (0, 0))) w.heap.size 30 30 66 i0 _ 2 40 undRTs hi hz0 hz1 hz2 rfl (by decide) u6 O.length _ hro2.row ⟨W1.heap.size, 0, none⟩ 1 1 [.string ⟨kb.toArray⟩, .slice vo vn vc] rfl (cell_two_new _ _ _ _) (by simp [Value.oneCell']) (by simp only [maxLen]; omega) (by omega) hro2.low.size
                have hro3 : RD w v3 (O ++ [((kb, lb), Value.slice vo vn vc)]) W3 := RD.snoc ((kb, lb), Value.slice vo vn vc) hro2 hrow2 hrow3 hg3
                refine HeldBy.value (i := 15) (v := v3) (w' := W3) rfl (by kernel_rfl) (by rfl) (exec_append rfl rfl rfl hr3) (by go_simp; rfl) hro3.low ?_
                refine HeldBy.take (i := 16) rfl (by kernel_rfl) (by kernel_rfl) (by kernel_rfl) (fun _ _ _ h => h) (by rfl) (fun _ _ => by first | (go_simp; rfl) | (go_simp; done)) (by go_simp; rfl) hro3.low ?_
                refine wpAnyH_done (by kernel_rfl) ?_ _
                have HRd := Lib.hid hro3
                have hal2 : Hid (addR ((O ++ [((kb, lb), Value.slice vo vn vc)]).map Prod.fst) e (bothR ((A.drop i).map Prod.fst) ((B.drop (k + 1)).map Prod.fst)) = Q) := by
                  show _ = _
                  rw [← HAl.out, List.map_append]
                  rw [HDa.out]
                  exact (addR_gt (x := (ka, la)) (y := (kb, lb)) hlt hgt).symm
                clear hr1 hrow1 hb1 hU HS hro2 hrow2 hr3 hrow3 hg3 hro3 HCb HAl
                go_wp2
                go_roundw
                case rel => exact ⟨i, k + 1, e, _, rfl, rfl, rfl, by omega, by omega, by rw [List.length_append]; simp; omega, HRd.out, hal2.out⟩
                case measure => simp [intOf]; omega
              | false =>
                refine HeldBy.take (i := 0) rfl (by kernel_rfl) (by kernel_rfl) (by kernel_rfl) (fun _ _ _ h => h) (by rfl) (fun _ _ => by first | (go_simp; rfl) | (go_simp; done)) (by go_simp; rfl) HS ?_
                refine HeldBy.take (i := 1) rfl (by kernel_rfl) (by kernel_rfl) (by kernel_rfl) (fun _ _ _ h => h) (by rfl) (fun _ _ => by first | (go_simp; rfl) | (go_simp; done)) (by go_simp; rfl) HS ?_
                refine HeldBy.take (i := 2) rfl (by kernel_rfl) (by kernel_rfl) (by kernel_rfl) (fun _ _ _ h => h) (by rfl) (fun _ _ => by first | (go_simp; rfl) | (go_simp; done)) (by go_simp; rfl) HS ?_
                refine HeldBy.take (i := 3) (v := .bool false) rfl (by kernel_rfl) (by kernel_rfl) (by kernel_rfl) (fun _ _ _ h => h) (by rfl) (fun _ _ => by first | (go_simp; done) | (go_simp; omega)) (by go_simp; rfl) HS ?_
                refine HeldBy.take (i := 4) rfl (by kernel_rfl) (by kernel_rfl) (by kernel_rfl) (fun _ _ _ h => h) (by rfl) (fun _ _ => by first | (go_simp; rfl) | (go_simp; done)) (by go_simp; rfl) HS ?_
                refine HeldBy.take (i := 5) rfl (by kernel_rfl) (by kernel_rfl) (by kernel_rfl) (fun _ _ _ h => h) (by rfl) (fun _ _ => by first | (go_simp; rfl) | (go_simp; done)) (by go_simp; rfl) HS ?_
                refine HeldBy.take (i := 6) rfl (by kernel_rfl) (by kernel_rfl) (by kernel_rfl) (fun _ _ _ h => h) (by rfl) (fun _ _ => by first | (go_simp; rfl) | (go_simp; done)) (by go_simp; rfl) HS ?_
                refine HeldBy.take (i := 7) (v := .pointer (some ⟨pg, pf + k * 2, none⟩)) rfl (by kernel_rfl) (by kernel_rfl) (by kernel_rfl) (fun _ _ _ h => h) (by rfl) (fun _ _ => by go_simp) (by go_simp; rfl) HS ?_
                refine HeldBy.take (i := 8) rfl (by kernel_rfl) (by kernel_rfl) (by kernel_rfl) (fun _ _ _ h => h) (by rfl) (fun _ _ => by first | (go_simp; rfl) | (go_simp; done)) (by go_simp; rfl) HS ?_
                refine HeldBy.take (i := 9) rfl (by kernel_rfl) (by kernel_rfl) (by kernel_rfl) (fun _ _ _ h => h) (by rfl) (fun V h => by have c := (HCb.out V h.low).1; go_simp; rfl) (by go_simp; rfl) HS ?_
                refine HeldBy.take (i := 10) rfl (by kernel_rfl) (by kernel_rfl) (by kernel_rfl) (fun _ _ _ h => h) (by rfl) (fun _ _ => by first | (go_simp; rfl) | (go_simp; done)) (by go_simp; rfl) HS ?_
                refine HeldBy.take (i := 11) rfl (by kernel_rfl) (by kernel_rfl) (by kernel_rfl) (fun _ _ _ h => h) (by rfl) (fun _ _ => by first | (go_simp; rfl) | (go_simp; done)) (by go_simp; rfl) HS ?_
                refine HeldBy.take (i := 12) (v := .pointer (some ⟨g, off + i * 2, none⟩)) rfl (by kernel_rfl) (by kernel_rfl) (by kernel_rfl) (fun _ _ _ h => h) (by rfl) (fun _ _ => by go_simp) (by go_simp; rfl) HS ?_
                refine HeldBy.take (i := 13) rfl (by kernel_rfl) (by kernel_rfl) (by kernel_rfl) (fun _ _ _ h => h) (by rfl) (fun _ _ => by first | (go_simp; rfl) | (go_simp; done)) (by go_simp; rfl) HS ?_
                refine HeldBy.take (i := 14) rfl (by kernel_rfl) (by kernel_rfl) (by kernel_rfl) (fun _ _ _ h => h) (by rfl) (fun V h => by have c := (HCa.out V h.low).1; go_simp; rfl) (by go_simp; rfl) HS ?_
                refine HeldBy.take (i := 15) (v := .bool false) rfl (by kernel_rfl) (by kernel_rfl) (by kernel_rfl) (fun _ _ _ h => h) (by rfl) (fun _ _ => exec_lss kb ka hgt rfl rfl rfl) (by go_simp; rfl) HS ?_
                refine HeldBy.take (i := 16) rfl (by kernel_rfl) (by kernel_rfl) (by kernel_rfl) (fun _ _ _ h => h) (by rfl) (fun _ _ => by first | (go_simp; rfl) | (go_simp; done)) (by go_simp; rfl) HS ?_
                refine HeldBy.take (i := 17) rfl (by kernel_rfl) (by kernel_rfl) (by kernel_rfl) (fun _ _ _ h => h) (by rfl) (fun _ _ => by first | (go_simp; rfl) | (go_simp; done)) (by go_simp; rfl) HS ?_
                refine wpAnyH_done (by kernel_rfl) ?_ _
                refine then_gen (fun V => RD w u6 O V) HS ?_
                clear HS
                rintro U3 hrd
                have HRd := Lib.hid hrd
                clear hrd
                have hkk : ka = kb := same_key hlt hgt
                have HLtB := Lib.hid hlt
                have HGtB := Lib.hid hgt
                clear hlt hgt hkk
                obtain ⟨xo, xc, rfl⟩ := (HCa.out U3 HRd.out.low).2.2.len
                have hn8 := hvx.1
                obtain ⟨n, hnn⟩ : ∃ n, n = la.length := ⟨_, rfl⟩
                rw [← hnn] at HCa hn8
                have HNl := Lib.hid hnn
                clear hnn hvx hvy
                go_wp2
                go_loopw [10, 11] (fun bv jv wr => ∃ j : Nat, jv = .int .i64 (j : Int) ∧ j ≤ n ∧ Hid (wr.ownsRow U3.heap.size 9 1 bv ((la.take j).filter fun x => lb.contains x).length (((la.take j).filter fun x => lb.contains x).map encS)) ∧ Below U3.heap.size U3 wr) (fun _ jv _ => (n - intOf jv).toNat)
                case atStart => exact ⟨0, rfl, Nat.zero_le _, World.ownsRow_nil _ _ _ _, Below.refl _ _⟩
                case round =>
                  obtain ⟨j, rfl, hj, hrow, hb3⟩ := hrel
                  have HB3 := Lib.hid hb3
                  have HW : Hid (Below w.heap.size w wr) := HRd.out.low.trans (hb3.mono HRd.out.low.size)
                  clear hb3
                  have c1 := (HCa.out wr HW.out).2.1
                  by_cases hjn : j < n
                  · have hjl : j < la.length := by rw [← HNl.out]; exact hjn
                    obtain ⟨gv, fv, rfl, -⟩ := (HCa.out wr HW.out).2.2.at j hjl
                    have HE : Hid (∀ V, Below w.heap.size w V → V.cell? ⟨gv, fv + j, none⟩ = some (encS la[j])) := fun V hV => by
                      obtain ⟨g', f', h1, h2⟩ := (HCa.out V hV).2.2.at j hjl
                      cases h1
                      exact h2
                    have HF := Lib.hid (filter_take (b := lb) hjl)
                    have hlf : ((la.take j).filter fun x => lb.contains x).length ≤ 8 := by
                      have := List.length_filter_le (fun x => lb.contains x) (la.take j)
                      rw [List.length_take] at this
                      omega
                    generalize (la.take j).filter (fun x => lb.contains x) = F at hrow HF hlf
                    generalize la[j] = z at HE HF
                    have HWV : Hid (∀ V, Below wr.heap.size wr V → Below w.heap.size w V) := fun V hV => HW.out.trans (hV.mono HW.out.size)
                    go_upto_region 11 with (fail)
                    clear c1
                    refine wp_region_held_drew (S := fun V => Below wr.heap.size wr V) (by kernel_rfl) (Below.refl _ _).drew (fun _ => ?_)
                    refine HeldBy.gen (fun V => Below wr.heap.size wr V) (Below.refl _ _).drew ?_
                    rintro U4 HS
                    refine HeldBy.take (i := 0) rfl (by kernel_rfl) (by kernel_rfl) (by kernel_rfl) (fun _ _ _ h => h) (by rfl) (fun _ _ => by first | (go_simp; rfl) | (go_simp; done)) (by go_simp; rfl) HS ?_
                    refine HeldBy.take (i := 1) rfl (by kernel_rfl) (by kernel_rfl) (by kernel_rfl) (fun _ _ _ h => h) (by rfl) (fun _ _ => by first | (go_simp; rfl) | (go_simp; done)) (by go_simp; rfl) HS ?_
                    refine HeldBy.take (i := 2) (v := .pointer (some ⟨pg, pf + k * 2, none⟩)) rfl (by kernel_rfl) (by kernel_rfl) (by kernel_rfl) (fun _ _ _ h => h) (by rfl) (fun _ _ => by go_simp) (by go_simp; rfl) HS ?_
                    refine HeldBy.take (i := 3) rfl (by kernel_rfl) (by kernel_rfl) (by kernel_rfl) (fun _ _ _ h => h) (by rfl) (fun _ _ => by first | (go_simp; rfl) | (go_simp; done)) (by go_simp; rfl) HS ?_
                    refine HeldBy.take (i := 4) rfl (by kernel_rfl) (by kernel_rfl) (by kernel_rfl) (fun _ _ _ h => h) (by rfl) (fun V h => by have c := (HCb.out V (HWV.out V h)).2.1; go_simp; rfl) (by go_simp; rfl) HS ?_
                    refine HeldBy.take (i := 5) rfl (by kernel_rfl) (by kernel_rfl) (by kernel_rfl) (fun _ _ _ h => h) (by rfl) (fun _ _ => by first | (go_simp; rfl) | (go_simp; done)) (by go_simp; rfl) HS ?_
                    refine HeldBy.take (i := 6) rfl (by kernel_rfl) (by kernel_rfl) (by kernel_rfl) (fun _ _ _ h => h) (by rfl) (fun _ _ => by first | (go_simp; rfl) | (go_simp; done)) (by go_simp; rfl) HS ?_
                    refine HeldBy.take (i := 7) (v := .pointer (some ⟨g, off + i * 2, none⟩)) rfl (by kernel_rfl) (by kernel_rfl) (by kernel_rfl) (fun _ _ _ h => h) (by rfl) (fun _ _ => by go_simp) (by go_simp; rfl) HS ?_
                    refine HeldBy.take (i := 8) rfl (by kernel_rfl) (by kernel_rfl) (by kernel_rfl) (fun _ _ _ h => h) (by rfl) (fun _ _ => by first | (go_simp; rfl) | (go_simp; done)) (by go_simp; rfl) HS ?_
                    refine HeldBy.take (i := 9) rfl (by kernel_rfl) (by kernel_rfl) (by kernel_rfl) (fun _ _ _ h => h) (by rfl) (fun V h => by have c := (HCa.out V (HWV.out V h)).2.1; go_simp; rfl) (by go_simp; rfl) HS ?_
                    refine HeldBy.take (i := 10) rfl (by kernel_rfl) (by kernel_rfl) (by kernel_rfl) (fun _ _ _ h => h) (by rfl) (fun _ _ => by first | (go_simp; rfl) | (go_simp; done)) (by go_simp; rfl) HS ?_
                    refine HeldBy.take (i := 11) (v := .pointer (some ⟨gv, fv + j, none⟩)) rfl (by kernel_rfl) (by kernel_rfl) (by kernel_rfl) (fun _ _ _ h => h) (by rfl) (fun _ _ => by go_simp) (by go_simp; rfl) HS ?_
                    refine HeldBy.take (i := 12) rfl (by kernel_rfl) (by kernel_rfl) (by kernel_rfl) (fun _ _ _ h => h) (by rfl) (fun V h => by have c := HE.out V (HWV.out V h); go_simp; rfl) (by go_simp; rfl) HS ?_
                    refine HeldBy.callE (i := 13) rfl (by kernel_rfl) (by rfl) (by go_simp; exact ⟨rfl, rfl⟩) (by intro v; go_simp; rfl) ?_
                    refine (hasR_any yv lb z _ (HCb.out U4 (HWV.out U4 HS)).2.2).mono ?_
                    rintro e5 U5 ⟨rfl, rfl⟩
                    refine .inl ⟨_, rfl, HS, ?_⟩
                    refine wpAnyH_done (by kernel_rfl) ?_ _
                    have HWU := Lib.hid (HWV.out U4 HS)
                    have HB5 := Lib.hid (HB3.out.trans (HS.mono HB3.out.size))
                    have HRow := Lib.hid (ownsRow_below hrow.out HS)
                    clear HS hrow HWV HB3 HW
                    cases hz : lb.contains z with
                    | false =>
                      have hnx : Hid (U4.ownsRow U3.heap.size 9 1 u10 ((la.take (j + 1)).filter fun x => lb.contains x).length (((la.take (j + 1)).filter fun x => lb.contains x).map encS)) := by
                        show World.ownsRow _ _ _ _ _ _ _
                        rw [HF.out, hz]
                        simpa using HRow.out
                      clear HF hz HRow HE
                      go_wp2
                      go_roundw
                      case rel => exact ⟨j + 1, rfl, by omega, hnx, HB5.out⟩
                      case measure => simp [intOf]; omega
                    | true =>
                      have HF2 : Hid ((la.take (j + 1)).filter (fun x => lb.contains x) = F ++ [z]) := by show _ = _; rw [HF.out, hz]; rfl
                      obtain ⟨i0, hi0, hz0, hz1, hz2⟩ := info_parts infoStr
                      have HA5 := Lib.hid (HRow.out.alloc (.cells #[.string ⟨z.toArray⟩] 9 (0, 0)))
                      have HLA := Lib.hid (HB5.out.alloc HB5.out.size (.cells #[.string ⟨z.toArray⟩] 9 (0, 0)))
                      have hsz := HLA.out.size
                      have c1 := (HCa.out U4 HWU.out).2.1
                      have c2 := HE.out U4 HWU.out
                      clear HF hz HRow
                      unfold encS at c2 HA5
                      go_wp2_with (at_builtin; refine wpList_append_own _ rfl (.tmp 54) (.tmp 63) 58 rfl U3.heap.size 9 i0 (.string ⟨#[]⟩) 1 16 undStrs hi0 hz0 hz1 hz2 rfl (by decide) u10 F.length _ rfl HA5.out ⟨U4.heap.size, 0, none⟩ 1 1 [.string ⟨z.toArray⟩] rfl rfl (cell_one_new _ _ _) (by simp [Value.oneCell']) (by simp only [maxLen]; omega) (by omega) hsz ?_; intro v6 w6 hown6 hg6 hnil6)
                      have hnx : Hid (w6.ownsRow U3.heap.size 9 1 v6 ((la.take (j + 1)).filter fun x => lb.contains x).length (((la.take (j + 1)).filter fun x => lb.contains x).map encS)) := by
                        show World.ownsRow _ _ _ _ _ _ _
                        rw [HF2.out, List.length_append, List.map_append]
                        exact hown6
                      have hlw : Hid (Below U3.heap.size U3 w6) := HLA.out.grown hg6 hsz (fun q hq => (World.ownsRow.lt HA5.out q hq).1)
                      clear HA5 HLA hown6 hg6 hnil6 HF2 c1 c2 HE HB5
                      go_roundw
                      case rel => exact ⟨j + 1, rfl, by omega, hnx, hlw.out⟩
                      case measure => simp [intOf]; omega
                  · obtain rfl : j = n := by omega
                    have hall : (la.take j).filter (fun x => lb.contains x) = commonB la lb := by
                      rw [List.take_of_length_le (by rw [HNl.out]; exact Nat.le_refl _)]
                      rfl
                    rw [hall] at hrow
                    clear hall
                    have HAl2 : Hid (addR (O.map Prod.fst ++ [(ka, commonB la lb)]) (e || decide (commonB la lb = [])) (bothR ((A.drop (i + 1)).map Prod.fst) ((B.drop (k + 1)).map Prod.fst)) = Q) := by
                      show _ = _
                      rw [← HAl.out]
                      exact (addR_eq (x := (ka, la)) (y := (kb, lb)) HLtB.out HGtB.out).symm
                    have hro0 := HRd.out.after HB3.out
                    obtain ⟨cm, hcm⟩ : ∃ cm, commonB la lb = cm := ⟨_, rfl⟩
                    rw [hcm] at hrow HAl2
                    obtain ⟨m, hm⟩ : ∃ m, m = cm.length := ⟨_, rfl⟩
                    obtain ⟨vo, vc, rfl⟩ : ∃ vo vc, u10 = .slice vo m vc := by
                      rw [hm]
                      rcases hrow.out.2 with ⟨rfl, h0⟩ | ⟨g, cap, cur, rfl, -⟩
                      · exact ⟨none, 0, by rw [h0]⟩
                      · exact ⟨_, _, rfl⟩
                    have hml : m ≤ 1000 := by
                      rw [hm, ← hcm]
                      have := List.length_filter_le (fun x => lb.contains x) la
                      rw [← HNl.out] at this
                      unfold commonB
                      omega
                    have hdec : decide (cm = []) = decide (m = 0) := decide_eq_decide.2 ⟨fun h => by rw [hm, h]; rfl, fun h => List.length_eq_zero_iff.1 (by rw [← hm]; exact h)⟩
                    rw [hdec] at HAl2
                    have hrow7 : wr.ownsRow U3.heap.size 9 1 (.slice vo m vc) m (cm.map encS) := by rw [hm]; rw [← hm]; have := hrow.out; rwa [← hm] at this
                    have hro2 := hro0.alloc (.cells #[.string ⟨ka.toArray⟩, .slice vo m vc] 66 (0, 0))
                    have hrow2 := (ownsRow_base hrow7 HRd.out.low.size).alloc (.cells #[.string ⟨ka.toArray⟩, .slice vo m vc] 66 (0, 0))
                    have hsz := hro2.low.size
                    obtain ⟨i0, hi0, hz0, hz1, hz2⟩ := info_parts infoRT
                    have HR3 := Lib.hid hro2
                    have HW3 := Lib.hid hrow2
                    have HMm := Lib.hid hm
                    have c0 := (HCa.out wr HW.out).1
                    clear hrow hro0 hro2 hrow2 hrow7 hcm hm hdec HAl HB3 HRd
                    unfold encS at c0
                    cases e with
                    | true =>
                      go_wp2_with (at_builtin; refine wpList_append_own _ rfl (.tmp 71) (.tmp 79) 30 rfl w.heap.size 66 i0 (.agg #[.string ⟨#[]⟩, .slice none 0 0]) 2 40 undRTs hi0 hz0 hz1 hz2 rfl (by decide) u6 O.length _ rfl HR3.out.row ⟨wr.heap.size, 0, none⟩ 1 1 [.string ⟨ka.toArray⟩, .slice vo m vc] rfl rfl (cell_two_new _ _ _ _) (by simp [Value.oneCell']) (by simp only [maxLen]; omega) (by omega) hsz ?_; intro v8 w8 hown8 hg8 hnil8)
                      have hro3 : Hid (RD w v8 (O ++ [((ka, cm), Value.slice vo m vc)]) w8) := RD.snoc ((ka, cm), Value.slice vo m vc) HR3.out (by show World.ownsRow _ _ _ _ _ cm.length _; rw [← HMm.out]; exact HW3.out) hown8 hg8
                      clear HR3 HW3 hown8 hg8 hnil8 c0
                      go_roundw
                      case rel => exact ⟨i + 1, k + 1, true, _, rfl, rfl, rfl, by omega, by omega, by rw [List.length_append]; simp; omega, hro3.out, by rw [List.map_append]; exact HAl2.out⟩
                      case measure => simp [intOf]; omega
                    | false =>
                      by_cases hm0 : m = 0
                      · have hm0i : ((m : Int) == 0) = true := by simp [hm0]
                        have HM0 := Lib.hid hm0
                        clear hm0
                        go_wp2_with (at_builtin; refine wpList_append_own _ rfl (.tmp 71) (.tmp 79) 30 rfl w.heap.size 66 i0 (.agg #[.string ⟨#[]⟩, .slice none 0 0]) 2 40 undRTs hi0 hz0 hz1 hz2 rfl (by decide) u6 O.length _ rfl HR3.out.row ⟨wr.heap.size, 0, none⟩ 1 1 [.string ⟨ka.toArray⟩, .slice vo m vc] rfl rfl (cell_two_new _ _ _ _) (by simp [Value.oneCell']) (by simp only [maxLen]; omega) (by omega) hsz ?_; intro v8 w8 hown8 hg8 hnil8)
                        have hro3 : Hid (RD w v8 (O ++ [((ka, cm), Value.slice vo m vc)]) w8) := RD.snoc ((ka, cm), Value.slice vo m vc) HR3.out (by show World.ownsRow _ _ _ _ _ cm.length _; rw [← HMm.out]; exact HW3.out) hown8 hg8
                        clear HR3 HW3 hown8 hg8 hnil8 c0
                        go_roundw
                        case rel => exact ⟨i + 1, k + 1, true, _, rfl, rfl, rfl, by omega, by omega, by rw [List.length_append]; simp; omega, hro3.out, by rw [List.map_append]; exact (by have := HAl2.out; rwa [decide_eq_true HM0.out] at this)⟩
                        case measure => simp [intOf]; omega
                      · have hm0i : ((m : Int) == 0) = false := by simp [hm0]
                        have HM0 := Lib.hid hm0
                        clear hm0
                        go_wp2_with (at_builtin; refine wpList_append_own _ rfl (.tmp 71) (.tmp 79) 30 rfl w.heap.size 66 i0 (.agg #[.string ⟨#[]⟩, .slice none 0 0]) 2 40 undRTs hi0 hz0 hz1 hz2 rfl (by decide) u6 O.length _ rfl HR3.out.row ⟨wr.heap.size, 0, none⟩ 1 1 [.string ⟨ka.toArray⟩, .slice vo m vc] rfl rfl (cell_two_new _ _ _ _) (by simp [Value.oneCell']) (by simp only [maxLen]; omega) (by omega) hsz ?_; intro v8 w8 hown8 hg8 hnil8)
                        have hro3 : Hid (RD w v8 (O ++ [((ka, cm), Value.slice vo m vc)]) w8) := RD.snoc ((ka, cm), Value.slice vo m vc) HR3.out (by show World.ownsRow _ _ _ _ _ cm.length _; rw [← HMm.out]; exact HW3.out) hown8 hg8
                        clear HR3 HW3 hown8 hg8 hnil8 c0
                        go_roundw
                        case rel => exact ⟨i + 1, k + 1, false, _, rfl, rfl, rfl, by omega, by omega, by rw [List.length_append]; simp; omega, hro3.out, by rw [List.map_append]; exact (by have := HAl2.out; rwa [decide_eq_false HM0.out] at this)⟩
                        case measure => simp [intOf]; omega
          · obtain rfl : k = NB := by omega
            have hnil : (B.drop k).map Prod.fst = [] := fst_drop_nil (by rw [← HNB.out]; exact Nat.le_refl _)
            rw [hnil] at HAl
            have HNil := Lib.hid hnil
            clear hnil
            go_upto_region 17 with (fail)
            refine wp_region_held_drew (S := fun V => RD w u6 O V) (by kernel_rfl) HRd.out.drew (fun _ => ?_)
            refine HeldBy.gen (fun V => RD w u6 O V) HRd.out.drew ?_
            clear HRd
            rintro U0 HS
            refine HeldBy.take (i := 0) rfl (by kernel_rfl) (by kernel_rfl) (by kernel_rfl) (fun _ _ _ h => h) (by rfl) (fun _ _ => by first | (go_simp; rfl) | (go_simp; done)) (by go_simp; rfl) HS ?_
            refine HeldBy.take (i := 1) rfl (by kernel_rfl) (by kernel_rfl) (by kernel_rfl) (fun _ _ _ h => h) (by rfl) (fun _ _ => by first | (go_simp; rfl) | (go_simp; done)) (by go_simp; rfl) HS ?_
            refine HeldBy.take (i := 2) rfl (by kernel_rfl) (by kernel_rfl) (by kernel_rfl) (fun _ _ _ h => h) (by rfl) (fun _ _ => by first | (go_simp; rfl) | (go_simp; done)) (by go_simp; rfl) HS ?_
            refine HeldBy.take (i := 3) (v := .bool true) rfl (by kernel_rfl) (by kernel_rfl) (by kernel_rfl) (fun _ _ _ h => h) (by rfl) (fun _ _ => by first | (go_simp; done) | (go_simp; omega)) (by go_simp; rfl) HS ?_
            refine HeldBy.take (i := 4) rfl (by kernel_rfl) (by kernel_rfl) (by kernel_rfl) (fun _ _ _ h => h) (by rfl) (fun _ _ => by first | (go_simp; rfl) | (go_simp; done)) (by go_simp; rfl) HS ?_
            refine HeldBy.skip (i := 5) rfl (by kernel_rfl) (by kernel_rfl) (by kernel_rfl) (fun _ _ _ h => h) (by rfl) (by go_simp; rfl) HS ?_
            refine HeldBy.skip (i := 6) rfl (by kernel_rfl) (by kernel_rfl) (by kernel_rfl) (fun _ _ _ h => h) (by rfl) (by go_simp; rfl) HS ?_
            refine HeldBy.skip (i := 7) rfl (by kernel_rfl) (by kernel_rfl) (by kernel_rfl) (fun _ _ _ h => h) (by rfl) (by go_simp; rfl) HS ?_
            refine HeldBy.skip (i := 8) rfl (by kernel_rfl) (by kernel_rfl) (by kernel_rfl) (fun _ _ _ h => h) (by rfl) (by go_simp; rfl) HS ?_
            refine HeldBy.skip (i := 9) rfl (by kernel_rfl) (by kernel_rfl) (by kernel_rfl) (fun _ _ _ h => h) (by rfl) (by go_simp; rfl) HS ?_
            refine HeldBy.skip (i := 10) rfl (by kernel_rfl) (by kernel_rfl) (by kernel_rfl) (fun _ _ _ h => h) (by rfl) (by go_simp; rfl) HS ?_
            refine HeldBy.skip (i := 11) rfl (by kernel_rfl) (by kernel_rfl) (by kernel_rfl) (fun _ _ _ h => h) (by rfl) (by go_simp; rfl) HS ?_
            refine HeldBy.skip (i := 12) rfl (by kernel_rfl) (by kernel_rfl) (by kernel_rfl) (fun _ _ _ h => h) (by rfl) (by go_simp; rfl) HS ?_
            refine HeldBy.skip (i := 13) rfl (by kernel_rfl) (by kernel_rfl) (by kernel_rfl) (fun _ _ _ h => h) (by rfl) (by go_simp; rfl) HS ?_
            refine HeldBy.skip (i := 14) rfl (by kernel_rfl) (by kernel_rfl) (by kernel_rfl) (fun _ _ _ h => h) (by rfl) (by go_simp; rfl) HS ?_
            refine HeldBy.skip (i := 15) rfl (by kernel_rfl) (by kernel_rfl) (by kernel_rfl) (fun _ _ _ h => h) (by rfl) (by go_simp; rfl) HS ?_
            refine HeldBy.skip (i := 16) rfl (by kernel_rfl) (by kernel_rfl) (by kernel_rfl) (fun _ _ _ h => h) (by rfl) (by go_simp; rfl) HS ?_
            refine HeldBy.skip (i := 17) rfl (by kernel_rfl) (by kernel_rfl) (by kernel_rfl) (fun _ _ _ h => h) (by rfl) (by go_simp; rfl) HS ?_
            refine HeldBy.skip (i := 18) rfl (by kernel_rfl) (by kernel_rfl) (by kernel_rfl) (fun _ _ _ h => h) (by rfl) (by go_simp; rfl) HS ?_
            refine HeldBy.skip (i := 19) rfl (by kernel_rfl) (by kernel_rfl) (by kernel_rfl) (fun _ _ _ h => h) (by rfl) (by go_simp; rfl) HS ?_
            refine HeldBy.skip (i := 20) rfl (by kernel_rfl) (by kernel_rfl) (by kernel_rfl) (fun _ _ _ h => h) (by rfl) (by go_simp; rfl) HS ?_
            refine HeldBy.skip (i := 21) rfl (by kernel_rfl) (by kernel_rfl) (by kernel_rfl) (fun _ _ _ h => h) (by rfl) (by go_simp; rfl) HS ?_
            refine HeldBy.take (i := 22) rfl (by kernel_rfl) (by kernel_rfl) (by kernel_rfl) (fun _ _ _ h => h) (by rfl) (fun _ _ => by first | (go_simp; rfl) | (go_simp; done)) (by go_simp; rfl) HS ?_
            refine HeldBy.take (i := 23) rfl (by kernel_rfl) (by kernel_rfl) (by kernel_rfl) (fun _ _ _ h => h) (by rfl) (fun _ _ => by first | (go_simp; rfl) | (go_simp; done)) (by go_simp; rfl) HS ?_
            refine wpAnyH_done (by kernel_rfl) ?_ _
            refine then_gen (fun V => RD w u6 O V) HS ?_
            clear HS
            rintro U1 hrd
            have HRd := Lib.hid hrd
            clear hrd
            go_upto_region 18 with (fail)
            refine wp_region_held_drew (S := fun V => Below w.heap.size w V) (by kernel_rfl) HRd.out.low.drew (fun _ => ?_)
            refine HeldBy.gen (fun V => RD w u6 O V) HRd.out.drew ?_
            clear HRd
            rintro U HS
            refine HeldBy.take (i := 0) rfl (by kernel_rfl) (by kernel_rfl) (by kernel_rfl) (fun _ _ _ h => h) (by rfl) (fun _ _ => by first | (go_simp; rfl) | (go_simp; done)) (by go_simp; rfl) HS.low ?_
            refine HeldBy.take (i := 1) rfl (by kernel_rfl) (by kernel_rfl) (by kernel_rfl) (fun _ _ _ h => h) (by rfl) (fun _ _ => by first | (go_simp; rfl) | (go_simp; done)) (by go_simp; rfl) HS.low ?_
            refine HeldBy.take (i := 2) rfl (by kernel_rfl) (by kernel_rfl) (by kernel_rfl) (fun _ _ _ h => h) (by rfl) (fun _ _ => by first | (go_simp; rfl) | (go_simp; done)) (by go_simp; rfl) HS.low ?_
            refine HeldBy.take (i := 3) (v := .pointer (some ⟨g, off + i * 2, none⟩)) rfl (by kernel_rfl) (by kernel_rfl) (by kernel_rfl) (fun _ _ _ h => h) (by rfl) (fun _ _ => by go_simp) (by go_simp; rfl) HS.low ?_
            refine HeldBy.take (i := 4) rfl (by kernel_rfl) (by kernel_rfl) (by kernel_rfl) (fun _ _ _ h => h) (by rfl) (fun _ _ => by first | (go_simp; rfl) | (go_simp; done)) (by go_simp; rfl) HS.low ?_
            refine HeldBy.take (i := 5) rfl (by kernel_rfl) (by kernel_rfl) (by kernel_rfl) (fun _ _ _ h => h) (by rfl) (fun V h => by have c := (HCa.out V h).1; go_simp; rfl) (by go_simp; rfl) HS.low ?_
            refine HeldBy.take (i := 7) rfl (by kernel_rfl) (by kernel_rfl) (by kernel_rfl) (fun _ _ _ h => h) (by rfl) (fun _ _ => by first | (go_simp; rfl) | (go_simp; done)) (by go_simp; rfl) HS.low ?_
            refine HeldBy.take (i := 8) rfl (by kernel_rfl) (by kernel_rfl) (by kernel_rfl) (fun _ _ _ h => h) (by rfl) (fun _ _ => by first | (go_simp; rfl) | (go_simp; done)) (by go_simp; rfl) HS.low ?_
            refine HeldBy.take (i := 9) (v := .pointer (some ⟨g, off + i * 2, none⟩)) rfl (by kernel_rfl) (by kernel_rfl) (by kernel_rfl) (fun _ _ _ h => h) (by rfl) (fun _ _ => by go_simp) (by go_simp; rfl) HS.low ?_
            refine HeldBy.take (i := 10) rfl (by kernel_rfl) (by kernel_rfl) (by kernel_rfl) (fun _ _ _ h => h) (by rfl) (fun _ _ => by first | (go_simp; rfl) | (go_simp; done)) (by go_simp; rfl) HS.low ?_
            refine HeldBy.take (i := 11) rfl (by kernel_rfl) (by kernel_rfl) (by kernel_rfl) (fun _ _ _ h => h) (by rfl) (fun V h => by have c := (HCa.out V h).2.1; go_simp; rfl) (by go_simp; rfl) HS.low ?_
            refine HeldBy.value (i := 6) (v := .slice (some ⟨U.heap.size, 0, none⟩) 0 0) (w' := U.alloc (.cells #[] 9 (0, 0))) rfl (by kernel_rfl) (by rfl) (by go_simp) (by go_simp; rfl) (HS.alloc _).low ?_
            obtain ⟨v', W1, hr1, hrow1, hb1⟩ := append_vals U 58 xv la (HCa.out U HS.low).2.2 hvx.2 (by have := hvx.1; omega)
            have hU := HS.low.size
            replace HS := HS.after hb1
            refine HeldBy.value (i := 12) (v := v') (w' := W1) rfl (by kernel_rfl) (by rfl) (exec_append rfl rfl rfl hr1) (by go_simp; rfl) HS.low ?_
            obtain ⟨vo, vn, vc, rfl⟩ : ∃ vo vn vc, v' = .slice vo vn vc := by
              rcases hrow1.2 with ⟨rfl, -⟩ | ⟨g, cap, cur, rfl, -⟩
              · exact ⟨_, _, _, rfl⟩
              · exact ⟨_, _, _, rfl⟩
            refine HeldBy.take (i := 13) (v := .agg #[.string ⟨ka.toArray⟩, .slice vo vn vc]) rfl (by kernel_rfl) (by kernel_rfl) (by kernel_rfl) (fun _ _ _ h => h) (by rfl) (fun _ _ => by first | (unfold encS; go_simp; done) | (unfold encS; go_simp; rfl)) (by go_simp; rfl) HS.low ?_
            have hro2 := HS.alloc (.cells #[.string ⟨ka.toArray⟩, .slice vo vn vc] 66 (0, 0))
            have hrow2 := (ownsRow_base hrow1 hU).alloc (.cells #[.string ⟨ka.toArray⟩, .slice vo vn vc] 66 (0, 0))
            refine HeldBy.value (i := 14) (v := .slice (some ⟨W1.heap.size, 0, none⟩) 1 1) (w' := W1.alloc (.cells #[.string ⟨ka.toArray⟩, .slice vo vn vc] 66 (0, 0))) rfl (by kernel_rfl) (by rfl) (by go_simp) (by go_simp; rfl) hro2.low ?_
            obtain ⟨i0, hi, hz0, hz1, hz2⟩ := info_parts infoRT
            obtain ⟨v3, W3, hr3, hrow3, hg3, -⟩ := run_append_own (P := Try.prog) (w := W1.alloc (.cells #[.string ⟨ka.toArray⟩, .slice vo vn vc] 66 (0, 0))) w.heap.size 30 30 66 i0 _ 2 40 undRTs hi hz0 hz1 hz2 rfl (by decide) u6 O.length _ hro2.row ⟨W1.heap.size, 0, none⟩ 1 1 [.string ⟨ka.toArray⟩, .slice vo vn vc] rfl (cell_two_new _ _ _ _) (by simp [Value.oneCell']) (by simp only [maxLen]; omega) (by omega) hro2.low.size
            have hro3 : RD w v3 (O ++ [((ka, la), Value.slice vo vn vc)]) W3 := RD.snoc ((ka, la), Value.slice vo vn vc) hro2 hrow2 hrow3 hg3
            refine HeldBy.value (i := 15) (v := v3) (w' := W3) rfl (by kernel_rfl) (by rfl) (exec_append rfl rfl rfl hr3) (by go_simp; rfl) hro3.low ?_
            refine HeldBy.take (i := 16) rfl (by kernel_rfl) (by kernel_rfl) (by kernel_rfl) (fun _ _ _ h => h) (by rfl) (fun _ _ => by first | (go_simp; rfl) | (go_simp; done)) (by go_simp; rfl) hro3.low ?_
            refine wpAnyH_done (by kernel_rfl) ?_ _
            have HRd := Lib.hid hro3
            have hal2 : Hid (addR ((O ++ [((ka, la), Value.slice vo vn vc)]).map Prod.fst) e (bothR ((A.drop (i + 1)).map Prod.fst) ((B.drop k).map Prod.fst)) = Q) := by
              show _ = _
              rw [← HAl.out, List.map_append]
              rw [HNil.out]
              exact addR_right.symm
            clear hr1 hrow1 hb1 hU HS hro2 hrow2 hr3 hrow3 hg3 hro3 HCa HAl
            go_wp2
            go_roundw
            case rel => exact ⟨i + 1, k, e, _, rfl, rfl, rfl, by omega, by omega, by rw [List.length_append]; simp; omega, HRd.out, hal2.out⟩
            case measure => simp [intOf]; omega
        · obtain rfl : i = NA := by omega
          have hnil : (A.drop i).map Prod.fst = [] := fst_drop_nil (by rw [← HNA.out]; exact Nat.le_refl _)
          rw [hnil] at HAl
          have HNil := Lib.hid hnil
          clear hnil
          by_cases hkN : k < NB
          · have hkb : k < B.length := by rw [← HNB.out]; exact hkN
            obtain ⟨pg, pf, rfl, -, -, -, -⟩ := HB.out.at k hkb
            have HCb : Hid (∀ V, Below w.heap.size w V → V.cell? ⟨pg, pf + k * 2, none⟩ = some (encS B[k].1.1) ∧ V.cell? ⟨pg, pf + k * 2 + 1, none⟩ = some B[k].2 ∧ StrsIn V B[k].2 B[k].1.2) := fun V hV => by
              obtain ⟨g', off', h1, -, h2, h3, h4⟩ := (HB.out.after hV).at k hkb
              cases h1
              exact ⟨h2, h3, h4⟩
            have hvy := HVb.out B[k] (List.getElem_mem hkb)
            rw [fst_drop hkb] at HAl
            generalize B[k] = y at HCb hvy HAl
            obtain ⟨⟨kb, lb⟩, yv⟩ := y
            dsimp only at HCb hvy HAl
            go_upto_region 17 with (fail)
            refine wp_region_held_drew (S := fun V => RD w u6 O V) (by kernel_rfl) HRd.out.drew (fun _ => ?_)
            refine HeldBy.gen (fun V => RD w u6 O V) HRd.out.drew ?_
            clear HRd
            rintro U0 HS
            refine HeldBy.take (i := 0) rfl (by kernel_rfl) (by kernel_rfl) (by kernel_rfl) (fun _ _ _ h => h) (by rfl) (fun _ _ => by first | (go_simp; rfl) | (go_simp; done)) (by go_simp; rfl) HS ?_
            refine HeldBy.take (i := 1) rfl (by kernel_rfl) (by kernel_rfl) (by kernel_rfl) (fun _ _ _ h => h) (by rfl) (fun _ _ => by first | (go_simp; rfl) | (go_simp; done)) (by go_simp; rfl) HS ?_
            refine HeldBy.take (i := 2) rfl (by kernel_rfl) (by kernel_rfl) (by kernel_rfl) (fun _ _ _ h => h) (by rfl) (fun _ _ => by first | (go_simp; rfl) | (go_simp; done)) (by go_simp; rfl) HS ?_
            refine HeldBy.take (i := 3) (v := .bool false) rfl (by kernel_rfl) (by kernel_rfl) (by kernel_rfl) (fun _ _ _ h => h) (by rfl) (fun _ _ => by first | (go_simp; done) | (go_simp; omega)) (by go_simp; rfl) HS ?_
            refine HeldBy.take (i := 4) rfl (by kernel_rfl) (by kernel_rfl) (by kernel_rfl) (fun _ _ _ h => h) (by rfl) (fun _ _ => by first | (go_simp; rfl) | (go_simp; done)) (by go_simp; rfl) HS ?_
            refine HeldBy.take (i := 5) rfl (by kernel_rfl) (by kernel_rfl) (by kernel_rfl) (fun _ _ _ h => h) (by rfl) (fun _ _ => by first | (go_simp; rfl) | (go_simp; done)) (by go_simp; rfl) HS ?_
            refine HeldBy.take (i := 6) rfl (by kernel_rfl) (by kernel_rfl) (by kernel_rfl) (fun _ _ _ h => h) (by rfl) (fun _ _ => by first | (go_simp; rfl) | (go_simp; done)) (by go_simp; rfl) HS ?_
            refine HeldBy.take (i := 7) rfl (by kernel_rfl) (by kernel_rfl) (by kernel_rfl) (fun _ _ _ h => h) (by rfl) (fun _ _ => by first | (go_simp; rfl) | (go_simp; done)) (by go_simp; rfl) HS ?_
            refine HeldBy.take (i := 8) (v := .bool false) rfl (by kernel_rfl) (by kernel_rfl) (by kernel_rfl) (fun _ _ _ h => h) (by rfl) (fun _ _ => by first | (go_simp; done) | (go_simp; omega)) (by go_simp; rfl) HS ?_
            refine HeldBy.take (i := 9) rfl (by kernel_rfl) (by kernel_rfl) (by kernel_rfl) (fun _ _ _ h => h) (by rfl) (fun _ _ => by first | (go_simp; rfl) | (go_simp; done)) (by go_simp; rfl) HS ?_
            refine HeldBy.skip (i := 10) rfl (by kernel_rfl) (by kernel_rfl) (by kernel_rfl) (fun _ _ _ h => h) (by rfl) (by go_simp; rfl) HS ?_
            refine HeldBy.skip (i := 11) rfl (by kernel_rfl) (by kernel_rfl) (by kernel_rfl) (fun _ _ _ h => h) (by rfl) (by go_simp; rfl) HS ?_
            refine HeldBy.skip (i := 12) rfl (by kernel_rfl) (by kernel_rfl) (by kernel_rfl) (fun _ _ _ h => h) (by rfl) (by go_simp; rfl) HS ?_
            refine HeldBy.skip (i := 13) rfl (by kernel_rfl) (by kernel_rfl) (by kernel_rfl) (fun _ _ _ h => h) (by rfl) (by go_simp; rfl) HS ?_
            refine HeldBy.skip (i := 14) rfl (by kernel_rfl) (by kernel_rfl) (by kernel_rfl) (fun _ _ _ h => h) (by rfl) (by go_simp; rfl) HS ?_
            refine HeldBy.skip (i := 15) rfl (by kernel_rfl) (by kernel_rfl) (by kernel_rfl) (fun _ _ _ h => h) (by rfl) (by go_simp; rfl) HS ?_
            refine HeldBy.skip (i := 16) rfl (by kernel_rfl) (by kernel_rfl) (by kernel_rfl) (fun _ _ _ h => h) (by rfl) (by go_simp; rfl) HS ?_
            refine HeldBy.skip (i := 17) rfl (by kernel_rfl) (by kernel_rfl) (by kernel_rfl) (fun _ _ _ h => h) (by rfl) (by go_simp; rfl) HS ?_
            refine HeldBy.skip (i := 18) rfl (by kernel_rfl) (by kernel_rfl) (by kernel_rfl) (fun _ _ _ h => h) (by rfl) (by go_simp; rfl) HS ?_
            refine HeldBy.skip (i := 19) rfl (by kernel_rfl) (by kernel_rfl) (by kernel_rfl) (fun _ _ _ h => h) (by rfl) (by go_simp; rfl) HS ?_
            refine HeldBy.skip (i := 20) rfl (by kernel_rfl) (by kernel_rfl) (by kernel_rfl) (fun _ _ _ h => h) (by rfl) (by go_simp; rfl) HS ?_
            refine HeldBy.take (i := 21) rfl (by kernel_rfl) (by kernel_rfl) (by kernel_rfl) (fun _ _ _ h => h) (by rfl) (fun _ _ => by first | (go_simp; rfl) | (go_simp; done)) (by go_simp; rfl) HS ?_
            refine HeldBy.take (i := 22) rfl (by kernel_rfl) (by kernel_rfl) (by kernel_rfl) (fun _ _ _ h => h) (by rfl) (fun _ _ => by first | (go_simp; rfl) | (go_simp; done)) (by go_simp; rfl) HS ?_
            refine HeldBy.take (i := 23) rfl (by kernel_rfl) (by kernel_rfl) (by kernel_rfl) (fun _ _ _ h => h) (by rfl) (fun _ _ => by first | (go_simp; rfl) | (go_simp; done)) (by go_simp; rfl) HS ?_
            refine wpAnyH_done (by kernel_rfl) ?_ _
            refine then_gen (fun V => RD w u6 O V) HS ?_
            clear HS
            rintro U1 hrd
            have HRd := Lib.hid hrd
            clear hrd
            go_upto_region 20 with (fail)
            refine wp_region_held_drew (S := fun V => RD w u6 O V) (by kernel_rfl) HRd.out.drew (fun _ => ?_)
            refine HeldBy.gen (fun V => RD w u6 O V) HRd.out.drew ?_
            clear HRd
            rintro U2 HS
            refine HeldBy.take (i := 0) rfl (by kernel_rfl) (by kernel_rfl) (by kernel_rfl) (fun _ _ _ h => h) (by rfl) (fun _ _ => by first | (go_simp; rfl) | (go_simp; done)) (by go_simp; rfl) HS ?_
            refine HeldBy.take (i := 1) rfl (by kernel_rfl) (by kernel_rfl) (by kernel_rfl) (fun _ _ _ h => h) (by rfl) (fun _ _ => by first | (go_simp; rfl) | (go_simp; done)) (by go_simp; rfl) HS ?_
            refine HeldBy.take (i := 2) rfl (by kernel_rfl) (by kernel_rfl) (by kernel_rfl) (fun _ _ _ h => h) (by rfl) (fun _ _ => by first | (go_simp; rfl) | (go_simp; done)) (by go_simp; rfl) HS ?_
            refine HeldBy.take (i := 3) (v := .bool true) rfl (by kernel_rfl) (by kernel_rfl) (by kernel_rfl) (fun _ _ _ h => h) (by rfl) (fun _ _ => by first | (go_simp; done) | (go_simp; omega)) (by go_simp; rfl) HS ?_
            refine HeldBy.take (i := 4) rfl (by kernel_rfl) (by kernel_rfl) (by kernel_rfl) (fun _ _ _ h => h) (by rfl) (fun _ _ => by first | (go_simp; rfl) | (go_simp; done)) (by go_simp; rfl) HS ?_
            refine HeldBy.skip (i := 5) rfl (by kernel_rfl) (by kernel_rfl) (by kernel_rfl) (fun _ _ _ h => h) (by rfl) (by go_simp; rfl) HS ?_
            refine HeldBy.skip (i := 6) rfl (by kernel_rfl) (by kernel_rfl) (by kernel_rfl) (fun _ _ _ h => h) (by rfl) (by go_simp; rfl) HS ?_
            refine HeldBy.skip (i := 7) rfl (by kernel_rfl) (by kernel_rfl) (by kernel_rfl) (fun _ _ _ h => h) (by rfl) (by go_simp; rfl) HS ?_
            refine HeldBy.skip (i := 8) rfl (by kernel_rfl) (by kernel_rfl) (by kernel_rfl) (fun _ _ _ h => h) (by rfl) (by go_simp; rfl) HS ?_
            refine HeldBy.skip (i := 9) rfl (by kernel_rfl) (by kernel_rfl) (by kernel_rfl) (fun _ _ _ h => h) (by rfl) (by go_simp; rfl) HS ?_
            refine HeldBy.skip (i := 10) rfl (by kernel_rfl) (by kernel_rfl) (by kernel_rfl) (fun _ _ _ h => h) (by rfl) (by go_simp; rfl) HS ?_
            refine HeldBy.skip (i := 11) rfl (by kernel_rfl) (by kernel_rfl) (by kernel_rfl) (fun _ _ _ h => h) (by rfl) (by go_simp; rfl) HS ?_
            refine HeldBy.skip (i := 12) rfl (by kernel_rfl) (by kernel_rfl) (by kernel_rfl) (fun _ _ _ h => h) (by rfl) (by go_simp; rfl) HS ?_
            refine HeldBy.skip (i := 13) rfl (by kernel_rfl) (by kernel_rfl) (by kernel_rfl) (fun _ _ _ h => h) (by rfl) (by go_simp; rfl) HS ?_
            refine HeldBy.skip (i := 14) rfl (by kernel_rfl) (by kernel_rfl) (by kernel_rfl) (fun _ _ _ h => h) (by rfl) (by go_simp; rfl) HS ?_
            refine HeldBy.skip (i := 15) rfl (by kernel_rfl) (by kernel_rfl) (by kernel_rfl) (fun _ _ _ h => h) (by rfl) (by go_simp; rfl) HS ?_
            refine HeldBy.take (i := 16) rfl (by kernel_rfl) (by kernel_rfl) (by kernel_rfl) (fun _ _ _ h => h) (by rfl) (fun _ _ => by first | (go_simp; rfl) | (go_simp; done)) (by go_simp; rfl) HS ?_
            refine HeldBy.take (i := 17) rfl (by kernel_rfl) (by kernel_rfl) (by kernel_rfl) (fun _ _ _ h => h) (by rfl) (fun _ _ => by first | (go_simp; rfl) | (go_simp; done)) (by go_simp; rfl) HS ?_
            refine wpAnyH_done (by kernel_rfl) ?_ _
            refine then_gen (fun V => RD w u6 O V) HS ?_
            clear HS
            rintro U3 hrd
            have HRd := Lib.hid hrd
            clear hrd
            go_upto_region 21 with (fail)
            refine wp_region_held_drew (S := fun V => Below w.heap.size w V) (by kernel_rfl) HRd.out.low.drew (fun _ => ?_)
            refine HeldBy.gen (fun V => RD w u6 O V) HRd.out.drew ?_
            clear HRd
            rintro U HS
            refine HeldBy.take (i := 0) rfl (by kernel_rfl) (by kernel_rfl) (by kernel_rfl) (fun _ _ _ h => h) (by rfl) (fun _ _ => by first | (go_simp; rfl) | (go_simp; done)) (by go_simp; rfl) HS.low ?_
            refine HeldBy.take (i := 1) rfl (by kernel_rfl) (by kernel_rfl) (by kernel_rfl) (fun _ _ _ h => h) (by rfl) (fun _ _ => by first | (go_simp; rfl) | (go_simp; done)) (by go_simp; rfl) HS.low ?_
            refine HeldBy.take (i := 2) rfl (by kernel_rfl) (by kernel_rfl) (by kernel_rfl) (fun _ _ _ h => h) (by rfl) (fun _ _ => by first | (go_simp; rfl) | (go_simp; done)) (by go_simp; rfl) HS.low ?_
            refine HeldBy.take (i := 3) (v := .pointer (some ⟨pg, pf + k * 2, none⟩)) rfl (by kernel_rfl) (by kernel_rfl) (by kernel_rfl) (fun _ _ _ h => h) (by rfl) (fun _ _ => by go_simp) (by go_simp; rfl) HS.low ?_
            refine HeldBy.take (i := 4) rfl (by kernel_rfl) (by kernel_rfl) (by kernel_rfl) (fun _ _ _ h => h) (by rfl) (fun _ _ => by first | (go_simp; rfl) | (go_simp; done)) (by go_simp; rfl) HS.low ?_
            refine HeldBy.take (i := 5) rfl (by kernel_rfl) (by kernel_rfl) (by kernel_rfl) (fun _ _ _ h => h) (by rfl) (fun V h => by have c := (HCb.out V h).1; go_simp; rfl) (by go_simp; rfl) HS.low ?_
            refine HeldBy.take (i := 7) rfl (by kernel_rfl) (by kernel_rfl) (by kernel_rfl) (fun _ _ _ h => h) (by rfl) (fun _ _ => by first | (go_simp; rfl) | (go_simp; done)) (by go_simp; rfl) HS.low ?_
            refine HeldBy.take (i := 8) rfl (by kernel_rfl) (by kernel_rfl) (by kernel_rfl) (fun _ _ _ h => h) (by rfl) (fun _ _ => by first | (go_simp; rfl) | (go_simp; done)) (by go_simp; rfl) HS.low ?_
            refine HeldBy.take (i := 9) (v := .pointer (some ⟨pg, pf + k * 2, none⟩)) rfl (by kernel_rfl) (by kernel_rfl) (by kernel_rfl) (fun _ _ _ h => h) (by rfl) (fun _ _ => by go_simp) (by go_simp; rfl) HS.low ?_
            refine HeldBy.take (i := 10) rfl (by kernel_rfl) (by kernel_rfl) (by kernel_rfl) (fun _ _ _ h => h) (by rfl) (fun _ _ => by first | (go_simp; rfl) | (go_simp; done)) (by go_simp; rfl) HS.low ?_
            refine HeldBy.take (i := 11) rfl (by kernel_rfl) (by kernel_rfl) (by kernel_rfl) (fun _ _ _ h => h) (by rfl) (fun V h => by have c := (HCb.out V h).2.1; go_simp; rfl) (by go_simp; rfl) HS.low ?_
            refine HeldBy.value (i := 6) (v := .slice (some ⟨U.heap.size, 0, none⟩) 0 0) (w' := U.alloc (.cells #[] 9 (0, 0))) rfl (by kernel_rfl) (by rfl) (by go_simp) (by go_simp; rfl) (HS.alloc _).low ?_
            obtain ⟨v', W1, hr1, hrow1, hb1⟩ := append_vals U 58 yv lb (HCb.out U HS.low).2.2 hvy.2 (by have := hvy.1; omega)
            have hU := HS.low.size
            replace HS := HS.after hb1
            refine HeldBy.value (i := 12) (v := v') (w' := W1) rfl (by kernel_rfl) (by rfl) (exec_append rfl rfl rfl hr1) (by go_simp; rfl) HS.low ?_
            obtain ⟨vo, vn, vc, rfl⟩ : ∃ vo vn vc, v' = .slice vo vn vc := by
              rcases hrow1.2 with ⟨rfl, -⟩ | ⟨g, cap, cur, rfl, -⟩
              · exact ⟨_, _, _, rfl⟩
              · exact ⟨_, _, _, rfl⟩
            refine HeldBy.take (i := 13) (v := .agg #[.string ⟨kb.toArray⟩, .slice vo vn vc]) rfl (by kernel_rfl) (by kernel_rfl) (by kernel_rfl) (fun _ _ _ h => h) (by rfl) (fun _ _ => by first | (unfold encS; go_simp; done) | (unfold encS; go_simp; rfl)) (by go_simp; rfl) HS.low ?_
            have hro2 := HS.alloc (.cells #[.string ⟨kb.toArray⟩, .slice vo vn vc] 66 (0, 0))
            have hrow2 := (ownsRow_base hrow1 hU).alloc (.cells #[.string ⟨kb.toArray⟩, .slice vo vn vc] 66 (0, 0))
            refine HeldBy.value (i := 14) (v := .slice (some ⟨W1.heap.size, 0, none⟩) 1 1) (w' := W1.alloc (.cells #[.string ⟨kb.toArray⟩, .slice vo vn vc] 66 (0, 0))) rfl (by kernel_rfl) (by rfl) (by go_simp) (by go_simp; rfl) hro2.low ?_
            obtain ⟨i0, hi, hz0, hz1, hz2⟩ := info_parts infoRT
            obtain ⟨v3, W3, hr3, hrow3, hg3, -⟩ := run_append_own (P := Try.prog) (w := W1.alloc (.cells #[.string ⟨kb.toArray⟩, .slice vo vn vc] 66 (0, 0))) w.heap.size 30 30 66 i0 _ 2 40 undRTs hi hz0 hz1 hz2 rfl (by decide) u6 O.length _ hro2.row ⟨W1.heap.size, 0, none⟩ 1 1 [.string ⟨kb.toArray⟩, .slice vo vn vc] rfl (cell_two_new _ _ _ _) (by simp [Value.oneCell']) (by simp only [maxLen]; omega) (by omega) hro2.low.size
            have hro3 : RD w v3 (O ++ [((kb, lb), Value.slice vo vn vc)]) W3 := RD.snoc ((kb, lb), Value.slice vo vn vc) hro2 hrow2 hrow3 hg3
            refine HeldBy.value (i := 15) (v := v3) (w' := W3) rfl (by kernel_rfl) (by rfl) (exec_append rfl rfl rfl hr3) (by go_simp; rfl) hro3.low ?_
            refine HeldBy.take (i := 16) rfl (by kernel_rfl) (by kernel_rfl) (by kernel_rfl) (fun _ _ _ h => h) (by rfl) (fun _ _ => by first | (go_simp; rfl) | (go_simp; done)) (by go_simp; rfl) hro3.low ?_
            refine wpAnyH_done (by kernel_rfl) ?_ _
            have HRd := Lib.hid hro3
            have hal2 : Hid (addR ((O ++ [((kb, lb), Value.slice vo vn vc)]).map Prod.fst) e (bothR ((A.drop i).map Prod.fst) ((B.drop (k + 1)).map Prod.fst)) = Q) := by
              show _ = _
              rw [← HAl.out, List.map_append]
              rw [HNil.out]
              exact addR_left.symm
            clear hr1 hrow1 hb1 hU HS hro2 hrow2 hr3 hrow3 hg3 hro3 HCb HAl
            go_wp2
            go_roundw
            case rel => exact ⟨i, k + 1, e, _, rfl, rfl, rfl, by omega, by omega, by rw [List.length_append]; simp; omega, HRd.out, hal2.out⟩
            case measure => simp [intOf]; omega
          · obtain rfl : k = NB := by omega
            have hnb : (B.drop k).map Prod.fst = [] := fst_drop_nil (by rw [← HNB.out]; exact Nat.le_refl _)
            rw [hnb, bothR_nil] at HAl
            have hq : Q = (O.map Prod.fst, e) := by rw [← HAl.out]; simp [addR]
            subst hq
            have hx := HN.out
            rw [List.length_map] at hx
            have HL := Lib.hid HRd.out.low
            have HT := Lib.hid HRd.out.terms
            obtain ⟨oo, oc, rfl⟩ := HT.out.shape
            have hOm := HT.out.len
            clear HRd HAl HN hnb
            obtain ⟨m, hm⟩ : ∃ m, m = O.length := ⟨_, rfl⟩
            rw [← hm] at hx HT hOm hO
            rw [← hm]
            clear hm
            cases e with
            | true =>
              rw [if_pos rfl] at hx
              subst hx
              go_wp2
              go_ret2
              exact RPost.fail HL.out
            | false =>
              rw [if_neg (by simp)] at hx
              by_cases h8 : 8 < m
              · rw [if_pos h8] at hx
                subst hx
                go_wp2
                go_ret2
                exact RPost.fail HL.out
              · rw [if_neg h8] at hx
                subst hx
                go_wp2
                go_ret2
                exact ⟨_, O, rfl, HT.out, rfl, HL.out⟩
end Go.Proofs.Ytneogmcmkbhnaaa.T
