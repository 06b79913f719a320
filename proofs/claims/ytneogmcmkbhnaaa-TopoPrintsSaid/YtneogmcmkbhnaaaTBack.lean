/- The law TopoBack: its walk. Laid by mkback2.py. -/
import Derived.Test.YtneogmcmkbhnaaaTRound
import Derived.Test.YtneogmcmkbhnaaaTMatches
namespace Go.Proofs.Ytneogmcmkbhnaaa.T
open Go.RowKit
open Go.Lib hiding intOf

theorem joined_len {m : UInt8} {B : Nat} : ∀ {xs : List (List UInt8)}, (∀ x ∈ xs, x.length ≤ B) → (joinB m xs).length ≤ xs.length * (B + 1)
  | [], _ => by simp [joinB]
  | x :: r, h => by
    have hr : ∀ r : List (List UInt8), (∀ x ∈ r, x.length ≤ B) → (r.flatMap fun y => m :: y).length ≤ r.length * (B + 1) := fun r => by
      induction r with
      | nil => intro _; simp
      | cons y r ih =>
        intro h
        have h1 := ih fun z hz => h z (List.mem_cons_of_mem _ hz)
        have h2 := h y (by simp)
        rw [List.flatMap_cons, List.length_append, List.length_cons, List.length_cons, Nat.succ_mul]
        omega
    have h1 := hr r fun z hz => h z (List.mem_cons_of_mem _ hz)
    have h2 := h x (by simp)
    unfold joinB
    rw [List.length_append, List.length_cons, Nat.succ_mul]
    omega
theorem text_len {α : Type} {pr : α → Option (List UInt8)} {key : α → List UInt8} {m : UInt8} {l : List α} {s : List UInt8} (hz : ∀ x s, pr x = some s → s.length ≤ 399) (h : printAll pr key m l = some s) : s.length ≤ 3200 := by
  obtain ⟨hp, rfl⟩ := print_some _ _ h
  obtain ⟨h1, h2, -⟩ := (prints_iff _ _).1 hp
  have := joined_len (m := m) (B := 399) (xs := texts pr l) fun x hx => by
    obtain ⟨y, hy, rfl⟩ := List.mem_map.1 hx
    obtain ⟨s, hs⟩ := Option.isSome_iff_exists.1 (h2 y hy)
    rw [hs]
    exact hz y s hs
  have hl : (texts pr l).length = l.length := by unfold texts; rw [List.length_map]
  rw [hl] at this
  omega
theorem exec_eqS {W : World} {oi : Oper} {c : Act} {x y : Operand} {t : TypeId} (a : List UInt8) (ho : oi.op = .binOp .eql t x y t) (hx : c.eval x = encS a) (hy : c.eval y = encS a) : (execOp c.eval oi).run Try.prog W = .ok (.value (.bool true)) W := by
  have h5 : (eqGuard .eql t x y (encS a) (encS a)).run Try.prog W = .ok () W := rfl
  have h4 : binOp .eql t (encS a) (encS a) = pure (.bool true) := by rw [eql_any]; simp
  unfold execOp
  simp only [ho, hx, hy, Sem.run_bind, h5, Result.andThen_ok, h4, Sem.run_pure]

set_option maxRecDepth 100000 in
set_option maxHeartbeats 4000000 in
theorem topoBack_any (sel : Value) (acc : List TB) (s : List UInt8) (hs : s.length ≤ 9223372036854775807) (w : World) (hT : TermsIn w sel acc) :
    Calls Try.prog 4 #[sel, encS s] w fun e w' => e = .returned (.bool true) ∧ Below w.heap.size w w' := by
  have HT := Lib.hid hT
  have HP := Lib.hid (fun W => parse_any s hs W)
  have HSp := Lib.hid (fun ts (h : termsOf s = some ts) => print_of_terms h)
  obtain ⟨r, hr⟩ : ∃ r, termsOf s = r := ⟨_, rfl⟩
  rw [hr] at HP HSp
  clear hT hr hs
  go_enter Try.func4, Try.ntmps4
  go_wp2_with fail
  refine (small_any sel acc _ HT.out).mono ?_
  rintro e W1 ⟨rfl, rfl⟩
  cases hsm : smallB acc with
  | false =>
    clear hsm
    go_wp2_with fail
    refine (live_any _).mono ?_
    rintro e W1 ⟨rfl, hb⟩
    have HB := Lib.hid hb
    clear hb
    go_wp2
    go_ret
    exact ⟨rfl, HB.out⟩
  | true =>
    clear hsm
    go_wp2_with fail
    refine (print_any sel acc _ HT.out).mono ?_
    rintro e W2 ⟨hb, he⟩
    have HB := Lib.hid hb
    clear hb
    cases hp : printAll prT kyT 44 acc with
    | none =>
      rw [hp] at he
      obtain rfl := he
      clear hp
      go_wp2_with fail
      refine (HP.out _).mono ?_
      rintro e V1 ⟨hb, he⟩
      replace HB := Lib.hid (HB.out.trans (hb.mono HB.out.size))
      clear hb
      cases r with
      | none =>
        obtain rfl := he
        clear HP HSp
        go_wp2_with fail
        refine (live_any _).mono ?_
        rintro e V2 ⟨rfl, hb⟩
        replace HB := Lib.hid (HB.out.trans (hb.mono HB.out.size))
        clear hb
        go_wp2
        go_ret
        exact ⟨rfl, HB.out⟩
      | some ts =>
        obtain ⟨v5, acc5, rfl, hacc, hrow, hvals⟩ := he
        have hT5 := TermsIn.ofRow hrow hvals
        have hp5 : printAll prT kyT 44 acc5 = some s := by rw [printAll_fst, hacc]; exact HSp.out ts rfl
        have HC5 := Lib.hid (print_any v5 acc5 V1 hT5)
        rw [hp5] at HC5
        clear hrow hvals hT5 hp5 hacc HP HSp
        go_wp2_with fail
        refine HC5.out.mono ?_
        rintro e V2 ⟨hb, rfl⟩
        replace HB := Lib.hid (HB.out.trans (hb.mono HB.out.size))
        clear hb HC5
        go_wp2_with fail
        refine (live_any _).mono ?_
        rintro e V3 ⟨rfl, hb⟩
        replace HB := Lib.hid (HB.out.trans (hb.mono HB.out.size))
        clear hb
        go_wp2_with (refine wpList_known (v := .bool true) rfl (exec_eqS s rfl rfl rfl) ?_)
        go_ret
        exact ⟨rfl, HB.out⟩
    | some t =>
      rw [hp] at he
      obtain rfl := he
      have hz := text_len prT_size hp
      have hts : termsOf t = some (acc.map Prod.fst) := terms_of_print (by rw [← printAll_fst]; exact hp)
      have HQ := Lib.hid (parse_any t (by omega) W2)
      rw [hts] at HQ
      clear hp hz hts
      go_wp2_with fail
      refine HQ.out.mono ?_
      rintro e W3 ⟨hb, v3, acc3, rfl, hacc, hrow, hvals⟩
      have hT3 := TermsIn.ofRow hrow hvals
      replace HB := Lib.hid (HB.out.trans (hb.mono HB.out.size))
      clear hb hrow hvals HQ
      go_wp2_with fail
      refine (sameTerms_any sel v3 acc acc3 W3 (HT.out.after HB.out) hT3).mono ?_
      rintro e W4 ⟨rfl, hb⟩
      rw [decide_eq_true hacc.symm]
      replace HB := Lib.hid (HB.out.trans (hb.mono HB.out.size))
      clear hb hT3 hacc
      go_wp2_with fail
      refine (HP.out _).mono ?_
      rintro e V1 ⟨hb, he⟩
      replace HB := Lib.hid (HB.out.trans (hb.mono HB.out.size))
      clear hb
      cases r with
      | none =>
        obtain rfl := he
        clear HP HSp
        go_wp2_with fail
        refine (live_any _).mono ?_
        rintro e V2 ⟨rfl, hb⟩
        replace HB := Lib.hid (HB.out.trans (hb.mono HB.out.size))
        clear hb
        go_wp2
        go_ret
        exact ⟨rfl, HB.out⟩
      | some ts =>
        obtain ⟨v5, acc5, rfl, hacc, hrow, hvals⟩ := he
        have hT5 := TermsIn.ofRow hrow hvals
        have hp5 : printAll prT kyT 44 acc5 = some s := by rw [printAll_fst, hacc]; exact HSp.out ts rfl
        have HC5 := Lib.hid (print_any v5 acc5 V1 hT5)
        rw [hp5] at HC5
        clear hrow hvals hT5 hp5 hacc HP HSp
        go_wp2_with fail
        refine HC5.out.mono ?_
        rintro e V2 ⟨hb, rfl⟩
        replace HB := Lib.hid (HB.out.trans (hb.mono HB.out.size))
        clear hb HC5
        go_wp2_with fail
        refine (live_any _).mono ?_
        rintro e V3 ⟨rfl, hb⟩
        replace HB := Lib.hid (HB.out.trans (hb.mono HB.out.size))
        clear hb
        go_wp2_with (refine wpList_known (v := .bool true) rfl (exec_eqS s rfl rfl rfl) ?_)
        go_ret
        exact ⟨rfl, HB.out⟩
theorem topoBack_str (sel : Value) (acc : List TB) (s : ByteArray) (hs : s.size ≤ 140737488351232) (w : World) (hT : TermsIn w sel acc) :
    Calls Try.prog 4 #[sel, .string s] w fun e w' => e = .returned (.bool true) ∧ Below w.heap.size w w' := by
  have h := topoBack_any sel acc s.data.toList (by have : s.data.toList.length = s.size := rfl; omega) w hT
  rwa [encS_self] at h
end Go.Proofs.Ytneogmcmkbhnaaa.T
