/- The law TopoLabels: its walk. -/
import Derived.Test.YtneogmcmkbhnaaaTBack
namespace Go.Proofs.Ytneogmcmkbhnaaa.T
open Go.RowKit
open Go.Lib hiding intOf

/-- The terms that ask for labels as they are. -/
def justT (l : List LB) : List (List UInt8 × List (List UInt8)) := l.map fun x => (x.1, [x.2])
theorem word_alone {x : List UInt8} (h : wordB x = true) : printAll rdWord keyWord 124 [x] = some x := by
  have hp : Prints rdWord keyWord [x] := (prints_iff _ _).2 ⟨by simp, fun y hy => by
    obtain rfl : y = x := by simpa using hy
    rw [rdWord_some.2 ⟨h, rfl⟩]
    rfl, fun j hj => by simp at hj⟩
  rw [print_done _ _ hp.len hp.all]
  simp [texts, joinB, rdWord_some.2 ⟨h, rfl⟩]
theorem just_text (x : LB) (s : List UInt8) (h : prLabel x = some s) : prTerm (x.1, [x.2]) = some s := by
  unfold prLabel at h
  split at h
  · split at h
    · cases h
      unfold prTerm
      rw [if_pos ‹wordB x.1 = true›, if_neg (by simp), word_alone ‹wordB x.2 = true›]
      rfl
    · cases h
  · cases h
theorem just_print {l : List LB} {s : List UInt8} (h : printAll prLabel keyL 44 l = some s) : printAll prTerm keyT 44 (justT l) = some s := by
  obtain ⟨hp, rfl⟩ := print_some _ _ h
  obtain ⟨h1, h2, h3⟩ := (prints_iff _ _).1 hp
  have hq : Prints prTerm keyT (justT l) := by
    refine (prints_iff _ _).2 ⟨by unfold justT; rw [List.length_map]; exact h1, fun t ht => ?_, ?_⟩
    · obtain ⟨x, hx, rfl⟩ := List.mem_map.1 ht
      obtain ⟨s, hs⟩ := Option.isSome_iff_exists.1 (h2 x hx)
      rw [just_text x s hs]
      rfl
    · unfold justT
      intro j hj
      have := h3 j (by simpa using hj)
      rw [List.getElem_map, List.getElem_map]
      exact this
  rw [print_done _ _ hq.len hq.all]
  have : texts prTerm (justT l) = texts prLabel l := by
    unfold texts justT
    rw [List.map_map]
    refine List.map_congr_left fun x hx => ?_
    obtain ⟨s, hs⟩ := Option.isSome_iff_exists.1 (h2 x hx)
    show (prTerm (x.1, [x.2])).getD [] = (prLabel x).getD []
    rw [hs, just_text x s hs]
  rw [this]
theorem just_match (l : List LB) : matchB (justT l) l = true := by
  unfold matchB
  rw [List.all_eq_true]
  intro t ht
  obtain ⟨x, hx, rfl⟩ := List.mem_map.1 ht
  rw [List.any_eq_true]
  exact ⟨x, hx, by simp [askB]⟩

set_option maxRecDepth 100000 in
set_option maxHeartbeats 4000000 in
theorem topoLabels_any (v : Value) (l : List LB) (w : World) (hL : LabsIn w v l) :
    Calls Try.prog 5 #[v] w fun e w' => e = .returned (.bool true) ∧ Below w.heap.size w w' := by
  have HL := Lib.hid hL
  have hn := hL.len
  obtain ⟨p, d, rfl⟩ := hL.shape
  clear hL
  obtain ⟨M, hM⟩ : ∃ M, M = l.length := ⟨_, rfl⟩
  rw [← hM] at HL hn ⊢
  have HM := Lib.hid hM
  clear hM
  go_enter Try.func5, Try.ntmps5
  by_cases hM30 : M ≤ 30
  · go_wp2_with fail
    refine (printLabels_any _ l _ HL.out).mono ?_
    rintro e W1 ⟨hb, he⟩
    have HB := Lib.hid hb
    clear hb
    cases hp : printAll prLabel keyL 44 l with
    | none =>
      rw [hp] at he
      obtain rfl := he
      clear hp
      go_wp2_with fail
      refine (live_any _).mono ?_
      rintro e W2 ⟨rfl, hb⟩
      replace HB := Lib.hid (HB.out.trans (hb.mono HB.out.size))
      clear hb
      go_wp2_with (refine wpList_known (v := .bool true) rfl (exec_eqS [] rfl rfl rfl) ?_)
      go_ret
      exact ⟨rfl, HB.out⟩
    | some s =>
      rw [hp] at he
      obtain rfl := he
      have hz := text_len prLabel_size hp
      have h1 := labels_of_print hp
      have h2 := terms_of_print (just_print hp)
      have HQ := Lib.hid (fun W => labels_any s (by omega) W)
      rw [h1] at HQ
      have HR := Lib.hid (fun W => parse_any s (by omega) W)
      rw [h2] at HR
      clear hp hz h1 h2
      go_wp2_with fail
      refine (HQ.out _).mono ?_
      rintro e W2 ⟨hb, v2, rfl, hrow⟩
      replace HB := Lib.hid (HB.out.trans (hb.mono HB.out.size))
      have HL2 := Lib.hid (LabsIn.ofRow hrow)
      clear hb hrow HQ
      go_wp2_with fail
      refine (HR.out _).mono ?_
      rintro e W3 ⟨hb, v3, acc3, rfl, hacc, hrow, hvals⟩
      replace HB := Lib.hid (HB.out.trans (hb.mono HB.out.size))
      replace HL2 := Lib.hid (HL2.out.after hb)
      have HT := Lib.hid (TermsIn.ofRow hrow hvals)
      have hlen : acc3.length = M := by
        have := congrArg List.length hacc
        unfold justT at this
        rw [List.length_map, List.length_map] at this
        rw [this, HM.out]
      obtain ⟨o3, c3, rfl⟩ := HT.out.shape
      rw [hlen] at HT
      have HA := Lib.hid hacc
      rw [hlen]
      clear hb hrow hvals HR hacc hlen
      go_wp2_with fail
      refine (live_any _).mono ?_
      rintro e W4 ⟨rfl, hb⟩
      replace HB := Lib.hid (HB.out.trans (hb.mono HB.out.size))
      replace HL2 := Lib.hid (HL2.out.after hb)
      replace HT := Lib.hid (HT.out.after hb)
      clear hb
      go_wp2_with fail
      refine (sameLabels_any _ v2 l l W4 (HL.out.after HB.out) HL2.out).mono ?_
      rintro e W5 ⟨rfl, hb⟩
      rw [decide_eq_true (rfl : l = l)]
      replace HB := Lib.hid (HB.out.trans (hb.mono HB.out.size))
      replace HT := Lib.hid (HT.out.after hb)
      clear hb HL2
      go_wp2_with fail
      refine (match_any _ acc3 _ l W5 HT.out (HL.out.after HB.out)).mono ?_
      rintro e W6 ⟨rfl, hb⟩
      rw [HA.out, just_match]
      replace HB := Lib.hid (HB.out.trans (hb.mono HB.out.size))
      clear hb HT HA
      go_wp2
      go_ret
      exact ⟨rfl, HB.out⟩
  · go_wp2_with fail
    refine (live_any _).mono ?_
    rintro e W1 ⟨rfl, hb⟩
    have HB := Lib.hid hb
    clear hb
    go_wp2
    go_ret
    exact ⟨rfl, HB.out⟩
end Go.Proofs.Ytneogmcmkbhnaaa.T
