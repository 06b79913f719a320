/- The iterator over volumes in the order of their names: none. -/
import Derived.Test.YtbgfccanbgpjiaaISeqN
namespace Go.Proofs.Ytbgfccanbgpjiaa.O.I
open Go Go.RowKit Go.Lib Go.Shelf RangeMap KM
attribute [local go_sem] Oper.semAt_some

theorem sorted_none (mb : Nat) (W : World) (hm : IsMap encS W mb []) : CallsIn Fence.wide 5 Try.prog 45 #[.func (.func 80) #[] #[.pointer (some ⟨W.heap.size, 0, none⟩)]] (W.alloc (.cells #[.map (some mb)] tV)) fun e W2 => e = .returned (.slice none 0 0) ∧ Below W.heap.size W W2 := by
  have hown : W.ownsMap Try.prog 9 (fun _ => some ((DataW.nil : DataW Unit), [])) mb 0 (.map []) := by
    obtain ⟨es, clock, hb, hh⟩ := hm
    obtain ⟨l⟩ := es
    cases l with
    | cons e r => unfold Holds at hh; simp at hh
    | nil => exact ⟨#[], clock, hb, ⟨by simp, MapKept.stamped_empty clock, by simp⟩, Nat.le_refl _, rfl⟩
  refine (Try.slices_Sorted_keys_45_62 mb 0 _ _ W hown (by show 0 ≤ maxLen; omega) (by show 0 * 16 ≤ 140737488355328; omega)).mono ?_
  rintro e W2 ⟨v, ss, rfl, hS, -, hnil, hb⟩
  have hss : ss = [] := List.perm_nil.1 hS
  exact ⟨by rw [hnil.2 hss], ((Below.refl _ _).alloc (Nat.le_refl _) _).trans (hb.mono (by simp))⟩
set_option maxRecDepth 100000 in
set_option maxHeartbeats 2000000 in
theorem vols_seq0 (n : Nat) (hn : n = 6) (b mb lo hi : Nat) (w : World) (hbox : Boxed w b tV (.map (some mb))) (hm : IsMap encS w mb []) :
    Seq Fence.wide n Try.prog 61 #[.pointer (some ⟨b, 0, none⟩)] (encM []) lo hi (Whole []) (Part []) 0 w := fun L0 J Jx W hW hL hLW hJ hJx hY h0 => by
  have hmW : IsMap encS W mb [] := hm.after hW
  have hboxW : Boxed W b tV (.map (some mb)) := (hW.block b hbox.lt).trans hbox
  have H0 := Lib.hid h0
  have HJ := Lib.hid hJ
  have b1 := hboxW.cell
  have HMK : Hid (∀ w, CallsIn Fence.wide (n - 1) Try.prog 62 #[.map (some mb)] w fun e w' => e = .returned (.func (.func 80) #[] #[.pointer (some ⟨w.heap.size, 0, none⟩)]) ∧ w' = w.alloc (.cells #[.map (some mb)] tV)) := by
    subst hn
    exact fun w => Try.maps_Keys_62 _ _
  have HSO : Hid (CallsIn Fence.wide (n - 1) Try.prog 45 #[.func (.func 80) #[] #[.pointer (some ⟨W.heap.size, 0, none⟩)]] (W.alloc (.cells #[.map (some mb)] tV)) fun e W2 => e = .returned (.slice none 0 0) ∧ Below W.heap.size W W2) := by
    subst hn
    exact sorted_none mb W hmW
  clear hn hbox hm hW hL hLW hJ hJx hY h0 hmW hboxW
  refine callsIn_of_wp Try.func61 rfl trivial ?_ rfl
  simp only [Try.ntmps61, List.size_toArray, List.length_cons, List.length_nil, Nat.reduceAdd, Nat.reduceSub, Array.replicate_succ, Array.replicate_zero, List.push_toArray, List.append_toArray, List.nil_append, List.cons_append]
  gi_wp2_with fail
  refine ⟨trivial, fun h => (by cases h), (HMK.out _).mono ?_⟩
  rintro e w' ⟨rfl, rfl⟩
  gi_wp2_with fail
  refine ⟨trivial, fun h => (by cases h), HSO.out.mono ?_⟩
  rintro e W2 ⟨rfl, hW2⟩
  have HG : Hid (J [] W2) := own_below HJ.out H0.out hW2
  clear hW2 HMK HSO H0 b1
  gi_wp2
  gi_loopw [9] (fun iv wr => iv = .int .i64 0 ∧ J [] wr) (fun _ _ => 0)
  case atStart => exact ⟨rfl, HG.out⟩
  case round =>
    clear HG
    obtain ⟨rfl, hat⟩ := hrel
    have HJ2 := Lib.hid hat
    clear hat
    gi_wp2
    go_end0
    exact ⟨⟨_, rfl⟩, .inl ⟨[], ⟨[], List.Perm.refl _, by simp⟩, HJ2.out⟩⟩
end Go.Proofs.Ytbgfccanbgpjiaa.O.I
