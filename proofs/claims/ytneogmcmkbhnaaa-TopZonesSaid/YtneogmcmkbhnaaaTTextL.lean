/- topo.readList at labels, in plain; topo.readText at labels; topo.Labels. -/
import Derived.Test.YtneogmcmkbhnaaaTReadLabels
namespace Go.Proofs.Ytneogmcmkbhnaaa.T
open Go.RowKit Go.Lib

theorem foldlM_congr {α β : Type} {f g : β → α → Option β} : ∀ (l : List α) (b : β), (∀ b, ∀ x ∈ l, f b x = g b x) → l.foldlM f b = l.foldlM g b
  | [], _, _ => rfl
  | x :: l, b, h => by
    rw [List.foldlM_cons, List.foldlM_cons, h b x (List.mem_cons_self ..)]
    cases g b x with
    | none => rfl
    | some b' => exact foldlM_congr l b' fun b y hy => h b y (List.mem_cons_of_mem _ hy)
theorem readAll_tk {l : List UInt8} (hl : l.length ≤ 9223372036854775807) (m : UInt8) : readAll rdT keyL (splitOn m l) = readAll rdLabel keyL (splitOn m l) := by
  unfold readAll
  refine foldlM_congr _ _ fun acc p hp => ?_
  unfold step rdT
  rw [tk_eq (Nat.le_trans (splitOn_le m l p hp) hl)]
theorem readLabels_any (l : List UInt8) (hl : l.length ≤ 9223372036854775807) (m : UInt8) (hm : m.toNat < 128) (n : Int) (hn : n = m.toNat) (w : World) :
    Calls Try.prog 66 #[encS l, .int .i32 n, .int .i64 8, .func (.func 45) #[] #[], .func (.func 37) #[] #[]] w
      (LabelsPost w (readAll rdLabel keyL (splitOn m l))) := by
  rw [← readAll_tk hl]
  obtain ⟨s, rfl⟩ : ∃ s : ByteArray, l = s.data.toList := ⟨⟨l.toArray⟩, rfl⟩
  rw [encS_self, hn]
  exact callsIn_wide.1 (readLabelsT_in s (by rw [← size_list]; exact hl) m hm w)

/-- What a text says as labels. -/
def labelsOf (l : List UInt8) : Option (List LB) := if l = [] then some [] else readAll rdLabel keyL (splitOn 44 l)
def LabelsAre (w : World) (r : Option (List LB)) (e : Ending) (W' : World) : Prop := Below w.heap.size w W' ∧ match r with
  | none => e = .returned (.tuple #[.slice none 0 0, .int .i64 2])
  | some acc => ∃ v, e = .returned (.tuple #[v, .int .i64 0]) ∧ W'.ownsRow w.heap.size 70 2 v acc.length (encLs acc)

set_option maxRecDepth 100000 in
set_option maxHeartbeats 1000000 in
theorem readTextL_any (l : List UInt8) (hl : l.length ≤ 9223372036854775807) (w : World) :
    Calls Try.prog 44 #[encS l, .func (.func 45) #[] #[], .func (.func 37) #[] #[]] w (LabelsAre w (labelsOf l)) := by
  cases l with
  | nil =>
    have HF : Hid (LabelsAre w (labelsOf []) (.returned (.tuple #[.slice none 0 0, .int .i64 0])) w) := ⟨Below.refl _ _, _, rfl, World.ownsRow_nil _ _ _ _⟩
    unfold encS
    go_enter Try.func44, Try.ntmps44
    go_wp2
    go_ret2
    exact HF.out
  | cons c l2 =>
    have HR : Hid (labelsOf (c :: l2) = readAll rdLabel keyL (splitOn 44 (c :: l2))) := if_neg (by simp)
    have hne : (⟨(c :: l2).toArray⟩ : ByteArray).toList.isEmpty = false := by rw [Lib.toList_data]; rfl
    generalize c :: l2 = l at *
    have h0 := readLabels_any l hl 44 (by decide) 44 rfl
    obtain ⟨R, hR⟩ : ∃ R, labelsOf l = R := ⟨_, rfl⟩
    rw [hR]
    rw [show readAll rdLabel keyL (splitOn 44 l) = R from HR.out.symm.trans hR] at h0
    clear HR hR hl
    unfold encS at *
    generalize (⟨l.toArray⟩ : ByteArray) = S at *
    have H0 := Lib.hid h0
    clear h0
    go_enter Try.func44, Try.ntmps44
    go_wp2_with fail
    refine (H0.out _).mono ?_
    rintro e W1 ⟨hb, hr⟩
    cases R with
    | none =>
      obtain rfl := hr
      have HF : Hid (LabelsAre w none (.returned (.tuple #[.slice none 0 0, .int .i64 2])) W1) := ⟨hb, rfl⟩
      clear hb H0
      go_wp2
      go_ret2
      exact HF.out
    | some acc =>
      obtain ⟨v, rfl, hrow⟩ := hr
      have HF : Hid (LabelsAre w (some acc) (.returned (.tuple #[v, .int .i64 0])) W1) := ⟨hb, v, rfl, ownsRow_base hrow (by omega)⟩
      clear hb H0 hrow
      go_wp2
      go_ret2
      exact HF.out
theorem labels_any (l : List UInt8) (hl : l.length ≤ 9223372036854775807) (w : World) :
    Calls Try.prog 21 #[encS l] w (LabelsAre w (labelsOf l)) := by
  have H := Lib.hid (readTextL_any l hl)
  go_enter Try.func21, Try.ntmps21
  go_wp2_with fail
  refine (H.out _).mono ?_
  rintro e W1 ⟨hb, hr⟩
  cases hR : labelsOf l with
  | none =>
    rw [hR] at hr
    obtain rfl := hr
    have HF : Hid (LabelsAre w none (.returned (.tuple #[.slice none 0 0, .int .i64 2])) W1) := ⟨hb, rfl⟩
    clear hb H
    go_wp2
    go_ret2
    rw [hR]
    exact HF.out
  | some acc =>
    rw [hR] at hr
    obtain ⟨v, rfl, hrow⟩ := hr
    have HF : Hid (LabelsAre w (some acc) (.returned (.tuple #[v, .int .i64 0])) W1) := ⟨hb, v, rfl, hrow⟩
    clear hb H hrow
    go_wp2
    go_ret2
    rw [hR]
    exact HF.out
end Go.Proofs.Ytneogmcmkbhnaaa.T
