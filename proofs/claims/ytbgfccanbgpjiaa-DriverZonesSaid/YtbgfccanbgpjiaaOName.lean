/- object.Name, object.nameRune, and the document's own Name, maybe, plain. -/
import Derived.Test.YtbgfccanbgpjiaaTWord
import Derived.Test.YtbgfccanbgpjiaaOMath
import Derived.Laws.Runes
namespace Go.Proofs.Ytbgfccanbgpjiaa.O
open Go.RowKit Go.Lib T

/-- The bytes of a rune as a text: is it a word? -/
theorem encode_low {r : Int} (h0 : 0 ≤ r) (h : r < 128) : Utf8.encode r = ⟨#[UInt8.ofNat r.toNat]⟩ := by
  have hv : Utf8.valid r = true := by unfold Utf8.valid; simp; omega
  have hc : r.toNat < 128 := by omega
  unfold Utf8.encode
  simp only [hv, if_true, hc]
theorem wordB_one (c : UInt8) : wordB [c] = isW c := by simp [wordB]
theorem isW_high {c : UInt8} (h : 128 ≤ c.toNat) : isW c = false := by
  unfold isW
  simp only [Bool.or_eq_false_iff, Bool.and_eq_false_iff, decide_eq_false_iff_not]
  omega
theorem wordB_high {l : List UInt8} {c : UInt8} (hm : c ∈ l) (hc : 128 ≤ c.toNat) : wordB l = false := by
  unfold wordB
  rw [Bool.and_eq_false_iff]
  exact .inr (List.all_eq_false.2 ⟨c, hm, by rw [isW_high hc]; simp⟩)
theorem encode_high {r : Int} (h : 128 ≤ r) : wordB (Utf8.encode r).data.toList = false := by
  by_cases hv : Utf8.valid r = true
  · obtain ⟨h1, -, h3⟩ := encode_facts r hv h
    have hlt : (Utf8.encode r).size - 1 < (Utf8.encode r).size := by omega
    exact wordB_high (c := (Utf8.encode r)[(Utf8.encode r).size - 1]'hlt) (by rw [← get_list _ _ hlt]; exact List.getElem_mem _) (h3 hlt)
  · have e : Utf8.encode r = ⟨#[239, 191, 189]⟩ := by
      have hv' : Utf8.valid r = false := by simpa using hv
      unfold Utf8.encode
      simp only [hv', Bool.false_eq_true, if_false, Utf8.runeError]
      decide
    rw [e]; rfl

/-- May a rune stand in a name? -/
def nrB (r : Int) : Bool := decide (r < 128) && isN (UInt8.ofNat r.toNat)

set_option maxHeartbeats 400000 in
theorem nameRune_any (r : Int) (w : World) (h0 : 0 ≤ r) :
    Calls Try.prog 60 #[.int .i32 r] w fun e w' => e = .returned (.bool (nrB r)) ∧ Below w.heap.size w w' := by
  by_cases hl : r < 128
  · obtain ⟨c, rfl⟩ : ∃ c : UInt8, r = (c.toNat : Int) := ⟨UInt8.ofNat r.toNat, by simp; omega⟩
    have hc : c.toNat < 128 := by omega
    have hN : Hid (nrB (c.toNat : Int) = isN c) := by
      show _ = _
      unfold nrB
      rw [show decide ((c.toNat : Int) < 128) = true by simp; omega]
      simp
    by_cases e46 : c = 46
    · subst e46
      go_enter Try.func60, Try.ntmps60
      go_wp2
      go_ret
      exact ⟨ret_bool (by rw [hN.out]; decide), Below.refl _ _⟩
    by_cases e35 : c = 35
    · subst e35
      go_enter Try.func60, Try.ntmps60
      go_wp2
      go_ret
      exact ⟨ret_bool (by rw [hN.out]; decide), Below.refl _ _⟩
    by_cases e47 : c = 47
    · subst e47
      go_enter Try.func60, Try.ntmps60
      go_wp2
      go_ret
      exact ⟨ret_bool (by rw [hN.out]; decide), Below.refl _ _⟩
    have n46 : ((c.toNat : Int) == 46) = false := by simp only [beq_eq_false_iff_ne]; intro e; exact e46 (UInt8.toNat_inj.1 (by simp; omega))
    have n35 : ((c.toNat : Int) == 35) = false := by simp only [beq_eq_false_iff_ne]; intro e; exact e35 (UInt8.toNat_inj.1 (by simp; omega))
    have n47 : ((c.toNat : Int) == 47) = false := by simp only [beq_eq_false_iff_ne]; intro e; exact e47 (UInt8.toNat_inj.1 (by simp; omega))
    have hE : Hid (wordB (Utf8.encode (c.toNat : Int)).data.toList = isW c) := by
      show _ = _
      rw [encode_low (by omega) hl]
      show wordB [UInt8.ofNat c.toNat] = _
      rw [wordB_one]; simp
    have hF : Hid (isN c = isW c) := by
      show _ = _
      unfold isN
      have : decide (c.toNat = 46) = false ∧ decide (c.toNat = 35) = false ∧ decide (c.toNat = 47) = false := by
        refine ⟨?_, ?_, ?_⟩
        · simp only [beq_eq_false_iff_ne] at n46; simp; omega
        · simp only [beq_eq_false_iff_ne] at n35; simp; omega
        · simp only [beq_eq_false_iff_ne] at n47; simp; omega
      rw [this.1, this.2.1, this.2.2]; simp
    clear e46 e35 e47
    go_enter Try.func60, Try.ntmps60
    go_wp2_with fail
    refine (word_any _ _).mono ?_
    rintro e w1 ⟨rfl, hb⟩
    rw [hE.out]
    go_wp2
    go_ret
    exact ⟨ret_bool (by rw [hN.out, hF.out]), hb⟩
  · have hN : Hid (nrB r = false) := by show _ = _; unfold nrB; rw [show decide (r < 128) = false by simp; omega]; rfl
    have hE := Lib.hid (encode_high (r := r) (by omega))
    have n46 : (r == 46) = false := by simp only [beq_eq_false_iff_ne]; omega
    have n35 : (r == 35) = false := by simp only [beq_eq_false_iff_ne]; omega
    have n47 : (r == 47) = false := by simp only [beq_eq_false_iff_ne]; omega
    clear hl
    go_enter Try.func60, Try.ntmps60
    go_wp2_with fail
    refine (word_any _ _).mono ?_
    rintro e w1 ⟨rfl, hb⟩
    rw [hE.out]
    go_wp2
    go_ret
    exact ⟨ret_bool hN.out.symm, hb⟩
end Go.Proofs.Ytbgfccanbgpjiaa.O
