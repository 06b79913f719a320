/- How a volume names its claim. -/
import Derived.Test.YtfpdchabknoklaaDoorKBorn
import Derived.Test.YtfpdchabknoklaaDoorHeldBy
namespace Go.Proofs.YtfpdchabknoklaaDoor.O.B
open Go Go.RowKit Go.Lib

def refN (o : Obj) : ByteArray := if 40 < 4 + (bornN o).size then E0 else bornN o
def pvc : ByteArray := ⟨#[112, 118, 99, 47]⟩
def handleN (o : Obj) : ByteArray := if refN o = E0 then E0 else pvc ++ refN o
theorem ref_size (o : Obj) : (refN o).size ≤ 36 := by
  unfold refN
  split
  · exact Nat.zero_le _
  · omega
theorem handle_size (o : Obj) : (handleN o).size ≤ 40 := by
  unfold handleN
  split
  · exact Nat.zero_le _
  · have := ref_size o
    rw [ByteArray.size_append]
    show 4 + _ ≤ 40
    omega

set_option maxRecDepth 100000 in
set_option maxHeartbeats 2000000 in
theorem ref_any (o : Obj) (w : World) (ht : Tab w) (hb : 0 ≤ o.born ∧ o.born ≤ 18446744073709551615) (hn : o.name.size ≤ 140737488351232) :
    Calls Tryd.prog 16 #[encO o] w fun e w' => e = .returned (.string (refN o)) ∧ Below w.heap.size w w' := by
  have HT := Lib.hid ht
  have HC := Lib.hid (fun V (hV : Tab V) => born_any o V hV hb hn)
  have hs : (bornN o).size ≤ 140737488351232 + 21 := by
    have := digs_size hb.1 hb.2
    rw [born_size]
    omega
  have hr : refN o = if 40 < 4 + (bornN o).size then E0 else bornN o := rfl
  rw [hr]
  clear ht hb hn hr
  generalize bornN o = s at *
  by_cases hl : 40 < 4 + s.size
  · rw [if_pos hl]
    have hl' : (40 : Int) < 4 + (s.size : Int) := by omega
    unfold encO
    go_enter Tryd.func16, Tryd.ntmps16
    go_upto_region 1 with (fail)
    refine wp_gen (fun V => BoxO V w.heap.size o ∧ Below w.heap.size w V ∧ Tab V) ⟨BoxO.new w o, (Below.refl _ _).alloc (Nat.le_refl _) _, HT.out.after ((Below.refl _ _).alloc (Nat.le_refl _) _)⟩ ?_
    clear HT
    rintro V ⟨hbx, hlw, ht⟩
    have HL := Lib.hid hlw
    have HN := Lib.hid (HC.out V ht)
    clear ht hlw HC
    go_wp2_with ((with_reducible refine wpList_load_obj ?_ rfl ?_ hbx ?_); rfl; rfl)
    refine HN.out.mono ?_
    rintro e W1 ⟨rfl, hb⟩
    have HF := Lib.hid (HL.out.trans (hb.mono HL.out.size))
    clear HN hbx hb HL
    go_wp2
    go_ret
    exact ⟨rfl, HF.out⟩
  · rw [if_neg hl]
    have hl' : ¬ (40 : Int) < 4 + (s.size : Int) := by omega
    unfold encO
    go_enter Tryd.func16, Tryd.ntmps16
    go_upto_region 1 with (fail)
    refine wp_gen (fun V => BoxO V w.heap.size o ∧ Below w.heap.size w V ∧ Tab V) ⟨BoxO.new w o, (Below.refl _ _).alloc (Nat.le_refl _) _, HT.out.after ((Below.refl _ _).alloc (Nat.le_refl _) _)⟩ ?_
    clear HT
    rintro V ⟨hbx, hlw, ht⟩
    have HL := Lib.hid hlw
    have HN := Lib.hid (HC.out V ht)
    clear ht hlw HC
    go_wp2_with ((with_reducible refine wpList_load_obj ?_ rfl ?_ hbx ?_); rfl; rfl)
    refine HN.out.mono ?_
    rintro e W1 ⟨rfl, hb⟩
    have HF := Lib.hid (HL.out.trans (hb.mono HL.out.size))
    clear HN hbx hb HL
    go_wp2
    go_ret
    exact ⟨rfl, HF.out⟩
set_option maxRecDepth 100000 in
set_option maxHeartbeats 2000000 in
theorem handle_any (o : Obj) (w : World) (ht : Tab w) (hb : 0 ≤ o.born ∧ o.born ≤ 18446744073709551615) (hn : o.name.size ≤ 140737488351232) :
    Calls Tryd.prog 17 #[encO o] w fun e w' => e = .returned (.string (handleN o)) ∧ Below w.heap.size w w' := by
  have HT := Lib.hid ht
  have HC := Lib.hid (fun V (hV : Tab V) => ref_any o V hV hb hn)
  have hs := ref_size o
  have hr : handleN o = if refN o = E0 then E0 else pvc ++ refN o := rfl
  rw [hr]
  clear ht hb hn hr
  generalize refN o = s at *
  by_cases hl : s = E0
  · rw [if_pos hl]
    have HE : Hid (E0 = ⟨#[]⟩) := rfl
    have hl' : s.toList = [] := (emp_iff s).2 hl
    clear hl
    unfold encO
    go_enter Tryd.func17, Tryd.ntmps17
    go_upto_region 1 with (fail)
    refine wp_gen (fun V => BoxO V w.heap.size o ∧ Below w.heap.size w V ∧ Tab V) ⟨BoxO.new w o, (Below.refl _ _).alloc (Nat.le_refl _) _, HT.out.after ((Below.refl _ _).alloc (Nat.le_refl _) _)⟩ ?_
    clear HT
    rintro V ⟨hbx, hlw, ht⟩
    have HL := Lib.hid hlw
    have HN := Lib.hid (HC.out V ht)
    clear ht hlw HC
    go_wp2_with ((with_reducible refine wpList_load_obj ?_ rfl ?_ hbx ?_); rfl; rfl)
    refine HN.out.mono ?_
    rintro e W1 ⟨rfl, hb⟩
    have HF := Lib.hid (HL.out.trans (hb.mono HL.out.size))
    clear HN hbx hb HL
    go_wp2
    go_ret
    exact ⟨rfl, HF.out⟩
  · rw [if_neg hl]
    have hl' : s.toList ≠ [] := fun e => hl ((emp_iff s).1 e)
    have hl2 : (s.toList == []) = false := by simpa using hl'
    have hl3 : s.toList.isEmpty = false := by simpa using hl'
    unfold encO pvc
    go_enter Tryd.func17, Tryd.ntmps17
    go_upto_region 1 with (fail)
    refine wp_gen (fun V => BoxO V w.heap.size o ∧ Below w.heap.size w V ∧ Tab V) ⟨BoxO.new w o, (Below.refl _ _).alloc (Nat.le_refl _) _, HT.out.after ((Below.refl _ _).alloc (Nat.le_refl _) _)⟩ ?_
    clear HT hl
    rintro V ⟨hbx, hlw, ht⟩
    have HL := Lib.hid hlw
    have HN := Lib.hid (HC.out V ht)
    clear ht hlw HC
    go_wp2_with ((with_reducible refine wpList_load_obj ?_ rfl ?_ hbx ?_); rfl; rfl)
    refine HN.out.mono ?_
    rintro e W1 ⟨rfl, hb⟩
    have HF := Lib.hid (HL.out.trans (hb.mono HL.out.size))
    clear HN hbx hb HL
    go_wp2
    go_ret
    exact ⟨rfl, HF.out⟩
end Go.Proofs.YtfpdchabknoklaaDoor.O.B
