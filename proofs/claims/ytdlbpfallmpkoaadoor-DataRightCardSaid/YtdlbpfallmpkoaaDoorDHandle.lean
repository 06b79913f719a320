/- What a snapshot is called at the driver. -/
import Derived.Test.YtdlbpfallmpkoaaDoorKSnap
namespace Go.Proofs.YtdlbpfallmpkoaaDoor.O.B
open Go Go.RowKit Go.Lib

set_option maxRecDepth 100000 in
set_option maxHeartbeats 2000000 in
theorem handleD_any (o : Obj) (w : World) (ht : Tab w) (hb : 0 ≤ o.born ∧ o.born ≤ 18446744073709551615) (hn : o.name.size ≤ 140737488351232) :
    Calls Tryd.prog 39 #[encO o] w fun e w' => e = .returned (.string (handleD o)) ∧ Below w.heap.size w w' := by
  have HT := Lib.hid ht
  have HC := Lib.hid (fun V (hV : Tab V) => snap_any o V hV hb hn)
  have hs : (snapN o).size ≤ 140737488351232 + 26 := by
    have := digs_size hb.1 hb.2
    rw [snap_size, born_size]
    omega
  have hr : handleD o = if 40 < (snapN o).size then E0 else snapN o := rfl
  rw [hr]
  clear ht hb hn hr
  generalize snapN o = s at *
  by_cases hl : 40 < s.size
  · rw [if_pos hl]
    have hl' : (40 : Int) < (s.size : Int) := by omega
    unfold encO
    go_enter Tryd.func39, Tryd.ntmps39
    go_upto_region 1 with (fail)
    refine wp_gen (fun V => BoxO V w.heap.size o ∧ Below w.heap.size w V ∧ Tab V) ⟨BoxO.new w o, (Below.refl _ _).alloc (Nat.le_refl _) _, HT.out.after ((Below.refl _ _).alloc (Nat.le_refl _) _)⟩ ?_
    clear HT
    rintro V ⟨hbx, hlw, ht⟩
    have HL := Lib.hid hlw
    have HN := Lib.hid (HC.out V ht)
    clear ht hlw HC
    go_wp2_with ((with_reducible refine wpList_load_obj ?_ rfl ?_ hbx ?_); rfl; rfl)
    refine HN.out.mono ?_
    rintro e W1 ⟨rfl, hb⟩
    have HF := Lib.hid (HL.out.trans (hb.mono HL.out.size))
    clear HN hbx hb HL
    go_wp2
    go_ret
    exact ⟨rfl, HF.out⟩
  · rw [if_neg hl]
    have hl' : ¬ (40 : Int) < (s.size : Int) := by omega
    unfold encO
    go_enter Tryd.func39, Tryd.ntmps39
    go_upto_region 1 with (fail)
    refine wp_gen (fun V => BoxO V w.heap.size o ∧ Below w.heap.size w V ∧ Tab V) ⟨BoxO.new w o, (Below.refl _ _).alloc (Nat.le_refl _) _, HT.out.after ((Below.refl _ _).alloc (Nat.le_refl _) _)⟩ ?_
    clear HT
    rintro V ⟨hbx, hlw, ht⟩
    have HL := Lib.hid hlw
    have HN := Lib.hid (HC.out V ht)
    clear ht hlw HC
    go_wp2_with ((with_reducible refine wpList_load_obj ?_ rfl ?_ hbx ?_); rfl; rfl)
    refine HN.out.mono ?_
    rintro e W1 ⟨rfl, hb⟩
    have HF := Lib.hid (HL.out.trans (hb.mono HL.out.size))
    clear HN hbx hb HL
    go_wp2
    go_ret
    exact ⟨rfl, HF.out⟩
end Go.Proofs.YtdlbpfallmpkoaaDoor.O.B
