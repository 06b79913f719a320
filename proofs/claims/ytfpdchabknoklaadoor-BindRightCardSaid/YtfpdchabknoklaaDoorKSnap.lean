/- What a snapshot is called. -/
import Derived.Test.YtfpdchabknoklaaDoorDPlain
namespace Go.Proofs.YtfpdchabknoklaaDoor.O.B
open Go Go.RowKit Go.Lib

theorem snap_size (o : Obj) : (snapN o).size = 5 + (bornN o).size := by
  unfold snapN
  rw [ByteArray.size_append]
  rfl
theorem handleD_size (o : Obj) : (handleD o).size ≤ 40 := by
  unfold handleD
  split
  · exact Nat.zero_le _
  · omega

set_option maxRecDepth 100000 in
set_option maxHeartbeats 2000000 in
theorem snap_any (o : Obj) (w : World) (ht : Tab w) (hb : 0 ≤ o.born ∧ o.born ≤ 18446744073709551615) (hn : o.name.size ≤ 140737488351232) :
    Calls Tryd.prog 62 #[encO o] w fun e w' => e = .returned (.string (snapN o)) ∧ Below w.heap.size w w' := by
  have HT := Lib.hid ht
  have HC := Lib.hid (fun V (hV : Tab V) => born_any o V hV hb hn)
  have hs : (bornN o).size ≤ 140737488351232 + 21 := by
    have := digs_size hb.1 hb.2
    rw [born_size]
    omega
  have hr : snapN o = snapP ++ bornN o := rfl
  rw [hr]
  clear ht hb hn hr
  generalize bornN o = s at *
  unfold encO snapP
  go_enter Tryd.func62, Tryd.ntmps62
  go_upto_region 1 with (fail)
  refine wp_gen (fun V => BoxO V w.heap.size o ∧ Below w.heap.size w V ∧ Tab V) ⟨BoxO.new w o, (Below.refl _ _).alloc (Nat.le_refl _) _, HT.out.after ((Below.refl _ _).alloc (Nat.le_refl _) _)⟩ ?_
  clear HT
  rintro V ⟨hbx, hlw, ht⟩
  have HL := Lib.hid hlw
  have HN := Lib.hid (HC.out V ht)
  clear ht hlw HC
  go_wp2_with ((with_reducible refine wpList_load_obj ?_ rfl ?_ hbx ?_); rfl; rfl)
  refine HN.out.mono ?_
  rintro e W1 ⟨rfl, hb⟩
  have HF := Lib.hid (HL.out.trans (hb.mono HL.out.size))
  clear HN hbx hb HL
  go_wp2
  go_ret
  exact ⟨rfl, HF.out⟩
end Go.Proofs.YtfpdchabknoklaaDoor.O.B
