/- What is performed of a call of publishing: of any driver that has the volume. -/
import Derived.Test.YtbgfccanbgpjiaaIUnpub
namespace Go.Proofs.Ytbgfccanbgpjiaa.O.I
open Go Go.RowKit Go.Lib KM
attribute [local go_sem] Oper.semAt_some

/-- A volume's nodes behind a call of publishing. -/
def nodesM (c : Cl) (M : List (ByteArray × Value)) : List (ByteArray × Value) := if c.verb = 3 then KM.put c.node (.agg #[]) M else KM.del c.node M
def PubA (m : Nat) (c : Cl) (M : List (ByteArray × Value)) (w : World) (e : Ending) (w' : World) : Prop := e = .returned (encR zeroR) ∧ IsMap encS w' m (nodesM c M) ∧ Stamp w' m ∧ Only m w w'
theorem Only.after {m : Nat} {a b c : World} (h : Only m b c) (hb : Below a.heap.size a b) : Only m a c :=
  ⟨fun g hg hgm => (h.1 g (by have := hb.size; omega) hgm).trans (hb.block g hg), fun B h1 h2 => (hb.mono h2).trans (h.2 B h1 (by have := hb.size; omega))⟩

set_option maxRecDepth 100000 in
set_option maxHeartbeats 4000000 in
theorem perform_pub (d r v s n m : Nat) (Ro Vo So : List (ByteArray × Value)) (No : List (Tg × Value)) (c : Cl) (x : Vl) (M : List (ByteArray × Value)) (w : World)
    (hd : DrAt w d r v s n Ro Vo So No) (hv : c.verb = 3 ∨ c.verb = 4) (hV : KM.get c.target Vo = some (encV x)) (hx : x.nodes = some m) (hm : IsMap encS w m M) (hst : Stamp w m) :
    Calls Try.prog 50 #[.pointer (some ⟨d, 0, none⟩), encC c] w (PubA m c M w) := by
  have HP := Lib.hid (fun V (h1 : DrAt V d r v s n Ro Vo So No) (h2 : IsMap encS V m M) (h3 : Stamp V m) => publish_ok d r v s n m Ro Vo So No c.target c.node x M V h1 hV hx h2 h3)
  have HU := Lib.hid (fun V (h1 : DrAt V d r v s n Ro Vo So No) (h2 : IsMap encS V m M) (h3 : Stamp V m) => unpublish_ok d r v s n m Ro Vo So No c.target c.node x M V h1 hV hx h2 h3)
  have HD := Lib.hid hd
  have HM := Lib.hid hm
  have HS := Lib.hid hst
  have HLT := Lib.hid hm.lt
  have HN : Hid (PubA m c M w = fun e w' => e = .returned (encR zeroR) ∧ IsMap encS w' m (nodesM c M) ∧ Stamp w' m ∧ Only m w w') := rfl
  rw [HN.out]
  clear hd hV hx hm hst HN
  rw [show encC c = .agg (cellsC c) from rfl]
  go_enter Try.func50, Try.ntmps50
  go_upto_region 1 with (fail)
  refine wp_gen (fun V => BoxC V w.heap.size c ∧ BoxR V (w.heap.size + 1) zeroR ∧ Below w.heap.size w V) ⟨(heap2 w _ _).1, (heap2 w _ _).2, below2 w _ _⟩ ?_
  rintro V1 ⟨hc1, hr1, hw1⟩
  have c0 := hc1.c0
  have c1 := hc1.c1
  have c5 := hc1.c5
  have hlt := HLT.out
  have hsz := hw1.size
  have hst1 : Stamp V1 m := HS.out.of_heap (hw1.block m (by omega))
  have HP1 := Lib.hid (HP.out V1 (HD.out.after hw1) (HM.out.after hw1) hst1)
  have HU1 := Lib.hid (HU.out V1 (HD.out.after hw1) (HM.out.after hw1) hst1)
  have HR := Lib.hid hr1
  have HW := Lib.hid hw1
  have HNE : Hid (m ≠ w.heap.size + 1 ∧ w.heap.size + 1 < V1.heap.size) := ⟨by omega, hr1.lt⟩
  clear hc1 hr1 hw1 hst1 hlt hsz HD HM HS HP HU
  rcases hv with h3 | h4
  · rw [h3] at c0
    have hN : nodesM c M = KM.put c.node (.agg #[]) M := if_pos h3
    rw [← hN] at HP1
    clear hN h3
    go_wp2_with (fail)
    refine HP1.out.mono ?_
    rintro e W2 ⟨rfl, hm2, hs2, ho2⟩
    obtain ⟨V3, sr, br, or, lr⟩ := stoR (show BoxR W2 (w.heap.size + 1) zeroR from (ho2.1 _ HNE.out.2 (fun e => HNE.out.1 e.symm)).trans HR.out) zeroR
    have HBR := Lib.hid br
    have ho3 := ho2.after HW.out
    have HRES : Hid (IsMap encS V3 m (nodesM c M) ∧ Stamp V3 m ∧ Only m w V3) := by
      show _ ∧ _
      refine ⟨hm2.of_heap (or m HNE.out.1), hs2.of_heap (or m HNE.out.1), fun g hg hgm => (or g (by omega)).trans (ho3.1 g hg hgm), fun B hB1 hB2 => lr _ _ (ho3.2 B hB1 hB2) (by omega)⟩
    clear hm2 hs2 ho2 ho3 br or lr HP1 HU1
    go_wp2_with (refine wpList_skip rfl (sr rfl rfl rfl) ?_)
    refine bodyPost_ret (v := encR zeroR) (results_cell_row rfl _ _ (w.heap.size + 1) 50 (cellsR zeroR) (0, 0) _ rfl HBR.out undR rfl sizeR) rfl ?_
    exact ⟨rfl, HRES.out⟩
  · rw [h4] at c0
    have hN : nodesM c M = KM.del c.node M := if_neg (by omega)
    rw [← hN] at HU1
    clear hN h4
    go_wp2_with (fail)
    refine HU1.out.mono ?_
    rintro e W2 ⟨rfl, hm2, hs2, ho2⟩
    obtain ⟨V3, sr, br, or, lr⟩ := stoR (show BoxR W2 (w.heap.size + 1) zeroR from (ho2.1 _ HNE.out.2 (fun e => HNE.out.1 e.symm)).trans HR.out) zeroR
    have HBR := Lib.hid br
    have ho3 := ho2.after HW.out
    have HRES : Hid (IsMap encS V3 m (nodesM c M) ∧ Stamp V3 m ∧ Only m w V3) := by
      show _ ∧ _
      refine ⟨hm2.of_heap (or m HNE.out.1), hs2.of_heap (or m HNE.out.1), fun g hg hgm => (or g (by omega)).trans (ho3.1 g hg hgm), fun B hB1 hB2 => lr _ _ (ho3.2 B hB1 hB2) (by omega)⟩
    clear hm2 hs2 ho2 ho3 br or lr HP1 HU1
    go_wp2_with (refine wpList_skip rfl (sr rfl rfl rfl) ?_)
    refine bodyPost_ret (v := encR zeroR) (results_cell_row rfl _ _ (w.heap.size + 1) 50 (cellsR zeroR) (0, 0) _ rfl HBR.out undR rfl sizeR) rfl ?_
    exact ⟨rfl, HRES.out⟩
end Go.Proofs.Ytbgfccanbgpjiaa.O.I
