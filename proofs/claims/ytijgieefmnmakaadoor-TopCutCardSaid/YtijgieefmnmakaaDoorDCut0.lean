/- A snapshot is cut, ready, and dropped, step by step. -/
import Derived.Test.YtijgieefmnmakaaDoorDStep
namespace Go.Proofs.YtijgieefmnmakaaDoor.O.B
open Go Go.RowKit Go.Shelf Go.Lib RangeMap KM
attribute [local go_sem] Oper.semAt_some

def cS : ByteArray := ⟨#[115]⟩
def hS : ByteArray := ⟨#[115, 110, 97, 112, 47, 115, 35, 55]⟩
def cT : Obj := { O0 with kind := 3, name := ⟨#[99]⟩, cls := ⟨#[102]⟩, size := 4, mode := 1, phase := 3, volume := ⟨#[118]⟩ }
def sT : Obj := { O0 with kind := 7, name := cS, born := 7, source := ⟨#[99]⟩, phase := 1 }
def sA (m : Int) : Obj := { sT with phase := 10, volume := ⟨#[118]⟩, num := m }
def sC (g : Int) : Obj := { sT with phase := 11, volume := ⟨#[118]⟩, tag := g, got := 4, num := 0 }
def sG (g : Int) : Obj := { sC g with deleting := true }
def sD (g m : Int) : Obj := { sG g with phase := 6, num := m }
def bT (m : Int) : Cl := ⟨6, hS, m, 0, E0, E0, ⟨#[118]⟩⟩
def eT (m : Int) : Cl := ⟨7, hS, m, 0, E0, E0, E0⟩
theorem built_cT : Tryd.prog.built 31 [(0, .int .u8 3), (1, .string ⟨#[99]⟩), (6, .string ⟨#[102]⟩), (7, .int .i64 4), (9, .int .u8 1), (17, .int .u8 3), (15, .string ⟨#[118]⟩)] = some (cellsO cT) := by kernel_rfl
theorem built_vT : Tryd.prog.built 31 [(0, .int .u8 4), (1, .string ⟨#[118]⟩), (6, .string ⟨#[102]⟩), (7, .int .i64 4), (8, .int .i64 4), (9, .int .u8 1), (12, .string ⟨#[122]⟩), (14, .string ⟨#[99, 35, 49]⟩), (17, .int .u8 3)] = some (cellsO vW) := by kernel_rfl
theorem BoxK.lt {W : World} {b : Nat} {k : Int} {n : ByteArray} (h : BoxK W b k n) : b < W.heap.size := (Array.getElem?_eq_some_iff.1 h).1
theorem built_sT : Tryd.prog.built 31 [(0, .int .u8 7), (1, .string ⟨#[115]⟩), (3, .int .u64 7), (16, .string ⟨#[99]⟩), (17, .int .u8 1)] = some (cellsO sT) := by kernel_rfl
theorem built_res2 (g : Int) : Tryd.prog.built 44 [(1, .int .i64 4), (3, .int .u64 g)] = some #[.int .i64 0, .int .i64 4, .string E0, .int .u64 g] := by kernel_rfl
theorem built_res0 : Tryd.prog.built 44 [] = some #[.int .i64 0, .int .i64 0, .string E0, .int .u64 0] := by kernel_rfl
theorem built_cutS (m : Int) : Tryd.prog.built 34 [(0, .int .u8 6), (1, .string hS), (2, .int .u64 m), (6, .string ⟨#[118]⟩)] = some (cellsC (bT m)) := by kernel_rfl
theorem hnd (o : Obj) (h1 : o.name = cS) (h2 : o.born = 7) : handleD o = hS := by
  obtain ⟨a1, a2, a3, a4, a5, a6, a7, a8, a9, a10, a11, a12, a13, a14, a15, a16, a17, a18, a19, a20⟩ := o
  simp only at h1 h2
  subst h1
  subst h2
  kernel_rfl
theorem hS_ne : hS ≠ E0 := by decide
theorem snap_of (l : List Obj) (ver : Int) (s : Obj) (hg : getL l 7 cS = some s) (h1 : s.name = cS) (h2 : s.born = 7) : snapD l ver cS = goN l s (up ver) := by
  unfold snapD
  rw [hg]
  show (if handleD s = E0 then nothing else goN l s (up ver)) = _
  rw [hnd s h1 h2, if_neg hS_ne]
theorem cut1 (t : Int) (h0 : 0 ≤ t) (h1 : t + 1 ≤ 18446744073709551615) : snapD [cT, vW, sT] t cS = writeA (sA (t + 1)) := by
  rw [snap_of [cT, vW, sT] t sT (by kernel_rfl) rfl rfl, up_small h0 h1]
  have hok : okD [cT, vW, sT] sT.source = true := by kernel_rfl
  have hv : voD [cT, vW, sT] sT.source = vW := by kernel_rfl
  unfold goN
  rw [if_neg (show ¬ sT.deleting = true by decide), if_neg (show ¬ sT.phase = 6 by decide), if_pos (show sT.phase = 1 from rfl), if_pos hok, hv]
  rfl
theorem cut2 (m : Int) (ver : Int) : snapD [cT, vW, sA m] ver cS = askA (bT m) := by
  rw [snap_of [cT, vW, sA m] ver (sA m) (by kernel_rfl) rfl rfl]
  unfold goN
  rw [if_neg (show ¬ (sA m).deleting = true by show ¬ false = true; decide), if_neg (show ¬ (sA m).phase = 6 by show ¬ (10 : Int) = 6; decide), if_neg (show ¬ (sA m).phase = 1 by show ¬ (10 : Int) = 1; decide), if_pos (show (sA m).phase = 10 from rfl), hnd (sA m) rfl rfl]
  rfl
theorem cut3 (m ver g : Int) : afterD [cT, vW, sA m] ver 7 cS (bT m) ⟨0, 4, E0, g⟩ = writeA (sC g) := by
  have h1 : nextD [cT, vW, sA m] ver 7 cS = askA (bT m) := by
    unfold nextD
    rw [if_neg (by decide), if_pos rfl]
    exact cut2 m ver
  have h2 : askedN [cT, vW, sA m] 7 cS (bT m) = sA m := by kernel_rfl
  unfold afterD
  rw [if_pos h1, h2]
  unfold behindN
  rw [if_neg (show ¬ (0 : Int) = 9 by omega), if_pos (show (0 : Int) = 0 from rfl), if_neg (show ¬ (bT m).verb = 5 by show ¬ (6 : Int) = 5; decide), if_pos (show (bT m).verb = 6 from rfl)]
  rfl
theorem cut4 (g t : Int) (h0 : 0 ≤ t) (h1 : t + 1 ≤ 18446744073709551615) : snapD [cT, vW, sG g] t cS = writeA (sD g (t + 1)) := by
  rw [snap_of [cT, vW, sG g] t (sG g) (by kernel_rfl) rfl rfl, up_small h0 h1]
  have hmd : madeOf [cT, vW, sG g] (sG g) = false := by kernel_rfl
  unfold goN
  rw [if_pos (show (sG g).deleting = true from rfl), if_neg (by rw [hmd]; decide), if_neg (show ¬ (sG g).phase = 6 by show ¬ (11 : Int) = 6; decide)]
  rfl
theorem cut5 (g m ver : Int) : snapD [cT, vW, sD g m] ver cS = askA (eT m) := by
  rw [snap_of [cT, vW, sD g m] ver (sD g m) (by kernel_rfl) rfl rfl]
  have hmd : madeOf [cT, vW, sD g m] (sD g m) = false := by kernel_rfl
  unfold goN
  rw [if_pos (show (sD g m).deleting = true from rfl), if_neg (by rw [hmd]; decide), if_pos (show (sD g m).phase = 6 from rfl)]
  unfold dropN
  rw [hnd (sD g m) rfl rfl]
  rfl
theorem cut6 (g m ver : Int) : afterD [cT, vW, sD g m] ver 7 cS (eT m) ⟨0, 0, E0, 0⟩ = removeA (sD g m) := by
  have h1 : nextD [cT, vW, sD g m] ver 7 cS = askA (eT m) := by
    unfold nextD
    rw [if_neg (by decide), if_pos rfl]
    exact cut5 g m ver
  have h2 : askedN [cT, vW, sD g m] 7 cS (eT m) = sD g m := by kernel_rfl
  unfold afterD
  rw [if_pos h1, h2]
  unfold behindN
  rw [if_neg (show ¬ (0 : Int) = 9 by omega), if_pos (show (0 : Int) = 0 from rfl), if_neg (show ¬ (eT m).verb = 5 by show ¬ (7 : Int) = 5; decide), if_neg (show ¬ (eT m).verb = 6 by show ¬ (7 : Int) = 6; decide), if_pos (show (eT m).verb = 7 from rfl)]
theorem fit_cT : (0 ≤ cT.born ∧ cT.born ≤ 18446744073709551615) ∧ cT.name.size ≤ 140737488351232 := ⟨⟨by decide, by decide⟩, by decide⟩
theorem fit_vW : (0 ≤ vW.born ∧ vW.born ≤ 18446744073709551615) ∧ vW.name.size ≤ 140737488351232 := ⟨⟨by decide, by decide⟩, by decide⟩
theorem fit_s (o : Obj) (h1 : o.name = cS) (h2 : o.born = 7) : (0 ≤ o.born ∧ o.born ≤ 18446744073709551615) ∧ o.name.size ≤ 140737488351232 := by
  rw [h1, h2]
  exact ⟨⟨by decide, by decide⟩, by decide⟩
theorem objs_new (W : World) (a b c : Obj) : ObjsIn (W.alloc (.cells (catO [a, b, c]) 31 (0, 0))) (.slice (some ⟨W.heap.size, 0, none⟩) 3 3) [a, b, c] := RowO.objs (l := [a, b, c]) (heap_alloc_new W _) 3 (by show 3 ≤ _; omega)
end Go.Proofs.YtijgieefmnmakaaDoor.O.B
