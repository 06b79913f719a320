/- Own work. -/
import Derived.Test.YtbgfccanbgpjiaaDJISnSeqN
import Derived.Test.YtbgfccanbgpjiaaDJIModDo
import Derived.Test.YtbgfccanbgpjiaaDJIModOp
import Derived.Test.YtbgfccanbgpjiaaDISnapsQ
namespace Go.Proofs.Ytbgfccanbgpjiaa.O.I
open Go Go.RowKit Go.Lib KM
attribute [local go_sem] Oper.semAt_some
set_option maxRecDepth 100000 in
set_option maxHeartbeats 4000000 in
theorem rr_name (vb : Int) (tg : ByteArray) (nu si : Int) (zo no so : ByteArray) (w : World) (hft : FitT tg) (ht : nm tg = false) : Calls Try.prog 18 #[encC ⟨vb, tg, nu, si, zo, no, so⟩] w fun e w' => e = .returned (.bool false) ∧ Below w.heap.size w w' := by
  rw [show encC ⟨vb, tg, nu, si, zo, no, so⟩ = .agg (cellsC ⟨vb, tg, nu, si, zo, no, so⟩) from rfl]
  have HT : Hid (nm tg = false) := ht
  have HFT := Lib.hid hft
  clear ht hft
  go_enter Try.func18, Try.ntmps18
  go_upto_region 1 with (fail)
  refine wp_gen (fun V => BoxC V w.heap.size ⟨vb, tg, nu, si, zo, no, so⟩ ∧ Below w.heap.size w V) ⟨heap_alloc_new _ _, (Below.refl _ _).alloc (Nat.le_refl _) _⟩ ?_
  rintro V ⟨hc, hlw⟩
  have c0 := hc.c0
  have c1 := hc.c1
  have c2 := hc.c2
  have c3 := hc.c3
  have HC := Lib.hid hc
  have HW := Lib.hid hlw
  clear hc hlw
  go_wp2_with (fail)
  refine (refname_is HT.out HFT.out _).mono ?_
  rintro e V2 ⟨rfl, rfl⟩
  go_wp2
  go_ret
  exact ⟨rfl, HW.out⟩
set_option maxRecDepth 100000 in
set_option maxHeartbeats 4000000 in
theorem rr_num (vb : Int) (tg : ByteArray) (nu si : Int) (zo no so : ByteArray) (w : World) (hft : FitT tg) (ht : nm tg = true) (h0 : nu = 0) : Calls Try.prog 18 #[encC ⟨vb, tg, nu, si, zo, no, so⟩] w fun e w' => e = .returned (.bool false) ∧ Below w.heap.size w w' := by
  rw [show encC ⟨vb, tg, nu, si, zo, no, so⟩ = .agg (cellsC ⟨vb, tg, nu, si, zo, no, so⟩) from rfl]
  have h0b : (nu == 0) = true := by simp [h0]
  clear h0
  have HT : Hid (nm tg = true) := ht
  have HFT := Lib.hid hft
  clear ht hft
  go_enter Try.func18, Try.ntmps18
  go_upto_region 1 with (fail)
  refine wp_gen (fun V => BoxC V w.heap.size ⟨vb, tg, nu, si, zo, no, so⟩ ∧ Below w.heap.size w V) ⟨heap_alloc_new _ _, (Below.refl _ _).alloc (Nat.le_refl _) _⟩ ?_
  rintro V ⟨hc, hlw⟩
  have c0 := hc.c0
  have c1 := hc.c1
  have c2 := hc.c2
  have c3 := hc.c3
  have HC := Lib.hid hc
  have HW := Lib.hid hlw
  clear hc hlw
  go_wp2_with (fail)
  refine (refname_is HT.out HFT.out _).mono ?_
  rintro e V2 ⟨rfl, rfl⟩
  go_wp2
  go_ret
  exact ⟨rfl, HW.out⟩
set_option maxRecDepth 100000 in
set_option maxHeartbeats 4000000 in
theorem rr_neg (vb : Int) (tg : ByteArray) (nu si : Int) (zo no so : ByteArray) (w : World) (hft : FitT tg) (ht : nm tg = true) (h0 : ¬ nu = 0) (hs : si < 0) : Calls Try.prog 18 #[encC ⟨vb, tg, nu, si, zo, no, so⟩] w fun e w' => e = .returned (.bool false) ∧ Below w.heap.size w w' := by
  rw [show encC ⟨vb, tg, nu, si, zo, no, so⟩ = .agg (cellsC ⟨vb, tg, nu, si, zo, no, so⟩) from rfl]
  have HT : Hid (nm tg = true) := ht
  have HFT := Lib.hid hft
  clear ht hft
  go_enter Try.func18, Try.ntmps18
  go_upto_region 1 with (fail)
  refine wp_gen (fun V => BoxC V w.heap.size ⟨vb, tg, nu, si, zo, no, so⟩ ∧ Below w.heap.size w V) ⟨heap_alloc_new _ _, (Below.refl _ _).alloc (Nat.le_refl _) _⟩ ?_
  rintro V ⟨hc, hlw⟩
  have c0 := hc.c0
  have c1 := hc.c1
  have c2 := hc.c2
  have c3 := hc.c3
  have HC := Lib.hid hc
  have HW := Lib.hid hlw
  clear hc hlw
  go_wp2_with (fail)
  refine (refname_is HT.out HFT.out _).mono ?_
  rintro e V2 ⟨rfl, rfl⟩
  have h0b : (nu == 0) = false := by simp [h0]
  go_wp2
  go_ret
  exact ⟨rfl, HW.out⟩
set_option maxRecDepth 100000 in
set_option maxHeartbeats 4000000 in
theorem rr_big (vb : Int) (tg : ByteArray) (nu si : Int) (zo no so : ByteArray) (w : World) (hft : FitT tg) (ht : nm tg = true) (h0 : ¬ nu = 0) (hs : 0 ≤ si) (hs2 : 1125899906842624 < si) : Calls Try.prog 18 #[encC ⟨vb, tg, nu, si, zo, no, so⟩] w fun e w' => e = .returned (.bool false) ∧ Below w.heap.size w w' := by
  rw [show encC ⟨vb, tg, nu, si, zo, no, so⟩ = .agg (cellsC ⟨vb, tg, nu, si, zo, no, so⟩) from rfl]
  have HT : Hid (nm tg = true) := ht
  have HFT := Lib.hid hft
  clear ht hft
  go_enter Try.func18, Try.ntmps18
  go_upto_region 1 with (fail)
  refine wp_gen (fun V => BoxC V w.heap.size ⟨vb, tg, nu, si, zo, no, so⟩ ∧ Below w.heap.size w V) ⟨heap_alloc_new _ _, (Below.refl _ _).alloc (Nat.le_refl _) _⟩ ?_
  rintro V ⟨hc, hlw⟩
  have c0 := hc.c0
  have c1 := hc.c1
  have c2 := hc.c2
  have c3 := hc.c3
  have HC := Lib.hid hc
  have HW := Lib.hid hlw
  clear hc hlw
  go_wp2_with (fail)
  refine (refname_is HT.out HFT.out _).mono ?_
  rintro e V2 ⟨rfl, rfl⟩
  have h0b : (nu == 0) = false := by simp [h0]
  have hs3 : ¬ si < 0 := by omega
  go_wp2
  go_ret
  exact ⟨rfl, HW.out⟩
set_option maxRecDepth 100000 in
set_option maxHeartbeats 4000000 in
theorem rr_2 (tg : ByteArray) (nu si : Int) (zo no so : ByteArray) (w : World) (hft : FitT tg) (ht : nm tg = true) (h0 : ¬ nu = 0) (hs : 0 ≤ si) (hs2 : si ≤ 1125899906842624) (b : Bool) (hd : eqC ⟨2, tg, nu, si, zo, no, so⟩ ⟨2, tg, nu, 0, E0, E0, E0⟩ = b) : Calls Try.prog 18 #[encC ⟨2, tg, nu, si, zo, no, so⟩] w fun e w' => e = .returned (.bool b) ∧ Below w.heap.size w w' := by
  rw [show encC ⟨2, tg, nu, si, zo, no, so⟩ = .agg (cellsC ⟨2, tg, nu, si, zo, no, so⟩) from rfl]
  have HD := Lib.hid hd
  clear hd
  have HT : Hid (nm tg = true) := ht
  have HFT := Lib.hid hft
  clear ht hft
  go_enter Try.func18, Try.ntmps18
  go_upto_region 1 with (fail)
  refine wp_gen (fun V => BoxC V w.heap.size ⟨2, tg, nu, si, zo, no, so⟩ ∧ Below w.heap.size w V) ⟨heap_alloc_new _ _, (Below.refl _ _).alloc (Nat.le_refl _) _⟩ ?_
  rintro V ⟨hc, hlw⟩
  have c0 := hc.c0
  have c1 := hc.c1
  have c2 := hc.c2
  have c3 := hc.c3
  have HC := Lib.hid hc
  have HW := Lib.hid hlw
  have HB : Hid (w.heap.size < V.heap.size) := hc.lt
  clear hc hlw
  go_wp2_with (fail)
  refine (refname_is HT.out HFT.out _).mono ?_
  rintro e V2 ⟨rfl, rfl⟩
  have h0b : (nu == 0) = false := by simp [h0]
  have hs3 : ¬ si < 0 := by omega
  have hs4 : ¬ 1125899906842624 < si := by omega
  obtain ⟨V1, hs1, hb1, hl1⟩ := boxC V zeroC rfl ⟨2, tg, nu, 0, E0, E0, E0⟩
  have d0 := (HC.out.after hl1).c0
  replace HC := Lib.hid (HC.out.after hl1)
  have HN := Lib.hid hb1
  replace HW := Lib.hid (HW.out.trans (hl1.mono HW.out.size))
  clear hb1 hl1
  have hcl := HC.out
  have hnl := HN.out
  go_wp2_with (first | ((with_reducible refine wpList_build_to rfl 27 _ rfl (cellsC ⟨2, tg, nu, 0, E0, E0, E0⟩) ?_ ?_); exact built_c3 _ _ _) | (refine wpList_skip rfl (hs1 rfl rfl rfl) ?_) | ((with_reducible show wpList _ _ _ (Oper.mk _ (Op.load 27 _) _ _ _ none :: _) _ _); refine wpList_got rfl (loadC hcl rfl rfl) ?_) | ((with_reducible show wpList _ _ _ (Oper.mk _ (Op.load 27 _) _ _ _ none :: _) _ _); refine wpList_got rfl (loadC hnl rfl rfl) ?_) | ((with_reducible show wpList _ _ _ (Oper.mk _ (Op.binOp BinOp.eql 27 _ _ _) _ _ _ none :: _) _ _); refine wpList_got rfl (exec_eqN rfl rfl rfl HD.out) ?_))
  go_ret
  exact ⟨rfl, HW.out⟩
set_option maxRecDepth 100000 in
set_option maxHeartbeats 4000000 in
theorem rr_7 (tg : ByteArray) (nu si : Int) (zo no so : ByteArray) (w : World) (hft : FitT tg) (ht : nm tg = true) (h0 : ¬ nu = 0) (hs : 0 ≤ si) (hs2 : si ≤ 1125899906842624) (b : Bool) (hd : eqC ⟨7, tg, nu, si, zo, no, so⟩ ⟨7, tg, nu, 0, E0, E0, E0⟩ = b) : Calls Try.prog 18 #[encC ⟨7, tg, nu, si, zo, no, so⟩] w fun e w' => e = .returned (.bool b) ∧ Below w.heap.size w w' := by
  rw [show encC ⟨7, tg, nu, si, zo, no, so⟩ = .agg (cellsC ⟨7, tg, nu, si, zo, no, so⟩) from rfl]
  have HD := Lib.hid hd
  clear hd
  have HT : Hid (nm tg = true) := ht
  have HFT := Lib.hid hft
  clear ht hft
  go_enter Try.func18, Try.ntmps18
  go_upto_region 1 with (fail)
  refine wp_gen (fun V => BoxC V w.heap.size ⟨7, tg, nu, si, zo, no, so⟩ ∧ Below w.heap.size w V) ⟨heap_alloc_new _ _, (Below.refl _ _).alloc (Nat.le_refl _) _⟩ ?_
  rintro V ⟨hc, hlw⟩
  have c0 := hc.c0
  have c1 := hc.c1
  have c2 := hc.c2
  have c3 := hc.c3
  have HC := Lib.hid hc
  have HW := Lib.hid hlw
  have HB : Hid (w.heap.size < V.heap.size) := hc.lt
  clear hc hlw
  go_wp2_with (fail)
  refine (refname_is HT.out HFT.out _).mono ?_
  rintro e V2 ⟨rfl, rfl⟩
  have h0b : (nu == 0) = false := by simp [h0]
  have hs3 : ¬ si < 0 := by omega
  have hs4 : ¬ 1125899906842624 < si := by omega
  obtain ⟨V1, hs1, hb1, hl1⟩ := boxC V zeroC rfl ⟨7, tg, nu, 0, E0, E0, E0⟩
  have d0 := (HC.out.after hl1).c0
  replace HC := Lib.hid (HC.out.after hl1)
  have HN := Lib.hid hb1
  replace HW := Lib.hid (HW.out.trans (hl1.mono HW.out.size))
  clear hb1 hl1
  have hcl := HC.out
  have hnl := HN.out
  go_wp2_with (first | ((with_reducible refine wpList_build_to rfl 27 _ rfl (cellsC ⟨7, tg, nu, 0, E0, E0, E0⟩) ?_ ?_); exact built_c3 _ _ _) | (refine wpList_skip rfl (hs1 rfl rfl rfl) ?_) | ((with_reducible show wpList _ _ _ (Oper.mk _ (Op.load 27 _) _ _ _ none :: _) _ _); refine wpList_got rfl (loadC hcl rfl rfl) ?_) | ((with_reducible show wpList _ _ _ (Oper.mk _ (Op.load 27 _) _ _ _ none :: _) _ _); refine wpList_got rfl (loadC hnl rfl rfl) ?_) | ((with_reducible show wpList _ _ _ (Oper.mk _ (Op.binOp BinOp.eql 27 _ _ _) _ _ _ none :: _) _ _); refine wpList_got rfl (exec_eqN rfl rfl rfl HD.out) ?_))
  go_ret
  exact ⟨rfl, HW.out⟩
set_option maxRecDepth 100000 in
set_option maxHeartbeats 4000000 in
theorem rr_other (vb : Int) (tg : ByteArray) (nu si : Int) (zo no so : ByteArray) (w : World) (hft : FitT tg) (ht : nm tg = true) (h0 : ¬ nu = 0) (hs : 0 ≤ si) (hs2 : si ≤ 1125899906842624) (hv : ¬ vb = 1 ∧ ¬ vb = 2 ∧ ¬ vb = 3 ∧ ¬ vb = 4 ∧ ¬ vb = 5 ∧ ¬ vb = 6 ∧ ¬ vb = 7) : Calls Try.prog 18 #[encC ⟨vb, tg, nu, si, zo, no, so⟩] w fun e w' => e = .returned (.bool false) ∧ Below w.heap.size w w' := by
  rw [show encC ⟨vb, tg, nu, si, zo, no, so⟩ = .agg (cellsC ⟨vb, tg, nu, si, zo, no, so⟩) from rfl]
  obtain ⟨v1, v2, v3, v4, v5, v6, v7⟩ := hv
  have HT : Hid (nm tg = true) := ht
  have HFT := Lib.hid hft
  clear ht hft
  go_enter Try.func18, Try.ntmps18
  go_upto_region 1 with (fail)
  refine wp_gen (fun V => BoxC V w.heap.size ⟨vb, tg, nu, si, zo, no, so⟩ ∧ Below w.heap.size w V) ⟨heap_alloc_new _ _, (Below.refl _ _).alloc (Nat.le_refl _) _⟩ ?_
  rintro V ⟨hc, hlw⟩
  have c0 := hc.c0
  have c1 := hc.c1
  have c2 := hc.c2
  have c3 := hc.c3
  have HC := Lib.hid hc
  have HW := Lib.hid hlw
  have HB : Hid (w.heap.size < V.heap.size) := hc.lt
  clear hc hlw
  go_wp2_with (fail)
  refine (refname_is HT.out HFT.out _).mono ?_
  rintro e V2 ⟨rfl, rfl⟩
  have h0b : (nu == 0) = false := by simp [h0]
  have hs3 : ¬ si < 0 := by omega
  have hs4 : ¬ 1125899906842624 < si := by omega
  obtain ⟨V1, hs1, hb1, hl1⟩ := boxC V zeroC rfl ⟨vb, tg, nu, 0, E0, E0, E0⟩
  have d0 := (HC.out.after hl1).c0
  replace HC := Lib.hid (HC.out.after hl1)
  have HN := Lib.hid hb1
  replace HW := Lib.hid (HW.out.trans (hl1.mono HW.out.size))
  clear hb1 hl1
  go_wp2_with (first | ((with_reducible refine wpList_build_to rfl 27 _ rfl (cellsC ⟨vb, tg, nu, 0, E0, E0, E0⟩) ?_ ?_); exact built_c3 _ _ _) | (refine wpList_skip rfl (hs1 rfl rfl rfl) ?_))
  go_ret
  exact ⟨rfl, HW.out⟩
end Go.Proofs.Ytbgfccanbgpjiaa.O.I
namespace Go.Proofs.Ytbgfccanbgpjiaa.O.I
open Go Go.RowKit Go.Lib KM
attribute [local go_sem] Oper.semAt_some
theorem get_of_once {κ V : Type} [DecidableEq κ] : ∀ {m : List (κ × V)}, (m.map (·.1)).Nodup → ∀ p ∈ m, KM.get p.1 m = some p.2
  | q :: r, h, p, hp => by
    obtain ⟨h1, h2⟩ := List.nodup_cons.1 (show (q.1 :: r.map (·.1)).Nodup from h)
    unfold KM.get
    rcases List.mem_cons.1 hp with e | e
    · rw [e, if_pos rfl]
    · rw [if_neg (fun e2 : p.1 = q.1 => h1 (by rw [← e2]; exact List.mem_map.2 ⟨p, e, rfl⟩)), get_of_once h2 p e]
theorem keys_perm {V : Type} {m : List (ByteArray × V)} {l : List ByteArray} (ho : (m.map (·.1)).Nodup) (hl : l.Nodup) (h : ∀ k, (KM.get k m).isSome = true ↔ k ∈ l) : (m.map (·.1)).Perm l := by
  rw [List.perm_ext_iff_of_nodup ho hl]
  intro k
  rw [← h k]
  cases hg : KM.get k m with
  | none => simpa using KM.get_none_iff.1 hg
  | some v =>
    have h1 := KM.get_mem hg
    simp only [Option.isSome_some, List.mem_map, iff_true]
    exact ⟨(k, v), h1, rfl⟩
theorem vol_find {l : List DV} (h : OnceV l) {x : DV} (hx : x ∈ l) : volOf l x.name = some x := by
  induction l with
  | nil => cases hx
  | cons z r ih =>
    obtain ⟨h1, h2⟩ := List.nodup_cons.1 (show (z.name :: r.map (·.name)).Nodup from h)
    unfold volOf
    rcases List.mem_cons.1 hx with e | e
    · rw [e, List.find?_cons_of_pos (by simp)]
    · rw [List.find?_cons_of_neg (by simpa using fun e2 : z.name = x.name => h1 (e2 ▸ List.mem_map.2 ⟨x, e, rfl⟩))]
      exact ih h2 e
theorem snap_find {l : List DS} (h : OnceS l) {x : DS} (hx : x ∈ l) : snapOf l x.name = some x := by
  induction l with
  | nil => cases hx
  | cons z r ih =>
    obtain ⟨h1, h2⟩ := List.nodup_cons.1 (show (z.name :: r.map (·.name)).Nodup from h)
    unfold snapOf
    rcases List.mem_cons.1 hx with e | e
    · rw [e, List.find?_cons_of_pos (by simp)]
    · rw [List.find?_cons_of_neg (by simpa using fun e2 : z.name = x.name => h1 (e2 ▸ List.mem_map.2 ⟨x, e, rfl⟩))]
      exact ih h2 e
theorem sorted_once {l : List ByteArray} (h : SortedK l) : l.Nodup := List.Pairwise.imp (fun {a b} (hab : ltK a b) (e : a = b) => ltK_irr (e ▸ hab)) h
theorem told_eq {α β : Type} (f : α → β) (na : α → ByteArray) (nb : β → ByteArray) : ∀ {xs : List α} {ys : List β}, xs.map na = ys.map nb → (∀ x ∈ xs, ∀ y ∈ ys, na x = nb y → f x = y) → xs.map f = ys
  | [], [], _, _ => rfl
  | [], _ :: _, h, _ => by cases h
  | _ :: _, [], h, _ => by cases h
  | x :: xs, y :: ys, h, hf => by
    injection h with h1 h2
    rw [List.map_cons, hf x (.head _) y (.head _) h1, told_eq f na nb h2 fun a ha b hb => hf a (.tail _ ha) b (.tail _ hb)]
theorem map_inj {α β : Type} {f : α → β} (hf : ∀ a b, f a = f b → a = b) : ∀ {xs ys : List α}, xs.map f = ys.map f → xs = ys
  | [], [], _ => rfl
  | [], _ :: _, h => by cases h
  | _ :: _, [], h => by cases h
  | x :: xs, y :: ys, h => by
    injection h with h1 h2
    rw [hf x y h1, map_inj hf h2]
theorem volOf_mem {l : List DV} {k : ByteArray} {x : DV} (h : volOf l k = some x) : x ∈ l := List.mem_of_find?_eq_some h
theorem snapOf_mem {l : List DS} {k : ByteArray} {x : DS} (h : snapOf l k = some x) : x ∈ l := List.mem_of_find?_eq_some h
theorem names_eq {α β : Type} {xs : List α} {ys : List β} {na : α → ByteArray} {nb : β → ByteArray} (h : xs.map (fun x => (na x).data.toList) = ys.map (fun y => (nb y).data.toList)) : xs.map na = ys.map nb := by
  have e1 : xs.map (fun x => (na x).data.toList) = (xs.map na).map (·.data.toList) := by rw [List.map_map]; rfl
  have e2 : ys.map (fun y => (nb y).data.toList) = (ys.map nb).map (·.data.toList) := by rw [List.map_map]; rfl
  rw [e1, e2] at h
  exact map_inj (fun a b hab => ba_ext hab) h
section
variable {d r v s n B j : Nat} {W : World} {S : St}
theorem volumes_model (h : PAt d r v s n B W S) (hg : Good j S.core) (hj : j ≤ 1000000) (hfew : S.core.vols.length ≤ 1000000) :
    Calls Try.prog 22 #[.pointer (some ⟨d, 0, none⟩)] W fun e w' => ∃ s L, e = .returned (encSl s) ∧ VOwn w' W.heap.size s L ∧ L.map (·.1) = S.core.vols ∧ Below W.heap.size W w' := by
  obtain ⟨No, ms, ⟨Vo, So, hd, hv, hs⟩, hN⟩ := h.rel
  let vl : ByteArray → Vl := fun k => match volOf S.core.vols k with
    | some x => ⟨x.size, x.tag, x.zone, some (ms k)⟩
    | none => zeroV
  let NN : ByteArray → List ByteArray := fun k => match volOf S.core.vols k with
    | some x => x.nodes
    | none => []
  have hvl : ∀ k x, volOf S.core.vols k = some x → vl k = ⟨x.size, x.tag, x.zone, some (ms k)⟩ := fun k x hx => by show (match volOf S.core.vols k with | some x => _ | none => _) = _; rw [hx]
  have hNN : ∀ k x, volOf S.core.vols k = some x → NN k = x.nodes := fun k x hx => by show (match volOf S.core.vols k with | some x => _ | none => _) = _; rw [hx]
  have hon : (Vo.map (·.1)).Nodup := hv.once
  have hmem : ∀ p ∈ Vo, ∃ x, volOf S.core.vols p.1 = some x ∧ p.2 = encV (vl p.1) := fun p hp => by
    have h1 := get_of_once hon p hp
    rw [hv.get] at h1
    obtain ⟨x, hx, he⟩ := Option.map_eq_some_iff.1 h1
    exact ⟨x, hx, by rw [hvl _ _ hx]; exact he.symm⟩
  have hheld : Q.held (Vo.map fun p => (p.1, vl p.1)) = Vo := by
    unfold Q.held
    rw [List.map_map]
    conv => rhs; rw [← List.map_id Vo]
    refine List.map_congr_left fun p hp => ?_
    obtain ⟨x, -, he⟩ := hmem p hp
    show (p.1, encV (vl p.1)) = p
    rw [← he]
  have hd' : DrAt W d r v s n (roomsZ S.core.zones) (Q.held (Vo.map fun p => (p.1, vl p.1))) So No := by rw [hheld]; exact hd
  have hkeys : (Vo.map fun p => (p.1, vl p.1)).map (·.1) = Vo.map (·.1) := by rw [List.map_map]; rfl
  refine (volumes_any d r v s n _ So No (Vo.map fun p => (p.1, vl p.1)) NN ?_ ?_ ?_ W hd' ?_).mono ?_
  · intro p hp
    obtain ⟨q, hq, rfl⟩ := List.mem_map.1 hp
    obtain ⟨x, hx, -⟩ := hmem q hq
    have h1 := nm_size (hg.nameV x (volOf_mem hx))
    rw [volOf_name hx] at h1
    exact Nat.le_trans h1 (by decide)
  · rw [List.length_map, hv.len]
    exact hfew
  · rw [hkeys]
    exact hon
  · intro p hp
    obtain ⟨q, hq, rfl⟩ := List.mem_map.1 hp
    obtain ⟨x, hx, -⟩ := hmem q hq
    obtain ⟨M, h1, h2, h3⟩ := hv.node q.1 x hx
    obtain ⟨h4, h5, h6⟩ := hg.nodes x (volOf_mem hx)
    refine ⟨ms q.1, M, by rw [hvl _ _ hx], h1, h3, by rw [hNN _ _ hx]; exact h2, by rw [hNN _ _ hx]; exact h4, fun y hy => Nat.le_trans (nm_size (h6 y (h2.mem_iff.1 hy))) (by decide), by rw [h2.length_eq]; omega⟩
  · rintro e w' ⟨s', L, xs, rfl, hvo, hL, ⟨ss, hp, hss⟩, hb⟩
    refine ⟨s', L, rfl, hvo, ?_, hb⟩
    have hsl : SortedK (S.core.vols.map (·.name)) := hg.sv
    have hperm : (Vo.map (·.1)).Perm (S.core.vols.map (·.name)) := keys_perm hon (sorted_once hsl) fun k => by
      rw [hv.get, Option.isSome_map]
      cases hx : volOf S.core.vols k with
      | none => simpa using volOf_none.1 hx
      | some x => simpa using List.mem_map.2 ⟨x, volOf_mem hx, volOf_name hx⟩
    have hp2 : ss.Perm ((S.core.vols.map (·.name)).map (·.data.toList)) := by
      refine hp.trans ?_
      have e : (Vo.map fun p => (p.1, vl p.1)).map Q.keyOf = (Vo.map (·.1)).map (·.data.toList) := by rw [List.map_map, List.map_map]; rfl
      rw [e]
      exact hperm.map _
    have hnames : xs.map (fun x => x.1.1) = S.core.vols.map (·.name) := names_eq (by
      have e : xs.map (fun x => (x.1.1).data.toList) = xs.map fun x => Q.keyOf x.1 := rfl
      rw [e, hss, merge_sorted hsl hp2, List.map_map]
      rfl)
    rw [hL]
    refine told_eq (toldOf NN) (fun x : Q.El (Vo.map fun p => (p.1, vl p.1)) => x.1.1) (·.name) hnames fun x _ y hy hxy => ?_
    have hy2 := vol_find h.inv.vols hy
    obtain ⟨q, hq, hqe⟩ := List.mem_map.1 x.2
    have hk : x.1.1 = y.name := hxy
    have hx2 : x.1.2 = vl y.name := by rw [← hk, ← hqe]
    unfold toldOf
    rw [hk, hx2, hvl _ _ hy2, hNN _ _ hy2]
theorem snaps_model (h : PAt d r v s n B W S) (hg : Good j S.core) (hfew : S.core.snaps.length ≤ 1000000) :
    Calls Try.prog 23 #[.pointer (some ⟨d, 0, none⟩)] W fun e w' => ∃ s, e = .returned (encSl s) ∧ SOwn w' W.heap.size s S.core.snaps ∧ Below W.heap.size W w' := by
  obtain ⟨No, ms, ⟨Vo, So, hd, hv, hs⟩, hN⟩ := h.rel
  let kl : ByteArray → Ct := fun k => match snapOf S.core.snaps k with
    | some x => ⟨x.size, x.tag⟩
    | none => zeroK
  have hkl : ∀ k x, snapOf S.core.snaps k = some x → kl k = ⟨x.size, x.tag⟩ := fun k x hx => by show (match snapOf S.core.snaps k with | some x => _ | none => _) = _; rw [hx]
  have hon : (So.map (·.1)).Nodup := hs.once
  have hmem : ∀ p ∈ So, ∃ x, snapOf S.core.snaps p.1 = some x ∧ p.2 = encK (kl p.1) := fun p hp => by
    have h1 := get_of_once hon p hp
    rw [hs.get] at h1
    obtain ⟨x, hx, he⟩ := Option.map_eq_some_iff.1 h1
    exact ⟨x, hx, by rw [hkl _ _ hx]; exact he.symm⟩
  have hheld : Qs.held (So.map fun p => (p.1, kl p.1)) = So := by
    unfold Qs.held
    rw [List.map_map]
    conv => rhs; rw [← List.map_id So]
    refine List.map_congr_left fun p hp => ?_
    obtain ⟨x, -, he⟩ := hmem p hp
    show (p.1, encK (kl p.1)) = p
    rw [← he]
  have hd' : DrAt W d r v s n (roomsZ S.core.zones) Vo (Qs.held (So.map fun p => (p.1, kl p.1))) No := by rw [hheld]; exact hd
  have hkeys : (So.map fun p => (p.1, kl p.1)).map (·.1) = So.map (·.1) := by rw [List.map_map]; rfl
  refine (snaps_any d r v s n _ Vo No (So.map fun p => (p.1, kl p.1)) ?_ ?_ ?_ W hd').mono ?_
  · intro p hp
    obtain ⟨q, hq, rfl⟩ := List.mem_map.1 hp
    obtain ⟨x, hx, -⟩ := hmem q hq
    have h1 := nm_size (hg.nameS x (snapOf_mem hx))
    rw [snapOf_name hx] at h1
    exact Nat.le_trans h1 (by decide)
  · rw [List.length_map, hs.len]
    exact hfew
  · rw [hkeys]
    exact hon
  · rintro e w' ⟨s', xs, rfl, hso, ⟨ss, hp, hss⟩, hb⟩
    have hsl : SortedK (S.core.snaps.map (·.name)) := hg.ss
    have hperm : (So.map (·.1)).Perm (S.core.snaps.map (·.name)) := keys_perm hon (sorted_once hsl) fun k => by
      rw [hs.get, Option.isSome_map]
      cases hx : snapOf S.core.snaps k with
      | none => simpa using snapOf_none.1 hx
      | some x => simpa using List.mem_map.2 ⟨x, snapOf_mem hx, snapOf_name hx⟩
    have hp2 : ss.Perm ((S.core.snaps.map (·.name)).map (·.data.toList)) := by
      refine hp.trans ?_
      have e : (So.map fun p => (p.1, kl p.1)).map Qs.keyOf = (So.map (·.1)).map (·.data.toList) := by rw [List.map_map, List.map_map]; rfl
      rw [e]
      exact hperm.map _
    have hnames : xs.map (fun x => x.1.1) = S.core.snaps.map (·.name) := names_eq (by
      have e : xs.map (fun x => (x.1.1).data.toList) = xs.map fun x => Qs.keyOf x.1 := rfl
      rw [e, hss, merge_sorted hsl hp2, List.map_map]
      rfl)
    have e : xs.map (snapTold (m := So.map fun p => (p.1, kl p.1))) = S.core.snaps := told_eq _ (fun x : Qs.El (So.map fun p => (p.1, kl p.1)) => x.1.1) (·.name) hnames fun x _ y hy hxy => by
      have hy2 := snap_find h.inv.snaps hy
      obtain ⟨q, hq, hqe⟩ := List.mem_map.1 x.2
      have hk : x.1.1 = y.name := hxy
      have hx2 : x.1.2 = kl y.name := by rw [← hk, ← hqe]
      unfold snapTold
      rw [hk, hx2, hkl _ _ hy2]
    rw [e] at hso
    exact ⟨s', rfl, hso, hb⟩
end
end Go.Proofs.Ytbgfccanbgpjiaa.O.I
