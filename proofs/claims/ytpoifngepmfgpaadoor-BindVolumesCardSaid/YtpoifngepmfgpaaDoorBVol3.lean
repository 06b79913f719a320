/- What is done next for a volume. -/
import Derived.Test.YtpoifngepmfgpaaDoorBFits0
import Derived.Test.YtpoifngepmfgpaaDoorBClaim
import Derived.Test.YtpoifngepmfgpaaDoorBEqs
import Derived.Test.YtpoifngepmfgpaaDoorBRef
namespace Go.Proofs.YtpoifngepmfgpaaDoor.O.B
open Go Go.Lib

def claimedN (l : List Obj) (v : Obj) : Bool := ((thereL 3 l).find? fun c => decide (refN c = v.claim)).isSome
def atN (l : List Obj) (v : Obj) : Bool := ((thereL 5 l).find? fun a => decide (a.volume = v.name)).isSome
def cutN (l : List Obj) (v : Obj) : Bool := ((thereL 7 l).find? fun s => decide (s.volume = v.name) && (s.phase == 10)).isSome
def inUseN (l : List Obj) (v : Obj) : Bool := atN l v || cutN l v
def erasingN (v : Obj) (next : Int) : Obj := { v with phase := 6, num := next }
def givenN (v : Obj) (next : Int) : Obj := if v.keep = true then { v with phase := 5 } else erasingN v next
def volumeN (l : List Obj) (ver : Int) (name : ByteArray) : Ac := match getL l 4 name with
  | none => nothing
  | some v => if v.phase = 4 ∧ v.deleting = true ∧ v.keep = false then writeA (erasingN v (IntKind.u64.wrap (ver + 1)))
    else if v.phase = 3 ∧ claimedN l v = false then writeA (givenN v (IntKind.u64.wrap (ver + 1)))
    else if v.phase = 6 ∧ inUseN l v = false then askA ⟨2, v.name, v.num, 0, E0, E0, E0⟩ else nothing

/-- A claim that is bound, and its volume. -/
def restC (c : Obj) : Obj := { c with kind := 3, phase := 3, deleting := false }
def restV (c : Obj) : Obj := { Z0 with kind := 4, name := c.volume, phase := 3, claim := refN (restC c) }
theorem rest_claim (l : List Obj) (c : Obj) (ver : Int) : claimN (restC c :: restV c :: l) ver c.name = nothing := by
  have hg : getL (restC c :: restV c :: l) 3 c.name = some (restC c) := by
    unfold getL
    exact List.find?_cons_of_pos (by simp [restC])
  unfold claimN
  rw [hg]
  show (if handleN (restC c) = E0 then nothing else if (3 : Int) = 3 then letN (restC c :: restV c :: l) (restC c) else _) = nothing
  split
  · rfl
  · rw [if_pos rfl]
    unfold letN
    rw [if_pos]
    show (!false || _) = true
    rfl
theorem rest_volume (l : List Obj) (c : Obj) (ver : Int) : volumeN (restC c :: restV c :: l) ver c.volume = nothing := by
  have hg : getL (restC c :: restV c :: l) 4 c.volume = some (restV c) := by
    unfold getL
    rw [List.find?_cons_of_neg (by simp [restC])]
    exact List.find?_cons_of_pos (by simp [restV])
  have hin : restC c ∈ thereL 3 (restC c :: restV c :: l) := there_in (i := 0) (by simp) rfl (fun j hj => absurd hj (by omega))
  have hc : claimedN (restC c :: restV c :: l) (restV c) = true := by
    unfold claimedN
    rw [List.find?_isSome]
    exact ⟨restC c, hin, by simp [restV]⟩
  unfold volumeN
  rw [hg]
  dsimp only
  rw [if_neg (fun h : (restV c).phase = 4 ∧ _ => absurd (show (3 : Int) = 4 from h.1) (by decide)), if_neg (fun h : (restV c).phase = 3 ∧ _ => by rw [hc] at h; cases h.2), if_neg (fun h : (restV c).phase = 6 ∧ _ => absurd (show (3 : Int) = 6 from h.1) (by decide))]
/-- What is written for a volume: given up with Keep, or erased; then it had no claim, or was nobody's. -/
theorem keeps_cases (l : List Obj) (ver : Int) (name : ByteArray) : (volumeN l ver name).act ≠ 1 ∨ ((volumeN l ver name).act = 1 ∧ (volumeN l ver name).obj.phase = 5 ∧ (volumeN l ver name).obj.keep = true) ∨
    ∃ v, getL l 4 name = some v ∧ volumeN l ver name = writeA (erasingN v (IntKind.u64.wrap (ver + 1))) ∧ v.keep = false ∧ (v.phase = 4 ∨ v.phase = 3 ∧ claimedN l v = false) := by
  unfold volumeN
  cases hg : getL l 4 name with
  | none => exact .inl (by show (0 : Int) ≠ 1; decide)
  | some v =>
    dsimp only
    by_cases h1 : v.phase = 4 ∧ v.deleting = true ∧ v.keep = false
    · rw [if_pos h1]
      exact .inr (.inr ⟨v, rfl, rfl, h1.2.2, .inl h1.1⟩)
    rw [if_neg h1]
    by_cases h2 : v.phase = 3 ∧ claimedN l v = false
    · rw [if_pos h2]
      unfold givenN
      cases hk : v.keep with
      | true => exact .inr (.inl ⟨rfl, rfl, rfl⟩)
      | false => exact .inr (.inr ⟨v, rfl, rfl, hk, .inr h2⟩)
    rw [if_neg h2]
    by_cases h3 : v.phase = 6 ∧ inUseN l v = false
    · rw [if_pos h3]
      exact .inl (by show (3 : Int) ≠ 1; decide)
    · rw [if_neg h3]
      exact .inl (by show (0 : Int) ≠ 1; decide)
theorem not_claimed {l : List Obj} {v : Obj} {i : Nat} (h : claimedN l v = false) (hi : i < l.length) (hk : l[i].kind = 3) (hr : refN l[i] = v.claim) (hf : ∀ j (hj : j < i), ¬ (l[j].kind = l[i].kind ∧ l[j].name = l[i].name)) : False := by
  unfold claimedN at h
  have h1 : ((thereL 3 l).find? fun c => decide (refN c = v.claim)).isSome = true := by
    rw [List.find?_isSome]
    exact ⟨l[i], there_in hi hk hf, by simpa using hr⟩
  rw [h] at h1
  cases h1
end Go.Proofs.YtpoifngepmfgpaaDoor.O.B
namespace Go.Proofs.YtpoifngepmfgpaaDoor.O.B
open Go Go.RowKit Go.Shelf Go.Lib RangeMap KM
attribute [local go_sem] Oper.semAt_some

set_option maxRecDepth 100000 in
set_option maxHeartbeats 2000000 in
theorem claimed1_any (c v : Obj) (b : Nat) (W : World) (hb : BoxO W b v) (ht : Tab W) (hc : (0 ≤ c.born ∧ c.born ≤ 18446744073709551615) ∧ c.name.size ≤ 140737488351232) :
    Calls Tryd.prog 62 #[encO c, .pointer (some ⟨b, 0, none⟩)] W fun e W' => e = .returned (.bool (decide (refN c = v.claim))) ∧ Below W.heap.size W W' := by
  have HB := Lib.hid hb
  have HT := Lib.hid ht
  have HR := Lib.hid (fun V (hV : Tab V) => ref_any c V hV hc.1 hc.2)
  clear hb ht hc
  generalize refN c = r at *
  unfold encO
  go_enter Tryd.func62, Tryd.ntmps62
  go_upto_region 1 with (fail)
  refine wp_gen (fun V => BoxO V W.heap.size c ∧ Below W.heap.size W V ∧ BoxO V b v ∧ Tab V) ⟨BoxO.new W c, (Below.refl _ _).alloc (Nat.le_refl _) _, HB.out.alloc _, HT.out.after ((Below.refl _ _).alloc (Nat.le_refl _) _)⟩ ?_
  clear HB HT
  rintro V ⟨hbx, hl, hn, ht⟩
  have HO := Lib.hid hbx
  have HV := Lib.hid hn
  have HL := Lib.hid hl
  have HT := Lib.hid ht
  clear hbx hl hn ht
  refine wp_region_held_drew (S := fun V => BoxO V W.heap.size c ∧ BoxO V b v ∧ Below W.heap.size W V ∧ Tab V) (by kernel_rfl) ⟨HO.out, HV.out, HL.out.drew, HT.out.drew⟩ (fun _ => ?_)
  refine HeldBy.gen (fun V => BoxO V W.heap.size c ∧ BoxO V b v ∧ Below W.heap.size W V ∧ Tab V) ⟨HO.out, HV.out, HL.out.drew, HT.out.drew⟩ ?_
  clear HO HV HL HT
  rintro U0 HS
  refine HeldBy.take (i := 0) (v := encO c) rfl (by kernel_rfl) (by kernel_rfl) (by kernel_rfl) (fun _ _ _ h => h) (by rfl) (fun V hV => load_obj hV.1 rfl rfl) (by go_simp; rfl) HS ?_
  refine HeldBy.take (i := 2) rfl (by kernel_rfl) (by kernel_rfl) (by kernel_rfl) (fun _ _ _ h => h) (by rfl) (fun _ _ => by first | (go_simp; rfl) | (go_simp; done)) (by go_simp; rfl) HS ?_
  refine HeldBy.take (i := 3) (v := .string v.claim) rfl (by kernel_rfl) (by kernel_rfl) (by kernel_rfl) (fun _ _ _ h => h) (by rfl) (fun V hV => by have hc := hV.2.1.c14; first | (go_simp; rfl) | (go_simp; done)) (by go_simp; rfl) HS ?_
  refine HeldBy.call (i := 1) (v := .string r) rfl (by kernel_rfl) (by rfl) (by go_simp; exact ⟨rfl, rfl⟩) (by go_simp; rfl) ?_
  refine (HR.out _ HS.2.2.2).mono ?_
  rintro e U1 ⟨rfl, hb⟩
  replace HS : BoxO U1 W.heap.size c ∧ BoxO U1 b v ∧ Below W.heap.size W U1 ∧ Tab U1 := ⟨HS.1.after hb, HS.2.1.after hb, HS.2.2.1.trans (hb.mono HS.2.2.1.size), HS.2.2.2.after hb⟩
  refine ⟨rfl, HS, ?_⟩
  clear hb
  refine HeldBy.take (i := 4) (v := .bool (decide (r = v.claim))) rfl (by kernel_rfl) (by kernel_rfl) (by kernel_rfl) (fun _ _ _ h => h) (by rfl) (fun _ _ => exec_eql_str rfl rfl rfl rfl) (by go_simp; rfl) HS ?_
  refine HeldBy.take (i := 5) rfl (by kernel_rfl) (by kernel_rfl) (by kernel_rfl) (fun _ _ _ h => h) (by rfl) (fun _ _ => by first | (go_simp; rfl) | (go_simp; done)) (by go_simp; rfl) HS ?_
  refine wpAnyH_done (by kernel_rfl) ?_ _
  have HX := Lib.hid HS.2.2.1
  clear HS HR
  go_wp2
  go_ret
  exact ⟨rfl, HX.out⟩
theorem claimed1_enters : ∀ args w, (callFunc 62 args).run Tryd.prog w = .ok (.enter 62 args) w :=
  enters_of (P := Tryd.prog) Tryd.func62 (by kernel_rfl) rfl
set_option maxRecDepth 100000 in
set_option maxHeartbeats 2000000 in
theorem use1_any (o v : Obj) (b : Nat) (W : World) (hb : BoxO W b v) :
    Calls Tryd.prog 63 #[encO o, .pointer (some ⟨b, 0, none⟩)] W fun e W' => e = .returned (.bool (decide (o.volume = v.name))) ∧ Below W.heap.size W W' := by
  have HB := Lib.hid hb
  clear hb
  unfold encO
  go_enter Tryd.func63, Tryd.ntmps63
  go_upto_region 1 with (fail)
  refine wp_gen (fun V => BoxO V W.heap.size o ∧ Below W.heap.size W V ∧ BoxO V b v) ⟨BoxO.new W o, (Below.refl _ _).alloc (Nat.le_refl _) _, HB.out.alloc _⟩ ?_
  clear HB
  rintro V ⟨hbx, hl, hn⟩
  have c1 := hbx.c15
  have c2 := hn.c1
  have HL := Lib.hid hl
  clear hbx hl hn
  go_wp2
  go_ret
  refine ⟨?_, HL.out⟩
  show Ending.returned (.bool (o.volume.toList == v.name.toList)) = _
  rw [eqB]
theorem use1_enters : ∀ args w, (callFunc 63 args).run Tryd.prog w = .ok (.enter 63 args) w :=
  enters_of (P := Tryd.prog) Tryd.func63 (by kernel_rfl) rfl
set_option maxRecDepth 100000 in
set_option maxHeartbeats 2000000 in
theorem use2_any (o v : Obj) (b : Nat) (W : World) (hb : BoxO W b v) :
    Calls Tryd.prog 64 #[encO o, .pointer (some ⟨b, 0, none⟩)] W fun e W' => e = .returned (.bool (decide (o.volume = v.name) && (o.phase == 10))) ∧ Below W.heap.size W W' := by
  have HB := Lib.hid hb
  clear hb
  unfold encO
  go_enter Tryd.func64, Tryd.ntmps64
  go_upto_region 1 with (fail)
  refine wp_gen (fun V => BoxO V W.heap.size o ∧ Below W.heap.size W V ∧ BoxO V b v) ⟨BoxO.new W o, (Below.refl _ _).alloc (Nat.le_refl _) _, HB.out.alloc _⟩ ?_
  clear HB
  rintro V ⟨hbx, hl, hn⟩
  have c1 := hbx.c15
  have c2 := hn.c1
  have c3 := hbx.c17
  have HL := Lib.hid hl
  clear hbx hl hn
  cases e1 : (o.volume.toList == v.name.toList) with
  | false =>
    go_wp2
    go_ret
    exact ⟨by rw [← eqB, e1]; rfl, HL.out⟩
  | true =>
    go_wp2
    go_ret
    exact ⟨by rw [← eqB, e1]; rfl, HL.out⟩
theorem use2_enters : ∀ args w, (callFunc 64 args).run Tryd.prog w = .ok (.enter 64 args) w :=
  enters_of (P := Tryd.prog) Tryd.func64 (by kernel_rfl) rfl

set_option maxRecDepth 100000 in
set_option maxHeartbeats 2000000 in
theorem claimed_any (l : List Obj) (s : Value) (v : Obj) (w : World) (hl : ObjsIn w s l) (ht : Tab w) (hall : ∀ s ∈ l, (0 ≤ s.born ∧ s.born ≤ 18446744073709551615) ∧ s.name.size ≤ 140737488351232) :
    Calls Tryd.prog 39 #[s, encO v] w fun e w' => e = .returned (.bool (claimedN l v)) ∧ Below w.heap.size w w' := by
  obtain ⟨o, cp, rfl, -, -⟩ := id hl
  have HL := Lib.hid hl
  have HT := Lib.hid ht
  have H1 : Hid (∀ (V : World) (b : Nat), ObjsIn V (.slice o l.length cp) l → Tab V → BoxO V b v → Calls Tryd.prog 54 #[.slice o l.length cp, .int .u8 3, .func (.func 62) #[] #[.pointer (some ⟨b, 0, none⟩)]] V fun e w' => e = .returned (.bool (claimedN l v)) ∧ Below V.heap.size V w') := fun V b hV hT hb =>
    has_any l _ 3 _ _ _ V hV ⟨claimed1_enters, fun x hx W hW => claimed1_any x v b W (hb.after hW) (hT.after hW) (hall x hx)⟩
  clear hl ht hall
  generalize claimedN l v = p at *
  unfold encO
  go_enter Tryd.func39, Tryd.ntmps39
  go_upto_region 1 with (fail)
  refine wp_gen (fun V => BoxO V w.heap.size v ∧ Below w.heap.size w V) ⟨BoxO.new w v, (Below.refl _ _).alloc (Nat.le_refl _) _⟩ ?_
  rintro V ⟨h1, hlw⟩
  have HC := Lib.hid (H1.out V _ (HL.out.after hlw) (HT.out.after hlw) h1)
  have HW := Lib.hid hlw
  clear h1 hlw H1
  go_wp2_with (fail)
  refine HC.out.mono ?_
  rintro e W2 ⟨rfl, hb2⟩
  have HX := Lib.hid (HW.out.trans (hb2.mono HW.out.size))
  clear HC hb2 HW
  go_wp2
  go_ret
  exact ⟨rfl, HX.out⟩
set_option maxRecDepth 100000 in
set_option maxHeartbeats 2000000 in
theorem inUse_any (l : List Obj) (s : Value) (v : Obj) (w : World) (hl : ObjsIn w s l) :
    Calls Tryd.prog 41 #[s, encO v] w fun e w' => e = .returned (.bool (inUseN l v)) ∧ Below w.heap.size w w' := by
  obtain ⟨o, cp, rfl, -, -⟩ := id hl
  have HL := Lib.hid hl
  unfold inUseN
  have H1 : Hid (∀ (V : World) (b : Nat), ObjsIn V (.slice o l.length cp) l → BoxO V b v → Calls Tryd.prog 54 #[.slice o l.length cp, .int .u8 5, .func (.func 63) #[] #[.pointer (some ⟨b, 0, none⟩)]] V fun e w' => e = .returned (.bool (atN l v)) ∧ Below V.heap.size V w') := fun V b hV hb =>
    has_any l _ 5 _ _ _ V hV ⟨use1_enters, fun x _ W hW => use1_any x v b W (hb.after hW)⟩
  have H2 : Hid (∀ (V : World) (b : Nat), ObjsIn V (.slice o l.length cp) l → BoxO V b v → Calls Tryd.prog 54 #[.slice o l.length cp, .int .u8 7, .func (.func 64) #[] #[.pointer (some ⟨b, 0, none⟩)]] V fun e w' => e = .returned (.bool (cutN l v)) ∧ Below V.heap.size V w') := fun V b hV hb =>
    has_any l _ 7 _ _ _ V hV ⟨use2_enters, fun x _ W hW => use2_any x v b W (hb.after hW)⟩
  clear hl
  generalize atN l v = p at *
  generalize cutN l v = q at *
  unfold encO
  go_enter Tryd.func41, Tryd.ntmps41
  go_upto_region 1 with (fail)
  refine wp_gen (fun V => BoxO V w.heap.size v ∧ Below w.heap.size w V) ⟨BoxO.new w v, (Below.refl _ _).alloc (Nat.le_refl _) _⟩ ?_
  rintro V ⟨h1, hlw⟩
  have HC := Lib.hid (H1.out V _ (HL.out.after hlw) h1)
  have HB := Lib.hid h1
  have HW := Lib.hid hlw
  clear h1 hlw H1
  go_wp2_with (fail)
  refine HC.out.mono ?_
  rintro e W2 ⟨rfl, hb2⟩
  have hw2 := HW.out.trans (hb2.mono HW.out.size)
  have HC2 := Lib.hid (H2.out W2 _ (HL.out.after hw2) (HB.out.after hb2))
  have HW2 := Lib.hid hw2
  clear HC hb2 hw2 H2 HL HW HB
  cases p with
  | true =>
    clear HC2
    go_wp2
    go_ret
    exact ⟨rfl, HW2.out⟩
  | false =>
    go_wp2_with (fail)
    refine HC2.out.mono ?_
    rintro e W3 ⟨rfl, hb3⟩
    have HX := Lib.hid (HW2.out.trans (hb3.mono HW2.out.size))
    clear HC2 hb3 HW2
    go_wp2
    go_ret
    exact ⟨rfl, HX.out⟩

set_option maxRecDepth 100000 in
set_option maxHeartbeats 2000000 in
theorem erasing_any (v : Obj) (next : Int) (w : World) : Calls Tryd.prog 38 #[encO v, .int .u64 next] w fun e w' => e = .returned (encO (erasingN v next)) ∧ Below w.heap.size w w' := by
  obtain ⟨u, hu⟩ : ∃ u, erasingN v next = u := ⟨_, rfl⟩
  rw [hu]
  have HU := Lib.hid hu
  clear hu
  unfold encO
  go_enter Tryd.func38, Tryd.ntmps38
  go_upto_region 1 with (fail)
  refine wp_gen (fun V => BoxO V w.heap.size v ∧ BoxO V (w.heap.size + 1) O0 ∧ Below w.heap.size w V) (chain2 w _ _) ?_
  rintro V ⟨h1, h2, hl⟩
  have c17 := h1.c17
  have c18 := h1.c18
  have f17 := h1.free 17
  have f18 := h1.free 18
  have HA := Lib.hid h1
  have HO := Lib.hid h2
  have HL := Lib.hid hl
  clear h1 h2 hl
  go_upto_region 2 with (fail)
  refine wp_gen (fun V => BoxO V w.heap.size u ∧ BoxO V (w.heap.size + 1) O0 ∧ Below w.heap.size w V) ⟨by rw [← HU.out]; exact (HA.out.s17 6).s18 next, (HO.out.other (by show w.heap.size + 1 ≠ w.heap.size; omega) _).other (by show w.heap.size + 1 ≠ w.heap.size; omega) _, (HL.out.setCell (Nat.le_refl _) _).setCell (Nat.le_refl _) _⟩ ?_
  clear c17 c18 f17 f18 HA HO HL HU
  rintro V2 ⟨ha, ho, hl⟩
  obtain ⟨V6, hst, ho6, -, hb⟩ := storing ho u
  have HO6 := Lib.hid ho6
  have HX := Lib.hid (hb _ _ hl (by omega))
  clear ho6 hb ho hl
  go_wp2_with (first | (refine wpList_skip rfl (hst rfl rfl rfl) ?_) | ((with_reducible refine wpList_load_obj ?_ rfl ?_ ha ?_); rfl; rfl))
  refine bodyPost_ret (v := encO u) (results_cell_row rfl _ _ (w.heap.size + 1) 31 (cellsO u) (0, 0) _ rfl HO6.out undObj rfl sizeObj) rfl ?_
  exact ⟨rfl, HX.out⟩
set_option maxRecDepth 100000 in
set_option maxHeartbeats 2000000 in
theorem givenUp_any (v : Obj) (next : Int) (w : World) : Calls Tryd.prog 40 #[encO v, .int .u64 next] w fun e w' => e = .returned (encO (givenN v next)) ∧ Below w.heap.size w w' := by
  have HE := Lib.hid (fun V => erasing_any v next V)
  obtain ⟨u, hu⟩ : ∃ u, givenN v next = u := ⟨_, rfl⟩
  rw [hu]
  have HU := Lib.hid hu
  clear hu
  unfold encO
  go_enter Tryd.func40, Tryd.ntmps40
  go_upto_region 1 with (fail)
  refine wp_gen (fun V => BoxO V w.heap.size v ∧ BoxO V (w.heap.size + 1) O0 ∧ Below w.heap.size w V) (chain2 w _ _) ?_
  rintro V ⟨h1, h2, hl⟩
  have c10 := h1.c10
  cases hk : v.keep with
  | true =>
    have hg : ({ v with phase := 5 } : Obj) = u := by rw [← HU.out]; unfold givenN; rw [if_pos hk]
    rw [hk] at c10
    have HG := Lib.hid hg
    have c17 := h1.c17
    have f17 := h1.free 17
    have HA := Lib.hid h1
    have HO := Lib.hid h2
    have HL := Lib.hid hl
    clear h1 h2 hl HE hg
    go_upto_region 3 with (fail)
    refine wp_gen (fun V => BoxO V w.heap.size u ∧ BoxO V (w.heap.size + 1) O0 ∧ Below w.heap.size w V) ⟨by rw [← HG.out]; exact HA.out.s17 5, HO.out.other (by show w.heap.size + 1 ≠ w.heap.size; omega) _, HL.out.setCell (Nat.le_refl _) _⟩ ?_
    clear c10 c17 f17 HA HO HL HG HU
    rintro V2 ⟨ha, ho, hl⟩
    obtain ⟨V6, hst, ho6, -, hb⟩ := storing ho u
    have HO6 := Lib.hid ho6
    have HX := Lib.hid (hb _ _ hl (by omega))
    clear ho6 hb ho hl
    go_wp2_with (first | (refine wpList_skip rfl (hst rfl rfl rfl) ?_) | ((with_reducible refine wpList_load_obj ?_ rfl ?_ ha ?_); rfl; rfl))
    refine bodyPost_ret (v := encO u) (results_cell_row rfl _ _ (w.heap.size + 1) 31 (cellsO u) (0, 0) _ rfl HO6.out undObj rfl sizeObj) rfl ?_
    exact ⟨rfl, HX.out⟩
  | false =>
    have hg : erasingN v next = u := by rw [← HU.out]; unfold givenN; rw [if_neg (by rw [hk]; decide)]
    rw [hk] at c10
    rw [hg] at HE
    have HO := Lib.hid h2
    have HL := Lib.hid hl
    clear h2 hl hg
    go_wp2_with ((with_reducible refine wpList_load_obj ?_ rfl ?_ h1 ?_); rfl; rfl)
    refine (HE.out _).mono ?_
    rintro e W2 ⟨rfl, hb2⟩
    obtain ⟨V6, hst, ho6, -, hb⟩ := storing (HO.out.after hb2) u
    have HO6 := Lib.hid ho6
    have HX := Lib.hid (hb _ _ (HL.out.trans (hb2.mono HL.out.size)) (by omega))
    clear ho6 hb HO HL hb2 HE c10 h1
    go_wp2_with (refine wpList_skip rfl (hst rfl rfl rfl) ?_)
    refine bodyPost_ret (v := encO u) (results_cell_row rfl _ _ (w.heap.size + 1) 31 (cellsO u) (0, 0) _ rfl HO6.out undObj rfl sizeObj) rfl ?_
    exact ⟨rfl, HX.out⟩
end Go.Proofs.YtpoifngepmfgpaaDoor.O.B
namespace Go.Proofs.YtpoifngepmfgpaaDoor.O.B
open Go Go.RowKit Go.Shelf Go.Lib RangeMap KM
attribute [local go_sem] Oper.semAt_some

theorem built_act0' : Tryd.prog.built 36 [] = some (cellsA nothing) := by kernel_rfl
theorem built_give (h : ByteArray) (n : Int) : Tryd.prog.built 34 [(0, .int .u8 2), (1, .string h), (2, .int .u64 n)] = some (cellsC ⟨2, h, n, 0, E0, E0, E0⟩) := by kernel_rfl

set_option maxRecDepth 100000 in
set_option maxHeartbeats 8000000 in
theorem volume_any (l : List Obj) (v : Value) (ver : Int) (name : ByteArray) (w : World) (hl : ObjsIn w v l) (ht : Tab w) (hall : ∀ s ∈ l, (0 ≤ s.born ∧ s.born ≤ 18446744073709551615) ∧ s.name.size ≤ 140737488351232) :
    Calls Tryd.prog 12 #[v, .int .u64 ver, .string name] w fun e w' => e = .returned (encA (volumeN l ver name)) ∧ Below w.heap.size w w' := by
  obtain ⟨o, cp, rfl, -, -⟩ := id hl
  have HL := Lib.hid hl
  have HT := Lib.hid ht
  have HG := Lib.hid (fun V (hV : ObjsIn V (.slice o l.length cp) l) => get_any l _ 4 name V hV)
  have HCL := Lib.hid (fun V (u : Obj) (hV : ObjsIn V (.slice o l.length cp) l) (hT : Tab V) => claimed_any l _ u V hV hT hall)
  have HIU := Lib.hid (fun V (u : Obj) (hV : ObjsIn V (.slice o l.length cp) l) => inUse_any l _ u V hV)
  clear hl ht hall
  obtain ⟨r, hr⟩ : ∃ r, getL l 4 name = r := ⟨_, rfl⟩
  obtain ⟨x, hx⟩ : ∃ x, volumeN l ver name = x := ⟨_, rfl⟩
  rw [hx]
  unfold volumeN at hx
  rw [hr] at hx HG
  have HXX := Lib.hid hx
  clear hx hr
  go_enter Tryd.func12, Tryd.ntmps12
  go_upto_region 1 with (fail)
  refine wp_gen (fun V => BoxA V w.heap.size nothing ∧ Below w.heap.size w V) ⟨heap_alloc_new _ _, (Below.refl _ _).alloc (Nat.le_refl _) _⟩ ?_
  rintro V ⟨ho, hl⟩
  have HO := Lib.hid ho
  have HW := Lib.hid hl
  have HC := Lib.hid (HG.out V (HL.out.after hl))
  clear ho hl HG
  go_wp2_with (fail)
  refine HC.out.mono ?_
  rintro e W2 ⟨rfl, hb2⟩
  obtain ⟨V2, hst, hk, hb, -⟩ := boxing W2 (r.getD O0)
  have hw2 := HW.out.trans (hb2.mono HW.out.size)
  replace HO := Lib.hid ((HO.out.after hb2).after hb)
  replace HW := Lib.hid (hw2.trans (hb.mono hw2.size))
  clear HC hb2 hb hw2
  cases r with
  | none =>
    have HVV : Hid (x = nothing) := HXX.out.symm
    obtain ⟨V8, hst8, ho, -, hb⟩ := acting HO.out nothing
    have HO8 := Lib.hid ho
    have HX8 := Lib.hid (hb _ _ HW.out (Nat.le_refl _))
    clear ho hb HXX hk HCL HIU
    go_wp2_with (first | (refine wpList_skip rfl (hst rfl rfl rfl) ?_) | (refine wpList_skip rfl (hst8 rfl rfl rfl) ?_))
    refine bodyPost_ret (v := encA nothing) (results_cell_row rfl _ _ w.heap.size 36 (cellsA nothing) (0, 0) _ rfl HO8.out undAct rfl sizeAct) rfl ?_
    exact ⟨by rw [HVV.out], HX8.out⟩
  | some vo =>
    replace hk : BoxO V2 W2.heap.size vo := hk
    have hxx : (if vo.phase = 4 ∧ vo.deleting = true ∧ vo.keep = false then writeA (erasingN vo (IntKind.u64.wrap (ver + 1))) else if vo.phase = 3 ∧ claimedN l vo = false then writeA (givenN vo (IntKind.u64.wrap (ver + 1))) else if vo.phase = 6 ∧ inUseN l vo = false then askA ⟨2, vo.name, vo.num, 0, E0, E0, E0⟩ else nothing) = x := HXX.out
    have HX2 := Lib.hid hxx
    have v17 := hk.c17
    have v4 := hk.c4
    have v10 := hk.c10
    have HK := Lib.hid hk
    clear hxx HXX hk
    go_upto_region 5 with (refine wpList_skip rfl (hst rfl rfl rfl) ?_)
    clear hst
    have write6 : ∀ (u : Obj), Hid (x = writeA u) → Hid (∀ V, Calls Tryd.prog 25 #[encO u] V fun e w' => e = .returned (encA x) ∧ Below V.heap.size V w') := fun u h => by
      have h' := h.out
      subst h'
      exact fun V => write_any u V
    by_cases h1 : vo.phase = 4 ∧ vo.deleting = true ∧ vo.keep = false
    · have HVV : Hid (x = writeA (erasingN vo (IntKind.u64.wrap (ver + 1)))) := by show _ = _; rw [← HX2.out, if_pos h1]
      obtain ⟨k1, k2, k3⟩ := h1
      rw [k1] at v17
      rw [k2] at v4
      rw [k3] at v10
      have HE := Lib.hid (fun V => erasing_any vo (IntKind.u64.wrap (ver + 1)) V)
      have HWR := write6 _ HVV
      clear k1 k2 k3 HX2 HCL HIU write6
      generalize erasingN vo (IntKind.u64.wrap (ver + 1)) = u at *
      go_upto_region 6 with (fail)
      have hkk := HK.out
      go_wp2_with ((with_reducible refine wpList_load_obj ?_ rfl ?_ hkk ?_); rfl; rfl)
      refine (HE.out _).mono ?_
      rintro e W4 ⟨rfl, hb4⟩
      have HO4 := Lib.hid (HO.out.after hb4)
      have HW4 := Lib.hid (HW.out.trans (hb4.mono HW.out.size))
      clear HE hb4 hkk HK v17 v4 v10
      go_wp2_with (fail)
      refine (HWR.out _).mono ?_
      rintro e W5 ⟨rfl, hb5⟩
      obtain ⟨V8, hst8, ho, -, hb⟩ := acting (HO4.out.after hb5) x
      have HO8 := Lib.hid ho
      have HX8 := Lib.hid (hb _ _ (HW4.out.trans (hb5.mono HW4.out.size)) (Nat.le_refl _))
      clear ho hb HWR hb5
      go_wp2_with (refine wpList_skip rfl (hst8 rfl rfl rfl) ?_)
      refine bodyPost_ret (v := encA x) (results_cell_row rfl _ _ w.heap.size 36 (cellsA x) (0, 0) _ rfl HO8.out undAct rfl sizeAct) rfl ?_
      exact ⟨rfl, HX8.out⟩
    · have HN1 := Lib.hid (HX2.out.symm.trans (if_neg h1))
      clear HX2
      have HKK := HK
      have goes : ∀ (t : Bool), Hid (t = false) → True := fun _ _ => trivial
      clear goes
      by_cases p4 : vo.phase = 4
      · -- phase 4, but not given up
        have HVV : Hid (x = nothing) := by
          show _ = _
          rw [HN1.out, if_neg (fun h => by rw [p4] at h; exact absurd h.1 (by decide)), if_neg (fun h => by rw [p4] at h; exact absurd h.1 (by decide))]
        rw [p4] at v17
        obtain ⟨V8, hst8, ho, -, hb⟩ := acting HO.out nothing
        have HO8 := Lib.hid ho
        have HX8 := Lib.hid (hb _ _ HW.out (Nat.le_refl _))
        clear ho hb HN1 HCL HIU write6 HK HKK
        cases hd : vo.deleting with
        | false =>
          rw [hd] at v4
          clear h1 hd p4
          go_wp2_with (first | (refine wpList_skip rfl (hst8 rfl rfl rfl) ?_) | ((with_reducible refine wpList_build_to rfl 36 _ rfl (cellsA nothing) ?_ ?_); exact built_act0'))
          refine bodyPost_ret (v := encA nothing) (results_cell_row rfl _ _ w.heap.size 36 (cellsA nothing) (0, 0) _ rfl HO8.out undAct rfl sizeAct) rfl ?_
          exact ⟨by rw [HVV.out], HX8.out⟩
        | true =>
          have hkp : vo.keep = true := by
            cases hk2 : vo.keep with
            | true => rfl
            | false => exact absurd ⟨p4, hd, hk2⟩ h1
          rw [hd] at v4
          rw [hkp] at v10
          clear h1 hd p4 hkp
          go_wp2_with (first | (refine wpList_skip rfl (hst8 rfl rfl rfl) ?_) | ((with_reducible refine wpList_build_to rfl 36 _ rfl (cellsA nothing) ?_ ?_); exact built_act0'))
          refine bodyPost_ret (v := encA nothing) (results_cell_row rfl _ _ w.heap.size 36 (cellsA nothing) (0, 0) _ rfl HO8.out undAct rfl sizeAct) rfl ?_
          exact ⟨by rw [HVV.out], HX8.out⟩
      · have e4 : (vo.phase == 4) = false := by simpa using p4
        clear h1
        by_cases p3 : vo.phase = 3
        · have e3 : (vo.phase == 3) = true := by simpa using p3
          have HCC := Lib.hid (HCL.out V2 vo (HL.out.after HW.out) (HT.out.after HW.out))
          obtain ⟨cb, hcb⟩ : ∃ cb, claimedN l vo = cb := ⟨_, rfl⟩
          rw [hcb] at HCC
          have HCB := Lib.hid hcb
          clear hcb HCL HIU
          go_upto_region 7 with (fail)
          have hkk := HK.out
          go_wp2_with ((with_reducible refine wpList_load_obj ?_ rfl ?_ hkk ?_); rfl; rfl)
          refine HCC.out.mono ?_
          rintro e W4 ⟨rfl, hb4⟩
          have HO4 := Lib.hid (HO.out.after hb4)
          have HW4 := Lib.hid (HW.out.trans (hb4.mono HW.out.size))
          have hk4 := HK.out.after hb4
          clear HCC hb4 hkk HK HKK v17 v4 v10 HO HW
          cases cb with
          | true =>
            have HVV : Hid (x = nothing) := by
              show _ = _
              rw [HN1.out, if_neg (fun h => by rw [HCB.out] at h; cases h.2), if_neg (fun h => by rw [p3] at h; exact absurd h.1 (by decide))]
            have e6 : (vo.phase == 6) = false := by rw [p3]; rfl
            have v17 := hk4.c17
            obtain ⟨V8, hst8, ho, -, hb⟩ := acting HO4.out nothing
            have HO8 := Lib.hid ho
            have HX8 := Lib.hid (hb _ _ HW4.out (Nat.le_refl _))
            clear ho hb HN1 HCB write6 hk4 p3 p4
            go_wp2_with (first | (refine wpList_skip rfl (hst8 rfl rfl rfl) ?_) | ((with_reducible refine wpList_build_to rfl 36 _ rfl (cellsA nothing) ?_ ?_); exact built_act0'))
            refine bodyPost_ret (v := encA nothing) (results_cell_row rfl _ _ w.heap.size 36 (cellsA nothing) (0, 0) _ rfl HO8.out undAct rfl sizeAct) rfl ?_
            exact ⟨by rw [HVV.out], HX8.out⟩
          | false =>
            have HVV : Hid (x = writeA (givenN vo (IntKind.u64.wrap (ver + 1)))) := by show _ = _; rw [HN1.out, if_pos ⟨p3, HCB.out⟩]
            have HE := Lib.hid (fun V => givenUp_any vo (IntKind.u64.wrap (ver + 1)) V)
            have HWR := write6 _ HVV
            clear HN1 HCB write6 p3 p4 HVV
            generalize givenN vo (IntKind.u64.wrap (ver + 1)) = u at *
            go_upto_region 8 with (fail)
            clear e3 e4
            go_wp2_with ((with_reducible refine wpList_load_obj ?_ rfl ?_ hk4 ?_); rfl; rfl)
            refine (HE.out _).mono ?_
            rintro e W5 ⟨rfl, hb5⟩
            have HO5 := Lib.hid (HO4.out.after hb5)
            have HW5 := Lib.hid (HW4.out.trans (hb5.mono HW4.out.size))
            clear HE hb5 hk4 HO4 HW4
            go_wp2_with (fail)
            refine (HWR.out _).mono ?_
            rintro e W6 ⟨rfl, hb6⟩
            obtain ⟨V8, hst8, ho, -, hb⟩ := acting (HO5.out.after hb6) x
            have HO8 := Lib.hid ho
            have HX8 := Lib.hid (hb _ _ (HW5.out.trans (hb6.mono HW5.out.size)) (Nat.le_refl _))
            clear ho hb HWR hb6
            go_wp2_with (refine wpList_skip rfl (hst8 rfl rfl rfl) ?_)
            refine bodyPost_ret (v := encA x) (results_cell_row rfl _ _ w.heap.size 36 (cellsA x) (0, 0) _ rfl HO8.out undAct rfl sizeAct) rfl ?_
            exact ⟨rfl, HX8.out⟩
        · have e3 : (vo.phase == 3) = false := by simpa using p3
          have HN2 : Hid (x = if vo.phase = 6 ∧ inUseN l vo = false then askA ⟨2, vo.name, vo.num, 0, E0, E0, E0⟩ else nothing) := by
            show _ = _
            rw [HN1.out, if_neg (fun h => p3 h.1)]
          clear HN1 HCL
          by_cases p6 : vo.phase = 6
          · have e6 : (vo.phase == 6) = true := by simpa using p6
            have HUU := Lib.hid (HIU.out V2 vo (HL.out.after HW.out))
            obtain ⟨ub, hub⟩ : ∃ ub, inUseN l vo = ub := ⟨_, rfl⟩
            rw [hub] at HUU
            have HUB := Lib.hid hub
            clear hub HIU
            go_upto_region 9 with (fail)
            have hkk := HK.out
            go_wp2_with ((with_reducible refine wpList_load_obj ?_ rfl ?_ hkk ?_); rfl; rfl)
            refine HUU.out.mono ?_
            rintro e W4 ⟨rfl, hb4⟩
            have HO4 := Lib.hid (HO.out.after hb4)
            have HW4 := Lib.hid (HW.out.trans (hb4.mono HW.out.size))
            have hk4 := HK.out.after hb4
            clear HUU hb4 hkk HK HKK v17 v4 v10 HO HW
            cases ub with
            | true =>
              have HVV : Hid (x = nothing) := by
                show _ = _
                rw [HN2.out, if_neg (fun h => by rw [HUB.out] at h; cases h.2)]
              obtain ⟨V8, hst8, ho, -, hb⟩ := acting HO4.out nothing
              have HO8 := Lib.hid ho
              have HX8 := Lib.hid (hb _ _ HW4.out (Nat.le_refl _))
              clear ho hb HN2 HUB write6 hk4 p3 p4 p6
              go_wp2_with (first | (refine wpList_skip rfl (hst8 rfl rfl rfl) ?_) | ((with_reducible refine wpList_build_to rfl 36 _ rfl (cellsA nothing) ?_ ?_); exact built_act0'))
              refine bodyPost_ret (v := encA nothing) (results_cell_row rfl _ _ w.heap.size 36 (cellsA nothing) (0, 0) _ rfl HO8.out undAct rfl sizeAct) rfl ?_
              exact ⟨by rw [HVV.out], HX8.out⟩
            | false =>
              have HVV : Hid (x = askA ⟨2, vo.name, vo.num, 0, E0, E0, E0⟩) := by show _ = _; rw [HN2.out, if_pos ⟨p6, HUB.out⟩]
              have HBG := Lib.hid (built_give vo.name vo.num)
              obtain ⟨k, hkc⟩ : ∃ k : Cl, (⟨2, vo.name, vo.num, 0, E0, E0, E0⟩ : Cl) = k := ⟨_, rfl⟩
              rw [hkc] at HVV HBG
              have HAS := Lib.hid (fun V => ask_any k V)
              have v1 := hk4.c1
              have v18 := hk4.c18
              clear HN2 HUB write6 p3 p4 p6 hkc hk4
              go_upto_region 10 with (fail)
              clear e3 e4 e6
              go_wp2_with ((with_reducible refine wpList_build_to rfl 34 _ rfl (cellsC k) ?_ ?_); exact HBG.out)
              refine (HAS.out _).mono ?_
              rintro e W6 ⟨rfl, hb6⟩
              obtain ⟨V8, hst8, ho, -, hb⟩ := acting (HO4.out.after hb6) (askA k)
              have HO8 := Lib.hid ho
              have HX8 := Lib.hid (hb _ _ (HW4.out.trans (hb6.mono HW4.out.size)) (Nat.le_refl _))
              clear ho hb HAS hb6 v1 v18
              go_wp2_with (refine wpList_skip rfl (hst8 rfl rfl rfl) ?_)
              refine bodyPost_ret (v := encA (askA k)) (results_cell_row rfl _ _ w.heap.size 36 (cellsA (askA k)) (0, 0) _ rfl HO8.out undAct rfl sizeAct) rfl ?_
              exact ⟨by rw [HVV.out], HX8.out⟩
          · have e6 : (vo.phase == 6) = false := by simpa using p6
            have HVV : Hid (x = nothing) := by show _ = _; rw [HN2.out, if_neg (fun h => p6 h.1)]
            obtain ⟨V8, hst8, ho, -, hb⟩ := acting HO.out nothing
            have HO8 := Lib.hid ho
            have HX8 := Lib.hid (hb _ _ HW.out (Nat.le_refl _))
            clear ho hb HN2 HIU write6 HK HKK p3 p4 p6
            go_wp2_with (first | (refine wpList_skip rfl (hst8 rfl rfl rfl) ?_) | ((with_reducible refine wpList_build_to rfl 36 _ rfl (cellsA nothing) ?_ ?_); exact built_act0'))
            refine bodyPost_ret (v := encA nothing) (results_cell_row rfl _ _ w.heap.size 36 (cellsA nothing) (0, 0) _ rfl HO8.out undAct rfl sizeAct) rfl ?_
            exact ⟨by rw [HVV.out], HX8.out⟩
end Go.Proofs.YtpoifngepmfgpaaDoor.O.B
