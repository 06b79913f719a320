/- What is written for a claim that grows, or for a snapshot, is right, if all that is there is. -/
import Derived.Test.YtdlbpfallmpkoaaDoorDFew
import Derived.Test.YtdlbpfallmpkoaaDoorDSnapAll
import Derived.Test.YtdlbpfallmpkoaaDoorDClaim
import Derived.Test.YtdlbpfallmpkoaaDoorDLive
import Derived.Test.YtdlbpfallmpkoaaDoorR3Right
namespace Go.Proofs.YtdlbpfallmpkoaaDoor.O.B
open Go Go.RowKit Go.Shelf Go.Lib RangeMap KM
attribute [local go_sem] Oper.semAt_some

def AllR (l : List Obj) : Prop := ∀ o ∈ l, rightB o = true
theorem AllR.get {l : List Obj} {k : Int} {n : ByteArray} {o : Obj} (h : AllR l) (hg : getL l k n = some o) : rightB o = true := h o (List.mem_of_find?_eq_some hg)
theorem right_vol (p : Obj) (s n : Int) (hk : p.kind = 4) (h : rightB p = true) (hs : inR s = true) (h0 : s ≠ 0) : rightB { p with size := s, num := n } = true := by
  obtain ⟨k, nm, ve, bo, de, ho, cl, si, go, mo, ke, wa, zo, no, ca, vo, so, ph, nu, ta⟩ := p
  dsimp only at hk
  subst hk
  simp [rightB, bareO, kindB, volumeB, textsB] at h ⊢
  simp_all
  rfl
theorem right_got (p : Obj) (g : Int) (hk : p.kind = 3) (h : rightB p = true) (hg : inR g = true) : rightB { p with got := g } = true := by
  obtain ⟨k, nm, ve, bo, de, ho, cl, si, go, mo, ke, wa, zo, no, ca, vo, so, ph, nu, ta⟩ := p
  dsimp only at hk
  subst hk
  simp [rightB, bareO, kindB, claimB, textsB] at h ⊢
  simp_all
  rfl
theorem right_snap (p : Obj) (v : ByteArray) (ph n : Int) (hk : p.kind = 7) (h : rightB p = true) (hv : okT v = true) (hp : ph4 ph 1 10 11 6 = true) : rightB { p with phase := ph, volume := v, num := n } = true := by
  obtain ⟨k, nm, ve, bo, de, ho, cl, si, go, mo, ke, wa, zo, no, ca, vo, so, ph0, nu, ta⟩ := p
  dsimp only at hk
  subst hk
  simp [rightB, bareO, kindB, textsB] at h ⊢
  simp_all
  exact ⟨by rfl, by rfl⟩
theorem rightB_inR {p : Obj} (h : rightB p = true) : inR p.size = true ∧ inR p.got = true ∧ okT p.name = true ∧ okT p.volume = true ∧ kindB p = true := by
  unfold rightB textsB at h
  simp only [Bool.and_eq_true] at h
  obtain ⟨h1, -, ⟨-, -, -, -, h2, -⟩, h3, h4, h5⟩ := h
  exact ⟨h3, h4, by unfold okT; rw [h1, Bool.or_true], h2, h5⟩
theorem inR_max {a b : Int} (ha : inR a = true) (hb : inR b = true) : inR (max a b) = true := by
  unfold inR at *
  simp only [Bool.and_eq_true, decide_eq_true_eq] at *
  omega
theorem claimD_right (l : List Obj) (ver : Int) (n : ByteArray) (h : AllR l) : (claimD l ver n).act ≠ 1 ∨ (claimD l ver n).act = 1 ∧ rightB (claimD l ver n).obj = true := by
  unfold claimD
  by_cases hok : okD l n = true
  · rw [if_pos hok]
    unfold okD at hok
    simp only [Bool.and_eq_true] at hok
    obtain ⟨h1, h2, -⟩ := hok
    obtain ⟨c, hc⟩ := Option.isSome_iff_exists.1 h1
    obtain ⟨p, hp⟩ := Option.isSome_iff_exists.1 h2
    have ec : clD l n = c := by unfold clD; rw [hc]; rfl
    have ep : voD l n = p := by unfold voD; rw [hp]; rfl
    rw [ec, ep]
    have kc := get_some hc
    have kp := get_some hp
    have rc := h.get hc
    have rp := h.get hp
    have ic := rightB_inR rc
    have ip := rightB_inR rp
    unfold growN
    by_cases h3 : p.got < c.size
    · rw [if_pos h3]
      by_cases h4 : c.size ≤ p.size ∧ p.num ≠ 0
      · rw [if_pos h4]
        exact .inl (by show (3 : Int) ≠ 1; decide)
      · rw [if_neg h4]
        refine .inr ⟨rfl, right_vol p _ _ kp.1 rp (inR_max ip.1 ic.1) ?_⟩
        have i1 := ip.2.1
        unfold inR at i1
        simp only [Bool.and_eq_true, decide_eq_true_eq] at i1
        omega
    · rw [if_neg h3]
      by_cases h4 : c.got = p.got
      · rw [if_pos h4]
        exact .inl (by show (0 : Int) ≠ 1; decide)
      · rw [if_neg h4]
        exact .inr ⟨rfl, right_got c _ kc.1 rc ip.2.1⟩
  · rw [if_neg hok]
    exact .inl (by show (0 : Int) ≠ 1; decide)
theorem no_write_0 : nothing.act ≠ 1 := by show (0 : Int) ≠ 1; decide
theorem no_write_d (s : Obj) : (dropN s).act ≠ 1 := by show (3 : Int) ≠ 1; decide
theorem snapD_right (l : List Obj) (ver : Int) (n : ByteArray) (h : AllR l) : (snapD l ver n).act ≠ 1 ∨ (snapD l ver n).act = 1 ∧ rightB (snapD l ver n).obj = true := by
  unfold snapD
  cases hs : getL l 7 n with
  | none => exact .inl no_write_0
  | some s =>
    have ks := get_some hs
    have rs := h.get hs
    have is := rightB_inR rs
    show (if handleD s = E0 then nothing else goN l s (up ver)).act ≠ 1 ∨ (if handleD s = E0 then nothing else goN l s (up ver)).act = 1 ∧ rightB (if handleD s = E0 then nothing else goN l s (up ver)).obj = true
    by_cases h1 : handleD s = E0
    · rw [if_pos h1]
      exact .inl no_write_0
    rw [if_neg h1]
    unfold goN
    by_cases h2 : s.deleting = true
    · rw [if_pos h2]
      by_cases h3 : madeOf l s = true
      · rw [if_pos h3]
        exact .inl no_write_0
      rw [if_neg h3]
      by_cases h4 : s.phase = 6
      · rw [if_pos h4]
        exact .inl (no_write_d s)
      rw [if_neg h4]
      exact .inr ⟨rfl, right_snap s s.volume 6 _ ks.1 rs is.2.2.2.1 rfl⟩
    rw [if_neg h2]
    by_cases h4 : s.phase = 6
    · rw [if_pos h4]
      exact .inl (no_write_d s)
    rw [if_neg h4]
    by_cases h5 : s.phase = 1
    · rw [if_pos h5]
      by_cases hok : okD l s.source = true
      · rw [if_pos hok]
        unfold okD at hok
        simp only [Bool.and_eq_true] at hok
        obtain ⟨-, h2, -⟩ := hok
        obtain ⟨p, hp⟩ := Option.isSome_iff_exists.1 h2
        have ep : voD l s.source = p := by unfold voD; rw [hp]; rfl
        rw [ep]
        exact .inr ⟨rfl, right_snap s p.name 10 _ ks.1 rs (rightB_inR (h.get hp)).2.2.1 rfl⟩
      · rw [if_neg hok]
        exact .inl no_write_0
    rw [if_neg h5]
    by_cases h6 : s.phase = 10
    · rw [if_pos h6]
      exact .inl (by show (3 : Int) ≠ 1; decide)
    · rw [if_neg h6]
      exact .inl no_write_0

theorem actbox2 (W : World) (x y : Ac) : ∃ V1 V2, (∀ {oi : Oper} {a : Act} {r q : Operand}, oi.op = .store 44 r q → a.eval r = .pointer (some ⟨W.heap.size, 0, none⟩) → a.eval q = encA x → (execOp a.eval oi).run Tryd.prog ((W.alloc (.cells (cellsA nothing) 44 (0, 0))).alloc (.cells (cellsA nothing) 44 (0, 0))) = .ok .skip V1) ∧
    (∀ {oi : Oper} {a : Act} {r q : Operand}, oi.op = .store 44 r q → a.eval r = .pointer (some ⟨W.heap.size + 1, 0, none⟩) → a.eval q = encA y → (execOp a.eval oi).run Tryd.prog V1 = .ok .skip V2) ∧
    BoxA V2 W.heap.size x ∧ BoxA V2 (W.heap.size + 1) y ∧ Below W.heap.size W V2 := by
  obtain ⟨h1, h2, h3⟩ := chain2 W (.cells (cellsA nothing) 44 (0, 0)) (.cells (cellsA nothing) 44 (0, 0))
  obtain ⟨V1, s1, b1, o1, l1⟩ := acting (show BoxA _ W.heap.size nothing from h1) x
  obtain ⟨V2, s2, b2, o2, l2⟩ := acting (show BoxA V1 (W.heap.size + 1) nothing from (o1 _ (by omega)).trans h2) y
  have hb1 := l1 _ _ h3 (Nat.le_refl _)
  have hb2 := l2 _ _ hb1 (by omega)
  exact ⟨V1, V2, s1, s2, (o2 _ (by omega)).trans b1, b2, hb2⟩
theorem fit_right {o : Obj} (h : rightB o = true) : Fit o := by
  unfold rightB textsB at h
  simp only [Bool.and_eq_true] at h
  obtain ⟨h0, -, ⟨h1, h2, h3, h4, h5, h6⟩, -⟩ := h
  have := (nameB_le h0).2
  have := okT_le h1
  have := okT_le h2
  have := okT_le h3
  have := okT_le h4
  have := okT_le h5
  have := okT_le h6
  constructor <;> omega
theorem obj_of_act {W : World} {b : Nat} {x : Ac} (h : BoxA W b x) : W.rangeAt b 1 (cellsO x.obj).toList := fun j u hu => by
  have hj : j < 20 := (List.getElem?_eq_some_iff.1 hu).1
  rw [cell_of_row W b (1 + j) _ _ _ h]
  have e : (cellsA x)[1 + j]? = (cellsO x.obj)[j]? := by
    have : ∀ k : Fin 20, (cellsA x)[1 + k.val]? = (cellsO x.obj)[k.val]? := by
      intro ⟨k, hk⟩
      rcases k with _|_|_|_|_|_|_|_|_|_|_|_|_|_|_|_|_|_|_|_|k <;> first | rfl | omega
    exact this ⟨j, hj⟩
  rw [e, ← Array.getElem?_toList]
  exact hu

set_option maxRecDepth 100000 in
set_option maxHeartbeats 4000000 in
theorem right_data_any (l : List Obj) (v : Value) (ver : Int) (n : ByteArray) (w : World) (hl : ObjsIn w v l) (hcp : ∀ o n c, v = .slice o n c → n ≤ c) (ht : Tab w) (hall : ∀ s ∈ l, (0 ≤ s.born ∧ s.born ≤ 18446744073709551615) ∧ s.name.size ≤ 140737488351232) (hfit : ∀ o ∈ l, Fit o) :
    Calls Tryd.prog 6 #[v, .int .u64 ver, .string n] w fun e w' => e = .returned (.bool true) ∧ Below w.heap.size w w' := by
  have HT := Lib.hid ht
  have HF := Lib.hid (few_any l v w hl hcp)
  obtain ⟨o, cp, rfl, -, -⟩ := id hl
  have hall2 : ∀ s ∈ l.take 24, (0 ≤ s.born ∧ s.born ≤ 18446744073709551615) ∧ s.name.size ≤ 140737488351232 := fun s hs => hall s (List.mem_of_mem_take hs)
  have hfit2 : ∀ s ∈ l.take 24, Fit s := fun s hs => hfit s (List.mem_of_mem_take hs)
  clear ht hl hcp hall hfit
  go_enter Tryd.func6, Tryd.ntmps6
  go_wp2_with (fail)
  refine HF.out.mono ?_
  rintro e W1 ⟨v1, rfl, hl1, rfl⟩
  clear HF
  generalize l.take 24 = q at *
  obtain ⟨o1, c1, rfl, hm, -⟩ := id hl1
  have HL := Lib.hid hl1
  have HALL := Lib.hid hall2
  have HFIT := Lib.hid hfit2
  clear hl1 hall2 hfit2
  go_wp2_with (fail)
  go_loopw [7] (fun i wr => ∃ j : Nat, i = .int .i64 (j : Int) ∧ j ≤ q.length ∧ Hid (AllR (q.take j)) ∧ Below W1.heap.size W1 wr) (fun i _ => q.length - (RowKit.intOf i).toNat)
  case atStart => exact ⟨0, rfl, Nat.zero_le _, by show AllR _; intro o ho; simp at ho, Below.refl _ _⟩
  case round =>
    obtain ⟨j, rfl, hj, hR, hlow⟩ := hrel
    have HLOW := Lib.hid hlow
    clear hlow
    by_cases hlt : j < q.length
    · have hlt' : (j : Int) < (q.length : Int) := by omega
      have hobj := HL.out.after HLOW.out
      obtain ⟨o', c', he, -, hi⟩ := id hobj
      cases he
      obtain ⟨g, off, rfl, -, hrow⟩ := hi j hlt
      obtain ⟨x, hx⟩ : ∃ x, q[j] = x := ⟨_, rfl⟩
      rw [hx] at hrow
      have HROW := Lib.hid hrow
      have hfx := HFIT.out q[j] (List.getElem_mem hlt)
      rw [hx] at hfx
      have HRX := Lib.hid (fun V => refRight_any x V hfx)
      have HNX : Hid (rightB x = true → AllR (q.take (j + 1))) := by
        show _ → _
        intro hr o ho
        rw [List.take_succ_eq_append_getElem hlt, List.mem_append] at ho
        rcases ho with ho | ho
        · exact hR.out o ho
        · have : o = x := by simpa [hx] using ho
          rw [this]
          exact hr
      obtain ⟨rb, hrb⟩ : ∃ rb, rightB x = rb := ⟨_, rfl⟩
      rw [hrb] at HRX HNX
      have HV := Lib.hid (fun V (hV : Tab V) => live_any V hV)
      clear hi hx hrow hfx hobj hrb hR
      go_wp2_with (refine wpList_got rfl (load_mid HROW.out rfl rfl) ?_)
      refine (HRX.out _).mono ?_
      rintro e W2 ⟨rfl, hb2⟩
      have HW := Lib.hid (HLOW.out.trans (hb2.mono HLOW.out.size))
      clear hb2 HLOW HRX HROW
      cases rb with
      | false =>
        go_wp2_with (fail)
        refine (HV.out _ (HT.out.after HW.out)).mono ?_
        rintro e W3 ⟨rfl, hb3⟩
        have HX := Lib.hid (HW.out.trans (hb3.mono HW.out.size))
        clear hb3 HW HV HNX
        go_wp2
        go_ret
        exact ⟨rfl, HX.out⟩
      | true =>
        have HN := Lib.hid (HNX.out rfl)
        clear HV HNX
        go_wp2
        go_roundw
        case rel => exact ⟨j + 1, by go_num, by omega, HN, HW.out⟩
        case measure => simp [RowKit.intOf]; omega
    · have hlt' : ¬ (j : Int) < (q.length : Int) := by omega
      have hRR : AllR q := by
        have h := hR.out
        rw [List.take_of_length_le (by omega)] at h
        exact h
      have HC := Lib.hid (claimD_any q _ ver n _ (HL.out.after HLOW.out))
      have HSN := Lib.hid (fun V (h1 : ObjsIn V (.slice o1 q.length c1) q) (h2 : Tab V) => snapAll_any q _ ver n V h1 h2 HALL.out)
      have hca := claimD_right q ver n hRR
      have hcb := snapD_right q ver n hRR
      obtain ⟨A, hA⟩ : ∃ A, claimD q ver n = A := ⟨_, rfl⟩
      obtain ⟨B, hB⟩ : ∃ B, snapD q ver n = B := ⟨_, rfl⟩
      rw [hA] at HC hca
      rw [hB] at HSN hcb
      have HCA := Lib.hid hca
      have HCB := Lib.hid hcb
      clear hA hB hca hcb hRR hR
      go_wp2_with (fail)
      refine HC.out.mono ?_
      rintro e W2 ⟨rfl, hb2⟩
      have HW := Lib.hid (HLOW.out.trans (hb2.mono HLOW.out.size))
      clear HC HLOW hb2
      go_wp2_with (fail)
      refine (HSN.out _ (HL.out.after HW.out) (HT.out.after HW.out)).mono ?_
      rintro e W3 ⟨rfl, hb3⟩
      have HW3 := Lib.hid (HW.out.trans (hb3.mono HW.out.size))
      clear HSN HW hb3
      obtain ⟨X1, X2, s1, s2, ba, bb, lx⟩ := actbox2 W3 A B
      have HWX := Lib.hid (HW3.out.trans (lx.mono HW3.out.size))
      have HBA := Lib.hid ba
      have HBB := Lib.hid bb
      clear ba bb lx
      go_wp2_with (first | (refine wpList_skip rfl (s1 rfl rfl rfl) ?_) | (refine wpList_skip rfl (s2 rfl rfl rfl) ?_))
      refine (live_any _ (HT.out.after HWX.out)).mono ?_
      rintro e W4 ⟨rfl, hb4⟩
      have hba4 := HBA.out.after hb4
      have hbb4 := HBB.out.after hb4
      have HW4 := Lib.hid (HWX.out.trans (hb4.mono HWX.out.size))
      have a0 : W4.cell? ⟨W3.heap.size, 0, none⟩ = some (.int .u8 A.act) := (cell_of_row W4 _ 0 _ _ _ hba4).trans rfl
      have b0 : W4.cell? ⟨W3.heap.size + 1, 0, none⟩ = some (.int .u8 B.act) := (cell_of_row W4 _ 0 _ _ _ hbb4).trans rfl
      have HOA := Lib.hid (obj_of_act hba4)
      have HBB4 := Lib.hid hbb4
      clear hb4 HBA HBB HWX HW3 s1 s2 hba4 hbb4
      rcases HCA.out with ea | ⟨ea, ra⟩
      · have e1 : (A.act != 1) = true := by simpa using ea
        clear ea
        rcases HCB.out with eb | ⟨eb, rb⟩
        · have e2 : (B.act != 1) = true := by simpa using eb
          clear eb HCA HCB
          go_wp2
          go_ret
          exact ⟨rfl, HW4.out⟩
        · have e2 : (B.act != 1) = false := by rw [eb]; rfl
          have HRB := Lib.hid (fun V => refRight_any B.obj V (fit_right rb))
          rw [rb] at HRB
          have HOB := Lib.hid (obj_of_act HBB4.out)
          clear eb rb HCA HCB
          go_wp2_with (refine wpList_got rfl (load_mid HOB.out rfl rfl) ?_)
          refine (HRB.out _).mono ?_
          rintro e W5 ⟨rfl, hb5⟩
          have HX := Lib.hid (HW4.out.trans (hb5.mono HW4.out.size))
          clear hb5 HW4 HRB
          go_wp2
          go_ret
          exact ⟨rfl, HX.out⟩
      · have e1 : (A.act != 1) = false := by rw [ea]; rfl
        have HRA := Lib.hid (fun V => refRight_any A.obj V (fit_right ra))
        rw [ra] at HRA
        clear ea ra b0
        go_wp2_with (refine wpList_got rfl (load_mid HOA.out rfl rfl) ?_)
        refine (HRA.out _).mono ?_
        rintro e W5 ⟨rfl, hb5⟩
        have HW5 := Lib.hid (HW4.out.trans (hb5.mono HW4.out.size))
        have hbb5 := HBB4.out.after hb5
        have b0 : W5.cell? ⟨W3.heap.size + 1, 0, none⟩ = some (.int .u8 B.act) := (cell_of_row W5 _ 0 _ _ _ hbb5).trans rfl
        have HOB := Lib.hid (obj_of_act hbb5)
        clear hb5 HRA HW4 hbb5 HOA a0
        rcases HCB.out with eb | ⟨eb, rb⟩
        · have e2 : (B.act != 1) = true := by simpa using eb
          clear eb HCA HCB
          go_wp2
          go_ret
          exact ⟨rfl, HW5.out⟩
        · have e2 : (B.act != 1) = false := by rw [eb]; rfl
          have HRB := Lib.hid (fun V => refRight_any B.obj V (fit_right rb))
          rw [rb] at HRB
          clear eb rb HCA HCB
          go_wp2_with (refine wpList_got rfl (load_mid HOB.out rfl rfl) ?_)
          refine (HRB.out _).mono ?_
          rintro e W6 ⟨rfl, hb6⟩
          have HX := Lib.hid (HW5.out.trans (hb6.mono HW5.out.size))
          clear hb6 HW5 HRB
          go_wp2
          go_ret
          exact ⟨rfl, HX.out⟩
end Go.Proofs.YtdlbpfallmpkoaaDoor.O.B
