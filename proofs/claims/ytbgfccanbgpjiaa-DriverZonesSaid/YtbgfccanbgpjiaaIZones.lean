/- Which zones may be: the walk. -/
import Derived.Test.YtbgfccanbgpjiaaIRNew
import Derived.Test.YtbgfccanbgpjiaaILive
import Derived.Test.YtbgfccanbgpjiaaIZero
namespace Go.Proofs.Ytbgfccanbgpjiaa.O.I
open Go Go.RowKit Go.Lib KM
attribute [local go_sem] Oper.semAt_some

theorem rooms_at : ∀ {l : List Zn}, (l.map (·.name)).Nodup → ∀ z ∈ l, KM.get z.name (roomsZ l) = some (.int .i64 z.room)
  | q :: r, h, z, hz => by
    obtain ⟨h1, h2⟩ := List.nodup_cons.1 (show (q.name :: r.map (·.name)).Nodup from h)
    unfold roomsZ
    rw [List.map_cons]
    unfold KM.get
    rcases List.mem_cons.1 hz with rfl | h3
    · rw [if_pos rfl]
    · rw [if_neg (fun e => h1 (List.mem_map.2 ⟨z, h3, e⟩))]
      exact rooms_at h2 z h3
theorem new_no (v : Value) (l : List Zn) (w : World) (hz : ZonesIn w v l) (h : zonesB l = false) : Calls Try.prog 19 #[v] w fun e w' => e = .returned (.pointer none) ∧ Below w.heap.size w w' := by
  refine (new_any v l w hz).mono ?_
  rintro e w' ⟨rfl, -, hb⟩
  rw [h]
  exact ⟨rfl, hb⟩
theorem new_yes (v : Value) (l : List Zn) (w : World) (hz : ZonesIn w v l) (h : zonesB l = true) : Calls Try.prog 19 #[v] w fun e w' => e = .returned (.pointer (some ⟨w.heap.size + 4, 0, none⟩)) ∧ DrAt w' (w.heap.size + 4) w.heap.size (w.heap.size + 1) (w.heap.size + 2) (w.heap.size + 3) (roomsZ l) [] [] [] ∧ Below w.heap.size w w' := by
  refine (new_any v l w hz).mono ?_
  rintro e w' ⟨rfl, hd, hb⟩
  have hd' := hd h
  rw [h]
  exact ⟨rfl, hd', hb⟩
theorem rnew_no (v : Value) (l : List Zn) (w : World) (hz : ZonesIn w v l) (hf : ∀ z ∈ l, FitZ z) (h : zonesB l = false) : Calls Try.prog 20 #[v] w fun e w' => e = .returned (.pointer none) ∧ Below w.heap.size w w' := by
  refine (ref_new v l w hz hf).mono ?_
  rintro e w' ⟨q, rfl, -, hb⟩
  rw [h]
  exact ⟨rfl, hb⟩
theorem rnew_yes (v : Value) (l : List Zn) (w : World) (hz : ZonesIn w v l) (hf : ∀ z ∈ l, FitZ z) (h : zonesB l = true) : Calls Try.prog 20 #[v] w fun e w' => ∃ q, e = .returned (.pointer (some ⟨q, 0, none⟩)) ∧ (w.heap.size ≤ q ∧ ∃ s : Sl, BoxQ w' q ⟨s, nilS, nilS, nilS⟩ ∧ w'.ownsRow w.heap.size 42 2 (encSl s) l.length (catZ l)) ∧ Below w.heap.size w w' := by
  refine (ref_new v l w hz hf).mono ?_
  rintro e w' ⟨q, rfl, hq, hb⟩
  have hq' := hq h
  rw [h]
  exact ⟨q, rfl, hq', hb⟩
set_option maxRecDepth 100000 in
set_option maxHeartbeats 4000000 in
theorem zones_any (v : Value) (l : List Zn) (w : World) (hz : ZonesIn w v l) (hf : ∀ z ∈ l, FitZ z) :
    Calls Try.prog 4 #[v] w fun e w' => e = .returned (.bool true) ∧ Below w.heap.size w w' := by
  obtain ⟨o, cp, rfl, hmx, hzs⟩ := id hz
  have HZS := Lib.hid hzs
  cases hzb : zonesB l with
  | false =>
    have HN := Lib.hid (new_no _ l w hz hzb)
    have HR := Lib.hid (fun W (hb : Below w.heap.size w W) => rnew_no _ l W (hz.after hb) hf hzb)
    clear hz hf hzs hzb HZS
    go_enter Try.func4, Try.ntmps4
    go_wp2_with (fail)
    refine HN.out.mono ?_
    rintro e W1 ⟨rfl, hb1⟩
    have HR1 := Lib.hid (HR.out W1 hb1)
    have HB1 := Lib.hid hb1
    clear hb1 HN HR
    go_wp2_with (fail)
    refine HR1.out.mono ?_
    rintro e W2 ⟨rfl, hb2⟩
    have HW := Lib.hid (HB1.out.trans (hb2.mono HB1.out.size))
    clear hb2 HR1 HB1
    go_wp2_with (fail)
    refine (live_any W2).mono ?_
    rintro e W3 ⟨rfl, hb3⟩
    have HX := Lib.hid (HW.out.trans (hb3.mono HW.out.size))
    clear hb3 HW
    go_wp2
    go_ret
    exact ⟨rfl, HX.out⟩
  | true =>
    have HN := Lib.hid (new_yes _ l w hz hzb)
    have HR := Lib.hid (fun W (hb : Below w.heap.size w W) => rnew_yes _ l W (hz.after hb) hf hzb)
    have HND : Hid ((l.map (·.name)).Nodup) := ((zonesB_iff l).1 hzb).2.2.2
    clear hz hf hzs hzb
    go_enter Try.func4, Try.ntmps4
    go_wp2_with (fail)
    refine HN.out.mono ?_
    rintro e W1 ⟨rfl, hd, hb1⟩
    have HR1 := Lib.hid (HR.out W1 hb1)
    have HD := Lib.hid hd
    have HB1 := Lib.hid hb1
    clear hd hb1 HN HR
    go_wp2_with (fail)
    refine HR1.out.mono ?_
    rintro e W2 ⟨q, rfl, -, hb2⟩
    have HW := Lib.hid (HB1.out.trans (hb2.mono HB1.out.size))
    have HDD := Lib.hid (HD.out.after hb2)
    clear hb2 HR1 HD HB1
    go_wp2
    go_loopw [5] (fun iv wr => ∃ j : Nat, iv = .int .i64 (j : Int) ∧ j ≤ l.length ∧ W2 = wr) (fun iv _ => l.length - (RowKit.intOf iv).toNat)
    case atStart => exact ⟨0, rfl, Nat.zero_le _, rfl⟩
    case round =>
      obtain ⟨j, rfl, hj, rfl⟩ := hrel
      by_cases hlt : j < l.length
      · have hlt' : (j : Int) < (l.length : Int) := by omega
        obtain ⟨g, off, rfl, hgw, hrow⟩ := HZS.out j hlt
        have HRM := Lib.hid (room_is l[j].name _ (rooms_at HND.out l[j] (List.getElem_mem hlt)) W2 HDD.out)
        obtain ⟨z, hzz⟩ : ∃ z, l[j] = z := ⟨_, rfl⟩
        rw [hzz] at hrow HRM
        have z0 : W2.cell? ⟨g, off + j * 2, none⟩ = some (.string z.name) := (HW.out.cell (p := ⟨g, off + j * 2, none⟩) hgw).trans (hrow 0 _ rfl)
        have z1 : W2.cell? ⟨g, off + j * 2 + 1, none⟩ = some (.int .i64 z.room) := (HW.out.cell (p := ⟨g, off + j * 2 + 1, none⟩) hgw).trans (hrow 1 _ rfl)
        clear hrow hgw hzz
        go_wp2_with (fail)
        refine HRM.out.mono ?_
        rintro e W3 ⟨rfl, rfl⟩
        clear HRM
        go_wp2
        go_roundw
        case rel => exact ⟨j + 1, by go_num, by omega, trivial⟩
        case measure => simp [RowKit.intOf]; omega
      · have hlt' : ¬ (j : Int) < (l.length : Int) := by omega
        clear HZS
        go_wp2_with (fail)
        refine (live_any W2).mono ?_
        rintro e W3 ⟨rfl, hb3⟩
        have HVZ := Lib.hid (volumes_zero _ _ _ _ _ _ _ _ W3 (HDD.out.after hb3))
        have HD3 := Lib.hid (HDD.out.after hb3)
        have HX := Lib.hid (HW.out.trans (hb3.mono HW.out.size))
        clear hb3 HW HDD
        go_wp2_with (fail)
        refine HVZ.out.mono ?_
        rintro e W4 ⟨rfl, hb4⟩
        have HSZ := Lib.hid (snaps_zero _ _ _ _ _ _ _ _ W4 (HD3.out.after hb4))
        have HX4 := Lib.hid (HX.out.trans (hb4.mono HX.out.size))
        clear hb4 HX HD3 HVZ
        go_wp2_with (fail)
        refine HSZ.out.mono ?_
        rintro e W5 ⟨rfl, hb5⟩
        have HX5 := Lib.hid (HX4.out.trans (hb5.mono HX4.out.size))
        clear hb5 HX4 HSZ
        go_wp2
        go_ret
        exact ⟨rfl, HX5.out⟩
end Go.Proofs.Ytbgfccanbgpjiaa.O.I
