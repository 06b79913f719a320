/- The law's same: do both logs tell the same? -/
import Derived.Test.YtfiahkomabllaaaRPlay
import Derived.Test.YtfiahkomabllaaaHeldCalls
namespace Go.Proofs.Ytfiahkomabllaaa.L
open Go Go.RowKit
open Go.Lib

theorem same_yes (a1 a2 : Option Addr) (c1 c2 n : Nat) (A : List Bytes) (w : World) (e1 : A.length = n) (h1 : RowsAt w a1 c1 A) (h2 : RowsAt w a2 c2 A) :
    Calls Try.prog 23 #[.slice a1 n c1, .slice a2 n c2] w fun e w' => e = .returned (.bool true) ∧ Below w.heap.size w w' := by
  subst e1
  have := same_any a1 a2 c1 c2 A A w h1 h2
  rwa [decide_eq_true rfl] at this
set_option maxRecDepth 100000 in
set_option maxHeartbeats 2000000 in
theorem same05_any (B q p : Nat) (og : Option Nat) (s : Lg) (w : World) (h : Pair B w q og p s) :
    Calls Try.prog 13 #[.pointer (some ⟨q, 0, none⟩), .pointer (some ⟨p, 0, none⟩)] w fun e w' => e = .returned (.bool true) ∧ Below w.heap.size w w' := by
  have HP := Lib.hid h
  have HW : Hid (Below w.heap.size w w) := Below.refl _ _
  obtain ⟨b, hb⟩ : ∃ b, s.b = b := ⟨_, rfl⟩
  obtain ⟨A, hA⟩ : ∃ A, recs b = A := ⟨_, rfl⟩
  obtain ⟨n, hn⟩ : ∃ n, A.length = n := ⟨_, rfl⟩
  obtain ⟨x, hx⟩ : ∃ x, (s.most : Int) - ((b.length / 64 : Nat) : Int) = x := ⟨_, rfl⟩
  have HBY : Hid (∀ V, Pair B V q og p s → Calls Try.prog 20 #[.pointer (some ⟨q, 0, none⟩)] V (BytesR b V)) := fun V h => by rw [← hb]; exact bytes_any B q og s V h.log
  have HRB : Hid (∀ V, Pair B V q og p s → Calls Try.prog 32 #[.pointer (some ⟨p, 0, none⟩)] V (BytesR b V)) := fun V h => by rw [← hb]; exact rbytes_any B p s V h.doc
  have HFR : Hid (∀ V, Pair B V q og p s → Calls Try.prog 26 #[.pointer (some ⟨q, 0, none⟩)] V fun e w' => e = .returned (.int .i64 x) ∧ Below V.heap.size V w') := fun V h => by rw [← hx, ← hb]; exact free_any B q og s V h.log
  have HRF : Hid (∀ V, Pair B V q og p s → Calls Try.prog 33 #[.pointer (some ⟨p, 0, none⟩)] V fun e w' => e = .returned (.int .i64 x) ∧ Below V.heap.size V w') := fun V h => by rw [← hx, ← hb]; exact rfree_any B p s V h.doc
  have HRC : Hid (∀ V, Pair B V q og p s → Calls Try.prog 19 #[.pointer (some ⟨q, 0, none⟩)] V (RecsR A V)) := fun V h => by rw [← hA, ← hb]; exact records_any B q og s V h.log
  have HRR : Hid (∀ V, Pair B V q og p s → Calls Try.prog 34 #[.pointer (some ⟨p, 0, none⟩)] V (RecsR A V)) := fun V h => by rw [← hA, ← hb]; exact rrecords_any B p s V h.doc
  have HNA := Lib.hid hn
  clear h hb hA hn hx
  go_enter Try.func13, Try.ntmps13
  go_wp2
  refine wp_region_held_drew (S := fun V => Below w.heap.size w V) (by kernel_rfl) HW.out.drew (fun _ => ?_)
  refine HeldBy.gen (fun V => (Below w.heap.size w V) ∧ (Pair B V q og p s)) ⟨HW.out.drew, HP.out.drew⟩ ?_
  clear HW HP
  rintro U0 ⟨HS, HP⟩
  refine HeldBy.take (i := 0) rfl (by kernel_rfl) (by kernel_rfl) (by kernel_rfl) (fun _ _ _ h => h) (by rfl) (fun _ _ => by first | (go_simp; rfl) | (go_simp; done)) (by first | (go_simp; rfl) | (go_simp; done)) HS ?_
  refine HeldBy.take (i := 3) rfl (by kernel_rfl) (by kernel_rfl) (by kernel_rfl) (fun _ _ _ h => h) (by rfl) (fun _ _ => by first | (go_simp; rfl) | (go_simp; done)) (by first | (go_simp; rfl) | (go_simp; done)) HS ?_
  refine HeldBy.callE (i := 1) rfl (by kernel_rfl) rfl (by first | (go_simp; done) | (go_simp; first | exact ⟨rfl, rfl⟩ | rfl)) (HBY.out U0 HP) ?_
  rintro r1 U1 ⟨hr1, hb1⟩
  have HS1 : Below w.heap.size w U1 := HS.trans (hb1.mono HS.size)
  have HP1 := HP.after hb1
  refine ⟨HS1, ?_⟩
  refine HeldBy.conv_call (i := 2) (k := 4) (j := 5) (u := .string ⟨b.toArray⟩) (x := .string ⟨b.toArray⟩) (R := fun v V => Held V U1.heap.size v b ∧ Below U1.heap.size U1 V) (by kernel_rfl) (by kernel_rfl) (by kernel_rfl) (by kernel_rfl) (by kernel_rfl) (by kernel_rfl) rfl rfl rfl rfl rfl rfl
    (exec_str hr1.bytes rfl rfl) (by first | (go_simp; done) | (go_simp; first | exact ⟨rfl, rfl⟩ | rfl)) (by first | (go_simp; done) | (go_simp; first | exact ⟨rfl, rfl⟩ | rfl)) (HRB.out U1 HP1) HS1 (fun v V hV => HS1.trans (hV.2.mono HS1.size)) (fun v V hV => exec_str (hr1.bytes.after hV.2) rfl rfl) (fun v V hV => exec_str (hr1.bytes.after hV.2) rfl rfl) (fun v V hV => exec_str hV.1.bytes rfl rfl) (fun v V hV => exec_str hV.1.bytes rfl rfl) (fun v V hV => exec_str hV.1.bytes rfl rfl)
    (fun v => by go_simp; rfl) (fun v => by first | (go_simp; rfl) | (go_simp; done)) (fun v => by first | (go_simp; rfl) | (go_simp; done)) rfl rfl rfl ?_
  rintro r2 U2 ⟨hr2, hb2⟩
  have HS2 : Below w.heap.size w U2 := HS1.trans (hb2.mono HS1.size)
  have HP2 := HP1.after hb2
  refine HeldBy.take (i := 6) (v := .bool true) rfl (by kernel_rfl) (by kernel_rfl) (by kernel_rfl) (fun _ _ _ h => h) (by rfl) (fun _ _ => exec_eql_str rfl rfl rfl (decide_eq_true rfl)) (by first | (go_simp; rfl) | (go_simp; done)) HS2 ?_
  refine HeldBy.take (i := 7) rfl (by kernel_rfl) (by kernel_rfl) (by kernel_rfl) (fun _ _ _ h => h) (by rfl) (fun _ _ => by first | (go_simp; rfl) | (go_simp; done)) (by first | (go_simp; rfl) | (go_simp; done)) HS2 ?_
  refine HeldBy.take (i := 8) rfl (by kernel_rfl) (by kernel_rfl) (by kernel_rfl) (fun _ _ _ h => h) (by rfl) (fun _ _ => by first | (go_simp; rfl) | (go_simp; done)) (by first | (go_simp; rfl) | (go_simp; done)) HS2 ?_
  refine HeldBy.take (i := 10) rfl (by kernel_rfl) (by kernel_rfl) (by kernel_rfl) (fun _ _ _ h => h) (by rfl) (fun _ _ => by first | (go_simp; rfl) | (go_simp; done)) (by first | (go_simp; rfl) | (go_simp; done)) HS2 ?_
  refine HeldBy.call (i := 9) (v := .int .i64 x) rfl (by kernel_rfl) (by rfl) (by first | (go_simp; done) | (go_simp; first | exact ⟨rfl, rfl⟩ | rfl)) (by first | (go_simp; rfl) | (go_simp; done)) ?_
  refine (HFR.out U2 HP2).mono ?_
  rintro e U3 ⟨rfl, hb3⟩
  have HS3 : Below w.heap.size w U3 := HS2.trans (hb3.mono HS2.size)
  have HP3 := HP2.after hb3
  refine ⟨rfl, HS3, ?_⟩
  refine HeldBy.call (i := 11) (v := .int .i64 x) rfl (by kernel_rfl) (by rfl) (by first | (go_simp; done) | (go_simp; first | exact ⟨rfl, rfl⟩ | rfl)) (by first | (go_simp; rfl) | (go_simp; done)) ?_
  refine (HRF.out U3 HP3).mono ?_
  rintro e U4 ⟨rfl, hb4⟩
  have HS4 : Below w.heap.size w U4 := HS3.trans (hb4.mono HS3.size)
  have HP4 := HP3.after hb4
  refine ⟨rfl, HS4, ?_⟩
  refine HeldBy.take (i := 12) (v := .bool true) rfl (by kernel_rfl) (by kernel_rfl) (by kernel_rfl) (fun _ _ _ h => h) (by rfl) (fun _ _ => by first | (go_simp; done) | (go_simp; rfl)) (by first | (go_simp; rfl) | (go_simp; done)) HS4 ?_
  refine HeldBy.take (i := 13) rfl (by kernel_rfl) (by kernel_rfl) (by kernel_rfl) (fun _ _ _ h => h) (by rfl) (fun _ _ => by first | (go_simp; rfl) | (go_simp; done)) (by first | (go_simp; rfl) | (go_simp; done)) HS4 ?_
  refine HeldBy.take (i := 14) rfl (by kernel_rfl) (by kernel_rfl) (by kernel_rfl) (fun _ _ _ h => h) (by rfl) (fun _ _ => by first | (go_simp; rfl) | (go_simp; done)) (by first | (go_simp; rfl) | (go_simp; done)) HS4 ?_
  refine HeldBy.take (i := 15) rfl (by kernel_rfl) (by kernel_rfl) (by kernel_rfl) (fun _ _ _ h => h) (by rfl) (fun _ _ => by first | (go_simp; rfl) | (go_simp; done)) (by first | (go_simp; rfl) | (go_simp; done)) HS4 ?_
  refine HeldBy.take (i := 17) rfl (by kernel_rfl) (by kernel_rfl) (by kernel_rfl) (fun _ _ _ h => h) (by rfl) (fun _ _ => by first | (go_simp; rfl) | (go_simp; done)) (by first | (go_simp; rfl) | (go_simp; done)) HS4 ?_
  refine HeldBy.callW (i := 16) rfl (by kernel_rfl) (by rfl) (by first | (go_simp; done) | (go_simp; first | exact ⟨rfl, rfl⟩ | rfl)) (HRC.out U4 HP4) ?_
  rintro r5 U5 ⟨hr5, hb5⟩
  have HS5 : Below w.heap.size w U5 := HS4.trans (hb5.mono HS4.size)
  have HP5 := HP4.after hb5
  refine ⟨HS5, ?_⟩
  refine HeldBy.callW (i := 18) rfl (by kernel_rfl) (by rfl) (by first | (go_simp; done) | (go_simp; first | exact ⟨rfl, rfl⟩ | rfl)) (HRR.out U5 HP5) ?_
  rintro r6 U6 ⟨hr6, hb6⟩
  have HS6 : Below w.heap.size w U6 := HS5.trans (hb6.mono HS5.size)
  refine ⟨HS6, ?_⟩
  have hr5b := hr5.stay hb6
  obtain ⟨a1, c1, rfl⟩ := hr5.shape
  obtain ⟨a2, c2, rfl⟩ := hr6.shape
  have hsm := same_yes a1 a2 c1 c2 n A U6 HNA.out (hr5b.rows.1) (hr6.rows.1)
  refine HeldBy.call (i := 19) (v := .bool true) (f := 23) (args := #[.slice a1 n c1, .slice a2 n c2]) rfl (by kernel_rfl) (by rfl) (by rw [← HNA.out]; first | (go_simp; done) | (go_simp; first | exact ⟨rfl, rfl⟩ | rfl)) (by first | (go_simp; rfl) | (go_simp; done)) ?_
  refine hsm.mono ?_
  rintro e U7 ⟨rfl, hb7⟩
  have HS7 : Below w.heap.size w U7 := HS6.trans (hb7.mono HS6.size)
  refine ⟨rfl, HS7, ?_⟩
  refine HeldBy.take (i := 20) rfl (by kernel_rfl) (by kernel_rfl) (by kernel_rfl) (fun _ _ _ h => h) (by rfl) (fun _ _ => by first | (go_simp; rfl) | (go_simp; done)) (by first | (go_simp; rfl) | (go_simp; done)) HS7 ?_
  refine HeldBy.take (i := 21) rfl (by kernel_rfl) (by kernel_rfl) (by kernel_rfl) (fun _ _ _ h => h) (by rfl) (fun _ _ => by first | (go_simp; rfl) | (go_simp; done)) (by first | (go_simp; rfl) | (go_simp; done)) HS7 ?_
  refine wpAnyH_done (by kernel_rfl) ?_ _
  have HEND := Lib.hid HS7
  clear HS HS1 HS2 HS3 HS4 HS5 HS6 HS7 hb1 hb2 hb3 hb4 hb5 hb6 hb7 hr1 hr2 hr5 hr6 hr5b hsm HP HP1 HP2 HP3 HP4 HP5
  go_wp2
  go_ret
  exact ⟨rfl, HEND.out⟩
end Go.Proofs.Ytfiahkomabllaaa.L
