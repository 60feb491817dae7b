/- The program's PairCut answers as the specification's PairCut at every argument; nothing that was there is written. No condition. -/
import Derived.Test.YteigdooniolmlaaRows
import Derived.WalkKit
import Derived.ProofKit
import Derived.OpenShut
import Derived.Below
import Derived.Carry
import Derived.Test.YteigdooniolmlaaO1
import Derived.Test.YteigdooniolmlaaR9
import Derived.Test.YteigdooniolmlaaCut
import Derived.Test.YteigdooniolmlaaJ0
import Derived.Test.YteigdooniolmlaaJ1
import Derived.Test.YteigdooniolmlaaJ4
import Derived.Test.YteigdooniolmlaaJ5
import Derived.Test.YteigdooniolmlaaJ6
namespace Go.Proofs.Yteigdooniolmlaa
open Go.ChangeShapes Go.WideShapes Go.ChangeAt Go.RowKit
set_option linter.unusedVariables false

theorem FnExactPairCut_own : ownKnob Try.prog.godebug = none := by kernel_rfl

set_option maxRecDepth 100000 in
set_option maxHeartbeats 4000000 in
theorem FnExactPairCut_walk (a0 : Int) (wa0 : -9223372036854775808 ≤ a0 ∧ a0 ≤ 9223372036854775807) (a1 b1 : Int) (wa1 : -9223372036854775808 ≤ a1 ∧ a1 ≤ 9223372036854775807) (wb1 : -9223372036854775808 ≤ b1 ∧ b1 ≤ 9223372036854775807) (a2 b2 : Int) (wa2 : -9223372036854775808 ≤ a2 ∧ a2 ≤ 9223372036854775807) (wb2 : -9223372036854775808 ≤ b2 ∧ b2 ≤ 9223372036854775807) (w : World) :
    Calls Try.prog 11 #[.int .i64 a0, .agg #[.int .i64 a1, .int .i64 b1], .agg #[.int .i64 a2, .int .i64 b2]] w fun e w' => e = .returned (.bool true) ∧ Below w.heap.size w w' := by
  have S := hd (sPairCut a0 a1 b1 a2 b2 wa1 wb1 wa2 wb2)
  have I := hd (iPairCut a0 a1 b1 a2 b2 wa1 wb1 wa2 wb2)
  obtain ⟨x1, x2, x3, x4, r, hv⟩ := cutV_eq a0 a1 b1 a2 b2
  rw [hv] at S I
  clear hv
  have E1 := hd (eqPair_same x1 x2)
  have E2 := hd (eqPair_same x3 x4)
  have n1 : w.heap.size ≠ w.heap.size + 1 + 1 := by omega
  have n2 : w.heap.size + 1 + 1 ≠ w.heap.size := by omega
  have n3 : w.heap.size ≠ w.heap.size + 1 + 1 + 1 := by omega
  have n4 : w.heap.size + 1 + 1 + 1 ≠ w.heap.size := by omega
  have n5 : w.heap.size + 1 ≠ w.heap.size + 1 + 1 + 1 := by omega
  have n6 : w.heap.size + 1 + 1 + 1 ≠ w.heap.size + 1 := by omega
  have K : Cel2 ((w.alloc (.cells #[.int .i64 a1, .int .i64 b1] 39)).alloc (.cells #[.int .i64 a2, .int .i64 b2] 39)) w.heap.size (.int .i64 a1) (.int .i64 b1) := (Cel2.made w _ rfl _ _ _).alloc _
  have M : Cel2 ((w.alloc (.cells #[.int .i64 a1, .int .i64 b1] 39)).alloc (.cells #[.int .i64 a2, .int .i64 b2] 39)) (w.heap.size + 1) (.int .i64 a2) (.int .i64 b2) := Cel2.made _ _ (by simp) _ _ _
  go_enter Try.func11, Try.ntmps11
  go_upto_region 1 with fail
  go_cut [7, 8, 9] (fun s s' t wx => ∃ b c, s = .pointer (some ⟨b, 0, none⟩) ∧ s' = .pointer (some ⟨c, 0, none⟩) ∧ t = .bool r ∧ Cel2 wx b (.int .i64 x1) (.int .i64 x2) ∧ Cel2 wx c (.int .i64 x3) (.int .i64 x4) ∧ Cel2 wx (w.heap.size) (.int .i64 a1) (.int .i64 b1) ∧ Cel2 wx (w.heap.size + 1) (.int .i64 a2) (.int .i64 b2) ∧ Below w.heap.size w wx)
  case first =>
    go_wp2_with fail
    go_region_held3 (fun w' => w'.cell? ⟨w.heap.size, 0, none⟩ = some (.int .i64 a1) ∧ w'.cell? ⟨w.heap.size, 1, none⟩ = some (.int .i64 b1) ∧ w'.cell? ⟨w.heap.size + 1, 0, none⟩ = some (.int .i64 a2) ∧ w'.cell? ⟨w.heap.size + 1, 1, none⟩ = some (.int .i64 b2)) (go_keep) (first | (go_at_call_of 27 (Value.agg #[.int .i64 a1, .int .i64 b1]); refine (toPair a1 b1 _).mono ?_; rintro e wx ⟨rfl, hbx⟩; have K := (by first | exact K.later hbx | exact K.drew.later hbx | exact (K.alloc _).later hbx | exact (K.alloc _).drew.later hbx | exact ((K.alloc _).alloc _).later hbx | exact ((K.alloc _).alloc _).drew.later hbx : Cel2 wx _ _ _); have K0 := K.1; have K1 := K.2.1; have Kz := K.2.2.2.2; have Kn := Nat.ne_of_lt Kz; have Ko := Nat.ne_of_gt Kz; have Kp := Nat.ne_of_lt (Nat.lt_add_right 1 Kz); have Kq := Nat.ne_of_gt (Nat.lt_add_right 1 Kz); have M := (by first | exact M.later hbx | exact M.drew.later hbx | exact (M.alloc _).later hbx | exact (M.alloc _).drew.later hbx | exact ((M.alloc _).alloc _).later hbx | exact ((M.alloc _).alloc _).drew.later hbx : Cel2 wx _ _ _); have M0 := M.1; have M1 := M.2.1; have Mz := M.2.2.2.2; have Mn := Nat.ne_of_lt Mz; have Mo := Nat.ne_of_gt Mz; have Mp := Nat.ne_of_lt (Nat.lt_add_right 1 Mz); have Mq := Nat.ne_of_gt (Nat.lt_add_right 1 Mz); (first | (have O := O.later hbx; have N := N.later hbx; have N0 := N.1; have N1 := N.2.1; have N2 := N.2.2.1; have N3 := N.2.2.2.1; have Nz := N.2.2.2.2; have Nn := Nat.ne_of_lt Nz; have No := Nat.ne_of_gt Nz; have O0 := O.1; have O1 := O.2.1; have O2 := O.2.2.1; have O3 := O.2.2.2.1; have Oz := O.2.2.2.2; have On := Nat.ne_of_lt Oz; have Oo := Nat.ne_of_gt Oz) | (have N := (N.alloc _).later hbx; have O := (Cel2.made _ _ rfl (.int .i64 0) (.int .i64 0) 24).later hbx; have N0 := N.1; have N1 := N.2.1; have N2 := N.2.2.1; have N3 := N.2.2.2.1; have Nz := N.2.2.2.2; have Nn := Nat.ne_of_lt Nz; have No := Nat.ne_of_gt Nz; have O0 := O.1; have O1 := O.2.1; have O2 := O.2.2.1; have O3 := O.2.2.2.1; have Oz := O.2.2.2.2; have On := Nat.ne_of_lt Oz; have Oo := Nat.ne_of_gt Oz) | (have N := N.later hbx; have N0 := N.1; have N1 := N.2.1; have N2 := N.2.2.1; have N3 := N.2.2.2.1; have Nz := N.2.2.2.2; have Nn := Nat.ne_of_lt Nz; have No := Nat.ne_of_gt Nz) | (have N := ((Cel2.made _ _ rfl (.int .i64 0) (.int .i64 0) 24).alloc _).later hbx; have O := (Cel2.made _ _ rfl (.int .i64 0) (.int .i64 0) 24).later hbx; (try simp only [World.size_alloc] at N); (try simp only [World.size_alloc] at O); have N0 := N.1; have N1 := N.2.1; have N2 := N.2.2.1; have N3 := N.2.2.2.1; have Nz := N.2.2.2.2; have Nn := Nat.ne_of_lt Nz; have No := Nat.ne_of_gt Nz; have O0 := O.1; have O1 := O.2.1; have O2 := O.2.2.1; have O3 := O.2.2.2.1; have Oz := O.2.2.2.2; have On := Nat.ne_of_lt Oz; have Oo := Nat.ne_of_gt Oz) | (have N := (Cel2.made _ _ rfl (.int .i64 0) (.int .i64 0) 24).later hbx; (try simp only [World.size_alloc] at N); have N0 := N.1; have N1 := N.2.1; have N2 := N.2.2.1; have N3 := N.2.2.2.1; have Nz := N.2.2.2.2; have Nn := Nat.ne_of_lt Nz; have No := Nat.ne_of_gt Nz) | (have N := ((Cel2.made _ _ rfl (.int .i64 0) (.int .i64 0) 24).alloc _).drew.later hbx; have O := (Cel2.made _ _ rfl (.int .i64 0) (.int .i64 0) 24).drew.later hbx; (try simp only [World.size_alloc] at N); (try simp only [World.size_alloc] at O); have N0 := N.1; have N1 := N.2.1; have N2 := N.2.2.1; have N3 := N.2.2.2.1; have Nz := N.2.2.2.2; have Nn := Nat.ne_of_lt Nz; have No := Nat.ne_of_gt Nz; have O0 := O.1; have O1 := O.2.1; have O2 := O.2.2.1; have O3 := O.2.2.2.1; have Oz := O.2.2.2.2; have On := Nat.ne_of_lt Oz; have Oo := Nat.ne_of_gt Oz) | (have N := (Cel2.made _ _ rfl (.int .i64 0) (.int .i64 0) 24).drew.later hbx; (try simp only [World.size_alloc] at N); have N0 := N.1; have N1 := N.2.1; have N2 := N.2.2.1; have N3 := N.2.2.2.1; have Nz := N.2.2.2.2; have Nn := Nat.ne_of_lt Nz; have No := Nat.ne_of_gt Nz) | skip)) | (go_at_call_of 27 (Value.agg #[.int .i64 a2, .int .i64 b2]); refine (toPair a2 b2 _).mono ?_; rintro e wx ⟨rfl, hbx⟩; have K := (by first | exact K.later hbx | exact K.drew.later hbx | exact (K.alloc _).later hbx | exact (K.alloc _).drew.later hbx | exact ((K.alloc _).alloc _).later hbx | exact ((K.alloc _).alloc _).drew.later hbx : Cel2 wx _ _ _); have K0 := K.1; have K1 := K.2.1; have Kz := K.2.2.2.2; have Kn := Nat.ne_of_lt Kz; have Ko := Nat.ne_of_gt Kz; have Kp := Nat.ne_of_lt (Nat.lt_add_right 1 Kz); have Kq := Nat.ne_of_gt (Nat.lt_add_right 1 Kz); have M := (by first | exact M.later hbx | exact M.drew.later hbx | exact (M.alloc _).later hbx | exact (M.alloc _).drew.later hbx | exact ((M.alloc _).alloc _).later hbx | exact ((M.alloc _).alloc _).drew.later hbx : Cel2 wx _ _ _); have M0 := M.1; have M1 := M.2.1; have Mz := M.2.2.2.2; have Mn := Nat.ne_of_lt Mz; have Mo := Nat.ne_of_gt Mz; have Mp := Nat.ne_of_lt (Nat.lt_add_right 1 Mz); have Mq := Nat.ne_of_gt (Nat.lt_add_right 1 Mz); (first | (have O := O.later hbx; have N := N.later hbx; have N0 := N.1; have N1 := N.2.1; have N2 := N.2.2.1; have N3 := N.2.2.2.1; have Nz := N.2.2.2.2; have Nn := Nat.ne_of_lt Nz; have No := Nat.ne_of_gt Nz; have O0 := O.1; have O1 := O.2.1; have O2 := O.2.2.1; have O3 := O.2.2.2.1; have Oz := O.2.2.2.2; have On := Nat.ne_of_lt Oz; have Oo := Nat.ne_of_gt Oz) | (have N := (N.alloc _).later hbx; have O := (Cel2.made _ _ rfl (.int .i64 0) (.int .i64 0) 24).later hbx; have N0 := N.1; have N1 := N.2.1; have N2 := N.2.2.1; have N3 := N.2.2.2.1; have Nz := N.2.2.2.2; have Nn := Nat.ne_of_lt Nz; have No := Nat.ne_of_gt Nz; have O0 := O.1; have O1 := O.2.1; have O2 := O.2.2.1; have O3 := O.2.2.2.1; have Oz := O.2.2.2.2; have On := Nat.ne_of_lt Oz; have Oo := Nat.ne_of_gt Oz) | (have N := N.later hbx; have N0 := N.1; have N1 := N.2.1; have N2 := N.2.2.1; have N3 := N.2.2.2.1; have Nz := N.2.2.2.2; have Nn := Nat.ne_of_lt Nz; have No := Nat.ne_of_gt Nz) | (have N := ((Cel2.made _ _ rfl (.int .i64 0) (.int .i64 0) 24).alloc _).later hbx; have O := (Cel2.made _ _ rfl (.int .i64 0) (.int .i64 0) 24).later hbx; (try simp only [World.size_alloc] at N); (try simp only [World.size_alloc] at O); have N0 := N.1; have N1 := N.2.1; have N2 := N.2.2.1; have N3 := N.2.2.2.1; have Nz := N.2.2.2.2; have Nn := Nat.ne_of_lt Nz; have No := Nat.ne_of_gt Nz; have O0 := O.1; have O1 := O.2.1; have O2 := O.2.2.1; have O3 := O.2.2.2.1; have Oz := O.2.2.2.2; have On := Nat.ne_of_lt Oz; have Oo := Nat.ne_of_gt Oz) | (have N := (Cel2.made _ _ rfl (.int .i64 0) (.int .i64 0) 24).later hbx; (try simp only [World.size_alloc] at N); have N0 := N.1; have N1 := N.2.1; have N2 := N.2.2.1; have N3 := N.2.2.2.1; have Nz := N.2.2.2.2; have Nn := Nat.ne_of_lt Nz; have No := Nat.ne_of_gt Nz) | (have N := ((Cel2.made _ _ rfl (.int .i64 0) (.int .i64 0) 24).alloc _).drew.later hbx; have O := (Cel2.made _ _ rfl (.int .i64 0) (.int .i64 0) 24).drew.later hbx; (try simp only [World.size_alloc] at N); (try simp only [World.size_alloc] at O); have N0 := N.1; have N1 := N.2.1; have N2 := N.2.2.1; have N3 := N.2.2.2.1; have Nz := N.2.2.2.2; have Nn := Nat.ne_of_lt Nz; have No := Nat.ne_of_gt Nz; have O0 := O.1; have O1 := O.2.1; have O2 := O.2.2.1; have O3 := O.2.2.2.1; have Oz := O.2.2.2.2; have On := Nat.ne_of_lt Oz; have Oo := Nat.ne_of_gt Oz) | (have N := (Cel2.made _ _ rfl (.int .i64 0) (.int .i64 0) 24).drew.later hbx; (try simp only [World.size_alloc] at N); have N0 := N.1; have N1 := N.2.1; have N2 := N.2.2.1; have N3 := N.2.2.2.1; have Nz := N.2.2.2.2; have Nn := Nat.ne_of_lt Nz; have No := Nat.ne_of_gt Nz) | skip)) | (go_at_call 22; refine (S.out _).mono ?_; rintro e wx ⟨rfl, hbx⟩; have K := (by first | exact K.later hbx | exact K.drew.later hbx | exact (K.alloc _).later hbx | exact (K.alloc _).drew.later hbx | exact ((K.alloc _).alloc _).later hbx | exact ((K.alloc _).alloc _).drew.later hbx : Cel2 wx _ _ _); have K0 := K.1; have K1 := K.2.1; have Kz := K.2.2.2.2; have Kn := Nat.ne_of_lt Kz; have Ko := Nat.ne_of_gt Kz; have Kp := Nat.ne_of_lt (Nat.lt_add_right 1 Kz); have Kq := Nat.ne_of_gt (Nat.lt_add_right 1 Kz); have M := (by first | exact M.later hbx | exact M.drew.later hbx | exact (M.alloc _).later hbx | exact (M.alloc _).drew.later hbx | exact ((M.alloc _).alloc _).later hbx | exact ((M.alloc _).alloc _).drew.later hbx : Cel2 wx _ _ _); have M0 := M.1; have M1 := M.2.1; have Mz := M.2.2.2.2; have Mn := Nat.ne_of_lt Mz; have Mo := Nat.ne_of_gt Mz; have Mp := Nat.ne_of_lt (Nat.lt_add_right 1 Mz); have Mq := Nat.ne_of_gt (Nat.lt_add_right 1 Mz); (first | (have O := O.later hbx; have N := N.later hbx; have N0 := N.1; have N1 := N.2.1; have N2 := N.2.2.1; have N3 := N.2.2.2.1; have Nz := N.2.2.2.2; have Nn := Nat.ne_of_lt Nz; have No := Nat.ne_of_gt Nz; have O0 := O.1; have O1 := O.2.1; have O2 := O.2.2.1; have O3 := O.2.2.2.1; have Oz := O.2.2.2.2; have On := Nat.ne_of_lt Oz; have Oo := Nat.ne_of_gt Oz) | (have N := (N.alloc _).later hbx; have O := (Cel2.made _ _ rfl (.int .i64 0) (.int .i64 0) 24).later hbx; have N0 := N.1; have N1 := N.2.1; have N2 := N.2.2.1; have N3 := N.2.2.2.1; have Nz := N.2.2.2.2; have Nn := Nat.ne_of_lt Nz; have No := Nat.ne_of_gt Nz; have O0 := O.1; have O1 := O.2.1; have O2 := O.2.2.1; have O3 := O.2.2.2.1; have Oz := O.2.2.2.2; have On := Nat.ne_of_lt Oz; have Oo := Nat.ne_of_gt Oz) | (have N := N.later hbx; have N0 := N.1; have N1 := N.2.1; have N2 := N.2.2.1; have N3 := N.2.2.2.1; have Nz := N.2.2.2.2; have Nn := Nat.ne_of_lt Nz; have No := Nat.ne_of_gt Nz) | (have N := ((Cel2.made _ _ rfl (.int .i64 0) (.int .i64 0) 24).alloc _).later hbx; have O := (Cel2.made _ _ rfl (.int .i64 0) (.int .i64 0) 24).later hbx; (try simp only [World.size_alloc] at N); (try simp only [World.size_alloc] at O); have N0 := N.1; have N1 := N.2.1; have N2 := N.2.2.1; have N3 := N.2.2.2.1; have Nz := N.2.2.2.2; have Nn := Nat.ne_of_lt Nz; have No := Nat.ne_of_gt Nz; have O0 := O.1; have O1 := O.2.1; have O2 := O.2.2.1; have O3 := O.2.2.2.1; have Oz := O.2.2.2.2; have On := Nat.ne_of_lt Oz; have Oo := Nat.ne_of_gt Oz) | (have N := (Cel2.made _ _ rfl (.int .i64 0) (.int .i64 0) 24).later hbx; (try simp only [World.size_alloc] at N); have N0 := N.1; have N1 := N.2.1; have N2 := N.2.2.1; have N3 := N.2.2.2.1; have Nz := N.2.2.2.2; have Nn := Nat.ne_of_lt Nz; have No := Nat.ne_of_gt Nz) | (have N := ((Cel2.made _ _ rfl (.int .i64 0) (.int .i64 0) 24).alloc _).drew.later hbx; have O := (Cel2.made _ _ rfl (.int .i64 0) (.int .i64 0) 24).drew.later hbx; (try simp only [World.size_alloc] at N); (try simp only [World.size_alloc] at O); have N0 := N.1; have N1 := N.2.1; have N2 := N.2.2.1; have N3 := N.2.2.2.1; have Nz := N.2.2.2.2; have Nn := Nat.ne_of_lt Nz; have No := Nat.ne_of_gt Nz; have O0 := O.1; have O1 := O.2.1; have O2 := O.2.2.1; have O3 := O.2.2.2.1; have Oz := O.2.2.2.2; have On := Nat.ne_of_lt Oz; have Oo := Nat.ne_of_gt Oz) | (have N := (Cel2.made _ _ rfl (.int .i64 0) (.int .i64 0) 24).drew.later hbx; (try simp only [World.size_alloc] at N); have N0 := N.1; have N1 := N.2.1; have N2 := N.2.2.1; have N3 := N.2.2.2.1; have Nz := N.2.2.2.2; have Nn := Nat.ne_of_lt Nz; have No := Nat.ne_of_gt Nz) | skip)))
    all_goals
      go_wp2_with fail
      go_meet
      exact ⟨_, _, rfl, rfl, rfl, (by repeat (with_reducible first | exact N | exact O | exact Cel2.made _ _ rfl _ _ _ | (refine Cel2.made _ _ ?_ _ _ _; (simp; done)) | refine Cel2.stored (u := .int .i64 0) (v := .int .i64 0) ?_ _ _ | refine Cel2.drew ?_ | (refine Cel2.others ?_ _ ?_ _ _; rotate_left; (first | omega | (simp; omega))) | refine Cel2.alloc ?_ _)), (by repeat (with_reducible first | exact N | exact O | exact Cel2.made _ _ rfl _ _ _ | (refine Cel2.made _ _ ?_ _ _ _; (simp; done)) | refine Cel2.stored (u := .int .i64 0) (v := .int .i64 0) ?_ _ _ | refine Cel2.drew ?_ | (refine Cel2.others ?_ _ ?_ _ _; rotate_left; (first | omega | (simp; omega))) | refine Cel2.alloc ?_ _)), (by repeat (with_reducible first | exact K | exact N | exact O | exact Cel2.made _ _ rfl _ _ _ | (refine Cel2.made _ _ ?_ _ _ _; (simp; done)) | refine Cel2.stored (u := .int .i64 0) (v := .int .i64 0) ?_ _ _ | refine Cel2.drew ?_ | (refine Cel2.others ?_ _ ?_ _ _; rotate_left; (first | omega | (simp; omega))) | refine Cel2.alloc ?_ _)), (by repeat (with_reducible first | exact M | exact N | exact O | exact Cel2.made _ _ rfl _ _ _ | (refine Cel2.made _ _ ?_ _ _ _; (simp; done)) | refine Cel2.stored (u := .int .i64 0) (v := .int .i64 0) ?_ _ _ | refine Cel2.drew ?_ | (refine Cel2.others ?_ _ ?_ _ _; rotate_left; (first | omega | (simp; omega))) | refine Cel2.alloc ?_ _)), (by repeat (first | exact Below.refl _ _ | refine Below.drew ?_ | refine Below.setCell ?_ (by first | (simp; done) | omega | (simp; omega)) _ | refine old_alloc ?_ _ | refine old_trans ?_ (by assumption)))⟩
  case rest =>
    obtain ⟨bx, by', hs7, hs8, hs9, X, Y, K, M, hB⟩ := hcut
    subst hs7 hs8 hs9
    have K0 := K.1
    have K1 := K.2.1
    have Kz := K.2.2.2.2
    have Kn := Nat.ne_of_lt Kz
    have Ko := Nat.ne_of_gt Kz
    have Kp := Nat.ne_of_lt (Nat.lt_add_right 1 Kz)
    have Kq := Nat.ne_of_gt (Nat.lt_add_right 1 Kz)
    have M0 := M.1
    have M1 := M.2.1
    have Mz := M.2.2.2.2
    have Mn := Nat.ne_of_lt Mz
    have Mo := Nat.ne_of_gt Mz
    have Mp := Nat.ne_of_lt (Nat.lt_add_right 1 Mz)
    have Mq := Nat.ne_of_gt (Nat.lt_add_right 1 Mz)
    have X0 := X.1
    have X1 := X.2.1
    have Xz := X.2.2.2.2
    have Xn := Nat.ne_of_lt Xz
    have Xo := Nat.ne_of_gt Xz
    have Xp := Nat.ne_of_lt (Nat.lt_add_right 1 Xz)
    have Xq := Nat.ne_of_gt (Nat.lt_add_right 1 Xz)
    have Y0 := Y.1
    have Y1 := Y.2.1
    have Yz := Y.2.2.2.2
    have Yn := Nat.ne_of_lt Yz
    have Yo := Nat.ne_of_gt Yz
    have Yp := Nat.ne_of_lt (Nat.lt_add_right 1 Yz)
    have Yq := Nat.ne_of_gt (Nat.lt_add_right 1 Yz)
    go_upto_region 2 with fail
    go_cut [10, 11, 12] (fun s s' t wx => ∃ b c, s = .pointer (some ⟨b, 0, none⟩) ∧ s' = .pointer (some ⟨c, 0, none⟩) ∧ t = .bool r ∧ Cel2 wx b (.int .i64 x1) (.int .i64 x2) ∧ Cel2 wx c (.int .i64 x3) (.int .i64 x4) ∧ Cel2 wx bx (.int .i64 x1) (.int .i64 x2) ∧ Cel2 wx by' (.int .i64 x3) (.int .i64 x4) ∧ Below w.heap.size w wx)
    case first =>
      go_wp2_with fail
      go_region_held3 (fun w' => w'.cell? ⟨w.heap.size, 0, none⟩ = some (.int .i64 a1) ∧ w'.cell? ⟨w.heap.size, 1, none⟩ = some (.int .i64 b1) ∧ w'.cell? ⟨w.heap.size + 1, 0, none⟩ = some (.int .i64 a2) ∧ w'.cell? ⟨w.heap.size + 1, 1, none⟩ = some (.int .i64 b2)) (go_keep) (first | (go_at_call_of 27 (Value.agg #[.int .i64 a1, .int .i64 b1]); refine (toPair a1 b1 _).mono ?_; rintro e wx ⟨rfl, hbx⟩; have K := (by first | exact K.later hbx | exact K.drew.later hbx | exact (K.alloc _).later hbx | exact (K.alloc _).drew.later hbx | exact ((K.alloc _).alloc _).later hbx | exact ((K.alloc _).alloc _).drew.later hbx : Cel2 wx _ _ _); have K0 := K.1; have K1 := K.2.1; have Kz := K.2.2.2.2; have Kn := Nat.ne_of_lt Kz; have Ko := Nat.ne_of_gt Kz; have Kp := Nat.ne_of_lt (Nat.lt_add_right 1 Kz); have Kq := Nat.ne_of_gt (Nat.lt_add_right 1 Kz); have M := (by first | exact M.later hbx | exact M.drew.later hbx | exact (M.alloc _).later hbx | exact (M.alloc _).drew.later hbx | exact ((M.alloc _).alloc _).later hbx | exact ((M.alloc _).alloc _).drew.later hbx : Cel2 wx _ _ _); have M0 := M.1; have M1 := M.2.1; have Mz := M.2.2.2.2; have Mn := Nat.ne_of_lt Mz; have Mo := Nat.ne_of_gt Mz; have Mp := Nat.ne_of_lt (Nat.lt_add_right 1 Mz); have Mq := Nat.ne_of_gt (Nat.lt_add_right 1 Mz); have X := (by first | exact X.later hbx | exact X.drew.later hbx | exact (X.alloc _).later hbx | exact (X.alloc _).drew.later hbx | exact ((X.alloc _).alloc _).later hbx | exact ((X.alloc _).alloc _).drew.later hbx : Cel2 wx _ _ _); have X0 := X.1; have X1 := X.2.1; have Xz := X.2.2.2.2; have Xn := Nat.ne_of_lt Xz; have Xo := Nat.ne_of_gt Xz; have Xp := Nat.ne_of_lt (Nat.lt_add_right 1 Xz); have Xq := Nat.ne_of_gt (Nat.lt_add_right 1 Xz); have Y := (by first | exact Y.later hbx | exact Y.drew.later hbx | exact (Y.alloc _).later hbx | exact (Y.alloc _).drew.later hbx | exact ((Y.alloc _).alloc _).later hbx | exact ((Y.alloc _).alloc _).drew.later hbx : Cel2 wx _ _ _); have Y0 := Y.1; have Y1 := Y.2.1; have Yz := Y.2.2.2.2; have Yn := Nat.ne_of_lt Yz; have Yo := Nat.ne_of_gt Yz; have Yp := Nat.ne_of_lt (Nat.lt_add_right 1 Yz); have Yq := Nat.ne_of_gt (Nat.lt_add_right 1 Yz); (first | (have O := O.later hbx; have N := N.later hbx; have N0 := N.1; have N1 := N.2.1; have N2 := N.2.2.1; have N3 := N.2.2.2.1; have Nz := N.2.2.2.2; have Nn := Nat.ne_of_lt Nz; have No := Nat.ne_of_gt Nz; have O0 := O.1; have O1 := O.2.1; have O2 := O.2.2.1; have O3 := O.2.2.2.1; have Oz := O.2.2.2.2; have On := Nat.ne_of_lt Oz; have Oo := Nat.ne_of_gt Oz) | (have N := (N.alloc _).later hbx; have O := (Cel2.made _ _ rfl (.int .i64 0) (.int .i64 0) 24).later hbx; have N0 := N.1; have N1 := N.2.1; have N2 := N.2.2.1; have N3 := N.2.2.2.1; have Nz := N.2.2.2.2; have Nn := Nat.ne_of_lt Nz; have No := Nat.ne_of_gt Nz; have O0 := O.1; have O1 := O.2.1; have O2 := O.2.2.1; have O3 := O.2.2.2.1; have Oz := O.2.2.2.2; have On := Nat.ne_of_lt Oz; have Oo := Nat.ne_of_gt Oz) | (have N := N.later hbx; have N0 := N.1; have N1 := N.2.1; have N2 := N.2.2.1; have N3 := N.2.2.2.1; have Nz := N.2.2.2.2; have Nn := Nat.ne_of_lt Nz; have No := Nat.ne_of_gt Nz) | (have N := ((Cel2.made _ _ rfl (.int .i64 0) (.int .i64 0) 24).alloc _).later hbx; have O := (Cel2.made _ _ rfl (.int .i64 0) (.int .i64 0) 24).later hbx; (try simp only [World.size_alloc] at N); (try simp only [World.size_alloc] at O); have N0 := N.1; have N1 := N.2.1; have N2 := N.2.2.1; have N3 := N.2.2.2.1; have Nz := N.2.2.2.2; have Nn := Nat.ne_of_lt Nz; have No := Nat.ne_of_gt Nz; have O0 := O.1; have O1 := O.2.1; have O2 := O.2.2.1; have O3 := O.2.2.2.1; have Oz := O.2.2.2.2; have On := Nat.ne_of_lt Oz; have Oo := Nat.ne_of_gt Oz) | (have N := (Cel2.made _ _ rfl (.int .i64 0) (.int .i64 0) 24).later hbx; (try simp only [World.size_alloc] at N); have N0 := N.1; have N1 := N.2.1; have N2 := N.2.2.1; have N3 := N.2.2.2.1; have Nz := N.2.2.2.2; have Nn := Nat.ne_of_lt Nz; have No := Nat.ne_of_gt Nz) | (have N := ((Cel2.made _ _ rfl (.int .i64 0) (.int .i64 0) 24).alloc _).drew.later hbx; have O := (Cel2.made _ _ rfl (.int .i64 0) (.int .i64 0) 24).drew.later hbx; (try simp only [World.size_alloc] at N); (try simp only [World.size_alloc] at O); have N0 := N.1; have N1 := N.2.1; have N2 := N.2.2.1; have N3 := N.2.2.2.1; have Nz := N.2.2.2.2; have Nn := Nat.ne_of_lt Nz; have No := Nat.ne_of_gt Nz; have O0 := O.1; have O1 := O.2.1; have O2 := O.2.2.1; have O3 := O.2.2.2.1; have Oz := O.2.2.2.2; have On := Nat.ne_of_lt Oz; have Oo := Nat.ne_of_gt Oz) | (have N := (Cel2.made _ _ rfl (.int .i64 0) (.int .i64 0) 24).drew.later hbx; (try simp only [World.size_alloc] at N); have N0 := N.1; have N1 := N.2.1; have N2 := N.2.2.1; have N3 := N.2.2.2.1; have Nz := N.2.2.2.2; have Nn := Nat.ne_of_lt Nz; have No := Nat.ne_of_gt Nz) | skip)) | (go_at_call_of 27 (Value.agg #[.int .i64 a2, .int .i64 b2]); refine (toPair a2 b2 _).mono ?_; rintro e wx ⟨rfl, hbx⟩; have K := (by first | exact K.later hbx | exact K.drew.later hbx | exact (K.alloc _).later hbx | exact (K.alloc _).drew.later hbx | exact ((K.alloc _).alloc _).later hbx | exact ((K.alloc _).alloc _).drew.later hbx : Cel2 wx _ _ _); have K0 := K.1; have K1 := K.2.1; have Kz := K.2.2.2.2; have Kn := Nat.ne_of_lt Kz; have Ko := Nat.ne_of_gt Kz; have Kp := Nat.ne_of_lt (Nat.lt_add_right 1 Kz); have Kq := Nat.ne_of_gt (Nat.lt_add_right 1 Kz); have M := (by first | exact M.later hbx | exact M.drew.later hbx | exact (M.alloc _).later hbx | exact (M.alloc _).drew.later hbx | exact ((M.alloc _).alloc _).later hbx | exact ((M.alloc _).alloc _).drew.later hbx : Cel2 wx _ _ _); have M0 := M.1; have M1 := M.2.1; have Mz := M.2.2.2.2; have Mn := Nat.ne_of_lt Mz; have Mo := Nat.ne_of_gt Mz; have Mp := Nat.ne_of_lt (Nat.lt_add_right 1 Mz); have Mq := Nat.ne_of_gt (Nat.lt_add_right 1 Mz); have X := (by first | exact X.later hbx | exact X.drew.later hbx | exact (X.alloc _).later hbx | exact (X.alloc _).drew.later hbx | exact ((X.alloc _).alloc _).later hbx | exact ((X.alloc _).alloc _).drew.later hbx : Cel2 wx _ _ _); have X0 := X.1; have X1 := X.2.1; have Xz := X.2.2.2.2; have Xn := Nat.ne_of_lt Xz; have Xo := Nat.ne_of_gt Xz; have Xp := Nat.ne_of_lt (Nat.lt_add_right 1 Xz); have Xq := Nat.ne_of_gt (Nat.lt_add_right 1 Xz); have Y := (by first | exact Y.later hbx | exact Y.drew.later hbx | exact (Y.alloc _).later hbx | exact (Y.alloc _).drew.later hbx | exact ((Y.alloc _).alloc _).later hbx | exact ((Y.alloc _).alloc _).drew.later hbx : Cel2 wx _ _ _); have Y0 := Y.1; have Y1 := Y.2.1; have Yz := Y.2.2.2.2; have Yn := Nat.ne_of_lt Yz; have Yo := Nat.ne_of_gt Yz; have Yp := Nat.ne_of_lt (Nat.lt_add_right 1 Yz); have Yq := Nat.ne_of_gt (Nat.lt_add_right 1 Yz); (first | (have O := O.later hbx; have N := N.later hbx; have N0 := N.1; have N1 := N.2.1; have N2 := N.2.2.1; have N3 := N.2.2.2.1; have Nz := N.2.2.2.2; have Nn := Nat.ne_of_lt Nz; have No := Nat.ne_of_gt Nz; have O0 := O.1; have O1 := O.2.1; have O2 := O.2.2.1; have O3 := O.2.2.2.1; have Oz := O.2.2.2.2; have On := Nat.ne_of_lt Oz; have Oo := Nat.ne_of_gt Oz) | (have N := (N.alloc _).later hbx; have O := (Cel2.made _ _ rfl (.int .i64 0) (.int .i64 0) 24).later hbx; have N0 := N.1; have N1 := N.2.1; have N2 := N.2.2.1; have N3 := N.2.2.2.1; have Nz := N.2.2.2.2; have Nn := Nat.ne_of_lt Nz; have No := Nat.ne_of_gt Nz; have O0 := O.1; have O1 := O.2.1; have O2 := O.2.2.1; have O3 := O.2.2.2.1; have Oz := O.2.2.2.2; have On := Nat.ne_of_lt Oz; have Oo := Nat.ne_of_gt Oz) | (have N := N.later hbx; have N0 := N.1; have N1 := N.2.1; have N2 := N.2.2.1; have N3 := N.2.2.2.1; have Nz := N.2.2.2.2; have Nn := Nat.ne_of_lt Nz; have No := Nat.ne_of_gt Nz) | (have N := ((Cel2.made _ _ rfl (.int .i64 0) (.int .i64 0) 24).alloc _).later hbx; have O := (Cel2.made _ _ rfl (.int .i64 0) (.int .i64 0) 24).later hbx; (try simp only [World.size_alloc] at N); (try simp only [World.size_alloc] at O); have N0 := N.1; have N1 := N.2.1; have N2 := N.2.2.1; have N3 := N.2.2.2.1; have Nz := N.2.2.2.2; have Nn := Nat.ne_of_lt Nz; have No := Nat.ne_of_gt Nz; have O0 := O.1; have O1 := O.2.1; have O2 := O.2.2.1; have O3 := O.2.2.2.1; have Oz := O.2.2.2.2; have On := Nat.ne_of_lt Oz; have Oo := Nat.ne_of_gt Oz) | (have N := (Cel2.made _ _ rfl (.int .i64 0) (.int .i64 0) 24).later hbx; (try simp only [World.size_alloc] at N); have N0 := N.1; have N1 := N.2.1; have N2 := N.2.2.1; have N3 := N.2.2.2.1; have Nz := N.2.2.2.2; have Nn := Nat.ne_of_lt Nz; have No := Nat.ne_of_gt Nz) | (have N := ((Cel2.made _ _ rfl (.int .i64 0) (.int .i64 0) 24).alloc _).drew.later hbx; have O := (Cel2.made _ _ rfl (.int .i64 0) (.int .i64 0) 24).drew.later hbx; (try simp only [World.size_alloc] at N); (try simp only [World.size_alloc] at O); have N0 := N.1; have N1 := N.2.1; have N2 := N.2.2.1; have N3 := N.2.2.2.1; have Nz := N.2.2.2.2; have Nn := Nat.ne_of_lt Nz; have No := Nat.ne_of_gt Nz; have O0 := O.1; have O1 := O.2.1; have O2 := O.2.2.1; have O3 := O.2.2.2.1; have Oz := O.2.2.2.2; have On := Nat.ne_of_lt Oz; have Oo := Nat.ne_of_gt Oz) | (have N := (Cel2.made _ _ rfl (.int .i64 0) (.int .i64 0) 24).drew.later hbx; (try simp only [World.size_alloc] at N); have N0 := N.1; have N1 := N.2.1; have N2 := N.2.2.1; have N3 := N.2.2.2.1; have Nz := N.2.2.2.2; have Nn := Nat.ne_of_lt Nz; have No := Nat.ne_of_gt Nz) | skip)) | (go_at_call 21; refine (I.out _).mono ?_; rintro e wx ⟨rfl, hbx⟩; have K := (by first | exact K.later hbx | exact K.drew.later hbx | exact (K.alloc _).later hbx | exact (K.alloc _).drew.later hbx | exact ((K.alloc _).alloc _).later hbx | exact ((K.alloc _).alloc _).drew.later hbx : Cel2 wx _ _ _); have K0 := K.1; have K1 := K.2.1; have Kz := K.2.2.2.2; have Kn := Nat.ne_of_lt Kz; have Ko := Nat.ne_of_gt Kz; have Kp := Nat.ne_of_lt (Nat.lt_add_right 1 Kz); have Kq := Nat.ne_of_gt (Nat.lt_add_right 1 Kz); have M := (by first | exact M.later hbx | exact M.drew.later hbx | exact (M.alloc _).later hbx | exact (M.alloc _).drew.later hbx | exact ((M.alloc _).alloc _).later hbx | exact ((M.alloc _).alloc _).drew.later hbx : Cel2 wx _ _ _); have M0 := M.1; have M1 := M.2.1; have Mz := M.2.2.2.2; have Mn := Nat.ne_of_lt Mz; have Mo := Nat.ne_of_gt Mz; have Mp := Nat.ne_of_lt (Nat.lt_add_right 1 Mz); have Mq := Nat.ne_of_gt (Nat.lt_add_right 1 Mz); have X := (by first | exact X.later hbx | exact X.drew.later hbx | exact (X.alloc _).later hbx | exact (X.alloc _).drew.later hbx | exact ((X.alloc _).alloc _).later hbx | exact ((X.alloc _).alloc _).drew.later hbx : Cel2 wx _ _ _); have X0 := X.1; have X1 := X.2.1; have Xz := X.2.2.2.2; have Xn := Nat.ne_of_lt Xz; have Xo := Nat.ne_of_gt Xz; have Xp := Nat.ne_of_lt (Nat.lt_add_right 1 Xz); have Xq := Nat.ne_of_gt (Nat.lt_add_right 1 Xz); have Y := (by first | exact Y.later hbx | exact Y.drew.later hbx | exact (Y.alloc _).later hbx | exact (Y.alloc _).drew.later hbx | exact ((Y.alloc _).alloc _).later hbx | exact ((Y.alloc _).alloc _).drew.later hbx : Cel2 wx _ _ _); have Y0 := Y.1; have Y1 := Y.2.1; have Yz := Y.2.2.2.2; have Yn := Nat.ne_of_lt Yz; have Yo := Nat.ne_of_gt Yz; have Yp := Nat.ne_of_lt (Nat.lt_add_right 1 Yz); have Yq := Nat.ne_of_gt (Nat.lt_add_right 1 Yz); (first | (have O := O.later hbx; have N := N.later hbx; have N0 := N.1; have N1 := N.2.1; have N2 := N.2.2.1; have N3 := N.2.2.2.1; have Nz := N.2.2.2.2; have Nn := Nat.ne_of_lt Nz; have No := Nat.ne_of_gt Nz; have O0 := O.1; have O1 := O.2.1; have O2 := O.2.2.1; have O3 := O.2.2.2.1; have Oz := O.2.2.2.2; have On := Nat.ne_of_lt Oz; have Oo := Nat.ne_of_gt Oz) | (have N := (N.alloc _).later hbx; have O := (Cel2.made _ _ rfl (.int .i64 0) (.int .i64 0) 24).later hbx; have N0 := N.1; have N1 := N.2.1; have N2 := N.2.2.1; have N3 := N.2.2.2.1; have Nz := N.2.2.2.2; have Nn := Nat.ne_of_lt Nz; have No := Nat.ne_of_gt Nz; have O0 := O.1; have O1 := O.2.1; have O2 := O.2.2.1; have O3 := O.2.2.2.1; have Oz := O.2.2.2.2; have On := Nat.ne_of_lt Oz; have Oo := Nat.ne_of_gt Oz) | (have N := N.later hbx; have N0 := N.1; have N1 := N.2.1; have N2 := N.2.2.1; have N3 := N.2.2.2.1; have Nz := N.2.2.2.2; have Nn := Nat.ne_of_lt Nz; have No := Nat.ne_of_gt Nz) | (have N := ((Cel2.made _ _ rfl (.int .i64 0) (.int .i64 0) 24).alloc _).later hbx; have O := (Cel2.made _ _ rfl (.int .i64 0) (.int .i64 0) 24).later hbx; (try simp only [World.size_alloc] at N); (try simp only [World.size_alloc] at O); have N0 := N.1; have N1 := N.2.1; have N2 := N.2.2.1; have N3 := N.2.2.2.1; have Nz := N.2.2.2.2; have Nn := Nat.ne_of_lt Nz; have No := Nat.ne_of_gt Nz; have O0 := O.1; have O1 := O.2.1; have O2 := O.2.2.1; have O3 := O.2.2.2.1; have Oz := O.2.2.2.2; have On := Nat.ne_of_lt Oz; have Oo := Nat.ne_of_gt Oz) | (have N := (Cel2.made _ _ rfl (.int .i64 0) (.int .i64 0) 24).later hbx; (try simp only [World.size_alloc] at N); have N0 := N.1; have N1 := N.2.1; have N2 := N.2.2.1; have N3 := N.2.2.2.1; have Nz := N.2.2.2.2; have Nn := Nat.ne_of_lt Nz; have No := Nat.ne_of_gt Nz) | (have N := ((Cel2.made _ _ rfl (.int .i64 0) (.int .i64 0) 24).alloc _).drew.later hbx; have O := (Cel2.made _ _ rfl (.int .i64 0) (.int .i64 0) 24).drew.later hbx; (try simp only [World.size_alloc] at N); (try simp only [World.size_alloc] at O); have N0 := N.1; have N1 := N.2.1; have N2 := N.2.2.1; have N3 := N.2.2.2.1; have Nz := N.2.2.2.2; have Nn := Nat.ne_of_lt Nz; have No := Nat.ne_of_gt Nz; have O0 := O.1; have O1 := O.2.1; have O2 := O.2.2.1; have O3 := O.2.2.2.1; have Oz := O.2.2.2.2; have On := Nat.ne_of_lt Oz; have Oo := Nat.ne_of_gt Oz) | (have N := (Cel2.made _ _ rfl (.int .i64 0) (.int .i64 0) 24).drew.later hbx; (try simp only [World.size_alloc] at N); have N0 := N.1; have N1 := N.2.1; have N2 := N.2.2.1; have N3 := N.2.2.2.1; have Nz := N.2.2.2.2; have Nn := Nat.ne_of_lt Nz; have No := Nat.ne_of_gt Nz) | skip)))
      all_goals
        go_wp2_with fail
        go_meet
        exact ⟨_, _, rfl, rfl, rfl, (by repeat (with_reducible first | exact N | exact O | exact Cel2.made _ _ rfl _ _ _ | (refine Cel2.made _ _ ?_ _ _ _; (simp; done)) | refine Cel2.stored (u := .int .i64 0) (v := .int .i64 0) ?_ _ _ | refine Cel2.drew ?_ | (refine Cel2.others ?_ _ ?_ _ _; rotate_left; (first | omega | (simp; omega))) | refine Cel2.alloc ?_ _)), (by repeat (with_reducible first | exact N | exact O | exact Cel2.made _ _ rfl _ _ _ | (refine Cel2.made _ _ ?_ _ _ _; (simp; done)) | refine Cel2.stored (u := .int .i64 0) (v := .int .i64 0) ?_ _ _ | refine Cel2.drew ?_ | (refine Cel2.others ?_ _ ?_ _ _; rotate_left; (first | omega | (simp; omega))) | refine Cel2.alloc ?_ _)), (by repeat (with_reducible first | exact X | exact N | exact O | exact Cel2.made _ _ rfl _ _ _ | (refine Cel2.made _ _ ?_ _ _ _; (simp; done)) | refine Cel2.stored (u := .int .i64 0) (v := .int .i64 0) ?_ _ _ | refine Cel2.drew ?_ | (refine Cel2.others ?_ _ ?_ _ _; rotate_left; (first | omega | (simp; omega))) | refine Cel2.alloc ?_ _)), (by repeat (with_reducible first | exact Y | exact N | exact O | exact Cel2.made _ _ rfl _ _ _ | (refine Cel2.made _ _ ?_ _ _ _; (simp; done)) | refine Cel2.stored (u := .int .i64 0) (v := .int .i64 0) ?_ _ _ | refine Cel2.drew ?_ | (refine Cel2.others ?_ _ ?_ _ _; rotate_left; (first | omega | (simp; omega))) | refine Cel2.alloc ?_ _)), (by repeat (first | exact Below.refl _ _ | refine Below.drew ?_ | refine Below.setCell ?_ (by first | (simp; done) | omega | (simp; omega)) _ | refine old_alloc ?_ _ | refine old_trans ?_ (by assumption)))⟩
    case rest =>
      obtain ⟨cx, cy, hs10, hs11, hs12, G, H, X, Y, hB⟩ := hcut
      subst hs10 hs11 hs12
      clear K0 K1 Kz Kn Ko M0 M1 Mz Mn Mo X0 X1 Xz Xn Xo Y0 Y1 Yz Yn Yo
      have G0 := G.1
      have G1 := G.2.1
      have Gz := G.2.2.2.2
      have Gn := Nat.ne_of_lt Gz
      have Go := Nat.ne_of_gt Gz
      have H0 := H.1
      have H1 := H.2.1
      have Hz := H.2.2.2.2
      have Hn := Nat.ne_of_lt Hz
      have Ho := Nat.ne_of_gt Hz
      have X0 := X.1
      have X1 := X.2.1
      have Xz := X.2.2.2.2
      have Xn := Nat.ne_of_lt Xz
      have Xo := Nat.ne_of_gt Xz
      have Y0 := Y.1
      have Y1 := Y.2.1
      have Yz := Y.2.2.2.2
      have Yn := Nat.ne_of_lt Yz
      have Yo := Nat.ne_of_gt Yz
      go_wp2_with fail
      refine (E1.out _).mono ?_
      rintro e w1 ⟨rfl, hb1⟩
      clear G0 G1 Gz Gn Go
      replace G := G.later hb1
      have G0 := G.1
      have G1 := G.2.1
      have Gz := G.2.2.2.2
      have Gn := Nat.ne_of_lt Gz
      have Go := Nat.ne_of_gt Gz
      clear H0 H1 Hz Hn Ho
      replace H := H.later hb1
      have H0 := H.1
      have H1 := H.2.1
      have Hz := H.2.2.2.2
      have Hn := Nat.ne_of_lt Hz
      have Ho := Nat.ne_of_gt Hz
      clear X0 X1 Xz Xn Xo
      replace X := X.later hb1
      have X0 := X.1
      have X1 := X.2.1
      have Xz := X.2.2.2.2
      have Xn := Nat.ne_of_lt Xz
      have Xo := Nat.ne_of_gt Xz
      clear Y0 Y1 Yz Yn Yo
      replace Y := Y.later hb1
      have Y0 := Y.1
      have Y1 := Y.2.1
      have Yz := Y.2.2.2.2
      have Yn := Nat.ne_of_lt Yz
      have Yo := Nat.ne_of_gt Yz
      go_wp2_with fail
      refine (E2.out _).mono ?_
      rintro e w2 ⟨rfl, hb2⟩
      go_wp2
      go_ret
      exact ⟨rfl, (by repeat (first | exact Below.refl _ _ | refine Below.drew ?_ | refine old_alloc ?_ _ | refine old_trans ?_ (by assumption)))⟩

set_option maxRecDepth 100000 in
theorem FnExactPairCut_lifted (os : Os) (started : os.Started) (H : Type) (enc : TypeId × Value → H) :
    ReturnsInHanded {} Try.checked os 11 .any (Rows.fnExactPairCutSpec.pre6 enc Try.prog Try.f11 Rows.fnExactPairCutRow.domain false) (Rows.fnExactPairCutSpec.post enc Try.prog Try.f11 false true false false) := by
  refine returnsInHanded_of_change (C := Try.checked) FnExactPairCut_own started (by kernel_rfl) Try.func11
    (ChangeSpec.witness6 (enc := enc) (C := Try.checked) false ⟨#[], #[.int .i64 0, .agg #[.int .i64 0, .int .i64 0], .agg #[.int .i64 0, .int .i64 0]], []⟩ 8 (by kernel_rfl) (by kernel_rfl) (by kernel_rfl) (by kernel_rfl)) ?_
  intro W base args ds gs before hval0 hW hcnd _
  have hval : ∀ (j : Nat) t v, Try.f11.params[j]? = some t → args[j]? = some v → Value.okWide Try.prog W .any base t v := hval0
  have hW' := hW
  obtain ⟨p, q, hA0, hV, rfl, hfz, hnd⟩ := hW
  have hA : DataW.TrodAll enc Try.prog W 0 (fun _ => true) true Try.f11.params.toList args.toList ds p := hA0
  rw [Try.params11] at hA hval
  obtain ⟨v0, vs0, d0, ds0, p0, q0, hargs, rfl, rfl, h0, r0⟩ := trodAll_cons hA
  obtain ⟨v1, vs1, d1, ds1, p1, q1, rfl, rfl, rfl, h1, r1⟩ := trodAll_cons r0
  obtain ⟨v2, vs2, d2, ds2, p2, q2, rfl, rfl, rfl, h2, r2⟩ := trodAll_cons r1
  obtain ⟨rfl, rfl, rfl⟩ := trodAll_nil r2
  obtain rfl : args = #[v0, v1, v2] := by cases args; simp_all
  obtain ⟨rfl, rfl⟩ := trodVars_none hV
  have k0 := h0
  have lt0 : ∀ x ∈ p0, x.block < W.heap.size := by obtain ⟨m, hm⟩ := k0; exact DataW.trod_lt m _ _ _ hm
  obtain ⟨a0, rfl, -, -, wf0⟩ := open_int Try.underlying3 (hval 0 3 v0 rfl rfl) h0
  have wa0 := bounds_i64 wf0
  have k1 := h1
  have lt1 : ∀ x ∈ p1, x.block < W.heap.size := by obtain ⟨m, hm⟩ := k1; exact DataW.trod_lt m _ _ _ hm
  obtain ⟨a1, b1, rfl, wa1, wb1⟩ := open_lpair (hval 1 39 v1 rfl rfl) h1
  have k2 := h2
  have lt2 : ∀ x ∈ p2, x.block < W.heap.size := by obtain ⟨m, hm⟩ := k2; exact DataW.trod_lt m _ _ _ hm
  obtain ⟨a2, b2, rfl, wa2, wb2⟩ := open_lpair (hval 2 39 v2 rfl rfl) h2
  clear hA0 hval0
  refine (FnExactPairCut_walk a0 wa0 a1 b1 wa1 wb1 a2 b2 wa2 wb2 W ).mono fun e W' ⟨he, bel⟩ => ?_
  subst he
  exact ⟨_, rfl, _, _, _, [], _, [], hW', trodAll_mk1 (shut_bool Try.underlying4 _), (trodAll_cons_mk (Below.trod jf1 (by kernel_rfl) (of_decide_eq_true (by kernel_rfl)) k0 bel lt0) (trodAll_cons_mk (Below.trod jf1 (by kernel_rfl) (of_decide_eq_true (by kernel_rfl)) k1 bel lt1) (trodAll_cons_mk (Below.trod jf1 (by kernel_rfl) (of_decide_eq_true (by kernel_rfl)) k2 bel lt2) trodAll_mk0))), rfl, bel.frame _, fun h => by cases h⟩

theorem FnExactPairCut_k0 : (Rows.fnExactPairCutRow.wf (OpenSpec.ofChange Rows.fnExactPairCutSpec)) = true := by kernel_rfl
theorem FnExactPairCut_k3 : (Try.f11.params.all (Try.prog.readableRec ·)) = true := by kernel_rfl
theorem FnExactPairCut_k4 : (namedTie Try.prog Rows.fnExactPairCutRow.named Rows.fnExactPairCutSpec.vars) = true := by kernel_rfl
theorem FnExactPairCut_k5 : ((Rows.fnExactPairCutRow.stops == [])) = true := by kernel_rfl
theorem FnExactPairCut_k7 : ((Rows.fnExactPairCutRow.knobs == [])) = true := by kernel_rfl
theorem FnExactPairCut_k9 : ((Rows.fnExactPairCutRow.inPlace == Try.prog.inPlace 11)) = true := by kernel_rfl
theorem FnExactPairCut_k10 : ((Rows.fnExactPairCutRow.unfollowed == Try.prog.unfollowed 11)) = true := by kernel_rfl
theorem FnExactPairCut_k11 : ((Rows.fnExactPairCutRow.recurses == Try.prog.recurses 11)) = true := by kernel_rfl
theorem FnExactPairCut_k12 : ((Rows.fnExactPairCutRow.named == Try.prog.varsNamed 11)) = true := by kernel_rfl
theorem FnExactPairCut_k13 : ((Rows.fnExactPairCutRow.maps == (Try.f11.params.toList ++ Rows.fnExactPairCutSpec.plain.varTypes Try.prog).any (Try.prog.mapsRec ·))) = true := by kernel_rfl
theorem FnExactPairCut_k14 : ((Rows.fnExactPairCutRow.ifaces == (Try.f11.params.toList ++ Rows.fnExactPairCutSpec.plain.varTypes Try.prog).any (Try.prog.ifacesRec ·))) = true := by kernel_rfl
theorem FnExactPairCut_k15 : ((Rows.fnExactPairCutRow.mapsOut == Try.prog.mapsAmong Try.f11.resultTypes.toList)) = true := by kernel_rfl
theorem FnExactPairCut_k16 : ((Rows.fnExactPairCutRow.loops == (Try.f11.params.toList ++ Rows.fnExactPairCutSpec.plain.varTypes Try.prog).any (Try.prog.loopsFrom ·))) = true := by kernel_rfl
theorem FnExactPairCut_k17 : ((Rows.fnExactPairCutRow.wideKeys == (Try.f11.params.toList ++ Rows.fnExactPairCutSpec.plain.varTypes Try.prog ++ Try.f11.resultTypes.toList).any (Try.prog.wideKeysFrom ·))) = true := by kernel_rfl
theorem FnExactPairCut_k18 : (Rows.fnExactPairCutSpec.vars.all (Try.prog.varReadable ·)) = true := by kernel_rfl
theorem FnExactPairCut_k19 : (Try.f11.resultTypes.all (fun t => Try.prog.readableRec t && decide (t < Try.prog.types.size))) = true := by kernel_rfl
theorem FnExactPairCut_k20 : ((Rows.fnExactPairCutRow.ifacesOut == Try.f11.resultTypes.toList.any (Try.prog.ifacesRec ·))) = true := by kernel_rfl
theorem FnExactPairCut_k21 : ((Rows.fnExactPairCutRow.loopsOut == Try.f11.resultTypes.toList.any (Try.prog.loopsFrom ·))) = true := by kernel_rfl
theorem FnExactPairCut_k23 : (Rows.fnExactPairCutRow.shortTexts.isNone) = true := by kernel_rfl
theorem FnExactPairCut_k28 : ((Rows.fnExactPairCutRow.kinds == (if Rows.fnExactPairCutRow.domain.isEmpty then [] else Try.f11.params.toList.map fun t => match Try.prog.underlying t with | some (.int k) => some k | _ => none))) = true := by kernel_rfl
theorem FnExactPairCut_k29 : ((Rows.fnExactPairCutRow.pinned == Rows.fnExactPairCutRow.pinnedBy)) = true := by kernel_rfl
theorem FnExactPairCut_k30 : ((Rows.fnExactPairCutRow.veiled == (Try.f11.params.toList ++ Rows.fnExactPairCutSpec.plain.varTypes Try.prog ++ Try.f11.resultTypes.toList).any (Try.prog.veiledRec ·))) = true := by kernel_rfl
theorem FnExactPairCut_k31 : (Rows.fnExactPairCutRow.veiledFits Try.prog Try.f11.params.toList (Try.f11.params.toList ++ Rows.fnExactPairCutSpec.plain.varTypes Try.prog ++ Try.f11.resultTypes.toList)) = true := by kernel_rfl
set_option maxRecDepth 100000 in
theorem FnExactPairCut_closed : joinedFacts Try.prog 11 Try.f11 Rows.fnExactPairCutSpec Rows.fnExactPairCutRow = true := (and2 (and2 (and2 (and2 (and2 (and2 (and2 (and2 (and2 (and2 (and2 (and2 (and2 (and2 (and2 (and2 (and2 (and2 (and2 (and2 (and2 (and2 (and2 (and2 (and2 (and2 (and2 (and2 (and2 (and2 (and2 FnExactPairCut_k0 jf1) jf2) FnExactPairCut_k3) FnExactPairCut_k4) FnExactPairCut_k5) jf6) FnExactPairCut_k7) jf8) FnExactPairCut_k9) FnExactPairCut_k10) FnExactPairCut_k11) FnExactPairCut_k12) FnExactPairCut_k13) FnExactPairCut_k14) FnExactPairCut_k15) FnExactPairCut_k16) FnExactPairCut_k17) FnExactPairCut_k18) FnExactPairCut_k19) FnExactPairCut_k20) FnExactPairCut_k21) jf22) FnExactPairCut_k23) jf24) jf25) jf26) jf27) FnExactPairCut_k28) FnExactPairCut_k29) FnExactPairCut_k30) FnExactPairCut_k31)
theorem FnExactPairCut_over : Rows.fnExactPairCutRow.holds Try.pinned (OpenSpec.ofChange Rows.fnExactPairCutSpec) :=
  OpenClaim.holds_of_wide 11 Try.f11 rfl rfl rfl rfl rfl rfl rfl ⟨rfl, rfl, rfl, rfl, rfl⟩ rfl rfl rfl rfl rfl (by kernel_rfl) Try.func11 FnExactPairCut_closed
    (of_decide_eq_true (by kernel_rfl)) (by unfold Func.isWrapper; first | (rw [if_pos (by decide +kernel)]; kernel_rfl) | (rw [if_neg (by decide +kernel)]; exact ⟨rfl, rfl⟩))
    (fun os started H enc _ => FnExactPairCut_lifted os started H enc)

theorem FnExactPairCut_proved : Rows.FnExactPairCutSaid := FnExactPairCut_over
end Go.Proofs.Yteigdooniolmlaa
