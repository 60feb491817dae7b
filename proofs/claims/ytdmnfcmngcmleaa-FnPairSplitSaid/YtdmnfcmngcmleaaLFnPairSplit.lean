/- For every code of bytes the two parts of the pair that is drawn from it are what the document says: they share the middle, have half of its steps each, and hold together what it holds; the law answers true; nothing that was there is written. No condition. -/
import Derived.Test.YtdmnfcmngcmleaaRows
import Derived.WalkKit
import Derived.ProofKit
import Derived.OpenShut
import Derived.Below
import Derived.Carry
import Derived.Test.YtdmnfcmngcmleaaO1
import Derived.Test.YtdmnfcmngcmleaaO2
import Derived.Test.YtdmnfcmngcmleaaDQ
import Derived.Test.YtdmnfcmngcmleaaR9
import Derived.Test.YtdmnfcmngcmleaaPB
import Derived.Test.YtdmnfcmngcmleaaCut
import Derived.Test.YtdmnfcmngcmleaaU5
import Derived.Test.YtdmnfcmngcmleaaBJ
namespace Go.Proofs.Ytdmnfcmngcmleaa
open Go.ChangeShapes Go.WideShapes Go.ChangeAt Go.RowKit
set_option linter.unusedVariables false

theorem FnPairSplit_own : ownKnob Try.prog.godebug = none := by kernel_rfl

set_option maxRecDepth 100000 in
set_option maxHeartbeats 60000000 in
theorem FnPairSplit_walk (a0 : Option Addr) (len0 cap0 : Nat) (a1 : Option Addr) (len1 cap1 : Nat) (w : World) (wb0 : IsCode w a0 len0 cap0) (wb1 : IsCode w a1 len1 cap1):
    Calls Try.prog 3 #[.slice a0 len0 cap0, .slice a1 len1 cap1] w fun e w' => e = .returned (.bool true) ∧ Below w.heap.size w w' := by
  by_cases c0 : (1048576 : Int) < (len0 : Int)
  · have t0 : decide ((1048576 : Int) < (len0 : Int)) = true := by simp; omega
    go_enter Try.func3, Try.ntmps3
    go_wp2
    go_ret
    exact ⟨rfl, (by repeat (first | exact Below.refl _ _ | refine Below.drew ?_ | refine old_alloc ?_ _ | refine old_trans ?_ (by assumption)))⟩
  by_cases c1 : (1048576 : Int) < (len1 : Int)
  · have t1 : decide ((1048576 : Int) < (len1 : Int)) = true := by simp; omega
    go_enter Try.func3, Try.ntmps3
    go_wp2
    go_ret
    exact ⟨rfl, (by repeat (first | exact Below.refl _ _ | refine Below.drew ?_ | refine old_alloc ?_ _ | refine old_trans ?_ (by assumption)))⟩
  have hB : Below w.heap.size w w := Below.refl _ _
  go_enter Try.func3, Try.ntmps3
  go_wp2_with fail
  refine (goodPair _ a0 len0 cap0 wb0).mono ?_
  rintro e w1 ⟨⟨wd, a, b, hwd, hpk, rfl⟩, hb1⟩
  replace wb1 := (by with_reducible first | exact wb1.old hb1 | exact (wb1.old ((Below.refl _ _).alloc (Nat.le_refl _) _)).old hb1 | exact ((wb1.old ((Below.refl _ _).alloc (Nat.le_refl _) _)).old ((Below.refl _ _).alloc (Nat.le_refl _) _)).old hb1 : IsCode w1 _ _ _)
  replace hB := (by with_reducible first | exact old_trans hB hb1 | exact old_trans (old_alloc hB _) hb1 | exact old_trans (old_alloc (old_alloc hB _) _) hb1 : Below w.heap.size w w1)
  have hin := pokB_in hpk
  have hbd := pokB_bd' hpk
  have hab := hin.2.2.1
  have S := hd (iPairSplit wd a b (by omega) (by omega) (by omega) (by omega))
  have Gs := hd (sGapW a b (by omega) (by omega) (by omega) (by omega))
  have Gi := hd (iGapW a b (by omega) (by omega) (by omega) (by omega))
  have eg : gapI a b = b - a := by unfold gapI; rw [if_neg (by omega)]
  rw [eg] at Gs Gi
  by_cases hg : 2 ≤ b - a
  case neg =>
    have es : splitB wd a b = false := by unfold splitB; rw [hpk, eg]; simp [hg]
    rw [es] at S
    have S' : Hid (∀ w : World, Calls Try.prog 6 #[.int .i64 wd, .agg #[.int .i64 a, .int .i64 b]] w fun e w' => e = .returned (.tuple #[.agg #[.int .i64 0, .int .i64 0], .agg #[.int .i64 0, .int .i64 0], .bool false]) ∧ Below w.heap.size w w') := S
    clear S es eg hpk hin
    go_wp2_with fail
    refine (S'.out _).mono ?_
    rintro e w2 ⟨rfl, hb2⟩
    have P := (Cel2.made _ _ rfl (.int .i64 a) (.int .i64 b) 24).later hb2
    (try simp only [World.size_alloc] at P)
    replace wb1 := (by with_reducible first | exact wb1.old hb2 | exact (wb1.old ((Below.refl _ _).alloc (Nat.le_refl _) _)).old hb2 | exact ((wb1.old ((Below.refl _ _).alloc (Nat.le_refl _) _)).old ((Below.refl _ _).alloc (Nat.le_refl _) _)).old hb2 : IsCode w2 _ _ _)
    replace hB := (by with_reducible first | exact old_trans hB hb2 | exact old_trans (old_alloc hB _) hb2 | exact old_trans (old_alloc (old_alloc hB _) _) hb2 : Below w.heap.size w w2)
    have P0 := P.1
    have P1 := P.2.1
    have Pz := P.2.2.2.2
    go_wp2_with fail
    refine (Gs.out _).mono ?_
    rintro e wz ⟨rfl, rfl⟩
    go_wp2_with fail
    refine (Gi.out _).mono ?_
    rintro e wz ⟨rfl, rfl⟩
    go_wp2
    go_ret
    exact ⟨rfl, (by repeat (first | exact hB | exact Below.refl _ _ | refine Below.drew ?_ | refine old_alloc ?_ _ | refine old_trans ?_ (by assumption)))⟩
  have es : splitB wd a b = true := by unfold splitB; rw [hpk, eg]; simp [hg]
  have em : midI a b = a + (b - a) / 2 := by unfold midI; rw [eg]
  obtain ⟨m, hm⟩ : ∃ m : Int, m = a + (b - a) / 2 := ⟨_, rfl⟩
  rw [es, em, ← hm] at S
  have S' : Hid (∀ w : World, Calls Try.prog 6 #[.int .i64 wd, .agg #[.int .i64 a, .int .i64 b]] w fun e w' => e = .returned (.tuple #[.agg #[.int .i64 a, .int .i64 m], .agg #[.int .i64 m, .int .i64 b], .bool true]) ∧ Below w.heap.size w w') := S
  have hq : a < m ∧ m < b ∧ 2 * (m - a) ≤ b - a ∧ b - a ≤ 2 * (m - a) + 1 := by omega
  have Ga := hd (iGapW a m (by omega) (by omega) (by omega) (by omega))
  have Gb := hd (iGapW m b (by omega) (by omega) (by omega) (by omega))
  rw [show gapI a m = m - a by unfold gapI; rw [if_neg (by omega)]] at Ga
  rw [show gapI m b = b - m by unfold gapI; rw [if_neg (by omega)]] at Gb
  have O1 := hd (iPairOk wd a m)
  have O2 := hd (iPairOk wd m b)
  rw [show pokB wd a m = true from pokB_mk hin.1 (okB_mid hin.1 hin.2.1 (by omega) (by omega)) (by omega) hin.2.2.2.1 (by have := (okB_in hin.1).2; omega)] at O1
  rw [show pokB wd m b = true from pokB_mk (okB_mid hin.1 hin.2.1 (by omega) (by omega)) hin.2.1 (by omega) (by have := (okB_in hin.2.1).2; omega) hin.2.2.2.2] at O2
  have I1 := hd (iPairIs a m a b)
  have I2 := hd (iPairIs m b a b)
  rw [show isB a m a b = true by unfold isB; simp; omega] at I1
  rw [show isB m b a b = true by unfold isB; simp; omega] at I2
  have d1 : ¬ ((b - a) / 2 < m - a) := by omega
  have d2 : ¬ (b - a ≤ m - a) := by omega
  have d3 : ¬ (b - a ≤ b - m) := by omega
  have d4 : (m - a) + (b - m) = b - a := by omega
  have d5 : 0 ≤ b - a ∧ b - a ≤ 18446744073709551615 := by omega
  have d6 : 0 ≤ m - a ∧ m - a ≤ 18446744073709551615 := by omega
  have d7 : 0 ≤ b - m ∧ b - m ≤ 18446744073709551615 := by omega
  have hq2 := hq.1
  have hq3 := hq.2.1
  clear S es eg em hpk hin hm hq
  generalize b - a = g at *
  generalize m - a = p at *
  generalize b - m = q at *
  go_wp2_with fail
  refine (S'.out _).mono ?_
  rintro e w2 ⟨rfl, hb2⟩
  have P := (Cel2.made _ _ rfl (.int .i64 a) (.int .i64 b) 24).later hb2
  (try simp only [World.size_alloc] at P)
  replace wb1 := (by with_reducible first | exact wb1.old hb2 | exact (wb1.old ((Below.refl _ _).alloc (Nat.le_refl _) _)).old hb2 | exact ((wb1.old ((Below.refl _ _).alloc (Nat.le_refl _) _)).old ((Below.refl _ _).alloc (Nat.le_refl _) _)).old hb2 : IsCode w2 _ _ _)
  replace hB := (by with_reducible first | exact old_trans hB hb2 | exact old_trans (old_alloc hB _) hb2 | exact old_trans (old_alloc (old_alloc hB _) _) hb2 : Below w.heap.size w w2)
  have P0 := P.1
  have P1 := P.2.1
  have Pz := P.2.2.2.2
  go_wp2_with fail
  refine (Gs.out _).mono ?_
  rintro e wz ⟨rfl, rfl⟩
  go_wp2_with fail
  refine (Gi.out _).mono ?_
  rintro e wz ⟨rfl, rfl⟩
  go_wp2_with fail
  refine (O1.out _).mono ?_
  rintro e w3 ⟨rfl, hb3⟩
  clear P0 P1 Pz
  replace P := (by with_reducible first | exact P.later hb3 | exact (P.alloc _).later hb3 | exact ((P.alloc _).alloc _).later hb3 | exact P.drew.later hb3 : Cel2 w3 _ _ _)
  have N := ((Cel2.made _ _ rfl (.int .i64 a) (.int .i64 m) 24).alloc _).later hb3
  (try simp only [World.size_alloc] at N)
  have O := (Cel2.made _ _ rfl (.int .i64 m) (.int .i64 b) 24).later hb3
  (try simp only [World.size_alloc] at O)
  replace wb1 := (by with_reducible first | exact wb1.old hb3 | exact (wb1.old ((Below.refl _ _).alloc (Nat.le_refl _) _)).old hb3 | exact ((wb1.old ((Below.refl _ _).alloc (Nat.le_refl _) _)).old ((Below.refl _ _).alloc (Nat.le_refl _) _)).old hb3 : IsCode w3 _ _ _)
  replace hB := (by with_reducible first | exact old_trans hB hb3 | exact old_trans (old_alloc hB _) hb3 | exact old_trans (old_alloc (old_alloc hB _) _) hb3 : Below w.heap.size w w3)
  have P0 := P.1
  have P1 := P.2.1
  have Pz := P.2.2.2.2
  have N0 := N.1
  have N1 := N.2.1
  have Nz := N.2.2.2.2
  have O0 := O.1
  have O1 := O.2.1
  have Oz := O.2.2.2.2
  go_wp2_with fail
  refine (O2.out _).mono ?_
  rintro e w4 ⟨rfl, hb4⟩
  clear P0 P1 Pz N0 N1 Nz O0 O1 Oz
  replace P := (by with_reducible first | exact P.later hb4 | exact (P.alloc _).later hb4 | exact ((P.alloc _).alloc _).later hb4 | exact P.drew.later hb4 : Cel2 w4 _ _ _)
  replace N := (by with_reducible first | exact N.later hb4 | exact (N.alloc _).later hb4 | exact ((N.alloc _).alloc _).later hb4 | exact N.drew.later hb4 : Cel2 w4 _ _ _)
  replace O := (by with_reducible first | exact O.later hb4 | exact (O.alloc _).later hb4 | exact ((O.alloc _).alloc _).later hb4 | exact O.drew.later hb4 : Cel2 w4 _ _ _)
  replace wb1 := (by with_reducible first | exact wb1.old hb4 | exact (wb1.old ((Below.refl _ _).alloc (Nat.le_refl _) _)).old hb4 | exact ((wb1.old ((Below.refl _ _).alloc (Nat.le_refl _) _)).old ((Below.refl _ _).alloc (Nat.le_refl _) _)).old hb4 : IsCode w4 _ _ _)
  replace hB := (by with_reducible first | exact old_trans hB hb4 | exact old_trans (old_alloc hB _) hb4 | exact old_trans (old_alloc (old_alloc hB _) _) hb4 : Below w.heap.size w w4)
  have P0 := P.1
  have P1 := P.2.1
  have Pz := P.2.2.2.2
  have N0 := N.1
  have N1 := N.2.1
  have Nz := N.2.2.2.2
  have O0 := O.1
  have O1 := O.2.1
  have Oz := O.2.2.2.2
  go_wp2_with fail
  refine (I1.out _).mono ?_
  rintro e w5 ⟨rfl, hb5⟩
  clear P0 P1 Pz N0 N1 Nz O0 O1 Oz
  replace P := (by with_reducible first | exact P.later hb5 | exact (P.alloc _).later hb5 | exact ((P.alloc _).alloc _).later hb5 | exact P.drew.later hb5 : Cel2 w5 _ _ _)
  replace N := (by with_reducible first | exact N.later hb5 | exact (N.alloc _).later hb5 | exact ((N.alloc _).alloc _).later hb5 | exact N.drew.later hb5 : Cel2 w5 _ _ _)
  replace O := (by with_reducible first | exact O.later hb5 | exact (O.alloc _).later hb5 | exact ((O.alloc _).alloc _).later hb5 | exact O.drew.later hb5 : Cel2 w5 _ _ _)
  replace wb1 := (by with_reducible first | exact wb1.old hb5 | exact (wb1.old ((Below.refl _ _).alloc (Nat.le_refl _) _)).old hb5 | exact ((wb1.old ((Below.refl _ _).alloc (Nat.le_refl _) _)).old ((Below.refl _ _).alloc (Nat.le_refl _) _)).old hb5 : IsCode w5 _ _ _)
  replace hB := (by with_reducible first | exact old_trans hB hb5 | exact old_trans (old_alloc hB _) hb5 | exact old_trans (old_alloc (old_alloc hB _) _) hb5 : Below w.heap.size w w5)
  have P0 := P.1
  have P1 := P.2.1
  have Pz := P.2.2.2.2
  have N0 := N.1
  have N1 := N.2.1
  have Nz := N.2.2.2.2
  have O0 := O.1
  have O1 := O.2.1
  have Oz := O.2.2.2.2
  go_wp2_with fail
  refine (I2.out _).mono ?_
  rintro e w6 ⟨rfl, hb6⟩
  clear P0 P1 Pz N0 N1 Nz O0 O1 Oz
  replace P := (by with_reducible first | exact P.later hb6 | exact (P.alloc _).later hb6 | exact ((P.alloc _).alloc _).later hb6 | exact P.drew.later hb6 : Cel2 w6 _ _ _)
  replace N := (by with_reducible first | exact N.later hb6 | exact (N.alloc _).later hb6 | exact ((N.alloc _).alloc _).later hb6 | exact N.drew.later hb6 : Cel2 w6 _ _ _)
  replace O := (by with_reducible first | exact O.later hb6 | exact (O.alloc _).later hb6 | exact ((O.alloc _).alloc _).later hb6 | exact O.drew.later hb6 : Cel2 w6 _ _ _)
  replace wb1 := (by with_reducible first | exact wb1.old hb6 | exact (wb1.old ((Below.refl _ _).alloc (Nat.le_refl _) _)).old hb6 | exact ((wb1.old ((Below.refl _ _).alloc (Nat.le_refl _) _)).old ((Below.refl _ _).alloc (Nat.le_refl _) _)).old hb6 : IsCode w6 _ _ _)
  replace hB := (by with_reducible first | exact old_trans hB hb6 | exact old_trans (old_alloc hB _) hb6 | exact old_trans (old_alloc (old_alloc hB _) _) hb6 : Below w.heap.size w w6)
  have P0 := P.1
  have P1 := P.2.1
  have Pz := P.2.2.2.2
  have N0 := N.1
  have N1 := N.2.1
  have Nz := N.2.2.2.2
  have O0 := O.1
  have O1 := O.2.1
  have Oz := O.2.2.2.2
  go_wp2_with fail
  refine (Ga.out _).mono ?_
  rintro e wz ⟨rfl, rfl⟩
  go_wp2_with fail
  refine (Gb.out _).mono ?_
  rintro e wz ⟨rfl, rfl⟩
  go_wp2_with fail
  refine (goodPair _ a1 len1 cap1 wb1).mono ?_
  rintro e w7 ⟨⟨wd', c, d, -, -, rfl⟩, hb7⟩
  clear P0 P1 Pz N0 N1 Nz O0 O1 Oz
  replace P := (by with_reducible first | exact P.later hb7 | exact (P.alloc _).later hb7 | exact ((P.alloc _).alloc _).later hb7 | exact P.drew.later hb7 : Cel2 w7 _ _ _)
  replace N := (by with_reducible first | exact N.later hb7 | exact (N.alloc _).later hb7 | exact ((N.alloc _).alloc _).later hb7 | exact N.drew.later hb7 : Cel2 w7 _ _ _)
  replace O := (by with_reducible first | exact O.later hb7 | exact (O.alloc _).later hb7 | exact ((O.alloc _).alloc _).later hb7 | exact O.drew.later hb7 : Cel2 w7 _ _ _)
  replace wb1 := (by with_reducible first | exact wb1.old hb7 | exact (wb1.old ((Below.refl _ _).alloc (Nat.le_refl _) _)).old hb7 | exact ((wb1.old ((Below.refl _ _).alloc (Nat.le_refl _) _)).old ((Below.refl _ _).alloc (Nat.le_refl _) _)).old hb7 : IsCode w7 _ _ _)
  replace hB := (by with_reducible first | exact old_trans hB hb7 | exact old_trans (old_alloc hB _) hb7 | exact old_trans (old_alloc (old_alloc hB _) _) hb7 : Below w.heap.size w w7)
  have P0 := P.1
  have P1 := P.2.1
  have Pz := P.2.2.2.2
  have N0 := N.1
  have N1 := N.2.1
  have Nz := N.2.2.2.2
  have O0 := O.1
  have O1 := O.2.1
  have Oz := O.2.2.2.2
  have J1 := hd (iPairIs c c a b)
  have J2 := hd (iPairIs c c a m)
  have J3 := hd (iPairIs c c m b)
  have hcs : (isB c c a b = true ∧ isB c c a m = true) ∨ (isB c c a b = true ∧ isB c c a m = false ∧ isB c c m b = true) ∨ (isB c c a b = false ∧ isB c c a m = false ∧ isB c c m b = false) := by
    unfold isB
    simp only [decide_eq_true_eq, decide_eq_false_iff_not]
    omega
  clear P0 P1 Pz N0 N1 Nz O0 O1 Oz
  replace P := (P.alloc (.cells #[.int .i64 c, .int .i64 d] 24)).alloc (.cells #[.int .i64 c, .int .i64 c] 24)
  replace N := (N.alloc (.cells #[.int .i64 c, .int .i64 d] 24)).alloc (.cells #[.int .i64 c, .int .i64 c] 24)
  replace O := (O.alloc (.cells #[.int .i64 c, .int .i64 d] 24)).alloc (.cells #[.int .i64 c, .int .i64 c] 24)
  have X : Cel2 ((w7.alloc (.cells #[.int .i64 c, .int .i64 d] 24)).alloc (.cells #[.int .i64 c, .int .i64 c] 24)) (w7.heap.size + 1) (.int .i64 c) (.int .i64 c) := Cel2.made _ _ (by simp) _ _ _
  replace hB : Below w.heap.size w ((w7.alloc (.cells #[.int .i64 c, .int .i64 d] 24)).alloc (.cells #[.int .i64 c, .int .i64 c] 24)) := old_alloc (old_alloc hB _) _
  have P0 := P.1
  have P1 := P.2.1
  have Pz := P.2.2.2.2
  have N0 := N.1
  have N1 := N.2.1
  have Nz := N.2.2.2.2
  have O0 := O.1
  have O1 := O.2.1
  have Oz := O.2.2.2.2
  have X0 := X.1
  have X1 := X.2.1
  have Xz := X.2.2.2.2
  clear J1 J2 J3
  rcases hcs with ⟨h1, h2⟩ | ⟨h1, h2, h3⟩ | ⟨h1, h2, h3⟩
  · go_wp2_with fail
    have U1 := hd (fun w' (hS : w'.cell? ⟨w1.heap.size, 0, none⟩ = some (.int .i64 a) ∧ w'.cell? ⟨w1.heap.size, 1, none⟩ = some (.int .i64 b) ∧ w'.cell? ⟨w2.heap.size, 0, none⟩ = some (.int .i64 a) ∧ w'.cell? ⟨w2.heap.size, 1, none⟩ = some (.int .i64 m) ∧ w'.cell? ⟨w2.heap.size + 1, 0, none⟩ = some (.int .i64 m) ∧ w'.cell? ⟨w2.heap.size + 1, 1, none⟩ = some (.int .i64 b) ∧ w'.cell? ⟨w7.heap.size + 1, 0, none⟩ = some (.int .i64 c) ∧ w'.cell? ⟨w7.heap.size + 1, 1, none⟩ = some (.int .i64 c)) => (iPairIs c c a b w').mono (fun e w'' (k : _ ∧ _) => (⟨k, four_old hS k.2⟩ : (_ ∧ _) ∧ (w''.cell? ⟨w1.heap.size, 0, none⟩ = some (.int .i64 a) ∧ w''.cell? ⟨w1.heap.size, 1, none⟩ = some (.int .i64 b) ∧ w''.cell? ⟨w2.heap.size, 0, none⟩ = some (.int .i64 a) ∧ w''.cell? ⟨w2.heap.size, 1, none⟩ = some (.int .i64 m) ∧ w''.cell? ⟨w2.heap.size + 1, 0, none⟩ = some (.int .i64 m) ∧ w''.cell? ⟨w2.heap.size + 1, 1, none⟩ = some (.int .i64 b) ∧ w''.cell? ⟨w7.heap.size + 1, 0, none⟩ = some (.int .i64 c) ∧ w''.cell? ⟨w7.heap.size + 1, 1, none⟩ = some (.int .i64 c)))))
    have U2 := hd (fun w' (hS : w'.cell? ⟨w1.heap.size, 0, none⟩ = some (.int .i64 a) ∧ w'.cell? ⟨w1.heap.size, 1, none⟩ = some (.int .i64 b) ∧ w'.cell? ⟨w2.heap.size, 0, none⟩ = some (.int .i64 a) ∧ w'.cell? ⟨w2.heap.size, 1, none⟩ = some (.int .i64 m) ∧ w'.cell? ⟨w2.heap.size + 1, 0, none⟩ = some (.int .i64 m) ∧ w'.cell? ⟨w2.heap.size + 1, 1, none⟩ = some (.int .i64 b) ∧ w'.cell? ⟨w7.heap.size + 1, 0, none⟩ = some (.int .i64 c) ∧ w'.cell? ⟨w7.heap.size + 1, 1, none⟩ = some (.int .i64 c)) => (iPairIs c c a m w').mono (fun e w'' (k : _ ∧ _) => (⟨k, four_old hS k.2⟩ : (_ ∧ _) ∧ (w''.cell? ⟨w1.heap.size, 0, none⟩ = some (.int .i64 a) ∧ w''.cell? ⟨w1.heap.size, 1, none⟩ = some (.int .i64 b) ∧ w''.cell? ⟨w2.heap.size, 0, none⟩ = some (.int .i64 a) ∧ w''.cell? ⟨w2.heap.size, 1, none⟩ = some (.int .i64 m) ∧ w''.cell? ⟨w2.heap.size + 1, 0, none⟩ = some (.int .i64 m) ∧ w''.cell? ⟨w2.heap.size + 1, 1, none⟩ = some (.int .i64 b) ∧ w''.cell? ⟨w7.heap.size + 1, 0, none⟩ = some (.int .i64 c) ∧ w''.cell? ⟨w7.heap.size + 1, 1, none⟩ = some (.int .i64 c)))))
    rw [h1] at U1
    rw [h2] at U2
    have hk : ((w7.alloc (.cells #[.int .i64 c, .int .i64 d] 24)).alloc (.cells #[.int .i64 c, .int .i64 c] 24)).cell? ⟨w1.heap.size, 0, none⟩ = some (.int .i64 a) ∧ ((w7.alloc (.cells #[.int .i64 c, .int .i64 d] 24)).alloc (.cells #[.int .i64 c, .int .i64 c] 24)).cell? ⟨w1.heap.size, 1, none⟩ = some (.int .i64 b) ∧ ((w7.alloc (.cells #[.int .i64 c, .int .i64 d] 24)).alloc (.cells #[.int .i64 c, .int .i64 c] 24)).cell? ⟨w2.heap.size, 0, none⟩ = some (.int .i64 a) ∧ ((w7.alloc (.cells #[.int .i64 c, .int .i64 d] 24)).alloc (.cells #[.int .i64 c, .int .i64 c] 24)).cell? ⟨w2.heap.size, 1, none⟩ = some (.int .i64 m) ∧ ((w7.alloc (.cells #[.int .i64 c, .int .i64 d] 24)).alloc (.cells #[.int .i64 c, .int .i64 c] 24)).cell? ⟨w2.heap.size + 1, 0, none⟩ = some (.int .i64 m) ∧ ((w7.alloc (.cells #[.int .i64 c, .int .i64 d] 24)).alloc (.cells #[.int .i64 c, .int .i64 c] 24)).cell? ⟨w2.heap.size + 1, 1, none⟩ = some (.int .i64 b) ∧ ((w7.alloc (.cells #[.int .i64 c, .int .i64 d] 24)).alloc (.cells #[.int .i64 c, .int .i64 c] 24)).cell? ⟨w7.heap.size + 1, 0, none⟩ = some (.int .i64 c) ∧ ((w7.alloc (.cells #[.int .i64 c, .int .i64 d] 24)).alloc (.cells #[.int .i64 c, .int .i64 c] 24)).cell? ⟨w7.heap.size + 1, 1, none⟩ = some (.int .i64 c) := ⟨P.1, P.2.1, N.1, N.2.1, O.1, O.2.1, X.1, X.2.1⟩
    refine wp_region_held_drew (S := fun w' => w'.cell? ⟨w1.heap.size, 0, none⟩ = some (.int .i64 a) ∧ w'.cell? ⟨w1.heap.size, 1, none⟩ = some (.int .i64 b) ∧ w'.cell? ⟨w2.heap.size, 0, none⟩ = some (.int .i64 a) ∧ w'.cell? ⟨w2.heap.size, 1, none⟩ = some (.int .i64 m) ∧ w'.cell? ⟨w2.heap.size + 1, 0, none⟩ = some (.int .i64 m) ∧ w'.cell? ⟨w2.heap.size + 1, 1, none⟩ = some (.int .i64 b) ∧ w'.cell? ⟨w7.heap.size + 1, 0, none⟩ = some (.int .i64 c) ∧ w'.cell? ⟨w7.heap.size + 1, 1, none⟩ = some (.int .i64 c)) rfl hk ?_
    intro hS
    refine wpAnyH_take (i := 0) (v := ?_) rfl (by kernel_rfl) (by kernel_rfl) (by kernel_rfl) (fun _ _ _ h => h) (Or.inl ⟨by rfl, ?_⟩) hS ?_
    rotate_left
    · intro w' hS'; obtain ⟨s0, s1, s2, s3, s4, s5, s6, s7⟩ := hS'; go_simp <;> with_reducible rfl
    refine wpAnyH_take (i := 1) (v := ?_) rfl (by kernel_rfl) (by kernel_rfl) (by kernel_rfl) (fun _ _ _ h => h) (Or.inl ⟨by rfl, ?_⟩) hS ?_
    rotate_left
    · intro w' hS'; obtain ⟨s0, s1, s2, s3, s4, s5, s6, s7⟩ := hS'; go_simp <;> with_reducible rfl
    refine wpAnyH_take (i := 3) (v := ?_) rfl (by kernel_rfl) (by kernel_rfl) (by kernel_rfl) (fun _ _ _ h => h) (Or.inl ⟨by rfl, ?_⟩) hS ?_
    rotate_left
    · intro w' hS'; obtain ⟨s0, s1, s2, s3, s4, s5, s6, s7⟩ := hS'; go_simp <;> with_reducible rfl
    refine wpAnyH_take (i := 4) (v := ?_) rfl (by kernel_rfl) (by kernel_rfl) (by kernel_rfl) (fun _ _ _ h => h) (Or.inl ⟨by rfl, ?_⟩) hS ?_
    rotate_left
    · intro w' hS'; obtain ⟨s0, s1, s2, s3, s4, s5, s6, s7⟩ := hS'; go_simp <;> with_reducible rfl
    refine wpAnyH_ready (rs := [2]) (by kernel_rfl) (by simp) ?_
    refine AllReadyH.cons rfl (fun K hK => ?_) AllReadyH.nil
    go_simp
    refine (U1.out _ hS).mono ?_
    rintro e wq1 ⟨⟨rfl, hq1⟩, hc_wq1⟩
    refine hK.out _ _ hc_wq1 ?_
    intro hS1
    clear hK K
    refine wpAnyH_ready (rs := [5]) (by kernel_rfl) (by simp) ?_
    refine AllReadyH.cons rfl (fun K hK => ?_) AllReadyH.nil
    go_simp
    refine (U2.out _ hS1).mono ?_
    rintro e wq2 ⟨⟨rfl, hq2⟩, hc_wq2⟩
    refine hK.out _ _ hc_wq2 ?_
    intro hS2
    clear hK K
    refine wpAnyH_take (i := 6) (v := ?_) rfl (by kernel_rfl) (by kernel_rfl) (by kernel_rfl) (fun _ _ _ h => h) (Or.inl ⟨by rfl, ?_⟩) hS2 ?_
    rotate_left
    · intro w' hS'; obtain ⟨s0, s1, s2, s3, s4, s5, s6, s7⟩ := hS'; go_simp <;> with_reducible rfl
    refine wpAnyH_take (i := 7) (v := undef) rfl (by kernel_rfl) (by kernel_rfl) (by kernel_rfl) (fun _ _ _ h => h) (Or.inr ⟨by rfl, rfl⟩) hS2 ?_
    refine wpAnyH_take (i := 8) (v := undef) rfl (by kernel_rfl) (by kernel_rfl) (by kernel_rfl) (fun _ _ _ h => h) (Or.inr ⟨by rfl, rfl⟩) hS2 ?_
    refine wpAnyH_take (i := 9) (v := undef) rfl (by kernel_rfl) (by kernel_rfl) (by kernel_rfl) (fun _ _ _ h => h) (Or.inr ⟨by rfl, rfl⟩) hS2 ?_
    refine wpAnyH_take (i := 10) (v := ?_) rfl (by kernel_rfl) (by kernel_rfl) (by kernel_rfl) (fun _ _ _ h => h) (Or.inl ⟨by rfl, ?_⟩) hS2 ?_
    rotate_left
    · intro w' hS'; obtain ⟨s0, s1, s2, s3, s4, s5, s6, s7⟩ := hS'; go_simp <;> with_reducible rfl
    refine wpAnyH_take (i := 11) (v := ?_) rfl (by kernel_rfl) (by kernel_rfl) (by kernel_rfl) (fun _ _ _ h => h) (Or.inl ⟨by rfl, ?_⟩) hS2 ?_
    rotate_left
    · intro w' hS'; obtain ⟨s0, s1, s2, s3, s4, s5, s6, s7⟩ := hS'; go_simp <;> with_reducible rfl
    refine wpAnyH_take (i := 12) (v := ?_) rfl (by kernel_rfl) (by kernel_rfl) (by kernel_rfl) (fun _ _ _ h => h) (Or.inl ⟨by rfl, ?_⟩) hS2 ?_
    rotate_left
    · intro w' hS'; obtain ⟨s0, s1, s2, s3, s4, s5, s6, s7⟩ := hS'; go_simp <;> with_reducible rfl
    refine wpAnyH_done (by kernel_rfl) ?_ _
    have hBF := old_trans (old_trans hB.drew hq1) hq2
    clear hS hS1 hS2 hk U1 U2
    go_wp2
    refine bodyPost_ret (v := .bool true) ?_ ?_ ⟨rfl, hBF⟩
    · kernel_rfl
    · kernel_rfl
  · go_wp2_with fail
    go_region_held3 (fun w' => w'.cell? ⟨w1.heap.size, 0, none⟩ = some (.int .i64 a) ∧ w'.cell? ⟨w1.heap.size, 1, none⟩ = some (.int .i64 b) ∧ w'.cell? ⟨w2.heap.size, 0, none⟩ = some (.int .i64 a) ∧ w'.cell? ⟨w2.heap.size, 1, none⟩ = some (.int .i64 m) ∧ w'.cell? ⟨w2.heap.size + 1, 0, none⟩ = some (.int .i64 m) ∧ w'.cell? ⟨w2.heap.size + 1, 1, none⟩ = some (.int .i64 b) ∧ w'.cell? ⟨w7.heap.size + 1, 0, none⟩ = some (.int .i64 c) ∧ w'.cell? ⟨w7.heap.size + 1, 1, none⟩ = some (.int .i64 c)) (go_keep) (first | (go_at_call 10; refine (iPairIs c c _ _ _).mono ?_; rintro e wx ⟨he, hbx⟩; (first | rw [h1] at he | rw [h2] at he | rw [h3] at he); subst he; have P := (by with_reducible first | exact P.later hbx | exact P.drew.later hbx : Cel2 wx _ _ _); have P0 := P.1; have P1 := P.2.1; have Pz := P.2.2.2.2; have N := (by with_reducible first | exact N.later hbx | exact N.drew.later hbx : Cel2 wx _ _ _); have N0 := N.1; have N1 := N.2.1; have Nz := N.2.2.2.2; have O := (by with_reducible first | exact O.later hbx | exact O.drew.later hbx : Cel2 wx _ _ _); have O0 := O.1; have O1 := O.2.1; have Oz := O.2.2.2.2; have X := (by with_reducible first | exact X.later hbx | exact X.drew.later hbx : Cel2 wx _ _ _); have X0 := X.1; have X1 := X.2.1; have Xz := X.2.2.2.2; have hB := (by with_reducible first | exact old_trans hB hbx | exact old_trans hB.drew hbx : Below w.heap.size w wx)))
    all_goals
      go_wp2
      go_ret
      exact ⟨rfl, (by repeat (first | exact hB | exact Below.refl _ _ | refine Below.drew ?_ | refine old_alloc ?_ _ | refine old_trans ?_ (by assumption)))⟩
  · go_wp2_with fail
    go_region_held3 (fun w' => w'.cell? ⟨w1.heap.size, 0, none⟩ = some (.int .i64 a) ∧ w'.cell? ⟨w1.heap.size, 1, none⟩ = some (.int .i64 b) ∧ w'.cell? ⟨w2.heap.size, 0, none⟩ = some (.int .i64 a) ∧ w'.cell? ⟨w2.heap.size, 1, none⟩ = some (.int .i64 m) ∧ w'.cell? ⟨w2.heap.size + 1, 0, none⟩ = some (.int .i64 m) ∧ w'.cell? ⟨w2.heap.size + 1, 1, none⟩ = some (.int .i64 b) ∧ w'.cell? ⟨w7.heap.size + 1, 0, none⟩ = some (.int .i64 c) ∧ w'.cell? ⟨w7.heap.size + 1, 1, none⟩ = some (.int .i64 c)) (go_keep) (first | (go_at_call 10; refine (iPairIs c c _ _ _).mono ?_; rintro e wx ⟨he, hbx⟩; (first | rw [h1] at he | rw [h2] at he | rw [h3] at he); subst he; have P := (by with_reducible first | exact P.later hbx | exact P.drew.later hbx : Cel2 wx _ _ _); have P0 := P.1; have P1 := P.2.1; have Pz := P.2.2.2.2; have N := (by with_reducible first | exact N.later hbx | exact N.drew.later hbx : Cel2 wx _ _ _); have N0 := N.1; have N1 := N.2.1; have Nz := N.2.2.2.2; have O := (by with_reducible first | exact O.later hbx | exact O.drew.later hbx : Cel2 wx _ _ _); have O0 := O.1; have O1 := O.2.1; have Oz := O.2.2.2.2; have X := (by with_reducible first | exact X.later hbx | exact X.drew.later hbx : Cel2 wx _ _ _); have X0 := X.1; have X1 := X.2.1; have Xz := X.2.2.2.2; have hB := (by with_reducible first | exact old_trans hB hbx | exact old_trans hB.drew hbx : Below w.heap.size w wx)))
    all_goals
      go_wp2
      go_ret
      exact ⟨rfl, (by repeat (first | exact hB | exact Below.refl _ _ | refine Below.drew ?_ | refine old_alloc ?_ _ | refine old_trans ?_ (by assumption)))⟩

set_option maxRecDepth 100000 in
theorem FnPairSplit_lifted (os : Os) (started : os.Started) (H : Type) (enc : TypeId × Value → H) :
    ReturnsInHanded {} Try.checked os 3 .any (Rows.fnPairSplitSpec.pre6 enc Try.prog Try.f3 Rows.fnPairSplitRow.domain false) (Rows.fnPairSplitSpec.post enc Try.prog Try.f3 false true false false) := by
  refine returnsInHanded_of_change (C := Try.checked) FnPairSplit_own started (by kernel_rfl) Try.func3
    (ChangeSpec.witness6 (enc := enc) (C := Try.checked) false ⟨#[], #[.slice none 0 0, .slice none 0 0], []⟩ 8 (by kernel_rfl) (by kernel_rfl) (by kernel_rfl) (by kernel_rfl)) ?_
  intro W base args ds gs before hval0 hW hcnd _
  have hval : ∀ (j : Nat) t v, Try.f3.params[j]? = some t → args[j]? = some v → Value.okWide Try.prog W .any base t v := hval0
  have hW' := hW
  obtain ⟨p, q, hA0, hV, rfl, hfz, hnd⟩ := hW
  have hA : DataW.TrodAll enc Try.prog W 0 (fun _ => true) true Try.f3.params.toList args.toList ds p := hA0
  rw [Try.params3] at hA hval
  obtain ⟨v0, vs0, d0, ds0, p0, q0, hargs, rfl, rfl, h0, r0⟩ := trodAll_cons hA
  obtain ⟨v1, vs1, d1, ds1, p1, q1, rfl, rfl, rfl, h1, r1⟩ := trodAll_cons r0
  obtain ⟨rfl, rfl, rfl⟩ := trodAll_nil r1
  obtain rfl : args = #[v0, v1] := by cases args; simp_all
  obtain ⟨rfl, rfl⟩ := trodVars_none hV
  have k0 := h0
  have lt0 : ∀ x ∈ p0, x.block < W.heap.size := by obtain ⟨m, hm⟩ := k0; exact DataW.trod_lt m _ _ _ hm
  obtain ⟨a0, len0, cap0, rfl, wb0⟩ := open_bytes (hval 0 22 v0 rfl rfl) h0
  have k1 := h1
  have lt1 : ∀ x ∈ p1, x.block < W.heap.size := by obtain ⟨m, hm⟩ := k1; exact DataW.trod_lt m _ _ _ hm
  obtain ⟨a1, len1, cap1, rfl, wb1⟩ := open_bytes (hval 1 22 v1 rfl rfl) h1
  clear hA0 hval0
  refine (FnPairSplit_walk a0 len0 cap0 a1 len1 cap1 W wb0 wb1).mono fun e W' ⟨he, bel⟩ => ?_
  subst he
  exact ⟨_, rfl, _, _, _, [], _, [], hW', trodAll_mk1 (shut_bool Try.underlying4 _), (trodAll_cons_mk (Below.trod jf1 (by kernel_rfl) (of_decide_eq_true (by kernel_rfl)) k0 bel lt0) (trodAll_cons_mk (Below.trod jf1 (by kernel_rfl) (of_decide_eq_true (by kernel_rfl)) k1 bel lt1) trodAll_mk0)), rfl, bel.frame _, fun h => by cases h⟩

theorem FnPairSplit_k0 : (Rows.fnPairSplitRow.wf (OpenSpec.ofChange Rows.fnPairSplitSpec)) = true := by kernel_rfl
theorem FnPairSplit_k3 : (Try.f3.params.all (Try.prog.readableRec ·)) = true := by kernel_rfl
theorem FnPairSplit_k4 : (namedTie Try.prog Rows.fnPairSplitRow.named Rows.fnPairSplitSpec.vars) = true := by kernel_rfl
theorem FnPairSplit_k5 : ((Rows.fnPairSplitRow.stops == [])) = true := by kernel_rfl
theorem FnPairSplit_k7 : ((Rows.fnPairSplitRow.knobs == [])) = true := by kernel_rfl
theorem FnPairSplit_k9 : ((Rows.fnPairSplitRow.inPlace == Try.prog.inPlace 3)) = true := by kernel_rfl
theorem FnPairSplit_k10 : ((Rows.fnPairSplitRow.unfollowed == Try.prog.unfollowed 3)) = true := by kernel_rfl
theorem FnPairSplit_k11 : ((Rows.fnPairSplitRow.recurses == Try.prog.recurses 3)) = true := by kernel_rfl
theorem FnPairSplit_k12 : ((Rows.fnPairSplitRow.named == Try.prog.varsNamed 3)) = true := by kernel_rfl
theorem FnPairSplit_k13 : ((Rows.fnPairSplitRow.maps == (Try.f3.params.toList ++ Rows.fnPairSplitSpec.plain.varTypes Try.prog).any (Try.prog.mapsRec ·))) = true := by kernel_rfl
theorem FnPairSplit_k14 : ((Rows.fnPairSplitRow.ifaces == (Try.f3.params.toList ++ Rows.fnPairSplitSpec.plain.varTypes Try.prog).any (Try.prog.ifacesRec ·))) = true := by kernel_rfl
theorem FnPairSplit_k15 : ((Rows.fnPairSplitRow.mapsOut == Try.prog.mapsAmong Try.f3.resultTypes.toList)) = true := by kernel_rfl
theorem FnPairSplit_k16 : ((Rows.fnPairSplitRow.loops == (Try.f3.params.toList ++ Rows.fnPairSplitSpec.plain.varTypes Try.prog).any (Try.prog.loopsFrom ·))) = true := by kernel_rfl
theorem FnPairSplit_k17 : ((Rows.fnPairSplitRow.wideKeys == (Try.f3.params.toList ++ Rows.fnPairSplitSpec.plain.varTypes Try.prog ++ Try.f3.resultTypes.toList).any (Try.prog.wideKeysFrom ·))) = true := by kernel_rfl
theorem FnPairSplit_k18 : (Rows.fnPairSplitSpec.vars.all (Try.prog.varReadable ·)) = true := by kernel_rfl
theorem FnPairSplit_k19 : (Try.f3.resultTypes.all (fun t => Try.prog.readableRec t && decide (t < Try.prog.types.size))) = true := by kernel_rfl
theorem FnPairSplit_k20 : ((Rows.fnPairSplitRow.ifacesOut == Try.f3.resultTypes.toList.any (Try.prog.ifacesRec ·))) = true := by kernel_rfl
theorem FnPairSplit_k21 : ((Rows.fnPairSplitRow.loopsOut == Try.f3.resultTypes.toList.any (Try.prog.loopsFrom ·))) = true := by kernel_rfl
theorem FnPairSplit_k23 : (Rows.fnPairSplitRow.shortTexts.isNone) = true := by kernel_rfl
theorem FnPairSplit_k28 : ((Rows.fnPairSplitRow.kinds == (if Rows.fnPairSplitRow.domain.isEmpty then [] else Try.f3.params.toList.map fun t => match Try.prog.underlying t with | some (.int k) => some k | _ => none))) = true := by kernel_rfl
theorem FnPairSplit_k29 : ((Rows.fnPairSplitRow.pinned == Rows.fnPairSplitRow.pinnedBy)) = true := by kernel_rfl
theorem FnPairSplit_k30 : ((Rows.fnPairSplitRow.veiled == (Try.f3.params.toList ++ Rows.fnPairSplitSpec.plain.varTypes Try.prog ++ Try.f3.resultTypes.toList).any (Try.prog.veiledRec ·))) = true := by kernel_rfl
theorem FnPairSplit_k31 : (Rows.fnPairSplitRow.veiledFits Try.prog Try.f3.params.toList (Try.f3.params.toList ++ Rows.fnPairSplitSpec.plain.varTypes Try.prog ++ Try.f3.resultTypes.toList)) = true := by kernel_rfl
set_option maxRecDepth 100000 in
theorem FnPairSplit_closed : joinedFacts Try.prog 3 Try.f3 Rows.fnPairSplitSpec Rows.fnPairSplitRow = true := (and2 (and2 (and2 (and2 (and2 (and2 (and2 (and2 (and2 (and2 (and2 (and2 (and2 (and2 (and2 (and2 (and2 (and2 (and2 (and2 (and2 (and2 (and2 (and2 (and2 (and2 (and2 (and2 (and2 (and2 (and2 FnPairSplit_k0 jf1) jf2) FnPairSplit_k3) FnPairSplit_k4) FnPairSplit_k5) jf6) FnPairSplit_k7) jf8) FnPairSplit_k9) FnPairSplit_k10) FnPairSplit_k11) FnPairSplit_k12) FnPairSplit_k13) FnPairSplit_k14) FnPairSplit_k15) FnPairSplit_k16) FnPairSplit_k17) FnPairSplit_k18) FnPairSplit_k19) FnPairSplit_k20) FnPairSplit_k21) jf22) FnPairSplit_k23) jf24) jf25) jf26) jf27) FnPairSplit_k28) FnPairSplit_k29) FnPairSplit_k30) FnPairSplit_k31)
theorem FnPairSplit_over : Rows.fnPairSplitRow.holds Try.pinned (OpenSpec.ofChange Rows.fnPairSplitSpec) :=
  OpenClaim.holds_of_wide 3 Try.f3 rfl rfl rfl rfl rfl rfl rfl ⟨rfl, rfl, rfl, rfl, rfl⟩ rfl rfl rfl rfl rfl (by kernel_rfl) Try.func3 FnPairSplit_closed
    (of_decide_eq_true (by kernel_rfl)) (by unfold Func.isWrapper; first | (rw [if_pos (by decide +kernel)]; kernel_rfl) | (rw [if_neg (by decide +kernel)]; exact ⟨rfl, rfl⟩))
    (fun os started H enc _ => FnPairSplit_lifted os started H enc)

theorem FnPairSplit_proved : Rows.FnPairSplitSaid := FnPairSplit_over
end Go.Proofs.Ytdmnfcmngcmleaa
