/- For every two codes of bytes, of the pair and the gap drawn from the first: the program's PairCut tells as the specification's whether the gap can be cut out; the two parts are ones, lie in the pair, the shorter one first, each with fewer steps than it, and hold together just what the gap leaves; the law answers true; nothing that was there is written. No condition. -/
import Derived.Test.YtdmnfcmngcmleaaRows
import Derived.WalkKit
import Derived.ProofKit
import Derived.OpenShut
import Derived.Below
import Derived.Carry
import Derived.Test.YtdmnfcmngcmleaaO1
import Derived.Test.YtdmnfcmngcmleaaO2
import Derived.Test.YtdmnfcmngcmleaaDQ
import Derived.Test.YtdmnfcmngcmleaaR9
import Derived.Test.YtdmnfcmngcmleaaPB
import Derived.Test.YtdmnfcmngcmleaaCut
import Derived.Test.YtdmnfcmngcmleaaDY
import Derived.Test.YtdmnfcmngcmleaaBJ
namespace Go.Proofs.Ytdmnfcmngcmleaa
open Go.ChangeShapes Go.WideShapes Go.ChangeAt Go.RowKit
set_option linter.unusedVariables false

theorem FnPairCut_own : ownKnob Try.prog.godebug = none := by kernel_rfl

set_option maxRecDepth 100000 in
set_option maxHeartbeats 60000000 in
theorem FnPairCut_walk (a0 : Option Addr) (len0 cap0 : Nat) (a1 : Option Addr) (len1 cap1 : Nat) (w : World) (wb0 : IsCode w a0 len0 cap0) (wb1 : IsCode w a1 len1 cap1):
    Calls Try.prog 4 #[.slice a0 len0 cap0, .slice a1 len1 cap1] w fun e w' => e = .returned (.bool true) ∧ Below w.heap.size w w' := by
  by_cases c0 : (1048576 : Int) < (len0 : Int)
  · have t0 : decide ((1048576 : Int) < (len0 : Int)) = true := by simp; omega
    go_enter Try.func4, Try.ntmps4
    go_wp2
    go_ret
    exact ⟨rfl, (by repeat (first | exact Below.refl _ _ | refine Below.drew ?_ | refine old_alloc ?_ _ | refine old_trans ?_ (by assumption)))⟩
  by_cases c1 : (1048576 : Int) < (len1 : Int)
  · have t1 : decide ((1048576 : Int) < (len1 : Int)) = true := by simp; omega
    go_enter Try.func4, Try.ntmps4
    go_wp2
    go_ret
    exact ⟨rfl, (by repeat (first | exact Below.refl _ _ | refine Below.drew ?_ | refine old_alloc ?_ _ | refine old_trans ?_ (by assumption)))⟩
  have hB : Below w.heap.size w w := Below.refl _ _
  go_enter Try.func4, Try.ntmps4
  go_wp2_with fail
  refine (drawCut _ a0 len0 cap0 wb0).mono ?_
  rintro e w1 ⟨⟨wd, c, d, a, b, hbds, rfl⟩, hb1⟩
  replace wb1 := (by with_reducible first | exact wb1.old hb1 | exact (wb1.old ((Below.refl _ _).alloc (Nat.le_refl _) _)).old hb1 | exact ((wb1.old ((Below.refl _ _).alloc (Nat.le_refl _) _)).old ((Below.refl _ _).alloc (Nat.le_refl _) _)).old hb1 : IsCode w1 _ _ _)
  replace hB := (by with_reducible first | exact old_trans hB hb1 | exact old_trans (old_alloc hB _) hb1 | exact old_trans (old_alloc (old_alloc hB _) _) hb1 : Below w.heap.size w w1)
  have S := hd (iPairCut wd a b c d hbds.2.2.1 hbds.2.2.2 hbds.2.1.1 hbds.2.1.2)
  have T := hd (sPairCut wd a b c d hbds.2.2.1 hbds.2.2.2 hbds.2.1.1 hbds.2.1.2)
  cases hc : cutB wd a b c d
  · skip
    have e0 := cutV_no hc
    have S' : Hid (∀ w : World, Calls Try.prog 12 #[.int .i64 wd, .agg #[.int .i64 a, .int .i64 b], .agg #[.int .i64 c, .int .i64 d]] w fun e w' => e = .returned (.tuple #[.agg #[.int .i64 0, .int .i64 0], .agg #[.int .i64 0, .int .i64 0], .bool false]) ∧ Below w.heap.size w w') := fun w => by rw [e0]; exact S.out w
    have T' : Hid (∀ w : World, Calls Try.prog 13 #[.int .i64 wd, .agg #[.int .i64 a, .int .i64 b], .agg #[.int .i64 c, .int .i64 d]] w fun e w' => e = .returned (.tuple #[.agg #[.int .i64 0, .int .i64 0], .agg #[.int .i64 0, .int .i64 0], .bool false]) ∧ Below w.heap.size w w') := fun w => by rw [e0]; exact T.out w
    clear S T e0 hc hbds
    go_wp2_with fail
    refine (S'.out _).mono ?_
    rintro e w2 ⟨rfl, hb2⟩
    have P := ((Cel2.made _ _ rfl (.int .i64 a) (.int .i64 b) 24).alloc _).later hb2
    (try simp only [World.size_alloc] at P)
    have H := (Cel2.made _ _ rfl (.int .i64 c) (.int .i64 d) 24).later hb2
    (try simp only [World.size_alloc] at H)
    replace wb1 := (by with_reducible first | exact wb1.old hb2 | exact (wb1.old ((Below.refl _ _).alloc (Nat.le_refl _) _)).old hb2 | exact ((wb1.old ((Below.refl _ _).alloc (Nat.le_refl _) _)).old ((Below.refl _ _).alloc (Nat.le_refl _) _)).old hb2 : IsCode w2 _ _ _)
    replace hB := (by with_reducible first | exact old_trans hB hb2 | exact old_trans (old_alloc hB _) hb2 | exact old_trans (old_alloc (old_alloc hB _) _) hb2 : Below w.heap.size w w2)
    have P0 := P.1
    have P1 := P.2.1
    have Pz := P.2.2.2.2
    have H0 := H.1
    have H1 := H.2.1
    have Hz := H.2.2.2.2
    go_wp2_with fail
    refine (T'.out _).mono ?_
    rintro e w3 ⟨rfl, hb3⟩
    clear P0 P1 Pz H0 H1 Hz
    replace P := (by with_reducible first | exact P.later hb3 | exact (P.alloc _).later hb3 | exact ((P.alloc _).alloc _).later hb3 | exact P.drew.later hb3 : Cel2 w3 _ _ _)
    replace H := (by with_reducible first | exact H.later hb3 | exact (H.alloc _).later hb3 | exact ((H.alloc _).alloc _).later hb3 | exact H.drew.later hb3 : Cel2 w3 _ _ _)
    have N := ((Cel2.made _ _ rfl (.int .i64 0) (.int .i64 0) 24).alloc _).later hb3
    (try simp only [World.size_alloc] at N)
    have O := (Cel2.made _ _ rfl (.int .i64 0) (.int .i64 0) 24).later hb3
    (try simp only [World.size_alloc] at O)
    replace wb1 := (by with_reducible first | exact wb1.old hb3 | exact (wb1.old ((Below.refl _ _).alloc (Nat.le_refl _) _)).old hb3 | exact ((wb1.old ((Below.refl _ _).alloc (Nat.le_refl _) _)).old ((Below.refl _ _).alloc (Nat.le_refl _) _)).old hb3 : IsCode w3 _ _ _)
    replace hB := (by with_reducible first | exact old_trans hB hb3 | exact old_trans (old_alloc hB _) hb3 | exact old_trans (old_alloc (old_alloc hB _) _) hb3 : Below w.heap.size w w3)
    have P0 := P.1
    have P1 := P.2.1
    have Pz := P.2.2.2.2
    have H0 := H.1
    have H1 := H.2.1
    have Hz := H.2.2.2.2
    have N0 := N.1
    have N1 := N.2.1
    have Nz := N.2.2.2.2
    have O0 := O.1
    have O1 := O.2.1
    have Oz := O.2.2.2.2
    go_wp2
    go_ret
    exact ⟨rfl, (by repeat (first | exact hB | exact Below.refl _ _ | refine Below.drew ?_ | refine old_alloc ?_ _ | refine old_trans ?_ (by assumption)))⟩
  have hcd : c < d ∧ pokB wd a b = true ∧ pokB wd a c = true ∧ pokB wd d b = true := by
    unfold cutB at hc
    simp only [Bool.and_eq_true, decide_eq_true_eq] at hc
    exact ⟨hc.2.1, hc.1, hc.2.2.1, hc.2.2.2⟩
  have h1 := (pokB_in hcd.2.2.1).2.2.1
  have h2 := (pokB_in hcd.2.2.2).2.2.1
  have h0 := hcd.1
  have e1 : gapI a b = b - a := by unfold gapI; rw [if_neg (by omega)]
  have e2 : gapI a c = c - a := by unfold gapI; rw [if_neg (by omega)]
  have e3 : gapI d b = b - d := by unfold gapI; rw [if_neg (by omega)]
  have Gp := hd (iGapW a b hbds.2.2.1.1 hbds.2.2.1.2 hbds.2.2.2.1 hbds.2.2.2.2)
  have Ga := hd (iGapW a c hbds.2.2.1.1 hbds.2.2.1.2 hbds.2.1.1.1 hbds.2.1.1.2)
  have Gd := hd (iGapW d b hbds.2.1.2.1 hbds.2.1.2.2 hbds.2.2.2.1 hbds.2.2.2.2)
  rw [e1] at Gp
  rw [e2] at Ga
  rw [e3] at Gd
  have Oa := hd (iPairOk wd a c)
  have Od := hd (iPairOk wd d b)
  rw [hcd.2.2.1] at Oa
  rw [hcd.2.2.2] at Od
  have Ia := hd (iPairIs a c a b)
  have Id := hd (iPairIs d b a b)
  rw [show isB a c a b = true by unfold isB; simp; omega] at Ia
  rw [show isB d b a b = true by unfold isB; simp; omega] at Id
  have J := hd (fun n x y w => iPairIs n n x y w)
  by_cases hg : gapI d b < gapI a c
  · skip
    have e4 : cutV wd a b c d = .tuple #[.agg #[.int .i64 d, .int .i64 b], .agg #[.int .i64 a, .int .i64 c], .bool true] := by rw [cutV_hi hg, hc]; rfl
    have S' : Hid (∀ w : World, Calls Try.prog 12 #[.int .i64 wd, .agg #[.int .i64 a, .int .i64 b], .agg #[.int .i64 c, .int .i64 d]] w fun e w' => e = .returned (.tuple #[.agg #[.int .i64 d, .int .i64 b], .agg #[.int .i64 a, .int .i64 c], .bool true]) ∧ Below w.heap.size w w') := fun w => by rw [← e4]; exact S.out w
    have T' : Hid (∀ w : World, Calls Try.prog 13 #[.int .i64 wd, .agg #[.int .i64 a, .int .i64 b], .agg #[.int .i64 c, .int .i64 d]] w fun e w' => e = .returned (.tuple #[.agg #[.int .i64 d, .int .i64 b], .agg #[.int .i64 a, .int .i64 c], .bool true]) ∧ Below w.heap.size w w') := fun w => by rw [← e4]; exact T.out w
    rw [e2, e3] at hg
    have d1 : ¬ (c - a < b - d) := by omega
    have d2 : ¬ (b - a ≤ b - d) := by omega
    have d3 : ¬ (b - a ≤ c - a) := by omega
    clear S T e4 e1 e2 e3 hc hg hcd hbds
    generalize b - a = gp at *
    generalize c - a = ga at *
    generalize b - d = gd at *
    go_wp2_with fail
    refine (S'.out _).mono ?_
    rintro e w2 ⟨rfl, hb2⟩
    have P := ((Cel2.made _ _ rfl (.int .i64 a) (.int .i64 b) 24).alloc _).later hb2
    (try simp only [World.size_alloc] at P)
    have H := (Cel2.made _ _ rfl (.int .i64 c) (.int .i64 d) 24).later hb2
    (try simp only [World.size_alloc] at H)
    replace wb1 := (by with_reducible first | exact wb1.old hb2 | exact (wb1.old ((Below.refl _ _).alloc (Nat.le_refl _) _)).old hb2 | exact ((wb1.old ((Below.refl _ _).alloc (Nat.le_refl _) _)).old ((Below.refl _ _).alloc (Nat.le_refl _) _)).old hb2 : IsCode w2 _ _ _)
    replace hB := (by with_reducible first | exact old_trans hB hb2 | exact old_trans (old_alloc hB _) hb2 | exact old_trans (old_alloc (old_alloc hB _) _) hb2 : Below w.heap.size w w2)
    have P0 := P.1
    have P1 := P.2.1
    have Pz := P.2.2.2.2
    have H0 := H.1
    have H1 := H.2.1
    have Hz := H.2.2.2.2
    go_wp2_with fail
    refine (T'.out _).mono ?_
    rintro e w3 ⟨rfl, hb3⟩
    clear P0 P1 Pz H0 H1 Hz
    replace P := (by with_reducible first | exact P.later hb3 | exact (P.alloc _).later hb3 | exact ((P.alloc _).alloc _).later hb3 | exact P.drew.later hb3 : Cel2 w3 _ _ _)
    replace H := (by with_reducible first | exact H.later hb3 | exact (H.alloc _).later hb3 | exact ((H.alloc _).alloc _).later hb3 | exact H.drew.later hb3 : Cel2 w3 _ _ _)
    have N := ((Cel2.made _ _ rfl (.int .i64 d) (.int .i64 b) 24).alloc _).later hb3
    (try simp only [World.size_alloc] at N)
    have O := (Cel2.made _ _ rfl (.int .i64 a) (.int .i64 c) 24).later hb3
    (try simp only [World.size_alloc] at O)
    replace wb1 := (by with_reducible first | exact wb1.old hb3 | exact (wb1.old ((Below.refl _ _).alloc (Nat.le_refl _) _)).old hb3 | exact ((wb1.old ((Below.refl _ _).alloc (Nat.le_refl _) _)).old ((Below.refl _ _).alloc (Nat.le_refl _) _)).old hb3 : IsCode w3 _ _ _)
    replace hB := (by with_reducible first | exact old_trans hB hb3 | exact old_trans (old_alloc hB _) hb3 | exact old_trans (old_alloc (old_alloc hB _) _) hb3 : Below w.heap.size w w3)
    have P0 := P.1
    have P1 := P.2.1
    have Pz := P.2.2.2.2
    have H0 := H.1
    have H1 := H.2.1
    have Hz := H.2.2.2.2
    have N0 := N.1
    have N1 := N.2.1
    have Nz := N.2.2.2.2
    have O0 := O.1
    have O1 := O.2.1
    have Oz := O.2.2.2.2
    go_wp2_with fail
    refine (Gp.out _).mono ?_
    rintro e wz ⟨rfl, rfl⟩
    go_wp2_with fail
    refine (Gd.out _).mono ?_
    rintro e wz ⟨rfl, rfl⟩
    go_wp2_with fail
    refine (Ga.out _).mono ?_
    rintro e wz ⟨rfl, rfl⟩
    go_wp2_with fail
    refine (Od.out _).mono ?_
    rintro e w4 ⟨rfl, hb4⟩
    clear P0 P1 Pz H0 H1 Hz N0 N1 Nz O0 O1 Oz
    replace P := (by with_reducible first | exact P.later hb4 | exact (P.alloc _).later hb4 | exact ((P.alloc _).alloc _).later hb4 | exact P.drew.later hb4 : Cel2 w4 _ _ _)
    replace H := (by with_reducible first | exact H.later hb4 | exact (H.alloc _).later hb4 | exact ((H.alloc _).alloc _).later hb4 | exact H.drew.later hb4 : Cel2 w4 _ _ _)
    replace N := (by with_reducible first | exact N.later hb4 | exact (N.alloc _).later hb4 | exact ((N.alloc _).alloc _).later hb4 | exact N.drew.later hb4 : Cel2 w4 _ _ _)
    replace O := (by with_reducible first | exact O.later hb4 | exact (O.alloc _).later hb4 | exact ((O.alloc _).alloc _).later hb4 | exact O.drew.later hb4 : Cel2 w4 _ _ _)
    have M := ((Cel2.made _ _ rfl (.int .i64 d) (.int .i64 b) 24).alloc _).later hb4
    (try simp only [World.size_alloc] at M)
    have L := (Cel2.made _ _ rfl (.int .i64 a) (.int .i64 c) 24).later hb4
    (try simp only [World.size_alloc] at L)
    replace wb1 := (by with_reducible first | exact wb1.old hb4 | exact (wb1.old ((Below.refl _ _).alloc (Nat.le_refl _) _)).old hb4 | exact ((wb1.old ((Below.refl _ _).alloc (Nat.le_refl _) _)).old ((Below.refl _ _).alloc (Nat.le_refl _) _)).old hb4 : IsCode w4 _ _ _)
    replace hB := (by with_reducible first | exact old_trans hB hb4 | exact old_trans (old_alloc hB _) hb4 | exact old_trans (old_alloc (old_alloc hB _) _) hb4 : Below w.heap.size w w4)
    have P0 := P.1
    have P1 := P.2.1
    have Pz := P.2.2.2.2
    have H0 := H.1
    have H1 := H.2.1
    have Hz := H.2.2.2.2
    have N0 := N.1
    have N1 := N.2.1
    have Nz := N.2.2.2.2
    have O0 := O.1
    have O1 := O.2.1
    have Oz := O.2.2.2.2
    have M0 := M.1
    have M1 := M.2.1
    have Mz := M.2.2.2.2
    have L0 := L.1
    have L1 := L.2.1
    have Lz := L.2.2.2.2
    go_wp2_with fail
    refine (Oa.out _).mono ?_
    rintro e w5 ⟨rfl, hb5⟩
    clear P0 P1 Pz H0 H1 Hz N0 N1 Nz O0 O1 Oz M0 M1 Mz L0 L1 Lz
    replace P := (by with_reducible first | exact P.later hb5 | exact (P.alloc _).later hb5 | exact ((P.alloc _).alloc _).later hb5 | exact P.drew.later hb5 : Cel2 w5 _ _ _)
    replace H := (by with_reducible first | exact H.later hb5 | exact (H.alloc _).later hb5 | exact ((H.alloc _).alloc _).later hb5 | exact H.drew.later hb5 : Cel2 w5 _ _ _)
    replace N := (by with_reducible first | exact N.later hb5 | exact (N.alloc _).later hb5 | exact ((N.alloc _).alloc _).later hb5 | exact N.drew.later hb5 : Cel2 w5 _ _ _)
    replace O := (by with_reducible first | exact O.later hb5 | exact (O.alloc _).later hb5 | exact ((O.alloc _).alloc _).later hb5 | exact O.drew.later hb5 : Cel2 w5 _ _ _)
    replace M := (by with_reducible first | exact M.later hb5 | exact (M.alloc _).later hb5 | exact ((M.alloc _).alloc _).later hb5 | exact M.drew.later hb5 : Cel2 w5 _ _ _)
    replace L := (by with_reducible first | exact L.later hb5 | exact (L.alloc _).later hb5 | exact ((L.alloc _).alloc _).later hb5 | exact L.drew.later hb5 : Cel2 w5 _ _ _)
    replace wb1 := (by with_reducible first | exact wb1.old hb5 | exact (wb1.old ((Below.refl _ _).alloc (Nat.le_refl _) _)).old hb5 | exact ((wb1.old ((Below.refl _ _).alloc (Nat.le_refl _) _)).old ((Below.refl _ _).alloc (Nat.le_refl _) _)).old hb5 : IsCode w5 _ _ _)
    replace hB := (by with_reducible first | exact old_trans hB hb5 | exact old_trans (old_alloc hB _) hb5 | exact old_trans (old_alloc (old_alloc hB _) _) hb5 : Below w.heap.size w w5)
    have P0 := P.1
    have P1 := P.2.1
    have Pz := P.2.2.2.2
    have H0 := H.1
    have H1 := H.2.1
    have Hz := H.2.2.2.2
    have N0 := N.1
    have N1 := N.2.1
    have Nz := N.2.2.2.2
    have O0 := O.1
    have O1 := O.2.1
    have Oz := O.2.2.2.2
    have M0 := M.1
    have M1 := M.2.1
    have Mz := M.2.2.2.2
    have L0 := L.1
    have L1 := L.2.1
    have Lz := L.2.2.2.2
    go_wp2_with fail
    refine (Id.out _).mono ?_
    rintro e w6 ⟨rfl, hb6⟩
    clear P0 P1 Pz H0 H1 Hz N0 N1 Nz O0 O1 Oz M0 M1 Mz L0 L1 Lz
    replace P := (by with_reducible first | exact P.later hb6 | exact (P.alloc _).later hb6 | exact ((P.alloc _).alloc _).later hb6 | exact P.drew.later hb6 : Cel2 w6 _ _ _)
    replace H := (by with_reducible first | exact H.later hb6 | exact (H.alloc _).later hb6 | exact ((H.alloc _).alloc _).later hb6 | exact H.drew.later hb6 : Cel2 w6 _ _ _)
    replace N := (by with_reducible first | exact N.later hb6 | exact (N.alloc _).later hb6 | exact ((N.alloc _).alloc _).later hb6 | exact N.drew.later hb6 : Cel2 w6 _ _ _)
    replace O := (by with_reducible first | exact O.later hb6 | exact (O.alloc _).later hb6 | exact ((O.alloc _).alloc _).later hb6 | exact O.drew.later hb6 : Cel2 w6 _ _ _)
    replace M := (by with_reducible first | exact M.later hb6 | exact (M.alloc _).later hb6 | exact ((M.alloc _).alloc _).later hb6 | exact M.drew.later hb6 : Cel2 w6 _ _ _)
    replace L := (by with_reducible first | exact L.later hb6 | exact (L.alloc _).later hb6 | exact ((L.alloc _).alloc _).later hb6 | exact L.drew.later hb6 : Cel2 w6 _ _ _)
    replace wb1 := (by with_reducible first | exact wb1.old hb6 | exact (wb1.old ((Below.refl _ _).alloc (Nat.le_refl _) _)).old hb6 | exact ((wb1.old ((Below.refl _ _).alloc (Nat.le_refl _) _)).old ((Below.refl _ _).alloc (Nat.le_refl _) _)).old hb6 : IsCode w6 _ _ _)
    replace hB := (by with_reducible first | exact old_trans hB hb6 | exact old_trans (old_alloc hB _) hb6 | exact old_trans (old_alloc (old_alloc hB _) _) hb6 : Below w.heap.size w w6)
    have P0 := P.1
    have P1 := P.2.1
    have Pz := P.2.2.2.2
    have H0 := H.1
    have H1 := H.2.1
    have Hz := H.2.2.2.2
    have N0 := N.1
    have N1 := N.2.1
    have Nz := N.2.2.2.2
    have O0 := O.1
    have O1 := O.2.1
    have Oz := O.2.2.2.2
    have M0 := M.1
    have M1 := M.2.1
    have Mz := M.2.2.2.2
    have L0 := L.1
    have L1 := L.2.1
    have Lz := L.2.2.2.2
    go_wp2_with fail
    refine (Ia.out _).mono ?_
    rintro e w7 ⟨rfl, hb7⟩
    clear P0 P1 Pz H0 H1 Hz N0 N1 Nz O0 O1 Oz M0 M1 Mz L0 L1 Lz
    replace P := (by with_reducible first | exact P.later hb7 | exact (P.alloc _).later hb7 | exact ((P.alloc _).alloc _).later hb7 | exact P.drew.later hb7 : Cel2 w7 _ _ _)
    replace H := (by with_reducible first | exact H.later hb7 | exact (H.alloc _).later hb7 | exact ((H.alloc _).alloc _).later hb7 | exact H.drew.later hb7 : Cel2 w7 _ _ _)
    replace N := (by with_reducible first | exact N.later hb7 | exact (N.alloc _).later hb7 | exact ((N.alloc _).alloc _).later hb7 | exact N.drew.later hb7 : Cel2 w7 _ _ _)
    replace O := (by with_reducible first | exact O.later hb7 | exact (O.alloc _).later hb7 | exact ((O.alloc _).alloc _).later hb7 | exact O.drew.later hb7 : Cel2 w7 _ _ _)
    replace M := (by with_reducible first | exact M.later hb7 | exact (M.alloc _).later hb7 | exact ((M.alloc _).alloc _).later hb7 | exact M.drew.later hb7 : Cel2 w7 _ _ _)
    replace L := (by with_reducible first | exact L.later hb7 | exact (L.alloc _).later hb7 | exact ((L.alloc _).alloc _).later hb7 | exact L.drew.later hb7 : Cel2 w7 _ _ _)
    replace wb1 := (by with_reducible first | exact wb1.old hb7 | exact (wb1.old ((Below.refl _ _).alloc (Nat.le_refl _) _)).old hb7 | exact ((wb1.old ((Below.refl _ _).alloc (Nat.le_refl _) _)).old ((Below.refl _ _).alloc (Nat.le_refl _) _)).old hb7 : IsCode w7 _ _ _)
    replace hB := (by with_reducible first | exact old_trans hB hb7 | exact old_trans (old_alloc hB _) hb7 | exact old_trans (old_alloc (old_alloc hB _) _) hb7 : Below w.heap.size w w7)
    have P0 := P.1
    have P1 := P.2.1
    have Pz := P.2.2.2.2
    have H0 := H.1
    have H1 := H.2.1
    have Hz := H.2.2.2.2
    have N0 := N.1
    have N1 := N.2.1
    have Nz := N.2.2.2.2
    have O0 := O.1
    have O1 := O.2.1
    have Oz := O.2.2.2.2
    have M0 := M.1
    have M1 := M.2.1
    have Mz := M.2.2.2.2
    have L0 := L.1
    have L1 := L.2.1
    have Lz := L.2.2.2.2
    go_wp2_with fail
    refine (goodPair _ a1 len1 cap1 wb1).mono ?_
    rintro e w8 ⟨⟨wd', e', f', -, -, rfl⟩, hb8⟩
    clear P0 P1 Pz H0 H1 Hz N0 N1 Nz O0 O1 Oz M0 M1 Mz L0 L1 Lz
    replace P := (by with_reducible first | exact P.later hb8 | exact (P.alloc _).later hb8 | exact ((P.alloc _).alloc _).later hb8 | exact P.drew.later hb8 : Cel2 w8 _ _ _)
    replace H := (by with_reducible first | exact H.later hb8 | exact (H.alloc _).later hb8 | exact ((H.alloc _).alloc _).later hb8 | exact H.drew.later hb8 : Cel2 w8 _ _ _)
    replace N := (by with_reducible first | exact N.later hb8 | exact (N.alloc _).later hb8 | exact ((N.alloc _).alloc _).later hb8 | exact N.drew.later hb8 : Cel2 w8 _ _ _)
    replace O := (by with_reducible first | exact O.later hb8 | exact (O.alloc _).later hb8 | exact ((O.alloc _).alloc _).later hb8 | exact O.drew.later hb8 : Cel2 w8 _ _ _)
    replace M := (by with_reducible first | exact M.later hb8 | exact (M.alloc _).later hb8 | exact ((M.alloc _).alloc _).later hb8 | exact M.drew.later hb8 : Cel2 w8 _ _ _)
    replace L := (by with_reducible first | exact L.later hb8 | exact (L.alloc _).later hb8 | exact ((L.alloc _).alloc _).later hb8 | exact L.drew.later hb8 : Cel2 w8 _ _ _)
    replace wb1 := (by with_reducible first | exact wb1.old hb8 | exact (wb1.old ((Below.refl _ _).alloc (Nat.le_refl _) _)).old hb8 | exact ((wb1.old ((Below.refl _ _).alloc (Nat.le_refl _) _)).old ((Below.refl _ _).alloc (Nat.le_refl _) _)).old hb8 : IsCode w8 _ _ _)
    replace hB := (by with_reducible first | exact old_trans hB hb8 | exact old_trans (old_alloc hB _) hb8 | exact old_trans (old_alloc (old_alloc hB _) _) hb8 : Below w.heap.size w w8)
    have P0 := P.1
    have P1 := P.2.1
    have Pz := P.2.2.2.2
    have H0 := H.1
    have H1 := H.2.1
    have Hz := H.2.2.2.2
    have N0 := N.1
    have N1 := N.2.1
    have Nz := N.2.2.2.2
    have O0 := O.1
    have O1 := O.2.1
    have Oz := O.2.2.2.2
    have M0 := M.1
    have M1 := M.2.1
    have Mz := M.2.2.2.2
    have L0 := L.1
    have L1 := L.2.1
    have Lz := L.2.2.2.2
    clear P0 P1 Pz H0 H1 Hz N0 N1 Nz O0 O1 Oz M0 M1 Mz L0 L1 Lz
    replace P := P.alloc (.cells #[.int .i64 e', .int .i64 f'] 24)
    replace H := H.alloc (.cells #[.int .i64 e', .int .i64 f'] 24)
    replace N := N.alloc (.cells #[.int .i64 e', .int .i64 f'] 24)
    replace O := O.alloc (.cells #[.int .i64 e', .int .i64 f'] 24)
    have Q : Cel2 (w8.alloc (.cells #[.int .i64 e', .int .i64 f'] 24)) w8.heap.size (.int .i64 e') (.int .i64 f') := Cel2.made _ _ rfl _ _ _
    replace hB : Below w.heap.size w (w8.alloc (.cells #[.int .i64 e', .int .i64 f'] 24)) := old_alloc hB _
    clear wb1 M L
    go_wp2_with fail
    go_loopw [19] (fun z wr => ∃ k : Nat, k ≤ 3 ∧ z = .int .i64 (k : Int) ∧ Cel2 wr (w1.heap.size) (.int .i64 a) (.int .i64 b) ∧ Cel2 wr (w1.heap.size + 1) (.int .i64 c) (.int .i64 d) ∧ Cel2 wr (w2.heap.size) (.int .i64 d) (.int .i64 b) ∧ Cel2 wr (w2.heap.size + 1) (.int .i64 a) (.int .i64 c) ∧ Cel2 wr (w8.heap.size) (.int .i64 e') (.int .i64 f') ∧ Below w.heap.size w wr) (fun z _ => 3 - (intOf z).toNat)
    case atStart => exact ⟨0, by omega, rfl, P, H, N, O, Q, hB⟩
    case round =>
      clear P H N O Q hB
      obtain ⟨k, hk, rfl, P, H, N, O, Q, hB⟩ := hrel
      have hk4 : k = 0 ∨ k = 1 ∨ k = 2 ∨ k = 3 := by omega
      rcases hk4 with rfl | rfl | rfl | rfl
      · by_cases z1 : e' < a ∨ b < e'
        · skip
          have P0 := P.1
          have P1 := P.2.1
          have Pz := P.2.2.2.2
          have H0 := H.1
          have H1 := H.2.1
          have Hz := H.2.2.2.2
          have N0 := N.1
          have N1 := N.2.1
          have Nz := N.2.2.2.2
          have O0 := O.1
          have O1 := O.2.1
          have Oz := O.2.2.2.2
          have Q0 := Q.1
          have Q1 := Q.2.1
          have Qz := Q.2.2.2.2
          have jdb := hd (J.out e' d b)
          rw [show isB e' e' d b = false by unfold isB; simp; omega] at jdb
          have jac := hd (J.out e' a c)
          rw [show isB e' e' a c = false by unfold isB; simp; omega] at jac
          have jab := hd (J.out e' a b)
          rw [show isB e' e' a b = false by unfold isB; simp; omega] at jab
          go_wp2_with fail
          refine (jdb.out _).mono ?_
          rintro e w101 ⟨rfl, hb101⟩
          clear P0 P1 Pz H0 H1 Hz N0 N1 Nz O0 O1 Oz Q0 Q1 Qz
          replace P := (by with_reducible first | exact P.later hb101 | exact (P.alloc _).later hb101 | exact ((P.alloc _).alloc _).later hb101 | exact P.drew.later hb101 : Cel2 w101 _ _ _)
          replace H := (by with_reducible first | exact H.later hb101 | exact (H.alloc _).later hb101 | exact ((H.alloc _).alloc _).later hb101 | exact H.drew.later hb101 : Cel2 w101 _ _ _)
          replace N := (by with_reducible first | exact N.later hb101 | exact (N.alloc _).later hb101 | exact ((N.alloc _).alloc _).later hb101 | exact N.drew.later hb101 : Cel2 w101 _ _ _)
          replace O := (by with_reducible first | exact O.later hb101 | exact (O.alloc _).later hb101 | exact ((O.alloc _).alloc _).later hb101 | exact O.drew.later hb101 : Cel2 w101 _ _ _)
          replace Q := (by with_reducible first | exact Q.later hb101 | exact (Q.alloc _).later hb101 | exact ((Q.alloc _).alloc _).later hb101 | exact Q.drew.later hb101 : Cel2 w101 _ _ _)
          have X := (Cel2.made _ _ rfl (.int .i64 e') (.int .i64 e') 24).later hb101
          (try simp only [World.size_alloc] at X)
          replace hB := (by with_reducible first | exact old_trans hB hb101 | exact old_trans (old_alloc hB _) hb101 | exact old_trans (old_alloc (old_alloc hB _) _) hb101 : Below w.heap.size w w101)
          have P0 := P.1
          have P1 := P.2.1
          have Pz := P.2.2.2.2
          have H0 := H.1
          have H1 := H.2.1
          have Hz := H.2.2.2.2
          have N0 := N.1
          have N1 := N.2.1
          have Nz := N.2.2.2.2
          have O0 := O.1
          have O1 := O.2.1
          have Oz := O.2.2.2.2
          have Q0 := Q.1
          have Q1 := Q.2.1
          have Qz := Q.2.2.2.2
          have X0 := X.1
          have X1 := X.2.1
          have Xz := X.2.2.2.2
          go_wp2_with fail
          refine (jac.out _).mono ?_
          rintro e w102 ⟨rfl, hb102⟩
          clear P0 P1 Pz H0 H1 Hz N0 N1 Nz O0 O1 Oz Q0 Q1 Qz X0 X1 Xz
          replace P := (by with_reducible first | exact P.later hb102 | exact (P.alloc _).later hb102 | exact ((P.alloc _).alloc _).later hb102 | exact P.drew.later hb102 : Cel2 w102 _ _ _)
          replace H := (by with_reducible first | exact H.later hb102 | exact (H.alloc _).later hb102 | exact ((H.alloc _).alloc _).later hb102 | exact H.drew.later hb102 : Cel2 w102 _ _ _)
          replace N := (by with_reducible first | exact N.later hb102 | exact (N.alloc _).later hb102 | exact ((N.alloc _).alloc _).later hb102 | exact N.drew.later hb102 : Cel2 w102 _ _ _)
          replace O := (by with_reducible first | exact O.later hb102 | exact (O.alloc _).later hb102 | exact ((O.alloc _).alloc _).later hb102 | exact O.drew.later hb102 : Cel2 w102 _ _ _)
          replace Q := (by with_reducible first | exact Q.later hb102 | exact (Q.alloc _).later hb102 | exact ((Q.alloc _).alloc _).later hb102 | exact Q.drew.later hb102 : Cel2 w102 _ _ _)
          replace X := (by with_reducible first | exact X.later hb102 | exact (X.alloc _).later hb102 | exact ((X.alloc _).alloc _).later hb102 | exact X.drew.later hb102 : Cel2 w102 _ _ _)
          replace hB := (by with_reducible first | exact old_trans hB hb102 | exact old_trans (old_alloc hB _) hb102 | exact old_trans (old_alloc (old_alloc hB _) _) hb102 : Below w.heap.size w w102)
          have P0 := P.1
          have P1 := P.2.1
          have Pz := P.2.2.2.2
          have H0 := H.1
          have H1 := H.2.1
          have Hz := H.2.2.2.2
          have N0 := N.1
          have N1 := N.2.1
          have Nz := N.2.2.2.2
          have O0 := O.1
          have O1 := O.2.1
          have Oz := O.2.2.2.2
          have Q0 := Q.1
          have Q1 := Q.2.1
          have Qz := Q.2.2.2.2
          have X0 := X.1
          have X1 := X.2.1
          have Xz := X.2.2.2.2
          go_wp2_with fail
          refine (jab.out _).mono ?_
          rintro e w103 ⟨rfl, hb103⟩
          clear P0 P1 Pz H0 H1 Hz N0 N1 Nz O0 O1 Oz Q0 Q1 Qz X0 X1 Xz
          replace P := (by with_reducible first | exact P.later hb103 | exact (P.alloc _).later hb103 | exact ((P.alloc _).alloc _).later hb103 | exact P.drew.later hb103 : Cel2 w103 _ _ _)
          replace H := (by with_reducible first | exact H.later hb103 | exact (H.alloc _).later hb103 | exact ((H.alloc _).alloc _).later hb103 | exact H.drew.later hb103 : Cel2 w103 _ _ _)
          replace N := (by with_reducible first | exact N.later hb103 | exact (N.alloc _).later hb103 | exact ((N.alloc _).alloc _).later hb103 | exact N.drew.later hb103 : Cel2 w103 _ _ _)
          replace O := (by with_reducible first | exact O.later hb103 | exact (O.alloc _).later hb103 | exact ((O.alloc _).alloc _).later hb103 | exact O.drew.later hb103 : Cel2 w103 _ _ _)
          replace Q := (by with_reducible first | exact Q.later hb103 | exact (Q.alloc _).later hb103 | exact ((Q.alloc _).alloc _).later hb103 | exact Q.drew.later hb103 : Cel2 w103 _ _ _)
          replace X := (by with_reducible first | exact X.later hb103 | exact (X.alloc _).later hb103 | exact ((X.alloc _).alloc _).later hb103 | exact X.drew.later hb103 : Cel2 w103 _ _ _)
          replace hB := (by with_reducible first | exact old_trans hB hb103 | exact old_trans (old_alloc hB _) hb103 | exact old_trans (old_alloc (old_alloc hB _) _) hb103 : Below w.heap.size w w103)
          have P0 := P.1
          have P1 := P.2.1
          have Pz := P.2.2.2.2
          have H0 := H.1
          have H1 := H.2.1
          have Hz := H.2.2.2.2
          have N0 := N.1
          have N1 := N.2.1
          have Nz := N.2.2.2.2
          have O0 := O.1
          have O1 := O.2.1
          have Oz := O.2.2.2.2
          have Q0 := Q.1
          have Q1 := Q.2.1
          have Qz := Q.2.2.2.2
          have X0 := X.1
          have X1 := X.2.1
          have Xz := X.2.2.2.2
          go_wp2
          go_roundw
          case rel => exact ⟨1, by omega, by go_num, P, H, N, O, Q, hB⟩
          case measure => simp [intOf]
        by_cases z2 : e' ≤ c
        · skip
          have P0 := P.1
          have P1 := P.2.1
          have Pz := P.2.2.2.2
          have H0 := H.1
          have H1 := H.2.1
          have Hz := H.2.2.2.2
          have N0 := N.1
          have N1 := N.2.1
          have Nz := N.2.2.2.2
          have O0 := O.1
          have O1 := O.2.1
          have Oz := O.2.2.2.2
          have Q0 := Q.1
          have Q1 := Q.2.1
          have Qz := Q.2.2.2.2
          have jdb := hd (J.out e' d b)
          rw [show isB e' e' d b = false by unfold isB; simp; omega] at jdb
          have jac := hd (J.out e' a c)
          rw [show isB e' e' a c = true by unfold isB; simp; omega] at jac
          have jab := hd (J.out e' a b)
          rw [show isB e' e' a b = true by unfold isB; simp; omega] at jab
          have v1 : e' ≤ c := by omega
          go_wp2_with fail
          refine (jdb.out _).mono ?_
          rintro e w101 ⟨rfl, hb101⟩
          clear P0 P1 Pz H0 H1 Hz N0 N1 Nz O0 O1 Oz Q0 Q1 Qz
          replace P := (by with_reducible first | exact P.later hb101 | exact (P.alloc _).later hb101 | exact ((P.alloc _).alloc _).later hb101 | exact P.drew.later hb101 : Cel2 w101 _ _ _)
          replace H := (by with_reducible first | exact H.later hb101 | exact (H.alloc _).later hb101 | exact ((H.alloc _).alloc _).later hb101 | exact H.drew.later hb101 : Cel2 w101 _ _ _)
          replace N := (by with_reducible first | exact N.later hb101 | exact (N.alloc _).later hb101 | exact ((N.alloc _).alloc _).later hb101 | exact N.drew.later hb101 : Cel2 w101 _ _ _)
          replace O := (by with_reducible first | exact O.later hb101 | exact (O.alloc _).later hb101 | exact ((O.alloc _).alloc _).later hb101 | exact O.drew.later hb101 : Cel2 w101 _ _ _)
          replace Q := (by with_reducible first | exact Q.later hb101 | exact (Q.alloc _).later hb101 | exact ((Q.alloc _).alloc _).later hb101 | exact Q.drew.later hb101 : Cel2 w101 _ _ _)
          have X := (Cel2.made _ _ rfl (.int .i64 e') (.int .i64 e') 24).later hb101
          (try simp only [World.size_alloc] at X)
          replace hB := (by with_reducible first | exact old_trans hB hb101 | exact old_trans (old_alloc hB _) hb101 | exact old_trans (old_alloc (old_alloc hB _) _) hb101 : Below w.heap.size w w101)
          have P0 := P.1
          have P1 := P.2.1
          have Pz := P.2.2.2.2
          have H0 := H.1
          have H1 := H.2.1
          have Hz := H.2.2.2.2
          have N0 := N.1
          have N1 := N.2.1
          have Nz := N.2.2.2.2
          have O0 := O.1
          have O1 := O.2.1
          have Oz := O.2.2.2.2
          have Q0 := Q.1
          have Q1 := Q.2.1
          have Qz := Q.2.2.2.2
          have X0 := X.1
          have X1 := X.2.1
          have Xz := X.2.2.2.2
          go_wp2_with fail
          refine (jac.out _).mono ?_
          rintro e w102 ⟨rfl, hb102⟩
          clear P0 P1 Pz H0 H1 Hz N0 N1 Nz O0 O1 Oz Q0 Q1 Qz X0 X1 Xz
          replace P := (by with_reducible first | exact P.later hb102 | exact (P.alloc _).later hb102 | exact ((P.alloc _).alloc _).later hb102 | exact P.drew.later hb102 : Cel2 w102 _ _ _)
          replace H := (by with_reducible first | exact H.later hb102 | exact (H.alloc _).later hb102 | exact ((H.alloc _).alloc _).later hb102 | exact H.drew.later hb102 : Cel2 w102 _ _ _)
          replace N := (by with_reducible first | exact N.later hb102 | exact (N.alloc _).later hb102 | exact ((N.alloc _).alloc _).later hb102 | exact N.drew.later hb102 : Cel2 w102 _ _ _)
          replace O := (by with_reducible first | exact O.later hb102 | exact (O.alloc _).later hb102 | exact ((O.alloc _).alloc _).later hb102 | exact O.drew.later hb102 : Cel2 w102 _ _ _)
          replace Q := (by with_reducible first | exact Q.later hb102 | exact (Q.alloc _).later hb102 | exact ((Q.alloc _).alloc _).later hb102 | exact Q.drew.later hb102 : Cel2 w102 _ _ _)
          replace X := (by with_reducible first | exact X.later hb102 | exact (X.alloc _).later hb102 | exact ((X.alloc _).alloc _).later hb102 | exact X.drew.later hb102 : Cel2 w102 _ _ _)
          replace hB := (by with_reducible first | exact old_trans hB hb102 | exact old_trans (old_alloc hB _) hb102 | exact old_trans (old_alloc (old_alloc hB _) _) hb102 : Below w.heap.size w w102)
          have P0 := P.1
          have P1 := P.2.1
          have Pz := P.2.2.2.2
          have H0 := H.1
          have H1 := H.2.1
          have Hz := H.2.2.2.2
          have N0 := N.1
          have N1 := N.2.1
          have Nz := N.2.2.2.2
          have O0 := O.1
          have O1 := O.2.1
          have Oz := O.2.2.2.2
          have Q0 := Q.1
          have Q1 := Q.2.1
          have Qz := Q.2.2.2.2
          have X0 := X.1
          have X1 := X.2.1
          have Xz := X.2.2.2.2
          go_wp2_with fail
          refine (jab.out _).mono ?_
          rintro e w103 ⟨rfl, hb103⟩
          clear P0 P1 Pz H0 H1 Hz N0 N1 Nz O0 O1 Oz Q0 Q1 Qz X0 X1 Xz
          replace P := (by with_reducible first | exact P.later hb103 | exact (P.alloc _).later hb103 | exact ((P.alloc _).alloc _).later hb103 | exact P.drew.later hb103 : Cel2 w103 _ _ _)
          replace H := (by with_reducible first | exact H.later hb103 | exact (H.alloc _).later hb103 | exact ((H.alloc _).alloc _).later hb103 | exact H.drew.later hb103 : Cel2 w103 _ _ _)
          replace N := (by with_reducible first | exact N.later hb103 | exact (N.alloc _).later hb103 | exact ((N.alloc _).alloc _).later hb103 | exact N.drew.later hb103 : Cel2 w103 _ _ _)
          replace O := (by with_reducible first | exact O.later hb103 | exact (O.alloc _).later hb103 | exact ((O.alloc _).alloc _).later hb103 | exact O.drew.later hb103 : Cel2 w103 _ _ _)
          replace Q := (by with_reducible first | exact Q.later hb103 | exact (Q.alloc _).later hb103 | exact ((Q.alloc _).alloc _).later hb103 | exact Q.drew.later hb103 : Cel2 w103 _ _ _)
          replace X := (by with_reducible first | exact X.later hb103 | exact (X.alloc _).later hb103 | exact ((X.alloc _).alloc _).later hb103 | exact X.drew.later hb103 : Cel2 w103 _ _ _)
          replace hB := (by with_reducible first | exact old_trans hB hb103 | exact old_trans (old_alloc hB _) hb103 | exact old_trans (old_alloc (old_alloc hB _) _) hb103 : Below w.heap.size w w103)
          have P0 := P.1
          have P1 := P.2.1
          have Pz := P.2.2.2.2
          have H0 := H.1
          have H1 := H.2.1
          have Hz := H.2.2.2.2
          have N0 := N.1
          have N1 := N.2.1
          have Nz := N.2.2.2.2
          have O0 := O.1
          have O1 := O.2.1
          have Oz := O.2.2.2.2
          have Q0 := Q.1
          have Q1 := Q.2.1
          have Qz := Q.2.2.2.2
          have X0 := X.1
          have X1 := X.2.1
          have Xz := X.2.2.2.2
          go_wp2
          go_roundw
          case rel => exact ⟨1, by omega, by go_num, P, H, N, O, Q, hB⟩
          case measure => simp [intOf]
        by_cases z3 : d ≤ e'
        · skip
          have P0 := P.1
          have P1 := P.2.1
          have Pz := P.2.2.2.2
          have H0 := H.1
          have H1 := H.2.1
          have Hz := H.2.2.2.2
          have N0 := N.1
          have N1 := N.2.1
          have Nz := N.2.2.2.2
          have O0 := O.1
          have O1 := O.2.1
          have Oz := O.2.2.2.2
          have Q0 := Q.1
          have Q1 := Q.2.1
          have Qz := Q.2.2.2.2
          have jdb := hd (J.out e' d b)
          rw [show isB e' e' d b = true by unfold isB; simp; omega] at jdb
          have jac := hd (J.out e' a c)
          rw [show isB e' e' a c = false by unfold isB; simp; omega] at jac
          have jab := hd (J.out e' a b)
          rw [show isB e' e' a b = true by unfold isB; simp; omega] at jab
          have v1 : ¬ (e' ≤ c) := by omega
          have v2 : d ≤ e' := by omega
          go_wp2_with fail
          refine (jdb.out _).mono ?_
          rintro e w101 ⟨rfl, hb101⟩
          clear P0 P1 Pz H0 H1 Hz N0 N1 Nz O0 O1 Oz Q0 Q1 Qz
          replace P := (by with_reducible first | exact P.later hb101 | exact (P.alloc _).later hb101 | exact ((P.alloc _).alloc _).later hb101 | exact P.drew.later hb101 : Cel2 w101 _ _ _)
          replace H := (by with_reducible first | exact H.later hb101 | exact (H.alloc _).later hb101 | exact ((H.alloc _).alloc _).later hb101 | exact H.drew.later hb101 : Cel2 w101 _ _ _)
          replace N := (by with_reducible first | exact N.later hb101 | exact (N.alloc _).later hb101 | exact ((N.alloc _).alloc _).later hb101 | exact N.drew.later hb101 : Cel2 w101 _ _ _)
          replace O := (by with_reducible first | exact O.later hb101 | exact (O.alloc _).later hb101 | exact ((O.alloc _).alloc _).later hb101 | exact O.drew.later hb101 : Cel2 w101 _ _ _)
          replace Q := (by with_reducible first | exact Q.later hb101 | exact (Q.alloc _).later hb101 | exact ((Q.alloc _).alloc _).later hb101 | exact Q.drew.later hb101 : Cel2 w101 _ _ _)
          have X := (Cel2.made _ _ rfl (.int .i64 e') (.int .i64 e') 24).later hb101
          (try simp only [World.size_alloc] at X)
          replace hB := (by with_reducible first | exact old_trans hB hb101 | exact old_trans (old_alloc hB _) hb101 | exact old_trans (old_alloc (old_alloc hB _) _) hb101 : Below w.heap.size w w101)
          have P0 := P.1
          have P1 := P.2.1
          have Pz := P.2.2.2.2
          have H0 := H.1
          have H1 := H.2.1
          have Hz := H.2.2.2.2
          have N0 := N.1
          have N1 := N.2.1
          have Nz := N.2.2.2.2
          have O0 := O.1
          have O1 := O.2.1
          have Oz := O.2.2.2.2
          have Q0 := Q.1
          have Q1 := Q.2.1
          have Qz := Q.2.2.2.2
          have X0 := X.1
          have X1 := X.2.1
          have Xz := X.2.2.2.2
          go_wp2_with fail
          refine (jab.out _).mono ?_
          rintro e w102 ⟨rfl, hb102⟩
          clear P0 P1 Pz H0 H1 Hz N0 N1 Nz O0 O1 Oz Q0 Q1 Qz X0 X1 Xz
          replace P := (by with_reducible first | exact P.later hb102 | exact (P.alloc _).later hb102 | exact ((P.alloc _).alloc _).later hb102 | exact P.drew.later hb102 : Cel2 w102 _ _ _)
          replace H := (by with_reducible first | exact H.later hb102 | exact (H.alloc _).later hb102 | exact ((H.alloc _).alloc _).later hb102 | exact H.drew.later hb102 : Cel2 w102 _ _ _)
          replace N := (by with_reducible first | exact N.later hb102 | exact (N.alloc _).later hb102 | exact ((N.alloc _).alloc _).later hb102 | exact N.drew.later hb102 : Cel2 w102 _ _ _)
          replace O := (by with_reducible first | exact O.later hb102 | exact (O.alloc _).later hb102 | exact ((O.alloc _).alloc _).later hb102 | exact O.drew.later hb102 : Cel2 w102 _ _ _)
          replace Q := (by with_reducible first | exact Q.later hb102 | exact (Q.alloc _).later hb102 | exact ((Q.alloc _).alloc _).later hb102 | exact Q.drew.later hb102 : Cel2 w102 _ _ _)
          replace X := (by with_reducible first | exact X.later hb102 | exact (X.alloc _).later hb102 | exact ((X.alloc _).alloc _).later hb102 | exact X.drew.later hb102 : Cel2 w102 _ _ _)
          replace hB := (by with_reducible first | exact old_trans hB hb102 | exact old_trans (old_alloc hB _) hb102 | exact old_trans (old_alloc (old_alloc hB _) _) hb102 : Below w.heap.size w w102)
          have P0 := P.1
          have P1 := P.2.1
          have Pz := P.2.2.2.2
          have H0 := H.1
          have H1 := H.2.1
          have Hz := H.2.2.2.2
          have N0 := N.1
          have N1 := N.2.1
          have Nz := N.2.2.2.2
          have O0 := O.1
          have O1 := O.2.1
          have Oz := O.2.2.2.2
          have Q0 := Q.1
          have Q1 := Q.2.1
          have Qz := Q.2.2.2.2
          have X0 := X.1
          have X1 := X.2.1
          have Xz := X.2.2.2.2
          go_wp2
          go_roundw
          case rel => exact ⟨1, by omega, by go_num, P, H, N, O, Q, hB⟩
          case measure => simp [intOf]
        · skip
          have P0 := P.1
          have P1 := P.2.1
          have Pz := P.2.2.2.2
          have H0 := H.1
          have H1 := H.2.1
          have Hz := H.2.2.2.2
          have N0 := N.1
          have N1 := N.2.1
          have Nz := N.2.2.2.2
          have O0 := O.1
          have O1 := O.2.1
          have Oz := O.2.2.2.2
          have Q0 := Q.1
          have Q1 := Q.2.1
          have Qz := Q.2.2.2.2
          have jdb := hd (J.out e' d b)
          rw [show isB e' e' d b = false by unfold isB; simp; omega] at jdb
          have jac := hd (J.out e' a c)
          rw [show isB e' e' a c = false by unfold isB; simp; omega] at jac
          have jab := hd (J.out e' a b)
          rw [show isB e' e' a b = true by unfold isB; simp; omega] at jab
          have v1 : ¬ (e' ≤ c) := by omega
          have v2 : ¬ (d ≤ e') := by omega
          go_wp2_with fail
          refine (jdb.out _).mono ?_
          rintro e w101 ⟨rfl, hb101⟩
          clear P0 P1 Pz H0 H1 Hz N0 N1 Nz O0 O1 Oz Q0 Q1 Qz
          replace P := (by with_reducible first | exact P.later hb101 | exact (P.alloc _).later hb101 | exact ((P.alloc _).alloc _).later hb101 | exact P.drew.later hb101 : Cel2 w101 _ _ _)
          replace H := (by with_reducible first | exact H.later hb101 | exact (H.alloc _).later hb101 | exact ((H.alloc _).alloc _).later hb101 | exact H.drew.later hb101 : Cel2 w101 _ _ _)
          replace N := (by with_reducible first | exact N.later hb101 | exact (N.alloc _).later hb101 | exact ((N.alloc _).alloc _).later hb101 | exact N.drew.later hb101 : Cel2 w101 _ _ _)
          replace O := (by with_reducible first | exact O.later hb101 | exact (O.alloc _).later hb101 | exact ((O.alloc _).alloc _).later hb101 | exact O.drew.later hb101 : Cel2 w101 _ _ _)
          replace Q := (by with_reducible first | exact Q.later hb101 | exact (Q.alloc _).later hb101 | exact ((Q.alloc _).alloc _).later hb101 | exact Q.drew.later hb101 : Cel2 w101 _ _ _)
          have X := (Cel2.made _ _ rfl (.int .i64 e') (.int .i64 e') 24).later hb101
          (try simp only [World.size_alloc] at X)
          replace hB := (by with_reducible first | exact old_trans hB hb101 | exact old_trans (old_alloc hB _) hb101 | exact old_trans (old_alloc (old_alloc hB _) _) hb101 : Below w.heap.size w w101)
          have P0 := P.1
          have P1 := P.2.1
          have Pz := P.2.2.2.2
          have H0 := H.1
          have H1 := H.2.1
          have Hz := H.2.2.2.2
          have N0 := N.1
          have N1 := N.2.1
          have Nz := N.2.2.2.2
          have O0 := O.1
          have O1 := O.2.1
          have Oz := O.2.2.2.2
          have Q0 := Q.1
          have Q1 := Q.2.1
          have Qz := Q.2.2.2.2
          have X0 := X.1
          have X1 := X.2.1
          have Xz := X.2.2.2.2
          go_wp2_with fail
          refine (jac.out _).mono ?_
          rintro e w102 ⟨rfl, hb102⟩
          clear P0 P1 Pz H0 H1 Hz N0 N1 Nz O0 O1 Oz Q0 Q1 Qz X0 X1 Xz
          replace P := (by with_reducible first | exact P.later hb102 | exact (P.alloc _).later hb102 | exact ((P.alloc _).alloc _).later hb102 | exact P.drew.later hb102 : Cel2 w102 _ _ _)
          replace H := (by with_reducible first | exact H.later hb102 | exact (H.alloc _).later hb102 | exact ((H.alloc _).alloc _).later hb102 | exact H.drew.later hb102 : Cel2 w102 _ _ _)
          replace N := (by with_reducible first | exact N.later hb102 | exact (N.alloc _).later hb102 | exact ((N.alloc _).alloc _).later hb102 | exact N.drew.later hb102 : Cel2 w102 _ _ _)
          replace O := (by with_reducible first | exact O.later hb102 | exact (O.alloc _).later hb102 | exact ((O.alloc _).alloc _).later hb102 | exact O.drew.later hb102 : Cel2 w102 _ _ _)
          replace Q := (by with_reducible first | exact Q.later hb102 | exact (Q.alloc _).later hb102 | exact ((Q.alloc _).alloc _).later hb102 | exact Q.drew.later hb102 : Cel2 w102 _ _ _)
          replace X := (by with_reducible first | exact X.later hb102 | exact (X.alloc _).later hb102 | exact ((X.alloc _).alloc _).later hb102 | exact X.drew.later hb102 : Cel2 w102 _ _ _)
          replace hB := (by with_reducible first | exact old_trans hB hb102 | exact old_trans (old_alloc hB _) hb102 | exact old_trans (old_alloc (old_alloc hB _) _) hb102 : Below w.heap.size w w102)
          have P0 := P.1
          have P1 := P.2.1
          have Pz := P.2.2.2.2
          have H0 := H.1
          have H1 := H.2.1
          have Hz := H.2.2.2.2
          have N0 := N.1
          have N1 := N.2.1
          have Nz := N.2.2.2.2
          have O0 := O.1
          have O1 := O.2.1
          have Oz := O.2.2.2.2
          have Q0 := Q.1
          have Q1 := Q.2.1
          have Qz := Q.2.2.2.2
          have X0 := X.1
          have X1 := X.2.1
          have Xz := X.2.2.2.2
          go_wp2_with fail
          refine (jab.out _).mono ?_
          rintro e w103 ⟨rfl, hb103⟩
          clear P0 P1 Pz H0 H1 Hz N0 N1 Nz O0 O1 Oz Q0 Q1 Qz X0 X1 Xz
          replace P := (by with_reducible first | exact P.later hb103 | exact (P.alloc _).later hb103 | exact ((P.alloc _).alloc _).later hb103 | exact P.drew.later hb103 : Cel2 w103 _ _ _)
          replace H := (by with_reducible first | exact H.later hb103 | exact (H.alloc _).later hb103 | exact ((H.alloc _).alloc _).later hb103 | exact H.drew.later hb103 : Cel2 w103 _ _ _)
          replace N := (by with_reducible first | exact N.later hb103 | exact (N.alloc _).later hb103 | exact ((N.alloc _).alloc _).later hb103 | exact N.drew.later hb103 : Cel2 w103 _ _ _)
          replace O := (by with_reducible first | exact O.later hb103 | exact (O.alloc _).later hb103 | exact ((O.alloc _).alloc _).later hb103 | exact O.drew.later hb103 : Cel2 w103 _ _ _)
          replace Q := (by with_reducible first | exact Q.later hb103 | exact (Q.alloc _).later hb103 | exact ((Q.alloc _).alloc _).later hb103 | exact Q.drew.later hb103 : Cel2 w103 _ _ _)
          replace X := (by with_reducible first | exact X.later hb103 | exact (X.alloc _).later hb103 | exact ((X.alloc _).alloc _).later hb103 | exact X.drew.later hb103 : Cel2 w103 _ _ _)
          replace hB := (by with_reducible first | exact old_trans hB hb103 | exact old_trans (old_alloc hB _) hb103 | exact old_trans (old_alloc (old_alloc hB _) _) hb103 : Below w.heap.size w w103)
          have P0 := P.1
          have P1 := P.2.1
          have Pz := P.2.2.2.2
          have H0 := H.1
          have H1 := H.2.1
          have Hz := H.2.2.2.2
          have N0 := N.1
          have N1 := N.2.1
          have Nz := N.2.2.2.2
          have O0 := O.1
          have O1 := O.2.1
          have Oz := O.2.2.2.2
          have Q0 := Q.1
          have Q1 := Q.2.1
          have Qz := Q.2.2.2.2
          have X0 := X.1
          have X1 := X.2.1
          have Xz := X.2.2.2.2
          go_wp2
          go_roundw
          case rel => exact ⟨1, by omega, by go_num, P, H, N, O, Q, hB⟩
          case measure => simp [intOf]
      · skip
        have P0 := P.1
        have P1 := P.2.1
        have Pz := P.2.2.2.2
        have H0 := H.1
        have H1 := H.2.1
        have Hz := H.2.2.2.2
        have N0 := N.1
        have N1 := N.2.1
        have Nz := N.2.2.2.2
        have O0 := O.1
        have O1 := O.2.1
        have Oz := O.2.2.2.2
        have Q0 := Q.1
        have Q1 := Q.2.1
        have Qz := Q.2.2.2.2
        have jdb := hd (J.out c d b)
        rw [show isB c c d b = false by unfold isB; simp; omega] at jdb
        have jac := hd (J.out c a c)
        rw [show isB c c a c = true by unfold isB; simp; omega] at jac
        have jab := hd (J.out c a b)
        rw [show isB c c a b = true by unfold isB; simp; omega] at jab
        have v1 : c ≤ c := by omega
        go_wp2_with fail
        refine (jdb.out _).mono ?_
        rintro e w101 ⟨rfl, hb101⟩
        clear P0 P1 Pz H0 H1 Hz N0 N1 Nz O0 O1 Oz Q0 Q1 Qz
        replace P := (by with_reducible first | exact P.later hb101 | exact (P.alloc _).later hb101 | exact ((P.alloc _).alloc _).later hb101 | exact P.drew.later hb101 : Cel2 w101 _ _ _)
        replace H := (by with_reducible first | exact H.later hb101 | exact (H.alloc _).later hb101 | exact ((H.alloc _).alloc _).later hb101 | exact H.drew.later hb101 : Cel2 w101 _ _ _)
        replace N := (by with_reducible first | exact N.later hb101 | exact (N.alloc _).later hb101 | exact ((N.alloc _).alloc _).later hb101 | exact N.drew.later hb101 : Cel2 w101 _ _ _)
        replace O := (by with_reducible first | exact O.later hb101 | exact (O.alloc _).later hb101 | exact ((O.alloc _).alloc _).later hb101 | exact O.drew.later hb101 : Cel2 w101 _ _ _)
        replace Q := (by with_reducible first | exact Q.later hb101 | exact (Q.alloc _).later hb101 | exact ((Q.alloc _).alloc _).later hb101 | exact Q.drew.later hb101 : Cel2 w101 _ _ _)
        have X := (Cel2.made _ _ rfl (.int .i64 c) (.int .i64 c) 24).later hb101
        (try simp only [World.size_alloc] at X)
        replace hB := (by with_reducible first | exact old_trans hB hb101 | exact old_trans (old_alloc hB _) hb101 | exact old_trans (old_alloc (old_alloc hB _) _) hb101 : Below w.heap.size w w101)
        have P0 := P.1
        have P1 := P.2.1
        have Pz := P.2.2.2.2
        have H0 := H.1
        have H1 := H.2.1
        have Hz := H.2.2.2.2
        have N0 := N.1
        have N1 := N.2.1
        have Nz := N.2.2.2.2
        have O0 := O.1
        have O1 := O.2.1
        have Oz := O.2.2.2.2
        have Q0 := Q.1
        have Q1 := Q.2.1
        have Qz := Q.2.2.2.2
        have X0 := X.1
        have X1 := X.2.1
        have Xz := X.2.2.2.2
        go_wp2_with fail
        refine (jac.out _).mono ?_
        rintro e w102 ⟨rfl, hb102⟩
        clear P0 P1 Pz H0 H1 Hz N0 N1 Nz O0 O1 Oz Q0 Q1 Qz X0 X1 Xz
        replace P := (by with_reducible first | exact P.later hb102 | exact (P.alloc _).later hb102 | exact ((P.alloc _).alloc _).later hb102 | exact P.drew.later hb102 : Cel2 w102 _ _ _)
        replace H := (by with_reducible first | exact H.later hb102 | exact (H.alloc _).later hb102 | exact ((H.alloc _).alloc _).later hb102 | exact H.drew.later hb102 : Cel2 w102 _ _ _)
        replace N := (by with_reducible first | exact N.later hb102 | exact (N.alloc _).later hb102 | exact ((N.alloc _).alloc _).later hb102 | exact N.drew.later hb102 : Cel2 w102 _ _ _)
        replace O := (by with_reducible first | exact O.later hb102 | exact (O.alloc _).later hb102 | exact ((O.alloc _).alloc _).later hb102 | exact O.drew.later hb102 : Cel2 w102 _ _ _)
        replace Q := (by with_reducible first | exact Q.later hb102 | exact (Q.alloc _).later hb102 | exact ((Q.alloc _).alloc _).later hb102 | exact Q.drew.later hb102 : Cel2 w102 _ _ _)
        replace X := (by with_reducible first | exact X.later hb102 | exact (X.alloc _).later hb102 | exact ((X.alloc _).alloc _).later hb102 | exact X.drew.later hb102 : Cel2 w102 _ _ _)
        replace hB := (by with_reducible first | exact old_trans hB hb102 | exact old_trans (old_alloc hB _) hb102 | exact old_trans (old_alloc (old_alloc hB _) _) hb102 : Below w.heap.size w w102)
        have P0 := P.1
        have P1 := P.2.1
        have Pz := P.2.2.2.2
        have H0 := H.1
        have H1 := H.2.1
        have Hz := H.2.2.2.2
        have N0 := N.1
        have N1 := N.2.1
        have Nz := N.2.2.2.2
        have O0 := O.1
        have O1 := O.2.1
        have Oz := O.2.2.2.2
        have Q0 := Q.1
        have Q1 := Q.2.1
        have Qz := Q.2.2.2.2
        have X0 := X.1
        have X1 := X.2.1
        have Xz := X.2.2.2.2
        go_wp2_with fail
        refine (jab.out _).mono ?_
        rintro e w103 ⟨rfl, hb103⟩
        clear P0 P1 Pz H0 H1 Hz N0 N1 Nz O0 O1 Oz Q0 Q1 Qz X0 X1 Xz
        replace P := (by with_reducible first | exact P.later hb103 | exact (P.alloc _).later hb103 | exact ((P.alloc _).alloc _).later hb103 | exact P.drew.later hb103 : Cel2 w103 _ _ _)
        replace H := (by with_reducible first | exact H.later hb103 | exact (H.alloc _).later hb103 | exact ((H.alloc _).alloc _).later hb103 | exact H.drew.later hb103 : Cel2 w103 _ _ _)
        replace N := (by with_reducible first | exact N.later hb103 | exact (N.alloc _).later hb103 | exact ((N.alloc _).alloc _).later hb103 | exact N.drew.later hb103 : Cel2 w103 _ _ _)
        replace O := (by with_reducible first | exact O.later hb103 | exact (O.alloc _).later hb103 | exact ((O.alloc _).alloc _).later hb103 | exact O.drew.later hb103 : Cel2 w103 _ _ _)
        replace Q := (by with_reducible first | exact Q.later hb103 | exact (Q.alloc _).later hb103 | exact ((Q.alloc _).alloc _).later hb103 | exact Q.drew.later hb103 : Cel2 w103 _ _ _)
        replace X := (by with_reducible first | exact X.later hb103 | exact (X.alloc _).later hb103 | exact ((X.alloc _).alloc _).later hb103 | exact X.drew.later hb103 : Cel2 w103 _ _ _)
        replace hB := (by with_reducible first | exact old_trans hB hb103 | exact old_trans (old_alloc hB _) hb103 | exact old_trans (old_alloc (old_alloc hB _) _) hb103 : Below w.heap.size w w103)
        have P0 := P.1
        have P1 := P.2.1
        have Pz := P.2.2.2.2
        have H0 := H.1
        have H1 := H.2.1
        have Hz := H.2.2.2.2
        have N0 := N.1
        have N1 := N.2.1
        have Nz := N.2.2.2.2
        have O0 := O.1
        have O1 := O.2.1
        have Oz := O.2.2.2.2
        have Q0 := Q.1
        have Q1 := Q.2.1
        have Qz := Q.2.2.2.2
        have X0 := X.1
        have X1 := X.2.1
        have Xz := X.2.2.2.2
        go_wp2
        go_roundw
        case rel => exact ⟨2, by omega, by go_num, P, H, N, O, Q, hB⟩
        case measure => simp [intOf]
      · skip
        have P0 := P.1
        have P1 := P.2.1
        have Pz := P.2.2.2.2
        have H0 := H.1
        have H1 := H.2.1
        have Hz := H.2.2.2.2
        have N0 := N.1
        have N1 := N.2.1
        have Nz := N.2.2.2.2
        have O0 := O.1
        have O1 := O.2.1
        have Oz := O.2.2.2.2
        have Q0 := Q.1
        have Q1 := Q.2.1
        have Qz := Q.2.2.2.2
        have jdb := hd (J.out d d b)
        rw [show isB d d d b = true by unfold isB; simp; omega] at jdb
        have jac := hd (J.out d a c)
        rw [show isB d d a c = false by unfold isB; simp; omega] at jac
        have jab := hd (J.out d a b)
        rw [show isB d d a b = true by unfold isB; simp; omega] at jab
        have v1 : ¬ (d ≤ c) := by omega
        have v2 : d ≤ d := by omega
        go_wp2_with fail
        refine (jdb.out _).mono ?_
        rintro e w101 ⟨rfl, hb101⟩
        clear P0 P1 Pz H0 H1 Hz N0 N1 Nz O0 O1 Oz Q0 Q1 Qz
        replace P := (by with_reducible first | exact P.later hb101 | exact (P.alloc _).later hb101 | exact ((P.alloc _).alloc _).later hb101 | exact P.drew.later hb101 : Cel2 w101 _ _ _)
        replace H := (by with_reducible first | exact H.later hb101 | exact (H.alloc _).later hb101 | exact ((H.alloc _).alloc _).later hb101 | exact H.drew.later hb101 : Cel2 w101 _ _ _)
        replace N := (by with_reducible first | exact N.later hb101 | exact (N.alloc _).later hb101 | exact ((N.alloc _).alloc _).later hb101 | exact N.drew.later hb101 : Cel2 w101 _ _ _)
        replace O := (by with_reducible first | exact O.later hb101 | exact (O.alloc _).later hb101 | exact ((O.alloc _).alloc _).later hb101 | exact O.drew.later hb101 : Cel2 w101 _ _ _)
        replace Q := (by with_reducible first | exact Q.later hb101 | exact (Q.alloc _).later hb101 | exact ((Q.alloc _).alloc _).later hb101 | exact Q.drew.later hb101 : Cel2 w101 _ _ _)
        have X := (Cel2.made _ _ rfl (.int .i64 d) (.int .i64 d) 24).later hb101
        (try simp only [World.size_alloc] at X)
        replace hB := (by with_reducible first | exact old_trans hB hb101 | exact old_trans (old_alloc hB _) hb101 | exact old_trans (old_alloc (old_alloc hB _) _) hb101 : Below w.heap.size w w101)
        have P0 := P.1
        have P1 := P.2.1
        have Pz := P.2.2.2.2
        have H0 := H.1
        have H1 := H.2.1
        have Hz := H.2.2.2.2
        have N0 := N.1
        have N1 := N.2.1
        have Nz := N.2.2.2.2
        have O0 := O.1
        have O1 := O.2.1
        have Oz := O.2.2.2.2
        have Q0 := Q.1
        have Q1 := Q.2.1
        have Qz := Q.2.2.2.2
        have X0 := X.1
        have X1 := X.2.1
        have Xz := X.2.2.2.2
        go_wp2_with fail
        refine (jab.out _).mono ?_
        rintro e w102 ⟨rfl, hb102⟩
        clear P0 P1 Pz H0 H1 Hz N0 N1 Nz O0 O1 Oz Q0 Q1 Qz X0 X1 Xz
        replace P := (by with_reducible first | exact P.later hb102 | exact (P.alloc _).later hb102 | exact ((P.alloc _).alloc _).later hb102 | exact P.drew.later hb102 : Cel2 w102 _ _ _)
        replace H := (by with_reducible first | exact H.later hb102 | exact (H.alloc _).later hb102 | exact ((H.alloc _).alloc _).later hb102 | exact H.drew.later hb102 : Cel2 w102 _ _ _)
        replace N := (by with_reducible first | exact N.later hb102 | exact (N.alloc _).later hb102 | exact ((N.alloc _).alloc _).later hb102 | exact N.drew.later hb102 : Cel2 w102 _ _ _)
        replace O := (by with_reducible first | exact O.later hb102 | exact (O.alloc _).later hb102 | exact ((O.alloc _).alloc _).later hb102 | exact O.drew.later hb102 : Cel2 w102 _ _ _)
        replace Q := (by with_reducible first | exact Q.later hb102 | exact (Q.alloc _).later hb102 | exact ((Q.alloc _).alloc _).later hb102 | exact Q.drew.later hb102 : Cel2 w102 _ _ _)
        replace X := (by with_reducible first | exact X.later hb102 | exact (X.alloc _).later hb102 | exact ((X.alloc _).alloc _).later hb102 | exact X.drew.later hb102 : Cel2 w102 _ _ _)
        replace hB := (by with_reducible first | exact old_trans hB hb102 | exact old_trans (old_alloc hB _) hb102 | exact old_trans (old_alloc (old_alloc hB _) _) hb102 : Below w.heap.size w w102)
        have P0 := P.1
        have P1 := P.2.1
        have Pz := P.2.2.2.2
        have H0 := H.1
        have H1 := H.2.1
        have Hz := H.2.2.2.2
        have N0 := N.1
        have N1 := N.2.1
        have Nz := N.2.2.2.2
        have O0 := O.1
        have O1 := O.2.1
        have Oz := O.2.2.2.2
        have Q0 := Q.1
        have Q1 := Q.2.1
        have Qz := Q.2.2.2.2
        have X0 := X.1
        have X1 := X.2.1
        have Xz := X.2.2.2.2
        go_wp2
        go_roundw
        case rel => exact ⟨3, by omega, by go_num, P, H, N, O, Q, hB⟩
        case measure => simp [intOf]
      · go_wp2
        go_ret
        exact ⟨rfl, hB⟩
  · skip
    have e4 : cutV wd a b c d = .tuple #[.agg #[.int .i64 a, .int .i64 c], .agg #[.int .i64 d, .int .i64 b], .bool true] := by rw [cutV_lo hg, hc]; rfl
    have S' : Hid (∀ w : World, Calls Try.prog 12 #[.int .i64 wd, .agg #[.int .i64 a, .int .i64 b], .agg #[.int .i64 c, .int .i64 d]] w fun e w' => e = .returned (.tuple #[.agg #[.int .i64 a, .int .i64 c], .agg #[.int .i64 d, .int .i64 b], .bool true]) ∧ Below w.heap.size w w') := fun w => by rw [← e4]; exact S.out w
    have T' : Hid (∀ w : World, Calls Try.prog 13 #[.int .i64 wd, .agg #[.int .i64 a, .int .i64 b], .agg #[.int .i64 c, .int .i64 d]] w fun e w' => e = .returned (.tuple #[.agg #[.int .i64 a, .int .i64 c], .agg #[.int .i64 d, .int .i64 b], .bool true]) ∧ Below w.heap.size w w') := fun w => by rw [← e4]; exact T.out w
    rw [e2, e3] at hg
    have d1 : ¬ (b - d < c - a) := by omega
    have d2 : ¬ (b - a ≤ c - a) := by omega
    have d3 : ¬ (b - a ≤ b - d) := by omega
    clear S T e4 e1 e2 e3 hc hg hcd hbds
    generalize b - a = gp at *
    generalize c - a = ga at *
    generalize b - d = gd at *
    go_wp2_with fail
    refine (S'.out _).mono ?_
    rintro e w2 ⟨rfl, hb2⟩
    have P := ((Cel2.made _ _ rfl (.int .i64 a) (.int .i64 b) 24).alloc _).later hb2
    (try simp only [World.size_alloc] at P)
    have H := (Cel2.made _ _ rfl (.int .i64 c) (.int .i64 d) 24).later hb2
    (try simp only [World.size_alloc] at H)
    replace wb1 := (by with_reducible first | exact wb1.old hb2 | exact (wb1.old ((Below.refl _ _).alloc (Nat.le_refl _) _)).old hb2 | exact ((wb1.old ((Below.refl _ _).alloc (Nat.le_refl _) _)).old ((Below.refl _ _).alloc (Nat.le_refl _) _)).old hb2 : IsCode w2 _ _ _)
    replace hB := (by with_reducible first | exact old_trans hB hb2 | exact old_trans (old_alloc hB _) hb2 | exact old_trans (old_alloc (old_alloc hB _) _) hb2 : Below w.heap.size w w2)
    have P0 := P.1
    have P1 := P.2.1
    have Pz := P.2.2.2.2
    have H0 := H.1
    have H1 := H.2.1
    have Hz := H.2.2.2.2
    go_wp2_with fail
    refine (T'.out _).mono ?_
    rintro e w3 ⟨rfl, hb3⟩
    clear P0 P1 Pz H0 H1 Hz
    replace P := (by with_reducible first | exact P.later hb3 | exact (P.alloc _).later hb3 | exact ((P.alloc _).alloc _).later hb3 | exact P.drew.later hb3 : Cel2 w3 _ _ _)
    replace H := (by with_reducible first | exact H.later hb3 | exact (H.alloc _).later hb3 | exact ((H.alloc _).alloc _).later hb3 | exact H.drew.later hb3 : Cel2 w3 _ _ _)
    have N := ((Cel2.made _ _ rfl (.int .i64 a) (.int .i64 c) 24).alloc _).later hb3
    (try simp only [World.size_alloc] at N)
    have O := (Cel2.made _ _ rfl (.int .i64 d) (.int .i64 b) 24).later hb3
    (try simp only [World.size_alloc] at O)
    replace wb1 := (by with_reducible first | exact wb1.old hb3 | exact (wb1.old ((Below.refl _ _).alloc (Nat.le_refl _) _)).old hb3 | exact ((wb1.old ((Below.refl _ _).alloc (Nat.le_refl _) _)).old ((Below.refl _ _).alloc (Nat.le_refl _) _)).old hb3 : IsCode w3 _ _ _)
    replace hB := (by with_reducible first | exact old_trans hB hb3 | exact old_trans (old_alloc hB _) hb3 | exact old_trans (old_alloc (old_alloc hB _) _) hb3 : Below w.heap.size w w3)
    have P0 := P.1
    have P1 := P.2.1
    have Pz := P.2.2.2.2
    have H0 := H.1
    have H1 := H.2.1
    have Hz := H.2.2.2.2
    have N0 := N.1
    have N1 := N.2.1
    have Nz := N.2.2.2.2
    have O0 := O.1
    have O1 := O.2.1
    have Oz := O.2.2.2.2
    go_wp2_with fail
    refine (Gp.out _).mono ?_
    rintro e wz ⟨rfl, rfl⟩
    go_wp2_with fail
    refine (Ga.out _).mono ?_
    rintro e wz ⟨rfl, rfl⟩
    go_wp2_with fail
    refine (Gd.out _).mono ?_
    rintro e wz ⟨rfl, rfl⟩
    go_wp2_with fail
    refine (Oa.out _).mono ?_
    rintro e w4 ⟨rfl, hb4⟩
    clear P0 P1 Pz H0 H1 Hz N0 N1 Nz O0 O1 Oz
    replace P := (by with_reducible first | exact P.later hb4 | exact (P.alloc _).later hb4 | exact ((P.alloc _).alloc _).later hb4 | exact P.drew.later hb4 : Cel2 w4 _ _ _)
    replace H := (by with_reducible first | exact H.later hb4 | exact (H.alloc _).later hb4 | exact ((H.alloc _).alloc _).later hb4 | exact H.drew.later hb4 : Cel2 w4 _ _ _)
    replace N := (by with_reducible first | exact N.later hb4 | exact (N.alloc _).later hb4 | exact ((N.alloc _).alloc _).later hb4 | exact N.drew.later hb4 : Cel2 w4 _ _ _)
    replace O := (by with_reducible first | exact O.later hb4 | exact (O.alloc _).later hb4 | exact ((O.alloc _).alloc _).later hb4 | exact O.drew.later hb4 : Cel2 w4 _ _ _)
    have M := ((Cel2.made _ _ rfl (.int .i64 a) (.int .i64 c) 24).alloc _).later hb4
    (try simp only [World.size_alloc] at M)
    have L := (Cel2.made _ _ rfl (.int .i64 d) (.int .i64 b) 24).later hb4
    (try simp only [World.size_alloc] at L)
    replace wb1 := (by with_reducible first | exact wb1.old hb4 | exact (wb1.old ((Below.refl _ _).alloc (Nat.le_refl _) _)).old hb4 | exact ((wb1.old ((Below.refl _ _).alloc (Nat.le_refl _) _)).old ((Below.refl _ _).alloc (Nat.le_refl _) _)).old hb4 : IsCode w4 _ _ _)
    replace hB := (by with_reducible first | exact old_trans hB hb4 | exact old_trans (old_alloc hB _) hb4 | exact old_trans (old_alloc (old_alloc hB _) _) hb4 : Below w.heap.size w w4)
    have P0 := P.1
    have P1 := P.2.1
    have Pz := P.2.2.2.2
    have H0 := H.1
    have H1 := H.2.1
    have Hz := H.2.2.2.2
    have N0 := N.1
    have N1 := N.2.1
    have Nz := N.2.2.2.2
    have O0 := O.1
    have O1 := O.2.1
    have Oz := O.2.2.2.2
    have M0 := M.1
    have M1 := M.2.1
    have Mz := M.2.2.2.2
    have L0 := L.1
    have L1 := L.2.1
    have Lz := L.2.2.2.2
    go_wp2_with fail
    refine (Od.out _).mono ?_
    rintro e w5 ⟨rfl, hb5⟩
    clear P0 P1 Pz H0 H1 Hz N0 N1 Nz O0 O1 Oz M0 M1 Mz L0 L1 Lz
    replace P := (by with_reducible first | exact P.later hb5 | exact (P.alloc _).later hb5 | exact ((P.alloc _).alloc _).later hb5 | exact P.drew.later hb5 : Cel2 w5 _ _ _)
    replace H := (by with_reducible first | exact H.later hb5 | exact (H.alloc _).later hb5 | exact ((H.alloc _).alloc _).later hb5 | exact H.drew.later hb5 : Cel2 w5 _ _ _)
    replace N := (by with_reducible first | exact N.later hb5 | exact (N.alloc _).later hb5 | exact ((N.alloc _).alloc _).later hb5 | exact N.drew.later hb5 : Cel2 w5 _ _ _)
    replace O := (by with_reducible first | exact O.later hb5 | exact (O.alloc _).later hb5 | exact ((O.alloc _).alloc _).later hb5 | exact O.drew.later hb5 : Cel2 w5 _ _ _)
    replace M := (by with_reducible first | exact M.later hb5 | exact (M.alloc _).later hb5 | exact ((M.alloc _).alloc _).later hb5 | exact M.drew.later hb5 : Cel2 w5 _ _ _)
    replace L := (by with_reducible first | exact L.later hb5 | exact (L.alloc _).later hb5 | exact ((L.alloc _).alloc _).later hb5 | exact L.drew.later hb5 : Cel2 w5 _ _ _)
    replace wb1 := (by with_reducible first | exact wb1.old hb5 | exact (wb1.old ((Below.refl _ _).alloc (Nat.le_refl _) _)).old hb5 | exact ((wb1.old ((Below.refl _ _).alloc (Nat.le_refl _) _)).old ((Below.refl _ _).alloc (Nat.le_refl _) _)).old hb5 : IsCode w5 _ _ _)
    replace hB := (by with_reducible first | exact old_trans hB hb5 | exact old_trans (old_alloc hB _) hb5 | exact old_trans (old_alloc (old_alloc hB _) _) hb5 : Below w.heap.size w w5)
    have P0 := P.1
    have P1 := P.2.1
    have Pz := P.2.2.2.2
    have H0 := H.1
    have H1 := H.2.1
    have Hz := H.2.2.2.2
    have N0 := N.1
    have N1 := N.2.1
    have Nz := N.2.2.2.2
    have O0 := O.1
    have O1 := O.2.1
    have Oz := O.2.2.2.2
    have M0 := M.1
    have M1 := M.2.1
    have Mz := M.2.2.2.2
    have L0 := L.1
    have L1 := L.2.1
    have Lz := L.2.2.2.2
    go_wp2_with fail
    refine (Ia.out _).mono ?_
    rintro e w6 ⟨rfl, hb6⟩
    clear P0 P1 Pz H0 H1 Hz N0 N1 Nz O0 O1 Oz M0 M1 Mz L0 L1 Lz
    replace P := (by with_reducible first | exact P.later hb6 | exact (P.alloc _).later hb6 | exact ((P.alloc _).alloc _).later hb6 | exact P.drew.later hb6 : Cel2 w6 _ _ _)
    replace H := (by with_reducible first | exact H.later hb6 | exact (H.alloc _).later hb6 | exact ((H.alloc _).alloc _).later hb6 | exact H.drew.later hb6 : Cel2 w6 _ _ _)
    replace N := (by with_reducible first | exact N.later hb6 | exact (N.alloc _).later hb6 | exact ((N.alloc _).alloc _).later hb6 | exact N.drew.later hb6 : Cel2 w6 _ _ _)
    replace O := (by with_reducible first | exact O.later hb6 | exact (O.alloc _).later hb6 | exact ((O.alloc _).alloc _).later hb6 | exact O.drew.later hb6 : Cel2 w6 _ _ _)
    replace M := (by with_reducible first | exact M.later hb6 | exact (M.alloc _).later hb6 | exact ((M.alloc _).alloc _).later hb6 | exact M.drew.later hb6 : Cel2 w6 _ _ _)
    replace L := (by with_reducible first | exact L.later hb6 | exact (L.alloc _).later hb6 | exact ((L.alloc _).alloc _).later hb6 | exact L.drew.later hb6 : Cel2 w6 _ _ _)
    replace wb1 := (by with_reducible first | exact wb1.old hb6 | exact (wb1.old ((Below.refl _ _).alloc (Nat.le_refl _) _)).old hb6 | exact ((wb1.old ((Below.refl _ _).alloc (Nat.le_refl _) _)).old ((Below.refl _ _).alloc (Nat.le_refl _) _)).old hb6 : IsCode w6 _ _ _)
    replace hB := (by with_reducible first | exact old_trans hB hb6 | exact old_trans (old_alloc hB _) hb6 | exact old_trans (old_alloc (old_alloc hB _) _) hb6 : Below w.heap.size w w6)
    have P0 := P.1
    have P1 := P.2.1
    have Pz := P.2.2.2.2
    have H0 := H.1
    have H1 := H.2.1
    have Hz := H.2.2.2.2
    have N0 := N.1
    have N1 := N.2.1
    have Nz := N.2.2.2.2
    have O0 := O.1
    have O1 := O.2.1
    have Oz := O.2.2.2.2
    have M0 := M.1
    have M1 := M.2.1
    have Mz := M.2.2.2.2
    have L0 := L.1
    have L1 := L.2.1
    have Lz := L.2.2.2.2
    go_wp2_with fail
    refine (Id.out _).mono ?_
    rintro e w7 ⟨rfl, hb7⟩
    clear P0 P1 Pz H0 H1 Hz N0 N1 Nz O0 O1 Oz M0 M1 Mz L0 L1 Lz
    replace P := (by with_reducible first | exact P.later hb7 | exact (P.alloc _).later hb7 | exact ((P.alloc _).alloc _).later hb7 | exact P.drew.later hb7 : Cel2 w7 _ _ _)
    replace H := (by with_reducible first | exact H.later hb7 | exact (H.alloc _).later hb7 | exact ((H.alloc _).alloc _).later hb7 | exact H.drew.later hb7 : Cel2 w7 _ _ _)
    replace N := (by with_reducible first | exact N.later hb7 | exact (N.alloc _).later hb7 | exact ((N.alloc _).alloc _).later hb7 | exact N.drew.later hb7 : Cel2 w7 _ _ _)
    replace O := (by with_reducible first | exact O.later hb7 | exact (O.alloc _).later hb7 | exact ((O.alloc _).alloc _).later hb7 | exact O.drew.later hb7 : Cel2 w7 _ _ _)
    replace M := (by with_reducible first | exact M.later hb7 | exact (M.alloc _).later hb7 | exact ((M.alloc _).alloc _).later hb7 | exact M.drew.later hb7 : Cel2 w7 _ _ _)
    replace L := (by with_reducible first | exact L.later hb7 | exact (L.alloc _).later hb7 | exact ((L.alloc _).alloc _).later hb7 | exact L.drew.later hb7 : Cel2 w7 _ _ _)
    replace wb1 := (by with_reducible first | exact wb1.old hb7 | exact (wb1.old ((Below.refl _ _).alloc (Nat.le_refl _) _)).old hb7 | exact ((wb1.old ((Below.refl _ _).alloc (Nat.le_refl _) _)).old ((Below.refl _ _).alloc (Nat.le_refl _) _)).old hb7 : IsCode w7 _ _ _)
    replace hB := (by with_reducible first | exact old_trans hB hb7 | exact old_trans (old_alloc hB _) hb7 | exact old_trans (old_alloc (old_alloc hB _) _) hb7 : Below w.heap.size w w7)
    have P0 := P.1
    have P1 := P.2.1
    have Pz := P.2.2.2.2
    have H0 := H.1
    have H1 := H.2.1
    have Hz := H.2.2.2.2
    have N0 := N.1
    have N1 := N.2.1
    have Nz := N.2.2.2.2
    have O0 := O.1
    have O1 := O.2.1
    have Oz := O.2.2.2.2
    have M0 := M.1
    have M1 := M.2.1
    have Mz := M.2.2.2.2
    have L0 := L.1
    have L1 := L.2.1
    have Lz := L.2.2.2.2
    go_wp2_with fail
    refine (goodPair _ a1 len1 cap1 wb1).mono ?_
    rintro e w8 ⟨⟨wd', e', f', -, -, rfl⟩, hb8⟩
    clear P0 P1 Pz H0 H1 Hz N0 N1 Nz O0 O1 Oz M0 M1 Mz L0 L1 Lz
    replace P := (by with_reducible first | exact P.later hb8 | exact (P.alloc _).later hb8 | exact ((P.alloc _).alloc _).later hb8 | exact P.drew.later hb8 : Cel2 w8 _ _ _)
    replace H := (by with_reducible first | exact H.later hb8 | exact (H.alloc _).later hb8 | exact ((H.alloc _).alloc _).later hb8 | exact H.drew.later hb8 : Cel2 w8 _ _ _)
    replace N := (by with_reducible first | exact N.later hb8 | exact (N.alloc _).later hb8 | exact ((N.alloc _).alloc _).later hb8 | exact N.drew.later hb8 : Cel2 w8 _ _ _)
    replace O := (by with_reducible first | exact O.later hb8 | exact (O.alloc _).later hb8 | exact ((O.alloc _).alloc _).later hb8 | exact O.drew.later hb8 : Cel2 w8 _ _ _)
    replace M := (by with_reducible first | exact M.later hb8 | exact (M.alloc _).later hb8 | exact ((M.alloc _).alloc _).later hb8 | exact M.drew.later hb8 : Cel2 w8 _ _ _)
    replace L := (by with_reducible first | exact L.later hb8 | exact (L.alloc _).later hb8 | exact ((L.alloc _).alloc _).later hb8 | exact L.drew.later hb8 : Cel2 w8 _ _ _)
    replace wb1 := (by with_reducible first | exact wb1.old hb8 | exact (wb1.old ((Below.refl _ _).alloc (Nat.le_refl _) _)).old hb8 | exact ((wb1.old ((Below.refl _ _).alloc (Nat.le_refl _) _)).old ((Below.refl _ _).alloc (Nat.le_refl _) _)).old hb8 : IsCode w8 _ _ _)
    replace hB := (by with_reducible first | exact old_trans hB hb8 | exact old_trans (old_alloc hB _) hb8 | exact old_trans (old_alloc (old_alloc hB _) _) hb8 : Below w.heap.size w w8)
    have P0 := P.1
    have P1 := P.2.1
    have Pz := P.2.2.2.2
    have H0 := H.1
    have H1 := H.2.1
    have Hz := H.2.2.2.2
    have N0 := N.1
    have N1 := N.2.1
    have Nz := N.2.2.2.2
    have O0 := O.1
    have O1 := O.2.1
    have Oz := O.2.2.2.2
    have M0 := M.1
    have M1 := M.2.1
    have Mz := M.2.2.2.2
    have L0 := L.1
    have L1 := L.2.1
    have Lz := L.2.2.2.2
    clear P0 P1 Pz H0 H1 Hz N0 N1 Nz O0 O1 Oz M0 M1 Mz L0 L1 Lz
    replace P := P.alloc (.cells #[.int .i64 e', .int .i64 f'] 24)
    replace H := H.alloc (.cells #[.int .i64 e', .int .i64 f'] 24)
    replace N := N.alloc (.cells #[.int .i64 e', .int .i64 f'] 24)
    replace O := O.alloc (.cells #[.int .i64 e', .int .i64 f'] 24)
    have Q : Cel2 (w8.alloc (.cells #[.int .i64 e', .int .i64 f'] 24)) w8.heap.size (.int .i64 e') (.int .i64 f') := Cel2.made _ _ rfl _ _ _
    replace hB : Below w.heap.size w (w8.alloc (.cells #[.int .i64 e', .int .i64 f'] 24)) := old_alloc hB _
    clear wb1 M L
    go_wp2_with fail
    go_loopw [19] (fun z wr => ∃ k : Nat, k ≤ 3 ∧ z = .int .i64 (k : Int) ∧ Cel2 wr (w1.heap.size) (.int .i64 a) (.int .i64 b) ∧ Cel2 wr (w1.heap.size + 1) (.int .i64 c) (.int .i64 d) ∧ Cel2 wr (w2.heap.size) (.int .i64 a) (.int .i64 c) ∧ Cel2 wr (w2.heap.size + 1) (.int .i64 d) (.int .i64 b) ∧ Cel2 wr (w8.heap.size) (.int .i64 e') (.int .i64 f') ∧ Below w.heap.size w wr) (fun z _ => 3 - (intOf z).toNat)
    case atStart => exact ⟨0, by omega, rfl, P, H, N, O, Q, hB⟩
    case round =>
      clear P H N O Q hB
      obtain ⟨k, hk, rfl, P, H, N, O, Q, hB⟩ := hrel
      have hk4 : k = 0 ∨ k = 1 ∨ k = 2 ∨ k = 3 := by omega
      rcases hk4 with rfl | rfl | rfl | rfl
      · by_cases z1 : e' < a ∨ b < e'
        · skip
          have P0 := P.1
          have P1 := P.2.1
          have Pz := P.2.2.2.2
          have H0 := H.1
          have H1 := H.2.1
          have Hz := H.2.2.2.2
          have N0 := N.1
          have N1 := N.2.1
          have Nz := N.2.2.2.2
          have O0 := O.1
          have O1 := O.2.1
          have Oz := O.2.2.2.2
          have Q0 := Q.1
          have Q1 := Q.2.1
          have Qz := Q.2.2.2.2
          have jac := hd (J.out e' a c)
          rw [show isB e' e' a c = false by unfold isB; simp; omega] at jac
          have jdb := hd (J.out e' d b)
          rw [show isB e' e' d b = false by unfold isB; simp; omega] at jdb
          have jab := hd (J.out e' a b)
          rw [show isB e' e' a b = false by unfold isB; simp; omega] at jab
          go_wp2_with fail
          refine (jac.out _).mono ?_
          rintro e w101 ⟨rfl, hb101⟩
          clear P0 P1 Pz H0 H1 Hz N0 N1 Nz O0 O1 Oz Q0 Q1 Qz
          replace P := (by with_reducible first | exact P.later hb101 | exact (P.alloc _).later hb101 | exact ((P.alloc _).alloc _).later hb101 | exact P.drew.later hb101 : Cel2 w101 _ _ _)
          replace H := (by with_reducible first | exact H.later hb101 | exact (H.alloc _).later hb101 | exact ((H.alloc _).alloc _).later hb101 | exact H.drew.later hb101 : Cel2 w101 _ _ _)
          replace N := (by with_reducible first | exact N.later hb101 | exact (N.alloc _).later hb101 | exact ((N.alloc _).alloc _).later hb101 | exact N.drew.later hb101 : Cel2 w101 _ _ _)
          replace O := (by with_reducible first | exact O.later hb101 | exact (O.alloc _).later hb101 | exact ((O.alloc _).alloc _).later hb101 | exact O.drew.later hb101 : Cel2 w101 _ _ _)
          replace Q := (by with_reducible first | exact Q.later hb101 | exact (Q.alloc _).later hb101 | exact ((Q.alloc _).alloc _).later hb101 | exact Q.drew.later hb101 : Cel2 w101 _ _ _)
          have X := (Cel2.made _ _ rfl (.int .i64 e') (.int .i64 e') 24).later hb101
          (try simp only [World.size_alloc] at X)
          replace hB := (by with_reducible first | exact old_trans hB hb101 | exact old_trans (old_alloc hB _) hb101 | exact old_trans (old_alloc (old_alloc hB _) _) hb101 : Below w.heap.size w w101)
          have P0 := P.1
          have P1 := P.2.1
          have Pz := P.2.2.2.2
          have H0 := H.1
          have H1 := H.2.1
          have Hz := H.2.2.2.2
          have N0 := N.1
          have N1 := N.2.1
          have Nz := N.2.2.2.2
          have O0 := O.1
          have O1 := O.2.1
          have Oz := O.2.2.2.2
          have Q0 := Q.1
          have Q1 := Q.2.1
          have Qz := Q.2.2.2.2
          have X0 := X.1
          have X1 := X.2.1
          have Xz := X.2.2.2.2
          go_wp2_with fail
          refine (jdb.out _).mono ?_
          rintro e w102 ⟨rfl, hb102⟩
          clear P0 P1 Pz H0 H1 Hz N0 N1 Nz O0 O1 Oz Q0 Q1 Qz X0 X1 Xz
          replace P := (by with_reducible first | exact P.later hb102 | exact (P.alloc _).later hb102 | exact ((P.alloc _).alloc _).later hb102 | exact P.drew.later hb102 : Cel2 w102 _ _ _)
          replace H := (by with_reducible first | exact H.later hb102 | exact (H.alloc _).later hb102 | exact ((H.alloc _).alloc _).later hb102 | exact H.drew.later hb102 : Cel2 w102 _ _ _)
          replace N := (by with_reducible first | exact N.later hb102 | exact (N.alloc _).later hb102 | exact ((N.alloc _).alloc _).later hb102 | exact N.drew.later hb102 : Cel2 w102 _ _ _)
          replace O := (by with_reducible first | exact O.later hb102 | exact (O.alloc _).later hb102 | exact ((O.alloc _).alloc _).later hb102 | exact O.drew.later hb102 : Cel2 w102 _ _ _)
          replace Q := (by with_reducible first | exact Q.later hb102 | exact (Q.alloc _).later hb102 | exact ((Q.alloc _).alloc _).later hb102 | exact Q.drew.later hb102 : Cel2 w102 _ _ _)
          replace X := (by with_reducible first | exact X.later hb102 | exact (X.alloc _).later hb102 | exact ((X.alloc _).alloc _).later hb102 | exact X.drew.later hb102 : Cel2 w102 _ _ _)
          replace hB := (by with_reducible first | exact old_trans hB hb102 | exact old_trans (old_alloc hB _) hb102 | exact old_trans (old_alloc (old_alloc hB _) _) hb102 : Below w.heap.size w w102)
          have P0 := P.1
          have P1 := P.2.1
          have Pz := P.2.2.2.2
          have H0 := H.1
          have H1 := H.2.1
          have Hz := H.2.2.2.2
          have N0 := N.1
          have N1 := N.2.1
          have Nz := N.2.2.2.2
          have O0 := O.1
          have O1 := O.2.1
          have Oz := O.2.2.2.2
          have Q0 := Q.1
          have Q1 := Q.2.1
          have Qz := Q.2.2.2.2
          have X0 := X.1
          have X1 := X.2.1
          have Xz := X.2.2.2.2
          go_wp2_with fail
          refine (jab.out _).mono ?_
          rintro e w103 ⟨rfl, hb103⟩
          clear P0 P1 Pz H0 H1 Hz N0 N1 Nz O0 O1 Oz Q0 Q1 Qz X0 X1 Xz
          replace P := (by with_reducible first | exact P.later hb103 | exact (P.alloc _).later hb103 | exact ((P.alloc _).alloc _).later hb103 | exact P.drew.later hb103 : Cel2 w103 _ _ _)
          replace H := (by with_reducible first | exact H.later hb103 | exact (H.alloc _).later hb103 | exact ((H.alloc _).alloc _).later hb103 | exact H.drew.later hb103 : Cel2 w103 _ _ _)
          replace N := (by with_reducible first | exact N.later hb103 | exact (N.alloc _).later hb103 | exact ((N.alloc _).alloc _).later hb103 | exact N.drew.later hb103 : Cel2 w103 _ _ _)
          replace O := (by with_reducible first | exact O.later hb103 | exact (O.alloc _).later hb103 | exact ((O.alloc _).alloc _).later hb103 | exact O.drew.later hb103 : Cel2 w103 _ _ _)
          replace Q := (by with_reducible first | exact Q.later hb103 | exact (Q.alloc _).later hb103 | exact ((Q.alloc _).alloc _).later hb103 | exact Q.drew.later hb103 : Cel2 w103 _ _ _)
          replace X := (by with_reducible first | exact X.later hb103 | exact (X.alloc _).later hb103 | exact ((X.alloc _).alloc _).later hb103 | exact X.drew.later hb103 : Cel2 w103 _ _ _)
          replace hB := (by with_reducible first | exact old_trans hB hb103 | exact old_trans (old_alloc hB _) hb103 | exact old_trans (old_alloc (old_alloc hB _) _) hb103 : Below w.heap.size w w103)
          have P0 := P.1
          have P1 := P.2.1
          have Pz := P.2.2.2.2
          have H0 := H.1
          have H1 := H.2.1
          have Hz := H.2.2.2.2
          have N0 := N.1
          have N1 := N.2.1
          have Nz := N.2.2.2.2
          have O0 := O.1
          have O1 := O.2.1
          have Oz := O.2.2.2.2
          have Q0 := Q.1
          have Q1 := Q.2.1
          have Qz := Q.2.2.2.2
          have X0 := X.1
          have X1 := X.2.1
          have Xz := X.2.2.2.2
          go_wp2
          go_roundw
          case rel => exact ⟨1, by omega, by go_num, P, H, N, O, Q, hB⟩
          case measure => simp [intOf]
        by_cases z2 : e' ≤ c
        · skip
          have P0 := P.1
          have P1 := P.2.1
          have Pz := P.2.2.2.2
          have H0 := H.1
          have H1 := H.2.1
          have Hz := H.2.2.2.2
          have N0 := N.1
          have N1 := N.2.1
          have Nz := N.2.2.2.2
          have O0 := O.1
          have O1 := O.2.1
          have Oz := O.2.2.2.2
          have Q0 := Q.1
          have Q1 := Q.2.1
          have Qz := Q.2.2.2.2
          have jac := hd (J.out e' a c)
          rw [show isB e' e' a c = true by unfold isB; simp; omega] at jac
          have jdb := hd (J.out e' d b)
          rw [show isB e' e' d b = false by unfold isB; simp; omega] at jdb
          have jab := hd (J.out e' a b)
          rw [show isB e' e' a b = true by unfold isB; simp; omega] at jab
          have v1 : e' ≤ c := by omega
          go_wp2_with fail
          refine (jac.out _).mono ?_
          rintro e w101 ⟨rfl, hb101⟩
          clear P0 P1 Pz H0 H1 Hz N0 N1 Nz O0 O1 Oz Q0 Q1 Qz
          replace P := (by with_reducible first | exact P.later hb101 | exact (P.alloc _).later hb101 | exact ((P.alloc _).alloc _).later hb101 | exact P.drew.later hb101 : Cel2 w101 _ _ _)
          replace H := (by with_reducible first | exact H.later hb101 | exact (H.alloc _).later hb101 | exact ((H.alloc _).alloc _).later hb101 | exact H.drew.later hb101 : Cel2 w101 _ _ _)
          replace N := (by with_reducible first | exact N.later hb101 | exact (N.alloc _).later hb101 | exact ((N.alloc _).alloc _).later hb101 | exact N.drew.later hb101 : Cel2 w101 _ _ _)
          replace O := (by with_reducible first | exact O.later hb101 | exact (O.alloc _).later hb101 | exact ((O.alloc _).alloc _).later hb101 | exact O.drew.later hb101 : Cel2 w101 _ _ _)
          replace Q := (by with_reducible first | exact Q.later hb101 | exact (Q.alloc _).later hb101 | exact ((Q.alloc _).alloc _).later hb101 | exact Q.drew.later hb101 : Cel2 w101 _ _ _)
          have X := (Cel2.made _ _ rfl (.int .i64 e') (.int .i64 e') 24).later hb101
          (try simp only [World.size_alloc] at X)
          replace hB := (by with_reducible first | exact old_trans hB hb101 | exact old_trans (old_alloc hB _) hb101 | exact old_trans (old_alloc (old_alloc hB _) _) hb101 : Below w.heap.size w w101)
          have P0 := P.1
          have P1 := P.2.1
          have Pz := P.2.2.2.2
          have H0 := H.1
          have H1 := H.2.1
          have Hz := H.2.2.2.2
          have N0 := N.1
          have N1 := N.2.1
          have Nz := N.2.2.2.2
          have O0 := O.1
          have O1 := O.2.1
          have Oz := O.2.2.2.2
          have Q0 := Q.1
          have Q1 := Q.2.1
          have Qz := Q.2.2.2.2
          have X0 := X.1
          have X1 := X.2.1
          have Xz := X.2.2.2.2
          go_wp2_with fail
          refine (jab.out _).mono ?_
          rintro e w102 ⟨rfl, hb102⟩
          clear P0 P1 Pz H0 H1 Hz N0 N1 Nz O0 O1 Oz Q0 Q1 Qz X0 X1 Xz
          replace P := (by with_reducible first | exact P.later hb102 | exact (P.alloc _).later hb102 | exact ((P.alloc _).alloc _).later hb102 | exact P.drew.later hb102 : Cel2 w102 _ _ _)
          replace H := (by with_reducible first | exact H.later hb102 | exact (H.alloc _).later hb102 | exact ((H.alloc _).alloc _).later hb102 | exact H.drew.later hb102 : Cel2 w102 _ _ _)
          replace N := (by with_reducible first | exact N.later hb102 | exact (N.alloc _).later hb102 | exact ((N.alloc _).alloc _).later hb102 | exact N.drew.later hb102 : Cel2 w102 _ _ _)
          replace O := (by with_reducible first | exact O.later hb102 | exact (O.alloc _).later hb102 | exact ((O.alloc _).alloc _).later hb102 | exact O.drew.later hb102 : Cel2 w102 _ _ _)
          replace Q := (by with_reducible first | exact Q.later hb102 | exact (Q.alloc _).later hb102 | exact ((Q.alloc _).alloc _).later hb102 | exact Q.drew.later hb102 : Cel2 w102 _ _ _)
          replace X := (by with_reducible first | exact X.later hb102 | exact (X.alloc _).later hb102 | exact ((X.alloc _).alloc _).later hb102 | exact X.drew.later hb102 : Cel2 w102 _ _ _)
          replace hB := (by with_reducible first | exact old_trans hB hb102 | exact old_trans (old_alloc hB _) hb102 | exact old_trans (old_alloc (old_alloc hB _) _) hb102 : Below w.heap.size w w102)
          have P0 := P.1
          have P1 := P.2.1
          have Pz := P.2.2.2.2
          have H0 := H.1
          have H1 := H.2.1
          have Hz := H.2.2.2.2
          have N0 := N.1
          have N1 := N.2.1
          have Nz := N.2.2.2.2
          have O0 := O.1
          have O1 := O.2.1
          have Oz := O.2.2.2.2
          have Q0 := Q.1
          have Q1 := Q.2.1
          have Qz := Q.2.2.2.2
          have X0 := X.1
          have X1 := X.2.1
          have Xz := X.2.2.2.2
          go_wp2
          go_roundw
          case rel => exact ⟨1, by omega, by go_num, P, H, N, O, Q, hB⟩
          case measure => simp [intOf]
        by_cases z3 : d ≤ e'
        · skip
          have P0 := P.1
          have P1 := P.2.1
          have Pz := P.2.2.2.2
          have H0 := H.1
          have H1 := H.2.1
          have Hz := H.2.2.2.2
          have N0 := N.1
          have N1 := N.2.1
          have Nz := N.2.2.2.2
          have O0 := O.1
          have O1 := O.2.1
          have Oz := O.2.2.2.2
          have Q0 := Q.1
          have Q1 := Q.2.1
          have Qz := Q.2.2.2.2
          have jac := hd (J.out e' a c)
          rw [show isB e' e' a c = false by unfold isB; simp; omega] at jac
          have jdb := hd (J.out e' d b)
          rw [show isB e' e' d b = true by unfold isB; simp; omega] at jdb
          have jab := hd (J.out e' a b)
          rw [show isB e' e' a b = true by unfold isB; simp; omega] at jab
          have v1 : ¬ (e' ≤ c) := by omega
          have v2 : d ≤ e' := by omega
          go_wp2_with fail
          refine (jac.out _).mono ?_
          rintro e w101 ⟨rfl, hb101⟩
          clear P0 P1 Pz H0 H1 Hz N0 N1 Nz O0 O1 Oz Q0 Q1 Qz
          replace P := (by with_reducible first | exact P.later hb101 | exact (P.alloc _).later hb101 | exact ((P.alloc _).alloc _).later hb101 | exact P.drew.later hb101 : Cel2 w101 _ _ _)
          replace H := (by with_reducible first | exact H.later hb101 | exact (H.alloc _).later hb101 | exact ((H.alloc _).alloc _).later hb101 | exact H.drew.later hb101 : Cel2 w101 _ _ _)
          replace N := (by with_reducible first | exact N.later hb101 | exact (N.alloc _).later hb101 | exact ((N.alloc _).alloc _).later hb101 | exact N.drew.later hb101 : Cel2 w101 _ _ _)
          replace O := (by with_reducible first | exact O.later hb101 | exact (O.alloc _).later hb101 | exact ((O.alloc _).alloc _).later hb101 | exact O.drew.later hb101 : Cel2 w101 _ _ _)
          replace Q := (by with_reducible first | exact Q.later hb101 | exact (Q.alloc _).later hb101 | exact ((Q.alloc _).alloc _).later hb101 | exact Q.drew.later hb101 : Cel2 w101 _ _ _)
          have X := (Cel2.made _ _ rfl (.int .i64 e') (.int .i64 e') 24).later hb101
          (try simp only [World.size_alloc] at X)
          replace hB := (by with_reducible first | exact old_trans hB hb101 | exact old_trans (old_alloc hB _) hb101 | exact old_trans (old_alloc (old_alloc hB _) _) hb101 : Below w.heap.size w w101)
          have P0 := P.1
          have P1 := P.2.1
          have Pz := P.2.2.2.2
          have H0 := H.1
          have H1 := H.2.1
          have Hz := H.2.2.2.2
          have N0 := N.1
          have N1 := N.2.1
          have Nz := N.2.2.2.2
          have O0 := O.1
          have O1 := O.2.1
          have Oz := O.2.2.2.2
          have Q0 := Q.1
          have Q1 := Q.2.1
          have Qz := Q.2.2.2.2
          have X0 := X.1
          have X1 := X.2.1
          have Xz := X.2.2.2.2
          go_wp2_with fail
          refine (jdb.out _).mono ?_
          rintro e w102 ⟨rfl, hb102⟩
          clear P0 P1 Pz H0 H1 Hz N0 N1 Nz O0 O1 Oz Q0 Q1 Qz X0 X1 Xz
          replace P := (by with_reducible first | exact P.later hb102 | exact (P.alloc _).later hb102 | exact ((P.alloc _).alloc _).later hb102 | exact P.drew.later hb102 : Cel2 w102 _ _ _)
          replace H := (by with_reducible first | exact H.later hb102 | exact (H.alloc _).later hb102 | exact ((H.alloc _).alloc _).later hb102 | exact H.drew.later hb102 : Cel2 w102 _ _ _)
          replace N := (by with_reducible first | exact N.later hb102 | exact (N.alloc _).later hb102 | exact ((N.alloc _).alloc _).later hb102 | exact N.drew.later hb102 : Cel2 w102 _ _ _)
          replace O := (by with_reducible first | exact O.later hb102 | exact (O.alloc _).later hb102 | exact ((O.alloc _).alloc _).later hb102 | exact O.drew.later hb102 : Cel2 w102 _ _ _)
          replace Q := (by with_reducible first | exact Q.later hb102 | exact (Q.alloc _).later hb102 | exact ((Q.alloc _).alloc _).later hb102 | exact Q.drew.later hb102 : Cel2 w102 _ _ _)
          replace X := (by with_reducible first | exact X.later hb102 | exact (X.alloc _).later hb102 | exact ((X.alloc _).alloc _).later hb102 | exact X.drew.later hb102 : Cel2 w102 _ _ _)
          replace hB := (by with_reducible first | exact old_trans hB hb102 | exact old_trans (old_alloc hB _) hb102 | exact old_trans (old_alloc (old_alloc hB _) _) hb102 : Below w.heap.size w w102)
          have P0 := P.1
          have P1 := P.2.1
          have Pz := P.2.2.2.2
          have H0 := H.1
          have H1 := H.2.1
          have Hz := H.2.2.2.2
          have N0 := N.1
          have N1 := N.2.1
          have Nz := N.2.2.2.2
          have O0 := O.1
          have O1 := O.2.1
          have Oz := O.2.2.2.2
          have Q0 := Q.1
          have Q1 := Q.2.1
          have Qz := Q.2.2.2.2
          have X0 := X.1
          have X1 := X.2.1
          have Xz := X.2.2.2.2
          go_wp2_with fail
          refine (jab.out _).mono ?_
          rintro e w103 ⟨rfl, hb103⟩
          clear P0 P1 Pz H0 H1 Hz N0 N1 Nz O0 O1 Oz Q0 Q1 Qz X0 X1 Xz
          replace P := (by with_reducible first | exact P.later hb103 | exact (P.alloc _).later hb103 | exact ((P.alloc _).alloc _).later hb103 | exact P.drew.later hb103 : Cel2 w103 _ _ _)
          replace H := (by with_reducible first | exact H.later hb103 | exact (H.alloc _).later hb103 | exact ((H.alloc _).alloc _).later hb103 | exact H.drew.later hb103 : Cel2 w103 _ _ _)
          replace N := (by with_reducible first | exact N.later hb103 | exact (N.alloc _).later hb103 | exact ((N.alloc _).alloc _).later hb103 | exact N.drew.later hb103 : Cel2 w103 _ _ _)
          replace O := (by with_reducible first | exact O.later hb103 | exact (O.alloc _).later hb103 | exact ((O.alloc _).alloc _).later hb103 | exact O.drew.later hb103 : Cel2 w103 _ _ _)
          replace Q := (by with_reducible first | exact Q.later hb103 | exact (Q.alloc _).later hb103 | exact ((Q.alloc _).alloc _).later hb103 | exact Q.drew.later hb103 : Cel2 w103 _ _ _)
          replace X := (by with_reducible first | exact X.later hb103 | exact (X.alloc _).later hb103 | exact ((X.alloc _).alloc _).later hb103 | exact X.drew.later hb103 : Cel2 w103 _ _ _)
          replace hB := (by with_reducible first | exact old_trans hB hb103 | exact old_trans (old_alloc hB _) hb103 | exact old_trans (old_alloc (old_alloc hB _) _) hb103 : Below w.heap.size w w103)
          have P0 := P.1
          have P1 := P.2.1
          have Pz := P.2.2.2.2
          have H0 := H.1
          have H1 := H.2.1
          have Hz := H.2.2.2.2
          have N0 := N.1
          have N1 := N.2.1
          have Nz := N.2.2.2.2
          have O0 := O.1
          have O1 := O.2.1
          have Oz := O.2.2.2.2
          have Q0 := Q.1
          have Q1 := Q.2.1
          have Qz := Q.2.2.2.2
          have X0 := X.1
          have X1 := X.2.1
          have Xz := X.2.2.2.2
          go_wp2
          go_roundw
          case rel => exact ⟨1, by omega, by go_num, P, H, N, O, Q, hB⟩
          case measure => simp [intOf]
        · skip
          have P0 := P.1
          have P1 := P.2.1
          have Pz := P.2.2.2.2
          have H0 := H.1
          have H1 := H.2.1
          have Hz := H.2.2.2.2
          have N0 := N.1
          have N1 := N.2.1
          have Nz := N.2.2.2.2
          have O0 := O.1
          have O1 := O.2.1
          have Oz := O.2.2.2.2
          have Q0 := Q.1
          have Q1 := Q.2.1
          have Qz := Q.2.2.2.2
          have jac := hd (J.out e' a c)
          rw [show isB e' e' a c = false by unfold isB; simp; omega] at jac
          have jdb := hd (J.out e' d b)
          rw [show isB e' e' d b = false by unfold isB; simp; omega] at jdb
          have jab := hd (J.out e' a b)
          rw [show isB e' e' a b = true by unfold isB; simp; omega] at jab
          have v1 : ¬ (e' ≤ c) := by omega
          have v2 : ¬ (d ≤ e') := by omega
          go_wp2_with fail
          refine (jac.out _).mono ?_
          rintro e w101 ⟨rfl, hb101⟩
          clear P0 P1 Pz H0 H1 Hz N0 N1 Nz O0 O1 Oz Q0 Q1 Qz
          replace P := (by with_reducible first | exact P.later hb101 | exact (P.alloc _).later hb101 | exact ((P.alloc _).alloc _).later hb101 | exact P.drew.later hb101 : Cel2 w101 _ _ _)
          replace H := (by with_reducible first | exact H.later hb101 | exact (H.alloc _).later hb101 | exact ((H.alloc _).alloc _).later hb101 | exact H.drew.later hb101 : Cel2 w101 _ _ _)
          replace N := (by with_reducible first | exact N.later hb101 | exact (N.alloc _).later hb101 | exact ((N.alloc _).alloc _).later hb101 | exact N.drew.later hb101 : Cel2 w101 _ _ _)
          replace O := (by with_reducible first | exact O.later hb101 | exact (O.alloc _).later hb101 | exact ((O.alloc _).alloc _).later hb101 | exact O.drew.later hb101 : Cel2 w101 _ _ _)
          replace Q := (by with_reducible first | exact Q.later hb101 | exact (Q.alloc _).later hb101 | exact ((Q.alloc _).alloc _).later hb101 | exact Q.drew.later hb101 : Cel2 w101 _ _ _)
          have X := (Cel2.made _ _ rfl (.int .i64 e') (.int .i64 e') 24).later hb101
          (try simp only [World.size_alloc] at X)
          replace hB := (by with_reducible first | exact old_trans hB hb101 | exact old_trans (old_alloc hB _) hb101 | exact old_trans (old_alloc (old_alloc hB _) _) hb101 : Below w.heap.size w w101)
          have P0 := P.1
          have P1 := P.2.1
          have Pz := P.2.2.2.2
          have H0 := H.1
          have H1 := H.2.1
          have Hz := H.2.2.2.2
          have N0 := N.1
          have N1 := N.2.1
          have Nz := N.2.2.2.2
          have O0 := O.1
          have O1 := O.2.1
          have Oz := O.2.2.2.2
          have Q0 := Q.1
          have Q1 := Q.2.1
          have Qz := Q.2.2.2.2
          have X0 := X.1
          have X1 := X.2.1
          have Xz := X.2.2.2.2
          go_wp2_with fail
          refine (jdb.out _).mono ?_
          rintro e w102 ⟨rfl, hb102⟩
          clear P0 P1 Pz H0 H1 Hz N0 N1 Nz O0 O1 Oz Q0 Q1 Qz X0 X1 Xz
          replace P := (by with_reducible first | exact P.later hb102 | exact (P.alloc _).later hb102 | exact ((P.alloc _).alloc _).later hb102 | exact P.drew.later hb102 : Cel2 w102 _ _ _)
          replace H := (by with_reducible first | exact H.later hb102 | exact (H.alloc _).later hb102 | exact ((H.alloc _).alloc _).later hb102 | exact H.drew.later hb102 : Cel2 w102 _ _ _)
          replace N := (by with_reducible first | exact N.later hb102 | exact (N.alloc _).later hb102 | exact ((N.alloc _).alloc _).later hb102 | exact N.drew.later hb102 : Cel2 w102 _ _ _)
          replace O := (by with_reducible first | exact O.later hb102 | exact (O.alloc _).later hb102 | exact ((O.alloc _).alloc _).later hb102 | exact O.drew.later hb102 : Cel2 w102 _ _ _)
          replace Q := (by with_reducible first | exact Q.later hb102 | exact (Q.alloc _).later hb102 | exact ((Q.alloc _).alloc _).later hb102 | exact Q.drew.later hb102 : Cel2 w102 _ _ _)
          replace X := (by with_reducible first | exact X.later hb102 | exact (X.alloc _).later hb102 | exact ((X.alloc _).alloc _).later hb102 | exact X.drew.later hb102 : Cel2 w102 _ _ _)
          replace hB := (by with_reducible first | exact old_trans hB hb102 | exact old_trans (old_alloc hB _) hb102 | exact old_trans (old_alloc (old_alloc hB _) _) hb102 : Below w.heap.size w w102)
          have P0 := P.1
          have P1 := P.2.1
          have Pz := P.2.2.2.2
          have H0 := H.1
          have H1 := H.2.1
          have Hz := H.2.2.2.2
          have N0 := N.1
          have N1 := N.2.1
          have Nz := N.2.2.2.2
          have O0 := O.1
          have O1 := O.2.1
          have Oz := O.2.2.2.2
          have Q0 := Q.1
          have Q1 := Q.2.1
          have Qz := Q.2.2.2.2
          have X0 := X.1
          have X1 := X.2.1
          have Xz := X.2.2.2.2
          go_wp2_with fail
          refine (jab.out _).mono ?_
          rintro e w103 ⟨rfl, hb103⟩
          clear P0 P1 Pz H0 H1 Hz N0 N1 Nz O0 O1 Oz Q0 Q1 Qz X0 X1 Xz
          replace P := (by with_reducible first | exact P.later hb103 | exact (P.alloc _).later hb103 | exact ((P.alloc _).alloc _).later hb103 | exact P.drew.later hb103 : Cel2 w103 _ _ _)
          replace H := (by with_reducible first | exact H.later hb103 | exact (H.alloc _).later hb103 | exact ((H.alloc _).alloc _).later hb103 | exact H.drew.later hb103 : Cel2 w103 _ _ _)
          replace N := (by with_reducible first | exact N.later hb103 | exact (N.alloc _).later hb103 | exact ((N.alloc _).alloc _).later hb103 | exact N.drew.later hb103 : Cel2 w103 _ _ _)
          replace O := (by with_reducible first | exact O.later hb103 | exact (O.alloc _).later hb103 | exact ((O.alloc _).alloc _).later hb103 | exact O.drew.later hb103 : Cel2 w103 _ _ _)
          replace Q := (by with_reducible first | exact Q.later hb103 | exact (Q.alloc _).later hb103 | exact ((Q.alloc _).alloc _).later hb103 | exact Q.drew.later hb103 : Cel2 w103 _ _ _)
          replace X := (by with_reducible first | exact X.later hb103 | exact (X.alloc _).later hb103 | exact ((X.alloc _).alloc _).later hb103 | exact X.drew.later hb103 : Cel2 w103 _ _ _)
          replace hB := (by with_reducible first | exact old_trans hB hb103 | exact old_trans (old_alloc hB _) hb103 | exact old_trans (old_alloc (old_alloc hB _) _) hb103 : Below w.heap.size w w103)
          have P0 := P.1
          have P1 := P.2.1
          have Pz := P.2.2.2.2
          have H0 := H.1
          have H1 := H.2.1
          have Hz := H.2.2.2.2
          have N0 := N.1
          have N1 := N.2.1
          have Nz := N.2.2.2.2
          have O0 := O.1
          have O1 := O.2.1
          have Oz := O.2.2.2.2
          have Q0 := Q.1
          have Q1 := Q.2.1
          have Qz := Q.2.2.2.2
          have X0 := X.1
          have X1 := X.2.1
          have Xz := X.2.2.2.2
          go_wp2
          go_roundw
          case rel => exact ⟨1, by omega, by go_num, P, H, N, O, Q, hB⟩
          case measure => simp [intOf]
      · skip
        have P0 := P.1
        have P1 := P.2.1
        have Pz := P.2.2.2.2
        have H0 := H.1
        have H1 := H.2.1
        have Hz := H.2.2.2.2
        have N0 := N.1
        have N1 := N.2.1
        have Nz := N.2.2.2.2
        have O0 := O.1
        have O1 := O.2.1
        have Oz := O.2.2.2.2
        have Q0 := Q.1
        have Q1 := Q.2.1
        have Qz := Q.2.2.2.2
        have jac := hd (J.out c a c)
        rw [show isB c c a c = true by unfold isB; simp; omega] at jac
        have jdb := hd (J.out c d b)
        rw [show isB c c d b = false by unfold isB; simp; omega] at jdb
        have jab := hd (J.out c a b)
        rw [show isB c c a b = true by unfold isB; simp; omega] at jab
        have v1 : c ≤ c := by omega
        go_wp2_with fail
        refine (jac.out _).mono ?_
        rintro e w101 ⟨rfl, hb101⟩
        clear P0 P1 Pz H0 H1 Hz N0 N1 Nz O0 O1 Oz Q0 Q1 Qz
        replace P := (by with_reducible first | exact P.later hb101 | exact (P.alloc _).later hb101 | exact ((P.alloc _).alloc _).later hb101 | exact P.drew.later hb101 : Cel2 w101 _ _ _)
        replace H := (by with_reducible first | exact H.later hb101 | exact (H.alloc _).later hb101 | exact ((H.alloc _).alloc _).later hb101 | exact H.drew.later hb101 : Cel2 w101 _ _ _)
        replace N := (by with_reducible first | exact N.later hb101 | exact (N.alloc _).later hb101 | exact ((N.alloc _).alloc _).later hb101 | exact N.drew.later hb101 : Cel2 w101 _ _ _)
        replace O := (by with_reducible first | exact O.later hb101 | exact (O.alloc _).later hb101 | exact ((O.alloc _).alloc _).later hb101 | exact O.drew.later hb101 : Cel2 w101 _ _ _)
        replace Q := (by with_reducible first | exact Q.later hb101 | exact (Q.alloc _).later hb101 | exact ((Q.alloc _).alloc _).later hb101 | exact Q.drew.later hb101 : Cel2 w101 _ _ _)
        have X := (Cel2.made _ _ rfl (.int .i64 c) (.int .i64 c) 24).later hb101
        (try simp only [World.size_alloc] at X)
        replace hB := (by with_reducible first | exact old_trans hB hb101 | exact old_trans (old_alloc hB _) hb101 | exact old_trans (old_alloc (old_alloc hB _) _) hb101 : Below w.heap.size w w101)
        have P0 := P.1
        have P1 := P.2.1
        have Pz := P.2.2.2.2
        have H0 := H.1
        have H1 := H.2.1
        have Hz := H.2.2.2.2
        have N0 := N.1
        have N1 := N.2.1
        have Nz := N.2.2.2.2
        have O0 := O.1
        have O1 := O.2.1
        have Oz := O.2.2.2.2
        have Q0 := Q.1
        have Q1 := Q.2.1
        have Qz := Q.2.2.2.2
        have X0 := X.1
        have X1 := X.2.1
        have Xz := X.2.2.2.2
        go_wp2_with fail
        refine (jab.out _).mono ?_
        rintro e w102 ⟨rfl, hb102⟩
        clear P0 P1 Pz H0 H1 Hz N0 N1 Nz O0 O1 Oz Q0 Q1 Qz X0 X1 Xz
        replace P := (by with_reducible first | exact P.later hb102 | exact (P.alloc _).later hb102 | exact ((P.alloc _).alloc _).later hb102 | exact P.drew.later hb102 : Cel2 w102 _ _ _)
        replace H := (by with_reducible first | exact H.later hb102 | exact (H.alloc _).later hb102 | exact ((H.alloc _).alloc _).later hb102 | exact H.drew.later hb102 : Cel2 w102 _ _ _)
        replace N := (by with_reducible first | exact N.later hb102 | exact (N.alloc _).later hb102 | exact ((N.alloc _).alloc _).later hb102 | exact N.drew.later hb102 : Cel2 w102 _ _ _)
        replace O := (by with_reducible first | exact O.later hb102 | exact (O.alloc _).later hb102 | exact ((O.alloc _).alloc _).later hb102 | exact O.drew.later hb102 : Cel2 w102 _ _ _)
        replace Q := (by with_reducible first | exact Q.later hb102 | exact (Q.alloc _).later hb102 | exact ((Q.alloc _).alloc _).later hb102 | exact Q.drew.later hb102 : Cel2 w102 _ _ _)
        replace X := (by with_reducible first | exact X.later hb102 | exact (X.alloc _).later hb102 | exact ((X.alloc _).alloc _).later hb102 | exact X.drew.later hb102 : Cel2 w102 _ _ _)
        replace hB := (by with_reducible first | exact old_trans hB hb102 | exact old_trans (old_alloc hB _) hb102 | exact old_trans (old_alloc (old_alloc hB _) _) hb102 : Below w.heap.size w w102)
        have P0 := P.1
        have P1 := P.2.1
        have Pz := P.2.2.2.2
        have H0 := H.1
        have H1 := H.2.1
        have Hz := H.2.2.2.2
        have N0 := N.1
        have N1 := N.2.1
        have Nz := N.2.2.2.2
        have O0 := O.1
        have O1 := O.2.1
        have Oz := O.2.2.2.2
        have Q0 := Q.1
        have Q1 := Q.2.1
        have Qz := Q.2.2.2.2
        have X0 := X.1
        have X1 := X.2.1
        have Xz := X.2.2.2.2
        go_wp2
        go_roundw
        case rel => exact ⟨2, by omega, by go_num, P, H, N, O, Q, hB⟩
        case measure => simp [intOf]
      · skip
        have P0 := P.1
        have P1 := P.2.1
        have Pz := P.2.2.2.2
        have H0 := H.1
        have H1 := H.2.1
        have Hz := H.2.2.2.2
        have N0 := N.1
        have N1 := N.2.1
        have Nz := N.2.2.2.2
        have O0 := O.1
        have O1 := O.2.1
        have Oz := O.2.2.2.2
        have Q0 := Q.1
        have Q1 := Q.2.1
        have Qz := Q.2.2.2.2
        have jac := hd (J.out d a c)
        rw [show isB d d a c = false by unfold isB; simp; omega] at jac
        have jdb := hd (J.out d d b)
        rw [show isB d d d b = true by unfold isB; simp; omega] at jdb
        have jab := hd (J.out d a b)
        rw [show isB d d a b = true by unfold isB; simp; omega] at jab
        have v1 : ¬ (d ≤ c) := by omega
        have v2 : d ≤ d := by omega
        go_wp2_with fail
        refine (jac.out _).mono ?_
        rintro e w101 ⟨rfl, hb101⟩
        clear P0 P1 Pz H0 H1 Hz N0 N1 Nz O0 O1 Oz Q0 Q1 Qz
        replace P := (by with_reducible first | exact P.later hb101 | exact (P.alloc _).later hb101 | exact ((P.alloc _).alloc _).later hb101 | exact P.drew.later hb101 : Cel2 w101 _ _ _)
        replace H := (by with_reducible first | exact H.later hb101 | exact (H.alloc _).later hb101 | exact ((H.alloc _).alloc _).later hb101 | exact H.drew.later hb101 : Cel2 w101 _ _ _)
        replace N := (by with_reducible first | exact N.later hb101 | exact (N.alloc _).later hb101 | exact ((N.alloc _).alloc _).later hb101 | exact N.drew.later hb101 : Cel2 w101 _ _ _)
        replace O := (by with_reducible first | exact O.later hb101 | exact (O.alloc _).later hb101 | exact ((O.alloc _).alloc _).later hb101 | exact O.drew.later hb101 : Cel2 w101 _ _ _)
        replace Q := (by with_reducible first | exact Q.later hb101 | exact (Q.alloc _).later hb101 | exact ((Q.alloc _).alloc _).later hb101 | exact Q.drew.later hb101 : Cel2 w101 _ _ _)
        have X := (Cel2.made _ _ rfl (.int .i64 d) (.int .i64 d) 24).later hb101
        (try simp only [World.size_alloc] at X)
        replace hB := (by with_reducible first | exact old_trans hB hb101 | exact old_trans (old_alloc hB _) hb101 | exact old_trans (old_alloc (old_alloc hB _) _) hb101 : Below w.heap.size w w101)
        have P0 := P.1
        have P1 := P.2.1
        have Pz := P.2.2.2.2
        have H0 := H.1
        have H1 := H.2.1
        have Hz := H.2.2.2.2
        have N0 := N.1
        have N1 := N.2.1
        have Nz := N.2.2.2.2
        have O0 := O.1
        have O1 := O.2.1
        have Oz := O.2.2.2.2
        have Q0 := Q.1
        have Q1 := Q.2.1
        have Qz := Q.2.2.2.2
        have X0 := X.1
        have X1 := X.2.1
        have Xz := X.2.2.2.2
        go_wp2_with fail
        refine (jdb.out _).mono ?_
        rintro e w102 ⟨rfl, hb102⟩
        clear P0 P1 Pz H0 H1 Hz N0 N1 Nz O0 O1 Oz Q0 Q1 Qz X0 X1 Xz
        replace P := (by with_reducible first | exact P.later hb102 | exact (P.alloc _).later hb102 | exact ((P.alloc _).alloc _).later hb102 | exact P.drew.later hb102 : Cel2 w102 _ _ _)
        replace H := (by with_reducible first | exact H.later hb102 | exact (H.alloc _).later hb102 | exact ((H.alloc _).alloc _).later hb102 | exact H.drew.later hb102 : Cel2 w102 _ _ _)
        replace N := (by with_reducible first | exact N.later hb102 | exact (N.alloc _).later hb102 | exact ((N.alloc _).alloc _).later hb102 | exact N.drew.later hb102 : Cel2 w102 _ _ _)
        replace O := (by with_reducible first | exact O.later hb102 | exact (O.alloc _).later hb102 | exact ((O.alloc _).alloc _).later hb102 | exact O.drew.later hb102 : Cel2 w102 _ _ _)
        replace Q := (by with_reducible first | exact Q.later hb102 | exact (Q.alloc _).later hb102 | exact ((Q.alloc _).alloc _).later hb102 | exact Q.drew.later hb102 : Cel2 w102 _ _ _)
        replace X := (by with_reducible first | exact X.later hb102 | exact (X.alloc _).later hb102 | exact ((X.alloc _).alloc _).later hb102 | exact X.drew.later hb102 : Cel2 w102 _ _ _)
        replace hB := (by with_reducible first | exact old_trans hB hb102 | exact old_trans (old_alloc hB _) hb102 | exact old_trans (old_alloc (old_alloc hB _) _) hb102 : Below w.heap.size w w102)
        have P0 := P.1
        have P1 := P.2.1
        have Pz := P.2.2.2.2
        have H0 := H.1
        have H1 := H.2.1
        have Hz := H.2.2.2.2
        have N0 := N.1
        have N1 := N.2.1
        have Nz := N.2.2.2.2
        have O0 := O.1
        have O1 := O.2.1
        have Oz := O.2.2.2.2
        have Q0 := Q.1
        have Q1 := Q.2.1
        have Qz := Q.2.2.2.2
        have X0 := X.1
        have X1 := X.2.1
        have Xz := X.2.2.2.2
        go_wp2_with fail
        refine (jab.out _).mono ?_
        rintro e w103 ⟨rfl, hb103⟩
        clear P0 P1 Pz H0 H1 Hz N0 N1 Nz O0 O1 Oz Q0 Q1 Qz X0 X1 Xz
        replace P := (by with_reducible first | exact P.later hb103 | exact (P.alloc _).later hb103 | exact ((P.alloc _).alloc _).later hb103 | exact P.drew.later hb103 : Cel2 w103 _ _ _)
        replace H := (by with_reducible first | exact H.later hb103 | exact (H.alloc _).later hb103 | exact ((H.alloc _).alloc _).later hb103 | exact H.drew.later hb103 : Cel2 w103 _ _ _)
        replace N := (by with_reducible first | exact N.later hb103 | exact (N.alloc _).later hb103 | exact ((N.alloc _).alloc _).later hb103 | exact N.drew.later hb103 : Cel2 w103 _ _ _)
        replace O := (by with_reducible first | exact O.later hb103 | exact (O.alloc _).later hb103 | exact ((O.alloc _).alloc _).later hb103 | exact O.drew.later hb103 : Cel2 w103 _ _ _)
        replace Q := (by with_reducible first | exact Q.later hb103 | exact (Q.alloc _).later hb103 | exact ((Q.alloc _).alloc _).later hb103 | exact Q.drew.later hb103 : Cel2 w103 _ _ _)
        replace X := (by with_reducible first | exact X.later hb103 | exact (X.alloc _).later hb103 | exact ((X.alloc _).alloc _).later hb103 | exact X.drew.later hb103 : Cel2 w103 _ _ _)
        replace hB := (by with_reducible first | exact old_trans hB hb103 | exact old_trans (old_alloc hB _) hb103 | exact old_trans (old_alloc (old_alloc hB _) _) hb103 : Below w.heap.size w w103)
        have P0 := P.1
        have P1 := P.2.1
        have Pz := P.2.2.2.2
        have H0 := H.1
        have H1 := H.2.1
        have Hz := H.2.2.2.2
        have N0 := N.1
        have N1 := N.2.1
        have Nz := N.2.2.2.2
        have O0 := O.1
        have O1 := O.2.1
        have Oz := O.2.2.2.2
        have Q0 := Q.1
        have Q1 := Q.2.1
        have Qz := Q.2.2.2.2
        have X0 := X.1
        have X1 := X.2.1
        have Xz := X.2.2.2.2
        go_wp2
        go_roundw
        case rel => exact ⟨3, by omega, by go_num, P, H, N, O, Q, hB⟩
        case measure => simp [intOf]
      · go_wp2
        go_ret
        exact ⟨rfl, hB⟩

set_option maxRecDepth 100000 in
theorem FnPairCut_lifted (os : Os) (started : os.Started) (H : Type) (enc : TypeId × Value → H) :
    ReturnsInHanded {} Try.checked os 4 .any (Rows.fnPairCutSpec.pre6 enc Try.prog Try.f4 Rows.fnPairCutRow.domain false) (Rows.fnPairCutSpec.post enc Try.prog Try.f4 false true false false) := by
  refine returnsInHanded_of_change (C := Try.checked) FnPairCut_own started (by kernel_rfl) Try.func4
    (ChangeSpec.witness6 (enc := enc) (C := Try.checked) false ⟨#[], #[.slice none 0 0, .slice none 0 0], []⟩ 8 (by kernel_rfl) (by kernel_rfl) (by kernel_rfl) (by kernel_rfl)) ?_
  intro W base args ds gs before hval0 hW hcnd _
  have hval : ∀ (j : Nat) t v, Try.f4.params[j]? = some t → args[j]? = some v → Value.okWide Try.prog W .any base t v := hval0
  have hW' := hW
  obtain ⟨p, q, hA0, hV, rfl, hfz, hnd⟩ := hW
  have hA : DataW.TrodAll enc Try.prog W 0 (fun _ => true) true Try.f4.params.toList args.toList ds p := hA0
  rw [Try.params4] at hA hval
  obtain ⟨v0, vs0, d0, ds0, p0, q0, hargs, rfl, rfl, h0, r0⟩ := trodAll_cons hA
  obtain ⟨v1, vs1, d1, ds1, p1, q1, rfl, rfl, rfl, h1, r1⟩ := trodAll_cons r0
  obtain ⟨rfl, rfl, rfl⟩ := trodAll_nil r1
  obtain rfl : args = #[v0, v1] := by cases args; simp_all
  obtain ⟨rfl, rfl⟩ := trodVars_none hV
  have k0 := h0
  have lt0 : ∀ x ∈ p0, x.block < W.heap.size := by obtain ⟨m, hm⟩ := k0; exact DataW.trod_lt m _ _ _ hm
  obtain ⟨a0, len0, cap0, rfl, wb0⟩ := open_bytes (hval 0 22 v0 rfl rfl) h0
  have k1 := h1
  have lt1 : ∀ x ∈ p1, x.block < W.heap.size := by obtain ⟨m, hm⟩ := k1; exact DataW.trod_lt m _ _ _ hm
  obtain ⟨a1, len1, cap1, rfl, wb1⟩ := open_bytes (hval 1 22 v1 rfl rfl) h1
  clear hA0 hval0
  refine (FnPairCut_walk a0 len0 cap0 a1 len1 cap1 W wb0 wb1).mono fun e W' ⟨he, bel⟩ => ?_
  subst he
  exact ⟨_, rfl, _, _, _, [], _, [], hW', trodAll_mk1 (shut_bool Try.underlying4 _), (trodAll_cons_mk (Below.trod jf1 (by kernel_rfl) (of_decide_eq_true (by kernel_rfl)) k0 bel lt0) (trodAll_cons_mk (Below.trod jf1 (by kernel_rfl) (of_decide_eq_true (by kernel_rfl)) k1 bel lt1) trodAll_mk0)), rfl, bel.frame _, fun h => by cases h⟩

theorem FnPairCut_k0 : (Rows.fnPairCutRow.wf (OpenSpec.ofChange Rows.fnPairCutSpec)) = true := by kernel_rfl
theorem FnPairCut_k3 : (Try.f4.params.all (Try.prog.readableRec ·)) = true := by kernel_rfl
theorem FnPairCut_k4 : (namedTie Try.prog Rows.fnPairCutRow.named Rows.fnPairCutSpec.vars) = true := by kernel_rfl
theorem FnPairCut_k5 : ((Rows.fnPairCutRow.stops == [])) = true := by kernel_rfl
theorem FnPairCut_k7 : ((Rows.fnPairCutRow.knobs == [])) = true := by kernel_rfl
theorem FnPairCut_k9 : ((Rows.fnPairCutRow.inPlace == Try.prog.inPlace 4)) = true := by kernel_rfl
theorem FnPairCut_k10 : ((Rows.fnPairCutRow.unfollowed == Try.prog.unfollowed 4)) = true := by kernel_rfl
theorem FnPairCut_k11 : ((Rows.fnPairCutRow.recurses == Try.prog.recurses 4)) = true := by kernel_rfl
theorem FnPairCut_k12 : ((Rows.fnPairCutRow.named == Try.prog.varsNamed 4)) = true := by kernel_rfl
theorem FnPairCut_k13 : ((Rows.fnPairCutRow.maps == (Try.f4.params.toList ++ Rows.fnPairCutSpec.plain.varTypes Try.prog).any (Try.prog.mapsRec ·))) = true := by kernel_rfl
theorem FnPairCut_k14 : ((Rows.fnPairCutRow.ifaces == (Try.f4.params.toList ++ Rows.fnPairCutSpec.plain.varTypes Try.prog).any (Try.prog.ifacesRec ·))) = true := by kernel_rfl
theorem FnPairCut_k15 : ((Rows.fnPairCutRow.mapsOut == Try.prog.mapsAmong Try.f4.resultTypes.toList)) = true := by kernel_rfl
theorem FnPairCut_k16 : ((Rows.fnPairCutRow.loops == (Try.f4.params.toList ++ Rows.fnPairCutSpec.plain.varTypes Try.prog).any (Try.prog.loopsFrom ·))) = true := by kernel_rfl
theorem FnPairCut_k17 : ((Rows.fnPairCutRow.wideKeys == (Try.f4.params.toList ++ Rows.fnPairCutSpec.plain.varTypes Try.prog ++ Try.f4.resultTypes.toList).any (Try.prog.wideKeysFrom ·))) = true := by kernel_rfl
theorem FnPairCut_k18 : (Rows.fnPairCutSpec.vars.all (Try.prog.varReadable ·)) = true := by kernel_rfl
theorem FnPairCut_k19 : (Try.f4.resultTypes.all (fun t => Try.prog.readableRec t && decide (t < Try.prog.types.size))) = true := by kernel_rfl
theorem FnPairCut_k20 : ((Rows.fnPairCutRow.ifacesOut == Try.f4.resultTypes.toList.any (Try.prog.ifacesRec ·))) = true := by kernel_rfl
theorem FnPairCut_k21 : ((Rows.fnPairCutRow.loopsOut == Try.f4.resultTypes.toList.any (Try.prog.loopsFrom ·))) = true := by kernel_rfl
theorem FnPairCut_k23 : (Rows.fnPairCutRow.shortTexts.isNone) = true := by kernel_rfl
theorem FnPairCut_k28 : ((Rows.fnPairCutRow.kinds == (if Rows.fnPairCutRow.domain.isEmpty then [] else Try.f4.params.toList.map fun t => match Try.prog.underlying t with | some (.int k) => some k | _ => none))) = true := by kernel_rfl
theorem FnPairCut_k29 : ((Rows.fnPairCutRow.pinned == Rows.fnPairCutRow.pinnedBy)) = true := by kernel_rfl
theorem FnPairCut_k30 : ((Rows.fnPairCutRow.veiled == (Try.f4.params.toList ++ Rows.fnPairCutSpec.plain.varTypes Try.prog ++ Try.f4.resultTypes.toList).any (Try.prog.veiledRec ·))) = true := by kernel_rfl
theorem FnPairCut_k31 : (Rows.fnPairCutRow.veiledFits Try.prog Try.f4.params.toList (Try.f4.params.toList ++ Rows.fnPairCutSpec.plain.varTypes Try.prog ++ Try.f4.resultTypes.toList)) = true := by kernel_rfl
set_option maxRecDepth 100000 in
theorem FnPairCut_closed : joinedFacts Try.prog 4 Try.f4 Rows.fnPairCutSpec Rows.fnPairCutRow = true := (and2 (and2 (and2 (and2 (and2 (and2 (and2 (and2 (and2 (and2 (and2 (and2 (and2 (and2 (and2 (and2 (and2 (and2 (and2 (and2 (and2 (and2 (and2 (and2 (and2 (and2 (and2 (and2 (and2 (and2 (and2 FnPairCut_k0 jf1) jf2) FnPairCut_k3) FnPairCut_k4) FnPairCut_k5) jf6) FnPairCut_k7) jf8) FnPairCut_k9) FnPairCut_k10) FnPairCut_k11) FnPairCut_k12) FnPairCut_k13) FnPairCut_k14) FnPairCut_k15) FnPairCut_k16) FnPairCut_k17) FnPairCut_k18) FnPairCut_k19) FnPairCut_k20) FnPairCut_k21) jf22) FnPairCut_k23) jf24) jf25) jf26) jf27) FnPairCut_k28) FnPairCut_k29) FnPairCut_k30) FnPairCut_k31)
theorem FnPairCut_over : Rows.fnPairCutRow.holds Try.pinned (OpenSpec.ofChange Rows.fnPairCutSpec) :=
  OpenClaim.holds_of_wide 4 Try.f4 rfl rfl rfl rfl rfl rfl rfl ⟨rfl, rfl, rfl, rfl, rfl⟩ rfl rfl rfl rfl rfl (by kernel_rfl) Try.func4 FnPairCut_closed
    (of_decide_eq_true (by kernel_rfl)) (by unfold Func.isWrapper; first | (rw [if_pos (by decide +kernel)]; kernel_rfl) | (rw [if_neg (by decide +kernel)]; exact ⟨rfl, rfl⟩))
    (fun os started H enc _ => FnPairCut_lifted os started H enc)

theorem FnPairCut_proved : Rows.FnPairCutSaid := FnPairCut_over
end Go.Proofs.Ytdmnfcmngcmleaa
