/- For every code of bytes what two pairs have in common and their hull are what the document says, whichever comes first; the law answers true; nothing that was there is written. No condition. -/
import Derived.Test.YteigdooniolmlaaRows
import Derived.WalkKit
import Derived.ProofKit
import Derived.OpenShut
import Derived.Below
import Derived.Carry
import Derived.Test.YteigdooniolmlaaO1
import Derived.Test.YteigdooniolmlaaO2
import Derived.Test.YteigdooniolmlaaDQ
import Derived.Test.YteigdooniolmlaaDY
import Derived.Test.YteigdooniolmlaaR9
import Derived.Test.YteigdooniolmlaaPB
import Derived.Test.YteigdooniolmlaaJJ
import Derived.Test.YteigdooniolmlaaJ6
namespace Go.Proofs.Yteigdooniolmlaa
open Go.ChangeShapes Go.WideShapes Go.ChangeAt Go.RowKit
set_option linter.unusedVariables false

theorem FnPairMeet_own : ownKnob Try.prog.godebug = none := by kernel_rfl

set_option maxRecDepth 100000 in
set_option maxHeartbeats 20000000 in
theorem FnPairMeet_walk (a0 : Option Addr) (len0 cap0 : Nat) (a1 : Option Addr) (len1 cap1 : Nat) (w : World) (wb0 : IsCode w a0 len0 cap0) (wb1 : IsCode w a1 len1 cap1):
    Calls Try.prog 5 #[.slice a0 len0 cap0, .slice a1 len1 cap1] w fun e w' => e = .returned (.bool true) ∧ Below w.heap.size w w' := by
  by_cases c0 : (1048576 : Int) < (len0 : Int)
  · have t0 : decide ((1048576 : Int) < (len0 : Int)) = true := by simp; omega
    go_enter Try.func5, Try.ntmps5
    go_wp2
    go_ret
    exact ⟨rfl, (by repeat (first | exact Below.refl _ _ | refine Below.drew ?_ | refine old_alloc ?_ _ | refine old_trans ?_ (by assumption)))⟩
  by_cases c1 : (1048576 : Int) < (len1 : Int)
  · have t1 : decide ((1048576 : Int) < (len1 : Int)) = true := by simp; omega
    go_enter Try.func5, Try.ntmps5
    go_wp2
    go_ret
    exact ⟨rfl, (by repeat (first | exact Below.refl _ _ | refine Below.drew ?_ | refine old_alloc ?_ _ | refine old_trans ?_ (by assumption)))⟩
  have hB : Below w.heap.size w w := Below.refl _ _
  go_enter Try.func5, Try.ntmps5
  go_wp2_with fail
  refine (drawMeet _ a0 len0 cap0 wb0).mono ?_
  rintro e w1 ⟨⟨wd, a, b, c, d, hall, rfl⟩, hb1⟩
  replace wb1 := (by with_reducible first | exact wb1.old hb1 | exact (wb1.old ((Below.refl _ _).alloc (Nat.le_refl _) _)).old hb1 | exact ((wb1.old ((Below.refl _ _).alloc (Nat.le_refl _) _)).old ((Below.refl _ _).alloc (Nat.le_refl _) _)).old hb1 : IsCode w1 _ _ _)
  replace hB := (by with_reducible first | exact old_trans hB hb1 | exact old_trans (old_alloc hB _) hb1 | exact old_trans (old_alloc (old_alloc hB _) _) hb1 : Below w.heap.size w w1)
  have M1 := hd (iPairMeet wd a b c d)
  have M2 := hd (iPairMeet wd c d a b)
  rw [meetB_comm, Int.max_comm c a, Int.min_comm d b] at M2
  have H1 := hd (iPairHull wd a b c d)
  have H2 := hd (iPairHull wd c d a b)
  rw [hullB_comm, Int.min_comm c a, Int.max_comm d b] at H2
  have O1 := hd (sPairOk wd a b)
  have O2 := hd (sPairOk wd c d)
  cases hp : pokB wd a b
  case false =>
    have q0 := fun w => neq_pair 0 0 0 0 w
    have em : meetB wd a b c d = false := by unfold meetB; rw [hp]; rfl
    have eh : hullB wd a b c d = false := by unfold hullB; rw [hp]; rfl
    rw [em] at M1 M2
    rw [eh] at H1 H2
    rw [hp] at O1
    have M1' : Hid (∀ w : World, Calls Try.prog 24 #[.int .i64 wd, .agg #[.int .i64 a, .int .i64 b], .agg #[.int .i64 c, .int .i64 d]] w fun e w' => e = .returned (.tuple #[.agg #[.int .i64 0, .int .i64 0], .bool false]) ∧ Below w.heap.size w w') := M1
    have M2' : Hid (∀ w : World, Calls Try.prog 24 #[.int .i64 wd, .agg #[.int .i64 c, .int .i64 d], .agg #[.int .i64 a, .int .i64 b]] w fun e w' => e = .returned (.tuple #[.agg #[.int .i64 0, .int .i64 0], .bool false]) ∧ Below w.heap.size w w') := M2
    have H1' : Hid (∀ w : World, Calls Try.prog 25 #[.int .i64 wd, .agg #[.int .i64 a, .int .i64 b], .agg #[.int .i64 c, .int .i64 d]] w fun e w' => e = .returned (.tuple #[.agg #[.int .i64 0, .int .i64 0], .bool false]) ∧ Below w.heap.size w w') := H1
    have H2' : Hid (∀ w : World, Calls Try.prog 25 #[.int .i64 wd, .agg #[.int .i64 c, .int .i64 d], .agg #[.int .i64 a, .int .i64 b]] w fun e w' => e = .returned (.tuple #[.agg #[.int .i64 0, .int .i64 0], .bool false]) ∧ Below w.heap.size w w') := H2
    clear M1 M2 H1 H2 em eh hp
    go_wp2_with fail
    refine (M1'.out _).mono ?_
    rintro e w2 ⟨rfl, hb2⟩
    have P1 := ((Cel2.made _ _ rfl (.int .i64 a) (.int .i64 b) 24).alloc _).later hb2
    (try simp only [World.size_alloc] at P1)
    have P2 := (Cel2.made _ _ rfl (.int .i64 c) (.int .i64 d) 24).later hb2
    (try simp only [World.size_alloc] at P2)
    replace wb1 := (by with_reducible first | exact wb1.old hb2 | exact (wb1.old ((Below.refl _ _).alloc (Nat.le_refl _) _)).old hb2 | exact ((wb1.old ((Below.refl _ _).alloc (Nat.le_refl _) _)).old ((Below.refl _ _).alloc (Nat.le_refl _) _)).old hb2 : IsCode w2 _ _ _)
    replace hB := (by with_reducible first | exact old_trans hB hb2 | exact old_trans (old_alloc hB _) hb2 | exact old_trans (old_alloc (old_alloc hB _) _) hb2 : Below w.heap.size w w2)
    have P10 := P1.1
    have P11 := P1.2.1
    have P1z := P1.2.2.2.2
    have P20 := P2.1
    have P21 := P2.2.1
    have P2z := P2.2.2.2.2
    go_wp2_with fail
    refine (M2'.out _).mono ?_
    rintro e w3 ⟨rfl, hb3⟩
    clear P10 P11 P1z P20 P21 P2z
    replace P1 := (by with_reducible first | exact P1.later hb3 | exact (P1.alloc _).later hb3 | exact ((P1.alloc _).alloc _).later hb3 | exact P1.drew.later hb3 : Cel2 w3 _ _ _)
    replace P2 := (by with_reducible first | exact P2.later hb3 | exact (P2.alloc _).later hb3 | exact ((P2.alloc _).alloc _).later hb3 | exact P2.drew.later hb3 : Cel2 w3 _ _ _)
    have Mc := (Cel2.made _ _ rfl (.int .i64 0) (.int .i64 0) 24).later hb3
    (try simp only [World.size_alloc] at Mc)
    replace wb1 := (by with_reducible first | exact wb1.old hb3 | exact (wb1.old ((Below.refl _ _).alloc (Nat.le_refl _) _)).old hb3 | exact ((wb1.old ((Below.refl _ _).alloc (Nat.le_refl _) _)).old ((Below.refl _ _).alloc (Nat.le_refl _) _)).old hb3 : IsCode w3 _ _ _)
    replace hB := (by with_reducible first | exact old_trans hB hb3 | exact old_trans (old_alloc hB _) hb3 | exact old_trans (old_alloc (old_alloc hB _) _) hb3 : Below w.heap.size w w3)
    have P10 := P1.1
    have P11 := P1.2.1
    have P1z := P1.2.2.2.2
    have P20 := P2.1
    have P21 := P2.2.1
    have P2z := P2.2.2.2.2
    have Mc0 := Mc.1
    have Mc1 := Mc.2.1
    have Mcz := Mc.2.2.2.2
    go_wp2_with fail
    refine (H1'.out _).mono ?_
    rintro e w4 ⟨rfl, hb4⟩
    clear P10 P11 P1z P20 P21 P2z Mc0 Mc1 Mcz
    replace P1 := (by with_reducible first | exact P1.later hb4 | exact (P1.alloc _).later hb4 | exact ((P1.alloc _).alloc _).later hb4 | exact P1.drew.later hb4 : Cel2 w4 _ _ _)
    replace P2 := (by with_reducible first | exact P2.later hb4 | exact (P2.alloc _).later hb4 | exact ((P2.alloc _).alloc _).later hb4 | exact P2.drew.later hb4 : Cel2 w4 _ _ _)
    replace Mc := (by with_reducible first | exact Mc.later hb4 | exact (Mc.alloc _).later hb4 | exact ((Mc.alloc _).alloc _).later hb4 | exact Mc.drew.later hb4 : Cel2 w4 _ _ _)
    have Nc := (Cel2.made _ _ rfl (.int .i64 0) (.int .i64 0) 24).later hb4
    (try simp only [World.size_alloc] at Nc)
    replace wb1 := (by with_reducible first | exact wb1.old hb4 | exact (wb1.old ((Below.refl _ _).alloc (Nat.le_refl _) _)).old hb4 | exact ((wb1.old ((Below.refl _ _).alloc (Nat.le_refl _) _)).old ((Below.refl _ _).alloc (Nat.le_refl _) _)).old hb4 : IsCode w4 _ _ _)
    replace hB := (by with_reducible first | exact old_trans hB hb4 | exact old_trans (old_alloc hB _) hb4 | exact old_trans (old_alloc (old_alloc hB _) _) hb4 : Below w.heap.size w w4)
    have P10 := P1.1
    have P11 := P1.2.1
    have P1z := P1.2.2.2.2
    have P20 := P2.1
    have P21 := P2.2.1
    have P2z := P2.2.2.2.2
    have Mc0 := Mc.1
    have Mc1 := Mc.2.1
    have Mcz := Mc.2.2.2.2
    have Nc0 := Nc.1
    have Nc1 := Nc.2.1
    have Ncz := Nc.2.2.2.2
    go_wp2_with fail
    refine (H2'.out _).mono ?_
    rintro e w5 ⟨rfl, hb5⟩
    clear P10 P11 P1z P20 P21 P2z Mc0 Mc1 Mcz Nc0 Nc1 Ncz
    replace P1 := (by with_reducible first | exact P1.later hb5 | exact (P1.alloc _).later hb5 | exact ((P1.alloc _).alloc _).later hb5 | exact P1.drew.later hb5 : Cel2 w5 _ _ _)
    replace P2 := (by with_reducible first | exact P2.later hb5 | exact (P2.alloc _).later hb5 | exact ((P2.alloc _).alloc _).later hb5 | exact P2.drew.later hb5 : Cel2 w5 _ _ _)
    replace Mc := (by with_reducible first | exact Mc.later hb5 | exact (Mc.alloc _).later hb5 | exact ((Mc.alloc _).alloc _).later hb5 | exact Mc.drew.later hb5 : Cel2 w5 _ _ _)
    replace Nc := (by with_reducible first | exact Nc.later hb5 | exact (Nc.alloc _).later hb5 | exact ((Nc.alloc _).alloc _).later hb5 | exact Nc.drew.later hb5 : Cel2 w5 _ _ _)
    have Hc := (Cel2.made _ _ rfl (.int .i64 0) (.int .i64 0) 24).later hb5
    (try simp only [World.size_alloc] at Hc)
    replace wb1 := (by with_reducible first | exact wb1.old hb5 | exact (wb1.old ((Below.refl _ _).alloc (Nat.le_refl _) _)).old hb5 | exact ((wb1.old ((Below.refl _ _).alloc (Nat.le_refl _) _)).old ((Below.refl _ _).alloc (Nat.le_refl _) _)).old hb5 : IsCode w5 _ _ _)
    replace hB := (by with_reducible first | exact old_trans hB hb5 | exact old_trans (old_alloc hB _) hb5 | exact old_trans (old_alloc (old_alloc hB _) _) hb5 : Below w.heap.size w w5)
    have P10 := P1.1
    have P11 := P1.2.1
    have P1z := P1.2.2.2.2
    have P20 := P2.1
    have P21 := P2.2.1
    have P2z := P2.2.2.2.2
    have Mc0 := Mc.1
    have Mc1 := Mc.2.1
    have Mcz := Mc.2.2.2.2
    have Nc0 := Nc.1
    have Nc1 := Nc.2.1
    have Ncz := Nc.2.2.2.2
    have Hc0 := Hc.1
    have Hc1 := Hc.2.1
    have Hcz := Hc.2.2.2.2
    go_wp2_with fail
    refine (O1.out _).mono ?_
    rintro e w6 ⟨rfl, hb6⟩
    clear P10 P11 P1z P20 P21 P2z Mc0 Mc1 Mcz Nc0 Nc1 Ncz Hc0 Hc1 Hcz
    replace P1 := (by with_reducible first | exact P1.later hb6 | exact (P1.alloc _).later hb6 | exact ((P1.alloc _).alloc _).later hb6 | exact P1.drew.later hb6 : Cel2 w6 _ _ _)
    replace P2 := (by with_reducible first | exact P2.later hb6 | exact (P2.alloc _).later hb6 | exact ((P2.alloc _).alloc _).later hb6 | exact P2.drew.later hb6 : Cel2 w6 _ _ _)
    replace Mc := (by with_reducible first | exact Mc.later hb6 | exact (Mc.alloc _).later hb6 | exact ((Mc.alloc _).alloc _).later hb6 | exact Mc.drew.later hb6 : Cel2 w6 _ _ _)
    replace Nc := (by with_reducible first | exact Nc.later hb6 | exact (Nc.alloc _).later hb6 | exact ((Nc.alloc _).alloc _).later hb6 | exact Nc.drew.later hb6 : Cel2 w6 _ _ _)
    replace Hc := (by with_reducible first | exact Hc.later hb6 | exact (Hc.alloc _).later hb6 | exact ((Hc.alloc _).alloc _).later hb6 | exact Hc.drew.later hb6 : Cel2 w6 _ _ _)
    have Kc := (Cel2.made _ _ rfl (.int .i64 0) (.int .i64 0) 24).later hb6
    (try simp only [World.size_alloc] at Kc)
    replace wb1 := (by with_reducible first | exact wb1.old hb6 | exact (wb1.old ((Below.refl _ _).alloc (Nat.le_refl _) _)).old hb6 | exact ((wb1.old ((Below.refl _ _).alloc (Nat.le_refl _) _)).old ((Below.refl _ _).alloc (Nat.le_refl _) _)).old hb6 : IsCode w6 _ _ _)
    replace hB := (by with_reducible first | exact old_trans hB hb6 | exact old_trans (old_alloc hB _) hb6 | exact old_trans (old_alloc (old_alloc hB _) _) hb6 : Below w.heap.size w w6)
    have P10 := P1.1
    have P11 := P1.2.1
    have P1z := P1.2.2.2.2
    have P20 := P2.1
    have P21 := P2.2.1
    have P2z := P2.2.2.2.2
    have Mc0 := Mc.1
    have Mc1 := Mc.2.1
    have Mcz := Mc.2.2.2.2
    have Nc0 := Nc.1
    have Nc1 := Nc.2.1
    have Ncz := Nc.2.2.2.2
    have Hc0 := Hc.1
    have Hc1 := Hc.2.1
    have Hcz := Hc.2.2.2.2
    have Kc0 := Kc.1
    have Kc1 := Kc.2.1
    have Kcz := Kc.2.2.2.2
    go_wp2
    go_ret
    exact ⟨rfl, (by repeat (first | exact hB | exact Below.refl _ _ | refine Below.drew ?_ | refine old_alloc ?_ _ | refine old_trans ?_ (by assumption)))⟩
  cases hp2 : pokB wd c d
  case false =>
    have q0 := fun w => neq_pair 0 0 0 0 w
    have em : meetB wd a b c d = false := by unfold meetB; rw [hp]; simp [hp2]
    have eh : hullB wd a b c d = false := by unfold hullB; rw [hp]; simp [hp2]
    rw [em] at M1 M2
    rw [eh] at H1 H2
    rw [hp] at O1
    rw [hp2] at O2
    have M1' : Hid (∀ w : World, Calls Try.prog 24 #[.int .i64 wd, .agg #[.int .i64 a, .int .i64 b], .agg #[.int .i64 c, .int .i64 d]] w fun e w' => e = .returned (.tuple #[.agg #[.int .i64 0, .int .i64 0], .bool false]) ∧ Below w.heap.size w w') := M1
    have M2' : Hid (∀ w : World, Calls Try.prog 24 #[.int .i64 wd, .agg #[.int .i64 c, .int .i64 d], .agg #[.int .i64 a, .int .i64 b]] w fun e w' => e = .returned (.tuple #[.agg #[.int .i64 0, .int .i64 0], .bool false]) ∧ Below w.heap.size w w') := M2
    have H1' : Hid (∀ w : World, Calls Try.prog 25 #[.int .i64 wd, .agg #[.int .i64 a, .int .i64 b], .agg #[.int .i64 c, .int .i64 d]] w fun e w' => e = .returned (.tuple #[.agg #[.int .i64 0, .int .i64 0], .bool false]) ∧ Below w.heap.size w w') := H1
    have H2' : Hid (∀ w : World, Calls Try.prog 25 #[.int .i64 wd, .agg #[.int .i64 c, .int .i64 d], .agg #[.int .i64 a, .int .i64 b]] w fun e w' => e = .returned (.tuple #[.agg #[.int .i64 0, .int .i64 0], .bool false]) ∧ Below w.heap.size w w') := H2
    clear M1 M2 H1 H2 em eh hp hp2
    go_wp2_with fail
    refine (M1'.out _).mono ?_
    rintro e w2 ⟨rfl, hb2⟩
    have P1 := ((Cel2.made _ _ rfl (.int .i64 a) (.int .i64 b) 24).alloc _).later hb2
    (try simp only [World.size_alloc] at P1)
    have P2 := (Cel2.made _ _ rfl (.int .i64 c) (.int .i64 d) 24).later hb2
    (try simp only [World.size_alloc] at P2)
    replace wb1 := (by with_reducible first | exact wb1.old hb2 | exact (wb1.old ((Below.refl _ _).alloc (Nat.le_refl _) _)).old hb2 | exact ((wb1.old ((Below.refl _ _).alloc (Nat.le_refl _) _)).old ((Below.refl _ _).alloc (Nat.le_refl _) _)).old hb2 : IsCode w2 _ _ _)
    replace hB := (by with_reducible first | exact old_trans hB hb2 | exact old_trans (old_alloc hB _) hb2 | exact old_trans (old_alloc (old_alloc hB _) _) hb2 : Below w.heap.size w w2)
    have P10 := P1.1
    have P11 := P1.2.1
    have P1z := P1.2.2.2.2
    have P20 := P2.1
    have P21 := P2.2.1
    have P2z := P2.2.2.2.2
    go_wp2_with fail
    refine (M2'.out _).mono ?_
    rintro e w3 ⟨rfl, hb3⟩
    clear P10 P11 P1z P20 P21 P2z
    replace P1 := (by with_reducible first | exact P1.later hb3 | exact (P1.alloc _).later hb3 | exact ((P1.alloc _).alloc _).later hb3 | exact P1.drew.later hb3 : Cel2 w3 _ _ _)
    replace P2 := (by with_reducible first | exact P2.later hb3 | exact (P2.alloc _).later hb3 | exact ((P2.alloc _).alloc _).later hb3 | exact P2.drew.later hb3 : Cel2 w3 _ _ _)
    have Mc := (Cel2.made _ _ rfl (.int .i64 0) (.int .i64 0) 24).later hb3
    (try simp only [World.size_alloc] at Mc)
    replace wb1 := (by with_reducible first | exact wb1.old hb3 | exact (wb1.old ((Below.refl _ _).alloc (Nat.le_refl _) _)).old hb3 | exact ((wb1.old ((Below.refl _ _).alloc (Nat.le_refl _) _)).old ((Below.refl _ _).alloc (Nat.le_refl _) _)).old hb3 : IsCode w3 _ _ _)
    replace hB := (by with_reducible first | exact old_trans hB hb3 | exact old_trans (old_alloc hB _) hb3 | exact old_trans (old_alloc (old_alloc hB _) _) hb3 : Below w.heap.size w w3)
    have P10 := P1.1
    have P11 := P1.2.1
    have P1z := P1.2.2.2.2
    have P20 := P2.1
    have P21 := P2.2.1
    have P2z := P2.2.2.2.2
    have Mc0 := Mc.1
    have Mc1 := Mc.2.1
    have Mcz := Mc.2.2.2.2
    go_wp2_with fail
    refine (H1'.out _).mono ?_
    rintro e w4 ⟨rfl, hb4⟩
    clear P10 P11 P1z P20 P21 P2z Mc0 Mc1 Mcz
    replace P1 := (by with_reducible first | exact P1.later hb4 | exact (P1.alloc _).later hb4 | exact ((P1.alloc _).alloc _).later hb4 | exact P1.drew.later hb4 : Cel2 w4 _ _ _)
    replace P2 := (by with_reducible first | exact P2.later hb4 | exact (P2.alloc _).later hb4 | exact ((P2.alloc _).alloc _).later hb4 | exact P2.drew.later hb4 : Cel2 w4 _ _ _)
    replace Mc := (by with_reducible first | exact Mc.later hb4 | exact (Mc.alloc _).later hb4 | exact ((Mc.alloc _).alloc _).later hb4 | exact Mc.drew.later hb4 : Cel2 w4 _ _ _)
    have Nc := (Cel2.made _ _ rfl (.int .i64 0) (.int .i64 0) 24).later hb4
    (try simp only [World.size_alloc] at Nc)
    replace wb1 := (by with_reducible first | exact wb1.old hb4 | exact (wb1.old ((Below.refl _ _).alloc (Nat.le_refl _) _)).old hb4 | exact ((wb1.old ((Below.refl _ _).alloc (Nat.le_refl _) _)).old ((Below.refl _ _).alloc (Nat.le_refl _) _)).old hb4 : IsCode w4 _ _ _)
    replace hB := (by with_reducible first | exact old_trans hB hb4 | exact old_trans (old_alloc hB _) hb4 | exact old_trans (old_alloc (old_alloc hB _) _) hb4 : Below w.heap.size w w4)
    have P10 := P1.1
    have P11 := P1.2.1
    have P1z := P1.2.2.2.2
    have P20 := P2.1
    have P21 := P2.2.1
    have P2z := P2.2.2.2.2
    have Mc0 := Mc.1
    have Mc1 := Mc.2.1
    have Mcz := Mc.2.2.2.2
    have Nc0 := Nc.1
    have Nc1 := Nc.2.1
    have Ncz := Nc.2.2.2.2
    go_wp2_with fail
    refine (H2'.out _).mono ?_
    rintro e w5 ⟨rfl, hb5⟩
    clear P10 P11 P1z P20 P21 P2z Mc0 Mc1 Mcz Nc0 Nc1 Ncz
    replace P1 := (by with_reducible first | exact P1.later hb5 | exact (P1.alloc _).later hb5 | exact ((P1.alloc _).alloc _).later hb5 | exact P1.drew.later hb5 : Cel2 w5 _ _ _)
    replace P2 := (by with_reducible first | exact P2.later hb5 | exact (P2.alloc _).later hb5 | exact ((P2.alloc _).alloc _).later hb5 | exact P2.drew.later hb5 : Cel2 w5 _ _ _)
    replace Mc := (by with_reducible first | exact Mc.later hb5 | exact (Mc.alloc _).later hb5 | exact ((Mc.alloc _).alloc _).later hb5 | exact Mc.drew.later hb5 : Cel2 w5 _ _ _)
    replace Nc := (by with_reducible first | exact Nc.later hb5 | exact (Nc.alloc _).later hb5 | exact ((Nc.alloc _).alloc _).later hb5 | exact Nc.drew.later hb5 : Cel2 w5 _ _ _)
    have Hc := (Cel2.made _ _ rfl (.int .i64 0) (.int .i64 0) 24).later hb5
    (try simp only [World.size_alloc] at Hc)
    replace wb1 := (by with_reducible first | exact wb1.old hb5 | exact (wb1.old ((Below.refl _ _).alloc (Nat.le_refl _) _)).old hb5 | exact ((wb1.old ((Below.refl _ _).alloc (Nat.le_refl _) _)).old ((Below.refl _ _).alloc (Nat.le_refl _) _)).old hb5 : IsCode w5 _ _ _)
    replace hB := (by with_reducible first | exact old_trans hB hb5 | exact old_trans (old_alloc hB _) hb5 | exact old_trans (old_alloc (old_alloc hB _) _) hb5 : Below w.heap.size w w5)
    have P10 := P1.1
    have P11 := P1.2.1
    have P1z := P1.2.2.2.2
    have P20 := P2.1
    have P21 := P2.2.1
    have P2z := P2.2.2.2.2
    have Mc0 := Mc.1
    have Mc1 := Mc.2.1
    have Mcz := Mc.2.2.2.2
    have Nc0 := Nc.1
    have Nc1 := Nc.2.1
    have Ncz := Nc.2.2.2.2
    have Hc0 := Hc.1
    have Hc1 := Hc.2.1
    have Hcz := Hc.2.2.2.2
    go_wp2_with fail
    refine (O1.out _).mono ?_
    rintro e w6 ⟨rfl, hb6⟩
    clear P10 P11 P1z P20 P21 P2z Mc0 Mc1 Mcz Nc0 Nc1 Ncz Hc0 Hc1 Hcz
    replace P1 := (by with_reducible first | exact P1.later hb6 | exact (P1.alloc _).later hb6 | exact ((P1.alloc _).alloc _).later hb6 | exact P1.drew.later hb6 : Cel2 w6 _ _ _)
    replace P2 := (by with_reducible first | exact P2.later hb6 | exact (P2.alloc _).later hb6 | exact ((P2.alloc _).alloc _).later hb6 | exact P2.drew.later hb6 : Cel2 w6 _ _ _)
    replace Mc := (by with_reducible first | exact Mc.later hb6 | exact (Mc.alloc _).later hb6 | exact ((Mc.alloc _).alloc _).later hb6 | exact Mc.drew.later hb6 : Cel2 w6 _ _ _)
    replace Nc := (by with_reducible first | exact Nc.later hb6 | exact (Nc.alloc _).later hb6 | exact ((Nc.alloc _).alloc _).later hb6 | exact Nc.drew.later hb6 : Cel2 w6 _ _ _)
    replace Hc := (by with_reducible first | exact Hc.later hb6 | exact (Hc.alloc _).later hb6 | exact ((Hc.alloc _).alloc _).later hb6 | exact Hc.drew.later hb6 : Cel2 w6 _ _ _)
    have Kc := (Cel2.made _ _ rfl (.int .i64 0) (.int .i64 0) 24).later hb6
    (try simp only [World.size_alloc] at Kc)
    replace wb1 := (by with_reducible first | exact wb1.old hb6 | exact (wb1.old ((Below.refl _ _).alloc (Nat.le_refl _) _)).old hb6 | exact ((wb1.old ((Below.refl _ _).alloc (Nat.le_refl _) _)).old ((Below.refl _ _).alloc (Nat.le_refl _) _)).old hb6 : IsCode w6 _ _ _)
    replace hB := (by with_reducible first | exact old_trans hB hb6 | exact old_trans (old_alloc hB _) hb6 | exact old_trans (old_alloc (old_alloc hB _) _) hb6 : Below w.heap.size w w6)
    have P10 := P1.1
    have P11 := P1.2.1
    have P1z := P1.2.2.2.2
    have P20 := P2.1
    have P21 := P2.2.1
    have P2z := P2.2.2.2.2
    have Mc0 := Mc.1
    have Mc1 := Mc.2.1
    have Mcz := Mc.2.2.2.2
    have Nc0 := Nc.1
    have Nc1 := Nc.2.1
    have Ncz := Nc.2.2.2.2
    have Hc0 := Hc.1
    have Hc1 := Hc.2.1
    have Hcz := Hc.2.2.2.2
    have Kc0 := Kc.1
    have Kc1 := Kc.2.1
    have Kcz := Kc.2.2.2.2
    go_wp2_with fail
    refine (O2.out _).mono ?_
    rintro e w7 ⟨rfl, hb7⟩
    clear P10 P11 P1z P20 P21 P2z Mc0 Mc1 Mcz Nc0 Nc1 Ncz Hc0 Hc1 Hcz Kc0 Kc1 Kcz
    replace P1 := (by with_reducible first | exact P1.later hb7 | exact (P1.alloc _).later hb7 | exact ((P1.alloc _).alloc _).later hb7 | exact P1.drew.later hb7 : Cel2 w7 _ _ _)
    replace P2 := (by with_reducible first | exact P2.later hb7 | exact (P2.alloc _).later hb7 | exact ((P2.alloc _).alloc _).later hb7 | exact P2.drew.later hb7 : Cel2 w7 _ _ _)
    replace Mc := (by with_reducible first | exact Mc.later hb7 | exact (Mc.alloc _).later hb7 | exact ((Mc.alloc _).alloc _).later hb7 | exact Mc.drew.later hb7 : Cel2 w7 _ _ _)
    replace Nc := (by with_reducible first | exact Nc.later hb7 | exact (Nc.alloc _).later hb7 | exact ((Nc.alloc _).alloc _).later hb7 | exact Nc.drew.later hb7 : Cel2 w7 _ _ _)
    replace Hc := (by with_reducible first | exact Hc.later hb7 | exact (Hc.alloc _).later hb7 | exact ((Hc.alloc _).alloc _).later hb7 | exact Hc.drew.later hb7 : Cel2 w7 _ _ _)
    replace Kc := (by with_reducible first | exact Kc.later hb7 | exact (Kc.alloc _).later hb7 | exact ((Kc.alloc _).alloc _).later hb7 | exact Kc.drew.later hb7 : Cel2 w7 _ _ _)
    replace wb1 := (by with_reducible first | exact wb1.old hb7 | exact (wb1.old ((Below.refl _ _).alloc (Nat.le_refl _) _)).old hb7 | exact ((wb1.old ((Below.refl _ _).alloc (Nat.le_refl _) _)).old ((Below.refl _ _).alloc (Nat.le_refl _) _)).old hb7 : IsCode w7 _ _ _)
    replace hB := (by with_reducible first | exact old_trans hB hb7 | exact old_trans (old_alloc hB _) hb7 | exact old_trans (old_alloc (old_alloc hB _) _) hb7 : Below w.heap.size w w7)
    have P10 := P1.1
    have P11 := P1.2.1
    have P1z := P1.2.2.2.2
    have P20 := P2.1
    have P21 := P2.2.1
    have P2z := P2.2.2.2.2
    have Mc0 := Mc.1
    have Mc1 := Mc.2.1
    have Mcz := Mc.2.2.2.2
    have Nc0 := Nc.1
    have Nc1 := Nc.2.1
    have Ncz := Nc.2.2.2.2
    have Hc0 := Hc.1
    have Hc1 := Hc.2.1
    have Hcz := Hc.2.2.2.2
    have Kc0 := Kc.1
    have Kc1 := Kc.2.1
    have Kcz := Kc.2.2.2.2
    go_wp2
    go_ret
    exact ⟨rfl, (by repeat (first | exact hB | exact Below.refl _ _ | refine Below.drew ?_ | refine old_alloc ?_ _ | refine old_trans ?_ (by assumption)))⟩
  by_cases hr : max a c ≤ min b d
  case pos =>
    have em : meetB wd a b c d = true := by unfold meetB; rw [hp, hp2]; simp; omega
    have eh : hullB wd a b c d = true := by unfold hullB; rw [hp, hp2]; rfl
    rw [em] at M1 M2
    rw [eh] at H1 H2
    have hph : pokB wd (min a c) (max b d) = true := pok_hull hp hp2
    have M3 := hd (iPairMeet wd a b (min a c) (max b d))
    have em3 : meetB wd a b (min a c) (max b d) = true := by unfold meetB; rw [hp, hph]; simp; have := (pokB_in hp).2.2.1; omega
    rw [em3, show max a (min a c) = a by omega, show min b (max b d) = b by omega] at M3
    rw [hp] at O1
    rw [hp2] at O2
    have J1 := hd (iPairIs a b (min a c) (max b d))
    have J2 := hd (iPairIs c d (min a c) (max b d))
    rw [show isB a b (min a c) (max b d) = true by unfold isB; simp; omega] at J1
    rw [show isB c d (min a c) (max b d) = true by unfold isB; simp; omega] at J2
    obtain ⟨mx, hmx⟩ : ∃ mx, mx = max a c := ⟨_, rfl⟩
    obtain ⟨my, hmy⟩ : ∃ my, my = min b d := ⟨_, rfl⟩
    have hmm : ∀ e : Int, (mx ≤ e ∧ e ≤ my) ↔ ((a ≤ e ∧ e ≤ b) ∧ c ≤ e ∧ e ≤ d) := by intro e; omega
    rw [← hmx, ← hmy] at M1 M2 hr
    clear hmx hmy hp hp2 hph em eh em3
    generalize min a c = u at *
    generalize max b d = v at *
    have M1' : Hid (∀ w : World, Calls Try.prog 24 #[.int .i64 wd, .agg #[.int .i64 a, .int .i64 b], .agg #[.int .i64 c, .int .i64 d]] w fun e w' => e = .returned (.tuple #[.agg #[.int .i64 mx, .int .i64 my], .bool true]) ∧ Below w.heap.size w w') := M1
    have M2' : Hid (∀ w : World, Calls Try.prog 24 #[.int .i64 wd, .agg #[.int .i64 c, .int .i64 d], .agg #[.int .i64 a, .int .i64 b]] w fun e w' => e = .returned (.tuple #[.agg #[.int .i64 mx, .int .i64 my], .bool true]) ∧ Below w.heap.size w w') := M2
    have H1' : Hid (∀ w : World, Calls Try.prog 25 #[.int .i64 wd, .agg #[.int .i64 a, .int .i64 b], .agg #[.int .i64 c, .int .i64 d]] w fun e w' => e = .returned (.tuple #[.agg #[.int .i64 u, .int .i64 v], .bool true]) ∧ Below w.heap.size w w') := H1
    have H2' : Hid (∀ w : World, Calls Try.prog 25 #[.int .i64 wd, .agg #[.int .i64 c, .int .i64 d], .agg #[.int .i64 a, .int .i64 b]] w fun e w' => e = .returned (.tuple #[.agg #[.int .i64 u, .int .i64 v], .bool true]) ∧ Below w.heap.size w w') := H2
    have M3' : Hid (∀ w : World, Calls Try.prog 24 #[.int .i64 wd, .agg #[.int .i64 a, .int .i64 b], .agg #[.int .i64 u, .int .i64 v]] w fun e w' => e = .returned (.tuple #[.agg #[.int .i64 a, .int .i64 b], .bool true]) ∧ Below w.heap.size w w') := M3
    clear M1 M2 H1 H2 M3
    have q1 : ∀ w, (binOp .neq 24 (.agg #[.int .i64 mx, .int .i64 my]) (.agg #[.int .i64 mx, .int .i64 my])).run Try.prog w = .ok (.bool false) w := fun w => by rw [neq_pair]; simp
    have q2 : ∀ w, (binOp .neq 24 (.agg #[.int .i64 u, .int .i64 v]) (.agg #[.int .i64 u, .int .i64 v])).run Try.prog w = .ok (.bool false) w := fun w => by rw [neq_pair]; simp
    have q3 : ∀ w, (binOp .neq 24 (.agg #[.int .i64 a, .int .i64 b]) (.agg #[.int .i64 a, .int .i64 b])).run Try.prog w = .ok (.bool false) w := fun w => by rw [neq_pair]; simp
    go_wp2_with fail
    refine (M1'.out _).mono ?_
    rintro e w2 ⟨rfl, hb2⟩
    have P1 := ((Cel2.made _ _ rfl (.int .i64 a) (.int .i64 b) 24).alloc _).later hb2
    (try simp only [World.size_alloc] at P1)
    have P2 := (Cel2.made _ _ rfl (.int .i64 c) (.int .i64 d) 24).later hb2
    (try simp only [World.size_alloc] at P2)
    replace wb1 := (by with_reducible first | exact wb1.old hb2 | exact (wb1.old ((Below.refl _ _).alloc (Nat.le_refl _) _)).old hb2 | exact ((wb1.old ((Below.refl _ _).alloc (Nat.le_refl _) _)).old ((Below.refl _ _).alloc (Nat.le_refl _) _)).old hb2 : IsCode w2 _ _ _)
    replace hB := (by with_reducible first | exact old_trans hB hb2 | exact old_trans (old_alloc hB _) hb2 | exact old_trans (old_alloc (old_alloc hB _) _) hb2 : Below w.heap.size w w2)
    have P10 := P1.1
    have P11 := P1.2.1
    have P1z := P1.2.2.2.2
    have P20 := P2.1
    have P21 := P2.2.1
    have P2z := P2.2.2.2.2
    go_wp2_with fail
    refine (M2'.out _).mono ?_
    rintro e w3 ⟨rfl, hb3⟩
    clear P10 P11 P1z P20 P21 P2z
    replace P1 := (by with_reducible first | exact P1.later hb3 | exact (P1.alloc _).later hb3 | exact ((P1.alloc _).alloc _).later hb3 | exact P1.drew.later hb3 : Cel2 w3 _ _ _)
    replace P2 := (by with_reducible first | exact P2.later hb3 | exact (P2.alloc _).later hb3 | exact ((P2.alloc _).alloc _).later hb3 | exact P2.drew.later hb3 : Cel2 w3 _ _ _)
    have Mc := (Cel2.made _ _ rfl (.int .i64 mx) (.int .i64 my) 24).later hb3
    (try simp only [World.size_alloc] at Mc)
    replace wb1 := (by with_reducible first | exact wb1.old hb3 | exact (wb1.old ((Below.refl _ _).alloc (Nat.le_refl _) _)).old hb3 | exact ((wb1.old ((Below.refl _ _).alloc (Nat.le_refl _) _)).old ((Below.refl _ _).alloc (Nat.le_refl _) _)).old hb3 : IsCode w3 _ _ _)
    replace hB := (by with_reducible first | exact old_trans hB hb3 | exact old_trans (old_alloc hB _) hb3 | exact old_trans (old_alloc (old_alloc hB _) _) hb3 : Below w.heap.size w w3)
    have P10 := P1.1
    have P11 := P1.2.1
    have P1z := P1.2.2.2.2
    have P20 := P2.1
    have P21 := P2.2.1
    have P2z := P2.2.2.2.2
    have Mc0 := Mc.1
    have Mc1 := Mc.2.1
    have Mcz := Mc.2.2.2.2
    go_wp2_with fail
    refine (H1'.out _).mono ?_
    rintro e w4 ⟨rfl, hb4⟩
    clear P10 P11 P1z P20 P21 P2z Mc0 Mc1 Mcz
    replace P1 := (by with_reducible first | exact P1.later hb4 | exact (P1.alloc _).later hb4 | exact ((P1.alloc _).alloc _).later hb4 | exact P1.drew.later hb4 : Cel2 w4 _ _ _)
    replace P2 := (by with_reducible first | exact P2.later hb4 | exact (P2.alloc _).later hb4 | exact ((P2.alloc _).alloc _).later hb4 | exact P2.drew.later hb4 : Cel2 w4 _ _ _)
    replace Mc := (by with_reducible first | exact Mc.later hb4 | exact (Mc.alloc _).later hb4 | exact ((Mc.alloc _).alloc _).later hb4 | exact Mc.drew.later hb4 : Cel2 w4 _ _ _)
    have Nc := (Cel2.made _ _ rfl (.int .i64 mx) (.int .i64 my) 24).later hb4
    (try simp only [World.size_alloc] at Nc)
    replace wb1 := (by with_reducible first | exact wb1.old hb4 | exact (wb1.old ((Below.refl _ _).alloc (Nat.le_refl _) _)).old hb4 | exact ((wb1.old ((Below.refl _ _).alloc (Nat.le_refl _) _)).old ((Below.refl _ _).alloc (Nat.le_refl _) _)).old hb4 : IsCode w4 _ _ _)
    replace hB := (by with_reducible first | exact old_trans hB hb4 | exact old_trans (old_alloc hB _) hb4 | exact old_trans (old_alloc (old_alloc hB _) _) hb4 : Below w.heap.size w w4)
    have P10 := P1.1
    have P11 := P1.2.1
    have P1z := P1.2.2.2.2
    have P20 := P2.1
    have P21 := P2.2.1
    have P2z := P2.2.2.2.2
    have Mc0 := Mc.1
    have Mc1 := Mc.2.1
    have Mcz := Mc.2.2.2.2
    have Nc0 := Nc.1
    have Nc1 := Nc.2.1
    have Ncz := Nc.2.2.2.2
    go_wp2_with fail
    refine (H2'.out _).mono ?_
    rintro e w5 ⟨rfl, hb5⟩
    clear P10 P11 P1z P20 P21 P2z Mc0 Mc1 Mcz Nc0 Nc1 Ncz
    replace P1 := (by with_reducible first | exact P1.later hb5 | exact (P1.alloc _).later hb5 | exact ((P1.alloc _).alloc _).later hb5 | exact P1.drew.later hb5 : Cel2 w5 _ _ _)
    replace P2 := (by with_reducible first | exact P2.later hb5 | exact (P2.alloc _).later hb5 | exact ((P2.alloc _).alloc _).later hb5 | exact P2.drew.later hb5 : Cel2 w5 _ _ _)
    replace Mc := (by with_reducible first | exact Mc.later hb5 | exact (Mc.alloc _).later hb5 | exact ((Mc.alloc _).alloc _).later hb5 | exact Mc.drew.later hb5 : Cel2 w5 _ _ _)
    replace Nc := (by with_reducible first | exact Nc.later hb5 | exact (Nc.alloc _).later hb5 | exact ((Nc.alloc _).alloc _).later hb5 | exact Nc.drew.later hb5 : Cel2 w5 _ _ _)
    have Hc := (Cel2.made _ _ rfl (.int .i64 u) (.int .i64 v) 24).later hb5
    (try simp only [World.size_alloc] at Hc)
    replace wb1 := (by with_reducible first | exact wb1.old hb5 | exact (wb1.old ((Below.refl _ _).alloc (Nat.le_refl _) _)).old hb5 | exact ((wb1.old ((Below.refl _ _).alloc (Nat.le_refl _) _)).old ((Below.refl _ _).alloc (Nat.le_refl _) _)).old hb5 : IsCode w5 _ _ _)
    replace hB := (by with_reducible first | exact old_trans hB hb5 | exact old_trans (old_alloc hB _) hb5 | exact old_trans (old_alloc (old_alloc hB _) _) hb5 : Below w.heap.size w w5)
    have P10 := P1.1
    have P11 := P1.2.1
    have P1z := P1.2.2.2.2
    have P20 := P2.1
    have P21 := P2.2.1
    have P2z := P2.2.2.2.2
    have Mc0 := Mc.1
    have Mc1 := Mc.2.1
    have Mcz := Mc.2.2.2.2
    have Nc0 := Nc.1
    have Nc1 := Nc.2.1
    have Ncz := Nc.2.2.2.2
    have Hc0 := Hc.1
    have Hc1 := Hc.2.1
    have Hcz := Hc.2.2.2.2
    go_wp2_with fail
    refine (O1.out _).mono ?_
    rintro e w6 ⟨rfl, hb6⟩
    clear P10 P11 P1z P20 P21 P2z Mc0 Mc1 Mcz Nc0 Nc1 Ncz Hc0 Hc1 Hcz
    replace P1 := (by with_reducible first | exact P1.later hb6 | exact (P1.alloc _).later hb6 | exact ((P1.alloc _).alloc _).later hb6 | exact P1.drew.later hb6 : Cel2 w6 _ _ _)
    replace P2 := (by with_reducible first | exact P2.later hb6 | exact (P2.alloc _).later hb6 | exact ((P2.alloc _).alloc _).later hb6 | exact P2.drew.later hb6 : Cel2 w6 _ _ _)
    replace Mc := (by with_reducible first | exact Mc.later hb6 | exact (Mc.alloc _).later hb6 | exact ((Mc.alloc _).alloc _).later hb6 | exact Mc.drew.later hb6 : Cel2 w6 _ _ _)
    replace Nc := (by with_reducible first | exact Nc.later hb6 | exact (Nc.alloc _).later hb6 | exact ((Nc.alloc _).alloc _).later hb6 | exact Nc.drew.later hb6 : Cel2 w6 _ _ _)
    replace Hc := (by with_reducible first | exact Hc.later hb6 | exact (Hc.alloc _).later hb6 | exact ((Hc.alloc _).alloc _).later hb6 | exact Hc.drew.later hb6 : Cel2 w6 _ _ _)
    have Kc := (Cel2.made _ _ rfl (.int .i64 u) (.int .i64 v) 24).later hb6
    (try simp only [World.size_alloc] at Kc)
    replace wb1 := (by with_reducible first | exact wb1.old hb6 | exact (wb1.old ((Below.refl _ _).alloc (Nat.le_refl _) _)).old hb6 | exact ((wb1.old ((Below.refl _ _).alloc (Nat.le_refl _) _)).old ((Below.refl _ _).alloc (Nat.le_refl _) _)).old hb6 : IsCode w6 _ _ _)
    replace hB := (by with_reducible first | exact old_trans hB hb6 | exact old_trans (old_alloc hB _) hb6 | exact old_trans (old_alloc (old_alloc hB _) _) hb6 : Below w.heap.size w w6)
    have P10 := P1.1
    have P11 := P1.2.1
    have P1z := P1.2.2.2.2
    have P20 := P2.1
    have P21 := P2.2.1
    have P2z := P2.2.2.2.2
    have Mc0 := Mc.1
    have Mc1 := Mc.2.1
    have Mcz := Mc.2.2.2.2
    have Nc0 := Nc.1
    have Nc1 := Nc.2.1
    have Ncz := Nc.2.2.2.2
    have Hc0 := Hc.1
    have Hc1 := Hc.2.1
    have Hcz := Hc.2.2.2.2
    have Kc0 := Kc.1
    have Kc1 := Kc.2.1
    have Kcz := Kc.2.2.2.2
    go_wp2_with fail
    refine (O2.out _).mono ?_
    rintro e w7 ⟨rfl, hb7⟩
    clear P10 P11 P1z P20 P21 P2z Mc0 Mc1 Mcz Nc0 Nc1 Ncz Hc0 Hc1 Hcz Kc0 Kc1 Kcz
    replace P1 := (by with_reducible first | exact P1.later hb7 | exact (P1.alloc _).later hb7 | exact ((P1.alloc _).alloc _).later hb7 | exact P1.drew.later hb7 : Cel2 w7 _ _ _)
    replace P2 := (by with_reducible first | exact P2.later hb7 | exact (P2.alloc _).later hb7 | exact ((P2.alloc _).alloc _).later hb7 | exact P2.drew.later hb7 : Cel2 w7 _ _ _)
    replace Mc := (by with_reducible first | exact Mc.later hb7 | exact (Mc.alloc _).later hb7 | exact ((Mc.alloc _).alloc _).later hb7 | exact Mc.drew.later hb7 : Cel2 w7 _ _ _)
    replace Nc := (by with_reducible first | exact Nc.later hb7 | exact (Nc.alloc _).later hb7 | exact ((Nc.alloc _).alloc _).later hb7 | exact Nc.drew.later hb7 : Cel2 w7 _ _ _)
    replace Hc := (by with_reducible first | exact Hc.later hb7 | exact (Hc.alloc _).later hb7 | exact ((Hc.alloc _).alloc _).later hb7 | exact Hc.drew.later hb7 : Cel2 w7 _ _ _)
    replace Kc := (by with_reducible first | exact Kc.later hb7 | exact (Kc.alloc _).later hb7 | exact ((Kc.alloc _).alloc _).later hb7 | exact Kc.drew.later hb7 : Cel2 w7 _ _ _)
    replace wb1 := (by with_reducible first | exact wb1.old hb7 | exact (wb1.old ((Below.refl _ _).alloc (Nat.le_refl _) _)).old hb7 | exact ((wb1.old ((Below.refl _ _).alloc (Nat.le_refl _) _)).old ((Below.refl _ _).alloc (Nat.le_refl _) _)).old hb7 : IsCode w7 _ _ _)
    replace hB := (by with_reducible first | exact old_trans hB hb7 | exact old_trans (old_alloc hB _) hb7 | exact old_trans (old_alloc (old_alloc hB _) _) hb7 : Below w.heap.size w w7)
    have P10 := P1.1
    have P11 := P1.2.1
    have P1z := P1.2.2.2.2
    have P20 := P2.1
    have P21 := P2.2.1
    have P2z := P2.2.2.2.2
    have Mc0 := Mc.1
    have Mc1 := Mc.2.1
    have Mcz := Mc.2.2.2.2
    have Nc0 := Nc.1
    have Nc1 := Nc.2.1
    have Ncz := Nc.2.2.2.2
    have Hc0 := Hc.1
    have Hc1 := Hc.2.1
    have Hcz := Hc.2.2.2.2
    have Kc0 := Kc.1
    have Kc1 := Kc.2.1
    have Kcz := Kc.2.2.2.2
    go_wp2_with fail
    refine (J1.out _).mono ?_
    rintro e w8 ⟨rfl, hb8⟩
    clear P10 P11 P1z P20 P21 P2z Mc0 Mc1 Mcz Nc0 Nc1 Ncz Hc0 Hc1 Hcz Kc0 Kc1 Kcz
    replace P1 := (by with_reducible first | exact P1.later hb8 | exact (P1.alloc _).later hb8 | exact ((P1.alloc _).alloc _).later hb8 | exact P1.drew.later hb8 : Cel2 w8 _ _ _)
    replace P2 := (by with_reducible first | exact P2.later hb8 | exact (P2.alloc _).later hb8 | exact ((P2.alloc _).alloc _).later hb8 | exact P2.drew.later hb8 : Cel2 w8 _ _ _)
    replace Mc := (by with_reducible first | exact Mc.later hb8 | exact (Mc.alloc _).later hb8 | exact ((Mc.alloc _).alloc _).later hb8 | exact Mc.drew.later hb8 : Cel2 w8 _ _ _)
    replace Nc := (by with_reducible first | exact Nc.later hb8 | exact (Nc.alloc _).later hb8 | exact ((Nc.alloc _).alloc _).later hb8 | exact Nc.drew.later hb8 : Cel2 w8 _ _ _)
    replace Hc := (by with_reducible first | exact Hc.later hb8 | exact (Hc.alloc _).later hb8 | exact ((Hc.alloc _).alloc _).later hb8 | exact Hc.drew.later hb8 : Cel2 w8 _ _ _)
    replace Kc := (by with_reducible first | exact Kc.later hb8 | exact (Kc.alloc _).later hb8 | exact ((Kc.alloc _).alloc _).later hb8 | exact Kc.drew.later hb8 : Cel2 w8 _ _ _)
    replace wb1 := (by with_reducible first | exact wb1.old hb8 | exact (wb1.old ((Below.refl _ _).alloc (Nat.le_refl _) _)).old hb8 | exact ((wb1.old ((Below.refl _ _).alloc (Nat.le_refl _) _)).old ((Below.refl _ _).alloc (Nat.le_refl _) _)).old hb8 : IsCode w8 _ _ _)
    replace hB := (by with_reducible first | exact old_trans hB hb8 | exact old_trans (old_alloc hB _) hb8 | exact old_trans (old_alloc (old_alloc hB _) _) hb8 : Below w.heap.size w w8)
    have P10 := P1.1
    have P11 := P1.2.1
    have P1z := P1.2.2.2.2
    have P20 := P2.1
    have P21 := P2.2.1
    have P2z := P2.2.2.2.2
    have Mc0 := Mc.1
    have Mc1 := Mc.2.1
    have Mcz := Mc.2.2.2.2
    have Nc0 := Nc.1
    have Nc1 := Nc.2.1
    have Ncz := Nc.2.2.2.2
    have Hc0 := Hc.1
    have Hc1 := Hc.2.1
    have Hcz := Hc.2.2.2.2
    have Kc0 := Kc.1
    have Kc1 := Kc.2.1
    have Kcz := Kc.2.2.2.2
    go_wp2_with fail
    refine (J2.out _).mono ?_
    rintro e w9 ⟨rfl, hb9⟩
    clear P10 P11 P1z P20 P21 P2z Mc0 Mc1 Mcz Nc0 Nc1 Ncz Hc0 Hc1 Hcz Kc0 Kc1 Kcz
    replace P1 := (by with_reducible first | exact P1.later hb9 | exact (P1.alloc _).later hb9 | exact ((P1.alloc _).alloc _).later hb9 | exact P1.drew.later hb9 : Cel2 w9 _ _ _)
    replace P2 := (by with_reducible first | exact P2.later hb9 | exact (P2.alloc _).later hb9 | exact ((P2.alloc _).alloc _).later hb9 | exact P2.drew.later hb9 : Cel2 w9 _ _ _)
    replace Mc := (by with_reducible first | exact Mc.later hb9 | exact (Mc.alloc _).later hb9 | exact ((Mc.alloc _).alloc _).later hb9 | exact Mc.drew.later hb9 : Cel2 w9 _ _ _)
    replace Nc := (by with_reducible first | exact Nc.later hb9 | exact (Nc.alloc _).later hb9 | exact ((Nc.alloc _).alloc _).later hb9 | exact Nc.drew.later hb9 : Cel2 w9 _ _ _)
    replace Hc := (by with_reducible first | exact Hc.later hb9 | exact (Hc.alloc _).later hb9 | exact ((Hc.alloc _).alloc _).later hb9 | exact Hc.drew.later hb9 : Cel2 w9 _ _ _)
    replace Kc := (by with_reducible first | exact Kc.later hb9 | exact (Kc.alloc _).later hb9 | exact ((Kc.alloc _).alloc _).later hb9 | exact Kc.drew.later hb9 : Cel2 w9 _ _ _)
    replace wb1 := (by with_reducible first | exact wb1.old hb9 | exact (wb1.old ((Below.refl _ _).alloc (Nat.le_refl _) _)).old hb9 | exact ((wb1.old ((Below.refl _ _).alloc (Nat.le_refl _) _)).old ((Below.refl _ _).alloc (Nat.le_refl _) _)).old hb9 : IsCode w9 _ _ _)
    replace hB := (by with_reducible first | exact old_trans hB hb9 | exact old_trans (old_alloc hB _) hb9 | exact old_trans (old_alloc (old_alloc hB _) _) hb9 : Below w.heap.size w w9)
    have P10 := P1.1
    have P11 := P1.2.1
    have P1z := P1.2.2.2.2
    have P20 := P2.1
    have P21 := P2.2.1
    have P2z := P2.2.2.2.2
    have Mc0 := Mc.1
    have Mc1 := Mc.2.1
    have Mcz := Mc.2.2.2.2
    have Nc0 := Nc.1
    have Nc1 := Nc.2.1
    have Ncz := Nc.2.2.2.2
    have Hc0 := Hc.1
    have Hc1 := Hc.2.1
    have Hcz := Hc.2.2.2.2
    have Kc0 := Kc.1
    have Kc1 := Kc.2.1
    have Kcz := Kc.2.2.2.2
    go_wp2_with fail
    refine (M3'.out _).mono ?_
    rintro e w10 ⟨rfl, hb10⟩
    clear P10 P11 P1z P20 P21 P2z Mc0 Mc1 Mcz Nc0 Nc1 Ncz Hc0 Hc1 Hcz Kc0 Kc1 Kcz
    replace P1 := (by with_reducible first | exact P1.later hb10 | exact (P1.alloc _).later hb10 | exact ((P1.alloc _).alloc _).later hb10 | exact P1.drew.later hb10 : Cel2 w10 _ _ _)
    replace P2 := (by with_reducible first | exact P2.later hb10 | exact (P2.alloc _).later hb10 | exact ((P2.alloc _).alloc _).later hb10 | exact P2.drew.later hb10 : Cel2 w10 _ _ _)
    replace Mc := (by with_reducible first | exact Mc.later hb10 | exact (Mc.alloc _).later hb10 | exact ((Mc.alloc _).alloc _).later hb10 | exact Mc.drew.later hb10 : Cel2 w10 _ _ _)
    replace Nc := (by with_reducible first | exact Nc.later hb10 | exact (Nc.alloc _).later hb10 | exact ((Nc.alloc _).alloc _).later hb10 | exact Nc.drew.later hb10 : Cel2 w10 _ _ _)
    replace Hc := (by with_reducible first | exact Hc.later hb10 | exact (Hc.alloc _).later hb10 | exact ((Hc.alloc _).alloc _).later hb10 | exact Hc.drew.later hb10 : Cel2 w10 _ _ _)
    replace Kc := (by with_reducible first | exact Kc.later hb10 | exact (Kc.alloc _).later hb10 | exact ((Kc.alloc _).alloc _).later hb10 | exact Kc.drew.later hb10 : Cel2 w10 _ _ _)
    replace wb1 := (by with_reducible first | exact wb1.old hb10 | exact (wb1.old ((Below.refl _ _).alloc (Nat.le_refl _) _)).old hb10 | exact ((wb1.old ((Below.refl _ _).alloc (Nat.le_refl _) _)).old ((Below.refl _ _).alloc (Nat.le_refl _) _)).old hb10 : IsCode w10 _ _ _)
    replace hB := (by with_reducible first | exact old_trans hB hb10 | exact old_trans (old_alloc hB _) hb10 | exact old_trans (old_alloc (old_alloc hB _) _) hb10 : Below w.heap.size w w10)
    have P10 := P1.1
    have P11 := P1.2.1
    have P1z := P1.2.2.2.2
    have P20 := P2.1
    have P21 := P2.2.1
    have P2z := P2.2.2.2.2
    have Mc0 := Mc.1
    have Mc1 := Mc.2.1
    have Mcz := Mc.2.2.2.2
    have Nc0 := Nc.1
    have Nc1 := Nc.2.1
    have Ncz := Nc.2.2.2.2
    have Hc0 := Hc.1
    have Hc1 := Hc.2.1
    have Hcz := Hc.2.2.2.2
    have Kc0 := Kc.1
    have Kc1 := Kc.2.1
    have Kcz := Kc.2.2.2.2
    go_wp2_with fail
    refine (goodPair _ a1 len1 cap1 (by with_reducible first | exact wb1 | exact wb1.old ((Below.refl _ _).alloc (Nat.le_refl _) _) | exact (wb1.old ((Below.refl _ _).alloc (Nat.le_refl _) _)).old ((Below.refl _ _).alloc (Nat.le_refl _) _))).mono ?_
    rintro e w11 ⟨⟨wd', e', f', -, -, rfl⟩, hb11⟩
    clear P10 P11 P1z P20 P21 P2z Mc0 Mc1 Mcz Nc0 Nc1 Ncz Hc0 Hc1 Hcz Kc0 Kc1 Kcz
    replace P1 := (by with_reducible first | exact P1.later hb11 | exact (P1.alloc _).later hb11 | exact ((P1.alloc _).alloc _).later hb11 | exact P1.drew.later hb11 : Cel2 w11 _ _ _)
    replace P2 := (by with_reducible first | exact P2.later hb11 | exact (P2.alloc _).later hb11 | exact ((P2.alloc _).alloc _).later hb11 | exact P2.drew.later hb11 : Cel2 w11 _ _ _)
    replace Mc := (by with_reducible first | exact Mc.later hb11 | exact (Mc.alloc _).later hb11 | exact ((Mc.alloc _).alloc _).later hb11 | exact Mc.drew.later hb11 : Cel2 w11 _ _ _)
    replace Nc := (by with_reducible first | exact Nc.later hb11 | exact (Nc.alloc _).later hb11 | exact ((Nc.alloc _).alloc _).later hb11 | exact Nc.drew.later hb11 : Cel2 w11 _ _ _)
    replace Hc := (by with_reducible first | exact Hc.later hb11 | exact (Hc.alloc _).later hb11 | exact ((Hc.alloc _).alloc _).later hb11 | exact Hc.drew.later hb11 : Cel2 w11 _ _ _)
    replace Kc := (by with_reducible first | exact Kc.later hb11 | exact (Kc.alloc _).later hb11 | exact ((Kc.alloc _).alloc _).later hb11 | exact Kc.drew.later hb11 : Cel2 w11 _ _ _)
    have Zc := (Cel2.made _ _ rfl (.int .i64 a) (.int .i64 b) 24).later hb11
    (try simp only [World.size_alloc] at Zc)
    replace wb1 := (by with_reducible first | exact wb1.old hb11 | exact (wb1.old ((Below.refl _ _).alloc (Nat.le_refl _) _)).old hb11 | exact ((wb1.old ((Below.refl _ _).alloc (Nat.le_refl _) _)).old ((Below.refl _ _).alloc (Nat.le_refl _) _)).old hb11 : IsCode w11 _ _ _)
    replace hB := (by with_reducible first | exact old_trans hB hb11 | exact old_trans (old_alloc hB _) hb11 | exact old_trans (old_alloc (old_alloc hB _) _) hb11 : Below w.heap.size w w11)
    have P10 := P1.1
    have P11 := P1.2.1
    have P1z := P1.2.2.2.2
    have P20 := P2.1
    have P21 := P2.2.1
    have P2z := P2.2.2.2.2
    have Mc0 := Mc.1
    have Mc1 := Mc.2.1
    have Mcz := Mc.2.2.2.2
    have Nc0 := Nc.1
    have Nc1 := Nc.2.1
    have Ncz := Nc.2.2.2.2
    have Hc0 := Hc.1
    have Hc1 := Hc.2.1
    have Hcz := Hc.2.2.2.2
    have Kc0 := Kc.1
    have Kc1 := Kc.2.1
    have Kcz := Kc.2.2.2.2
    have Zc0 := Zc.1
    have Zc1 := Zc.2.1
    have Zcz := Zc.2.2.2.2
    have I1 := hd (iPairIs e' e' a b)
    have I2 := hd (iPairIs e' e' c d)
    have I3 := hd (iPairIs e' e' mx my)
    have hx := hmm e'
    by_cases e1 : a ≤ e' ∧ e' ≤ b
    case neg =>
      rw [show isB e' e' a b = false by unfold isB; simp; omega] at I1
      rw [show isB e' e' mx my = false by unfold isB; simp; omega] at I3
      clear hx hmm
      go_wp2_with fail
      refine (I1.out _).mono ?_
      rintro e w12 ⟨rfl, hb12⟩
      clear P10 P11 P1z P20 P21 P2z Mc0 Mc1 Mcz Nc0 Nc1 Ncz Hc0 Hc1 Hcz Kc0 Kc1 Kcz Zc0 Zc1 Zcz
      replace P1 := (by with_reducible first | exact P1.later hb12 | exact (P1.alloc _).later hb12 | exact ((P1.alloc _).alloc _).later hb12 | exact P1.drew.later hb12 : Cel2 w12 _ _ _)
      replace P2 := (by with_reducible first | exact P2.later hb12 | exact (P2.alloc _).later hb12 | exact ((P2.alloc _).alloc _).later hb12 | exact P2.drew.later hb12 : Cel2 w12 _ _ _)
      replace Mc := (by with_reducible first | exact Mc.later hb12 | exact (Mc.alloc _).later hb12 | exact ((Mc.alloc _).alloc _).later hb12 | exact Mc.drew.later hb12 : Cel2 w12 _ _ _)
      replace Nc := (by with_reducible first | exact Nc.later hb12 | exact (Nc.alloc _).later hb12 | exact ((Nc.alloc _).alloc _).later hb12 | exact Nc.drew.later hb12 : Cel2 w12 _ _ _)
      replace Hc := (by with_reducible first | exact Hc.later hb12 | exact (Hc.alloc _).later hb12 | exact ((Hc.alloc _).alloc _).later hb12 | exact Hc.drew.later hb12 : Cel2 w12 _ _ _)
      replace Kc := (by with_reducible first | exact Kc.later hb12 | exact (Kc.alloc _).later hb12 | exact ((Kc.alloc _).alloc _).later hb12 | exact Kc.drew.later hb12 : Cel2 w12 _ _ _)
      replace Zc := (by with_reducible first | exact Zc.later hb12 | exact (Zc.alloc _).later hb12 | exact ((Zc.alloc _).alloc _).later hb12 | exact Zc.drew.later hb12 : Cel2 w12 _ _ _)
      have Qc := ((Cel2.made _ _ rfl (.int .i64 e') (.int .i64 f') 24).alloc _).later hb12
      (try simp only [World.size_alloc] at Qc)
      have Xc := (Cel2.made _ _ rfl (.int .i64 e') (.int .i64 e') 24).later hb12
      (try simp only [World.size_alloc] at Xc)
      replace wb1 := (by with_reducible first | exact wb1.old hb12 | exact (wb1.old ((Below.refl _ _).alloc (Nat.le_refl _) _)).old hb12 | exact ((wb1.old ((Below.refl _ _).alloc (Nat.le_refl _) _)).old ((Below.refl _ _).alloc (Nat.le_refl _) _)).old hb12 : IsCode w12 _ _ _)
      replace hB := (by with_reducible first | exact old_trans hB hb12 | exact old_trans (old_alloc hB _) hb12 | exact old_trans (old_alloc (old_alloc hB _) _) hb12 : Below w.heap.size w w12)
      have P10 := P1.1
      have P11 := P1.2.1
      have P1z := P1.2.2.2.2
      have P20 := P2.1
      have P21 := P2.2.1
      have P2z := P2.2.2.2.2
      have Mc0 := Mc.1
      have Mc1 := Mc.2.1
      have Mcz := Mc.2.2.2.2
      have Nc0 := Nc.1
      have Nc1 := Nc.2.1
      have Ncz := Nc.2.2.2.2
      have Hc0 := Hc.1
      have Hc1 := Hc.2.1
      have Hcz := Hc.2.2.2.2
      have Kc0 := Kc.1
      have Kc1 := Kc.2.1
      have Kcz := Kc.2.2.2.2
      have Zc0 := Zc.1
      have Zc1 := Zc.2.1
      have Zcz := Zc.2.2.2.2
      have Qc0 := Qc.1
      have Qc1 := Qc.2.1
      have Qcz := Qc.2.2.2.2
      have Xc0 := Xc.1
      have Xc1 := Xc.2.1
      have Xcz := Xc.2.2.2.2
      go_wp2_with fail
      refine (I3.out _).mono ?_
      rintro e w13 ⟨rfl, hb13⟩
      clear P10 P11 P1z P20 P21 P2z Mc0 Mc1 Mcz Nc0 Nc1 Ncz Hc0 Hc1 Hcz Kc0 Kc1 Kcz Zc0 Zc1 Zcz Qc0 Qc1 Qcz Xc0 Xc1 Xcz
      replace P1 := (by with_reducible first | exact P1.later hb13 | exact (P1.alloc _).later hb13 | exact ((P1.alloc _).alloc _).later hb13 | exact P1.drew.later hb13 : Cel2 w13 _ _ _)
      replace P2 := (by with_reducible first | exact P2.later hb13 | exact (P2.alloc _).later hb13 | exact ((P2.alloc _).alloc _).later hb13 | exact P2.drew.later hb13 : Cel2 w13 _ _ _)
      replace Mc := (by with_reducible first | exact Mc.later hb13 | exact (Mc.alloc _).later hb13 | exact ((Mc.alloc _).alloc _).later hb13 | exact Mc.drew.later hb13 : Cel2 w13 _ _ _)
      replace Nc := (by with_reducible first | exact Nc.later hb13 | exact (Nc.alloc _).later hb13 | exact ((Nc.alloc _).alloc _).later hb13 | exact Nc.drew.later hb13 : Cel2 w13 _ _ _)
      replace Hc := (by with_reducible first | exact Hc.later hb13 | exact (Hc.alloc _).later hb13 | exact ((Hc.alloc _).alloc _).later hb13 | exact Hc.drew.later hb13 : Cel2 w13 _ _ _)
      replace Kc := (by with_reducible first | exact Kc.later hb13 | exact (Kc.alloc _).later hb13 | exact ((Kc.alloc _).alloc _).later hb13 | exact Kc.drew.later hb13 : Cel2 w13 _ _ _)
      replace Zc := (by with_reducible first | exact Zc.later hb13 | exact (Zc.alloc _).later hb13 | exact ((Zc.alloc _).alloc _).later hb13 | exact Zc.drew.later hb13 : Cel2 w13 _ _ _)
      replace Qc := (by with_reducible first | exact Qc.later hb13 | exact (Qc.alloc _).later hb13 | exact ((Qc.alloc _).alloc _).later hb13 | exact Qc.drew.later hb13 : Cel2 w13 _ _ _)
      replace Xc := (by with_reducible first | exact Xc.later hb13 | exact (Xc.alloc _).later hb13 | exact ((Xc.alloc _).alloc _).later hb13 | exact Xc.drew.later hb13 : Cel2 w13 _ _ _)
      replace wb1 := (by with_reducible first | exact wb1.old hb13 | exact (wb1.old ((Below.refl _ _).alloc (Nat.le_refl _) _)).old hb13 | exact ((wb1.old ((Below.refl _ _).alloc (Nat.le_refl _) _)).old ((Below.refl _ _).alloc (Nat.le_refl _) _)).old hb13 : IsCode w13 _ _ _)
      replace hB := (by with_reducible first | exact old_trans hB hb13 | exact old_trans (old_alloc hB _) hb13 | exact old_trans (old_alloc (old_alloc hB _) _) hb13 : Below w.heap.size w w13)
      have P10 := P1.1
      have P11 := P1.2.1
      have P1z := P1.2.2.2.2
      have P20 := P2.1
      have P21 := P2.2.1
      have P2z := P2.2.2.2.2
      have Mc0 := Mc.1
      have Mc1 := Mc.2.1
      have Mcz := Mc.2.2.2.2
      have Nc0 := Nc.1
      have Nc1 := Nc.2.1
      have Ncz := Nc.2.2.2.2
      have Hc0 := Hc.1
      have Hc1 := Hc.2.1
      have Hcz := Hc.2.2.2.2
      have Kc0 := Kc.1
      have Kc1 := Kc.2.1
      have Kcz := Kc.2.2.2.2
      have Zc0 := Zc.1
      have Zc1 := Zc.2.1
      have Zcz := Zc.2.2.2.2
      have Qc0 := Qc.1
      have Qc1 := Qc.2.1
      have Qcz := Qc.2.2.2.2
      have Xc0 := Xc.1
      have Xc1 := Xc.2.1
      have Xcz := Xc.2.2.2.2
      go_wp2
      go_ret
      exact ⟨rfl, (by repeat (first | exact hB | exact Below.refl _ _ | refine Below.drew ?_ | refine old_alloc ?_ _ | refine old_trans ?_ (by assumption)))⟩
    by_cases e2 : c ≤ e' ∧ e' ≤ d
    case neg =>
      rw [show isB e' e' a b = true by unfold isB; simp; omega] at I1
      rw [show isB e' e' c d = false by unfold isB; simp; omega] at I2
      rw [show isB e' e' mx my = false by unfold isB; simp; omega] at I3
      clear hx hmm
      go_wp2_with fail
      refine (I1.out _).mono ?_
      rintro e w12 ⟨rfl, hb12⟩
      clear P10 P11 P1z P20 P21 P2z Mc0 Mc1 Mcz Nc0 Nc1 Ncz Hc0 Hc1 Hcz Kc0 Kc1 Kcz Zc0 Zc1 Zcz
      replace P1 := (by with_reducible first | exact P1.later hb12 | exact (P1.alloc _).later hb12 | exact ((P1.alloc _).alloc _).later hb12 | exact P1.drew.later hb12 : Cel2 w12 _ _ _)
      replace P2 := (by with_reducible first | exact P2.later hb12 | exact (P2.alloc _).later hb12 | exact ((P2.alloc _).alloc _).later hb12 | exact P2.drew.later hb12 : Cel2 w12 _ _ _)
      replace Mc := (by with_reducible first | exact Mc.later hb12 | exact (Mc.alloc _).later hb12 | exact ((Mc.alloc _).alloc _).later hb12 | exact Mc.drew.later hb12 : Cel2 w12 _ _ _)
      replace Nc := (by with_reducible first | exact Nc.later hb12 | exact (Nc.alloc _).later hb12 | exact ((Nc.alloc _).alloc _).later hb12 | exact Nc.drew.later hb12 : Cel2 w12 _ _ _)
      replace Hc := (by with_reducible first | exact Hc.later hb12 | exact (Hc.alloc _).later hb12 | exact ((Hc.alloc _).alloc _).later hb12 | exact Hc.drew.later hb12 : Cel2 w12 _ _ _)
      replace Kc := (by with_reducible first | exact Kc.later hb12 | exact (Kc.alloc _).later hb12 | exact ((Kc.alloc _).alloc _).later hb12 | exact Kc.drew.later hb12 : Cel2 w12 _ _ _)
      replace Zc := (by with_reducible first | exact Zc.later hb12 | exact (Zc.alloc _).later hb12 | exact ((Zc.alloc _).alloc _).later hb12 | exact Zc.drew.later hb12 : Cel2 w12 _ _ _)
      have Qc := ((Cel2.made _ _ rfl (.int .i64 e') (.int .i64 f') 24).alloc _).later hb12
      (try simp only [World.size_alloc] at Qc)
      have Xc := (Cel2.made _ _ rfl (.int .i64 e') (.int .i64 e') 24).later hb12
      (try simp only [World.size_alloc] at Xc)
      replace wb1 := (by with_reducible first | exact wb1.old hb12 | exact (wb1.old ((Below.refl _ _).alloc (Nat.le_refl _) _)).old hb12 | exact ((wb1.old ((Below.refl _ _).alloc (Nat.le_refl _) _)).old ((Below.refl _ _).alloc (Nat.le_refl _) _)).old hb12 : IsCode w12 _ _ _)
      replace hB := (by with_reducible first | exact old_trans hB hb12 | exact old_trans (old_alloc hB _) hb12 | exact old_trans (old_alloc (old_alloc hB _) _) hb12 : Below w.heap.size w w12)
      have P10 := P1.1
      have P11 := P1.2.1
      have P1z := P1.2.2.2.2
      have P20 := P2.1
      have P21 := P2.2.1
      have P2z := P2.2.2.2.2
      have Mc0 := Mc.1
      have Mc1 := Mc.2.1
      have Mcz := Mc.2.2.2.2
      have Nc0 := Nc.1
      have Nc1 := Nc.2.1
      have Ncz := Nc.2.2.2.2
      have Hc0 := Hc.1
      have Hc1 := Hc.2.1
      have Hcz := Hc.2.2.2.2
      have Kc0 := Kc.1
      have Kc1 := Kc.2.1
      have Kcz := Kc.2.2.2.2
      have Zc0 := Zc.1
      have Zc1 := Zc.2.1
      have Zcz := Zc.2.2.2.2
      have Qc0 := Qc.1
      have Qc1 := Qc.2.1
      have Qcz := Qc.2.2.2.2
      have Xc0 := Xc.1
      have Xc1 := Xc.2.1
      have Xcz := Xc.2.2.2.2
      go_wp2_with fail
      refine (I2.out _).mono ?_
      rintro e w13 ⟨rfl, hb13⟩
      clear P10 P11 P1z P20 P21 P2z Mc0 Mc1 Mcz Nc0 Nc1 Ncz Hc0 Hc1 Hcz Kc0 Kc1 Kcz Zc0 Zc1 Zcz Qc0 Qc1 Qcz Xc0 Xc1 Xcz
      replace P1 := (by with_reducible first | exact P1.later hb13 | exact (P1.alloc _).later hb13 | exact ((P1.alloc _).alloc _).later hb13 | exact P1.drew.later hb13 : Cel2 w13 _ _ _)
      replace P2 := (by with_reducible first | exact P2.later hb13 | exact (P2.alloc _).later hb13 | exact ((P2.alloc _).alloc _).later hb13 | exact P2.drew.later hb13 : Cel2 w13 _ _ _)
      replace Mc := (by with_reducible first | exact Mc.later hb13 | exact (Mc.alloc _).later hb13 | exact ((Mc.alloc _).alloc _).later hb13 | exact Mc.drew.later hb13 : Cel2 w13 _ _ _)
      replace Nc := (by with_reducible first | exact Nc.later hb13 | exact (Nc.alloc _).later hb13 | exact ((Nc.alloc _).alloc _).later hb13 | exact Nc.drew.later hb13 : Cel2 w13 _ _ _)
      replace Hc := (by with_reducible first | exact Hc.later hb13 | exact (Hc.alloc _).later hb13 | exact ((Hc.alloc _).alloc _).later hb13 | exact Hc.drew.later hb13 : Cel2 w13 _ _ _)
      replace Kc := (by with_reducible first | exact Kc.later hb13 | exact (Kc.alloc _).later hb13 | exact ((Kc.alloc _).alloc _).later hb13 | exact Kc.drew.later hb13 : Cel2 w13 _ _ _)
      replace Zc := (by with_reducible first | exact Zc.later hb13 | exact (Zc.alloc _).later hb13 | exact ((Zc.alloc _).alloc _).later hb13 | exact Zc.drew.later hb13 : Cel2 w13 _ _ _)
      replace Qc := (by with_reducible first | exact Qc.later hb13 | exact (Qc.alloc _).later hb13 | exact ((Qc.alloc _).alloc _).later hb13 | exact Qc.drew.later hb13 : Cel2 w13 _ _ _)
      replace Xc := (by with_reducible first | exact Xc.later hb13 | exact (Xc.alloc _).later hb13 | exact ((Xc.alloc _).alloc _).later hb13 | exact Xc.drew.later hb13 : Cel2 w13 _ _ _)
      replace wb1 := (by with_reducible first | exact wb1.old hb13 | exact (wb1.old ((Below.refl _ _).alloc (Nat.le_refl _) _)).old hb13 | exact ((wb1.old ((Below.refl _ _).alloc (Nat.le_refl _) _)).old ((Below.refl _ _).alloc (Nat.le_refl _) _)).old hb13 : IsCode w13 _ _ _)
      replace hB := (by with_reducible first | exact old_trans hB hb13 | exact old_trans (old_alloc hB _) hb13 | exact old_trans (old_alloc (old_alloc hB _) _) hb13 : Below w.heap.size w w13)
      have P10 := P1.1
      have P11 := P1.2.1
      have P1z := P1.2.2.2.2
      have P20 := P2.1
      have P21 := P2.2.1
      have P2z := P2.2.2.2.2
      have Mc0 := Mc.1
      have Mc1 := Mc.2.1
      have Mcz := Mc.2.2.2.2
      have Nc0 := Nc.1
      have Nc1 := Nc.2.1
      have Ncz := Nc.2.2.2.2
      have Hc0 := Hc.1
      have Hc1 := Hc.2.1
      have Hcz := Hc.2.2.2.2
      have Kc0 := Kc.1
      have Kc1 := Kc.2.1
      have Kcz := Kc.2.2.2.2
      have Zc0 := Zc.1
      have Zc1 := Zc.2.1
      have Zcz := Zc.2.2.2.2
      have Qc0 := Qc.1
      have Qc1 := Qc.2.1
      have Qcz := Qc.2.2.2.2
      have Xc0 := Xc.1
      have Xc1 := Xc.2.1
      have Xcz := Xc.2.2.2.2
      go_wp2_with fail
      refine (I3.out _).mono ?_
      rintro e w14 ⟨rfl, hb14⟩
      clear P10 P11 P1z P20 P21 P2z Mc0 Mc1 Mcz Nc0 Nc1 Ncz Hc0 Hc1 Hcz Kc0 Kc1 Kcz Zc0 Zc1 Zcz Qc0 Qc1 Qcz Xc0 Xc1 Xcz
      replace P1 := (by with_reducible first | exact P1.later hb14 | exact (P1.alloc _).later hb14 | exact ((P1.alloc _).alloc _).later hb14 | exact P1.drew.later hb14 : Cel2 w14 _ _ _)
      replace P2 := (by with_reducible first | exact P2.later hb14 | exact (P2.alloc _).later hb14 | exact ((P2.alloc _).alloc _).later hb14 | exact P2.drew.later hb14 : Cel2 w14 _ _ _)
      replace Mc := (by with_reducible first | exact Mc.later hb14 | exact (Mc.alloc _).later hb14 | exact ((Mc.alloc _).alloc _).later hb14 | exact Mc.drew.later hb14 : Cel2 w14 _ _ _)
      replace Nc := (by with_reducible first | exact Nc.later hb14 | exact (Nc.alloc _).later hb14 | exact ((Nc.alloc _).alloc _).later hb14 | exact Nc.drew.later hb14 : Cel2 w14 _ _ _)
      replace Hc := (by with_reducible first | exact Hc.later hb14 | exact (Hc.alloc _).later hb14 | exact ((Hc.alloc _).alloc _).later hb14 | exact Hc.drew.later hb14 : Cel2 w14 _ _ _)
      replace Kc := (by with_reducible first | exact Kc.later hb14 | exact (Kc.alloc _).later hb14 | exact ((Kc.alloc _).alloc _).later hb14 | exact Kc.drew.later hb14 : Cel2 w14 _ _ _)
      replace Zc := (by with_reducible first | exact Zc.later hb14 | exact (Zc.alloc _).later hb14 | exact ((Zc.alloc _).alloc _).later hb14 | exact Zc.drew.later hb14 : Cel2 w14 _ _ _)
      replace Qc := (by with_reducible first | exact Qc.later hb14 | exact (Qc.alloc _).later hb14 | exact ((Qc.alloc _).alloc _).later hb14 | exact Qc.drew.later hb14 : Cel2 w14 _ _ _)
      replace Xc := (by with_reducible first | exact Xc.later hb14 | exact (Xc.alloc _).later hb14 | exact ((Xc.alloc _).alloc _).later hb14 | exact Xc.drew.later hb14 : Cel2 w14 _ _ _)
      replace wb1 := (by with_reducible first | exact wb1.old hb14 | exact (wb1.old ((Below.refl _ _).alloc (Nat.le_refl _) _)).old hb14 | exact ((wb1.old ((Below.refl _ _).alloc (Nat.le_refl _) _)).old ((Below.refl _ _).alloc (Nat.le_refl _) _)).old hb14 : IsCode w14 _ _ _)
      replace hB := (by with_reducible first | exact old_trans hB hb14 | exact old_trans (old_alloc hB _) hb14 | exact old_trans (old_alloc (old_alloc hB _) _) hb14 : Below w.heap.size w w14)
      have P10 := P1.1
      have P11 := P1.2.1
      have P1z := P1.2.2.2.2
      have P20 := P2.1
      have P21 := P2.2.1
      have P2z := P2.2.2.2.2
      have Mc0 := Mc.1
      have Mc1 := Mc.2.1
      have Mcz := Mc.2.2.2.2
      have Nc0 := Nc.1
      have Nc1 := Nc.2.1
      have Ncz := Nc.2.2.2.2
      have Hc0 := Hc.1
      have Hc1 := Hc.2.1
      have Hcz := Hc.2.2.2.2
      have Kc0 := Kc.1
      have Kc1 := Kc.2.1
      have Kcz := Kc.2.2.2.2
      have Zc0 := Zc.1
      have Zc1 := Zc.2.1
      have Zcz := Zc.2.2.2.2
      have Qc0 := Qc.1
      have Qc1 := Qc.2.1
      have Qcz := Qc.2.2.2.2
      have Xc0 := Xc.1
      have Xc1 := Xc.2.1
      have Xcz := Xc.2.2.2.2
      go_wp2
      go_ret
      exact ⟨rfl, (by repeat (first | exact hB | exact Below.refl _ _ | refine Below.drew ?_ | refine old_alloc ?_ _ | refine old_trans ?_ (by assumption)))⟩
    case pos =>
      rw [show isB e' e' a b = true by unfold isB; simp; omega] at I1
      rw [show isB e' e' c d = true by unfold isB; simp; omega] at I2
      rw [show isB e' e' mx my = true by unfold isB; simp; omega] at I3
      clear hx hmm
      go_wp2_with fail
      refine (I1.out _).mono ?_
      rintro e w12 ⟨rfl, hb12⟩
      clear P10 P11 P1z P20 P21 P2z Mc0 Mc1 Mcz Nc0 Nc1 Ncz Hc0 Hc1 Hcz Kc0 Kc1 Kcz Zc0 Zc1 Zcz
      replace P1 := (by with_reducible first | exact P1.later hb12 | exact (P1.alloc _).later hb12 | exact ((P1.alloc _).alloc _).later hb12 | exact P1.drew.later hb12 : Cel2 w12 _ _ _)
      replace P2 := (by with_reducible first | exact P2.later hb12 | exact (P2.alloc _).later hb12 | exact ((P2.alloc _).alloc _).later hb12 | exact P2.drew.later hb12 : Cel2 w12 _ _ _)
      replace Mc := (by with_reducible first | exact Mc.later hb12 | exact (Mc.alloc _).later hb12 | exact ((Mc.alloc _).alloc _).later hb12 | exact Mc.drew.later hb12 : Cel2 w12 _ _ _)
      replace Nc := (by with_reducible first | exact Nc.later hb12 | exact (Nc.alloc _).later hb12 | exact ((Nc.alloc _).alloc _).later hb12 | exact Nc.drew.later hb12 : Cel2 w12 _ _ _)
      replace Hc := (by with_reducible first | exact Hc.later hb12 | exact (Hc.alloc _).later hb12 | exact ((Hc.alloc _).alloc _).later hb12 | exact Hc.drew.later hb12 : Cel2 w12 _ _ _)
      replace Kc := (by with_reducible first | exact Kc.later hb12 | exact (Kc.alloc _).later hb12 | exact ((Kc.alloc _).alloc _).later hb12 | exact Kc.drew.later hb12 : Cel2 w12 _ _ _)
      replace Zc := (by with_reducible first | exact Zc.later hb12 | exact (Zc.alloc _).later hb12 | exact ((Zc.alloc _).alloc _).later hb12 | exact Zc.drew.later hb12 : Cel2 w12 _ _ _)
      have Qc := ((Cel2.made _ _ rfl (.int .i64 e') (.int .i64 f') 24).alloc _).later hb12
      (try simp only [World.size_alloc] at Qc)
      have Xc := (Cel2.made _ _ rfl (.int .i64 e') (.int .i64 e') 24).later hb12
      (try simp only [World.size_alloc] at Xc)
      replace wb1 := (by with_reducible first | exact wb1.old hb12 | exact (wb1.old ((Below.refl _ _).alloc (Nat.le_refl _) _)).old hb12 | exact ((wb1.old ((Below.refl _ _).alloc (Nat.le_refl _) _)).old ((Below.refl _ _).alloc (Nat.le_refl _) _)).old hb12 : IsCode w12 _ _ _)
      replace hB := (by with_reducible first | exact old_trans hB hb12 | exact old_trans (old_alloc hB _) hb12 | exact old_trans (old_alloc (old_alloc hB _) _) hb12 : Below w.heap.size w w12)
      have P10 := P1.1
      have P11 := P1.2.1
      have P1z := P1.2.2.2.2
      have P20 := P2.1
      have P21 := P2.2.1
      have P2z := P2.2.2.2.2
      have Mc0 := Mc.1
      have Mc1 := Mc.2.1
      have Mcz := Mc.2.2.2.2
      have Nc0 := Nc.1
      have Nc1 := Nc.2.1
      have Ncz := Nc.2.2.2.2
      have Hc0 := Hc.1
      have Hc1 := Hc.2.1
      have Hcz := Hc.2.2.2.2
      have Kc0 := Kc.1
      have Kc1 := Kc.2.1
      have Kcz := Kc.2.2.2.2
      have Zc0 := Zc.1
      have Zc1 := Zc.2.1
      have Zcz := Zc.2.2.2.2
      have Qc0 := Qc.1
      have Qc1 := Qc.2.1
      have Qcz := Qc.2.2.2.2
      have Xc0 := Xc.1
      have Xc1 := Xc.2.1
      have Xcz := Xc.2.2.2.2
      go_wp2_with fail
      refine (I2.out _).mono ?_
      rintro e w13 ⟨rfl, hb13⟩
      clear P10 P11 P1z P20 P21 P2z Mc0 Mc1 Mcz Nc0 Nc1 Ncz Hc0 Hc1 Hcz Kc0 Kc1 Kcz Zc0 Zc1 Zcz Qc0 Qc1 Qcz Xc0 Xc1 Xcz
      replace P1 := (by with_reducible first | exact P1.later hb13 | exact (P1.alloc _).later hb13 | exact ((P1.alloc _).alloc _).later hb13 | exact P1.drew.later hb13 : Cel2 w13 _ _ _)
      replace P2 := (by with_reducible first | exact P2.later hb13 | exact (P2.alloc _).later hb13 | exact ((P2.alloc _).alloc _).later hb13 | exact P2.drew.later hb13 : Cel2 w13 _ _ _)
      replace Mc := (by with_reducible first | exact Mc.later hb13 | exact (Mc.alloc _).later hb13 | exact ((Mc.alloc _).alloc _).later hb13 | exact Mc.drew.later hb13 : Cel2 w13 _ _ _)
      replace Nc := (by with_reducible first | exact Nc.later hb13 | exact (Nc.alloc _).later hb13 | exact ((Nc.alloc _).alloc _).later hb13 | exact Nc.drew.later hb13 : Cel2 w13 _ _ _)
      replace Hc := (by with_reducible first | exact Hc.later hb13 | exact (Hc.alloc _).later hb13 | exact ((Hc.alloc _).alloc _).later hb13 | exact Hc.drew.later hb13 : Cel2 w13 _ _ _)
      replace Kc := (by with_reducible first | exact Kc.later hb13 | exact (Kc.alloc _).later hb13 | exact ((Kc.alloc _).alloc _).later hb13 | exact Kc.drew.later hb13 : Cel2 w13 _ _ _)
      replace Zc := (by with_reducible first | exact Zc.later hb13 | exact (Zc.alloc _).later hb13 | exact ((Zc.alloc _).alloc _).later hb13 | exact Zc.drew.later hb13 : Cel2 w13 _ _ _)
      replace Qc := (by with_reducible first | exact Qc.later hb13 | exact (Qc.alloc _).later hb13 | exact ((Qc.alloc _).alloc _).later hb13 | exact Qc.drew.later hb13 : Cel2 w13 _ _ _)
      replace Xc := (by with_reducible first | exact Xc.later hb13 | exact (Xc.alloc _).later hb13 | exact ((Xc.alloc _).alloc _).later hb13 | exact Xc.drew.later hb13 : Cel2 w13 _ _ _)
      replace wb1 := (by with_reducible first | exact wb1.old hb13 | exact (wb1.old ((Below.refl _ _).alloc (Nat.le_refl _) _)).old hb13 | exact ((wb1.old ((Below.refl _ _).alloc (Nat.le_refl _) _)).old ((Below.refl _ _).alloc (Nat.le_refl _) _)).old hb13 : IsCode w13 _ _ _)
      replace hB := (by with_reducible first | exact old_trans hB hb13 | exact old_trans (old_alloc hB _) hb13 | exact old_trans (old_alloc (old_alloc hB _) _) hb13 : Below w.heap.size w w13)
      have P10 := P1.1
      have P11 := P1.2.1
      have P1z := P1.2.2.2.2
      have P20 := P2.1
      have P21 := P2.2.1
      have P2z := P2.2.2.2.2
      have Mc0 := Mc.1
      have Mc1 := Mc.2.1
      have Mcz := Mc.2.2.2.2
      have Nc0 := Nc.1
      have Nc1 := Nc.2.1
      have Ncz := Nc.2.2.2.2
      have Hc0 := Hc.1
      have Hc1 := Hc.2.1
      have Hcz := Hc.2.2.2.2
      have Kc0 := Kc.1
      have Kc1 := Kc.2.1
      have Kcz := Kc.2.2.2.2
      have Zc0 := Zc.1
      have Zc1 := Zc.2.1
      have Zcz := Zc.2.2.2.2
      have Qc0 := Qc.1
      have Qc1 := Qc.2.1
      have Qcz := Qc.2.2.2.2
      have Xc0 := Xc.1
      have Xc1 := Xc.2.1
      have Xcz := Xc.2.2.2.2
      go_wp2_with fail
      refine (I3.out _).mono ?_
      rintro e w14 ⟨rfl, hb14⟩
      clear P10 P11 P1z P20 P21 P2z Mc0 Mc1 Mcz Nc0 Nc1 Ncz Hc0 Hc1 Hcz Kc0 Kc1 Kcz Zc0 Zc1 Zcz Qc0 Qc1 Qcz Xc0 Xc1 Xcz
      replace P1 := (by with_reducible first | exact P1.later hb14 | exact (P1.alloc _).later hb14 | exact ((P1.alloc _).alloc _).later hb14 | exact P1.drew.later hb14 : Cel2 w14 _ _ _)
      replace P2 := (by with_reducible first | exact P2.later hb14 | exact (P2.alloc _).later hb14 | exact ((P2.alloc _).alloc _).later hb14 | exact P2.drew.later hb14 : Cel2 w14 _ _ _)
      replace Mc := (by with_reducible first | exact Mc.later hb14 | exact (Mc.alloc _).later hb14 | exact ((Mc.alloc _).alloc _).later hb14 | exact Mc.drew.later hb14 : Cel2 w14 _ _ _)
      replace Nc := (by with_reducible first | exact Nc.later hb14 | exact (Nc.alloc _).later hb14 | exact ((Nc.alloc _).alloc _).later hb14 | exact Nc.drew.later hb14 : Cel2 w14 _ _ _)
      replace Hc := (by with_reducible first | exact Hc.later hb14 | exact (Hc.alloc _).later hb14 | exact ((Hc.alloc _).alloc _).later hb14 | exact Hc.drew.later hb14 : Cel2 w14 _ _ _)
      replace Kc := (by with_reducible first | exact Kc.later hb14 | exact (Kc.alloc _).later hb14 | exact ((Kc.alloc _).alloc _).later hb14 | exact Kc.drew.later hb14 : Cel2 w14 _ _ _)
      replace Zc := (by with_reducible first | exact Zc.later hb14 | exact (Zc.alloc _).later hb14 | exact ((Zc.alloc _).alloc _).later hb14 | exact Zc.drew.later hb14 : Cel2 w14 _ _ _)
      replace Qc := (by with_reducible first | exact Qc.later hb14 | exact (Qc.alloc _).later hb14 | exact ((Qc.alloc _).alloc _).later hb14 | exact Qc.drew.later hb14 : Cel2 w14 _ _ _)
      replace Xc := (by with_reducible first | exact Xc.later hb14 | exact (Xc.alloc _).later hb14 | exact ((Xc.alloc _).alloc _).later hb14 | exact Xc.drew.later hb14 : Cel2 w14 _ _ _)
      replace wb1 := (by with_reducible first | exact wb1.old hb14 | exact (wb1.old ((Below.refl _ _).alloc (Nat.le_refl _) _)).old hb14 | exact ((wb1.old ((Below.refl _ _).alloc (Nat.le_refl _) _)).old ((Below.refl _ _).alloc (Nat.le_refl _) _)).old hb14 : IsCode w14 _ _ _)
      replace hB := (by with_reducible first | exact old_trans hB hb14 | exact old_trans (old_alloc hB _) hb14 | exact old_trans (old_alloc (old_alloc hB _) _) hb14 : Below w.heap.size w w14)
      have P10 := P1.1
      have P11 := P1.2.1
      have P1z := P1.2.2.2.2
      have P20 := P2.1
      have P21 := P2.2.1
      have P2z := P2.2.2.2.2
      have Mc0 := Mc.1
      have Mc1 := Mc.2.1
      have Mcz := Mc.2.2.2.2
      have Nc0 := Nc.1
      have Nc1 := Nc.2.1
      have Ncz := Nc.2.2.2.2
      have Hc0 := Hc.1
      have Hc1 := Hc.2.1
      have Hcz := Hc.2.2.2.2
      have Kc0 := Kc.1
      have Kc1 := Kc.2.1
      have Kcz := Kc.2.2.2.2
      have Zc0 := Zc.1
      have Zc1 := Zc.2.1
      have Zcz := Zc.2.2.2.2
      have Qc0 := Qc.1
      have Qc1 := Qc.2.1
      have Qcz := Qc.2.2.2.2
      have Xc0 := Xc.1
      have Xc1 := Xc.2.1
      have Xcz := Xc.2.2.2.2
      go_wp2
      go_ret
      exact ⟨rfl, (by repeat (first | exact hB | exact Below.refl _ _ | refine Below.drew ?_ | refine old_alloc ?_ _ | refine old_trans ?_ (by assumption)))⟩
  case neg =>
    have em : meetB wd a b c d = false := by unfold meetB; rw [hp, hp2]; simp; omega
    have eh : hullB wd a b c d = true := by unfold hullB; rw [hp, hp2]; rfl
    rw [em] at M1 M2
    rw [eh] at H1 H2
    have hph : pokB wd (min a c) (max b d) = true := pok_hull hp hp2
    have M3 := hd (iPairMeet wd a b (min a c) (max b d))
    have em3 : meetB wd a b (min a c) (max b d) = true := by unfold meetB; rw [hp, hph]; simp; have := (pokB_in hp).2.2.1; omega
    rw [em3, show max a (min a c) = a by omega, show min b (max b d) = b by omega] at M3
    rw [hp] at O1
    rw [hp2] at O2
    have J1 := hd (iPairIs a b (min a c) (max b d))
    have J2 := hd (iPairIs c d (min a c) (max b d))
    rw [show isB a b (min a c) (max b d) = true by unfold isB; simp; omega] at J1
    rw [show isB c d (min a c) (max b d) = true by unfold isB; simp; omega] at J2
    obtain ⟨mx, hmx⟩ : ∃ mx, mx = max a c := ⟨_, rfl⟩
    obtain ⟨my, hmy⟩ : ∃ my, my = min b d := ⟨_, rfl⟩
    have hmm : ∀ e : Int, (mx ≤ e ∧ e ≤ my) ↔ ((a ≤ e ∧ e ≤ b) ∧ c ≤ e ∧ e ≤ d) := by intro e; omega
    rw [← hmx, ← hmy] at M1 M2 hr
    clear hmx hmy hp hp2 hph em eh em3
    generalize min a c = u at *
    generalize max b d = v at *
    have M1' : Hid (∀ w : World, Calls Try.prog 24 #[.int .i64 wd, .agg #[.int .i64 a, .int .i64 b], .agg #[.int .i64 c, .int .i64 d]] w fun e w' => e = .returned (.tuple #[.agg #[.int .i64 0, .int .i64 0], .bool false]) ∧ Below w.heap.size w w') := M1
    have M2' : Hid (∀ w : World, Calls Try.prog 24 #[.int .i64 wd, .agg #[.int .i64 c, .int .i64 d], .agg #[.int .i64 a, .int .i64 b]] w fun e w' => e = .returned (.tuple #[.agg #[.int .i64 0, .int .i64 0], .bool false]) ∧ Below w.heap.size w w') := M2
    have H1' : Hid (∀ w : World, Calls Try.prog 25 #[.int .i64 wd, .agg #[.int .i64 a, .int .i64 b], .agg #[.int .i64 c, .int .i64 d]] w fun e w' => e = .returned (.tuple #[.agg #[.int .i64 u, .int .i64 v], .bool true]) ∧ Below w.heap.size w w') := H1
    have H2' : Hid (∀ w : World, Calls Try.prog 25 #[.int .i64 wd, .agg #[.int .i64 c, .int .i64 d], .agg #[.int .i64 a, .int .i64 b]] w fun e w' => e = .returned (.tuple #[.agg #[.int .i64 u, .int .i64 v], .bool true]) ∧ Below w.heap.size w w') := H2
    have M3' : Hid (∀ w : World, Calls Try.prog 24 #[.int .i64 wd, .agg #[.int .i64 a, .int .i64 b], .agg #[.int .i64 u, .int .i64 v]] w fun e w' => e = .returned (.tuple #[.agg #[.int .i64 a, .int .i64 b], .bool true]) ∧ Below w.heap.size w w') := M3
    clear M1 M2 H1 H2 M3
    have q1 : ∀ w, (binOp .neq 24 (.agg #[.int .i64 0, .int .i64 0]) (.agg #[.int .i64 0, .int .i64 0])).run Try.prog w = .ok (.bool false) w := fun w => by rw [neq_pair]; simp
    have q2 : ∀ w, (binOp .neq 24 (.agg #[.int .i64 u, .int .i64 v]) (.agg #[.int .i64 u, .int .i64 v])).run Try.prog w = .ok (.bool false) w := fun w => by rw [neq_pair]; simp
    have q3 : ∀ w, (binOp .neq 24 (.agg #[.int .i64 a, .int .i64 b]) (.agg #[.int .i64 a, .int .i64 b])).run Try.prog w = .ok (.bool false) w := fun w => by rw [neq_pair]; simp
    go_wp2_with fail
    refine (M1'.out _).mono ?_
    rintro e w2 ⟨rfl, hb2⟩
    have P1 := ((Cel2.made _ _ rfl (.int .i64 a) (.int .i64 b) 24).alloc _).later hb2
    (try simp only [World.size_alloc] at P1)
    have P2 := (Cel2.made _ _ rfl (.int .i64 c) (.int .i64 d) 24).later hb2
    (try simp only [World.size_alloc] at P2)
    replace wb1 := (by with_reducible first | exact wb1.old hb2 | exact (wb1.old ((Below.refl _ _).alloc (Nat.le_refl _) _)).old hb2 | exact ((wb1.old ((Below.refl _ _).alloc (Nat.le_refl _) _)).old ((Below.refl _ _).alloc (Nat.le_refl _) _)).old hb2 : IsCode w2 _ _ _)
    replace hB := (by with_reducible first | exact old_trans hB hb2 | exact old_trans (old_alloc hB _) hb2 | exact old_trans (old_alloc (old_alloc hB _) _) hb2 : Below w.heap.size w w2)
    have P10 := P1.1
    have P11 := P1.2.1
    have P1z := P1.2.2.2.2
    have P20 := P2.1
    have P21 := P2.2.1
    have P2z := P2.2.2.2.2
    go_wp2_with fail
    refine (M2'.out _).mono ?_
    rintro e w3 ⟨rfl, hb3⟩
    clear P10 P11 P1z P20 P21 P2z
    replace P1 := (by with_reducible first | exact P1.later hb3 | exact (P1.alloc _).later hb3 | exact ((P1.alloc _).alloc _).later hb3 | exact P1.drew.later hb3 : Cel2 w3 _ _ _)
    replace P2 := (by with_reducible first | exact P2.later hb3 | exact (P2.alloc _).later hb3 | exact ((P2.alloc _).alloc _).later hb3 | exact P2.drew.later hb3 : Cel2 w3 _ _ _)
    have Mc := (Cel2.made _ _ rfl (.int .i64 0) (.int .i64 0) 24).later hb3
    (try simp only [World.size_alloc] at Mc)
    replace wb1 := (by with_reducible first | exact wb1.old hb3 | exact (wb1.old ((Below.refl _ _).alloc (Nat.le_refl _) _)).old hb3 | exact ((wb1.old ((Below.refl _ _).alloc (Nat.le_refl _) _)).old ((Below.refl _ _).alloc (Nat.le_refl _) _)).old hb3 : IsCode w3 _ _ _)
    replace hB := (by with_reducible first | exact old_trans hB hb3 | exact old_trans (old_alloc hB _) hb3 | exact old_trans (old_alloc (old_alloc hB _) _) hb3 : Below w.heap.size w w3)
    have P10 := P1.1
    have P11 := P1.2.1
    have P1z := P1.2.2.2.2
    have P20 := P2.1
    have P21 := P2.2.1
    have P2z := P2.2.2.2.2
    have Mc0 := Mc.1
    have Mc1 := Mc.2.1
    have Mcz := Mc.2.2.2.2
    go_wp2_with fail
    refine (H1'.out _).mono ?_
    rintro e w4 ⟨rfl, hb4⟩
    clear P10 P11 P1z P20 P21 P2z Mc0 Mc1 Mcz
    replace P1 := (by with_reducible first | exact P1.later hb4 | exact (P1.alloc _).later hb4 | exact ((P1.alloc _).alloc _).later hb4 | exact P1.drew.later hb4 : Cel2 w4 _ _ _)
    replace P2 := (by with_reducible first | exact P2.later hb4 | exact (P2.alloc _).later hb4 | exact ((P2.alloc _).alloc _).later hb4 | exact P2.drew.later hb4 : Cel2 w4 _ _ _)
    replace Mc := (by with_reducible first | exact Mc.later hb4 | exact (Mc.alloc _).later hb4 | exact ((Mc.alloc _).alloc _).later hb4 | exact Mc.drew.later hb4 : Cel2 w4 _ _ _)
    have Nc := (Cel2.made _ _ rfl (.int .i64 0) (.int .i64 0) 24).later hb4
    (try simp only [World.size_alloc] at Nc)
    replace wb1 := (by with_reducible first | exact wb1.old hb4 | exact (wb1.old ((Below.refl _ _).alloc (Nat.le_refl _) _)).old hb4 | exact ((wb1.old ((Below.refl _ _).alloc (Nat.le_refl _) _)).old ((Below.refl _ _).alloc (Nat.le_refl _) _)).old hb4 : IsCode w4 _ _ _)
    replace hB := (by with_reducible first | exact old_trans hB hb4 | exact old_trans (old_alloc hB _) hb4 | exact old_trans (old_alloc (old_alloc hB _) _) hb4 : Below w.heap.size w w4)
    have P10 := P1.1
    have P11 := P1.2.1
    have P1z := P1.2.2.2.2
    have P20 := P2.1
    have P21 := P2.2.1
    have P2z := P2.2.2.2.2
    have Mc0 := Mc.1
    have Mc1 := Mc.2.1
    have Mcz := Mc.2.2.2.2
    have Nc0 := Nc.1
    have Nc1 := Nc.2.1
    have Ncz := Nc.2.2.2.2
    go_wp2_with fail
    refine (H2'.out _).mono ?_
    rintro e w5 ⟨rfl, hb5⟩
    clear P10 P11 P1z P20 P21 P2z Mc0 Mc1 Mcz Nc0 Nc1 Ncz
    replace P1 := (by with_reducible first | exact P1.later hb5 | exact (P1.alloc _).later hb5 | exact ((P1.alloc _).alloc _).later hb5 | exact P1.drew.later hb5 : Cel2 w5 _ _ _)
    replace P2 := (by with_reducible first | exact P2.later hb5 | exact (P2.alloc _).later hb5 | exact ((P2.alloc _).alloc _).later hb5 | exact P2.drew.later hb5 : Cel2 w5 _ _ _)
    replace Mc := (by with_reducible first | exact Mc.later hb5 | exact (Mc.alloc _).later hb5 | exact ((Mc.alloc _).alloc _).later hb5 | exact Mc.drew.later hb5 : Cel2 w5 _ _ _)
    replace Nc := (by with_reducible first | exact Nc.later hb5 | exact (Nc.alloc _).later hb5 | exact ((Nc.alloc _).alloc _).later hb5 | exact Nc.drew.later hb5 : Cel2 w5 _ _ _)
    have Hc := (Cel2.made _ _ rfl (.int .i64 u) (.int .i64 v) 24).later hb5
    (try simp only [World.size_alloc] at Hc)
    replace wb1 := (by with_reducible first | exact wb1.old hb5 | exact (wb1.old ((Below.refl _ _).alloc (Nat.le_refl _) _)).old hb5 | exact ((wb1.old ((Below.refl _ _).alloc (Nat.le_refl _) _)).old ((Below.refl _ _).alloc (Nat.le_refl _) _)).old hb5 : IsCode w5 _ _ _)
    replace hB := (by with_reducible first | exact old_trans hB hb5 | exact old_trans (old_alloc hB _) hb5 | exact old_trans (old_alloc (old_alloc hB _) _) hb5 : Below w.heap.size w w5)
    have P10 := P1.1
    have P11 := P1.2.1
    have P1z := P1.2.2.2.2
    have P20 := P2.1
    have P21 := P2.2.1
    have P2z := P2.2.2.2.2
    have Mc0 := Mc.1
    have Mc1 := Mc.2.1
    have Mcz := Mc.2.2.2.2
    have Nc0 := Nc.1
    have Nc1 := Nc.2.1
    have Ncz := Nc.2.2.2.2
    have Hc0 := Hc.1
    have Hc1 := Hc.2.1
    have Hcz := Hc.2.2.2.2
    go_wp2_with fail
    refine (O1.out _).mono ?_
    rintro e w6 ⟨rfl, hb6⟩
    clear P10 P11 P1z P20 P21 P2z Mc0 Mc1 Mcz Nc0 Nc1 Ncz Hc0 Hc1 Hcz
    replace P1 := (by with_reducible first | exact P1.later hb6 | exact (P1.alloc _).later hb6 | exact ((P1.alloc _).alloc _).later hb6 | exact P1.drew.later hb6 : Cel2 w6 _ _ _)
    replace P2 := (by with_reducible first | exact P2.later hb6 | exact (P2.alloc _).later hb6 | exact ((P2.alloc _).alloc _).later hb6 | exact P2.drew.later hb6 : Cel2 w6 _ _ _)
    replace Mc := (by with_reducible first | exact Mc.later hb6 | exact (Mc.alloc _).later hb6 | exact ((Mc.alloc _).alloc _).later hb6 | exact Mc.drew.later hb6 : Cel2 w6 _ _ _)
    replace Nc := (by with_reducible first | exact Nc.later hb6 | exact (Nc.alloc _).later hb6 | exact ((Nc.alloc _).alloc _).later hb6 | exact Nc.drew.later hb6 : Cel2 w6 _ _ _)
    replace Hc := (by with_reducible first | exact Hc.later hb6 | exact (Hc.alloc _).later hb6 | exact ((Hc.alloc _).alloc _).later hb6 | exact Hc.drew.later hb6 : Cel2 w6 _ _ _)
    have Kc := (Cel2.made _ _ rfl (.int .i64 u) (.int .i64 v) 24).later hb6
    (try simp only [World.size_alloc] at Kc)
    replace wb1 := (by with_reducible first | exact wb1.old hb6 | exact (wb1.old ((Below.refl _ _).alloc (Nat.le_refl _) _)).old hb6 | exact ((wb1.old ((Below.refl _ _).alloc (Nat.le_refl _) _)).old ((Below.refl _ _).alloc (Nat.le_refl _) _)).old hb6 : IsCode w6 _ _ _)
    replace hB := (by with_reducible first | exact old_trans hB hb6 | exact old_trans (old_alloc hB _) hb6 | exact old_trans (old_alloc (old_alloc hB _) _) hb6 : Below w.heap.size w w6)
    have P10 := P1.1
    have P11 := P1.2.1
    have P1z := P1.2.2.2.2
    have P20 := P2.1
    have P21 := P2.2.1
    have P2z := P2.2.2.2.2
    have Mc0 := Mc.1
    have Mc1 := Mc.2.1
    have Mcz := Mc.2.2.2.2
    have Nc0 := Nc.1
    have Nc1 := Nc.2.1
    have Ncz := Nc.2.2.2.2
    have Hc0 := Hc.1
    have Hc1 := Hc.2.1
    have Hcz := Hc.2.2.2.2
    have Kc0 := Kc.1
    have Kc1 := Kc.2.1
    have Kcz := Kc.2.2.2.2
    go_wp2_with fail
    refine (O2.out _).mono ?_
    rintro e w7 ⟨rfl, hb7⟩
    clear P10 P11 P1z P20 P21 P2z Mc0 Mc1 Mcz Nc0 Nc1 Ncz Hc0 Hc1 Hcz Kc0 Kc1 Kcz
    replace P1 := (by with_reducible first | exact P1.later hb7 | exact (P1.alloc _).later hb7 | exact ((P1.alloc _).alloc _).later hb7 | exact P1.drew.later hb7 : Cel2 w7 _ _ _)
    replace P2 := (by with_reducible first | exact P2.later hb7 | exact (P2.alloc _).later hb7 | exact ((P2.alloc _).alloc _).later hb7 | exact P2.drew.later hb7 : Cel2 w7 _ _ _)
    replace Mc := (by with_reducible first | exact Mc.later hb7 | exact (Mc.alloc _).later hb7 | exact ((Mc.alloc _).alloc _).later hb7 | exact Mc.drew.later hb7 : Cel2 w7 _ _ _)
    replace Nc := (by with_reducible first | exact Nc.later hb7 | exact (Nc.alloc _).later hb7 | exact ((Nc.alloc _).alloc _).later hb7 | exact Nc.drew.later hb7 : Cel2 w7 _ _ _)
    replace Hc := (by with_reducible first | exact Hc.later hb7 | exact (Hc.alloc _).later hb7 | exact ((Hc.alloc _).alloc _).later hb7 | exact Hc.drew.later hb7 : Cel2 w7 _ _ _)
    replace Kc := (by with_reducible first | exact Kc.later hb7 | exact (Kc.alloc _).later hb7 | exact ((Kc.alloc _).alloc _).later hb7 | exact Kc.drew.later hb7 : Cel2 w7 _ _ _)
    replace wb1 := (by with_reducible first | exact wb1.old hb7 | exact (wb1.old ((Below.refl _ _).alloc (Nat.le_refl _) _)).old hb7 | exact ((wb1.old ((Below.refl _ _).alloc (Nat.le_refl _) _)).old ((Below.refl _ _).alloc (Nat.le_refl _) _)).old hb7 : IsCode w7 _ _ _)
    replace hB := (by with_reducible first | exact old_trans hB hb7 | exact old_trans (old_alloc hB _) hb7 | exact old_trans (old_alloc (old_alloc hB _) _) hb7 : Below w.heap.size w w7)
    have P10 := P1.1
    have P11 := P1.2.1
    have P1z := P1.2.2.2.2
    have P20 := P2.1
    have P21 := P2.2.1
    have P2z := P2.2.2.2.2
    have Mc0 := Mc.1
    have Mc1 := Mc.2.1
    have Mcz := Mc.2.2.2.2
    have Nc0 := Nc.1
    have Nc1 := Nc.2.1
    have Ncz := Nc.2.2.2.2
    have Hc0 := Hc.1
    have Hc1 := Hc.2.1
    have Hcz := Hc.2.2.2.2
    have Kc0 := Kc.1
    have Kc1 := Kc.2.1
    have Kcz := Kc.2.2.2.2
    go_wp2_with fail
    refine (J1.out _).mono ?_
    rintro e w8 ⟨rfl, hb8⟩
    clear P10 P11 P1z P20 P21 P2z Mc0 Mc1 Mcz Nc0 Nc1 Ncz Hc0 Hc1 Hcz Kc0 Kc1 Kcz
    replace P1 := (by with_reducible first | exact P1.later hb8 | exact (P1.alloc _).later hb8 | exact ((P1.alloc _).alloc _).later hb8 | exact P1.drew.later hb8 : Cel2 w8 _ _ _)
    replace P2 := (by with_reducible first | exact P2.later hb8 | exact (P2.alloc _).later hb8 | exact ((P2.alloc _).alloc _).later hb8 | exact P2.drew.later hb8 : Cel2 w8 _ _ _)
    replace Mc := (by with_reducible first | exact Mc.later hb8 | exact (Mc.alloc _).later hb8 | exact ((Mc.alloc _).alloc _).later hb8 | exact Mc.drew.later hb8 : Cel2 w8 _ _ _)
    replace Nc := (by with_reducible first | exact Nc.later hb8 | exact (Nc.alloc _).later hb8 | exact ((Nc.alloc _).alloc _).later hb8 | exact Nc.drew.later hb8 : Cel2 w8 _ _ _)
    replace Hc := (by with_reducible first | exact Hc.later hb8 | exact (Hc.alloc _).later hb8 | exact ((Hc.alloc _).alloc _).later hb8 | exact Hc.drew.later hb8 : Cel2 w8 _ _ _)
    replace Kc := (by with_reducible first | exact Kc.later hb8 | exact (Kc.alloc _).later hb8 | exact ((Kc.alloc _).alloc _).later hb8 | exact Kc.drew.later hb8 : Cel2 w8 _ _ _)
    replace wb1 := (by with_reducible first | exact wb1.old hb8 | exact (wb1.old ((Below.refl _ _).alloc (Nat.le_refl _) _)).old hb8 | exact ((wb1.old ((Below.refl _ _).alloc (Nat.le_refl _) _)).old ((Below.refl _ _).alloc (Nat.le_refl _) _)).old hb8 : IsCode w8 _ _ _)
    replace hB := (by with_reducible first | exact old_trans hB hb8 | exact old_trans (old_alloc hB _) hb8 | exact old_trans (old_alloc (old_alloc hB _) _) hb8 : Below w.heap.size w w8)
    have P10 := P1.1
    have P11 := P1.2.1
    have P1z := P1.2.2.2.2
    have P20 := P2.1
    have P21 := P2.2.1
    have P2z := P2.2.2.2.2
    have Mc0 := Mc.1
    have Mc1 := Mc.2.1
    have Mcz := Mc.2.2.2.2
    have Nc0 := Nc.1
    have Nc1 := Nc.2.1
    have Ncz := Nc.2.2.2.2
    have Hc0 := Hc.1
    have Hc1 := Hc.2.1
    have Hcz := Hc.2.2.2.2
    have Kc0 := Kc.1
    have Kc1 := Kc.2.1
    have Kcz := Kc.2.2.2.2
    go_wp2_with fail
    refine (J2.out _).mono ?_
    rintro e w9 ⟨rfl, hb9⟩
    clear P10 P11 P1z P20 P21 P2z Mc0 Mc1 Mcz Nc0 Nc1 Ncz Hc0 Hc1 Hcz Kc0 Kc1 Kcz
    replace P1 := (by with_reducible first | exact P1.later hb9 | exact (P1.alloc _).later hb9 | exact ((P1.alloc _).alloc _).later hb9 | exact P1.drew.later hb9 : Cel2 w9 _ _ _)
    replace P2 := (by with_reducible first | exact P2.later hb9 | exact (P2.alloc _).later hb9 | exact ((P2.alloc _).alloc _).later hb9 | exact P2.drew.later hb9 : Cel2 w9 _ _ _)
    replace Mc := (by with_reducible first | exact Mc.later hb9 | exact (Mc.alloc _).later hb9 | exact ((Mc.alloc _).alloc _).later hb9 | exact Mc.drew.later hb9 : Cel2 w9 _ _ _)
    replace Nc := (by with_reducible first | exact Nc.later hb9 | exact (Nc.alloc _).later hb9 | exact ((Nc.alloc _).alloc _).later hb9 | exact Nc.drew.later hb9 : Cel2 w9 _ _ _)
    replace Hc := (by with_reducible first | exact Hc.later hb9 | exact (Hc.alloc _).later hb9 | exact ((Hc.alloc _).alloc _).later hb9 | exact Hc.drew.later hb9 : Cel2 w9 _ _ _)
    replace Kc := (by with_reducible first | exact Kc.later hb9 | exact (Kc.alloc _).later hb9 | exact ((Kc.alloc _).alloc _).later hb9 | exact Kc.drew.later hb9 : Cel2 w9 _ _ _)
    replace wb1 := (by with_reducible first | exact wb1.old hb9 | exact (wb1.old ((Below.refl _ _).alloc (Nat.le_refl _) _)).old hb9 | exact ((wb1.old ((Below.refl _ _).alloc (Nat.le_refl _) _)).old ((Below.refl _ _).alloc (Nat.le_refl _) _)).old hb9 : IsCode w9 _ _ _)
    replace hB := (by with_reducible first | exact old_trans hB hb9 | exact old_trans (old_alloc hB _) hb9 | exact old_trans (old_alloc (old_alloc hB _) _) hb9 : Below w.heap.size w w9)
    have P10 := P1.1
    have P11 := P1.2.1
    have P1z := P1.2.2.2.2
    have P20 := P2.1
    have P21 := P2.2.1
    have P2z := P2.2.2.2.2
    have Mc0 := Mc.1
    have Mc1 := Mc.2.1
    have Mcz := Mc.2.2.2.2
    have Nc0 := Nc.1
    have Nc1 := Nc.2.1
    have Ncz := Nc.2.2.2.2
    have Hc0 := Hc.1
    have Hc1 := Hc.2.1
    have Hcz := Hc.2.2.2.2
    have Kc0 := Kc.1
    have Kc1 := Kc.2.1
    have Kcz := Kc.2.2.2.2
    go_wp2_with fail
    refine (M3'.out _).mono ?_
    rintro e w10 ⟨rfl, hb10⟩
    clear P10 P11 P1z P20 P21 P2z Mc0 Mc1 Mcz Nc0 Nc1 Ncz Hc0 Hc1 Hcz Kc0 Kc1 Kcz
    replace P1 := (by with_reducible first | exact P1.later hb10 | exact (P1.alloc _).later hb10 | exact ((P1.alloc _).alloc _).later hb10 | exact P1.drew.later hb10 : Cel2 w10 _ _ _)
    replace P2 := (by with_reducible first | exact P2.later hb10 | exact (P2.alloc _).later hb10 | exact ((P2.alloc _).alloc _).later hb10 | exact P2.drew.later hb10 : Cel2 w10 _ _ _)
    replace Mc := (by with_reducible first | exact Mc.later hb10 | exact (Mc.alloc _).later hb10 | exact ((Mc.alloc _).alloc _).later hb10 | exact Mc.drew.later hb10 : Cel2 w10 _ _ _)
    replace Nc := (by with_reducible first | exact Nc.later hb10 | exact (Nc.alloc _).later hb10 | exact ((Nc.alloc _).alloc _).later hb10 | exact Nc.drew.later hb10 : Cel2 w10 _ _ _)
    replace Hc := (by with_reducible first | exact Hc.later hb10 | exact (Hc.alloc _).later hb10 | exact ((Hc.alloc _).alloc _).later hb10 | exact Hc.drew.later hb10 : Cel2 w10 _ _ _)
    replace Kc := (by with_reducible first | exact Kc.later hb10 | exact (Kc.alloc _).later hb10 | exact ((Kc.alloc _).alloc _).later hb10 | exact Kc.drew.later hb10 : Cel2 w10 _ _ _)
    replace wb1 := (by with_reducible first | exact wb1.old hb10 | exact (wb1.old ((Below.refl _ _).alloc (Nat.le_refl _) _)).old hb10 | exact ((wb1.old ((Below.refl _ _).alloc (Nat.le_refl _) _)).old ((Below.refl _ _).alloc (Nat.le_refl _) _)).old hb10 : IsCode w10 _ _ _)
    replace hB := (by with_reducible first | exact old_trans hB hb10 | exact old_trans (old_alloc hB _) hb10 | exact old_trans (old_alloc (old_alloc hB _) _) hb10 : Below w.heap.size w w10)
    have P10 := P1.1
    have P11 := P1.2.1
    have P1z := P1.2.2.2.2
    have P20 := P2.1
    have P21 := P2.2.1
    have P2z := P2.2.2.2.2
    have Mc0 := Mc.1
    have Mc1 := Mc.2.1
    have Mcz := Mc.2.2.2.2
    have Nc0 := Nc.1
    have Nc1 := Nc.2.1
    have Ncz := Nc.2.2.2.2
    have Hc0 := Hc.1
    have Hc1 := Hc.2.1
    have Hcz := Hc.2.2.2.2
    have Kc0 := Kc.1
    have Kc1 := Kc.2.1
    have Kcz := Kc.2.2.2.2
    go_wp2_with fail
    refine (goodPair _ a1 len1 cap1 (by with_reducible first | exact wb1 | exact wb1.old ((Below.refl _ _).alloc (Nat.le_refl _) _) | exact (wb1.old ((Below.refl _ _).alloc (Nat.le_refl _) _)).old ((Below.refl _ _).alloc (Nat.le_refl _) _))).mono ?_
    rintro e w11 ⟨⟨wd', e', f', -, -, rfl⟩, hb11⟩
    clear P10 P11 P1z P20 P21 P2z Mc0 Mc1 Mcz Nc0 Nc1 Ncz Hc0 Hc1 Hcz Kc0 Kc1 Kcz
    replace P1 := (by with_reducible first | exact P1.later hb11 | exact (P1.alloc _).later hb11 | exact ((P1.alloc _).alloc _).later hb11 | exact P1.drew.later hb11 : Cel2 w11 _ _ _)
    replace P2 := (by with_reducible first | exact P2.later hb11 | exact (P2.alloc _).later hb11 | exact ((P2.alloc _).alloc _).later hb11 | exact P2.drew.later hb11 : Cel2 w11 _ _ _)
    replace Mc := (by with_reducible first | exact Mc.later hb11 | exact (Mc.alloc _).later hb11 | exact ((Mc.alloc _).alloc _).later hb11 | exact Mc.drew.later hb11 : Cel2 w11 _ _ _)
    replace Nc := (by with_reducible first | exact Nc.later hb11 | exact (Nc.alloc _).later hb11 | exact ((Nc.alloc _).alloc _).later hb11 | exact Nc.drew.later hb11 : Cel2 w11 _ _ _)
    replace Hc := (by with_reducible first | exact Hc.later hb11 | exact (Hc.alloc _).later hb11 | exact ((Hc.alloc _).alloc _).later hb11 | exact Hc.drew.later hb11 : Cel2 w11 _ _ _)
    replace Kc := (by with_reducible first | exact Kc.later hb11 | exact (Kc.alloc _).later hb11 | exact ((Kc.alloc _).alloc _).later hb11 | exact Kc.drew.later hb11 : Cel2 w11 _ _ _)
    have Zc := (Cel2.made _ _ rfl (.int .i64 a) (.int .i64 b) 24).later hb11
    (try simp only [World.size_alloc] at Zc)
    replace wb1 := (by with_reducible first | exact wb1.old hb11 | exact (wb1.old ((Below.refl _ _).alloc (Nat.le_refl _) _)).old hb11 | exact ((wb1.old ((Below.refl _ _).alloc (Nat.le_refl _) _)).old ((Below.refl _ _).alloc (Nat.le_refl _) _)).old hb11 : IsCode w11 _ _ _)
    replace hB := (by with_reducible first | exact old_trans hB hb11 | exact old_trans (old_alloc hB _) hb11 | exact old_trans (old_alloc (old_alloc hB _) _) hb11 : Below w.heap.size w w11)
    have P10 := P1.1
    have P11 := P1.2.1
    have P1z := P1.2.2.2.2
    have P20 := P2.1
    have P21 := P2.2.1
    have P2z := P2.2.2.2.2
    have Mc0 := Mc.1
    have Mc1 := Mc.2.1
    have Mcz := Mc.2.2.2.2
    have Nc0 := Nc.1
    have Nc1 := Nc.2.1
    have Ncz := Nc.2.2.2.2
    have Hc0 := Hc.1
    have Hc1 := Hc.2.1
    have Hcz := Hc.2.2.2.2
    have Kc0 := Kc.1
    have Kc1 := Kc.2.1
    have Kcz := Kc.2.2.2.2
    have Zc0 := Zc.1
    have Zc1 := Zc.2.1
    have Zcz := Zc.2.2.2.2
    have I1 := hd (iPairIs e' e' a b)
    have I2 := hd (iPairIs e' e' c d)
    have I3 := hd (iPairIs e' e' mx my)
    have hx := hmm e'
    by_cases e1 : a ≤ e' ∧ e' ≤ b
    case neg =>
      rw [show isB e' e' a b = false by unfold isB; simp; omega] at I1
      clear hx hmm
      go_wp2_with fail
      refine (I1.out _).mono ?_
      rintro e w12 ⟨rfl, hb12⟩
      clear P10 P11 P1z P20 P21 P2z Mc0 Mc1 Mcz Nc0 Nc1 Ncz Hc0 Hc1 Hcz Kc0 Kc1 Kcz Zc0 Zc1 Zcz
      replace P1 := (by with_reducible first | exact P1.later hb12 | exact (P1.alloc _).later hb12 | exact ((P1.alloc _).alloc _).later hb12 | exact P1.drew.later hb12 : Cel2 w12 _ _ _)
      replace P2 := (by with_reducible first | exact P2.later hb12 | exact (P2.alloc _).later hb12 | exact ((P2.alloc _).alloc _).later hb12 | exact P2.drew.later hb12 : Cel2 w12 _ _ _)
      replace Mc := (by with_reducible first | exact Mc.later hb12 | exact (Mc.alloc _).later hb12 | exact ((Mc.alloc _).alloc _).later hb12 | exact Mc.drew.later hb12 : Cel2 w12 _ _ _)
      replace Nc := (by with_reducible first | exact Nc.later hb12 | exact (Nc.alloc _).later hb12 | exact ((Nc.alloc _).alloc _).later hb12 | exact Nc.drew.later hb12 : Cel2 w12 _ _ _)
      replace Hc := (by with_reducible first | exact Hc.later hb12 | exact (Hc.alloc _).later hb12 | exact ((Hc.alloc _).alloc _).later hb12 | exact Hc.drew.later hb12 : Cel2 w12 _ _ _)
      replace Kc := (by with_reducible first | exact Kc.later hb12 | exact (Kc.alloc _).later hb12 | exact ((Kc.alloc _).alloc _).later hb12 | exact Kc.drew.later hb12 : Cel2 w12 _ _ _)
      replace Zc := (by with_reducible first | exact Zc.later hb12 | exact (Zc.alloc _).later hb12 | exact ((Zc.alloc _).alloc _).later hb12 | exact Zc.drew.later hb12 : Cel2 w12 _ _ _)
      have Qc := ((Cel2.made _ _ rfl (.int .i64 e') (.int .i64 f') 24).alloc _).later hb12
      (try simp only [World.size_alloc] at Qc)
      have Xc := (Cel2.made _ _ rfl (.int .i64 e') (.int .i64 e') 24).later hb12
      (try simp only [World.size_alloc] at Xc)
      replace wb1 := (by with_reducible first | exact wb1.old hb12 | exact (wb1.old ((Below.refl _ _).alloc (Nat.le_refl _) _)).old hb12 | exact ((wb1.old ((Below.refl _ _).alloc (Nat.le_refl _) _)).old ((Below.refl _ _).alloc (Nat.le_refl _) _)).old hb12 : IsCode w12 _ _ _)
      replace hB := (by with_reducible first | exact old_trans hB hb12 | exact old_trans (old_alloc hB _) hb12 | exact old_trans (old_alloc (old_alloc hB _) _) hb12 : Below w.heap.size w w12)
      have P10 := P1.1
      have P11 := P1.2.1
      have P1z := P1.2.2.2.2
      have P20 := P2.1
      have P21 := P2.2.1
      have P2z := P2.2.2.2.2
      have Mc0 := Mc.1
      have Mc1 := Mc.2.1
      have Mcz := Mc.2.2.2.2
      have Nc0 := Nc.1
      have Nc1 := Nc.2.1
      have Ncz := Nc.2.2.2.2
      have Hc0 := Hc.1
      have Hc1 := Hc.2.1
      have Hcz := Hc.2.2.2.2
      have Kc0 := Kc.1
      have Kc1 := Kc.2.1
      have Kcz := Kc.2.2.2.2
      have Zc0 := Zc.1
      have Zc1 := Zc.2.1
      have Zcz := Zc.2.2.2.2
      have Qc0 := Qc.1
      have Qc1 := Qc.2.1
      have Qcz := Qc.2.2.2.2
      have Xc0 := Xc.1
      have Xc1 := Xc.2.1
      have Xcz := Xc.2.2.2.2
      go_wp2
      go_ret
      exact ⟨rfl, (by repeat (first | exact hB | exact Below.refl _ _ | refine Below.drew ?_ | refine old_alloc ?_ _ | refine old_trans ?_ (by assumption)))⟩
    by_cases e2 : c ≤ e' ∧ e' ≤ d
    case neg =>
      rw [show isB e' e' a b = true by unfold isB; simp; omega] at I1
      rw [show isB e' e' c d = false by unfold isB; simp; omega] at I2
      clear hx hmm
      go_wp2_with fail
      refine (I1.out _).mono ?_
      rintro e w12 ⟨rfl, hb12⟩
      clear P10 P11 P1z P20 P21 P2z Mc0 Mc1 Mcz Nc0 Nc1 Ncz Hc0 Hc1 Hcz Kc0 Kc1 Kcz Zc0 Zc1 Zcz
      replace P1 := (by with_reducible first | exact P1.later hb12 | exact (P1.alloc _).later hb12 | exact ((P1.alloc _).alloc _).later hb12 | exact P1.drew.later hb12 : Cel2 w12 _ _ _)
      replace P2 := (by with_reducible first | exact P2.later hb12 | exact (P2.alloc _).later hb12 | exact ((P2.alloc _).alloc _).later hb12 | exact P2.drew.later hb12 : Cel2 w12 _ _ _)
      replace Mc := (by with_reducible first | exact Mc.later hb12 | exact (Mc.alloc _).later hb12 | exact ((Mc.alloc _).alloc _).later hb12 | exact Mc.drew.later hb12 : Cel2 w12 _ _ _)
      replace Nc := (by with_reducible first | exact Nc.later hb12 | exact (Nc.alloc _).later hb12 | exact ((Nc.alloc _).alloc _).later hb12 | exact Nc.drew.later hb12 : Cel2 w12 _ _ _)
      replace Hc := (by with_reducible first | exact Hc.later hb12 | exact (Hc.alloc _).later hb12 | exact ((Hc.alloc _).alloc _).later hb12 | exact Hc.drew.later hb12 : Cel2 w12 _ _ _)
      replace Kc := (by with_reducible first | exact Kc.later hb12 | exact (Kc.alloc _).later hb12 | exact ((Kc.alloc _).alloc _).later hb12 | exact Kc.drew.later hb12 : Cel2 w12 _ _ _)
      replace Zc := (by with_reducible first | exact Zc.later hb12 | exact (Zc.alloc _).later hb12 | exact ((Zc.alloc _).alloc _).later hb12 | exact Zc.drew.later hb12 : Cel2 w12 _ _ _)
      have Qc := ((Cel2.made _ _ rfl (.int .i64 e') (.int .i64 f') 24).alloc _).later hb12
      (try simp only [World.size_alloc] at Qc)
      have Xc := (Cel2.made _ _ rfl (.int .i64 e') (.int .i64 e') 24).later hb12
      (try simp only [World.size_alloc] at Xc)
      replace wb1 := (by with_reducible first | exact wb1.old hb12 | exact (wb1.old ((Below.refl _ _).alloc (Nat.le_refl _) _)).old hb12 | exact ((wb1.old ((Below.refl _ _).alloc (Nat.le_refl _) _)).old ((Below.refl _ _).alloc (Nat.le_refl _) _)).old hb12 : IsCode w12 _ _ _)
      replace hB := (by with_reducible first | exact old_trans hB hb12 | exact old_trans (old_alloc hB _) hb12 | exact old_trans (old_alloc (old_alloc hB _) _) hb12 : Below w.heap.size w w12)
      have P10 := P1.1
      have P11 := P1.2.1
      have P1z := P1.2.2.2.2
      have P20 := P2.1
      have P21 := P2.2.1
      have P2z := P2.2.2.2.2
      have Mc0 := Mc.1
      have Mc1 := Mc.2.1
      have Mcz := Mc.2.2.2.2
      have Nc0 := Nc.1
      have Nc1 := Nc.2.1
      have Ncz := Nc.2.2.2.2
      have Hc0 := Hc.1
      have Hc1 := Hc.2.1
      have Hcz := Hc.2.2.2.2
      have Kc0 := Kc.1
      have Kc1 := Kc.2.1
      have Kcz := Kc.2.2.2.2
      have Zc0 := Zc.1
      have Zc1 := Zc.2.1
      have Zcz := Zc.2.2.2.2
      have Qc0 := Qc.1
      have Qc1 := Qc.2.1
      have Qcz := Qc.2.2.2.2
      have Xc0 := Xc.1
      have Xc1 := Xc.2.1
      have Xcz := Xc.2.2.2.2
      go_wp2_with fail
      refine (I2.out _).mono ?_
      rintro e w13 ⟨rfl, hb13⟩
      clear P10 P11 P1z P20 P21 P2z Mc0 Mc1 Mcz Nc0 Nc1 Ncz Hc0 Hc1 Hcz Kc0 Kc1 Kcz Zc0 Zc1 Zcz Qc0 Qc1 Qcz Xc0 Xc1 Xcz
      replace P1 := (by with_reducible first | exact P1.later hb13 | exact (P1.alloc _).later hb13 | exact ((P1.alloc _).alloc _).later hb13 | exact P1.drew.later hb13 : Cel2 w13 _ _ _)
      replace P2 := (by with_reducible first | exact P2.later hb13 | exact (P2.alloc _).later hb13 | exact ((P2.alloc _).alloc _).later hb13 | exact P2.drew.later hb13 : Cel2 w13 _ _ _)
      replace Mc := (by with_reducible first | exact Mc.later hb13 | exact (Mc.alloc _).later hb13 | exact ((Mc.alloc _).alloc _).later hb13 | exact Mc.drew.later hb13 : Cel2 w13 _ _ _)
      replace Nc := (by with_reducible first | exact Nc.later hb13 | exact (Nc.alloc _).later hb13 | exact ((Nc.alloc _).alloc _).later hb13 | exact Nc.drew.later hb13 : Cel2 w13 _ _ _)
      replace Hc := (by with_reducible first | exact Hc.later hb13 | exact (Hc.alloc _).later hb13 | exact ((Hc.alloc _).alloc _).later hb13 | exact Hc.drew.later hb13 : Cel2 w13 _ _ _)
      replace Kc := (by with_reducible first | exact Kc.later hb13 | exact (Kc.alloc _).later hb13 | exact ((Kc.alloc _).alloc _).later hb13 | exact Kc.drew.later hb13 : Cel2 w13 _ _ _)
      replace Zc := (by with_reducible first | exact Zc.later hb13 | exact (Zc.alloc _).later hb13 | exact ((Zc.alloc _).alloc _).later hb13 | exact Zc.drew.later hb13 : Cel2 w13 _ _ _)
      replace Qc := (by with_reducible first | exact Qc.later hb13 | exact (Qc.alloc _).later hb13 | exact ((Qc.alloc _).alloc _).later hb13 | exact Qc.drew.later hb13 : Cel2 w13 _ _ _)
      replace Xc := (by with_reducible first | exact Xc.later hb13 | exact (Xc.alloc _).later hb13 | exact ((Xc.alloc _).alloc _).later hb13 | exact Xc.drew.later hb13 : Cel2 w13 _ _ _)
      replace wb1 := (by with_reducible first | exact wb1.old hb13 | exact (wb1.old ((Below.refl _ _).alloc (Nat.le_refl _) _)).old hb13 | exact ((wb1.old ((Below.refl _ _).alloc (Nat.le_refl _) _)).old ((Below.refl _ _).alloc (Nat.le_refl _) _)).old hb13 : IsCode w13 _ _ _)
      replace hB := (by with_reducible first | exact old_trans hB hb13 | exact old_trans (old_alloc hB _) hb13 | exact old_trans (old_alloc (old_alloc hB _) _) hb13 : Below w.heap.size w w13)
      have P10 := P1.1
      have P11 := P1.2.1
      have P1z := P1.2.2.2.2
      have P20 := P2.1
      have P21 := P2.2.1
      have P2z := P2.2.2.2.2
      have Mc0 := Mc.1
      have Mc1 := Mc.2.1
      have Mcz := Mc.2.2.2.2
      have Nc0 := Nc.1
      have Nc1 := Nc.2.1
      have Ncz := Nc.2.2.2.2
      have Hc0 := Hc.1
      have Hc1 := Hc.2.1
      have Hcz := Hc.2.2.2.2
      have Kc0 := Kc.1
      have Kc1 := Kc.2.1
      have Kcz := Kc.2.2.2.2
      have Zc0 := Zc.1
      have Zc1 := Zc.2.1
      have Zcz := Zc.2.2.2.2
      have Qc0 := Qc.1
      have Qc1 := Qc.2.1
      have Qcz := Qc.2.2.2.2
      have Xc0 := Xc.1
      have Xc1 := Xc.2.1
      have Xcz := Xc.2.2.2.2
      go_wp2
      go_ret
      exact ⟨rfl, (by repeat (first | exact hB | exact Below.refl _ _ | refine Below.drew ?_ | refine old_alloc ?_ _ | refine old_trans ?_ (by assumption)))⟩
    case pos => exact absurd hr (by omega)

set_option maxRecDepth 100000 in
theorem FnPairMeet_lifted (os : Os) (started : os.Started) (H : Type) (enc : TypeId × Value → H) :
    ReturnsInHanded {} Try.checked os 5 .any (Rows.fnPairMeetSpec.pre6 enc Try.prog Try.f5 Rows.fnPairMeetRow.domain false) (Rows.fnPairMeetSpec.post enc Try.prog Try.f5 false true false false) := by
  refine returnsInHanded_of_change (C := Try.checked) FnPairMeet_own started (by kernel_rfl) Try.func5
    (ChangeSpec.witness6 (enc := enc) (C := Try.checked) false ⟨#[], #[.slice none 0 0, .slice none 0 0], []⟩ 8 (by kernel_rfl) (by kernel_rfl) (by kernel_rfl) (by kernel_rfl)) ?_
  intro W base args ds gs before hval0 hW hcnd _
  have hval : ∀ (j : Nat) t v, Try.f5.params[j]? = some t → args[j]? = some v → Value.okWide Try.prog W .any base t v := hval0
  have hW' := hW
  obtain ⟨p, q, hA0, hV, rfl, hfz, hnd⟩ := hW
  have hA : DataW.TrodAll enc Try.prog W 0 (fun _ => true) true Try.f5.params.toList args.toList ds p := hA0
  rw [Try.params5] at hA hval
  obtain ⟨v0, vs0, d0, ds0, p0, q0, hargs, rfl, rfl, h0, r0⟩ := trodAll_cons hA
  obtain ⟨v1, vs1, d1, ds1, p1, q1, rfl, rfl, rfl, h1, r1⟩ := trodAll_cons r0
  obtain ⟨rfl, rfl, rfl⟩ := trodAll_nil r1
  obtain rfl : args = #[v0, v1] := by cases args; simp_all
  obtain ⟨rfl, rfl⟩ := trodVars_none hV
  have k0 := h0
  have lt0 : ∀ x ∈ p0, x.block < W.heap.size := by obtain ⟨m, hm⟩ := k0; exact DataW.trod_lt m _ _ _ hm
  obtain ⟨a0, len0, cap0, rfl, wb0⟩ := open_bytes (hval 0 22 v0 rfl rfl) h0
  have k1 := h1
  have lt1 : ∀ x ∈ p1, x.block < W.heap.size := by obtain ⟨m, hm⟩ := k1; exact DataW.trod_lt m _ _ _ hm
  obtain ⟨a1, len1, cap1, rfl, wb1⟩ := open_bytes (hval 1 22 v1 rfl rfl) h1
  clear hA0 hval0
  refine (FnPairMeet_walk a0 len0 cap0 a1 len1 cap1 W wb0 wb1).mono fun e W' ⟨he, bel⟩ => ?_
  subst he
  exact ⟨_, rfl, _, _, _, [], _, [], hW', trodAll_mk1 (shut_bool Try.underlying4 _), (trodAll_cons_mk (Below.trod jf1 (by kernel_rfl) (of_decide_eq_true (by kernel_rfl)) k0 bel lt0) (trodAll_cons_mk (Below.trod jf1 (by kernel_rfl) (of_decide_eq_true (by kernel_rfl)) k1 bel lt1) trodAll_mk0)), rfl, bel.frame _, fun h => by cases h⟩

theorem FnPairMeet_k0 : (Rows.fnPairMeetRow.wf (OpenSpec.ofChange Rows.fnPairMeetSpec)) = true := by kernel_rfl
theorem FnPairMeet_k3 : (Try.f5.params.all (Try.prog.readableRec ·)) = true := by kernel_rfl
theorem FnPairMeet_k4 : (namedTie Try.prog Rows.fnPairMeetRow.named Rows.fnPairMeetSpec.vars) = true := by kernel_rfl
theorem FnPairMeet_k5 : ((Rows.fnPairMeetRow.stops == [])) = true := by kernel_rfl
theorem FnPairMeet_k7 : ((Rows.fnPairMeetRow.knobs == [])) = true := by kernel_rfl
theorem FnPairMeet_k9 : ((Rows.fnPairMeetRow.inPlace == Try.prog.inPlace 5)) = true := by kernel_rfl
theorem FnPairMeet_k10 : ((Rows.fnPairMeetRow.unfollowed == Try.prog.unfollowed 5)) = true := by kernel_rfl
theorem FnPairMeet_k11 : ((Rows.fnPairMeetRow.recurses == Try.prog.recurses 5)) = true := by kernel_rfl
theorem FnPairMeet_k12 : ((Rows.fnPairMeetRow.named == Try.prog.varsNamed 5)) = true := by kernel_rfl
theorem FnPairMeet_k13 : ((Rows.fnPairMeetRow.maps == (Try.f5.params.toList ++ Rows.fnPairMeetSpec.plain.varTypes Try.prog).any (Try.prog.mapsRec ·))) = true := by kernel_rfl
theorem FnPairMeet_k14 : ((Rows.fnPairMeetRow.ifaces == (Try.f5.params.toList ++ Rows.fnPairMeetSpec.plain.varTypes Try.prog).any (Try.prog.ifacesRec ·))) = true := by kernel_rfl
theorem FnPairMeet_k15 : ((Rows.fnPairMeetRow.mapsOut == Try.prog.mapsAmong Try.f5.resultTypes.toList)) = true := by kernel_rfl
theorem FnPairMeet_k16 : ((Rows.fnPairMeetRow.loops == (Try.f5.params.toList ++ Rows.fnPairMeetSpec.plain.varTypes Try.prog).any (Try.prog.loopsFrom ·))) = true := by kernel_rfl
theorem FnPairMeet_k17 : ((Rows.fnPairMeetRow.wideKeys == (Try.f5.params.toList ++ Rows.fnPairMeetSpec.plain.varTypes Try.prog ++ Try.f5.resultTypes.toList).any (Try.prog.wideKeysFrom ·))) = true := by kernel_rfl
theorem FnPairMeet_k18 : (Rows.fnPairMeetSpec.vars.all (Try.prog.varReadable ·)) = true := by kernel_rfl
theorem FnPairMeet_k19 : (Try.f5.resultTypes.all (fun t => Try.prog.readableRec t && decide (t < Try.prog.types.size))) = true := by kernel_rfl
theorem FnPairMeet_k20 : ((Rows.fnPairMeetRow.ifacesOut == Try.f5.resultTypes.toList.any (Try.prog.ifacesRec ·))) = true := by kernel_rfl
theorem FnPairMeet_k21 : ((Rows.fnPairMeetRow.loopsOut == Try.f5.resultTypes.toList.any (Try.prog.loopsFrom ·))) = true := by kernel_rfl
theorem FnPairMeet_k23 : (Rows.fnPairMeetRow.shortTexts.isNone) = true := by kernel_rfl
theorem FnPairMeet_k28 : ((Rows.fnPairMeetRow.kinds == (if Rows.fnPairMeetRow.domain.isEmpty then [] else Try.f5.params.toList.map fun t => match Try.prog.underlying t with | some (.int k) => some k | _ => none))) = true := by kernel_rfl
theorem FnPairMeet_k29 : ((Rows.fnPairMeetRow.pinned == Rows.fnPairMeetRow.pinnedBy)) = true := by kernel_rfl
theorem FnPairMeet_k30 : ((Rows.fnPairMeetRow.veiled == (Try.f5.params.toList ++ Rows.fnPairMeetSpec.plain.varTypes Try.prog ++ Try.f5.resultTypes.toList).any (Try.prog.veiledRec ·))) = true := by kernel_rfl
theorem FnPairMeet_k31 : (Rows.fnPairMeetRow.veiledFits Try.prog Try.f5.params.toList (Try.f5.params.toList ++ Rows.fnPairMeetSpec.plain.varTypes Try.prog ++ Try.f5.resultTypes.toList)) = true := by kernel_rfl
set_option maxRecDepth 100000 in
theorem FnPairMeet_closed : joinedFacts Try.prog 5 Try.f5 Rows.fnPairMeetSpec Rows.fnPairMeetRow = true := (and2 (and2 (and2 (and2 (and2 (and2 (and2 (and2 (and2 (and2 (and2 (and2 (and2 (and2 (and2 (and2 (and2 (and2 (and2 (and2 (and2 (and2 (and2 (and2 (and2 (and2 (and2 (and2 (and2 (and2 (and2 FnPairMeet_k0 jf1) jf2) FnPairMeet_k3) FnPairMeet_k4) FnPairMeet_k5) jf6) FnPairMeet_k7) jf8) FnPairMeet_k9) FnPairMeet_k10) FnPairMeet_k11) FnPairMeet_k12) FnPairMeet_k13) FnPairMeet_k14) FnPairMeet_k15) FnPairMeet_k16) FnPairMeet_k17) FnPairMeet_k18) FnPairMeet_k19) FnPairMeet_k20) FnPairMeet_k21) jf22) FnPairMeet_k23) jf24) jf25) jf26) jf27) FnPairMeet_k28) FnPairMeet_k29) FnPairMeet_k30) FnPairMeet_k31)
theorem FnPairMeet_over : Rows.fnPairMeetRow.holds Try.pinned (OpenSpec.ofChange Rows.fnPairMeetSpec) :=
  OpenClaim.holds_of_wide 5 Try.f5 rfl rfl rfl rfl rfl rfl rfl ⟨rfl, rfl, rfl, rfl, rfl⟩ rfl rfl rfl rfl rfl (by kernel_rfl) Try.func5 FnPairMeet_closed
    (of_decide_eq_true (by kernel_rfl)) (by unfold Func.isWrapper; first | (rw [if_pos (by decide +kernel)]; kernel_rfl) | (rw [if_neg (by decide +kernel)]; exact ⟨rfl, rfl⟩))
    (fun os started H enc _ => FnPairMeet_lifted os started H enc)

theorem FnPairMeet_proved : Rows.FnPairMeetSaid := FnPairMeet_over
end Go.Proofs.Yteigdooniolmlaa
