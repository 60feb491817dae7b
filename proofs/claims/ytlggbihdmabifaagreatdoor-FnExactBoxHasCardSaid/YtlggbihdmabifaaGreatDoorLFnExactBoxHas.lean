/- The program's BoxHas answers as the specification's BoxHas at every argument; it writes into no argument. It leans on the tie: what no other writes of the library's tables and its handle of errors. -/
import Derived.Test.YtlggbihdmabifaaGreatDoorRows
import Derived.Test.YtlggbihdmabifaaGreatDoorTie
import Derived.Test.YtlggbihdmabifaaGreatDoorCards
import Derived.WalkKit
import Derived.ProofKit
import Derived.OpenShut
import Derived.Below
import Derived.Carry
import Derived.Test.YtlggbihdmabifaaGreatDoorPK01
import Derived.Test.YtlggbihdmabifaaGreatDoorPK04
import Derived.Test.YtlggbihdmabifaaGreatDoorPK44
import Derived.Test.YtlggbihdmabifaaGreatDoorPK18
import Derived.Test.YtlggbihdmabifaaGreatDoorPK40
namespace Go.Proofs.YtlggbihdmabifaaGreatDoor
open Go.ChangeShapes Go.WideShapes Go.ChangeAt Go.RowKit
set_option linter.unusedVariables false
set_option maxRecDepth 100000

set_option maxRecDepth 100000 in
set_option maxHeartbeats 16000000 in
theorem FnExactBoxHas_walk (a0 : Int) (wa0 : -9223372036854775808 ≤ a0 ∧ a0 ≤ 9223372036854775807) (a1 : Option Addr) (len1 cap1 : Nat) (ps1 : List (Int × Int)) (a2 : Option Addr) (len2 cap2 : Nat) (fs2 : List Fe) (w : World) (wb1 : InRow w a1 len1 cap1 ps1) (wb2 : InF w a2 len2 cap2 fs2) (hTE : Tab w ∧ ET w) :
    Calls Tryz.prog 3 #[.int .i64 a0, .agg #[.slice a1 len1 cap1], .slice a2 len2 cap2] w fun e w' => e = .returned (.bool true) ∧ Below w.heap.size w w' := by
  obtain rfl := wb1.1
  obtain ⟨hT, hE⟩ := hTE
  have hlen1 : ps1.length ≤ maxLen := Nat.le_trans wb1.2.1 wb1.2.2.1
  have SZ := hd (lSzBox a1 ps1.length cap1 1048576 hlen1 (by omega) (by omega))
  have K : Cel1 (w.alloc (.cells #[.slice a1 ps1.length cap1] 24)) w.heap.size (.slice a1 ps1.length cap1) := Cel1.made w _ rfl _ _
  have hB : Below w.heap.size w (w.alloc (.cells #[.slice a1 ps1.length cap1] 24)) := (by repeat (first | exact Below.refl _ _ | refine Below.drew ?_ | refine old_alloc ?_ _ | refine old_trans ?_ (by assumption)))
  have R := wb1.old hB
  have Fr := wb2.old hB
  have hTT := hd (fun W (h : Below w.heap.size w W) => hT.old h)
  have hEE := hd (fun W (h : Below w.heap.size w W) => hE.old h)
  unfold maxLen at hlen1
  clear wb1 wb2 hT hE
  by_cases c : (ps1.length : Int) ≤ 1048576
  case neg =>
    rw [if_neg c] at SZ
    go_enter Tryz.func3, Tryz.ntmps3
    go_upto_region 1 with fail
    generalize w.alloc (.cells #[.slice a1 ps1.length cap1] 24) = W at *
    have K0 := K.1
    go_wp2_with fail
    refine (SZ.out _).mono ?_
    rintro e w1 ⟨rfl, hb1⟩
    go_wp2
    go_ret
    exact ⟨rfl, old_trans hB hb1⟩
  rw [if_pos c] at SZ
  have hl1 : ps1.length ≤ 1048576 := by omega
  have c0 : 0 ≤ 1048576 - (ps1.length : Int) := by omega
  have c1 : 1048576 - (ps1.length : Int) ≤ 1048576 := by omega
  have c2 : ¬ (1048576 - (ps1.length : Int) < 0) := by omega
  generalize 1048576 - (ps1.length : Int) = left at *
  go_enter Tryz.func3, Tryz.ntmps3
  go_upto_region 1 with fail
  generalize w.alloc (.cells #[.slice a1 ps1.length cap1] 24) = W at *
  have K0 := K.1
  have Kz := K.2.2
  go_wp2_with fail
  refine (SZ.out _).mono ?_
  rintro e w1 ⟨rfl, hb1⟩
  clear K0 Kz
  replace K := (by with_reducible first | exact K.later hb1 | exact (K.alloc _).later hb1 | exact K.drew.later hb1 : Cel1 w1 _ _)
  replace R := (by with_reducible first | exact R.old hb1 | exact (R.alloc _).old hb1 | exact R.drew.old hb1 : InRow w1 _ _ _ _)
  replace Fr := (by with_reducible first | exact Fr.old hb1 | exact (Fr.al _).old hb1 | exact Fr.dr.old hb1 : InF w1 _ _ _ _)
  replace hB := (by with_reducible first | exact old_trans hB hb1 | exact old_trans (old_alloc hB _) hb1 | exact old_trans (Below.drew hB) hb1 : Below w.heap.size w w1)
  have K0 := K.1
  have Kz := K.2.2
  go_wp2_with fail
  refine (lSzFs a2 len2 cap2 fs2 left c0 c1 _ (by with_reducible first | exact Fr | exact Fr.al _ | exact Fr.dr)).mono ?_
  rintro e w2 ⟨⟨r, rfl, hr⟩, hb2⟩
  clear K0 Kz
  replace K := (by with_reducible first | exact K.later hb2 | exact (K.alloc _).later hb2 | exact K.drew.later hb2 : Cel1 w2 _ _)
  replace R := (by with_reducible first | exact R.old hb2 | exact (R.alloc _).old hb2 | exact R.drew.old hb2 : InRow w2 _ _ _ _)
  replace Fr := (by with_reducible first | exact Fr.old hb2 | exact (Fr.al _).old hb2 | exact Fr.dr.old hb2 : InF w2 _ _ _ _)
  replace hB := (by with_reducible first | exact old_trans hB hb2 | exact old_trans (old_alloc hB _) hb2 | exact old_trans (Below.drew hB) hb2 : Below w.heap.size w w2)
  have K0 := K.1
  have Kz := K.2.2
  rcases hr with rfl | ⟨hr0, -, hl2, hel⟩
  · go_wp2
    go_ret
    exact ⟨rfl, hB⟩
  have hr0' : ¬ r < 0 := by omega
  clear hr0 c c0 c1 c2 SZ
  replace hel := hd hel
  replace hl2 := hd hl2
  obtain rfl := Fr.1
  go_wp2_with fail
  refine (toBoxI a1 cap1 ps1 _ (by with_reducible first | exact R | exact R.alloc _ | exact R.drew) hl1).mono ?_
  rintro e w3 ⟨⟨bP, rfl, -, P⟩, hb3⟩
  clear K0 Kz
  replace K := (by with_reducible first | exact K.later hb3 | exact (K.alloc _).later hb3 | exact K.drew.later hb3 : Cel1 w3 _ _)
  replace R := (by with_reducible first | exact R.old hb3 | exact (R.alloc _).old hb3 | exact R.drew.old hb3 : InRow w3 _ _ _ _)
  replace Fr := (by with_reducible first | exact Fr.old hb3 | exact (Fr.al _).old hb3 | exact Fr.dr.old hb3 : InF w3 _ _ _ _)
  replace hB := (by with_reducible first | exact old_trans hB hb3 | exact old_trans (old_alloc hB _) hb3 | exact old_trans (Below.drew hB) hb3 : Below w.heap.size w w3)
  have K0 := K.1
  have Kz := K.2.2
  go_wp2_with fail
  refine (lToFs a2 _ cap2 fs2 _ (by with_reducible first | exact Fr | exact Fr.al _ | exact Fr.dr) hl2.out hel.out).mono ?_
  rintro e w4 ⟨⟨bQ, gs, rfl, -, uq, Q⟩, hb4⟩
  clear K0 Kz
  replace K := (by with_reducible first | exact K.later hb4 | exact (K.alloc _).later hb4 | exact K.drew.later hb4 : Cel1 w4 _ _)
  replace R := (by with_reducible first | exact R.old hb4 | exact (R.alloc _).old hb4 | exact R.drew.old hb4 : InRow w4 _ _ _ _)
  replace P := (by with_reducible first | exact P.old hb4 | exact (P.alloc _).old hb4 | exact P.drew.old hb4 : InRow w4 _ _ _ _)
  replace Fr := (by with_reducible first | exact Fr.old hb4 | exact (Fr.al _).old hb4 | exact Fr.dr.old hb4 : InF w4 _ _ _ _)
  replace hB := (by with_reducible first | exact old_trans hB hb4 | exact old_trans (old_alloc hB _) hb4 | exact old_trans (Below.drew hB) hb4 : Below w.heap.size w w4)
  have K0 := K.1
  have Kz := K.2.2
  have sq := bhB_same (wd := a0) (ps := ps1) uq
  have gl := uq.1
  replace Q := Q.inF (Nat.le_refl _) (by rw [gl]; exact Nat.le_trans hl2.out (by unfold maxLen; omega))
  rw [gl] at Q
  replace sq := hd sq
  clear uq gl
  go_wp2_with fail
  refine (sBoxHas a0 _ _ _ ps1 _ _ _ gs _ (by with_reducible first | exact P | exact P.alloc _ | exact P.drew) (by with_reducible first | exact Q | exact Q.al _ | exact Q.dr)).mono ?_
  rintro e w5 ⟨rfl, hb5⟩
  clear K0 Kz
  replace K := (by with_reducible first | exact K.later hb5 | exact (K.alloc _).later hb5 | exact K.drew.later hb5 : Cel1 w5 _ _)
  replace R := (by with_reducible first | exact R.old hb5 | exact (R.alloc _).old hb5 | exact R.drew.old hb5 : InRow w5 _ _ _ _)
  replace P := (by with_reducible first | exact P.old hb5 | exact (P.alloc _).old hb5 | exact P.drew.old hb5 : InRow w5 _ _ _ _)
  replace Fr := (by with_reducible first | exact Fr.old hb5 | exact (Fr.al _).old hb5 | exact Fr.dr.old hb5 : InF w5 _ _ _ _)
  replace Q := (by with_reducible first | exact Q.old hb5 | exact (Q.al _).old hb5 | exact Q.dr.old hb5 : InF w5 _ _ _ _)
  replace hB := (by with_reducible first | exact old_trans hB hb5 | exact old_trans (old_alloc hB _) hb5 | exact old_trans (Below.drew hB) hb5 : Below w.heap.size w w5)
  have K0 := K.1
  have Kz := K.2.2
  rw [sq.out]
  clear P Q sq
  obtain ⟨v, hv⟩ : ∃ v, v = bhB a0 ps1 fs2 := ⟨_, rfl⟩
  rw [← hv]
  replace hv := hd hv
  go_wp2_with fail
  refine (toBoxI a1 cap1 ps1 _ (by with_reducible first | exact R | exact R.alloc _ | exact R.drew) hl1).mono ?_
  rintro e w6 ⟨⟨bP, rfl, -, P⟩, hb6⟩
  clear K0 Kz
  replace K := (by with_reducible first | exact K.later hb6 | exact (K.alloc _).later hb6 | exact K.drew.later hb6 : Cel1 w6 _ _)
  replace R := (by with_reducible first | exact R.old hb6 | exact (R.alloc _).old hb6 | exact R.drew.old hb6 : InRow w6 _ _ _ _)
  replace Fr := (by with_reducible first | exact Fr.old hb6 | exact (Fr.al _).old hb6 | exact Fr.dr.old hb6 : InF w6 _ _ _ _)
  replace hB := (by with_reducible first | exact old_trans hB hb6 | exact old_trans (old_alloc hB _) hb6 | exact old_trans (Below.drew hB) hb6 : Below w.heap.size w w6)
  have K0 := K.1
  have Kz := K.2.2
  go_wp2_with fail
  refine (lToFs a2 _ cap2 fs2 _ (by with_reducible first | exact Fr | exact Fr.al _ | exact Fr.dr) hl2.out hel.out).mono ?_
  rintro e w7 ⟨⟨bQ, gs, rfl, -, uq, Q⟩, hb7⟩
  clear K0 Kz
  replace K := (by with_reducible first | exact K.later hb7 | exact (K.alloc _).later hb7 | exact K.drew.later hb7 : Cel1 w7 _ _)
  replace R := (by with_reducible first | exact R.old hb7 | exact (R.alloc _).old hb7 | exact R.drew.old hb7 : InRow w7 _ _ _ _)
  replace P := (by with_reducible first | exact P.old hb7 | exact (P.alloc _).old hb7 | exact P.drew.old hb7 : InRow w7 _ _ _ _)
  replace Fr := (by with_reducible first | exact Fr.old hb7 | exact (Fr.al _).old hb7 | exact Fr.dr.old hb7 : InF w7 _ _ _ _)
  replace hB := (by with_reducible first | exact old_trans hB hb7 | exact old_trans (old_alloc hB _) hb7 | exact old_trans (Below.drew hB) hb7 : Below w.heap.size w w7)
  have X := (Cel1.made _ _ rfl (.slice (some ⟨bP, 0, none⟩) ps1.length ps1.length) 31).later hb7
  (try simp only [World.size_alloc] at X)
  have K0 := K.1
  have Kz := K.2.2
  have X0 := X.1
  have Xz := X.2.2
  have sq := bhB_same (wd := a0) (ps := ps1) uq
  have gl := uq.1
  replace Q := Q.inF (Nat.le_refl _) (by rw [gl]; exact Nat.le_trans hl2.out (by unfold maxLen; omega))
  rw [gl] at Q
  rw [← hv.out] at sq
  replace sq := hd sq
  replace uq := hd uq.2
  clear gl hv
  go_wp2_with fail
  refine (iBoxHas a0 _ _ _ ps1 _ _ _ gs _ (by with_reducible first | exact P | exact P.alloc _ | exact P.drew) (by with_reducible first | exact Q | exact Q.al _ | exact Q.dr) (hTT.out _ (by with_reducible first | exact hB | exact old_alloc hB _ | exact Below.drew hB)) (hEE.out _ (by with_reducible first | exact hB | exact old_alloc hB _ | exact Below.drew hB))).mono ?_
  rintro e w8 ⟨rfl, hb8⟩
  clear K0 Kz X0 Xz
  replace K := (by with_reducible first | exact K.later hb8 | exact (K.alloc _).later hb8 | exact K.drew.later hb8 : Cel1 w8 _ _)
  replace X := (by with_reducible first | exact X.later hb8 | exact (X.alloc _).later hb8 | exact X.drew.later hb8 : Cel1 w8 _ _)
  replace R := (by with_reducible first | exact R.old hb8 | exact (R.alloc _).old hb8 | exact R.drew.old hb8 : InRow w8 _ _ _ _)
  replace P := (by with_reducible first | exact P.old hb8 | exact (P.alloc _).old hb8 | exact P.drew.old hb8 : InRow w8 _ _ _ _)
  replace Fr := (by with_reducible first | exact Fr.old hb8 | exact (Fr.al _).old hb8 | exact Fr.dr.old hb8 : InF w8 _ _ _ _)
  replace Q := (by with_reducible first | exact Q.old hb8 | exact (Q.al _).old hb8 | exact Q.dr.old hb8 : InF w8 _ _ _ _)
  replace hB := (by with_reducible first | exact old_trans hB hb8 | exact old_trans (old_alloc hB _) hb8 | exact old_trans (Below.drew hB) hb8 : Below w.heap.size w w8)
  have K0 := K.1
  have Kz := K.2.2
  have X0 := X.1
  have Xz := X.2.2
  rw [sq.out]
  clear sq
  go_wp2_with fail
  go_region_with (first | (go_at_call 7; refine (toBoxI a1 cap1 ps1 _ (by with_reducible first | exact R | exact R.alloc _ | exact R.drew) hl1).mono ?_; rintro e wx ⟨⟨bx, rfl, -, Rx⟩, hbx⟩; clear K0 Kz X0 Xz; replace K := (by with_reducible first | exact K.later hbx | exact (K.alloc _).later hbx | exact K.drew.later hbx : Cel1 wx _ _); replace X := (by with_reducible first | exact X.later hbx | exact (X.alloc _).later hbx | exact X.drew.later hbx : Cel1 wx _ _); replace R := (by with_reducible first | exact R.old hbx | exact (R.alloc _).old hbx | exact R.drew.old hbx : InRow wx _ _ _ _); replace P := (by with_reducible first | exact P.old hbx | exact (P.alloc _).old hbx | exact P.drew.old hbx : InRow wx _ _ _ _); replace Fr := (by with_reducible first | exact Fr.old hbx | exact (Fr.al _).old hbx | exact Fr.dr.old hbx : InF wx _ _ _ _); replace Q := (by with_reducible first | exact Q.old hbx | exact (Q.al _).old hbx | exact Q.dr.old hbx : InF wx _ _ _ _); replace hB := old_trans (Below.drew hB) hbx; have K0 := K.1; have Kz := K.2.2; have X0 := X.1; have Xz := X.2.2) | (go_at_call 10; refine (lEqBox _ _ _ _ _ ps1 _ (by with_reducible first | exact P | exact P.alloc _ | exact P.drew) (by with_reducible first | exact Rx | exact Rx.alloc _ | exact Rx.drew)).mono ?_; rintro e wy ⟨rfl, hby⟩))
  all_goals
    clear K0 Kz X0 Xz
    replace K := (by with_reducible first | exact K.later hby | exact (K.alloc _).later hby | exact K.drew.later hby : Cel1 wy _ _)
    replace X := (by with_reducible first | exact X.later hby | exact (X.alloc _).later hby | exact X.drew.later hby : Cel1 wy _ _)
    replace R := (by with_reducible first | exact R.old hby | exact (R.alloc _).old hby | exact R.drew.old hby : InRow wy _ _ _ _)
    replace P := (by with_reducible first | exact P.old hby | exact (P.alloc _).old hby | exact P.drew.old hby : InRow wy _ _ _ _)
    replace Fr := (by with_reducible first | exact Fr.old hby | exact (Fr.al _).old hby | exact Fr.dr.old hby : InF wy _ _ _ _)
    replace Q := (by with_reducible first | exact Q.old hby | exact (Q.al _).old hby | exact Q.dr.old hby : InF wy _ _ _ _)
    replace hB := (by with_reducible first | exact old_trans hB hby | exact old_trans (Below.drew hB) hby : Below w.heap.size w wy)
    have K0 := K.1
    have Kz := K.2.2
    have X0 := X.1
    have Xz := X.2.2
    go_wp2_with fail
    refine (lToFs a2 _ cap2 fs2 _ (by with_reducible first | exact Fr | exact Fr.al _ | exact Fr.dr) hl2.out hel.out).mono ?_
    rintro e w21 ⟨⟨bS, ss, rfl, -, us, S⟩, hb21⟩
    clear K0 Kz X0 Xz
    replace K := (by with_reducible first | exact K.later hb21 | exact (K.alloc _).later hb21 | exact K.drew.later hb21 : Cel1 w21 _ _)
    replace X := (by with_reducible first | exact X.later hb21 | exact (X.alloc _).later hb21 | exact X.drew.later hb21 : Cel1 w21 _ _)
    replace R := (by with_reducible first | exact R.old hb21 | exact (R.alloc _).old hb21 | exact R.drew.old hb21 : InRow w21 _ _ _ _)
    replace P := (by with_reducible first | exact P.old hb21 | exact (P.alloc _).old hb21 | exact P.drew.old hb21 : InRow w21 _ _ _ _)
    replace Fr := (by with_reducible first | exact Fr.old hb21 | exact (Fr.al _).old hb21 | exact Fr.dr.old hb21 : InF w21 _ _ _ _)
    replace Q := (by with_reducible first | exact Q.old hb21 | exact (Q.al _).old hb21 | exact Q.dr.old hb21 : InF w21 _ _ _ _)
    replace hB := (by with_reducible first | exact old_trans hB hb21 | exact old_trans (old_alloc hB _) hb21 | exact old_trans (Below.drew hB) hb21 : Below w.heap.size w w21)
    have K0 := K.1
    have Kz := K.2.2
    have X0 := X.1
    have Xz := X.2.2
    have gl := us.1
    replace S := S.inF (Nat.le_refl _) (by rw [gl]; exact Nat.le_trans hl2.out (by unfold maxLen; omega))
    rw [gl] at S
    have same : Hid (∀ i, i < fs2.length → FeSame (gs.getD i fe0) (ss.getD i fe0)) := fun i hi => by
      obtain ⟨e1, e2, e3⟩ := uq.out i hi
      obtain ⟨f1, f2, f3⟩ := us.2 i hi
      exact ⟨e1.trans f1.symm, e2.trans f2.symm, e3.trans f3.symm⟩
    clear us gl
    go_wp2_with fail
    refine (lEqFs _ _ _ _ _ gs ss _ (by with_reducible first | exact Q | exact Q.al _ | exact Q.dr) (by with_reducible first | exact S | exact S.al _ | exact S.dr) same.out).mono ?_
    rintro e w22 ⟨rfl, hb22⟩
    clear K0 Kz X0 Xz
    replace K := (by with_reducible first | exact K.later hb22 | exact (K.alloc _).later hb22 | exact K.drew.later hb22 : Cel1 w22 _ _)
    replace X := (by with_reducible first | exact X.later hb22 | exact (X.alloc _).later hb22 | exact X.drew.later hb22 : Cel1 w22 _ _)
    replace R := (by with_reducible first | exact R.old hb22 | exact (R.alloc _).old hb22 | exact R.drew.old hb22 : InRow w22 _ _ _ _)
    replace P := (by with_reducible first | exact P.old hb22 | exact (P.alloc _).old hb22 | exact P.drew.old hb22 : InRow w22 _ _ _ _)
    replace Fr := (by with_reducible first | exact Fr.old hb22 | exact (Fr.al _).old hb22 | exact Fr.dr.old hb22 : InF w22 _ _ _ _)
    replace Q := (by with_reducible first | exact Q.old hb22 | exact (Q.al _).old hb22 | exact Q.dr.old hb22 : InF w22 _ _ _ _)
    replace S := (by with_reducible first | exact S.old hb22 | exact (S.al _).old hb22 | exact S.dr.old hb22 : InF w22 _ _ _ _)
    replace hB := (by with_reducible first | exact old_trans hB hb22 | exact old_trans (old_alloc hB _) hb22 | exact old_trans (Below.drew hB) hb22 : Below w.heap.size w w22)
    have K0 := K.1
    have Kz := K.2.2
    have X0 := X.1
    have Xz := X.2.2
    go_wp2
    go_ret
    exact ⟨rfl, hB⟩
set_option maxRecDepth 100000 in
theorem FnExactBoxHas_lifted (os : Os) (started : os.Started) (H : Type) (enc : TypeId × Value → H) :
    ReturnsInHanded {} Tryz.checked os 3 .any (fun w args => (Rows.fnExactBoxHasSpec.pre enc Tryz.prog Tryz.f3 [] false w args ∧ laidMetH Tryz.prog LHL w) ∧ sizedMet enc Tryz.prog Tryz.f3 (OpenSpec.ofChange Rows.fnExactBoxHasSpec) false w args)
      (Rows.fnExactBoxHasSpec.post enc Tryz.prog Tryz.f3 false true false false) := by
  refine returnsInHanded_of_change_and (C := Tryz.checked) (X := fun w _ => laidMetH Tryz.prog LHL w) (fun _ _ _ hh h => h.of_heap hh) LH_own started (by kernel_rfl) Tryz.func3
    (ChangeSpec.witness_shaped (enc := enc) (C := Tryz.checked) (os := os) (X := fun w _ => laidMetH Tryz.prog LHL w) false (World.doorLaid Tryz.prog LH_fuel os) #[.int .i64 0, .agg #[.slice none 0 0], .slice none 0 0] 8 rfl (LH_shaped os _) (by kernel_rfl) (by kernel_rfl) (by kernel_rfl) (LH_met os _)) ?_
  intro W base args ds gs before hval0 hW _ _ hL _
  have hval : ∀ (j : Nat) t v, Tryz.f3.params[j]? = some t → args[j]? = some v → Value.okWide Tryz.prog W .any base t v := hval0
  have hW' := hW
  obtain ⟨p, q, hA0, hV, rfl, hfz, hnd⟩ := hW
  have hA : DataW.TrodAll enc Tryz.prog W 0 (fun _ => true) true Tryz.f3.params.toList args.toList ds p := hA0
  rw [Tryz.params3] at hA hval
  obtain ⟨v0, vs0, d0, ds0, p0, q0, hargs, rfl, rfl, h0, r0⟩ := trodAll_cons hA
  obtain ⟨v1, vs1, d1, ds1, p1, q1, rfl, rfl, rfl, h1, r1⟩ := trodAll_cons r0
  obtain ⟨v2, vs2, d2, ds2, p2, q2, rfl, rfl, rfl, h2, r2⟩ := trodAll_cons r1
  obtain ⟨rfl, rfl, rfl⟩ := trodAll_nil r2
  obtain rfl : args = #[v0, v1, v2] := by cases args; simp_all
  obtain ⟨rfl, rfl⟩ := trodVars_none hV
  have k0 := h0
  have lt0 : ∀ x ∈ p0, x.block < W.heap.size := by obtain ⟨m, hm⟩ := k0; exact DataW.trod_lt m _ _ _ hm
  obtain ⟨a0, rfl, -, -, wf0⟩ := open_int Tryz.underlying3 (hval 0 3 v0 rfl rfl) h0
  have wa0 := bounds_i64 wf0
  have k1 := h1
  have lt1 : ∀ x ∈ p1, x.block < W.heap.size := by obtain ⟨m, hm⟩ := k1; exact DataW.trod_lt m _ _ _ hm
  obtain ⟨a1, len1, cap1, ps1, rfl, wb1⟩ := open_lbox (hval 1 24 v1 rfl rfl) h1
  have k2 := h2
  have lt2 : ∀ x ∈ p2, x.block < W.heap.size := by obtain ⟨m, hm⟩ := k2; exact DataW.trod_lt m _ _ _ hm
  obtain ⟨a2, len2, cap2, fs2, rfl, wb2⟩ := open_lfracs (hval 2 25 v2 rfl rfl) h2
  clear hA0 hval0
  refine (FnExactBoxHas_walk a0 wa0 a1 len1 cap1 ps1 a2 len2 cap2 fs2 W wb1 wb2 (both_of hL)).mono fun e W' ⟨he, bel⟩ => ?_
  subst he
  exact ⟨_, rfl, _, _, _, [], _, [], hW', trodAll_mk1 (shut_bool Tryz.underlying4 _), (trodAll_cons_mk (Below.trod jf1 (by kernel_rfl) (of_decide_eq_true (by kernel_rfl)) k0 bel lt0) (trodAll_cons_mk (Below.trod jf1 (by kernel_rfl) (of_decide_eq_true (by kernel_rfl)) k1 bel lt1) (trodAll_cons_mk (Below.trod jf1 (by kernel_rfl) (of_decide_eq_true (by kernel_rfl)) k2 bel lt2) trodAll_mk0))), rfl, bel.frame _, fun h => by cases h⟩

theorem FnExactBoxHas_k0 : (Rows.fnExactBoxHasRow.wf (OpenSpec.ofChange Rows.fnExactBoxHasSpec)) = true := by kernel_rfl
theorem FnExactBoxHas_k3 : (Tryz.f3.params.all (Tryz.prog.readableRec ·)) = true := by kernel_rfl
theorem FnExactBoxHas_k4 : (namedTie Tryz.prog Rows.fnExactBoxHasRow.named Rows.fnExactBoxHasSpec.vars) = true := by kernel_rfl
theorem FnExactBoxHas_k5 : ((Rows.fnExactBoxHasRow.stops == [])) = true := by kernel_rfl
theorem FnExactBoxHas_k7 : ((Rows.fnExactBoxHasRow.knobs == [])) = true := by kernel_rfl
theorem FnExactBoxHas_k9 : ((Rows.fnExactBoxHasRow.inPlace == Tryz.prog.inPlace 3)) = true := by kernel_rfl
theorem FnExactBoxHas_k10 : ((Rows.fnExactBoxHasRow.unfollowed == Tryz.prog.unfollowed 3)) = true := by kernel_rfl
theorem FnExactBoxHas_k11 : ((Rows.fnExactBoxHasRow.recurses == Tryz.prog.recurses 3)) = true := by kernel_rfl
theorem FnExactBoxHas_k12 : ((Rows.fnExactBoxHasRow.named == Tryz.prog.varsNamed 3)) = true := by kernel_rfl
theorem FnExactBoxHas_k13 : ((Rows.fnExactBoxHasRow.maps == (Tryz.f3.params.toList ++ Rows.fnExactBoxHasSpec.plain.varTypes Tryz.prog).any (Tryz.prog.mapsRec ·))) = true := by kernel_rfl
theorem FnExactBoxHas_k14 : ((Rows.fnExactBoxHasRow.ifaces == (Tryz.f3.params.toList ++ Rows.fnExactBoxHasSpec.plain.varTypes Tryz.prog).any (Tryz.prog.ifacesRec ·))) = true := by kernel_rfl
theorem FnExactBoxHas_k15 : ((Rows.fnExactBoxHasRow.mapsOut == Tryz.prog.mapsAmong Tryz.f3.resultTypes.toList)) = true := by kernel_rfl
theorem FnExactBoxHas_k16 : ((Rows.fnExactBoxHasRow.loops == (Tryz.f3.params.toList ++ Rows.fnExactBoxHasSpec.plain.varTypes Tryz.prog).any (Tryz.prog.loopsFrom ·))) = true := by kernel_rfl
theorem FnExactBoxHas_k17 : ((Rows.fnExactBoxHasRow.wideKeys == (Tryz.f3.params.toList ++ Rows.fnExactBoxHasSpec.plain.varTypes Tryz.prog ++ Tryz.f3.resultTypes.toList).any (Tryz.prog.wideKeysFrom ·))) = true := by kernel_rfl
theorem FnExactBoxHas_k18 : (Rows.fnExactBoxHasSpec.vars.all (Tryz.prog.varReadable ·)) = true := by kernel_rfl
theorem FnExactBoxHas_k19 : (Tryz.f3.resultTypes.all (fun t => Tryz.prog.readableRec t && decide (t < Tryz.prog.types.size))) = true := by kernel_rfl
theorem FnExactBoxHas_k20 : ((Rows.fnExactBoxHasRow.ifacesOut == Tryz.f3.resultTypes.toList.any (Tryz.prog.ifacesRec ·))) = true := by kernel_rfl
theorem FnExactBoxHas_k21 : ((Rows.fnExactBoxHasRow.loopsOut == Tryz.f3.resultTypes.toList.any (Tryz.prog.loopsFrom ·))) = true := by kernel_rfl
theorem FnExactBoxHas_k23 : (Rows.fnExactBoxHasRow.shortTexts.isNone) = true := by kernel_rfl
theorem FnExactBoxHas_k28 : ((Rows.fnExactBoxHasRow.kinds == (if Rows.fnExactBoxHasRow.domain.isEmpty then [] else Tryz.f3.params.toList.map fun t => match Tryz.prog.underlying t with | some (.int k) => some k | _ => none))) = true := by kernel_rfl
theorem FnExactBoxHas_k29 : ((Rows.fnExactBoxHasRow.pinned == Rows.fnExactBoxHasRow.pinnedBy)) = true := by kernel_rfl
theorem FnExactBoxHas_k30 : ((Rows.fnExactBoxHasRow.veiled == (Tryz.f3.params.toList ++ Rows.fnExactBoxHasSpec.plain.varTypes Tryz.prog ++ Tryz.f3.resultTypes.toList).any (Tryz.prog.veiledRec ·))) = true := by kernel_rfl
theorem FnExactBoxHas_k31 : (Rows.fnExactBoxHasRow.veiledFits Tryz.prog Tryz.f3.params.toList (Tryz.f3.params.toList ++ Rows.fnExactBoxHasSpec.plain.varTypes Tryz.prog ++ Tryz.f3.resultTypes.toList)) = true := by kernel_rfl
set_option maxRecDepth 100000 in
theorem FnExactBoxHas_closed : joinedFacts Tryz.prog 3 Tryz.f3 Rows.fnExactBoxHasSpec Rows.fnExactBoxHasRow = true := (and2 (and2 (and2 (and2 (and2 (and2 (and2 (and2 (and2 (and2 (and2 (and2 (and2 (and2 (and2 (and2 (and2 (and2 (and2 (and2 (and2 (and2 (and2 (and2 (and2 (and2 (and2 (and2 (and2 (and2 (and2 FnExactBoxHas_k0 jf1) jf2) FnExactBoxHas_k3) FnExactBoxHas_k4) FnExactBoxHas_k5) jf6) FnExactBoxHas_k7) jf8) FnExactBoxHas_k9) FnExactBoxHas_k10) FnExactBoxHas_k11) FnExactBoxHas_k12) FnExactBoxHas_k13) FnExactBoxHas_k14) FnExactBoxHas_k15) FnExactBoxHas_k16) FnExactBoxHas_k17) FnExactBoxHas_k18) FnExactBoxHas_k19) FnExactBoxHas_k20) FnExactBoxHas_k21) jf22) FnExactBoxHas_k23) jf24) jf25) jf26) jf27) FnExactBoxHas_k28) FnExactBoxHas_k29) FnExactBoxHas_k30) FnExactBoxHas_k31)
theorem FnExactBoxHas_row : Rows.FnExactBoxHasSaid :=
  OpenClaim.holds_of_wide 3 Tryz.f3 rfl rfl rfl rfl rfl rfl rfl ⟨rfl, rfl, rfl, rfl, rfl⟩ rfl rfl rfl rfl rfl (by kernel_rfl) Tryz.func3 FnExactBoxHas_closed
    (of_decide_eq_true (by kernel_rfl)) (by unfold Func.isWrapper; first | (rw [if_pos (by decide +kernel)]; kernel_rfl) | (rw [if_neg (by decide +kernel)]; exact ⟨rfl, rfl⟩))
    (fun os started H enc _ => FnExactBoxHas_lifted os started H enc)

theorem FnExactBoxHas_proved : Rows.FnExactBoxHasCardSaid :=
  Claim7.holds_tied_plain_at .later [] [.data, .data, .handle] true (true, "b31d064509978204ca214a44fc69baf0f88c46c0174adae6258563f70de6ac7f") true
    FnExactBoxHas_row (fun _ h => by cases h) (by kernel_rfl) (fun _ h => by cases h) fnExactBoxHas_row_tie rfl ⟨rfl, rfl⟩ (by kernel_rfl) rfl
    (fun f fn hf hfn => by
      obtain rfl : f = 3 := Option.some.inj ((show Tryz.prog.funcNamed "loop.example/pinfold/laws.FnExactBoxHas" = some 3 by kernel_rfl).symm.trans hf) |>.symm
      obtain rfl : fn = Tryz.f3 := (Option.some.inj (Tryz.func3.symm.trans hfn)).symm
      exact ⟨by kernel_rfl, fun j t ht => by
        rw [Tryz.params3] at ht
        have hm : t ∈ [3, 24, 25] := by simpa using Array.mem_of_getElem? ht
        have hall : ([3, 24, 25].all fun u => !Tryz.prog.wantsStandIn u) = true := by kernel_rfl
        exact (show Tryz.prog.wantsStandIn t = false by simpa using List.all_eq_true.1 hall t hm)⟩)
    (by kernel_rfl)
end Go.Proofs.YtlggbihdmabifaaGreatDoor
