/- The program's TermPut answers as the specification's TermPut at every term, list of names and list of terms; it writes into no argument, and what it answers is its own. No condition. -/
import Derived.Test.YtcdhmimbnnicnaaRows
import Derived.WalkKit
import Derived.ProofKit
import Derived.OpenShut
import Derived.Below
import Derived.Carry
import Derived.Test.YtcdhmimbnnicnaaPK01
import Derived.Test.YtcdhmimbnnicnaaPK17
import Derived.Test.YtcdhmimbnnicnaaPK07
import Derived.Test.YtcdhmimbnnicnaaPK18
namespace Go.Proofs.Ytcdhmimbnnicnaa
open Go.ChangeShapes Go.WideShapes Go.ChangeAt Go.RowKit
set_option linter.unusedVariables false
set_option maxRecDepth 100000

theorem FnExactTermPut_own : ownKnob Try.prog.godebug = none := by kernel_rfl

set_option maxRecDepth 100000 in
set_option maxHeartbeats 16000000 in
theorem FnExactTermPut_walk (a0 : Option Addr) (len0 cap0 : Nat) (xs0 : List Tn) (a1 : Option Addr) (len1 cap1 : Nat) (xs1 : List ByteArray) (a2 : Option Addr) (len2 cap2 : Nat) (ts2 : List Te) (w : World) (wb0 : InN w a0 len0 cap0 xs0) (wb1 : InT w a1 len1 cap1 xs1) (wb2 : InTs w a2 len2 cap2 ts2):
    Calls Try.prog 3 #[.agg #[.slice a0 len0 cap0], .slice a1 len1 cap1, .slice a2 len2 cap2] w fun e w' => e = .returned (.bool true) ∧ Below w.heap.size w w' := by
  obtain rfl := wb0.1
  obtain rfl := wb1.1
  obtain rfl := wb2.1
  have K : Cl1 (w.alloc (.cells #[.slice a0 xs0.length cap0] 24)) w.heap.size (.slice a0 xs0.length cap0) := Cl1.made w _ rfl _ _
  have hB : Below w.heap.size w (w.alloc (.cells #[.slice a0 xs0.length cap0] 24)) := old_alloc (Below.refl _ _) _
  have R0 := hd (fun W (h : Below w.heap.size w W) => wb0.old h)
  have R1 := hd (fun W (h : Below w.heap.size w W) => wb1.old h)
  have R2 := hd (fun W (h : Below w.heap.size w W) => wb2.old h)
  have S := hd (fun a cap an cn gs base b top w R RN T h1 h2 => sTP a cap xs0 an cn xs1 ts2 gs base b top w R RN T h1 h2)
  have I := hd (fun a cap an cn gs base b top w R RN T h1 h2 => iTP a cap xs0 an cn xs1 ts2 gs base b top w R RN T h1 h2)
  have hrl := tpL_len xs1 (ts2.map Te.xs) xs0
  clear wb0 wb1 wb2
  generalize tpL xs1 (ts2.map Te.xs) xs0 = r at *
  generalize tpB xs1 (ts2.map Te.xs) xs0 = ok at *
  obtain ⟨pK, hpK⟩ : ∃ p, w.heap.size = p := ⟨_, rfl⟩
  rw [hpK] at K
  go_enter Try.func3, Try.ntmps3
  have K0 := K.1
  have K2 := K.2.2
  rw [hpK]
  go_wp2_with fail
  refine (lSzTermL a0 _ cap0 xs0 1048576 (by omega) (by omega) _ (R0.out _ hB)).mono ?_
  rintro e w1 ⟨⟨l1, rfl, hl1⟩, hb1⟩
  clear K0 K2
  replace K := K.later hb1
  replace hB := old_trans hB hb1
  clear hb1
  have K0 := K.1
  have K2 := K.2.2
  rcases hl1 with rfl | ⟨q0, q1⟩
  · go_wp2
    go_ret
    exact ⟨rfl, by rw [← hpK]; exact hB⟩
  have q0' : ¬ l1 < 0 := by omega
  go_wp2_with fail
  refine (lSzTexts a1 _ cap1 xs1 l1 q0 (by omega) _ (R1.out _ hB)).mono ?_
  rintro e w2 ⟨⟨l2, rfl, hl2⟩, hb2⟩
  clear K0 K2
  replace K := K.later hb2
  replace hB := old_trans hB hb2
  clear hb2
  have K0 := K.1
  have K2 := K.2.2
  rcases hl2 with rfl | ⟨q2, q3⟩
  · go_wp2
    go_ret
    exact ⟨rfl, by rw [← hpK]; exact hB⟩
  have q2' : ¬ l2 < 0 := by omega
  go_wp2_with fail
  refine (lSzTs a2 _ cap2 ts2 l2 q2 (by omega) _ (R2.out _ hB)).mono ?_
  rintro e w3 ⟨⟨l3, rfl, hl3⟩, hb3⟩
  clear K0 K2
  replace K := K.later hb3
  replace hB := old_trans hB hb3
  clear hb3
  have K0 := K.1
  have K2 := K.2.2
  rcases hl3 with rfl | ⟨q4, q5⟩
  · go_wp2
    go_ret
    exact ⟨rfl, by rw [← hpK]; exact hB⟩
  have q4' : ¬ l3 < 0 := by omega
  have hn0 : xs0.length ≤ 1048576 := by omega
  have hn1 : xs1.length ≤ 1048576 := by omega
  have hn2 : ts2.length ≤ 1048576 := by omega
  have hn3 : xs0.length + xs1.length + sumU ts2 ts2.length ≤ 1048576 := by omega
  have hn4 : Hid (∀ i, i < ts2.length → (ts2.getD i te0).xs.length ≤ 1048576) := fun i hi => Nat.le_trans (sumU_at hi) (by omega)
  generalize hsu : sumU ts2 ts2.length = su at *
  replace hsu := hd hsu
  clear q0 q1 q2 q3 q5 q0' q2'
  go_wp2_with fail
  refine (toTermO a0 cap0 xs0 _ (R0.out _ hB) hn0).mono ?_
  rintro e w4 ⟨⟨bP0, rfl, P0⟩, hb4⟩
  clear K0 K2
  have P0hi := hb4.size
  replace K := K.later hb4
  replace hB := old_trans hB hb4
  clear hb4
  have K0 := K.1
  have K2 := K.2.2
  go_wp2_with fail
  refine (toTextsO a1 cap1 xs1 _ (R1.out _ hB) hn1).mono ?_
  rintro e w5 ⟨⟨avP1, cvP1, rfl, P1⟩, hb5⟩
  clear K0 K2
  have P1hi := hb5.size
  replace K := K.later hb5
  replace P0 := P0.later hb5
  replace hB := old_trans hB hb5
  clear hb5
  have K0 := K.1
  have K2 := K.2.2
  go_wp2_with fail
  refine (lToTs a2 _ cap2 ts2 _ (R2.out _ hB) hn2 hn4.out).mono ?_
  rintro e w6 ⟨⟨bP2, gp, rfl, ep1, ep2, P2⟩, hb6⟩
  clear K0 K2
  have P2hi := hb6.size
  replace K := K.later hb6
  replace P0 := P0.later hb6
  replace P1 := P1.later hb6
  replace hB := old_trans hB hb6
  clear hb6
  have K0 := K.1
  have K2 := K.2.2
  replace ep1 := hd ep1
  replace ep2 := hd ep2
  go_wp2_with fail
  refine (S.out _ _ _ _ _ _ _ _ _ P0.inN P1.inT P2 ep1.out ep2.out).mono ?_
  rintro e w7 ⟨⟨avW, cvW, rfl, W⟩, hb7⟩
  clear K0 K2
  have Whi := hb7.size
  have Wlt := W.lt
  have Wge := W.ge
  replace K := K.later hb7
  replace P0 := P0.later hb7
  replace P1 := P1.later hb7
  replace P2 := P2.later hb7
  replace hB := old_trans hB hb7
  clear hb7
  have K0 := K.1
  have K2 := K.2.2
  clear P0 P1 P2
  clear P0hi P1hi P2hi ep1 ep2
  have sK := K.2.2
  clear K0 K2
  have oKY8 := K.2.2
  have alY8 : Below w7.heap.size w7 (w7.alloc (.cells #[.slice avW r.length cvW] 32)) := old_alloc (Below.refl _ _) _
  have Y8 : Cl1 (w7.alloc (.cells #[.slice avW r.length cvW] 32)) w7.heap.size (.slice avW r.length cvW) := Cl1.made _ _ rfl _ _
  replace K := K.later alY8
  replace W := W.later alY8
  replace hB := old_trans hB alY8
  clear alY8
  have K0 := K.1
  have K2 := K.2.2
  have Y80 := Y8.1
  have Y82 := Y8.2.2
  go_wp2_with fail
  clear K0 K2 Y80 Y82
  have sY8 : w7.heap.size < (w7.alloc (.cells #[.slice avW r.length cvW] 32)).heap.size := by simp
  generalize w7.alloc (.cells #[.slice avW r.length cvW] 32) = VY8 at *
  generalize hpY8 : w7.heap.size = pY8 at *
  have K0 := K.1
  have K2 := K.2.2
  have Y80 := Y8.1
  have Y82 := Y8.2.2
  refine (toTermO a0 cap0 xs0 _ (R0.out _ hB) hn0).mono ?_
  rintro e w8 ⟨⟨bX, rfl, X⟩, hb8⟩
  clear K0 K2 Y80 Y82
  have Xhi := hb8.size
  have Xlt := X.lt
  have Xge := X.2.2.1
  replace K := K.later hb8
  replace Y8 := Y8.later hb8
  replace W := W.later hb8
  replace hB := old_trans hB hb8
  clear hb8
  have K0 := K.1
  have K2 := K.2.2
  have Y80 := Y8.1
  have Y82 := Y8.2.2
  clear K0 K2 Y80 Y82
  have oKY10 := K.2.2
  have oY8Y10 := Y8.2.2
  have alY10 : Below w8.heap.size w8 (w8.alloc (.cells #[.slice (some ⟨bX, 0, none⟩) xs0.length xs0.length] 32)) := old_alloc (Below.refl _ _) _
  have Y10 : Cl1 (w8.alloc (.cells #[.slice (some ⟨bX, 0, none⟩) xs0.length xs0.length] 32)) w8.heap.size (.slice (some ⟨bX, 0, none⟩) xs0.length xs0.length) := Cl1.made _ _ rfl _ _
  replace K := K.later alY10
  replace Y8 := Y8.later alY10
  replace W := W.later alY10
  replace X := X.later alY10
  replace hB := old_trans hB alY10
  clear alY10
  have K0 := K.1
  have K2 := K.2.2
  have Y80 := Y8.1
  have Y82 := Y8.2.2
  have Y100 := Y10.1
  have Y102 := Y10.2.2
  go_wp2_with fail
  clear K0 K2 Y80 Y82 Y100 Y102
  have sY10 : w8.heap.size < (w8.alloc (.cells #[.slice (some ⟨bX, 0, none⟩) xs0.length xs0.length] 32)).heap.size := by simp
  generalize w8.alloc (.cells #[.slice (some ⟨bX, 0, none⟩) xs0.length xs0.length] 32) = VY10 at *
  generalize hpY10 : w8.heap.size = pY10 at *
  have K0 := K.1
  have K2 := K.2.2
  have Y80 := Y8.1
  have Y82 := Y8.2.2
  have Y100 := Y10.1
  have Y102 := Y10.2.2
  refine (toTextsO a1 cap1 xs1 _ (R1.out _ hB) hn1).mono ?_
  rintro e w9 ⟨⟨avN, cvN, rfl, N⟩, hb9⟩
  clear K0 K2 Y80 Y82 Y100 Y102
  have Nhi := hb9.size
  have Nlt := N.lt
  have Nge := N.ge
  replace K := K.later hb9
  replace Y8 := Y8.later hb9
  replace Y10 := Y10.later hb9
  replace W := W.later hb9
  replace X := X.later hb9
  replace hB := old_trans hB hb9
  clear hb9
  have K0 := K.1
  have K2 := K.2.2
  have Y80 := Y8.1
  have Y82 := Y8.2.2
  have Y100 := Y10.1
  have Y102 := Y10.2.2
  go_wp2_with fail
  refine (lToTs a2 _ cap2 ts2 _ (R2.out _ hB) hn2 hn4.out).mono ?_
  rintro e w10 ⟨⟨bT, gs, rfl, e1, e2, T⟩, hb10⟩
  clear K0 K2 Y80 Y82 Y100 Y102
  have Thi := hb10.size
  have Tlt := T.hi
  have Tge := T.ge
  replace K := K.later hb10
  replace Y8 := Y8.later hb10
  replace Y10 := Y10.later hb10
  replace W := W.later hb10
  replace X := X.later hb10
  replace N := N.later hb10
  replace hB := old_trans hB hb10
  clear hb10
  have K0 := K.1
  have K2 := K.2.2
  have Y80 := Y8.1
  have Y82 := Y8.2.2
  have Y100 := Y10.1
  have Y102 := Y10.2.2
  replace e1 := hd e1
  replace e2 := hd e2
  go_wp2_with fail
  refine (I.out _ _ _ _ _ _ _ _ _ X.inN N.inT T e1.out e2.out).mono ?_
  rintro e w11 ⟨⟨avG, cvG, rfl, G⟩, hb11⟩
  clear K0 K2 Y80 Y82 Y100 Y102
  have Ghi := hb11.size
  have Glt := G.lt
  have Gge := G.ge
  replace K := K.later hb11
  replace Y8 := Y8.later hb11
  replace Y10 := Y10.later hb11
  replace W := W.later hb11
  replace X := X.later hb11
  replace N := N.later hb11
  replace T := T.later hb11
  replace hB := old_trans hB hb11
  clear hb11
  have K0 := K.1
  have K2 := K.2.2
  have Y80 := Y8.1
  have Y82 := Y8.2.2
  have Y100 := Y10.1
  have Y102 := Y10.2.2
  clear K0 K2 Y80 Y82 Y100 Y102
  have oKY13 := K.2.2
  have oY8Y13 := Y8.2.2
  have oY10Y13 := Y10.2.2
  have alY13 : Below w11.heap.size w11 (w11.alloc (.cells #[.slice avG r.length cvG] 32)) := old_alloc (Below.refl _ _) _
  have Y13 : Cl1 (w11.alloc (.cells #[.slice avG r.length cvG] 32)) w11.heap.size (.slice avG r.length cvG) := Cl1.made _ _ rfl _ _
  replace K := K.later alY13
  replace Y8 := Y8.later alY13
  replace Y10 := Y10.later alY13
  replace W := W.later alY13
  replace X := X.later alY13
  replace N := N.later alY13
  replace T := T.later alY13
  replace G := G.later alY13
  replace hB := old_trans hB alY13
  clear alY13
  have K0 := K.1
  have K2 := K.2.2
  have Y80 := Y8.1
  have Y82 := Y8.2.2
  have Y100 := Y10.1
  have Y102 := Y10.2.2
  have Y130 := Y13.1
  have Y132 := Y13.2.2
  go_wp2_with fail
  clear K0 K2 Y80 Y82 Y100 Y102 Y130 Y132
  have sY13 : w11.heap.size < (w11.alloc (.cells #[.slice avG r.length cvG] 32)).heap.size := by simp
  generalize w11.alloc (.cells #[.slice avG r.length cvG] 32) = VY13 at *
  generalize hpY13 : w11.heap.size = pY13 at *
  have K0 := K.1
  have K2 := K.2.2
  have Y80 := Y8.1
  have Y82 := Y8.2.2
  have Y100 := Y10.1
  have Y102 := Y10.2.2
  have Y130 := Y13.1
  have Y132 := Y13.2.2
  refine (lEqTerm _ _ _ _ _ r _ G.inn W.inn).mono ?_
  rintro e w12 ⟨rfl, hb12⟩
  clear K0 K2 Y80 Y82 Y100 Y102 Y130 Y132
  replace K := K.later hb12
  replace Y8 := Y8.later hb12
  replace Y10 := Y10.later hb12
  replace Y13 := Y13.later hb12
  replace W := W.later hb12
  replace X := X.later hb12
  replace N := N.later hb12
  replace T := T.later hb12
  replace G := G.later hb12
  replace hB := old_trans hB hb12
  clear hb12
  have K0 := K.1
  have K2 := K.2.2
  have Y80 := Y8.1
  have Y82 := Y8.2.2
  have Y100 := Y10.1
  have Y102 := Y10.2.2
  have Y130 := Y13.1
  have Y132 := Y13.2.2
  go_wp2_with fail
  go_region_held3 (fun w' => w'.cell? ⟨pY10, 0, none⟩ = some (.slice (some ⟨bX, 0, none⟩) xs0.length xs0.length) ∧ w'.cell? ⟨pK, 0, none⟩ = some (.slice a0 xs0.length cap0)) (go_keep) (first | (go_at_call 10; refine (toTermO a0 cap0 xs0 _ (R0.out _ (Below.drew hB)) hn0).mono ?_; rintro e wa ⟨⟨bZ, rfl, Z⟩, hba⟩; have K := K.drew.later hba; have Y8 := Y8.drew.later hba; have Y10 := Y10.drew.later hba; have Y13 := Y13.drew.later hba; have W := W.drew.later hba; have X := X.drew.later hba; have N := N.drew.later hba; have T := T.drew.later hba; have G := G.drew.later hba; have hB := old_trans (Below.drew hB) hba; have K0 := K.1; have K2 := K.2.2; have Y80 := Y8.1; have Y82 := Y8.2.2; have Y100 := Y10.1; have Y102 := Y10.2.2; have Y130 := Y13.1; have Y132 := Y13.2.2) | (go_at_call 14; refine (lEqTerm _ _ _ _ _ xs0 _ X.inN Z.inN).mono ?_; rintro e wb ⟨rfl, hbb⟩; have K := K.later hbb; have Y8 := Y8.later hbb; have Y10 := Y10.later hbb; have Y13 := Y13.later hbb; have W := W.later hbb; have X := X.later hbb; have N := N.later hbb; have T := T.later hbb; have G := G.later hbb; have hB := old_trans hB hbb; have K0 := K.1; have K2 := K.2.2; have Y80 := Y8.1; have Y82 := Y8.2.2; have Y100 := Y10.1; have Y102 := Y10.2.2; have Y130 := Y13.1; have Y132 := Y13.2.2))
  clear hba hbb Z
  go_wp2_with fail
  refine (toTextsO a1 cap1 xs1 _ (R1.out _ hB) hn1).mono ?_
  rintro e w13 ⟨⟨avZ, cvZ, rfl, Z1⟩, hb13⟩
  clear K0 K2 Y80 Y82 Y100 Y102 Y130 Y132
  have Z1hi := hb13.size
  replace K := K.later hb13
  replace Y8 := Y8.later hb13
  replace Y10 := Y10.later hb13
  replace Y13 := Y13.later hb13
  replace W := W.later hb13
  replace X := X.later hb13
  replace N := N.later hb13
  replace T := T.later hb13
  replace G := G.later hb13
  replace hB := old_trans hB hb13
  clear hb13
  have K0 := K.1
  have K2 := K.2.2
  have Y80 := Y8.1
  have Y82 := Y8.2.2
  have Y100 := Y10.1
  have Y102 := Y10.2.2
  have Y130 := Y13.1
  have Y132 := Y13.2.2
  go_wp2_with fail
  refine (lEqTO avN avZ cvN cvZ _ _ xs1 _ N Z1).mono ?_
  rintro e w14 ⟨rfl, hb14⟩
  clear K0 K2 Y80 Y82 Y100 Y102 Y130 Y132
  replace K := K.later hb14
  replace Y8 := Y8.later hb14
  replace Y10 := Y10.later hb14
  replace Y13 := Y13.later hb14
  replace W := W.later hb14
  replace X := X.later hb14
  replace N := N.later hb14
  replace T := T.later hb14
  replace G := G.later hb14
  replace Z1 := Z1.later hb14
  replace hB := old_trans hB hb14
  clear hb14
  have K0 := K.1
  have K2 := K.2.2
  have Y80 := Y8.1
  have Y82 := Y8.2.2
  have Y100 := Y10.1
  have Y102 := Y10.2.2
  have Y130 := Y13.1
  have Y132 := Y13.2.2
  clear Z1
  clear Z1hi
  go_wp2_with fail
  refine (lToTs a2 _ cap2 ts2 _ (R2.out _ hB) hn2 hn4.out).mono ?_
  rintro e w15 ⟨⟨bZ2, gz, rfl, ez1, ez2, Z2⟩, hb15⟩
  clear K0 K2 Y80 Y82 Y100 Y102 Y130 Y132
  have Z2hi := hb15.size
  replace K := K.later hb15
  replace Y8 := Y8.later hb15
  replace Y10 := Y10.later hb15
  replace Y13 := Y13.later hb15
  replace W := W.later hb15
  replace X := X.later hb15
  replace N := N.later hb15
  replace T := T.later hb15
  replace G := G.later hb15
  replace hB := old_trans hB hb15
  clear hb15
  have K0 := K.1
  have K2 := K.2.2
  have Y80 := Y8.1
  have Y82 := Y8.2.2
  have Y100 := Y10.1
  have Y102 := Y10.2.2
  have Y130 := Y13.1
  have Y132 := Y13.2.2
  go_wp2_with fail
  refine (lEqGT T Z2 e1.out e2.out ez1 ez2).mono ?_
  rintro e w16 ⟨rfl, hb16⟩
  clear K0 K2 Y80 Y82 Y100 Y102 Y130 Y132
  replace K := K.later hb16
  replace Y8 := Y8.later hb16
  replace Y10 := Y10.later hb16
  replace Y13 := Y13.later hb16
  replace W := W.later hb16
  replace X := X.later hb16
  replace N := N.later hb16
  replace T := T.later hb16
  replace G := G.later hb16
  replace Z2 := Z2.later hb16
  replace hB := old_trans hB hb16
  clear hb16
  have K0 := K.1
  have K2 := K.2.2
  have Y80 := Y8.1
  have Y82 := Y8.2.2
  have Y100 := Y10.1
  have Y102 := Y10.2.2
  have Y130 := Y13.1
  have Y132 := Y13.2.2
  clear Z2
  clear Z2hi ez1 ez2
  have hBs := hB.size
  rw [hpK] at hBs
  go_wp2_with fail
  refine (lMarkTermO _ bX xs0 1 _ X hn0 (by omega) (by omega)).mono ?_
  rintro e w17 ⟨rfl, hg1⟩
  clear K0 K2 Y80 Y82 Y100 Y102 Y130 Y132
  replace K := K.kept hg1 (by intro h; injection h with h; omega)
  replace Y8 := Y8.kept hg1 (by intro h; injection h with h; omega)
  replace Y10 := Y10.kept hg1 (by intro h; injection h with h; omega)
  replace Y13 := Y13.kept hg1 (by intro h; injection h with h; omega)
  replace W := W.kept hg1 (fun q e h => by injection h with h; have := Wge q e; have := Wlt q e; omega)
  replace N := N.kept hg1 (fun q e h => by injection h with h; have := Nge q e; have := Nlt q e; omega)
  replace G := G.kept hg1 (fun q e h => by injection h with h; have := Gge q e; have := Glt q e; omega)
  replace T := T.kept hg1 (fun r e => by injection e with e; omega)
  replace hB := Below.markedN hB X hg1 (by rw [hpK]; omega) hB.size
  clear X
  clear hg1
  have K0 := K.1
  have K2 := K.2.2
  have Y80 := Y8.1
  have Y82 := Y8.2.2
  have Y100 := Y10.1
  have Y102 := Y10.2.2
  have Y130 := Y13.1
  have Y132 := Y13.2.2
  obtain ⟨kn, hkn⟩ : ∃ kn : Int, 1 + 3 * (xs0.length : Int) = kn := ⟨_, rfl⟩
  have hkb : 0 ≤ kn ∧ kn ≤ 3145729 := by omega
  rw [hkn]
  clear hkn
  go_wp2_with fail
  refine (lMarkTO _ avN cvN xs1 kn _ N hn1 hkb.1 (by omega)).mono ?_
  rintro e w18 ⟨rfl, -, hg2⟩
  clear K0 K2 Y80 Y82 Y100 Y102 Y130 Y132
  replace K := K.kept hg2 (ne_dn Nge (by omega))
  replace Y8 := Y8.kept hg2 (ne_dn Nge (by omega))
  replace Y10 := Y10.kept hg2 (ne_dn Nge (by omega))
  replace Y13 := Y13.kept hg2 (ne_up Nlt (by omega))
  replace W := W.kept hg2 (ne_lo Wlt Nge (by omega))
  replace G := G.kept hg2 (ne_hi Gge Nlt (by omega))
  replace T := T.kept hg2 (fun r e => by have := own_lt Nlt r e; omega)
  replace hB := Below.markedT hB N hg2 (by rw [hpK]; omega) hB.size
  clear N
  clear hg2
  have K0 := K.1
  have K2 := K.2.2
  have Y80 := Y8.1
  have Y82 := Y8.2.2
  have Y100 := Y10.1
  have Y102 := Y10.2.2
  have Y130 := Y13.1
  have Y132 := Y13.2.2
  obtain ⟨km, hkm⟩ : ∃ km : Int, kn + (xs1.length : Int) = km := ⟨_, rfl⟩
  have hkc : 0 ≤ km ∧ km ≤ 4194305 := by omega
  rw [hkm]
  clear hkm hkb
  go_wp2_with fail
  refine (lMarkGT km T e1.out e2.out hsu.out hn2 (by omega) hkc.1 (by omega)).mono ?_
  rintro e w19 ⟨rfl, hg3⟩
  clear K0 K2 Y80 Y82 Y100 Y102 Y130 Y132
  replace K := K.out hg3 (by omega)
  replace Y8 := Y8.out hg3 (by omega)
  replace Y10 := Y10.out hg3 (by omega)
  replace Y13 := Y13.out hg3 (by omega)
  replace W := W.out hg3 (fun q e => by have := Wlt q e; omega)
  replace G := G.out hg3 (fun q e => by have := Gge q e; omega)
  replace hB := Below.byOut hB hg3 (fun i h => by rw [hpK]; omega) hB.size
  clear T
  clear hg3 e1 e2
  have K0 := K.1
  have K2 := K.2.2
  have Y80 := Y8.1
  have Y82 := Y8.2.2
  have Y100 := Y10.1
  have Y102 := Y10.2.2
  have Y130 := Y13.1
  have Y132 := Y13.2.2
  have hkd : ¬ (km + 3 * (su : Int) < 0) := by omega
  generalize km + 3 * (su : Int) = kz at *
  clear hkc
  go_wp2_with fail
  refine (lEqTerm _ _ _ _ _ r _ G.inn W.inn).mono ?_
  rintro e w20 ⟨rfl, hb20⟩
  clear K0 K2 Y80 Y82 Y100 Y102 Y130 Y132
  replace K := K.later hb20
  replace Y8 := Y8.later hb20
  replace Y10 := Y10.later hb20
  replace Y13 := Y13.later hb20
  replace W := W.later hb20
  replace G := G.later hb20
  replace hB := old_trans hB hb20
  clear hb20
  have K0 := K.1
  have K2 := K.2.2
  have Y80 := Y8.1
  have Y82 := Y8.2.2
  have Y100 := Y10.1
  have Y102 := Y10.2.2
  have Y130 := Y13.1
  have Y132 := Y13.2.2
  go_wp2_with fail
  refine (lMarkTermG _ avG cvG r 1 _ G (by omega) (by omega) (by omega)).mono ?_
  rintro e w21 ⟨rfl, G', hg4⟩
  clear K0 K2 Y80 Y82 Y100 Y102 Y130 Y132
  replace K := K.kept hg4 (ne_dn Gge (by omega))
  replace Y8 := Y8.kept hg4 (ne_dn Gge (by omega))
  replace Y10 := Y10.kept hg4 (ne_dn Gge (by omega))
  replace Y13 := Y13.kept hg4 (ne_up Glt (by omega))
  replace W := W.kept hg4 (ne_lo Wlt Gge (by omega))
  replace hB := Below.markedTn hB G hg4 (by rw [hpK]; omega) hB.size
  clear G
  clear hg4
  have K0 := K.1
  have K2 := K.2.2
  have Y80 := Y8.1
  have Y82 := Y8.2.2
  have Y100 := Y10.1
  have Y102 := Y10.2.2
  have Y130 := Y13.1
  have Y132 := Y13.2.2
  go_wp2_with fail
  refine (lHeldTermG _ avG cvG r.length 1 _ G' (by omega) (by omega) (by omega)).mono ?_
  rintro e w22 ⟨rfl, hb22⟩
  clear K0 K2 Y80 Y82 Y100 Y102 Y130 Y132
  replace K := K.later hb22
  replace Y8 := Y8.later hb22
  replace Y10 := Y10.later hb22
  replace Y13 := Y13.later hb22
  replace W := W.later hb22
  replace G' := G'.later hb22
  replace hB := old_trans hB hb22
  clear hb22
  have K0 := K.1
  have K2 := K.2.2
  have Y80 := Y8.1
  have Y82 := Y8.2.2
  have Y100 := Y10.1
  have Y102 := Y10.2.2
  have Y130 := Y13.1
  have Y132 := Y13.2.2
  have hkq : ¬ (1 + 3 * (r.length : Int) < 0) := by omega
  generalize hmm : 1 + 3 * (r.length : Int) = mm at *
  go_wp2_with fail
  refine (toTermO a0 cap0 xs0 _ (R0.out _ hB) hn0).mono ?_
  rintro e w23 ⟨⟨bQ0, rfl, Q0⟩, hb23⟩
  clear K0 K2 Y80 Y82 Y100 Y102 Y130 Y132
  have Q0hi := hb23.size
  replace K := K.later hb23
  replace Y8 := Y8.later hb23
  replace Y10 := Y10.later hb23
  replace Y13 := Y13.later hb23
  replace W := W.later hb23
  replace G' := G'.later hb23
  replace hB := old_trans hB hb23
  clear hb23
  have K0 := K.1
  have K2 := K.2.2
  have Y80 := Y8.1
  have Y82 := Y8.2.2
  have Y100 := Y10.1
  have Y102 := Y10.2.2
  have Y130 := Y13.1
  have Y132 := Y13.2.2
  go_wp2_with fail
  refine (toTextsO a1 cap1 xs1 _ (R1.out _ hB) hn1).mono ?_
  rintro e w24 ⟨⟨avQ1, cvQ1, rfl, Q1⟩, hb24⟩
  clear K0 K2 Y80 Y82 Y100 Y102 Y130 Y132
  have Q1hi := hb24.size
  replace K := K.later hb24
  replace Y8 := Y8.later hb24
  replace Y10 := Y10.later hb24
  replace Y13 := Y13.later hb24
  replace W := W.later hb24
  replace G' := G'.later hb24
  replace Q0 := Q0.later hb24
  replace hB := old_trans hB hb24
  clear hb24
  have K0 := K.1
  have K2 := K.2.2
  have Y80 := Y8.1
  have Y82 := Y8.2.2
  have Y100 := Y10.1
  have Y102 := Y10.2.2
  have Y130 := Y13.1
  have Y132 := Y13.2.2
  go_wp2_with fail
  refine (lToTs a2 _ cap2 ts2 _ (R2.out _ hB) hn2 hn4.out).mono ?_
  rintro e w25 ⟨⟨bQ2, gq, rfl, eq1, eq2, Q2⟩, hb25⟩
  clear K0 K2 Y80 Y82 Y100 Y102 Y130 Y132
  have Q2hi := hb25.size
  replace K := K.later hb25
  replace Y8 := Y8.later hb25
  replace Y10 := Y10.later hb25
  replace Y13 := Y13.later hb25
  replace W := W.later hb25
  replace G' := G'.later hb25
  replace Q0 := Q0.later hb25
  replace Q1 := Q1.later hb25
  replace hB := old_trans hB hb25
  clear hb25
  have K0 := K.1
  have K2 := K.2.2
  have Y80 := Y8.1
  have Y82 := Y8.2.2
  have Y100 := Y10.1
  have Y102 := Y10.2.2
  have Y130 := Y13.1
  have Y132 := Y13.2.2
  replace eq1 := hd eq1
  replace eq2 := hd eq2
  go_wp2_with fail
  refine (I.out _ _ _ _ _ _ _ _ _ Q0.inN Q1.inT Q2 eq1.out eq2.out).mono ?_
  rintro e w26 ⟨⟨avH, cvH, rfl, H⟩, hb26⟩
  clear K0 K2 Y80 Y82 Y100 Y102 Y130 Y132
  have Hhi := hb26.size
  replace K := K.later hb26
  replace Y8 := Y8.later hb26
  replace Y10 := Y10.later hb26
  replace Y13 := Y13.later hb26
  replace W := W.later hb26
  replace G' := G'.later hb26
  replace Q0 := Q0.later hb26
  replace Q1 := Q1.later hb26
  replace Q2 := Q2.later hb26
  replace hB := old_trans hB hb26
  clear hb26
  have K0 := K.1
  have K2 := K.2.2
  have Y80 := Y8.1
  have Y82 := Y8.2.2
  have Y100 := Y10.1
  have Y102 := Y10.2.2
  have Y130 := Y13.1
  have Y132 := Y13.2.2
  clear Q0 Q1 Q2
  clear Q0hi Q1hi Q2hi eq1 eq2
  clear K0 K2 Y80 Y82 Y100 Y102 Y130 Y132
  have oKY18 := K.2.2
  have oY8Y18 := Y8.2.2
  have oY10Y18 := Y10.2.2
  have oY13Y18 := Y13.2.2
  have alY18 : Below w26.heap.size w26 (w26.alloc (.cells #[.slice avH r.length cvH] 32)) := old_alloc (Below.refl _ _) _
  have Y18 : Cl1 (w26.alloc (.cells #[.slice avH r.length cvH] 32)) w26.heap.size (.slice avH r.length cvH) := Cl1.made _ _ rfl _ _
  replace K := K.later alY18
  replace Y8 := Y8.later alY18
  replace Y10 := Y10.later alY18
  replace Y13 := Y13.later alY18
  replace W := W.later alY18
  replace G' := G'.later alY18
  replace H := H.later alY18
  replace hB := old_trans hB alY18
  clear alY18
  have K0 := K.1
  have K2 := K.2.2
  have Y80 := Y8.1
  have Y82 := Y8.2.2
  have Y100 := Y10.1
  have Y102 := Y10.2.2
  have Y130 := Y13.1
  have Y132 := Y13.2.2
  have Y180 := Y18.1
  have Y182 := Y18.2.2
  go_wp2_with fail
  clear K0 K2 Y80 Y82 Y100 Y102 Y130 Y132 Y180 Y182
  have sY18 : w26.heap.size < (w26.alloc (.cells #[.slice avH r.length cvH] 32)).heap.size := by simp
  generalize w26.alloc (.cells #[.slice avH r.length cvH] 32) = VY18 at *
  generalize hpY18 : w26.heap.size = pY18 at *
  have K0 := K.1
  have K2 := K.2.2
  have Y80 := Y8.1
  have Y82 := Y8.2.2
  have Y100 := Y10.1
  have Y102 := Y10.2.2
  have Y130 := Y13.1
  have Y132 := Y13.2.2
  have Y180 := Y18.1
  have Y182 := Y18.2.2
  refine (lEqTerm _ _ _ _ _ r _ H.inn W.inn).mono ?_
  rintro e w27 ⟨rfl, hb27⟩
  clear K0 K2 Y80 Y82 Y100 Y102 Y130 Y132 Y180 Y182
  replace K := K.later hb27
  replace Y8 := Y8.later hb27
  replace Y10 := Y10.later hb27
  replace Y13 := Y13.later hb27
  replace Y18 := Y18.later hb27
  replace W := W.later hb27
  replace G' := G'.later hb27
  replace H := H.later hb27
  replace hB := old_trans hB hb27
  clear hb27
  have K0 := K.1
  have K2 := K.2.2
  have Y80 := Y8.1
  have Y82 := Y8.2.2
  have Y100 := Y10.1
  have Y102 := Y10.2.2
  have Y130 := Y13.1
  have Y132 := Y13.2.2
  have Y180 := Y18.1
  have Y182 := Y18.2.2
  go_wp2_with fail
  have HL := lHeldTermG _ avG cvG r.length 1 _ G' (by omega) (by omega) (by omega)
  rw [hmm] at HL
  refine HL.mono ?_
  rintro e wz ⟨rfl, hbz⟩
  replace hB := old_trans hB hbz
  go_wp2
  go_ret
  exact ⟨rfl, by rw [← hpK]; exact hB⟩

set_option maxRecDepth 100000 in
theorem FnExactTermPut_lifted (os : Os) (started : os.Started) (H : Type) (enc : TypeId × Value → H) :
    ReturnsInHanded {} Try.checked os 3 .any (Rows.fnExactTermPutSpec.pre6 enc Try.prog Try.f3 Rows.fnExactTermPutRow.domain false) (Rows.fnExactTermPutSpec.post enc Try.prog Try.f3 false true false false) := by
  refine returnsInHanded_of_change (C := Try.checked) FnExactTermPut_own started (by kernel_rfl) Try.func3
    (ChangeSpec.witness6 (enc := enc) (C := Try.checked) false ⟨#[], #[.agg #[.slice none 0 0], .slice none 0 0, .slice none 0 0], []⟩ 8 (by kernel_rfl) (by kernel_rfl) (by kernel_rfl) (by kernel_rfl)) ?_
  intro W base args ds gs before hval0 hW hcnd _
  have hval : ∀ (j : Nat) t v, Try.f3.params[j]? = some t → args[j]? = some v → Value.okWide Try.prog W .any base t v := hval0
  have hW' := hW
  obtain ⟨p, q, hA0, hV, rfl, hfz, hnd⟩ := hW
  have hA : DataW.TrodAll enc Try.prog W 0 (fun _ => true) true Try.f3.params.toList args.toList ds p := hA0
  rw [Try.params3] at hA hval
  obtain ⟨v0, vs0, d0, ds0, p0, q0, hargs, rfl, rfl, h0, r0⟩ := trodAll_cons hA
  obtain ⟨v1, vs1, d1, ds1, p1, q1, rfl, rfl, rfl, h1, r1⟩ := trodAll_cons r0
  obtain ⟨v2, vs2, d2, ds2, p2, q2, rfl, rfl, rfl, h2, r2⟩ := trodAll_cons r1
  obtain ⟨rfl, rfl, rfl⟩ := trodAll_nil r2
  obtain rfl : args = #[v0, v1, v2] := by cases args; simp_all
  obtain ⟨rfl, rfl⟩ := trodVars_none hV
  have k0 := h0
  have lt0 : ∀ x ∈ p0, x.block < W.heap.size := by obtain ⟨m, hm⟩ := k0; exact DataW.trod_lt m _ _ _ hm
  obtain ⟨a0, len0, cap0, xs0, rfl, wb0⟩ := open_lterm (hval 0 24 v0 rfl rfl) h0
  have k1 := h1
  have lt1 : ∀ x ∈ p1, x.block < W.heap.size := by obtain ⟨m, hm⟩ := k1; exact DataW.trod_lt m _ _ _ hm
  obtain ⟨a1, len1, cap1, xs1, rfl, wb1⟩ := open_ltexts (hval 1 25 v1 rfl rfl) h1
  have k2 := h2
  have lt2 : ∀ x ∈ p2, x.block < W.heap.size := by obtain ⟨m, hm⟩ := k2; exact DataW.trod_lt m _ _ _ hm
  obtain ⟨a2, len2, cap2, ts2, rfl, wb2⟩ := open_lterms (hval 2 26 v2 rfl rfl) h2
  clear hA0 hval0
  refine (FnExactTermPut_walk a0 len0 cap0 xs0 a1 len1 cap1 xs1 a2 len2 cap2 ts2 W wb0 wb1 wb2).mono fun e W' ⟨he, bel⟩ => ?_
  subst he
  exact ⟨_, rfl, _, _, _, [], _, [], hW', trodAll_mk1 (shut_bool Try.underlying4 _), (trodAll_cons_mk (Below.trod jf1 (by kernel_rfl) (of_decide_eq_true (by kernel_rfl)) k0 bel lt0) (trodAll_cons_mk (Below.trod jf1 (by kernel_rfl) (of_decide_eq_true (by kernel_rfl)) k1 bel lt1) (trodAll_cons_mk (Below.trod jf1 (by kernel_rfl) (of_decide_eq_true (by kernel_rfl)) k2 bel lt2) trodAll_mk0))), rfl, bel.frame _, fun h => by cases h⟩

theorem FnExactTermPut_k0 : (Rows.fnExactTermPutRow.wf (OpenSpec.ofChange Rows.fnExactTermPutSpec)) = true := by kernel_rfl
theorem FnExactTermPut_k3 : (Try.f3.params.all (Try.prog.readableRec ·)) = true := by kernel_rfl
theorem FnExactTermPut_k4 : (namedTie Try.prog Rows.fnExactTermPutRow.named Rows.fnExactTermPutSpec.vars) = true := by kernel_rfl
theorem FnExactTermPut_k5 : ((Rows.fnExactTermPutRow.stops == [])) = true := by kernel_rfl
theorem FnExactTermPut_k7 : ((Rows.fnExactTermPutRow.knobs == [])) = true := by kernel_rfl
theorem FnExactTermPut_k9 : ((Rows.fnExactTermPutRow.inPlace == Try.prog.inPlace 3)) = true := by kernel_rfl
theorem FnExactTermPut_k10 : ((Rows.fnExactTermPutRow.unfollowed == Try.prog.unfollowed 3)) = true := by kernel_rfl
theorem FnExactTermPut_k11 : ((Rows.fnExactTermPutRow.recurses == Try.prog.recurses 3)) = true := by kernel_rfl
theorem FnExactTermPut_k12 : ((Rows.fnExactTermPutRow.named == Try.prog.varsNamed 3)) = true := by kernel_rfl
theorem FnExactTermPut_k13 : ((Rows.fnExactTermPutRow.maps == (Try.f3.params.toList ++ Rows.fnExactTermPutSpec.plain.varTypes Try.prog).any (Try.prog.mapsRec ·))) = true := by kernel_rfl
theorem FnExactTermPut_k14 : ((Rows.fnExactTermPutRow.ifaces == (Try.f3.params.toList ++ Rows.fnExactTermPutSpec.plain.varTypes Try.prog).any (Try.prog.ifacesRec ·))) = true := by kernel_rfl
theorem FnExactTermPut_k15 : ((Rows.fnExactTermPutRow.mapsOut == Try.prog.mapsAmong Try.f3.resultTypes.toList)) = true := by kernel_rfl
theorem FnExactTermPut_k16 : ((Rows.fnExactTermPutRow.loops == (Try.f3.params.toList ++ Rows.fnExactTermPutSpec.plain.varTypes Try.prog).any (Try.prog.loopsFrom ·))) = true := by kernel_rfl
theorem FnExactTermPut_k17 : ((Rows.fnExactTermPutRow.wideKeys == (Try.f3.params.toList ++ Rows.fnExactTermPutSpec.plain.varTypes Try.prog ++ Try.f3.resultTypes.toList).any (Try.prog.wideKeysFrom ·))) = true := by kernel_rfl
theorem FnExactTermPut_k18 : (Rows.fnExactTermPutSpec.vars.all (Try.prog.varReadable ·)) = true := by kernel_rfl
theorem FnExactTermPut_k19 : (Try.f3.resultTypes.all (fun t => Try.prog.readableRec t && decide (t < Try.prog.types.size))) = true := by kernel_rfl
theorem FnExactTermPut_k20 : ((Rows.fnExactTermPutRow.ifacesOut == Try.f3.resultTypes.toList.any (Try.prog.ifacesRec ·))) = true := by kernel_rfl
theorem FnExactTermPut_k21 : ((Rows.fnExactTermPutRow.loopsOut == Try.f3.resultTypes.toList.any (Try.prog.loopsFrom ·))) = true := by kernel_rfl
theorem FnExactTermPut_k23 : (Rows.fnExactTermPutRow.shortTexts.isNone) = true := by kernel_rfl
theorem FnExactTermPut_k28 : ((Rows.fnExactTermPutRow.kinds == (if Rows.fnExactTermPutRow.domain.isEmpty then [] else Try.f3.params.toList.map fun t => match Try.prog.underlying t with | some (.int k) => some k | _ => none))) = true := by kernel_rfl
theorem FnExactTermPut_k29 : ((Rows.fnExactTermPutRow.pinned == Rows.fnExactTermPutRow.pinnedBy)) = true := by kernel_rfl
theorem FnExactTermPut_k30 : ((Rows.fnExactTermPutRow.veiled == (Try.f3.params.toList ++ Rows.fnExactTermPutSpec.plain.varTypes Try.prog ++ Try.f3.resultTypes.toList).any (Try.prog.veiledRec ·))) = true := by kernel_rfl
theorem FnExactTermPut_k31 : (Rows.fnExactTermPutRow.veiledFits Try.prog Try.f3.params.toList (Try.f3.params.toList ++ Rows.fnExactTermPutSpec.plain.varTypes Try.prog ++ Try.f3.resultTypes.toList)) = true := by kernel_rfl
set_option maxRecDepth 100000 in
theorem FnExactTermPut_closed : joinedFacts Try.prog 3 Try.f3 Rows.fnExactTermPutSpec Rows.fnExactTermPutRow = true := (and2 (and2 (and2 (and2 (and2 (and2 (and2 (and2 (and2 (and2 (and2 (and2 (and2 (and2 (and2 (and2 (and2 (and2 (and2 (and2 (and2 (and2 (and2 (and2 (and2 (and2 (and2 (and2 (and2 (and2 (and2 FnExactTermPut_k0 jf1) jf2) FnExactTermPut_k3) FnExactTermPut_k4) FnExactTermPut_k5) jf6) FnExactTermPut_k7) jf8) FnExactTermPut_k9) FnExactTermPut_k10) FnExactTermPut_k11) FnExactTermPut_k12) FnExactTermPut_k13) FnExactTermPut_k14) FnExactTermPut_k15) FnExactTermPut_k16) FnExactTermPut_k17) FnExactTermPut_k18) FnExactTermPut_k19) FnExactTermPut_k20) FnExactTermPut_k21) jf22) FnExactTermPut_k23) jf24) jf25) jf26) jf27) FnExactTermPut_k28) FnExactTermPut_k29) FnExactTermPut_k30) FnExactTermPut_k31)
theorem FnExactTermPut_over : Rows.fnExactTermPutRow.holds Try.pinned (OpenSpec.ofChange Rows.fnExactTermPutSpec) :=
  OpenClaim.holds_of_wide 3 Try.f3 rfl rfl rfl rfl rfl rfl rfl ⟨rfl, rfl, rfl, rfl, rfl⟩ rfl rfl rfl rfl rfl (by kernel_rfl) Try.func3 FnExactTermPut_closed
    (of_decide_eq_true (by kernel_rfl)) (by unfold Func.isWrapper; first | (rw [if_pos (by decide +kernel)]; kernel_rfl) | (rw [if_neg (by decide +kernel)]; exact ⟨rfl, rfl⟩))
    (fun os started H enc _ => FnExactTermPut_lifted os started H enc)

theorem FnExactTermPut_proved : Rows.FnExactTermPutSaid := FnExactTermPut_over
end Go.Proofs.Ytcdhmimbnnicnaa
