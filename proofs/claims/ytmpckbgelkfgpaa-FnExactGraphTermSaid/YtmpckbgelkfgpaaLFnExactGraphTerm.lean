/- The program's GraphTerm answers as the specification's GraphTerm at every graph, place and list of names; it writes into no argument, and what it answers is its own. No condition. -/
import Derived.Test.YtmpckbgelkfgpaaRows
import Derived.WalkKit
import Derived.ProofKit
import Derived.OpenShut
import Derived.Below
import Derived.Carry
import Derived.Test.YtmpckbgelkfgpaaPK01
import Derived.Test.YtmpckbgelkfgpaaPK28
import Derived.Test.YtmpckbgelkfgpaaPK20
import Derived.Test.YtmpckbgelkfgpaaPK14
import Derived.Test.YtmpckbgelkfgpaaPK23
import Derived.Test.YtmpckbgelkfgpaaPK19
import Derived.Test.YtmpckbgelkfgpaaPK29
namespace Go.Proofs.Ytmpckbgelkfgpaa
open Go.ChangeShapes Go.WideShapes Go.ChangeAt Go.RowKit
set_option linter.unusedVariables false
set_option maxRecDepth 100000

theorem FnExactGraphTerm_own : ownKnob Try.prog.godebug = none := by kernel_rfl

set_option maxRecDepth 100000 in
set_option maxHeartbeats 16000000 in
theorem FnExactGraphTerm_walk (vs0 : Int) (a0 : Option Addr) (len0 cap0 : Nat) (xs0 : List Gn) (a0' : Option Addr) (len0' cap0' : Nat) (ys0 : List Gr) (a1 : Int) (wa1 : -9223372036854775808 ≤ a1 ∧ a1 ≤ 9223372036854775807) (a2 : Option Addr) (len2 cap2 : Nat) (xs2 : List ByteArray) (w : World) (wb0 : InGn w a0 len0 cap0 xs0) (wb0' : InGr w a0' len0' cap0' ys0) (wb2 : InT w a2 len2 cap2 xs2):
    Calls Try.prog 5 #[.agg #[.int .i64 vs0, .slice a0 len0 cap0, .slice a0' len0' cap0'], .int .i64 a1, .slice a2 len2 cap2] w fun e w' => e = .returned (.bool true) ∧ Below w.heap.size w w' := by
  obtain rfl := wb0.1
  obtain rfl := wb0'.1
  obtain rfl := wb2.1
  have hf := hd wb0.2.2.2.1
  have hf' := hd wb0'.2.2.2.1
  have hm := hd (Nat.le_trans wb0.2.1 wb0.2.2.1)
  have hm' := hd (Nat.le_trans wb0'.2.1 wb0'.2.2.1)
  have K : CS (w.alloc (.cells #[.int .i64 vs0, .slice a0 xs0.length cap0, .slice a0' ys0.length cap0'] 65)) w.heap.size [.int .i64 vs0, .slice a0 xs0.length cap0, .slice a0' ys0.length cap0'] := CS.made w _ rfl #[_, _, _] _
  have hB : Below w.heap.size w (w.alloc (.cells #[.int .i64 vs0, .slice a0 xs0.length cap0, .slice a0' ys0.length cap0'] 65)) := old_alloc (Below.refl _ _) _
  have R0 := hd (fun W (h : Below w.heap.size w W) => wb0.old h)
  have R0' := hd (fun W (h : Below w.heap.size w W) => wb0'.old h)
  have R2 := hd (fun W (h : Below w.heap.size w W) => wb2.old h)
  obtain ⟨r, ok, hG⟩ := GTis.mk' (gTP vs0 xs0 ys0 a1 xs2) (trm xs2 xs0 a1.toNat)
  have hrl : r.length ≤ 100 := by
    rw [hG.val]
    split
    · exact trm_le _
    · simp
  have S := hd (fun a cap a' cap' an cn w (h : InGn w a xs0.length cap xs0) (h' : InGr w a' ys0.length cap' ys0) (RN : InT w an xs2.length cn xs2) l1 l2 => sGraphTerm vs0 a _ cap xs0 a' _ cap' ys0 a1 an cn xs2 w h h' RN l1 l2 r ok hG)
  have I := hd (fun a cap a' cap' an cn w (h : InGn w a xs0.length cap xs0) (h' : InGr w a' ys0.length cap' ys0) (RN : InT w an xs2.length cn xs2) l1 l2 => iGraphTerm vs0 a _ cap xs0 a' _ cap' ys0 a1 an cn xs2 w h h' RN l1 l2 r ok hG)
  clear wb0 wb0' wb2 hG
  obtain ⟨pK, hpK⟩ : ∃ p, w.heap.size = p := ⟨_, rfl⟩
  rw [hpK] at K
  go_enter Try.func5, Try.ntmps5
  have K0 := K.cell 0 _ rfl
  have K1 := K.cell 1 _ rfl
  have K2 := K.cell 2 _ rfl
  have KL := K.lt
  rw [hpK]
  go_wp2_with fail
  refine (lSzGraph vs0 a0 _ cap0 xs0 a0' _ cap0' ys0 _ (R0.out _ hB) (R0'.out _ hB)).mono ?_
  rintro e w1 ⟨⟨l1, rfl, hl1⟩, hb1⟩
  clear K0 K1 K2 KL
  replace K := K.later hb1
  replace hB := old_trans hB hb1
  clear hb1
  have K0 := K.cell 0 _ rfl
  have K1 := K.cell 1 _ rfl
  have K2 := K.cell 2 _ rfl
  have KL := K.lt
  rcases hl1 with rfl | ⟨q0, q1, hn0, hn0'⟩
  · go_wp2
    go_ret
    exact ⟨rfl, by rw [← hpK]; exact hB⟩
  have q0' : ¬ l1 < 0 := by omega
  go_wp2_with fail
  refine (lSzTexts a2 _ cap2 xs2 l1 q0 q1 _ (R2.out _ hB)).mono ?_
  rintro e w2 ⟨⟨l2, rfl, hl2⟩, hb2⟩
  clear K0 K1 K2 KL
  replace K := K.later hb2
  replace hB := old_trans hB hb2
  clear hb2
  have K0 := K.cell 0 _ rfl
  have K1 := K.cell 1 _ rfl
  have K2 := K.cell 2 _ rfl
  have KL := K.lt
  rcases hl2 with rfl | ⟨q2, q3⟩
  · go_wp2
    go_ret
    exact ⟨rfl, by rw [← hpK]; exact hB⟩
  have q2' : ¬ l2 < 0 := by omega
  have hn2 : xs2.length ≤ 1048576 := by omega
  clear q0 q1 q2 q3 q0'
  go_wp2_with fail
  refine (lToGraph vs0 a0 _ cap0 xs0 a0' _ cap0' ys0 _ (R0.out _ hB) (R0'.out _ hB) hn0 hn0').mono ?_
  rintro e w3 ⟨⟨bpr, bpq, rfl, -, -, pr, pq⟩, hb3⟩
  clear K0 K1 K2 KL
  replace K := K.later hb3
  replace hB := old_trans hB hb3
  clear hb3
  have K0 := K.cell 0 _ rfl
  have K1 := K.cell 1 _ rfl
  have K2 := K.cell 2 _ rfl
  have KL := K.lt
  go_wp2_with fail
  refine (toTextsO a2 cap2 xs2 _ (R2.out _ hB) hn2).mono ?_
  rintro e w4 ⟨⟨avP1, cvP1, rfl, P1⟩, hb4⟩
  clear K0 K1 K2 KL
  have P1hi := hb4.size
  have P1lt := P1.lt
  have P1ge := P1.ge
  replace K := K.later hb4
  replace pr := pr.old hb4
  replace pq := pq.old hb4
  replace hB := old_trans hB hb4
  clear hb4
  have K0 := K.cell 0 _ rfl
  have K1 := K.cell 1 _ rfl
  have K2 := K.cell 2 _ rfl
  have KL := K.lt
  go_wp2_with fail
  refine (S.out _ _ _ _ _ _ _ (pr.inGn hf.out (Nat.le_refl _) hm.out) (pq.inGr hf'.out (Nat.le_refl _) hm'.out) P1.inT hn0 hn0').mono ?_
  rintro e w5 ⟨⟨avW, cvW, rfl, W⟩, hb5⟩
  clear K0 K1 K2 KL
  have Whi := hb5.size
  have Wlt := W.lt
  have Wge := W.ge
  replace K := K.later hb5
  replace pr := pr.old hb5
  replace pq := pq.old hb5
  replace P1 := P1.later hb5
  replace hB := old_trans hB hb5
  clear hb5
  have K0 := K.cell 0 _ rfl
  have K1 := K.cell 1 _ rfl
  have K2 := K.cell 2 _ rfl
  have KL := K.lt
  clear P1 pr pq
  clear P1hi P1lt P1ge
  have sK := K.lt
  clear K0 K1 K2 KL
  have alY8 : Below w5.heap.size w5 (w5.alloc (.cells #[.slice avW r.length cvW] 49)) := old_alloc (Below.refl _ _) _
  have Y8 : Cl1 (w5.alloc (.cells #[.slice avW r.length cvW] 49)) w5.heap.size (.slice avW r.length cvW) := Cl1.made _ _ rfl _ _
  replace K := K.later alY8
  replace W := W.later alY8
  replace hB := old_trans hB alY8
  clear alY8
  have K0 := K.cell 0 _ rfl
  have K1 := K.cell 1 _ rfl
  have K2 := K.cell 2 _ rfl
  have KL := K.lt
  have Y80 := Y8.1
  have Y82 := Y8.2.2
  go_wp2_with fail
  clear K0 K1 K2 KL Y80 Y82
  have sY8 : w5.heap.size < (w5.alloc (.cells #[.slice avW r.length cvW] 49)).heap.size := by simp
  generalize w5.alloc (.cells #[.slice avW r.length cvW] 49) = VY8 at *
  generalize hpY8 : w5.heap.size = pY8 at *
  have K0 := K.cell 0 _ rfl
  have K1 := K.cell 1 _ rfl
  have K2 := K.cell 2 _ rfl
  have KL := K.lt
  have Y80 := Y8.1
  have Y82 := Y8.2.2
  refine (lToGraph vs0 a0 _ cap0 xs0 a0' _ cap0' ys0 _ (R0.out _ hB) (R0'.out _ hB) hn0 hn0').mono ?_
  rintro e w6 ⟨⟨bxr, bxq, rfl, xrge, xqge, xr, xq⟩, hb6⟩
  clear K0 K1 K2 KL Y80 Y82
  replace K := K.later hb6
  replace Y8 := Y8.later hb6
  replace W := W.later hb6
  replace hB := old_trans hB hb6
  clear hb6
  have K0 := K.cell 0 _ rfl
  have K1 := K.cell 1 _ rfl
  have K2 := K.cell 2 _ rfl
  have KL := K.lt
  have Y80 := Y8.1
  have Y82 := Y8.2.2
  have xrlt := xr.1
  have xqlt := xq.1
  clear K0 K1 K2 KL Y80 Y82
  have alX : Below w6.heap.size w6 (w6.alloc (.cells #[.int .i64 vs0, .slice (some ⟨bxr, 0, none⟩) xs0.length xs0.length, .slice (some ⟨bxq, 0, none⟩) ys0.length ys0.length] 71)) := old_alloc (Below.refl _ _) _
  have X : CS (w6.alloc (.cells #[.int .i64 vs0, .slice (some ⟨bxr, 0, none⟩) xs0.length xs0.length, .slice (some ⟨bxq, 0, none⟩) ys0.length ys0.length] 71)) w6.heap.size [.int .i64 vs0, .slice (some ⟨bxr, 0, none⟩) xs0.length xs0.length, .slice (some ⟨bxq, 0, none⟩) ys0.length ys0.length] := CS.made _ _ rfl #[_, _, _] _
  replace K := K.later alX
  replace Y8 := Y8.later alX
  replace W := W.later alX
  replace xr := xr.old alX
  replace xq := xq.old alX
  replace hB := old_trans hB alX
  clear alX
  have K0 := K.cell 0 _ rfl
  have K1 := K.cell 1 _ rfl
  have K2 := K.cell 2 _ rfl
  have KL := K.lt
  have Y80 := Y8.1
  have Y82 := Y8.2.2
  have X0 := X.cell 0 _ rfl
  have X1 := X.cell 1 _ rfl
  have X2 := X.cell 2 _ rfl
  have XL := X.lt
  go_wp2_with fail
  clear K0 K1 K2 KL Y80 Y82 X0 X1 X2 XL
  have sX : w6.heap.size < (w6.alloc (.cells #[.int .i64 vs0, .slice (some ⟨bxr, 0, none⟩) xs0.length xs0.length, .slice (some ⟨bxq, 0, none⟩) ys0.length ys0.length] 71)).heap.size := by simp
  generalize w6.alloc (.cells #[.int .i64 vs0, .slice (some ⟨bxr, 0, none⟩) xs0.length xs0.length, .slice (some ⟨bxq, 0, none⟩) ys0.length ys0.length] 71) = VX at *
  generalize hpX : w6.heap.size = pX at *
  have K0 := K.cell 0 _ rfl
  have K1 := K.cell 1 _ rfl
  have K2 := K.cell 2 _ rfl
  have KL := K.lt
  have Y80 := Y8.1
  have Y82 := Y8.2.2
  have X0 := X.cell 0 _ rfl
  have X1 := X.cell 1 _ rfl
  have X2 := X.cell 2 _ rfl
  have XL := X.lt
  refine (toTextsO a2 cap2 xs2 _ (R2.out _ hB) hn2).mono ?_
  rintro e w7 ⟨⟨avN, cvN, rfl, N⟩, hb7⟩
  clear K0 K1 K2 KL Y80 Y82 X0 X1 X2 XL
  have Nhi := hb7.size
  have Nlt := N.lt
  have Nge := N.ge
  replace K := K.later hb7
  replace Y8 := Y8.later hb7
  replace X := X.later hb7
  replace W := W.later hb7
  replace xr := xr.old hb7
  replace xq := xq.old hb7
  replace hB := old_trans hB hb7
  clear hb7
  have K0 := K.cell 0 _ rfl
  have K1 := K.cell 1 _ rfl
  have K2 := K.cell 2 _ rfl
  have KL := K.lt
  have Y80 := Y8.1
  have Y82 := Y8.2.2
  have X0 := X.cell 0 _ rfl
  have X1 := X.cell 1 _ rfl
  have X2 := X.cell 2 _ rfl
  have XL := X.lt
  go_wp2_with fail
  refine (I.out _ _ _ _ _ _ _ (xr.inGn hf.out (Nat.le_refl _) hm.out) (xq.inGr hf'.out (Nat.le_refl _) hm'.out) N.inT hn0 hn0').mono ?_
  rintro e w8 ⟨⟨avG, cvG, rfl, G⟩, hb8⟩
  clear K0 K1 K2 KL Y80 Y82 X0 X1 X2 XL
  have Ghi := hb8.size
  have Glt := G.lt
  have Gge := G.ge
  replace K := K.later hb8
  replace Y8 := Y8.later hb8
  replace X := X.later hb8
  replace W := W.later hb8
  replace xr := xr.old hb8
  replace xq := xq.old hb8
  replace N := N.later hb8
  replace hB := old_trans hB hb8
  clear hb8
  have K0 := K.cell 0 _ rfl
  have K1 := K.cell 1 _ rfl
  have K2 := K.cell 2 _ rfl
  have KL := K.lt
  have Y80 := Y8.1
  have Y82 := Y8.2.2
  have X0 := X.cell 0 _ rfl
  have X1 := X.cell 1 _ rfl
  have X2 := X.cell 2 _ rfl
  have XL := X.lt
  clear K0 K1 K2 KL Y80 Y82 X0 X1 X2 XL
  have alY13 : Below w8.heap.size w8 (w8.alloc (.cells #[.slice avG r.length cvG] 49)) := old_alloc (Below.refl _ _) _
  have Y13 : Cl1 (w8.alloc (.cells #[.slice avG r.length cvG] 49)) w8.heap.size (.slice avG r.length cvG) := Cl1.made _ _ rfl _ _
  replace K := K.later alY13
  replace Y8 := Y8.later alY13
  replace X := X.later alY13
  replace W := W.later alY13
  replace xr := xr.old alY13
  replace xq := xq.old alY13
  replace N := N.later alY13
  replace G := G.later alY13
  replace hB := old_trans hB alY13
  clear alY13
  have K0 := K.cell 0 _ rfl
  have K1 := K.cell 1 _ rfl
  have K2 := K.cell 2 _ rfl
  have KL := K.lt
  have Y80 := Y8.1
  have Y82 := Y8.2.2
  have X0 := X.cell 0 _ rfl
  have X1 := X.cell 1 _ rfl
  have X2 := X.cell 2 _ rfl
  have XL := X.lt
  have Y130 := Y13.1
  have Y132 := Y13.2.2
  go_wp2_with fail
  clear K0 K1 K2 KL Y80 Y82 X0 X1 X2 XL Y130 Y132
  have sY13 : w8.heap.size < (w8.alloc (.cells #[.slice avG r.length cvG] 49)).heap.size := by simp
  generalize w8.alloc (.cells #[.slice avG r.length cvG] 49) = VY13 at *
  generalize hpY13 : w8.heap.size = pY13 at *
  have K0 := K.cell 0 _ rfl
  have K1 := K.cell 1 _ rfl
  have K2 := K.cell 2 _ rfl
  have KL := K.lt
  have Y80 := Y8.1
  have Y82 := Y8.2.2
  have X0 := X.cell 0 _ rfl
  have X1 := X.cell 1 _ rfl
  have X2 := X.cell 2 _ rfl
  have XL := X.lt
  have Y130 := Y13.1
  have Y132 := Y13.2.2
  refine (lEqTerm _ _ _ _ _ r _ G.inn W.inn).mono ?_
  rintro e w9 ⟨rfl, hb9⟩
  clear K0 K1 K2 KL Y80 Y82 X0 X1 X2 XL Y130 Y132
  replace K := K.later hb9
  replace Y8 := Y8.later hb9
  replace X := X.later hb9
  replace Y13 := Y13.later hb9
  replace W := W.later hb9
  replace xr := xr.old hb9
  replace xq := xq.old hb9
  replace N := N.later hb9
  replace G := G.later hb9
  replace hB := old_trans hB hb9
  clear hb9
  have K0 := K.cell 0 _ rfl
  have K1 := K.cell 1 _ rfl
  have K2 := K.cell 2 _ rfl
  have KL := K.lt
  have Y80 := Y8.1
  have Y82 := Y8.2.2
  have X0 := X.cell 0 _ rfl
  have X1 := X.cell 1 _ rfl
  have X2 := X.cell 2 _ rfl
  have XL := X.lt
  have Y130 := Y13.1
  have Y132 := Y13.2.2
  go_wp2_with fail
  go_region_held3 (fun w' => w'.cell? ⟨pX, 0, none⟩ = some (.int .i64 vs0) ∧ w'.cell? ⟨pX, 1, none⟩ = some (.slice (some ⟨bxr, 0, none⟩) xs0.length xs0.length) ∧ w'.cell? ⟨pX, 2, none⟩ = some (.slice (some ⟨bxq, 0, none⟩) ys0.length ys0.length) ∧ w'.cell? ⟨pK, 0, none⟩ = some (.int .i64 vs0) ∧ w'.cell? ⟨pK, 1, none⟩ = some (.slice a0 xs0.length cap0) ∧ w'.cell? ⟨pK, 2, none⟩ = some (.slice a0' ys0.length cap0')) (go_keep) (first | (go_at_call 33; refine (lToGraph vs0 a0 _ cap0 xs0 a0' _ cap0' ys0 _ (R0.out _ (Below.drew hB)) (R0'.out _ (Below.drew hB)) hn0 hn0').mono ?_; rintro e wa ⟨⟨bzr, bzq, rfl, -, -, zr, zq⟩, hba⟩; have K := K.drew.later hba; have Y8 := Y8.drew.later hba; have X := X.drew.later hba; have Y13 := Y13.drew.later hba; have W := W.drew.later hba; have xr := (xr.old (Below.drew (Below.refl _ _))).old hba; have xq := (xq.old (Below.drew (Below.refl _ _))).old hba; have N := N.drew.later hba; have G := G.drew.later hba; have hB := old_trans (Below.drew hB) hba; have K0 := K.cell 0 _ rfl; have K1 := K.cell 1 _ rfl; have K2 := K.cell 2 _ rfl; have KL := K.lt; have Y80 := Y8.1; have Y82 := Y8.2.2; have X0 := X.cell 0 _ rfl; have X1 := X.cell 1 _ rfl; have X2 := X.cell 2 _ rfl; have XL := X.lt; have Y130 := Y13.1; have Y132 := Y13.2.2) | (go_at_call 35; refine (lEqGraph vs0 _ _ _ xs0 _ _ _ ys0 _ _ _ _ _ (xr.inGn hf.out (Nat.le_refl _) hm.out) (xq.inGr hf'.out (Nat.le_refl _) hm'.out) (zr.inGn hf.out (Nat.le_refl _) hm.out) (zq.inGr hf'.out (Nat.le_refl _) hm'.out)).mono ?_; rintro e wb ⟨rfl, hbb⟩; have K := K.later hbb; have Y8 := Y8.later hbb; have X := X.later hbb; have Y13 := Y13.later hbb; have W := W.later hbb; have xr := xr.old hbb; have xq := xq.old hbb; have N := N.later hbb; have G := G.later hbb; have hB := old_trans hB hbb; have K0 := K.cell 0 _ rfl; have K1 := K.cell 1 _ rfl; have K2 := K.cell 2 _ rfl; have KL := K.lt; have Y80 := Y8.1; have Y82 := Y8.2.2; have X0 := X.cell 0 _ rfl; have X1 := X.cell 1 _ rfl; have X2 := X.cell 2 _ rfl; have XL := X.lt; have Y130 := Y13.1; have Y132 := Y13.2.2))
  clear hba hbb zr zq
  go_wp2_with fail
  refine (toTextsO a2 cap2 xs2 _ (R2.out _ hB) hn2).mono ?_
  rintro e w10 ⟨⟨avZ, cvZ, rfl, Z1⟩, hb10⟩
  clear K0 K1 K2 KL Y80 Y82 X0 X1 X2 XL Y130 Y132
  have Z1hi := hb10.size
  replace K := K.later hb10
  replace Y8 := Y8.later hb10
  replace X := X.later hb10
  replace Y13 := Y13.later hb10
  replace W := W.later hb10
  replace xr := xr.old hb10
  replace xq := xq.old hb10
  replace N := N.later hb10
  replace G := G.later hb10
  replace hB := old_trans hB hb10
  clear hb10
  have K0 := K.cell 0 _ rfl
  have K1 := K.cell 1 _ rfl
  have K2 := K.cell 2 _ rfl
  have KL := K.lt
  have Y80 := Y8.1
  have Y82 := Y8.2.2
  have X0 := X.cell 0 _ rfl
  have X1 := X.cell 1 _ rfl
  have X2 := X.cell 2 _ rfl
  have XL := X.lt
  have Y130 := Y13.1
  have Y132 := Y13.2.2
  go_wp2_with fail
  refine (lEqTO avN avZ cvN cvZ _ _ xs2 _ N Z1).mono ?_
  rintro e w11 ⟨rfl, hb11⟩
  clear K0 K1 K2 KL Y80 Y82 X0 X1 X2 XL Y130 Y132
  replace K := K.later hb11
  replace Y8 := Y8.later hb11
  replace X := X.later hb11
  replace Y13 := Y13.later hb11
  replace W := W.later hb11
  replace xr := xr.old hb11
  replace xq := xq.old hb11
  replace N := N.later hb11
  replace G := G.later hb11
  replace Z1 := Z1.later hb11
  replace hB := old_trans hB hb11
  clear hb11
  have K0 := K.cell 0 _ rfl
  have K1 := K.cell 1 _ rfl
  have K2 := K.cell 2 _ rfl
  have KL := K.lt
  have Y80 := Y8.1
  have Y82 := Y8.2.2
  have X0 := X.cell 0 _ rfl
  have X1 := X.cell 1 _ rfl
  have X2 := X.cell 2 _ rfl
  have XL := X.lt
  have Y130 := Y13.1
  have Y132 := Y13.2.2
  clear Z1
  clear Z1hi
  have hBs := hB.size
  rw [hpK] at hBs
  have lbr := xr.1
  have lbq := xq.1
  go_wp2_with fail
  refine (lMarkGraph vs0 bxr bxq xs0.length ys0.length 1 _ xr.anyV xq.anyV hn0 hn0' (by omega) (by omega)).mono ?_
  rintro e w12 ⟨rfl, wm, hg1, hg2⟩
  clear K0 K1 K2 KL Y80 Y82 X0 X1 X2 XL Y130 Y132
  replace K := (K.keptTn hg1 (by intro h; injection h with h; omega)).keptTn hg2 (by intro h; injection h with h; omega)
  replace Y8 := (Y8.kept hg1 (by intro h; injection h with h; omega)).kept hg2 (by intro h; injection h with h; omega)
  replace X := (X.keptTn hg1 (by intro h; injection h with h; omega)).keptTn hg2 (by intro h; injection h with h; omega)
  replace Y13 := (Y13.kept hg1 (by intro h; injection h with h; omega)).kept hg2 (by intro h; injection h with h; omega)
  replace W := (W.kept hg1 (fun q e h => by injection h with h; have := Wge q e; have := Wlt q e; omega)).kept hg2 (fun q e h => by injection h with h; have := Wge q e; have := Wlt q e; omega)
  replace N := (N.kept hg1 (fun q e h => by injection h with h; have := Nge q e; have := Nlt q e; omega)).kept hg2 (fun q e h => by injection h with h; have := Nge q e; have := Nlt q e; omega)
  replace G := (G.kept hg1 (fun q e h => by injection h with h; have := Gge q e; have := Glt q e; omega)).kept hg2 (fun q e h => by injection h with h; have := Gge q e; have := Glt q e; omega)
  replace hB := (hB.grown hg1 hB.size (fun k e => by injection e with e; omega)).grown hg2 (Nat.le_trans hB.size hg1.size) (fun k e => by injection e with e; omega)
  clear xr xq
  clear hg1 hg2 lbr lbq wm
  have K0 := K.cell 0 _ rfl
  have K1 := K.cell 1 _ rfl
  have K2 := K.cell 2 _ rfl
  have KL := K.lt
  have Y80 := Y8.1
  have Y82 := Y8.2.2
  have X0 := X.cell 0 _ rfl
  have X1 := X.cell 1 _ rfl
  have X2 := X.cell 2 _ rfl
  have XL := X.lt
  have Y130 := Y13.1
  have Y132 := Y13.2.2
  obtain ⟨kn, hkn⟩ : ∃ kn : Int, 1 + 5 * (xs0.length : Int) + 3 * (ys0.length : Int) = kn := ⟨_, rfl⟩
  have hkb : 0 ≤ kn ∧ kn ≤ 8388609 := by omega
  rw [hkn]
  clear hkn
  go_wp2_with fail
  refine (lMarkTO _ avN cvN xs2 kn _ N hn2 hkb.1 (by omega)).mono ?_
  rintro e w13 ⟨rfl, -, hg2⟩
  clear K0 K1 K2 KL Y80 Y82 X0 X1 X2 XL Y130 Y132
  replace K := K.keptTn hg2 (ne_dn Nge (by omega))
  replace Y8 := Y8.kept hg2 (ne_dn Nge (by omega))
  replace X := X.keptTn hg2 (ne_dn Nge (by omega))
  replace Y13 := Y13.kept hg2 (ne_up Nlt (by omega))
  replace W := W.kept hg2 (ne_lo Wlt Nge (by omega))
  replace G := G.kept hg2 (ne_hi Gge Nlt (by omega))
  replace hB := Below.markedT hB N hg2 (by rw [hpK]; omega) hB.size
  clear N
  clear hg2
  have K0 := K.cell 0 _ rfl
  have K1 := K.cell 1 _ rfl
  have K2 := K.cell 2 _ rfl
  have KL := K.lt
  have Y80 := Y8.1
  have Y82 := Y8.2.2
  have X0 := X.cell 0 _ rfl
  have X1 := X.cell 1 _ rfl
  have X2 := X.cell 2 _ rfl
  have XL := X.lt
  have Y130 := Y13.1
  have Y132 := Y13.2.2
  have hkd : ¬ (kn + (xs2.length : Int) < 0) := by omega
  generalize kn + (xs2.length : Int) = kz at *
  clear hkb
  go_wp2_with fail
  refine (lEqTerm _ _ _ _ _ r _ G.inn W.inn).mono ?_
  rintro e w14 ⟨rfl, hb14⟩
  clear K0 K1 K2 KL Y80 Y82 X0 X1 X2 XL Y130 Y132
  replace K := K.later hb14
  replace Y8 := Y8.later hb14
  replace X := X.later hb14
  replace Y13 := Y13.later hb14
  replace W := W.later hb14
  replace G := G.later hb14
  replace hB := old_trans hB hb14
  clear hb14
  have K0 := K.cell 0 _ rfl
  have K1 := K.cell 1 _ rfl
  have K2 := K.cell 2 _ rfl
  have KL := K.lt
  have Y80 := Y8.1
  have Y82 := Y8.2.2
  have X0 := X.cell 0 _ rfl
  have X1 := X.cell 1 _ rfl
  have X2 := X.cell 2 _ rfl
  have XL := X.lt
  have Y130 := Y13.1
  have Y132 := Y13.2.2
  go_wp2_with fail
  refine (lMarkTermG _ avG cvG r 1 _ G (by omega) (by omega) (by omega)).mono ?_
  rintro e w15 ⟨rfl, G', hg4⟩
  clear K0 K1 K2 KL Y80 Y82 X0 X1 X2 XL Y130 Y132
  replace K := K.keptTn hg4 (ne_dn Gge (by omega))
  replace Y8 := Y8.kept hg4 (ne_dn Gge (by omega))
  replace X := X.keptTn hg4 (ne_dn Gge (by omega))
  replace Y13 := Y13.kept hg4 (ne_up Glt (by omega))
  replace W := W.kept hg4 (ne_lo Wlt Gge (by omega))
  replace hB := Below.markedTn hB G hg4 (by rw [hpK]; omega) hB.size
  clear G
  clear hg4
  have K0 := K.cell 0 _ rfl
  have K1 := K.cell 1 _ rfl
  have K2 := K.cell 2 _ rfl
  have KL := K.lt
  have Y80 := Y8.1
  have Y82 := Y8.2.2
  have X0 := X.cell 0 _ rfl
  have X1 := X.cell 1 _ rfl
  have X2 := X.cell 2 _ rfl
  have XL := X.lt
  have Y130 := Y13.1
  have Y132 := Y13.2.2
  go_wp2_with fail
  refine (lHeldTermG _ avG cvG r.length 1 _ G' (by omega) (by omega) (by omega)).mono ?_
  rintro e w16 ⟨rfl, hb16⟩
  clear K0 K1 K2 KL Y80 Y82 X0 X1 X2 XL Y130 Y132
  replace K := K.later hb16
  replace Y8 := Y8.later hb16
  replace X := X.later hb16
  replace Y13 := Y13.later hb16
  replace W := W.later hb16
  replace G' := G'.later hb16
  replace hB := old_trans hB hb16
  clear hb16
  have K0 := K.cell 0 _ rfl
  have K1 := K.cell 1 _ rfl
  have K2 := K.cell 2 _ rfl
  have KL := K.lt
  have Y80 := Y8.1
  have Y82 := Y8.2.2
  have X0 := X.cell 0 _ rfl
  have X1 := X.cell 1 _ rfl
  have X2 := X.cell 2 _ rfl
  have XL := X.lt
  have Y130 := Y13.1
  have Y132 := Y13.2.2
  have hkq : ¬ (1 + 3 * (r.length : Int) < 0) := by omega
  generalize hmm : 1 + 3 * (r.length : Int) = mm at *
  go_wp2_with fail
  refine (lToGraph vs0 a0 _ cap0 xs0 a0' _ cap0' ys0 _ (R0.out _ hB) (R0'.out _ hB) hn0 hn0').mono ?_
  rintro e w17 ⟨⟨bqr, bqq, rfl, -, -, qr, qq⟩, hb17⟩
  clear K0 K1 K2 KL Y80 Y82 X0 X1 X2 XL Y130 Y132
  replace K := K.later hb17
  replace Y8 := Y8.later hb17
  replace X := X.later hb17
  replace Y13 := Y13.later hb17
  replace W := W.later hb17
  replace G' := G'.later hb17
  replace hB := old_trans hB hb17
  clear hb17
  have K0 := K.cell 0 _ rfl
  have K1 := K.cell 1 _ rfl
  have K2 := K.cell 2 _ rfl
  have KL := K.lt
  have Y80 := Y8.1
  have Y82 := Y8.2.2
  have X0 := X.cell 0 _ rfl
  have X1 := X.cell 1 _ rfl
  have X2 := X.cell 2 _ rfl
  have XL := X.lt
  have Y130 := Y13.1
  have Y132 := Y13.2.2
  go_wp2_with fail
  refine (toTextsO a2 cap2 xs2 _ (R2.out _ hB) hn2).mono ?_
  rintro e w18 ⟨⟨avQ1, cvQ1, rfl, Q1⟩, hb18⟩
  clear K0 K1 K2 KL Y80 Y82 X0 X1 X2 XL Y130 Y132
  have Q1hi := hb18.size
  have Q1lt := Q1.lt
  have Q1ge := Q1.ge
  replace K := K.later hb18
  replace Y8 := Y8.later hb18
  replace X := X.later hb18
  replace Y13 := Y13.later hb18
  replace W := W.later hb18
  replace G' := G'.later hb18
  replace qr := qr.old hb18
  replace qq := qq.old hb18
  replace hB := old_trans hB hb18
  clear hb18
  have K0 := K.cell 0 _ rfl
  have K1 := K.cell 1 _ rfl
  have K2 := K.cell 2 _ rfl
  have KL := K.lt
  have Y80 := Y8.1
  have Y82 := Y8.2.2
  have X0 := X.cell 0 _ rfl
  have X1 := X.cell 1 _ rfl
  have X2 := X.cell 2 _ rfl
  have XL := X.lt
  have Y130 := Y13.1
  have Y132 := Y13.2.2
  go_wp2_with fail
  refine (I.out _ _ _ _ _ _ _ (qr.inGn hf.out (Nat.le_refl _) hm.out) (qq.inGr hf'.out (Nat.le_refl _) hm'.out) Q1.inT hn0 hn0').mono ?_
  rintro e w19 ⟨⟨avH, cvH, rfl, H⟩, hb19⟩
  clear K0 K1 K2 KL Y80 Y82 X0 X1 X2 XL Y130 Y132
  have Hhi := hb19.size
  replace K := K.later hb19
  replace Y8 := Y8.later hb19
  replace X := X.later hb19
  replace Y13 := Y13.later hb19
  replace W := W.later hb19
  replace G' := G'.later hb19
  replace qr := qr.old hb19
  replace qq := qq.old hb19
  replace Q1 := Q1.later hb19
  replace hB := old_trans hB hb19
  clear hb19
  have K0 := K.cell 0 _ rfl
  have K1 := K.cell 1 _ rfl
  have K2 := K.cell 2 _ rfl
  have KL := K.lt
  have Y80 := Y8.1
  have Y82 := Y8.2.2
  have X0 := X.cell 0 _ rfl
  have X1 := X.cell 1 _ rfl
  have X2 := X.cell 2 _ rfl
  have XL := X.lt
  have Y130 := Y13.1
  have Y132 := Y13.2.2
  clear Q1 qr qq
  clear Q1hi Q1lt Q1ge
  clear K0 K1 K2 KL Y80 Y82 X0 X1 X2 XL Y130 Y132
  have alY18 : Below w19.heap.size w19 (w19.alloc (.cells #[.slice avH r.length cvH] 49)) := old_alloc (Below.refl _ _) _
  have Y18 : Cl1 (w19.alloc (.cells #[.slice avH r.length cvH] 49)) w19.heap.size (.slice avH r.length cvH) := Cl1.made _ _ rfl _ _
  replace K := K.later alY18
  replace Y8 := Y8.later alY18
  replace X := X.later alY18
  replace Y13 := Y13.later alY18
  replace W := W.later alY18
  replace G' := G'.later alY18
  replace H := H.later alY18
  replace hB := old_trans hB alY18
  clear alY18
  have K0 := K.cell 0 _ rfl
  have K1 := K.cell 1 _ rfl
  have K2 := K.cell 2 _ rfl
  have KL := K.lt
  have Y80 := Y8.1
  have Y82 := Y8.2.2
  have X0 := X.cell 0 _ rfl
  have X1 := X.cell 1 _ rfl
  have X2 := X.cell 2 _ rfl
  have XL := X.lt
  have Y130 := Y13.1
  have Y132 := Y13.2.2
  have Y180 := Y18.1
  have Y182 := Y18.2.2
  go_wp2_with fail
  clear K0 K1 K2 KL Y80 Y82 X0 X1 X2 XL Y130 Y132 Y180 Y182
  have sY18 : w19.heap.size < (w19.alloc (.cells #[.slice avH r.length cvH] 49)).heap.size := by simp
  generalize w19.alloc (.cells #[.slice avH r.length cvH] 49) = VY18 at *
  generalize hpY18 : w19.heap.size = pY18 at *
  have K0 := K.cell 0 _ rfl
  have K1 := K.cell 1 _ rfl
  have K2 := K.cell 2 _ rfl
  have KL := K.lt
  have Y80 := Y8.1
  have Y82 := Y8.2.2
  have X0 := X.cell 0 _ rfl
  have X1 := X.cell 1 _ rfl
  have X2 := X.cell 2 _ rfl
  have XL := X.lt
  have Y130 := Y13.1
  have Y132 := Y13.2.2
  have Y180 := Y18.1
  have Y182 := Y18.2.2
  refine (lEqTerm _ _ _ _ _ r _ H.inn W.inn).mono ?_
  rintro e w20 ⟨rfl, hb20⟩
  clear K0 K1 K2 KL Y80 Y82 X0 X1 X2 XL Y130 Y132 Y180 Y182
  replace K := K.later hb20
  replace Y8 := Y8.later hb20
  replace X := X.later hb20
  replace Y13 := Y13.later hb20
  replace Y18 := Y18.later hb20
  replace W := W.later hb20
  replace G' := G'.later hb20
  replace H := H.later hb20
  replace hB := old_trans hB hb20
  clear hb20
  have K0 := K.cell 0 _ rfl
  have K1 := K.cell 1 _ rfl
  have K2 := K.cell 2 _ rfl
  have KL := K.lt
  have Y80 := Y8.1
  have Y82 := Y8.2.2
  have X0 := X.cell 0 _ rfl
  have X1 := X.cell 1 _ rfl
  have X2 := X.cell 2 _ rfl
  have XL := X.lt
  have Y130 := Y13.1
  have Y132 := Y13.2.2
  have Y180 := Y18.1
  have Y182 := Y18.2.2
  go_wp2_with fail
  have HL := lHeldTermG _ avG cvG r.length 1 _ G' (by omega) (by omega) (by omega)
  rw [hmm] at HL
  refine HL.mono ?_
  rintro e wz ⟨rfl, hbz⟩
  replace hB := old_trans hB hbz
  go_wp2
  go_ret
  exact ⟨rfl, by rw [← hpK]; exact hB⟩

set_option maxRecDepth 100000 in
theorem FnExactGraphTerm_lifted (os : Os) (started : os.Started) (H : Type) (enc : TypeId × Value → H) :
    ReturnsInHanded {} Try.checked os 5 .any (Rows.fnExactGraphTermSpec.pre6 enc Try.prog Try.f5 Rows.fnExactGraphTermRow.domain false) (Rows.fnExactGraphTermSpec.post enc Try.prog Try.f5 false true false false) := by
  refine returnsInHanded_of_change (C := Try.checked) FnExactGraphTerm_own started (by kernel_rfl) Try.func5
    (ChangeSpec.witness6 (enc := enc) (C := Try.checked) false ⟨#[], #[.agg #[.int .i64 0, .slice none 0 0, .slice none 0 0], .int .i64 0, .slice none 0 0], []⟩ 8 (by kernel_rfl) (by kernel_rfl) (by kernel_rfl) (by kernel_rfl)) ?_
  intro W base args ds gs before hval0 hW hcnd _
  have hval : ∀ (j : Nat) t v, Try.f5.params[j]? = some t → args[j]? = some v → Value.okWide Try.prog W .any base t v := hval0
  have hW' := hW
  obtain ⟨p, q, hA0, hV, rfl, hfz, hnd⟩ := hW
  have hA : DataW.TrodAll enc Try.prog W 0 (fun _ => true) true Try.f5.params.toList args.toList ds p := hA0
  rw [Try.params5] at hA hval
  obtain ⟨v0, vs0, d0, ds0, p0, q0, hargs, rfl, rfl, h0, r0⟩ := trodAll_cons hA
  obtain ⟨v1, vs1, d1, ds1, p1, q1, rfl, rfl, rfl, h1, r1⟩ := trodAll_cons r0
  obtain ⟨v2, vs2, d2, ds2, p2, q2, rfl, rfl, rfl, h2, r2⟩ := trodAll_cons r1
  obtain ⟨rfl, rfl, rfl⟩ := trodAll_nil r2
  obtain rfl : args = #[v0, v1, v2] := by cases args; simp_all
  obtain ⟨rfl, rfl⟩ := trodVars_none hV
  have k0 := h0
  have lt0 : ∀ x ∈ p0, x.block < W.heap.size := by obtain ⟨m, hm⟩ := k0; exact DataW.trod_lt m _ _ _ hm
  obtain ⟨vs0, a0, len0, cap0, xs0, a0', len0', cap0', ys0, rfl, -, wb0, wb0'⟩ := open_lgraph (hval 0 65 v0 rfl rfl) h0
  have k1 := h1
  have lt1 : ∀ x ∈ p1, x.block < W.heap.size := by obtain ⟨m, hm⟩ := k1; exact DataW.trod_lt m _ _ _ hm
  obtain ⟨a1, rfl, -, -, wf1⟩ := open_int Try.underlying3 (hval 1 3 v1 rfl rfl) h1
  have wa1 := bounds_i64 wf1
  have k2 := h2
  have lt2 : ∀ x ∈ p2, x.block < W.heap.size := by obtain ⟨m, hm⟩ := k2; exact DataW.trod_lt m _ _ _ hm
  obtain ⟨a2, len2, cap2, xs2, rfl, wb2⟩ := open_ltexts (hval 2 42 v2 rfl rfl) h2
  clear hA0 hval0
  refine (FnExactGraphTerm_walk vs0 a0 len0 cap0 xs0 a0' len0' cap0' ys0 a1 wa1 a2 len2 cap2 xs2 W wb0 wb0' wb2).mono fun e W' ⟨he, bel⟩ => ?_
  subst he
  exact ⟨_, rfl, _, _, _, [], _, [], hW', trodAll_mk1 (shut_bool Try.underlying4 _), (trodAll_cons_mk (Below.trod jf1 (by kernel_rfl) (of_decide_eq_true (by kernel_rfl)) k0 bel lt0) (trodAll_cons_mk (Below.trod jf1 (by kernel_rfl) (of_decide_eq_true (by kernel_rfl)) k1 bel lt1) (trodAll_cons_mk (Below.trod jf1 (by kernel_rfl) (of_decide_eq_true (by kernel_rfl)) k2 bel lt2) trodAll_mk0))), rfl, bel.frame _, fun h => by cases h⟩

theorem FnExactGraphTerm_k0 : (Rows.fnExactGraphTermRow.wf (OpenSpec.ofChange Rows.fnExactGraphTermSpec)) = true := by kernel_rfl
theorem FnExactGraphTerm_k3 : (Try.f5.params.all (Try.prog.readableRec ·)) = true := by kernel_rfl
theorem FnExactGraphTerm_k4 : (namedTie Try.prog Rows.fnExactGraphTermRow.named Rows.fnExactGraphTermSpec.vars) = true := by kernel_rfl
theorem FnExactGraphTerm_k5 : ((Rows.fnExactGraphTermRow.stops == [])) = true := by kernel_rfl
theorem FnExactGraphTerm_k7 : ((Rows.fnExactGraphTermRow.knobs == [])) = true := by kernel_rfl
theorem FnExactGraphTerm_k9 : ((Rows.fnExactGraphTermRow.inPlace == Try.prog.inPlace 5)) = true := by kernel_rfl
theorem FnExactGraphTerm_k10 : ((Rows.fnExactGraphTermRow.unfollowed == Try.prog.unfollowed 5)) = true := by kernel_rfl
theorem FnExactGraphTerm_k11 : ((Rows.fnExactGraphTermRow.recurses == Try.prog.recurses 5)) = true := by kernel_rfl
theorem FnExactGraphTerm_k12 : ((Rows.fnExactGraphTermRow.named == Try.prog.varsNamed 5)) = true := by kernel_rfl
theorem FnExactGraphTerm_k13 : ((Rows.fnExactGraphTermRow.maps == (Try.f5.params.toList ++ Rows.fnExactGraphTermSpec.plain.varTypes Try.prog).any (Try.prog.mapsRec ·))) = true := by kernel_rfl
theorem FnExactGraphTerm_k14 : ((Rows.fnExactGraphTermRow.ifaces == (Try.f5.params.toList ++ Rows.fnExactGraphTermSpec.plain.varTypes Try.prog).any (Try.prog.ifacesRec ·))) = true := by kernel_rfl
theorem FnExactGraphTerm_k15 : ((Rows.fnExactGraphTermRow.mapsOut == Try.prog.mapsAmong Try.f5.resultTypes.toList)) = true := by kernel_rfl
theorem FnExactGraphTerm_k16 : ((Rows.fnExactGraphTermRow.loops == (Try.f5.params.toList ++ Rows.fnExactGraphTermSpec.plain.varTypes Try.prog).any (Try.prog.loopsFrom ·))) = true := by kernel_rfl
theorem FnExactGraphTerm_k17 : ((Rows.fnExactGraphTermRow.wideKeys == (Try.f5.params.toList ++ Rows.fnExactGraphTermSpec.plain.varTypes Try.prog ++ Try.f5.resultTypes.toList).any (Try.prog.wideKeysFrom ·))) = true := by kernel_rfl
theorem FnExactGraphTerm_k18 : (Rows.fnExactGraphTermSpec.vars.all (Try.prog.varReadable ·)) = true := by kernel_rfl
theorem FnExactGraphTerm_k19 : (Try.f5.resultTypes.all (fun t => Try.prog.readableRec t && decide (t < Try.prog.types.size))) = true := by kernel_rfl
theorem FnExactGraphTerm_k20 : ((Rows.fnExactGraphTermRow.ifacesOut == Try.f5.resultTypes.toList.any (Try.prog.ifacesRec ·))) = true := by kernel_rfl
theorem FnExactGraphTerm_k21 : ((Rows.fnExactGraphTermRow.loopsOut == Try.f5.resultTypes.toList.any (Try.prog.loopsFrom ·))) = true := by kernel_rfl
theorem FnExactGraphTerm_k23 : (Rows.fnExactGraphTermRow.shortTexts.isNone) = true := by kernel_rfl
theorem FnExactGraphTerm_k28 : ((Rows.fnExactGraphTermRow.kinds == (if Rows.fnExactGraphTermRow.domain.isEmpty then [] else Try.f5.params.toList.map fun t => match Try.prog.underlying t with | some (.int k) => some k | _ => none))) = true := by kernel_rfl
theorem FnExactGraphTerm_k29 : ((Rows.fnExactGraphTermRow.pinned == Rows.fnExactGraphTermRow.pinnedBy)) = true := by kernel_rfl
theorem FnExactGraphTerm_k30 : ((Rows.fnExactGraphTermRow.veiled == (Try.f5.params.toList ++ Rows.fnExactGraphTermSpec.plain.varTypes Try.prog ++ Try.f5.resultTypes.toList).any (Try.prog.veiledRec ·))) = true := by kernel_rfl
theorem FnExactGraphTerm_k31 : (Rows.fnExactGraphTermRow.veiledFits Try.prog Try.f5.params.toList (Try.f5.params.toList ++ Rows.fnExactGraphTermSpec.plain.varTypes Try.prog ++ Try.f5.resultTypes.toList)) = true := by kernel_rfl
set_option maxRecDepth 100000 in
theorem FnExactGraphTerm_closed : joinedFacts Try.prog 5 Try.f5 Rows.fnExactGraphTermSpec Rows.fnExactGraphTermRow = true := (and2 (and2 (and2 (and2 (and2 (and2 (and2 (and2 (and2 (and2 (and2 (and2 (and2 (and2 (and2 (and2 (and2 (and2 (and2 (and2 (and2 (and2 (and2 (and2 (and2 (and2 (and2 (and2 (and2 (and2 (and2 FnExactGraphTerm_k0 jf1) jf2) FnExactGraphTerm_k3) FnExactGraphTerm_k4) FnExactGraphTerm_k5) jf6) FnExactGraphTerm_k7) jf8) FnExactGraphTerm_k9) FnExactGraphTerm_k10) FnExactGraphTerm_k11) FnExactGraphTerm_k12) FnExactGraphTerm_k13) FnExactGraphTerm_k14) FnExactGraphTerm_k15) FnExactGraphTerm_k16) FnExactGraphTerm_k17) FnExactGraphTerm_k18) FnExactGraphTerm_k19) FnExactGraphTerm_k20) FnExactGraphTerm_k21) jf22) FnExactGraphTerm_k23) jf24) jf25) jf26) jf27) FnExactGraphTerm_k28) FnExactGraphTerm_k29) FnExactGraphTerm_k30) FnExactGraphTerm_k31)
theorem FnExactGraphTerm_over : Rows.fnExactGraphTermRow.holds Try.pinned (OpenSpec.ofChange Rows.fnExactGraphTermSpec) :=
  OpenClaim.holds_of_wide 5 Try.f5 rfl rfl rfl rfl rfl rfl rfl ⟨rfl, rfl, rfl, rfl, rfl⟩ rfl rfl rfl rfl rfl (by kernel_rfl) Try.func5 FnExactGraphTerm_closed
    (of_decide_eq_true (by kernel_rfl)) (by unfold Func.isWrapper; first | (rw [if_pos (by decide +kernel)]; kernel_rfl) | (rw [if_neg (by decide +kernel)]; exact ⟨rfl, rfl⟩))
    (fun os started H enc _ => FnExactGraphTerm_lifted os started H enc)

theorem FnExactGraphTerm_proved : Rows.FnExactGraphTermSaid := FnExactGraphTerm_over
end Go.Proofs.Ytmpckbgelkfgpaa
