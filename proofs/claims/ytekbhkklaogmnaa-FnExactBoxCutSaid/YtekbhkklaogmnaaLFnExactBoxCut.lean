/- The program's BoxCut answers as the specification's BoxCut at every argument; it writes into no argument, and what it answers is its own. No condition. -/
import Derived.Test.YtekbhkklaogmnaaRows
import Derived.WalkKit
import Derived.ProofKit
import Derived.OpenShut
import Derived.Below
import Derived.Carry
import Derived.Test.YtekbhkklaogmnaaPK02
import Derived.Test.YtekbhkklaogmnaaPK16
import Derived.Test.YtekbhkklaogmnaaPK13
import Derived.Test.YtekbhkklaogmnaaPK17
namespace Go.Proofs.Ytekbhkklaogmnaa
open Go.ChangeShapes Go.WideShapes Go.ChangeAt Go.RowKit
set_option linter.unusedVariables false
set_option maxRecDepth 100000

theorem FnExactBoxCut_own : ownKnob Try.prog.godebug = none := by kernel_rfl

set_option maxRecDepth 100000 in
set_option maxHeartbeats 16000000 in
theorem FnExactBoxCut_walk (a0 : Int) (wa0 : -9223372036854775808 ≤ a0 ∧ a0 ≤ 9223372036854775807) (a1 : Option Addr) (len1 cap1 : Nat) (ps1 : List (Int × Int)) (a2 : Int) (wa2 : -9223372036854775808 ≤ a2 ∧ a2 ≤ 9223372036854775807) (a3 b3 : Int) (wa3 : -9223372036854775808 ≤ a3 ∧ a3 ≤ 9223372036854775807) (wb3 : -9223372036854775808 ≤ b3 ∧ b3 ≤ 9223372036854775807) (w : World) (wb1 : InRow w a1 len1 cap1 ps1):
    Calls Try.prog 3 #[.int .i64 a0, .agg #[.slice a1 len1 cap1], .int .i64 a2, .agg #[.int .i64 a3, .int .i64 b3]] w fun e w' => e = .returned (.bool true) ∧ Below w.heap.size w w' := by
  obtain rfl := wb1.1
  have hlen1 : ps1.length ≤ maxLen := Nat.le_trans wb1.2.1 wb1.2.2.1
  have SZ := hd (lSzBox a1 ps1.length cap1 1048576 hlen1 (by omega) (by omega))
  by_cases c : (ps1.length : Int) ≤ 1048576
  case neg =>
    rw [if_neg c] at SZ
    go_enter Try.func3, Try.ntmps3
    go_wp2_with (go_at_call 4; refine (SZ.out _).mono ?_; rintro e w1 ⟨rfl, hb1⟩)
    go_ret
    exact ⟨rfl, (by repeat (first | exact Below.refl _ _ | refine Below.drew ?_ | refine old_alloc ?_ _ | refine old_trans ?_ (by assumption)))⟩
  rw [if_pos c] at SZ
  have hl1 : ps1.length ≤ 1048576 := by omega
  have c' : ¬ (1048576 - (ps1.length : Int) < 0) := by omega
  clear c
  have S := hd (fun a cap w (h : InRow w a ps1.length cap ps1) => sBoxCutO a0 a2 a3 b3 wa3 wb3 a cap ps1 w h hl1)
  have I := hd (fun a cap w (h : InRow w a ps1.length cap ps1) => iBoxCutO a0 a2 a3 b3 wa3 wb3 a cap ps1 w h hl1)
  unfold BR2 at S I
  have hqa : (resL (cutR a0 a2 a3 b3 ps1) (cutA a2 a3 b3 ps1)).length ≤ 1048576 := res_len (by unfold cutA; rw [List.length_set]; exact hl1)
  have hqb : (resL (cutR a0 a2 a3 b3 ps1) (cutZ a2 a3 b3 ps1)).length ≤ 1048576 := res_len (by unfold cutZ; rw [List.length_set]; exact hl1)
  generalize resL (cutR a0 a2 a3 b3 ps1) (cutA a2 a3 b3 ps1) = qa at *
  generalize resL (cutR a0 a2 a3 b3 ps1) (cutZ a2 a3 b3 ps1) = qb at *
  generalize cutR a0 a2 a3 b3 ps1 = r at *
  have hx1 : ¬ (1 + 2 * (ps1.length : Int) < 0) := by omega
  have hx2 : ¬ (1 + 2 * (qa.length : Int) < 0) := by omega
  have hx3 : ¬ (1 + 2 * (qa.length : Int) + 2 * (qb.length : Int) < 0) := by omega
  have K : Cel1 ((w.alloc (.cells #[.slice a1 ps1.length cap1] 24)).alloc (.cells #[.int .i64 a3, .int .i64 b3] 26)) w.heap.size (.slice a1 ps1.length cap1) := (Cel1.made w _ rfl _ _).alloc _
  have Q : Cel2 ((w.alloc (.cells #[.slice a1 ps1.length cap1] 24)).alloc (.cells #[.int .i64 a3, .int .i64 b3] 26)) (w.heap.size + 1) (.int .i64 a3) (.int .i64 b3) := Cel2.made _ _ (by simp) _ _ _
  have R := (wb1.alloc (.cells #[.slice a1 ps1.length cap1] 24)).alloc (.cells #[.int .i64 a3, .int .i64 b3] 26)
  have hB : Below w.heap.size w ((w.alloc (.cells #[.slice a1 ps1.length cap1] 24)).alloc (.cells #[.int .i64 a3, .int .i64 b3] 26)) := old_alloc (old_alloc (Below.refl _ _) _) _
  obtain ⟨pK, hpK⟩ : ∃ p, w.heap.size = p := ⟨_, rfl⟩
  have hB0 : w.heap.size ≤ pK := by omega
  go_enter Try.func3, Try.ntmps3
  rw [hpK] at K
  rw [hpK] at Q
  have K0 := K.1
  have K2 := K.2.2
  go_wp2_with fail
  clear K0 K2
  generalize ((w.alloc (.cells #[.slice a1 ps1.length cap1] 24)).alloc (.cells #[.int .i64 a3, .int .i64 b3] 26)) = V0 at *
  have K0 := K.1
  have K2 := K.2.2
  refine (SZ.out _).mono ?_
  rintro e w1 ⟨rfl, hb1⟩
  clear K0 K2
  replace K := K.later hb1
  replace R := R.old hb1
  replace hB := old_trans hB hb1
  replace Q := Q.later hb1
  clear hb1
  have K0 := K.1
  have K2 := K.2.2
  go_upto_region 5 with fail
  have l_K_WA := K.2.2
  have l_K_WB := K.2.2
  have l_Q_WA := Q.2.2.2.2
  have l_Q_WB := Q.2.2.2.2
  have l_R_WA := R.far
  have l_R_WB := R.far
  have n_WA := hB.size
  have n_WB := hB.size
  clear K0 K2
  go_cut [10, 11, 12] (fun s s' t wx => ∃ wC, wC = wx ∧ Two w1 wC s s' t r qa qb)
  case first => as_aux_lemma =>
    have TB := hd (fun w' (h : Below w1.heap.size w1 w') => toBoxO a1 cap1 ps1 w' (R.old h) hl1)
    have TP := hd (toPairB a3 b3)
    have CC := hd (fun av cv w' (h : InRow w' av ps1.length cv ps1) => S.out av cv w' h)
    have hv : Hid (∀ W, Below w1.heap.size w1 W → Cel1 W pK (.slice a1 ps1.length cap1) ∧ Cel2 W (pK + 1) (.int .i64 a3) (.int .i64 b3)) := fun W h => ⟨K.later h, Q.later h⟩
    have hys : Below w1.heap.size w1 w1 := (Below.refl _ w1)
    have hzs := hv.out w1 hys
    have zzs := hys.size
    have K0 := hzs.1.1
    have K2 := hzs.1.2.2
    have Kn := Nat.ne_of_lt K2
    have Ko := Nat.ne_of_gt K2
    have Kp := Nat.ne_of_lt (Nat.lt_add_right 1 K2)
    have Kq := Nat.ne_of_gt (Nat.lt_add_right 1 K2)
    have Q0 := hzs.2.1
    have Q1 := hzs.2.2.1
    have Q4 := hzs.2.2.2.2.2
    have Qn := Nat.ne_of_lt Q4
    have Qo := Nat.ne_of_gt Q4
    have Qp := Nat.ne_of_lt (Nat.lt_add_right 1 Q4)
    have Qq := Nat.ne_of_gt (Nat.lt_add_right 1 Q4)
    go_wp2_with fail
    go_region_held3 (fun w' => w'.cell? ⟨pK, 0, none⟩ = some (.slice a1 ps1.length cap1) ∧ w'.cell? ⟨pK + 1, 0, none⟩ = some (.int .i64 a3) ∧ w'.cell? ⟨pK + 1, 1, none⟩ = some (.int .i64 b3)) (go_keep) (first | (go_at_call 6; refine (TB.out _ (by repeat (first | with_reducible exact Below.refl _ _ | with_reducible refine Below.drew ?_ | with_reducible refine old_alloc ?_ _ | with_reducible refine old_trans ?_ (by with_reducible assumption)))).mono ?_; rintro e wa ⟨⟨avP, cvP, rfl, P⟩, hba⟩; have hya : Below w1.heap.size w1 wa := (by repeat (first | with_reducible exact Below.refl _ _ | with_reducible refine Below.drew ?_ | with_reducible refine old_alloc ?_ _ | with_reducible refine old_trans ?_ (by with_reducible assumption))); have hza := hv.out wa hya; have zza := hya.size; have K0 := hza.1.1; have K2 := hza.1.2.2; have Kn := Nat.ne_of_lt K2; have Ko := Nat.ne_of_gt K2; have Kp := Nat.ne_of_lt (Nat.lt_add_right 1 K2); have Kq := Nat.ne_of_gt (Nat.lt_add_right 1 K2); have Q0 := hza.2.1; have Q1 := hza.2.2.1; have Q4 := hza.2.2.2.2.2; have Qn := Nat.ne_of_lt Q4; have Qo := Nat.ne_of_gt Q4; have Qp := Nat.ne_of_lt (Nat.lt_add_right 1 Q4); have Qq := Nat.ne_of_gt (Nat.lt_add_right 1 Q4); have za := hba.size; (first | (have OO := (O).laterX hba; have O := OO.1; have O0 := O.1; have O1 := O.2.1; have Oz := O.2.2; have On := Nat.ne_of_lt Oz; have Oo := Nat.ne_of_gt Oz; have NN := (N).laterX hba; have N := NN.1; have N0 := N.1; have N1 := N.2.1; have Nz := N.2.2; have Nn := Nat.ne_of_lt Nz; have No := Nat.ne_of_gt Nz) | (have NOd := Nat.ne_of_lt N.2.2; have NP := N.alloc (.cells #[.slice none 0 0] 30); have NN := (NP).laterX hba; have N := NN.1; have N0 := N.1; have N1 := N.2.1; have Nz := N.2.2; have Nn := Nat.ne_of_lt Nz; have No := Nat.ne_of_gt Nz; have OO := (Cel1.made _ _ rfl (.slice none 0 0) 30).laterX hba; have O := OO.1; (try simp only [World.size_alloc] at O); have O0 := O.1; have O1 := O.2.1; have Oz := O.2.2; have On := Nat.ne_of_lt Oz; have Oo := Nat.ne_of_gt Oz) | (have NN := (N).laterX hba; have N := NN.1; have N0 := N.1; have N1 := N.2.1; have Nz := N.2.2; have Nn := Nat.ne_of_lt Nz; have No := Nat.ne_of_gt Nz) | (have NN := ((Cel1.made _ _ rfl (.slice none 0 0) 30).alloc (.cells #[.slice none 0 0] 30)).laterX hba; have N := NN.1; (try simp only [World.size_alloc] at N); have N0 := N.1; have N1 := N.2.1; have Nz := N.2.2; have Nn := Nat.ne_of_lt Nz; have No := Nat.ne_of_gt Nz; have OO := (Cel1.made _ _ rfl (.slice none 0 0) 30).laterX hba; have O := OO.1; (try simp only [World.size_alloc] at O); have O0 := O.1; have O1 := O.2.1; have Oz := O.2.2; have On := Nat.ne_of_lt Oz; have Oo := Nat.ne_of_gt Oz) | (have NN := (Cel1.made _ _ rfl (.slice none 0 0) 30).laterX hba; have N := NN.1; (try simp only [World.size_alloc] at N); have N0 := N.1; have N1 := N.2.1; have Nz := N.2.2; have Nn := Nat.ne_of_lt Nz; have No := Nat.ne_of_gt Nz) | (have NN := (((Cel1.made _ _ rfl (.slice none 0 0) 30).alloc (.cells #[.slice none 0 0] 30)).drew).laterX hba; have N := NN.1; (try simp only [World.size_alloc] at N); have N0 := N.1; have N1 := N.2.1; have Nz := N.2.2; have Nn := Nat.ne_of_lt Nz; have No := Nat.ne_of_gt Nz; have OO := ((Cel1.made _ _ rfl (.slice none 0 0) 30).drew).laterX hba; have O := OO.1; (try simp only [World.size_alloc] at O); have O0 := O.1; have O1 := O.2.1; have Oz := O.2.2; have On := Nat.ne_of_lt Oz; have Oo := Nat.ne_of_gt Oz) | (have NN := ((Cel1.made _ _ rfl (.slice none 0 0) 30).drew).laterX hba; have N := NN.1; (try simp only [World.size_alloc] at N); have N0 := N.1; have N1 := N.2.1; have Nz := N.2.2; have Nn := Nat.ne_of_lt Nz; have No := Nat.ne_of_gt Nz) | skip)) | (go_at_call 7; refine (TP.out _).mono ?_; rintro e wb ⟨rfl, hbb⟩; have hyb : Below w1.heap.size w1 wb := (by repeat (first | with_reducible exact Below.refl _ _ | with_reducible refine Below.drew ?_ | with_reducible refine old_alloc ?_ _ | with_reducible refine old_trans ?_ (by with_reducible assumption))); have hzb := hv.out wb hyb; have zzb := hyb.size; have K0 := hzb.1.1; have K2 := hzb.1.2.2; have Kn := Nat.ne_of_lt K2; have Ko := Nat.ne_of_gt K2; have Kp := Nat.ne_of_lt (Nat.lt_add_right 1 K2); have Kq := Nat.ne_of_gt (Nat.lt_add_right 1 K2); have Q0 := hzb.2.1; have Q1 := hzb.2.2.1; have Q4 := hzb.2.2.2.2.2; have Qn := Nat.ne_of_lt Q4; have Qo := Nat.ne_of_gt Q4; have Qp := Nat.ne_of_lt (Nat.lt_add_right 1 Q4); have Qq := Nat.ne_of_gt (Nat.lt_add_right 1 Q4); have zb := hbb.size; have P := (by first | exact P.later hbb | exact (P.alloc _).later hbb | exact ((P.alloc _).alloc _).later hbb | exact P.drew.later hbb | exact (P.alloc _).drew.later hbb : OB wb _ avP cvP ps1); (first | (have OO := (O).laterX hbb; have O := OO.1; have O0 := O.1; have O1 := O.2.1; have Oz := O.2.2; have On := Nat.ne_of_lt Oz; have Oo := Nat.ne_of_gt Oz; have NN := (N).laterX hbb; have N := NN.1; have N0 := N.1; have N1 := N.2.1; have Nz := N.2.2; have Nn := Nat.ne_of_lt Nz; have No := Nat.ne_of_gt Nz) | (have NOd := Nat.ne_of_lt N.2.2; have NP := N.alloc (.cells #[.slice none 0 0] 30); have NN := (NP).laterX hbb; have N := NN.1; have N0 := N.1; have N1 := N.2.1; have Nz := N.2.2; have Nn := Nat.ne_of_lt Nz; have No := Nat.ne_of_gt Nz; have OO := (Cel1.made _ _ rfl (.slice none 0 0) 30).laterX hbb; have O := OO.1; (try simp only [World.size_alloc] at O); have O0 := O.1; have O1 := O.2.1; have Oz := O.2.2; have On := Nat.ne_of_lt Oz; have Oo := Nat.ne_of_gt Oz) | (have NN := (N).laterX hbb; have N := NN.1; have N0 := N.1; have N1 := N.2.1; have Nz := N.2.2; have Nn := Nat.ne_of_lt Nz; have No := Nat.ne_of_gt Nz) | (have NN := ((Cel1.made _ _ rfl (.slice none 0 0) 30).alloc (.cells #[.slice none 0 0] 30)).laterX hbb; have N := NN.1; (try simp only [World.size_alloc] at N); have N0 := N.1; have N1 := N.2.1; have Nz := N.2.2; have Nn := Nat.ne_of_lt Nz; have No := Nat.ne_of_gt Nz; have OO := (Cel1.made _ _ rfl (.slice none 0 0) 30).laterX hbb; have O := OO.1; (try simp only [World.size_alloc] at O); have O0 := O.1; have O1 := O.2.1; have Oz := O.2.2; have On := Nat.ne_of_lt Oz; have Oo := Nat.ne_of_gt Oz) | (have NN := (Cel1.made _ _ rfl (.slice none 0 0) 30).laterX hbb; have N := NN.1; (try simp only [World.size_alloc] at N); have N0 := N.1; have N1 := N.2.1; have Nz := N.2.2; have Nn := Nat.ne_of_lt Nz; have No := Nat.ne_of_gt Nz) | (have NN := (((Cel1.made _ _ rfl (.slice none 0 0) 30).alloc (.cells #[.slice none 0 0] 30)).drew).laterX hbb; have N := NN.1; (try simp only [World.size_alloc] at N); have N0 := N.1; have N1 := N.2.1; have Nz := N.2.2; have Nn := Nat.ne_of_lt Nz; have No := Nat.ne_of_gt Nz; have OO := ((Cel1.made _ _ rfl (.slice none 0 0) 30).drew).laterX hbb; have O := OO.1; (try simp only [World.size_alloc] at O); have O0 := O.1; have O1 := O.2.1; have Oz := O.2.2; have On := Nat.ne_of_lt Oz; have Oo := Nat.ne_of_gt Oz) | (have NN := ((Cel1.made _ _ rfl (.slice none 0 0) 30).drew).laterX hbb; have N := NN.1; (try simp only [World.size_alloc] at N); have N0 := N.1; have N1 := N.2.1; have Nz := N.2.2; have Nn := Nat.ne_of_lt Nz; have No := Nat.ne_of_gt Nz) | skip)) | (go_at_call 5; refine (CC.out avP cvP _ (OB.inRow (by first | exact P | exact P.alloc _ | exact (P.alloc _).alloc _ | exact P.drew | exact (P.alloc _).drew | exact ((P.alloc _).alloc _).drew | exact P.drew.alloc _ | exact (P.drew.alloc _).alloc _))).mono ?_; rintro e ws ⟨⟨avA, cvA, avB, cvB, rfl, A, B, sAB⟩, hbs⟩; have hyc : Below w1.heap.size w1 ws := (by repeat (first | with_reducible exact Below.refl _ _ | with_reducible refine Below.drew ?_ | with_reducible refine old_alloc ?_ _ | with_reducible refine old_trans ?_ (by with_reducible assumption))); have hzc := hv.out ws hyc; have zzc := hyc.size; have K0 := hzc.1.1; have K2 := hzc.1.2.2; have Kn := Nat.ne_of_lt K2; have Ko := Nat.ne_of_gt K2; have Kp := Nat.ne_of_lt (Nat.lt_add_right 1 K2); have Kq := Nat.ne_of_gt (Nat.lt_add_right 1 K2); have Q0 := hzc.2.1; have Q1 := hzc.2.2.1; have Q4 := hzc.2.2.2.2.2; have Qn := Nat.ne_of_lt Q4; have Qo := Nat.ne_of_gt Q4; have Qp := Nat.ne_of_lt (Nat.lt_add_right 1 Q4); have Qq := Nat.ne_of_gt (Nat.lt_add_right 1 Q4); have zs := hbs.size; (first | (have OO := (O).laterX hbs; have O := OO.1; have OA := A.ne_old OO.2; have OB' := B.ne_old OO.2; have O0 := O.1; have O1 := O.2.1; have Oz := O.2.2; have On := Nat.ne_of_lt Oz; have Oo := Nat.ne_of_gt Oz; have NN := (N).laterX hbs; have N := NN.1; have NA := A.ne_old NN.2; have NB := B.ne_old NN.2; have N0 := N.1; have N1 := N.2.1; have Nz := N.2.2; have Nn := Nat.ne_of_lt Nz; have No := Nat.ne_of_gt Nz) | (have NOd := Nat.ne_of_lt N.2.2; have NP := N.alloc (.cells #[.slice none 0 0] 30); have NN := (NP).laterX hbs; have N := NN.1; have NA := A.ne_old NN.2; have NB := B.ne_old NN.2; have N0 := N.1; have N1 := N.2.1; have Nz := N.2.2; have Nn := Nat.ne_of_lt Nz; have No := Nat.ne_of_gt Nz; have OO := (Cel1.made _ _ rfl (.slice none 0 0) 30).laterX hbs; have O := OO.1; have OA := A.ne_old OO.2; have OB' := B.ne_old OO.2; (try simp only [World.size_alloc] at O); (try simp only [World.size_alloc] at OA OB'); have O0 := O.1; have O1 := O.2.1; have Oz := O.2.2; have On := Nat.ne_of_lt Oz; have Oo := Nat.ne_of_gt Oz) | (have NN := (N).laterX hbs; have N := NN.1; have NA := A.ne_old NN.2; have NB := B.ne_old NN.2; have N0 := N.1; have N1 := N.2.1; have Nz := N.2.2; have Nn := Nat.ne_of_lt Nz; have No := Nat.ne_of_gt Nz) | (have NN := ((Cel1.made _ _ rfl (.slice none 0 0) 30).alloc (.cells #[.slice none 0 0] 30)).laterX hbs; have N := NN.1; have NA := A.ne_old NN.2; have NB := B.ne_old NN.2; (try simp only [World.size_alloc] at N); (try simp only [World.size_alloc] at NA NB); have N0 := N.1; have N1 := N.2.1; have Nz := N.2.2; have Nn := Nat.ne_of_lt Nz; have No := Nat.ne_of_gt Nz; have OO := (Cel1.made _ _ rfl (.slice none 0 0) 30).laterX hbs; have O := OO.1; have OA := A.ne_old OO.2; have OB' := B.ne_old OO.2; (try simp only [World.size_alloc] at O); (try simp only [World.size_alloc] at OA OB'); have O0 := O.1; have O1 := O.2.1; have Oz := O.2.2; have On := Nat.ne_of_lt Oz; have Oo := Nat.ne_of_gt Oz) | (have NN := (Cel1.made _ _ rfl (.slice none 0 0) 30).laterX hbs; have N := NN.1; have NA := A.ne_old NN.2; have NB := B.ne_old NN.2; (try simp only [World.size_alloc] at N); (try simp only [World.size_alloc] at NA NB); have N0 := N.1; have N1 := N.2.1; have Nz := N.2.2; have Nn := Nat.ne_of_lt Nz; have No := Nat.ne_of_gt Nz) | (have NN := (((Cel1.made _ _ rfl (.slice none 0 0) 30).alloc (.cells #[.slice none 0 0] 30)).drew).laterX hbs; have N := NN.1; have NA := A.ne_old NN.2; have NB := B.ne_old NN.2; (try simp only [World.size_alloc] at N); (try simp only [World.size_alloc] at NA NB); have N0 := N.1; have N1 := N.2.1; have Nz := N.2.2; have Nn := Nat.ne_of_lt Nz; have No := Nat.ne_of_gt Nz; have OO := ((Cel1.made _ _ rfl (.slice none 0 0) 30).drew).laterX hbs; have O := OO.1; have OA := A.ne_old OO.2; have OB' := B.ne_old OO.2; (try simp only [World.size_alloc] at O); (try simp only [World.size_alloc] at OA OB'); have O0 := O.1; have O1 := O.2.1; have Oz := O.2.2; have On := Nat.ne_of_lt Oz; have Oo := Nat.ne_of_gt Oz) | (have NN := ((Cel1.made _ _ rfl (.slice none 0 0) 30).drew).laterX hbs; have N := NN.1; have NA := A.ne_old NN.2; have NB := B.ne_old NN.2; (try simp only [World.size_alloc] at N); (try simp only [World.size_alloc] at NA NB); have N0 := N.1; have N1 := N.2.1; have Nz := N.2.2; have Nn := Nat.ne_of_lt Nz; have No := Nat.ne_of_gt Nz) | skip); have A := OB.mono A (Below.size (show Below w1.heap.size w1 _ from (by repeat (first | with_reducible exact Below.refl w1.heap.size w1 | with_reducible refine Below.drew ?_ | with_reducible refine old_alloc ?_ _ | with_reducible refine old_trans ?_ (by with_reducible assumption))))); have B := OB.mono B (Below.size (show Below w1.heap.size w1 _ from (by repeat (first | with_reducible exact Below.refl w1.heap.size w1 | with_reducible refine Below.drew ?_ | with_reducible refine old_alloc ?_ _ | with_reducible refine old_trans ?_ (by with_reducible assumption)))))))
    all_goals as_aux_lemma =>
      go_wp2_with fail
      go_meet
      first | exact ⟨_, rfl, Two.aa hyc A B sAB⟩ | exact ⟨_, rfl, Two.ba hyc A B sAB⟩ | exact ⟨_, rfl, Two.sa hyc A B sAB N (by first | exact Nat.le_refl _ | exact Nat.le_succ _ | exact zza | exact Nat.le_succ_of_le zza | exact zzb | exact Nat.le_succ_of_le zzb | omega) NA NB⟩ | exact ⟨_, rfl, Two.sb hyc A B sAB N (by first | exact Nat.le_refl _ | exact Nat.le_succ _ | exact zza | exact Nat.le_succ_of_le zza | exact zzb | exact Nat.le_succ_of_le zzb | omega) NA NB⟩ | exact ⟨_, rfl, Two.mk N O (by first | exact NOd | exact Ne.symm NOd | exact Nat.ne_of_lt (Nat.lt_succ_self _) | exact Nat.ne_of_gt (Nat.lt_succ_self _) | omega) A B (Nat.le_refl _) sAB (by first | exact Nat.le_refl _ | exact Nat.le_succ _ | exact zza | exact Nat.le_succ_of_le zza | exact zzb | exact Nat.le_succ_of_le zzb | omega) (by first | exact Nat.le_refl _ | exact Nat.le_succ _ | exact zza | exact Nat.le_succ_of_le zza | exact zzb | exact Nat.le_succ_of_le zzb | omega) NA OA NB OB' hyc⟩ | exact ⟨_, rfl, Two.mk O N (by first | exact NOd | exact Ne.symm NOd | exact Nat.ne_of_lt (Nat.lt_succ_self _) | exact Nat.ne_of_gt (Nat.lt_succ_self _) | omega) A B (Nat.le_refl _) sAB (by first | exact Nat.le_refl _ | exact Nat.le_succ _ | exact zza | exact Nat.le_succ_of_le zza | exact zzb | exact Nat.le_succ_of_le zzb | omega) (by first | exact Nat.le_refl _ | exact Nat.le_succ _ | exact zza | exact Nat.le_succ_of_le zza | exact zzb | exact Nat.le_succ_of_le zzb | omega) OA NA OB' NB hyc⟩
  case rest =>
    obtain ⟨wC5, hwC, pWAc, pWBc, avWA, cvWA, avWB, cvWB, hs1, hs2, hs3, WAc, WBc, WA, WB, sepWAWB, gWAc, gWBc, x1, x2, x3, x4, hbC⟩ := hcut
    subst hwC hs1 hs2 hs3
    have e_WA_WAc := x1
    have e_WA_WBc := x2
    have e_WB_WAc := x3
    have e_WB_WBc := x4
    clear x1 x2 x3 x4
    replace K := K.later hbC
    replace R := R.old hbC
    replace hB := old_trans hB hbC
    replace Q := Q.later hbC
    clear hbC
    have K0 := K.1
    have K2 := K.2.2
    have WAc0 := WAc.1
    have WAc2 := WAc.2.2
    have WBc0 := WBc.1
    have WBc2 := WBc.2.2
    have l_Q_X := Q.2.2.2.2
    go_wp2_with fail
    have l_K_X := K.2.2
    have l_WAc_X := WAc.2.2
    have l_WBc_X := WBc.2.2
    have l_WA_X := WA.lt
    have l_WB_X := WB.lt
    have l_R_X := R.far
    have n_X := hB.size
    refine (toBoxO a1 cap1 ps1 _ R hl1).mono ?_
    rintro e w2 ⟨⟨avX, cvX, rfl, X⟩, hb2⟩
    clear K0 K2 WAc0 WAc2 WBc0 WBc2
    replace K := K.later hb2
    replace WAc := WAc.later hb2
    replace WBc := WBc.later hb2
    replace WA := WA.later hb2
    replace WB := WB.later hb2
    replace R := R.old hb2
    replace hB := old_trans hB hb2
    replace Q := Q.later hb2
    clear hb2
    have K0 := K.1
    have K2 := K.2.2
    have WAc0 := WAc.1
    have WAc2 := WAc.2.2
    have WBc0 := WBc.1
    have WBc2 := WBc.2.2
    have y_WA_Xc := WA.lt
    have y_WB_Xc := WB.lt
    have y_X_Xc := X.lt
    replace Q := (Q.alloc (.cells #[.slice avX ps1.length cvX] 30))
    clear K0 K2 WAc0 WAc2 WBc0 WBc2
    replace K := (K.alloc (.cells #[.slice avX ps1.length cvX] 30))
    replace WAc := (WAc.alloc (.cells #[.slice avX ps1.length cvX] 30))
    replace WBc := (WBc.alloc (.cells #[.slice avX ps1.length cvX] 30))
    replace WA := (WA.alloc (.cells #[.slice avX ps1.length cvX] 30))
    replace WB := (WB.alloc (.cells #[.slice avX ps1.length cvX] 30))
    replace X := (X.alloc (.cells #[.slice avX ps1.length cvX] 30))
    replace R := (R.alloc (.cells #[.slice avX ps1.length cvX] 30))
    replace hB := old_alloc hB (.cells #[.slice avX ps1.length cvX] 30)
    have Xc : Cel1 (w2.alloc (.cells #[.slice avX ps1.length cvX] 30)) (w2.heap.size) (.slice avX ps1.length cvX) := Cel1.made w2 _ (by simp) _ _
    have K0 := K.1
    have K2 := K.2.2
    have WAc0 := WAc.1
    have WAc2 := WAc.2.2
    have WBc0 := WBc.1
    have WBc2 := WBc.2.2
    have Xc0 := Xc.1
    have Xc2 := Xc.2.2
    go_upto_region 7 with fail
    clear K0 K2 WAc0 WAc2 WBc0 WBc2 Xc0 Xc2
    generalize (w2.alloc (.cells #[.slice avX ps1.length cvX] 30)) = V1 at *
    generalize hpXc : w2.heap.size = pXc at *
    have l_K_GA := K.2.2
    have l_K_GB := K.2.2
    have l_WAc_GA := WAc.2.2
    have l_WAc_GB := WAc.2.2
    have l_WBc_GA := WBc.2.2
    have l_WBc_GB := WBc.2.2
    have l_Xc_GA := Xc.2.2
    have l_Xc_GB := Xc.2.2
    have l_Q_GA := Q.2.2.2.2
    have l_Q_GB := Q.2.2.2.2
    have l_WA_GA := WA.lt
    have l_WA_GB := WA.lt
    have l_WB_GA := WB.lt
    have l_WB_GB := WB.lt
    have l_X_GA := X.lt
    have l_X_GB := X.lt
    have l_R_GA := R.far
    have l_R_GB := R.far
    have n_GA := hB.size
    have n_GB := hB.size
    go_cut [14, 15, 16] (fun s s' t wx => ∃ wC, wC = wx ∧ Two V1 wC s s' t r qa qb)
    case first => as_aux_lemma =>
      have TB := hd (fun w' (h : Below V1.heap.size V1 w') => toBoxO a1 cap1 ps1 w' (R.old h) hl1)
      have TP := hd (toPairB a3 b3)
      have CC := hd (fun av cv w' (h : InRow w' av ps1.length cv ps1) => I.out av cv w' h)
      have hv : Hid (∀ W, Below V1.heap.size V1 W → Cel1 W pK (.slice a1 ps1.length cap1) ∧ Cel2 W (pK + 1) (.int .i64 a3) (.int .i64 b3) ∧ Cel1 W pXc (.slice avX ps1.length cvX) ∧ InRow W avX ps1.length cvX ps1) := fun W h => ⟨K.later h, Q.later h, Xc.later h, (X.later h).inRow⟩
      have hys : Below V1.heap.size V1 V1 := (Below.refl _ V1)
      have hzs := hv.out V1 hys
      have zzs := hys.size
      have K0 := hzs.1.1
      have K2 := hzs.1.2.2
      have Kn := Nat.ne_of_lt K2
      have Ko := Nat.ne_of_gt K2
      have Kp := Nat.ne_of_lt (Nat.lt_add_right 1 K2)
      have Kq := Nat.ne_of_gt (Nat.lt_add_right 1 K2)
      have Q0 := hzs.2.1.1
      have Q1 := hzs.2.1.2.1
      have Q4 := hzs.2.1.2.2.2.2
      have Qn := Nat.ne_of_lt Q4
      have Qo := Nat.ne_of_gt Q4
      have Qp := Nat.ne_of_lt (Nat.lt_add_right 1 Q4)
      have Qq := Nat.ne_of_gt (Nat.lt_add_right 1 Q4)
      have X0 := hzs.2.2.1.1
      have X2 := hzs.2.2.1.2.2
      have Xn := Nat.ne_of_lt X2
      have Xo := Nat.ne_of_gt X2
      have Xp := Nat.ne_of_lt (Nat.lt_add_right 1 X2)
      have Xq := Nat.ne_of_gt (Nat.lt_add_right 1 X2)
      go_wp2_with fail
      go_region_held3 (fun w' => w'.cell? ⟨pK, 0, none⟩ = some (.slice a1 ps1.length cap1) ∧ w'.cell? ⟨pK + 1, 0, none⟩ = some (.int .i64 a3) ∧ w'.cell? ⟨pK + 1, 1, none⟩ = some (.int .i64 b3) ∧ w'.cell? ⟨pXc, 0, none⟩ = some (.slice avX ps1.length cvX)) (go_keep) (first | (go_at_call 7; refine (TP.out _).mono ?_; rintro e wb ⟨rfl, hbb⟩; have hyb : Below V1.heap.size V1 wb := (by repeat (first | with_reducible exact Below.refl _ _ | with_reducible refine Below.drew ?_ | with_reducible refine old_alloc ?_ _ | with_reducible refine old_trans ?_ (by with_reducible assumption))); have hzb := hv.out wb hyb; have zzb := hyb.size; have K0 := hzb.1.1; have K2 := hzb.1.2.2; have Kn := Nat.ne_of_lt K2; have Ko := Nat.ne_of_gt K2; have Kp := Nat.ne_of_lt (Nat.lt_add_right 1 K2); have Kq := Nat.ne_of_gt (Nat.lt_add_right 1 K2); have Q0 := hzb.2.1.1; have Q1 := hzb.2.1.2.1; have Q4 := hzb.2.1.2.2.2.2; have Qn := Nat.ne_of_lt Q4; have Qo := Nat.ne_of_gt Q4; have Qp := Nat.ne_of_lt (Nat.lt_add_right 1 Q4); have Qq := Nat.ne_of_gt (Nat.lt_add_right 1 Q4); have X0 := hzb.2.2.1.1; have X2 := hzb.2.2.1.2.2; have Xn := Nat.ne_of_lt X2; have Xo := Nat.ne_of_gt X2; have Xp := Nat.ne_of_lt (Nat.lt_add_right 1 X2); have Xq := Nat.ne_of_gt (Nat.lt_add_right 1 X2); have zb := hbb.size; (first | (have OO := (O).laterX hbb; have O := OO.1; have O0 := O.1; have O1 := O.2.1; have Oz := O.2.2; have On := Nat.ne_of_lt Oz; have Oo := Nat.ne_of_gt Oz; have NN := (N).laterX hbb; have N := NN.1; have N0 := N.1; have N1 := N.2.1; have Nz := N.2.2; have Nn := Nat.ne_of_lt Nz; have No := Nat.ne_of_gt Nz) | (have NOd := Nat.ne_of_lt N.2.2; have NP := N.alloc (.cells #[.slice none 0 0] 30); have NN := (NP).laterX hbb; have N := NN.1; have N0 := N.1; have N1 := N.2.1; have Nz := N.2.2; have Nn := Nat.ne_of_lt Nz; have No := Nat.ne_of_gt Nz; have OO := (Cel1.made _ _ rfl (.slice none 0 0) 30).laterX hbb; have O := OO.1; (try simp only [World.size_alloc] at O); have O0 := O.1; have O1 := O.2.1; have Oz := O.2.2; have On := Nat.ne_of_lt Oz; have Oo := Nat.ne_of_gt Oz) | (have NN := (N).laterX hbb; have N := NN.1; have N0 := N.1; have N1 := N.2.1; have Nz := N.2.2; have Nn := Nat.ne_of_lt Nz; have No := Nat.ne_of_gt Nz) | (have NN := ((Cel1.made _ _ rfl (.slice none 0 0) 30).alloc (.cells #[.slice none 0 0] 30)).laterX hbb; have N := NN.1; (try simp only [World.size_alloc] at N); have N0 := N.1; have N1 := N.2.1; have Nz := N.2.2; have Nn := Nat.ne_of_lt Nz; have No := Nat.ne_of_gt Nz; have OO := (Cel1.made _ _ rfl (.slice none 0 0) 30).laterX hbb; have O := OO.1; (try simp only [World.size_alloc] at O); have O0 := O.1; have O1 := O.2.1; have Oz := O.2.2; have On := Nat.ne_of_lt Oz; have Oo := Nat.ne_of_gt Oz) | (have NN := (Cel1.made _ _ rfl (.slice none 0 0) 30).laterX hbb; have N := NN.1; (try simp only [World.size_alloc] at N); have N0 := N.1; have N1 := N.2.1; have Nz := N.2.2; have Nn := Nat.ne_of_lt Nz; have No := Nat.ne_of_gt Nz) | (have NN := (((Cel1.made _ _ rfl (.slice none 0 0) 30).alloc (.cells #[.slice none 0 0] 30)).drew).laterX hbb; have N := NN.1; (try simp only [World.size_alloc] at N); have N0 := N.1; have N1 := N.2.1; have Nz := N.2.2; have Nn := Nat.ne_of_lt Nz; have No := Nat.ne_of_gt Nz; have OO := ((Cel1.made _ _ rfl (.slice none 0 0) 30).drew).laterX hbb; have O := OO.1; (try simp only [World.size_alloc] at O); have O0 := O.1; have O1 := O.2.1; have Oz := O.2.2; have On := Nat.ne_of_lt Oz; have Oo := Nat.ne_of_gt Oz) | (have NN := ((Cel1.made _ _ rfl (.slice none 0 0) 30).drew).laterX hbb; have N := NN.1; (try simp only [World.size_alloc] at N); have N0 := N.1; have N1 := N.2.1; have Nz := N.2.2; have Nn := Nat.ne_of_lt Nz; have No := Nat.ne_of_gt Nz) | skip)) | (go_at_call 8; refine (CC.out avX cvX _ (hv.out _ (by repeat (first | with_reducible exact Below.refl _ _ | with_reducible refine Below.drew ?_ | with_reducible refine old_alloc ?_ _ | with_reducible refine old_trans ?_ (by with_reducible assumption)))).2.2.2).mono ?_; rintro e ws ⟨⟨avA, cvA, avB, cvB, rfl, A, B, sAB⟩, hbs⟩; have hyc : Below V1.heap.size V1 ws := (by repeat (first | with_reducible exact Below.refl _ _ | with_reducible refine Below.drew ?_ | with_reducible refine old_alloc ?_ _ | with_reducible refine old_trans ?_ (by with_reducible assumption))); have hzc := hv.out ws hyc; have zzc := hyc.size; have K0 := hzc.1.1; have K2 := hzc.1.2.2; have Kn := Nat.ne_of_lt K2; have Ko := Nat.ne_of_gt K2; have Kp := Nat.ne_of_lt (Nat.lt_add_right 1 K2); have Kq := Nat.ne_of_gt (Nat.lt_add_right 1 K2); have Q0 := hzc.2.1.1; have Q1 := hzc.2.1.2.1; have Q4 := hzc.2.1.2.2.2.2; have Qn := Nat.ne_of_lt Q4; have Qo := Nat.ne_of_gt Q4; have Qp := Nat.ne_of_lt (Nat.lt_add_right 1 Q4); have Qq := Nat.ne_of_gt (Nat.lt_add_right 1 Q4); have X0 := hzc.2.2.1.1; have X2 := hzc.2.2.1.2.2; have Xn := Nat.ne_of_lt X2; have Xo := Nat.ne_of_gt X2; have Xp := Nat.ne_of_lt (Nat.lt_add_right 1 X2); have Xq := Nat.ne_of_gt (Nat.lt_add_right 1 X2); have zs := hbs.size; (first | (have OO := (O).laterX hbs; have O := OO.1; have OA := A.ne_old OO.2; have OB' := B.ne_old OO.2; have O0 := O.1; have O1 := O.2.1; have Oz := O.2.2; have On := Nat.ne_of_lt Oz; have Oo := Nat.ne_of_gt Oz; have NN := (N).laterX hbs; have N := NN.1; have NA := A.ne_old NN.2; have NB := B.ne_old NN.2; have N0 := N.1; have N1 := N.2.1; have Nz := N.2.2; have Nn := Nat.ne_of_lt Nz; have No := Nat.ne_of_gt Nz) | (have NOd := Nat.ne_of_lt N.2.2; have NP := N.alloc (.cells #[.slice none 0 0] 30); have NN := (NP).laterX hbs; have N := NN.1; have NA := A.ne_old NN.2; have NB := B.ne_old NN.2; have N0 := N.1; have N1 := N.2.1; have Nz := N.2.2; have Nn := Nat.ne_of_lt Nz; have No := Nat.ne_of_gt Nz; have OO := (Cel1.made _ _ rfl (.slice none 0 0) 30).laterX hbs; have O := OO.1; have OA := A.ne_old OO.2; have OB' := B.ne_old OO.2; (try simp only [World.size_alloc] at O); (try simp only [World.size_alloc] at OA OB'); have O0 := O.1; have O1 := O.2.1; have Oz := O.2.2; have On := Nat.ne_of_lt Oz; have Oo := Nat.ne_of_gt Oz) | (have NN := (N).laterX hbs; have N := NN.1; have NA := A.ne_old NN.2; have NB := B.ne_old NN.2; have N0 := N.1; have N1 := N.2.1; have Nz := N.2.2; have Nn := Nat.ne_of_lt Nz; have No := Nat.ne_of_gt Nz) | (have NN := ((Cel1.made _ _ rfl (.slice none 0 0) 30).alloc (.cells #[.slice none 0 0] 30)).laterX hbs; have N := NN.1; have NA := A.ne_old NN.2; have NB := B.ne_old NN.2; (try simp only [World.size_alloc] at N); (try simp only [World.size_alloc] at NA NB); have N0 := N.1; have N1 := N.2.1; have Nz := N.2.2; have Nn := Nat.ne_of_lt Nz; have No := Nat.ne_of_gt Nz; have OO := (Cel1.made _ _ rfl (.slice none 0 0) 30).laterX hbs; have O := OO.1; have OA := A.ne_old OO.2; have OB' := B.ne_old OO.2; (try simp only [World.size_alloc] at O); (try simp only [World.size_alloc] at OA OB'); have O0 := O.1; have O1 := O.2.1; have Oz := O.2.2; have On := Nat.ne_of_lt Oz; have Oo := Nat.ne_of_gt Oz) | (have NN := (Cel1.made _ _ rfl (.slice none 0 0) 30).laterX hbs; have N := NN.1; have NA := A.ne_old NN.2; have NB := B.ne_old NN.2; (try simp only [World.size_alloc] at N); (try simp only [World.size_alloc] at NA NB); have N0 := N.1; have N1 := N.2.1; have Nz := N.2.2; have Nn := Nat.ne_of_lt Nz; have No := Nat.ne_of_gt Nz) | (have NN := (((Cel1.made _ _ rfl (.slice none 0 0) 30).alloc (.cells #[.slice none 0 0] 30)).drew).laterX hbs; have N := NN.1; have NA := A.ne_old NN.2; have NB := B.ne_old NN.2; (try simp only [World.size_alloc] at N); (try simp only [World.size_alloc] at NA NB); have N0 := N.1; have N1 := N.2.1; have Nz := N.2.2; have Nn := Nat.ne_of_lt Nz; have No := Nat.ne_of_gt Nz; have OO := ((Cel1.made _ _ rfl (.slice none 0 0) 30).drew).laterX hbs; have O := OO.1; have OA := A.ne_old OO.2; have OB' := B.ne_old OO.2; (try simp only [World.size_alloc] at O); (try simp only [World.size_alloc] at OA OB'); have O0 := O.1; have O1 := O.2.1; have Oz := O.2.2; have On := Nat.ne_of_lt Oz; have Oo := Nat.ne_of_gt Oz) | (have NN := ((Cel1.made _ _ rfl (.slice none 0 0) 30).drew).laterX hbs; have N := NN.1; have NA := A.ne_old NN.2; have NB := B.ne_old NN.2; (try simp only [World.size_alloc] at N); (try simp only [World.size_alloc] at NA NB); have N0 := N.1; have N1 := N.2.1; have Nz := N.2.2; have Nn := Nat.ne_of_lt Nz; have No := Nat.ne_of_gt Nz) | skip); have A := OB.mono A (Below.size (show Below V1.heap.size V1 _ from (by repeat (first | with_reducible exact Below.refl V1.heap.size V1 | with_reducible refine Below.drew ?_ | with_reducible refine old_alloc ?_ _ | with_reducible refine old_trans ?_ (by with_reducible assumption))))); have B := OB.mono B (Below.size (show Below V1.heap.size V1 _ from (by repeat (first | with_reducible exact Below.refl V1.heap.size V1 | with_reducible refine Below.drew ?_ | with_reducible refine old_alloc ?_ _ | with_reducible refine old_trans ?_ (by with_reducible assumption)))))))
      all_goals as_aux_lemma =>
        go_wp2_with fail
        go_meet
        first | exact ⟨_, rfl, Two.aa hyc A B sAB⟩ | exact ⟨_, rfl, Two.ba hyc A B sAB⟩ | exact ⟨_, rfl, Two.sa hyc A B sAB N (by first | exact Nat.le_refl _ | exact Nat.le_succ _ | exact zzb | exact Nat.le_succ_of_le zzb | omega) NA NB⟩ | exact ⟨_, rfl, Two.sb hyc A B sAB N (by first | exact Nat.le_refl _ | exact Nat.le_succ _ | exact zzb | exact Nat.le_succ_of_le zzb | omega) NA NB⟩ | exact ⟨_, rfl, Two.mk N O (by first | exact NOd | exact Ne.symm NOd | exact Nat.ne_of_lt (Nat.lt_succ_self _) | exact Nat.ne_of_gt (Nat.lt_succ_self _) | omega) A B (Nat.le_refl _) sAB (by first | exact Nat.le_refl _ | exact Nat.le_succ _ | exact zzb | exact Nat.le_succ_of_le zzb | omega) (by first | exact Nat.le_refl _ | exact Nat.le_succ _ | exact zzb | exact Nat.le_succ_of_le zzb | omega) NA OA NB OB' hyc⟩ | exact ⟨_, rfl, Two.mk O N (by first | exact NOd | exact Ne.symm NOd | exact Nat.ne_of_lt (Nat.lt_succ_self _) | exact Nat.ne_of_gt (Nat.lt_succ_self _) | omega) A B (Nat.le_refl _) sAB (by first | exact Nat.le_refl _ | exact Nat.le_succ _ | exact zzb | exact Nat.le_succ_of_le zzb | omega) (by first | exact Nat.le_refl _ | exact Nat.le_succ _ | exact zzb | exact Nat.le_succ_of_le zzb | omega) OA NA OB' NB hyc⟩
    case rest =>
      obtain ⟨wC7, hwC, pGAc, pGBc, avGA, cvGA, avGB, cvGB, hs1, hs2, hs3, GAc, GBc, GA, GB, sepGAGB, gGAc, gGBc, x1, x2, x3, x4, hbC⟩ := hcut
      subst hwC hs1 hs2 hs3
      have e_GA_GAc := x1
      have e_GA_GBc := x2
      have e_GB_GAc := x3
      have e_GB_GBc := x4
      clear x1 x2 x3 x4
      have y_WA_GAc : ∀ q, avWA = some q → q.block < pGAc := fun q e => Nat.lt_of_lt_of_le (l_WA_GA q e) gGAc
      have y_WA_GBc : ∀ q, avWA = some q → q.block < pGBc := fun q e => Nat.lt_of_lt_of_le (l_WA_GA q e) gGBc
      have y_WB_GAc : ∀ q, avWB = some q → q.block < pGAc := fun q e => Nat.lt_of_lt_of_le (l_WB_GA q e) gGAc
      have y_WB_GBc : ∀ q, avWB = some q → q.block < pGBc := fun q e => Nat.lt_of_lt_of_le (l_WB_GA q e) gGBc
      have y_X_GAc : ∀ q, avX = some q → q.block < pGAc := fun q e => Nat.lt_of_lt_of_le (l_X_GA q e) gGAc
      have y_X_GBc : ∀ q, avX = some q → q.block < pGBc := fun q e => Nat.lt_of_lt_of_le (l_X_GA q e) gGBc
      replace K := K.later hbC
      replace WAc := WAc.later hbC
      replace WBc := WBc.later hbC
      replace Xc := Xc.later hbC
      replace WA := WA.later hbC
      replace WB := WB.later hbC
      replace X := X.later hbC
      replace R := R.old hbC
      replace hB := old_trans hB hbC
      replace Q := Q.later hbC
      clear hbC
      have K0 := K.1
      have K2 := K.2.2
      have WAc0 := WAc.1
      have WAc2 := WAc.2.2
      have WBc0 := WBc.1
      have WBc2 := WBc.2.2
      have Xc0 := Xc.1
      have Xc2 := Xc.2.2
      have GAc0 := GAc.1
      have GAc2 := GAc.2.2
      have GBc0 := GBc.1
      have GBc2 := GBc.2.2
      go_wp2_with fail
      refine (lEqO avGA avWA cvGA cvWA _ _ qa _ GA WA).mono ?_
      rintro e w3 ⟨rfl, hb3⟩
      clear K0 K2 WAc0 WAc2 WBc0 WBc2 Xc0 Xc2 GAc0 GAc2 GBc0 GBc2
      replace K := K.later hb3
      replace WAc := WAc.later hb3
      replace WBc := WBc.later hb3
      replace Xc := Xc.later hb3
      replace GAc := GAc.later hb3
      replace GBc := GBc.later hb3
      replace WA := WA.later hb3
      replace WB := WB.later hb3
      replace X := X.later hb3
      replace GA := GA.later hb3
      replace GB := GB.later hb3
      replace R := R.old hb3
      replace hB := old_trans hB hb3
      replace Q := Q.later hb3
      clear hb3
      have K0 := K.1
      have K2 := K.2.2
      have WAc0 := WAc.1
      have WAc2 := WAc.2.2
      have WBc0 := WBc.1
      have WBc2 := WBc.2.2
      have Xc0 := Xc.1
      have Xc2 := Xc.2.2
      have GAc0 := GAc.1
      have GAc2 := GAc.2.2
      have GBc0 := GBc.1
      have GBc2 := GBc.2.2
      go_wp2_with fail
      refine (lEqO avGB avWB cvGB cvWB _ _ qb _ GB WB).mono ?_
      rintro e w4 ⟨rfl, hb4⟩
      clear K0 K2 WAc0 WAc2 WBc0 WBc2 Xc0 Xc2 GAc0 GAc2 GBc0 GBc2
      replace K := K.later hb4
      replace WAc := WAc.later hb4
      replace WBc := WBc.later hb4
      replace Xc := Xc.later hb4
      replace GAc := GAc.later hb4
      replace GBc := GBc.later hb4
      replace WA := WA.later hb4
      replace WB := WB.later hb4
      replace X := X.later hb4
      replace GA := GA.later hb4
      replace GB := GB.later hb4
      replace R := R.old hb4
      replace hB := old_trans hB hb4
      replace Q := Q.later hb4
      clear hb4
      have K0 := K.1
      have K2 := K.2.2
      have WAc0 := WAc.1
      have WAc2 := WAc.2.2
      have WBc0 := WBc.1
      have WBc2 := WBc.2.2
      have Xc0 := Xc.1
      have Xc2 := Xc.2.2
      have GAc0 := GAc.1
      have GAc2 := GAc.2.2
      have GBc0 := GBc.1
      have GBc2 := GBc.2.2
      go_wp2_with fail
      go_region_held3 (fun w' => w'.cell? ⟨pXc, 0, none⟩ = some (.slice avX ps1.length cvX) ∧ w'.cell? ⟨pK, 0, none⟩ = some (.slice a1 ps1.length cap1)) (go_keep) (first | (go_at_call 6; refine (toBoxO a1 cap1 ps1 _ R.drew hl1).mono ?_; rintro e wz ⟨⟨avZ, cvZ, rfl, Z⟩, hbz⟩; have K := K.drew.later hbz; have WAc := WAc.drew.later hbz; have WBc := WBc.drew.later hbz; have Xc := Xc.drew.later hbz; have GAc := GAc.drew.later hbz; have GBc := GBc.drew.later hbz; have WA := WA.drew.later hbz; have WB := WB.drew.later hbz; have X := X.drew.later hbz; have GA := GA.drew.later hbz; have GB := GB.drew.later hbz; have R := R.drew.old hbz; have Q := Q.drew.later hbz; have hB := old_trans (Below.drew hB) hbz; have K0 := K.1; have K2 := K.2.2; have WAc0 := WAc.1; have WAc2 := WAc.2.2; have WBc0 := WBc.1; have WBc2 := WBc.2.2; have Xc0 := Xc.1; have Xc2 := Xc.2.2; have GAc0 := GAc.1; have GAc2 := GAc.2.2; have GBc0 := GBc.1; have GBc2 := GBc.2.2) | (go_at_call 9; refine (lEqO avX avZ cvX cvZ _ _ ps1 _ X Z).mono ?_; rintro e wy ⟨rfl, hby⟩; have K := K.later hby; have WAc := WAc.later hby; have WBc := WBc.later hby; have Xc := Xc.later hby; have GAc := GAc.later hby; have GBc := GBc.later hby; have WA := WA.later hby; have WB := WB.later hby; have X := X.later hby; have GA := GA.later hby; have GB := GB.later hby; have R := R.old hby; have Q := Q.later hby; have hB := old_trans hB hby; have K0 := K.1; have K2 := K.2.2; have WAc0 := WAc.1; have WAc2 := WAc.2.2; have WBc0 := WBc.1; have WBc2 := WBc.2.2; have Xc0 := Xc.1; have Xc2 := Xc.2.2; have GAc0 := GAc.1; have GAc2 := GAc.2.2; have GBc0 := GBc.1; have GBc2 := GBc.2.2))
      go_wp2_with fail
      refine (lMarkO _ avX cvX ps1 (1) _ X hl1 (by omega) (by omega)).mono ?_
      rintro e w6 ⟨rfl, X', hg6⟩
      clear K0 K2 WAc0 WAc2 WBc0 WBc2 Xc0 Xc2 GAc0 GAc2 GBc0 GBc2
      replace K := K.kept hg6 (X.ne_old l_K_X)
      replace WAc := WAc.kept hg6 (X.ne_old l_WAc_X)
      replace WBc := WBc.kept hg6 (X.ne_old l_WBc_X)
      replace Xc := Xc.kept hg6 (ne_young (fun q e => by have := y_X_Xc q e; omega))
      replace GAc := GAc.kept hg6 (ne_young (fun q e => by have := y_X_GAc q e; omega))
      replace GBc := GBc.kept hg6 (ne_young (fun q e => by have := y_X_GBc q e; omega))
      replace WA := WA.kept hg6 (X.sep l_WA_X)
      replace WB := WB.kept hg6 (X.sep l_WB_X)
      replace GA := GA.kept hg6 (GA.sep' l_X_GA)
      replace GB := GB.kept hg6 (GB.sep' l_X_GB)
      replace R := R.kept' hg6 (fun h0 => X.sep (l_R_X h0))
      replace Q := Q.kept hg6 (X.ne_old l_Q_X)
      replace hB := Below.marked hB X hg6 n_X hB.size
      clear X
      have X := X'
      clear X'
      have K0 := K.1
      have K2 := K.2.2
      have WAc0 := WAc.1
      have WAc2 := WAc.2.2
      have WBc0 := WBc.1
      have WBc2 := WBc.2.2
      have Xc0 := Xc.1
      have Xc2 := Xc.2.2
      have GAc0 := GAc.1
      have GAc2 := GAc.2.2
      have GBc0 := GBc.1
      have GBc2 := GBc.2.2
      go_wp2_with fail
      refine (lEqO avGA avWA cvGA cvWA _ _ qa _ GA WA).mono ?_
      rintro e w7 ⟨rfl, hb7⟩
      clear K0 K2 WAc0 WAc2 WBc0 WBc2 Xc0 Xc2 GAc0 GAc2 GBc0 GBc2
      replace K := K.later hb7
      replace WAc := WAc.later hb7
      replace WBc := WBc.later hb7
      replace Xc := Xc.later hb7
      replace GAc := GAc.later hb7
      replace GBc := GBc.later hb7
      replace WA := WA.later hb7
      replace WB := WB.later hb7
      replace X := X.later hb7
      replace GA := GA.later hb7
      replace GB := GB.later hb7
      replace R := R.old hb7
      replace hB := old_trans hB hb7
      replace Q := Q.later hb7
      clear hb7
      have K0 := K.1
      have K2 := K.2.2
      have WAc0 := WAc.1
      have WAc2 := WAc.2.2
      have WBc0 := WBc.1
      have WBc2 := WBc.2.2
      have Xc0 := Xc.1
      have Xc2 := Xc.2.2
      have GAc0 := GAc.1
      have GAc2 := GAc.2.2
      have GBc0 := GBc.1
      have GBc2 := GBc.2.2
      go_wp2_with fail
      refine (lEqO avGB avWB cvGB cvWB _ _ qb _ GB WB).mono ?_
      rintro e w8 ⟨rfl, hb8⟩
      clear K0 K2 WAc0 WAc2 WBc0 WBc2 Xc0 Xc2 GAc0 GAc2 GBc0 GBc2
      replace K := K.later hb8
      replace WAc := WAc.later hb8
      replace WBc := WBc.later hb8
      replace Xc := Xc.later hb8
      replace GAc := GAc.later hb8
      replace GBc := GBc.later hb8
      replace WA := WA.later hb8
      replace WB := WB.later hb8
      replace X := X.later hb8
      replace GA := GA.later hb8
      replace GB := GB.later hb8
      replace R := R.old hb8
      replace hB := old_trans hB hb8
      replace Q := Q.later hb8
      clear hb8
      have K0 := K.1
      have K2 := K.2.2
      have WAc0 := WAc.1
      have WAc2 := WAc.2.2
      have WBc0 := WBc.1
      have WBc2 := WBc.2.2
      have Xc0 := Xc.1
      have Xc2 := Xc.2.2
      have GAc0 := GAc.1
      have GAc2 := GAc.2.2
      have GBc0 := GBc.1
      have GBc2 := GBc.2.2
      go_wp2_with fail
      refine (lMarkO _ avGA cvGA qa (1) _ GA hqa (by omega) (by omega)).mono ?_
      rintro e w9 ⟨rfl, GA', hg9⟩
      clear K0 K2 WAc0 WAc2 WBc0 WBc2 Xc0 Xc2 GAc0 GAc2 GBc0 GBc2
      replace K := K.kept hg9 (GA.ne_old l_K_GA)
      replace WAc := WAc.kept hg9 (GA.ne_old l_WAc_GA)
      replace WBc := WBc.kept hg9 (GA.ne_old l_WBc_GA)
      replace Xc := Xc.kept hg9 (GA.ne_old l_Xc_GA)
      replace GAc := GAc.kept hg9 e_GA_GAc
      replace GBc := GBc.kept hg9 e_GA_GBc
      replace WA := WA.kept hg9 (GA.sep l_WA_GA)
      replace WB := WB.kept hg9 (GA.sep l_WB_GA)
      replace X := X.kept hg9 (GA.sep l_X_GA)
      replace GB := GB.kept hg9 (fun q e h => by exact twin_ne (twin_sym sepGAGB) q e h)
      replace R := R.kept' hg9 (fun h0 => GA.sep (l_R_GA h0))
      replace Q := Q.kept hg9 (GA.ne_old l_Q_GA)
      replace hB := Below.marked hB GA hg9 n_GA hB.size
      clear GA
      have GA := GA'
      clear GA'
      have K0 := K.1
      have K2 := K.2.2
      have WAc0 := WAc.1
      have WAc2 := WAc.2.2
      have WBc0 := WBc.1
      have WBc2 := WBc.2.2
      have Xc0 := Xc.1
      have Xc2 := Xc.2.2
      have GAc0 := GAc.1
      have GAc2 := GAc.2.2
      have GBc0 := GBc.1
      have GBc2 := GBc.2.2
      go_wp2_with fail
      refine (lMarkO _ avGB cvGB qb (1 + 2 * (qa.length : Int)) _ GB hqb (by omega) (by omega)).mono ?_
      rintro e w10 ⟨rfl, GB', hg10⟩
      clear K0 K2 WAc0 WAc2 WBc0 WBc2 Xc0 Xc2 GAc0 GAc2 GBc0 GBc2
      replace K := K.kept hg10 (GB.ne_old l_K_GB)
      replace WAc := WAc.kept hg10 (GB.ne_old l_WAc_GB)
      replace WBc := WBc.kept hg10 (GB.ne_old l_WBc_GB)
      replace Xc := Xc.kept hg10 (GB.ne_old l_Xc_GB)
      replace GAc := GAc.kept hg10 e_GB_GAc
      replace GBc := GBc.kept hg10 e_GB_GBc
      replace WA := WA.kept hg10 (GB.sep l_WA_GB)
      replace WB := WB.kept hg10 (GB.sep l_WB_GB)
      replace X := X.kept hg10 (GB.sep l_X_GB)
      replace GA := GA.kept hg10 (fun q e h => by exact twin_ne sepGAGB q e h)
      replace R := R.kept' hg10 (fun h0 => GB.sep (l_R_GB h0))
      replace Q := Q.kept hg10 (GB.ne_old l_Q_GB)
      replace hB := Below.marked hB GB hg10 n_GB hB.size
      clear GB
      have GB := GB'
      clear GB'
      have K0 := K.1
      have K2 := K.2.2
      have WAc0 := WAc.1
      have WAc2 := WAc.2.2
      have WBc0 := WBc.1
      have WBc2 := WBc.2.2
      have Xc0 := Xc.1
      have Xc2 := Xc.2.2
      have GAc0 := GAc.1
      have GAc2 := GAc.2.2
      have GBc0 := GBc.1
      have GBc2 := GBc.2.2
      go_wp2_with fail
      refine (lHeldO _ avGA cvGA qa.length (1) _ GA hqa (by omega) (by omega)).mono ?_
      rintro e w11 ⟨rfl, hb11⟩
      clear K0 K2 WAc0 WAc2 WBc0 WBc2 Xc0 Xc2 GAc0 GAc2 GBc0 GBc2
      replace K := K.later hb11
      replace WAc := WAc.later hb11
      replace WBc := WBc.later hb11
      replace Xc := Xc.later hb11
      replace GAc := GAc.later hb11
      replace GBc := GBc.later hb11
      replace WA := WA.later hb11
      replace WB := WB.later hb11
      replace X := X.later hb11
      replace GA := GA.later hb11
      replace GB := GB.later hb11
      replace R := R.old hb11
      replace hB := old_trans hB hb11
      replace Q := Q.later hb11
      clear hb11
      have K0 := K.1
      have K2 := K.2.2
      have WAc0 := WAc.1
      have WAc2 := WAc.2.2
      have WBc0 := WBc.1
      have WBc2 := WBc.2.2
      have Xc0 := Xc.1
      have Xc2 := Xc.2.2
      have GAc0 := GAc.1
      have GAc2 := GAc.2.2
      have GBc0 := GBc.1
      have GBc2 := GBc.2.2
      go_wp2_with fail
      refine (lHeldO _ avGB cvGB qb.length (1 + 2 * (qa.length : Int)) _ GB hqb (by omega) (by omega)).mono ?_
      rintro e w12 ⟨rfl, hb12⟩
      clear K0 K2 WAc0 WAc2 WBc0 WBc2 Xc0 Xc2 GAc0 GAc2 GBc0 GBc2
      replace K := K.later hb12
      replace WAc := WAc.later hb12
      replace WBc := WBc.later hb12
      replace Xc := Xc.later hb12
      replace GAc := GAc.later hb12
      replace GBc := GBc.later hb12
      replace WA := WA.later hb12
      replace WB := WB.later hb12
      replace X := X.later hb12
      replace GA := GA.later hb12
      replace GB := GB.later hb12
      replace R := R.old hb12
      replace hB := old_trans hB hb12
      replace Q := Q.later hb12
      clear hb12
      have K0 := K.1
      have K2 := K.2.2
      have WAc0 := WAc.1
      have WAc2 := WAc.2.2
      have WBc0 := WBc.1
      have WBc2 := WBc.2.2
      have Xc0 := Xc.1
      have Xc2 := Xc.2.2
      have GAc0 := GAc.1
      have GAc2 := GAc.2.2
      have GBc0 := GBc.1
      have GBc2 := GBc.2.2
      go_upto_region 28 with fail
      have l_K_HA := K.2.2
      have l_K_HB := K.2.2
      have l_WAc_HA := WAc.2.2
      have l_WAc_HB := WAc.2.2
      have l_WBc_HA := WBc.2.2
      have l_WBc_HB := WBc.2.2
      have l_Xc_HA := Xc.2.2
      have l_Xc_HB := Xc.2.2
      have l_GAc_HA := GAc.2.2
      have l_GAc_HB := GAc.2.2
      have l_GBc_HA := GBc.2.2
      have l_GBc_HB := GBc.2.2
      have l_Q_HA := Q.2.2.2.2
      have l_Q_HB := Q.2.2.2.2
      have l_WA_HA := WA.lt
      have l_WA_HB := WA.lt
      have l_WB_HA := WB.lt
      have l_WB_HB := WB.lt
      have l_X_HA := X.lt
      have l_X_HB := X.lt
      have l_GA_HA := GA.lt
      have l_GA_HB := GA.lt
      have l_GB_HA := GB.lt
      have l_GB_HB := GB.lt
      have l_R_HA := R.far
      have l_R_HB := R.far
      have n_HA := hB.size
      have n_HB := hB.size
      clear K0 K2 WAc0 WAc2 WBc0 WBc2 Xc0 Xc2 GAc0 GAc2 GBc0 GBc2
      go_cut [20, 21, 22] (fun s s' t wx => ∃ wC, wC = wx ∧ Two w12 wC s s' t r qa qb)
      case first => as_aux_lemma =>
        have TB := hd (fun w' (h : Below w12.heap.size w12 w') => toBoxO a1 cap1 ps1 w' (R.old h) hl1)
        have TP := hd (toPairB a3 b3)
        have CC := hd (fun av cv w' (h : InRow w' av ps1.length cv ps1) => I.out av cv w' h)
        have hv : Hid (∀ W, Below w12.heap.size w12 W → Cel1 W pK (.slice a1 ps1.length cap1) ∧ Cel2 W (pK + 1) (.int .i64 a3) (.int .i64 b3)) := fun W h => ⟨K.later h, Q.later h⟩
        have hys : Below w12.heap.size w12 w12 := (Below.refl _ w12)
        have hzs := hv.out w12 hys
        have zzs := hys.size
        have K0 := hzs.1.1
        have K2 := hzs.1.2.2
        have Kn := Nat.ne_of_lt K2
        have Ko := Nat.ne_of_gt K2
        have Kp := Nat.ne_of_lt (Nat.lt_add_right 1 K2)
        have Kq := Nat.ne_of_gt (Nat.lt_add_right 1 K2)
        have Q0 := hzs.2.1
        have Q1 := hzs.2.2.1
        have Q4 := hzs.2.2.2.2.2
        have Qn := Nat.ne_of_lt Q4
        have Qo := Nat.ne_of_gt Q4
        have Qp := Nat.ne_of_lt (Nat.lt_add_right 1 Q4)
        have Qq := Nat.ne_of_gt (Nat.lt_add_right 1 Q4)
        go_wp2_with fail
        go_region_held3 (fun w' => w'.cell? ⟨pK, 0, none⟩ = some (.slice a1 ps1.length cap1) ∧ w'.cell? ⟨pK + 1, 0, none⟩ = some (.int .i64 a3) ∧ w'.cell? ⟨pK + 1, 1, none⟩ = some (.int .i64 b3)) (go_keep) (first | (go_at_call 6; refine (TB.out _ (by repeat (first | with_reducible exact Below.refl _ _ | with_reducible refine Below.drew ?_ | with_reducible refine old_alloc ?_ _ | with_reducible refine old_trans ?_ (by with_reducible assumption)))).mono ?_; rintro e wa ⟨⟨avP, cvP, rfl, P⟩, hba⟩; have hya : Below w12.heap.size w12 wa := (by repeat (first | with_reducible exact Below.refl _ _ | with_reducible refine Below.drew ?_ | with_reducible refine old_alloc ?_ _ | with_reducible refine old_trans ?_ (by with_reducible assumption))); have hza := hv.out wa hya; have zza := hya.size; have K0 := hza.1.1; have K2 := hza.1.2.2; have Kn := Nat.ne_of_lt K2; have Ko := Nat.ne_of_gt K2; have Kp := Nat.ne_of_lt (Nat.lt_add_right 1 K2); have Kq := Nat.ne_of_gt (Nat.lt_add_right 1 K2); have Q0 := hza.2.1; have Q1 := hza.2.2.1; have Q4 := hza.2.2.2.2.2; have Qn := Nat.ne_of_lt Q4; have Qo := Nat.ne_of_gt Q4; have Qp := Nat.ne_of_lt (Nat.lt_add_right 1 Q4); have Qq := Nat.ne_of_gt (Nat.lt_add_right 1 Q4); have za := hba.size; (first | (have OO := (O).laterX hba; have O := OO.1; have O0 := O.1; have O1 := O.2.1; have Oz := O.2.2; have On := Nat.ne_of_lt Oz; have Oo := Nat.ne_of_gt Oz; have NN := (N).laterX hba; have N := NN.1; have N0 := N.1; have N1 := N.2.1; have Nz := N.2.2; have Nn := Nat.ne_of_lt Nz; have No := Nat.ne_of_gt Nz) | (have NOd := Nat.ne_of_lt N.2.2; have NP := N.alloc (.cells #[.slice none 0 0] 30); have NN := (NP).laterX hba; have N := NN.1; have N0 := N.1; have N1 := N.2.1; have Nz := N.2.2; have Nn := Nat.ne_of_lt Nz; have No := Nat.ne_of_gt Nz; have OO := (Cel1.made _ _ rfl (.slice none 0 0) 30).laterX hba; have O := OO.1; (try simp only [World.size_alloc] at O); have O0 := O.1; have O1 := O.2.1; have Oz := O.2.2; have On := Nat.ne_of_lt Oz; have Oo := Nat.ne_of_gt Oz) | (have NN := (N).laterX hba; have N := NN.1; have N0 := N.1; have N1 := N.2.1; have Nz := N.2.2; have Nn := Nat.ne_of_lt Nz; have No := Nat.ne_of_gt Nz) | (have NN := ((Cel1.made _ _ rfl (.slice none 0 0) 30).alloc (.cells #[.slice none 0 0] 30)).laterX hba; have N := NN.1; (try simp only [World.size_alloc] at N); have N0 := N.1; have N1 := N.2.1; have Nz := N.2.2; have Nn := Nat.ne_of_lt Nz; have No := Nat.ne_of_gt Nz; have OO := (Cel1.made _ _ rfl (.slice none 0 0) 30).laterX hba; have O := OO.1; (try simp only [World.size_alloc] at O); have O0 := O.1; have O1 := O.2.1; have Oz := O.2.2; have On := Nat.ne_of_lt Oz; have Oo := Nat.ne_of_gt Oz) | (have NN := (Cel1.made _ _ rfl (.slice none 0 0) 30).laterX hba; have N := NN.1; (try simp only [World.size_alloc] at N); have N0 := N.1; have N1 := N.2.1; have Nz := N.2.2; have Nn := Nat.ne_of_lt Nz; have No := Nat.ne_of_gt Nz) | (have NN := (((Cel1.made _ _ rfl (.slice none 0 0) 30).alloc (.cells #[.slice none 0 0] 30)).drew).laterX hba; have N := NN.1; (try simp only [World.size_alloc] at N); have N0 := N.1; have N1 := N.2.1; have Nz := N.2.2; have Nn := Nat.ne_of_lt Nz; have No := Nat.ne_of_gt Nz; have OO := ((Cel1.made _ _ rfl (.slice none 0 0) 30).drew).laterX hba; have O := OO.1; (try simp only [World.size_alloc] at O); have O0 := O.1; have O1 := O.2.1; have Oz := O.2.2; have On := Nat.ne_of_lt Oz; have Oo := Nat.ne_of_gt Oz) | (have NN := ((Cel1.made _ _ rfl (.slice none 0 0) 30).drew).laterX hba; have N := NN.1; (try simp only [World.size_alloc] at N); have N0 := N.1; have N1 := N.2.1; have Nz := N.2.2; have Nn := Nat.ne_of_lt Nz; have No := Nat.ne_of_gt Nz) | skip)) | (go_at_call 7; refine (TP.out _).mono ?_; rintro e wb ⟨rfl, hbb⟩; have hyb : Below w12.heap.size w12 wb := (by repeat (first | with_reducible exact Below.refl _ _ | with_reducible refine Below.drew ?_ | with_reducible refine old_alloc ?_ _ | with_reducible refine old_trans ?_ (by with_reducible assumption))); have hzb := hv.out wb hyb; have zzb := hyb.size; have K0 := hzb.1.1; have K2 := hzb.1.2.2; have Kn := Nat.ne_of_lt K2; have Ko := Nat.ne_of_gt K2; have Kp := Nat.ne_of_lt (Nat.lt_add_right 1 K2); have Kq := Nat.ne_of_gt (Nat.lt_add_right 1 K2); have Q0 := hzb.2.1; have Q1 := hzb.2.2.1; have Q4 := hzb.2.2.2.2.2; have Qn := Nat.ne_of_lt Q4; have Qo := Nat.ne_of_gt Q4; have Qp := Nat.ne_of_lt (Nat.lt_add_right 1 Q4); have Qq := Nat.ne_of_gt (Nat.lt_add_right 1 Q4); have zb := hbb.size; have P := (by first | exact P.later hbb | exact (P.alloc _).later hbb | exact ((P.alloc _).alloc _).later hbb | exact P.drew.later hbb | exact (P.alloc _).drew.later hbb : OB wb _ avP cvP ps1); (first | (have OO := (O).laterX hbb; have O := OO.1; have O0 := O.1; have O1 := O.2.1; have Oz := O.2.2; have On := Nat.ne_of_lt Oz; have Oo := Nat.ne_of_gt Oz; have NN := (N).laterX hbb; have N := NN.1; have N0 := N.1; have N1 := N.2.1; have Nz := N.2.2; have Nn := Nat.ne_of_lt Nz; have No := Nat.ne_of_gt Nz) | (have NOd := Nat.ne_of_lt N.2.2; have NP := N.alloc (.cells #[.slice none 0 0] 30); have NN := (NP).laterX hbb; have N := NN.1; have N0 := N.1; have N1 := N.2.1; have Nz := N.2.2; have Nn := Nat.ne_of_lt Nz; have No := Nat.ne_of_gt Nz; have OO := (Cel1.made _ _ rfl (.slice none 0 0) 30).laterX hbb; have O := OO.1; (try simp only [World.size_alloc] at O); have O0 := O.1; have O1 := O.2.1; have Oz := O.2.2; have On := Nat.ne_of_lt Oz; have Oo := Nat.ne_of_gt Oz) | (have NN := (N).laterX hbb; have N := NN.1; have N0 := N.1; have N1 := N.2.1; have Nz := N.2.2; have Nn := Nat.ne_of_lt Nz; have No := Nat.ne_of_gt Nz) | (have NN := ((Cel1.made _ _ rfl (.slice none 0 0) 30).alloc (.cells #[.slice none 0 0] 30)).laterX hbb; have N := NN.1; (try simp only [World.size_alloc] at N); have N0 := N.1; have N1 := N.2.1; have Nz := N.2.2; have Nn := Nat.ne_of_lt Nz; have No := Nat.ne_of_gt Nz; have OO := (Cel1.made _ _ rfl (.slice none 0 0) 30).laterX hbb; have O := OO.1; (try simp only [World.size_alloc] at O); have O0 := O.1; have O1 := O.2.1; have Oz := O.2.2; have On := Nat.ne_of_lt Oz; have Oo := Nat.ne_of_gt Oz) | (have NN := (Cel1.made _ _ rfl (.slice none 0 0) 30).laterX hbb; have N := NN.1; (try simp only [World.size_alloc] at N); have N0 := N.1; have N1 := N.2.1; have Nz := N.2.2; have Nn := Nat.ne_of_lt Nz; have No := Nat.ne_of_gt Nz) | (have NN := (((Cel1.made _ _ rfl (.slice none 0 0) 30).alloc (.cells #[.slice none 0 0] 30)).drew).laterX hbb; have N := NN.1; (try simp only [World.size_alloc] at N); have N0 := N.1; have N1 := N.2.1; have Nz := N.2.2; have Nn := Nat.ne_of_lt Nz; have No := Nat.ne_of_gt Nz; have OO := ((Cel1.made _ _ rfl (.slice none 0 0) 30).drew).laterX hbb; have O := OO.1; (try simp only [World.size_alloc] at O); have O0 := O.1; have O1 := O.2.1; have Oz := O.2.2; have On := Nat.ne_of_lt Oz; have Oo := Nat.ne_of_gt Oz) | (have NN := ((Cel1.made _ _ rfl (.slice none 0 0) 30).drew).laterX hbb; have N := NN.1; (try simp only [World.size_alloc] at N); have N0 := N.1; have N1 := N.2.1; have Nz := N.2.2; have Nn := Nat.ne_of_lt Nz; have No := Nat.ne_of_gt Nz) | skip)) | (go_at_call 8; refine (CC.out avP cvP _ (OB.inRow (by first | exact P | exact P.alloc _ | exact (P.alloc _).alloc _ | exact P.drew | exact (P.alloc _).drew | exact ((P.alloc _).alloc _).drew | exact P.drew.alloc _ | exact (P.drew.alloc _).alloc _))).mono ?_; rintro e ws ⟨⟨avA, cvA, avB, cvB, rfl, A, B, sAB⟩, hbs⟩; have hyc : Below w12.heap.size w12 ws := (by repeat (first | with_reducible exact Below.refl _ _ | with_reducible refine Below.drew ?_ | with_reducible refine old_alloc ?_ _ | with_reducible refine old_trans ?_ (by with_reducible assumption))); have hzc := hv.out ws hyc; have zzc := hyc.size; have K0 := hzc.1.1; have K2 := hzc.1.2.2; have Kn := Nat.ne_of_lt K2; have Ko := Nat.ne_of_gt K2; have Kp := Nat.ne_of_lt (Nat.lt_add_right 1 K2); have Kq := Nat.ne_of_gt (Nat.lt_add_right 1 K2); have Q0 := hzc.2.1; have Q1 := hzc.2.2.1; have Q4 := hzc.2.2.2.2.2; have Qn := Nat.ne_of_lt Q4; have Qo := Nat.ne_of_gt Q4; have Qp := Nat.ne_of_lt (Nat.lt_add_right 1 Q4); have Qq := Nat.ne_of_gt (Nat.lt_add_right 1 Q4); have zs := hbs.size; (first | (have OO := (O).laterX hbs; have O := OO.1; have OA := A.ne_old OO.2; have OB' := B.ne_old OO.2; have O0 := O.1; have O1 := O.2.1; have Oz := O.2.2; have On := Nat.ne_of_lt Oz; have Oo := Nat.ne_of_gt Oz; have NN := (N).laterX hbs; have N := NN.1; have NA := A.ne_old NN.2; have NB := B.ne_old NN.2; have N0 := N.1; have N1 := N.2.1; have Nz := N.2.2; have Nn := Nat.ne_of_lt Nz; have No := Nat.ne_of_gt Nz) | (have NOd := Nat.ne_of_lt N.2.2; have NP := N.alloc (.cells #[.slice none 0 0] 30); have NN := (NP).laterX hbs; have N := NN.1; have NA := A.ne_old NN.2; have NB := B.ne_old NN.2; have N0 := N.1; have N1 := N.2.1; have Nz := N.2.2; have Nn := Nat.ne_of_lt Nz; have No := Nat.ne_of_gt Nz; have OO := (Cel1.made _ _ rfl (.slice none 0 0) 30).laterX hbs; have O := OO.1; have OA := A.ne_old OO.2; have OB' := B.ne_old OO.2; (try simp only [World.size_alloc] at O); (try simp only [World.size_alloc] at OA OB'); have O0 := O.1; have O1 := O.2.1; have Oz := O.2.2; have On := Nat.ne_of_lt Oz; have Oo := Nat.ne_of_gt Oz) | (have NN := (N).laterX hbs; have N := NN.1; have NA := A.ne_old NN.2; have NB := B.ne_old NN.2; have N0 := N.1; have N1 := N.2.1; have Nz := N.2.2; have Nn := Nat.ne_of_lt Nz; have No := Nat.ne_of_gt Nz) | (have NN := ((Cel1.made _ _ rfl (.slice none 0 0) 30).alloc (.cells #[.slice none 0 0] 30)).laterX hbs; have N := NN.1; have NA := A.ne_old NN.2; have NB := B.ne_old NN.2; (try simp only [World.size_alloc] at N); (try simp only [World.size_alloc] at NA NB); have N0 := N.1; have N1 := N.2.1; have Nz := N.2.2; have Nn := Nat.ne_of_lt Nz; have No := Nat.ne_of_gt Nz; have OO := (Cel1.made _ _ rfl (.slice none 0 0) 30).laterX hbs; have O := OO.1; have OA := A.ne_old OO.2; have OB' := B.ne_old OO.2; (try simp only [World.size_alloc] at O); (try simp only [World.size_alloc] at OA OB'); have O0 := O.1; have O1 := O.2.1; have Oz := O.2.2; have On := Nat.ne_of_lt Oz; have Oo := Nat.ne_of_gt Oz) | (have NN := (Cel1.made _ _ rfl (.slice none 0 0) 30).laterX hbs; have N := NN.1; have NA := A.ne_old NN.2; have NB := B.ne_old NN.2; (try simp only [World.size_alloc] at N); (try simp only [World.size_alloc] at NA NB); have N0 := N.1; have N1 := N.2.1; have Nz := N.2.2; have Nn := Nat.ne_of_lt Nz; have No := Nat.ne_of_gt Nz) | (have NN := (((Cel1.made _ _ rfl (.slice none 0 0) 30).alloc (.cells #[.slice none 0 0] 30)).drew).laterX hbs; have N := NN.1; have NA := A.ne_old NN.2; have NB := B.ne_old NN.2; (try simp only [World.size_alloc] at N); (try simp only [World.size_alloc] at NA NB); have N0 := N.1; have N1 := N.2.1; have Nz := N.2.2; have Nn := Nat.ne_of_lt Nz; have No := Nat.ne_of_gt Nz; have OO := ((Cel1.made _ _ rfl (.slice none 0 0) 30).drew).laterX hbs; have O := OO.1; have OA := A.ne_old OO.2; have OB' := B.ne_old OO.2; (try simp only [World.size_alloc] at O); (try simp only [World.size_alloc] at OA OB'); have O0 := O.1; have O1 := O.2.1; have Oz := O.2.2; have On := Nat.ne_of_lt Oz; have Oo := Nat.ne_of_gt Oz) | (have NN := ((Cel1.made _ _ rfl (.slice none 0 0) 30).drew).laterX hbs; have N := NN.1; have NA := A.ne_old NN.2; have NB := B.ne_old NN.2; (try simp only [World.size_alloc] at N); (try simp only [World.size_alloc] at NA NB); have N0 := N.1; have N1 := N.2.1; have Nz := N.2.2; have Nn := Nat.ne_of_lt Nz; have No := Nat.ne_of_gt Nz) | skip); have A := OB.mono A (Below.size (show Below w12.heap.size w12 _ from (by repeat (first | with_reducible exact Below.refl w12.heap.size w12 | with_reducible refine Below.drew ?_ | with_reducible refine old_alloc ?_ _ | with_reducible refine old_trans ?_ (by with_reducible assumption))))); have B := OB.mono B (Below.size (show Below w12.heap.size w12 _ from (by repeat (first | with_reducible exact Below.refl w12.heap.size w12 | with_reducible refine Below.drew ?_ | with_reducible refine old_alloc ?_ _ | with_reducible refine old_trans ?_ (by with_reducible assumption)))))))
        all_goals as_aux_lemma =>
          go_wp2_with fail
          go_meet
          first | exact ⟨_, rfl, Two.aa hyc A B sAB⟩ | exact ⟨_, rfl, Two.ba hyc A B sAB⟩ | exact ⟨_, rfl, Two.sa hyc A B sAB N (by first | exact Nat.le_refl _ | exact Nat.le_succ _ | exact zza | exact Nat.le_succ_of_le zza | exact zzb | exact Nat.le_succ_of_le zzb | omega) NA NB⟩ | exact ⟨_, rfl, Two.sb hyc A B sAB N (by first | exact Nat.le_refl _ | exact Nat.le_succ _ | exact zza | exact Nat.le_succ_of_le zza | exact zzb | exact Nat.le_succ_of_le zzb | omega) NA NB⟩ | exact ⟨_, rfl, Two.mk N O (by first | exact NOd | exact Ne.symm NOd | exact Nat.ne_of_lt (Nat.lt_succ_self _) | exact Nat.ne_of_gt (Nat.lt_succ_self _) | omega) A B (Nat.le_refl _) sAB (by first | exact Nat.le_refl _ | exact Nat.le_succ _ | exact zza | exact Nat.le_succ_of_le zza | exact zzb | exact Nat.le_succ_of_le zzb | omega) (by first | exact Nat.le_refl _ | exact Nat.le_succ _ | exact zza | exact Nat.le_succ_of_le zza | exact zzb | exact Nat.le_succ_of_le zzb | omega) NA OA NB OB' hyc⟩ | exact ⟨_, rfl, Two.mk O N (by first | exact NOd | exact Ne.symm NOd | exact Nat.ne_of_lt (Nat.lt_succ_self _) | exact Nat.ne_of_gt (Nat.lt_succ_self _) | omega) A B (Nat.le_refl _) sAB (by first | exact Nat.le_refl _ | exact Nat.le_succ _ | exact zza | exact Nat.le_succ_of_le zza | exact zzb | exact Nat.le_succ_of_le zzb | omega) (by first | exact Nat.le_refl _ | exact Nat.le_succ _ | exact zza | exact Nat.le_succ_of_le zza | exact zzb | exact Nat.le_succ_of_le zzb | omega) OA NA OB' NB hyc⟩
      case rest =>
        obtain ⟨wC28, hwC, pHAc, pHBc, avHA, cvHA, avHB, cvHB, hs1, hs2, hs3, HAc, HBc, HA, HB, sepHAHB, gHAc, gHBc, x1, x2, x3, x4, hbC⟩ := hcut
        subst hwC hs1 hs2 hs3
        have e_HA_HAc := x1
        have e_HA_HBc := x2
        have e_HB_HAc := x3
        have e_HB_HBc := x4
        clear x1 x2 x3 x4
        have y_WA_HAc : ∀ q, avWA = some q → q.block < pHAc := fun q e => Nat.lt_of_lt_of_le (l_WA_HA q e) gHAc
        have y_WA_HBc : ∀ q, avWA = some q → q.block < pHBc := fun q e => Nat.lt_of_lt_of_le (l_WA_HA q e) gHBc
        have y_WB_HAc : ∀ q, avWB = some q → q.block < pHAc := fun q e => Nat.lt_of_lt_of_le (l_WB_HA q e) gHAc
        have y_WB_HBc : ∀ q, avWB = some q → q.block < pHBc := fun q e => Nat.lt_of_lt_of_le (l_WB_HA q e) gHBc
        have y_X_HAc : ∀ q, avX = some q → q.block < pHAc := fun q e => Nat.lt_of_lt_of_le (l_X_HA q e) gHAc
        have y_X_HBc : ∀ q, avX = some q → q.block < pHBc := fun q e => Nat.lt_of_lt_of_le (l_X_HA q e) gHBc
        have y_GA_HAc : ∀ q, avGA = some q → q.block < pHAc := fun q e => Nat.lt_of_lt_of_le (l_GA_HA q e) gHAc
        have y_GA_HBc : ∀ q, avGA = some q → q.block < pHBc := fun q e => Nat.lt_of_lt_of_le (l_GA_HA q e) gHBc
        have y_GB_HAc : ∀ q, avGB = some q → q.block < pHAc := fun q e => Nat.lt_of_lt_of_le (l_GB_HA q e) gHAc
        have y_GB_HBc : ∀ q, avGB = some q → q.block < pHBc := fun q e => Nat.lt_of_lt_of_le (l_GB_HA q e) gHBc
        replace K := K.later hbC
        replace WAc := WAc.later hbC
        replace WBc := WBc.later hbC
        replace Xc := Xc.later hbC
        replace GAc := GAc.later hbC
        replace GBc := GBc.later hbC
        replace WA := WA.later hbC
        replace WB := WB.later hbC
        replace X := X.later hbC
        replace GA := GA.later hbC
        replace GB := GB.later hbC
        replace R := R.old hbC
        replace hB := old_trans hB hbC
        replace Q := Q.later hbC
        clear hbC
        have K0 := K.1
        have K2 := K.2.2
        have WAc0 := WAc.1
        have WAc2 := WAc.2.2
        have WBc0 := WBc.1
        have WBc2 := WBc.2.2
        have Xc0 := Xc.1
        have Xc2 := Xc.2.2
        have GAc0 := GAc.1
        have GAc2 := GAc.2.2
        have GBc0 := GBc.1
        have GBc2 := GBc.2.2
        have HAc0 := HAc.1
        have HAc2 := HAc.2.2
        have HBc0 := HBc.1
        have HBc2 := HBc.2.2
        go_wp2_with fail
        refine (lEqO avHA avWA cvHA cvWA _ _ qa _ HA WA).mono ?_
        rintro e w13 ⟨rfl, hb13⟩
        clear K0 K2 WAc0 WAc2 WBc0 WBc2 Xc0 Xc2 GAc0 GAc2 GBc0 GBc2 HAc0 HAc2 HBc0 HBc2
        replace K := K.later hb13
        replace WAc := WAc.later hb13
        replace WBc := WBc.later hb13
        replace Xc := Xc.later hb13
        replace GAc := GAc.later hb13
        replace GBc := GBc.later hb13
        replace HAc := HAc.later hb13
        replace HBc := HBc.later hb13
        replace WA := WA.later hb13
        replace WB := WB.later hb13
        replace X := X.later hb13
        replace GA := GA.later hb13
        replace GB := GB.later hb13
        replace HA := HA.later hb13
        replace HB := HB.later hb13
        replace R := R.old hb13
        replace hB := old_trans hB hb13
        replace Q := Q.later hb13
        clear hb13
        have K0 := K.1
        have K2 := K.2.2
        have WAc0 := WAc.1
        have WAc2 := WAc.2.2
        have WBc0 := WBc.1
        have WBc2 := WBc.2.2
        have Xc0 := Xc.1
        have Xc2 := Xc.2.2
        have GAc0 := GAc.1
        have GAc2 := GAc.2.2
        have GBc0 := GBc.1
        have GBc2 := GBc.2.2
        have HAc0 := HAc.1
        have HAc2 := HAc.2.2
        have HBc0 := HBc.1
        have HBc2 := HBc.2.2
        go_wp2_with fail
        refine (lEqO avHB avWB cvHB cvWB _ _ qb _ HB WB).mono ?_
        rintro e w14 ⟨rfl, hb14⟩
        clear K0 K2 WAc0 WAc2 WBc0 WBc2 Xc0 Xc2 GAc0 GAc2 GBc0 GBc2 HAc0 HAc2 HBc0 HBc2
        replace K := K.later hb14
        replace WAc := WAc.later hb14
        replace WBc := WBc.later hb14
        replace Xc := Xc.later hb14
        replace GAc := GAc.later hb14
        replace GBc := GBc.later hb14
        replace HAc := HAc.later hb14
        replace HBc := HBc.later hb14
        replace WA := WA.later hb14
        replace WB := WB.later hb14
        replace X := X.later hb14
        replace GA := GA.later hb14
        replace GB := GB.later hb14
        replace HA := HA.later hb14
        replace HB := HB.later hb14
        replace R := R.old hb14
        replace hB := old_trans hB hb14
        replace Q := Q.later hb14
        clear hb14
        have K0 := K.1
        have K2 := K.2.2
        have WAc0 := WAc.1
        have WAc2 := WAc.2.2
        have WBc0 := WBc.1
        have WBc2 := WBc.2.2
        have Xc0 := Xc.1
        have Xc2 := Xc.2.2
        have GAc0 := GAc.1
        have GAc2 := GAc.2.2
        have GBc0 := GBc.1
        have GBc2 := GBc.2.2
        have HAc0 := HAc.1
        have HAc2 := HAc.2.2
        have HBc0 := HBc.1
        have HBc2 := HBc.2.2
        go_wp2_with fail
        refine (lHeldO _ avGA cvGA qa.length (1) _ GA hqa (by omega) (by omega)).mono ?_
        rintro e w15 ⟨rfl, hb15⟩
        clear K0 K2 WAc0 WAc2 WBc0 WBc2 Xc0 Xc2 GAc0 GAc2 GBc0 GBc2 HAc0 HAc2 HBc0 HBc2
        replace K := K.later hb15
        replace WAc := WAc.later hb15
        replace WBc := WBc.later hb15
        replace Xc := Xc.later hb15
        replace GAc := GAc.later hb15
        replace GBc := GBc.later hb15
        replace HAc := HAc.later hb15
        replace HBc := HBc.later hb15
        replace WA := WA.later hb15
        replace WB := WB.later hb15
        replace X := X.later hb15
        replace GA := GA.later hb15
        replace GB := GB.later hb15
        replace HA := HA.later hb15
        replace HB := HB.later hb15
        replace R := R.old hb15
        replace hB := old_trans hB hb15
        replace Q := Q.later hb15
        clear hb15
        have K0 := K.1
        have K2 := K.2.2
        have WAc0 := WAc.1
        have WAc2 := WAc.2.2
        have WBc0 := WBc.1
        have WBc2 := WBc.2.2
        have Xc0 := Xc.1
        have Xc2 := Xc.2.2
        have GAc0 := GAc.1
        have GAc2 := GAc.2.2
        have GBc0 := GBc.1
        have GBc2 := GBc.2.2
        have HAc0 := HAc.1
        have HAc2 := HAc.2.2
        have HBc0 := HBc.1
        have HBc2 := HBc.2.2
        go_wp2_with fail
        refine (lHeldO _ avGB cvGB qb.length (1 + 2 * (qa.length : Int)) _ GB hqb (by omega) (by omega)).mono ?_
        rintro e w16 ⟨rfl, hb16⟩
        clear K0 K2 WAc0 WAc2 WBc0 WBc2 Xc0 Xc2 GAc0 GAc2 GBc0 GBc2 HAc0 HAc2 HBc0 HBc2
        replace K := K.later hb16
        replace WAc := WAc.later hb16
        replace WBc := WBc.later hb16
        replace Xc := Xc.later hb16
        replace GAc := GAc.later hb16
        replace GBc := GBc.later hb16
        replace HAc := HAc.later hb16
        replace HBc := HBc.later hb16
        replace WA := WA.later hb16
        replace WB := WB.later hb16
        replace X := X.later hb16
        replace GA := GA.later hb16
        replace GB := GB.later hb16
        replace HA := HA.later hb16
        replace HB := HB.later hb16
        replace R := R.old hb16
        replace hB := old_trans hB hb16
        replace Q := Q.later hb16
        clear hb16
        have K0 := K.1
        have K2 := K.2.2
        have WAc0 := WAc.1
        have WAc2 := WAc.2.2
        have WBc0 := WBc.1
        have WBc2 := WBc.2.2
        have Xc0 := Xc.1
        have Xc2 := Xc.2.2
        have GAc0 := GAc.1
        have GAc2 := GAc.2.2
        have GBc0 := GBc.1
        have GBc2 := GBc.2.2
        have HAc0 := HAc.1
        have HAc2 := HAc.2.2
        have HBc0 := HBc.1
        have HBc2 := HBc.2.2
        go_wp2
        go_ret
        exact ⟨rfl, hB⟩

set_option maxRecDepth 100000 in
theorem FnExactBoxCut_lifted (os : Os) (started : os.Started) (H : Type) (enc : TypeId × Value → H) :
    ReturnsInHanded {} Try.checked os 3 .any (Rows.fnExactBoxCutSpec.pre6 enc Try.prog Try.f3 Rows.fnExactBoxCutRow.domain false) (Rows.fnExactBoxCutSpec.post enc Try.prog Try.f3 false true false false) := by
  refine returnsInHanded_of_change (C := Try.checked) FnExactBoxCut_own started (by kernel_rfl) Try.func3
    (ChangeSpec.witness6 (enc := enc) (C := Try.checked) false ⟨#[], #[.int .i64 0, .agg #[.slice none 0 0], .int .i64 0, .agg #[.int .i64 0, .int .i64 0]], []⟩ 8 (by kernel_rfl) (by kernel_rfl) (by kernel_rfl) (by kernel_rfl)) ?_
  intro W base args ds gs before hval0 hW hcnd _
  have hval : ∀ (j : Nat) t v, Try.f3.params[j]? = some t → args[j]? = some v → Value.okWide Try.prog W .any base t v := hval0
  have hW' := hW
  obtain ⟨p, q, hA0, hV, rfl, hfz, hnd⟩ := hW
  have hA : DataW.TrodAll enc Try.prog W 0 (fun _ => true) true Try.f3.params.toList args.toList ds p := hA0
  rw [Try.params3] at hA hval
  obtain ⟨v0, vs0, d0, ds0, p0, q0, hargs, rfl, rfl, h0, r0⟩ := trodAll_cons hA
  obtain ⟨v1, vs1, d1, ds1, p1, q1, rfl, rfl, rfl, h1, r1⟩ := trodAll_cons r0
  obtain ⟨v2, vs2, d2, ds2, p2, q2, rfl, rfl, rfl, h2, r2⟩ := trodAll_cons r1
  obtain ⟨v3, vs3, d3, ds3, p3, q3, rfl, rfl, rfl, h3, r3⟩ := trodAll_cons r2
  obtain ⟨rfl, rfl, rfl⟩ := trodAll_nil r3
  obtain rfl : args = #[v0, v1, v2, v3] := by cases args; simp_all
  obtain ⟨rfl, rfl⟩ := trodVars_none hV
  have k0 := h0
  have lt0 : ∀ x ∈ p0, x.block < W.heap.size := by obtain ⟨m, hm⟩ := k0; exact DataW.trod_lt m _ _ _ hm
  obtain ⟨a0, rfl, -, -, wf0⟩ := open_int Try.underlying3 (hval 0 3 v0 rfl rfl) h0
  have wa0 := bounds_i64 wf0
  have k1 := h1
  have lt1 : ∀ x ∈ p1, x.block < W.heap.size := by obtain ⟨m, hm⟩ := k1; exact DataW.trod_lt m _ _ _ hm
  obtain ⟨a1, len1, cap1, ps1, rfl, wb1⟩ := open_lbox (hval 1 24 v1 rfl rfl) h1
  have k2 := h2
  have lt2 : ∀ x ∈ p2, x.block < W.heap.size := by obtain ⟨m, hm⟩ := k2; exact DataW.trod_lt m _ _ _ hm
  obtain ⟨a2, rfl, -, -, wf2⟩ := open_int Try.underlying3 (hval 2 3 v2 rfl rfl) h2
  have wa2 := bounds_i64 wf2
  have k3 := h3
  have lt3 : ∀ x ∈ p3, x.block < W.heap.size := by obtain ⟨m, hm⟩ := k3; exact DataW.trod_lt m _ _ _ hm
  obtain ⟨a3, b3, rfl, wa3, wb3⟩ := open_lpair (hval 3 26 v3 rfl rfl) h3
  clear hA0 hval0
  refine (FnExactBoxCut_walk a0 wa0 a1 len1 cap1 ps1 a2 wa2 a3 b3 wa3 wb3 W wb1).mono fun e W' ⟨he, bel⟩ => ?_
  subst he
  exact ⟨_, rfl, _, _, _, [], _, [], hW', trodAll_mk1 (shut_bool Try.underlying4 _), (trodAll_cons_mk (Below.trod jf1 (by kernel_rfl) (of_decide_eq_true (by kernel_rfl)) k0 bel lt0) (trodAll_cons_mk (Below.trod jf1 (by kernel_rfl) (of_decide_eq_true (by kernel_rfl)) k1 bel lt1) (trodAll_cons_mk (Below.trod jf1 (by kernel_rfl) (of_decide_eq_true (by kernel_rfl)) k2 bel lt2) (trodAll_cons_mk (Below.trod jf1 (by kernel_rfl) (of_decide_eq_true (by kernel_rfl)) k3 bel lt3) trodAll_mk0)))), rfl, bel.frame _, fun h => by cases h⟩

theorem FnExactBoxCut_k0 : (Rows.fnExactBoxCutRow.wf (OpenSpec.ofChange Rows.fnExactBoxCutSpec)) = true := by kernel_rfl
theorem FnExactBoxCut_k3 : (Try.f3.params.all (Try.prog.readableRec ·)) = true := by kernel_rfl
theorem FnExactBoxCut_k4 : (namedTie Try.prog Rows.fnExactBoxCutRow.named Rows.fnExactBoxCutSpec.vars) = true := by kernel_rfl
theorem FnExactBoxCut_k5 : ((Rows.fnExactBoxCutRow.stops == [])) = true := by kernel_rfl
theorem FnExactBoxCut_k7 : ((Rows.fnExactBoxCutRow.knobs == [])) = true := by kernel_rfl
theorem FnExactBoxCut_k9 : ((Rows.fnExactBoxCutRow.inPlace == Try.prog.inPlace 3)) = true := by kernel_rfl
theorem FnExactBoxCut_k10 : ((Rows.fnExactBoxCutRow.unfollowed == Try.prog.unfollowed 3)) = true := by kernel_rfl
theorem FnExactBoxCut_k11 : ((Rows.fnExactBoxCutRow.recurses == Try.prog.recurses 3)) = true := by kernel_rfl
theorem FnExactBoxCut_k12 : ((Rows.fnExactBoxCutRow.named == Try.prog.varsNamed 3)) = true := by kernel_rfl
theorem FnExactBoxCut_k13 : ((Rows.fnExactBoxCutRow.maps == (Try.f3.params.toList ++ Rows.fnExactBoxCutSpec.plain.varTypes Try.prog).any (Try.prog.mapsRec ·))) = true := by kernel_rfl
theorem FnExactBoxCut_k14 : ((Rows.fnExactBoxCutRow.ifaces == (Try.f3.params.toList ++ Rows.fnExactBoxCutSpec.plain.varTypes Try.prog).any (Try.prog.ifacesRec ·))) = true := by kernel_rfl
theorem FnExactBoxCut_k15 : ((Rows.fnExactBoxCutRow.mapsOut == Try.prog.mapsAmong Try.f3.resultTypes.toList)) = true := by kernel_rfl
theorem FnExactBoxCut_k16 : ((Rows.fnExactBoxCutRow.loops == (Try.f3.params.toList ++ Rows.fnExactBoxCutSpec.plain.varTypes Try.prog).any (Try.prog.loopsFrom ·))) = true := by kernel_rfl
theorem FnExactBoxCut_k17 : ((Rows.fnExactBoxCutRow.wideKeys == (Try.f3.params.toList ++ Rows.fnExactBoxCutSpec.plain.varTypes Try.prog ++ Try.f3.resultTypes.toList).any (Try.prog.wideKeysFrom ·))) = true := by kernel_rfl
theorem FnExactBoxCut_k18 : (Rows.fnExactBoxCutSpec.vars.all (Try.prog.varReadable ·)) = true := by kernel_rfl
theorem FnExactBoxCut_k19 : (Try.f3.resultTypes.all (fun t => Try.prog.readableRec t && decide (t < Try.prog.types.size))) = true := by kernel_rfl
theorem FnExactBoxCut_k20 : ((Rows.fnExactBoxCutRow.ifacesOut == Try.f3.resultTypes.toList.any (Try.prog.ifacesRec ·))) = true := by kernel_rfl
theorem FnExactBoxCut_k21 : ((Rows.fnExactBoxCutRow.loopsOut == Try.f3.resultTypes.toList.any (Try.prog.loopsFrom ·))) = true := by kernel_rfl
theorem FnExactBoxCut_k23 : (Rows.fnExactBoxCutRow.shortTexts.isNone) = true := by kernel_rfl
theorem FnExactBoxCut_k28 : ((Rows.fnExactBoxCutRow.kinds == (if Rows.fnExactBoxCutRow.domain.isEmpty then [] else Try.f3.params.toList.map fun t => match Try.prog.underlying t with | some (.int k) => some k | _ => none))) = true := by kernel_rfl
theorem FnExactBoxCut_k29 : ((Rows.fnExactBoxCutRow.pinned == Rows.fnExactBoxCutRow.pinnedBy)) = true := by kernel_rfl
theorem FnExactBoxCut_k30 : ((Rows.fnExactBoxCutRow.veiled == (Try.f3.params.toList ++ Rows.fnExactBoxCutSpec.plain.varTypes Try.prog ++ Try.f3.resultTypes.toList).any (Try.prog.veiledRec ·))) = true := by kernel_rfl
theorem FnExactBoxCut_k31 : (Rows.fnExactBoxCutRow.veiledFits Try.prog Try.f3.params.toList (Try.f3.params.toList ++ Rows.fnExactBoxCutSpec.plain.varTypes Try.prog ++ Try.f3.resultTypes.toList)) = true := by kernel_rfl
set_option maxRecDepth 100000 in
theorem FnExactBoxCut_closed : joinedFacts Try.prog 3 Try.f3 Rows.fnExactBoxCutSpec Rows.fnExactBoxCutRow = true := (and2 (and2 (and2 (and2 (and2 (and2 (and2 (and2 (and2 (and2 (and2 (and2 (and2 (and2 (and2 (and2 (and2 (and2 (and2 (and2 (and2 (and2 (and2 (and2 (and2 (and2 (and2 (and2 (and2 (and2 (and2 FnExactBoxCut_k0 jf1) jf2) FnExactBoxCut_k3) FnExactBoxCut_k4) FnExactBoxCut_k5) jf6) FnExactBoxCut_k7) jf8) FnExactBoxCut_k9) FnExactBoxCut_k10) FnExactBoxCut_k11) FnExactBoxCut_k12) FnExactBoxCut_k13) FnExactBoxCut_k14) FnExactBoxCut_k15) FnExactBoxCut_k16) FnExactBoxCut_k17) FnExactBoxCut_k18) FnExactBoxCut_k19) FnExactBoxCut_k20) FnExactBoxCut_k21) jf22) FnExactBoxCut_k23) jf24) jf25) jf26) jf27) FnExactBoxCut_k28) FnExactBoxCut_k29) FnExactBoxCut_k30) FnExactBoxCut_k31)
theorem FnExactBoxCut_over : Rows.fnExactBoxCutRow.holds Try.pinned (OpenSpec.ofChange Rows.fnExactBoxCutSpec) :=
  OpenClaim.holds_of_wide 3 Try.f3 rfl rfl rfl rfl rfl rfl rfl ⟨rfl, rfl, rfl, rfl, rfl⟩ rfl rfl rfl rfl rfl (by kernel_rfl) Try.func3 FnExactBoxCut_closed
    (of_decide_eq_true (by kernel_rfl)) (by unfold Func.isWrapper; first | (rw [if_pos (by decide +kernel)]; kernel_rfl) | (rw [if_neg (by decide +kernel)]; exact ⟨rfl, rfl⟩))
    (fun os started H enc _ => FnExactBoxCut_lifted os started H enc)

theorem FnExactBoxCut_proved : Rows.FnExactBoxCutSaid := FnExactBoxCut_over
end Go.Proofs.Ytekbhkklaogmnaa
