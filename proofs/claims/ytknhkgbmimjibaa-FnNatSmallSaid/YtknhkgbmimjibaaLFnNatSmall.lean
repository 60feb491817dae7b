/- For every two codes of bytes the numbers of one word that are drawn from them stand as naturals: they come back, compare, subtract, divide and add as words do; the law answers true; nothing that was there is written. No condition. -/
import Derived.Test.YtknhkgbmimjibaaRows
import Derived.WalkKit
import Derived.ProofKit
import Derived.OpenShut
import Derived.Below
import Derived.Carry
import Derived.Test.YtknhkgbmimjibaaN0
import Derived.Test.YtknhkgbmimjibaaUD
import Derived.Test.YtknhkgbmimjibaaBJ
namespace Go.Proofs.Ytknhkgbmimjibaa
open Go.ChangeShapes Go.WideShapes Go.ChangeAt Go.RowKit
set_option linter.unusedVariables false

theorem FnNatSmall_own : ownKnob Try.prog.godebug = none := by kernel_rfl

set_option maxRecDepth 100000 in
set_option maxHeartbeats 16000000 in
theorem FnNatSmall_walk (a0 : Option Addr) (len0 cap0 : Nat) (a1 : Option Addr) (len1 cap1 : Nat) (w : World) (wb0 : IsCode w a0 len0 cap0) (wb1 : IsCode w a1 len1 cap1):
    Calls Try.prog 3 #[.slice a0 len0 cap0, .slice a1 len1 cap1] w fun e w' => e = .returned (.bool true) ∧ Below w.heap.size w w' := by
  have hlen0 := wb0.2.1
  have hlen1 := wb1.2.1
  have hle0 := wb0.1
  have hle1 := wb1.1
  by_cases c0 : (len0 : Int) ≤ 1048576
  case neg =>
    have c0' : (1048576 : Int) < (len0 : Int) := by omega
    go_enter Try.func3, Try.ntmps3
    go_wp2
    go_ret
    exact ⟨rfl, (by repeat (first | exact Below.refl _ _ | refine Below.drew ?_ | refine old_alloc ?_ _ | refine old_trans ?_ (by assumption)))⟩
  by_cases c1 : (len1 : Int) ≤ 1048576
  case neg =>
    have c1' : (1048576 : Int) < (len1 : Int) := by omega
    go_enter Try.func3, Try.ntmps3
    go_wp2
    go_ret
    exact ⟨rfl, (by repeat (first | exact Below.refl _ _ | refine Below.drew ?_ | refine old_alloc ?_ _ | refine old_trans ?_ (by assumption)))⟩
  have D0 := hd (drawNatOf w a0 len0 cap0 wb0)
  have D1 := hd (fun w' (h : Below w.heap.size w w') => drawNatOf w' a1 len1 cap1 (wb1.old h))
  clear wb0 wb1 hlen0 hlen1 hle0 hle1
  go_enter Try.func3, Try.ntmps3
  go_wp2_with fail
  refine D0.out.mono ?_
  rintro e w1 ⟨⟨m, hm_, rfl⟩, hb1⟩
  have hm := hd hm_
  clear hm_
  go_wp2_with fail
  refine (D1.out _ hb1).mono ?_
  rintro e w2 ⟨⟨n, hn_, rfl⟩, hb2⟩
  have hn := hd hn_
  clear hn_
  have hB2 := old_trans hb1 hb2
  clear D0 D1 hb1 hb2 c0 c1
  go_wp2_with fail
  refine (iNatOf m hm.out _).mono ?_
  rintro e w3 ⟨⟨avA, cvA, rfl, A⟩, hb3⟩
  have hB3 := old_trans hB2 hb3
  clear hB2 hb3
  go_wp2_with fail
  refine (iNatOf n hn.out _).mono ?_
  rintro e w4 ⟨⟨avB, cvB, rfl, B⟩, hb4⟩
  have hB4 := old_trans hB3 hb4
  replace A := A.later hb4
  clear hB3 hb4
  go_wp2_with fail
  refine (nSmall _ _ m _ A.inI hm.out).mono ?_
  rintro e w5 ⟨rfl, hb5⟩
  have hB5 := old_trans hB4 hb5
  replace A := A.later hb5
  replace B := B.later hb5
  clear hB4 hb5
  go_wp2_with fail
  refine (nOk _ _ m _ A.inI hm.out).mono ?_
  rintro e w6 ⟨rfl, rfl⟩
  have C := hd (nCmp _ _ _ _ m n _ A.inI B.inI hm.out hn.out)
  rcases Nat.lt_trichotomy m n with hlt | heq | hgt
  · have h0 : 0 < n := by omega
    have hl1 : (m : Int) < (n : Int) := by omega
    have hl2 : ((m : Int) == (n : Int)) = false := by simp; omega
    have hl3 : ¬ ((n : Int) ≤ (m : Int)) := by omega
    have hq : Hid (m / n < 18446744073709551616) := Nat.lt_of_le_of_lt (Nat.div_le_self _ _) hm.out
    have hr : Hid (m % n < 18446744073709551616) := Nat.lt_of_le_of_lt (Nat.mod_le _ _) hm.out
    have h0' : (0 : Int) < (n : Int) := by omega
    obtain ⟨q, hqe⟩ : ∃ q, q = m / n := ⟨_, rfl⟩
    obtain ⟨r, hre⟩ : ∃ r, r = m % n := ⟨_, rfl⟩
    rw [← hqe] at hq
    rw [← hre] at hr
    have hf1 : (m : Int) / (n : Int) = (q : Int) := by rw [hqe]; rfl
    have hf2 : (m : Int) % (n : Int) = (r : Int) := by rw [hre]; rfl
    have hf3 : Int.tdiv (m : Int) (n : Int) = (q : Int) := by rw [hqe]; rfl
    have hf4 : Int.tmod (m : Int) (n : Int) = (r : Int) := by rw [hre]; rfl
    have DV := hd (fun a b ca cb w h1 h2 => nDiv a b ca cb m n w h1 h2 hm.out hn.out h0)
    rw [← hqe, ← hre] at DV
    clear hqe hre
    have hwq : IntKind.wrap .u64 (q : Int) = (q : Int) := by have := hq.out; rw [IntKind.wrap_u64]; omega
    have hwr : IntKind.wrap .u64 (r : Int) = (r : Int) := by have := hr.out; rw [IntKind.wrap_u64]; omega
    rw [cmpI_lt hlt] at C
    go_wp2_with fail
    refine C.out.mono ?_
    rintro e w7 ⟨rfl, hb7⟩
    have hB := old_trans hB5 hb7
    replace A := A.later hb7
    replace B := B.later hb7
    clear hB5 hb7 C
    go_wp2_with fail
    refine (DV.out _ _ _ _ _ A.inI B.inI).mono ?_
    rintro e wc ⟨⟨avQ, cvQ, avR, cvR, rfl, QQ, RR⟩, hbc⟩
    replace hB := old_trans hB hbc
    replace A := A.later hbc
    replace B := B.later hbc
    clear hbc
    go_wp2_with fail
    refine (nSmall _ _ q _ QQ.inI hq.out).mono ?_
    rintro e wd ⟨rfl, hbd⟩
    replace hB := old_trans hB hbd
    replace A := A.later hbd
    replace B := B.later hbd
    replace RR := RR.later hbd
    clear hbd
    go_wp2_with fail
    refine (nSmall _ _ r _ RR.inI hr.out).mono ?_
    rintro e we ⟨rfl, hbe⟩
    replace hB := old_trans hB hbe
    replace A := A.later hbe
    replace B := B.later hbe
    clear hbe QQ RR
    obtain ⟨s, hse⟩ : ∃ s, s = m + n := ⟨_, rfl⟩
    have AD := hd (fun a b ca cb w h1 h2 => nAdd a b ca cb m n w h1 h2 hm.out hn.out)
    rw [← hse] at AD
    have hs2 : Hid (s < 36893488147419103232) := by
      show s < 36893488147419103232
      have := hm.out
      have := hn.out
      omega
    have hcas : Hid (s < 18446744073709551616 ∧ IntKind.wrap .u64 ((m : Int) + (n : Int)) = (s : Int) ∧ (m : Int) ≤ (s : Int) ∨ ¬ s < 18446744073709551616 ∧ ∃ t : Nat, IntKind.wrap .u64 ((m : Int) + (n : Int)) = (t : Int) ∧ (t : Int) < (m : Int)) := by
      show _ ∨ _
      have := hm.out
      have := hn.out
      by_cases h : s < 18446744073709551616
      · refine .inl ⟨h, ?_, by omega⟩
        rw [IntKind.wrap_u64]; omega
      · refine .inr ⟨h, s - 18446744073709551616, ?_, by omega⟩
        rw [IntKind.wrap_u64]; omega
    clear hse
    go_wp2_with fail
    refine (AD.out _ _ _ _ _ A.inI B.inI).mono ?_
    rintro e w8 ⟨⟨avS, cvS, rfl, SS⟩, hb8⟩
    replace hB := old_trans hB hb8
    clear hb8 AD
    rcases hcas.out with ⟨hov_, hw2_, hw3_⟩ | ⟨hov_, t, hw2_, hw3_⟩
    · have hov := hd hov_
      have hw2h := hd hw2_
      have hw3h := hd hw3_
      clear hov_ hw2_ hw3_ hcas
      go_wp2_with fail
      refine (nSmall _ _ s _ SS.inI hov.out).mono ?_
      rintro e w9 ⟨rfl, hb9⟩
      replace hB := old_trans hB hb9
      clear hb9 A B SS
      have hw2 := hw2h.out
      have hw3 := hw3h.out
      go_wp2
      go_ret
      exact ⟨rfl, hB⟩
    · have hov := hd hov_
      have hw2h := hd hw2_
      have hw3h := hd hw3_
      clear hov_ hw2_ hw3_ hcas
      go_wp2_with fail
      refine (nSmallNo _ _ s _ SS.inI hov.out hs2.out).mono ?_
      rintro e w9 ⟨rfl, hb9⟩
      replace hB := old_trans hB hb9
      clear hb9 A B SS
      have hw2 := hw2h.out
      have hw3 := hw3h.out
      have hw4 : ¬ ((m : Int) ≤ (t : Int)) := by omega
      go_wp2
      go_ret
      exact ⟨retB (show true = !decide (m ≤ t) by rw [decide_eq_false (by omega)]; rfl), hB⟩
  · by_cases h0 : 0 < n
    · skip
      have hl1 : ¬ ((m : Int) < (n : Int)) := by omega
      have hl2 : ((m : Int) == (n : Int)) = true := by simp; omega
      have hl3 : (n : Int) ≤ (m : Int) := by omega
      have hle := hd (Nat.le_of_eq heq.symm)
      have hw1 : IntKind.wrap .u64 ((m : Int) - (n : Int)) = ((m - n : Nat) : Int) := by have := hm.out; rw [IntKind.wrap_u64]; omega
      have hq : Hid (m / n < 18446744073709551616) := Nat.lt_of_le_of_lt (Nat.div_le_self _ _) hm.out
      have hr : Hid (m % n < 18446744073709551616) := Nat.lt_of_le_of_lt (Nat.mod_le _ _) hm.out
      have h0' : (0 : Int) < (n : Int) := by omega
      obtain ⟨q, hqe⟩ : ∃ q, q = m / n := ⟨_, rfl⟩
      obtain ⟨r, hre⟩ : ∃ r, r = m % n := ⟨_, rfl⟩
      rw [← hqe] at hq
      rw [← hre] at hr
      have hf1 : (m : Int) / (n : Int) = (q : Int) := by rw [hqe]; rfl
      have hf2 : (m : Int) % (n : Int) = (r : Int) := by rw [hre]; rfl
      have hf3 : Int.tdiv (m : Int) (n : Int) = (q : Int) := by rw [hqe]; rfl
      have hf4 : Int.tmod (m : Int) (n : Int) = (r : Int) := by rw [hre]; rfl
      have DV := hd (fun a b ca cb w h1 h2 => nDiv a b ca cb m n w h1 h2 hm.out hn.out h0)
      rw [← hqe, ← hre] at DV
      clear hqe hre
      have hwq : IntKind.wrap .u64 (q : Int) = (q : Int) := by have := hq.out; rw [IntKind.wrap_u64]; omega
      have hwr : IntKind.wrap .u64 (r : Int) = (r : Int) := by have := hr.out; rw [IntKind.wrap_u64]; omega
      rw [show cmpI m n = 0 by rw [heq]; exact cmpI_eq _] at C
      clear heq
      go_wp2_with fail
      refine C.out.mono ?_
      rintro e w7 ⟨rfl, hb7⟩
      have hB := old_trans hB5 hb7
      replace A := A.later hb7
      replace B := B.later hb7
      clear hB5 hb7 C
      go_wp2_with fail
      refine (nSub _ _ _ _ m n _ A.inI B.inI hm.out hle.out).mono ?_
      rintro e wa ⟨⟨avD, cvD, rfl, DD⟩, hba⟩
      replace hB := old_trans hB hba
      replace A := A.later hba
      replace B := B.later hba
      clear hba
      go_wp2_with fail
      refine (nSmall _ _ (m - n) _ DD.inI (Nat.lt_of_le_of_lt (Nat.sub_le _ _) hm.out)).mono ?_
      rintro e wb ⟨rfl, hbb⟩
      replace hB := old_trans hB hbb
      replace A := A.later hbb
      replace B := B.later hbb
      clear hbb DD
      go_wp2_with fail
      refine (DV.out _ _ _ _ _ A.inI B.inI).mono ?_
      rintro e wc ⟨⟨avQ, cvQ, avR, cvR, rfl, QQ, RR⟩, hbc⟩
      replace hB := old_trans hB hbc
      replace A := A.later hbc
      replace B := B.later hbc
      clear hbc
      go_wp2_with fail
      refine (nSmall _ _ q _ QQ.inI hq.out).mono ?_
      rintro e wd ⟨rfl, hbd⟩
      replace hB := old_trans hB hbd
      replace A := A.later hbd
      replace B := B.later hbd
      replace RR := RR.later hbd
      clear hbd
      go_wp2_with fail
      refine (nSmall _ _ r _ RR.inI hr.out).mono ?_
      rintro e we ⟨rfl, hbe⟩
      replace hB := old_trans hB hbe
      replace A := A.later hbe
      replace B := B.later hbe
      clear hbe QQ RR
      obtain ⟨s, hse⟩ : ∃ s, s = m + n := ⟨_, rfl⟩
      have AD := hd (fun a b ca cb w h1 h2 => nAdd a b ca cb m n w h1 h2 hm.out hn.out)
      rw [← hse] at AD
      have hs2 : Hid (s < 36893488147419103232) := by
        show s < 36893488147419103232
        have := hm.out
        have := hn.out
        omega
      have hcas : Hid (s < 18446744073709551616 ∧ IntKind.wrap .u64 ((m : Int) + (n : Int)) = (s : Int) ∧ (m : Int) ≤ (s : Int) ∨ ¬ s < 18446744073709551616 ∧ ∃ t : Nat, IntKind.wrap .u64 ((m : Int) + (n : Int)) = (t : Int) ∧ (t : Int) < (m : Int)) := by
        show _ ∨ _
        have := hm.out
        have := hn.out
        by_cases h : s < 18446744073709551616
        · refine .inl ⟨h, ?_, by omega⟩
          rw [IntKind.wrap_u64]; omega
        · refine .inr ⟨h, s - 18446744073709551616, ?_, by omega⟩
          rw [IntKind.wrap_u64]; omega
      clear hse
      go_wp2_with fail
      refine (AD.out _ _ _ _ _ A.inI B.inI).mono ?_
      rintro e w8 ⟨⟨avS, cvS, rfl, SS⟩, hb8⟩
      replace hB := old_trans hB hb8
      clear hb8 AD
      rcases hcas.out with ⟨hov_, hw2_, hw3_⟩ | ⟨hov_, t, hw2_, hw3_⟩
      · have hov := hd hov_
        have hw2h := hd hw2_
        have hw3h := hd hw3_
        clear hov_ hw2_ hw3_ hcas
        go_wp2_with fail
        refine (nSmall _ _ s _ SS.inI hov.out).mono ?_
        rintro e w9 ⟨rfl, hb9⟩
        replace hB := old_trans hB hb9
        clear hb9 A B SS
        have hw2 := hw2h.out
        have hw3 := hw3h.out
        go_wp2
        go_ret
        exact ⟨rfl, hB⟩
      · have hov := hd hov_
        have hw2h := hd hw2_
        have hw3h := hd hw3_
        clear hov_ hw2_ hw3_ hcas
        go_wp2_with fail
        refine (nSmallNo _ _ s _ SS.inI hov.out hs2.out).mono ?_
        rintro e w9 ⟨rfl, hb9⟩
        replace hB := old_trans hB hb9
        clear hb9 A B SS
        have hw2 := hw2h.out
        have hw3 := hw3h.out
        have hw4 : ¬ ((m : Int) ≤ (t : Int)) := by omega
        go_wp2
        go_ret
        exact ⟨retB (show true = !decide (m ≤ t) by rw [decide_eq_false (by omega)]; rfl), hB⟩
    · obtain rfl : n = 0 := by omega
      obtain rfl : m = 0 := heq
      rw [cmpI_eq] at C
      have SU := hd (fun a b ca cb w h1 h2 => nSub a b ca cb 0 0 w h1 h2 (by omega) (by omega))
      have AD := hd (fun a b ca cb w h1 h2 => nAdd a b ca cb 0 0 w h1 h2 (by omega) (by omega))
      rw [show (0 : Nat) - 0 = 0 from rfl] at SU
      rw [show (0 : Nat) + 0 = 0 from rfl] at AD
      have SM : Hid (∀ (a : Option Addr) (cap : Nat) (w : World), InI w a (natL 0).length cap (natL 0) → Calls Try.prog 14 #[.slice a (natL 0).length cap] w fun e w' => e = .returned (.tuple #[.int .u64 0, .bool true]) ∧ Below w.heap.size w w') := fun a cap w h => nSmall a cap 0 w h (by omega)
      clear h0
      generalize natL 0 = zl at *
      go_wp2_with fail
      refine C.out.mono ?_
      rintro e w7 ⟨rfl, hb7⟩
      have hB := old_trans hB5 hb7
      replace A := A.later hb7
      replace B := B.later hb7
      clear hB5 hb7 C
      go_wp2_with fail
      refine (SU.out _ _ _ _ _ A.inI B.inI).mono ?_
      rintro e wa ⟨⟨avD, cvD, rfl, DD⟩, hba⟩
      replace hB := old_trans hB hba
      replace A := A.later hba
      replace B := B.later hba
      clear hba
      go_wp2_with fail
      refine (SM.out _ _ _ DD.inI).mono ?_
      rintro e wb ⟨rfl, hbb⟩
      replace hB := old_trans hB hbb
      replace A := A.later hbb
      replace B := B.later hbb
      clear hbb DD
      go_wp2_with fail
      refine (AD.out _ _ _ _ _ A.inI B.inI).mono ?_
      rintro e w8 ⟨⟨avS, cvS, rfl, SS⟩, hb8⟩
      replace hB := old_trans hB hb8
      clear hb8
      go_wp2_with fail
      refine (SM.out _ _ _ SS.inI).mono ?_
      rintro e w9 ⟨rfl, hb9⟩
      replace hB := old_trans hB hb9
      clear hb9 A B SS
      go_wp2
      go_ret
      exact ⟨rfl, hB⟩
  · by_cases h0 : 0 < n
    · skip
      have hl1 : ¬ ((m : Int) < (n : Int)) := by omega
      have hl2 : ((m : Int) == (n : Int)) = false := by simp; omega
      have hl3 : (n : Int) ≤ (m : Int) := by omega
      have hw1 : IntKind.wrap .u64 ((m : Int) - (n : Int)) = ((m - n : Nat) : Int) := by have := hm.out; rw [IntKind.wrap_u64]; omega
      have hq : Hid (m / n < 18446744073709551616) := Nat.lt_of_le_of_lt (Nat.div_le_self _ _) hm.out
      have hr : Hid (m % n < 18446744073709551616) := Nat.lt_of_le_of_lt (Nat.mod_le _ _) hm.out
      have h0' : (0 : Int) < (n : Int) := by omega
      obtain ⟨q, hqe⟩ : ∃ q, q = m / n := ⟨_, rfl⟩
      obtain ⟨r, hre⟩ : ∃ r, r = m % n := ⟨_, rfl⟩
      rw [← hqe] at hq
      rw [← hre] at hr
      have hf1 : (m : Int) / (n : Int) = (q : Int) := by rw [hqe]; rfl
      have hf2 : (m : Int) % (n : Int) = (r : Int) := by rw [hre]; rfl
      have hf3 : Int.tdiv (m : Int) (n : Int) = (q : Int) := by rw [hqe]; rfl
      have hf4 : Int.tmod (m : Int) (n : Int) = (r : Int) := by rw [hre]; rfl
      have DV := hd (fun a b ca cb w h1 h2 => nDiv a b ca cb m n w h1 h2 hm.out hn.out h0)
      rw [← hqe, ← hre] at DV
      clear hqe hre
      have hwq : IntKind.wrap .u64 (q : Int) = (q : Int) := by have := hq.out; rw [IntKind.wrap_u64]; omega
      have hwr : IntKind.wrap .u64 (r : Int) = (r : Int) := by have := hr.out; rw [IntKind.wrap_u64]; omega
      rw [cmpI_gt hgt] at C
      go_wp2_with fail
      refine C.out.mono ?_
      rintro e w7 ⟨rfl, hb7⟩
      have hB := old_trans hB5 hb7
      replace A := A.later hb7
      replace B := B.later hb7
      clear hB5 hb7 C
      go_wp2_with fail
      refine (nSub _ _ _ _ m n _ A.inI B.inI hm.out (by omega)).mono ?_
      rintro e wa ⟨⟨avD, cvD, rfl, DD⟩, hba⟩
      replace hB := old_trans hB hba
      replace A := A.later hba
      replace B := B.later hba
      clear hba
      go_wp2_with fail
      refine (nSmall _ _ (m - n) _ DD.inI (by have := hm.out; omega)).mono ?_
      rintro e wb ⟨rfl, hbb⟩
      replace hB := old_trans hB hbb
      replace A := A.later hbb
      replace B := B.later hbb
      clear hbb DD
      go_wp2_with fail
      refine (DV.out _ _ _ _ _ A.inI B.inI).mono ?_
      rintro e wc ⟨⟨avQ, cvQ, avR, cvR, rfl, QQ, RR⟩, hbc⟩
      replace hB := old_trans hB hbc
      replace A := A.later hbc
      replace B := B.later hbc
      clear hbc
      go_wp2_with fail
      refine (nSmall _ _ q _ QQ.inI hq.out).mono ?_
      rintro e wd ⟨rfl, hbd⟩
      replace hB := old_trans hB hbd
      replace A := A.later hbd
      replace B := B.later hbd
      replace RR := RR.later hbd
      clear hbd
      go_wp2_with fail
      refine (nSmall _ _ r _ RR.inI hr.out).mono ?_
      rintro e we ⟨rfl, hbe⟩
      replace hB := old_trans hB hbe
      replace A := A.later hbe
      replace B := B.later hbe
      clear hbe QQ RR
      obtain ⟨s, hse⟩ : ∃ s, s = m + n := ⟨_, rfl⟩
      have AD := hd (fun a b ca cb w h1 h2 => nAdd a b ca cb m n w h1 h2 hm.out hn.out)
      rw [← hse] at AD
      have hs2 : Hid (s < 36893488147419103232) := by
        show s < 36893488147419103232
        have := hm.out
        have := hn.out
        omega
      have hcas : Hid (s < 18446744073709551616 ∧ IntKind.wrap .u64 ((m : Int) + (n : Int)) = (s : Int) ∧ (m : Int) ≤ (s : Int) ∨ ¬ s < 18446744073709551616 ∧ ∃ t : Nat, IntKind.wrap .u64 ((m : Int) + (n : Int)) = (t : Int) ∧ (t : Int) < (m : Int)) := by
        show _ ∨ _
        have := hm.out
        have := hn.out
        by_cases h : s < 18446744073709551616
        · refine .inl ⟨h, ?_, by omega⟩
          rw [IntKind.wrap_u64]; omega
        · refine .inr ⟨h, s - 18446744073709551616, ?_, by omega⟩
          rw [IntKind.wrap_u64]; omega
      clear hse
      go_wp2_with fail
      refine (AD.out _ _ _ _ _ A.inI B.inI).mono ?_
      rintro e w8 ⟨⟨avS, cvS, rfl, SS⟩, hb8⟩
      replace hB := old_trans hB hb8
      clear hb8 AD
      rcases hcas.out with ⟨hov_, hw2_, hw3_⟩ | ⟨hov_, t, hw2_, hw3_⟩
      · have hov := hd hov_
        have hw2h := hd hw2_
        have hw3h := hd hw3_
        clear hov_ hw2_ hw3_ hcas
        go_wp2_with fail
        refine (nSmall _ _ s _ SS.inI hov.out).mono ?_
        rintro e w9 ⟨rfl, hb9⟩
        replace hB := old_trans hB hb9
        clear hb9 A B SS
        have hw2 := hw2h.out
        have hw3 := hw3h.out
        go_wp2
        go_ret
        exact ⟨rfl, hB⟩
      · have hov := hd hov_
        have hw2h := hd hw2_
        have hw3h := hd hw3_
        clear hov_ hw2_ hw3_ hcas
        go_wp2_with fail
        refine (nSmallNo _ _ s _ SS.inI hov.out hs2.out).mono ?_
        rintro e w9 ⟨rfl, hb9⟩
        replace hB := old_trans hB hb9
        clear hb9 A B SS
        have hw2 := hw2h.out
        have hw3 := hw3h.out
        have hw4 : ¬ ((m : Int) ≤ (t : Int)) := by omega
        go_wp2
        go_ret
        exact ⟨retB (show true = !decide (m ≤ t) by rw [decide_eq_false (by omega)]; rfl), hB⟩
    · skip
      have hl1 : ¬ ((m : Int) < (n : Int)) := by omega
      have hl2 : ((m : Int) == (n : Int)) = false := by simp; omega
      have hl3 : (n : Int) ≤ (m : Int) := by omega
      have hw1 : IntKind.wrap .u64 ((m : Int) - (n : Int)) = ((m - n : Nat) : Int) := by have := hm.out; rw [IntKind.wrap_u64]; omega
      have h0n : ¬ ((0 : Int) < (n : Int)) := by omega
      rw [cmpI_gt hgt] at C
      go_wp2_with fail
      refine C.out.mono ?_
      rintro e w7 ⟨rfl, hb7⟩
      have hB := old_trans hB5 hb7
      replace A := A.later hb7
      replace B := B.later hb7
      clear hB5 hb7 C
      go_wp2_with fail
      refine (nSub _ _ _ _ m n _ A.inI B.inI hm.out (by omega)).mono ?_
      rintro e wa ⟨⟨avD, cvD, rfl, DD⟩, hba⟩
      replace hB := old_trans hB hba
      replace A := A.later hba
      replace B := B.later hba
      clear hba
      go_wp2_with fail
      refine (nSmall _ _ (m - n) _ DD.inI (by have := hm.out; omega)).mono ?_
      rintro e wb ⟨rfl, hbb⟩
      replace hB := old_trans hB hbb
      replace A := A.later hbb
      replace B := B.later hbb
      clear hbb DD
      obtain ⟨s, hse⟩ : ∃ s, s = m + n := ⟨_, rfl⟩
      have AD := hd (fun a b ca cb w h1 h2 => nAdd a b ca cb m n w h1 h2 hm.out hn.out)
      rw [← hse] at AD
      have hs2 : Hid (s < 36893488147419103232) := by
        show s < 36893488147419103232
        have := hm.out
        have := hn.out
        omega
      have hcas : Hid (s < 18446744073709551616 ∧ IntKind.wrap .u64 ((m : Int) + (n : Int)) = (s : Int) ∧ (m : Int) ≤ (s : Int) ∨ ¬ s < 18446744073709551616 ∧ ∃ t : Nat, IntKind.wrap .u64 ((m : Int) + (n : Int)) = (t : Int) ∧ (t : Int) < (m : Int)) := by
        show _ ∨ _
        have := hm.out
        have := hn.out
        by_cases h : s < 18446744073709551616
        · refine .inl ⟨h, ?_, by omega⟩
          rw [IntKind.wrap_u64]; omega
        · refine .inr ⟨h, s - 18446744073709551616, ?_, by omega⟩
          rw [IntKind.wrap_u64]; omega
      clear hse
      go_wp2_with fail
      refine (AD.out _ _ _ _ _ A.inI B.inI).mono ?_
      rintro e w8 ⟨⟨avS, cvS, rfl, SS⟩, hb8⟩
      replace hB := old_trans hB hb8
      clear hb8 AD
      rcases hcas.out with ⟨hov_, hw2_, hw3_⟩ | ⟨hov_, t, hw2_, hw3_⟩
      · have hov := hd hov_
        have hw2h := hd hw2_
        have hw3h := hd hw3_
        clear hov_ hw2_ hw3_ hcas
        go_wp2_with fail
        refine (nSmall _ _ s _ SS.inI hov.out).mono ?_
        rintro e w9 ⟨rfl, hb9⟩
        replace hB := old_trans hB hb9
        clear hb9 A B SS
        have hw2 := hw2h.out
        have hw3 := hw3h.out
        go_wp2
        go_ret
        exact ⟨rfl, hB⟩
      · have hov := hd hov_
        have hw2h := hd hw2_
        have hw3h := hd hw3_
        clear hov_ hw2_ hw3_ hcas
        go_wp2_with fail
        refine (nSmallNo _ _ s _ SS.inI hov.out hs2.out).mono ?_
        rintro e w9 ⟨rfl, hb9⟩
        replace hB := old_trans hB hb9
        clear hb9 A B SS
        have hw2 := hw2h.out
        have hw3 := hw3h.out
        have hw4 : ¬ ((m : Int) ≤ (t : Int)) := by omega
        go_wp2
        go_ret
        exact ⟨retB (show true = !decide (m ≤ t) by rw [decide_eq_false (by omega)]; rfl), hB⟩

set_option maxRecDepth 100000 in
theorem FnNatSmall_lifted (os : Os) (started : os.Started) (H : Type) (enc : TypeId × Value → H) :
    ReturnsInHanded {} Try.checked os 3 .any (Rows.fnNatSmallSpec.pre6 enc Try.prog Try.f3 Rows.fnNatSmallRow.domain false) (Rows.fnNatSmallSpec.post enc Try.prog Try.f3 false true false false) := by
  refine returnsInHanded_of_change (C := Try.checked) FnNatSmall_own started (by kernel_rfl) Try.func3
    (ChangeSpec.witness6 (enc := enc) (C := Try.checked) false ⟨#[], #[.slice none 0 0, .slice none 0 0], []⟩ 8 (by kernel_rfl) (by kernel_rfl) (by kernel_rfl) (by kernel_rfl)) ?_
  intro W base args ds gs before hval0 hW hcnd _
  have hval : ∀ (j : Nat) t v, Try.f3.params[j]? = some t → args[j]? = some v → Value.okWide Try.prog W .any base t v := hval0
  have hW' := hW
  obtain ⟨p, q, hA0, hV, rfl, hfz, hnd⟩ := hW
  have hA : DataW.TrodAll enc Try.prog W 0 (fun _ => true) true Try.f3.params.toList args.toList ds p := hA0
  rw [Try.params3] at hA hval
  obtain ⟨v0, vs0, d0, ds0, p0, q0, hargs, rfl, rfl, h0, r0⟩ := trodAll_cons hA
  obtain ⟨v1, vs1, d1, ds1, p1, q1, rfl, rfl, rfl, h1, r1⟩ := trodAll_cons r0
  obtain ⟨rfl, rfl, rfl⟩ := trodAll_nil r1
  obtain rfl : args = #[v0, v1] := by cases args; simp_all
  obtain ⟨rfl, rfl⟩ := trodVars_none hV
  have k0 := h0
  have lt0 : ∀ x ∈ p0, x.block < W.heap.size := by obtain ⟨m, hm⟩ := k0; exact DataW.trod_lt m _ _ _ hm
  obtain ⟨a0, len0, cap0, rfl, wb0⟩ := open_bytes (hval 0 22 v0 rfl rfl) h0
  have k1 := h1
  have lt1 : ∀ x ∈ p1, x.block < W.heap.size := by obtain ⟨m, hm⟩ := k1; exact DataW.trod_lt m _ _ _ hm
  obtain ⟨a1, len1, cap1, rfl, wb1⟩ := open_bytes (hval 1 22 v1 rfl rfl) h1
  clear hA0 hval0
  refine (FnNatSmall_walk a0 len0 cap0 a1 len1 cap1 W wb0 wb1).mono fun e W' ⟨he, bel⟩ => ?_
  subst he
  exact ⟨_, rfl, _, _, _, [], _, [], hW', trodAll_mk1 (shut_bool Try.underlying4 _), (trodAll_cons_mk (Below.trod jf1 (by kernel_rfl) (of_decide_eq_true (by kernel_rfl)) k0 bel lt0) (trodAll_cons_mk (Below.trod jf1 (by kernel_rfl) (of_decide_eq_true (by kernel_rfl)) k1 bel lt1) trodAll_mk0)), rfl, bel.frame _, fun h => by cases h⟩

theorem FnNatSmall_k0 : (Rows.fnNatSmallRow.wf (OpenSpec.ofChange Rows.fnNatSmallSpec)) = true := by kernel_rfl
theorem FnNatSmall_k3 : (Try.f3.params.all (Try.prog.readableRec ·)) = true := by kernel_rfl
theorem FnNatSmall_k4 : (namedTie Try.prog Rows.fnNatSmallRow.named Rows.fnNatSmallSpec.vars) = true := by kernel_rfl
theorem FnNatSmall_k5 : ((Rows.fnNatSmallRow.stops == [])) = true := by kernel_rfl
theorem FnNatSmall_k7 : ((Rows.fnNatSmallRow.knobs == [])) = true := by kernel_rfl
theorem FnNatSmall_k9 : ((Rows.fnNatSmallRow.inPlace == Try.prog.inPlace 3)) = true := by kernel_rfl
theorem FnNatSmall_k10 : ((Rows.fnNatSmallRow.unfollowed == Try.prog.unfollowed 3)) = true := by kernel_rfl
theorem FnNatSmall_k11 : ((Rows.fnNatSmallRow.recurses == Try.prog.recurses 3)) = true := by kernel_rfl
theorem FnNatSmall_k12 : ((Rows.fnNatSmallRow.named == Try.prog.varsNamed 3)) = true := by kernel_rfl
theorem FnNatSmall_k13 : ((Rows.fnNatSmallRow.maps == (Try.f3.params.toList ++ Rows.fnNatSmallSpec.plain.varTypes Try.prog).any (Try.prog.mapsRec ·))) = true := by kernel_rfl
theorem FnNatSmall_k14 : ((Rows.fnNatSmallRow.ifaces == (Try.f3.params.toList ++ Rows.fnNatSmallSpec.plain.varTypes Try.prog).any (Try.prog.ifacesRec ·))) = true := by kernel_rfl
theorem FnNatSmall_k15 : ((Rows.fnNatSmallRow.mapsOut == Try.prog.mapsAmong Try.f3.resultTypes.toList)) = true := by kernel_rfl
theorem FnNatSmall_k16 : ((Rows.fnNatSmallRow.loops == (Try.f3.params.toList ++ Rows.fnNatSmallSpec.plain.varTypes Try.prog).any (Try.prog.loopsFrom ·))) = true := by kernel_rfl
theorem FnNatSmall_k17 : ((Rows.fnNatSmallRow.wideKeys == (Try.f3.params.toList ++ Rows.fnNatSmallSpec.plain.varTypes Try.prog ++ Try.f3.resultTypes.toList).any (Try.prog.wideKeysFrom ·))) = true := by kernel_rfl
theorem FnNatSmall_k18 : (Rows.fnNatSmallSpec.vars.all (Try.prog.varReadable ·)) = true := by kernel_rfl
theorem FnNatSmall_k19 : (Try.f3.resultTypes.all (fun t => Try.prog.readableRec t && decide (t < Try.prog.types.size))) = true := by kernel_rfl
theorem FnNatSmall_k20 : ((Rows.fnNatSmallRow.ifacesOut == Try.f3.resultTypes.toList.any (Try.prog.ifacesRec ·))) = true := by kernel_rfl
theorem FnNatSmall_k21 : ((Rows.fnNatSmallRow.loopsOut == Try.f3.resultTypes.toList.any (Try.prog.loopsFrom ·))) = true := by kernel_rfl
theorem FnNatSmall_k23 : (Rows.fnNatSmallRow.shortTexts.isNone) = true := by kernel_rfl
theorem FnNatSmall_k28 : ((Rows.fnNatSmallRow.kinds == (if Rows.fnNatSmallRow.domain.isEmpty then [] else Try.f3.params.toList.map fun t => match Try.prog.underlying t with | some (.int k) => some k | _ => none))) = true := by kernel_rfl
theorem FnNatSmall_k29 : ((Rows.fnNatSmallRow.pinned == Rows.fnNatSmallRow.pinnedBy)) = true := by kernel_rfl
theorem FnNatSmall_k30 : ((Rows.fnNatSmallRow.veiled == (Try.f3.params.toList ++ Rows.fnNatSmallSpec.plain.varTypes Try.prog ++ Try.f3.resultTypes.toList).any (Try.prog.veiledRec ·))) = true := by kernel_rfl
theorem FnNatSmall_k31 : (Rows.fnNatSmallRow.veiledFits Try.prog Try.f3.params.toList (Try.f3.params.toList ++ Rows.fnNatSmallSpec.plain.varTypes Try.prog ++ Try.f3.resultTypes.toList)) = true := by kernel_rfl
set_option maxRecDepth 100000 in
theorem FnNatSmall_closed : joinedFacts Try.prog 3 Try.f3 Rows.fnNatSmallSpec Rows.fnNatSmallRow = true := (and2 (and2 (and2 (and2 (and2 (and2 (and2 (and2 (and2 (and2 (and2 (and2 (and2 (and2 (and2 (and2 (and2 (and2 (and2 (and2 (and2 (and2 (and2 (and2 (and2 (and2 (and2 (and2 (and2 (and2 (and2 FnNatSmall_k0 jf1) jf2) FnNatSmall_k3) FnNatSmall_k4) FnNatSmall_k5) jf6) FnNatSmall_k7) jf8) FnNatSmall_k9) FnNatSmall_k10) FnNatSmall_k11) FnNatSmall_k12) FnNatSmall_k13) FnNatSmall_k14) FnNatSmall_k15) FnNatSmall_k16) FnNatSmall_k17) FnNatSmall_k18) FnNatSmall_k19) FnNatSmall_k20) FnNatSmall_k21) jf22) FnNatSmall_k23) jf24) jf25) jf26) jf27) FnNatSmall_k28) FnNatSmall_k29) FnNatSmall_k30) FnNatSmall_k31)
theorem FnNatSmall_over : Rows.fnNatSmallRow.holds Try.pinned (OpenSpec.ofChange Rows.fnNatSmallSpec) :=
  OpenClaim.holds_of_wide 3 Try.f3 rfl rfl rfl rfl rfl rfl rfl ⟨rfl, rfl, rfl, rfl, rfl⟩ rfl rfl rfl rfl rfl (by kernel_rfl) Try.func3 FnNatSmall_closed
    (of_decide_eq_true (by kernel_rfl)) (by unfold Func.isWrapper; first | (rw [if_pos (by decide +kernel)]; kernel_rfl) | (rw [if_neg (by decide +kernel)]; exact ⟨rfl, rfl⟩))
    (fun os started H enc _ => FnNatSmall_lifted os started H enc)

theorem FnNatSmall_proved : Rows.FnNatSmallSaid := FnNatSmall_over
end Go.Proofs.Ytknhkgbmimjibaa
